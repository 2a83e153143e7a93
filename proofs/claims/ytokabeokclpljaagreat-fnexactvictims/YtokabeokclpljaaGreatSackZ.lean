/-
  The leaves in the order in which they come: what the model's QueueOrder answers; a walk over the dump.
-/
import Derived.Test.YtokabeokclpljaaGreatSackW
set_option maxRecDepth 100000
set_option maxHeartbeats 16000000
set_option linter.unusedVariables false
set_option linter.unusedSimpArgs false
namespace Go.Proofs.YtokabeokclpljaaGreat
section
open Go.RowKit Go.Maps
def QOT0 (w1:World) (g n0 cap j:Nat) (NC1 NC2:List Value) (nm:List UInt8) (x0 x1 x2 x4 x7 x8 x9 x10 x11 x12 x13 x14 x15 x16 x17 x18 x19 x20 x21 x22 x23 x24 x25 x26 x27 x28 x29 x30 x31 x32 x33 x34 x35 x36 x37 x38 x39 x40 x41 x45 x47 x48 x52 x53:Value) (n:Nat) (lz:Array Bool) (az:Act) (wz:World):Prop:=(n=6∧lz=#[false,true,true,true,false,true,false,false,true,true,true,false,false]∧az = { tmps:=#[x0,x1,x2,.slice (some ⟨g,0,none⟩) n0 cap,x4,.string (bs nm),.int .i64 (j:Int),x7,x8,x9,x10,x11,x12,x13,x14,x15,x16,x17,x18,x19,x20,x21,x22,x23,x24,x25,x26,x27,x28,x29,x30,x31,x32,x33,x34,x35,x36,x37,x38,x39,x40,x41,.slice (some ⟨g,0,none⟩) n0 cap,.int .i64 (j:Int),.slice (some ⟨g,0,none⟩) j cap,x45,.string (bs nm),x47,x48,.slice (some ⟨g,0,none⟩) n0 cap,.int .i64 (j:Int),.slice (some (hiA g cap j 1)) (n0 - j) (cap - j),x52,x53],defers:=[] }∧Kp w1 wz)
def QOT1 (w1:World) (g n0 cap j:Nat) (NC1 NC2:List Value) (nm:List UInt8) (x0 x1 x2 x4 x7 x8 x9 x10 x11 x12 x13 x14 x15 x16 x17 x18 x19 x20 x21 x22 x23 x24 x25 x26 x27 x28 x29 x30 x31 x32 x33 x34 x35 x36 x37 x38 x39 x40 x41 x45 x47 x48 x52 x53:Value) (n:Nat) (lz:Array Bool) (az:Act) (wz:World):Prop:=(∃gb:Nat,n=5∧lz=#[false,true,true,true,false,true,true,false,true,true,true,false,false]∧az = { tmps:=#[x0,x1,x2,.slice (some ⟨g,0,none⟩) n0 cap,x4,.string (bs nm),.int .i64 (j:Int),x7,x8,x9,x10,x11,x12,x13,x14,x15,x16,x17,x18,x19,x20,x21,x22,x23,x24,x25,x26,x27,x28,x29,x30,x31,x32,x33,x34,x35,x36,x37,x38,x39,x40,x41,.slice (some ⟨g,0,none⟩) n0 cap,.int .i64 (j:Int),.slice (some ⟨g,0,none⟩) j cap,x45,.string (bs nm),.slice (some ⟨gb,0,none⟩) 1 1,x48,.slice (some ⟨g,0,none⟩) n0 cap,.int .i64 (j:Int),.slice (some (hiA g cap j 1)) (n0 - j) (cap - j),x52,x53],defers:=[] }∧IBox 9 w1 wz gb #[Value.string (bs nm)]∧Kp w1 wz)
def QOT2 (w1:World) (g n0 cap j:Nat) (NC1 NC2:List Value) (nm:List UInt8) (x0 x1 x2 x4 x7 x8 x9 x10 x11 x12 x13 x14 x15 x16 x17 x18 x19 x20 x21 x22 x23 x24 x25 x26 x27 x28 x29 x30 x31 x32 x33 x34 x35 x36 x37 x38 x39 x40 x41 x45 x47 x48 x52 x53:Value) (n:Nat) (lz:Array Bool) (az:Act) (wz:World):Prop:=(∃g0:Nat,n=5∧lz=#[true,true,true,true,false,true,false,false,true,true,true,false,false]∧az = { tmps:=#[x0,x1,x2,.slice (some ⟨g,0,none⟩) n0 cap,x4,.string (bs nm),.int .i64 (j:Int),x7,x8,x9,x10,x11,x12,x13,x14,x15,x16,x17,x18,x19,x20,x21,x22,x23,x24,x25,x26,x27,x28,x29,x30,x31,x32,x33,x34,x35,x36,x37,x38,x39,x40,.slice (some ⟨g0,0,none⟩) 0 0,.slice (some ⟨g,0,none⟩) n0 cap,.int .i64 (j:Int),.slice (some ⟨g,0,none⟩) j cap,x45,.string (bs nm),x47,x48,.slice (some ⟨g,0,none⟩) n0 cap,.int .i64 (j:Int),.slice (some (hiA g cap j 1)) (n0 - j) (cap - j),x52,x53],defers:=[] }∧IRow 9 1 w1.heap.size wz (.slice (some ⟨g0,0,none⟩) 0 0) 0 []∧Kp w1 wz)
def QOT3 (w1:World) (g n0 cap j:Nat) (NC1 NC2:List Value) (nm:List UInt8) (x0 x1 x2 x4 x7 x8 x9 x10 x11 x12 x13 x14 x15 x16 x17 x18 x19 x20 x21 x22 x23 x24 x25 x26 x27 x28 x29 x30 x31 x32 x33 x34 x35 x36 x37 x38 x39 x40 x41 x45 x47 x48 x52 x53:Value) (n:Nat) (lz:Array Bool) (az:Act) (wz:World):Prop:=(∃g0:Nat,∃gb:Nat,n=4∧lz=#[true,true,true,true,false,true,true,false,true,true,true,false,false]∧az = { tmps:=#[x0,x1,x2,.slice (some ⟨g,0,none⟩) n0 cap,x4,.string (bs nm),.int .i64 (j:Int),x7,x8,x9,x10,x11,x12,x13,x14,x15,x16,x17,x18,x19,x20,x21,x22,x23,x24,x25,x26,x27,x28,x29,x30,x31,x32,x33,x34,x35,x36,x37,x38,x39,x40,.slice (some ⟨g0,0,none⟩) 0 0,.slice (some ⟨g,0,none⟩) n0 cap,.int .i64 (j:Int),.slice (some ⟨g,0,none⟩) j cap,x45,.string (bs nm),.slice (some ⟨gb,0,none⟩) 1 1,x48,.slice (some ⟨g,0,none⟩) n0 cap,.int .i64 (j:Int),.slice (some (hiA g cap j 1)) (n0 - j) (cap - j),x52,x53],defers:=[] }∧IRow 9 1 w1.heap.size wz (.slice (some ⟨g0,0,none⟩) 0 0) 0 []∧IBox 9 w1 wz gb #[Value.string (bs nm)]∧gb≠g0∧Kp w1 wz)
def QOT4 (w1:World) (g n0 cap j:Nat) (NC1 NC2:List Value) (nm:List UInt8) (x0 x1 x2 x4 x7 x8 x9 x10 x11 x12 x13 x14 x15 x16 x17 x18 x19 x20 x21 x22 x23 x24 x25 x26 x27 x28 x29 x30 x31 x32 x33 x34 x35 x36 x37 x38 x39 x40 x41 x45 x47 x48 x52 x53:Value) (n:Nat) (lz:Array Bool) (az:Act) (wz:World):Prop:=(∃g0:Nat,∃v1:Value,n=4∧lz=#[true,true,true,true,true,true,false,false,true,true,true,false,false]∧az = { tmps:=#[x0,x1,x2,.slice (some ⟨g,0,none⟩) n0 cap,x4,.string (bs nm),.int .i64 (j:Int),x7,x8,x9,x10,x11,x12,x13,x14,x15,x16,x17,x18,x19,x20,x21,x22,x23,x24,x25,x26,x27,x28,x29,x30,x31,x32,x33,x34,x35,x36,x37,x38,x39,x40,.slice (some ⟨g0,0,none⟩) 0 0,.slice (some ⟨g,0,none⟩) n0 cap,.int .i64 (j:Int),.slice (some ⟨g,0,none⟩) j cap,v1,.string (bs nm),x47,x48,.slice (some ⟨g,0,none⟩) n0 cap,.int .i64 (j:Int),.slice (some (hiA g cap j 1)) (n0 - j) (cap - j),x52,x53],defers:=[] }∧IRow 9 1 w1.heap.size wz v1 j NC1∧Kp w1 wz)
def QOT5 (w1:World) (g n0 cap j:Nat) (NC1 NC2:List Value) (nm:List UInt8) (x0 x1 x2 x4 x7 x8 x9 x10 x11 x12 x13 x14 x15 x16 x17 x18 x19 x20 x21 x22 x23 x24 x25 x26 x27 x28 x29 x30 x31 x32 x33 x34 x35 x36 x37 x38 x39 x40 x41 x45 x47 x48 x52 x53:Value) (n:Nat) (lz:Array Bool) (az:Act) (wz:World):Prop:=(∃g0:Nat,∃v1:Value,∃gb:Nat,n=3∧lz=#[true,true,true,true,true,true,true,false,true,true,true,false,false]∧az = { tmps:=#[x0,x1,x2,.slice (some ⟨g,0,none⟩) n0 cap,x4,.string (bs nm),.int .i64 (j:Int),x7,x8,x9,x10,x11,x12,x13,x14,x15,x16,x17,x18,x19,x20,x21,x22,x23,x24,x25,x26,x27,x28,x29,x30,x31,x32,x33,x34,x35,x36,x37,x38,x39,x40,.slice (some ⟨g0,0,none⟩) 0 0,.slice (some ⟨g,0,none⟩) n0 cap,.int .i64 (j:Int),.slice (some ⟨g,0,none⟩) j cap,v1,.string (bs nm),.slice (some ⟨gb,0,none⟩) 1 1,x48,.slice (some ⟨g,0,none⟩) n0 cap,.int .i64 (j:Int),.slice (some (hiA g cap j 1)) (n0 - j) (cap - j),x52,x53],defers:=[] }∧IRow 9 1 w1.heap.size wz v1 j NC1∧IBox 9 w1 wz gb #[Value.string (bs nm)]∧Kp w1 wz)
def QOT6 (w1:World) (g n0 cap j:Nat) (NC1 NC2:List Value) (nm:List UInt8) (x0 x1 x2 x4 x7 x8 x9 x10 x11 x12 x13 x14 x15 x16 x17 x18 x19 x20 x21 x22 x23 x24 x25 x26 x27 x28 x29 x30 x31 x32 x33 x34 x35 x36 x37 x38 x39 x40 x41 x45 x47 x48 x52 x53:Value) (n:Nat) (lz:Array Bool) (az:Act) (wz:World):Prop:=(∃g0:Nat,∃v1:Value,∃gb:Nat,∃v2:Value,n=2∧lz=#[true,true,true,true,true,true,true,true,true,true,true,false,false]∧az = { tmps:=#[x0,x1,x2,.slice (some ⟨g,0,none⟩) n0 cap,x4,.string (bs nm),.int .i64 (j:Int),x7,x8,x9,x10,x11,x12,x13,x14,x15,x16,x17,x18,x19,x20,x21,x22,x23,x24,x25,x26,x27,x28,x29,x30,x31,x32,x33,x34,x35,x36,x37,x38,x39,x40,.slice (some ⟨g0,0,none⟩) 0 0,.slice (some ⟨g,0,none⟩) n0 cap,.int .i64 (j:Int),.slice (some ⟨g,0,none⟩) j cap,v1,.string (bs nm),.slice (some ⟨gb,0,none⟩) 1 1,v2,.slice (some ⟨g,0,none⟩) n0 cap,.int .i64 (j:Int),.slice (some (hiA g cap j 1)) (n0 - j) (cap - j),x52,x53],defers:=[] }∧IRow 9 1 w1.heap.size wz v2 (j+1) (NC1++#[Value.string (bs nm)].toList)∧Kp w1 wz)
def QOT7 (w1:World) (g n0 cap j:Nat) (NC1 NC2:List Value) (nm:List UInt8) (x0 x1 x2 x4 x7 x8 x9 x10 x11 x12 x13 x14 x15 x16 x17 x18 x19 x20 x21 x22 x23 x24 x25 x26 x27 x28 x29 x30 x31 x32 x33 x34 x35 x36 x37 x38 x39 x40 x41 x45 x47 x48 x52 x53:Value) (n:Nat) (lz:Array Bool) (az:Act) (wz:World):Prop:=(∃g0:Nat,∃v1:Value,∃gb:Nat,∃v2:Value,∃v3:Value,n=1∧lz=#[true,true,true,true,true,true,true,true,true,true,true,true,false]∧az = { tmps:=#[x0,x1,x2,.slice (some ⟨g,0,none⟩) n0 cap,x4,.string (bs nm),.int .i64 (j:Int),x7,x8,x9,x10,x11,x12,x13,x14,x15,x16,x17,x18,x19,x20,x21,x22,x23,x24,x25,x26,x27,x28,x29,x30,x31,x32,x33,x34,x35,x36,x37,x38,x39,x40,.slice (some ⟨g0,0,none⟩) 0 0,.slice (some ⟨g,0,none⟩) n0 cap,.int .i64 (j:Int),.slice (some ⟨g,0,none⟩) j cap,v1,.string (bs nm),.slice (some ⟨gb,0,none⟩) 1 1,v2,.slice (some ⟨g,0,none⟩) n0 cap,.int .i64 (j:Int),.slice (some (hiA g cap j 1)) (n0 - j) (cap - j),v3,x53],defers:=[] }∧IRow 9 1 w1.heap.size wz v3 (j+1+(n0 - j)) (NC1++#[Value.string (bs nm)].toList++NC2)∧Kp w1 wz)
def QOT8 (w1:World) (g n0 cap j:Nat) (NC1 NC2:List Value) (nm:List UInt8) (x0 x1 x2 x4 x7 x8 x9 x10 x11 x12 x13 x14 x15 x16 x17 x18 x19 x20 x21 x22 x23 x24 x25 x26 x27 x28 x29 x30 x31 x32 x33 x34 x35 x36 x37 x38 x39 x40 x41 x45 x47 x48 x52 x53:Value) (n:Nat) (lz:Array Bool) (az:Act) (wz:World):Prop:=(∃g0:Nat,∃v1:Value,∃gb:Nat,∃v2:Value,∃v3:Value,n=0∧lz=#[true,true,true,true,true,true,true,true,true,true,true,true,true]∧az = { tmps:=#[x0,x1,x2,v3,x4,.string (bs nm),.int .i64 (j:Int),x7,x8,x9,x10,x11,x12,x13,x14,x15,x16,x17,x18,x19,x20,x21,x22,x23,x24,x25,x26,x27,x28,x29,x30,x31,x32,x33,x34,x35,x36,x37,x38,x39,x40,.slice (some ⟨g0,0,none⟩) 0 0,.slice (some ⟨g,0,none⟩) n0 cap,.int .i64 (j:Int),.slice (some ⟨g,0,none⟩) j cap,v1,.string (bs nm),.slice (some ⟨gb,0,none⟩) 1 1,v2,.slice (some ⟨g,0,none⟩) n0 cap,.int .i64 (j:Int),.slice (some (hiA g cap j 1)) (n0 - j) (cap - j),v3,x53],defers:=[] }∧IRow 9 1 w1.heap.size wz v3 (j+1+(n0 - j)) (NC1++#[Value.string (bs nm)].toList++NC2)∧Kp w1 wz)
def QOT (w1:World) (g n0 cap j:Nat) (NC1 NC2:List Value) (nm:List UInt8) (x0 x1 x2 x4 x7 x8 x9 x10 x11 x12 x13 x14 x15 x16 x17 x18 x19 x20 x21 x22 x23 x24 x25 x26 x27 x28 x29 x30 x31 x32 x33 x34 x35 x36 x37 x38 x39 x40 x41 x45 x47 x48 x52 x53:Value) (n:Nat) (lz:Array Bool) (az:Act) (wz:World):Prop:=QOT0 w1 g n0 cap j NC1 NC2 nm x0 x1 x2 x4 x7 x8 x9 x10 x11 x12 x13 x14 x15 x16 x17 x18 x19 x20 x21 x22 x23 x24 x25 x26 x27 x28 x29 x30 x31 x32 x33 x34 x35 x36 x37 x38 x39 x40 x41 x45 x47 x48 x52 x53 n lz az wz∨QOT1 w1 g n0 cap j NC1 NC2 nm x0 x1 x2 x4 x7 x8 x9 x10 x11 x12 x13 x14 x15 x16 x17 x18 x19 x20 x21 x22 x23 x24 x25 x26 x27 x28 x29 x30 x31 x32 x33 x34 x35 x36 x37 x38 x39 x40 x41 x45 x47 x48 x52 x53 n lz az wz∨QOT2 w1 g n0 cap j NC1 NC2 nm x0 x1 x2 x4 x7 x8 x9 x10 x11 x12 x13 x14 x15 x16 x17 x18 x19 x20 x21 x22 x23 x24 x25 x26 x27 x28 x29 x30 x31 x32 x33 x34 x35 x36 x37 x38 x39 x40 x41 x45 x47 x48 x52 x53 n lz az wz∨QOT3 w1 g n0 cap j NC1 NC2 nm x0 x1 x2 x4 x7 x8 x9 x10 x11 x12 x13 x14 x15 x16 x17 x18 x19 x20 x21 x22 x23 x24 x25 x26 x27 x28 x29 x30 x31 x32 x33 x34 x35 x36 x37 x38 x39 x40 x41 x45 x47 x48 x52 x53 n lz az wz∨QOT4 w1 g n0 cap j NC1 NC2 nm x0 x1 x2 x4 x7 x8 x9 x10 x11 x12 x13 x14 x15 x16 x17 x18 x19 x20 x21 x22 x23 x24 x25 x26 x27 x28 x29 x30 x31 x32 x33 x34 x35 x36 x37 x38 x39 x40 x41 x45 x47 x48 x52 x53 n lz az wz∨QOT5 w1 g n0 cap j NC1 NC2 nm x0 x1 x2 x4 x7 x8 x9 x10 x11 x12 x13 x14 x15 x16 x17 x18 x19 x20 x21 x22 x23 x24 x25 x26 x27 x28 x29 x30 x31 x32 x33 x34 x35 x36 x37 x38 x39 x40 x41 x45 x47 x48 x52 x53 n lz az wz∨QOT6 w1 g n0 cap j NC1 NC2 nm x0 x1 x2 x4 x7 x8 x9 x10 x11 x12 x13 x14 x15 x16 x17 x18 x19 x20 x21 x22 x23 x24 x25 x26 x27 x28 x29 x30 x31 x32 x33 x34 x35 x36 x37 x38 x39 x40 x41 x45 x47 x48 x52 x53 n lz az wz∨QOT7 w1 g n0 cap j NC1 NC2 nm x0 x1 x2 x4 x7 x8 x9 x10 x11 x12 x13 x14 x15 x16 x17 x18 x19 x20 x21 x22 x23 x24 x25 x26 x27 x28 x29 x30 x31 x32 x33 x34 x35 x36 x37 x38 x39 x40 x41 x45 x47 x48 x52 x53 n lz az wz∨QOT8 w1 g n0 cap j NC1 NC2 nm x0 x1 x2 x4 x7 x8 x9 x10 x11 x12 x13 x14 x15 x16 x17 x18 x19 x20 x21 x22 x23 x24 x25 x26 x27 x28 x29 x30 x31 x32 x33 x34 x35 x36 x37 x38 x39 x40 x41 x45 x47 x48 x52 x53 n lz az wz
theorem specQueueOrder_any (x:Sls) (s:St) (w:World) (h:SRow w x s) (hf:FitSt s) :
  Calls Tryz.prog 66 #[sv x s] w fun e w'=>∃v,e=.returned v∧Texts w.heap.size w' v (orderV s)∧Below w.heap.size w w':=by
 obtain ⟨i0,hi,hz0,hz1,hz2⟩:=info_parts Tryz.infoS
 have hql:x.ql≤1048576:=h.ql hf
 have CB:=hide (fun na nb wx (hb:Below w.heap.size w wx)=>before_any x s na nb wx (h.below hb) hf)
 have CL:=hide (fun nm wx (hb:Below w.heap.size w wx)=>specLeaf_any x.qa x.ql x.qc s.qs nm wx (h.1.below hb) hql (fun q hq=>(hf.1.2 q hq).1))
 have HLQ:=hide (show s.qs.length=x.ql from h.1.1.symm)
 have HRQ:=hide h.1
 have HNF:=hide (fun k (hk:k<s.qs.length)=>orderF_step s hk)
 have HNE:=hide (fun k (hk:s.qs.length≤k)=>orderF_end s hk)
 have HN0:=hide (show orderF s 0=[] from rfl)
 clear h hf
 obtain ⟨sV,hsV⟩:∃p,orderV s=p:=⟨_,rfl⟩
 obtain ⟨sF,hsF⟩:∃p,orderF s=p:=⟨_,rfl⟩
 obtain ⟨lf,hlf⟩:∃p,leaf s.qs=p:=⟨_,rfl⟩
 obtain ⟨bf,hbf⟩:∃p,befN s=p:=⟨_,rfl⟩
 rw [hsF,hsV] at HNE
 rw [hsF,hlf,hbf] at HNF
 rw [hsF] at HN0
 rw [hsV]
 rw [hlf] at CL
 rw [hbf] at CB
 clear hsV hsF hlf hbf
 obtain ⟨qa,ql,qc,aa,al,ac,ma,ml,mc,ca,cl,cc⟩:=x
 obtain ⟨qs,clock,epoch,next,serial,apps,ms,cs⟩:=s
 simp only at CB CL hql HLQ HRQ HNF HNE
 have HB1:=hide (yA (yA (yH _ w) (.cells (svc ⟨qa,ql,qc,aa,al,ac,ma,ml,mc,ca,cl,cc⟩ ⟨qs,clock,epoch,next,serial,apps,ms,cs⟩) 36)) (.cells #[] 9))
 have P1:=hide ((yD w (svc ⟨qa,ql,qc,aa,al,ac,ma,ml,mc,ca,cl,cc⟩ ⟨qs,clock,epoch,next,serial,apps,ms,cs⟩) 36).al (.cells #[] 9))
 have S1:=hide (show SS ((w.alloc (.cells (svc ⟨qa,ql,qc,aa,al,ac,ma,ml,mc,ca,cl,cc⟩ ⟨qs,clock,epoch,next,serial,apps,ms,cs⟩) 36)).alloc (.cells #[] 9)) (w.heap.size+1) 0 [] from by have:=sown_empty (w.alloc (.cells (svc ⟨qa,ql,qc,aa,al,ac,ma,ml,mc,ca,cl,cc⟩ ⟨qs,clock,epoch,next,serial,apps,ms,cs⟩) 36));rw [yE] at this;exact this)
 obtain ⟨w1,hw1⟩:∃W,(w.alloc (.cells (svc ⟨qa,ql,qc,aa,al,ac,ma,ml,mc,ca,cl,cc⟩ ⟨qs,clock,epoch,next,serial,apps,ms,cs⟩) 36)).alloc (.cells #[] 9)=W:=⟨_,rfl⟩
 rw [hw1] at HB1 P1 S1
 have HW1:=hide hw1
 clear hw1
 go_enter Tryz.func66,Tryz.ntmps66
 go_wp2
 rw [uH HW1]
 go_loopw [3,4,5,6] (fun v i _ _ wr=>∃(k g cap:Nat) (o:List (List UInt8)),k≤ql∧i=.int .i64 k∧v=.slice (some ⟨g,0,none⟩) o.length cap∧o.length≤k∧w.heap.size<g∧Hid (o=sF k)∧Hid (SS wr g cap (o.map bs))∧Hid (Below w1.heap.size w1 wr)) (fun _ i _ _ _=>ql - (intOf i).toNat)
 case atStart=>exact ⟨0,w.heap.size+1,0,[],Nat.zero_le _,rfl,rfl,yJ _,by omega,hide (uH HN0).symm,S1,hide (yH _ _)⟩
 case round=>
  obtain ⟨k,g,cap,o,hk,rfl,rfl,hol,hgg,HO,HW,HB⟩:=hrel
  have HB2:=hide (yB (uH HB1) (uH HB))
  have P2:=hide ((uH P1).below (uH HB))
  obtain ⟨q0,q1,q2,q3,q4,q5,q6,q7⟩:_∧_∧_∧_∧_∧_∧_∧_:=⟨(uH P2).at 0,(uH P2).at 1,(uH P2).at 2,(uH P2).at 3,(uH P2).at 4,(uH P2).at 5,(uH P2).at 6,(uH P2).at 7⟩
  simp at q0 q1 q2 q3 q4 q5 q6 q7
  by_cases hlt:k<ql
  ·have HR2:=hide ((uH HRQ).below (uH HB2))
   obtain ⟨b,off,rfl,hq⟩:=(uH HR2).at hlt
   have hkl:k<qs.length:=by have:=uH HLQ;omega
   have hc0:=(hq hkl).1
   have hnf:=uH HNF k hkl
   obtain ⟨nm,hnm⟩:∃nm,qs[k].name=nm:=⟨_,rfl⟩
   rw [hnm] at hc0 hnf
   obtain ⟨le,hle⟩:∃t,lf nm=t:=⟨_,rfl⟩
   rw [hle] at hnf
   have HNK:=hide hnf
   have CL1:=hide (fun wx hb=>by have:=uH CL nm wx hb;rw [hle] at this;exact this)
   try simp only at CL1
   clear hnm hle hnf hq hkl HR2
   go_wp2_with fail
   refine (uH CL1 _ (uH HB2)).mono ?_
   rintro e w5 ⟨rfl,hb⟩
   have HW5:=hide ((uH HW).below hb (uH HW).lt)
   have HL5:=hide (yB (uH HB) hb)
   have P5:=hide ((uH P2).below hb)
   clear hb HW HB HB2 P2 CL1 q0 q1 q2 q3 q4 q5 q6 q7 hc0
   cases le
   case false=>
    go_wp2
    go_roundw
    case rel=>exact ⟨k+1,g,cap,o,by omega,by go_num,rfl,by omega,hgg,hide (by rw [uH HNK,if_neg (by simp)];exact uH HO),HW5,HL5⟩
    case measure=>simp [intOf];omega
   case true=>
    have HP:=hide (show OrdM.ins bf nm o=sF (k+1) by rw [uH HNK,if_pos rfl,←uH HO])
    go_wp2
    go_loopw [6] (fun i wr2=>∃j:Nat,j≤o.length∧i=.int .i64 j∧Hid (j+place1 bf nm (o.drop j)=place1 bf nm o)∧Hid (Below w5.heap.size w5 wr2)) (fun i _=>o.length - (intOf i).toNat)
    case atStart=>exact ⟨0,Nat.zero_le _,rfl,hide (by simp),hide (yH _ _)⟩
    case round=>
     obtain ⟨j,hj,rfl,HJ,HK6⟩:=hrel
     obtain ⟨w6,rfl⟩:∃w6,w6=wr:=⟨wr,rfl⟩
     have HW6:=hide ((uH HW5).below (uH HK6) (uH HW5).lt)
     have HL6:=hide (yB (uH HL5) (uH HK6))
     have P6:=hide ((uH P5).below (uH HK6))
     have HB6a:=hide (yB (uH HB1) (uH HL6))
     by_cases hjl:j<o.length
     ·have hcj:=(uH HW6).text hjl
      have hps:=place1_step bf nm hjl
      obtain ⟨y,hy⟩:∃y,o[j]=y:=⟨_,rfl⟩
      rw [hy] at hcj hps
      obtain ⟨bl,hbl⟩:∃b,bf y nm=b:=⟨_,rfl⟩
      rw [hbl] at hps
      have HPS2:=hide hps
      have CB1:=hide (fun wx hb=>by have:=uH CB y nm wx hb;rw [hbl] at this;exact this)
      try simp only at CB1
      have R:∀wx,Kp w6 wx→wx.cell? ⟨w.heap.size,0,none⟩=some (.slice (some ⟨b,off,none⟩) ql qc)∧wx.cell? ⟨w.heap.size,1,none⟩=some (.int .i64 clock)∧wx.cell? ⟨w.heap.size,2,none⟩=some (.int .i64 epoch)∧wx.cell? ⟨w.heap.size,3,none⟩=some (.int .i64 next)∧wx.cell? ⟨w.heap.size,4,none⟩=some (.int .i64 serial)∧wx.cell? ⟨w.heap.size,5,none⟩=some (.slice aa al ac)∧wx.cell? ⟨w.heap.size,6,none⟩=some (.slice ma ml mc)∧wx.cell? ⟨w.heap.size,7,none⟩=some (.slice ca cl cc)∧wx.cell? ⟨g,j,none⟩=some (.string (bs y)):=fun wx h=>by
       obtain ⟨a0,a1,a2,a3,a4,a5,a6,a7⟩:=zq (uH P6)
       exact ⟨h.cell a0,h.cell a1,h.cell a2,h.cell a3,h.cell a4,h.cell a5,h.cell a6,h.cell a7,h.cell hcj⟩
      have hjz:(j:Int)<(o.length:Int):=by omega
      have A6:=hide (Kp.new w6)
      clear hps hy hbl hcj
      go_wp2_with fail
      go_region_held3 (fun wx=>Kp w6 wx)
       (first | (with_reducible assumption) | exact (uH A6) | exact Below.drew (uH A6) | exact Below.drew (by assumption))
       (first
       | (go_at_call 111;refine (uH CB1 _ ?_).mono ?_;(exact yB (uH HB6a) (show Kp w6 _ by assumption));rintro e w7 ⟨rfl,hb⟩;have SA:Kp w6 w7:=yB (show Kp w6 _ by assumption) hb))
      all_goals
       have HK7:=hide (yB (uH HK6) SA)
       have HW7:=hide ((uH HW6).below SA (uH HW6).lt)
       have HL7:=hide (yB (uH HL6) SA)
       clear SA R A6 CB1 HW6 HL6 P6 HB6a HK6
       cases bl
       ·have HAT:=hide (show place1 bf nm o=j by have:=uH HPS2;have:=uH HJ;simp at *;omega)
        clear HJ HPS2 HK7
        go_wp2_with fail
        have hlo:=cutS_lo g o.length cap j (by have:=(uH HW7).block;obtain ⟨_,_,h,_⟩:=this;rw [List.length_map] at h;omega)
        have hhi:=cutS_hi g o.length cap j hj
        obtain ⟨NC1,hc1⟩:∃c,((o.map bs).take j).map Value.string=c:=⟨_,rfl⟩
        obtain ⟨NC2,hc2⟩:∃c,((o.map bs).drop j).map Value.string=c:=⟨_,rfl⟩
        have HLO:=hide (show ∀wx:World,Kp w7 wx→∀i u,NC1[i]? = some u→wx.cell? (Addr.add ⟨g,0,none⟩ i)=some u from fun wx hb i u hu=>(uH HW7).lo hb j i u (by rw [hc1];exact hu))
        have HHI:=hide (show ∀wx:World,Kp w7 wx→∀i u,NC2[i]? = some u→wx.cell? (Addr.add (hiA g cap j 1) i)=some u from fun wx hb i u hu=>(uH HW7).hi hb j i u (by rw [hc2];exact hu))
        have HL1:=hide (show NC1.length=j*1 by rw [←hc1];simp;omega)
        have HL2:=hide (show NC2.length=(o.length - j)*1 by rw [←hc2];simp)
        have HO1:=hide (show ∀u ∈ NC1,u.oneCell'=true by rw [←hc1];exact one_strings _)
        have HO2:=hide (show ∀u ∈ NC2,u.oneCell'=true by rw [←hc2];exact one_strings _)
        have HOX:=hide (show ∀u ∈ #[Value.string (bs nm)].toList,u.oneCell'=true from fun u hu=>by simp at hu;subst hu;rfl)
        have HC1:=hide hc1.symm
        have HC2:=hide hc2.symm
        have A0:=hide (Kp.new w7)
        have HS:=hide (kp_holds w7)
        have HB6:=hide (yB (uH HB1) (uH HL7))
        clear hc1 hc2
        refine wp_region_held_drew (S:=fun wx=>Kp w7 wx) (by kernel_rfl) ((uH HS).drew (uH A0)) (fun S0=>?_)
        refine tW 1 42 _ S0 ?_
        try simp only [zW]
        refine tW 2 43 _ S0 ?_
        try simp only [zW]
        refine takeD (i:=3) (d:=some 44) (v:=.slice (some ⟨g,0,none⟩) j cap) rfl rfl (by kernel_rfl) (by kernel_rfl) (by kernel_rfl) (fun _ _ _ h=>h) (Or.inl ⟨by rfl,fun wz hz=>by (go_simp;try with_reducible rfl)⟩) S0 ?_
        try simp only [zW]
        refine tW 5 46 _ S0 ?_
        try simp only [zW]
        refine tW 8 49 _ S0 ?_
        try simp only [zW]
        refine tW 9 50 _ S0 ?_
        try simp only [zW]
        refine takeD (i:=10) (d:=some 51) (v:=.slice (some (hiA g cap j 1)) (o.length - j) (cap - j)) rfl rfl (by kernel_rfl) (by kernel_rfl) (by kernel_rfl) (fun _ _ _ h=>h) (Or.inl ⟨by rfl,fun wz hz=>by (go_simp;try with_reducible rfl)⟩) S0 ?_
        try simp only [zW]
        refine wpAnyH_inv (QOT w7 g o.length cap j NC1 NC2 nm _ _ _ _ _ _ _ _ _ _ _ _ _ _ _ _ _ _ _ _ _ _ _ _ _ _ _ _ _ _ _ _ _ _ _ _ _ _ _ _ _ _ _ _) ?step ?fin 6 _ _ _ (.inl (⟨rfl,by kernel_rfl,rfl,S0⟩))
        case fin=>
         intro lz az wz hI
         rcases hI with h | h | h | h | h | h | h | h | h
         ·obtain ⟨hn,_⟩:=h
          cases hn
         ·obtain ⟨_,hn,_⟩:=h
          cases hn
         ·obtain ⟨_,hn,_⟩:=h
          cases hn
         ·obtain ⟨_,_,hn,_⟩:=h
          cases hn
         ·obtain ⟨_,_,hn,_⟩:=h
          cases hn
         ·obtain ⟨_,_,_,hn,_⟩:=h
          cases hn
         ·obtain ⟨_,_,_,_,hn,_⟩:=h
          cases hn
         ·obtain ⟨_,_,_,_,_,hn,_⟩:=h
          cases hn
         ·obtain ⟨g0,v1,gb,v2,v3,-,rfl,rfl,hr,kp⟩:=h
          refine ⟨by kernel_rfl,?_⟩
          obtain ⟨g2,cap2,rfl,hg2,hown,hc2⟩:=hr.open
          have HN2:=hide (show OrdM.ins bf nm o=o.take j++nm::o.drop j by rw [ins_place,uH HAT])
          have hlen2:(o.take j++nm::o.drop j).length=j+1+(o.length - j):=by simp;omega
          have HW9:=hide (show SS wz g2 cap2 ((o.take j++nm::o.drop j).map bs) by
           unfold SS
           rw [List.length_map,hlen2]
           have e:((o.take j++nm::o.drop j).map bs).map Value.string=NC1++[Value.string (bs nm)]++NC2:=by rw [uH HC1,uH HC2];simp
           rw [e]
           exact hown)
          have HL9:=hide (yB (uH HL7) kp)
          have hg3:w.heap.size<g2:=by have:=(uH HB6).size;have:=(uH HW7).lt;omega
          clear hown hr kp
          go_wp2
          go_roundw
          case rel=>exact ⟨k+1,g2,cap2,o.take j++nm::o.drop j,by omega,by go_num,by rw [hlen2],by rw [hlen2];omega,hg3,hide (by rw [←uH HP,uH HN2]),HW9,HL9⟩
          case measure=>simp [intOf];omega
        case step=>
         intro n lz az wz hI
         rcases hI with h | h | h | h | h | h | h | h | h
         ·obtain ⟨hn,rfl,rfl,kp⟩:=h
          obtain rfl:n=5:=by omega
          refine ready_step (rs:=[0,6]) (by kernel_rfl) (by simp) ?_
          refine AllReadyI.cons rfl (fun K hK=>?_) ?_
          ·go_simp
           go_wp2_with fail
           exact hK.out _ _ (yA kp _) (.inr (.inr (.inl (⟨wz.heap.size,rfl,rfl,rfl,irow_new kp,yA kp _⟩))))
          refine AllReadyI.cons rfl (fun K hK=>?_) ?_
          ·go_simp
           go_wp2_with fail
           exact hK.out _ _ (yA kp _) (.inr (.inl (⟨wz.heap.size,rfl,rfl,rfl,ibox_new kp _,yA kp _⟩)))
          exact AllReadyI.nil
         ·obtain ⟨gb,hn,rfl,rfl,hbx,kp⟩:=h
          obtain rfl:n=4:=by omega
          refine ready_step (rs:=[0]) (by kernel_rfl) (by simp) ?_
          refine AllReadyI.cons rfl (fun K hK=>?_) ?_
          ·go_simp
           go_wp2_with fail
           exact hK.out _ _ (yA kp _) (.inr (.inr (.inr (.inl (⟨wz.heap.size,gb,rfl,rfl,rfl,irow_new kp,hbx.al _,Nat.ne_of_lt hbx.lt,yA kp _⟩)))))
          exact AllReadyI.nil
         ·obtain ⟨g0,hn,rfl,rfl,hr,kp⟩:=h
          obtain rfl:n=4:=by omega
          refine ready_step (rs:=[4,6]) (by kernel_rfl) (by simp) ?_
          refine AllReadyI.cons rfl (fun K hK=>?_) ?_
          ·refine ins_app (w1:=w7) rfl (.tmp 41) (.tmp 44) 49 rfl 9 i0 (.string ByteArray.empty) 1 16 Tryz.underlying49 hi hz0 hz1 hz2 rfl (by decide) (.slice (some ⟨g0,0,none⟩) 0 0) 0 [] rfl hr kp ⟨g,0,none⟩ j cap NC1 rfl (uH HL1) (fun i u hu=>uH HLO _ kp i u hu) (uH HO1) (by unfold maxLen;omega) (by omega) ?_
           intro v1 wz2 hr2 kp2 hsame
           try simp only [zW]
           exact hK.out _ _ kp2 (.inr (.inr (.inr (.inr (.inl (⟨g0,v1,rfl,by kernel_rfl,rfl,owns_re hr2 (by omega) (List.nil_append _),kp2⟩))))))
          refine AllReadyI.cons rfl (fun K hK=>?_) ?_
          ·go_simp
           go_wp2_with fail
           exact hK.out _ _ (yA kp _) (.inr (.inr (.inr (.inl (⟨g0,wz.heap.size,rfl,rfl,rfl,hr.al _,ibox_new kp _,(Nat.ne_of_gt (by obtain ⟨q,q2,q3,q4,q5,q6⟩:=hr.open;cases q3;exact (World.ownsRow.lt q5 g0 rfl).2)),yA kp _⟩)))))
          exact AllReadyI.nil
         ·obtain ⟨g0,gb,hn,rfl,rfl,hr,hbx,hne,kp⟩:=h
          obtain rfl:n=3:=by omega
          refine ready_step (rs:=[4]) (by kernel_rfl) (by simp) ?_
          refine AllReadyI.cons rfl (fun K hK=>?_) ?_
          ·refine ins_app (w1:=w7) rfl (.tmp 41) (.tmp 44) 49 rfl 9 i0 (.string ByteArray.empty) 1 16 Tryz.underlying49 hi hz0 hz1 hz2 rfl (by decide) (.slice (some ⟨g0,0,none⟩) 0 0) 0 [] rfl hr kp ⟨g,0,none⟩ j cap NC1 rfl (uH HL1) (fun i u hu=>uH HLO _ kp i u hu) (uH HO1) (by unfold maxLen;omega) (by omega) ?_
           intro v1 wz2 hr2 kp2 hsame
           try simp only [zW]
           exact hK.out _ _ kp2 (.inr (.inr (.inr (.inr (.inr (.inl (⟨g0,v1,gb,rfl,by kernel_rfl,rfl,owns_re hr2 (by omega) (List.nil_append _),hbx.same (hsame gb hbx.lt (by simp [Value.ownBlock];omega)),kp2⟩)))))))
          exact AllReadyI.nil
         ·obtain ⟨g0,v1,hn,rfl,rfl,hr,kp⟩:=h
          obtain rfl:n=3:=by omega
          refine ready_step (rs:=[6]) (by kernel_rfl) (by simp) ?_
          refine AllReadyI.cons rfl (fun K hK=>?_) ?_
          ·go_simp
           go_wp2_with fail
           exact hK.out _ _ (yA kp _) (.inr (.inr (.inr (.inr (.inr (.inl (⟨g0,v1,wz.heap.size,rfl,rfl,rfl,hr.al _,ibox_new kp _,yA kp _⟩)))))))
          exact AllReadyI.nil
         ·obtain ⟨g0,v1,gb,hn,rfl,rfl,hr,hbx,kp⟩:=h
          obtain rfl:n=2:=by omega
          refine ready_step (rs:=[7]) (by kernel_rfl) (by simp) ?_
          refine AllReadyI.cons rfl (fun K hK=>?_) ?_
          ·refine ins_app (w1:=w7) rfl (.tmp 45) (.tmp 47) 49 rfl 9 i0 (.string ByteArray.empty) 1 16 Tryz.underlying49 hi hz0 hz1 hz2 rfl (by decide) v1 j NC1 rfl hr kp ⟨gb,0,none⟩ 1 1 #[Value.string (bs nm)].toList rfl (by rfl) hbx.news (uH HOX) (by unfold maxLen;omega) (by omega) ?_
           intro v2 wz2 hr2 kp2 hsame
           try simp only [zW]
           exact hK.out _ _ kp2 (.inr (.inr (.inr (.inr (.inr (.inr (.inl (⟨g0,v1,gb,v2,rfl,by kernel_rfl,rfl,hr2,kp2⟩))))))))
          exact AllReadyI.nil
         ·obtain ⟨g0,v1,gb,v2,hn,rfl,rfl,hr,kp⟩:=h
          obtain rfl:n=1:=by omega
          refine ready_step (rs:=[11]) (by kernel_rfl) (by simp) ?_
          refine AllReadyI.cons rfl (fun K hK=>?_) ?_
          ·refine ins_app (w1:=w7) rfl (.tmp 48) (.tmp 51) 49 rfl 9 i0 (.string ByteArray.empty) 1 16 Tryz.underlying49 hi hz0 hz1 hz2 rfl (by decide) v2 (j+1) (NC1++#[Value.string (bs nm)].toList) rfl hr kp (hiA g cap j 1) (o.length - j) (cap - j) NC2 rfl (uH HL2) (fun i u hu=>uH HHI _ kp i u hu) (uH HO2) (by unfold maxLen;omega) (by omega) ?_
           intro v3 wz2 hr2 kp2 hsame
           try simp only [zW]
           exact hK.out _ _ kp2 (.inr (.inr (.inr (.inr (.inr (.inr (.inr (.inl (⟨g0,v1,gb,v2,v3,rfl,by kernel_rfl,rfl,hr2,kp2⟩)))))))))
          exact AllReadyI.nil
         ·obtain ⟨g0,v1,gb,v2,v3,hn,rfl,rfl,hr,kp⟩:=h
          obtain rfl:n=0:=by omega
          refine ready_step (rs:=[12]) (by kernel_rfl) (by simp) ?_
          refine AllReadyI.cons rfl (fun K hK=>?_) ?_
          ·go_simp
           go_wp2_with fail
           exact hK.out _ _ kp (.inr (.inr (.inr (.inr (.inr (.inr (.inr (.inr (⟨g0,v1,gb,v2,v3,rfl,rfl,rfl,hr,kp⟩)))))))))
          exact AllReadyI.nil
         ·obtain ⟨_,_,_,_,_,hn,_⟩:=h
          cases hn
       ·go_wp2
        go_roundw
        case rel=>exact ⟨j+1,by omega,by go_num,hide (by have:=uH HPS2;have:=uH HJ;simp at *;omega),HK7⟩
        case measure=>simp [intOf];omega
     ·have HAT:=hide (show place1 bf nm o=j by have:=place1_end bf nm (l:=o) (k:=j) (by omega);have:=uH HJ;omega)
      have hjn:¬(j:Int)<(o.length:Int):=by omega
      clear HJ
      go_wp2_with fail
      refine wp_region_held_drew (S:=fun wx=>Kp w6 wx) (by kernel_rfl) ((kp_holds w6).drew (Kp.new w6)) (fun S0=>?_)
      refine tW 0 26 _ S0 ?_
      try simp only [zW]
      refine tW 1 27 _ S0 ?_
      try simp only [zW]
      refine tW 2 28 _ S0 ?_
      try simp only [zW]
      refine tW 3 29 _ S0 ?_
      try simp only [zW]
      refine tW 4 30 _ S0 ?_
      try simp only [zW]
      refine tU 5 31 S0 ?_
      try simp only [zW]
      refine tU 6 32 S0 ?_
      try simp only [zW]
      refine tU 7 33 S0 ?_
      try simp only [zW]
      refine tU 8 34 S0 ?_
      try simp only [zW]
      refine tU 9 35 S0 ?_
      try simp only [zW]
      refine tU 10 36 S0 ?_
      try simp only [zW]
      refine tU 11 37 S0 ?_
      try simp only [zW]
      refine tW 12 38 _ S0 ?_
      try simp only [zW]
      refine wpAnyH_done (by kernel_rfl) ?_ _
      have HW7:=hide ((uH HW6).below (yH _ _).drew (uH HW6).lt)
      have HL7:=hide (uH HL6).drew
      obtain ⟨w7,hw7⟩:∃w7,w6.drew=w7:=⟨_,rfl⟩
      rw [hw7] at HW7 HL7
      rw [hw7]
      clear hw7 HW6 HL6 P6 HB6a HK6
      go_wp2_with fail
      have hlo:=cutS_lo g o.length cap j (by have:=(uH HW7).block;obtain ⟨_,_,h,_⟩:=this;rw [List.length_map] at h;omega)
      have hhi:=cutS_hi g o.length cap j hj
      obtain ⟨NC1,hc1⟩:∃c,((o.map bs).take j).map Value.string=c:=⟨_,rfl⟩
      obtain ⟨NC2,hc2⟩:∃c,((o.map bs).drop j).map Value.string=c:=⟨_,rfl⟩
      have HLO:=hide (show ∀wx:World,Kp w7 wx→∀i u,NC1[i]? = some u→wx.cell? (Addr.add ⟨g,0,none⟩ i)=some u from fun wx hb i u hu=>(uH HW7).lo hb j i u (by rw [hc1];exact hu))
      have HHI:=hide (show ∀wx:World,Kp w7 wx→∀i u,NC2[i]? = some u→wx.cell? (Addr.add (hiA g cap j 1) i)=some u from fun wx hb i u hu=>(uH HW7).hi hb j i u (by rw [hc2];exact hu))
      have HL1:=hide (show NC1.length=j*1 by rw [←hc1];simp;omega)
      have HL2:=hide (show NC2.length=(o.length - j)*1 by rw [←hc2];simp)
      have HO1:=hide (show ∀u ∈ NC1,u.oneCell'=true by rw [←hc1];exact one_strings _)
      have HO2:=hide (show ∀u ∈ NC2,u.oneCell'=true by rw [←hc2];exact one_strings _)
      have HOX:=hide (show ∀u ∈ #[Value.string (bs nm)].toList,u.oneCell'=true from fun u hu=>by simp at hu;subst hu;rfl)
      have HC1:=hide hc1.symm
      have HC2:=hide hc2.symm
      have A0:=hide (Kp.new w7)
      have HS:=hide (kp_holds w7)
      have HB6:=hide (yB (uH HB1) (uH HL7))
      clear hc1 hc2
      refine wp_region_held_drew (S:=fun wx=>Kp w7 wx) (by kernel_rfl) ((uH HS).drew (uH A0)) (fun S0=>?_)
      refine tW 1 42 _ S0 ?_
      try simp only [zW]
      refine tW 2 43 _ S0 ?_
      try simp only [zW]
      refine takeD (i:=3) (d:=some 44) (v:=.slice (some ⟨g,0,none⟩) j cap) rfl rfl (by kernel_rfl) (by kernel_rfl) (by kernel_rfl) (fun _ _ _ h=>h) (Or.inl ⟨by rfl,fun wz hz=>by (go_simp;try with_reducible rfl)⟩) S0 ?_
      try simp only [zW]
      refine tW 5 46 _ S0 ?_
      try simp only [zW]
      refine tW 8 49 _ S0 ?_
      try simp only [zW]
      refine tW 9 50 _ S0 ?_
      try simp only [zW]
      refine takeD (i:=10) (d:=some 51) (v:=.slice (some (hiA g cap j 1)) (o.length - j) (cap - j)) rfl rfl (by kernel_rfl) (by kernel_rfl) (by kernel_rfl) (fun _ _ _ h=>h) (Or.inl ⟨by rfl,fun wz hz=>by (go_simp;try with_reducible rfl)⟩) S0 ?_
      try simp only [zW]
      refine wpAnyH_inv (QOT w7 g o.length cap j NC1 NC2 nm _ _ _ _ _ _ _ _ _ _ _ _ _ _ _ _ _ _ _ _ _ _ _ _ _ _ _ _ _ _ _ _ _ _ _ _ _ _ _ _ _ _ _ _) ?step ?fin 6 _ _ _ (.inl (⟨rfl,by kernel_rfl,rfl,S0⟩))
      case fin=>
       intro lz az wz hI
       rcases hI with h | h | h | h | h | h | h | h | h
       ·obtain ⟨hn,_⟩:=h
        cases hn
       ·obtain ⟨_,hn,_⟩:=h
        cases hn
       ·obtain ⟨_,hn,_⟩:=h
        cases hn
       ·obtain ⟨_,_,hn,_⟩:=h
        cases hn
       ·obtain ⟨_,_,hn,_⟩:=h
        cases hn
       ·obtain ⟨_,_,_,hn,_⟩:=h
        cases hn
       ·obtain ⟨_,_,_,_,hn,_⟩:=h
        cases hn
       ·obtain ⟨_,_,_,_,_,hn,_⟩:=h
        cases hn
       ·obtain ⟨g0,v1,gb,v2,v3,-,rfl,rfl,hr,kp⟩:=h
        refine ⟨by kernel_rfl,?_⟩
        obtain ⟨g2,cap2,rfl,hg2,hown,hc2⟩:=hr.open
        have HN2:=hide (show OrdM.ins bf nm o=o.take j++nm::o.drop j by rw [ins_place,uH HAT])
        have hlen2:(o.take j++nm::o.drop j).length=j+1+(o.length - j):=by simp;omega
        have HW9:=hide (show SS wz g2 cap2 ((o.take j++nm::o.drop j).map bs) by
         unfold SS
         rw [List.length_map,hlen2]
         have e:((o.take j++nm::o.drop j).map bs).map Value.string=NC1++[Value.string (bs nm)]++NC2:=by rw [uH HC1,uH HC2];simp
         rw [e]
         exact hown)
        have HL9:=hide (yB (uH HL7) kp)
        have hg3:w.heap.size<g2:=by have:=(uH HB6).size;have:=(uH HW7).lt;omega
        clear hown hr kp
        go_wp2
        go_roundw
        case rel=>exact ⟨k+1,g2,cap2,o.take j++nm::o.drop j,by omega,by go_num,by rw [hlen2],by rw [hlen2];omega,hg3,hide (by rw [←uH HP,uH HN2]),HW9,HL9⟩
        case measure=>simp [intOf];omega
      case step=>
       intro n lz az wz hI
       rcases hI with h | h | h | h | h | h | h | h | h
       ·obtain ⟨hn,rfl,rfl,kp⟩:=h
        obtain rfl:n=5:=by omega
        refine ready_step (rs:=[0,6]) (by kernel_rfl) (by simp) ?_
        refine AllReadyI.cons rfl (fun K hK=>?_) ?_
        ·go_simp
         go_wp2_with fail
         exact hK.out _ _ (yA kp _) (.inr (.inr (.inl (⟨wz.heap.size,rfl,rfl,rfl,irow_new kp,yA kp _⟩))))
        refine AllReadyI.cons rfl (fun K hK=>?_) ?_
        ·go_simp
         go_wp2_with fail
         exact hK.out _ _ (yA kp _) (.inr (.inl (⟨wz.heap.size,rfl,rfl,rfl,ibox_new kp _,yA kp _⟩)))
        exact AllReadyI.nil
       ·obtain ⟨gb,hn,rfl,rfl,hbx,kp⟩:=h
        obtain rfl:n=4:=by omega
        refine ready_step (rs:=[0]) (by kernel_rfl) (by simp) ?_
        refine AllReadyI.cons rfl (fun K hK=>?_) ?_
        ·go_simp
         go_wp2_with fail
         exact hK.out _ _ (yA kp _) (.inr (.inr (.inr (.inl (⟨wz.heap.size,gb,rfl,rfl,rfl,irow_new kp,hbx.al _,Nat.ne_of_lt hbx.lt,yA kp _⟩)))))
        exact AllReadyI.nil
       ·obtain ⟨g0,hn,rfl,rfl,hr,kp⟩:=h
        obtain rfl:n=4:=by omega
        refine ready_step (rs:=[4,6]) (by kernel_rfl) (by simp) ?_
        refine AllReadyI.cons rfl (fun K hK=>?_) ?_
        ·refine ins_app (w1:=w7) rfl (.tmp 41) (.tmp 44) 49 rfl 9 i0 (.string ByteArray.empty) 1 16 Tryz.underlying49 hi hz0 hz1 hz2 rfl (by decide) (.slice (some ⟨g0,0,none⟩) 0 0) 0 [] rfl hr kp ⟨g,0,none⟩ j cap NC1 rfl (uH HL1) (fun i u hu=>uH HLO _ kp i u hu) (uH HO1) (by unfold maxLen;omega) (by omega) ?_
         intro v1 wz2 hr2 kp2 hsame
         try simp only [zW]
         exact hK.out _ _ kp2 (.inr (.inr (.inr (.inr (.inl (⟨g0,v1,rfl,by kernel_rfl,rfl,owns_re hr2 (by omega) (List.nil_append _),kp2⟩))))))
        refine AllReadyI.cons rfl (fun K hK=>?_) ?_
        ·go_simp
         go_wp2_with fail
         exact hK.out _ _ (yA kp _) (.inr (.inr (.inr (.inl (⟨g0,wz.heap.size,rfl,rfl,rfl,hr.al _,ibox_new kp _,(Nat.ne_of_gt (by obtain ⟨q,q2,q3,q4,q5,q6⟩:=hr.open;cases q3;exact (World.ownsRow.lt q5 g0 rfl).2)),yA kp _⟩)))))
        exact AllReadyI.nil
       ·obtain ⟨g0,gb,hn,rfl,rfl,hr,hbx,hne,kp⟩:=h
        obtain rfl:n=3:=by omega
        refine ready_step (rs:=[4]) (by kernel_rfl) (by simp) ?_
        refine AllReadyI.cons rfl (fun K hK=>?_) ?_
        ·refine ins_app (w1:=w7) rfl (.tmp 41) (.tmp 44) 49 rfl 9 i0 (.string ByteArray.empty) 1 16 Tryz.underlying49 hi hz0 hz1 hz2 rfl (by decide) (.slice (some ⟨g0,0,none⟩) 0 0) 0 [] rfl hr kp ⟨g,0,none⟩ j cap NC1 rfl (uH HL1) (fun i u hu=>uH HLO _ kp i u hu) (uH HO1) (by unfold maxLen;omega) (by omega) ?_
         intro v1 wz2 hr2 kp2 hsame
         try simp only [zW]
         exact hK.out _ _ kp2 (.inr (.inr (.inr (.inr (.inr (.inl (⟨g0,v1,gb,rfl,by kernel_rfl,rfl,owns_re hr2 (by omega) (List.nil_append _),hbx.same (hsame gb hbx.lt (by simp [Value.ownBlock];omega)),kp2⟩)))))))
        exact AllReadyI.nil
       ·obtain ⟨g0,v1,hn,rfl,rfl,hr,kp⟩:=h
        obtain rfl:n=3:=by omega
        refine ready_step (rs:=[6]) (by kernel_rfl) (by simp) ?_
        refine AllReadyI.cons rfl (fun K hK=>?_) ?_
        ·go_simp
         go_wp2_with fail
         exact hK.out _ _ (yA kp _) (.inr (.inr (.inr (.inr (.inr (.inl (⟨g0,v1,wz.heap.size,rfl,rfl,rfl,hr.al _,ibox_new kp _,yA kp _⟩)))))))
        exact AllReadyI.nil
       ·obtain ⟨g0,v1,gb,hn,rfl,rfl,hr,hbx,kp⟩:=h
        obtain rfl:n=2:=by omega
        refine ready_step (rs:=[7]) (by kernel_rfl) (by simp) ?_
        refine AllReadyI.cons rfl (fun K hK=>?_) ?_
        ·refine ins_app (w1:=w7) rfl (.tmp 45) (.tmp 47) 49 rfl 9 i0 (.string ByteArray.empty) 1 16 Tryz.underlying49 hi hz0 hz1 hz2 rfl (by decide) v1 j NC1 rfl hr kp ⟨gb,0,none⟩ 1 1 #[Value.string (bs nm)].toList rfl (by rfl) hbx.news (uH HOX) (by unfold maxLen;omega) (by omega) ?_
         intro v2 wz2 hr2 kp2 hsame
         try simp only [zW]
         exact hK.out _ _ kp2 (.inr (.inr (.inr (.inr (.inr (.inr (.inl (⟨g0,v1,gb,v2,rfl,by kernel_rfl,rfl,hr2,kp2⟩))))))))
        exact AllReadyI.nil
       ·obtain ⟨g0,v1,gb,v2,hn,rfl,rfl,hr,kp⟩:=h
        obtain rfl:n=1:=by omega
        refine ready_step (rs:=[11]) (by kernel_rfl) (by simp) ?_
        refine AllReadyI.cons rfl (fun K hK=>?_) ?_
        ·refine ins_app (w1:=w7) rfl (.tmp 48) (.tmp 51) 49 rfl 9 i0 (.string ByteArray.empty) 1 16 Tryz.underlying49 hi hz0 hz1 hz2 rfl (by decide) v2 (j+1) (NC1++#[Value.string (bs nm)].toList) rfl hr kp (hiA g cap j 1) (o.length - j) (cap - j) NC2 rfl (uH HL2) (fun i u hu=>uH HHI _ kp i u hu) (uH HO2) (by unfold maxLen;omega) (by omega) ?_
         intro v3 wz2 hr2 kp2 hsame
         try simp only [zW]
         exact hK.out _ _ kp2 (.inr (.inr (.inr (.inr (.inr (.inr (.inr (.inl (⟨g0,v1,gb,v2,v3,rfl,by kernel_rfl,rfl,hr2,kp2⟩)))))))))
        exact AllReadyI.nil
       ·obtain ⟨g0,v1,gb,v2,v3,hn,rfl,rfl,hr,kp⟩:=h
        obtain rfl:n=0:=by omega
        refine ready_step (rs:=[12]) (by kernel_rfl) (by simp) ?_
        refine AllReadyI.cons rfl (fun K hK=>?_) ?_
        ·go_simp
         go_wp2_with fail
         exact hK.out _ _ kp (.inr (.inr (.inr (.inr (.inr (.inr (.inr (.inr (⟨g0,v1,gb,v2,v3,rfl,rfl,rfl,hr,kp⟩)))))))))
        exact AllReadyI.nil
       ·obtain ⟨_,_,_,_,_,hn,_⟩:=h
        cases hn
  ·have hkk:k=ql:=by omega
   subst hkk
   have HE:=hide (uH HNE k (by have:=uH HLQ;omega))
   have hgg2:w.heap.size≤g:=by omega
   go_wp2
   go_ret
   refine ⟨_,rfl,?_,uH HB2⟩
   rw [←uH HE,←uH HO]
   exact ((uH HW).own).base hgg2
end
end Go.Proofs.YtokabeokclpljaaGreat
