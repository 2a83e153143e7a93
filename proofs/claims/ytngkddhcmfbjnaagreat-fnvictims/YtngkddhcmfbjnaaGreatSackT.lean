/-
  The leaves that starve, in order: what the model's Starving answers; a walk over the dump.
-/
import Derived.Test.YtngkddhcmfbjnaaGreatSackR
set_option maxRecDepth 100000
set_option maxHeartbeats 16000000
set_option linter.unusedVariables false
set_option linter.unusedSimpArgs false
namespace Go.Proofs.YtngkddhcmfbjnaaGreat
section
open Go.RowKit Go.Maps
def aKy (w w1:World) (nm:List UInt8) (ux uy tx ty dx dy:Int) (g n0 cap k gt:Nat) (u7 u8 u9 u18 u19 u28 u33 u34 u35 u36 u37 u38 u39 u40 u41 u42 u43 u44 u45 u46 u47 u48 u49 u50 u51 u52 u53 u54 u55 u56 u57 u58 u59 u60 u61 u62 u63 u64 u65 u66 u67 u68 u69 u70 u71 u72 u73 u74 u75 u76 u77 u78:Value) (b off ql qc:Nat) (aa:Option Addr) (al ac:Nat) (ma:Option Addr) (ml mc:Nat) (ca:Option Addr) (cl cc:Nat) (qs:List Q) (cv ez nv sj:Int) (aj:List bN) (ms:List Mac) (cs:List Con) (c:Nat) (fs:List Bool) (us:List Nat):Act:={ tmps:=#[sv ⟨some ⟨b,off,none⟩,ql,qc,aa,al,ac,ma,ml,mc,ca,cl,cc⟩ ⟨qs,cv,ez,nv,sj,aj,ms,cs⟩,.pointer (some ⟨w.heap.size,0,none⟩),.slice none 0 0,.slice (some ⟨g,0,none⟩) n0 cap,.pointer (some ⟨gt,0,none⟩),.int .i64 (k:Int),.string (bs nm),mkV (fs.getD 0 false) (.pointer (some ⟨us.getD 0 0,0,none⟩)) u7,mkV (fs.getD 1 false) (.pointer (some ⟨us.getD 1 0,0,none⟩)) u8,u9,.slice (some ⟨w.heap.size+1,0,none⟩) 0 0,.agg #[.slice (some ⟨b,off,none⟩) ql qc,.int .i64 cv,.int .i64 ez,.int .i64 nv,.int .i64 sj,.slice aa al ac,.slice ma ml mc,.slice ca cl cc],rv tx ty,.int .i64 (k:Int),.pointer (some ⟨w.heap.size,0,none⟩),.slice (some ⟨b,off,none⟩) ql qc,.int .i64 (ql:Int),.bool true,u18,u19,.pointer (some ⟨w.heap.size,0,none⟩),.slice (some ⟨b,off,none⟩) ql qc,.int .i64 (k:Int),.pointer (some ⟨b,off+k*4,none⟩),.pointer (some ⟨b,off+k*4,none⟩),.string (bs nm),.agg #[.slice (some ⟨b,off,none⟩) ql qc,.int .i64 cv,.int .i64 ez,.int .i64 nv,.int .i64 sj,.slice aa al ac,.slice ma ml mc,.slice ca cl cc],.string (bs nm),mkV (Nat.ble 1 c) (rv ux uy) u28,.pointer (some ⟨w.heap.size,0,none⟩),.slice (some ⟨b,off,none⟩) ql qc,.string (bs nm),rv tx ty,mkV (Nat.ble 2 c) (rv dx dy) u33,u34,u35,u36,u37,u38,u39,u40,u41,u42,u43,u44,u45,u46,u47,u48,u49,u50,u51,u52,u53,u54,u55,u56,u57,u58,u59,u60,u61,u62,u63,u64,u65,u66,u67,u68,u69,u70,u71,u72,u73,u74,u75,u76,u77,u78,undef],defers:=[] }
def aL3:Mul:=⟨12,[2,7],[8,9],[10,11],[true,true,false,true,true,true,true,false,false,false,false,false]⟩
def aLn (w1:World) (g n0 cap j:Nat) (NC1 NC2:List Value) (nm:List UInt8) (x0 x1 x2 x4 x5 x7 x8 x10 x11 x12 x13 x14 x15 x16 x17 x18 x19 x20 x21 x22 x23 x24 x25 x26 x27 x28 x29 x30 x31 x32 x33 x34 x35 x36 x37 x38 x39 x40 x41 x42 x43 x44 x45 x46 x47 x48 x49 x50 x51 x52 x53 x54 x55 x56 x57 x58 x59 x60 x61 x62 x63 x64 x65 x66 x67 x71 x73 x74 x78 x79:Value) (n:Nat) (lz:Array Bool) (az:Act) (wz:World):Prop:=(n=6∧lz=#[false,true,true,true,false,true,false,false,true,true,true,false,false]∧az = { tmps:=#[x0,x1,x2,.slice (some ⟨g,0,none⟩) n0 cap,x4,x5,.string (bs nm),x7,x8,.int .i64 (j:Int),x10,x11,x12,x13,x14,x15,x16,x17,x18,x19,x20,x21,x22,x23,x24,x25,x26,x27,x28,x29,x30,x31,x32,x33,x34,x35,x36,x37,x38,x39,x40,x41,x42,x43,x44,x45,x46,x47,x48,x49,x50,x51,x52,x53,x54,x55,x56,x57,x58,x59,x60,x61,x62,x63,x64,x65,x66,x67,.slice (some ⟨g,0,none⟩) n0 cap,.int .i64 (j:Int),.slice (some ⟨g,0,none⟩) j cap,x71,.string (bs nm),x73,x74,.slice (some ⟨g,0,none⟩) n0 cap,.int .i64 (j:Int),.slice (some (hiA g cap j 1)) (n0 - j) (cap - j),x78,x79],defers:=[] }∧Kp w1 wz)
def aLm (w1:World) (g n0 cap j:Nat) (NC1 NC2:List Value) (nm:List UInt8) (x0 x1 x2 x4 x5 x7 x8 x10 x11 x12 x13 x14 x15 x16 x17 x18 x19 x20 x21 x22 x23 x24 x25 x26 x27 x28 x29 x30 x31 x32 x33 x34 x35 x36 x37 x38 x39 x40 x41 x42 x43 x44 x45 x46 x47 x48 x49 x50 x51 x52 x53 x54 x55 x56 x57 x58 x59 x60 x61 x62 x63 x64 x65 x66 x67 x71 x73 x74 x78 x79:Value) (n:Nat) (lz:Array Bool) (az:Act) (wz:World):Prop:=(∃gb:Nat,n=5∧lz=#[false,true,true,true,false,true,true,false,true,true,true,false,false]∧az = { tmps:=#[x0,x1,x2,.slice (some ⟨g,0,none⟩) n0 cap,x4,x5,.string (bs nm),x7,x8,.int .i64 (j:Int),x10,x11,x12,x13,x14,x15,x16,x17,x18,x19,x20,x21,x22,x23,x24,x25,x26,x27,x28,x29,x30,x31,x32,x33,x34,x35,x36,x37,x38,x39,x40,x41,x42,x43,x44,x45,x46,x47,x48,x49,x50,x51,x52,x53,x54,x55,x56,x57,x58,x59,x60,x61,x62,x63,x64,x65,x66,x67,.slice (some ⟨g,0,none⟩) n0 cap,.int .i64 (j:Int),.slice (some ⟨g,0,none⟩) j cap,x71,.string (bs nm),.slice (some ⟨gb,0,none⟩) 1 1,x74,.slice (some ⟨g,0,none⟩) n0 cap,.int .i64 (j:Int),.slice (some (hiA g cap j 1)) (n0 - j) (cap - j),x78,x79],defers:=[] }∧aDC 9 w1 wz gb #[Value.string (bs nm)]∧Kp w1 wz)
def aLl (w1:World) (g n0 cap j:Nat) (NC1 NC2:List Value) (nm:List UInt8) (x0 x1 x2 x4 x5 x7 x8 x10 x11 x12 x13 x14 x15 x16 x17 x18 x19 x20 x21 x22 x23 x24 x25 x26 x27 x28 x29 x30 x31 x32 x33 x34 x35 x36 x37 x38 x39 x40 x41 x42 x43 x44 x45 x46 x47 x48 x49 x50 x51 x52 x53 x54 x55 x56 x57 x58 x59 x60 x61 x62 x63 x64 x65 x66 x67 x71 x73 x74 x78 x79:Value) (n:Nat) (lz:Array Bool) (az:Act) (wz:World):Prop:=(∃g0:Nat,n=5∧lz=#[true,true,true,true,false,true,false,false,true,true,true,false,false]∧az = { tmps:=#[x0,x1,x2,.slice (some ⟨g,0,none⟩) n0 cap,x4,x5,.string (bs nm),x7,x8,.int .i64 (j:Int),x10,x11,x12,x13,x14,x15,x16,x17,x18,x19,x20,x21,x22,x23,x24,x25,x26,x27,x28,x29,x30,x31,x32,x33,x34,x35,x36,x37,x38,x39,x40,x41,x42,x43,x44,x45,x46,x47,x48,x49,x50,x51,x52,x53,x54,x55,x56,x57,x58,x59,x60,x61,x62,x63,x64,x65,x66,.slice (some ⟨g0,0,none⟩) 0 0,.slice (some ⟨g,0,none⟩) n0 cap,.int .i64 (j:Int),.slice (some ⟨g,0,none⟩) j cap,x71,.string (bs nm),x73,x74,.slice (some ⟨g,0,none⟩) n0 cap,.int .i64 (j:Int),.slice (some (hiA g cap j 1)) (n0 - j) (cap - j),x78,x79],defers:=[] }∧wI 9 1 w1.heap.size wz (.slice (some ⟨g0,0,none⟩) 0 0) 0 []∧Kp w1 wz)
def aLk (w1:World) (g n0 cap j:Nat) (NC1 NC2:List Value) (nm:List UInt8) (x0 x1 x2 x4 x5 x7 x8 x10 x11 x12 x13 x14 x15 x16 x17 x18 x19 x20 x21 x22 x23 x24 x25 x26 x27 x28 x29 x30 x31 x32 x33 x34 x35 x36 x37 x38 x39 x40 x41 x42 x43 x44 x45 x46 x47 x48 x49 x50 x51 x52 x53 x54 x55 x56 x57 x58 x59 x60 x61 x62 x63 x64 x65 x66 x67 x71 x73 x74 x78 x79:Value) (n:Nat) (lz:Array Bool) (az:Act) (wz:World):Prop:=(∃g0:Nat,∃gb:Nat,n=4∧lz=#[true,true,true,true,false,true,true,false,true,true,true,false,false]∧az = { tmps:=#[x0,x1,x2,.slice (some ⟨g,0,none⟩) n0 cap,x4,x5,.string (bs nm),x7,x8,.int .i64 (j:Int),x10,x11,x12,x13,x14,x15,x16,x17,x18,x19,x20,x21,x22,x23,x24,x25,x26,x27,x28,x29,x30,x31,x32,x33,x34,x35,x36,x37,x38,x39,x40,x41,x42,x43,x44,x45,x46,x47,x48,x49,x50,x51,x52,x53,x54,x55,x56,x57,x58,x59,x60,x61,x62,x63,x64,x65,x66,.slice (some ⟨g0,0,none⟩) 0 0,.slice (some ⟨g,0,none⟩) n0 cap,.int .i64 (j:Int),.slice (some ⟨g,0,none⟩) j cap,x71,.string (bs nm),.slice (some ⟨gb,0,none⟩) 1 1,x74,.slice (some ⟨g,0,none⟩) n0 cap,.int .i64 (j:Int),.slice (some (hiA g cap j 1)) (n0 - j) (cap - j),x78,x79],defers:=[] }∧wI 9 1 w1.heap.size wz (.slice (some ⟨g0,0,none⟩) 0 0) 0 []∧aDC 9 w1 wz gb #[Value.string (bs nm)]∧gb≠g0∧Kp w1 wz)
def aLj (w1:World) (g n0 cap j:Nat) (NC1 NC2:List Value) (nm:List UInt8) (x0 x1 x2 x4 x5 x7 x8 x10 x11 x12 x13 x14 x15 x16 x17 x18 x19 x20 x21 x22 x23 x24 x25 x26 x27 x28 x29 x30 x31 x32 x33 x34 x35 x36 x37 x38 x39 x40 x41 x42 x43 x44 x45 x46 x47 x48 x49 x50 x51 x52 x53 x54 x55 x56 x57 x58 x59 x60 x61 x62 x63 x64 x65 x66 x67 x71 x73 x74 x78 x79:Value) (n:Nat) (lz:Array Bool) (az:Act) (wz:World):Prop:=(∃g0:Nat,∃v1:Value,n=4∧lz=#[true,true,true,true,true,true,false,false,true,true,true,false,false]∧az = { tmps:=#[x0,x1,x2,.slice (some ⟨g,0,none⟩) n0 cap,x4,x5,.string (bs nm),x7,x8,.int .i64 (j:Int),x10,x11,x12,x13,x14,x15,x16,x17,x18,x19,x20,x21,x22,x23,x24,x25,x26,x27,x28,x29,x30,x31,x32,x33,x34,x35,x36,x37,x38,x39,x40,x41,x42,x43,x44,x45,x46,x47,x48,x49,x50,x51,x52,x53,x54,x55,x56,x57,x58,x59,x60,x61,x62,x63,x64,x65,x66,.slice (some ⟨g0,0,none⟩) 0 0,.slice (some ⟨g,0,none⟩) n0 cap,.int .i64 (j:Int),.slice (some ⟨g,0,none⟩) j cap,v1,.string (bs nm),x73,x74,.slice (some ⟨g,0,none⟩) n0 cap,.int .i64 (j:Int),.slice (some (hiA g cap j 1)) (n0 - j) (cap - j),x78,x79],defers:=[] }∧wI 9 1 w1.heap.size wz v1 j NC1∧Kp w1 wz)
def aLi (w1:World) (g n0 cap j:Nat) (NC1 NC2:List Value) (nm:List UInt8) (x0 x1 x2 x4 x5 x7 x8 x10 x11 x12 x13 x14 x15 x16 x17 x18 x19 x20 x21 x22 x23 x24 x25 x26 x27 x28 x29 x30 x31 x32 x33 x34 x35 x36 x37 x38 x39 x40 x41 x42 x43 x44 x45 x46 x47 x48 x49 x50 x51 x52 x53 x54 x55 x56 x57 x58 x59 x60 x61 x62 x63 x64 x65 x66 x67 x71 x73 x74 x78 x79:Value) (n:Nat) (lz:Array Bool) (az:Act) (wz:World):Prop:=(∃g0:Nat,∃v1:Value,∃gb:Nat,n=3∧lz=#[true,true,true,true,true,true,true,false,true,true,true,false,false]∧az = { tmps:=#[x0,x1,x2,.slice (some ⟨g,0,none⟩) n0 cap,x4,x5,.string (bs nm),x7,x8,.int .i64 (j:Int),x10,x11,x12,x13,x14,x15,x16,x17,x18,x19,x20,x21,x22,x23,x24,x25,x26,x27,x28,x29,x30,x31,x32,x33,x34,x35,x36,x37,x38,x39,x40,x41,x42,x43,x44,x45,x46,x47,x48,x49,x50,x51,x52,x53,x54,x55,x56,x57,x58,x59,x60,x61,x62,x63,x64,x65,x66,.slice (some ⟨g0,0,none⟩) 0 0,.slice (some ⟨g,0,none⟩) n0 cap,.int .i64 (j:Int),.slice (some ⟨g,0,none⟩) j cap,v1,.string (bs nm),.slice (some ⟨gb,0,none⟩) 1 1,x74,.slice (some ⟨g,0,none⟩) n0 cap,.int .i64 (j:Int),.slice (some (hiA g cap j 1)) (n0 - j) (cap - j),x78,x79],defers:=[] }∧wI 9 1 w1.heap.size wz v1 j NC1∧aDC 9 w1 wz gb #[Value.string (bs nm)]∧Kp w1 wz)
def aLh (w1:World) (g n0 cap j:Nat) (NC1 NC2:List Value) (nm:List UInt8) (x0 x1 x2 x4 x5 x7 x8 x10 x11 x12 x13 x14 x15 x16 x17 x18 x19 x20 x21 x22 x23 x24 x25 x26 x27 x28 x29 x30 x31 x32 x33 x34 x35 x36 x37 x38 x39 x40 x41 x42 x43 x44 x45 x46 x47 x48 x49 x50 x51 x52 x53 x54 x55 x56 x57 x58 x59 x60 x61 x62 x63 x64 x65 x66 x67 x71 x73 x74 x78 x79:Value) (n:Nat) (lz:Array Bool) (az:Act) (wz:World):Prop:=(∃g0:Nat,∃v1:Value,∃gb:Nat,∃v2:Value,n=2∧lz=#[true,true,true,true,true,true,true,true,true,true,true,false,false]∧az = { tmps:=#[x0,x1,x2,.slice (some ⟨g,0,none⟩) n0 cap,x4,x5,.string (bs nm),x7,x8,.int .i64 (j:Int),x10,x11,x12,x13,x14,x15,x16,x17,x18,x19,x20,x21,x22,x23,x24,x25,x26,x27,x28,x29,x30,x31,x32,x33,x34,x35,x36,x37,x38,x39,x40,x41,x42,x43,x44,x45,x46,x47,x48,x49,x50,x51,x52,x53,x54,x55,x56,x57,x58,x59,x60,x61,x62,x63,x64,x65,x66,.slice (some ⟨g0,0,none⟩) 0 0,.slice (some ⟨g,0,none⟩) n0 cap,.int .i64 (j:Int),.slice (some ⟨g,0,none⟩) j cap,v1,.string (bs nm),.slice (some ⟨gb,0,none⟩) 1 1,v2,.slice (some ⟨g,0,none⟩) n0 cap,.int .i64 (j:Int),.slice (some (hiA g cap j 1)) (n0 - j) (cap - j),x78,x79],defers:=[] }∧wI 9 1 w1.heap.size wz v2 (j+1) (NC1++#[Value.string (bs nm)].toList)∧Kp w1 wz)
def aLg (w1:World) (g n0 cap j:Nat) (NC1 NC2:List Value) (nm:List UInt8) (x0 x1 x2 x4 x5 x7 x8 x10 x11 x12 x13 x14 x15 x16 x17 x18 x19 x20 x21 x22 x23 x24 x25 x26 x27 x28 x29 x30 x31 x32 x33 x34 x35 x36 x37 x38 x39 x40 x41 x42 x43 x44 x45 x46 x47 x48 x49 x50 x51 x52 x53 x54 x55 x56 x57 x58 x59 x60 x61 x62 x63 x64 x65 x66 x67 x71 x73 x74 x78 x79:Value) (n:Nat) (lz:Array Bool) (az:Act) (wz:World):Prop:=(∃g0:Nat,∃v1:Value,∃gb:Nat,∃v2:Value,∃v3:Value,n=1∧lz=#[true,true,true,true,true,true,true,true,true,true,true,true,false]∧az = { tmps:=#[x0,x1,x2,.slice (some ⟨g,0,none⟩) n0 cap,x4,x5,.string (bs nm),x7,x8,.int .i64 (j:Int),x10,x11,x12,x13,x14,x15,x16,x17,x18,x19,x20,x21,x22,x23,x24,x25,x26,x27,x28,x29,x30,x31,x32,x33,x34,x35,x36,x37,x38,x39,x40,x41,x42,x43,x44,x45,x46,x47,x48,x49,x50,x51,x52,x53,x54,x55,x56,x57,x58,x59,x60,x61,x62,x63,x64,x65,x66,.slice (some ⟨g0,0,none⟩) 0 0,.slice (some ⟨g,0,none⟩) n0 cap,.int .i64 (j:Int),.slice (some ⟨g,0,none⟩) j cap,v1,.string (bs nm),.slice (some ⟨gb,0,none⟩) 1 1,v2,.slice (some ⟨g,0,none⟩) n0 cap,.int .i64 (j:Int),.slice (some (hiA g cap j 1)) (n0 - j) (cap - j),v3,x79],defers:=[] }∧wI 9 1 w1.heap.size wz v3 (j+1+(n0 - j)) (NC1++#[Value.string (bs nm)].toList++NC2)∧Kp w1 wz)
def aLf (w1:World) (g n0 cap j:Nat) (NC1 NC2:List Value) (nm:List UInt8) (x0 x1 x2 x4 x5 x7 x8 x10 x11 x12 x13 x14 x15 x16 x17 x18 x19 x20 x21 x22 x23 x24 x25 x26 x27 x28 x29 x30 x31 x32 x33 x34 x35 x36 x37 x38 x39 x40 x41 x42 x43 x44 x45 x46 x47 x48 x49 x50 x51 x52 x53 x54 x55 x56 x57 x58 x59 x60 x61 x62 x63 x64 x65 x66 x67 x71 x73 x74 x78 x79:Value) (n:Nat) (lz:Array Bool) (az:Act) (wz:World):Prop:=(∃g0:Nat,∃v1:Value,∃gb:Nat,∃v2:Value,∃v3:Value,n=0∧lz=#[true,true,true,true,true,true,true,true,true,true,true,true,true]∧az = { tmps:=#[x0,x1,x2,v3,x4,x5,.string (bs nm),x7,x8,.int .i64 (j:Int),x10,x11,x12,x13,x14,x15,x16,x17,x18,x19,x20,x21,x22,x23,x24,x25,x26,x27,x28,x29,x30,x31,x32,x33,x34,x35,x36,x37,x38,x39,x40,x41,x42,x43,x44,x45,x46,x47,x48,x49,x50,x51,x52,x53,x54,x55,x56,x57,x58,x59,x60,x61,x62,x63,x64,x65,x66,.slice (some ⟨g0,0,none⟩) 0 0,.slice (some ⟨g,0,none⟩) n0 cap,.int .i64 (j:Int),.slice (some ⟨g,0,none⟩) j cap,v1,.string (bs nm),.slice (some ⟨gb,0,none⟩) 1 1,v2,.slice (some ⟨g,0,none⟩) n0 cap,.int .i64 (j:Int),.slice (some (hiA g cap j 1)) (n0 - j) (cap - j),v3,x79],defers:=[] }∧wI 9 1 w1.heap.size wz v3 (j+1+(n0 - j)) (NC1++#[Value.string (bs nm)].toList++NC2)∧Kp w1 wz)
def SVT (w1:World) (g n0 cap j:Nat) (NC1 NC2:List Value) (nm:List UInt8) (x0 x1 x2 x4 x5 x7 x8 x10 x11 x12 x13 x14 x15 x16 x17 x18 x19 x20 x21 x22 x23 x24 x25 x26 x27 x28 x29 x30 x31 x32 x33 x34 x35 x36 x37 x38 x39 x40 x41 x42 x43 x44 x45 x46 x47 x48 x49 x50 x51 x52 x53 x54 x55 x56 x57 x58 x59 x60 x61 x62 x63 x64 x65 x66 x67 x71 x73 x74 x78 x79:Value) (n:Nat) (lz:Array Bool) (az:Act) (wz:World):Prop:=aLn w1 g n0 cap j NC1 NC2 nm x0 x1 x2 x4 x5 x7 x8 x10 x11 x12 x13 x14 x15 x16 x17 x18 x19 x20 x21 x22 x23 x24 x25 x26 x27 x28 x29 x30 x31 x32 x33 x34 x35 x36 x37 x38 x39 x40 x41 x42 x43 x44 x45 x46 x47 x48 x49 x50 x51 x52 x53 x54 x55 x56 x57 x58 x59 x60 x61 x62 x63 x64 x65 x66 x67 x71 x73 x74 x78 x79 n lz az wz∨aLm w1 g n0 cap j NC1 NC2 nm x0 x1 x2 x4 x5 x7 x8 x10 x11 x12 x13 x14 x15 x16 x17 x18 x19 x20 x21 x22 x23 x24 x25 x26 x27 x28 x29 x30 x31 x32 x33 x34 x35 x36 x37 x38 x39 x40 x41 x42 x43 x44 x45 x46 x47 x48 x49 x50 x51 x52 x53 x54 x55 x56 x57 x58 x59 x60 x61 x62 x63 x64 x65 x66 x67 x71 x73 x74 x78 x79 n lz az wz∨aLl w1 g n0 cap j NC1 NC2 nm x0 x1 x2 x4 x5 x7 x8 x10 x11 x12 x13 x14 x15 x16 x17 x18 x19 x20 x21 x22 x23 x24 x25 x26 x27 x28 x29 x30 x31 x32 x33 x34 x35 x36 x37 x38 x39 x40 x41 x42 x43 x44 x45 x46 x47 x48 x49 x50 x51 x52 x53 x54 x55 x56 x57 x58 x59 x60 x61 x62 x63 x64 x65 x66 x67 x71 x73 x74 x78 x79 n lz az wz∨aLk w1 g n0 cap j NC1 NC2 nm x0 x1 x2 x4 x5 x7 x8 x10 x11 x12 x13 x14 x15 x16 x17 x18 x19 x20 x21 x22 x23 x24 x25 x26 x27 x28 x29 x30 x31 x32 x33 x34 x35 x36 x37 x38 x39 x40 x41 x42 x43 x44 x45 x46 x47 x48 x49 x50 x51 x52 x53 x54 x55 x56 x57 x58 x59 x60 x61 x62 x63 x64 x65 x66 x67 x71 x73 x74 x78 x79 n lz az wz∨aLj w1 g n0 cap j NC1 NC2 nm x0 x1 x2 x4 x5 x7 x8 x10 x11 x12 x13 x14 x15 x16 x17 x18 x19 x20 x21 x22 x23 x24 x25 x26 x27 x28 x29 x30 x31 x32 x33 x34 x35 x36 x37 x38 x39 x40 x41 x42 x43 x44 x45 x46 x47 x48 x49 x50 x51 x52 x53 x54 x55 x56 x57 x58 x59 x60 x61 x62 x63 x64 x65 x66 x67 x71 x73 x74 x78 x79 n lz az wz∨aLi w1 g n0 cap j NC1 NC2 nm x0 x1 x2 x4 x5 x7 x8 x10 x11 x12 x13 x14 x15 x16 x17 x18 x19 x20 x21 x22 x23 x24 x25 x26 x27 x28 x29 x30 x31 x32 x33 x34 x35 x36 x37 x38 x39 x40 x41 x42 x43 x44 x45 x46 x47 x48 x49 x50 x51 x52 x53 x54 x55 x56 x57 x58 x59 x60 x61 x62 x63 x64 x65 x66 x67 x71 x73 x74 x78 x79 n lz az wz∨aLh w1 g n0 cap j NC1 NC2 nm x0 x1 x2 x4 x5 x7 x8 x10 x11 x12 x13 x14 x15 x16 x17 x18 x19 x20 x21 x22 x23 x24 x25 x26 x27 x28 x29 x30 x31 x32 x33 x34 x35 x36 x37 x38 x39 x40 x41 x42 x43 x44 x45 x46 x47 x48 x49 x50 x51 x52 x53 x54 x55 x56 x57 x58 x59 x60 x61 x62 x63 x64 x65 x66 x67 x71 x73 x74 x78 x79 n lz az wz∨aLg w1 g n0 cap j NC1 NC2 nm x0 x1 x2 x4 x5 x7 x8 x10 x11 x12 x13 x14 x15 x16 x17 x18 x19 x20 x21 x22 x23 x24 x25 x26 x27 x28 x29 x30 x31 x32 x33 x34 x35 x36 x37 x38 x39 x40 x41 x42 x43 x44 x45 x46 x47 x48 x49 x50 x51 x52 x53 x54 x55 x56 x57 x58 x59 x60 x61 x62 x63 x64 x65 x66 x67 x71 x73 x74 x78 x79 n lz az wz∨aLf w1 g n0 cap j NC1 NC2 nm x0 x1 x2 x4 x5 x7 x8 x10 x11 x12 x13 x14 x15 x16 x17 x18 x19 x20 x21 x22 x23 x24 x25 x26 x27 x28 x29 x30 x31 x32 x33 x34 x35 x36 x37 x38 x39 x40 x41 x42 x43 x44 x45 x46 x47 x48 x49 x50 x51 x52 x53 x54 x55 x56 x57 x58 x59 x60 x61 x62 x63 x64 x65 x66 x67 x71 x73 x74 x78 x79 n lz az wz
theorem mK (x:Sls) (s:St) (w:World) (h:gU w x s) (hf:dI s) :
  cP 16 #[sv x s] w fun e w'=>∃v,e=.returned v∧bY w.heap.size w' v (dJ s)∧Bw w w':=by
 obtain ⟨i0,hi,hz0,hz1,hz2⟩:=info_parts Tryz.infoS
 have GJ:x.ql≤1048576:=h.ql hf
 have GN:x.ml≤1048576:=h.ml hf
 have CT:=aA (fun wx (hb:Bw w wx)=>show cP 45 #[sv x s] wx (fun e w'=>e=.returned (rv (bC s).1 (bC s).2)∧Bw wx w') from j4 x s wx (h.2.2.1.below hb) GN)
 have CD:=aA (fun nm wx (hb:Bw w wx)=>show cP 44 #[.slice x.qa x.ql x.qc,.string (bs nm),rv (bC s).1 (bC s).2] wx (fun e w'=>e=.returned (rv (iO s nm).1 (iO s nm).2)∧Bw wx w') from j5 x.qa x.ql x.qc s.qs nm (bC s).1 (bC s).2 wx (h.1.below hb) GJ (fun q hq=>(hf.1.2 q hq).1))
 have CU:=aA (fun nm wx (hb:Bw w wx)=>jL x s nm wx (h.below hb) hf)
 have CP:=aA (fun nm wx (hb:Bw w wx)=>wQ x s nm wx (h.below hb) hf)
 have CL:=aA (fun nm wx (hb:Bw w wx)=>fP x.qa x.ql x.qc s.qs nm wx (h.1.below hb) GJ (fun q hq=>(hf.1.2 q hq).1))
 have KZ:=aA (fun nm=>show lC s nm=(kC s nm&&(within (aL s nm).1 (aL s nm).2 (iO s nm).1 (iO s nm).2&&!decide (aL s nm=iO s nm))) from rfl)
 have VK:=aA (show s.qs.length=x.ql from h.1.1.symm)
 have dw:=aA h.1
 have WK:=aA (fun k (hk:k<s.qs.length)=>aBv s hk)
 have ZK:=aA (fun k (hk:s.qs.length≤k)=>aDR s hk)
 have WJ:=aA (fun k=>aDQ s k)
 have Dz:=aA (show lD s 0=[] from rfl)
 obtain ⟨⟨tx,ty⟩,ht⟩:∃t,bC s=t:=⟨_,rfl⟩
 rw [ht] at CT CD
 clear ht h hf
 obtain ⟨sp,hsp⟩:∃p,lC s=p:=⟨_,rfl⟩
 obtain ⟨sV,KJ⟩:∃p,dJ s=p:=⟨_,rfl⟩
 obtain ⟨sF,VY⟩:∃p,lD s=p:=⟨_,rfl⟩
 obtain ⟨us,YQ⟩:∃p,aL s=p:=⟨_,rfl⟩
 obtain ⟨ds,hds⟩:∃p,iO s=p:=⟨_,rfl⟩
 obtain ⟨ps,hps⟩:∃p,kC s=p:=⟨_,rfl⟩
 obtain ⟨lf,hlf⟩:∃p,oI s.qs=p:=⟨_,rfl⟩
 rw [VY,KJ] at ZK
 rw [VY,hsp,hlf] at WK
 rw [VY] at Dz WJ
 rw [hsp,YQ,hds,hps] at KZ
 rw [KJ]
 rw [YQ] at CU
 rw [hds] at CD
 rw [hps] at CP
 rw [hlf] at CL
 clear hsp KJ YQ hds hps VY hlf
 obtain ⟨qa,ql,qc,aa,al,ac,ma,ml,mc,ca,cl,cc⟩:=x
 obtain ⟨qs,cv,ez,nv,sj,aj,ms,cs⟩:=s
 simp only at CT CD CU CP CL GJ GN VK dw WK ZK
 have HB0:=aA (yA (yA (yH _ w) (.cells (svc ⟨qa,ql,qc,aa,al,ac,ma,ml,mc,ca,cl,cc⟩ ⟨qs,cv,ez,nv,sj,aj,ms,cs⟩) 29)) (.cells #[] 9))
 have P0:=aA ((yD w (svc ⟨qa,ql,qc,aa,al,ac,ma,ml,mc,ca,cl,cc⟩ ⟨qs,cv,ez,nv,sj,aj,ms,cs⟩) 29).al (.cells #[] 9))
 have S0:=aA (show SS ((w.alloc (.cells (svc ⟨qa,ql,qc,aa,al,ac,ma,ml,mc,ca,cl,cc⟩ ⟨qs,cv,ez,nv,sj,aj,ms,cs⟩) 29)).alloc (.cells #[] 9)) (w.heap.size+1) 0 [] from by have:=rO (w.alloc (.cells (svc ⟨qa,ql,qc,aa,al,ac,ma,ml,mc,ca,cl,cc⟩ ⟨qs,cv,ez,nv,sj,aj,ms,cs⟩) 29));rw [yE] at this;exact this)
 go_enter Tryz.func16,Tryz.ntmps16
 obtain ⟨q0,q1,q2,q3,q4,q5,q6,q7⟩:=zq (uH P0)
 go_wp2_with fail
 refine (uH CT _ (uH HB0)).mono ?_
 rintro e w0 ⟨rfl,hb⟩
 have HB1:=aA (yA (yB (uH HB0) hb) (.cells #[.int .i64 tx,.int .i64 ty] 37))
 have P1:=aA (((uH P0).below hb).al (.cells #[.int .i64 tx,.int .i64 ty] 37))
 have S1:=aA (((uH S0).below hb (uH S0).lt).below (yA (yH _ _) (.cells #[.int .i64 tx,.int .i64 ty] 37)) ((uH S0).below hb (uH S0).lt).lt)
 have T1:=aA (bD w0 37 tx ty)
 clear hb HB0 P0 S0 q0 q1 q2 q3 q4 q5 q6 q7 CT
 obtain ⟨gt,hgt⟩:∃g,w0.heap.size=g:=⟨_,rfl⟩
 rw [hgt] at T1
 go_wp2
 try rw [hgt]
 obtain ⟨w1,hw1⟩:∃W,w0.alloc (.cells #[.int .i64 tx,.int .i64 ty] 37)=W:=⟨_,rfl⟩
 rw [hw1] at HB1 P1 S1 T1 ⊢
 clear hgt hw1
 go_loopw [3,5,6,7,8,9] (fun v i _ _ _ _ wr=>∃(k g cap:Nat) (o:List (List UInt8)),k≤ql∧i=.int .i64 k∧v=.slice (some ⟨g,0,none⟩) o.length cap∧o.length≤k∧w.heap.size<g∧Hid (o=sF k)∧Hid (SS wr g cap (o.map bs))∧Hid (Bw w1 wr)) (fun _ i _ _ _ _ _=>ql - (intOf i).toNat)
 case atStart=>exact ⟨0,w.heap.size+1,0,[],Nat.zero_le _,rfl,rfl,yJ _,by omega,aA (uH Dz).symm,S1,aA (yH _ _)⟩
 case round=>
  obtain ⟨k,g,cap,o,hk,rfl,rfl,hol,hgg,HO,HW,HB⟩:=hrel
  have HB2:=aA (yB (uH HB1) (uH HB))
  have P2:=aA ((uH P1).below (uH HB))
  have T2:=aA ((uH T1).below (uH HB))
  obtain ⟨q0,q1,q2,q3,q4,q5,q6,q7⟩:_∧_∧_∧_∧_∧_∧_∧_:=⟨(uH P2).at 0,(uH P2).at 1,(uH P2).at 2,(uH P2).at 3,(uH P2).at 4,(uH P2).at 5,(uH P2).at 6,(uH P2).at 7⟩
  simp at q0 q1 q2 q3 q4 q5 q6 q7
  by_cases hlt:k<ql
  ·have HR2:=aA ((uH dw).below (uH HB2))
   obtain ⟨b,off,rfl,hq⟩:=(uH HR2).at hlt
   have hkl:k<qs.length:=by have:=uH VK;omega
   have hc0:=(hq hkl).1
   have hnf:=uH WK k hkl
   obtain ⟨nm,hnm⟩:∃nm,qs[k].name=nm:=⟨_,rfl⟩
   rw [hnm] at hc0 hnf
   have hst:=uH KZ nm
   obtain ⟨⟨ux,uy⟩,hu⟩:∃t,us nm=t:=⟨_,rfl⟩
   obtain ⟨⟨dx,dy⟩,hd⟩:∃t,ds nm=t:=⟨_,rfl⟩
   obtain ⟨pe,hpe⟩:∃t,ps nm=t:=⟨_,rfl⟩
   obtain ⟨le,hle⟩:∃t,lf nm=t:=⟨_,rfl⟩
   rw [hu,hd,hpe] at hst
   rw [hst,hle] at hnf
   have J3:=aA hnf
   have CU1:=aA (fun wx hb=>by have:=uH CU nm wx hb;rw [hu] at this;exact this)
   have CD1:=aA (fun wx hb=>by have:=uH CD nm wx hb;rw [hd] at this;exact this)
   have CP1:=aA (fun wx hb=>by have:=uH CP nm wx hb;rw [hpe] at this;exact this)
   have CL1:=aA (fun wx hb=>by have:=uH CL nm wx hb;rw [hle] at this;exact this)
   simp only at CU1 CD1 CP1 CL1
   have R:∀wx,Kp wr wx→wx.cell? ⟨w.heap.size,0,none⟩=some (.slice (some ⟨b,off,none⟩) ql qc)∧wx.cell? ⟨w.heap.size,1,none⟩=some (.int .i64 cv)∧wx.cell? ⟨w.heap.size,2,none⟩=some (.int .i64 ez)∧wx.cell? ⟨w.heap.size,3,none⟩=some (.int .i64 nv)∧wx.cell? ⟨w.heap.size,4,none⟩=some (.int .i64 sj)∧wx.cell? ⟨w.heap.size,5,none⟩=some (.slice aa al ac)∧wx.cell? ⟨w.heap.size,6,none⟩=some (.slice ma ml mc)∧wx.cell? ⟨w.heap.size,7,none⟩=some (.slice ca cl cc)∧wx.cell? ⟨gt,0,none⟩=some (.int .i64 tx)∧wx.cell? ⟨gt,1,none⟩=some (.int .i64 ty):=fun wx h=>
    ⟨h.cell q0,h.cell q1,h.cell q2,h.cell q3,h.cell q4,h.cell q5,h.cell q6,h.cell q7,h.cell (uH T2).c0,h.cell (uH T2).c1⟩
   have A0:=aA (Kp.new wr)
   have HS:=aA (aK wr)
   clear hnm hst hu hd hpe hle hnf hq hkl HR2 q1 q2 q3 q4 q5 q6 q7
   go_wp2_with fail
   clear hc0 q0
   go_cut [7,8] from 26 to 33 (fun v7 v8 wx=>∃g7 g8,v7=.pointer (some ⟨g7,0,none⟩)∧v8=.pointer (some ⟨g8,0,none⟩)∧Var wx 37 g7 ux uy∧Var wx 37 g8 dx dy∧wr.heap.size≤g7∧wr.heap.size≤g8∧Kp wr wx)
   case first=>
    refine wp_region_held_drew (S:=fun wx=>Kp wr wx) (by kernel_rfl) ((uH HS).drew (uH A0)) (fun S0=>?_)
    refine tW 0 26 _ S0 ?_
    simp only [zW]
    refine tW 1 27 _ S0 ?_
    simp only [zW]
    refine tW 3 29 _ S0 ?_
    simp only [zW]
    refine tW 4 30 _ S0 ?_
    simp only [zW]
    refine tW 5 31 _ S0 ?_
    simp only [zW]
    refine tW 6 32 _ S0 ?_
    simp only [zW]
    refine mR (n':=2+2+2) (l':=aL3.lst 0 [false,false] 0) (a':=aKy w wr nm ux uy tx ty dx dy g o.length cap k gt u7 u8 u9 u18 u19 u28 u33 u34 u35 u36 u37 u38 u39 u40 u41 u42 u43 u44 u45 u46 u47 u48 u49 u50 u51 u52 u53 u54 u55 u56 u57 u58 u59 u60 u61 u62 u63 u64 u65 u66 u67 u68 u69 u70 u71 u72 u73 u74 u75 u76 u77 u78 b off ql qc aa al ac ma ml mc ca cl cc qs cv ez nv sj aj ms cs 0 [false,false] [0,0]) rfl (by kernel_rfl) rfl ?_
    refine jO (w1:=wr) aL3 (aKy w wr nm ux uy tx ty dx dy g o.length cap k gt u7 u8 u9 u18 u19 u28 u33 u34 u35 u36 u37 u38 u39 u40 u41 u42 u43 u44 u45 u46 u47 u48 u49 u50 u51 u52 u53 u54 u55 u56 u57 u58 u59 u60 u61 u62 u63 u64 u65 u66 u67 u68 u69 u70 u71 u72 u73 u74 u75 u76 u77 u78 b off ql qc aa al ac ma ml mc ca cl cc qs cv ez nv sj aj ms cs) [(ux,uy),(dx,dy)] rfl (by as_aux_lemma=>kernel_rfl) ?call ?al ?st ?fin _ S0
    case call=>
     intro c f us wz K hc hf hu kp hK
     obtain ⟨f0,f1,rfl⟩:=vO hf
     obtain ⟨g7,g8,rfl⟩:=vO hu
     have hc4:c<2:=hc
     rcases (show c=0∨c=1 by omega) with rfl | rfl
     show Mul.step _ _ _ 2 _ _ _
     have CC:=CU1
     rotate_left
     show Mul.step _ _ _ 7 _ _ _
     have CC:=CD1
     rotate_left
     all_goals
      refine ⟨_,rfl,?_⟩
      simp only [aKy,List.getD_cons_zero,List.getD_cons_succ]
      go_simp
      refine (uH CC _ (yB (uH HB2) kp)).mono ?_
      rintro e w2 ⟨rfl,hb⟩
      go_wp2_with fail
      first | exact hb | exact hK _ hb
    case al=>
     intro j c f us wz K hc hf hu hj hK
     obtain ⟨f0,f1,rfl⟩:=vO hf
     obtain ⟨g7,g8,rfl⟩:=vO hu
     have NS:j<2:=by rcases Nat.lt_or_ge j 2 with h | h;exact h;(obtain ⟨q,rfl⟩:=Nat.exists_eq_add_of_le h;simp [Nat.add_comm] at hj)
     rcases (show j=0∨j=1 by omega) with rfl | rfl
     show Mul.step _ _ _ 8 _ _ _
     rotate_left
     show Mul.step _ _ _ 9 _ _ _
     rotate_left
     all_goals
      refine ⟨_,rfl,?_⟩
      simp only [aKy,List.getD_cons_zero,List.getD_cons_succ]
      go_simp
      go_wp2_with fail
      exact hK
    case st=>
     intro s us wz K hs hu hv hK
     obtain ⟨g7,g8,rfl⟩:=vO hu
     have hs4:s<2:=hs
     rcases (show s=0∨s=1 by omega) with rfl | rfl
     replace hv:Var wz 37 g7 0 0:=hv
     show Mul.step _ _ _ 10 _ _ _
     rotate_left
     replace hv:Var wz 37 g8 0 0:=hv
     show Mul.step _ _ _ 11 _ _ _
     rotate_left
     all_goals
      have y0:=hv.c0
      have y1:=hv.c1
      have y2:=hv.f 0
      have y3:=hv.f 1
      show Mul.step _ _ _ _ { tmps:=#[sv ⟨some ⟨b,off,none⟩,ql,qc,aa,al,ac,ma,ml,mc,ca,cl,cc⟩ ⟨qs,cv,ez,nv,sj,aj,ms,cs⟩,.pointer (some ⟨w.heap.size,0,none⟩),.slice none 0 0,.slice (some ⟨g,0,none⟩) o.length cap,.pointer (some ⟨gt,0,none⟩),.int .i64 (k:Int),.string (bs nm),.pointer (some ⟨g7,0,none⟩),.pointer (some ⟨g8,0,none⟩),u9,.slice (some ⟨w.heap.size+1,0,none⟩) 0 0,.agg #[.slice (some ⟨b,off,none⟩) ql qc,.int .i64 cv,.int .i64 ez,.int .i64 nv,.int .i64 sj,.slice aa al ac,.slice ma ml mc,.slice ca cl cc],rv tx ty,.int .i64 (k:Int),.pointer (some ⟨w.heap.size,0,none⟩),.slice (some ⟨b,off,none⟩) ql qc,.int .i64 (ql:Int),.bool true,u18,u19,.pointer (some ⟨w.heap.size,0,none⟩),.slice (some ⟨b,off,none⟩) ql qc,.int .i64 (k:Int),.pointer (some ⟨b,off+k*4,none⟩),.pointer (some ⟨b,off+k*4,none⟩),.string (bs nm),.agg #[.slice (some ⟨b,off,none⟩) ql qc,.int .i64 cv,.int .i64 ez,.int .i64 nv,.int .i64 sj,.slice aa al ac,.slice ma ml mc,.slice ca cl cc],.string (bs nm),rv ux uy,.pointer (some ⟨w.heap.size,0,none⟩),.slice (some ⟨b,off,none⟩) ql qc,.string (bs nm),rv tx ty,rv dx dy,u34,u35,u36,u37,u38,u39,u40,u41,u42,u43,u44,u45,u46,u47,u48,u49,u50,u51,u52,u53,u54,u55,u56,u57,u58,u59,u60,u61,u62,u63,u64,u65,u66,u67,u68,u69,u70,u71,u72,u73,u74,u75,u76,u77,u78,undef],defers:=[] } _ _
      refine ⟨_,rfl,?_⟩
      simp only [aKy,List.getD_cons_zero,List.getD_cons_succ]
      go_simp
      go_wp2_with fail
      exact hK
    case fin=>
     intro us wz hu hV kp
     obtain ⟨g7,g8,rfl⟩:=vO hu
     have vA:VB wr wz g7 ux uy:=hV 0 (by decide)
     have vB:VB wr wz g8 dx dy:=hV 1 (by decide)
     go_wp2_with fail
     go_meet
     exact ⟨g7,g8,rfl,rfl,vA.2,vB.2,vA.1,vB.1,kp⟩
   case rest=>
    obtain ⟨g7,g8,rfl,rfl,hv7,Sy,YY,Y8,hA⟩:=hcut
    obtain ⟨w4,rfl⟩:∃w4,w4=wc:=⟨wc,rfl⟩
    obtain ⟨q0,q1,q2,q3,q4,q5,q6,q7,-,-⟩:=R _ hA
    have V7:=aA hv7
    have V8:=aA Sy
    have WB:=aA ((uH HW).below hA (uH HW).lt)
    have G8:=aA (yB (uH HB2) hA)
    have J6:=aA (yB (uH HB) hA)
    have P4:=aA ((uH P2).below hA)
    clear hv7 Sy hA R A0 HS HW HB HB2 P2 T2
    go_upto_region 8 with fail
    go_cut [52] from 34 to 51 (fun v52 wx=>∃z,v52=.bool z∧Hid ((le&&(pe&&(within ux uy dx dy&&!decide ((ux,uy)=(dx,dy)))))=z)∧Hid (SS wx g cap (o.map bs))∧Hid (Bw w1 wx))
    case first=>
     go_wp2_with fail
     refine (uH CL1 _ (uH G8)).mono ?_
     rintro e w5 ⟨rfl,hb⟩
     have V75:=aA ((uH V7).below hb)
     have V85:=aA ((uH V8).below hb)
     have Gy:=aA ((uH WB).below hb (uH WB).lt)
     have ZL:=aA (yB (uH J6) hb)
     have GR:=aA (yB (uH G8) hb)
     have P5:=aA ((uH P4).below hb)
     clear hb V7 V8 WB G8 J6 P4 q0 q1 q2 q3 q4 q5 q6 q7 CL1 CU1 CD1
     cases le
     case false=>
      go_wp2
      all_goals
       go_meet
       exact ⟨_,rfl,aA (by rfl),Gy,ZL⟩
     case true=>
      obtain ⟨q0,q1,q2,q3,q4,q5,q6,q7⟩:_∧_∧_∧_∧_∧_∧_∧_:=⟨(uH P5).at 0,(uH P5).at 1,(uH P5).at 2,(uH P5).at 3,(uH P5).at 4,(uH P5).at 5,(uH P5).at 6,(uH P5).at 7⟩
      simp at q0 q1 q2 q3 q4 q5 q6 q7
      go_wp2_with fail
      refine (uH CP1 _ (uH GR)).mono ?_
      rintro e w7 ⟨rfl,hb⟩
      have V77:=aA ((uH V75).below hb)
      have V87:=aA ((uH V85).below hb)
      have KY:=aA ((uH Gy).below hb (uH Gy).lt)
      have ZT:=aA (yB (uH ZL) hb)
      clear hb V75 V85 Gy GR ZL P5 q0 q1 q2 q3 q4 q5 q6 q7 CP1
      cases pe
      case false=>
       go_wp2
       all_goals
        go_meet
        exact ⟨_,rfl,aA (by rfl),KY,ZT⟩
      case true=>
       have c0:=(uH V77).c0
       have c1:=(uH V77).c1
       have d0:=(uH V87).c0
       have d1:=(uH V87).c1
       obtain ⟨wi,Gv⟩:∃b,within ux uy dx dy=b:=⟨_,rfl⟩
       have CW:=aA (fun wx=>by have:=eD ux uy dx dy wx;rw [Gv] at this;exact this)
       have ZI:=aA Gv
       clear Gv
       go_wp2_with fail
       refine (uH CW _).mono ?_
       rintro e w8 ⟨rfl,hb⟩
       have V78:=aA ((uH V77).below hb)
       have V88:=aA ((uH V87).below hb)
       have MB:=aA ((uH KY).below hb (uH KY).lt)
       have VL:=aA (yB (uH ZT) hb)
       clear hb KY ZT V77 V87 c0 c1 d0 d1 CW
       cases wi
       case false=>
        go_wp2
        all_goals
         go_meet
         exact ⟨_,rfl,aA (by rw [uH ZI];rfl),MB,VL⟩
       case true=>
        have c0:=(uH V78).c0
        have c1:=(uH V78).c1
        have d0:=(uH V88).c0
        have d1:=(uH V88).c1
        by_cases h1:ux=dx
        ·by_cases h2:uy=dy
         ·subst h1 h2
          go_wp2
          all_goals
           go_meet
           exact ⟨_,rfl,aA (by rw [uH ZI];simp),MB,VL⟩
         ·
          go_wp2
          all_goals
           go_meet
           exact ⟨_,rfl,aA (by rw [uH ZI];simp [h1,h2]),MB,VL⟩
        ·
         go_wp2
         all_goals
          go_meet
          exact ⟨_,rfl,aA (by rw [uH ZI];simp [h1]),MB,VL⟩
    case rest=>
     obtain ⟨z,rfl,HZ,Gy,ZL⟩:=hcut
     obtain ⟨w5,rfl⟩:∃w5,w5=wc:=⟨wc,rfl⟩
     clear V7 V8 WB G8 J6 P4 q0 q1 q2 q3 q4 q5 q6 q7 CL1 CU1 CD1 CP1
     rw [uH HZ] at J3
     clear HZ
     cases z
     case false=>
      go_wp2
      go_roundw
      case rel=>exact ⟨k+1,g,cap,o,by omega,by go_num,rfl,by omega,hgg,aA (by rw [uH J3,if_neg (by simp)];exact uH HO),Gy,ZL⟩
      case measure=>simp [intOf];omega
     case true=>
      have HP:=aA (show OrdM.ins Op.bytesLess nm o=sF (k+1) by rw [uH J3,if_pos rfl,←uH HO])
      go_wp2
      go_loopw [9] (fun i wr2=>∃j:Nat,j≤o.length∧i=.int .i64 j∧Hid (j+j3 Op.bytesLess nm (o.drop j)=j3 Op.bytesLess nm o)∧w5=wr2) (fun i _=>o.length - (intOf i).toNat)
      case atStart=>exact ⟨0,Nat.zero_le _,rfl,aA (by simp),rfl⟩
      case round=>
       obtain ⟨j,hj,rfl,HJ,rfl⟩:=hrel
       by_cases hjl:j<o.length
       rotate_left
       have hje:j=o.length:=by omega
       have HAT:=aA (show j3 Op.bytesLess nm o=j by have:=aAS Op.bytesLess nm (l:=o) (k:=j) (by omega);have:=uH HJ;omega)
       clear HJ hje
       have hjn:¬(j:Int)<(o.length:Int):=by omega
       rotate_left
       have hcj:=(uH Gy).text hjl
       have hps:=xA Op.bytesLess nm hjl
       obtain ⟨y,hy⟩:∃y,o[j]=y:=⟨_,rfl⟩
       rw [hy] at hcj hps
       obtain ⟨bl,hbl⟩:∃b,Op.bytesLess (bs y).toList (bs nm).toList=b:=⟨_,rfl⟩
       have BJ:Op.bytesLess y nm=bl:=by rw [←hbl];simp [bs]
       rw [BJ] at hps
       have Zx:=aA hps
       clear hps hy BJ
       cases bl
       have HAT:=aA (show j3 Op.bytesLess nm o=j by have:=uH Zx;have:=uH HJ;simp at *;omega)
       clear HJ Zx
       rotate_left
       go_wp2
       go_roundw
       case rel=>exact ⟨j+1,by omega,by go_num,aA (by have:=uH Zx;have:=uH HJ;simp at *;omega),by first | rfl | trivial⟩
       case measure=>simp [intOf];omega
       all_goals
        go_wp2_with fail
        have hlo:=aHZ g o.length cap j (by have:=(uH Gy).block;obtain ⟨_,_,h,_⟩:=this;rw [List.length_map] at h;omega)
        have hhi:=aH0 g o.length cap j hj
        obtain ⟨NC1,hc1⟩:∃c,((o.map bs).take j).map Value.string=c:=⟨_,rfl⟩
        obtain ⟨NC2,hc2⟩:∃c,((o.map bs).drop j).map Value.string=c:=⟨_,rfl⟩
        have WM:=aA (show ∀wx:World,Kp w5 wx→∀i u,NC1[i]? = some u→wx.cell? (Addr.add ⟨g,0,none⟩ i)=some u from fun wx hb i u hu=>(uH Gy).lo hb j i u (by rw [hc1];exact hu))
        have fq:=aA (show ∀wx:World,Kp w5 wx→∀i u,NC2[i]? = some u→wx.cell? (Addr.add (hiA g cap j 1) i)=some u from fun wx hb i u hu=>(uH Gy).hi hb j i u (by rw [hc2];exact hu))
        have yz:=aA (show NC1.length=j*1 by rw [←hc1];simp;omega)
        have HL2:=aA (show NC2.length=(o.length - j)*1 by rw [←hc2];simp)
        have Zk:=aA (show ∀u ∈ NC1,u.oneCell'=true by rw [←hc1];exact l7 _)
        have GD:=aA (show ∀u ∈ NC2,u.oneCell'=true by rw [←hc2];exact l7 _)
        have Rz:=aA (show ∀u ∈ #[Value.string (bs nm)].toList,u.oneCell'=true from fun u hu=>by simp at hu;subst hu;rfl)
        have Z7:=aA hc1.symm
        have Zw:=aA hc2.symm
        have A0:=aA (Kp.new w5)
        have HS:=aA (aK w5)
        have GY:=aA (yB (uH HB1) (uH ZL))
        clear hc1 hc2
        refine wp_region_held_drew (S:=fun wx=>Kp w5 wx) (by kernel_rfl) ((uH HS).drew (uH A0)) (fun S0=>?_)
        refine tW 1 68 _ S0 ?_
        simp only [zW]
        refine tW 2 69 _ S0 ?_
        simp only [zW]
        refine mP (i:=3) (d:=some 70) (v:=.slice (some ⟨g,0,none⟩) j cap) rfl rfl (by kernel_rfl) (by kernel_rfl) (by kernel_rfl) (fun _ _ _ h=>h) (Or.inl ⟨by rfl,fun wz hz=>by (go_simp;try with_reducible rfl)⟩) S0 ?_
        try simp only [zW]
        refine tW 5 72 _ S0 ?_
        simp only [zW]
        refine tW 8 75 _ S0 ?_
        simp only [zW]
        refine tW 9 76 _ S0 ?_
        simp only [zW]
        refine mP (i:=10) (d:=some 77) (v:=.slice (some (hiA g cap j 1)) (o.length - j) (cap - j)) rfl rfl (by kernel_rfl) (by kernel_rfl) (by kernel_rfl) (fun _ _ _ h=>h) (Or.inl ⟨by rfl,fun wz hz=>by (go_simp;try with_reducible rfl)⟩) S0 ?_
        try simp only [zW]
        refine nS (SVT w5 g o.length cap j NC1 NC2 nm _ _ _ _ _ _ _ _ _ _ _ _ _ _ _ _ _ _ _ _ _ _ _ _ _ _ _ _ _ _ _ _ _ _ _ _ _ _ _ _ _ _ _ _ _ _ _ _ _ _ _ _ _ _ _ _ _ _ _ _ _ _ _ _ _ _ _ _ _ _) ?step ?fin 6 _ _ _ (.inl (⟨rfl,by kernel_rfl,rfl,S0⟩))
        case fin=>
         intro lz az wz hI
         rcases hI with h | h | h | h | h | h | h | h | h
         ·obtain ⟨hn,_⟩:=h
          cases hn
         ·obtain ⟨_,hn,_⟩:=h
          cases hn
         ·obtain ⟨_,hn,_⟩:=h
          cases hn
         ·obtain ⟨_,_,hn,_⟩:=h
          cases hn
         ·obtain ⟨_,_,hn,_⟩:=h
          cases hn
         ·obtain ⟨_,_,_,hn,_⟩:=h
          cases hn
         ·obtain ⟨_,_,_,_,hn,_⟩:=h
          cases hn
         ·obtain ⟨_,_,_,_,_,hn,_⟩:=h
          cases hn
         ·obtain ⟨g0,v1,gb,v2,v3,-,rfl,rfl,hr,kp⟩:=h
          refine ⟨by kernel_rfl,?_⟩
          obtain ⟨g2,cap2,rfl,hg2,Hq,hc2⟩:=hr.open
          have ZR:=aA (show OrdM.ins Op.bytesLess nm o=o.take j++nm::o.drop j by rw [xX,uH HAT])
          have Gx:(o.take j++nm::o.drop j).length=j+1+(o.length - j):=by simp;omega
          have RF:=aA (show SS wz g2 cap2 ((o.take j++nm::o.drop j).map bs) by
           unfold SS
           rw [List.length_map,Gx]
           have e:((o.take j++nm::o.drop j).map bs).map Value.string=NC1++[Value.string (bs nm)]++NC2:=by rw [uH Z7,uH Zw];simp
           rw [e]
           exact Hq)
          have WN:=aA (yB (uH ZL) kp)
          have hg3:w.heap.size<g2:=by have:=(uH GY).size;have:=(uH Gy).lt;omega
          clear Hq hr kp
          go_wp2
          go_roundw
          case rel=>exact ⟨k+1,g2,cap2,o.take j++nm::o.drop j,by omega,by go_num,by rw [Gx],by rw [Gx];omega,hg3,aA (by rw [←uH HP,uH ZR]),RF,WN⟩
          case measure=>simp [intOf];omega
        case step=>
         intro n lz az wz hI
         rcases hI with h | h | h | h | h | h | h | h | h
         ·obtain ⟨hn,rfl,rfl,kp⟩:=h
          obtain rfl:n=5:=by omega
          refine bO (rs:=[0,6]) (by kernel_rfl) (by simp) ?_
          refine aI.cons rfl (fun K hK=>?_) ?_
          ·go_simp
           go_wp2_with fail
           exact hK.out _ _ (yA kp _) (.inr (.inr (.inl (⟨wz.heap.size,rfl,rfl,rfl,qN kp,yA kp _⟩))))
          refine aI.cons rfl (fun K hK=>?_) ?_
          ·go_simp
           go_wp2_with fail
           exact hK.out _ _ (yA kp _) (.inr (.inl (⟨wz.heap.size,rfl,rfl,rfl,nZ kp _,yA kp _⟩)))
          exact aI.nil
         ·obtain ⟨gb,hn,rfl,rfl,hbx,kp⟩:=h
          obtain rfl:n=4:=by omega
          refine bO (rs:=[0]) (by kernel_rfl) (by simp) ?_
          refine aI.cons rfl (fun K hK=>?_) ?_
          ·go_simp
           go_wp2_with fail
           exact hK.out _ _ (yA kp _) (.inr (.inr (.inr (.inl (⟨wz.heap.size,gb,rfl,rfl,rfl,qN kp,hbx.al _,Nat.ne_of_lt hbx.lt,yA kp _⟩)))))
          exact aI.nil
         ·obtain ⟨g0,hn,rfl,rfl,hr,kp⟩:=h
          obtain rfl:n=4:=by omega
          refine bO (rs:=[4,6]) (by kernel_rfl) (by simp) ?_
          refine aI.cons rfl (fun K hK=>?_) ?_
          ·refine lJ (w1:=w5) rfl (.tmp 67) (.tmp 70) 41 rfl 9 i0 (.string ByteArray.empty) 1 16 Tryz.underlying41 hi hz0 hz1 hz2 rfl (by decide) (.slice (some ⟨g0,0,none⟩) 0 0) 0 [] rfl hr kp ⟨g,0,none⟩ j cap NC1 rfl (uH yz) (fun i u hu=>uH WM _ kp i u hu) (uH Zk) (by unfold maxLen;omega) (by omega) ?_
           intro v1 wz2 hr2 kp2 G6
           try simp only [zW]
           exact hK.out _ _ kp2 (.inr (.inr (.inr (.inr (.inl (⟨g0,v1,rfl,by kernel_rfl,rfl,aBJ hr2 (by omega) (List.nil_append _),kp2⟩))))))
          refine aI.cons rfl (fun K hK=>?_) ?_
          ·go_simp
           go_wp2_with fail
           exact hK.out _ _ (yA kp _) (.inr (.inr (.inr (.inl (⟨g0,wz.heap.size,rfl,rfl,rfl,hr.al _,nZ kp _,(Nat.ne_of_gt (by obtain ⟨q,q2,q3,q4,q5,q6⟩:=hr.open;cases q3;exact (World.ownsRow.lt q5 g0 rfl).2)),yA kp _⟩)))))
          exact aI.nil
         ·obtain ⟨g0,gb,hn,rfl,rfl,hr,hbx,hne,kp⟩:=h
          obtain rfl:n=3:=by omega
          refine bO (rs:=[4]) (by kernel_rfl) (by simp) ?_
          refine aI.cons rfl (fun K hK=>?_) ?_
          ·refine lJ (w1:=w5) rfl (.tmp 67) (.tmp 70) 41 rfl 9 i0 (.string ByteArray.empty) 1 16 Tryz.underlying41 hi hz0 hz1 hz2 rfl (by decide) (.slice (some ⟨g0,0,none⟩) 0 0) 0 [] rfl hr kp ⟨g,0,none⟩ j cap NC1 rfl (uH yz) (fun i u hu=>uH WM _ kp i u hu) (uH Zk) (by unfold maxLen;omega) (by omega) ?_
           intro v1 wz2 hr2 kp2 G6
           try simp only [zW]
           exact hK.out _ _ kp2 (.inr (.inr (.inr (.inr (.inr (.inl (⟨g0,v1,gb,rfl,by kernel_rfl,rfl,aBJ hr2 (by omega) (List.nil_append _),hbx.same (G6 gb hbx.lt (by simp [Value.ownBlock];omega)),kp2⟩)))))))
          exact aI.nil
         ·obtain ⟨g0,v1,hn,rfl,rfl,hr,kp⟩:=h
          obtain rfl:n=3:=by omega
          refine bO (rs:=[6]) (by kernel_rfl) (by simp) ?_
          refine aI.cons rfl (fun K hK=>?_) ?_
          ·go_simp
           go_wp2_with fail
           exact hK.out _ _ (yA kp _) (.inr (.inr (.inr (.inr (.inr (.inl (⟨g0,v1,wz.heap.size,rfl,rfl,rfl,hr.al _,nZ kp _,yA kp _⟩)))))))
          exact aI.nil
         ·obtain ⟨g0,v1,gb,hn,rfl,rfl,hr,hbx,kp⟩:=h
          obtain rfl:n=2:=by omega
          refine bO (rs:=[7]) (by kernel_rfl) (by simp) ?_
          refine aI.cons rfl (fun K hK=>?_) ?_
          ·refine lJ (w1:=w5) rfl (.tmp 71) (.tmp 73) 41 rfl 9 i0 (.string ByteArray.empty) 1 16 Tryz.underlying41 hi hz0 hz1 hz2 rfl (by decide) v1 j NC1 rfl hr kp ⟨gb,0,none⟩ 1 1 #[Value.string (bs nm)].toList rfl (by rfl) hbx.news (uH Rz) (by unfold maxLen;omega) (by omega) ?_
           intro v2 wz2 hr2 kp2 G6
           try simp only [zW]
           exact hK.out _ _ kp2 (.inr (.inr (.inr (.inr (.inr (.inr (.inl (⟨g0,v1,gb,v2,rfl,by kernel_rfl,rfl,hr2,kp2⟩))))))))
          exact aI.nil
         ·obtain ⟨g0,v1,gb,v2,hn,rfl,rfl,hr,kp⟩:=h
          obtain rfl:n=1:=by omega
          refine bO (rs:=[11]) (by kernel_rfl) (by simp) ?_
          refine aI.cons rfl (fun K hK=>?_) ?_
          ·refine lJ (w1:=w5) rfl (.tmp 74) (.tmp 77) 41 rfl 9 i0 (.string ByteArray.empty) 1 16 Tryz.underlying41 hi hz0 hz1 hz2 rfl (by decide) v2 (j+1) (NC1++#[Value.string (bs nm)].toList) rfl hr kp (hiA g cap j 1) (o.length - j) (cap - j) NC2 rfl (uH HL2) (fun i u hu=>uH fq _ kp i u hu) (uH GD) (by unfold maxLen;omega) (by omega) ?_
           intro v3 wz2 hr2 kp2 G6
           try simp only [zW]
           exact hK.out _ _ kp2 (.inr (.inr (.inr (.inr (.inr (.inr (.inr (.inl (⟨g0,v1,gb,v2,v3,rfl,by kernel_rfl,rfl,hr2,kp2⟩)))))))))
          exact aI.nil
         ·obtain ⟨g0,v1,gb,v2,v3,hn,rfl,rfl,hr,kp⟩:=h
          obtain rfl:n=0:=by omega
          refine bO (rs:=[12]) (by kernel_rfl) (by simp) ?_
          refine aI.cons rfl (fun K hK=>?_) ?_
          ·go_simp
           go_wp2_with fail
           exact hK.out _ _ kp (.inr (.inr (.inr (.inr (.inr (.inr (.inr (.inr (⟨g0,v1,gb,v2,v3,rfl,rfl,rfl,hr,kp⟩)))))))))
          exact aI.nil
         ·obtain ⟨_,_,_,_,_,hn,_⟩:=h
          cases hn
  ·have hkk:k=ql:=by omega
   subst hkk
   have HE:=aA (uH ZK k (by have:=uH VK;omega))
   have YX:w.heap.size≤g:=by omega
   go_wp2
   go_ret
   refine ⟨_,rfl,?_,uH HB2⟩
   rw [←uH HE,←uH HO]
   exact ((uH HW).own).base YX
end
end Go.Proofs.YtngkddhcmfbjnaaGreat
