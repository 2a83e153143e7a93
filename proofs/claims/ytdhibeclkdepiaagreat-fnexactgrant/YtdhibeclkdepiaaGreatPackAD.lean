/-
  Texts in one: AddC, VarB.
-/
import Derived.Test.YtdhibeclkdepiaaGreatPackAC
set_option maxRecDepth 100000
set_option maxHeartbeats 16000000
set_option linter.unusedVariables false
set_option linter.unusedSimpArgs false
namespace Go.Proofs.YtdhibeclkdepiaaGreat
section
open Go.RowKit
theorem owns_base {w:World} {B B' sz n:Nat} {t:TypeId} {v:Value} {xs:List Value} (h:w.ownsRow B t sz v n xs) (hb:B'≤B):w.ownsRow B' t sz v n xs:=by
 obtain ⟨h1,h2⟩:=h
 rcases h2 with h2 | ⟨g,cap,cur,e,hg,r⟩
 ·exact ⟨h1,.inl h2⟩
 ·exact ⟨h1,.inr ⟨g,cap,cur,e,Nat.le_trans hb hg,r⟩⟩
theorem placeC_step {id:Int} {l:List Con} {k:Nat} (h:k<l.length):placeC id (l.drop k)=if l[k].id<id then placeC id (l.drop (k+1))+1 else 0:=by
 rw [List.drop_eq_getElem_cons h,placeC]
theorem cutC_lo (g n cap k:Nat) (hk:k≤cap) (wx:World):(Instr.slice 32 (.slice (some ⟨g,0,none⟩) n cap) none (some (.int .i64 (k:Int))) none).run Tryz.prog wx=.ok (.slice (some ⟨g,0,none⟩) k cap) wx:=by
 rw [run_slice_h (P:=Tryz.prog) (w:=wx) 32 (some ⟨g,0,none⟩) n cap Tryz.underlying32 .i64 (k:Int) (by omega) (by omega)]
 rw [show (sizeOf (Tryz.prog.elem 32)).run Tryz.prog wx=.ok 5 wx from by kernel_rfl]
 simp [Result.andThen,sliced,Addr.add]
theorem cutC_hi (g n cap k:Nat) (hk:k≤n) (wx:World):(Instr.slice 32 (.slice (some ⟨g,0,none⟩) n cap) (some (.int .i64 (k:Int))) none none).run Tryz.prog wx=.ok (.slice (some (hiA g cap k 5)) (n - k) (cap - k)) wx:=by
 rw [run_slice_l (P:=Tryz.prog) (w:=wx) 32 (some ⟨g,0,none⟩) n cap Tryz.underlying32 .i64 (k:Int) (by omega) (by omega)]
 rw [show (sizeOf (Tryz.prog.elem 32)).run Tryz.prog wx=.ok 5 wx from by kernel_rfl]
 simp only [Result.andThen,sliced,Int.toNat_natCast,hiA]
 by_cases h:cap=k
 ·rw [if_pos h,if_pos h]
 ·rw [if_neg h,if_neg h]
  simp [Addr.add]
  try omega
def ADC0 (w1:World) (g n0 cap j g3:Nat) (NC1 NC2:List Value) (c0 c1:Int) (cn:List UInt8) (c3 c4:Int) (x6 x7 x8 x9 x10 x11 x12 x13 x14 x15 x16 x17 x18 x19 x20 x21:Value) (n:Nat) (lz:Array Bool) (az:Act) (wz:World):Prop:=(n=6∧lz=#[false,true,true,true,false,true,false,false,true,true,true,false,false]∧az = { tmps:=#[.slice (some ⟨g,0,none⟩) n0 cap,.agg #[.int .i64 c0,.int .i64 c1,.string (bs cn),.int .i64 c3,.int .i64 c4],undef,.pointer (some ⟨g3,0,none⟩),.slice none 0 0,.int .i64 (j:Int),x6,x7,x8,x9,x10,x11,x12,x13,x14,x15,x16,x17,x18,x19,x20,x21,undef,.slice (some ⟨g,0,none⟩) n0 cap,.int .i64 (j:Int),.slice (some ⟨g,0,none⟩) j cap,undef,.agg #[.int .i64 c0,.int .i64 c1,.string (bs cn),.int .i64 c3,.int .i64 c4],undef,undef,.slice (some ⟨g,0,none⟩) n0 cap,.int .i64 (j:Int),.slice (some (hiA g cap j 5)) (n0 - j) (cap - j),undef],defers:=[] }∧Kp w1 wz)
def ADC1 (w1:World) (g n0 cap j g3:Nat) (NC1 NC2:List Value) (c0 c1:Int) (cn:List UInt8) (c3 c4:Int) (x6 x7 x8 x9 x10 x11 x12 x13 x14 x15 x16 x17 x18 x19 x20 x21:Value) (n:Nat) (lz:Array Bool) (az:Act) (wz:World):Prop:=(∃gb:Nat,n=5∧lz=#[false,true,true,true,false,true,true,false,true,true,true,false,false]∧az = { tmps:=#[.slice (some ⟨g,0,none⟩) n0 cap,.agg #[.int .i64 c0,.int .i64 c1,.string (bs cn),.int .i64 c3,.int .i64 c4],undef,.pointer (some ⟨g3,0,none⟩),.slice none 0 0,.int .i64 (j:Int),x6,x7,x8,x9,x10,x11,x12,x13,x14,x15,x16,x17,x18,x19,x20,x21,undef,.slice (some ⟨g,0,none⟩) n0 cap,.int .i64 (j:Int),.slice (some ⟨g,0,none⟩) j cap,undef,.agg #[.int .i64 c0,.int .i64 c1,.string (bs cn),.int .i64 c3,.int .i64 c4],.slice (some ⟨gb,0,none⟩) 1 1,undef,.slice (some ⟨g,0,none⟩) n0 cap,.int .i64 (j:Int),.slice (some (hiA g cap j 5)) (n0 - j) (cap - j),undef],defers:=[] }∧IBox 38 w1 wz gb #[.int .i64 c0,.int .i64 c1,.string (bs cn),.int .i64 c3,.int .i64 c4]∧Kp w1 wz)
def ADC2 (w1:World) (g n0 cap j g3:Nat) (NC1 NC2:List Value) (c0 c1:Int) (cn:List UInt8) (c3 c4:Int) (x6 x7 x8 x9 x10 x11 x12 x13 x14 x15 x16 x17 x18 x19 x20 x21:Value) (n:Nat) (lz:Array Bool) (az:Act) (wz:World):Prop:=(∃g0:Nat,n=5∧lz=#[true,true,true,true,false,true,false,false,true,true,true,false,false]∧az = { tmps:=#[.slice (some ⟨g,0,none⟩) n0 cap,.agg #[.int .i64 c0,.int .i64 c1,.string (bs cn),.int .i64 c3,.int .i64 c4],undef,.pointer (some ⟨g3,0,none⟩),.slice none 0 0,.int .i64 (j:Int),x6,x7,x8,x9,x10,x11,x12,x13,x14,x15,x16,x17,x18,x19,x20,x21,.slice (some ⟨g0,0,none⟩) 0 0,.slice (some ⟨g,0,none⟩) n0 cap,.int .i64 (j:Int),.slice (some ⟨g,0,none⟩) j cap,undef,.agg #[.int .i64 c0,.int .i64 c1,.string (bs cn),.int .i64 c3,.int .i64 c4],undef,undef,.slice (some ⟨g,0,none⟩) n0 cap,.int .i64 (j:Int),.slice (some (hiA g cap j 5)) (n0 - j) (cap - j),undef],defers:=[] }∧IRow 38 5 w1.heap.size wz (.slice (some ⟨g0,0,none⟩) 0 0) 0 []∧Kp w1 wz)
def ADC3 (w1:World) (g n0 cap j g3:Nat) (NC1 NC2:List Value) (c0 c1:Int) (cn:List UInt8) (c3 c4:Int) (x6 x7 x8 x9 x10 x11 x12 x13 x14 x15 x16 x17 x18 x19 x20 x21:Value) (n:Nat) (lz:Array Bool) (az:Act) (wz:World):Prop:=(∃g0:Nat,∃gb:Nat,n=4∧lz=#[true,true,true,true,false,true,true,false,true,true,true,false,false]∧az = { tmps:=#[.slice (some ⟨g,0,none⟩) n0 cap,.agg #[.int .i64 c0,.int .i64 c1,.string (bs cn),.int .i64 c3,.int .i64 c4],undef,.pointer (some ⟨g3,0,none⟩),.slice none 0 0,.int .i64 (j:Int),x6,x7,x8,x9,x10,x11,x12,x13,x14,x15,x16,x17,x18,x19,x20,x21,.slice (some ⟨g0,0,none⟩) 0 0,.slice (some ⟨g,0,none⟩) n0 cap,.int .i64 (j:Int),.slice (some ⟨g,0,none⟩) j cap,undef,.agg #[.int .i64 c0,.int .i64 c1,.string (bs cn),.int .i64 c3,.int .i64 c4],.slice (some ⟨gb,0,none⟩) 1 1,undef,.slice (some ⟨g,0,none⟩) n0 cap,.int .i64 (j:Int),.slice (some (hiA g cap j 5)) (n0 - j) (cap - j),undef],defers:=[] }∧IRow 38 5 w1.heap.size wz (.slice (some ⟨g0,0,none⟩) 0 0) 0 []∧IBox 38 w1 wz gb #[.int .i64 c0,.int .i64 c1,.string (bs cn),.int .i64 c3,.int .i64 c4]∧gb≠g0∧Kp w1 wz)
def ADC4 (w1:World) (g n0 cap j g3:Nat) (NC1 NC2:List Value) (c0 c1:Int) (cn:List UInt8) (c3 c4:Int) (x6 x7 x8 x9 x10 x11 x12 x13 x14 x15 x16 x17 x18 x19 x20 x21:Value) (n:Nat) (lz:Array Bool) (az:Act) (wz:World):Prop:=(∃g0:Nat,∃v1:Value,n=4∧lz=#[true,true,true,true,true,true,false,false,true,true,true,false,false]∧az = { tmps:=#[.slice (some ⟨g,0,none⟩) n0 cap,.agg #[.int .i64 c0,.int .i64 c1,.string (bs cn),.int .i64 c3,.int .i64 c4],undef,.pointer (some ⟨g3,0,none⟩),.slice none 0 0,.int .i64 (j:Int),x6,x7,x8,x9,x10,x11,x12,x13,x14,x15,x16,x17,x18,x19,x20,x21,.slice (some ⟨g0,0,none⟩) 0 0,.slice (some ⟨g,0,none⟩) n0 cap,.int .i64 (j:Int),.slice (some ⟨g,0,none⟩) j cap,v1,.agg #[.int .i64 c0,.int .i64 c1,.string (bs cn),.int .i64 c3,.int .i64 c4],undef,undef,.slice (some ⟨g,0,none⟩) n0 cap,.int .i64 (j:Int),.slice (some (hiA g cap j 5)) (n0 - j) (cap - j),undef],defers:=[] }∧IRow 38 5 w1.heap.size wz v1 j NC1∧Kp w1 wz)
def ADC5 (w1:World) (g n0 cap j g3:Nat) (NC1 NC2:List Value) (c0 c1:Int) (cn:List UInt8) (c3 c4:Int) (x6 x7 x8 x9 x10 x11 x12 x13 x14 x15 x16 x17 x18 x19 x20 x21:Value) (n:Nat) (lz:Array Bool) (az:Act) (wz:World):Prop:=(∃g0:Nat,∃v1:Value,∃gb:Nat,n=3∧lz=#[true,true,true,true,true,true,true,false,true,true,true,false,false]∧az = { tmps:=#[.slice (some ⟨g,0,none⟩) n0 cap,.agg #[.int .i64 c0,.int .i64 c1,.string (bs cn),.int .i64 c3,.int .i64 c4],undef,.pointer (some ⟨g3,0,none⟩),.slice none 0 0,.int .i64 (j:Int),x6,x7,x8,x9,x10,x11,x12,x13,x14,x15,x16,x17,x18,x19,x20,x21,.slice (some ⟨g0,0,none⟩) 0 0,.slice (some ⟨g,0,none⟩) n0 cap,.int .i64 (j:Int),.slice (some ⟨g,0,none⟩) j cap,v1,.agg #[.int .i64 c0,.int .i64 c1,.string (bs cn),.int .i64 c3,.int .i64 c4],.slice (some ⟨gb,0,none⟩) 1 1,undef,.slice (some ⟨g,0,none⟩) n0 cap,.int .i64 (j:Int),.slice (some (hiA g cap j 5)) (n0 - j) (cap - j),undef],defers:=[] }∧IRow 38 5 w1.heap.size wz v1 j NC1∧IBox 38 w1 wz gb #[.int .i64 c0,.int .i64 c1,.string (bs cn),.int .i64 c3,.int .i64 c4]∧Kp w1 wz)
def ADC6 (w1:World) (g n0 cap j g3:Nat) (NC1 NC2:List Value) (c0 c1:Int) (cn:List UInt8) (c3 c4:Int) (x6 x7 x8 x9 x10 x11 x12 x13 x14 x15 x16 x17 x18 x19 x20 x21:Value) (n:Nat) (lz:Array Bool) (az:Act) (wz:World):Prop:=(∃g0:Nat,∃v1:Value,∃gb:Nat,∃v2:Value,n=2∧lz=#[true,true,true,true,true,true,true,true,true,true,true,false,false]∧az = { tmps:=#[.slice (some ⟨g,0,none⟩) n0 cap,.agg #[.int .i64 c0,.int .i64 c1,.string (bs cn),.int .i64 c3,.int .i64 c4],undef,.pointer (some ⟨g3,0,none⟩),.slice none 0 0,.int .i64 (j:Int),x6,x7,x8,x9,x10,x11,x12,x13,x14,x15,x16,x17,x18,x19,x20,x21,.slice (some ⟨g0,0,none⟩) 0 0,.slice (some ⟨g,0,none⟩) n0 cap,.int .i64 (j:Int),.slice (some ⟨g,0,none⟩) j cap,v1,.agg #[.int .i64 c0,.int .i64 c1,.string (bs cn),.int .i64 c3,.int .i64 c4],.slice (some ⟨gb,0,none⟩) 1 1,v2,.slice (some ⟨g,0,none⟩) n0 cap,.int .i64 (j:Int),.slice (some (hiA g cap j 5)) (n0 - j) (cap - j),undef],defers:=[] }∧IRow 38 5 w1.heap.size wz v2 (j+1) (NC1++#[.int .i64 c0,.int .i64 c1,.string (bs cn),.int .i64 c3,.int .i64 c4].toList)∧Kp w1 wz)
def ADC7 (w1:World) (g n0 cap j g3:Nat) (NC1 NC2:List Value) (c0 c1:Int) (cn:List UInt8) (c3 c4:Int) (x6 x7 x8 x9 x10 x11 x12 x13 x14 x15 x16 x17 x18 x19 x20 x21:Value) (n:Nat) (lz:Array Bool) (az:Act) (wz:World):Prop:=(∃g0:Nat,∃v1:Value,∃gb:Nat,∃v2:Value,∃v3:Value,n=1∧lz=#[true,true,true,true,true,true,true,true,true,true,true,true,false]∧az = { tmps:=#[.slice (some ⟨g,0,none⟩) n0 cap,.agg #[.int .i64 c0,.int .i64 c1,.string (bs cn),.int .i64 c3,.int .i64 c4],undef,.pointer (some ⟨g3,0,none⟩),.slice none 0 0,.int .i64 (j:Int),x6,x7,x8,x9,x10,x11,x12,x13,x14,x15,x16,x17,x18,x19,x20,x21,.slice (some ⟨g0,0,none⟩) 0 0,.slice (some ⟨g,0,none⟩) n0 cap,.int .i64 (j:Int),.slice (some ⟨g,0,none⟩) j cap,v1,.agg #[.int .i64 c0,.int .i64 c1,.string (bs cn),.int .i64 c3,.int .i64 c4],.slice (some ⟨gb,0,none⟩) 1 1,v2,.slice (some ⟨g,0,none⟩) n0 cap,.int .i64 (j:Int),.slice (some (hiA g cap j 5)) (n0 - j) (cap - j),v3],defers:=[] }∧IRow 38 5 w1.heap.size wz v3 (j+1+(n0 - j)) (NC1++#[.int .i64 c0,.int .i64 c1,.string (bs cn),.int .i64 c3,.int .i64 c4].toList++NC2)∧Kp w1 wz)
def ADC8 (w1:World) (g n0 cap j g3:Nat) (NC1 NC2:List Value) (c0 c1:Int) (cn:List UInt8) (c3 c4:Int) (x6 x7 x8 x9 x10 x11 x12 x13 x14 x15 x16 x17 x18 x19 x20 x21:Value) (n:Nat) (lz:Array Bool) (az:Act) (wz:World):Prop:=(∃g0:Nat,∃v1:Value,∃gb:Nat,∃v2:Value,∃v3:Value,n=0∧lz=#[true,true,true,true,true,true,true,true,true,true,true,true,true]∧az = { tmps:=#[.slice (some ⟨g,0,none⟩) n0 cap,.agg #[.int .i64 c0,.int .i64 c1,.string (bs cn),.int .i64 c3,.int .i64 c4],undef,.pointer (some ⟨g3,0,none⟩),v3,.int .i64 (j:Int),x6,x7,x8,x9,x10,x11,x12,x13,x14,x15,x16,x17,x18,x19,x20,x21,.slice (some ⟨g0,0,none⟩) 0 0,.slice (some ⟨g,0,none⟩) n0 cap,.int .i64 (j:Int),.slice (some ⟨g,0,none⟩) j cap,v1,.agg #[.int .i64 c0,.int .i64 c1,.string (bs cn),.int .i64 c3,.int .i64 c4],.slice (some ⟨gb,0,none⟩) 1 1,v2,.slice (some ⟨g,0,none⟩) n0 cap,.int .i64 (j:Int),.slice (some (hiA g cap j 5)) (n0 - j) (cap - j),v3],defers:=[] }∧IRow 38 5 w1.heap.size wz v3 (j+1+(n0 - j)) (NC1++#[.int .i64 c0,.int .i64 c1,.string (bs cn),.int .i64 c3,.int .i64 c4].toList++NC2)∧Kp w1 wz)
def ADC (w1:World) (g n0 cap j g3:Nat) (NC1 NC2:List Value) (c0 c1:Int) (cn:List UInt8) (c3 c4:Int) (x6 x7 x8 x9 x10 x11 x12 x13 x14 x15 x16 x17 x18 x19 x20 x21:Value) (n:Nat) (lz:Array Bool) (az:Act) (wz:World):Prop:=ADC0 w1 g n0 cap j g3 NC1 NC2 c0 c1 cn c3 c4 x6 x7 x8 x9 x10 x11 x12 x13 x14 x15 x16 x17 x18 x19 x20 x21 n lz az wz∨ADC1 w1 g n0 cap j g3 NC1 NC2 c0 c1 cn c3 c4 x6 x7 x8 x9 x10 x11 x12 x13 x14 x15 x16 x17 x18 x19 x20 x21 n lz az wz∨ADC2 w1 g n0 cap j g3 NC1 NC2 c0 c1 cn c3 c4 x6 x7 x8 x9 x10 x11 x12 x13 x14 x15 x16 x17 x18 x19 x20 x21 n lz az wz∨ADC3 w1 g n0 cap j g3 NC1 NC2 c0 c1 cn c3 c4 x6 x7 x8 x9 x10 x11 x12 x13 x14 x15 x16 x17 x18 x19 x20 x21 n lz az wz∨ADC4 w1 g n0 cap j g3 NC1 NC2 c0 c1 cn c3 c4 x6 x7 x8 x9 x10 x11 x12 x13 x14 x15 x16 x17 x18 x19 x20 x21 n lz az wz∨ADC5 w1 g n0 cap j g3 NC1 NC2 c0 c1 cn c3 c4 x6 x7 x8 x9 x10 x11 x12 x13 x14 x15 x16 x17 x18 x19 x20 x21 n lz az wz∨ADC6 w1 g n0 cap j g3 NC1 NC2 c0 c1 cn c3 c4 x6 x7 x8 x9 x10 x11 x12 x13 x14 x15 x16 x17 x18 x19 x20 x21 n lz az wz∨ADC7 w1 g n0 cap j g3 NC1 NC2 c0 c1 cn c3 c4 x6 x7 x8 x9 x10 x11 x12 x13 x14 x15 x16 x17 x18 x19 x20 x21 n lz az wz∨ADC8 w1 g n0 cap j g3 NC1 NC2 c0 c1 cn c3 c4 x6 x7 x8 x9 x10 x11 x12 x13 x14 x15 x16 x17 x18 x19 x20 x21 n lz az wz
theorem l05Add_any (g n cap:Nat) (l:List Con) (q:Con) (w:World) (h:ConRow w (some ⟨g,0,none⟩) n l) (hnc:n≤cap) (hl:n≤1048576) :
  Calls Tryz.prog 58 #[.slice (some ⟨g,0,none⟩) n cap,conv q] w fun e w'=>∃v,e=.returned v∧Hid (COwn w.heap.size w' v (insC l q))∧Hid (v≠.slice none 0 0)∧Hid (Below w.heap.size w w'):=by
 obtain ⟨c0,c1,cn,c3,c4⟩:=q
 have HLN:=hide h.1
 have hb1:=yA (Below.refl _ w) (.cells #[.int .i64 c0,.int .i64 c1,.string (bs cn),.int .i64 c3,.int .i64 c4] 38)
 have R1:=hide (h.below hb1)
 have G1:=hide (yD w #[.int .i64 c0,.int .i64 c1,.string (bs cn),.int .i64 c3,.int .i64 c4] 38)
 have B1:=hide hb1
 clear h hb1
 obtain ⟨g3,hg3⟩:∃g,w.heap.size=g:=⟨_,rfl⟩
 rw [hg3] at G1
 go_enter Tryz.func58,Tryz.ntmps58
 go_wp2_with fail
 clear hg3
 generalize w.alloc (.cells #[.int .i64 c0,.int .i64 c1,.string (bs cn),.int .i64 c3,.int .i64 c4] 38)=w1 at R1 G1 B1 ⊢
 go_loopw [5] (fun i wr=>∃k:Nat,k≤n∧i=.int .i64 k∧Hid (placeC c0 l=k+placeC c0 (l.drop k))∧Hid (Below w1.heap.size w1 wr)) (fun i _=>n - (intOf i).toNat)
 case atStart=>exact ⟨0,Nat.zero_le _,rfl,hide (by simp),hide (Below.refl _ _)⟩
 case round=>
  obtain ⟨k,hk,rfl,HP,BZ⟩:=hrel
  have G2:=hide ((uH G1).below (uH BZ))
  have R2:=hide ((uH R1).below (uH BZ))
  have A0:=hide (Kp.new wr)
  have HS:=hide (kp_holds wr)
  have HB:=hide (show ∃bt:Bool,(bt=true→k<n∧placeC c0 l=((k+1:Nat):Nat)+placeC c0 (l.drop (k+1)))∧(bt=false→placeC c0 l=k)∧(∀hk2:k<l.length,k<n→bt=decide (l[k].id<c0))∧(¬k<n→bt=false) from by
   by_cases hlt:k<n
   ·have hkl:k<l.length:=by have:=uH HLN;omega
    have hs:=placeC_step (id:=c0) hkl
    have hp:=uH HP
    by_cases hc:l[k].id<c0
    ·rw [if_pos hc] at hs
     exact ⟨true,fun _=>⟨hlt,by omega⟩,(fun e=>by cases e),fun _ _=>by simp [hc],fun e=>absurd hlt e⟩
    ·rw [if_neg hc] at hs
     exact ⟨false,(fun e=>by cases e),fun _=>by omega,fun _ _=>by simp [hc],fun e=>absurd hlt e⟩
   ·have hp:=uH HP
    rw [List.drop_of_length_le (by have:=uH HLN;omega)] at hp
    exact ⟨false,(fun e=>by cases e),fun _=>by simpa [placeC] using hp,fun _ e=>absurd e hlt,fun _=>rfl⟩)
  obtain ⟨bt,hb1,hb2,hb3,hb4⟩:=uH HB
  have HB1:=hide hb1
  have HB2:=hide hb2
  have HB3:=hide hb3
  have HB4:=hide hb4
  clear HB hb1 hb2 hb3 hb4 HP
  go_upto_region 2 with fail
  go_cut [19] from 6 to 18 (fun v19 wx=>v19=.bool bt∧Hid (Below wr.heap.size wr wx))
  case first=>
   refine wp_region_held_drew (S:=fun wx=>Kp wr wx) (by kernel_rfl) ((uH HS).drew (uH A0)) (fun S0=>?_)
   generalize wr.drew=wn at S0 ⊢
   by_cases hlt:k<n
   ·have hkl:k<l.length:=by have:=uH HLN;omega
    have hv:=uH HB3 hkl hlt
    have hid:=((uH R2).at hlt)
    obtain ⟨b',off',he,hq⟩:=hid
    cases he
    have d0:=(hq hkl).1
    obtain ⟨x,hx⟩:∃x,l[k].id=x:=⟨_,rfl⟩
    rw [hx] at d0 hv
    have q0:=(uH G2).at 0
    simp at q0
    have R:∀wx,Kp wr wx→wx.cell? ⟨g,0+k*5,none⟩=some (.int .i64 x)∧wx.cell? ⟨g,k*5,none⟩=some (.int .i64 x)∧wx.cell? ⟨g3,0,none⟩=some (.int .i64 c0):=fun wx h=>⟨h.cell d0,by have:=h.cell d0;rwa [Nat.zero_add] at this,h.cell q0⟩
    have k0:(0:Int)≤k:=by omega
    have k1:(k:Int)<n:=by omega
    clear hq d0 q0 hx
    refine takeW 0 6 _ rfl rfl S0 ?_
    try simp only [Act.put,sA,sB,sC]
    refine takeW 1 7 _ rfl rfl S0 ?_
    try simp only [Act.put,sA,sB,sC]
    refine takeW 2 8 _ rfl rfl S0 ?_
    try simp only [Act.put,sA,sB,sC]
    refine takeW 3 9 (.bool true) rfl rfl S0 ?_
    try simp only [Act.put,sA,sB,sC]
    refine takeW 4 10 _ rfl rfl S0 ?_
    try simp only [Act.put,sA,sB,sC]
    refine takeW 5 11 _ rfl rfl S0 ?_
    try simp only [Act.put,sA,sB,sC]
    refine takeW 6 12 _ rfl rfl S0 ?_
    try simp only [Act.put,sA,sB,sC]
    refine takeW 7 13 (.pointer (some ⟨g,k*5,none⟩)) rfl rfl S0 ?_
    try simp only [Act.put,sA,sB,sC]
    refine takeW 8 14 (.pointer (some ⟨g,k*5,none⟩)) rfl rfl S0 ?_
    try simp only [Act.put,sA,sB,sC]
    refine takeW 9 15 (.int .i64 x) rfl rfl S0 ?_ (hy:=Or.inl ⟨by rfl,fun wz hz=>by (have hr:=R wz hz;clear R;go_simp)⟩)
    try simp only [Act.put,sA,sB,sC]
    refine takeW 10 16 _ rfl rfl S0 ?_
    try simp only [Act.put,sA,sB,sC]
    refine takeW 11 17 (.int .i64 c0) rfl rfl S0 ?_ (hy:=Or.inl ⟨by rfl,fun wz hz=>by (have hr:=R wz hz;clear R;go_simp)⟩)
    try simp only [Act.put,sA,sB,sC]
    refine takeW 12 18 (.bool bt) rfl rfl S0 ?_ (hy:=Or.inl ⟨by rfl,fun wz hz=>by (subst hv;go_simp)⟩)
    try simp only [Act.put,sA,sB,sC]
    refine takeW 13 19 (.bool bt) rfl rfl S0 ?_
    try simp only [Act.put,sA,sB,sC]
    refine wpAnyH_done (by kernel_rfl) ?_ _
    go_wp2_with fail
    go_meet
    exact ⟨rfl,hide S0⟩
   ·have hv:=uH HB4 hlt
    have k1:¬(k:Int)<n:=by omega
    subst hv
    refine takeW 0 6 _ rfl rfl S0 ?_
    try simp only [Act.put,sA,sB,sC]
    refine takeW 1 7 _ rfl rfl S0 ?_
    try simp only [Act.put,sA,sB,sC]
    refine takeW 2 8 _ rfl rfl S0 ?_
    try simp only [Act.put,sA,sB,sC]
    refine takeW 3 9 (.bool false) rfl rfl S0 ?_
    try simp only [Act.put,sA,sB,sC]
    refine takeW 4 10 _ rfl rfl S0 ?_
    try simp only [Act.put,sA,sB,sC]
    refine takeU 5 11 rfl rfl S0 ?_
    try simp only [Act.put,sA,sB,sC]
    refine takeU 6 12 rfl rfl S0 ?_
    try simp only [Act.put,sA,sB,sC]
    refine takeU 7 13 rfl rfl S0 ?_
    try simp only [Act.put,sA,sB,sC]
    refine takeU 8 14 rfl rfl S0 ?_
    try simp only [Act.put,sA,sB,sC]
    refine takeU 9 15 rfl rfl S0 ?_
    try simp only [Act.put,sA,sB,sC]
    refine takeU 10 16 rfl rfl S0 ?_
    try simp only [Act.put,sA,sB,sC]
    refine takeU 11 17 rfl rfl S0 ?_
    try simp only [Act.put,sA,sB,sC]
    refine takeU 12 18 rfl rfl S0 ?_
    try simp only [Act.put,sA,sB,sC]
    refine takeW 13 19 (.bool false) rfl rfl S0 ?_
    try simp only [Act.put,sA,sB,sC]
    refine wpAnyH_done (by kernel_rfl) ?_ _
    go_wp2_with fail
    go_meet
    exact ⟨rfl,hide S0⟩
  case rest=>
   obtain ⟨rfl,hbz⟩:=hcut
   have BY:=hide (yB (uH BZ) (uH hbz))
   have G3:=hide ((uH G2).below (uH hbz))
   have R3:=hide ((uH R2).below (uH hbz))
   obtain ⟨w2,rfl⟩:∃z,z=wc:=⟨_,rfl⟩
   clear hbz BZ G2 R2 A0 HS HB3 HB4
   cases bt with
   | true=>
    obtain ⟨hlt,hp⟩:=uH HB1 rfl
    have HPN:=hide hp
    clear hp HB1 HB2
    go_wp2
    go_roundw
    case rel=>exact ⟨k+1,by omega,by go_num,HPN,BY⟩
    case measure=>simp [intOf];omega
   | false=>
    have HPK:=hide (uH HB2 rfl)
    clear HB1 HB2
    obtain ⟨i0,hi,hz0,hz1,hz2⟩:=info_parts Tryz.infoCont
    obtain ⟨j,rfl⟩:∃j,j=k:=⟨_,rfl⟩
    have B2:=hide (yB (uH B1) (uH BY))
    have HIN:=hide (show insC l ⟨c0,c1,cn,c3,c4⟩=l.take j++⟨c0,c1,cn,c3,c4⟩::l.drop j by unfold insC;simp only;rw [uH HPK])
    have hjl:j≤l.length:=by have:=uH HLN;omega
    have hlo:=cutC_lo g n cap j (by omega)
    have hhi:=cutC_hi g n cap j hk
    obtain ⟨NC1,hc1⟩:∃c,ccells (l.take j)=c:=⟨_,rfl⟩
    obtain ⟨NC2,hc2⟩:∃c,ccells (l.drop j)=c:=⟨_,rfl⟩
    have HLO:=hide (show ∀wx:World,Kp w2 wx→∀i u,NC1[i]? = some u→wx.cell? (Addr.add ⟨g,0,none⟩ i)=some u from fun wx hb i u hu=>by
     rw [Lib.add_plain]
     refine ccells_row ((uH R3).below hb) i u ?_
     rw [ccells_split l j,hc1,List.getElem?_append_left (List.getElem?_eq_some_iff.1 hu).1]
     exact hu)
    have HL1:=hide (show NC1.length=j*5 by rw [←hc1];exact ccells_take_len l hjl)
    have HL2:=hide (show NC2.length=(n - j)*5 by rw [←hc2,ccells_drop_len,uH HLN])
    have HHI:=hide (show ∀wx:World,Kp w2 wx→∀i u,NC2[i]? = some u→wx.cell? (Addr.add (hiA g cap j 5) i)=some u from fun wx hb i u hu=>by
     have hlt:=(List.getElem?_eq_some_iff.1 hu).1
     rw [uH HL2] at hlt
     rw [hiA_at (by omega)]
     have h1:=ccells_row ((uH R3).below hb) (j*5+i) u (by
      rw [ccells_split l j,hc1,hc2,List.getElem?_append_right (by rw [uH HL1];omega),uH HL1,Nat.add_sub_cancel_left]
      exact hu)
     rwa [Nat.zero_add] at h1)
    have HO1:=hide (show ∀u ∈ NC1,u.oneCell'=true by rw [←hc1];exact ccells_one _)
    have HO2:=hide (show ∀u ∈ NC2,u.oneCell'=true by rw [←hc2];exact ccells_one _)
    have HOX:=hide (show ∀u ∈ (#[.int .i64 c0,.int .i64 c1,.string (bs cn),.int .i64 c3,.int .i64 c4]:Array Value).toList,u.oneCell'=true from fun u hu=>ccells_one [⟨c0,c1,cn,c3,c4⟩] u (by simpa [ccells,ccell] using hu))
    have HC1:=hide hc1.symm
    have HC2:=hide hc2.symm
    have A0:=hide (Kp.new w2)
    have HS:=hide (kp_holds w2)
    clear hc1 hc2 HPK R3 R1 G1 B1 BY hjl
    go_upto_region 4 with fail
    refine wp_region_held_drew (S:=fun wx=>Kp w2 wx) (by kernel_rfl) ((uH HS).drew (uH A0)) (fun S0=>?_)
    refine takeW 1 23 _ rfl rfl S0 ?_
    try simp only [Act.put,sA,sB,sC]
    refine takeW 2 24 _ rfl rfl S0 ?_
    try simp only [Act.put,sA,sB,sC]
    refine takeW 3 25 (.slice (some ⟨g,0,none⟩) j cap) rfl rfl S0 ?_ (hy:=Or.inl ⟨by rfl,fun wz hz=>run_v (hlo wz)⟩)
    try simp only [Act.put,sA,sB,sC]
    refine takeW 5 27 (.agg #[.int .i64 c0,.int .i64 c1,.string (bs cn),.int .i64 c3,.int .i64 c4]) rfl rfl S0 ?_ (hy:=Or.inl ⟨by rfl,fun wz hz=>run_v (cont_load ((uH G3).below hz) rfl)⟩)
    try simp only [Act.put,sA,sB,sC]
    refine takeW 8 30 _ rfl rfl S0 ?_
    try simp only [Act.put,sA,sB,sC]
    refine takeW 9 31 _ rfl rfl S0 ?_
    try simp only [Act.put,sA,sB,sC]
    refine takeW 10 32 (.slice (some (hiA g cap j 5)) (n - j) (cap - j)) rfl rfl S0 ?_ (hy:=Or.inl ⟨by rfl,fun wz hz=>run_v (hhi wz)⟩)
    try simp only [Act.put,sA,sB,sC]
    refine wpAnyH_inv (ADC w2 g n cap j g3 NC1 NC2 c0 c1 cn c3 c4 _ _ _ _ _ _ _ _ _ _ _ _ _ _ _ _) ?step ?fin 6 _ _ _ (.inl (⟨rfl,by kernel_rfl,rfl,S0⟩))
    case fin=>
     intro lz az wz hI
     rcases hI with h | h | h | h | h | h | h | h | h
     ·obtain ⟨hn,_⟩:=h
      cases hn
     ·obtain ⟨_,hn,_⟩:=h
      cases hn
     ·obtain ⟨_,hn,_⟩:=h
      cases hn
     ·obtain ⟨_,_,hn,_⟩:=h
      cases hn
     ·obtain ⟨_,_,hn,_⟩:=h
      cases hn
     ·obtain ⟨_,_,_,hn,_⟩:=h
      cases hn
     ·obtain ⟨_,_,_,_,hn,_⟩:=h
      cases hn
     ·obtain ⟨_,_,_,_,_,hn,_⟩:=h
      cases hn
     ·obtain ⟨g0,v1,gb,v2,v3,-,rfl,rfl,hr,kp⟩:=h
      refine ⟨by kernel_rfl,?_⟩
      have HOW:=hide (show COwn w.heap.size wz v3 (insC l ⟨c0,c1,cn,c3,c4⟩) from by
       have h1:=hr.1
       have e:NC1++#[.int .i64 c0,.int .i64 c1,.string (bs cn),.int .i64 c3,.int .i64 c4].toList++NC2=ccells (insC l ⟨c0,c1,cn,c3,c4⟩):=by
        rw [uH HC1,uH HC2,uH HIN,ccells_ins]
        simp
       rw [e] at h1
       unfold COwn
       rw [insC_len,←uH HLN,show n+1=j+1+(n - j) by omega]
       exact owns_base h1 (uH B2).size)
      have HNE:=hide hr.2
      have B9:=hide (yB (uH B2) kp)
      clear hr kp
      go_wp2
      go_ret
      exact ⟨v3,rfl,HOW,HNE,B9⟩
    case step=>
     intro n lz az wz hI
     rcases hI with h | h | h | h | h | h | h | h | h
     ·obtain ⟨hn,rfl,rfl,kp⟩:=h
      obtain rfl:n=5:=by omega
      refine ready_step (rs:=[0,6]) (by kernel_rfl) (by simp) ?_
      refine AllReadyI.cons rfl (fun K hK=>?_) ?_
      ·go_simp
       go_wp2_with fail
       exact hK.out _ _ (yA kp _) (.inr (.inr (.inl (⟨wz.heap.size,rfl,rfl,rfl,irow_new kp,yA kp _⟩))))
      refine AllReadyI.cons rfl (fun K hK=>?_) ?_
      ·go_simp
       go_wp2_with fail
       exact hK.out _ _ (yA kp _) (.inr (.inl (⟨wz.heap.size,rfl,rfl,rfl,ibox_new kp _,yA kp _⟩)))
      exact AllReadyI.nil
     ·obtain ⟨gb,hn,rfl,rfl,hbx,kp⟩:=h
      obtain rfl:n=4:=by omega
      refine ready_step (rs:=[0]) (by kernel_rfl) (by simp) ?_
      refine AllReadyI.cons rfl (fun K hK=>?_) ?_
      ·go_simp
       go_wp2_with fail
       exact hK.out _ _ (yA kp _) (.inr (.inr (.inr (.inl (⟨wz.heap.size,gb,rfl,rfl,rfl,irow_new kp,hbx.al _,Nat.ne_of_lt hbx.lt,yA kp _⟩)))))
      exact AllReadyI.nil
     ·obtain ⟨g0,hn,rfl,rfl,hr,kp⟩:=h
      obtain rfl:n=4:=by omega
      refine ready_step (rs:=[4,6]) (by kernel_rfl) (by simp) ?_
      refine AllReadyI.cons rfl (fun K hK=>?_) ?_
      ·refine ins_app (w1:=w2) rfl (.tmp 22) (.tmp 25) 32 rfl 38 i0 (.agg #[.int .i64 0,.int .i64 0,.string ByteArray.empty,.int .i64 0,.int .i64 0]) 5 48 Tryz.underlying32 hi hz0 hz1 hz2 rfl (by decide) (.slice (some ⟨g0,0,none⟩) 0 0) 0 [] rfl hr kp ⟨g,0,none⟩ j cap NC1 rfl (uH HL1) (fun i u hu=>uH HLO _ kp i u hu) (uH HO1) (by unfold maxLen;omega) (by omega) ?_
       intro v1 wz2 hr2 kp2 hsame
       try simp only [Act.put,sA,sB,sC]
       exact hK.out _ _ kp2 (.inr (.inr (.inr (.inr (.inl (⟨g0,v1,rfl,by kernel_rfl,rfl,owns_re hr2 (by omega) (List.nil_append _),kp2⟩))))))
      refine AllReadyI.cons rfl (fun K hK=>?_) ?_
      ·go_simp
       go_wp2_with fail
       exact hK.out _ _ (yA kp _) (.inr (.inr (.inr (.inl (⟨g0,wz.heap.size,rfl,rfl,rfl,hr.al _,ibox_new kp _,(Nat.ne_of_gt (by obtain ⟨q,q2,q3,q4,q5,q6⟩:=hr.open;cases q3;exact (World.ownsRow.lt q5 g0 rfl).2)),yA kp _⟩)))))
      exact AllReadyI.nil
     ·obtain ⟨g0,gb,hn,rfl,rfl,hr,hbx,hne,kp⟩:=h
      obtain rfl:n=3:=by omega
      refine ready_step (rs:=[4]) (by kernel_rfl) (by simp) ?_
      refine AllReadyI.cons rfl (fun K hK=>?_) ?_
      ·refine ins_app (w1:=w2) rfl (.tmp 22) (.tmp 25) 32 rfl 38 i0 (.agg #[.int .i64 0,.int .i64 0,.string ByteArray.empty,.int .i64 0,.int .i64 0]) 5 48 Tryz.underlying32 hi hz0 hz1 hz2 rfl (by decide) (.slice (some ⟨g0,0,none⟩) 0 0) 0 [] rfl hr kp ⟨g,0,none⟩ j cap NC1 rfl (uH HL1) (fun i u hu=>uH HLO _ kp i u hu) (uH HO1) (by unfold maxLen;omega) (by omega) ?_
       intro v1 wz2 hr2 kp2 hsame
       try simp only [Act.put,sA,sB,sC]
       exact hK.out _ _ kp2 (.inr (.inr (.inr (.inr (.inr (.inl (⟨g0,v1,gb,rfl,by kernel_rfl,rfl,owns_re hr2 (by omega) (List.nil_append _),hbx.same (hsame gb hbx.lt (by simp [Value.ownBlock];omega)),kp2⟩)))))))
      exact AllReadyI.nil
     ·obtain ⟨g0,v1,hn,rfl,rfl,hr,kp⟩:=h
      obtain rfl:n=3:=by omega
      refine ready_step (rs:=[6]) (by kernel_rfl) (by simp) ?_
      refine AllReadyI.cons rfl (fun K hK=>?_) ?_
      ·go_simp
       go_wp2_with fail
       exact hK.out _ _ (yA kp _) (.inr (.inr (.inr (.inr (.inr (.inl (⟨g0,v1,wz.heap.size,rfl,rfl,rfl,hr.al _,ibox_new kp _,yA kp _⟩)))))))
      exact AllReadyI.nil
     ·obtain ⟨g0,v1,gb,hn,rfl,rfl,hr,hbx,kp⟩:=h
      obtain rfl:n=2:=by omega
      refine ready_step (rs:=[7]) (by kernel_rfl) (by simp) ?_
      refine AllReadyI.cons rfl (fun K hK=>?_) ?_
      ·refine ins_app (w1:=w2) rfl (.tmp 26) (.tmp 28) 32 rfl 38 i0 (.agg #[.int .i64 0,.int .i64 0,.string ByteArray.empty,.int .i64 0,.int .i64 0]) 5 48 Tryz.underlying32 hi hz0 hz1 hz2 rfl (by decide) v1 j NC1 rfl hr kp ⟨gb,0,none⟩ 1 1 #[.int .i64 c0,.int .i64 c1,.string (bs cn),.int .i64 c3,.int .i64 c4].toList rfl (by rfl) hbx.news (uH HOX) (by unfold maxLen;omega) (by omega) ?_
       intro v2 wz2 hr2 kp2 hsame
       try simp only [Act.put,sA,sB,sC]
       exact hK.out _ _ kp2 (.inr (.inr (.inr (.inr (.inr (.inr (.inl (⟨g0,v1,gb,v2,rfl,by kernel_rfl,rfl,hr2,kp2⟩))))))))
      exact AllReadyI.nil
     ·obtain ⟨g0,v1,gb,v2,hn,rfl,rfl,hr,kp⟩:=h
      obtain rfl:n=1:=by omega
      refine ready_step (rs:=[11]) (by kernel_rfl) (by simp) ?_
      refine AllReadyI.cons rfl (fun K hK=>?_) ?_
      ·refine ins_app (w1:=w2) rfl (.tmp 29) (.tmp 32) 32 rfl 38 i0 (.agg #[.int .i64 0,.int .i64 0,.string ByteArray.empty,.int .i64 0,.int .i64 0]) 5 48 Tryz.underlying32 hi hz0 hz1 hz2 rfl (by decide) v2 (j+1) (NC1++#[.int .i64 c0,.int .i64 c1,.string (bs cn),.int .i64 c3,.int .i64 c4].toList) rfl hr kp (hiA g cap j 5) (n - j) (cap - j) NC2 rfl (uH HL2) (fun i u hu=>uH HHI _ kp i u hu) (uH HO2) (by unfold maxLen;omega) (by omega) ?_
       intro v3 wz2 hr2 kp2 hsame
       try simp only [Act.put,sA,sB,sC]
       exact hK.out _ _ kp2 (.inr (.inr (.inr (.inr (.inr (.inr (.inr (.inl (⟨g0,v1,gb,v2,v3,rfl,by kernel_rfl,rfl,hr2,kp2⟩)))))))))
      exact AllReadyI.nil
     ·obtain ⟨g0,v1,gb,v2,v3,hn,rfl,rfl,hr,kp⟩:=h
      obtain rfl:n=0:=by omega
      refine ready_step (rs:=[12]) (by kernel_rfl) (by simp) ?_
      refine AllReadyI.cons rfl (fun K hK=>?_) ?_
      ·go_simp
       go_wp2_with fail
       exact hK.out _ _ kp (.inr (.inr (.inr (.inr (.inr (.inr (.inr (.inr (⟨g0,v1,gb,v2,v3,rfl,rfl,rfl,hr,kp⟩)))))))))
      exact AllReadyI.nil
     ·obtain ⟨_,_,_,_,_,hn,_⟩:=h
      cases hn
def VB (w1 w:World) (g:Nat) (x y:Int):Prop:=w1.heap.size≤g∧Var w 36 g x y
theorem VB.below {w1 w w':World} {g:Nat} {x y:Int} (h:VB w1 w g x y) (hb:Below w.heap.size w w'):VB w1 w' g x y:=⟨h.1,h.2.below hb⟩
theorem VB.al {w1 w:World} {g:Nat} {x y:Int} (h:VB w1 w g x y) (o:Obj):VB w1 (w.alloc o) g x y:=⟨h.1,h.2.al o⟩
theorem VB.ne {w1 w:World} {g:Nat} {x y:Int} (h:VB w1 w g x y):g≠w.heap.size:=Nat.ne_of_lt h.2.lt
theorem vb_new {w1 w:World} (h:Below w1.heap.size w1 w):VB w1 (w.alloc (.cells #[.int .i64 0,.int .i64 0] 36)) w.heap.size 0 0:=⟨h.size,var_new w _ 0 0⟩
theorem VB.set {w1 w:World} {g:Nat} {a b:Int} (h:VB w1 w g a b) (x y:Int):VB w1 ((w.setCell ⟨g,0,none⟩ (.int .i64 x)).setCell ⟨g,1,none⟩ (.int .i64 y)) g x y:=⟨h.1,h.2.set x y⟩
theorem VB.off {w1 w:World} {g k:Nat} {a b:Int} (h:VB w1 w g a b) (hn:g≠k) {u v:Value}:VB w1 ((w.setCell ⟨k,0,none⟩ u).setCell ⟨k,1,none⟩ v) g a b:=⟨h.1,(h.2.other k 0 u hn).other k 1 v hn⟩
theorem VB.kp {w1 w:World} {g:Nat} {a b:Int} (h:VB w1 w g a b) (hk:Below w1.heap.size w1 w) {u v:Value}:Below w1.heap.size w1 ((w.setCell ⟨g,0,none⟩ u).setCell ⟨g,1,none⟩ v):=yC (yC hk _ _ _ h.1) _ _ _ h.1
end
end Go.Proofs.YtdhibeclkdepiaaGreat
