/-
  Several texts of this claim in one, made short by program: Base, In, Grow, ResV, Res, RatioS, LessRatioS, FracI, ResI, PairI, Var4, RatioP, KnownI, OfK.
-/
import Derived.Test.YtdhibeclkdepiaaGreatRows
import Derived.WalkKit
import Derived.WalkSpells
import Derived.WalkLawsBesides
import Derived.BigQuiet
import Derived.Maps.OwnSet
import Derived.Maps.Views
import Derived.DeepKeys4
import Derived.Deep.RegionHeld3
set_option maxRecDepth 100000
set_option maxHeartbeats 16000000
set_option linter.unusedVariables false
set_option linter.unusedSimpArgs false
namespace Go.Proofs.YtdhibeclkdepiaaGreat
section
open Go.RowKit
theorem hide {p:Prop} (h:p):Hid p:=h
theorem sA {α : Type _} (l : List α) (i : Nat) (a : α) : l.toArray.setIfInBounds i a = (l.set i a).toArray := List.setIfInBounds_toArray ..
theorem sB {α : Type _} (x : α) (l : List α) (a : α) : (x :: l).set 0 a = a :: l := rfl
theorem sC {α : Type _} (x : α) (l : List α) (n : Nat) (a : α) : (x :: l).set (n + 1) a = x :: l.set n a := rfl
theorem uH {p:Prop} (h:Hid p):p:=h
theorem yF {a b:Bool} (h:a=b):Ending.returned (.bool a)=.returned (.bool b):=by rw [h]
theorem ret_int {k:IntKind} {a b:Int} (h:a=b):Ending.returned (.int k a)=.returned (.int k b):=by rw [h]
theorem byte_le (c:UInt8):(c.toNat:Int)≤255:=by have:=c.toNat_lt;omega
def inB (x a b:Int):Bool:=decide (a≤x∧x≤b)
theorem inB_true {x a b:Int} (h1:a≤x) (h2:x≤b):inB x a b=true:=by simp [inB,h1,h2]
theorem inB_false {x a b:Int} (h:¬(a≤x∧x≤b)):inB x a b=false:=by simp only [inB,decide_eq_false_iff_not];exact h
theorem str_eq {a b:ByteArray} (h:a=b):Value.string a=.string b:=by rw [h]
theorem ret_str {a b:ByteArray} (h:a=b):Ending.returned (.string a)=.returned (.string b):=by rw [h]
def bs (l:List UInt8):ByteArray:=⟨l.toArray⟩
theorem bs_size (l:List UInt8):(bs l).size=l.length:=by simp [bs,ByteArray.size]
theorem cons_bs (c:UInt8) (l:List UInt8):(ByteArray.mk #[c])++bs l=bs (c::l):=by
 unfold bs;rw [ByteArray.mk_append_mk];simp
theorem take_snoc (s:ByteArray) (k:Nat) (h:k<s.size):s.data.toList.take (k+1)=s.data.toList.take k++[s[k]]:=by
 rw [List.take_succ_eq_append_getElem (by simpa using h)];rfl
theorem take_all (s:ByteArray) (k:Nat) (h:s.size≤k):s.data.toList.take k=s.data.toList:=List.take_of_length_le (by simpa using h)
theorem len_eq (s:ByteArray):s.data.toList.length=s.size:=by simp
theorem l01In_any (x a b:Int) (w:World) :
  Calls Tryz.prog 42 #[.int .i64 x,.int .i64 a,.int .i64 b] w fun e w'=>e=.returned (.bool (inB x a b))∧w=w':=by
 by_cases h1:a≤x
 ·by_cases h2:x≤b
  ·go_enter Tryz.func42,Tryz.ntmps42
   go_wp2
   go_ret
   exact ⟨yF (inB_true h1 h2).symm,rfl⟩
  ·go_enter Tryz.func42,Tryz.ntmps42
   go_wp2
   go_ret
   exact ⟨yF (inB_false (by omega)).symm,rfl⟩
 ·go_enter Tryz.func42,Tryz.ntmps42
  go_wp2
  go_ret
  exact ⟨yF (inB_false (by omega)).symm,rfl⟩
theorem grownBy_refl (w:World) (r:Option Nat):w.grownBy w r:=⟨rfl,rfl,rfl,Nat.le_refl _,fun _ _ _=>rfl⟩
theorem grownBy_trans {w w1 w2:World} {r:Option Nat} (h:w.grownBy w1 r) (k:w1.grownBy w2 r):w.grownBy w2 r:=
 ⟨k.os.trans h.os,k.tape.trans h.tape,k.output.trans h.output,Nat.le_trans h.size k.size,fun i hi hn=>(k.block i (Nat.lt_of_lt_of_le hi h.size) hn).trans (h.block i hi hn)⟩
theorem grownBy_below {w w1 w2:World} {r:Option Nat} (h:w.grownBy w1 r) (hb:Below w1.heap.size w1 w2):w.grownBy w2 r:=
 ⟨hb.os.trans h.os,hb.tape.trans h.tape,hb.output.trans h.output,Nat.le_trans h.size hb.size,fun k hk hn=>(hb.block k (Nat.lt_of_lt_of_le hk h.size)).trans (h.block k hk hn)⟩
theorem grownBy_set {w w1:World} {g:Nat} (h:w.grownBy w1 (some g)) (j:Nat) (v:Value):w.grownBy (w1.setCell ⟨g,j,none⟩ v) (some g):=
 ⟨h.os,h.tape,h.output,by simpa using h.size,fun k hk hn=>by
  rw [heap_setCell_other w1 ⟨g,j,none⟩ k v (fun e=>hn (by rw [e]))]
  exact h.block k hk hn⟩
theorem below_grownBy {B:Nat} {a w w':World} {g:Nat} (h:Below B a w) (hg:w.grownBy w' (some g)) (hB:B≤w.heap.size) (hr:B≤g):Below B a w':=h.grown hg hB (fun k hk=>by cases hk;exact hr)
theorem yG {w:World} {b o:Nat} {v:Value} (h:w.cell? ⟨b,o,none⟩=some v):b<w.heap.size:=
 Nat.lt_of_not_le (fun hle=>by simp [World.cell?,Array.getElem?_eq_none hle] at h)
abbrev rv (a b:Int):Value:=.agg #[.int .i64 a,.int .i64 b]
def resOk (a b:Int):Bool:=inB a 0 1000000000&&inB b 0 1000000000
theorem resOk_bd {a b:Int} (h:resOk a b=true):0≤a∧a≤1000000000∧0≤b∧b≤1000000000:=by
 simp only [resOk,inB,Bool.and_eq_true,decide_eq_true_eq] at h
 omega
theorem yA {w w1:World} (h:Below w.heap.size w w1) (o:Obj):Below w.heap.size w (w1.alloc o):=h.alloc h.size o
theorem yC {w w1:World} (h:Below w.heap.size w w1) (b j:Nat) (v:Value) (hb:w.heap.size≤b):Below w.heap.size w (w1.setCell ⟨b,j,none⟩ v):=h.setCell hb v
theorem yB {w w1 w2:World} (h:Below w.heap.size w w1) (k:Below w1.heap.size w1 w2):Below w.heap.size w w2:=Below.trans h (k.mono h.size)
def Var (w:World) (t:TypeId) (g:Nat) (x y:Int):Prop:=w.heap[g]? = some (.cells #[.int .i64 x,.int .i64 y] t (0,0))
theorem Var.c0 {w:World} {t:TypeId} {g:Nat} {x y:Int} (h:Var w t g x y):w.cell? ⟨g,0,none⟩=some (.int .i64 x):=by unfold Var at h;simp [World.cell?,h]
theorem Var.c1 {w:World} {t:TypeId} {g:Nat} {x y:Int} (h:Var w t g x y):w.cell? ⟨g,1,none⟩=some (.int .i64 y):=by unfold Var at h;simp [World.cell?,h]
theorem Var.f {w:World} {t:TypeId} {g:Nat} {x y:Int} (h:Var w t g x y) (j:Nat):w.frozen? ⟨g,j,none⟩=false:=by unfold Var at h;simp [World.frozen?,h]
theorem Var.lt {w:World} {t:TypeId} {g:Nat} {x y:Int} (h:Var w t g x y):g<w.heap.size:=lt_of_block h
theorem Var.same {w w':World} {t:TypeId} {g:Nat} {x y:Int} (h:Var w t g x y) (e:w'.heap[g]? = w.heap[g]?):Var w' t g x y:=e.trans h
theorem Var.below {w w':World} {t:TypeId} {g:Nat} {x y:Int} (h:Var w t g x y) (hb:Below w.heap.size w w'):Var w' t g x y:=(hb.block g h.lt).trans h
theorem var_new (w:World) (t:TypeId) (x y:Int):Var (w.alloc (.cells #[.int .i64 x,.int .i64 y] t)) t w.heap.size x y:=by show (w.heap.push _)[w.heap.size]? = _;simp
theorem var_new2 (w:World) (t u:TypeId) (a b x y:Int):Var ((w.alloc (.cells #[.int .i64 a,.int .i64 b] t)).alloc (.cells #[.int .i64 x,.int .i64 y] u)) u (w.heap.size+1) x y:=by
 have:=var_new (w.alloc (.cells #[.int .i64 a,.int .i64 b] t)) u x y
 simpa using this
theorem Var.s0 {w:World} {t:TypeId} {g:Nat} {x y:Int} (h:Var w t g x y) (u:Value):(w.setCell ⟨g,0,none⟩ u).cell? ⟨g,0,none⟩=some u:=World.cell?_setCell_same w _ _ h.c0
theorem Var.s1 {w:World} {t:TypeId} {g:Nat} {x y:Int} (h:Var w t g x y) (u v:Value):((w.setCell ⟨g,0,none⟩ u).setCell ⟨g,1,none⟩ v).cell? ⟨g,1,none⟩=some v:=by
 refine World.cell?_setCell_same _ _ _ (u:=.int .i64 y) ?_
 have h1:=heap_setCell_same w g 0 _ _ u h
 simp [World.cell?,h1]
theorem Var.set {w:World} {t:TypeId} {g:Nat} {a b:Int} (h:Var w t g a b) (x y:Int):Var ((w.setCell ⟨g,0,none⟩ (.int .i64 x)).setCell ⟨g,1,none⟩ (.int .i64 y)) t g x y:=by
 have h1:=heap_setCell_same w g 0 _ _ (.int .i64 x) h
 exact heap_setCell_same _ g 1 _ _ (.int .i64 y) h1
theorem Var.al {w:World} {t:TypeId} {g:Nat} {x y:Int} (h:Var w t g x y) (o:Obj):Var (w.alloc o) t g x y:=h.below (yA (Below.refl _ _) o)
theorem Var.drew {w:World} {t:TypeId} {g:Nat} {x y:Int} (h:Var w t g x y):Var w.drew t g x y:=h
theorem Var.other {w:World} {t:TypeId} {g:Nat} {x y:Int} (h:Var w t g x y) (k j:Nat) (v:Value) (hn:g≠k):Var (w.setCell ⟨k,j,none⟩ v) t g x y:=h.same (heap_setCell_other w ⟨k,j,none⟩ g v hn)
def Boxed (w0:World) (t:TypeId) (a b:Int) (wx:World):Prop:=Var wx t w0.heap.size a b∧Below w0.heap.size w0 wx
theorem Boxed.new (w0:World) (t:TypeId) (a b:Int):Boxed w0 t a b (w0.alloc (.cells #[.int .i64 a,.int .i64 b] t)):=⟨var_new w0 t a b,yA (Below.refl _ _) _⟩
theorem Boxed.call {w0 w1 w2:World} {t:TypeId} {a b:Int} (h:Boxed w0 t a b w1) (hb:Below w1.heap.size w1 w2):Boxed w0 t a b w2:=⟨h.1.below hb,yB h.2 hb⟩
theorem Boxed.drew {w0 w1:World} {t:TypeId} {a b:Int} (h:Boxed w0 t a b w1):Boxed w0 t a b w1.drew:=h.call (Below.refl _ _).drew
theorem Boxed.read (w0:World) (t:TypeId) (a b:Int):∀wx,Boxed w0 t a b wx→wx.cell? ⟨w0.heap.size,0,none⟩=some (.int .i64 a)∧wx.cell? ⟨w0.heap.size,1,none⟩=some (.int .i64 b):=fun wx h=>⟨h.1.c0,h.1.c1⟩
theorem specResOk_any (a b:Int) (w:World) :
  Calls Tryz.prog 94 #[rv a b] w fun e w'=>e=.returned (.bool (resOk a b))∧w'=w.alloc (.cells #[.int .i64 a,.int .i64 b] 36):=by
 cases h1:inB a 0 1000000000
 ·go_enter Tryz.func94,Tryz.ntmps94
  go_wp2_with (go_at_call 42;refine (l01In_any _ _ _ _).mono ?_;rintro e w' ⟨rfl,rfl⟩)
  go_ret
  exact ⟨yF (by simp [resOk,h1]),rfl⟩
 ·go_enter Tryz.func94,Tryz.ntmps94
  go_wp2_with (go_at_call 42;refine (l01In_any _ _ _ _).mono ?_;rintro e w' ⟨rfl,rfl⟩)
  go_ret
  exact ⟨yF (by simp [resOk,h1]),rfl⟩
theorem specResOk_bel (a b:Int) (w:World) :
  Calls Tryz.prog 94 #[rv a b] w fun e w'=>e=.returned (.bool (resOk a b))∧Below w.heap.size w w':=
 (specResOk_any a b w).mono fun e w' h=>⟨h.1,by rw [h.2];exact yA (Below.refl _ _) _⟩
def part (u d:Int):Int×Int:=if 0<d then (u,d) else if 0<u then (1,0) else (0,1)
def less (a b c d:Int):Bool:=if b=0 then false else if d=0 then true else decide (a*d<c*b)
def ratio (a b c d:Int):Int×Int:=if resOk a b&&resOk c d then (if less (part a c).1 (part a c).2 (part b d).1 (part b d).2 then part b d else part a c) else (0,1)
def Small (x:Int):Prop:=0≤x∧x≤1000000000
theorem small_mul {a b:Int} (ha:Small a) (hb:Small b):0≤a*b∧a*b≤1000000000000000000:=
 ⟨Int.mul_nonneg ha.1 hb.1,Int.le_trans (Int.mul_le_mul ha.2 hb.2 hb.1 (by decide)) (by decide)⟩
theorem part_small {u d:Int} (hu:Small u) (hd:Small d):Small (part u d).1∧Small (part u d).2:=by
 unfold part Small at *
 split
 ·exact ⟨hu,hd⟩
 ·split<;>simp
theorem resOk_small {a b:Int} (h:resOk a b=true):Small a∧Small b:=by
 have:=resOk_bd h
 exact ⟨⟨this.1,this.2.1⟩,this.2.2⟩
theorem ratio_small (a b c d:Int):Small (ratio a b c d).1∧Small (ratio a b c d).2:=by
 unfold ratio
 split
 ·rename_i h
  simp only [Bool.and_eq_true] at h
  obtain ⟨s1,s2⟩:=resOk_small h.1
  obtain ⟨s3,s4⟩:=resOk_small h.2
  split
  ·exact part_small s2 s4
  ·exact part_small s1 s3
 ·exact ⟨by unfold Small;simp,by unfold Small;simp⟩
theorem specPart_any (u d:Int) (w:World) :
  Calls Tryz.prog 209 #[.int .i64 u,.int .i64 d] w fun e w'=>e=.returned (.tuple #[.int .i64 (part u d).1,.int .i64 (part u d).2])∧w'=w:=by
 by_cases h1:0<d
 ·rw [show part u d=(u,d) from if_pos h1]
  go_enter Tryz.func209,Tryz.ntmps209
  go_wp2
  go_ret2
  exact ⟨rfl,rfl⟩
 ·by_cases h2:0<u
  ·rw [show part u d=(1,0) by simp [part,h1,h2]]
   go_enter Tryz.func209,Tryz.ntmps209
   go_wp2
   go_ret2
   exact ⟨rfl,rfl⟩
  ·rw [show part u d=(0,1) by simp [part,h1,h2]]
   go_enter Tryz.func209,Tryz.ntmps209
   go_wp2
   go_ret2
   exact ⟨rfl,rfl⟩
theorem specLess_any (a b c d:Int) (w:World) (ha:Small a) (hb:Small b) (hc:Small c) (hd:Small d) :
  Calls Tryz.prog 199 #[.int .i64 a,.int .i64 b,.int .i64 c,.int .i64 d] w fun e w'=>e=.returned (.bool (less a b c d))∧w'=w:=by
 obtain ⟨m1,m2⟩:=small_mul ha hd
 obtain ⟨m3,m4⟩:=small_mul hc hb
 by_cases h1:b=0
 ·rw [show less a b c d=false from if_pos h1]
  go_enter Tryz.func199,Tryz.ntmps199
  go_wp2
  go_ret
  exact ⟨rfl,rfl⟩
 ·by_cases h2:d=0
  ·rw [show less a b c d=true by simp [less,h1,h2]]
   go_enter Tryz.func199,Tryz.ntmps199
   go_wp2
   go_ret
   exact ⟨rfl,rfl⟩
  ·rw [show less a b c d=decide (a*d<c*b) by simp [less,h1,h2]]
   go_enter Tryz.func199,Tryz.ntmps199
   go_wp2
   go_ret
   exact ⟨rfl,rfl⟩
theorem specRatio_any (a b c d:Int) (w:World) :
  Calls Tryz.prog 198 #[rv a b,rv c d] w fun e w'=>e=.returned (.tuple #[.int .i64 (ratio a b c d).1,.int .i64 (ratio a b c d).2])∧Below w.heap.size w w':=by
 cases h1:resOk a b
 ·rw [show ratio a b c d=(0,1) by simp [ratio,h1]]
  go_enter Tryz.func198,Tryz.ntmps198
  go_wp2_with (go_at_call 94;refine (specResOk_any _ _ _).mono ?_;rintro e w' ⟨rfl,rfl⟩)
  go_ret2
  refine ⟨rfl,?_⟩
  repeat (first | exact Below.refl _ _ | refine yA ?_ _ | refine Below.drew ?_ | refine yC ?_ _ _ _ (by omega))
 ·cases h2:resOk c d
  ·rw [show ratio a b c d=(0,1) by simp [ratio,h2]]
   go_enter Tryz.func198,Tryz.ntmps198
   go_wp2_with (go_at_call 94;refine (specResOk_any _ _ _).mono ?_;rintro e w' ⟨rfl,rfl⟩)
   go_ret2
   refine ⟨rfl,?_⟩
   repeat (first | exact Below.refl _ _ | refine yA ?_ _ | refine Below.drew ?_ | refine yC ?_ _ _ _ (by omega))
  ·obtain ⟨s1,s2⟩:=resOk_small h1
   obtain ⟨s3,s4⟩:=resOk_small h2
   obtain ⟨p1,p2⟩:=part_small s1 s3
   obtain ⟨p3,p4⟩:=part_small s2 s4
   cases h3:less (part a c).1 (part a c).2 (part b d).1 (part b d).2
   ·rw [show ratio a b c d=part a c by simp [ratio,h1,h2,h3]]
    go_enter Tryz.func198,Tryz.ntmps198
    go_wp2_with (first | (go_at_call 94;refine (specResOk_any _ _ _).mono ?_;rintro e w' ⟨rfl,rfl⟩) | (go_at_call 209;refine (specPart_any _ _ _).mono ?_;rintro e w' ⟨rfl,rfl⟩) | (go_at_call 199;refine (specLess_any _ _ _ _ _ p1 p2 p3 p4).mono ?_;rintro e w' ⟨rfl,rfl⟩))
    go_ret2
    refine ⟨rfl,?_⟩
    repeat (first | exact Below.refl _ _ | refine yA ?_ _ | refine Below.drew ?_ | refine yC ?_ _ _ _ (by omega))
   ·rw [show ratio a b c d=part b d by simp [ratio,h1,h2,h3]]
    go_enter Tryz.func198,Tryz.ntmps198
    go_wp2_with (first | (go_at_call 94;refine (specResOk_any _ _ _).mono ?_;rintro e w' ⟨rfl,rfl⟩) | (go_at_call 209;refine (specPart_any _ _ _).mono ?_;rintro e w' ⟨rfl,rfl⟩) | (go_at_call 199;refine (specLess_any _ _ _ _ _ p1 p2 p3 p4).mono ?_;rintro e w' ⟨rfl,rfl⟩))
    go_ret2
    refine ⟨rfl,?_⟩
    repeat (first | exact Below.refl _ _ | refine yA ?_ _ | refine Below.drew ?_ | refine yC ?_ _ _ _ (by omega))
def lessR (a b c d e f g h:Int):Bool:=less (ratio a b c d).1 (ratio a b c d).2 (ratio e f g h).1 (ratio e f g h).2
theorem specLessRatio_any (a b c d e f g h:Int) (w:World) :
  Calls Tryz.prog 184 #[rv a b,rv c d,rv e f,rv g h] w fun o w'=>o=.returned (.bool (lessR a b c d e f g h))∧Below w.heap.size w w':=by
 obtain ⟨p1,p2⟩:=ratio_small a b c d
 obtain ⟨p3,p4⟩:=ratio_small e f g h
 have V3:=((var_new ((w.alloc (.cells #[.int .i64 a,.int .i64 b] 36)).alloc (.cells #[.int .i64 c,.int .i64 d] 36)) 36 e f).al (.cells #[.int .i64 g,.int .i64 h] 36))
 have V4:=var_new (((w.alloc (.cells #[.int .i64 a,.int .i64 b] 36)).alloc (.cells #[.int .i64 c,.int .i64 d] 36)).alloc (.cells #[.int .i64 e,.int .i64 f] 36)) 36 g h
 have HV3:=hide V3
 have HV4:=hide V4
 clear V3 V4
 go_enter Tryz.func184,Tryz.ntmps184
 go_wp2_with fail
 refine (specRatio_any _ _ _ _ _).mono ?_
 rintro o w1 ⟨rfl,hb⟩
 have V3:=(uH HV3).below hb
 have V4:=(uH HV4).below hb
 simp at V3 V4
 have a1:=V3.c0
 have a2:=V3.c1
 have a3:=V4.c0
 have a4:=V4.c1
 have HB:=hide (yB (yA (yA (yA (yA (Below.refl _ _) _) _) _) _) hb)
 clear hb HV3 HV4 V3 V4
 go_wp2_with fail
 refine (specRatio_any _ _ _ _ _).mono ?_
 rintro o w2 ⟨rfl,hb⟩
 have HB2:=hide (yB (uH HB) hb)
 clear hb HB a1 a2 a3 a4
 go_wp2_with fail
 refine (specLess_any _ _ _ _ _ p1 p2 p3 p4).mono ?_
 rintro o w3 ⟨rfl,rfl⟩
 go_wp2
 go_ret
 exact ⟨rfl,uH HB2⟩
abbrev fv (p:Int×Int):Value:=rv p.1 p.2
def Frac (x y:Int):Prop:=Small x∧Small y∧(y=0→x=1)
theorem part_frac {u d:Int} (hu:Small u) (hd:Small d):Frac (part u d).1 (part u d).2:=by
 refine ⟨(part_small hu hd).1,(part_small hu hd).2,?_⟩
 unfold part
 split
 ·intro h;simp at h;omega
 ·split<;>simp
theorem ratio_frac (a b c d:Int):Frac (ratio a b c d).1 (ratio a b c d).2:=by
 unfold ratio
 split
 ·rename_i h
  simp only [Bool.and_eq_true] at h
  obtain ⟨s1,s2⟩:=resOk_small h.1
  obtain ⟨s3,s4⟩:=resOk_small h.2
  split
  ·exact part_frac s2 s4
  ·exact part_frac s1 s3
 ·exact ⟨by unfold Small;simp,by unfold Small;simp,by simp⟩
theorem less_cross {a b c d:Int} (h1:Frac a b) (h2:Frac c d):less a b c d=decide (a*d<c*b):=by
 obtain ⟨⟨a0,a1⟩,⟨b0,b1⟩,k1⟩:=h1
 obtain ⟨⟨c0,c1⟩,⟨d0,d1⟩,k2⟩:=h2
 unfold less
 split
 ·rename_i hb
  subst hb
  rw [k1 rfl]
  simp;omega
 ·split
  ·rename_i hb hd
   subst hd
   rw [k2 rfl]
   simp;omega
  ·rfl
theorem fractionOf_any (u d:Int) (w:World) :
  Calls Tryz.prog 212 #[.int .i64 u,.int .i64 d] w fun e w'=>e=.returned (fv (part u d))∧Below w.heap.size w w':=by
 by_cases h1:0<d
 ·rw [show part u d=(u,d) from if_pos h1]
  go_enter Tryz.func212,Tryz.ntmps212
  go_wp2
  refine bodyPost_ret (v:=rv u d) (by simp [results,Tryz.results212,go_sem]) rfl ⟨rfl,?_⟩
  repeat (first | exact Below.refl _ _ | refine yA ?_ _ | refine Below.drew ?_ | refine yC ?_ _ _ _ (by omega))
 ·by_cases h2:0<u
  ·rw [show part u d=(1,0) by simp [part,h1,h2]]
   go_enter Tryz.func212,Tryz.ntmps212
   go_wp2
   refine bodyPost_ret (v:=rv 1 0) (by simp [results,Tryz.results212,go_sem]) rfl ⟨rfl,?_⟩
   repeat (first | exact Below.refl _ _ | refine yA ?_ _ | refine Below.drew ?_ | refine yC ?_ _ _ _ (by omega))
  ·rw [show part u d=(0,1) by simp [part,h1,h2]]
   go_enter Tryz.func212,Tryz.ntmps212
   go_wp2
   refine bodyPost_ret (v:=rv 0 1) (by simp [results,Tryz.results212,go_sem]) rfl ⟨rfl,?_⟩
   repeat (first | exact Below.refl _ _ | refine yA ?_ _ | refine Below.drew ?_ | refine yC ?_ _ _ _ (by omega))
theorem fracLess_any (a b c d:Int) (w:World) (h1:Frac a b) (h2:Frac c d) :
  Calls Tryz.prog 202 #[rv a b,rv c d] w fun e w'=>e=.returned (.bool (less a b c d))∧Below w.heap.size w w':=by
 obtain ⟨m1,m2⟩:=small_mul h1.1 h2.2.1
 obtain ⟨m3,m4⟩:=small_mul h2.1 h1.2.1
 rw [less_cross h1 h2]
 clear h1 h2
 go_enter Tryz.func202,Tryz.ntmps202
 go_wp2
 go_ret
 refine ⟨rfl,?_⟩
 repeat (first | exact Below.refl _ _ | refine yA ?_ _ | refine Below.drew ?_ | refine yC ?_ _ _ _ (by omega))
abbrev pv (a b c d:Int):Value:=.agg #[.int .i64 a,.int .i64 b,.int .i64 c,.int .i64 d]
theorem numberOk_any (n:Int) (w:World) :
  Calls Tryz.prog 115 #[.int .i64 n] w fun e w'=>e=.returned (.bool (inB n 0 1000000000))∧w=w':=by
 by_cases h1:0≤n
 ·by_cases h2:n≤1000000000
  ·go_enter Tryz.func115,Tryz.ntmps115
   go_wp2
   go_ret
   exact ⟨yF (inB_true h1 h2).symm,rfl⟩
  ·go_enter Tryz.func115,Tryz.ntmps115
   go_wp2
   go_ret
   exact ⟨yF (inB_false (by omega)).symm,rfl⟩
 ·go_enter Tryz.func115,Tryz.ntmps115
  go_wp2
  go_ret
  exact ⟨yF (inB_false (by omega)).symm,rfl⟩
theorem ok_any (a b:Int) (w:World) :
  Calls Tryz.prog 155 #[rv a b] w fun e w'=>e=.returned (.bool (resOk a b))∧w'=w.alloc (.cells #[.int .i64 a,.int .i64 b] 36):=by
 cases h1:inB a 0 1000000000
 ·go_enter Tryz.func155,Tryz.ntmps155
  go_wp2_with (go_at_call 115;refine (numberOk_any _ _).mono ?_;rintro e w' ⟨rfl,rfl⟩)
  go_ret
  exact ⟨yF (by simp [resOk,h1]),rfl⟩
 ·go_enter Tryz.func155,Tryz.ntmps155
  go_wp2_with (go_at_call 115;refine (numberOk_any _ _).mono ?_;rintro e w' ⟨rfl,rfl⟩)
  go_ret
  exact ⟨yF (by simp [resOk,h1]),rfl⟩
theorem ok_bel (a b:Int) (w:World) :
  Calls Tryz.prog 155 #[rv a b] w fun e w'=>e=.returned (.bool (resOk a b))∧Below w.heap.size w w':=
 (ok_any a b w).mono fun e w' h=>⟨h.1,by rw [h.2];exact yA (Below.refl _ _) _⟩
theorem pairOk_any (a b c d:Int) (w:World) :
  Calls Tryz.prog 153 #[pv a b c d] w fun e w'=>e=.returned (.bool (resOk a b&&resOk c d))∧Below w.heap.size w w':=by
 cases h1:resOk a b
 ·go_enter Tryz.func153,Tryz.ntmps153
  go_wp2_with (go_at_call 155;refine (ok_any _ _ _).mono ?_;rintro e w' ⟨rfl,rfl⟩)
  go_ret
  refine ⟨rfl,?_⟩
  repeat (first | exact Below.refl _ _ | refine yA ?_ _ | refine Below.drew ?_ | refine yC ?_ _ _ _ (by omega))
 ·go_enter Tryz.func153,Tryz.ntmps153
  go_wp2_with (go_at_call 155;refine (ok_any _ _ _).mono ?_;rintro e w' ⟨rfl,rfl⟩)
  go_ret
  refine ⟨rfl,?_⟩
  repeat (first | exact Below.refl _ _ | refine yA ?_ _ | refine Below.drew ?_ | refine yC ?_ _ _ _ (by omega))
def Var4 (w:World) (t:TypeId) (g:Nat) (x y u v:Int):Prop:=w.heap[g]? = some (.cells #[.int .i64 x,.int .i64 y,.int .i64 u,.int .i64 v] t (0,0))
theorem Var4.c0 {w:World} {t:TypeId} {g:Nat} {x y u v:Int} (h:Var4 w t g x y u v):w.cell? ⟨g,0,none⟩=some (.int .i64 x):=by unfold Var4 at h;simp [World.cell?,h]
theorem Var4.c1 {w:World} {t:TypeId} {g:Nat} {x y u v:Int} (h:Var4 w t g x y u v):w.cell? ⟨g,1,none⟩=some (.int .i64 y):=by unfold Var4 at h;simp [World.cell?,h]
theorem Var4.c2 {w:World} {t:TypeId} {g:Nat} {x y u v:Int} (h:Var4 w t g x y u v):w.cell? ⟨g,2,none⟩=some (.int .i64 u):=by unfold Var4 at h;simp [World.cell?,h]
theorem Var4.c3 {w:World} {t:TypeId} {g:Nat} {x y u v:Int} (h:Var4 w t g x y u v):w.cell? ⟨g,3,none⟩=some (.int .i64 v):=by unfold Var4 at h;simp [World.cell?,h]
theorem Var4.lt {w:World} {t:TypeId} {g:Nat} {x y u v:Int} (h:Var4 w t g x y u v):g<w.heap.size:=lt_of_block h
theorem Var4.same {w w':World} {t:TypeId} {g:Nat} {x y u v:Int} (h:Var4 w t g x y u v) (e:w'.heap[g]? = w.heap[g]?):Var4 w' t g x y u v:=e.trans h
theorem Var4.below {w w':World} {t:TypeId} {g:Nat} {x y u v:Int} (h:Var4 w t g x y u v) (hb:Below w.heap.size w w'):Var4 w' t g x y u v:=(hb.block g h.lt).trans h
theorem Var4.al {w:World} {t:TypeId} {g:Nat} {x y u v:Int} (h:Var4 w t g x y u v) (o:Obj):Var4 (w.alloc o) t g x y u v:=h.below (yA (Below.refl _ _) o)
theorem var4_new (w:World) (t:TypeId) (x y u v:Int):Var4 (w.alloc (.cells #[.int .i64 x,.int .i64 y,.int .i64 u,.int .i64 v] t)) t w.heap.size x y u v:=by show (w.heap.push _)[w.heap.size]? = _;simp
theorem Var4.grown {w w':World} {t:TypeId} {g:Nat} {x y u v:Int} {row:Option Nat} (h:Var4 w t g x y u v) (hg:w.grownBy w' row) (hne:some g≠row):Var4 w' t g x y u v:=(hg.block g h.lt hne).trans h
theorem Var.grown' {w w':World} {t:TypeId} {g:Nat} {x y:Int} {row:Option Nat} (h:Var w t g x y) (hg:w.grownBy w' row) (hne:some g≠row):Var w' t g x y:=(hg.block g h.lt hne).trans h
theorem pairRatio_any (a b c d:Int) (w:World) :
  Calls Tryz.prog 210 #[pv a b c d] w fun e w'=>e=.returned (fv (ratio a b c d))∧Below w.heap.size w w':=by
 have HV1:=hide ((var4_new w 192 a b c d).al (.cells #[.int .i64 0,.int .i64 0] 236))
 have HV2:=hide (show Var ((w.alloc (.cells #[.int .i64 a,.int .i64 b,.int .i64 c,.int .i64 d] 192)).alloc (.cells #[.int .i64 0,.int .i64 0] 236)) 236 (w.heap.size+1) 0 0 by have:=var_new (w.alloc (.cells #[.int .i64 a,.int .i64 b,.int .i64 c,.int .i64 d] 192)) 236 0 0;simpa using this)
 have HB0:=hide (yA (yA (Below.refl _ w) (.cells #[.int .i64 a,.int .i64 b,.int .i64 c,.int .i64 d] 192)) (.cells #[.int .i64 0,.int .i64 0] 236))
 have hc:=hide (pairOk_any a b c d)
 cases h0:resOk a b&&resOk c d
 ·rw [show ratio a b c d=(0,1) by rw [ratio,h0];rfl]
  go_enter Tryz.func210,Tryz.ntmps210
  go_wp2_with fail
  refine (uH hc _).mono ?_
  rw [h0]
  rintro e w1 ⟨rfl,hb⟩
  have V2:=(uH HV2).below hb
  have k0:=V2.c0
  have k1:=V2.c1
  have k2:=V2.f 0
  have k3:=V2.f 1
  have k4:=V2.s0 (.int .i64 0)
  have k5:=V2.s1 (.int .i64 0) (.int .i64 1)
  have HB:=hide (yB (uH HB0) hb)
  clear hb HV1 HV2 HB0 V2 hc
  go_wp2
  refine bodyPost_ret (v:=rv 0 1) (by simp [results,Tryz.results210,go_sem,k4,k5]) rfl ⟨rfl,?_⟩
  repeat (first | exact uH HB | refine yA ?_ _ | refine Below.drew ?_ | refine yC ?_ _ _ _ (by omega))
 ·have h0':=h0
  simp only [Bool.and_eq_true] at h0'
  obtain ⟨s1,s2⟩:=resOk_small h0'.1
  obtain ⟨s3,s4⟩:=resOk_small h0'.2
  have F1:=part_frac s1 s3
  have F2:=part_frac s2 s4
  have hr:ratio a b c d=if less (part a c).1 (part a c).2 (part b d).1 (part b d).2 then part b d else part a c:=by rw [ratio,h0];rfl
  rw [hr]
  have hp1:=hide (fractionOf_any a c)
  have hp2:=hide (fractionOf_any b d)
  obtain ⟨⟨x1,y1⟩,e1⟩:∃p,part a c=p:=⟨_,rfl⟩
  obtain ⟨⟨x2,y2⟩,e2⟩:∃p,part b d=p:=⟨_,rfl⟩
  rw [e1] at hp1 F1 ⊢
  rw [e2] at hp2 F2 ⊢
  obtain ⟨l,hl⟩:∃l,less x1 y1 x2 y2=l:=⟨_,rfl⟩
  have hL:∀wx,Calls Tryz.prog 202 #[rv x1 y1,rv x2 y2] wx fun e w'=>e=.returned (.bool l)∧Below wx.heap.size wx w':=fun wx=>by have:=fracLess_any x1 y1 x2 y2 wx F1 F2;rw [hl] at this;exact this
  have HL:=hide hL
  rw [show less (x1,y1).1 (x1,y1).2 (x2,y2).1 (x2,y2).2=l from hl]
  clear hL hl F1 F2 e1 e2 hr s1 s2 s3 s4 h0'
  go_enter Tryz.func210,Tryz.ntmps210
  go_wp2_with fail
  refine (uH hc _).mono ?_
  rw [h0]
  rintro e w1 ⟨rfl,hb⟩
  have V1:=(uH HV1).below hb
  have HV1':=hide V1
  have V2:=hide ((uH HV2).below hb)
  have a1:=V1.c0
  have a2:=V1.c1
  have a3:=V1.c2
  have a4:=V1.c3
  have HB:=hide (yB (uH HB0) hb)
  clear hb HV1 HV2 HB0 V1 hc
  go_wp2_with fail
  refine (uH hp1 _).mono ?_
  rintro e w2 ⟨rfl,hb⟩
  have V3:=hide (((uH HV1').below hb).al (.cells #[.int .i64 x1,.int .i64 y1] 236))
  have V4:=hide (((uH V2).below hb).al (.cells #[.int .i64 x1,.int .i64 y1] 236))
  have V5:=hide (var_new w2 236 x1 y1)
  have HB2:=hide (yA (yB (uH HB) hb) (.cells #[.int .i64 x1,.int .i64 y1] 236))
  clear hb HV1' V2 HB hp1 a1 a2 a3 a4
  have a1:=(uH V3).c0
  have a2:=(uH V3).c1
  have a3:=(uH V3).c2
  have a4:=(uH V3).c3
  go_wp2_with fail
  refine (uH hp2 _).mono ?_
  rintro e w3 ⟨rfl,hb⟩
  have V6:=hide (((uH V4).below hb).al (.cells #[.int .i64 x2,.int .i64 y2] 236))
  have V7:=hide (((uH V5).below hb).al (.cells #[.int .i64 x2,.int .i64 y2] 236))
  have V8:=hide (var_new w3 236 x2 y2)
  have HB3:=hide (yA (yB (uH HB2) hb) (.cells #[.int .i64 x2,.int .i64 y2] 236))
  clear hb V3 V4 V5 HB2 hp2 a1 a2 a3 a4
  have a1:=(uH V7).c0
  have a2:=(uH V7).c1
  have a3:=(uH V8).c0
  have a4:=(uH V8).c1
  go_wp2_with fail
  refine (uH HL _).mono ?_
  rintro e w4 ⟨rfl,hb⟩
  have V9:=(uH V6).below hb
  have V10:=(uH V7).below hb
  have V11:=(uH V8).below hb
  have HB4:=hide (yB (uH HB3) hb)
  clear hb V6 V7 V8 HB3 HL a1 a2 a3 a4
  have a1:=V10.c0
  have a2:=V10.c1
  have a3:=V11.c0
  have a4:=V11.c1
  have k0:=V9.c0
  have k1:=V9.c1
  have k2:=V9.f 0
  have k3:=V9.f 1
  have k4:=V9.s0 (.int .i64 x1)
  have k5:=V9.s1 (.int .i64 x1) (.int .i64 y1)
  have k6:=V9.s0 (.int .i64 x2)
  have k7:=V9.s1 (.int .i64 x2) (.int .i64 y2)
  clear V9 V10 V11
  cases l with
  | true=>
   go_wp2
   refine bodyPost_ret (v:=rv x2 y2) (by simp [results,Tryz.results210,go_sem,k6,k7]) rfl ⟨rfl,?_⟩
   repeat (first | exact uH HB4 | refine yA ?_ _ | refine Below.drew ?_ | refine yC ?_ _ _ _ (by omega))
  | false=>
   go_wp2
   refine bodyPost_ret (v:=rv x1 y1) (by simp [results,Tryz.results210,go_sem,k4,k5]) rfl ⟨rfl,?_⟩
   repeat (first | exact uH HB4 | refine yA ?_ _ | refine Below.drew ?_ | refine yC ?_ _ _ _ (by omega))
end
section
open Go.RowKit Go.Maps
theorem mapLaidOut:laidOutB Tryz.prog=true:=by kernel_rfl
theorem pairRow:(192:TypeId)<Tryz.prog.types.size:=of_decide_eq_true (by kernel_rfl)
theorem pairWide:(match Tryz.prog.underlying 192 with | some (.array _ _) | some (.struct _)=>true | _=>false)=true:=by kernel_rfl
theorem pairLaw:Keyed Tryz.prog 192:=Keyed.of_law (deep_law_laid mapLaidOut (m:=3) (by omega) pairRow (by kernel_rfl) pairWide)
theorem pairKeyType:Tryz.prog.keyType 192=true:=by kernel_rfl
theorem pairCells:Tryz.prog.cellsOf 192=4:=by kernel_rfl
theorem resCells:Tryz.prog.cellsOf 36=2:=by kernel_rfl
theorem intCells:Tryz.prog.cellsOf 3=1:=by kernel_rfl
theorem typesMany:∃m,Tryz.prog.types.size+1=m+3:=⟨Tryz.prog.types.size - 2,by have:3≤Tryz.prog.types.size:=of_decide_eq_true (by kernel_rfl);omega⟩
theorem lits_int (n:Nat) {a:Int} (h:(Lit.int .i64 a).wf=true):Tryz.prog.keyLits (n+1) 3 [.int .i64 a]=some [.int .i64 a]:=by
 simp [Program.keyLits,Tryz.underlying3,h]
theorem lits_res (n:Nat) {a b:Int} (ha:(Lit.int .i64 a).wf=true) (hb:(Lit.int .i64 b).wf=true):Tryz.prog.keyLits (n+2) 36 [.int .i64 a,.int .i64 b]=some [.int .i64 a,.int .i64 b]:=by
 have h:=Tryz.underlying36
 unfold Program.keyLits
 simp [h,resCells,intCells,lits_int n ha,lits_int n hb]
theorem pairKey {a b c d:Int} (ha:(Lit.int .i64 a).wf=true) (hb:(Lit.int .i64 b).wf=true) (hc:(Lit.int .i64 c).wf=true) (hd:(Lit.int .i64 d).wf=true):∃kl,keyOf Tryz.prog 192 (pv a b c d)=some kl:=by
 obtain ⟨m,hm⟩:=typesMany
 have h:Tryz.prog.keyLits (m+3) 192 [.int .i64 a,.int .i64 b,.int .i64 c,.int .i64 d]=some [.int .i64 a,.int .i64 b,.int .i64 c,.int .i64 d]:=by
  have h:=Tryz.underlying192
  unfold Program.keyLits
  simp [h,pairCells,resCells,lits_res m ha hb,lits_res m hc hd,List.range_succ]
 have hu:=Tryz.underlying192
 have hk:keyOf Tryz.prog 192 (pv a b c d)=if Tryz.prog.keyType 192&&(pv a b c d).formed Tryz.prog 192 then (Tryz.prog.keyLits (Tryz.prog.types.size+1) 192 (pv a b c d).cells.toList).map (fun ls=>.string (keyBytes ls)) else none:=by
  unfold keyOf
  rw [hu]
 rw [hk,if_pos (by simp [pairKeyType,Value.formed,hu,pairCells]),hm,show (pv a b c d).cells.toList=[.int .i64 a,.int .i64 b,.int .i64 c,.int .i64 d] from rfl,h]
 exact ⟨_,rfl⟩
def fd (p:Int×Int):DataW Unit:=.agg [.lit (.int .i64 p.1),.lit (.int .i64 p.2)]
def fracElem:Value→Option (DataW Unit×List MemPlace)
 | .agg cs=>match cs.toList with
  | [.int .i64 x,.int .i64 y]=>some (fd (x,y),[])
  | _=>none
 | _=>none
theorem fracElem_mk (x y:Int):fracElem (rv x y)=some (fd (x,y),[]):=rfl
theorem fracElem_inv {v:Value} {x y:Int} {ps:List MemPlace} (h:fracElem v=some (fd (x,y),ps)):v=rv x y:=by
 unfold fracElem at h
 split at h
 ·rename_i cs
  split at h
  ·rename_i x' y' e
   have e2:cs=#[.int .i64 x',.int .i64 y']:=by cases cs;simpa using e
   simp [fd] at h
   rw [e2,h.1.1,h.1.2]
  ·cases h
 ·cases h
def Known (D:DataW Unit):Prop:=∀a b c d kl,keyOf Tryz.prog 192 (pv a b c d)=some kl→Maps.has D kl=true→∀zd,D.atKey kl zd=fd (ratio a b c d)
theorem known_empty:Known (.map []):=fun a b c d kl _ h=>by simp [Maps.has] at h
theorem Known.put {D:DataW Unit} (h:Known D) (hD:IsMap D) {a b c d:Int} {kl:Lit} (hk:keyOf Tryz.prog 192 (pv a b c d)=some kl):Known (D.put kl (fd (ratio a b c d))):=fun a' b' c' d' kl' hk' hh zd=>by
 by_cases e:kl'=kl
 ·subst e
  have:=pairLaw.inj hk hk'
  simp [pv] at this
  obtain ⟨rfl,rfl,rfl,rfl⟩:=this
  exact atKey_put_same hD (pairLaw.key hk) _ _
 ·rw [atKey_put_other e]
  rw [has_put_other e] at hh
  exact h a' b' c' d' kl' hk' hh zd
theorem fracZero (w:World):(zeroValue 236).run Tryz.prog w=.ok (rv 0 0) w:=by kernel_rfl
theorem look {w:World} {bm n:Nat} {D:DataW Unit} (hown:w.ownsMap Tryz.prog 192 fracElem bm n D) (hk:Known D) {a b c d:Int} {kl:Lit} (hkey:keyOf Tryz.prog 192 (pv a b c d)=some kl) :
  (Instr.lookup 222 (.map (some bm)) (pv a b c d) true).run Tryz.prog w=.ok (.tuple #[if Maps.has D kl then fv (ratio a b c d) else rv 0 0,.bool (Maps.has D kl)]) w:=by
 obtain ⟨v,ps,hrun,hv⟩:=hown.look_ok pairLaw Tryz.underlying222 (fracZero w) (fracElem_mk 0 0) hkey
 rw [hrun]
 cases hh:Maps.has D kl
 ·rw [atKey_of_not_has hh] at hv
  rw [fracElem_inv hv]
  rfl
 ·rw [hk a b c d kl hkey hh] at hv
  rw [fracElem_inv hv]
  rfl
abbrev P4:=Int×Int×Int×Int
theorem nodup_len {α:Type}:∀(ps K:List α),ps.Nodup→(∀p ∈ ps,p ∈ K)→ps.length≤K.length
 | [],_,_,_=>Nat.zero_le _
 | p::t,K,h,s=>by
  obtain ⟨h1,h2⟩:=List.nodup_cons.1 h
  obtain ⟨a,b,rfl⟩:=List.append_of_mem (s p (List.mem_cons_self ..))
  have:=nodup_len t (a++b) h2 (fun q hq=>by
   have h3:=s q (List.mem_cons_of_mem _ hq)
   rcases List.mem_append.1 h3 with h3 | h3
   ·exact List.mem_append.2 (.inl h3)
   ·rcases List.mem_cons.1 h3 with rfl | h3
    ·exact absurd hq h1
    ·exact List.mem_append.2 (.inr h3))
  simp at this ⊢
  omega
def HoldsK (K:List P4) (bm:Nat) (w:World):Prop:=∃(ps:List P4) (D:DataW Unit),ps.Nodup∧(∀p ∈ ps,p ∈ K)∧w.ownsMap Tryz.prog 192 fracElem bm ps.length D∧Known D∧∀p ∈ ps,∀kl,keyOf Tryz.prog 192 (pv p.1 p.2.1 p.2.2.1 p.2.2.2)=some kl→Maps.has D kl=true
theorem HoldsK.lt {K:List P4} {bm:Nat} {w:World} (h:HoldsK K bm w):bm<w.heap.size:=let ⟨_,_,_,_,h,_⟩:=h;h.lt
theorem HoldsK.grown {K:List P4} {bm:Nat} {w w':World} {row:Option Nat} (h:HoldsK K bm w) (hg:w.grownBy w' row) (hne:some bm≠row):HoldsK K bm w':=let ⟨ps,D,a,b,h,k⟩:=h;⟨ps,D,a,b,h.kept hg hne,k⟩
theorem HoldsK.below {K:List P4} {bm:Nat} {w w':World} (h:HoldsK K bm w) (hb:Below w.heap.size w w'):HoldsK K bm w':=h.grown (grownBy_below (grownBy_refl w none) hb) (by simp)
theorem holdsK_made (K:List P4) {bm:Nat} {w:World} (h:w.ownsMap Tryz.prog 192 fracElem bm 0 (.map [])):HoldsK K bm w:=⟨[],.map [],List.nodup_nil,(fun _ h=>absurd h (by simp)),h,known_empty,(fun _ h=>absurd h (by simp))⟩
theorem pairLit_ex {a b c d:Int} (ha:(Lit.int .i64 a).wf=true) (hb:(Lit.int .i64 b).wf=true) (hc:(Lit.int .i64 c).wf=true) (hd:(Lit.int .i64 d).wf=true):∃kl,keyOf Tryz.prog 192 (pv a b c d)=some kl:=pairKey ha hb hc hd
theorem ofK_any (K:List P4) (hK:K.length≤1000000000) (a b c d:Int) (ha:(Lit.int .i64 a).wf=true) (hb:(Lit.int .i64 b).wf=true) (hc:(Lit.int .i64 c).wf=true) (hd:(Lit.int .i64 d).wf=true) (hin:(a,b,c,d) ∈ K) (bm:Nat) (w:World) (hm:HoldsK K bm w) :
  Calls Tryz.prog 201 #[.map (some bm),pv a b c d] w fun e w'=>e=.returned (fv (ratio a b c d))∧HoldsK K bm w'∧w.grownBy w' (some bm):=by
 obtain ⟨ps,D,nd,sub,hown,hk,hps⟩:=hm
 obtain ⟨kl,hkey⟩:=pairLit_ex ha hb hc hd
 have hpl:=nodup_len ps K nd sub
 have HPS:=hide (fun (h:Maps.has D kl=false)=>show (a,b,c,d) ∉ ps from fun hp=>by have:=hps _ hp _ hkey;rw [h] at this;exact absurd this (by simp))
 have HND:=hide nd
 have HSUB:=hide sub
 have HPP:=hide hps
 have hlt:=hown.lt
 have hl:=look ((hown.alloc (.cells #[.int .i64 a,.int .i64 b,.int .i64 c,.int .i64 d] 192)).alloc (.cells #[.int .i64 0,.int .i64 0] 236)) hk hkey
 have hpr:=hide (pairRatio_any a b c d)
 have HK:=hide hk
 have HKEY:=hide hkey
 have HOWN:=hide hown
 have HIN:=hide hin
 clear ha hb hc hd hk hkey hown nd sub hps hin
 obtain ⟨f,hf⟩:∃f,Maps.has D kl=f:=⟨_,rfl⟩
 rw [hf] at hl HPS
 obtain ⟨⟨x,y⟩,hr⟩:∃p,ratio a b c d=p:=⟨_,rfl⟩
 rw [hr] at hl hpr ⊢
 have HR:=hide hr
 clear hf hr
 cases f with
 | true=>
  replace hl:(Instr.lookup 222 (.map (some bm)) (pv a b c d) true).run Tryz.prog ((w.alloc (.cells #[.int .i64 a,.int .i64 b,.int .i64 c,.int .i64 d] 192)).alloc (.cells #[.int .i64 0,.int .i64 0] 236))=.ok (.tuple #[rv x y,.bool true]) ((w.alloc (.cells #[.int .i64 a,.int .i64 b,.int .i64 c,.int .i64 d] 192)).alloc (.cells #[.int .i64 0,.int .i64 0] 236)):=hl
  go_enter Tryz.func201,Tryz.ntmps201
  go_wp2
  have HG:∀wx:World,Below w.heap.size w wx→wx=wx→HoldsK K bm wx∧w.grownBy wx (some bm):=fun wx hb _=>
   have hg:w.grownBy wx none:=grownBy_below (grownBy_refl w none) hb
   ⟨⟨ps,D,uH HND,uH HSUB,(uH HOWN).kept hg (by simp),uH HK,uH HPP⟩,grownBy_below (grownBy_refl w (some bm)) hb⟩
  refine bodyPost_ret (v:=rv x y) (by simp [results,Tryz.results201,go_sem]) rfl ⟨rfl,HG _ ?_ rfl⟩
  repeat (first | exact Below.refl _ _ | refine yA ?_ _ | refine Below.drew ?_ | refine yC ?_ _ _ _ (by omega))
 | false=>
  replace hl:(Instr.lookup 222 (.map (some bm)) (pv a b c d) true).run Tryz.prog ((w.alloc (.cells #[.int .i64 a,.int .i64 b,.int .i64 c,.int .i64 d] 192)).alloc (.cells #[.int .i64 0,.int .i64 0] 236))=.ok (.tuple #[rv 0 0,.bool false]) ((w.alloc (.cells #[.int .i64 a,.int .i64 b,.int .i64 c,.int .i64 d] 192)).alloc (.cells #[.int .i64 0,.int .i64 0] 236)):=hl
  have HV1:=hide (((var4_new w 192 a b c d).al (.cells #[.int .i64 0,.int .i64 0] 236)).al (.cells #[.int .i64 0,.int .i64 0] 236))
  have HV2:=hide (show Var (((w.alloc (.cells #[.int .i64 a,.int .i64 b,.int .i64 c,.int .i64 d] 192)).alloc (.cells #[.int .i64 0,.int .i64 0] 236)).alloc (.cells #[.int .i64 0,.int .i64 0] 236)) 236 (w.heap.size+1) 0 0 by
   have:=(var_new (w.alloc (.cells #[.int .i64 a,.int .i64 b,.int .i64 c,.int .i64 d] 192)) 236 0 0).al (.cells #[.int .i64 0,.int .i64 0] 236);simpa using this)
  have HV3:=hide (show Var (((w.alloc (.cells #[.int .i64 a,.int .i64 b,.int .i64 c,.int .i64 d] 192)).alloc (.cells #[.int .i64 0,.int .i64 0] 236)).alloc (.cells #[.int .i64 0,.int .i64 0] 236)) 236 (w.heap.size+1+1) 0 0 by
   have:=var_new ((w.alloc (.cells #[.int .i64 a,.int .i64 b,.int .i64 c,.int .i64 d] 192)).alloc (.cells #[.int .i64 0,.int .i64 0] 236)) 236 0 0;simpa using this)
  have HB0:=hide (yA (yA (yA (Below.refl _ w) (.cells #[.int .i64 a,.int .i64 b,.int .i64 c,.int .i64 d] 192)) (.cells #[.int .i64 0,.int .i64 0] 236)) (.cells #[.int .i64 0,.int .i64 0] 236))
  go_enter Tryz.func201,Tryz.ntmps201
  go_wp2_with fail
  refine (uH hpr _).mono ?_
  rintro e w1 ⟨rfl,hb⟩
  have V1:=hide ((uH HV1).below hb)
  have V2:=hide ((uH HV2).below hb)
  have V3:=hide ((uH HV3).below hb)
  have HB:=hide (yB (uH HB0) hb)
  clear hb hl hpr HV1 HV2 HV3 HB0
  have a1:=(uH V1).c0
  have a2:=(uH V1).c1
  have a3:=(uH V1).c2
  have a4:=(uH V1).c3
  have k0:=(uH V3).c0
  have k1:=(uH V3).c1
  have k2:=(uH V3).f 0
  have k3:=(uH V3).f 1
  have k4:=(uH V3).s0 (.int .i64 x)
  have k5:=(uH V3).s1 (.int .i64 x) (.int .i64 y)
  have ho1:=(((uH HOWN).kept (grownBy_below (grownBy_refl w none) (uH HB)) (by simp)).setCell (a:=⟨w.heap.size+1+1,0,none⟩) (by simp;omega) (.int .i64 x)).setCell (a:=⟨w.heap.size+1+1,1,none⟩) (by simp;omega) (.int .i64 y)
  obtain ⟨w2,hrun,hown2,hgrow2⟩:=ho1.update pairLaw Tryz.underlying222 (by unfold maxLen;omega) (uH HKEY) (fracElem_mk x y)
  have V4:=hide (((uH V3).set x y).grown' hgrow2 (by simp;omega))
  have V5:=hide ((((uH V2).other (w.heap.size+1+1) 0 (.int .i64 x) (by omega)).other (w.heap.size+1+1) 1 (.int .i64 y) (by omega)).grown' hgrow2 (by simp;omega))
  have b0:=(uH V4).c0
  have b1:=(uH V4).c1
  have b2:=(uH V5).c0
  have b3:=(uH V5).c1
  have b4:=(uH V5).f 0
  have b5:=(uH V5).f 1
  have b6:=(uH V5).s0 (.int .i64 x)
  have b7:=(uH V5).s1 (.int .i64 x) (.int .i64 y)
  have hm2:HoldsK K bm w2:=⟨(a,b,c,d)::ps,_,List.nodup_cons.2 ⟨uH HPS (by first | rfl | trivial),uH HND⟩,fun p hp=>by
   rcases List.mem_cons.1 hp with rfl | hp
   ·exact uH HIN
   ·exact uH HSUB p hp,hown2,by rw [←uH HR];exact (uH HK).put (uH HOWN).isMap (uH HKEY),fun p hp kl' hk'=>by
   by_cases e:kl'=kl
   ·subst e;exact has_put_same (uH HOWN).isMap (pairLaw.key (uH HKEY)) _
   ·rcases List.mem_cons.1 hp with rfl | hp
    ·have:=hk'.symm.trans (uH HKEY);cases this;exact absurd rfl e
    ·rw [has_put_other e];exact uH HPP p hp kl' hk'⟩
  have hg1:w.grownBy w2 (some bm):=by
   have g1:w.grownBy ((w1.setCell ⟨w.heap.size+1+1,0,none⟩ (.int .i64 x)).setCell ⟨w.heap.size+1+1,1,none⟩ (.int .i64 y)) (some bm):=grownBy_below (grownBy_refl w (some bm)) (yC (yC (uH HB) _ _ _ (by omega)) _ _ _ (by omega))
   exact grownBy_trans g1 hgrow2
  have HM2:=hide hm2
  have HG1:=hide hg1
  clear ho1 hown2 hgrow2 hm2 hg1 V1 V2 V3 V4 V5 HB
  go_wp2
  have hsz:=(uH HG1).size
  refine bodyPost_ret (v:=rv x y) (by simp [results,Tryz.results201,go_sem,b6,b7]) rfl ⟨rfl,?_,?_⟩
  ·have hg:w2.grownBy ((w2.setCell ⟨w.heap.size+1,0,none⟩ (.int .i64 x)).setCell ⟨w.heap.size+1,1,none⟩ (.int .i64 y)) (some (w.heap.size+1)):=grownBy_set (grownBy_set (grownBy_refl _ _) _ _) _ _
   exact (uH HM2).grown hg (by simp;omega)
  ·exact ⟨(uH HG1).os,(uH HG1).tape,(uH HG1).output,by simpa using hsz,fun k hk hne=>by
    rw [heap_setCell_other _ ⟨w.heap.size+1,1,none⟩ k _ (by simp;omega),heap_setCell_other _ ⟨w.heap.size+1,0,none⟩ k _ (by simp;omega)]
    exact (uH HG1).block k hk hne⟩
end
end Go.Proofs.YtdhibeclkdepiaaGreat
