/-
  bI in one: RatioS, LessRatioS, FracI, RatioP, AddI, RatN, WithinI.
-/
import Derived.Test.YtdhibeclkdepiaaGreatPackA
set_option maxRecDepth 100000
set_option maxHeartbeats 16000000
set_option linter.unusedVariables false
set_option linter.unusedSimpArgs false
namespace Go.Proofs.YtdhibeclkdepiaaGreat
section
open Go.RowKit
def lN (u d:Int):Int×Int:=if 0<d then (u,d) else if 0<u then (1,0) else (0,1)
def less (a b c d:Int):Bool:=if b=0 then false else if d=0 then true else decide (a*d<c*b)
def eQ (a b c d:Int):Int×Int:=if aR a b&&aR c d then (if less (lN a c).1 (lN a c).2 (lN b d).1 (lN b d).2 then lN b d else lN a c) else (0,1)
def iC (x:Int):Prop:=0≤x∧x≤1000000000
theorem oZ {a b:Int} (ha:iC a) (hb:iC b):0≤a*b∧a*b≤1000000000000000000:=
 ⟨Int.mul_nonneg ha.1 hb.1,Int.le_trans (Int.mul_le_mul ha.2 hb.2 hb.1 (by decide)) (by decide)⟩
theorem jG {u d:Int} (hu:iC u) (hd:iC d):iC (lN u d).1∧iC (lN u d).2:=by
 unfold lN iC at *
 split
 ·exact ⟨hu,hd⟩
 ·split<;>simp
theorem dL {a b:Int} (h:aR a b=true):iC a∧iC b:=by
 have:=dH h
 exact ⟨⟨this.1,this.2.1⟩,this.2.2⟩
theorem jI (a b c d:Int):iC (eQ a b c d).1∧iC (eQ a b c d).2:=by
 unfold eQ
 split
 ·rename_i h
  simp only [Bool.and_eq_true] at h
  obtain ⟨s1,s2⟩:=dL h.1
  obtain ⟨s3,s4⟩:=dL h.2
  split
  ·exact jG s2 s4
  ·exact jG s1 s3
 ·exact ⟨by unfold iC;simp,by unfold iC;simp⟩
theorem rU (u d:Int) (w:World) :
  Calls Tryz.prog 209 #[.int .i64 u,.int .i64 d] w fun e w'=>e=.returned (.tuple #[.int .i64 (lN u d).1,.int .i64 (lN u d).2])∧w'=w:=by
 by_cases h1:0<d
 ·rw [show lN u d=(u,d) from if_pos h1]
  go_enter Tryz.func209,Tryz.ntmps209
  go_wp2
  go_ret2
  exact ⟨rfl,rfl⟩
 ·by_cases h2:0<u
  ·rw [show lN u d=(1,0) by simp [lN,h1,h2]]
   go_enter Tryz.func209,Tryz.ntmps209
   go_wp2
   go_ret2
   exact ⟨rfl,rfl⟩
  ·rw [show lN u d=(0,1) by simp [lN,h1,h2]]
   go_enter Tryz.func209,Tryz.ntmps209
   go_wp2
   go_ret2
   exact ⟨rfl,rfl⟩
theorem mJ (a b c d:Int) (w:World) (ha:iC a) (hb:iC b) (hc:iC c) (hd:iC d) :
  Calls Tryz.prog 199 #[.int .i64 a,.int .i64 b,.int .i64 c,.int .i64 d] w fun e w'=>e=.returned (.bool (less a b c d))∧w'=w:=by
 obtain ⟨m1,m2⟩:=oZ ha hd
 obtain ⟨m3,m4⟩:=oZ hc hb
 by_cases h1:b=0
 ·rw [show less a b c d=false from if_pos h1]
  go_enter Tryz.func199,Tryz.ntmps199
  go_wp2
  go_ret
  exact ⟨rfl,rfl⟩
 ·by_cases h2:d=0
  ·rw [show less a b c d=true by simp [less,h1,h2]]
   go_enter Tryz.func199,Tryz.ntmps199
   go_wp2
   go_ret
   exact ⟨rfl,rfl⟩
  ·rw [show less a b c d=decide (a*d<c*b) by simp [less,h1,h2]]
   go_enter Tryz.func199,Tryz.ntmps199
   go_wp2
   go_ret
   exact ⟨rfl,rfl⟩
theorem oQ (a b c d:Int) (w:World) :
  Calls Tryz.prog 198 #[rv a b,rv c d] w fun e w'=>e=.returned (.tuple #[.int .i64 (eQ a b c d).1,.int .i64 (eQ a b c d).2])∧Below w.heap.size w w':=by
 cases h1:aR a b
 ·rw [show eQ a b c d=(0,1) by simp [eQ,h1]]
  go_enter Tryz.func198,Tryz.ntmps198
  go_wp2_with (go_at_call 94;refine (aQ _ _ _).mono ?_;rintro e w' ⟨rfl,rfl⟩)
  go_ret2
  refine ⟨rfl,?_⟩
  repeat (first | exact Below.refl _ _ | refine yA ?_ _ | refine Below.drew ?_ | refine yC ?_ _ _ _ (by omega))
 ·cases h2:aR c d
  ·rw [show eQ a b c d=(0,1) by simp [eQ,h2]]
   go_enter Tryz.func198,Tryz.ntmps198
   go_wp2_with (go_at_call 94;refine (aQ _ _ _).mono ?_;rintro e w' ⟨rfl,rfl⟩)
   go_ret2
   refine ⟨rfl,?_⟩
   repeat (first | exact Below.refl _ _ | refine yA ?_ _ | refine Below.drew ?_ | refine yC ?_ _ _ _ (by omega))
  ·obtain ⟨s1,s2⟩:=dL h1
   obtain ⟨s3,s4⟩:=dL h2
   obtain ⟨p1,p2⟩:=jG s1 s3
   obtain ⟨p3,p4⟩:=jG s2 s4
   cases h3:less (lN a c).1 (lN a c).2 (lN b d).1 (lN b d).2
   ·rw [show eQ a b c d=lN a c by simp [eQ,h1,h2,h3]]
    go_enter Tryz.func198,Tryz.ntmps198
    go_wp2_with (first | (go_at_call 94;refine (aQ _ _ _).mono ?_;rintro e w' ⟨rfl,rfl⟩) | (go_at_call 209;refine (rU _ _ _).mono ?_;rintro e w' ⟨rfl,rfl⟩) | (go_at_call 199;refine (mJ _ _ _ _ _ p1 p2 p3 p4).mono ?_;rintro e w' ⟨rfl,rfl⟩))
    go_ret2
    refine ⟨rfl,?_⟩
    repeat (first | exact Below.refl _ _ | refine yA ?_ _ | refine Below.drew ?_ | refine yC ?_ _ _ _ (by omega))
   ·rw [show eQ a b c d=lN b d by simp [eQ,h1,h2,h3]]
    go_enter Tryz.func198,Tryz.ntmps198
    go_wp2_with (first | (go_at_call 94;refine (aQ _ _ _).mono ?_;rintro e w' ⟨rfl,rfl⟩) | (go_at_call 209;refine (rU _ _ _).mono ?_;rintro e w' ⟨rfl,rfl⟩) | (go_at_call 199;refine (mJ _ _ _ _ _ p1 p2 p3 p4).mono ?_;rintro e w' ⟨rfl,rfl⟩))
    go_ret2
    refine ⟨rfl,?_⟩
    repeat (first | exact Below.refl _ _ | refine yA ?_ _ | refine Below.drew ?_ | refine yC ?_ _ _ _ (by omega))
def tL (a b c d e f g h:Int):Bool:=less (eQ a b c d).1 (eQ a b c d).2 (eQ e f g h).1 (eQ e f g h).2
theorem kP (a b c d e f g h:Int) (w:World) :
  Calls Tryz.prog 184 #[rv a b,rv c d,rv e f,rv g h] w fun o w'=>o=.returned (.bool (tL a b c d e f g h))∧Below w.heap.size w w':=by
 obtain ⟨p1,p2⟩:=jI a b c d
 obtain ⟨p3,p4⟩:=jI e f g h
 have V3:=((aJ ((w.alloc (.cells #[.int .i64 a,.int .i64 b] 36)).alloc (.cells #[.int .i64 c,.int .i64 d] 36)) 36 e f).al (.cells #[.int .i64 g,.int .i64 h] 36))
 have V4:=aJ (((w.alloc (.cells #[.int .i64 a,.int .i64 b] 36)).alloc (.cells #[.int .i64 c,.int .i64 d] 36)).alloc (.cells #[.int .i64 e,.int .i64 f] 36)) 36 g h
 have HV3:=aA V3
 have HV4:=aA V4
 clear V3 V4
 go_enter Tryz.func184,Tryz.ntmps184
 go_wp2_with fail
 refine (oQ _ _ _ _ _).mono ?_
 rintro o w1 ⟨rfl,hb⟩
 have V3:=(uH HV3).below hb
 have V4:=(uH HV4).below hb
 simp at V3 V4
 have a1:=V3.c0
 have a2:=V3.c1
 have a3:=V4.c0
 have a4:=V4.c1
 have HB:=aA (yB (yA (yA (yA (yA (Below.refl _ _) _) _) _) _) hb)
 clear hb HV3 HV4 V3 V4
 go_wp2_with fail
 refine (oQ _ _ _ _ _).mono ?_
 rintro o w2 ⟨rfl,hb⟩
 have HB2:=aA (yB (uH HB) hb)
 clear hb HB a1 a2 a3 a4
 go_wp2_with fail
 refine (mJ _ _ _ _ _ p1 p2 p3 p4).mono ?_
 rintro o w3 ⟨rfl,rfl⟩
 go_wp2
 go_ret
 exact ⟨rfl,uH HB2⟩
abbrev fv (p:Int×Int):Value:=rv p.1 p.2
def aJb (x y:Int):Prop:=iC x∧iC y∧(y=0→x=1)
theorem pF {u d:Int} (hu:iC u) (hd:iC d):aJb (lN u d).1 (lN u d).2:=by
 refine ⟨(jG hu hd).1,(jG hu hd).2,?_⟩
 unfold lN
 split
 ·intro h;simp at h;omega
 ·split<;>simp
theorem yL (a b c d:Int):aJb (eQ a b c d).1 (eQ a b c d).2:=by
 unfold eQ
 split
 ·rename_i h
  simp only [Bool.and_eq_true] at h
  obtain ⟨s1,s2⟩:=dL h.1
  obtain ⟨s3,s4⟩:=dL h.2
  split
  ·exact pF s2 s4
  ·exact pF s1 s3
 ·exact ⟨by unfold iC;simp,by unfold iC;simp,by simp⟩
theorem aFE {a b c d:Int} (h1:aJb a b) (h2:aJb c d):less a b c d=decide (a*d<c*b):=by
 obtain ⟨⟨a0,a1⟩,⟨b0,b1⟩,k1⟩:=h1
 obtain ⟨⟨c0,c1⟩,⟨d0,d1⟩,k2⟩:=h2
 unfold less
 split
 ·rename_i hb
  subst hb
  rw [k1 rfl]
  simp;omega
 ·split
  ·rename_i hb hd
   subst hd
   rw [k2 rfl]
   simp;omega
  ·rfl
theorem nW (u d:Int) (w:World) :
  Calls Tryz.prog 212 #[.int .i64 u,.int .i64 d] w fun e w'=>e=.returned (fv (lN u d))∧Below w.heap.size w w':=by
 by_cases h1:0<d
 ·rw [show lN u d=(u,d) from if_pos h1]
  go_enter Tryz.func212,Tryz.ntmps212
  go_wp2
  refine bodyPost_ret (v:=rv u d) (by simp [results,Tryz.results212,go_sem]) rfl ⟨rfl,?_⟩
  repeat (first | exact Below.refl _ _ | refine yA ?_ _ | refine Below.drew ?_ | refine yC ?_ _ _ _ (by omega))
 ·by_cases h2:0<u
  ·rw [show lN u d=(1,0) by simp [lN,h1,h2]]
   go_enter Tryz.func212,Tryz.ntmps212
   go_wp2
   refine bodyPost_ret (v:=rv 1 0) (by simp [results,Tryz.results212,go_sem]) rfl ⟨rfl,?_⟩
   repeat (first | exact Below.refl _ _ | refine yA ?_ _ | refine Below.drew ?_ | refine yC ?_ _ _ _ (by omega))
  ·rw [show lN u d=(0,1) by simp [lN,h1,h2]]
   go_enter Tryz.func212,Tryz.ntmps212
   go_wp2
   refine bodyPost_ret (v:=rv 0 1) (by simp [results,Tryz.results212,go_sem]) rfl ⟨rfl,?_⟩
   repeat (first | exact Below.refl _ _ | refine yA ?_ _ | refine Below.drew ?_ | refine yC ?_ _ _ _ (by omega))
theorem sM (a b c d:Int) (w:World) (h1:aJb a b) (h2:aJb c d) :
  Calls Tryz.prog 202 #[rv a b,rv c d] w fun e w'=>e=.returned (.bool (less a b c d))∧Below w.heap.size w w':=by
 obtain ⟨m1,m2⟩:=oZ h1.1 h2.2.1
 obtain ⟨m3,m4⟩:=oZ h2.1 h1.2.1
 rw [aFE h1 h2]
 clear h1 h2
 go_enter Tryz.func202,Tryz.ntmps202
 go_wp2
 go_ret
 refine ⟨rfl,?_⟩
 repeat (first | exact Below.refl _ _ | refine yA ?_ _ | refine Below.drew ?_ | refine yC ?_ _ _ _ (by omega))
theorem aAU (a b c d:Int) (w:World) :
  Calls Tryz.prog 210 #[pv a b c d] w fun e w'=>e=.returned (fv (eQ a b c d))∧Below w.heap.size w w':=by
 have HV1:=aA ((tY w 192 a b c d).al (.cells #[.int .i64 0,.int .i64 0] 236))
 have HV2:=aA (show Var ((w.alloc (.cells #[.int .i64 a,.int .i64 b,.int .i64 c,.int .i64 d] 192)).alloc (.cells #[.int .i64 0,.int .i64 0] 236)) 236 (w.heap.size+1) 0 0 by have:=aJ (w.alloc (.cells #[.int .i64 a,.int .i64 b,.int .i64 c,.int .i64 d] 192)) 236 0 0;simpa using this)
 have HB0:=aA (yA (yA (Below.refl _ w) (.cells #[.int .i64 a,.int .i64 b,.int .i64 c,.int .i64 d] 192)) (.cells #[.int .i64 0,.int .i64 0] 236))
 have hc:=aA (nD a b c d)
 cases h0:aR a b&&aR c d
 ·rw [show eQ a b c d=(0,1) by rw [eQ,h0];rfl]
  go_enter Tryz.func210,Tryz.ntmps210
  go_wp2_with fail
  refine (uH hc _).mono ?_
  rw [h0]
  rintro e w1 ⟨rfl,hb⟩
  have V2:=(uH HV2).below hb
  have k0:=V2.c0
  have k1:=V2.c1
  have k2:=V2.f 0
  have k3:=V2.f 1
  have k4:=V2.s0 (.int .i64 0)
  have k5:=V2.s1 (.int .i64 0) (.int .i64 1)
  have HB:=aA (yB (uH HB0) hb)
  clear hb HV1 HV2 HB0 V2 hc
  go_wp2
  refine bodyPost_ret (v:=rv 0 1) (by simp [results,Tryz.results210,go_sem,k4,k5]) rfl ⟨rfl,?_⟩
  repeat (first | exact uH HB | refine yA ?_ _ | refine Below.drew ?_ | refine yC ?_ _ _ _ (by omega))
 ·have h0':=h0
  simp only [Bool.and_eq_true] at h0'
  obtain ⟨s1,s2⟩:=dL h0'.1
  obtain ⟨s3,s4⟩:=dL h0'.2
  have F1:=pF s1 s3
  have F2:=pF s2 s4
  have hr:eQ a b c d=if less (lN a c).1 (lN a c).2 (lN b d).1 (lN b d).2 then lN b d else lN a c:=by rw [eQ,h0];rfl
  rw [hr]
  have hp1:=aA (nW a c)
  have hp2:=aA (nW b d)
  obtain ⟨⟨x1,y1⟩,e1⟩:∃p,lN a c=p:=⟨_,rfl⟩
  obtain ⟨⟨x2,y2⟩,e2⟩:∃p,lN b d=p:=⟨_,rfl⟩
  rw [e1] at hp1 F1 ⊢
  rw [e2] at hp2 F2 ⊢
  obtain ⟨l,hl⟩:∃l,less x1 y1 x2 y2=l:=⟨_,rfl⟩
  have hL:∀wx,Calls Tryz.prog 202 #[rv x1 y1,rv x2 y2] wx fun e w'=>e=.returned (.bool l)∧Below wx.heap.size wx w':=fun wx=>by have:=sM x1 y1 x2 y2 wx F1 F2;rw [hl] at this;exact this
  have HL:=aA hL
  rw [show less (x1,y1).1 (x1,y1).2 (x2,y2).1 (x2,y2).2=l from hl]
  clear hL hl F1 F2 e1 e2 hr s1 s2 s3 s4 h0'
  go_enter Tryz.func210,Tryz.ntmps210
  go_wp2_with fail
  refine (uH hc _).mono ?_
  rw [h0]
  rintro e w1 ⟨rfl,hb⟩
  have V1:=(uH HV1).below hb
  have HV1':=aA V1
  have V2:=aA ((uH HV2).below hb)
  have a1:=V1.c0
  have a2:=V1.c1
  have a3:=V1.c2
  have a4:=V1.c3
  have HB:=aA (yB (uH HB0) hb)
  clear hb HV1 HV2 HB0 V1 hc
  go_wp2_with fail
  refine (uH hp1 _).mono ?_
  rintro e w2 ⟨rfl,hb⟩
  have V3:=aA (((uH HV1').below hb).al (.cells #[.int .i64 x1,.int .i64 y1] 236))
  have V4:=aA (((uH V2).below hb).al (.cells #[.int .i64 x1,.int .i64 y1] 236))
  have V5:=aA (aJ w2 236 x1 y1)
  have HB2:=aA (yA (yB (uH HB) hb) (.cells #[.int .i64 x1,.int .i64 y1] 236))
  clear hb HV1' V2 HB hp1 a1 a2 a3 a4
  have a1:=(uH V3).c0
  have a2:=(uH V3).c1
  have a3:=(uH V3).c2
  have a4:=(uH V3).c3
  go_wp2_with fail
  refine (uH hp2 _).mono ?_
  rintro e w3 ⟨rfl,hb⟩
  have V6:=aA (((uH V4).below hb).al (.cells #[.int .i64 x2,.int .i64 y2] 236))
  have V7:=aA (((uH V5).below hb).al (.cells #[.int .i64 x2,.int .i64 y2] 236))
  have V8:=aA (aJ w3 236 x2 y2)
  have HB3:=aA (yA (yB (uH HB2) hb) (.cells #[.int .i64 x2,.int .i64 y2] 236))
  clear hb V3 V4 V5 HB2 hp2 a1 a2 a3 a4
  have a1:=(uH V7).c0
  have a2:=(uH V7).c1
  have a3:=(uH V8).c0
  have a4:=(uH V8).c1
  go_wp2_with fail
  refine (uH HL _).mono ?_
  rintro e w4 ⟨rfl,hb⟩
  have V9:=(uH V6).below hb
  have V10:=(uH V7).below hb
  have V11:=(uH V8).below hb
  have HB4:=aA (yB (uH HB3) hb)
  clear hb V6 V7 V8 HB3 HL a1 a2 a3 a4
  have a1:=V10.c0
  have a2:=V10.c1
  have a3:=V11.c0
  have a4:=V11.c1
  have k0:=V9.c0
  have k1:=V9.c1
  have k2:=V9.f 0
  have k3:=V9.f 1
  have k4:=V9.s0 (.int .i64 x1)
  have k5:=V9.s1 (.int .i64 x1) (.int .i64 y1)
  have k6:=V9.s0 (.int .i64 x2)
  have k7:=V9.s1 (.int .i64 x2) (.int .i64 y2)
  clear V9 V10 V11
  cases l with
  | true=>
   go_wp2
   refine bodyPost_ret (v:=rv x2 y2) (by simp [results,Tryz.results210,go_sem,k6,k7]) rfl ⟨rfl,?_⟩
   repeat (first | exact uH HB4 | refine yA ?_ _ | refine Below.drew ?_ | refine yC ?_ _ _ _ (by omega))
  | false=>
   go_wp2
   refine bodyPost_ret (v:=rv x1 y1) (by simp [results,Tryz.results210,go_sem,k4,k5]) rfl ⟨rfl,?_⟩
   repeat (first | exact uH HB4 | refine yA ?_ _ | refine Below.drew ?_ | refine yC ?_ _ _ _ (by omega))
theorem aDQ (a b c d:Int) (w:World) :
  Calls Tryz.prog 181 #[rv a b,rv c d] w fun e w'=>e=.returned (.tuple #[jA 1 a b c d,.bool (aK 1 a b c d)])∧Below w.heap.size w w':=by
 have V1:=((aJ w 36 a b).al (.cells #[.int .i64 c,.int .i64 d] 36)).al (.cells #[.int .i64 0,.int .i64 0] 36)
 have V2:=(fJ w 36 36 a b c d).al (.cells #[.int .i64 0,.int .i64 0] 36)
 have V3:=fJ (w.alloc (.cells #[.int .i64 a,.int .i64 b] 36)) 36 36 c d 0 0
 have B3:=yA (yA (yA (Below.refl _ w) (.cells #[.int .i64 a,.int .i64 b] 36)) (.cells #[.int .i64 c,.int .i64 d] 36)) (.cells #[.int .i64 0,.int .i64 0] 36)
 simp at V3
 have HV1:=aA V1
 have HV2:=aA V2
 have HV3:=aA V3
 have HB3:=aA B3
 have hc:=aA (nD a b c d)
 clear V1 V2 V3 B3
 cases h0:aR a b&&aR c d
 ·have hb:aK 1 a b c d=false:=by rw [aK,h0];rfl
  rw [jS hb,hb]
  go_enter Tryz.func181,Tryz.ntmps181
  go_wp2_with fail
  refine (uH hc _).mono ?_
  rw [h0]
  rintro e w1 ⟨rfl,hb⟩
  have V3:=(uH HV3).below hb
  have k2:=V3.f 0
  have k3:=V3.f 1
  have k0:=V3.c0
  have k1:=V3.c1
  have k4:=V3.s0 (.int .i64 0)
  have k5:=V3.s1 (.int .i64 0) (.int .i64 0)
  have HB:=aA (yB (uH HB3) hb)
  clear hb HV1 HV2 HV3 HB3 V3 hc
  go_wp2
  refine bodyPost_ret (v:=.tuple #[rv 0 0,.bool false]) (by simp [results,Tryz.results181,go_sem,k4,k5]) rfl ⟨rfl,?_⟩
  repeat (first | exact uH HB | refine yA ?_ _ | refine Below.drew ?_ | refine yC ?_ _ _ _ (by omega))
 ·have h0':=h0
  simp only [Bool.and_eq_true] at h0'
  obtain ⟨q1,q2,q3,q4⟩:=dH h0'.1
  obtain ⟨q5,q6,q7,q8⟩:=dH h0'.2
  obtain ⟨x,hx⟩:∃x,a+c=x:=⟨_,rfl⟩
  obtain ⟨y,hy⟩:∃y,b+d=y:=⟨_,rfl⟩
  have m3:IntKind.i64.wrap (a+c)=x:=by rw [IntKind.wrap_i64];omega
  have m4:IntKind.i64.wrap (b+d)=y:=by rw [IntKind.wrap_i64];omega
  have e1:aK 1 a b c d=aR x y:=by rw [aK,h0,show a+1*c=x by omega,show b+1*d=y by omega];rfl
  have e2:jA 1 a b c d=orV x y:=by rw [jA,orV,e1,show a+1*c=x by omega,show b+1*d=y by omega]
  obtain ⟨u,v,hv⟩:∃u v,orV x y=rv u v:=by unfold orV;split<;>exact ⟨_,_,rfl⟩
  obtain ⟨o,ho⟩:∃o,aR x y=o:=⟨_,rfl⟩
  have ho2:∀wx,Calls Tryz.prog 154 #[rv x y] wx fun e w'=>e=.returned (.tuple #[rv u v,.bool o])∧Below wx.heap.size wx w':=fun wx=>by have:=aIe x y wx;rw [hv,ho] at this;exact this
  rw [e1,e2,hv,ho]
  have HO:=aA ho2
  clear e1 e2 hv ho ho2 h0' q1 q2 q3 q4 q5 q6 q7 q8 hx hy
  go_enter Tryz.func181,Tryz.ntmps181
  go_wp2_with fail
  refine (uH hc _).mono ?_
  rw [h0]
  rintro e w1 ⟨rfl,hb⟩
  have V1:=(uH HV1).below hb
  have V2:=(uH HV2).below hb
  have V3:=aA ((uH HV3).below hb)
  have a1:=V1.c0
  have a2:=V1.c1
  have a3:=V2.c0
  have a4:=V2.c1
  have HB:=aA (yB (uH HB3) hb)
  clear hb HV1 HV2 HV3 HB3 V1 V2 hc
  go_wp2_with fail
  refine (uH HO _).mono ?_
  rintro e w2 ⟨rfl,hb⟩
  have V4:=(uH V3).below hb
  have k0:=V4.c0
  have k1:=V4.c1
  have k2:=V4.f 0
  have k3:=V4.f 1
  have k4:=V4.s0 (.int .i64 u)
  have k5:=V4.s1 (.int .i64 u) (.int .i64 v)
  have HB2:=aA (yB (uH HB) hb)
  clear hb V4 V3 HB HO a1 a2 a3 a4
  go_wp2
  refine bodyPost_ret (v:=.tuple #[rv u v,.bool o]) (by simp [results,Tryz.results181,go_sem,k4,k5]) rfl ⟨rfl,?_⟩
  repeat (first | exact uH HB2 | refine yA ?_ _ | refine Below.drew ?_ | refine yC ?_ _ _ _ (by omega))
end
section
theorem aDC {a b c d e f:Int} (hb:iC b) (hd:iC d) (hf:iC f) (h:less c d a b=false) (k:less e f c d=false):less e f a b=false:=by
 unfold less at *
 by_cases f0:f=0
 ·simp [f0]
 ·by_cases d0:d=0
  ·simp [d0,f0] at k
  ·by_cases b0:b=0
   ·simp [b0,d0] at h
   ·simp only [b0,d0,f0,if_false,decide_eq_false_iff_not,Int.not_lt] at h k ⊢
    have pb:0≤b:=hb.1
    have pf:0≤f:=hf.1
    have pd:0<d:=by have:=hd.1;omega
    have h1:=Int.mul_le_mul_of_nonneg_right h pf
    have h2:=Int.mul_le_mul_of_nonneg_right k pb
    have e1:a*d*f=a*f*d:=by rw [Int.mul_assoc,Int.mul_comm d f,←Int.mul_assoc]
    have e2:c*b*f=c*f*b:=by rw [Int.mul_assoc,Int.mul_comm b f,←Int.mul_assoc]
    have e3:e*d*b=e*b*d:=by rw [Int.mul_assoc,Int.mul_comm d b,←Int.mul_assoc]
    have h3:a*f*d≤e*b*d:=by rw [←e1,←e3];rw [e2] at h1;exact Int.le_trans h1 h2
    exact Int.le_of_mul_le_mul_right h3 pd
end
section
open Go.RowKit
theorem nU (a b c d:Int) (w:World) :
  Calls Tryz.prog 137 #[rv a b,rv c d] w fun e w'=>e=.returned (.bool (within a b c d))∧Below w.heap.size w w':=by
 have HV1:=aA ((aJ w 36 a b).al (.cells #[.int .i64 c,.int .i64 d] 36))
 have HV2:=aA (fJ w 36 36 a b c d)
 have HB0:=aA (yA (yA (Below.refl _ w) (.cells #[.int .i64 a,.int .i64 b] 36)) (.cells #[.int .i64 c,.int .i64 d] 36))
 have hc:=aA (nD a b c d)
 cases h0:aR a b&&aR c d
 ·rw [show within a b c d=false by rw [within,h0];rfl]
  go_enter Tryz.func137,Tryz.ntmps137
  go_wp2_with fail
  refine (uH hc _).mono ?_
  rw [h0]
  rintro e w1 ⟨rfl,hb⟩
  have V1:=(uH HV1).below hb
  have V2:=(uH HV2).below hb
  have a1:=V1.c0
  have a2:=V1.c1
  have a3:=V2.c0
  have a4:=V2.c1
  have HB:=aA (yB (uH HB0) hb)
  clear hb HV1 HV2 HB0 V1 V2 hc
  go_wp2
  go_ret
  exact ⟨rfl,uH HB⟩
 ·by_cases h3:a≤c
  ·by_cases h4:b≤d
   ·rw [show within a b c d=true by rw [within,h0];simp [h3,h4]]
    go_enter Tryz.func137,Tryz.ntmps137
    go_wp2_with fail
    refine (uH hc _).mono ?_
    rw [h0]
    rintro e w1 ⟨rfl,hb⟩
    have V1:=(uH HV1).below hb
    have V2:=(uH HV2).below hb
    have a1:=V1.c0
    have a2:=V1.c1
    have a3:=V2.c0
    have a4:=V2.c1
    have HB:=aA (yB (uH HB0) hb)
    clear hb HV1 HV2 HB0 V1 V2 hc
    go_wp2
    go_ret
    exact ⟨rfl,uH HB⟩
   ·rw [show within a b c d=false by rw [within,h0];simp [h4]]
    go_enter Tryz.func137,Tryz.ntmps137
    go_wp2_with fail
    refine (uH hc _).mono ?_
    rw [h0]
    rintro e w1 ⟨rfl,hb⟩
    have V1:=(uH HV1).below hb
    have V2:=(uH HV2).below hb
    have a1:=V1.c0
    have a2:=V1.c1
    have a3:=V2.c0
    have a4:=V2.c1
    have HB:=aA (yB (uH HB0) hb)
    clear hb HV1 HV2 HB0 V1 V2 hc
    go_wp2
    go_ret
    exact ⟨yF (decide_eq_false (by omega)),uH HB⟩
  ·rw [show within a b c d=false by rw [within,h0];simp [h3]]
   go_enter Tryz.func137,Tryz.ntmps137
   go_wp2_with fail
   refine (uH hc _).mono ?_
   rw [h0]
   rintro e w1 ⟨rfl,hb⟩
   have V1:=(uH HV1).below hb
   have V2:=(uH HV2).below hb
   have a1:=V1.c0
   have a2:=V1.c1
   have a3:=V2.c0
   have a4:=V2.c1
   have HB:=aA (yB (uH HB0) hb)
   clear hb HV1 HV2 HB0 V1 V2 hc
   go_wp2
   go_ret
   exact ⟨rfl,uH HB⟩
end
end Go.Proofs.YtdhibeclkdepiaaGreat
