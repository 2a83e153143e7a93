/-
  What the model's DrawLessRatio answers: four amounts, or what looks like such; a walk over the dump.
-/
import Derived.Test.YtoejklldpceghaaDrawTwo
import Derived.Test.YtoejklldpceghaaDrawO
import Derived.Test.YtoejklldpceghaaVars
import Derived.Deep.RegionHeld3
namespace Go.Proofs.Ytoejklldpceghaa
open Go.RowKit
set_option linter.unusedVariables false

set_option maxRecDepth 100000 in
set_option maxHeartbeats 1000000 in
theorem drawLessRatio_any (B : Nat) (ao : Option Addr) (len cap : Nat) (w : World) (hcode : Code w B ao len) :
    Calls Try.prog 9 #[.slice ao len cap] w fun o w' => ∃ a b c d e f g h : Int, o = .returned (.tuple #[rv a b, rv c d, rv e f, rv g h]) ∧ (I64 a ∧ I64 b ∧ I64 c ∧ I64 d ∧ I64 e ∧ I64 f ∧ I64 g ∧ I64 h) ∧ Below w.heap.size w w' := by
  have HB0 := hide (below_al (below_al (below_al (below_al (Below.refl _ w) zz) zz) zz) zz)
  have HK := hide (hcode.below (unhide HB0) hcode.1)
  have U0 := hide ((((var_new w 25 0 0).al zz).al zz).al zz)
  have U1 := hide (((var_new2 w 25 25 0 0 0 0).al zz).al zz)
  have U2 := hide ((show Var (((w.alloc zz).alloc zz).alloc zz) 25 (w.heap.size + 1 + 1) 0 0 by simpa using var_new ((w.alloc zz).alloc zz) 25 0 0).al zz)
  have U3 := hide (show Var ((((w.alloc zz).alloc zz).alloc zz).alloc zz) 25 (w.heap.size + 1 + 1 + 1) 0 0 by simpa using var_new (((w.alloc zz).alloc zz).alloc zz) 25 0 0)
  have VR := hide (Vars.cons (unhide U0) (Vars.cons (unhide U1) (Vars.cons (unhide U2) (Vars.cons (unhide U3) (Vars.nil _)))))
  clear hcode U0 U1 U2 U3
  go_enter Try.func9, Try.ntmps9
  go_wp2_with fail
  refine (new_st B ao len cap _ (unhide HK)).mono ?_
  rintro o w1 ⟨rfl, hs⟩
  have hg := hs.2.2.1
  simp only [World.size_alloc] at hs hg
  have VR1 := hide ((unhide VR).grown hg (by simp <;> omega))
  have HS1 := hide hs
  clear hs hg VR
  go_wp2_with fail
  refine (l02Res_st _ (unhide HS1)).mono ?_
  rintro o w2 ⟨a, b, rfl, hp, hq, hs, hg⟩
  have hl2 : w.heap.size + 1 + 1 + 1 + 1 < w2.heap.size := hs.1.lt
  have VR2 := hide (((unhide VR1).grown hg (by simp <;> omega)).al (.cells #[.int .i64 a, .int .i64 b] 25))
  have VV2 := hide (Vars.cons (var_new w2 25 a b) (Vars.nil _))
  have HS2 := hide (hs.alloc (.cells #[.int .i64 a, .int .i64 b] 25))
  have J2 := hide (And.intro hp hq)
  clear hs hg hp hq VR1 HS1
  go_wp2_with fail
  refine (l02Res_st _ (unhide HS2)).mono ?_
  rintro o w3 ⟨c, d, rfl, hp, hq, hs, hg⟩
  have hl3 : w.heap.size + 1 + 1 + 1 + 1 < w3.heap.size := hs.1.lt
  have hm3 : ∀ v ∈ [(w2.heap.size, a, b)], v.1 < w3.heap.size := fun v hv => (((unhide VV2).grown hg (by simp <;> omega)) v hv).lt
  simp at hm3
  have VR3 := hide (((unhide VR2).grown hg (by simp <;> omega)).al (.cells #[.int .i64 c, .int .i64 d] 25))
  have VV3 := hide (Vars.cons (var_new w3 25 c d) (((unhide VV2).grown hg (by simp <;> omega)).al (.cells #[.int .i64 c, .int .i64 d] 25)))
  have HS3 := hide (hs.alloc (.cells #[.int .i64 c, .int .i64 d] 25))
  have J3 := hide (And.intro hp hq)
  clear hs hg hp hq VR2 HS2 VV2
  go_wp2_with fail
  refine (l02Res_st _ (unhide HS3)).mono ?_
  rintro o w4 ⟨e, f, rfl, hp, hq, hs, hg⟩
  have hl4 : w.heap.size + 1 + 1 + 1 + 1 < w4.heap.size := hs.1.lt
  have hm4 : ∀ v ∈ [(w3.heap.size, c, d), (w2.heap.size, a, b)], v.1 < w4.heap.size := fun v hv => (((unhide VV3).grown hg (by simp <;> omega)) v hv).lt
  simp at hm4
  have VR4 := hide (((unhide VR3).grown hg (by simp <;> omega)).al (.cells #[.int .i64 e, .int .i64 f] 25))
  have VV4 := hide (Vars.cons (var_new w4 25 e f) (((unhide VV3).grown hg (by simp <;> omega)).al (.cells #[.int .i64 e, .int .i64 f] 25)))
  have HS4 := hide (hs.alloc (.cells #[.int .i64 e, .int .i64 f] 25))
  have J4 := hide (And.intro hp hq)
  clear hs hg hp hq VR3 HS3 VV3
  go_wp2_with fail
  refine (l01Once_any B _ ao len cap 4 _ (unhide HS4).1 (unhide HS4).2.1 (unhide HS4).2.2.2 (by decide) (by decide)).mono ?_
  rintro o w5 ⟨z, rfl, hcur, hg⟩
  have HS5 := hide ((unhide HS4).step hcur hg)
  have VR5 := hide ((unhide VR4).grown hg (by simp <;> omega))
  have VV5 := hide ((unhide VV4).grown hg (by simp <;> omega))
  clear hcur hg HS4 VR4 VV4
  have RD := fun wx (h : Vars [(w4.heap.size, e, f), (w3.heap.size, c, d), (w2.heap.size, a, b)] wx) => vars_read3 h
  cases z with
  | true =>
    have R0 := (unhide VR5) _ (by simp : (w.heap.size, (0 : Int), (0 : Int)) ∈ [(w.heap.size, (0 : Int), (0 : Int)), (w.heap.size + 1, 0, 0), (w.heap.size + 1 + 1, 0, 0), (w.heap.size + 1 + 1 + 1, 0, 0)])
    have r0a := R0.c0
    have r0b := R0.c1
    have r0c := R0.f 0
    have r0d := R0.f 1
    have H0 := hide R0
    have R1 := (unhide VR5) _ (by simp : (w.heap.size + 1, (0 : Int), (0 : Int)) ∈ [(w.heap.size, (0 : Int), (0 : Int)), (w.heap.size + 1, 0, 0), (w.heap.size + 1 + 1, 0, 0), (w.heap.size + 1 + 1 + 1, 0, 0)])
    have r1a := R1.c0
    have r1b := R1.c1
    have r1c := R1.f 0
    have r1d := R1.f 1
    have H1 := hide R1
    have R2 := (unhide VR5) _ (by simp : (w.heap.size + 1 + 1, (0 : Int), (0 : Int)) ∈ [(w.heap.size, (0 : Int), (0 : Int)), (w.heap.size + 1, 0, 0), (w.heap.size + 1 + 1, 0, 0), (w.heap.size + 1 + 1 + 1, 0, 0)])
    have r2a := R2.c0
    have r2b := R2.c1
    have r2c := R2.f 0
    have r2d := R2.f 1
    have H2 := hide R2
    have R3 := (unhide VR5) _ (by simp : (w.heap.size + 1 + 1 + 1, (0 : Int), (0 : Int)) ∈ [(w.heap.size, (0 : Int), (0 : Int)), (w.heap.size + 1, 0, 0), (w.heap.size + 1 + 1, 0, 0), (w.heap.size + 1 + 1 + 1, 0, 0)])
    have r3a := R3.c0
    have r3b := R3.c1
    have r3c := R3.f 0
    have r3d := R3.f 1
    have H3 := hide R3
    clear R0 R1 R2 R3
    go_wp2_with fail
    go_region_held3 (fun wx => Vars [(w4.heap.size, e, f), (w3.heap.size, c, d), (w2.heap.size, a, b)] wx)
      (first | (with_reducible exact unhide VV6) | ((with_reducible refine Vars.drew ?_); (repeat (with_reducible refine Vars.set ?_ _ _ _ (by simp <;> omega))); (with_reducible exact unhide VV5)) | ((repeat (with_reducible refine Vars.set ?_ _ _ _ (by simp <;> omega))); (with_reducible exact unhide VV6)))
      (fail)
    have k0a := (unhide H0).s0 (.int .i64 a)
    have k0b := (unhide H0).s1 (.int .i64 a) (.int .i64 b)
    have k1a := (((unhide H1).other w.heap.size 0 (.int .i64 a) (by omega)).other w.heap.size 1 (.int .i64 b) (by omega)).s0 (.int .i64 c)
    have k1b := (((unhide H1).other w.heap.size 0 (.int .i64 a) (by omega)).other w.heap.size 1 (.int .i64 b) (by omega)).s1 (.int .i64 c) (.int .i64 d)
    have k2a := (((((unhide H2).other w.heap.size 0 (.int .i64 a) (by omega)).other w.heap.size 1 (.int .i64 b) (by omega)).other (w.heap.size + 1) 0 (.int .i64 c) (by omega)).other (w.heap.size + 1) 1 (.int .i64 d) (by omega)).s0 (.int .i64 a)
    have k2b := (((((unhide H2).other w.heap.size 0 (.int .i64 a) (by omega)).other w.heap.size 1 (.int .i64 b) (by omega)).other (w.heap.size + 1) 0 (.int .i64 c) (by omega)).other (w.heap.size + 1) 1 (.int .i64 d) (by omega)).s1 (.int .i64 a) (.int .i64 b)
    have k3a := (((((((unhide H3).other w.heap.size 0 (.int .i64 a) (by omega)).other w.heap.size 1 (.int .i64 b) (by omega)).other (w.heap.size + 1) 0 (.int .i64 c) (by omega)).other (w.heap.size + 1) 1 (.int .i64 d) (by omega)).other (w.heap.size + 1 + 1) 0 (.int .i64 a) (by omega)).other (w.heap.size + 1 + 1) 1 (.int .i64 b) (by omega)).s0 (.int .i64 c)
    have k3b := (((((((unhide H3).other w.heap.size 0 (.int .i64 a) (by omega)).other w.heap.size 1 (.int .i64 b) (by omega)).other (w.heap.size + 1) 0 (.int .i64 c) (by omega)).other (w.heap.size + 1) 1 (.int .i64 d) (by omega)).other (w.heap.size + 1 + 1) 0 (.int .i64 a) (by omega)).other (w.heap.size + 1 + 1) 1 (.int .i64 b) (by omega)).s1 (.int .i64 c) (.int .i64 d)
    have HB := hide (below_on (unhide HB0) ((unhide HS5).done (by simp)))
    clear H0 H1 H2 H3 HK
    go_wp2
    refine bodyPost_ret (v := .tuple #[rv a b, rv c d, rv a b, rv c d]) (by simp [results, Try.results9, go_sem, k0a, k0b, k1a, k1b, k2a, k2b, k3a, k3b]) rfl ⟨a, b, c, d, a, b, c, d, rfl, ⟨(unhide J2).1, (unhide J2).2, (unhide J3).1, (unhide J3).2, (unhide J2).1, (unhide J2).2, (unhide J3).1, (unhide J3).2⟩, (below_sc (below_sc (below_sc (below_sc (below_sc (below_sc (below_sc (below_sc (unhide HB) _ _ _ (by omega)) _ _ _ (by omega)) _ _ _ (by omega)) _ _ _ (by omega)) _ _ _ (by omega)) _ _ _ (by omega)) _ _ _ (by omega)) _ _ _ (by omega)).drew⟩
  | false =>
    have HS6 := hide ((unhide HS5).below (Below.refl _ _).drew)
    have VR6 := hide (unhide VR5).drew
    go_wp2_with fail
    go_region_held3 (fun wx => Vars [(w4.heap.size, e, f), (w3.heap.size, c, d), (w2.heap.size, a, b)] wx)
      (first | (with_reducible exact unhide VV6) | ((with_reducible refine Vars.drew ?_); (repeat (with_reducible refine Vars.set ?_ _ _ _ (by simp <;> omega))); (with_reducible exact unhide VV5)) | ((repeat (with_reducible refine Vars.set ?_ _ _ _ (by simp <;> omega))); (with_reducible exact unhide VV6)))
      ((go_at_call 29; refine (l02Res_st _ (unhide HS6)).mono ?_; rintro o w6 ⟨g, h, rfl, hp, hq, hs, hg⟩
        have VV6 := hide (Vars.grown (unhide VV5).drew hg (by simp <;> omega))
        have VR7 := (unhide VR6).grown hg (by simp <;> omega)
        have R0 := VR7 _ (by simp : (w.heap.size, (0 : Int), (0 : Int)) ∈ [(w.heap.size, (0 : Int), (0 : Int)), (w.heap.size + 1, 0, 0), (w.heap.size + 1 + 1, 0, 0), (w.heap.size + 1 + 1 + 1, 0, 0)])
        have r0a := R0.c0
        have r0b := R0.c1
        have r0c := R0.f 0
        have r0d := R0.f 1
        have H0 := hide R0
        have R1 := VR7 _ (by simp : (w.heap.size + 1, (0 : Int), (0 : Int)) ∈ [(w.heap.size, (0 : Int), (0 : Int)), (w.heap.size + 1, 0, 0), (w.heap.size + 1 + 1, 0, 0), (w.heap.size + 1 + 1 + 1, 0, 0)])
        have r1a := R1.c0
        have r1b := R1.c1
        have r1c := R1.f 0
        have r1d := R1.f 1
        have H1 := hide R1
        have R2 := VR7 _ (by simp : (w.heap.size + 1 + 1, (0 : Int), (0 : Int)) ∈ [(w.heap.size, (0 : Int), (0 : Int)), (w.heap.size + 1, 0, 0), (w.heap.size + 1 + 1, 0, 0), (w.heap.size + 1 + 1 + 1, 0, 0)])
        have r2a := R2.c0
        have r2b := R2.c1
        have r2c := R2.f 0
        have r2d := R2.f 1
        have H2 := hide R2
        have R3 := VR7 _ (by simp : (w.heap.size + 1 + 1 + 1, (0 : Int), (0 : Int)) ∈ [(w.heap.size, (0 : Int), (0 : Int)), (w.heap.size + 1, 0, 0), (w.heap.size + 1 + 1, 0, 0), (w.heap.size + 1 + 1 + 1, 0, 0)])
        have r3a := R3.c0
        have r3b := R3.c1
        have r3c := R3.f 0
        have r3d := R3.f 1
        have H3 := hide R3
        clear R0 R1 R2 R3
        have HS7 := hide hs
        have J7 := hide (And.intro hp hq)
        clear VR7 hs hp hq))
    have k0a := (unhide H0).s0 (.int .i64 a)
    have k0b := (unhide H0).s1 (.int .i64 a) (.int .i64 b)
    have k1a := (((unhide H1).other w.heap.size 0 (.int .i64 a) (by omega)).other w.heap.size 1 (.int .i64 b) (by omega)).s0 (.int .i64 c)
    have k1b := (((unhide H1).other w.heap.size 0 (.int .i64 a) (by omega)).other w.heap.size 1 (.int .i64 b) (by omega)).s1 (.int .i64 c) (.int .i64 d)
    have k2a := (((((unhide H2).other w.heap.size 0 (.int .i64 a) (by omega)).other w.heap.size 1 (.int .i64 b) (by omega)).other (w.heap.size + 1) 0 (.int .i64 c) (by omega)).other (w.heap.size + 1) 1 (.int .i64 d) (by omega)).s0 (.int .i64 e)
    have k2b := (((((unhide H2).other w.heap.size 0 (.int .i64 a) (by omega)).other w.heap.size 1 (.int .i64 b) (by omega)).other (w.heap.size + 1) 0 (.int .i64 c) (by omega)).other (w.heap.size + 1) 1 (.int .i64 d) (by omega)).s1 (.int .i64 e) (.int .i64 f)
    have k3a := (((((((unhide H3).other w.heap.size 0 (.int .i64 a) (by omega)).other w.heap.size 1 (.int .i64 b) (by omega)).other (w.heap.size + 1) 0 (.int .i64 c) (by omega)).other (w.heap.size + 1) 1 (.int .i64 d) (by omega)).other (w.heap.size + 1 + 1) 0 (.int .i64 e) (by omega)).other (w.heap.size + 1 + 1) 1 (.int .i64 f) (by omega)).s0 (.int .i64 g)
    have k3b := (((((((unhide H3).other w.heap.size 0 (.int .i64 a) (by omega)).other w.heap.size 1 (.int .i64 b) (by omega)).other (w.heap.size + 1) 0 (.int .i64 c) (by omega)).other (w.heap.size + 1) 1 (.int .i64 d) (by omega)).other (w.heap.size + 1 + 1) 0 (.int .i64 e) (by omega)).other (w.heap.size + 1 + 1) 1 (.int .i64 f) (by omega)).s1 (.int .i64 g) (.int .i64 h)
    have HB := hide (below_on (unhide HB0) ((unhide HS7).done (by simp)))
    clear H0 H1 H2 H3 HK
    go_wp2
    refine bodyPost_ret (v := .tuple #[rv a b, rv c d, rv e f, rv g h]) (by simp [results, Try.results9, go_sem, k0a, k0b, k1a, k1b, k2a, k2b, k3a, k3b]) rfl ⟨a, b, c, d, e, f, g, h, rfl, ⟨(unhide J2).1, (unhide J2).2, (unhide J3).1, (unhide J3).2, (unhide J4).1, (unhide J4).2, (unhide J7).1, (unhide J7).2⟩, (below_sc (below_sc (below_sc (below_sc (below_sc (below_sc (below_sc (below_sc (unhide HB) _ _ _ (by omega)) _ _ _ (by omega)) _ _ _ (by omega)) _ _ _ (by omega)) _ _ _ (by omega)) _ _ _ (by omega)) _ _ _ (by omega)) _ _ _ (by omega))⟩
end Go.Proofs.Ytoejklldpceghaa
