/-
  Texts in one: LessRatioS, FracI, RatioP, KnownI, ToQ, QueuesOkM, PathM, AddI, OfM, FitsM, UpM1, UpM, RatN, WithinI.
-/
import Derived.Test.YtdhibeclkdepiaaGreatSackA
import Derived.Maps.OwnSet
import Derived.Maps.Views
import Derived.DeepKeys4
set_option maxRecDepth 100000
set_option maxHeartbeats 16000000
set_option linter.unusedVariables false
set_option linter.unusedSimpArgs false
namespace Go.Proofs.YtdhibeclkdepiaaGreat
section
open Go.RowKit
def uV (a b c d e f g h:Int):Bool:=less (fF a b c d).1 (fF a b c d).2 (fF e f g h).1 (fF e f g h).2
theorem lK (a b c d e f g h:Int) (w:World) :
  Calls Tryz.prog 184 #[rv a b,rv c d,rv e f,rv g h] w fun o w'=>o=.returned (.bool (uV a b c d e f g h))∧Below w.heap.size w w':=by
 obtain ⟨p1,p2⟩:=jY a b c d
 obtain ⟨p3,p4⟩:=jY e f g h
 have V3:=((aH ((w.alloc (.cells #[.int .i64 a,.int .i64 b] 36)).alloc (.cells #[.int .i64 c,.int .i64 d] 36)) 36 e f).al (.cells #[.int .i64 g,.int .i64 h] 36))
 have V4:=aH (((w.alloc (.cells #[.int .i64 a,.int .i64 b] 36)).alloc (.cells #[.int .i64 c,.int .i64 d] 36)).alloc (.cells #[.int .i64 e,.int .i64 f] 36)) 36 g h
 have HV3:=aA V3
 have HV4:=aA V4
 clear V3 V4
 go_enter Tryz.func184,Tryz.ntmps184
 go_wp2_with fail
 refine (qF _ _ _ _ _).mono ?_
 rintro o w1 ⟨rfl,hb⟩
 have V3:=(uH HV3).below hb
 have V4:=(uH HV4).below hb
 simp at V3 V4
 have a1:=V3.c0
 have a2:=V3.c1
 have a3:=V4.c0
 have a4:=V4.c1
 have HB:=aA (yB (yA (yA (yA (yA (yH _ _) _) _) _) _) hb)
 clear hb HV3 HV4 V3 V4
 go_wp2_with fail
 refine (qF _ _ _ _ _).mono ?_
 rintro o w2 ⟨rfl,hb⟩
 have HB2:=aA (yB (uH HB) hb)
 clear hb HB a1 a2 a3 a4
 go_wp2_with fail
 refine (nL _ _ _ _ _ p1 p2 p3 p4).mono ?_
 rintro o w3 ⟨rfl,rfl⟩
 go_wp2
 go_ret
 exact ⟨rfl,uH HB2⟩
abbrev fv (p:Int×Int):Value:=rv p.1 p.2
def aKp (x y:Int):Prop:=iT x∧iT y∧(y=0→x=1)
theorem qM {u d:Int} (hu:iT u) (hd:iT d):aKp (mJ u d).1 (mJ u d).2:=by
 refine ⟨(jV hu hd).1,(jV hu hd).2,?_⟩
 unfold mJ
 split
 ·intro h;simp at h;omega
 ·split<;>simp
theorem aAF (a b c d:Int):aKp (fF a b c d).1 (fF a b c d).2:=by
 unfold fF
 split
 ·rename_i h
  simp only [yK] at h
  obtain ⟨s1,s2⟩:=dW h.1
  obtain ⟨s3,s4⟩:=dW h.2
  split
  ·exact qM s2 s4
  ·exact qM s1 s3
 ·exact ⟨by unfold iT;simp,by unfold iT;simp,by simp⟩
theorem aGG {a b c d:Int} (h1:aKp a b) (h2:aKp c d):less a b c d=decide (a*d<c*b):=by
 obtain ⟨⟨a0,a1⟩,⟨b0,b1⟩,k1⟩:=h1
 obtain ⟨⟨c0,c1⟩,⟨d0,d1⟩,k2⟩:=h2
 unfold less
 split
 ·rename_i hb
  subst hb
  rw [k1 rfl]
  simp;omega
 ·split
  ·rename_i hb hd
   subst hd
   rw [k2 rfl]
   simp;omega
  ·rfl
theorem pF (u d:Int) (w:World) :
  Calls Tryz.prog 212 #[.int .i64 u,.int .i64 d] w fun e w'=>e=.returned (fv (mJ u d))∧Below w.heap.size w w':=by
 by_cases h1:0<d
 ·rw [show mJ u d=(u,d) from if_pos h1]
  go_enter Tryz.func212,Tryz.ntmps212
  go_wp2
  refine bodyPost_ret (v:=rv u d) (by simp [results,Tryz.results212,go_sem]) rfl ⟨rfl,?_⟩
  repeat (first | exact yH _ _ | refine yA ?_ _ | refine Below.drew ?_ | refine yC ?_ _ _ _ (by omega))
 ·by_cases h2:0<u
  ·rw [show mJ u d=(1,0) by simp [mJ,h1,h2]]
   go_enter Tryz.func212,Tryz.ntmps212
   go_wp2
   refine bodyPost_ret (v:=rv 1 0) (by simp [results,Tryz.results212,go_sem]) rfl ⟨rfl,?_⟩
   repeat (first | exact yH _ _ | refine yA ?_ _ | refine Below.drew ?_ | refine yC ?_ _ _ _ (by omega))
  ·rw [show mJ u d=(0,1) by simp [mJ,h1,h2]]
   go_enter Tryz.func212,Tryz.ntmps212
   go_wp2
   refine bodyPost_ret (v:=rv 0 1) (by simp [results,Tryz.results212,go_sem]) rfl ⟨rfl,?_⟩
   repeat (first | exact yH _ _ | refine yA ?_ _ | refine Below.drew ?_ | refine yC ?_ _ _ _ (by omega))
theorem uG (a b c d:Int) (w:World) (h1:aKp a b) (h2:aKp c d) :
  Calls Tryz.prog 202 #[rv a b,rv c d] w fun e w'=>e=.returned (.bool (less a b c d))∧Below w.heap.size w w':=by
 obtain ⟨m1,m2⟩:=qI h1.1 h2.2.1
 obtain ⟨m3,m4⟩:=qI h2.1 h1.2.1
 rw [aGG h1 h2]
 clear h1 h2
 go_enter Tryz.func202,Tryz.ntmps202
 go_wp2
 go_ret
 refine ⟨rfl,?_⟩
 repeat (first | exact yH _ _ | refine yA ?_ _ | refine Below.drew ?_ | refine yC ?_ _ _ _ (by omega))
theorem aBJ (a b c d:Int) (w:World) :
  Calls Tryz.prog 210 #[pv a b c d] w fun e w'=>e=.returned (fv (fF a b c d))∧Below w.heap.size w w':=by
 have HV1:=aA ((vE w 192 a b c d).al (.cells #[.int .i64 0,.int .i64 0] 236))
 have HV2:=aA (show Var ((w.alloc (.cells #[.int .i64 a,.int .i64 b,.int .i64 c,.int .i64 d] 192)).alloc (.cells #[.int .i64 0,.int .i64 0] 236)) 236 (w.heap.size+1) 0 0 by have:=aH (w.alloc (.cells #[.int .i64 a,.int .i64 b,.int .i64 c,.int .i64 d] 192)) 236 0 0;simpa using this)
 have HB0:=aA (yA (yA (yH _ w) (.cells #[.int .i64 a,.int .i64 b,.int .i64 c,.int .i64 d] 192)) (.cells #[.int .i64 0,.int .i64 0] 236))
 have hc:=aA (oC a b c d)
 cases h0:aL a b&&aL c d
 ·rw [show fF a b c d=(0,1) by rw [fF,h0];rfl]
  go_enter Tryz.func210,Tryz.ntmps210
  go_wp2_with fail
  refine (uH hc _).mono ?_
  rw [h0]
  rintro e w1 ⟨rfl,hb⟩
  have V2:=(uH HV2).below hb
  have k0:=V2.c0
  have k1:=V2.c1
  have k2:=V2.f 0
  have k3:=V2.f 1
  have k4:=V2.s0 (.int .i64 0)
  have k5:=V2.s1 (.int .i64 0) (.int .i64 1)
  have HB:=aA (yB (uH HB0) hb)
  clear hb HV1 HV2 HB0 V2 hc
  go_wp2
  refine bodyPost_ret (v:=rv 0 1) (by simp [results,Tryz.results210,go_sem,k4,k5]) rfl ⟨rfl,?_⟩
  repeat (first | exact uH HB | refine yA ?_ _ | refine Below.drew ?_ | refine yC ?_ _ _ _ (by omega))
 ·have h0':=h0
  simp only [yK] at h0'
  obtain ⟨s1,s2⟩:=dW h0'.1
  obtain ⟨s3,s4⟩:=dW h0'.2
  have F1:=qM s1 s3
  have F2:=qM s2 s4
  have hr:fF a b c d=if less (mJ a c).1 (mJ a c).2 (mJ b d).1 (mJ b d).2 then mJ b d else mJ a c:=by rw [fF,h0];rfl
  rw [hr]
  have hp1:=aA (pF a c)
  have hp2:=aA (pF b d)
  obtain ⟨⟨x1,y1⟩,e1⟩:∃p,mJ a c=p:=⟨_,rfl⟩
  obtain ⟨⟨x2,y2⟩,e2⟩:∃p,mJ b d=p:=⟨_,rfl⟩
  rw [e1] at hp1 F1 ⊢
  rw [e2] at hp2 F2 ⊢
  obtain ⟨l,hl⟩:∃l,less x1 y1 x2 y2=l:=⟨_,rfl⟩
  have hL:∀wx,Calls Tryz.prog 202 #[rv x1 y1,rv x2 y2] wx fun e w'=>e=.returned (.bool l)∧Below wx.heap.size wx w':=fun wx=>by have:=uG x1 y1 x2 y2 wx F1 F2;rw [hl] at this;exact this
  have HL:=aA hL
  rw [show less (x1,y1).1 (x1,y1).2 (x2,y2).1 (x2,y2).2=l from hl]
  clear hL hl F1 F2 e1 e2 hr s1 s2 s3 s4 h0'
  go_enter Tryz.func210,Tryz.ntmps210
  go_wp2_with fail
  refine (uH hc _).mono ?_
  rw [h0]
  rintro e w1 ⟨rfl,hb⟩
  have V1:=(uH HV1).below hb
  have HV1':=aA V1
  have V2:=aA ((uH HV2).below hb)
  have a1:=V1.c0
  have a2:=V1.c1
  have a3:=V1.c2
  have a4:=V1.c3
  have HB:=aA (yB (uH HB0) hb)
  clear hb HV1 HV2 HB0 V1 hc
  go_wp2_with fail
  refine (uH hp1 _).mono ?_
  rintro e w2 ⟨rfl,hb⟩
  have V3:=aA (((uH HV1').below hb).al (.cells #[.int .i64 x1,.int .i64 y1] 236))
  have V4:=aA (((uH V2).below hb).al (.cells #[.int .i64 x1,.int .i64 y1] 236))
  have V5:=aA (aH w2 236 x1 y1)
  have HB2:=aA (yA (yB (uH HB) hb) (.cells #[.int .i64 x1,.int .i64 y1] 236))
  clear hb HV1' V2 HB hp1 a1 a2 a3 a4
  have a1:=(uH V3).c0
  have a2:=(uH V3).c1
  have a3:=(uH V3).c2
  have a4:=(uH V3).c3
  go_wp2_with fail
  refine (uH hp2 _).mono ?_
  rintro e w3 ⟨rfl,hb⟩
  have V6:=aA (((uH V4).below hb).al (.cells #[.int .i64 x2,.int .i64 y2] 236))
  have V7:=aA (((uH V5).below hb).al (.cells #[.int .i64 x2,.int .i64 y2] 236))
  have V8:=aA (aH w3 236 x2 y2)
  have HB3:=aA (yA (yB (uH HB2) hb) (.cells #[.int .i64 x2,.int .i64 y2] 236))
  clear hb V3 V4 V5 HB2 hp2 a1 a2 a3 a4
  have a1:=(uH V7).c0
  have a2:=(uH V7).c1
  have a3:=(uH V8).c0
  have a4:=(uH V8).c1
  go_wp2_with fail
  refine (uH HL _).mono ?_
  rintro e w4 ⟨rfl,hb⟩
  have V9:=(uH V6).below hb
  have V10:=(uH V7).below hb
  have V11:=(uH V8).below hb
  have HB4:=aA (yB (uH HB3) hb)
  clear hb V6 V7 V8 HB3 HL a1 a2 a3 a4
  have a1:=V10.c0
  have a2:=V10.c1
  have a3:=V11.c0
  have a4:=V11.c1
  have k0:=V9.c0
  have k1:=V9.c1
  have k2:=V9.f 0
  have k3:=V9.f 1
  have k4:=V9.s0 (.int .i64 x1)
  have k5:=V9.s1 (.int .i64 x1) (.int .i64 y1)
  have k6:=V9.s0 (.int .i64 x2)
  have k7:=V9.s1 (.int .i64 x2) (.int .i64 y2)
  clear V9 V10 V11
  cases l with
  | true=>
   go_wp2
   refine bodyPost_ret (v:=rv x2 y2) (by simp [results,Tryz.results210,go_sem,k6,k7]) rfl ⟨rfl,?_⟩
   repeat (first | exact uH HB4 | refine yA ?_ _ | refine Below.drew ?_ | refine yC ?_ _ _ _ (by omega))
  | false=>
   go_wp2
   refine bodyPost_ret (v:=rv x1 y1) (by simp [results,Tryz.results210,go_sem,k4,k5]) rfl ⟨rfl,?_⟩
   repeat (first | exact uH HB4 | refine yA ?_ _ | refine Below.drew ?_ | refine yC ?_ _ _ _ (by omega))
end
section
open Go.RowKit Go.Maps
theorem aGA:laidOutB Tryz.prog=true:=by kernel_rfl
theorem aKK:(192:TypeId)<Tryz.prog.types.size:=of_decide_eq_true (by kernel_rfl)
theorem aJB:(match Tryz.prog.underlying 192 with | some (.array _ _) | some (.struct _)=>true | _=>false)=true:=by kernel_rfl
theorem wH:Keyed Tryz.prog 192:=Keyed.of_law (deep_law_laid aGA (m:=3) (by omega) aKK (by kernel_rfl) aJB)
theorem aDn:Tryz.prog.keyType 192=true:=by kernel_rfl
theorem aCN:Tryz.prog.cellsOf 192=4:=by kernel_rfl
theorem aEl:Tryz.prog.cellsOf 36=2:=by kernel_rfl
theorem aJU:Tryz.prog.cellsOf 3=1:=by kernel_rfl
theorem aGo:∃m,Tryz.prog.types.size+1=m+3:=⟨Tryz.prog.types.size - 2,by have:3≤Tryz.prog.types.size:=of_decide_eq_true (by kernel_rfl);omega⟩
theorem aEz (n:Nat) {a:Int} (h:(Lit.int .i64 a).wf=true):Tryz.prog.keyLits (n+1) 3 [.int .i64 a]=some [.int .i64 a]:=by
 simp [Program.keyLits,Tryz.underlying3,h]
theorem aEy (n:Nat) {a b:Int} (ha:(Lit.int .i64 a).wf=true) (hb:(Lit.int .i64 b).wf=true):Tryz.prog.keyLits (n+2) 36 [.int .i64 a,.int .i64 b]=some [.int .i64 a,.int .i64 b]:=by
 have h:=Tryz.underlying36
 unfold Program.keyLits
 simp [h,aEl,aJU,aEz n ha,aEz n hb]
theorem aKL {a b c d:Int} (ha:(Lit.int .i64 a).wf=true) (hb:(Lit.int .i64 b).wf=true) (hc:(Lit.int .i64 c).wf=true) (hd:(Lit.int .i64 d).wf=true):∃kl,keyOf Tryz.prog 192 (pv a b c d)=some kl:=by
 obtain ⟨m,hm⟩:=aGo
 have h:Tryz.prog.keyLits (m+3) 192 [.int .i64 a,.int .i64 b,.int .i64 c,.int .i64 d]=some [.int .i64 a,.int .i64 b,.int .i64 c,.int .i64 d]:=by
  have h:=Tryz.underlying192
  unfold Program.keyLits
  simp [h,aCN,aEl,aEy m ha hb,aEy m hc hd,List.range_succ]
 have hu:=Tryz.underlying192
 have hk:keyOf Tryz.prog 192 (pv a b c d)=if Tryz.prog.keyType 192&&(pv a b c d).formed Tryz.prog 192 then (Tryz.prog.keyLits (Tryz.prog.types.size+1) 192 (pv a b c d).cells.toList).map (fun ls=>.string (keyBytes ls)) else none:=by
  unfold keyOf
  rw [hu]
 rw [hk,if_pos (by simp [aDn,Value.formed,hu,aCN]),hm,show (pv a b c d).cells.toList=[.int .i64 a,.int .i64 b,.int .i64 c,.int .i64 d] from rfl,h]
 exact ⟨_,rfl⟩
def fd (p:Int×Int):DataW Unit:=.agg [.lit (.int .i64 p.1),.lit (.int .i64 p.2)]
def mX:Value→Option (DataW Unit×List MemPlace)
 | .agg cs=>match cs.toList with
  | [.int .i64 x,.int .i64 y]=>some (fd (x,y),[])
  | _=>none
 | _=>none
theorem xN (x y:Int):mX (rv x y)=some (fd (x,y),[]):=rfl
theorem uI {v:Value} {x y:Int} {ps:List MemPlace} (h:mX v=some (fd (x,y),ps)):v=rv x y:=by
 unfold mX at h
 split at h
 ·rename_i cs
  split at h
  ·rename_i x' y' e
   have e2:cs=#[.int .i64 x',.int .i64 y']:=by cases cs;simpa using e
   simp [fd] at h
   rw [e2,h.1.1,h.1.2]
  ·cases h
 ·cases h
def aGg (D:DataW Unit):Prop:=∀a b c d kl,keyOf Tryz.prog 192 (pv a b c d)=some kl→Maps.has D kl=true→∀zd,D.atKey kl zd=fd (fF a b c d)
theorem aEI:aGg (.map []):=fun a b c d kl _ h=>by simp [Maps.has] at h
theorem aGg.put {D:DataW Unit} (h:aGg D) (hD:IsMap D) {a b c d:Int} {kl:Lit} (hk:keyOf Tryz.prog 192 (pv a b c d)=some kl):aGg (D.put kl (fd (fF a b c d))):=fun a' b' c' d' kl' hk' hh zd=>by
 by_cases e:kl'=kl
 ·subst e
  have:=wH.inj hk hk'
  simp [pv] at this
  obtain ⟨rfl,rfl,rfl,rfl⟩:=this
  exact atKey_put_same hD (wH.key hk) _ _
 ·rw [atKey_put_other e]
  rw [has_put_other e] at hh
  exact h a' b' c' d' kl' hk' hh zd
theorem aJY (w:World):(zeroValue 236).run Tryz.prog w=.ok (rv 0 0) w:=by kernel_rfl
theorem look {w:World} {bm n:Nat} {D:DataW Unit} (hown:w.ownsMap Tryz.prog 192 mX bm n D) (hk:aGg D) {a b c d:Int} {kl:Lit} (hkey:keyOf Tryz.prog 192 (pv a b c d)=some kl) :
  (Instr.lookup 222 (.map (some bm)) (pv a b c d) true).run Tryz.prog w=.ok (.tuple #[if Maps.has D kl then fv (fF a b c d) else rv 0 0,.bool (Maps.has D kl)]) w:=by
 obtain ⟨v,ps,hrun,hv⟩:=hown.look_ok wH Tryz.underlying222 (aJY w) (xN 0 0) hkey
 rw [hrun]
 cases hh:Maps.has D kl
 ·rw [atKey_of_not_has hh] at hv
  rw [uI hv]
  rfl
 ·rw [hk a b c d kl hkey hh] at hv
  rw [uI hv]
  rfl
end
section
open Go.RowKit
theorem aD1 (q:Q) (w:World) :
  Calls Tryz.prog 59 #[qv q] w fun e w'=>e=.returned (qv q)∧Below w.heap.size w w':=by
 obtain ⟨nm,pa,du,mo⟩:=q
 go_enter Tryz.func59,Tryz.ntmps59
 go_wp2
 refine bodyPost_ret (v:=qv ⟨nm,pa,du,mo⟩) (by simp [results,Tryz.results59,go_sem]) rfl ⟨rfl,?_⟩
 repeat (first | exact yH _ _ | refine yA ?_ _ | refine Below.drew ?_ | refine yC ?_ _ _ _ (by omega))
theorem aHM:(Tryz.prog.info? 100).map (fun i=>(i.zero,i.size,i.bytes))=some (some (qv ⟨[],[],0,0⟩),4,48):=by kernel_rfl
theorem aDx (n:Nat) (hn:n≤1048576) (w:World) :
  (Instr.makeSlice 29 (.int .i64 (n:Int)) (.int .i64 (n:Int))).run Tryz.prog w=.ok (.slice (some ⟨w.heap.size,0,none⟩) n n) (w.alloc (.cells (madeCells (qv ⟨[],[],0,0⟩).cells (n*4)) 100)):=by
 obtain ⟨i,hi,hz⟩:=Option.map_eq_some_iff.1 aHM
 simp only [Prod.mk.injEq] at hz
 obtain ⟨hz,hs,hb⟩:=hz
 have hr:=run_make (P:=Tryz.prog) w 29 100 i _ Tryz.underlying29 hi hz .i64 .i64 n n (by omega) (Int.le_refl _) (by rw [hb];omega) (by omega)
 simp only [Int.toNat_natCast,hs] at hr
 exact hr
theorem aBq (ao:Option Addr) (len cap:Nat) (l:List Q) (w:World) (h:iG w ao len l) (hl:len≤1048576) :
  Calls Tryz.prog 25 #[.slice ao len cap] w fun e w'=>e=.returned (.slice (some ⟨w.heap.size,0,none⟩) len len)∧lX w' 100 w.heap.size len len l∧Below w.heap.size w w':=by
 have HR:=aA h
 have HL:=aA h.1
 have hmk:=aDx len hl w
 obtain ⟨zs,hzs⟩:∃z,z=(qv ⟨[],[],0,0⟩).cells:=⟨_,rfl⟩
 rw [←hzs] at hmk
 clear h hzs
 go_enter Tryz.func25,Tryz.ntmps25
 go_wp2
 clear hmk
 go_loopw [4] (fun i wr=>∃k:Nat,k≤len∧i=.int .i64 k∧Hid (lX wr 100 w.heap.size len k l)∧Hid (Below w.heap.size w wr)) (fun i _=>len - (intOf i).toNat)
 case atStart=>exact ⟨0,Nat.zero_le _,rfl,aA (aHO w _ _ _ _),aA (yA (yH _ _) _)⟩
 case round=>
  obtain ⟨k,hk,rfl,HQ,HB⟩:=hrel
  by_cases hlt:k<len
  ·obtain ⟨b,off,rfl,hq⟩:=((uH HR).below (uH HB)).at hlt
   have hkl:k<l.length:=by have:=uH HL;omega
   obtain ⟨c0,c1,c2,c3⟩:=hq hkl
   obtain ⟨q,hs⟩:∃q,l[k]=q:=⟨_,rfl⟩
   rw [hs] at c0 c1 c2 c3
   have hst:∀wx,lX wx 100 w.heap.size len k l→lX (aLe wx w.heap.size (k*4) q) 100 w.heap.size len (k+1) l:=fun wx hx=>by have:=hx.step hlt hkl;rw [hs] at this;exact this
   have HST:=aA hst
   clear hst hq hs hkl
   go_wp2_with fail
   refine (aD1 q _).mono ?_
   rintro e w1 ⟨rfl,hb⟩
   have HQ1:=aA ((uH HQ).below hb)
   have HB1:=aA (yB (uH HB) hb)
   clear hb c0 c1 c2 c3
   obtain ⟨v0,d0⟩:=(uH HQ1).cell (j:=k*4) (by omega)
   obtain ⟨v1,d1⟩:=(uH HQ1).cell (j:=k*4+1) (by omega)
   obtain ⟨v2,d2⟩:=(uH HQ1).cell (j:=k*4+2) (by omega)
   obtain ⟨v3,d3⟩:=(uH HQ1).cell (j:=k*4+3) (by omega)
   have f0:=(uH HQ1).frozen (k*4)
   have f1:=(uH HQ1).frozen (k*4+1)
   have f2:=(uH HQ1).frozen (k*4+2)
   have f3:=(uH HQ1).frozen (k*4+3)
   go_wp2
   go_roundw
   case rel=>exact ⟨k+1,by omega,by go_num,aA (uH HST _ (uH HQ1)),aA (yC (yC (yC (yC (uH HB1) _ _ _ (by omega)) _ _ _ (by omega)) _ _ _ (by omega)) _ _ _ (by omega))⟩
   case measure=>simp [intOf];omega
  ·have hkk:k=len:=by omega
   subst hkk
   go_wp2
   go_ret
   exact ⟨rfl,uH HQ,uH HB⟩
def qOk (l:List Q) (k:Nat) (q:Q):Bool:=
 bJ q.name&&decide (place l q.name=k)&&inB q.most 0 10000&&inB q.due 0 q.most
  && (if k=0 then decide (q.parent=[])&&decide (q.due=10000) else inB (place l q.parent) 0 ((k:Int) - 1))
def gH (l:List Q):List Q→Nat→Bool
 | [],_=>true
 | q::t,k=>qOk l k q&&gH l t (k+1)
def jI (l:List Q):List Q→Bool
 | []=>true
 | q::t=>decide (gP l q.name≤10000)&&jI l t
def aF (l:List Q):Bool:=gH l l 0&&jI l l&&inB l.length 1 20
theorem aDs {l:List Q} {k:Nat} (h:k<l.length):gH l (l.drop k) k=(qOk l k l[k]&&gH l (l.drop (k+1)) (k+1)):=by
 rw [List.drop_eq_getElem_cons h,gH]
theorem aFv {l:List Q} {k:Nat} (h:l.length≤k):gH l (l.drop k) k=true:=by
 rw [List.drop_of_length_le h];rfl
theorem aDb {l:List Q} {k:Nat} (h:k<l.length):jI l (l.drop k)=(decide (gP l l[k].name≤10000)&&jI l (l.drop (k+1))):=by
 rw [List.drop_eq_getElem_cons h,jI]
theorem aF7 {l:List Q} {k:Nat} (h:l.length≤k):jI l (l.drop k)=true:=by
 rw [List.drop_of_length_le h];rfl
theorem aAX {l:List Q}:∀(m:List Q) (k:Nat),gH l m k=true→∀q ∈ m,0≤q.due∧q.due≤10000
 | [],_,_,q,h=>by simp at h
 | x::t,k,h,q,hq=>by
  rw [gH,yK] at h
  rcases List.mem_cons.1 hq with rfl | hq
  ·have:=h.1
   simp only [qOk,inB,yK,yL] at this
   omega
  ·exact aAX t (k+1) h.2 q hq
theorem wJ {l:List Q} (h:gH l l 0=false):aF l=false:=by simp [aF,h]
theorem aKy {l:List Q} (h:jI l l=false):aF l=false:=by simp [aF,h]
theorem aKx {l:List Q} (h1:gH l l 0=true) (h2:jI l l=true):aF l=inB l.length 1 20:=by simp [aF,h1,h2]
theorem jZ (nm:List UInt8):∀(l:List Q) (k:Nat),aP nm l k = -1∨((k:Int)≤aP nm l k∧aP nm l k<k+l.length)
 | [],_=>.inl rfl
 | q::t,k=>by
  rw [aP]
  split
  ·right;simp;omega
  ·rcases jZ nm t (k+1) with h | h
   ·exact .inl h
   ·right;simp;omega
theorem eG (l:List Q) (nm:List UInt8):place l nm = -1∨(0≤place l nm∧place l nm<l.length):=by
 rcases jZ nm l 0 with h | h
 ·exact .inl h
 ·right;unfold place;simp at h;omega
theorem iV {nm:List UInt8}:∀{l:List Q} {k:Nat},(∀q ∈ l,q.name≠nm)→aP nm l k = -1
 | [],_,_=>rfl
 | q::t,k,h=>by
  rw [aP,if_neg (h q (by simp))]
  exact iV (fun x hx=>h x (by simp [hx]))
theorem wL {l:List Q}:∀(m:List Q) (k:Nat),gH l m k=true→∀i (h:i<m.length),qOk l (k+i) m[i]=true
 | [],_,_,i,h=>by simp at h
 | x::t,k,ho,i,h=>by
  rw [gH,yK] at ho
  cases i with
  | zero=>simpa using ho.1
  | succ j=>
   have:=wL t (k+1) ho.2 j (by simpa using h)
   rw [show k+1+j=k+(j+1) by omega] at this
   simpa using this
theorem aJE {l:List Q} (h:aF l=true) (i:Nat) (hi:i<l.length):qOk l i l[i]=true:=by
 have h1:gH l l 0=true:=by simp only [aF,yK] at h;exact h.1.1
 have:=wL l 0 h1 i hi
 simpa using this
theorem aEv {l:List Q} (h:aF l=true):∀q ∈ l,q.name≠[]:=fun q hq e=>by
 obtain ⟨i,hi,rfl⟩:=List.mem_iff_getElem.1 hq
 have:=aJE h i hi
 simp [qOk,bJ,e,inB] at this
theorem iY {l:List Q} (h:aF l=true) {i:Nat} (hi:i<l.length):place l l[i].parent<i:=by
 have h1:=aJE h i hi
 simp only [qOk,yK] at h1
 have h2:=h1.2
 by_cases h0:i=0
 ·rw [if_pos h0] at h2
  simp only [yK,yL] at h2
  rw [h2.1]
  have:place l [] = -1:=iV (aEv h)
  omega
 ·rw [if_neg h0] at h2
  simp only [inB,yL] at h2
  omega
def eB (l:List Q):Nat→Int→List (List UInt8)
 | 0,_=>[]
 | n+1,p=>if h:0≤p∧p.toNat<l.length then l[p.toNat].name::eB l n (place l l[p.toNat].parent) else []
def path (l:List Q) (nm:List UInt8):List (List UInt8):=if aF l then eB l (l.length+1) (place l nm) else []
theorem wE {l:List Q} (h:aF l=true):∀(n m:Nat) (p:Int),p<n→p<m→eB l n p=eB l m p
 | 0,0,_,_,_=>rfl
 | 0,m+1,p,h1,h2=>by rw [eB,eB,dif_neg (by omega)]
 | n+1,0,p,h1,h2=>by rw [eB,eB,dif_neg (by omega)]
 | n+1,m+1,p,h1,h2=>by
  rw [eB,eB]
  split
  ·rename_i hp
   have:=iY h hp.2
   rw [wE h n m _ (by omega) (by omega)]
  ·rfl
theorem aHR {l:List Q} (h:aF l=true) {k n:Nat} (hk:k<l.length) (hn:k<n):eB l n k=l[k].name::eB l n (place l l[k].parent):=by
 cases n with
 | zero=>omega
 | succ n=>
  have hp:=iY h hk
  rw [eB,dif_pos (by simp;exact hk)]
  simp only [Int.toNat_natCast]
  rw [wE h n (n+1) _ (by omega) (by omega)]
theorem aEq {l:List Q} {n:Nat} {p:Int} (hp:p<0):eB l n p=[]:=by
 cases n with
 | zero=>rfl
 | succ n=>rw [eB,dif_neg (by omega)]
theorem aEN (a b c d:Int) (w:World) :
  Calls Tryz.prog 181 #[rv a b,rv c d] w fun e w'=>e=.returned (.tuple #[jQ 1 a b c d,.bool (aI 1 a b c d)])∧Below w.heap.size w w':=by
 have V1:=((aH w 36 a b).al (.cells #[.int .i64 c,.int .i64 d] 36)).al (.cells #[.int .i64 0,.int .i64 0] 36)
 have V2:=(gL w 36 36 a b c d).al (.cells #[.int .i64 0,.int .i64 0] 36)
 have V3:=gL (w.alloc (.cells #[.int .i64 a,.int .i64 b] 36)) 36 36 c d 0 0
 have B3:=yA (yA (yA (yH _ w) (.cells #[.int .i64 a,.int .i64 b] 36)) (.cells #[.int .i64 c,.int .i64 d] 36)) (.cells #[.int .i64 0,.int .i64 0] 36)
 simp at V3
 have HV1:=aA V1
 have HV2:=aA V2
 have HV3:=aA V3
 have HB3:=aA B3
 have hc:=aA (oC a b c d)
 clear V1 V2 V3 B3
 cases h0:aL a b&&aL c d
 ·have hb:aI 1 a b c d=false:=by rw [aI,h0];rfl
  rw [kL hb,hb]
  go_enter Tryz.func181,Tryz.ntmps181
  go_wp2_with fail
  refine (uH hc _).mono ?_
  rw [h0]
  rintro e w1 ⟨rfl,hb⟩
  have V3:=(uH HV3).below hb
  have k2:=V3.f 0
  have k3:=V3.f 1
  have k0:=V3.c0
  have k1:=V3.c1
  have k4:=V3.s0 (.int .i64 0)
  have k5:=V3.s1 (.int .i64 0) (.int .i64 0)
  have HB:=aA (yB (uH HB3) hb)
  clear hb HV1 HV2 HV3 HB3 V3 hc
  go_wp2
  refine bodyPost_ret (v:=.tuple #[rv 0 0,.bool false]) (by simp [results,Tryz.results181,go_sem,k4,k5]) rfl ⟨rfl,?_⟩
  repeat (first | exact uH HB | refine yA ?_ _ | refine Below.drew ?_ | refine yC ?_ _ _ _ (by omega))
 ·have h0':=h0
  simp only [yK] at h0'
  obtain ⟨q1,q2,q3,q4⟩:=bN h0'.1
  obtain ⟨q5,q6,q7,q8⟩:=bN h0'.2
  obtain ⟨x,hx⟩:∃x,a+c=x:=⟨_,rfl⟩
  obtain ⟨y,hy⟩:∃y,b+d=y:=⟨_,rfl⟩
  have m3:IntKind.i64.wrap (a+c)=x:=by rw [IntKind.wrap_i64];omega
  have m4:IntKind.i64.wrap (b+d)=y:=by rw [IntKind.wrap_i64];omega
  have e1:aI 1 a b c d=aL x y:=by rw [aI,h0,show a+1*c=x by omega,show b+1*d=y by omega];rfl
  have e2:jQ 1 a b c d=orV x y:=by rw [jQ,orV,e1,show a+1*c=x by omega,show b+1*d=y by omega]
  obtain ⟨u,v,hv⟩:∃u v,orV x y=rv u v:=by unfold orV;split<;>exact ⟨_,_,rfl⟩
  obtain ⟨o,ho⟩:∃o,aL x y=o:=⟨_,rfl⟩
  have ho2:∀wx,Calls Tryz.prog 154 #[rv x y] wx fun e w'=>e=.returned (.tuple #[rv u v,.bool o])∧Below wx.heap.size wx w':=fun wx=>by have:=aJs x y wx;rw [hv,ho] at this;exact this
  rw [e1,e2,hv,ho]
  have HO:=aA ho2
  clear e1 e2 hv ho ho2 h0' q1 q2 q3 q4 q5 q6 q7 q8 hx hy
  go_enter Tryz.func181,Tryz.ntmps181
  go_wp2_with fail
  refine (uH hc _).mono ?_
  rw [h0]
  rintro e w1 ⟨rfl,hb⟩
  have V1:=(uH HV1).below hb
  have V2:=(uH HV2).below hb
  have V3:=aA ((uH HV3).below hb)
  have a1:=V1.c0
  have a2:=V1.c1
  have a3:=V2.c0
  have a4:=V2.c1
  have HB:=aA (yB (uH HB3) hb)
  clear hb HV1 HV2 HV3 HB3 V1 V2 hc
  go_wp2_with fail
  refine (uH HO _).mono ?_
  rintro e w2 ⟨rfl,hb⟩
  have V4:=(uH V3).below hb
  have k0:=V4.c0
  have k1:=V4.c1
  have k2:=V4.f 0
  have k3:=V4.f 1
  have k4:=V4.s0 (.int .i64 u)
  have k5:=V4.s1 (.int .i64 u) (.int .i64 v)
  have HB2:=aA (yB (uH HB) hb)
  clear hb V4 V3 HB HO a1 a2 a3 a4
  go_wp2
  refine bodyPost_ret (v:=.tuple #[rv u v,.bool o]) (by simp [results,Tryz.results181,go_sem,k4,k5]) rfl ⟨rfl,?_⟩
  repeat (first | exact uH HB2 | refine yA ?_ _ | refine Below.drew ?_ | refine yC ?_ _ _ _ (by omega))
def dF (most:Bool) (q:Q):Int:=if most then q.most else q.due
def uL (l:List Q) (n:List UInt8):Q:=l.getD (place l n).toNat ⟨[],[],0,0⟩
def ofP (l:List Q) (most:Bool) (t:Int×Int):List (List UInt8)→Int×Int
 | []=>t
 | [_]=>t
 | n::m::r=>(dZ (ofP l most t (m::r)).1 (ofP l most t (m::r)).2 (dF most (uL l n)),d9 (ofP l most t (m::r)).1 (ofP l most t (m::r)).2 (dF most (uL l n)))
def ofR (l:List Q) (nm:List UInt8) (a b:Int) (most:Bool):Int×Int:=if path l nm=[]∨aL a b=false then (0,0) else ofP l most (a,b) (path l nm)
theorem aJH (l:List Q) (most:Bool) (t:Int×Int) {p:List (List UInt8)} (h:p≠[]):ofP l most t (p.drop (p.length - 1))=t:=by
 have hl:0<p.length:=List.length_pos_iff.2 h
 rw [List.drop_eq_getElem_cons (by omega),show p.length - 1+1=p.length by omega,List.drop_length]
 rfl
theorem aJG (l:List Q) (most:Bool) (t:Int×Int) {p:List (List UInt8)} {j:Nat} (h:j+1<p.length) :
  ofP l most t (p.drop j)=(dZ (ofP l most t (p.drop (j+1))).1 (ofP l most t (p.drop (j+1))).2 (dF most (uL l p[j])),d9 (ofP l most t (p.drop (j+1))).1 (ofP l most t (p.drop (j+1))).2 (dF most (uL l p[j]))):=by
 rw [List.drop_eq_getElem_cons (show j<p.length by omega),List.drop_eq_getElem_cons h,ofP]
theorem tV {l:List Q} (h:aF l=true):∀(n:Nat) (p:Int),∀x ∈ eB l n p,∃k:Nat,∃hk:k<l.length,place l x=k∧l[k].name=x
 | 0,_,x,hx=>by simp [eB] at hx
 | n+1,p,x,hx=>by
  rw [eB] at hx
  split at hx
  ·rename_i hp
   rcases List.mem_cons.1 hx with rfl | hx
   ·refine ⟨p.toNat,hp.2,?_,rfl⟩
    have:=aJE h p.toNat hp.2
    simp only [qOk,yK,yL] at this
    exact this.1.1.1.2
   ·exact tV h n _ x hx
  ·simp at hx
theorem aFk {l:List Q} {nm:List UInt8}:∀x ∈ path l nm,∃k:Nat,∃hk:k<l.length,place l x=k∧uL l x=l[k]:=fun x hx=>by
 unfold path at hx
 split at hx
 ·rename_i h
  obtain ⟨k,hk,h1,h2⟩:=tV h _ _ x hx
  exact ⟨k,hk,h1,by rw [uL,h1];simp [List.getD_eq_getElem?_getD,List.getElem?_eq_getElem hk]⟩
 ·simp at hx
theorem aAR {l:List Q}:∀(n:Nat) (p:Int),(eB l n p).length≤n
 | 0,_=>by simp [eB]
 | n+1,p=>by
  rw [eB]
  split
  ·have:=aAR (l:=l) n (place l l[p.toNat].parent);simp;exact this
  ·simp
theorem aBI (l:List Q) (nm:List UInt8):(path l nm).length≤l.length+1:=by
 unfold path;split
 ·exact aAR _ _
 ·simp
/-- a tree of queues, or nothing, is one with this one behind it -/
def aER (l : List Q) (q : Q) : Bool :=
  decide (l.length < 20) && bJ q.name && decide (place l q.name < 0) && decide (0 ≤ q.due ∧ q.due ≤ q.most ∧ q.most ≤ 10000)
    && (if l.length = 0 then decide (q.parent = [] ∧ q.due = 10000 ∧ q.most = 10000) else decide (0 ≤ place l q.parent ∧ bW q.parent l + q.due ≤ 10000))
/-- a tree of queues, or nothing -/
def okT (l : List Q) : Bool := gH l l 0 && jI l l && decide (l.length ≤ 20)
theorem oZ (nm : List UInt8) (q : Q) : ∀ (l : List Q) (k : Nat), aP nm (l ++ [q]) k = if aP nm l k < 0 then (if q.name = nm then ((k + l.length : Nat) : Int) else -1) else aP nm l k
  | [], k => by simp [aP]
  | x :: t, k => by
    rw [List.cons_append, aP, aP]
    by_cases h : x.name = nm
    · rw [if_pos h, if_pos h, if_neg (by omega)]
    · rw [if_neg h, if_neg h, oZ nm q t (k + 1)]
      simp only [List.length_cons, show k + 1 + t.length = k + (t.length + 1) by omega]
theorem nZ (l : List Q) (q : Q) (nm : List UInt8) : place (l ++ [q]) nm = if place l nm < 0 then (if q.name = nm then (l.length : Int) else -1) else place l nm := by
  unfold place
  rw [oZ, Nat.zero_add]
theorem qL {nm : List UInt8} : ∀ {l : List Q} {k : Nat}, (∃ q ∈ l, q.name = nm) → 0 ≤ aP nm l k
  | [], _, h => by obtain ⟨q, hq, _⟩ := h; simp at hq
  | x :: t, k, h => by
    rw [aP]
    by_cases e : x.name = nm
    · rw [if_pos e]; omega
    · rw [if_neg e]
      obtain ⟨q, hq, hn⟩ := h
      rcases List.mem_cons.1 hq with rfl | hq
      · exact absurd hn e
      · exact qL ⟨q, hq, hn⟩
theorem aCG {l : List Q} {nm : List UInt8} (h : ∃ q ∈ l, q.name = nm) : 0 ≤ place l nm := qL h
theorem aCH {l : List Q} {nm : List UInt8} (h : 0 ≤ place l nm) : ∃ q ∈ l, q.name = nm := by
  refine Classical.byContradiction fun hc => ?_
  have : place l nm = -1 := iV (fun q hq e => hc ⟨q, hq, e⟩)
  omega
theorem aHQ {l : List Q} {nm : List UInt8} (h : place l nm < 0) : ∀ q ∈ l, q.name ≠ nm := fun q hq e => by
  have := aCG (l := l) (nm := nm) ⟨q, hq, e⟩
  omega
theorem rF (nm : List UInt8) (q : Q) : ∀ l : List Q, bW nm (l ++ [q]) = bW nm l + (if q.parent = nm then q.due else 0)
  | [] => by simp [bW]
  | x :: t => by rw [List.cons_append, bW, bW, rF nm q t]; omega
theorem uC (l : List Q) (q : Q) (nm : List UInt8) (h : 0 < l.length) : gP (l ++ [q]) nm = gP l nm + (if q.parent = nm then q.due else 0) := by
  cases l with
  | nil => simp at h
  | cons x t => exact rF nm q t
theorem xQ {nm : List UInt8} : ∀ {l : List Q}, (∀ q ∈ l, q.parent ≠ nm) → bW nm l = 0
  | [], _ => rfl
  | x :: t, h => by rw [bW, if_neg (h x (by simp)), xQ (fun q hq => h q (by simp [hq]))]; omega
theorem aAW {l : List Q} : ∀ (m : List Q) (k : Nat), gH l m k = true ↔ ∀ i (h : i < m.length), qOk l (k + i) m[i] = true
  | [], k => by simp [gH]
  | x :: t, k => by
    constructor
    · exact wL (x :: t) k
    · intro h
      rw [gH, yK]
      refine ⟨by have := h 0 (by simp); rw [Nat.add_zero] at this; exact this, (aAW t (k + 1)).2 fun i hi => ?_⟩
      have := h (i + 1) (by simpa using hi)
      rw [show k + 1 + i = k + (i + 1) by omega]
      simpa using this
theorem z8 {l : List Q} : ∀ (m : List Q), jI l m = true ↔ ∀ q ∈ m, gP l q.name ≤ 10000
  | [] => by simp [jI]
  | x :: t => by rw [jI, yK, z8 t]; simp
theorem r9 {l : List Q} : okT l = true ↔ (∀ i (h : i < l.length), qOk l i l[i] = true) ∧ (∀ q ∈ l, gP l q.name ≤ 10000) ∧ l.length ≤ 20 := by
  rw [okT, yK, yK, aAW l 0, z8 l, and_assoc]
  simp
theorem kQ (l : List Q) : aF l = (okT l && decide (0 < l.length)) := by
  rw [aF, okT]
  cases gH l l 0 <;> cases jI l l <;> simp [inB]
  rw [Bool.eq_iff_iff]; simp; omega
theorem aEn {l : List Q} {q : Q} {i : Nat} (hi : i < l.length) : qOk (l ++ [q]) i l[i] = qOk l i l[i] := by
  have h1 : 0 ≤ place l l[i].name := aCG ⟨l[i], yM _, rfl⟩
  have h2 : place (l ++ [q]) l[i].name = place l l[i].name := by rw [nZ, if_neg (by omega)]
  have h3 : inB (place (l ++ [q]) l[i].parent) 0 ((i : Int) - 1) = inB (place l l[i].parent) 0 ((i : Int) - 1) := by
    rw [nZ]
    by_cases h : place l l[i].parent < 0
    · rw [if_pos h]
      simp only [inB]
      rw [decide_eq_false (p := 0 ≤ place l l[i].parent ∧ _) (by omega)]
      refine decide_eq_false ?_
      split <;> omega
    · rw [if_neg h]
  simp only [qOk, h2, h3]
theorem aEJ {l : List Q} (h : ∀ i (h : i < l.length), qOk l i l[i] = true) : ∀ q ∈ l, bJ q.name = true ∧ 0 ≤ q.due ∧ q.due ≤ 10000 ∧ (q.parent = [] ∨ ∃ x ∈ l, x.name = q.parent) := fun q hq => by
  obtain ⟨i, hi, rfl⟩ := List.mem_iff_getElem.1 hq
  have := h i hi
  simp only [qOk, yK, yL, inB] at this
  obtain ⟨⟨⟨⟨a1, a2⟩, a3⟩, a4⟩, a5⟩ := this
  refine ⟨a1, a4.1, by omega, ?_⟩
  by_cases e : i = 0
  · rw [if_pos e] at a5
    simp only [yK, yL] at a5
    exact .inl a5.1
  · rw [if_neg e] at a5
    simp only [yL] at a5
    exact .inr (aCH a5.1)
theorem aCV {n : List UInt8} (h : bJ n = true) : n ≠ [] := fun e => by simp [bJ, e, inB] at h
theorem aJF (l : List Q) (q : Q) : okT (l ++ [q]) = (okT l && aER l q) := by
  rw [Bool.eq_iff_iff, yK, r9, r9]
  have hA : (∀ i (h : i < (l ++ [q]).length), qOk (l ++ [q]) i (l ++ [q])[i] = true) ↔ (∀ i (h : i < l.length), qOk l i l[i] = true) ∧ qOk (l ++ [q]) l.length q = true := by
    constructor
    · intro h
      refine ⟨fun i hi => ?_, ?_⟩
      · have := h i (by simp; omega)
        rw [List.getElem_append_left hi, aEn hi] at this
        exact this
      · have := h l.length (by simp)
        simpa using this
    · rintro ⟨h1, h2⟩ i hi
      by_cases e : i < l.length
      · rw [List.getElem_append_left e, aEn e]; exact h1 i e
      · have : i = l.length := by simp at hi; omega
        subst this
        simpa using h2
  rw [hA]
  have hP : qOk (l ++ [q]) l.length q = true ↔ bJ q.name = true ∧ place l q.name < 0 ∧ (0 ≤ q.due ∧ q.due ≤ q.most ∧ q.most ≤ 10000) ∧ (if l.length = 0 then q.parent = [] ∧ q.due = 10000 else 0 ≤ place l q.parent) := by
    simp only [qOk, yK, yL, inB]
    have e1 : place (l ++ [q]) q.name = (l.length : Int) ↔ place l q.name < 0 := by
      rw [nZ]
      have := eG l q.name
      by_cases h : place l q.name < 0
      · simp [h]
      · rw [if_neg h]; constructor <;> intro _ <;> omega
    rw [e1]
    by_cases h0 : l.length = 0
    · rw [if_pos h0, if_pos h0]
      simp only [yK, yL]
      constructor
      · rintro ⟨⟨⟨⟨a, b⟩, c⟩, d⟩, e⟩; exact ⟨a, b, by omega, e⟩
      · rintro ⟨a, b, c, e⟩; exact ⟨⟨⟨⟨a, b⟩, by omega⟩, by omega⟩, e⟩
    · rw [if_neg h0, if_neg h0]
      simp only [yL]
      have e2 : (0 ≤ place (l ++ [q]) q.parent ∧ place (l ++ [q]) q.parent ≤ (l.length : Int) - 1) ↔ 0 ≤ place l q.parent := by
        rw [nZ]
        have := eG l q.parent
        by_cases h : place l q.parent < 0
        · rw [if_pos h]; constructor
          · intro h'; split at h' <;> omega
          · intro h'; omega
        · rw [if_neg h]; constructor <;> intro _ <;> omega
      rw [e2]
      constructor
      · rintro ⟨⟨⟨⟨a, b⟩, c⟩, d⟩, e⟩; exact ⟨a, b, by omega, e⟩
      · rintro ⟨a, b, c, e⟩; exact ⟨⟨⟨⟨a, b⟩, by omega⟩, by omega⟩, e⟩
  have hF : aER l q = true ↔ l.length < 20 ∧ bJ q.name = true ∧ place l q.name < 0 ∧ (0 ≤ q.due ∧ q.due ≤ q.most ∧ q.most ≤ 10000) ∧ (if l.length = 0 then q.parent = [] ∧ q.due = 10000 ∧ q.most = 10000 else 0 ≤ place l q.parent ∧ bW q.parent l + q.due ≤ 10000) := by
    by_cases h0 : l.length = 0 <;> simp only [aER, h0, if_true, if_false, yK, yL, and_assoc]
  rw [hP, hF]
  by_cases h0 : l.length = 0
  · have hl : l = [] := List.eq_nil_of_length_eq_zero h0
    subst hl
    simp only [List.length_nil, if_true, List.nil_append, List.length_cons, List.mem_singleton, forall_eq]
    have hk : gP [q] q.name = 0 := rfl
    rw [hk]
    constructor
    · rintro ⟨⟨_, a, b, c, d, e⟩, _⟩
      exact ⟨⟨fun i hi => by simp at hi, fun x hx => by simp at hx, by omega⟩, by omega, a, b, c, d, e, by omega⟩
    · rintro ⟨_, _, a, b, c, d, e, f⟩
      exact ⟨⟨fun i hi => by simp at hi, a, b, c, d, e⟩, by omega, by omega⟩
  · rw [if_neg h0, if_neg h0]
    have hlp : 0 < l.length := by omega
    constructor
    · rintro ⟨⟨h1, a, b, c, d⟩, h2, h3⟩
      have hk := aEJ h1
      have h4 : ∀ x ∈ l, gP l x.name + (if q.parent = x.name then q.due else 0) ≤ 10000 := fun x hx => by
        have := h2 x (by simp [hx])
        rwa [uC l q x.name hlp] at this
      refine ⟨⟨h1, fun x hx => ?_, by simp at h3; omega⟩, by simp at h3; omega, a, b, c, d, ?_⟩
      · have := h4 x hx
        split at this <;> omega
      · obtain ⟨x, hx, hn⟩ := aCH d
        have := h4 x hx
        rw [hn, if_pos rfl] at this
        have hd : bW q.parent l = gP l q.parent := by
          cases l with
          | nil => simp at hlp
          | cons y t =>
            show bW q.parent (y :: t) = bW q.parent t
            rw [bW, if_neg, Int.zero_add]
            intro e
            have hy := h1 0 (by simp)
            simp only [qOk, List.getElem_cons_zero, if_true, yK, yL] at hy
            exact aCV (hk x hx).1 (by rw [hn, ← e, hy.2.1])
        omega
    · rintro ⟨⟨h1, h2, h3⟩, h4, a, b, c, d, e⟩
      have hk := aEJ h1
      have hd : gP l q.parent ≤ bW q.parent l := by
        cases l with
        | nil => simp at hlp
        | cons y t =>
          show bW q.parent t ≤ bW q.parent (y :: t)
          rw [bW]
          have := (hk y (by simp)).2.1
          split <;> omega
      refine ⟨⟨h1, a, b, c, d⟩, fun x hx => ?_, by simp; omega⟩
      rw [uC l q x.name hlp]
      rcases List.mem_append.1 hx with hx | hx
      · have := h2 x hx
        split
        · rename_i hq
          rw [hq] at hd e
          omega
        · omega
      · have : x = q := by simpa using hx
        subst this
        have hz : gP l x.name = 0 := by
          cases l with
          | nil => simp at hlp
          | cons y t =>
            refine xQ (l := t) fun z hz hp => ?_
            rcases (hk z (by simp [hz])).2.2.2 with hn | ⟨u, hu, hn⟩
            · exact aCV a (by rw [← hp, hn])
            · exact aHQ b u hu (by rw [hn, hp])
        have : x.parent ≠ x.name := fun hp => by rw [hp] at d; omega
        rw [if_neg this, hz]
        omega
theorem qP {l : List Q} {k : Nat} (h : k < l.length) : okT (l.take (k + 1)) = (okT (l.take k) && aER (l.take k) l[k]) := by
  rw [List.take_succ_eq_append_getElem h, aJF]
/-- where a beginning is none, the whole is none -/
theorem zH {l : List Q} {k : Nat} (h : okT (l.take k) = false) : okT l = false := by
  by_cases hk : k < l.length
  · have : ∀ n, k ≤ n → n ≤ l.length → okT (l.take n) = false := by
      intro n hn
      induction n with
      | zero => intro _; have : k = 0 := by omega
                subst this; exact h
      | succ m ih =>
        intro hm
        by_cases e : k = m + 1
        · subst e; exact h
        · rw [qP (by omega), ih (by omega) (by omega)]; rfl
    have := this l.length (by omega) (yJ _)
    rwa [List.take_length] at this
  · rwa [List.take_of_length_le (by omega)] at h
theorem aKP {l : List Q} (h : okT l = true) : ∀ q ∈ l, 0 ≤ q.due ∧ q.due ≤ 10000 := fun q hq => by
  have := aEJ (r9.1 h).1 q hq
  exact ⟨this.2.1, this.2.2.1⟩
def gN:Nat→List Q→List UInt8→List Q
 | 0,_,_=>[]
 | n+1,l,nm=>if h:0≤place l nm∧(place l nm).toNat<l.length then l[(place l nm).toNat]::gN n (l.take (place l nm).toNat) l[(place l nm).toNat].parent else []
def ups (l:List Q) (nm:List UInt8):List Q:=gN (l.length+1) l nm
theorem tL:∀(n m:Nat) (l:List Q) (nm:List UInt8),l.length<n→l.length<m→gN n l nm=gN m l nm
 | 0,_,_,_,h,_=>by omega
 | _+1,0,_,_,_,h=>by omega
 | n+1,m+1,l,nm,h1,h2=>by
  rw [gN,gN]
  split
  ·rename_i h
   rw [tL n m _ _ (by simp;omega) (by simp;omega)]
  ·rfl
theorem aIp {l:List Q} {nm:List UInt8} (h:place l nm<0):ups l nm=[]:=by
 rw [ups,gN,dif_neg (by omega)]
theorem aIn {l:List Q} {nm:List UInt8} {k:Nat} (hk:k<l.length) (h:place l nm=k):ups l nm=l[k]::ups (l.take k) l[k].parent:=by
 rw [ups,gN]
 simp only [h,Int.toNat_natCast]
 rw [dif_pos (by simp;omega),ups,tL l.length ((l.take k).length+1) _ _ (by simp;omega) (by simp)]
theorem aAs:∀(n:Nat) (l:List Q) (nm:List UInt8),(gN n l nm).length≤l.length
 | 0,l,nm=>by simp [gN]
 | n+1,l,nm=>by
  rw [gN]
  split
  ·rename_i h
   have:=aAs n (l.take (place l nm).toNat) l[(place l nm).toNat].parent
   simp at this ⊢
   omega
  ·simp
theorem oW (nm:List UInt8):∀(l:List Q) (k j:Nat),aP nm (l.take j) k=if aP nm l k<((k+j:Nat):Int) then aP nm l k else -1
 | [],k,j=>by simp [aP];omega
 | x::t,k,0=>by
  rw [List.take_zero,aP]
  rcases jZ nm (x::t) k with h | h
  ·rw [h,if_pos (by omega)]
  ·rw [if_neg (by omega)]
 | x::t,k,j+1=>by
  rw [List.take_succ_cons,aP,aP]
  by_cases h:x.name=nm
  ·rw [if_pos h,if_pos h,if_pos (by omega)]
  ·rw [if_neg h,if_neg h,oW nm t (k+1) j,show k+1+j=k+(j+1) by omega]
theorem aFh (l:List Q) (nm:List UInt8) (j:Nat):place (l.take j) nm=if place l nm<j then place l nm else -1:=by
 have:=oW nm l 0 j
 rw [Nat.zero_add] at this
 exact this
def aEd (l:List Q):Nat→Int→List Q
 | 0,_=>[]
 | n+1,p=>if h:0≤p∧p.toNat<l.length then l[p.toNat]::aEd l n (place l l[p.toNat].parent) else []
theorem zZ (l:List Q):∀(n:Nat) (p:Int),(aEd l n p).map Q.name=eB l n p
 | 0,_=>rfl
 | n+1,p=>by
  rw [aEd,eB]
  split
  ·rw [List.map_cons,zZ l n]
  ·rfl
theorem tK {l:List Q} (h:aF l=true):∀(n j:Nat) (nm:List UInt8),place l nm<j→gN n (l.take j) nm=aEd l n (place l nm)
 | 0,_,_,_=>rfl
 | n+1,j,nm,hj=>by
  have hp:place (l.take j) nm=place l nm:=by rw [aFh,if_pos hj]
  have hr:=eG l nm
  rw [gN,aEd]
  simp only [hp]
  by_cases h0:0≤place l nm
  ·rw [dif_pos ⟨h0,by simp;omega⟩,dif_pos ⟨h0,by omega⟩]
   rw [List.getElem_take,List.take_take,show min (place l nm).toNat j=(place l nm).toNat by omega]
   rw [tK h n _ _ (iY h (by omega))]
  ·rw [dif_neg (by omega),dif_neg (by omega)]
theorem aGm {l:List Q} (h:aF l=true) (nm:List UInt8):ups l nm=aEd l (l.length+1) (place l nm):=by
 have hr:=eG l nm
 have:=tK h (l.length+1) l.length nm (by omega)
 rwa [List.take_length] at this
theorem aAr {l:List Q} (h:aF l=true) (nm:List UInt8):(ups l nm).map Q.name=path l nm:=by
 rw [aGm h,zZ,path,h];rfl
def iH (t:Int×Int):List Int→Int×Int
 | []=>t
 | n::r=>(dZ (iH t r).1 (iH t r).2 n,d9 (iH t r).1 (iH t r).2 n)
def jE (most:Bool) (u:List Q):List Int:=(u.takeWhile (fun q=>decide (q.parent≠[]))).map (dF most)
theorem aBp {l:List Q} (h:aF l=true) (most:Bool) (t:Int×Int):∀(n:Nat) (p:Int),p<n→iH t (jE most (aEd l n p))=ofP l most t ((aEd l n p).map Q.name)
 | 0,_,_=>rfl
 | n+1,p,hn=>by
  rw [aEd]
  split
  ·rename_i hp
   have hq:=aJE h p.toNat hp.2
   have ha:=iY h hp.2
   simp only [qOk,yK,yL] at hq
   have hb:uL l l[p.toNat].name=l[p.toNat]:=by rw [uL,hq.1.1.1.2,Int.toNat_natCast,List.getD_eq_getElem?_getD,List.getElem?_eq_getElem hp.2];rfl
   by_cases hz:l[p.toNat].parent=[]
   ·have hm:place l l[p.toNat].parent = -1:=by rw [hz];exact iV (aEv h)
    have hu:aEd l n (place l l[p.toNat].parent)=[]:=by
     rw [hm];cases n with
     | zero=>rfl
     | succ n=>rw [aEd,dif_neg (by omega)]
    rw [hu]
    simp [jE,hz,iH,ofP]
   ·have hi:p.toNat≠0:=fun e=>by
     have:=hq.2
     rw [if_pos e] at this
     simp only [yK,yL] at this
     exact hz this.1
    have hpl:=hq.2
    rw [if_neg hi] at hpl
    simp only [inB,yL] at hpl
    have ih:=aBp h most t n (place l l[p.toNat].parent) (by omega)
    obtain ⟨r,hr⟩:∃r,aEd l n (place l l[p.toNat].parent)=r:=⟨_,rfl⟩
    have hne:r≠[]:=by
     rw [←hr];cases n with
     | zero=>omega
     | succ n=>rw [aEd,dif_pos ⟨hpl.1,by omega⟩];simp
    rw [hr] at ih ⊢
    cases r with
    | nil=>exact absurd rfl hne
    | cons y r=>
     rw [List.map_cons,List.map_cons,ofP,hb]
     rw [List.map_cons] at ih
     rw [←ih]
     simp only [jE,List.takeWhile_cons (a:=l[p.toNat])]
     simp only [hz,ne_eq,not_false_eq_true,decide_true,if_true,List.map_cons,iH]
  ·simp [jE,iH,ofP]
theorem aIo {l:List Q} (h:aF l=true) (nm:List UInt8) (a b:Int) (most:Bool) (hp:0≤place l nm) (hr:aL a b=true):ofR l nm a b most=iH (a,b) (jE most (ups l nm)):=by
 have hr':=eG l nm
 have e:=aAr h nm
 have hne:path l nm≠[]:=by
  rw [←e,aGm h,aEd,dif_pos ⟨hp,by omega⟩];simp
 rw [ofR,if_neg (by simp [hne,hr]),←e,aGm h,aBp h most (a,b) _ _ (by omega)]
theorem aH5 {l:List Q} (h:aF l=false) (nm:List UInt8) (a b:Int) (most:Bool):ofR l nm a b most=(0,0):=by rw [ofR,path,h];simp
theorem aH4 {l:List Q} {nm:List UInt8} (h:place l nm<0) (a b:Int) (most:Bool):ofR l nm a b most=(0,0):=by
 have:path l nm=[]:=by rw [path];split;exact aEq h;rfl
 rw [ofR,this];simp
theorem aH3 (l:List Q) (nm:List UInt8) {a b:Int} (h:aL a b=false) (most:Bool):ofR l nm a b most=(0,0):=by rw [ofR,h];simp
end
section
theorem aEB {a b c d e f:Int} (hb:iT b) (hd:iT d) (hf:iT f) (h:less c d a b=false) (k:less e f c d=false):less e f a b=false:=by
 unfold less at *
 by_cases f0:f=0
 ·simp [f0]
 ·by_cases d0:d=0
  ·simp [d0,f0] at k
  ·by_cases b0:b=0
   ·simp [b0,d0] at h
   ·simp only [b0,d0,f0,if_false,decide_eq_false_iff_not,Int.not_lt] at h k ⊢
    have pb:0≤b:=hb.1
    have pf:0≤f:=hf.1
    have pd:0<d:=by have:=hd.1;omega
    have h1:=Int.mul_le_mul_of_nonneg_right h pf
    have h2:=Int.mul_le_mul_of_nonneg_right k pb
    have e1:a*d*f=a*f*d:=by rw [Int.mul_assoc,Int.mul_comm d f,←Int.mul_assoc]
    have e2:c*b*f=c*f*b:=by rw [Int.mul_assoc,Int.mul_comm b f,←Int.mul_assoc]
    have e3:e*d*b=e*b*d:=by rw [Int.mul_assoc,Int.mul_comm d b,←Int.mul_assoc]
    have h3:a*f*d≤e*b*d:=by rw [←e1,←e3];rw [e2] at h1;exact Int.le_trans h1 h2
    exact Int.le_of_mul_le_mul_right h3 pd
end
section
open Go.RowKit
theorem o8 (a b c d:Int) (w:World) :
  Calls Tryz.prog 137 #[rv a b,rv c d] w fun e w'=>e=.returned (.bool (within a b c d))∧Below w.heap.size w w':=by
 have HV1:=aA ((aH w 36 a b).al (.cells #[.int .i64 c,.int .i64 d] 36))
 have HV2:=aA (gL w 36 36 a b c d)
 have HB0:=aA (yA (yA (yH _ w) (.cells #[.int .i64 a,.int .i64 b] 36)) (.cells #[.int .i64 c,.int .i64 d] 36))
 have hc:=aA (oC a b c d)
 cases h0:aL a b&&aL c d
 ·rw [show within a b c d=false by rw [within,h0];rfl]
  go_enter Tryz.func137,Tryz.ntmps137
  go_wp2_with fail
  refine (uH hc _).mono ?_
  rw [h0]
  rintro e w1 ⟨rfl,hb⟩
  have V1:=(uH HV1).below hb
  have V2:=(uH HV2).below hb
  have a1:=V1.c0
  have a2:=V1.c1
  have a3:=V2.c0
  have a4:=V2.c1
  have HB:=aA (yB (uH HB0) hb)
  clear hb HV1 HV2 HB0 V1 V2 hc
  go_wp2
  go_ret
  exact ⟨rfl,uH HB⟩
 ·by_cases h3:a≤c
  ·by_cases h4:b≤d
   ·rw [show within a b c d=true by rw [within,h0];simp [h3,h4]]
    go_enter Tryz.func137,Tryz.ntmps137
    go_wp2_with fail
    refine (uH hc _).mono ?_
    rw [h0]
    rintro e w1 ⟨rfl,hb⟩
    have V1:=(uH HV1).below hb
    have V2:=(uH HV2).below hb
    have a1:=V1.c0
    have a2:=V1.c1
    have a3:=V2.c0
    have a4:=V2.c1
    have HB:=aA (yB (uH HB0) hb)
    clear hb HV1 HV2 HB0 V1 V2 hc
    go_wp2
    go_ret
    exact ⟨rfl,uH HB⟩
   ·rw [show within a b c d=false by rw [within,h0];simp [h4]]
    go_enter Tryz.func137,Tryz.ntmps137
    go_wp2_with fail
    refine (uH hc _).mono ?_
    rw [h0]
    rintro e w1 ⟨rfl,hb⟩
    have V1:=(uH HV1).below hb
    have V2:=(uH HV2).below hb
    have a1:=V1.c0
    have a2:=V1.c1
    have a3:=V2.c0
    have a4:=V2.c1
    have HB:=aA (yB (uH HB0) hb)
    clear hb HV1 HV2 HB0 V1 V2 hc
    go_wp2
    go_ret
    exact ⟨yF (decide_eq_false (by omega)),uH HB⟩
  ·rw [show within a b c d=false by rw [within,h0];simp [h3]]
   go_enter Tryz.func137,Tryz.ntmps137
   go_wp2_with fail
   refine (uH hc _).mono ?_
   rw [h0]
   rintro e w1 ⟨rfl,hb⟩
   have V1:=(uH HV1).below hb
   have V2:=(uH HV2).below hb
   have a1:=V1.c0
   have a2:=V1.c1
   have a3:=V2.c0
   have a4:=V2.c1
   have HB:=aA (yB (uH HB0) hb)
   clear hb HV1 HV2 HB0 V1 V2 hc
   go_wp2
   go_ret
   exact ⟨rfl,uH HB⟩
end
end Go.Proofs.YtdhibeclkdepiaaGreat
