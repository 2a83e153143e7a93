/-
  bI in one: AppsI, FreeOnM, HmI, UsedOnS, UsedOnB, FreeOnS.
-/
import Derived.Test.YtdhibeclkdepiaaGreatPackQ
import Derived.Test.YtdhibeclkdepiaaGreatPackS
import Derived.Test.YtdhibeclkdepiaaGreatPackR
set_option maxRecDepth 100000
set_option maxHeartbeats 16000000
set_option linter.unusedVariables false
set_option linter.unusedSimpArgs false
namespace Go.Proofs.YtdhibeclkdepiaaGreat
section
open Go.RowKit Go.Shelf Go.Maps
attribute [local go_sem] Oper.semAt_some
def aI1 (w:World) (c:Array Value):World:=((w.alloc (.cells c 34)).alloc (.map #[] 0)).alloc (.cells #[.map (some (w.heap.size+1))] 164)
theorem aCR (w:World) (c:Array Value):(aI1 w c).heap.size=w.heap.size+1+1+1:=by simp only [aI1,yE]
theorem aF5 (w:World) (c:Array Value):Below w.heap.size w (aI1 w c):=yA (yA (yA (Below.refl _ w) _) _) _
theorem aI0 (w:World) (c:Array Value):(aI1 w c).ownsMap Tryz.prog 133 eD (w.heap.size+1) 0 (.map []):=by
 have:=(World.ownsMap_made (w.alloc (.cells c 34)) Tryz.prog 133 eD).alloc (.cells #[.map (some (w.heap.size+1))] 164)
 rw [yE] at this
 exact this
theorem aIZ (w:World) (c:Array Value):Blk (aI1 w c) (w.heap.size+1+1) #[.map (some (w.heap.size+1))] 164:=by
 have:=yD ((w.alloc (.cells c 34)).alloc (.map #[] 0)) #[.map (some (w.heap.size+1))] 164
 rw [yE,yE] at this
 exact this
def mY (w:World) (l:List AV) (W:World):Prop:=(∃D,W.ownsMap Tryz.prog 133 eD (w.heap.size+1) l.length D∧eP l aI4 D)∧Blk W (w.heap.size+1+1) #[.map (some (w.heap.size+1))] 164
theorem mY.grown {w W W':World} {l:List AV} {row:Option Nat} (h:mY w l W) (hg:W.grownBy W' row) (hr:∀r,row=some r→w.heap.size+1+1<r):mY w l W':=by
 obtain ⟨⟨D,h1,h2⟩,h3⟩:=h
 exact ⟨⟨D,h1.kept hg (fun e=>by have:=hr _ e.symm;omega),h2⟩,(hg.block _ h3.lt (fun e=>by have:=hr _ e.symm;omega)).trans h3⟩
theorem mY.below {w W W':World} {l:List AV} (h:mY w l W) (hb:Below W.heap.size W W'):mY w l W':=h.grown (aH (aF W none) hb) (fun r e=>by cases e)
theorem aIX (x:Sls) (s:St) (hs:List AV) (w:World) (h:eF w x.aa x.al hs) (hl:x.al≤1048576) (hn:∀m ∈ hs,(Lit.int .i64 m.id).wf=true) :
  Calls Tryz.prog 121 #[sv x s] w fun e w'=>e=.returned (.map (some (w.heap.size+1)))∧mY w hs w'∧Below w.heap.size w w':=by
 obtain ⟨qa,ql,qc,aa,al,ac,ma,ml,mc,ca,cl,cc⟩:=x
 obtain ⟨qs,clock,epoch,next,serial,apps,ms,cs⟩:=s
 simp only at h hl
 have HR:=aA h
 have HL:=aA h.1
 have HN:=aA hn
 have hmx:Tryz.prog.follows .mixedOrders=true:=by kernel_rfl
 have hmm:=fun (t:TypeId) (wx:World)=>run_makeMap (P:=Tryz.prog) t wx
 clear h hn
 refine (callsIn_wide (n:=3)).1 ?_
 refine callsIn_of_wp_marks Tryz.func121 rfl trivial ?_ rfl
 simp only [Tryz.ntmps121,List.size_toArray,List.length_cons,List.length_nil,Nat.reduceAdd,Nat.reduceSub,Array.replicate_succ,Array.replicate_zero,List.push_toArray,List.append_toArray,List.nil_append,List.cons_append]
 gi_wp2_with fail
 first | refine ⟨trivial,?_⟩ | skip
 first | refine ⟨(by intro e;cases e),?_⟩ | skip
 refine (callsIn_wide.2 (aHQ (.slice aa al ac) _ rfl)).mono ?_
 rintro e w4 ⟨rfl,rfl⟩
 gi_wp2
 have hsz0:=yE (aI1 w (svc ⟨qa,ql,qc,aa,al,ac,ma,ml,mc,ca,cl,cc⟩ ⟨qs,clock,epoch,next,serial,apps,ms,cs⟩)) (.cells #[.slice aa al ac] 30)
 rw [aCR] at hsz0
 have hB0:=yA (aF5 w (svc ⟨qa,ql,qc,aa,al,ac,ma,ml,mc,ca,cl,cc⟩ ⟨qs,clock,epoch,next,serial,apps,ms,cs⟩)) (.cells #[.slice aa al ac] 30)
 have hI0:=mY.below (w:=w) (l:=[]) ⟨⟨_,aI0 w (svc ⟨qa,ql,qc,aa,al,ac,ma,ml,mc,ca,cl,cc⟩ ⟨qs,clock,epoch,next,serial,apps,ms,cs⟩),aBo⟩,aIZ w _⟩ (yA (Below.refl _ _) (.cells #[.slice aa al ac] 30))
 have hBs:=(yD (aI1 w (svc ⟨qa,ql,qc,aa,al,ac,ma,ml,mc,ca,cl,cc⟩ ⟨qs,clock,epoch,next,serial,apps,ms,cs⟩)) #[.slice aa al ac] 30).at 0
 rw [aCR] at hBs
 obtain ⟨W0,hW0⟩:∃W0,(aI1 w (svc ⟨qa,ql,qc,aa,al,ac,ma,ml,mc,ca,cl,cc⟩ ⟨qs,clock,epoch,next,serial,apps,ms,cs⟩)).alloc (.cells #[.slice aa al ac] 30)=W0:=⟨_,rfl⟩
 rw [hW0] at hsz0 hB0 hI0 hBs
 have HC:=aA (aD6 (3 - 1) (w.heap.size+1+1+1) al ac aa hs W0 hBs ((uH HR).below hB0) hl (uH HN))
 show Code.wpIn _ _ _ _ _ _ ((aI1 w (svc ⟨qa,ql,qc,aa,al,ac,ma,ml,mc,ca,cl,cc⟩ ⟨qs,clock,epoch,next,serial,apps,ms,cs⟩)).alloc (.cells #[.slice aa al ac] 30))
 rw [hW0]
 clear hW0 hBs
 refine wpIn_rangeFunc_ownH rfl (by omega) (gf:=182) (lb:=#[.pointer (some ⟨w.heap.size+1+1+1,0,none⟩)]) rfl trivial (enters_of Tryz.func182 (by kernel_rfl) rfl)
  (uH HC) aII aKB (Below.refl _ _) (fun _=>rfl)
  (fun pre W=>mY w ((pre.map (fun x:Int×NAV=>x.2.1)).reverse) W∧Below w.heap.size w W)
  (fun _ _ _=>False)
  (OwnFrom.and (fun s X Y row hs hg hr=>mY.grown hs hg (fun r e=>by have:=(hr r e).1;omega)) (ownFrom_below (Nat.le_refl _) (by omega)))
  (fun _ _ _ _ _ hs _ _=>hs)
  ⟨hI0,hB0⟩
  (fun x a' W=>∃Bx,w.heap.size+1+1<Bx∧Blk W Bx #[.int .i64 x.2.1.id,.string (bs x.2.1.queue),.slice x.2.1.ao x.2.1.len x.2.1.cap] 74∧a' = { tmps:=#[sv ⟨qa,ql,qc,aa,al,ac,ma,ml,mc,ca,cl,cc⟩ ⟨qs,clock,epoch,next,serial,apps,ms,cs⟩,.pointer (some ⟨w.heap.size,0,none⟩),.map none,.pointer (some ⟨w.heap.size+1+1,0,none⟩),undef,.pointer (some ⟨Bx,0,none⟩),.map (some (w.heap.size+1)),.pointer (some ⟨w.heap.size,5,none⟩),.slice aa al ac,.func (.func 182) #[] #[.pointer (some ⟨w.heap.size+1+1+1,0,none⟩)],.int .i64 x.1,avv x.2.1,undef,undef,undef,undef,undef],defers:=[] })
  (fun x a' _ X Y row hs hg hr=>by
   obtain ⟨Bx,h1,h2,h3⟩:=hs
   refine ⟨Bx,h1,(hg.block Bx h2.lt (fun e=>?_)).trans h2,h3⟩
   obtain ⟨_,o,ho,hc⟩:=hr Bx e.symm
   rw [show X.heap[Bx]? = _ from h2] at ho
   cases ho
   cases hc)
  ?assign ?body ?done ?stop
 case assign=>
  rintro lp pre ⟨i,⟨⟨id,qu,zo,zl,zc⟩,hnm⟩⟩ W K ⟨hI,hB⟩ hK
  have hlt:=hI.2.lt
  gi_wp2
  exact hK _ _ ((KeepsOthers.alloc _ _).from _) (pR (yA (Below.refl _ W) _)) ⟨hI.below (yA (Below.refl _ W) _),yA hB _⟩ ⟨W.heap.size,hlt,yD W _ _,rfl⟩
 case body=>
  rintro lp pre ⟨i,⟨⟨id,qu,zo,zl,zc⟩,hnm⟩⟩ a' W hlp _ ⟨hI,hB⟩ ⟨Bx,hBx,hX,rfl⟩ hlt
  have HI:=aA hI
  have HX:=aA hX
  have HB:=aA hB
  have x0:=hX.at 0
  have x1:=hX.at 1
  have x2:=hX.at 2
  have v0:=hI.2.at 0
  simp at x0 x1 x2 v0
  have hpl:pre.length<1048576:=by have:=uH HL;omega
  clear hI hX hB
  obtain ⟨kl,hkey⟩:=zO (nm:=[]) (k:=id) (by decide) hnm
  have HKEY:=aA hkey
  clear hkey
  gi_wp2_with fail
  gi_region_with_o (first | (first | refine ⟨trivial,?_⟩ | skip);(first | refine ⟨(by intro e;cases e),?_⟩ | skip);refine (CallsIn.inRound lp (callsIn_wide.2 (aF4 ⟨id,qu,zo,zl,zc⟩ _))).mono ?_;rintro e wc ⟨rfl,hbc⟩;have HW3:=aA (yB (Below.refl _ W).drew hbc);have y0:=((uH HX).below (uH HW3)).at 0;have y1:=((uH HX).below (uH HW3)).at 1;have y2:=((uH HX).below (uH HW3)).at 2;have u0:=((uH HI).below (uH HW3)).2.at 0;simp at y0 y1 y2 u0;obtain ⟨D,hown,hk⟩:=((uH HI).below (uH HW3)).1;obtain ⟨w4,hrun,hown2,hgrow2⟩:=hown.update iT Tryz.underlying164 (by unfold maxLen;simp;omega) (uH HKEY) (kX ⟨id,qu,zo,zl,zc⟩);have HFIN:=aA (And.intro hown2 (And.intro hgrow2 (eP.put (m:=⟨id,qu,zo,zl,zc⟩) hk hown.isMap (uH HKEY))));clear hown2 hgrow2 hk hown hbc)
  all_goals gi_wp2
  all_goals
   obtain ⟨f1,f2,f3⟩:=uH HFIN
   have hbelow:=(uH HW3)
   have hv4:=(f2.block _ ((uH HI).below hbelow).2.lt (by simp)).trans ((uH HI).below hbelow).2
   have hmi:mY w (⟨id,qu,zo,zl,zc⟩::(pre.map (fun x:Int×NAV=>x.2.1)).reverse) w4:=⟨⟨_,f1,f3⟩,hv4⟩
   refine ⟨((sJ hbelow).from _).trans (KeepsFrom.of_grownBy f2 (fun j e=>by cases e;omega)),aII (pR hbelow) (fun k o ho hc=>(f2.block k (lt_of_block ho) (fun e=>?_)).trans ho),by simpa using hmi,?_⟩
   ·obtain ⟨D',hD',_⟩:=((uH HI).below hbelow).1
    obtain ⟨es,ck,hm',_⟩:=hD'
    obtain rfl:k=w.heap.size+1:=by simpa using e
    rw [hm'] at ho
    cases ho
    cases hc
   ·exact ((uH HB).trans (hbelow.mono (uH HB).size)).grown f2 (by have:=(uH HB).size;have:=hbelow.size;omega) (fun k e=>by cases e;omega)
 case done=>
  rintro D ys W hD hys ⟨hI,hB⟩ hK
  rw [uH hys,List.reverse_reverse] at hI
  have v0:=hI.2.at 0
  simp at v0
  have HI:=aA hI
  have HB:=aA hB
  clear hI hB
  gi_wp2
  refine ⟨by simp,.inl ⟨_,_,rfl,run_takeDeferred hK,?_⟩⟩
  exact ⟨_,results_tmp rfl _ _ _,rfl,(uH HI).grown (grownBy_putObj' W D _) (fun r e=>by cases e;omega),(uH HB).trans (belowK_b (w:=w) (Nat.le_refl _) W D _ _ (by omega) hK rfl rfl)⟩
 case stop=>
  rintro D c pre W _ _ h _
  exact h.elim
theorem aHU (x:Sls) (s:St) (hs:List AV) (w:World) (h:eF w x.aa x.al hs) (hl:x.al≤1048576) (hn:∀m ∈ hs,(Lit.int .i64 m.id).wf=true) :
  Calls Tryz.prog 121 #[sv x s] w fun e w'=>∃bm,e=.returned (.map (some bm))∧(w.heap.size≤bm∧∃D,w'.ownsMap Tryz.prog 133 eD bm hs.length D∧eP hs aI4 D)∧Below w.heap.size w w':=
 (aIX x s hs w h hl hn).mono fun e w' ⟨h1,h2,h3⟩=>⟨_,h1,⟨by omega,h2.1⟩,h3⟩
end
section
open Go.RowKit Go.Maps
def aDD (a b c d:Int):Int×Int:=if aK (-1) a b c d then (a + -1*c,b + -1*d) else (0,0)
theorem aBf (a b c d:Int):jA (-1) a b c d=rv (aDD a b c d).1 (aDD a b c d).2:=by
 cases h:aK (-1) a b c d
 ·rw [jS h,aDD,h];rfl
 ·rw [kC h,aDD,h];rfl
def fC (s:St) (nm:List UInt8):Int×Int:=match bF nm s.ms with
 | none=>(0,0)
 | some m=>aDD m.mem m.cpu (gD s nm).1 (gD s nm).2
def idV (s:St):Int:=s.epoch*100000+s.serial % 100000
def mQ (s:St):Bool:=decide (idV s≤1000000000)&&!(s.cs.any fun c=>c.id==idV s)
theorem xS (x:Sls) (s:St) (nm:List UInt8) (w:World) (h:iJ w x s) (hf:bS s) (hnm:nm.length≤1048576) :
  Calls Tryz.prog 45 #[sv x s,.string (bs nm)] w fun e w'=>e=.returned (.bool (bF nm s.ms).isSome)∧Below w.heap.size w w':=by
 have hml:x.ml≤1048576:=by have:=h.len.2.2.1;have:=hf.2.2.1.1;omega
 have CM:=aA (fun wx (hb:Below w.heap.size w wx)=>oD x s wx (h.2.2.1.below hb) hml (fun m hm=>hf.2.2.1.2 m hm))
 obtain ⟨kl,hkey⟩:=zO (nm:=nm) (k:=0) (by omega) (by decide)
 have HKEY:=aA hkey
 obtain ⟨o,ho⟩:∃o,(bF nm s.ms).isSome=o:=⟨_,rfl⟩
 have HO:=aA ho
 rw [ho]
 clear h hf hkey ho
 obtain ⟨qa,ql,qc,aa,al,ac,ma,ml,mc,ca,cl,cc⟩:=x
 obtain ⟨qs,clock,epoch,next,serial,apps,ms,cs⟩:=s
 have HB0:=aA (yA (Below.refl _ w) (.cells (svc ⟨qa,ql,qc,aa,al,ac,ma,ml,mc,ca,cl,cc⟩ ⟨qs,clock,epoch,next,serial,apps,ms,cs⟩) 34))
 go_enter Tryz.func45,Tryz.ntmps45
 go_wp2_with fail
 refine (uH CM _ (uH HB0)).mono ?_
 rintro e w1 ⟨bm,rfl,⟨hbm,D,hown,hk⟩,hb⟩
 have hlk:=aJF hown hk (uH HKEY)
 have HB1:=aA (yB (uH HB0) hb)
 clear hb HB0 CM hown hk hbm
 rw [uH HO] at hlk
 go_wp2
 go_ret
 exact ⟨rfl,by repeat (first | exact uH HB1 | refine yA ?_ _)⟩
theorem aEv (x:Sls) (s:St) (w:World) (h:iJ w x s) (hf:bS s) (ha:aKL s.cs) (he:0≤s.epoch∧s.epoch≤1000000000) (hs:0≤s.serial∧s.serial≤1000000000) :
  Calls Tryz.prog 105 #[sv x s] w fun e w'=>e=.returned (.tuple #[.int .i64 (idV s),.bool (mQ s)])∧Below w.heap.size w w':=by
 have C:=aA (fun wx (hb:Below w.heap.size w wx)=>qA x s (idV s) wx (h.below hb) hf ha)
 have HI:=aA (show idV s=s.epoch*100000+s.serial % 100000 from rfl)
 have hm:=Int.emod_nonneg s.serial (show (100000:Int)≠0 by decide)
 have hm2:=Int.emod_lt_of_pos s.serial (show (0:Int)<100000 by decide)
 obtain ⟨d,hd⟩:∃d,idV s=d:=⟨_,rfl⟩
 have HF:=aA (show ∀f:Bool,(f=true↔∃c ∈ s.cs,c.id=d)→(decide (d≤1000000000)&&!f)=mQ s from fun f hf=>by
  have:f=s.cs.any (fun c=>c.id==d):=by
   rw [Bool.eq_iff_iff,hf,List.any_eq_true]
   simp
  rw [mQ,hd,this])
 obtain ⟨fr,hfr⟩:∃d,mQ s=d:=⟨_,rfl⟩
 rw [hfr] at HF ⊢
 rw [hd] at C HI ⊢
 clear h hf ha hd hfr
 obtain ⟨qa,ql,qc,aa,al,ac,ma,ml,mc,ca,cl,cc⟩:=x
 obtain ⟨qs,clock,epoch,next,serial,apps,ms,cs⟩:=s
 simp only at C HI HF he hs hm hm2
 have HB0:=aA (yA (Below.refl _ w) (.cells (svc ⟨qa,ql,qc,aa,al,ac,ma,ml,mc,ca,cl,cc⟩ ⟨qs,clock,epoch,next,serial,apps,ms,cs⟩) 34))
 have hmt:serial.tmod 100000=serial % 100000:=Int.tmod_eq_emod_of_nonneg hs.1
 obtain ⟨sm,hsm⟩:∃z,serial % 100000=z:=⟨_,rfl⟩
 rw [hsm] at hmt hm hm2 HI
 go_enter Tryz.func105,Tryz.ntmps105
 go_wp2_with fail
 rw [←uH HI]
 refine (uH C _ (uH HB0)).mono ?_
 rintro e w1 ⟨p,f,rfl,_,_,_,h4,hb⟩
 have HB1:=aA (yB (uH HB0) hb)
 have HZ:=aA (uH HF f h4)
 clear h4 hb HB0 C HF HI
 by_cases hd:d≤1000000000
 ·have HZ2:=aA (show (!f)=fr by have:=uH HZ;rwa [decide_eq_true hd,Bool.true_and] at this)
  go_wp2
  refine bodyPost_ret (v:=.tuple #[.int .i64 d,.bool fr]) (by simp [results,Tryz.results105,go_sem,←uH HZ2]) rfl ⟨rfl,uH HB1⟩
 ·have HZ2:=aA (show false=fr by have:=uH HZ;rwa [decide_eq_false hd,Bool.false_and] at this)
  go_wp2
  refine bodyPost_ret (v:=.tuple #[.int .i64 d,.bool fr]) (by simp [results,Tryz.results105,go_sem,←uH HZ2]) rfl ⟨rfl,uH HB1⟩
end
section
open Go.RowKit
theorem wY (x:Sls) (s:St) (nd:List UInt8) (w:World) (h:aY w x.ca x.cl s.cs) (hl:x.cl≤1048576) :
  Calls Tryz.prog 161 #[sv x s,.string (bs nd)] w fun e w'=>e=.returned (rv (gN (aT (fun q=>decide (q.node=nd)) s.cs)).1 (gN (aT (fun q=>decide (q.node=nd)) s.cs)).2.1)∧Below w.heap.size w w':=by
 have hlc:(aT (fun q=>decide (q.node=nd)) s.cs).length≤1048576:=by have:=h.1;have:(aT (fun q:Con=>decide (q.node=nd)) s.cs).length≤s.cs.length:=(by simp only [aT,List.length_map];exact List.length_filter_le _ _);omega
 have HR:=aA h
 clear h
 obtain ⟨⟨sx,sy,so⟩,hs⟩:∃y,gN (aT (fun q=>decide (q.node=nd)) s.cs)=y:=⟨_,rfl⟩
 have CC:=aA (fun wx (hb:Below w.heap.size w wx)=>aBk x s nd wx ((uH HR).below hb) hl)
 have CS:=aA (fun ao cap wx (h:aF9 wx ao (aT (fun q=>decide (q.node=nd)) s.cs).length (aT (fun q=>decide (q.node=nd)) s.cs))=>by have:=kU ao _ cap (aT (fun q=>decide (q.node=nd)) s.cs) wx h hlc;rw [hs] at this;exact this)
 rw [hs]
 clear hs
 obtain ⟨qa,ql,qc,aa,al,ac,ma,ml,mc,ca,cl,cc⟩:=x
 obtain ⟨qs,clock,epoch,next,serial,apps,ms,cs⟩:=s
 simp only at CC CS hlc
 go_enter Tryz.func161,Tryz.ntmps161
 go_wp2_with fail
 refine (uH CC _ (bV w _)).mono ?_
 rintro e w1 ⟨v,rfl,ho,hb⟩
 obtain ⟨ao,cp,rfl,hrow,_⟩:=ho.row
 have V1:=(gL w _).below hb
 have HV1:=aA V1
 have HB1:=aA (yB (bV w _) hb)
 have HROW:=aA hrow
 obtain ⟨n,hn⟩:∃n,(aT (fun q=>decide (q.node=nd)) cs).length=n:=⟨_,rfl⟩
 rw [hn] at CS HROW ⊢
 clear hb V1 CC ho hrow hn hlc
 go_wp2_with fail
 refine (uH CS _ _ _ (uH HROW)).mono ?_
 rintro e w2 ⟨rfl,hb⟩
 have V1:=(uH HV1).below hb
 have HB2:=aA (yB (uH HB1) hb)
 have V2:=V1.al (.cells #[.int .i64 sx,.int .i64 sy] 36)
 have t0:=V2.c0
 have t1:=V2.c1
 have f0:=V2.f 0
 have f1:=V2.f 1
 have VG:=V2.set sx sy
 have k6:=VG.c0
 have k7:=VG.c1
 clear hb V1 V2 VG CS HV1 HB1 HROW
 go_wp2
 refine bodyPost_ret (v:=rv sx sy) (by simp [results,Tryz.results161,go_sem,k6,k7]) rfl ⟨rfl,?_⟩
 repeat (first | exact uH HB2 | refine yA ?_ _ | refine yC ?_ _ _ _ (by omega))
theorem iJ.cl {w:World} {x:Sls} {s:St} (h:iJ w x s) (hf:bS s):x.cl≤1048576:=by have:=h.len.2.2.2;have:=hf.2.2.2.1;omega
theorem aBE (x:Sls) (s:St) (nd:List UInt8) (w:World) (h:aY w x.ca x.cl s.cs) (hl:x.cl≤1048576) :
  Calls Tryz.prog 161 #[sv x s,.string (bs nd)] w fun e w'=>e=.returned (rv (gD s nd).1 (gD s nd).2)∧Below w.heap.size w w':=wY x s nd w h hl
end
section
open Go.RowKit Go.Maps
theorem xA (x:Sls) (s:St) (nm:List UInt8) (w:World) (h:iJ w x s) (hf:bS s) :
    Calls Tryz.prog 131 #[sv x s,.string (bs nm)] w fun e w'=>e=.returned (rv (fC s nm).1 (fC s nm).2)∧Below w.heap.size w w':=by
  have hml:x.ml≤1048576:=by have:=h.len.2.2.1;have:=hf.2.2.1.1;omega
  have hcl:x.cl≤1048576:=by have:=h.len.2.2.2;have:=hf.2.2.2.1;omega
  have CM:=aA (fun wx (hb:Below w.heap.size w wx)=>kI x s nm wx (h.2.2.1.below hb) hml)
  have CU:=aA (fun wx (hb:Below w.heap.size w wx)=>aBE x s nm wx (h.2.2.2.below hb) hcl)
  have HFV:=aA (show fC s nm=match bF nm s.ms with | none=>(0,0) | some m=>aDD m.mem m.cpu (gD s nm).1 (gD s nm).2 from rfl)
  have HMR:=aA (fun wx (hb:Below w.heap.size w wx)=>h.2.2.1.below hb)
  have HML:=aA h.2.2.1.1
  have hat:=qY nm s.ms
  obtain ⟨⟨ux,uy⟩,hu⟩:∃u,gD s nm=u:=⟨_,rfl⟩
  obtain ⟨⟨fx,fy⟩,hfr⟩:∃u,fC s nm=u:=⟨_,rfl⟩
  obtain ⟨at0,ha⟩:∃p,xM s.ms nm=p:=⟨_,rfl⟩
  rw [hu] at CU HFV
  rw [hfr] at HFV ⊢
  rw [ha] at CM hat
  clear h hf hu hfr ha
  obtain ⟨qa,ql,qc,aa,al,ac,ma,ml,mc,ca,cl,cc⟩:=x
  obtain ⟨qs,clock,epoch,next,serial,apps,ms,cs⟩:=s
  simp only at HFV HMR HML hat
  have HB0:=aA (bV w (svc ⟨qa,ql,qc,aa,al,ac,ma,ml,mc,ca,cl,cc⟩ ⟨qs,clock,epoch,next,serial,apps,ms,cs⟩))
  have V0:=aA (gL w (svc ⟨qa,ql,qc,aa,al,ac,ma,ml,mc,ca,cl,cc⟩ ⟨qs,clock,epoch,next,serial,apps,ms,cs⟩))
  have P0:=aA ((eO w (svc ⟨qa,ql,qc,aa,al,ac,ma,ml,mc,ca,cl,cc⟩ ⟨qs,clock,epoch,next,serial,apps,ms,cs⟩)).al (.cells #[.int .i64 0,.int .i64 0] 36))
  go_enter Tryz.func131,Tryz.ntmps131
  go_wp2_with fail
  refine (uH CM _ (uH HB0)).mono ?_
  rintro e w1 ⟨rfl,hb⟩
  have HB1:=aA (yB (uH HB0) hb)
  have V1:=aA ((uH V0).below hb)
  have P1:=aA ((uH P0).below hb)
  clear hb HB0 V0 P0 CM
  rcases hat with ⟨hfm,rfl⟩ | ⟨j,hj,hfm,rfl⟩
  · rw [hfm] at HFV
    simp only at HFV
    have hz:=uH HFV
    simp only [Prod.mk.injEq] at hz
    obtain ⟨rfl,rfl⟩:=hz
    have V2:=uH V1
    have t0:=V2.c0
    have t1:=V2.c1
    have f0:=V2.f 0
    have f1:=V2.f 1
    have k4:=V2.s0 (.int .i64 0)
    have k5:=V2.s1 (.int .i64 0) (.int .i64 0)
    clear V2
    go_wp2
    refine bodyPost_ret (v:=rv 0 0) (by simp [results,Tryz.results131,go_sem,k4,k5]) rfl ⟨rfl,?_⟩
    repeat (first | exact uH HB1 | refine yA ?_ _ | refine yC ?_ _ _ _ (by omega))
  · rw [hfm] at HFV
    have hjl:j<ml:=by have:=uH HML;omega
    obtain ⟨mb,mo,rfl,hq⟩:=(uH HMR _ (uH HB1)).at hjl
    have HQ:=aA (hq hj)
    obtain ⟨⟨mn,me,mp,se⟩,hs⟩:∃m,ms[j]=m:=⟨_,rfl⟩
    rw [hs] at HQ HFV
    simp only at HFV
    have HRV:=aA (show jA (-1) me mp ux uy=rv fx fy by rw [aBf,←uH HFV])
    have CB:=aA (fun wx=>by have:=aCf me mp ux uy wx;rw [uH HRV] at this;exact this)
    obtain ⟨ok,hok⟩:∃o,aK (-1) me mp ux uy=o:=⟨_,rfl⟩
    rw [hok] at CB
    have j0:(0:Int)≤j:=by omega
    have j1:(j:Int)<ml:=by omega
    clear hok HRV HFV hfm hq hs hj
    have R:∀wx,Kp w1 wx→wx.cell? ⟨w.heap.size,0,none⟩=some (.slice qa ql qc)∧wx.cell? ⟨w.heap.size,1,none⟩=some (.int .i64 clock)∧wx.cell? ⟨w.heap.size,2,none⟩=some (.int .i64 epoch)∧wx.cell? ⟨w.heap.size,3,none⟩=some (.int .i64 next)∧wx.cell? ⟨w.heap.size,4,none⟩=some (.int .i64 serial)∧wx.cell? ⟨w.heap.size,5,none⟩=some (.slice aa al ac)∧wx.cell? ⟨w.heap.size,6,none⟩=some (.slice (some ⟨mb,mo,none⟩) ml mc)∧wx.cell? ⟨w.heap.size,7,none⟩=some (.slice ca cl cc)∧wx.cell? ⟨mb,mo+j*4+1,none⟩=some (.int .i64 me)∧wx.cell? ⟨mb,mo+j*4+2,none⟩=some (.int .i64 mp):=fun wx h=>
      ⟨h.cell ((uH P1).at 0),h.cell ((uH P1).at 1),h.cell ((uH P1).at 2),h.cell ((uH P1).at 3),h.cell ((uH P1).at 4),h.cell ((uH P1).at 5),h.cell ((uH P1).at 6),h.cell ((uH P1).at 7),h.cell (uH HQ).2.1,h.cell (uH HQ).2.2.1⟩
    have A0:=aA (Kp.new w1)
    have HS:=aA (cB w1)
    have hw1:=(uH V1).lt
    go_wp2_with fail
    go_cut [6,7] from 14 to 26 (fun v7 v8 wx=>∃g,v7=.pointer (some ⟨g,0,none⟩)∧v8=.bool ok∧Kp w1 wx∧Var wx 36 g fx fy∧w1.heap.size≤g)
    case first=>
      go_region_held3 (fun wx=>Kp w1 wx)
        (first | (with_reducible assumption) | exact uH SA | exact (uH HS).drew (uH A0) | exact (uH HS).al (uH SA) _ | exact (uH HS).al (by assumption) _ | exact (uH HS).al ((uH HS).drew (uH A0)) _ | exact (uH HS).call (by assumption) (by assumption) | exact (uH HS).set2 (uH SA) _ _ _ (by first | omega | (simp<;>omega)) | exact (uH HS).set2 (by assumption) _ _ _ (by first | omega | (simp<;>omega)))
        (first
        | (go_at_call 161;refine (uH CU _ ?_).mono ?_;(exact yB (uH HB1) ((uH HS).below (by assumption)));rintro e wt ⟨rfl,hb⟩;have SA:=aA ((uH HS).call (by assumption) hb);have sz:=(uH HS).size (uH SA)
           first
             | (have V5:=(aJ _ 36 0 0).below hb;(try simp at V5);have c50:=V5.c0;have c51:=V5.c1;have f50:=V5.f 0;have f51:=V5.f 1;have V5:=aA V5)
             | (have V5:=(aJ _ 36 0 0).drew.below hb;(try simp at V5);have c50:=V5.c0;have c51:=V5.c1;have f50:=V5.f 0;have f51:=V5.f 1;have V5:=aA V5)
             | skip)
        | (go_at_call 160;refine (uH CB _).mono ?_;rintro e wt ⟨rfl,hb⟩;have SA:=aA ((uH HS).call (by assumption) hb);have sz:=(uH HS).size (uH SA)
           first
             | (have V5:=(aJ _ 36 0 0).below hb;(try simp at V5);have c50:=V5.c0;have c51:=V5.c1;have f50:=V5.f 0;have f51:=V5.f 1;have V5:=aA V5)
             | (have V5:=(aJ _ 36 0 0).drew.below hb;(try simp at V5);have c50:=V5.c0;have c51:=V5.c1;have f50:=V5.f 0;have f51:=V5.f 1;have V5:=aA V5)
             | (have V5:=aA ((uH V5).below hb);have c50:=(uH V5).c0;have c51:=(uH V5).c1;have f50:=(uH V5).f 0;have f51:=(uH V5).f 1)
             | skip))
      all_goals
        go_wp2_with fail
        go_meet
        exact ⟨_,rfl,rfl,by first | assumption | exact uH SA | exact (uH HS).al (uH SA) _,by first | exact aJ _ _ _ _ | exact (uH V5).set _ _,by first | omega | (simp<;>omega)⟩
    case rest=>
      obtain ⟨g,rfl,rfl,hA,hV,hg⟩:=hcut
      have HB2:=aA (yB (uH HB1) hA)
      have v0:=hV.c0
      have v1:=hV.c1
      have V2:=(uH V1).below hA
      have t0:=V2.c0
      have t1:=V2.c1
      have f0:=V2.f 0
      have f1:=V2.f 1
      have k4:=V2.s0 (.int .i64 fx)
      have k5:=V2.s1 (.int .i64 fx) (.int .i64 fy)
      clear hA hV A0 CB CU R V2 V1 P1 HB1
      go_wp2
      refine bodyPost_ret (v:=rv fx fy) (by simp [results,Tryz.results131,go_sem,k4,k5]) rfl ⟨rfl,?_⟩
      repeat (first | exact uH HB2 | refine yA ?_ _ | refine yC ?_ _ _ _ (by omega))
end
end Go.Proofs.YtdhibeclkdepiaaGreat
