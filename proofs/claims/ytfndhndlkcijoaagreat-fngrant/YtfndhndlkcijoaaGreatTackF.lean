/-
  Texts in one: AppsI, UsedOnI, FreeOnM, HmI, OnS, RmL, AppOfB, FreeOnI, UsedOnS, UsedOnB, FreeOnS.
-/
import Derived.Test.YtfndhndlkcijoaaGreatTackB
import Derived.Test.YtfndhndlkcijoaaGreatTackC
import Derived.Test.YtfndhndlkcijoaaGreatTackD
set_option maxRecDepth 100000
set_option maxHeartbeats 16000000
set_option linter.unusedVariables false
set_option linter.unusedSimpArgs false
open Go.Proofs.Tryz
namespace Go.Proofs.YtfndhndlkcijoaaGreat
section
open Go.RowKit Go.Shelf Go.Maps
variable {l:List AV} {W W' w:World}
attribute [local go_sem] Oper.semAt_some
def aI8 (w:World) (c:Array Value):World:=((w.alloc (.cells c 29)).alloc (.map #[] 0)).alloc (.cells #[.map (some (w.heap.size+1))] 121)
theorem aC1 (w:World) (c:Array Value):(aI8 w c).heap.size=w.heap.size+1+1+1:=by simp only [aI8,yE]
theorem aFZ (w:World) (c:Array Value):Bw w (aI8 w c):=yA (yA (yA (yH _ w) _) _) _
theorem aI7 (w:World) (c:Array Value):(aI8 w c).ownsMap Tryz.prog 124 fJ (w.heap.size+1) 0 (.map []):=by
 have:=(World.ownsMap_made (w.alloc (.cells c 29)) Tryz.prog 124 fJ).alloc (.cells #[.map (some (w.heap.size+1))] 121);rw [yE] at this;exact this
theorem aI6 (w:World) (c:Array Value):Blk (aI8 w c) (w.heap.size+1+1) #[.map (some (w.heap.size+1))] 121:=by
 have:=yD ((w.alloc (.cells c 29)).alloc (.map #[] 0)) #[.map (some (w.heap.size+1))] 121;rw [yE,yE] at this;exact this
def nZ (w:World) (l:List AV) (W:World):Prop:=(∃D,W.ownsMap Tryz.prog 124 fJ (w.heap.size+1) l.length D∧fT l aIb D)∧Blk W (w.heap.size+1+1) #[.map (some (w.heap.size+1))] 121
theorem nZ.grown {row:Option Nat} (h:nZ w l W) (hg:W.grownBy W' row) (hr:∀r,row=some r→w.heap.size+1+1<r):nZ w l W':=by
 obtain ⟨⟨D,h1,h2⟩,h3⟩:=h;exact ⟨⟨D,h1.kept hg (fun e=>by have:=hr _ e.symm;omega),h2⟩,(hg.block _ h3.lt (fun e=>by have:=hr _ e.symm;omega)).trans h3⟩
theorem nZ.below (h:nZ w l W) (hb:Bw W W'):nZ w l W':=h.grown (aH (aD W none) hb) (fun r e=>by cases e)
theorem aI2 (x:Sls) (s:St) (hs:List AV) (w:World) (h:gG w x.aa x.al hs) (hl:x.al≤1048576) (hn:∀m ∈ hs,(Lit.int .i64 m.id).wf=true) :
  cP 76 #[sv x s] w fun e w'=>e=.returned (.map (some (w.heap.size+1)))∧nZ w hs w'∧Bw w w':=by
 obtain ⟨qa,ql,qc,aa,al,ac,ma,ml,mc,ca,cl,cc⟩:=x;obtain ⟨qs,cv,ez,ny,sj,aj,ms,cs⟩:=s;simp only at h hl;have HR:=aA h;have HL:=aA h.1;have HN:=aA hn;have hmx:Tryz.prog.follows .mixedOrders=true:=by kernel_rfl
 have hmm:=fun (t:TypeId) (wx:World)=>run_makeMap (P:=Tryz.prog) t wx
 clear h hn;refine (callsIn_wide (n:=3)).1 ?_;refine callsIn_of_wp_marks func76 rfl trivial ?_ rfl;simp only [ntmps76,List.size_toArray,List.length_cons,List.length_nil,Nat.reduceAdd,Nat.reduceSub,Array.replicate_succ,Array.replicate_zero,List.push_toArray,List.append_toArray,List.nil_append,List.cons_append]
 gi_wp2_with fail
 first | refine ⟨trivial,?_⟩ | skip
 first | refine ⟨(by intro e;cases e),?_⟩ | skip
 refine (callsIn_wide.2 (aHH (.slice aa al ac) _ rfl)).mono ?_;rintro e w4 ⟨rfl,rfl⟩
 gi_wp2
 have Qy:=yE (aI8 w (svc ⟨qa,ql,qc,aa,al,ac,ma,ml,mc,ca,cl,cc⟩ ⟨qs,cv,ez,ny,sj,aj,ms,cs⟩)) (.cells #[.slice aa al ac] 25);rw [aC1] at Qy;have hB0:=yA (aFZ w (svc ⟨qa,ql,qc,aa,al,ac,ma,ml,mc,ca,cl,cc⟩ ⟨qs,cv,ez,ny,sj,aj,ms,cs⟩)) (.cells #[.slice aa al ac] 25);have hI0:=nZ.below (w:=w) (l:=[]) ⟨⟨_,aI7 w (svc ⟨qa,ql,qc,aa,al,ac,ma,ml,mc,ca,cl,cc⟩ ⟨qs,cv,ez,ny,sj,aj,ms,cs⟩),aBy⟩,aI6 w _⟩ (yA (yH _ _) (.cells #[.slice aa al ac] 25));have QH:=(yD (aI8 w (svc ⟨qa,ql,qc,aa,al,ac,ma,ml,mc,ca,cl,cc⟩ ⟨qs,cv,ez,ny,sj,aj,ms,cs⟩)) #[.slice aa al ac] 25).at 0;rw [aC1] at QH;obtain ⟨W0,hW0⟩:∃W0,(aI8 w (svc ⟨qa,ql,qc,aa,al,ac,ma,ml,mc,ca,cl,cc⟩ ⟨qs,cv,ez,ny,sj,aj,ms,cs⟩)).alloc (.cells #[.slice aa al ac] 25)=W0:=⟨_,rfl⟩;rw [hW0] at Qy hB0 hI0 QH;have HC:=aA (aDZ (3 - 1) (w.heap.size+1+1+1) al ac aa hs W0 QH ((uH HR).below hB0) hl (uH HN));show Code.wpIn _ _ _ _ _ _ ((aI8 w (svc ⟨qa,ql,qc,aa,al,ac,ma,ml,mc,ca,cl,cc⟩ ⟨qs,cv,ez,ny,sj,aj,ms,cs⟩)).alloc (.cells #[.slice aa al ac] 25));rw [hW0];clear hW0 QH;refine wpIn_rangeFunc_ownH rfl (by omega) (gf:=180) (lb:=#[.pointer (some ⟨w.heap.size+1+1+1,0,none⟩)]) rfl trivial (enters_of func180 (by kernel_rfl) rfl)
  (uH HC) aIH aKW (yH _ _) (fun _=>rfl)
  (fun pre W=>nZ w ((pre.map (fun x:Int×NAV=>x.2.1)).reverse) W∧Bw w W)
  (fun _ _ _=>False)
  (OwnFrom.and (fun s X Y row hs hg hr=>nZ.grown hs hg (fun r e=>by have:=(hr r e).1;omega)) (ownFrom_below (yJ _) (by omega)))
  (fun _ _ _ _ _ hs _ _=>hs)
  ⟨hI0,hB0⟩
  (fun x a' W=>∃Bx,w.heap.size+1+1<Bx∧Blk W Bx #[.int .i64 x.2.1.id,.string (bs x.2.1.queue),.slice x.2.1.ao x.2.1.len x.2.1.cap] 56∧a' = { tmps:=#[sv ⟨qa,ql,qc,aa,al,ac,ma,ml,mc,ca,cl,cc⟩ ⟨qs,cv,ez,ny,sj,aj,ms,cs⟩,.pointer (some ⟨w.heap.size,0,none⟩),.map none,.pointer (some ⟨w.heap.size+1+1,0,none⟩),undef,.pointer (some ⟨Bx,0,none⟩),.map (some (w.heap.size+1)),.pointer (some ⟨w.heap.size,5,none⟩),.slice aa al ac,.func (.func 180) #[] #[.pointer (some ⟨w.heap.size+1+1+1,0,none⟩)],.int .i64 x.1,avv x.2.1,undef,undef,undef,undef,undef],defers:=[] })
  (fun x a' _ X Y row hs hg hr=>by
   obtain ⟨Bx,h1,h2,h3⟩:=hs;refine ⟨Bx,h1,(hg.block Bx h2.lt (fun e=>?_)).trans h2,h3⟩;obtain ⟨_,o,ho,hc⟩:=hr Bx e.symm;rw [show X.heap[Bx]? = _ from h2] at ho;cases ho;cases hc)
  ?assign ?body ?done ?stop
 case assign=>
  rintro lp pre ⟨i,⟨⟨id,qu,zo,zl,zc⟩,hnm⟩⟩ W K ⟨hI,hB⟩ hK;have hlt:=hI.2.lt
  gi_wp2
  exact hK _ _ ((KeepsOthers.alloc _ _).from _) (qY (yA (yH _ W) _)) ⟨hI.below (yA (yH _ W) _),yA hB _⟩ ⟨W.heap.size,hlt,yD W _ _,rfl⟩
 case body=>
  rintro lp pre ⟨i,⟨⟨id,qu,zo,zl,zc⟩,hnm⟩⟩ a' W hlp _ ⟨hI,hB⟩ ⟨Bx,hBx,hX,rfl⟩ hlt;have HI:=aA hI;have HX:=aA hX;have HB:=aA hB;have x0:=hX.at 0;have x1:=hX.at 1;have x2:=hX.at 2;have v0:=hI.2.at 0;simp at x0 x1 x2 v0;have hpl:pre.length<1048576:=by have:=uH HL;omega
  clear hI hX hB;obtain ⟨kl,gy⟩:=xC (nm:=[]) (k:=id) (by decide) hnm;have Gv:=aA gy;clear gy
  gi_wp2_with fail
  gi_region_with_o (first | (first | refine ⟨trivial,?_⟩ | skip);(first | refine ⟨(by intro e;cases e),?_⟩ | skip);refine (CallsIn.inRound lp (callsIn_wide.2 (aFY ⟨id,qu,zo,zl,zc⟩ _))).mono ?_;rintro e wc ⟨rfl,hbc⟩;have HW3:=aA (yB (yH _ W).drew hbc);have y0:=((uH HX).below (uH HW3)).at 0;have y1:=((uH HX).below (uH HW3)).at 1;have y2:=((uH HX).below (uH HW3)).at 2;have u0:=((uH HI).below (uH HW3)).2.at 0;simp at y0 y1 y2 u0;obtain ⟨D,Hq,hk⟩:=((uH HI).below (uH HW3)).1;obtain ⟨w4,gq,GX,GK⟩:=Hq.update jU underlying121 (by unfold maxLen;simp;omega) (uH Gv) (l7 ⟨id,qu,zo,zl,zc⟩);have QW:=aA (And.intro GX (And.intro GK (fT.put (m:=⟨id,qu,zo,zl,zc⟩) hk Hq.isMap (uH Gv))));clear GX GK hk Hq hbc)
  all_goals gi_wp2
  all_goals
   obtain ⟨f1,f2,f3⟩:=uH QW;have GG:=(uH HW3);have hv4:=(f2.block _ ((uH HI).below GG).2.lt (by simp)).trans ((uH HI).below GG).2;have F6:nZ w (⟨id,qu,zo,zl,zc⟩::(pre.map (fun x:Int×NAV=>x.2.1)).reverse) w4:=⟨⟨_,f1,f3⟩,hv4⟩;refine ⟨((uK GG).from _).trans (KeepsFrom.of_grownBy f2 (fun j e=>by cases e;omega)),aIH (qY GG) (fun k o ho hc=>(f2.block k (lt_of_block ho) (fun e=>?_)).trans ho),by simpa using F6,?_⟩
   ·obtain ⟨D',hD',_⟩:=((uH HI).below GG).1;obtain ⟨es,ck,hm',_⟩:=hD';(obtain rfl:k=w.heap.size+1:=by simpa using e);rw [hm'] at ho;cases ho;cases hc
   ·exact ((uH HB).trans (GG.mono (uH HB).size)).grown f2 (by have:=(uH HB).size;have:=GG.size;omega) (fun k e=>by cases e;omega)
 case done=>
  rintro D ys W hD hys ⟨hI,hB⟩ hK;rw [uH hys,List.reverse_reverse] at hI;have v0:=hI.2.at 0;simp at v0;have HI:=aA hI;have HB:=aA hB;clear hI hB
  gi_wp2
  refine ⟨by simp,.inl ⟨_,_,rfl,run_takeDeferred hK,?_⟩⟩;exact ⟨_,results_tmp rfl _ _ _,rfl,(uH HI).grown (grownBy_putObj' W D _) (fun r e=>by cases e;omega),(uH HB).trans (belowK_b (w:=w) (yJ _) W D _ _ (by omega) hK rfl rfl)⟩
 case stop=>rintro D c pre W _ _ h _;exact h.elim
theorem aD1 (x:Sls) (s:St) (hs:List AV) (w:World) (h:gG w x.aa x.al hs) (hl:x.al≤1048576) (hn:∀m ∈ hs,(Lit.int .i64 m.id).wf=true) :
  cP 76 #[sv x s] w fun e w'=>∃bm,e=.returned (.map (some bm))∧(w.heap.size≤bm∧∃D,w'.ownsMap Tryz.prog 124 fJ bm hs.length D∧fT hs aIb D)∧Bw w w':=
 (aI2 x s hs w h hl hn).mono fun e w' ⟨h1,h2,h3⟩=>⟨_,h1,⟨by omega,h2.1⟩,h3⟩
end
section
open Go.RowKit
theorem aHq (B:Nat) (nm:List UInt8) (q:Con) (w:World) (hc:w.cell? ⟨B,0,none⟩=some (.string (bs nm))) :
  cP 224 #[conv q,.pointer (some ⟨B,0,none⟩)] w fun e w'=>e=.returned (.bool (decide (q.node=nm)))∧Bw w w':=by
 have hlt:=yG hc;have hc2:(w.alloc (aCS q)).cell? ⟨B,0,none⟩=some (.string (bs nm)):=by rw [World.cell?_alloc_lt _ _ ⟨B,0,none⟩ hlt];exact hc
 have hbe:=l6 q.node nm;clear hc hlt;go_enter func224,ntmps224;go_wp2;go_ret;exact ⟨rfl,yA (yH _ _) _⟩
def aGL (nm:List UInt8) (q:Con):Bool:=decide (q.node=nm)
def gQ (s:St) (nm:List UInt8):Int×Int:=((iC (aO (aGL nm) s.cs)).1,(iC (aO (aGL nm) s.cs)).2.1)
def onW (w:World) (c:Array Value) (nm:List UInt8):World:=((w.alloc (.cells c 29)).alloc (.cells #[.string (bs nm)] 9)).alloc (.cells #[.int .i64 0,.int .i64 0] 33)
theorem aBe (w:World) (c:Array Value) (nm:List UInt8):Bw w (onW w c nm):=yA (yA (yA (yH _ w) _) _) _
theorem aDu (w:World) (c:Array Value) (nm:List UInt8):(onW w c nm).cell? ⟨w.heap.size+1,0,none⟩=some (.string (bs nm)):=by
 have:=((yD (w.alloc (.cells c 29)) #[.string (bs nm)] 9).al (.cells #[.int .i64 0,.int .i64 0] 33)).at 0;rw [yE] at this;exact this
theorem aJO (w:World) (c:Array Value) (nm:List UInt8):Var (onW w c nm) 33 (w.heap.size+1+1) 0 0:=by
 have:=aM ((w.alloc (.cells c 29)).alloc (.cells #[.string (bs nm)] 9)) 33 0 0;rwa [yE,yE] at this
theorem zJ (x:Sls) (s:St) (nm:List UInt8) (w:World) (h:bR w x.ca x.cl s.cs) (hl:x.cl≤1048576) :
  cP 210 #[sv x s,.string (bs nm)] w fun e w'=>e=.returned (rv (gQ s nm).1 (gQ s nm).2)∧Bw w w':=by
 have ZE:∀(fn:Fn) (first cap:Array Value) (w:World),(Instr.makeFunc fn first cap).run Tryz.prog w=.ok (.func fn first cap) w:=fun _ _ _ _=>rfl
 obtain ⟨⟨sx,sy⟩,hs⟩:∃s',gQ s nm=s':=⟨_,rfl⟩;have h1:=congrArg Prod.fst hs;have h2:=congrArg Prod.snd hs;simp only [gQ] at h1 h2;have CU:=aA (by
  have:=aH8 224 #[.pointer (some ⟨w.heap.size+1,0,none⟩)] (enters_of func224 (by kernel_rfl) rfl) (aGL nm) x s (onW w (svc x s) nm) (h.below (aBe w _ nm)) hl
   (fun wy q hy=>aHq (w.heap.size+1) nm q wy ((hy.cell (p:=⟨w.heap.size+1,0,none⟩) (yG (aDu w _ nm))).trans (aDu w _ nm)))
  rw [h1,h2] at this;exact this)
 rw [hs];clear hs h1 h2 h;obtain ⟨qa,ql,qc,aa,al,ac,ma,ml,mc,ca,cl,cc⟩:=x;obtain ⟨qs,cv,ez,ny,sj,aj,ms,cs⟩:=s;go_enter func210,ntmps210;go_wp2_with fail;refine (uH CU).mono ?_;rintro e w1 ⟨rfl,hb⟩;have V1:=(aJO w _ nm).below hb;have HB1:=aA (yB (aBe w _ nm) hb);have t0:=V1.c0;have t1:=V1.c1;have f0:=V1.f 0;have f1:=V1.f 1;have VG:=V1.set sx sy;have k6:=VG.c0;have k7:=VG.c1;clear hb V1 VG CU;go_wp2;refine bodyPost_ret (v:=rv sx sy) (by simp [results,results210,go_sem,k6,k7]) rfl ⟨rfl,?_⟩;repeat (first | exact uH HB1 | refine yA ?_ _ | refine yC ?_ _ _ _ (by omega))
end
section
open Go.RowKit Go.Maps
def aBq (a b c d:Int):Int×Int:=if aN (-1) a b c d then (a + -1*c,b + -1*d) else (0,0)
theorem aBp (a b c d:Int):jY (-1) a b c d=rv (aBq a b c d).1 (aBq a b c d).2:=by
 cases h:aN (-1) a b c d
 ·rw [kQ h,aBq,h];rfl
 ·rw [kW h,aBq,h];rfl
def dI (s:St) (nm:List UInt8):Int×Int:=match bL nm s.ms with
 | none=>(0,0)
 | some m=>aBq m.mem m.cpu (gQ s nm).1 (gQ s nm).2
def idV (s:St):Int:=s.epoch*100000+s.serial % 100000
def lL (s:St):Bool:=decide (idV s≤1000000000)&&!(s.cs.any fun c=>c.id==idV s)
theorem zL (x:Sls) (s:St) (nm:List UInt8) (w:World) (h:gW w x s) (hf:dB s) (hnm:nm.length≤1048576) :
  cP 96 #[sv x s,.string (bs nm)] w fun e w'=>e=.returned (.bool (bL nm s.ms).isSome)∧Bw w w':=by
 have GN:x.ml≤1048576:=by have:=h.len.2.2.1;have:=hf.2.2.1.1;omega
 have CM:=aA (fun wx (hb:Bw w wx)=>pV x s wx (h.2.2.1.below hb) GN (fun m hm=>hf.2.2.1.2 m hm));obtain ⟨kl,gy⟩:=xC (nm:=nm) (k:=0) (by omega) (by decide);have Gv:=aA gy;obtain ⟨o,ho⟩:∃o,(bL nm s.ms).isSome=o:=⟨_,rfl⟩;have HO:=aA ho;rw [ho];clear h hf gy ho;obtain ⟨qa,ql,qc,aa,al,ac,ma,ml,mc,ca,cl,cc⟩:=x;obtain ⟨qs,cv,ez,ny,sj,aj,ms,cs⟩:=s;have HB0:=aA (yA (yH _ w) (.cells (svc ⟨qa,ql,qc,aa,al,ac,ma,ml,mc,ca,cl,cc⟩ ⟨qs,cv,ez,ny,sj,aj,ms,cs⟩) 29));go_enter func96,ntmps96;go_wp2_with fail;refine (uH CM _ (uH HB0)).mono ?_;rintro e w1 ⟨bm,rfl,⟨ZU,D,Hq,hk⟩,hb⟩;have hlk:=aJW Hq hk (uH Gv);have HB1:=aA (yB (uH HB0) hb);clear hb HB0 CM Hq hk ZU;rw [uH HO] at hlk;go_wp2;go_ret;exact ⟨rfl,by repeat (first | exact uH HB1 | refine yA ?_ _)⟩
theorem aEk (x:Sls) (s:St) (w:World) (h:gW w x s) (hf:dB s) (ha:aKj s.cs) (he:0≤s.epoch∧s.epoch≤1000000000) (hs:0≤s.serial∧s.serial≤1000000000) :
  cP 103 #[sv x s] w fun e w'=>e=.returned (.tuple #[.int .i64 (idV s),.bool (lL s)])∧Bw w w':=by
 have C:=aA (fun wx (hb:Bw w wx)=>rF x s (idV s) wx (h.below hb) hf ha);have HI:=aA (show idV s=s.epoch*100000+s.serial % 100000 from rfl);have hm:=Int.emod_nonneg s.serial (show (100000:Int)≠0 by decide);have hm2:=Int.emod_lt_of_pos s.serial (show (0:Int)<100000 by decide);obtain ⟨d,hd⟩:∃d,idV s=d:=⟨_,rfl⟩;have HF:=aA (show ∀f:Bool,(f=true↔∃c ∈ s.cs,c.id=d)→(decide (d≤1000000000)&&!f)=lL s from fun f hf=>by
  have:f=s.cs.any (fun c=>c.id==d):=by rw [Bool.eq_iff_iff,hf,List.any_eq_true];simp
  rw [lL,hd,this])
 obtain ⟨fr,hfr⟩:∃d,lL s=d:=⟨_,rfl⟩;rw [hfr] at HF ⊢;rw [hd] at C HI ⊢;clear h hf ha hd hfr;obtain ⟨qa,ql,qc,aa,al,ac,ma,ml,mc,ca,cl,cc⟩:=x;obtain ⟨qs,cv,ez,ny,sj,aj,ms,cs⟩:=s;simp only at C HI HF he hs hm hm2;have HB0:=aA (yA (yH _ w) (.cells (svc ⟨qa,ql,qc,aa,al,ac,ma,ml,mc,ca,cl,cc⟩ ⟨qs,cv,ez,ny,sj,aj,ms,cs⟩) 29));have hmt:sj.tmod 100000=sj % 100000:=Int.tmod_eq_emod_of_nonneg hs.1;obtain ⟨sm,hsm⟩:∃z,sj % 100000=z:=⟨_,rfl⟩;rw [hsm] at hmt hm hm2 HI;go_enter func103,ntmps103;go_wp2_with fail;rw [←uH HI];refine (uH C _ (uH HB0)).mono ?_;rintro e w1 ⟨p,f,rfl,_,_,_,h4,hb⟩;have HB1:=aA (yB (uH HB0) hb);have HZ:=aA (uH HF f h4);clear h4 hb HB0 C HF HI;by_cases hd:d≤1000000000
 ·have HZ2:=aA (show (!f)=fr by have:=uH HZ;rwa [decide_eq_true hd,Bool.true_and] at this);go_wp2;refine bodyPost_ret (v:=.tuple #[.int .i64 d,.bool fr]) (by simp [results,results103,go_sem,←uH HZ2]) rfl ⟨rfl,uH HB1⟩
 ·have HZ2:=aA (show false=fr by have:=uH HZ;rwa [decide_eq_false hd,Bool.false_and] at this);go_wp2;refine bodyPost_ret (v:=.tuple #[.int .i64 d,.bool fr]) (by simp [results,results103,go_sem,←uH HZ2]) rfl ⟨rfl,uH HB1⟩
end
section
open Go.RowKit
variable {l:List (TypeId×Nat×Option Addr×Nat)} {B sz:Nat} {ao:Option Addr} {t:TypeId} {w w':World}
theorem aBu (x:Sls) (s:St) (nd:List UInt8) (w:World) (h:bR w x.ca x.cl s.cs) (hl:x.cl≤1048576) :
  cP 126 #[sv x s,.string (bs nd)] w fun e w'=>∃v,e=.returned v∧yR w.heap.size w' v (aO (fun q=>decide (q.node=nd)) s.cs)∧Bw w w':=by
 obtain ⟨i0,hi,hz0,hz1,hz2⟩:=info_parts Tryz.infoR;obtain ⟨qa,ql,qc,aa,al,ac,ma,ml,mc,ca,cl,cc⟩:=x;obtain ⟨qs,cv,ez,ny,sj,aj,ms,cs⟩:=s;simp only at h hl ⊢;have HR:=aA h;have HL:=aA h.1;have HB0:=aA (jD w #[.slice qa ql qc,.int .i64 cv,.int .i64 ez,.int .i64 ny,.int .i64 sj,.slice aa al ac,.slice ma ml mc,.slice ca cl cc]);have P0:=aA (fQ w #[.slice qa ql qc,.int .i64 cv,.int .i64 ez,.int .i64 ny,.int .i64 sj,.slice aa al ac,.slice ma ml mc,.slice ca cl cc]);have HW:=aA (xP w #[.slice qa ql qc,.int .i64 cv,.int .i64 ez,.int .i64 ny,.int .i64 sj,.slice aa al ac,.slice ma ml mc,.slice ca cl cc]);have Xj:=aA (rX (rM w #[.slice qa ql qc,.int .i64 cv,.int .i64 ez,.int .i64 ny,.int .i64 sj,.slice aa al ac,.slice ma ml mc,.slice ca cl cc]));obtain ⟨c,hc⟩:∃c:Array Value,#[.slice qa ql qc,.int .i64 cv,.int .i64 ez,.int .i64 ny,.int .i64 sj,.slice aa al ac,.slice ma ml mc,.slice ca cl cc]=c:=⟨_,rfl⟩;rw [hc] at HB0 HW Xj;have P0:=aA (show Blk (rM w c) w.heap.size #[.slice qa ql qc,.int .i64 cv,.int .i64 ez,.int .i64 ny,.int .i64 sj,.slice aa al ac,.slice ma ml mc,.slice ca cl cc] 29 by rw [hc];exact fQ w c);have HC:=aA hc;clear h hc;go_enter func126,ntmps126;go_wp2;go_loopw [5,6] (fun v i wr=>∃(k:Nat),k≤cl∧i=.int .i64 k∧Hid (yR (rM w c).heap.size wr v (aO (fun q=>decide (q.node=nd)) (cs.take k)))∧Hid (Below (rM w c).heap.size (rM w c) wr)) (fun _ i _=>cl - (intOf i).toNat);case atStart=>obtain rfl:=uH HC;have h1:=uH HW;refine ⟨0,Nat.zero_le _,rfl,aA ?_,aA (yA (yH _ _) _)⟩;have:=uH Xj;rw [h1] at this;rw [h1];exact this
 case round=>
  obtain ⟨k,hk,rfl,HO,HB⟩:=hrel;have hn1:w.heap.size<(rM w c).heap.size:=by have:=uH HW;omega
  have p7:=Blk.at (show Blk wr w.heap.size _ 29 from ((uH HB).block _ hn1).trans (uH P0)) 7;simp at p7;by_cases hlt:k<cl
  ·obtain ⟨b,off,rfl,hq⟩:=(((uH HR).below (uH HB0)).below (uH HB)).at hlt;(have hkl:k<cs.length:=by have:=uH HL;omega);have hst:=oF (p:=fun q=>decide (q.node=nd)) hkl;obtain ⟨c0,c1,c2,c3,c4⟩:=hq hkl;obtain ⟨m,hs⟩:∃q,cs[k]=q:=⟨_,rfl⟩;rw [hs] at c0 c1 c2 c3 c4 hst;(have hal:(aO (fun q=>decide (q.node=nd)) (cs.take k)).length≤1048576:=by have:(aO (fun q:Con=>decide (q.node=nd)) (cs.take k)).length≤(cs.take k).length:=(by simp only [aO,List.length_map];exact List.length_filter_le _ _);simp at this;omega);obtain ⟨acc,Gx⟩:∃a,aO (fun q=>decide (q.node=nd)) (cs.take k)=a:=⟨_,rfl⟩;rw [Gx] at hst hal HO;obtain ⟨id,ap,no,me,cp⟩:=m;simp only at c0 c1 c2 c3 c4 hst;have hs2:(rM w c).heap.size≤wr.heap.size:=(uH HB).size;have Hq:wr.ownsRow (rM w c).heap.size 33 2 _ acc.length (iQ acc):=uH HO;have hbe:=l6 no nd;clear hq hs hkl Gx;by_cases hnd:no=nd
   ·rw [decide_eq_true hnd] at hbe hst;have HST:=aA (show aO (fun q=>decide (q.node=nd)) (cs.take (k+1))=acc++[(me,cp)] by have:=hst;rw [if_pos rfl] at this;exact this);clear hst hnd;(go_wp2_with (at_builtin;refine wpList_append_own _ rfl _ _ 114 rfl (rM w c).heap.size 33 i0 (.agg #[.int .i64 0,.int .i64 0]) 2 16 underlying114 hi hz0 hz1 hz2 rfl (by decide) _ _ _ rfl (Hq.alloc _) ⟨wr.heap.size,0,none⟩ 1 1 (y7 (me,cp)) rfl rfl ?c1 ?c2 ?c3 ?c4 ?c5 ?_));case c1=>
     intro j x hj
     match j,hj with
     | 0,hj=>simp at hj;subst hj;simp [Addr.add]
     | 1,hj=>simp at hj;subst hj;simp [Addr.add]
     | _+2,hj=>simp at hj
    (case c2=>intro x hx;simp at hx;rcases hx with rfl | rfl<;>rfl);(case c3=>unfold maxLen;omega);(case c4=>omega);(case c5=>simp at hs2 ⊢;omega);intro v' w3 Hy Hw _;have R:=lU (q:=(me,cp)) (uH HB) (uH HO) Hy Hw hs2;have HR3:=aA R;clear Hy Hw Hq c0 c1 c2 c3 c4 R p7;go_wp2;go_roundw;(case rel=>exact ⟨k+1,by omega,by go_num,aA (by rw [uH HST];exact (uH HR3).1),aA (uH HR3).2⟩);case measure=>simp [intOf];omega
   ·rw [decide_eq_false hnd] at hbe hst;have HST:=aA (show aO (fun q=>decide (q.node=nd)) (cs.take (k+1))=acc by have:=hst;rw [if_neg (by simp)] at this;exact this);clear hst hnd Hq;go_wp2;go_roundw;(case rel=>exact ⟨k+1,by omega,by go_num,aA (by rw [uH HST];exact uH HO),HB⟩);case measure=>simp [intOf];omega
  ·have htk:cs.take k=cs:=List.take_of_length_le (by have:=uH HL;omega);rw [htk] at HO;go_wp2;go_ret;exact ⟨_,rfl,(uH HO).base (by omega),yB (uH HB0) (uH HB)⟩
def RmL (B:Nat) (w:World) (l:List (TypeId×Nat×Option Addr×Nat)):Prop:=∀p ∈ l,dW B w.heap.size w p.1 p.2.1 p.2.2.1 p.2.2.2
theorem RmL.nil (B:Nat) (w:World):RmL B w []:=fun p hp=>absurd hp (by simp)
theorem RmL.cons {c:Nat} (h:dW B w.heap.size w t sz ao c) (hl:RmL B w l):RmL B w ((t,sz,ao,c)::l):=fun p hp=>by
 rcases List.mem_cons.1 hp with rfl | hp
 ·exact h
 ·exact hl p hp
theorem RmL.sub {l':List (TypeId×Nat×Option Addr×Nat)} (h:RmL B w l) (hs:∀p ∈ l',p ∈ l):RmL B w l':=fun p hp=>h p (hs p hp)
theorem RmL.below (h:RmL B w l) (hb:Bw w w'):RmL B w' l:=fun p hp=>((h p hp).below hb).mono (yJ _) hb.size
theorem mM {n:Nat} (h:dW B w.heap.size w t sz ao n) (k j:Nat) (v:Value):dW B (w.setCell ⟨k,j,none⟩ v).heap.size (w.setCell ⟨k,j,none⟩ v) t sz ao n:=(h.sc k j v).mono (yJ _) (by rw [bV];exact yJ _)
theorem RmL.sc (h:RmL B w l) (k j:Nat) (v:Value):RmL B (w.setCell ⟨k,j,none⟩ v) l:=fun p hp=>mM (h p hp) k j v
theorem RmL.grown {t':TypeId} {r:Option Nat} (h:RmL B w l) (hg:w.grownBy w' r) (hr:∀k,r=some k→∃N,Cel w t' k N) (ht:∀p ∈ l,t'≠p.1):RmL B w' l:=fun p hp=>by
 rcases h p hp with e | ⟨g,M,e,h1,h2,h3,h4⟩
 ·exact .inl e
 ·refine .inr ⟨g,M,e,h1,Nat.lt_of_lt_of_le h2 hg.size,h3.of_block (hg.block g h2 (fun e2=>?_)),h4⟩;obtain ⟨N,hc⟩:=hr g e2.symm;exact ht p hp (hc.type h3)
def RL4 (co:Option Addr) (cd:Nat) (mo:Option Addr) (md:Nat) (qo:Option Addr) (qd:Nat) (ns:List AV):List (TypeId×Nat×Option Addr×Nat):=(35,5,co,cd)::(103,4,mo,md)::(105,4,qo,qd)::ns.map (fun v=>(43,5,v.ao,v.cap))
theorem aHi (co:Option Addr) (cd:Nat) (mo:Option Addr) (md:Nat) (qo:Option Addr) (qd:Nat) (ns:List AV) (v:AV):∀p ∈ RL4 co cd mo md qo qd (ns++[v]),p ∈ (43,5,v.ao,v.cap)::RL4 co cd mo md qo qd ns:=fun p hp=>by
 simp only [RL4,List.map_append,List.map_cons,List.map_nil,List.mem_cons,List.mem_append,List.not_mem_nil,or_false] at hp ⊢;rcases hp with h | h | h | h | h<;>simp [h]
theorem aJH (co:Option Addr) (cd:Nat) (mo:Option Addr) (md:Nat) (qo:Option Addr) (qd:Nat) (ns:List AV):∀p ∈ RL4 co cd mo md qo qd ns,56≠p.1:=fun p hp=>by
 simp only [RL4,List.mem_cons,List.mem_map] at hp;rcases hp with rfl | rfl | rfl | ⟨v,_,rfl⟩<;>(simp only;decide)
theorem aIk {x:Sls} {hs:List AV} (h:RmL B w (RL4 x.ca x.cc x.ma x.mc x.qa x.qc hs)) (ha:dW B w.heap.size w 56 3 x.aa x.ac):RmS B w.heap.size w x hs:=
 ⟨h (105,4,x.qa,x.qc) (by simp [RL4]),ha,h (103,4,x.ma,x.mc) (by simp [RL4]),h (35,5,x.ca,x.cc) (by simp [RL4]),fun v hv=>h (43,5,v.ao,v.cap) (by simp only [RL4,List.mem_cons,List.mem_map];exact .inr (.inr (.inr ⟨v,hv,rfl⟩)))⟩
end
section
open Go.RowKit Go.Maps
def nV (s:St) (id:Int):dA×Bool:=match bB id s.apps with
 | none=>(⟨0,[],[]⟩,false)
 | some a=>(a,true)
theorem aDs {id:Int} (P:AV→dA→Prop) (hid:∀v a,P v a→v.id=a.id):∀(hs:List AV) (l:List dA),hs.length=l.length→(∀i (h:i<hs.length) (h':i<l.length),P hs[i] l[i])→
  (iV id hs=none∧bB id l=none)∨∃v a,iV id hs=some v∧bB id l=some a∧P v a∧a ∈ l
 | [],[],_,_=>.inl ⟨rfl,rfl⟩
 | v::t,a::r,h1,h2=>by
  have h0:=h2 0 (by simp) (by simp);simp only [List.getElem_cons_zero] at h0;by_cases e:a.id=id
  ·have e':v.id=id:=(hid _ _ h0).trans e;exact .inr ⟨v,a,by simp [iV,e'],by simp [bB,e],h0,by simp⟩
  ·(have e':¬v.id=id:=fun x=>e ((hid _ _ h0).symm.trans x));rcases aDs P hid t r (by simpa using h1) (fun i a b=>by have:=h2 (i+1) (by simpa using a) (by simpa using b);simpa using this) with ⟨x,y⟩ | ⟨v',a',x,y,z,m⟩
   ·exact .inl ⟨by simpa [iV,e'] using x,by simpa [bB,e] using y⟩
   ·exact .inr ⟨v',a',by simpa [iV,e'] using x,by simpa [bB,e] using y,z,List.mem_cons_of_mem _ m⟩
 | [],a::r,h1,_=>by simp at h1
 | v::t,[],h1,_=>by simp at h1
def aKl (w:World) (c:Array Value):World:=(w.alloc (.cells c 29)).alloc (.cells #[.int .i64 0,.string .empty,.slice none 0 0] 56)
theorem aHM (w:World) (c:Array Value):(aKl w c).heap.size=w.heap.size+1+1:=by simp only [aKl,yE]
theorem aFW (w:World) (c:Array Value):Bw w (aKl w c):=yA (yA (yH _ w) _) _
theorem aI5 (w:World) (c:Array Value):Blk (aKl w c) (w.heap.size+1) #[.int .i64 0,.string .empty,.slice none 0 0] 56:=by
 have:=yD (w.alloc (.cells c 29)) #[.int .i64 0,.string .empty,.slice none 0 0] 56;rwa [yE] at this
theorem aAw (x:Sls) (s:St) (id:Int) (w:World) (h:gW w x s) (hf:dB s) (hw:∀a ∈ s.apps,(Lit.int .i64 a.id).wf=true) (hi:(Lit.int .i64 id).wf=true) :
  cP 23 #[sv x s,.int .i64 id] w fun e w'=>∃v,e=.returned (.tuple #[.agg #[.int .i64 (nV s id).1.id,.string (bs (nV s id).1.queue),v],.bool (nV s id).2])∧Hid (rQ w.heap.size w' v (nV s id).1.asks∧Bw w w'):=by
 have hal:x.al≤1048576:=by have:=h.len.2.1;have:=hf.2.1.1;omega
 obtain ⟨hs,QN,hh⟩:=h.2.1.heads;have hwf:∀v ∈ hs,(Lit.int .i64 v.id).wf=true:=fun v hv=>by
  obtain ⟨i,hi,rfl⟩:=List.mem_iff_getElem.1 hv;have hi':i<s.apps.length:=by rw [←hh.1];exact hi
  rw [(hh.2 i hi hi').1];exact hw _ (yM _)
 have CM:=aA (fun wx (hb:Bw w wx)=>aD1 x s hs wx (QN.below hb) hal hwf);obtain ⟨kl,gy⟩:=xC (nm:=[]) (k:=id) (by decide) hi;have Gv:=aA gy;have MF:=aDs (id:=id) (fun v a=>v.id=a.id∧v.queue=a.queue∧bE w v.ao v.len a.asks∧v.len≤v.cap) (fun v a h=>h.1) hs s.apps hh.1 hh.2;have FO:=aA MF;have QJ:=aA hf.2.1;have WG:=aA (show nV s id=match bB id s.apps with | none=>(⟨0,[],[]⟩,false) | some a=>(a,true) from rfl);obtain ⟨⟨⟨ai,aq,aas⟩,fo⟩,hap⟩:∃r,nV s id=r:=⟨_,rfl⟩;rw [hap] at WG ⊢;clear h hf hw hi QN hh hwf gy MF hap;obtain ⟨qa,ql,qc,aa,al,ac,ma,ml,mc,ca,cl,cc⟩:=x;obtain ⟨qs,cv,ez,ny,sj,aj,ms,cs⟩:=s;simp only at CM FO QJ WG hal ⊢;have HB0:=aA (aFW w (svc ⟨qa,ql,qc,aa,al,ac,ma,ml,mc,ca,cl,cc⟩ ⟨qs,cv,ez,ny,sj,aj,ms,cs⟩));have V0:=aA (aI5 w (svc ⟨qa,ql,qc,aa,al,ac,ma,ml,mc,ca,cl,cc⟩ ⟨qs,cv,ez,ny,sj,aj,ms,cs⟩));go_enter func23,ntmps23;go_wp2_with fail;refine (uH CM _ (uH HB0)).mono ?_;rintro e w1 ⟨bm,rfl,⟨ZU,D,Hq,hk⟩,hb⟩;have HB1:=aA (yB (uH HB0) hb);have V1:=aA ((uH V0).below hb);obtain ⟨v,hlk,hv1,hv2⟩:=aKQ Hq hk (uH Gv);rcases uH FO with ⟨hf1,hf2⟩ | ⟨u,a,hf1,hf2,⟨hu1,hu2,hu3,Rz⟩,zk⟩
 ·obtain rfl:=hv2 hf1;rw [hf1] at hlk;rw [hf2] at WG;have hz:=uH WG;simp only [Prod.mk.injEq,dA.mk.injEq] at hz;obtain ⟨⟨rfl,rfl,rfl⟩,rfl⟩:=hz;have hl2:(Instr.lookup 121 (.map (some bm)) (.agg #[.string { data:=#[] },.int .i64 id]) true).run Tryz.prog w1=.ok (.tuple #[.agg #[.int .i64 0,.string { data:=#[] },.slice none 0 0],.bool false]) w1:=hlk;have hl3:(Instr.lookup 121 (.map (some bm)) (.agg #[.string .empty,.int .i64 id]) true).run Tryz.prog w1=.ok (.tuple #[.agg #[.int .i64 0,.string { data:=#[] },.slice none 0 0],.bool false]) w1:=hlk;have V2:=(uH V1).al (.cells #[.int .i64 0,.string { data:=#[] },.slice none 0 0] 56);have GR:=aA V2;have t0:=V2.at 0;have t1:=V2.at 1;have t2:=V2.at 2;have tf0:=V2.f 0;have tf1:=V2.f 1;have tf2:=V2.f 2;simp at t0 t1 t2;clear hlk hv1 hv2 hf1 hf2 Hq hk hb V2 FO;go_wp2;have X1:=(((uH GR).set 0 (.int .i64 0)).set 1 (.string { data:=#[] })).set 2 (.slice none 0 0);have x0:=X1.at 0;have x1:=X1.at 1;have x2:=X1.at 2;simp at x0 x1 x2;refine bodyPost_ret (v:=.tuple #[.agg #[.int .i64 0,.string { data:=#[] },.slice none 0 0],.bool false]) (by simp [results,results23,go_sem,x0,x1,x2]) rfl ⟨_,rfl,aA ⟨aEP _ _,?_⟩⟩;exact yC (yC (yC (yA (uH HB1) _) _ _ _ (by omega)) _ _ _ (by omega)) _ _ _ (by omega)
 ·have hvu:=hv1 u hf1 rfl;subst hvu;rw [hf1] at hlk;rw [hf2] at WG;have hz:=uH WG;simp only [Prod.mk.injEq] at hz;obtain ⟨hza,rfl⟩:=hz;subst hza;obtain ⟨ui,uq,uo,ul,uc⟩:=v;simp only at hu1 hu2 hu3 Rz;subst hu1 hu2;have hfa:=(uH QJ).2 _ zk;have fw:ul≤1048576:=by have h1:=hu3.1;have h2:=hfa.2.1;simp only at h2;omega
  have CO:=aA (fun wx (hb:Bw w wx)=>rE ui uq uo ul uc aas wx (hu3.below hb) fw hfa.1 hfa.2.2);have hl2:(Instr.lookup 121 (.map (some bm)) (.agg #[.string { data:=#[] },.int .i64 id]) true).run Tryz.prog w1=.ok (.tuple #[.agg #[.int .i64 ui,.string (bs uq),.slice uo ul uc],.bool true]) w1:=hlk;have hl3:(Instr.lookup 121 (.map (some bm)) (.agg #[.string .empty,.int .i64 id]) true).run Tryz.prog w1=.ok (.tuple #[.agg #[.int .i64 ui,.string (bs uq),.slice uo ul uc],.bool true]) w1:=hlk;have HB2:=aA (yA (uH HB1) (.cells #[.int .i64 ui,.string (bs uq),.slice uo ul uc] 56));have V2:=aA ((uH V1).al (.cells #[.int .i64 ui,.string (bs uq),.slice uo ul uc] 56));have hs1:w.heap.size+1+1≤w1.heap.size:=by have:=hb.size;rw [aHM] at this;exact this
  clear hlk hv1 hv2 hf1 hf2 Hq hk hb FO hu3 Rz zk hfa WG HB1 V1 HB0 V0 CM QJ;go_wp2_with fail;refine (uH CO _ (uH HB2)).mono ?_;rintro e w2 ⟨v,rfl,ho,hb⟩;have HO:=aA (ho.base (B':=w.heap.size+2) (by rw [yE];omega));have QO:=aA ((uH V2).below hb);have HB3:=aA (yB (uH HB2) hb);obtain ⟨xo,xc,rfl,_⟩:=ho.row;obtain ⟨n,hnn⟩:∃n,aas.length=n:=⟨_,rfl⟩;rw [hnn] at HO ⊢;clear ho hb hnn CO HB2 V2 hl2 hl3;have t0:=(uH QO).at 0;have t1:=(uH QO).at 1;have t2:=(uH QO).at 2;have tf0:=(uH QO).f 0;have tf1:=(uH QO).f 1;have tf2:=(uH QO).f 2;simp at t0 t1 t2;go_wp2;have X1:=(((uH QO).set 0 (.int .i64 ui)).set 1 (.string (bs uq))).set 2 (.slice xo n xc);have x0:=X1.at 0;have x1:=X1.at 1;have x2:=X1.at 2;simp at x0 x1 x2;refine bodyPost_ret (v:=.tuple #[.agg #[.int .i64 ui,.string (bs uq),.slice xo n xc],.bool true]) (by simp [results,results23,go_sem,x0,x1,x2]) rfl ⟨_,rfl,aA ⟨?_,?_⟩⟩
  ·exact ((((uH HO).other3 (w.heap.size+1) 0 (.int .i64 ui) (by omega)).other3 (w.heap.size+1) 1 (.string (bs uq)) (by omega)).other3 (w.heap.size+1) 2 (.slice xo n xc) (by omega)).base (by omega)
  ·exact yC (yC (yC (uH HB3) _ _ _ (by omega)) _ _ _ (by omega)) _ _ _ (by omega)
theorem zK (x:Sls) (s:St) (nm:List UInt8) (w:World) (h:gW w x s) (hf:dB s) (hnm:nm.length≤1048576) :
    cP 162 #[sv x s,.string (bs nm)] w fun e w'=>e=.returned (rv (dI s nm).1 (dI s nm).2)∧Bw w w':=by
  have GN:x.ml≤1048576:=by have:=h.len.2.2.1;have:=hf.2.2.1.1;omega
  have hcl:x.cl≤1048576:=by have:=h.len.2.2.2;have:=hf.2.2.2.1;omega
  have CM:=aA (fun wx (hb:Bw w wx)=>pV x s wx (h.2.2.1.below hb) GN (fun m hm=>hf.2.2.1.2 m hm));have CU:=aA (fun wx (hb:Bw w wx)=>zJ x s nm wx (h.2.2.2.below hb) hcl);obtain ⟨kl,gy⟩:=xC (nm:=nm) (k:=0) (by omega) (by decide);have Gv:=aA gy;have QX:=aA (show dI s nm=match bL nm s.ms with | none=>(0,0) | some m=>aBq m.mem m.cpu (gQ s nm).1 (gQ s nm).2 from rfl);obtain ⟨⟨ux,uy⟩,hu⟩:∃u,gQ s nm=u:=⟨_,rfl⟩;obtain ⟨⟨fx,fy⟩,hfr⟩:∃u,dI s nm=u:=⟨_,rfl⟩;rw [hu] at CU QX;rw [hfr] at QX ⊢;clear h hf hu hfr gy;obtain ⟨qa,ql,qc,aa,al,ac,ma,ml,mc,ca,cl,cc⟩:=x;obtain ⟨qs,cv,ez,ny,sj,aj,ms,cs⟩:=s;simp only at QX;have HB0:=aA (dG w (svc ⟨qa,ql,qc,aa,al,ac,ma,ml,mc,ca,cl,cc⟩ ⟨qs,cv,ez,ny,sj,aj,ms,cs⟩));have V0:=aA (iY w (svc ⟨qa,ql,qc,aa,al,ac,ma,ml,mc,ca,cl,cc⟩ ⟨qs,cv,ez,ny,sj,aj,ms,cs⟩));have P0:=aA ((fQ w (svc ⟨qa,ql,qc,aa,al,ac,ma,ml,mc,ca,cl,cc⟩ ⟨qs,cv,ez,ny,sj,aj,ms,cs⟩)).al (.cells #[.int .i64 0,.int .i64 0] 33));go_enter func162,ntmps162;go_wp2_with fail;refine (uH CM _ (uH HB0)).mono ?_;rintro e w1 ⟨bm,rfl,⟨ZU,D,Hq,hk⟩,hb⟩;have hlk:=aJW Hq hk (uH Gv);have HB1:=aA (yB (uH HB0) hb);have V1:=aA ((uH V0).below hb);have P1:=aA ((uH P0).below hb);clear hb HB0 V0 P0 CM Hq hk ZU;cases hfm:bL nm ms with
  | none=>rw [hfm] at hlk QX;simp only at QX;have hz:=uH QX;simp only [Prod.mk.injEq] at hz;obtain ⟨rfl,rfl⟩:=hz;rw [show (none:Option Mac).getD ⟨[],0,0,0⟩=⟨[],0,0,0⟩ from rfl,show (none:Option Mac).isSome=false from rfl] at hlk;have V2:=(uH V1).al (uD ⟨[],0,0,0⟩);have t0:=V2.c0;have t1:=V2.c1;have f0:=V2.f 0;have f1:=V2.f 1;have k4:=V2.s0 (.int .i64 0);have k5:=V2.s1 (.int .i64 0) (.int .i64 0);clear V2;go_wp2;refine bodyPost_ret (v:=rv 0 0) (by simp [results,results162,go_sem,k4,k5]) rfl ⟨rfl,?_⟩;repeat (first | exact uH HB1 | refine yA ?_ _ | refine yC ?_ _ _ _ (by omega))
  | some m=>
    rw [hfm] at hlk QX;rw [show (some m).getD ⟨[],0,0,0⟩=m from rfl,show (some m).isSome=true from rfl] at hlk;obtain ⟨mn,me,mp,se⟩:=m;simp only at QX;have BC:=aA (show jY (-1) me mp ux uy=rv fx fy by rw [aBp,←uH QX]);have CB:=aA (fun wx=>by have:=p9 me mp ux uy wx;rw [uH BC] at this;exact this);obtain ⟨ok,hok⟩:∃o,aN (-1) me mp ux uy=o:=⟨_,rfl⟩;rw [hok] at CB;clear hok BC QX hfm;obtain ⟨L,R,VR,h0⟩:∃L:List (Nat×Array Value×TypeId),(∀wx,aId w (w1.heap.size+1) L wx→wx.cell? ⟨w1.heap.size,1,none⟩=some (.int .i64 me)∧wx.cell? ⟨w1.heap.size,2,none⟩=some (.int .i64 mp)∧wx.cell? ⟨w.heap.size,0,none⟩=some (.slice qa ql qc)∧wx.cell? ⟨w.heap.size,1,none⟩=some (.int .i64 cv)∧wx.cell? ⟨w.heap.size,2,none⟩=some (.int .i64 ez)∧wx.cell? ⟨w.heap.size,3,none⟩=some (.int .i64 ny)∧wx.cell? ⟨w.heap.size,4,none⟩=some (.int .i64 sj)∧wx.cell? ⟨w.heap.size,5,none⟩=some (.slice aa al ac)∧wx.cell? ⟨w.heap.size,6,none⟩=some (.slice ma ml mc)∧wx.cell? ⟨w.heap.size,7,none⟩=some (.slice ca cl cc))
        ∧(∀wx,aId w (w1.heap.size+1) L wx→Var wx 33 (w.heap.size+1) 0 0)∧aId w (w1.heap.size+1) L (w1.alloc (uD ⟨mn,me,mp,se⟩)):=by
      have l1:=(uH V1).lt;have l2:=(uH P1).lt;refine ⟨[(w.heap.size,svc ⟨qa,ql,qc,aa,al,ac,ma,ml,mc,ca,cl,cc⟩ ⟨qs,cv,ez,ny,sj,aj,ms,cs⟩,29),(w.heap.size+1,#[.int .i64 0,.int .i64 0],33),(w1.heap.size,#[.string (bs mn),.int .i64 me,.int .i64 mp,.int .i64 se],103)],fun wx h=>?_,fun wx h=>?_,?_⟩
      · have a:=h.blk (p:=(w.heap.size,svc ⟨qa,ql,qc,aa,al,ac,ma,ml,mc,ca,cl,cc⟩ ⟨qs,cv,ez,ny,sj,aj,ms,cs⟩,29)) (by simp);have b:=h.blk (p:=(w1.heap.size,#[.string (bs mn),.int .i64 me,.int .i64 mp,.int .i64 se],103)) (by simp);exact ⟨b.at 1,b.at 2,a.at 0,a.at 1,a.at 2,a.at 3,a.at 4,a.at 5,a.at 6,a.at 7⟩
      · exact (h.blk (p:=(w.heap.size+1,#[.int .i64 0,.int .i64 0],33)) (by simp)).var
      · refine ⟨fun p hp=>?_,by rw [yE];omega,by omega,yA (uH HB1) _⟩;simp only [List.mem_cons,List.not_mem_nil,or_false] at hp;rcases hp with rfl | rfl | rfl
        · exact ⟨by simp only;omega,(uH P1).al _⟩
        · exact ⟨by simp only;omega,(uH V1).blk.al _⟩
        · exact ⟨by simp only;omega,yD _ _ _⟩
    have A0:=aA h0;have HS:=aA (aFC w (w1.heap.size+1) L);clear h0;(go_wp2_with fail);(go_cut [7,8] from 20 to 28 (fun v7 v8 wx=>∃g,v7=.pointer (some ⟨g,0,none⟩)∧v8=.bool ok∧aId w (w1.heap.size+1) L wx∧Var wx 33 g fx fy∧w1.heap.size+1≤g));case first=>
      go_region_held3 (fun wx=>aId w (w1.heap.size+1) L wx)
        (first | (with_reducible assumption) | exact uH SA | exact (uH HS).drew (uH A0) | exact (uH HS).al (uH SA) _ | exact (uH HS).al (by assumption) _ | exact (uH HS).al ((uH HS).drew (uH A0)) _ | exact (uH HS).call (by assumption) (by assumption) | exact (uH HS).set2 (uH SA) _ _ _ (by first | omega | (simp<;>omega)) | exact (uH HS).set2 (by assumption) _ _ _ (by first | omega | (simp<;>omega)))
        (first
        | (go_at_call 210;refine (uH CU _ ?_).mono ?_;(exact (uH HS).below (by assumption));rintro e wt ⟨rfl,hb⟩;have SA:=aA ((uH HS).call (by assumption) hb);have sz:=(uH HS).size (uH SA)
           first
             | (have V5:=(aM _ 33 0 0).below hb;(try simp at V5);have c50:=V5.c0;have c51:=V5.c1;have f50:=V5.f 0;have f51:=V5.f 1;have V5:=aA V5)
             | (have V5:=(aM _ 33 0 0).drew.below hb;(try simp at V5);have c50:=V5.c0;have c51:=V5.c1;have f50:=V5.f 0;have f51:=V5.f 1;have V5:=aA V5)
             | skip)
        | (go_at_call 142;refine (uH CB _).mono ?_;rintro e wt ⟨rfl,hb⟩;have SA:=aA ((uH HS).call (by assumption) hb);have sz:=(uH HS).size (uH SA)
           first
             | (have V5:=(aM _ 33 0 0).below hb;(try simp at V5);have c50:=V5.c0;have c51:=V5.c1;have f50:=V5.f 0;have f51:=V5.f 1;have V5:=aA V5)
             | (have V5:=(aM _ 33 0 0).drew.below hb;(try simp at V5);have c50:=V5.c0;have c51:=V5.c1;have f50:=V5.f 0;have f51:=V5.f 1;have V5:=aA V5)
             | (have V5:=aA ((uH V5).below hb);have c50:=(uH V5).c0;have c51:=(uH V5).c1;have f50:=(uH V5).f 0;have f51:=(uH V5).f 1)
             | skip))
      all_goals
        (go_wp2_with fail);go_meet;exact ⟨_,rfl,rfl,by first | assumption | exact uH SA | exact (uH HS).al (uH SA) _,by first | exact aM _ _ _ _ | exact (uH V5).set _ _,by first | omega | (simp<;>omega)⟩
    case rest=>obtain ⟨g,rfl,rfl,hA,hV,hg⟩:=hcut;have HB2:=aA ((uH HS).below hA);have v0:=hV.c0;have v1:=hV.c1;have V2:=VR _ hA;have t0:=V2.c0;have t1:=V2.c1;have f0:=V2.f 0;have f1:=V2.f 1;have k4:=V2.s0 (.int .i64 fx);have k5:=V2.s1 (.int .i64 fx) (.int .i64 fy);clear hA hV A0 CB CU R VR V2 V1 P1 HB1;go_wp2;refine bodyPost_ret (v:=rv fx fy) (by simp [results,results162,go_sem,k4,k5]) rfl ⟨rfl,?_⟩;repeat (first | exact uH HB2 | refine yA ?_ _ | refine yC ?_ _ _ _ (by omega))
end
section
open Go.RowKit
theorem yU (x:Sls) (s:St) (nd:List UInt8) (w:World) (h:bR w x.ca x.cl s.cs) (hl:x.cl≤1048576) :
  cP 145 #[sv x s,.string (bs nd)] w fun e w'=>e=.returned (rv (iC (aO (fun q=>decide (q.node=nd)) s.cs)).1 (iC (aO (fun q=>decide (q.node=nd)) s.cs)).2.1)∧Bw w w':=by
 have hlc:(aO (fun q=>decide (q.node=nd)) s.cs).length≤1048576:=by have:=h.1;have:(aO (fun q:Con=>decide (q.node=nd)) s.cs).length≤s.cs.length:=(by simp only [aO,List.length_map];exact List.length_filter_le _ _);omega
 have HR:=aA h;clear h;obtain ⟨⟨sx,sy,so⟩,hs⟩:∃y,iC (aO (fun q=>decide (q.node=nd)) s.cs)=y:=⟨_,rfl⟩;have CC:=aA (fun wx (hb:Bw w wx)=>aBu x s nd wx ((uH HR).below hb) hl);have CS:=aA (fun ao cap wx (h:aF2 wx ao (aO (fun q=>decide (q.node=nd)) s.cs).length (aO (fun q=>decide (q.node=nd)) s.cs))=>by have:=lZ ao _ cap (aO (fun q=>decide (q.node=nd)) s.cs) wx h hlc;rw [hs] at this;exact this);rw [hs];clear hs;obtain ⟨qa,ql,qc,aa,al,ac,ma,ml,mc,ca,cl,cc⟩:=x;obtain ⟨qs,cv,ez,ny,sj,aj,ms,cs⟩:=s;simp only at CC CS hlc;go_enter func145,ntmps145;go_wp2_with fail;refine (uH CC _ (dG w _)).mono ?_;rintro e w1 ⟨v,rfl,ho,hb⟩;obtain ⟨ao,cp,rfl,Hz,_⟩:=ho.row;have V1:=(iY w _).below hb;have GM:=aA V1;have HB1:=aA (yB (dG w _) hb);have GU:=aA Hz;obtain ⟨n,hn⟩:∃n,(aO (fun q=>decide (q.node=nd)) cs).length=n:=⟨_,rfl⟩;rw [hn] at CS GU ⊢;clear hb V1 CC ho Hz hn hlc;go_wp2_with fail;refine (uH CS _ _ _ (uH GU)).mono ?_;rintro e w2 ⟨rfl,hb⟩;have V1:=(uH GM).below hb;have HB2:=aA (yB (uH HB1) hb);have V2:=V1.al (.cells #[.int .i64 sx,.int .i64 sy] 33);have t0:=V2.c0;have t1:=V2.c1;have f0:=V2.f 0;have f1:=V2.f 1;have VG:=V2.set sx sy;have k6:=VG.c0;have k7:=VG.c1;clear hb V1 V2 VG CS GM HB1 GU;go_wp2;refine bodyPost_ret (v:=rv sx sy) (by simp [results,results145,go_sem,k6,k7]) rfl ⟨rfl,?_⟩;repeat (first | exact uH HB2 | refine yA ?_ _ | refine yC ?_ _ _ _ (by omega))
theorem gW.cl {w:World} {x:Sls} {s:St} (h:gW w x s) (hf:dB s):x.cl≤1048576:=by have:=h.len.2.2.2;have:=hf.2.2.2.1;omega
theorem aBX (x:Sls) (s:St) (nd:List UInt8) (w:World) (h:bR w x.ca x.cl s.cs) (hl:x.cl≤1048576) :
  cP 145 #[sv x s,.string (bs nd)] w fun e w'=>e=.returned (rv (gQ s nd).1 (gQ s nd).2)∧Bw w w':=yU x s nd w h hl
end
section
open Go.RowKit Go.Maps
theorem kZ (x:Sls) (s:St) (nm:List UInt8) (w:World) (h:gW w x s) (hf:dB s) :
    cP 84 #[sv x s,.string (bs nm)] w fun e w'=>e=.returned (rv (dI s nm).1 (dI s nm).2)∧Bw w w':=by
  have GN:x.ml≤1048576:=by have:=h.len.2.2.1;have:=hf.2.2.1.1;omega
  have hcl:x.cl≤1048576:=by have:=h.len.2.2.2;have:=hf.2.2.2.1;omega
  have CM:=aA (fun wx (hb:Bw w wx)=>lF x s nm wx (h.2.2.1.below hb) GN);have CU:=aA (fun wx (hb:Bw w wx)=>aBX x s nm wx (h.2.2.2.below hb) hcl);have QX:=aA (show dI s nm=match bL nm s.ms with | none=>(0,0) | some m=>aBq m.mem m.cpu (gQ s nm).1 (gQ s nm).2 from rfl);have Sv:=aA (fun wx (hb:Bw w wx)=>h.2.2.1.below hb);have FT:=aA h.2.2.1.1;have hat:=sN nm s.ms;obtain ⟨⟨ux,uy⟩,hu⟩:∃u,gQ s nm=u:=⟨_,rfl⟩;obtain ⟨⟨fx,fy⟩,hfr⟩:∃u,dI s nm=u:=⟨_,rfl⟩;obtain ⟨at0,ha⟩:∃p,zG s.ms nm=p:=⟨_,rfl⟩;rw [hu] at CU QX;rw [hfr] at QX ⊢;rw [ha] at CM hat;clear h hf hu hfr ha;obtain ⟨qa,ql,qc,aa,al,ac,ma,ml,mc,ca,cl,cc⟩:=x;obtain ⟨qs,cv,ez,ny,sj,aj,ms,cs⟩:=s;simp only at QX Sv FT hat;have HB0:=aA (dG w (svc ⟨qa,ql,qc,aa,al,ac,ma,ml,mc,ca,cl,cc⟩ ⟨qs,cv,ez,ny,sj,aj,ms,cs⟩));have V0:=aA (iY w (svc ⟨qa,ql,qc,aa,al,ac,ma,ml,mc,ca,cl,cc⟩ ⟨qs,cv,ez,ny,sj,aj,ms,cs⟩));have P0:=aA ((fQ w (svc ⟨qa,ql,qc,aa,al,ac,ma,ml,mc,ca,cl,cc⟩ ⟨qs,cv,ez,ny,sj,aj,ms,cs⟩)).al (.cells #[.int .i64 0,.int .i64 0] 33));go_enter func84,ntmps84;go_wp2_with fail;refine (uH CM _ (uH HB0)).mono ?_;rintro e w1 ⟨rfl,hb⟩;have HB1:=aA (yB (uH HB0) hb);have V1:=aA ((uH V0).below hb);have P1:=aA ((uH P0).below hb);clear hb HB0 V0 P0 CM;rcases hat with ⟨hfm,rfl⟩ | ⟨j,hj,hfm,rfl⟩
  · rw [hfm] at QX;simp only at QX;have hz:=uH QX;simp only [Prod.mk.injEq] at hz;obtain ⟨rfl,rfl⟩:=hz;have V2:=uH V1;have t0:=V2.c0;have t1:=V2.c1;have f0:=V2.f 0;have f1:=V2.f 1;have k4:=V2.s0 (.int .i64 0);have k5:=V2.s1 (.int .i64 0) (.int .i64 0);clear V2;go_wp2;refine bodyPost_ret (v:=rv 0 0) (by simp [results,results84,go_sem,k4,k5]) rfl ⟨rfl,?_⟩;repeat (first | exact uH HB1 | refine yA ?_ _ | refine yC ?_ _ _ _ (by omega))
  · rw [hfm] at QX;(have hjl:j<ml:=by have:=uH FT;omega);obtain ⟨mb,mo,rfl,hq⟩:=(uH Sv _ (uH HB1)).at hjl;have HQ:=aA (hq hj);obtain ⟨⟨mn,me,mp,se⟩,hs⟩:∃m,ms[j]=m:=⟨_,rfl⟩;rw [hs] at HQ QX;simp only at QX;have BC:=aA (show jY (-1) me mp ux uy=rv fx fy by rw [aBp,←uH QX]);have CB:=aA (fun wx=>by have:=aCh me mp ux uy wx;rw [uH BC] at this;exact this);obtain ⟨ok,hok⟩:∃o,aN (-1) me mp ux uy=o:=⟨_,rfl⟩;rw [hok] at CB;(have j0:(0:Int)≤j:=by omega);(have j1:(j:Int)<ml:=by omega);clear hok BC QX hfm hq hs hj;have R:∀wx,Kp w1 wx→wx.cell? ⟨w.heap.size,0,none⟩=some (.slice qa ql qc)∧wx.cell? ⟨w.heap.size,1,none⟩=some (.int .i64 cv)∧wx.cell? ⟨w.heap.size,2,none⟩=some (.int .i64 ez)∧wx.cell? ⟨w.heap.size,3,none⟩=some (.int .i64 ny)∧wx.cell? ⟨w.heap.size,4,none⟩=some (.int .i64 sj)∧wx.cell? ⟨w.heap.size,5,none⟩=some (.slice aa al ac)∧wx.cell? ⟨w.heap.size,6,none⟩=some (.slice (some ⟨mb,mo,none⟩) ml mc)∧wx.cell? ⟨w.heap.size,7,none⟩=some (.slice ca cl cc)∧wx.cell? ⟨mb,mo+j*4+1,none⟩=some (.int .i64 me)∧wx.cell? ⟨mb,mo+j*4+2,none⟩=some (.int .i64 mp):=fun wx h=>
      ⟨h.cell ((uH P1).at 0),h.cell ((uH P1).at 1),h.cell ((uH P1).at 2),h.cell ((uH P1).at 3),h.cell ((uH P1).at 4),h.cell ((uH P1).at 5),h.cell ((uH P1).at 6),h.cell ((uH P1).at 7),h.cell (uH HQ).2.1,h.cell (uH HQ).2.2.1⟩
    have A0:=aA (Kp.new w1);have HS:=aA (aL w1);have hw1:=(uH V1).lt;(go_wp2_with fail);(go_cut [6,7] from 14 to 26 (fun v7 v8 wx=>∃g,v7=.pointer (some ⟨g,0,none⟩)∧v8=.bool ok∧Kp w1 wx∧Var wx 33 g fx fy∧w1.heap.size≤g));case first=>
      go_region_held3 (fun wx=>Kp w1 wx)
        (first | (with_reducible assumption) | exact uH SA | exact (uH HS).drew (uH A0) | exact (uH HS).al (uH SA) _ | exact (uH HS).al (by assumption) _ | exact (uH HS).al ((uH HS).drew (uH A0)) _ | exact (uH HS).call (by assumption) (by assumption) | exact (uH HS).set2 (uH SA) _ _ _ (by first | omega | (simp<;>omega)) | exact (uH HS).set2 (by assumption) _ _ _ (by first | omega | (simp<;>omega)))
        (first
        | (go_at_call 145;refine (uH CU _ ?_).mono ?_;(exact yB (uH HB1) ((uH HS).below (by assumption)));rintro e wt ⟨rfl,hb⟩;have SA:=aA ((uH HS).call (by assumption) hb);have sz:=(uH HS).size (uH SA)
           first
             | (have V5:=(aM _ 33 0 0).below hb;(try simp at V5);have c50:=V5.c0;have c51:=V5.c1;have f50:=V5.f 0;have f51:=V5.f 1;have V5:=aA V5)
             | (have V5:=(aM _ 33 0 0).drew.below hb;(try simp at V5);have c50:=V5.c0;have c51:=V5.c1;have f50:=V5.f 0;have f51:=V5.f 1;have V5:=aA V5)
             | skip)
        | (go_at_call 144;refine (uH CB _).mono ?_;rintro e wt ⟨rfl,hb⟩;have SA:=aA ((uH HS).call (by assumption) hb);have sz:=(uH HS).size (uH SA)
           first
             | (have V5:=(aM _ 33 0 0).below hb;(try simp at V5);have c50:=V5.c0;have c51:=V5.c1;have f50:=V5.f 0;have f51:=V5.f 1;have V5:=aA V5)
             | (have V5:=(aM _ 33 0 0).drew.below hb;(try simp at V5);have c50:=V5.c0;have c51:=V5.c1;have f50:=V5.f 0;have f51:=V5.f 1;have V5:=aA V5)
             | (have V5:=aA ((uH V5).below hb);have c50:=(uH V5).c0;have c51:=(uH V5).c1;have f50:=(uH V5).f 0;have f51:=(uH V5).f 1)
             | skip))
      all_goals
        (go_wp2_with fail);go_meet;exact ⟨_,rfl,rfl,by first | assumption | exact uH SA | exact (uH HS).al (uH SA) _,by first | exact aM _ _ _ _ | exact (uH V5).set _ _,by first | omega | (simp<;>omega)⟩
    case rest=>obtain ⟨g,rfl,rfl,hA,hV,hg⟩:=hcut;have HB2:=aA (yB (uH HB1) hA);have v0:=hV.c0;have v1:=hV.c1;have V2:=(uH V1).below hA;have t0:=V2.c0;have t1:=V2.c1;have f0:=V2.f 0;have f1:=V2.f 1;have k4:=V2.s0 (.int .i64 fx);have k5:=V2.s1 (.int .i64 fx) (.int .i64 fy);clear hA hV A0 CB CU R V2 V1 P1 HB1;go_wp2;refine bodyPost_ret (v:=rv fx fy) (by simp [results,results84,go_sem,k4,k5]) rfl ⟨rfl,?_⟩;repeat (first | exact uH HB2 | refine yA ?_ _ | refine yC ?_ _ _ _ (by omega))
end
end Go.Proofs.YtfndhndlkcijoaaGreat
