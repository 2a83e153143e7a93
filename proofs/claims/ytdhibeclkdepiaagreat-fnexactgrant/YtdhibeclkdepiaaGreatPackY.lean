/-
  bI in one: PathI, FreeOnI.
-/
import Derived.Test.YtdhibeclkdepiaaGreatPackT
import Derived.Test.YtdhibeclkdepiaaGreatPackV
set_option maxRecDepth 100000
set_option maxHeartbeats 16000000
set_option linter.unusedVariables false
set_option linter.unusedSimpArgs false
namespace Go.Proofs.YtdhibeclkdepiaaGreat
section
open Go.RowKit Go.Shelf
attribute [local go_sem] Oper.semAt_some
theorem aBs (ao:Option Addr) (len cap:Nat) (l:List Q) (nm:List UInt8) (w:World) (h:gM w ao len l) (hl:len≤1048576) (hn:∀q ∈ l,q.name.length≤1048576) (hc:len≤cap) :
  Calls Tryz.prog 173 #[.slice ao len cap,.string (bs nm)] w fun e w'=>∃v,e=.returned v∧bI w.heap.size w' v (path l nm)∧Below w.heap.size w w':=by
 obtain ⟨i0,hi,hz0,hz1,hz2⟩:=info_parts Tryz.infoS
 have HR:=aA h
 have HL:=aA h.1
 have CQ:=aA (dX ao len cap l w h hl hn hc)
 have HN:=aA hn
 have HP:=aA (fun ho:aG l=true=>aAD ho nm)
 have HZ:=aA (show aG l=false→path l nm=[] by intro e;rw [path,e];rfl)
 obtain ⟨o,ho⟩:∃o,aG l=o:=⟨_,rfl⟩
 rw [ho] at CQ HP HZ
 clear ho hn h
 have hmx:Tryz.prog.follows .mixedOrders=true:=by kernel_rfl
 refine (callsIn_wide (n:=3)).1 ?_
 refine callsIn_of_wp_marks Tryz.func173 rfl trivial ?_ rfl
 simp only [Tryz.ntmps173,List.size_toArray,List.length_cons,List.length_nil,Nat.reduceAdd,Nat.reduceSub,Array.replicate_succ,Array.replicate_zero,List.push_toArray,List.append_toArray,List.nil_append,List.cons_append]
 gi_wp2_with fail
 refine ⟨trivial,?_⟩
 first | refine ⟨(by intro e;cases e),?_⟩ | skip
 refine (callsIn_wide.2 (uH CQ)).mono ?_
 rintro e w1 ⟨rfl,hb⟩
 have HB1:=aA hb
 clear hb CQ
 cases o with
 | false=>
  have hz:=uH HZ (by first | rfl | trivial)
  gi_wp2
  exact ⟨_,results_tmp rfl _ _ _,_,rfl,bI.of (o:=[]) (World.ownsRow_nil _ _ _ _) (by rw [hz];rfl),uH HB1⟩
 | true=>
  have hpa:=uH HP (by first | rfl | trivial)
  have HPA:=aA hpa
  have HBo:=aA (((Go.Boxed.new w1 175 (.slice none 0 0)).alloc (.cells #[.slice ao len cap] 29)).alloc (.cells #[.string (bs nm)] 9))
  have hBq:(((w1.alloc (.cells #[.slice none 0 0] 175)).alloc (.cells #[.slice ao len cap] 29)).alloc (.cells #[.string (bs nm)] 9)).cell? ⟨w1.heap.size+1,0,none⟩=some (.slice ao len cap):=by
   have:=((Go.Boxed.new (w1.alloc (.cells #[.slice none 0 0] 175)) 29 (.slice ao len cap)).alloc (.cells #[.string (bs nm)] 9)).cell
   simpa using this
  have hBn:(((w1.alloc (.cells #[.slice none 0 0] 175)).alloc (.cells #[.slice ao len cap] 29)).alloc (.cells #[.string (bs nm)] 9)).cell? ⟨w1.heap.size+1+1,0,none⟩=some (.string (bs nm)):=by
   have:=(Go.Boxed.new ((w1.alloc (.cells #[.slice none 0 0] 175)).alloc (.cells #[.slice ao len cap] 29)) 9 (.string (bs nm))).cell
   simpa using this
  have HB0:=aA (yA (yA (yA (uH HB1) (.cells #[.slice none 0 0] 175)) (.cells #[.slice ao len cap] 29)) (.cells #[.string (bs nm)] 9))
  have HC:=aA (oJ (3 - 1) (w1.heap.size+1) (w1.heap.size+1+1) ao len cap l nm w _ (uH HR) (uH HB0) hl hc hBq hBn)
  clear HP HZ hpa hBq hBn
  gi_wp2_with fail
  refine ⟨trivial,?_⟩
  first | refine ⟨(by intro e;cases e),?_⟩ | skip
  refine (callsIn_wide.2 (wR ao len cap nm _)).mono ?_
  rintro e w2 ⟨rfl,rfl⟩
  gi_wp2
  have hsz:(((w1.alloc (.cells #[.slice none 0 0] 175)).alloc (.cells #[.slice ao len cap] 29)).alloc (.cells #[.string (bs nm)] 9)).heap.size=w1.heap.size+3:=by simp
  obtain ⟨W0,hW0⟩:∃W0,((w1.alloc (.cells #[.slice none 0 0] 175)).alloc (.cells #[.slice ao len cap] 29)).alloc (.cells #[.string (bs nm)] 9)=W0:=⟨_,rfl⟩
  rw [hW0] at hsz HBo HB0 HC ⊢
  have hw1:=(uH HB1).size
  clear hW0
  refine wpIn_rangeFunc_ownH rfl (by omega) (gf:=206) (lb:=#[.pointer (some ⟨w1.heap.size+1,0,none⟩),.pointer (some ⟨w1.heap.size+1+1,0,none⟩)]) rfl trivial (enters_of Tryz.func206 (by kernel_rfl) rfl)
   (uH HC) aJL (aJM (by omega)) (Below.refl _ _) (fun _=>rfl)
   (fun pre W=>(∃v,Go.Boxed W w1.heap.size 175 v∧W.ownsRow w.heap.size 9 1 v pre.length (gG (pre.map (fun q=>bs q.1.name)))∧True)∧Below w.heap.size w W)
   (fun _ _ _=>False)
   (OwnFrom.and (Own.from (holdsRow_own w.heap.size w1.heap.size 175 9 1 (fun pre:List { q:Q // q ∈ l }=>pre.length) (fun pre:List { q:Q // q ∈ l }=>gG (pre.map (fun q=>bs q.1.name))) (fun _ _=>True)) _) (ownFrom_below (Nat.le_refl _) (by omega)))
   (fun _ _ _ _ _ hs _ _=>hs)
   ⟨⟨_,uH HBo,World.ownsRow_nil _ _ _ _,trivial⟩,uH HB0⟩
   (fun x a' W=>∃Bx,w1.heap.size<Bx∧lL W Bx x.1∧a' = { tmps:=#[.slice ao len cap,.string (bs nm),undef,undef,.slice none 0 0,.pointer (some ⟨w1.heap.size,0,none⟩),.pointer (some ⟨Bx,0,none⟩),.slice ao len cap,.bool true,.bool false,.slice ao len cap,.string (bs nm),.func (.func 206) #[] #[.pointer (some ⟨w1.heap.size+1,0,none⟩),.pointer (some ⟨w1.heap.size+1+1,0,none⟩)],qv x.1,undef,undef,undef,undef,undef,undef,undef],defers:=[] })
   (fun x a' _ X Y row hs hg hr=>by
    obtain ⟨Bx,h1,h2,h3⟩:=hs
    refine ⟨Bx,h1,(hg.block Bx h2.lt (fun e=>?_)).trans h2,h3⟩
    obtain ⟨_,o,ho,hc⟩:=hr Bx e.symm
    rw [show X.heap[Bx]? = _ from h2] at ho
    cases ho
    cases hc)
   ?assign ?body ?done ?stop
  case assign=>
   rintro lp pre x W K ⟨⟨v,hv,hrow,_⟩,hB⟩ hK
   gi_wp2
   exact hK _ _ ((KeepsOthers.alloc _ _).from _) (aEA hB.size (yA (Below.refl _ W) _)) ⟨⟨v,hv.alloc _,hrow.alloc _,trivial⟩,yA hB _⟩ ⟨W.heap.size,hv.lt,lL.new W x.1,rfl⟩
  case body=>
   rintro lp pre x a' W hlp _ ⟨⟨v,hv,hrow,_⟩,hB⟩ ⟨Bx,hBx,hX,rfl⟩ hlt
   have hc0:=hv.cell
   have hx0:=hX.c0
   have hname:(bs x.1.name).size≤281474976710656:=by rw [dA];have:=uH HN x.1 x.2;omega
   have hpl:pre.length≤1048576:=by have:=uH HL;omega
   have HV:=aA hv
   have HX:=aA hX
   have HRW:=aA hrow
   have HB:=aA hB
   clear hv hX hrow hB
   gi_wp2_with fail
   gi_region_with_o (first | (refine ⟨trivial,?_⟩;gi_at_call 67;refine (CallsIn.inRound lp (callsIn_wide.2 (gK _ _ hname))).mono ?_;rintro e w3 ⟨rfl,hb3⟩;have HW3:=aA (yB (Below.refl _ W).drew hb3);have hc3:=(dE (uH HV) (uH HW3)).cell;have hc3b:=((dE (uH HV) (uH HW3)).alloc (.cells #[.string (bs x.1.name)] 9)).cell;obtain ⟨g,cp,w4,hrun,hc4,hf4,HFIN⟩:=vZ 175 9 (.string ByteArray.empty) 16 i0 Tryz.underlying175 hi hz0 hz1 hz2 rfl (by decide) (by decide) (by omega) (dE (uH HV) (uH HW3)) (mM (uH HRW) (uH HW3)) hpl (Nat.le_trans (uH HB).size (uH HW3).size) (uH HB1).size (.string (bs x.1.name)) rfl;clear hb3;simp [go_sem] at hrun))
   all_goals gi_wp2
   all_goals
    obtain ⟨f1,f2,f3,f4,f5⟩:=uH HFIN
    exact ⟨((lV (uH HW3)).trans f3).from _,⟨((uH HW3).mono (uH HB).size).trans f4,fun k q hq=>f5 k q (hq.below (uH HW3))⟩,⟨⟨_,f1,by simpa using f2,trivial⟩,((uH HB).trans ((uH HW3).mono (uH HB).size)).trans f4⟩⟩
  case done=>
   rintro D ys W hD hys ⟨⟨v,hv,hrow,_⟩,hB⟩ hK
   have hc:=hv.cell
   gi_wp2
   refine ⟨by simp,.inl ⟨_,_,rfl,run_takeDeferred hK,?_⟩⟩
   exact ⟨_,results_tmp rfl _ _ _,v,rfl,bI.of (o:=ys.map (fun q=>bs q.1.name)) (by have:=ownsRow_putObj hrow (.deferred none) hK rfl;simpa using this) (by rw [←uH HPA,←hys];simp),hB.trans (belowK_b (w:=w) (Nat.le_refl _) W D _ _ (by omega) hK rfl rfl)⟩
  case stop=>
   rintro D c pre W _ _ h _
   exact h.elim
end
section
open Go.RowKit Go.Maps
theorem xQ (x:Sls) (s:St) (nm:List UInt8) (w:World) (h:iJ w x s) (hf:bS s) (hnm:nm.length≤1048576) :
    Calls Tryz.prog 134 #[sv x s,.string (bs nm)] w fun e w'=>e=.returned (rv (fC s nm).1 (fC s nm).2)∧Below w.heap.size w w':=by
  have hml:x.ml≤1048576:=by have:=h.len.2.2.1;have:=hf.2.2.1.1;omega
  have hcl:x.cl≤1048576:=by have:=h.len.2.2.2;have:=hf.2.2.2.1;omega
  have CM:=aA (fun wx (hb:Below w.heap.size w wx)=>oD x s wx (h.2.2.1.below hb) hml (fun m hm=>hf.2.2.1.2 m hm))
  have CU:=aA (fun wx (hb:Below w.heap.size w wx)=>xO x s nm wx (h.2.2.2.below hb) hcl)
  obtain ⟨kl,hkey⟩:=zO (nm:=nm) (k:=0) (by omega) (by decide)
  have HKEY:=aA hkey
  have HFV:=aA (show fC s nm=match bF nm s.ms with | none=>(0,0) | some m=>aDD m.mem m.cpu (gD s nm).1 (gD s nm).2 from rfl)
  obtain ⟨⟨ux,uy⟩,hu⟩:∃u,gD s nm=u:=⟨_,rfl⟩
  obtain ⟨⟨fx,fy⟩,hfr⟩:∃u,fC s nm=u:=⟨_,rfl⟩
  rw [hu] at CU HFV
  rw [hfr] at HFV ⊢
  clear h hf hu hfr hkey
  obtain ⟨qa,ql,qc,aa,al,ac,ma,ml,mc,ca,cl,cc⟩:=x
  obtain ⟨qs,clock,epoch,next,serial,apps,ms,cs⟩:=s
  simp only at HFV
  have HB0:=aA (bV w (svc ⟨qa,ql,qc,aa,al,ac,ma,ml,mc,ca,cl,cc⟩ ⟨qs,clock,epoch,next,serial,apps,ms,cs⟩))
  have V0:=aA (gL w (svc ⟨qa,ql,qc,aa,al,ac,ma,ml,mc,ca,cl,cc⟩ ⟨qs,clock,epoch,next,serial,apps,ms,cs⟩))
  have P0:=aA ((eO w (svc ⟨qa,ql,qc,aa,al,ac,ma,ml,mc,ca,cl,cc⟩ ⟨qs,clock,epoch,next,serial,apps,ms,cs⟩)).al (.cells #[.int .i64 0,.int .i64 0] 36))
  go_enter Tryz.func134,Tryz.ntmps134
  go_wp2_with fail
  refine (uH CM _ (uH HB0)).mono ?_
  rintro e w1 ⟨bm,rfl,⟨hbm,D,hown,hk⟩,hb⟩
  have hlk:=aJF hown hk (uH HKEY)
  have HB1:=aA (yB (uH HB0) hb)
  have V1:=aA ((uH V0).below hb)
  have P1:=aA ((uH P0).below hb)
  clear hb HB0 V0 P0 CM hown hk hbm
  cases hfm:bF nm ms with
  | none=>
    rw [hfm] at hlk HFV
    simp only at HFV
    have hz:=uH HFV
    simp only [Prod.mk.injEq] at hz
    obtain ⟨rfl,rfl⟩:=hz
    rw [show (none:Option Mac).getD ⟨[],0,0,0⟩=⟨[],0,0,0⟩ from rfl,show (none:Option Mac).isSome=false from rfl] at hlk
    have V2:=(uH V1).al (rZ ⟨[],0,0,0⟩)
    have t0:=V2.c0
    have t1:=V2.c1
    have f0:=V2.f 0
    have f1:=V2.f 1
    have k4:=V2.s0 (.int .i64 0)
    have k5:=V2.s1 (.int .i64 0) (.int .i64 0)
    clear V2
    go_wp2
    refine bodyPost_ret (v:=rv 0 0) (by simp [results,Tryz.results134,go_sem,k4,k5]) rfl ⟨rfl,?_⟩
    repeat (first | exact uH HB1 | refine yA ?_ _ | refine yC ?_ _ _ _ (by omega))
  | some m=>
    rw [hfm] at hlk HFV
    rw [show (some m).getD ⟨[],0,0,0⟩=m from rfl,show (some m).isSome=true from rfl] at hlk
    obtain ⟨mn,me,mp,se⟩:=m
    simp only at HFV
    have HRV:=aA (show jA (-1) me mp ux uy=rv fx fy by rw [aBf,←uH HFV])
    have CB:=aA (fun wx=>by have:=oF me mp ux uy wx;rw [uH HRV] at this;exact this)
    obtain ⟨ok,hok⟩:∃o,aK (-1) me mp ux uy=o:=⟨_,rfl⟩
    rw [hok] at CB
    clear hok HRV HFV hfm
    obtain ⟨L,R,VR,h0⟩:∃L:List (Nat×Array Value×TypeId),(∀wx,aI6 w (w1.heap.size+1) L wx→wx.cell? ⟨w1.heap.size,1,none⟩=some (.int .i64 me)∧wx.cell? ⟨w1.heap.size,2,none⟩=some (.int .i64 mp)∧wx.cell? ⟨w.heap.size,0,none⟩=some (.slice qa ql qc)∧wx.cell? ⟨w.heap.size,1,none⟩=some (.int .i64 clock)∧wx.cell? ⟨w.heap.size,2,none⟩=some (.int .i64 epoch)∧wx.cell? ⟨w.heap.size,3,none⟩=some (.int .i64 next)∧wx.cell? ⟨w.heap.size,4,none⟩=some (.int .i64 serial)∧wx.cell? ⟨w.heap.size,5,none⟩=some (.slice aa al ac)∧wx.cell? ⟨w.heap.size,6,none⟩=some (.slice ma ml mc)∧wx.cell? ⟨w.heap.size,7,none⟩=some (.slice ca cl cc))
        ∧(∀wx,aI6 w (w1.heap.size+1) L wx→Var wx 36 (w.heap.size+1) 0 0)∧aI6 w (w1.heap.size+1) L (w1.alloc (rZ ⟨mn,me,mp,se⟩)):=by
      have l1:=(uH V1).lt
      have l2:=(uH P1).lt
      refine ⟨[(w.heap.size,svc ⟨qa,ql,qc,aa,al,ac,ma,ml,mc,ca,cl,cc⟩ ⟨qs,clock,epoch,next,serial,apps,ms,cs⟩,34),(w.heap.size+1,#[.int .i64 0,.int .i64 0],36),(w1.heap.size,#[.string (bs mn),.int .i64 me,.int .i64 mp,.int .i64 se],104)],fun wx h=>?_,fun wx h=>?_,?_⟩
      · have a:=h.blk (p:=(w.heap.size,svc ⟨qa,ql,qc,aa,al,ac,ma,ml,mc,ca,cl,cc⟩ ⟨qs,clock,epoch,next,serial,apps,ms,cs⟩,34)) (by simp)
        have b:=h.blk (p:=(w1.heap.size,#[.string (bs mn),.int .i64 me,.int .i64 mp,.int .i64 se],104)) (by simp)
        exact ⟨b.at 1,b.at 2,a.at 0,a.at 1,a.at 2,a.at 3,a.at 4,a.at 5,a.at 6,a.at 7⟩
      · exact (h.blk (p:=(w.heap.size+1,#[.int .i64 0,.int .i64 0],36)) (by simp)).var
      · refine ⟨fun p hp=>?_,by rw [yE];omega,by omega,yA (uH HB1) _⟩
        simp only [List.mem_cons,List.not_mem_nil,or_false] at hp
        rcases hp with rfl | rfl | rfl
        · exact ⟨by simp only;omega,(uH P1).al _⟩
        · exact ⟨by simp only;omega,(uH V1).blk.al _⟩
        · exact ⟨by simp only;omega,yD _ _ _⟩
    have A0:=aA h0
    have HS:=aA (aFM w (w1.heap.size+1) L)
    clear h0
    go_wp2_with fail
    go_cut [7,8] from 20 to 28 (fun v7 v8 wx=>∃g,v7=.pointer (some ⟨g,0,none⟩)∧v8=.bool ok∧aI6 w (w1.heap.size+1) L wx∧Var wx 36 g fx fy∧w1.heap.size+1≤g)
    case first=>
      go_region_held3 (fun wx=>aI6 w (w1.heap.size+1) L wx)
        (first | (with_reducible assumption) | exact uH SA | exact (uH HS).drew (uH A0) | exact (uH HS).al (uH SA) _ | exact (uH HS).al (by assumption) _ | exact (uH HS).al ((uH HS).drew (uH A0)) _ | exact (uH HS).call (by assumption) (by assumption) | exact (uH HS).set2 (uH SA) _ _ _ (by first | omega | (simp<;>omega)) | exact (uH HS).set2 (by assumption) _ _ _ (by first | omega | (simp<;>omega)))
        (first
        | (go_at_call 166;refine (uH CU _ ?_).mono ?_;(exact (uH HS).below (by assumption));rintro e wt ⟨rfl,hb⟩;have SA:=aA ((uH HS).call (by assumption) hb);have sz:=(uH HS).size (uH SA)
           first
             | (have V5:=(aJ _ 36 0 0).below hb;(try simp at V5);have c50:=V5.c0;have c51:=V5.c1;have f50:=V5.f 0;have f51:=V5.f 1;have V5:=aA V5)
             | (have V5:=(aJ _ 36 0 0).drew.below hb;(try simp at V5);have c50:=V5.c0;have c51:=V5.c1;have f50:=V5.f 0;have f51:=V5.f 1;have V5:=aA V5)
             | skip)
        | (go_at_call 123;refine (uH CB _).mono ?_;rintro e wt ⟨rfl,hb⟩;have SA:=aA ((uH HS).call (by assumption) hb);have sz:=(uH HS).size (uH SA)
           first
             | (have V5:=(aJ _ 36 0 0).below hb;(try simp at V5);have c50:=V5.c0;have c51:=V5.c1;have f50:=V5.f 0;have f51:=V5.f 1;have V5:=aA V5)
             | (have V5:=(aJ _ 36 0 0).drew.below hb;(try simp at V5);have c50:=V5.c0;have c51:=V5.c1;have f50:=V5.f 0;have f51:=V5.f 1;have V5:=aA V5)
             | (have V5:=aA ((uH V5).below hb);have c50:=(uH V5).c0;have c51:=(uH V5).c1;have f50:=(uH V5).f 0;have f51:=(uH V5).f 1)
             | skip))
      all_goals
        go_wp2_with fail
        go_meet
        exact ⟨_,rfl,rfl,by first | assumption | exact uH SA | exact (uH HS).al (uH SA) _,by first | exact aJ _ _ _ _ | exact (uH V5).set _ _,by first | omega | (simp<;>omega)⟩
    case rest=>
      obtain ⟨g,rfl,rfl,hA,hV,hg⟩:=hcut
      have HB2:=aA ((uH HS).below hA)
      have v0:=hV.c0
      have v1:=hV.c1
      have V2:=VR _ hA
      have t0:=V2.c0
      have t1:=V2.c1
      have f0:=V2.f 0
      have f1:=V2.f 1
      have k4:=V2.s0 (.int .i64 fx)
      have k5:=V2.s1 (.int .i64 fx) (.int .i64 fy)
      clear hA hV A0 CB CU R VR V2 V1 P1 HB1
      go_wp2
      refine bodyPost_ret (v:=rv fx fy) (by simp [results,Tryz.results134,go_sem,k4,k5]) rfl ⟨rfl,?_⟩
      repeat (first | exact uH HB2 | refine yA ?_ _ | refine yC ?_ _ _ _ (by omega))
end
end Go.Proofs.YtdhibeclkdepiaaGreat
