/-
  Several texts of this claim in one, made short by program: BackA, AppsI, HasI, WfS.
-/
import Derived.Test.YtdhibeclkdepiaaGreatPackH
set_option maxRecDepth 100000
set_option maxHeartbeats 16000000
set_option linter.unusedVariables false
set_option linter.unusedSimpArgs false
namespace Go.Proofs.YtdhibeclkdepiaaGreat
section
open Go.RowKit Go.Shelf
attribute [local go_sem] Oper.semAt_some
abbrev NAV:={ m:AV // (Lit.int .i64 m.id).wf=true }
theorem AVRow.kpa {W W':World} {ao:Option Addr} {len:Nat} {l:List AV} (h:AVRow W ao len l) (k:KpA W W'):AVRow W' ao len l:=by
 obtain ⟨h1,h2⟩:=h
 refine ⟨h1,?_⟩
 rcases h2 with h2 | ⟨b,off,h3,h4⟩
 ·exact .inl h2
 ·exact .inr ⟨b,off,h3,fun i hi=>let ⟨a,b,c⟩:=h4 i hi;⟨k.cell a,k.cell b,k.cell c⟩⟩
theorem backA_some (n l Bs len cap:Nat) (ao:Option Addr) (ms:List AV) (J Jx:List (Int×NAV)→World→Prop)
  (hY:∀pre x W1,J pre W1→pre.length<ms.length→YieldAt Fence.wide (n - 1) Tryz.prog l #[.int .i64 x.1,avv x.2.1] W1 fun e W'=>
   (e=.returned (.bool true)∧J (pre++[x]) W'∧KpA W1 W')∨(e=.returned (.bool false)∧Jx (pre++[x]) W'))
  (W:World) (hBs:W.cell? ⟨Bs,0,none⟩=some (.slice ao len cap)) (hg:AVRow W ao len ms) (hl:len≤1048576) (hN:∀m ∈ ms,(Lit.int .i64 m.id).wf=true) (h0:J [] W) :
  CallsIn Fence.wide n Tryz.prog 182 #[.func (.yield l) #[] #[],.pointer (some ⟨Bs,0,none⟩)] W fun e W'=>(∃v,e=.returned v)∧
   ((∃ys:List (Int×NAV),Hid (ys.map (fun x:Int×NAV=>x.2.1)=ms.reverse)∧J ys W')∨(∃pre,Jx pre W')):=by
 have HY:=hide hY
 have HBs:=hide hBs
 have HG:=hide hg
 have HLEN:=hide hg.1
 have H0:=hide h0
 have HNN:=hide hN
 clear hY hg h0 hN
 refine callsIn_of_wp Tryz.func182 rfl trivial ?_ rfl
 simp only [Tryz.ntmps182,List.size_toArray,List.length_cons,List.length_nil,Nat.reduceAdd,Nat.reduceSub,Array.replicate_succ,Array.replicate_zero,List.push_toArray,List.append_toArray,List.nil_append,List.cons_append]
 gi_wp2
 clear hBs
 gi_loopw [3] (fun i wr=>∃(k:Nat) (pre:List (Int×NAV)),k≤len∧i=.int .i64 ((k:Int) - 1)∧Hid (pre.length+k=ms.length)∧Hid (pre.map (fun x:Int×NAV=>x.2.1)=(ms.drop k).reverse)∧Hid (J pre wr)∧Hid (wr.cell? ⟨Bs,0,none⟩=some (.slice ao len cap))∧Hid (AVRow wr ao len ms)) (fun i _=>(intOf i+1).toNat)
 case atStart=>exact ⟨len,[],Nat.le_refl _,by go_num,hide (by have:=uH HLEN;simp;omega),hide (by rw [List.drop_of_length_le (by have:=uH HLEN;omega)];rfl),H0,HBs,HG⟩
 case round=>
  obtain ⟨k,pre,hk,rfl,HL,HM,HJ,HB,HGr⟩:=hrel
  cases k with
  | zero=>
   gi_wp2
   go_end0
   exact ⟨⟨_,rfl⟩,.inl ⟨pre,hide (by rw [uH HM];rfl),uH HJ⟩⟩
  | succ j=>
   have hj:j<len:=by omega
   obtain ⟨b,off,rfl,hq⟩:=(uH HGr).at hj
   have hjm:j<ms.length:=by have:=uH HLEN;omega
   obtain ⟨c0,c1,c2⟩:=hq hjm
   have hbox:=uH HB
   have hel:=uH HNN ms[j] (List.getElem_mem _)
   obtain ⟨fn,tmps,assign,body,hy,hR⟩:=uH HY pre ((j:Int),⟨ms[j],hel⟩) wr (uH HJ) (by have:=uH HL;omega)
   have HRR:=hide hR
   have HM2:=hide (show (pre++[((j:Int),(⟨ms[j],hel⟩:NAV))]).map (fun x:Int×NAV=>x.2.1)=(ms.drop j).reverse by rw [List.map_append,uH HM,List.drop_eq_getElem_cons hjm,List.reverse_cons];rfl)
   have hij:((j+1:Nat):Int) - 1=(j:Int):=by omega
   obtain ⟨y,hyy⟩:∃y:NAV,(⟨ms[j],hel⟩:NAV)=y:=⟨_,rfl⟩
   have hy1:ms[j]=y.1:=by rw [←hyy]
   rw [hyy] at hy HRR HM2
   rw [hy1] at c0 c1 c2
   obtain ⟨⟨id,qu,zo,zl,zc⟩,hyn⟩:=y
   simp only at hy c0 c1 c2
   rw [hij]
   have j0:(0:Int)≤j:=by omega
   have j1:(j:Int)<len:=by omega
   clear hR hyy hy1 hij HM hq hjm hel
   gi_wp2
   refine ⟨(by intro e;cases e),?_⟩
   refine (uH HRR).mono ?_
   rintro e W3 (⟨rfl,hJ3,hk3⟩ | ⟨rfl,hJx3⟩)
   ·have HB3:=hide (hk3.cell (uH HB))
    have HG3:=hide ((uH HGr).kpa hk3)
    have HJ3:=hide hJ3
    clear hk3 hJ3 hbox hy HRR c0 c1 c2
    gi_wp2
    go_roundw
    case rel=>exact ⟨j,pre++[((j:Int),⟨⟨id,qu,zo,zl,zc⟩,hyn⟩)],by omega,by go_num,hide (by have:=uH HL;simp;omega),HM2,HJ3,HB3,HG3⟩
    case measure=>simp [intOf]
   ·gi_wp2
    refine bodyPost_ret (results_none rfl _ _ _) rfl ?_
    exact ⟨⟨_,rfl⟩,.inr ⟨_,hJx3⟩⟩
theorem backA_stops (n Bs len cap:Nat) (ao:Option Addr) (ms:List AV) (w:World) (hBs:w.cell? ⟨Bs,0,none⟩=some (.slice ao len cap)) (hrow:AVRow w ao len ms) (hl:len≤1048576) (hN:∀m ∈ ms,(Lit.int .i64 m.id).wf=true) :
  SeqStopsK Fence.wide n Tryz.prog 182 #[.pointer (some ⟨Bs,0,none⟩)] (fun x:Int×NAV=>#[.int .i64 x.1,avv x.2.1]) KpA (fun ys=>Hid (ys.map (fun x:Int×NAV=>x.2.1)=ms.reverse)) (fun _=>True) ms.length w:=by
 intro l J Jx W hW hJ hJx hY h0
 refine (backA_some n l Bs len cap ao ms J Jx hY W ((hW.cell (yG hBs)).trans hBs) (hrow.below hW) hl hN h0).mono ?_
 rintro e W' ⟨he,⟨ys,h1,h2⟩ | ⟨pre,h2⟩⟩
 ·exact ⟨he,.inl ⟨ys,h1,h2⟩⟩
 ·exact ⟨he,.inr ⟨pre,trivial,h2⟩⟩
theorem backA_any (v:Value) (w:World) (hv:v.oneCell'=true) :
  Calls Tryz.prog 151 #[v] w fun e w'=>e=.returned (.func (.func 182) #[] #[.pointer (some ⟨w.heap.size,0,none⟩)])∧w.alloc (.cells #[v] 30)=w':=by
 have hmf:∀(fn:Fn) (first cap:Array Value) (w:World),(Instr.makeFunc fn first cap).run Tryz.prog w=.ok (.func fn first cap) w:=fun _ _ _ _=>rfl
 go_enter Tryz.func151,Tryz.ntmps151
 go_wp2
 go_ret
 exact ⟨rfl,rfl⟩
theorem appKey_any (m:AV) (w:World) :
  Calls Tryz.prog 152 #[avv m] w fun e w'=>e=.returned (.agg #[.string (bs []),.int .i64 m.id])∧Below w.heap.size w w':=by
 obtain ⟨id,qu,zo,zl,zc⟩:=m
 go_enter Tryz.func152,Tryz.ntmps152
 go_wp2
 refine bodyPost_ret (v:=.agg #[.string (bs []),.int .i64 id]) (by simp [results,Tryz.results152,go_sem];rfl) rfl ⟨rfl,?_⟩
 repeat (first | exact Below.refl _ _ | refine yA ?_ _ | refine Below.drew ?_ | refine yC ?_ _ _ _ (by omega))
end
section
open Go.RowKit Go.Shelf Go.Maps
attribute [local go_sem] Oper.semAt_some
def apmW (w:World) (c:Array Value):World:=((w.alloc (.cells c 34)).alloc (.map #[] 0)).alloc (.cells #[.map (some (w.heap.size+1))] 164)
theorem apmW_size (w:World) (c:Array Value):(apmW w c).heap.size=w.heap.size+1+1+1:=by simp only [apmW,yE]
theorem apmW_below (w:World) (c:Array Value):Below w.heap.size w (apmW w c):=yA (yA (yA (Below.refl _ w) _) _) _
theorem apmW_own (w:World) (c:Array Value):(apmW w c).ownsMap Tryz.prog 133 appElem (w.heap.size+1) 0 (.map []):=by
 have:=(World.ownsMap_made (w.alloc (.cells c 34)) Tryz.prog 133 appElem).alloc (.cells #[.map (some (w.heap.size+1))] 164)
 rw [yE] at this
 exact this
theorem apmW_var (w:World) (c:Array Value):Blk (apmW w c) (w.heap.size+1+1) #[.map (some (w.heap.size+1))] 164:=by
 have:=yD ((w.alloc (.cells c 34)).alloc (.map #[] 0)) #[.map (some (w.heap.size+1))] 164
 rw [yE,yE] at this
 exact this
def ApmInv (w:World) (l:List AV) (W:World):Prop:=(∃D,W.ownsMap Tryz.prog 133 appElem (w.heap.size+1) l.length D∧KnownA l allA D)∧Blk W (w.heap.size+1+1) #[.map (some (w.heap.size+1))] 164
theorem ApmInv.grown {w W W':World} {l:List AV} {row:Option Nat} (h:ApmInv w l W) (hg:W.grownBy W' row) (hr:∀r,row=some r→w.heap.size+1+1<r):ApmInv w l W':=by
 obtain ⟨⟨D,h1,h2⟩,h3⟩:=h
 exact ⟨⟨D,h1.kept hg (fun e=>by have:=hr _ e.symm;omega),h2⟩,(hg.block _ h3.lt (fun e=>by have:=hr _ e.symm;omega)).trans h3⟩
theorem ApmInv.below {w W W':World} {l:List AV} (h:ApmInv w l W) (hb:Below W.heap.size W W'):ApmInv w l W':=h.grown (grownBy_below (grownBy_refl W none) hb) (fun r e=>by cases e)
theorem apps_any (x:Sls) (s:St) (hs:List AV) (w:World) (h:AVRow w x.aa x.al hs) (hl:x.al≤1048576) (hn:∀m ∈ hs,(Lit.int .i64 m.id).wf=true) :
  Calls Tryz.prog 121 #[sv x s] w fun e w'=>e=.returned (.map (some (w.heap.size+1)))∧ApmInv w hs w'∧Below w.heap.size w w':=by
 obtain ⟨qa,ql,qc,aa,al,ac,ma,ml,mc,ca,cl,cc⟩:=x
 obtain ⟨qs,clock,epoch,next,serial,apps,ms,cs⟩:=s
 simp only at h hl
 have HR:=hide h
 have HL:=hide h.1
 have HN:=hide hn
 have hmx:Tryz.prog.follows .mixedOrders=true:=by kernel_rfl
 have hmm:=fun (t:TypeId) (wx:World)=>run_makeMap (P:=Tryz.prog) t wx
 clear h hn
 refine (callsIn_wide (n:=3)).1 ?_
 refine callsIn_of_wp_marks Tryz.func121 rfl trivial ?_ rfl
 simp only [Tryz.ntmps121,List.size_toArray,List.length_cons,List.length_nil,Nat.reduceAdd,Nat.reduceSub,Array.replicate_succ,Array.replicate_zero,List.push_toArray,List.append_toArray,List.nil_append,List.cons_append]
 gi_wp2_with fail
 first | refine ⟨trivial,?_⟩ | skip
 first | refine ⟨(by intro e;cases e),?_⟩ | skip
 refine (callsIn_wide.2 (backA_any (.slice aa al ac) _ rfl)).mono ?_
 rintro e w4 ⟨rfl,rfl⟩
 gi_wp2
 have hsz0:=yE (apmW w (svc ⟨qa,ql,qc,aa,al,ac,ma,ml,mc,ca,cl,cc⟩ ⟨qs,clock,epoch,next,serial,apps,ms,cs⟩)) (.cells #[.slice aa al ac] 30)
 rw [apmW_size] at hsz0
 have hB0:=yA (apmW_below w (svc ⟨qa,ql,qc,aa,al,ac,ma,ml,mc,ca,cl,cc⟩ ⟨qs,clock,epoch,next,serial,apps,ms,cs⟩)) (.cells #[.slice aa al ac] 30)
 have hI0:=ApmInv.below (w:=w) (l:=[]) ⟨⟨_,apmW_own w (svc ⟨qa,ql,qc,aa,al,ac,ma,ml,mc,ca,cl,cc⟩ ⟨qs,clock,epoch,next,serial,apps,ms,cs⟩),knownA_empty⟩,apmW_var w _⟩ (yA (Below.refl _ _) (.cells #[.slice aa al ac] 30))
 have hBs:=(yD (apmW w (svc ⟨qa,ql,qc,aa,al,ac,ma,ml,mc,ca,cl,cc⟩ ⟨qs,clock,epoch,next,serial,apps,ms,cs⟩)) #[.slice aa al ac] 30).at 0
 rw [apmW_size] at hBs
 obtain ⟨W0,hW0⟩:∃W0,(apmW w (svc ⟨qa,ql,qc,aa,al,ac,ma,ml,mc,ca,cl,cc⟩ ⟨qs,clock,epoch,next,serial,apps,ms,cs⟩)).alloc (.cells #[.slice aa al ac] 30)=W0:=⟨_,rfl⟩
 rw [hW0] at hsz0 hB0 hI0 hBs
 have HC:=hide (backA_stops (3 - 1) (w.heap.size+1+1+1) al ac aa hs W0 hBs ((uH HR).below hB0) hl (uH HN))
 show Code.wpIn _ _ _ _ _ _ ((apmW w (svc ⟨qa,ql,qc,aa,al,ac,ma,ml,mc,ca,cl,cc⟩ ⟨qs,clock,epoch,next,serial,apps,ms,cs⟩)).alloc (.cells #[.slice aa al ac] 30))
 rw [hW0]
 clear hW0 hBs
 refine wpIn_rangeFunc_ownH rfl (by omega) (gf:=182) (lb:=#[.pointer (some ⟨w.heap.size+1+1+1,0,none⟩)]) rfl trivial (enters_of Tryz.func182 (by kernel_rfl) rfl)
  (uH HC) kpa_t kpa_b (Below.refl _ _) (fun _=>rfl)
  (fun pre W=>ApmInv w ((pre.map (fun x:Int×NAV=>x.2.1)).reverse) W∧Below w.heap.size w W)
  (fun _ _ _=>False)
  (OwnFrom.and (fun s X Y row hs hg hr=>ApmInv.grown hs hg (fun r e=>by have:=(hr r e).1;omega)) (ownFrom_below (Nat.le_refl _) (by omega)))
  (fun _ _ _ _ _ hs _ _=>hs)
  ⟨hI0,hB0⟩
  (fun x a' W=>∃Bx,w.heap.size+1+1<Bx∧Blk W Bx #[.int .i64 x.2.1.id,.string (bs x.2.1.queue),.slice x.2.1.ao x.2.1.len x.2.1.cap] 74∧a' = { tmps:=#[sv ⟨qa,ql,qc,aa,al,ac,ma,ml,mc,ca,cl,cc⟩ ⟨qs,clock,epoch,next,serial,apps,ms,cs⟩,.pointer (some ⟨w.heap.size,0,none⟩),.map none,.pointer (some ⟨w.heap.size+1+1,0,none⟩),undef,.pointer (some ⟨Bx,0,none⟩),.map (some (w.heap.size+1)),.pointer (some ⟨w.heap.size,5,none⟩),.slice aa al ac,.func (.func 182) #[] #[.pointer (some ⟨w.heap.size+1+1+1,0,none⟩)],.int .i64 x.1,avv x.2.1,undef,undef,undef,undef,undef],defers:=[] })
  (fun x a' _ X Y row hs hg hr=>by
   obtain ⟨Bx,h1,h2,h3⟩:=hs
   refine ⟨Bx,h1,(hg.block Bx h2.lt (fun e=>?_)).trans h2,h3⟩
   obtain ⟨_,o,ho,hc⟩:=hr Bx e.symm
   rw [show X.heap[Bx]? = _ from h2] at ho
   cases ho
   cases hc)
  ?assign ?body ?done ?stop
 case assign=>
  rintro lp pre ⟨i,⟨⟨id,qu,zo,zl,zc⟩,hnm⟩⟩ W K ⟨hI,hB⟩ hK
  have hlt:=hI.2.lt
  gi_wp2
  exact hK _ _ ((KeepsOthers.alloc _ _).from _) (kpa_below (yA (Below.refl _ W) _)) ⟨hI.below (yA (Below.refl _ W) _),yA hB _⟩ ⟨W.heap.size,hlt,yD W _ _,rfl⟩
 case body=>
  rintro lp pre ⟨i,⟨⟨id,qu,zo,zl,zc⟩,hnm⟩⟩ a' W hlp _ ⟨hI,hB⟩ ⟨Bx,hBx,hX,rfl⟩ hlt
  have HI:=hide hI
  have HX:=hide hX
  have HB:=hide hB
  have x0:=hX.at 0
  have x1:=hX.at 1
  have x2:=hX.at 2
  have v0:=hI.2.at 0
  simp at x0 x1 x2 v0
  have hpl:pre.length<1048576:=by have:=uH HL;omega
  clear hI hX hB
  obtain ⟨kl,hkey⟩:=keyKey (nm:=[]) (k:=id) (by decide) hnm
  have HKEY:=hide hkey
  clear hkey
  gi_wp2_with fail
  gi_region_with_o (first | (first | refine ⟨trivial,?_⟩ | skip);(first | refine ⟨(by intro e;cases e),?_⟩ | skip);refine (CallsIn.inRound lp (callsIn_wide.2 (appKey_any ⟨id,qu,zo,zl,zc⟩ _))).mono ?_;rintro e wc ⟨rfl,hbc⟩;have HW3:=hide (yB (Below.refl _ W).drew hbc);have y0:=((uH HX).below (uH HW3)).at 0;have y1:=((uH HX).below (uH HW3)).at 1;have y2:=((uH HX).below (uH HW3)).at 2;have u0:=((uH HI).below (uH HW3)).2.at 0;simp at y0 y1 y2 u0;obtain ⟨D,hown,hk⟩:=((uH HI).below (uH HW3)).1;obtain ⟨w4,hrun,hown2,hgrow2⟩:=hown.update keyLaw Tryz.underlying164 (by unfold maxLen;simp;omega) (uH HKEY) (appElem_mk ⟨id,qu,zo,zl,zc⟩);have HFIN:=hide (And.intro hown2 (And.intro hgrow2 (KnownA.put (m:=⟨id,qu,zo,zl,zc⟩) hk hown.isMap (uH HKEY))));clear hown2 hgrow2 hk hown hbc)
  all_goals gi_wp2
  all_goals
   obtain ⟨f1,f2,f3⟩:=uH HFIN
   have hbelow:=(uH HW3)
   have hv4:=(f2.block _ ((uH HI).below hbelow).2.lt (by simp)).trans ((uH HI).below hbelow).2
   have hmi:ApmInv w (⟨id,qu,zo,zl,zc⟩::(pre.map (fun x:Int×NAV=>x.2.1)).reverse) w4:=⟨⟨_,f1,f3⟩,hv4⟩
   refine ⟨((keepsO_below hbelow).from _).trans (KeepsFrom.of_grownBy f2 (fun j e=>by cases e;omega)),kpa_t (kpa_below hbelow) (fun k o ho hc=>(f2.block k (lt_of_block ho) (fun e=>?_)).trans ho),by simpa using hmi,?_⟩
   ·obtain ⟨D',hD',_⟩:=((uH HI).below hbelow).1
    obtain ⟨es,ck,hm',_⟩:=hD'
    obtain rfl:k=w.heap.size+1:=by simpa using e
    rw [hm'] at ho
    cases ho
    cases hc
   ·exact ((uH HB).trans (hbelow.mono (uH HB).size)).grown f2 (by have:=(uH HB).size;have:=hbelow.size;omega) (fun k e=>by cases e;omega)
 case done=>
  rintro D ys W hD hys ⟨hI,hB⟩ hK
  rw [uH hys,List.reverse_reverse] at hI
  have v0:=hI.2.at 0
  simp at v0
  have HI:=hide hI
  have HB:=hide hB
  clear hI hB
  gi_wp2
  refine ⟨by simp,.inl ⟨_,_,rfl,run_takeDeferred hK,?_⟩⟩
  exact ⟨_,results_tmp rfl _ _ _,rfl,(uH HI).grown (grownBy_putObj' W D _) (fun r e=>by cases e;omega),(uH HB).trans (belowK_b (w:=w) (Nat.le_refl _) W D _ _ (by omega) hK rfl rfl)⟩
 case stop=>
  rintro D c pre W _ _ h _
  exact h.elim
theorem apps_ex (x:Sls) (s:St) (hs:List AV) (w:World) (h:AVRow w x.aa x.al hs) (hl:x.al≤1048576) (hn:∀m ∈ hs,(Lit.int .i64 m.id).wf=true) :
  Calls Tryz.prog 121 #[sv x s] w fun e w'=>∃bm,e=.returned (.map (some bm))∧(w.heap.size≤bm∧∃D,w'.ownsMap Tryz.prog 133 appElem bm hs.length D∧KnownA hs allA D)∧Below w.heap.size w w':=
 (apps_any x s hs w h hl hn).mono fun e w' ⟨h1,h2,h3⟩=>⟨_,h1,⟨by omega,h2.1⟩,h3⟩
end
section
open Go.RowKit Go.Maps
def hasB (hs:List AV) (keep:AV→Bool) (q:Con):Bool:=optB (findA q.app hs) keep
theorem ofApp_any (q:Con) (w:World) :
  Calls Tryz.prog 156 #[conv q] w fun e w'=>e=.returned (.agg #[.string (bs []),.int .i64 q.app])∧Below w.heap.size w w':=by
 obtain ⟨id,ap,nd,me,cp⟩:=q
 go_enter Tryz.func156,Tryz.ntmps156
 go_wp2
 refine bodyPost_ret (v:=.agg #[.string (bs []),.int .i64 ap]) (by simp [results,Tryz.results156,go_sem];rfl) rfl ⟨rfl,?_⟩
 repeat (first | exact Below.refl _ _ | refine yA ?_ _ | refine Below.drew ?_ | refine yC ?_ _ _ _ (by omega))
theorem ownsMap_below {w w':World} {k:TypeId} {R:Value→Option (DataW Unit×List MemPlace)} {b n:Nat} {D:DataW Unit} (h:w.ownsMap Tryz.prog k R b n D) (hb:Below w.heap.size w w'):w'.ownsMap Tryz.prog k R b n D:=h.kept (grownBy_below (grownBy_refl w none) hb) (by simp)
theorem has_any (bm n:Nat) (D:DataW Unit) (hs:List AV) (keep:AV→Bool) (q:Con) (w:World) (hown:w.ownsMap Tryz.prog 133 appElem bm n D) (hk:KnownA hs (fun _ v=>keep v) D) (hwf:(Lit.int .i64 q.app).wf=true) :
  Calls Tryz.prog 125 #[.map (some bm),conv q] w fun e w'=>e=.returned (.bool (hasB hs keep q))∧Below w.heap.size w w':=by
 obtain ⟨kl,hkey⟩:=keyKey (nm:=[]) (k:=q.app) (by decide) hwf
 have HL:=hide (fun wx (hb:Below w.heap.size w wx)=>lookA (ownsMap_below hown hb) hk hkey)
 obtain ⟨o,ho⟩:∃o,hasB hs keep q=o:=⟨_,rfl⟩
 have HO:=hide (show optB (findA q.app hs) keep=o from ho)
 rw [ho]
 clear ho hkey hown hk hwf
 have CO:=hide (fun wx=>ofApp_any q wx)
 obtain ⟨id,ap,nd,me,cp⟩:=q
 simp only at HL HO
 have HB0:=hide (yA (Below.refl _ w) (.cells #[.int .i64 id,.int .i64 ap,.string (bs nd),.int .i64 me,.int .i64 cp] 38))
 go_enter Tryz.func125,Tryz.ntmps125
 go_wp2_with fail
 refine (uH CO _).mono ?_
 rintro e w1 ⟨rfl,hb⟩
 have HB1:=hide (yB (uH HB0) hb)
 obtain ⟨v,hlk,_,_⟩:=uH HL _ (uH HB1)
 rw [show optB (findA ap hs) (fun v=>keep v)=o from uH HO] at hlk
 obtain ⟨v1,v2,v3,v4,v5⟩:=v
 clear hb HB0 HL HO
 go_wp2
 go_ret
 refine ⟨rfl,?_⟩
 repeat (first | exact uH HB1 | refine yA ?_ _ | refine Below.drew ?_ | refine yC ?_ _ _ _ (by omega))
def WfSt (s:St):Prop:=(∀a ∈ s.apps,(Lit.int .i64 a.id).wf=true)∧(∀c ∈ s.cs,(Lit.int .i64 c.app).wf=true)
theorem StFit.wfs {x:Sls} {s:St} (h:StFit x s):WfSt s:=⟨fun a ha=>(h.2.1.2 a ha).2.1,fun c hc=>(h.2.2.2.1.2 c hc).2.2.1⟩
theorem heads_wf {w:World} {hs:List AV} {l:List Appl} (hh:Heads w hs l) (h:∀a ∈ l,(Lit.int .i64 a.id).wf=true):∀v ∈ hs,(Lit.int .i64 v.id).wf=true:=fun v hv=>by
 obtain ⟨i,hi,rfl⟩:=List.mem_iff_getElem.1 hv
 have hi':i<l.length:=by rw [←hh.1];exact hi
 rw [(hh.2 i hi hi').1]
 exact h _ (List.getElem_mem _)
end
end Go.Proofs.YtdhibeclkdepiaaGreat
