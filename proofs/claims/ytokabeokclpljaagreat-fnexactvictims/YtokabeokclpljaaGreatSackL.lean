/-
  Texts in one: AppsI, AppOfB, WantI.
-/
import Derived.Test.YtokabeokclpljaaGreatSackI
set_option maxRecDepth 100000
set_option maxHeartbeats 16000000
set_option linter.unusedVariables false
set_option linter.unusedSimpArgs false
namespace Go.Proofs.YtokabeokclpljaaGreat
section
open Go.RowKit Go.Shelf Go.Maps
attribute [local go_sem] Oper.semAt_some
def apmW (w:World) (c:Array Value):World:=((w.alloc (.cells c 36)).alloc (.map #[] 0)).alloc (.cells #[.map (some (w.heap.size+1))] 153)
theorem apmW_size (w:World) (c:Array Value):(apmW w c).heap.size=w.heap.size+1+1+1:=by simp only [apmW,yE]
theorem apmW_below (w:World) (c:Array Value):Below w.heap.size w (apmW w c):=yA (yA (yA (yH _ w) _) _) _
theorem apmW_own (w:World) (c:Array Value):(apmW w c).ownsMap Tryz.prog 160 appElem (w.heap.size+1) 0 (.map []):=by
 have:=(World.ownsMap_made (w.alloc (.cells c 36)) Tryz.prog 160 appElem).alloc (.cells #[.map (some (w.heap.size+1))] 153)
 rw [yE] at this
 exact this
theorem apmW_var (w:World) (c:Array Value):Blk (apmW w c) (w.heap.size+1+1) #[.map (some (w.heap.size+1))] 153:=by
 have:=yD ((w.alloc (.cells c 36)).alloc (.map #[] 0)) #[.map (some (w.heap.size+1))] 153
 rw [yE,yE] at this
 exact this
def ApmInv (w:World) (l:List AV) (W:World):Prop:=(∃D,W.ownsMap Tryz.prog 160 appElem (w.heap.size+1) l.length D∧KnownA l allA D)∧Blk W (w.heap.size+1+1) #[.map (some (w.heap.size+1))] 153
theorem ApmInv.grown {w W W':World} {l:List AV} {row:Option Nat} (h:ApmInv w l W) (hg:W.grownBy W' row) (hr:∀r,row=some r→w.heap.size+1+1<r):ApmInv w l W':=by
 obtain ⟨⟨D,h1,h2⟩,h3⟩:=h
 exact ⟨⟨D,h1.kept hg (fun e=>by have:=hr _ e.symm;omega),h2⟩,(hg.block _ h3.lt (fun e=>by have:=hr _ e.symm;omega)).trans h3⟩
theorem ApmInv.below {w W W':World} {l:List AV} (h:ApmInv w l W) (hb:Below W.heap.size W W'):ApmInv w l W':=h.grown (grownBy_below (grownBy_refl W none) hb) (fun r e=>by cases e)
theorem apps_any (x:Sls) (s:St) (hs:List AV) (w:World) (h:AVRow w x.aa x.al hs) (hl:x.al≤1048576) (hn:∀m ∈ hs,(Lit.int .i64 m.id).wf=true) :
  Calls Tryz.prog 121 #[sv x s] w fun e w'=>e=.returned (.map (some (w.heap.size+1)))∧ApmInv w hs w'∧Below w.heap.size w w':=by
 obtain ⟨qa,ql,qc,aa,al,ac,ma,ml,mc,ca,cl,cc⟩:=x
 obtain ⟨qs,clock,epoch,next,serial,apps,ms,cs⟩:=s
 simp only at h hl
 have HR:=hide h
 have HL:=hide h.1
 have HN:=hide hn
 have hmx:Tryz.prog.follows .mixedOrders=true:=by kernel_rfl
 have hmm:=fun (t:TypeId) (wx:World)=>run_makeMap (P:=Tryz.prog) t wx
 clear h hn
 refine (callsIn_wide (n:=3)).1 ?_
 refine callsIn_of_wp_marks Tryz.func121 rfl trivial ?_ rfl
 simp only [Tryz.ntmps121,List.size_toArray,List.length_cons,List.length_nil,Nat.reduceAdd,Nat.reduceSub,Array.replicate_succ,Array.replicate_zero,List.push_toArray,List.append_toArray,List.nil_append,List.cons_append]
 gi_wp2_with fail
 first | refine ⟨trivial,?_⟩ | skip
 first | refine ⟨(by intro e;cases e),?_⟩ | skip
 refine (callsIn_wide.2 (backA_any (.slice aa al ac) _ rfl)).mono ?_
 rintro e w4 ⟨rfl,rfl⟩
 gi_wp2
 have hsz0:=yE (apmW w (svc ⟨qa,ql,qc,aa,al,ac,ma,ml,mc,ca,cl,cc⟩ ⟨qs,clock,epoch,next,serial,apps,ms,cs⟩)) (.cells #[.slice aa al ac] 32)
 rw [apmW_size] at hsz0
 have hB0:=yA (apmW_below w (svc ⟨qa,ql,qc,aa,al,ac,ma,ml,mc,ca,cl,cc⟩ ⟨qs,clock,epoch,next,serial,apps,ms,cs⟩)) (.cells #[.slice aa al ac] 32)
 have hI0:=ApmInv.below (w:=w) (l:=[]) ⟨⟨_,apmW_own w (svc ⟨qa,ql,qc,aa,al,ac,ma,ml,mc,ca,cl,cc⟩ ⟨qs,clock,epoch,next,serial,apps,ms,cs⟩),knownA_empty⟩,apmW_var w _⟩ (yA (yH _ _) (.cells #[.slice aa al ac] 32))
 have hBs:=(yD (apmW w (svc ⟨qa,ql,qc,aa,al,ac,ma,ml,mc,ca,cl,cc⟩ ⟨qs,clock,epoch,next,serial,apps,ms,cs⟩)) #[.slice aa al ac] 32).at 0
 rw [apmW_size] at hBs
 obtain ⟨W0,hW0⟩:∃W0,(apmW w (svc ⟨qa,ql,qc,aa,al,ac,ma,ml,mc,ca,cl,cc⟩ ⟨qs,clock,epoch,next,serial,apps,ms,cs⟩)).alloc (.cells #[.slice aa al ac] 32)=W0:=⟨_,rfl⟩
 rw [hW0] at hsz0 hB0 hI0 hBs
 have HC:=hide (backA_stops (3 - 1) (w.heap.size+1+1+1) al ac aa hs W0 hBs ((uH HR).below hB0) hl (uH HN))
 show Code.wpIn _ _ _ _ _ _ ((apmW w (svc ⟨qa,ql,qc,aa,al,ac,ma,ml,mc,ca,cl,cc⟩ ⟨qs,clock,epoch,next,serial,apps,ms,cs⟩)).alloc (.cells #[.slice aa al ac] 32))
 rw [hW0]
 clear hW0 hBs
 refine wpIn_rangeFunc_ownH rfl (by omega) (gf:=193) (lb:=#[.pointer (some ⟨w.heap.size+1+1+1,0,none⟩)]) rfl trivial (enters_of Tryz.func193 (by kernel_rfl) rfl)
  (uH HC) kpa_t kpa_b (yH _ _) (fun _=>rfl)
  (fun pre W=>ApmInv w ((pre.map (fun x:Int×NAV=>x.2.1)).reverse) W∧Below w.heap.size w W)
  (fun _ _ _=>False)
  (OwnFrom.and (fun s X Y row hs hg hr=>ApmInv.grown hs hg (fun r e=>by have:=(hr r e).1;omega)) (ownFrom_below (yJ _) (by omega)))
  (fun _ _ _ _ _ hs _ _=>hs)
  ⟨hI0,hB0⟩
  (fun x a' W=>∃Bx,w.heap.size+1+1<Bx∧Blk W Bx #[.int .i64 x.2.1.id,.string (bs x.2.1.queue),.slice x.2.1.ao x.2.1.len x.2.1.cap] 106∧a' = { tmps:=#[sv ⟨qa,ql,qc,aa,al,ac,ma,ml,mc,ca,cl,cc⟩ ⟨qs,clock,epoch,next,serial,apps,ms,cs⟩,.pointer (some ⟨w.heap.size,0,none⟩),.map none,.pointer (some ⟨w.heap.size+1+1,0,none⟩),undef,.pointer (some ⟨Bx,0,none⟩),.map (some (w.heap.size+1)),.pointer (some ⟨w.heap.size,5,none⟩),.slice aa al ac,.func (.func 193) #[] #[.pointer (some ⟨w.heap.size+1+1+1,0,none⟩)],.int .i64 x.1,avv x.2.1,undef,undef,undef,undef,undef],defers:=[] })
  (fun x a' _ X Y row hs hg hr=>by
   obtain ⟨Bx,h1,h2,h3⟩:=hs
   refine ⟨Bx,h1,(hg.block Bx h2.lt (fun e=>?_)).trans h2,h3⟩
   obtain ⟨_,o,ho,hc⟩:=hr Bx e.symm
   rw [show X.heap[Bx]? = _ from h2] at ho
   cases ho
   cases hc)
  ?assign ?body ?done ?stop
 case assign=>
  rintro lp pre ⟨i,⟨⟨id,qu,zo,zl,zc⟩,hnm⟩⟩ W K ⟨hI,hB⟩ hK
  have hlt:=hI.2.lt
  gi_wp2
  exact hK _ _ ((KeepsOthers.alloc _ _).from _) (kpa_below (yA (yH _ W) _)) ⟨hI.below (yA (yH _ W) _),yA hB _⟩ ⟨W.heap.size,hlt,yD W _ _,rfl⟩
 case body=>
  rintro lp pre ⟨i,⟨⟨id,qu,zo,zl,zc⟩,hnm⟩⟩ a' W hlp _ ⟨hI,hB⟩ ⟨Bx,hBx,hX,rfl⟩ hlt
  have HI:=hide hI
  have HX:=hide hX
  have HB:=hide hB
  have x0:=hX.at 0
  have x1:=hX.at 1
  have x2:=hX.at 2
  have v0:=hI.2.at 0
  simp at x0 x1 x2 v0
  have hpl:pre.length<1048576:=by have:=uH HL;omega
  clear hI hX hB
  obtain ⟨kl,hkey⟩:=keyKey (nm:=[]) (k:=id) (by decide) hnm
  have HKEY:=hide hkey
  clear hkey
  gi_wp2_with fail
  gi_region_with_o (first | (first | refine ⟨trivial,?_⟩ | skip);(first | refine ⟨(by intro e;cases e),?_⟩ | skip);refine (CallsIn.inRound lp (callsIn_wide.2 (appKey_any ⟨id,qu,zo,zl,zc⟩ _))).mono ?_;rintro e wc ⟨rfl,hbc⟩;have HW3:=hide (yB (yH _ W).drew hbc);have y0:=((uH HX).below (uH HW3)).at 0;have y1:=((uH HX).below (uH HW3)).at 1;have y2:=((uH HX).below (uH HW3)).at 2;have u0:=((uH HI).below (uH HW3)).2.at 0;simp at y0 y1 y2 u0;obtain ⟨D,hown,hk⟩:=((uH HI).below (uH HW3)).1;obtain ⟨w4,hrun,hown2,hgrow2⟩:=hown.update keyLaw Tryz.underlying153 (by unfold maxLen;simp;omega) (uH HKEY) (appElem_mk ⟨id,qu,zo,zl,zc⟩);have HFIN:=hide (And.intro hown2 (And.intro hgrow2 (KnownA.put (m:=⟨id,qu,zo,zl,zc⟩) hk hown.isMap (uH HKEY))));clear hown2 hgrow2 hk hown hbc)
  all_goals gi_wp2
  all_goals
   obtain ⟨f1,f2,f3⟩:=uH HFIN
   have hbelow:=(uH HW3)
   have hv4:=(f2.block _ ((uH HI).below hbelow).2.lt (by simp)).trans ((uH HI).below hbelow).2
   have hmi:ApmInv w (⟨id,qu,zo,zl,zc⟩::(pre.map (fun x:Int×NAV=>x.2.1)).reverse) w4:=⟨⟨_,f1,f3⟩,hv4⟩
   refine ⟨((keepsO_below hbelow).from _).trans (KeepsFrom.of_grownBy f2 (fun j e=>by cases e;omega)),kpa_t (kpa_below hbelow) (fun k o ho hc=>(f2.block k (lt_of_block ho) (fun e=>?_)).trans ho),by simpa using hmi,?_⟩
   ·obtain ⟨D',hD',_⟩:=((uH HI).below hbelow).1
    obtain ⟨es,ck,hm',_⟩:=hD'
    obtain rfl:k=w.heap.size+1:=by simpa using e
    rw [hm'] at ho
    cases ho
    cases hc
   ·exact ((uH HB).trans (hbelow.mono (uH HB).size)).grown f2 (by have:=(uH HB).size;have:=hbelow.size;omega) (fun k e=>by cases e;omega)
 case done=>
  rintro D ys W hD hys ⟨hI,hB⟩ hK
  rw [uH hys,List.reverse_reverse] at hI
  have v0:=hI.2.at 0
  simp at v0
  have HI:=hide hI
  have HB:=hide hB
  clear hI hB
  gi_wp2
  refine ⟨by simp,.inl ⟨_,_,rfl,run_takeDeferred hK,?_⟩⟩
  exact ⟨_,results_tmp rfl _ _ _,rfl,(uH HI).grown (grownBy_putObj' W D _) (fun r e=>by cases e;omega),(uH HB).trans (belowK_b (w:=w) (yJ _) W D _ _ (by omega) hK rfl rfl)⟩
 case stop=>
  rintro D c pre W _ _ h _
  exact h.elim
theorem apps_ex (x:Sls) (s:St) (hs:List AV) (w:World) (h:AVRow w x.aa x.al hs) (hl:x.al≤1048576) (hn:∀m ∈ hs,(Lit.int .i64 m.id).wf=true) :
  Calls Tryz.prog 121 #[sv x s] w fun e w'=>∃bm,e=.returned (.map (some bm))∧(w.heap.size≤bm∧∃D,w'.ownsMap Tryz.prog 160 appElem bm hs.length D∧KnownA hs allA D)∧Below w.heap.size w w':=
 (apps_any x s hs w h hl hn).mono fun e w' ⟨h1,h2,h3⟩=>⟨_,h1,⟨by omega,h2.1⟩,h3⟩
end
section
open Go.RowKit Go.Maps
def appOfV (s:St) (id:Int):Appl×Bool:=match findAp id s.apps with
 | none=>(⟨0,[],[]⟩,false)
 | some a=>(a,true)
def appW (w:World) (c:Array Value):World:=(w.alloc (.cells c 36)).alloc (.cells #[.int .i64 0,.string ByteArray.empty,.slice none 0 0] 106)
theorem appW_size (w:World) (c:Array Value):(appW w c).heap.size=w.heap.size+1+1:=by simp only [appW,yE]
theorem appW_below (w:World) (c:Array Value):Below w.heap.size w (appW w c):=yA (yA (yH _ w) _) _
theorem appW_box (w:World) (c:Array Value):Blk (appW w c) w.heap.size c 36:=(yD w c _).al _
theorem appW_var (w:World) (c:Array Value):Blk (appW w c) (w.heap.size+1) #[.int .i64 0,.string ByteArray.empty,.slice none 0 0] 106:=by
 have:=yD (w.alloc (.cells c 36)) #[.int .i64 0,.string ByteArray.empty,.slice none 0 0] 106
 rwa [yE] at this
end
section
open Go.RowKit
theorem min_runW (x y:Int) (wx:World):(Builtin.min_ #[3,3] 3 #[.int .i64 x,.int .i64 y]).run Tryz.prog wx=.ok (.int .i64 (min x y)) wx:=by
 have:(if y<x then y else x)=min x y:=by omega
 simp [go_sem,this]
theorem max_runW (x y:Int) (wx:World):(Builtin.max_ #[3,3] 3 #[.int .i64 x,.int .i64 y]).run Tryz.prog wx=.ok (.int .i64 (max x y)) wx:=by
 have:(if x<y then y else x)=max x y:=by omega
 simp [go_sem,this]
theorem lackOf_any (d u v:Int) (w:World) (hd:0≤d∧d≤1000000000) (hu:0≤u∧u≤1000000000) :
  Calls Tryz.prog 88 #[.int .i64 d,.int .i64 u,.int .i64 v] w fun e w'=>e=.returned (.int .i64 (lack1 d u v))∧w'=w:=by
 have h1:=max_runW (d - u) 0
 have h2:=min_runW (max (d - u) 0) v
 obtain ⟨hd0,hd1⟩:=hd
 obtain ⟨hu0,hu1⟩:=hu
 obtain ⟨t,ht⟩:∃t,max (d - u) 0=t:=⟨_,rfl⟩
 have h4:lack1 d u v=min t v:=by rw [lack1,ht]
 rw [ht] at h1 h2
 rw [h4]
 clear h4 ht
 go_enter Tryz.func88,Tryz.ntmps88
 go_wp2
 go_ret
 exact ⟨rfl,rfl⟩
theorem wantedBeside_any (q:Ask) (x y:Int) (w:World) (ha:askOk q=true) (hr:resOk x y=true) :
  Calls Tryz.prog 137 #[askv q,rv x y] w fun e w'=>e=.returned (rv (wantOne (x,y) q).1 (wantOne (x,y) q).2)∧Below w.heap.size w w':=by
 obtain ⟨m0,m1,n0,n1,x0,x1,y0,y1⟩:=ask_bd ha hr
 obtain ⟨a0,a1,b0,b1,c0,c1⟩:=askOk_bd ha
 rw [wantOne_yes ha]
 clear ha hr
 obtain ⟨me,cp,ct,nd,ms⟩:=q
 simp only at m0 m1 n0 n1 a0 a1 b0 b1 c0 c1 ⊢
 have h1:=min_runW (x+me*ct) 1000000000
 have h2:=min_runW (y+cp*ct) 1000000000
 rw [Int.min_comm] at h1 h2
 obtain ⟨u,hu⟩:∃t,min 1000000000 (x+me*ct)=t:=⟨_,rfl⟩
 obtain ⟨v,hv⟩:∃t,min 1000000000 (y+cp*ct)=t:=⟨_,rfl⟩
 rw [hu] at h1 ⊢
 rw [hv] at h2 ⊢
 clear hu hv
 go_enter Tryz.func137,Tryz.ntmps137
 go_wp2
 refine bodyPost_ret (v:=rv u v) (by simp [results,Tryz.results137,go_sem]) rfl ⟨rfl,?_⟩
 repeat (first | exact yH _ _ | refine yA ?_ _ | refine Below.drew ?_ | refine yC ?_ _ _ _ (by omega))
theorem wanted_any (x:Sls) (s:St) (nm:List UInt8) (w:World) (h:SRow w x s) (hf:FitSt s) :
  Calls Tryz.prog 87 #[sv x s,.string (bs nm)] w fun e w'=>e=.returned (rv (wantV s nm).1 (wantV s nm).2)∧Below w.heap.size w w':=by
 have hal:x.al≤1048576:=h.al hf
 have HR:=hide h.2.1
 have HL:=hide h.2.1.1
 have HFA:=hide hf.2.1
 obtain ⟨⟨zx,zy⟩,hz⟩:∃z,wantV s nm=z:=⟨_,rfl⟩
 have HZ:=hide (show wantApps nm (s.apps.drop 0) (0,0)=(zx,zy) from hz)
 rw [hz]
 clear h hf hz
 obtain ⟨qa,ql,qc,aa,al,ac,ma,ml,mc,ca,cl,cc⟩:=x
 obtain ⟨qs,clock,epoch,next,serial,apps,ms,cs⟩:=s
 simp only at hal HR HL HFA HZ
 have HB1:=hide (capW_below w (svc ⟨qa,ql,qc,aa,al,ac,ma,ml,mc,ca,cl,cc⟩ ⟨qs,clock,epoch,next,serial,apps,ms,cs⟩))
 have V1:=hide (capW_var w (svc ⟨qa,ql,qc,aa,al,ac,ma,ml,mc,ca,cl,cc⟩ ⟨qs,clock,epoch,next,serial,apps,ms,cs⟩))
 have hsz:=capW_size w (svc ⟨qa,ql,qc,aa,al,ac,ma,ml,mc,ca,cl,cc⟩ ⟨qs,clock,epoch,next,serial,apps,ms,cs⟩)
 obtain ⟨W1,hW1⟩:∃W,capW w (svc ⟨qa,ql,qc,aa,al,ac,ma,ml,mc,ca,cl,cc⟩ ⟨qs,clock,epoch,next,serial,apps,ms,cs⟩)=W:=⟨_,rfl⟩
 rw [hW1] at HB1 V1 hsz
 have HSZ:=hide hsz
 have HV:=hide (show Var _ 52 (w.heap.size+1+1) 0 0 by have:=var_new W1 52 0 0;rwa [hsz] at this)
 have HK0:=hide (show Kp W1 _ from yA (yH _ W1) (.cells #[.int .i64 0,.int .i64 0] 52))
 have HW1:=hide hW1
 clear hW1 hsz
 go_enter Tryz.func87,Tryz.ntmps87
 go_wp2
 go_loopw [14] (fun i wr=>∃(k:Nat) (a b:Int),k≤al∧i=.int .i64 k∧Hid (wantApps nm (apps.drop k) (a,b)=(zx,zy))∧Hid (resOk a b=true)∧Hid (Var wr 52 (w.heap.size+1+1) a b)∧Hid (Kp W1 wr)) (fun i _=>al - (intOf i).toNat)
 case atStart=>
  obtain rfl:=uH HW1
  exact ⟨0,0,0,Nat.zero_le _,rfl,HZ,hide resOk_zero,HV,HK0⟩
 case round=>
  obtain ⟨k,a,b,hk,rfl,HQ,HO,HVr,HK⟩:=hrel
  obtain ⟨wo,rfl⟩:∃wo:World,wo=wr:=⟨_,rfl⟩
  clear HV HK0 HZ
  by_cases hlt:k<al
  ·obtain ⟨bb,off,rfl,hq⟩:=(uH HR).at hlt
   have KW:=hide (show Kp w wo from yB (uH HB1) (uH HK))
   have hkl:k<apps.length:=by have:=uH HL;omega
   have hst:=wantApps_step (nm:=nm) hkl (a,b)
   have hfa:=(uH HFA).2 _ (yM hkl)
   obtain ⟨xo,xl,xc,c0,c1,c2,hrow,_⟩:=hq hkl
   replace c0:=(uH KW).cell c0
   replace c1:=(uH KW).cell c1
   replace c2:=(uH KW).cell c2
   obtain ⟨⟨id,qu,asks⟩,hs⟩:∃s,apps[k]=s:=⟨_,rfl⟩
   rw [hs] at c0 c1 hst hrow hfa
   simp only at c0 c1 hst hrow
   rw [uH HQ] at hst
   have hxl:xl≤1048576:=by have h1:=hrow.1;have h2:=hfa.2.1;simp only at h2;omega
   have HA:=hide hrow
   have HAL:=hide hrow.1
   have HNA:=hide hfa.2.2
   have k0:(0:Int)≤k:=by omega
   have k1:(k:Int)<al:=by omega
   clear hq hs hkl hrow hfa HQ
   by_cases hqn:qu=nm
   case neg=>
    have hqe:=bs_eq qu nm
    rw [decide_eq_false hqn] at hqe
    rw [if_neg hqn] at hst
    have HST:=hide hst
    clear hst
    go_wp2
    go_roundw
    case rel=>exact ⟨k+1,a,b,by omega,by go_num,hide (uH HST).symm,HO,hide ((uH HVr).al _),hide (yA (uH HK) _)⟩
    case measure=>simp [intOf];omega
   subst hqn
   have hqe:=bs_eq qu qu
   rw [decide_eq_true rfl] at hqe
   rw [if_pos rfl] at hst
   have hok:=wantAsks_ok asks (a,b) (uH HO)
   obtain ⟨⟨ax,ay⟩,hax⟩:∃z,wantAsks asks (a,b)=z:=⟨_,rfl⟩
   rw [hax] at hst hok
   have HST:=hide hst
   have HOK:=hide hok
   have HX:=hide (show wantAsks (asks.drop 0) (a,b)=(ax,ay) from hax)
   have HV2:=hide ((uH HVr).al (.cells #[.int .i64 id,.string (bs qu),.slice xo xl xc] 106))
   have HK2:=hide (show Kp W1 _ from yA (uH HK) (.cells #[.int .i64 id,.string (bs qu),.slice xo xl xc] 106))
   clear hst hok hax
   go_wp2
   go_loopw [25] (fun i wr=>∃(j:Nat) (a b:Int),j≤xl∧i=.int .i64 j∧Hid (wantAsks (asks.drop j) (a,b)=(ax,ay))∧Hid (resOk a b=true)∧Hid (Var wr 52 (w.heap.size+1+1) a b)∧Hid (Kp W1 wr)) (fun i _=>xl - (intOf i).toNat)
   case atStart=>exact ⟨0,a,b,Nat.zero_le _,rfl,HX,HO,HV2,HK2⟩
   case round=>
    obtain ⟨j,a',b',hj,rfl,HQ',HO',HVj,HKj⟩:=hrel
    clear HV2 HK2 HX HVr HK HO
    by_cases hjl:j<xl
    ·obtain ⟨ab,aoff,rfl,ha⟩:=((uH HA).below (yB (uH HB1) (uH HKj))).at hjl
     have hjk:j<asks.length:=by have:=uH HAL;omega
     have hst:=wantAsks_step hjk (a',b')
     have hnd:=uH HNA _ (yM hjk)
     obtain ⟨d0,d1,d2,d3,d4⟩:=ha hjk
     obtain ⟨q,hs⟩:∃s,asks[j]=s:=⟨_,rfl⟩
     rw [hs] at d0 d1 d2 d3 d4 hst hnd
     rw [uH HQ'] at hst
     have CA:=hide (fun wx=>askOk_any q wx hnd)
     have j0:(0:Int)≤j:=by omega
     have j1:(j:Int)<xl:=by omega
     have HST':=hide hst
     clear ha hs hjk hnd hst HQ'
     cases hak:askOk q with
     | false=>
      rw [hak] at CA
      have HE:=hide (show wantAsks (asks.drop (j+1)) (a',b')=(ax,ay) by rw [uH HST',wantOne_no hak])
      clear HST' hak
      obtain ⟨me,cp,ct,nd,mi⟩:=q
      simp only at d0 d1 d2 d3 d4
      have HV4:=hide ((uH HVj).al (.cells #[.int .i64 me,.int .i64 cp,.int .i64 ct,.string (bs nd),.int .i64 mi] 140))
      have HK4:=hide (show Kp W1 _ from yA (uH HKj) (.cells #[.int .i64 me,.int .i64 cp,.int .i64 ct,.string (bs nd),.int .i64 mi] 140))
      go_wp2_with fail
      refine (uH CA _).mono ?_
      rintro e w5 ⟨rfl,hb⟩
      have HV5:=hide ((uH HV4).below hb)
      have HK5:=hide (show Kp W1 _ from yB (uH HK4) hb)
      clear hb HV4 HK4 CA
      go_wp2
      go_roundw
      case rel=>exact ⟨j+1,a',b',by omega,by go_num,HE,HO',HV5,HK5⟩
      case measure=>simp [intOf];omega
     | true=>
      rw [hak] at CA
      have hok2:=wantOne_ok (p:=(a',b')) q (uH HO')
      have CB:=hide (fun wx=>wantedBeside_any q a' b' wx hak (uH HO'))
      obtain ⟨⟨na,nb⟩,hn⟩:∃z,wantOne (a',b') q=z:=⟨_,rfl⟩
      rw [hn] at CB hok2
      have HE:=hide (show wantAsks (asks.drop (j+1)) (na,nb)=(ax,ay) by rw [uH HST',hn])
      have HO2:=hide hok2
      clear HST' hak hn hok2
      obtain ⟨me,cp,ct,nd,mi⟩:=q
      simp only at d0 d1 d2 d3 d4 CB
      have HV4:=hide ((uH HVj).al (.cells #[.int .i64 me,.int .i64 cp,.int .i64 ct,.string (bs nd),.int .i64 mi] 140))
      have HK4:=hide (show Kp W1 _ from yA (uH HKj) (.cells #[.int .i64 me,.int .i64 cp,.int .i64 ct,.string (bs nd),.int .i64 mi] 140))
      have P4:=hide (yD wr #[.int .i64 me,.int .i64 cp,.int .i64 ct,.string (bs nd),.int .i64 mi] 140)
      go_wp2_with fail
      refine (uH CA _).mono ?_
      rintro e w5 ⟨rfl,hb⟩
      have HV5:=hide ((uH HV4).below hb)
      have HK5:=hide (show Kp W1 _ from yB (uH HK4) hb)
      have P5:=(uH P4).below hb
      have e0:=P5.at 0
      have e1:=P5.at 1
      have e2:=P5.at 2
      have e3:=P5.at 3
      have e4:=P5.at 4
      simp at e0 e1 e2 e3 e4
      have v0:=(uH HV5).c0
      have v1:=(uH HV5).c1
      clear hb HV4 HK4 P4 P5 CA
      go_wp2_with fail
      refine (uH CB _).mono ?_
      rintro e w6 ⟨rfl,hb⟩
      have HV6:=hide ((uH HV5).below hb)
      have HK6:=hide (show Kp W1 _ from yB (uH HK5) hb)
      have u0:=(uH HV6).f 0
      have u1:=(uH HV6).f 1
      have v2:=(uH HV6).c0
      have v3:=(uH HV6).c1
      clear hb HV5 HK5 CB e0 e1 e2 e3 e4 v0 v1
      go_wp2
      go_roundw
      case rel=>exact ⟨j+1,na,nb,by omega,by go_num,HE,HO2,hide ((uH HV6).set _ _),hide (yC (yC (uH HK6) _ _ _ (by rw [uH HSZ];omega)) _ _ _ (by rw [uH HSZ];omega))⟩
      case measure=>simp [intOf];omega
    ·have hen:=wantAsks_end (l:=asks) (k:=j) (by have:=uH HAL;omega) (a',b')
     rw [uH HQ'] at hen
     simp only [Prod.mk.injEq] at hen
     obtain ⟨rfl,rfl⟩:=hen
     have j1:¬(j:Int)<xl:=by omega
     go_wp2
     go_roundw
     case rel=>exact ⟨k+1,ax,ay,by omega,by go_num,hide (uH HST).symm,HOK,HVj,HKj⟩
     case measure=>simp [intOf];omega
  ·have hen:=wantApps_end (nm:=nm) (l:=apps) (k:=k) (by have:=uH HL;omega) (a,b)
   rw [uH HQ] at hen
   simp only [Prod.mk.injEq] at hen
   obtain ⟨rfl,rfl⟩:=hen
   have k1:¬(k:Int)<al:=by omega
   have VR:=(uH V1).below (uH HK)
   have v0:=(uH HVr).c0
   have v1:=(uH HVr).c1
   have g0:=VR.c0
   have g1:=VR.c1
   have k2:=VR.f 0
   have k3:=VR.f 1
   have k4:=VR.s0 (.int .i64 zx)
   have k5:=VR.s1 (.int .i64 zx) (.int .i64 zy)
   have HB9:=hide (yB (uH HB1) (uH HK))
   go_wp2
   refine bodyPost_ret (v:=rv zx zy) (by simp [results,Tryz.results87,go_sem,k4,k5]) rfl ⟨rfl,?_⟩
   repeat (first | exact uH HB9 | refine yA ?_ _ | refine yC ?_ _ _ _ (by omega))
end
end Go.Proofs.YtokabeokclpljaaGreat
