/-
  Texts in one: OkB, AppsI, OwnG, AgC, AgO.
-/
import Derived.Test.YtmkedfdnokmglaaGreatSackG
import Derived.Test.YtmkedfdnokmglaaGreatSackE
set_option maxRecDepth 100000
set_option maxHeartbeats 16000000
set_option linter.unusedVariables false
set_option linter.unusedSimpArgs false
namespace Go.Proofs.YtmkedfdnokmglaaGreat
section
open Go.RowKit
def idxK (p:Ask→Bool):List Ask→Nat→Int
 | [],_=>-1
 | q::t,k=>if p q=true then (k:Int) else idxK p t (k+1)
theorem idxK_step {p:Ask→Bool} {l:List Ask} {k:Nat} (h:k<l.length):idxK p (l.drop k) k=if p l[k]=true then (k:Int) else idxK p (l.drop (k+1)) (k+1):=by
 rw [List.drop_eq_getElem_cons h,idxK]
theorem idxK_end {p:Ask→Bool} {l:List Ask} {k:Nat} (h:l.length≤k):idxK p (l.drop k) k = -1:=by
 rw [List.drop_of_length_le h];rfl
theorem idxK_has (p:Ask→Bool):∀(l:List Ask) (k:Nat),decide (0≤idxK p l k)=l.any p
 | [],_=>by simp [idxK]
 | q::t,k=>by
  rw [idxK,List.any_cons]
  by_cases h:p q=true
  ·rw [if_pos h,h];simp
  ·rw [if_neg h,idxK_has p t (k+1)];simp [h]
theorem indexFuncK_any (g:Nat) (lb:Array Value) (eg:∀args w,(callFunc g args).run Tryz.prog w=.ok (.enter g args) w) (p:Ask→Bool) (ao:Option Addr) (len cap:Nat) (l:List Ask) (w:World) (h:AskRow w ao len l) (hl:len≤1048576)
  (hp:∀wx (q:Ask),q ∈ l→Below w.heap.size w wx→Calls Tryz.prog g (#[askv q]++lb) wx fun e w'=>e=.returned (.bool (p q))∧Below wx.heap.size wx w') :
  Calls Tryz.prog 189 #[.slice ao len cap,.func (.func g) #[] lb] w fun e w'=>e=.returned (.int .i64 (idxK p l 0))∧Below w.heap.size w w':=by
 have HR:=hide h
 have HL:=hide h.1
 have HP:=hide hp
 clear h hp
 go_enter Tryz.func189,Tryz.ntmps189
 go_wp2
 go_loopw [5,8] (fun _ i wr=>∃k:Nat,k≤len∧i=.int .i64 k∧Hid (idxK p l 0=idxK p (l.drop k) k)∧Hid (Below w.heap.size w wr)) (fun _ i _=>len - (intOf i).toNat)
 case atStart=>exact ⟨0,Nat.zero_le _,rfl,hide (by simp),hide (yH _ _)⟩
 case round=>
  obtain ⟨k,hk,rfl,hq,HB⟩:=hrel
  by_cases hlt:k<len
  ·obtain ⟨b,off,rfl,hx⟩:=((uH HR).below (uH HB)).at hlt
   have hkl:k<l.length:=by have:=uH HL;omega
   have hst:=hide (idxK_step (p:=p) (l:=l) (k:=k) hkl)
   obtain ⟨c0,c1,c2,c3,c4⟩:=hx hkl
   clear hx
   have HC:=hide (uH HP wr l[k] (yM _) (uH HB))
   obtain ⟨⟨y0,y1,y2,nd,y4⟩,hs⟩:∃s,l[k]=s:=⟨_,rfl⟩
   rw [hs] at c0 c1 c2 c3 c4 hst HC
   simp only at c0 c1 c2 c3 c4
   clear hs hkl HP
   cases hpq:p ⟨y0,y1,y2,nd,y4⟩ with
   | true=>
    rw [hpq] at HC
    have HQ:=hide hpq
    clear hpq
    go_wp2_with (go_at_fn g;refine (uH HC).mono ?_;rintro e w' ⟨rfl,hb⟩)
    go_ret
    exact ⟨ret_int (by rw [uH hq,uH hst,if_pos (uH HQ)]),yB (uH HB) hb⟩
   | false=>
    rw [hpq] at HC
    have HQ:=hide hpq
    clear hpq
    go_wp2_with (go_at_fn g;refine (uH HC).mono ?_;rintro e w' ⟨rfl,hb⟩)
    go_roundw
    case rel=>exact ⟨k+1,by omega,by go_num,hide (by rw [uH hq,uH hst,if_neg (by rw [uH HQ];simp)]),hide (yB (uH HB) hb)⟩
    case measure=>simp [intOf];omega
  ·go_wp2
   go_ret
   exact ⟨ret_int (by rw [uH hq,idxK_end (by have:=uH HL;omega)]),uH HB⟩
theorem containsFuncK_any (g:Nat) (lb:Array Value) (eg:∀args w,(callFunc g args).run Tryz.prog w=.ok (.enter g args) w) (p:Ask→Bool) (ao:Option Addr) (len cap:Nat) (l:List Ask) (w:World) (h:AskRow w ao len l) (hl:len≤1048576)
  (hp:∀wx (q:Ask),q ∈ l→Below w.heap.size w wx→Calls Tryz.prog g (#[askv q]++lb) wx fun e w'=>e=.returned (.bool (p q))∧Below wx.heap.size wx w') :
  Calls Tryz.prog 175 #[.slice ao len cap,.func (.func g) #[] lb] w fun e w'=>e=.returned (.bool (l.any p))∧Below w.heap.size w w':=by
 have C:=hide (indexFuncK_any g lb eg p ao len cap l w h hl hp)
 have HS:=hide (idxK_has p l 0)
 obtain ⟨i,hi⟩:∃i,idxK p l 0=i:=⟨_,rfl⟩
 obtain ⟨b,hb⟩:∃b,l.any p=b:=⟨_,rfl⟩
 rw [hi] at C HS
 rw [hb] at HS ⊢
 clear h hp hi hb
 go_enter Tryz.func175,Tryz.ntmps175
 go_wp2_with fail
 refine (uH C).mono ?_
 rintro e w1 ⟨rfl,hb⟩
 have HB:=hide hb
 clear hb
 by_cases h0:0≤i
 ·go_wp2
  go_ret
  exact ⟨yF (by first | exact uH HS | (rw [←uH HS];simp [h0])),uH HB⟩
 ·go_wp2
  go_ret
  exact ⟨yF (by first | exact uH HS | (rw [←uH HS];simp [h0])),uH HB⟩
theorem askNot_any (q:Ask) (w:World) (hn:q.node.length≤1048576) :
  Calls Tryz.prog 176 #[askv q] w fun e w'=>e=.returned (.bool (!askOk q))∧Below w.heap.size w w':=by
 have C:=hide (askOk_any q (w.alloc (.cells #[.int .i64 q.mem,.int .i64 q.cpu,.int .i64 q.count,.string (bs q.node),.int .i64 q.missed] 198)) hn)
 obtain ⟨o,ho⟩:∃o,askOk q=o:=⟨_,rfl⟩
 rw [ho] at C ⊢
 obtain ⟨y0,y1,y2,nd,y4⟩:=q
 clear ho
 go_enter Tryz.func176,Tryz.ntmps176
 go_wp2_with fail
 refine (uH C).mono ?_
 rintro e w1 ⟨rfl,hb⟩
 have HB:=hide (yB (yA (yH _ w) _) hb)
 clear hb C
 cases o
 ·go_wp2
  go_ret
  exact ⟨rfl,uH HB⟩
 ·go_wp2
  go_ret
  exact ⟨rfl,uH HB⟩
def asksOk (l:List Ask):Bool:=decide (l.length≤10)&&l.all askOk
theorem asksOk_any (id:Int) (qu:List UInt8) (ao:Option Addr) (len cap:Nat) (l:List Ask) (w:World) (h:AskRow w ao len l) (hl:len≤1048576) (hn:∀q ∈ l,q.node.length≤1048576) :
  Calls Tryz.prog 158 #[applv id qu ao len cap] w fun e w'=>e=.returned (.bool (asksOk l))∧Below w.heap.size w w':=by
 have hb0:=yA (yH _ w) (.cells #[.int .i64 id,.string (bs qu),.slice ao len cap] 174)
 have C:=hide (containsFuncK_any 176 #[] (enters_of Tryz.func176 (by kernel_rfl) rfl) (fun q=>!askOk q) ao len cap l _ (h.below hb0) hl (fun wx q hq _=>askNot_any q wx (hn q hq)))
 have HS:=hide (show asksOk l=(decide (len≤10)&&!(l.any fun q=>!askOk q)) by rw [asksOk,←h.1];congr 1;rw [List.not_any_eq_all_not];simp)
 obtain ⟨o,ho⟩:∃o,asksOk l=o:=⟨_,rfl⟩
 obtain ⟨b,hb⟩:∃o,(l.any fun q=>!askOk q)=o:=⟨_,rfl⟩
 rw [ho] at HS ⊢
 rw [hb] at HS C
 have HB0:=hide hb0
 clear ho hb h hn hb0
 by_cases h10:len≤10
 ·have hi:(len:Int)≤10:=by omega
  rw [decide_eq_true h10] at HS
  clear h10
  go_enter Tryz.func158,Tryz.ntmps158
  go_wp2_with fail
  refine (uH C).mono ?_
  rintro e w1 ⟨rfl,hb⟩
  have HB:=hide (yB (uH HB0) hb)
  clear hb C HB0
  go_wp2
  go_ret
  exact ⟨yF (by rw [uH HS];simp),uH HB⟩
 ·have hi:¬(len:Int)≤10:=by omega
  rw [decide_eq_false h10] at HS
  clear h10 C
  go_enter Tryz.func158,Tryz.ntmps158
  go_wp2
  go_ret
  exact ⟨yF (by rw [uH HS];simp),uH HB0⟩
def numsOk (s:St):Bool:=inB s.clock 0 1000000000&&(inB s.epoch 1 1000000000&&(inB s.next 1 1000000000&&inB s.serial 1 1000000000))
theorem numbersOk_any (x:Sls) (s:St) (w:World) :
  Calls Tryz.prog 137 #[sv x s] w fun e w'=>e=.returned (.bool (numsOk s))∧Below w.heap.size w w':=by
 obtain ⟨qa,ql,qc,aa,al,ac,ma,ml,mc,ca,cl,cc⟩:=x
 obtain ⟨qs,clock,epoch,next,serial,apps,ms,cs⟩:=s
 have HB0:=hide (yA (yH _ w) (.cells (svc ⟨qa,ql,qc,aa,al,ac,ma,ml,mc,ca,cl,cc⟩ ⟨qs,clock,epoch,next,serial,apps,ms,cs⟩) 42))
 simp only [numsOk]
 obtain ⟨b0,h0⟩:∃b,inB clock 0 1000000000=b:=⟨_,rfl⟩
 obtain ⟨b1,h1⟩:∃b,inB epoch 1 1000000000=b:=⟨_,rfl⟩
 obtain ⟨b2,h2⟩:∃b,inB next 1 1000000000=b:=⟨_,rfl⟩
 obtain ⟨b3,h3⟩:∃b,inB serial 1 1000000000=b:=⟨_,rfl⟩
 have C0:=hide (fun wx=>by have:=numberOk_any clock wx;rw [h0] at this;exact this)
 have C1:=hide (fun wx=>by have:=countOk_any epoch wx;rw [h1] at this;exact this)
 have C2:=hide (fun wx=>by have:=countOk_any next wx;rw [h2] at this;exact this)
 have C3:=hide (fun wx=>by have:=countOk_any serial wx;rw [h3] at this;exact this)
 rw [h0,h1,h2,h3]
 clear h0 h1 h2 h3
 go_enter Tryz.func137,Tryz.ntmps137
 go_wp2_with fail
 refine (uH C0 _).mono ?_
 rintro e w1 ⟨rfl,rfl⟩
 cases b0 with
 | false=>
  go_wp2
  go_ret
  exact ⟨rfl,uH HB0⟩
 | true=>
 go_wp2_with fail
 refine (uH C1 _).mono ?_
 rintro e w1 ⟨rfl,rfl⟩
 cases b1 with
 | false=>
  go_wp2
  go_ret
  exact ⟨rfl,uH HB0⟩
 | true=>
 go_wp2_with fail
 refine (uH C2 _).mono ?_
 rintro e w1 ⟨rfl,rfl⟩
 cases b2 with
 | false=>
  go_wp2
  go_ret
  exact ⟨rfl,uH HB0⟩
 | true=>
 go_wp2_with fail
 refine (uH C3 _).mono ?_
 rintro e w1 ⟨rfl,rfl⟩
 go_wp2
 go_ret
 exact ⟨yF (by simp),uH HB0⟩
end
section
open Go.RowKit Go.Shelf Go.Maps
attribute [local go_sem] Oper.semAt_some
def apmW (w:World) (c:Array Value):World:=((w.alloc (.cells c 42)).alloc (.map #[] 0)).alloc (.cells #[.map (some (w.heap.size+1))] 210)
theorem apmW_size (w:World) (c:Array Value):(apmW w c).heap.size=w.heap.size+1+1+1:=by simp only [apmW,yE]
theorem apmW_below (w:World) (c:Array Value):Below w.heap.size w (apmW w c):=yA (yA (yA (yH _ w) _) _) _
theorem apmW_own (w:World) (c:Array Value):(apmW w c).ownsMap Tryz.prog 217 appElem (w.heap.size+1) 0 (.map []):=by
 have:=(World.ownsMap_made (w.alloc (.cells c 42)) Tryz.prog 217 appElem).alloc (.cells #[.map (some (w.heap.size+1))] 210)
 rw [yE] at this
 exact this
theorem apmW_var (w:World) (c:Array Value):Blk (apmW w c) (w.heap.size+1+1) #[.map (some (w.heap.size+1))] 210:=by
 have:=yD ((w.alloc (.cells c 42)).alloc (.map #[] 0)) #[.map (some (w.heap.size+1))] 210
 rw [yE,yE] at this
 exact this
def ApmInv (w:World) (l:List AV) (W:World):Prop:=(∃D,W.ownsMap Tryz.prog 217 appElem (w.heap.size+1) l.length D∧KnownA l allA D)∧Blk W (w.heap.size+1+1) #[.map (some (w.heap.size+1))] 210
theorem ApmInv.grown {w W W':World} {l:List AV} {row:Option Nat} (h:ApmInv w l W) (hg:W.grownBy W' row) (hr:∀r,row=some r→w.heap.size+1+1<r):ApmInv w l W':=by
 obtain ⟨⟨D,h1,h2⟩,h3⟩:=h
 exact ⟨⟨D,h1.kept hg (fun e=>by have:=hr _ e.symm;omega),h2⟩,(hg.block _ h3.lt (fun e=>by have:=hr _ e.symm;omega)).trans h3⟩
theorem ApmInv.below {w W W':World} {l:List AV} (h:ApmInv w l W) (hb:Below W.heap.size W W'):ApmInv w l W':=h.grown (grownBy_below (grownBy_refl W none) hb) (fun r e=>by cases e)
theorem apps_any (x:Sls) (s:St) (hs:List AV) (w:World) (h:AVRow w x.aa x.al hs) (hl:x.al≤1048576) (hn:∀m ∈ hs,(Lit.int .i64 m.id).wf=true) :
  Calls Tryz.prog 160 #[sv x s] w fun e w'=>e=.returned (.map (some (w.heap.size+1)))∧ApmInv w hs w'∧Below w.heap.size w w':=by
 obtain ⟨qa,ql,qc,aa,al,ac,ma,ml,mc,ca,cl,cc⟩:=x
 obtain ⟨qs,clock,epoch,next,serial,apps,ms,cs⟩:=s
 simp only at h hl
 have HR:=hide h
 have HL:=hide h.1
 have HN:=hide hn
 have hmx:Tryz.prog.follows .mixedOrders=true:=by kernel_rfl
 have hmm:=fun (t:TypeId) (wx:World)=>run_makeMap (P:=Tryz.prog) t wx
 clear h hn
 refine (callsIn_wide (n:=3)).1 ?_
 refine callsIn_of_wp_marks Tryz.func160 rfl trivial ?_ rfl
 simp only [Tryz.ntmps160,List.size_toArray,List.length_cons,List.length_nil,Nat.reduceAdd,Nat.reduceSub,Array.replicate_succ,Array.replicate_zero,List.push_toArray,List.append_toArray,List.nil_append,List.cons_append]
 gi_wp2_with fail
 first | refine ⟨trivial,?_⟩ | skip
 first | refine ⟨(by intro e;cases e),?_⟩ | skip
 refine (callsIn_wide.2 (backA_any (.slice aa al ac) _ rfl)).mono ?_
 rintro e w4 ⟨rfl,rfl⟩
 gi_wp2
 have hsz0:=yE (apmW w (svc ⟨qa,ql,qc,aa,al,ac,ma,ml,mc,ca,cl,cc⟩ ⟨qs,clock,epoch,next,serial,apps,ms,cs⟩)) (.cells #[.slice aa al ac] 38)
 rw [apmW_size] at hsz0
 have hB0:=yA (apmW_below w (svc ⟨qa,ql,qc,aa,al,ac,ma,ml,mc,ca,cl,cc⟩ ⟨qs,clock,epoch,next,serial,apps,ms,cs⟩)) (.cells #[.slice aa al ac] 38)
 have hI0:=ApmInv.below (w:=w) (l:=[]) ⟨⟨_,apmW_own w (svc ⟨qa,ql,qc,aa,al,ac,ma,ml,mc,ca,cl,cc⟩ ⟨qs,clock,epoch,next,serial,apps,ms,cs⟩),knownA_empty⟩,apmW_var w _⟩ (yA (yH _ _) (.cells #[.slice aa al ac] 38))
 have hBs:=(yD (apmW w (svc ⟨qa,ql,qc,aa,al,ac,ma,ml,mc,ca,cl,cc⟩ ⟨qs,clock,epoch,next,serial,apps,ms,cs⟩)) #[.slice aa al ac] 38).at 0
 rw [apmW_size] at hBs
 obtain ⟨W0,hW0⟩:∃W0,(apmW w (svc ⟨qa,ql,qc,aa,al,ac,ma,ml,mc,ca,cl,cc⟩ ⟨qs,clock,epoch,next,serial,apps,ms,cs⟩)).alloc (.cells #[.slice aa al ac] 38)=W0:=⟨_,rfl⟩
 rw [hW0] at hsz0 hB0 hI0 hBs
 have HC:=hide (backA_stops (3 - 1) (w.heap.size+1+1+1) al ac aa hs W0 hBs ((uH HR).below hB0) hl (uH HN))
 show Code.wpIn _ _ _ _ _ _ ((apmW w (svc ⟨qa,ql,qc,aa,al,ac,ma,ml,mc,ca,cl,cc⟩ ⟨qs,clock,epoch,next,serial,apps,ms,cs⟩)).alloc (.cells #[.slice aa al ac] 38))
 rw [hW0]
 clear hW0 hBs
 refine wpIn_rangeFunc_ownH rfl (by omega) (gf:=191) (lb:=#[.pointer (some ⟨w.heap.size+1+1+1,0,none⟩)]) rfl trivial (enters_of Tryz.func191 (by kernel_rfl) rfl)
  (uH HC) kpa_t kpa_b (yH _ _) (fun _=>rfl)
  (fun pre W=>ApmInv w ((pre.map (fun x:Int×NAV=>x.2.1)).reverse) W∧Below w.heap.size w W)
  (fun _ _ _=>False)
  (OwnFrom.and (fun s X Y row hs hg hr=>ApmInv.grown hs hg (fun r e=>by have:=(hr r e).1;omega)) (ownFrom_below (yJ _) (by omega)))
  (fun _ _ _ _ _ hs _ _=>hs)
  ⟨hI0,hB0⟩
  (fun x a' W=>∃Bx,w.heap.size+1+1<Bx∧Blk W Bx #[.int .i64 x.2.1.id,.string (bs x.2.1.queue),.slice x.2.1.ao x.2.1.len x.2.1.cap] 174∧a' = { tmps:=#[sv ⟨qa,ql,qc,aa,al,ac,ma,ml,mc,ca,cl,cc⟩ ⟨qs,clock,epoch,next,serial,apps,ms,cs⟩,.pointer (some ⟨w.heap.size,0,none⟩),.map none,.pointer (some ⟨w.heap.size+1+1,0,none⟩),undef,.pointer (some ⟨Bx,0,none⟩),.map (some (w.heap.size+1)),.pointer (some ⟨w.heap.size,5,none⟩),.slice aa al ac,.func (.func 191) #[] #[.pointer (some ⟨w.heap.size+1+1+1,0,none⟩)],.int .i64 x.1,avv x.2.1,undef,undef,undef,undef,undef],defers:=[] })
  (fun x a' _ X Y row hs hg hr=>by
   obtain ⟨Bx,h1,h2,h3⟩:=hs
   refine ⟨Bx,h1,(hg.block Bx h2.lt (fun e=>?_)).trans h2,h3⟩
   obtain ⟨_,o,ho,hc⟩:=hr Bx e.symm
   rw [show X.heap[Bx]? = _ from h2] at ho
   cases ho
   cases hc)
  ?assign ?body ?done ?stop
 case assign=>
  rintro lp pre ⟨i,⟨⟨id,qu,zo,zl,zc⟩,hnm⟩⟩ W K ⟨hI,hB⟩ hK
  have hlt:=hI.2.lt
  gi_wp2
  exact hK _ _ ((KeepsOthers.alloc _ _).from _) (kpa_below (yA (yH _ W) _)) ⟨hI.below (yA (yH _ W) _),yA hB _⟩ ⟨W.heap.size,hlt,yD W _ _,rfl⟩
 case body=>
  rintro lp pre ⟨i,⟨⟨id,qu,zo,zl,zc⟩,hnm⟩⟩ a' W hlp _ ⟨hI,hB⟩ ⟨Bx,hBx,hX,rfl⟩ hlt
  have HI:=hide hI
  have HX:=hide hX
  have HB:=hide hB
  have x0:=hX.at 0
  have x1:=hX.at 1
  have x2:=hX.at 2
  have v0:=hI.2.at 0
  simp at x0 x1 x2 v0
  have hpl:pre.length<1048576:=by have:=uH HL;omega
  clear hI hX hB
  obtain ⟨kl,hkey⟩:=keyKey (nm:=[]) (k:=id) (by decide) hnm
  have HKEY:=hide hkey
  clear hkey
  gi_wp2_with fail
  gi_region_with_o (first | (first | refine ⟨trivial,?_⟩ | skip);(first | refine ⟨(by intro e;cases e),?_⟩ | skip);refine (CallsIn.inRound lp (callsIn_wide.2 (appKey_any ⟨id,qu,zo,zl,zc⟩ _))).mono ?_;rintro e wc ⟨rfl,hbc⟩;have HW3:=hide (yB (yH _ W).drew hbc);have y0:=((uH HX).below (uH HW3)).at 0;have y1:=((uH HX).below (uH HW3)).at 1;have y2:=((uH HX).below (uH HW3)).at 2;have u0:=((uH HI).below (uH HW3)).2.at 0;simp at y0 y1 y2 u0;obtain ⟨D,hown,hk⟩:=((uH HI).below (uH HW3)).1;obtain ⟨w4,hrun,hown2,hgrow2⟩:=hown.update keyLaw Tryz.underlying210 (by unfold maxLen;simp;omega) (uH HKEY) (appElem_mk ⟨id,qu,zo,zl,zc⟩);have HFIN:=hide (And.intro hown2 (And.intro hgrow2 (KnownA.put (m:=⟨id,qu,zo,zl,zc⟩) hk hown.isMap (uH HKEY))));clear hown2 hgrow2 hk hown hbc)
  all_goals gi_wp2
  all_goals
   obtain ⟨f1,f2,f3⟩:=uH HFIN
   have hbelow:=(uH HW3)
   have hv4:=(f2.block _ ((uH HI).below hbelow).2.lt (by simp)).trans ((uH HI).below hbelow).2
   have hmi:ApmInv w (⟨id,qu,zo,zl,zc⟩::(pre.map (fun x:Int×NAV=>x.2.1)).reverse) w4:=⟨⟨_,f1,f3⟩,hv4⟩
   refine ⟨((keepsO_below hbelow).from _).trans (KeepsFrom.of_grownBy f2 (fun j e=>by cases e;omega)),kpa_t (kpa_below hbelow) (fun k o ho hc=>(f2.block k (lt_of_block ho) (fun e=>?_)).trans ho),by simpa using hmi,?_⟩
   ·obtain ⟨D',hD',_⟩:=((uH HI).below hbelow).1
    obtain ⟨es,ck,hm',_⟩:=hD'
    obtain rfl:k=w.heap.size+1:=by simpa using e
    rw [hm'] at ho
    cases ho
    cases hc
   ·exact ((uH HB).trans (hbelow.mono (uH HB).size)).grown f2 (by have:=(uH HB).size;have:=hbelow.size;omega) (fun k e=>by cases e;omega)
 case done=>
  rintro D ys W hD hys ⟨hI,hB⟩ hK
  rw [uH hys,List.reverse_reverse] at hI
  have v0:=hI.2.at 0
  simp at v0
  have HI:=hide hI
  have HB:=hide hB
  clear hI hB
  gi_wp2
  refine ⟨by simp,.inl ⟨_,_,rfl,run_takeDeferred hK,?_⟩⟩
  exact ⟨_,results_tmp rfl _ _ _,rfl,(uH HI).grown (grownBy_putObj' W D _) (fun r e=>by cases e;omega),(uH HB).trans (belowK_b (w:=w) (yJ _) W D _ _ (by omega) hK rfl rfl)⟩
 case stop=>
  rintro D c pre W _ _ h _
  exact h.elim
theorem apps_ex (x:Sls) (s:St) (hs:List AV) (w:World) (h:AVRow w x.aa x.al hs) (hl:x.al≤1048576) (hn:∀m ∈ hs,(Lit.int .i64 m.id).wf=true) :
  Calls Tryz.prog 160 #[sv x s] w fun e w'=>∃bm,e=.returned (.map (some bm))∧(w.heap.size≤bm∧∃D,w'.ownsMap Tryz.prog 217 appElem bm hs.length D∧KnownA hs allA D)∧Below w.heap.size w w':=
 (apps_any x s hs w h hl hn).mono fun e w' ⟨h1,h2,h3⟩=>⟨_,h1,⟨by omega,h2.1⟩,h3⟩
end
section
open Go.RowKit
abbrev gcell (q:AH):List Value:=[.string (bs q.name),.int .i64 q.mem,.int .i64 q.cpu,.slice q.ao q.len q.cap]
def gcells:List AH→List Value
 | []=>[]
 | q::t=>gcell q++gcells t
theorem gcells_app (a:List AH) (q:AH):gcells (a++[q])=gcells a++gcell q:=by
 induction a with
 | nil=>rfl
 | cons x t ih=>rw [List.cons_append,gcells,gcells,ih,List.append_assoc]
theorem gcells_len:∀l:List AH,(gcells l).length=l.length*4
 | []=>rfl
 | q::t=>by rw [gcells,List.length_append,gcells_len t];simp;omega
theorem gcells_at:∀(l:List AH) (i:Nat) (h:i<l.length),(gcells l)[i*4]? = some (.string (bs l[i].name))∧(gcells l)[i*4+1]? = some (.int .i64 l[i].mem)∧(gcells l)[i*4+2]? = some (.int .i64 l[i].cpu)∧(gcells l)[i*4+3]? = some (.slice l[i].ao l[i].len l[i].cap)
 | q::t,0,_=>⟨rfl,rfl,rfl,rfl⟩
 | q::t,i+1,h=>by
  have e:=gcells_at t i (by simpa using h)
  have k:∀j,(gcells (q::t))[(i+1)*4+j]? = (gcells t)[i*4+j]?:=fun j=>by
   rw [gcells,show (i+1)*4+j=(gcell q).length+(i*4+j) by simp;omega,List.getElem?_append_right (by omega)]
   congr 1
   omega
  have k0:=k 0
  simp only [Nat.add_zero] at k0
  rw [k0,k 1,k 2,k 3]
  simpa using e
theorem gcells_row {w:World} {b off len:Nat} {l:List AH} (h:AHRow w (some ⟨b,off,none⟩) len l):∀j u,(gcells l)[j]? = some u→w.cell? ⟨b,off+j,none⟩=some u:=fun j u hj=>by
 have hjl:j<l.length*4:=by rw [←gcells_len];exact (List.getElem?_eq_some_iff.1 hj).1
 obtain ⟨h1,h2⟩:=h
 rcases h2 with h2 | ⟨b',off',e,h4⟩
 ·omega
 ·cases e
  have hi:j / 4<l.length:=by omega
  obtain ⟨a0,a1,a2,a3⟩:=gcells_at l (j / 4) hi
  obtain ⟨c0,c1,c2,c3⟩:=h4 (j / 4) hi
  rcases (show j % 4=0∨j % 4=1∨j % 4=2∨j % 4=3 by omega) with e | e | e | e
  ·rw [show j=j / 4*4 by omega] at hj ⊢;rw [a0] at hj;cases hj;exact c0
  ·rw [show j=j / 4*4+1 by omega] at hj ⊢;rw [a1] at hj;cases hj;rw [←Nat.add_assoc];exact c1
  ·rw [show j=j / 4*4+2 by omega] at hj ⊢;rw [a2] at hj;cases hj;rw [←Nat.add_assoc];exact c2
  ·rw [show j=j / 4*4+3 by omega] at hj ⊢;rw [a3] at hj;cases hj;rw [←Nat.add_assoc];exact c3
theorem gcells_one:∀(l:List AH),∀u ∈ gcells l,u.oneCell'=true
 | [],u,h=>by simp [gcells] at h
 | q::t,u,h=>by
  rw [gcells,List.mem_append] at h
  rcases h with h | h
  ·simp at h
   rcases h with rfl | rfl | rfl | rfl<;>rfl
  ·exact gcells_one t u h
def GOwn (B:Nat) (w:World) (v:Value) (l:List AH):Prop:=w.ownsRow B 71 4 v l.length (gcells l)
theorem gown_nil (B:Nat) (w:World):GOwn B w (.slice none 0 0) []:=World.ownsRow_nil _ _ _ _
theorem gown_empty (w:World):w.alloc (.cells #[] 71) |>.ownsRow w.heap.size 71 4 (.slice (some ⟨w.heap.size,0,none⟩) 0 0) 0 []:=
 ⟨rfl,.inr ⟨w.heap.size,0,#[],rfl,yJ _,by show (w.heap.push _)[w.heap.size]? = _;simp,yJ _,by unfold maxLen;omega,rfl,rfl⟩⟩
theorem gown_below {w w':World} {B:Nat} {v:Value} {l:List AH} (h:GOwn B w v l) (hb:Below w.heap.size w w'):GOwn B w' v l:=
 World.ownsRow.kept h (grownBy_below (grownBy_refl w none) hb) (by by_cases e:v.ownBlock=none;exact .inl e;exact .inr e)
theorem gown_row {w:World} {B:Nat} {v:Value} {l:List AH} (h:GOwn B w v l):∃ao cap,v=.slice ao l.length cap∧AHRow w ao l.length l∧l.length≤cap∧(l≠[]→∃g cur,ao=some ⟨g,0,none⟩∧B≤g∧w.heap[g]? = some (.cells cur 71 (0,0))∧cur.size=cap*4):=by
 rcases h.2 with ⟨rfl,h0⟩ | ⟨g,cap,cur,rfl,h1,h2,h3,h4,h5,h6⟩
 ·exact ⟨none,0,by rw [h0],⟨rfl,.inl h0⟩,by omega,fun hn=>absurd (List.length_eq_zero_iff.1 h0) hn⟩
 ·refine ⟨some ⟨g,0,none⟩,cap,rfl,⟨rfl,.inr ⟨g,0,rfl,fun i hi=>?_⟩⟩,h3,fun _=>⟨g,cur,rfl,h1,h2,h5⟩⟩
  obtain ⟨a,b,c,d⟩:=gcells_at l i hi
  have k:∀j (v:Value),j<l.length*4→(gcells l)[j]? = some v→w.cell? ⟨g,j,none⟩=some v:=fun j v hj hv=>by
   rw [←h6,List.getElem?_take_of_lt hj] at hv
   simp [World.cell?,h2]
   simpa using hv
  unfold AHAt
  rw [Nat.zero_add]
  exact ⟨k _ _ (by omega) a,k _ _ (by omega) b,k _ _ (by omega) c,k _ _ (by omega) d⟩
theorem gown_other {w:World} {B:Nat} {v:Value} {l:List AH} (h:GOwn B w v l) (k j:Nat) (x:Value) (hk:k<B):GOwn B (w.setCell ⟨k,j,none⟩ x) v l:=by
 obtain ⟨h1,h2⟩:=h
 refine ⟨h1,?_⟩
 rcases h2 with h2 | ⟨g,cap,cur,a,b,c,d⟩
 ·exact .inl h2
 ·exact .inr ⟨g,cap,cur,a,b,(heap_setCell_other w ⟨k,j,none⟩ g x (show g≠k by omega)).trans c,d⟩
theorem Tryz.infoAgent:(Tryz.prog.info? 71).map (fun i=>(i.zero,i.size,i.bytes))=some (some (.agg #[.string ByteArray.empty,.int .i64 0,.int .i64 0,.slice none 0 0]),4,56):=by kernel_rfl
theorem cloneAgent_any (ao:Option Addr) (len cap:Nat) (l:List AH) (w:World) (h:AHRow w ao len l) (hl:len≤1048576) :
  Calls Tryz.prog 74 #[.slice ao len cap] w fun e w'=>∃v,e=.returned v∧GOwn w.heap.size w' v l∧Below w.heap.size w w':=by
 obtain ⟨i0,hi,hz0,hz1,hz2⟩:=info_parts Tryz.infoAgent
 cases ao with
 | none=>
  have hn:len=0:=by rcases h.2 with h | ⟨b,off,e,_⟩;exact h;cases e
  subst hn
  have hl0:l=[]:=List.length_eq_zero_iff.1 h.1.symm
  subst hl0
  have hnl:∀wx,(binOp .eql 46 (.slice none 0 cap) (.slice none 0 0)).run Tryz.prog wx=.ok (.bool true) wx:=fun wx=>Lib.run_eql_slice_nil wx _ _ none 0 cap 0 0 Tryz.underlying46
  clear h hl
  go_enter Tryz.func74,Tryz.ntmps74
  go_wp2
  go_ret
  exact ⟨_,rfl,gown_nil _ _,yH _ _⟩
 | some ad=>
  have hnew:∀j u,(gcells l)[j]? = some u→(w.alloc (.cells #[] 71)).cell? (ad.add j)=some u:=fun j u hj=>by
   have hjl:j<l.length*4:=by rw [←gcells_len];exact (List.getElem?_eq_some_iff.1 hj).1
   rcases h.2 with h0 | ⟨b,off,e,_⟩
   ·have:=h.1;omega
   ·cases e
    have:=gcells_row (h.below (yA (yH _ w) (.cells #[] 71))) j u hj
    rw [Lib.add_plain]
    exact this
  have HNW:=hide hnew
  have HLN:=hide h.1
  have hown:=gown_empty w
  have hll:(gcells l).length=len*4:=by rw [gcells_len,h.1]
  have hone:=gcells_one l
  have hnl:∀wx,(binOp .eql 46 (.slice (some ad) len cap) (.slice none 0 0)).run Tryz.prog wx=.ok (.bool false) wx:=fun wx=>Lib.run_eql_slice_nil wx _ _ (some ad) len cap 0 0 Tryz.underlying46
  clear h hnew
  go_enter Tryz.func74,Tryz.ntmps74
  go_wp2_with (at_builtin;refine wpList_append_own _ rfl _ _ 46 rfl w.heap.size 71 i0 (.agg #[.string ByteArray.empty,.int .i64 0,.int .i64 0,.slice none 0 0]) 4 56 Tryz.underlying46 hi hz0 hz1 hz2 rfl (by decide) _ _ _ rfl hown ad len cap (gcells l) rfl hll (uH HNW) hone ?c3 ?c4 ?c5 ?_)
  case c3=>unfold maxLen;omega
  case c4=>omega
  case c5=>simp
  intro v' w3 hown' hgrow _
  have HO:=hide (show GOwn w.heap.size w3 v' l by
   unfold GOwn
   rw [←uH HLN]
   simpa using hown')
  have HB:=hide (show Below w.heap.size w w3 from (yA (yH _ w) (.cells #[] 71)).grown hgrow (by simp) (fun k e=>by simp [Value.ownBlock] at e;omega))
  clear hown' hgrow hown hone hll
  go_wp2
  go_ret
  exact ⟨_,rfl,uH HO,uH HB⟩
theorem gown_has {B:Nat} {w:World} {v:Value} {hs:List AH} (h:GOwn B w v hs):∃ao cap,v=.slice ao hs.length cap∧GHas B w ao hs.length cap hs:=by
 obtain ⟨ao,cap,rfl,hr,hc,hg⟩:=gown_row h
 refine ⟨ao,cap,rfl,hr,hc,?_⟩
 by_cases e:hs=[]
 ·subst e;exact .inl rfl
 ·obtain ⟨g,cur,rfl,hB,hh,hs'⟩:=hg e
  refine .inr ⟨g,rfl,hB,⟨cur,hh,by omega⟩,hc,fun i hi=>?_⟩
  rcases hr.2 with e2 | ⟨b,off,e2,h4⟩
  ·omega
  ·cases e2
   have:=h4 i hi
   rwa [Nat.zero_add] at this
theorem copyOfAgents_any (ao:Option Addr) (len cap:Nat) (l:List Agt) (w:World) (h:AgtRow w ao len l) (hl:len≤1048576) (hk:∀q ∈ l,q.name.length≤1048576) (hc:∀q ∈ l,q.cs=[]) :
  Calls Tryz.prog 47 #[.slice ao len cap] w fun e w'=>∃go gc hs,e=.returned (.slice go l.length gc)∧GHas w.heap.size w' go l.length gc hs∧Thin hs l∧Below w.heap.size w w':=by
 obtain ⟨hs0,hr0,ht0⟩:=h.thin hc
 have HF:=hide hk
 have CA:=hide (cloneAgent_any ao len cap hs0 w hr0 hl)
 have HL:=hide h.1
 have HT:=hide ht0
 clear h hk hr0 hc
 go_enter Tryz.func47,Tryz.ntmps47
 go_wp2_with fail
 refine (uH CA).mono ?_
 rintro e w9 ⟨v,rfl,ho,hb⟩
 obtain ⟨co,cd,rfl,hch⟩:=gown_has ho
 rw [ht0.1] at hch ⊢
 obtain ⟨n4,hn4⟩:∃n,l.length=n:=⟨_,rfl⟩
 rw [hn4] at hch ⊢
 have OC:=hide hch
 have HB9:=hide hb
 have HN4:=hide hn4
 have hl4:n4≤1048576:=by have:=uH HL;omega
 clear ho hb hch CA hn4 ht0
 go_wp2
 go_loopw [4,5,10] (fun _ _ i wr=>∃(q:Nat),q≤n4∧i=.int .i64 q∧Hid (∃hs,GHas w.heap.size wr co n4 cd hs∧Thin hs l)∧Hid (Below w.heap.size w wr)) (fun _ _ i _=>n4 - (intOf i).toNat)
 case atStart=>exact ⟨0,Nat.zero_le _,rfl,hide ⟨hs0,uH OC,uH HT⟩,HB9⟩
 case round=>
  obtain ⟨q,hq,rfl,HC,HB⟩:=hrel
  clear OC HB9 HT
  obtain ⟨hs,hg,ht⟩:=uH HC
  by_cases hlt:q<n4
  ·rcases hg.2.2 with e | ⟨g,rfl,hgB,hbk⟩
   ·omega
   have hjl:q<hs.length:=by have:=hg.1.1;omega
   have hjl2:q<l.length:=by have:=uH HN4;omega
   have hgE:=hbk.1.lt
   obtain ⟨c0,c1,c2,c3⟩:=hbk.2.2 q hjl
   obtain ⟨e0,e1,e2,e3,e4⟩:=ht.2 q hjl hjl2
   have hnm:=uH HF l[q] (yM hjl2)
   rw [←e0] at hnm
   have HST:=hide (fun (w':World) (ho:AHBlk w' g cd hs) (co':Option Addr) (cd':Nat)=>And.intro (ho.conts hjl co' 0 cd') (ht.set hjl co' cd'))
   have HLN:=hide (show n4=hs.length from hg.1.1)
   obtain ⟨⟨nm,me,cp,xo,xl,xc⟩,hm⟩:∃m,hs[q]=m:=⟨_,rfl⟩
   rw [hm] at c0 c1 c2 c3 hnm e3 HST
   simp only at c0 c1 c2 c3 hnm e3 HST
   subst e3
   have HW:=hide (yA (yH _ wr) (.cells #[.string (bs nm),.int .i64 me,.int .i64 cp,.slice xo 0 xc] 71))
   have XC:=hide (hbk.below (uH HW))
   have XB:=hide (yB (uH HB) (uH HW))
   have XA:=hide (yD wr #[.string (bs nm),.int .i64 me,.int .i64 cp,.slice xo 0 xc] 71)
   have D0:=hide (cellBel c0 (uH HW))
   have D3:=hide (cellBel c3 (uH HW))
   have CL:=hide (fun wx=>clone_any (bs nm) wx (by rw [bs_size];omega))
   have CC:=hide (fun wx=>(copyOfConts_any xo 0 xc [] wx ⟨rfl,.inl rfl⟩ (by omega) (fun c hc=>absurd hc (by simp))).mono (fun e w' (h:∃co cd,e=.returned (.slice co ([]:List Con).length cd)∧_)=>show ∃co cd,e=.returned (.slice co 0 cd)∧Below wx.heap.size wx w' from let ⟨co,cd,a,_,_,_,b⟩:=h;⟨co,cd,a,b⟩))
   have j0:(0:Int)≤q:=by omega
   have j1:(q:Int)<n4:=by omega
   clear e0 e1 e2 e4 hm hjl hjl2 hnm hg ht HC
   obtain ⟨W,hW⟩:∃W,wr.alloc (.cells #[.string (bs nm),.int .i64 me,.int .i64 cp,.slice xo 0 xc] 71)=W:=⟨_,rfl⟩
   have XA1:=uH XA
   rw [hW] at XC XB D0 D3 XA1
   have XW:=hide XA1
   have xa0:=(uH XA).at 0
   simp at xa0
   have HWW:=hide hW
   clear hW HW HB XA XA1 hbk
   go_wp2_with fail
   refine (uH CL _).mono ?_
   rintro e w6 ⟨rfl,hb⟩
   rw [uH HWW] at hb
   have HB6:=hide hb
   have XC6:=hide ((uH XC).below hb)
   have XB6:=hide (yB (uH XB) hb)
   have XW6:=hide ((uH XW).below hb)
   clear c0 c1 c2 c3 xa0
   have c0:=cellBel (uH D0) hb
   have D36:=hide (cellBel (uH D3) hb)
   have s0:=sc_same c0
   have z0:=(uH XC6).1.frozen (q*4)
   have xa3:=(uH XW6).at 3
   simp at xa3
   clear hb XC XB XW D0 D3 HWW HB6
   go_wp2_with fail
   refine (uH CC _).mono ?_
   rintro e w7 ⟨co',cd',rfl,hb⟩
   have XC7:=hide ((uH XC6).below hb)
   have XB7:=hide (yB (uH XB6) hb)
   have d3:=cellBel (uH D36) hb
   have z3:=(uH XC7).1.frozen (q*4+3)
   clear hb XC6 XB6 XW6 D36 c0 s0 z0 xa3
   go_wp2
   go_roundw
   case rel=>exact ⟨q+1,by omega,by go_num,hide ⟨_,((uH HST _ (uH XC7) co' cd').1.has hgB (by have:=uH HLN;simpa using this)),(uH HST _ (uH XC7) co' cd').2⟩,hide (yC (uH XB7) _ _ _ hgB)⟩
   case measure=>simp [intOf];omega
  ·obtain rfl:q=n4:=by omega
   have j1:¬(q:Int)<q:=by omega
   have HG:=hide hg
   have HT:=hide ht
   clear hlt hg ht HC
   go_wp2
   go_ret
   rw [uH HN4]
   exact ⟨co,cd,rfl,hs,uH HG,uH HT,uH HB⟩
end
section
open Go.ChangeShapes Go.WideShapes Go.ChangeAt Go.RowKit Go.Deep
theorem cells_lAgt:Tryz.prog.cellsOf 89=4:=by kernel_rfl
def AgtFit (q:Agt):Prop:=(q.name.length≤9223372036854775807∧(Lit.int .i64 q.mem).wf=true∧(Lit.int .i64 q.cpu).wf=true)∧q.cs.length≤9223372036854775807∧∀a ∈ q.cs,ConFit a
theorem AgtFit.big {q:Agt} (h:AgtFit q):AgtBig q:=⟨h.1.1,h.2.1,fun a ha=>(h.2.2 a ha).1⟩
theorem open_agt1 {H:Type} {enc:TypeId×Value→H} {W:World} {base:Nat} {held:Bool} {fuel:Nat} {cs:List Value} {x:DataW H×List MemPlace}
  (h:DataW.trod enc Tryz.prog W base (fun _=>true) held fuel 89 cs=some x) :
  ∃(q:Agt) (xo:Option Addr) (xl xc:Nat),cs=[.string (bs q.name),.int .i64 q.mem,.int .i64 q.cpu,.slice xo xl xc]∧ConRow W xo xl q.cs∧AgtFit q:=by
 obtain ⟨xs,n,rfl,rfl,hlen,hxs,hf⟩:=DataW.trod_struct Tryz.underlying89 h
 rw [cells_lAgt] at hlen
 have hxs:xs.length=3:=hxs
 match cs,hlen,xs,hxs with
 | [c0,c1,c2,c3],_,[x0,x1,x2],_=>
  have h0:=hf 0 _ rfl
  have h1:=hf 1 _ rfl
  have h2:=hf 2 _ rfl
  obtain ⟨s0,e0,_,b0⟩:=DataW.trod_string Tryz.underlying9 h0
  obtain ⟨s1,s2,e1,b1,b2⟩:=open_rescells h1
  simp [cells_qs,cells_qi,cells_lr1,cells_lCS] at e0 e1 h2
  obtain ⟨q1,q2⟩:=e1
  obtain ⟨xo,xl,xc,rfl⟩:=slice_cells Tryz.underlying25 h2
  subst e0 q1 q2
  obtain ⟨l,hr,hle,hfit⟩:=open_cons h2
  refine ⟨⟨s0.data.toList,s1,s2,l⟩,xo,xl,xc,by simp only [bs_back],hr,⟨by simpa [maxLen] using b0,b1,b2⟩,?_,hfit⟩
  have:=hr.1
  show l.length≤_
  omega
theorem open_agts {H:Type} {enc:TypeId×Value→H} {W:World} {base:Nat} {held:Bool} {ao:Option Addr} {len cap fuel:Nat} {x:DataW H×List MemPlace}
  (hf:DataW.trod enc Tryz.prog W base (fun _=>true) held fuel 31 [.slice ao len cap]=some x) :
  ∃l:List Agt,AgtRow W ao len l∧len≤9223372036854775807∧∀q ∈ l,AgtFit q:=by
 rcases open_slice Tryz.underlying31 hf with ⟨hcs,_⟩ | ⟨a,len',cap',m,n,D,Pl,hcs,hb,hl,hm,hmm,hx,hel⟩
 ·simp at hcs
  obtain ⟨rfl,rfl,rfl⟩:=hcs
  exact ⟨[],AgtRow.nil _ _,by omega,by simp⟩
 ·simp at hcs
  obtain ⟨rfl,rfl,rfl⟩:=hcs
  simp only [if_true] at hmm
  subst hmm
  rw [cells_lAgt] at hel
  have inh:Inhabited Agt:=⟨⟨[],0,0,[]⟩⟩
  obtain ⟨F,hF⟩:=choose_lt (α:=Agt) (n:=len) (p:=fun i q=>∃(xo:Option Addr) (xl xc:Nat),W.cells? base (a.add (i*4)) 4=some [.string (bs q.name),.int .i64 q.mem,.int .i64 q.cpu,.slice xo xl xc]∧ConRow W xo xl q.cs∧AgtFit q) (fun i hi=>by
   obtain ⟨cs',h1,h2⟩:=hel i (by omega)
   obtain ⟨q,xo,xl,xc,rfl,h3⟩:=open_agt1 h2
   exact ⟨q,xo,xl,xc,h1,h3⟩)
  refine ⟨(List.range len).map F,?_,by have:maxLen=9223372036854775807:=rfl;omega,?_⟩
  ·refine ⟨by simp,?_⟩
   by_cases h0:len=0
   ·exact .inl h0
   ·right
    obtain ⟨b,off,spot⟩:=a
    obtain ⟨_,_,_,hF0,_⟩:=hF 0 (by omega)
    have hc0:=(World.cells?_some hF0).2.2 0 (by omega)
    have hspot:spot=none:=by simpa [Addr.add] using World.cell?_spot hc0
    subst hspot
    refine ⟨b,off,rfl,fun i hi=>?_⟩
    have hi':i<len:=by simpa using hi
    obtain ⟨xo,xl,xc,hFi,hrow,_⟩:=hF i hi'
    obtain ⟨_,_,hc⟩:=World.cells?_some hFi
    rw [Lib.add_plain] at hc
    have k0:=hc 0 (by omega)
    have k1:=hc 1 (by omega)
    have k2:=hc 2 (by omega)
    have k3:=hc 3 (by omega)
    rw [Lib.add_plain] at k0 k1 k2 k3
    simp only [List.getElem_map,List.getElem_range]
    exact ⟨xo,xl,xc,k0,k1,k2,k3,hrow⟩
  ·intro q hq
   obtain ⟨i,hi,rfl⟩:=List.mem_map.1 hq
   obtain ⟨_,_,_,_,_,h⟩:=hF i (by simpa using hi)
   exact h
end
end Go.Proofs.YtmkedfdnokmglaaGreat
