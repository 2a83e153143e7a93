/-
  Texts in one: UsedByM, QueuesOkI, MachI, BsI, MarkP, ARow.
-/
import Derived.Test.YtdhibeclkdepiaaGreatSackL
import Derived.Test.YtdhibeclkdepiaaGreatSackK
import Derived.Test.YtdhibeclkdepiaaGreatSackI
set_option maxRecDepth 100000
set_option maxHeartbeats 16000000
set_option linter.unusedVariables false
set_option linter.unusedSimpArgs false
namespace Go.Proofs.YtdhibeclkdepiaaGreat
section
open Go.RowKit Go.Maps
def byQ (s:St) (nm:List UInt8) (q:Con):Bool:=match dK q.app s.apps with
 | none=>false
 | some a=>(path s.qs a.queue).any (fun x=>decide (x=nm))
def aN (s:St) (nm:List UInt8):Int×Int:=((gX (aJ (byQ s nm) s.cs)).1,(gX (aJ (byQ s nm) s.cs)).2.1)
theorem aGJ (v:Value) (ps:List (List UInt8)) (nm:List UInt8) (B:Nat) (w:World) (h:dA B w v ps) (hl:ps.length≤1048576) :
  Calls Tryz.prog 185 #[v,.string (bs nm)] w fun e w'=>e=.returned (.bool (ps.any (fun x=>decide (x=nm))))∧w=w':=by
 obtain ⟨o,ho⟩:∃o,ps.any (fun x=>decide (x=nm))=o:=⟨_,rfl⟩
 have HO:=aA (show (ps.drop 0).any (fun x=>decide (x=nm))=o from ho)
 rw [ho]
 clear ho
 obtain ⟨ao,cap,rfl,HC⟩:∃ao cap,v=.slice ao ps.length cap∧Hid (∀j (hj:j<ps.length),∃g,ao=some ⟨g,0,none⟩∧w.cell? ⟨g,j,none⟩=some (.string (bs ps[j]))):=by
  by_cases hp:ps=[]
  ·subst hp
   obtain ⟨a,cap,rfl⟩:=jT h
   exact ⟨a,cap,rfl,aA (fun j hj=>by simp at hj)⟩
  ·obtain ⟨g,cap,rfl,hs,_⟩:=jS h hp
   exact ⟨_,cap,rfl,aA (fun j hj=>⟨g,rfl,hs.text hj⟩)⟩
 clear h
 obtain ⟨n,hn⟩:∃n,ps.length=n:=⟨_,rfl⟩
 rw [hn] at hl ⊢
 have HN:=aA hn
 clear hn
 go_enter Tryz.func185,Tryz.ntmps185
 go_wp2
 go_loopw [5] (fun i wr=>∃(k:Nat),k≤n∧i=.int .i64 k∧Hid ((ps.drop k).any (fun x=>decide (x=nm))=o)∧wr=w) (fun i _=>n - (intOf i).toNat)
 case atStart=>exact ⟨0,Nat.zero_le _,rfl,HO,rfl⟩
 case round=>
  obtain ⟨k,hk,rfl,HQ,rfl⟩:=hrel
  by_cases hlt:k<n
  ·have hkl:k<ps.length:=by have:=uH HN;omega
   obtain ⟨g,rfl,c0⟩:=uH HC k hkl
   have hst:(ps.drop k).any (fun x=>decide (x=nm))=(decide (ps[k]=nm)||(ps.drop (k+1)).any (fun x=>decide (x=nm))):=by rw [List.drop_eq_getElem_cons hkl,List.any_cons]
   rw [uH HQ] at hst
   obtain ⟨s,hs⟩:∃s,ps[k]=s:=⟨_,rfl⟩
   rw [hs] at c0 hst
   have hbe:=nS s nm
   clear hs hkl
   by_cases he:s=nm
   ·rw [decide_eq_true he] at hbe hst
    have hot:o=true:=by rw [hst];rfl
    subst hot
    clear he hst
    go_wp2
    go_ret
    exact ⟨rfl,rfl⟩
   ·rw [decide_eq_false he] at hbe hst
    have HN2:=aA (show (ps.drop (k+1)).any (fun x=>decide (x=nm))=o by simpa using hst.symm)
    clear he hst
    go_wp2
    go_roundw
    case rel=>exact ⟨k+1,by omega,by go_num,HN2,trivial⟩
    case measure=>simp [intOf];omega
  ·have hof:o=false:=by rw [←uH HQ,List.drop_of_length_le (by have:=uH HN;omega)];rfl
   subst hof
   go_wp2
   go_ret
   exact ⟨rfl,rfl⟩
end
section
open Go.RowKit
theorem iG.take {w:World} {ao:Option Addr} {len:Nat} {l:List Q} (h:iG w ao len l) {k:Nat} (hk:k≤len):iG w ao k (l.take k):=by
 obtain ⟨h1,h2⟩:=h
 refine ⟨by simp;omega,?_⟩
 rcases h2 with h2 | ⟨b,off,h3,h4⟩
 ·exact .inl (by omega)
 ·refine .inr ⟨b,off,h3,fun i hi=>?_⟩
  have:i<l.length:=by simp at hi;omega
  rw [List.getElem_take]
  exact h4 i this
theorem aLS (b off len cap k:Nat) (hk:k≤cap) (wx:World):(Instr.slice 29 (.slice (some ⟨b,off,none⟩) len cap) none (some (.int .i64 (k:Int))) none).run Tryz.prog wx=.ok (.slice (some ⟨b,off,none⟩) k cap) wx:=by
 rw [run_slice_h (P:=Tryz.prog) (w:=wx) 29 (some ⟨b,off,none⟩) len cap Tryz.underlying29 .i64 (k:Int) (by omega) (by omega)]
 rw [show (sizeOf (Tryz.prog.elem 29)).run Tryz.prog wx=.ok 4 wx from by kernel_rfl]
 simp [Result.andThen,sliced,Addr.add]
theorem eU (ao:Option Addr) (len cap:Nat) (l:List Q) (w:World) (h:iG w ao len l) (hl:len≤1048576) (hn:∀q ∈ l,q.name.length≤1048576) (hc:len≤cap) :
  Calls Tryz.prog 79 #[.slice ao len cap] w fun e w'=>e=.returned (.bool (aF l))∧Below w.heap.size w w':=by
 have HR:=aA h
 have HL:=aA h.1
 have HN:=aA hn
 have HQ:=aA (kQ l)
 clear h hn
 go_enter Tryz.func79,Tryz.ntmps79
 go_wp2
 go_loopw [3,4,7] (fun _ _ i wr=>∃k:Nat,k≤len∧i=.int .i64 k∧Hid (okT (l.take k)=true)∧Hid (Below w.heap.size w wr)) (fun _ _ i _=>len - (intOf i).toNat)
 case atStart=>exact ⟨0,Nat.zero_le _,rfl,aA (by rw [List.take_zero];rfl),aA (yH _ _)⟩
 case round=>
  obtain ⟨k,hk,rfl,HK,HB⟩:=hrel
  by_cases hlt:k<len
  ·have HR2:=aA ((uH HR).below (uH HB))
   obtain ⟨b,off,rfl,hq⟩:=(uH HR2).at hlt
   have hkl:k<l.length:=by have:=uH HL;omega
   have hst:=aA (qP (l:=l) (k:=k) hkl)
   have hbad:=aA (@zH l (k+1))
   obtain ⟨c0,c1,c2,c3⟩:=hq hkl
   have hz:=uH HN l[k] (yM _)
   clear hq
   obtain ⟨⟨nm,pa,du,mo⟩,hs⟩:∃s,l[k]=s:=⟨_,rfl⟩
   rw [hs] at c0 c1 c2 c3 hst hz
   simp only at c0 c1 c2 c3
   have HA:=aA (mF.new wr ⟨nm,pa,du,mo⟩)
   have hb1:=yA (uH HB) (aGi ⟨nm,pa,du,mo⟩)
   have CF:=aA (fun wx (hb:Below w.heap.size w wx)=>aJZ (some ⟨b,off,none⟩) k cap (l.take k) ⟨nm,pa,du,mo⟩ wx (((uH HR).below hb).take hk) (by omega) hz (aKP (uH HK)))
   obtain ⟨f,hf⟩:∃f,aER (l.take k) ⟨nm,pa,du,mo⟩=f:=⟨_,rfl⟩
   rw [hf] at CF hst
   have hcut:=aLS b off len cap k (by omega)
   have HB1:=aA hb1
   have k0:=(uH HA).c0
   have k1:=(uH HA).c1
   have k2:=(uH HA).c2
   have k3:=(uH HA).c3
   simp only at k0 k1 k2 k3
   have hkc:(k:Int)≤cap:=by omega
   clear hs hkl hz hf HR2 hb1
   cases f with
   | false=>
    go_wp2_with fail
    go_region_with (go_at_call 114;refine (uH CF _ ?_).mono ?_;(exact (uH HB1).drew);rintro e w2 ⟨rfl,hb⟩)
    all_goals
     have HB2:=aA (yB (uH HB1).drew hb)
     clear hb
     go_wp2
     go_ret
     exact ⟨yF (by rw [uH HQ,uH hbad (by rw [uH hst];simp)];rfl),uH HB2⟩
   | true=>
    go_wp2_with fail
    go_region_with (go_at_call 114;refine (uH CF _ ?_).mono ?_;(exact (uH HB1).drew);rintro e w2 ⟨rfl,hb⟩)
    all_goals
     have HB2:=aA (yB (uH HB1).drew hb)
     clear hb
     go_wp2
     go_roundw
     case rel=>exact ⟨k+1,by omega,by go_num,aA (by rw [uH hst,uH HK];rfl),HB2⟩
     case measure=>simp [intOf];omega
  ·have hfin:=aA (show aF l=decide (0<len) by
    have e:k=l.length:=by have:=uH HL;omega
    have ho:=uH HK
    rw [e,List.take_length] at ho
    rw [uH HQ,ho,uH HL];rfl)
   by_cases h0:0<len
   ·go_wp2
    go_ret
    exact ⟨yF (by rw [uH hfin];simp [h0]),uH HB⟩
   ·go_wp2
    go_ret
    exact ⟨yF (by rw [uH hfin];simp [h0]),uH HB⟩
end
section
open Go.RowKit Go.Shelf Go.Maps
attribute [local go_sem] Oper.semAt_some
def aJQ (w:World) (c:Array Value):World:=((w.alloc (.cells c 34)).alloc (.map #[] 0)).alloc (.cells #[.map (some (w.heap.size+1))] 130)
theorem aC6 (w:World) (c:Array Value):(aJQ w c).heap.size=w.heap.size+1+1+1:=by simp only [aJQ,yE]
theorem aFz (w:World) (c:Array Value):Below w.heap.size w (aJQ w c):=yA (yA (yA (yH _ w) _) _) _
theorem aJP (w:World) (c:Array Value):(aJQ w c).ownsMap Tryz.prog 133 iO (w.heap.size+1) 0 (.map []):=by
 have:=(World.ownsMap_made (w.alloc (.cells c 34)) Tryz.prog 133 iO).alloc (.cells #[.map (some (w.heap.size+1))] 130)
 rw [yE] at this
 exact this
theorem aJO (w:World) (c:Array Value):Blk (aJQ w c) (w.heap.size+1+1) #[.map (some (w.heap.size+1))] 130:=by
 have:=yD ((w.alloc (.cells c 34)).alloc (.map #[] 0)) #[.map (some (w.heap.size+1))] 130
 rw [yE,yE] at this
 exact this
def nU (w:World) (l:List Mac) (W:World):Prop:=(∃D,W.ownsMap Tryz.prog 133 iO (w.heap.size+1) l.length D∧l5 l D)∧Blk W (w.heap.size+1+1) #[.map (some (w.heap.size+1))] 130
theorem nU.grown {w W W':World} {l:List Mac} {row:Option Nat} (h:nU w l W) (hg:W.grownBy W' row) (hr:∀r,row=some r→w.heap.size+1+1<r):nU w l W':=by
 obtain ⟨⟨D,h1,h2⟩,h3⟩:=h
 exact ⟨⟨D,h1.kept hg (fun e=>by have:=hr _ e.symm;omega),h2⟩,(hg.block _ h3.lt (fun e=>by have:=hr _ e.symm;omega)).trans h3⟩
theorem nU.below {w W W':World} {l:List Mac} (h:nU w l W) (hb:Below W.heap.size W W'):nU w l W':=h.grown (aG (aC W none) hb) (fun r e=>by cases e)
theorem aC7 (x:Sls) (s:St) (w:World) (h:bE w x.ma x.ml s.ms) (hl:x.ml≤1048576) (hn:∀m ∈ s.ms,m.name.length≤1048576) :
  Calls Tryz.prog 84 #[sv x s] w fun e w'=>e=.returned (.map (some (w.heap.size+1)))∧nU w s.ms w'∧Below w.heap.size w w':=by
 obtain ⟨qa,ql,qc,aa,al,ac,ma,ml,mc,ca,cl,cc⟩:=x
 obtain ⟨qs,clock,epoch,next,serial,apps,ms,cs⟩:=s
 simp only at h hl hn ⊢
 have HR:=aA h
 have HL:=aA h.1
 have HN:=aA hn
 have hmx:Tryz.prog.follows .mixedOrders=true:=by kernel_rfl
 have hmm:=fun (t:TypeId) (wx:World)=>run_makeMap (P:=Tryz.prog) t wx
 clear h hn
 refine (callsIn_wide (n:=3)).1 ?_
 refine callsIn_of_wp_marks Tryz.func84 rfl trivial ?_ rfl
 simp only [Tryz.ntmps84,List.size_toArray,List.length_cons,List.length_nil,Nat.reduceAdd,Nat.reduceSub,Array.replicate_succ,Array.replicate_zero,List.push_toArray,List.append_toArray,List.nil_append,List.cons_append]
 gi_wp2_with fail
 first | refine ⟨trivial,?_⟩ | skip
 first | refine ⟨(by intro e;cases e),?_⟩ | skip
 refine (callsIn_wide.2 (aIU (.slice ma ml mc) _ rfl)).mono ?_
 rintro e w4 ⟨rfl,rfl⟩
 gi_wp2
 have hsz0:=yE (aJQ w (svc ⟨qa,ql,qc,aa,al,ac,ma,ml,mc,ca,cl,cc⟩ ⟨qs,clock,epoch,next,serial,apps,ms,cs⟩)) (.cells #[.slice ma ml mc] 31)
 rw [aC6] at hsz0
 have hB0:=yA (aFz w (svc ⟨qa,ql,qc,aa,al,ac,ma,ml,mc,ca,cl,cc⟩ ⟨qs,clock,epoch,next,serial,apps,ms,cs⟩)) (.cells #[.slice ma ml mc] 31)
 have hI0:=nU.below (w:=w) (l:=[]) ⟨⟨_,aJP w (svc ⟨qa,ql,qc,aa,al,ac,ma,ml,mc,ca,cl,cc⟩ ⟨qs,clock,epoch,next,serial,apps,ms,cs⟩),aCk⟩,aJO w _⟩ (yA (yH _ _) (.cells #[.slice ma ml mc] 31))
 have hBs:=(yD (aJQ w (svc ⟨qa,ql,qc,aa,al,ac,ma,ml,mc,ca,cl,cc⟩ ⟨qs,clock,epoch,next,serial,apps,ms,cs⟩)) #[.slice ma ml mc] 31).at 0
 rw [aC6] at hBs
 obtain ⟨W0,hW0⟩:∃W0,(aJQ w (svc ⟨qa,ql,qc,aa,al,ac,ma,ml,mc,ca,cl,cc⟩ ⟨qs,clock,epoch,next,serial,apps,ms,cs⟩)).alloc (.cells #[.slice ma ml mc] 31)=W0:=⟨_,rfl⟩
 rw [hW0] at hsz0 hB0 hI0 hBs
 have HC:=aA (aE4 (3 - 1) (w.heap.size+1+1+1) ml mc ma ms W0 hBs ((uH HR).below hB0) hl (uH HN))
 show Code.wpIn _ _ _ _ _ _ ((aJQ w (svc ⟨qa,ql,qc,aa,al,ac,ma,ml,mc,ca,cl,cc⟩ ⟨qs,clock,epoch,next,serial,apps,ms,cs⟩)).alloc (.cells #[.slice ma ml mc] 31))
 rw [hW0]
 clear hW0 hBs
 refine wpIn_rangeFunc_ownH rfl (by omega) (gf:=157) (lb:=#[.pointer (some ⟨w.heap.size+1+1+1,0,none⟩)]) rfl trivial (enters_of Tryz.func157 (by kernel_rfl) rfl)
  (uH HC) aJT aLN (yH _ _) (fun _=>rfl)
  (fun pre W=>nU w ((pre.map (fun x:Int×aGf=>x.2.1)).reverse) W∧Below w.heap.size w W)
  (fun _ _ _=>False)
  (OwnFrom.and (fun s X Y row hs hg hr=>nU.grown hs hg (fun r e=>by have:=(hr r e).1;omega)) (ownFrom_below (yJ _) (by omega)))
  (fun _ _ _ _ _ hs _ _=>hs)
  ⟨hI0,hB0⟩
  (fun x a' W=>∃Bx,w.heap.size+1+1<Bx∧Blk W Bx #[.string (bs x.2.1.name),.int .i64 x.2.1.mem,.int .i64 x.2.1.cpu,.int .i64 x.2.1.seen] 104∧a' = { tmps:=#[sv ⟨qa,ql,qc,aa,al,ac,ma,ml,mc,ca,cl,cc⟩ ⟨qs,clock,epoch,next,serial,apps,ms,cs⟩,.pointer (some ⟨w.heap.size,0,none⟩),.map none,.pointer (some ⟨w.heap.size+1+1,0,none⟩),undef,.pointer (some ⟨Bx,0,none⟩),.map (some (w.heap.size+1)),.pointer (some ⟨w.heap.size,6,none⟩),.slice ma ml mc,.func (.func 157) #[] #[.pointer (some ⟨w.heap.size+1+1+1,0,none⟩)],.int .i64 x.1,aBk x.2.1,undef,undef,undef,undef,undef],defers:=[] })
  (fun x a' _ X Y row hs hg hr=>by
   obtain ⟨Bx,h1,h2,h3⟩:=hs
   refine ⟨Bx,h1,(hg.block Bx h2.lt (fun e=>?_)).trans h2,h3⟩
   obtain ⟨_,o,ho,hc⟩:=hr Bx e.symm
   rw [show X.heap[Bx]? = _ from h2] at ho
   cases ho
   cases hc)
  ?assign ?body ?done ?stop
 case assign=>
  rintro lp pre ⟨i,⟨⟨nm,me,cp,se⟩,hnm⟩⟩ W K ⟨hI,hB⟩ hK
  have hlt:=hI.2.lt
  gi_wp2
  exact hK _ _ ((KeepsOthers.alloc _ _).from _) (qW (yA (yH _ W) _)) ⟨hI.below (yA (yH _ W) _),yA hB _⟩ ⟨W.heap.size,hlt,yD W _ _,rfl⟩
 case body=>
  rintro lp pre ⟨i,⟨⟨nm,me,cp,se⟩,hnm⟩⟩ a' W hlp _ ⟨hI,hB⟩ ⟨Bx,hBx,hX,rfl⟩ hlt
  have HI:=aA hI
  have HX:=aA hX
  have HB:=aA hB
  have x0:=hX.at 0
  have x1:=hX.at 1
  have x2:=hX.at 2
  have x3:=hX.at 3
  have v0:=hI.2.at 0
  simp at x0 x1 x2 x3 v0
  have hpl:pre.length<1048576:=by have:=uH HL;omega
  clear hI hX hB
  have hnm':nm.length≤1048576:=hnm
  obtain ⟨kl,hkey⟩:=aAa (nm:=nm) (k:=0) (by omega) (by decide)
  have HKEY:=aA hkey
  clear hkey
  gi_wp2_with fail
  gi_region_with_o (first | (first | refine ⟨trivial,?_⟩ | skip);(first | refine ⟨(by intro e;cases e),?_⟩ | skip);refine (CallsIn.inRound lp (callsIn_wide.2 (aGD ⟨nm,me,cp,se⟩ _))).mono ?_;rintro e wc ⟨rfl,hbc⟩;have HW3:=aA (yB (yH _ W).drew hbc);have y0:=((uH HX).below (uH HW3)).at 0;have y1:=((uH HX).below (uH HW3)).at 1;have y2:=((uH HX).below (uH HW3)).at 2;have y3:=((uH HX).below (uH HW3)).at 3;have u0:=((uH HI).below (uH HW3)).2.at 0;simp at y0 y1 y2 y3 u0;obtain ⟨D,hown,hk⟩:=((uH HI).below (uH HW3)).1;obtain ⟨w4,hrun,hown2,hgrow2⟩:=hown.update jL Tryz.underlying130 (by unfold maxLen;simp;omega) (uH HKEY) (sM ⟨nm,me,cp,se⟩);have HFIN:=aA (And.intro hown2 (And.intro hgrow2 (l5.put (m:=⟨nm,me,cp,se⟩) hk hown.isMap (uH HKEY))));clear hown2 hgrow2 hk hown hbc)
  all_goals gi_wp2
  all_goals
   obtain ⟨f1,f2,f3⟩:=uH HFIN
   have hbelow:=(uH HW3)
   have hv4:=(f2.block _ ((uH HI).below hbelow).2.lt (by simp)).trans ((uH HI).below hbelow).2
   have hmi:nU w (⟨nm,me,cp,se⟩::(pre.map (fun x:Int×aGf=>x.2.1)).reverse) w4:=⟨⟨_,f1,f3⟩,hv4⟩
   refine ⟨((uE hbelow).from _).trans (KeepsFrom.of_grownBy f2 (fun j e=>by cases e;omega)),aJT (qW hbelow) (fun k o ho hc=>(f2.block k (lt_of_block ho) (fun e=>?_)).trans ho),by simpa using hmi,?_⟩
   ·obtain ⟨D',hD',_⟩:=((uH HI).below hbelow).1
    obtain ⟨es,ck,hm',_⟩:=hD'
    obtain rfl:k=w.heap.size+1:=by simpa using e
    rw [hm'] at ho
    cases ho
    cases hc
   ·exact ((uH HB).trans (hbelow.mono (uH HB).size)).grown f2 (by have:=(uH HB).size;have:=hbelow.size;omega) (fun k e=>by cases e;omega)
 case done=>
  rintro D ys W hD hys ⟨hI,hB⟩ hK
  rw [uH hys,List.reverse_reverse] at hI
  have v0:=hI.2.at 0
  simp at v0
  have HI:=aA hI
  have HB:=aA hB
  clear hI hB
  gi_wp2
  refine ⟨by simp,.inl ⟨_,_,rfl,run_takeDeferred hK,?_⟩⟩
  exact ⟨_,results_tmp rfl _ _ _,rfl,(uH HI).grown (grownBy_putObj' W D _) (fun r e=>by cases e;omega),(uH HB).trans (belowK_b (w:=w) (yJ _) W D _ _ (by omega) hK rfl rfl)⟩
 case stop=>
  rintro D c pre W _ _ h _
  exact h.elim
theorem pM (x:Sls) (s:St) (w:World) (h:bE w x.ma x.ml s.ms) (hl:x.ml≤1048576) (hn:∀m ∈ s.ms,m.name.length≤1048576) :
  Calls Tryz.prog 84 #[sv x s] w fun e w'=>∃bm,e=.returned (.map (some bm))∧(w.heap.size≤bm∧∃D,w'.ownsMap Tryz.prog 133 iO bm s.ms.length D∧l5 s.ms D)∧Below w.heap.size w w':=
 (aC7 x s w h hl hn).mono fun e w' ⟨h1,h2,h3⟩=>⟨_,h1,⟨by omega,h2.1⟩,h3⟩
end
section
open Go.RowKit
def aIe (a b:Int):Int:=if a<b then -1 else if b<a then 1 else 0
theorem aCm (a:Int) (w:World):Calls Tryz.prog 138 #[.int .i64 a] w fun e w'=>e=.returned (.bool false)∧w=w':=by
 go_enter Tryz.func138,Tryz.ntmps138
 go_wp2
 go_ret
 exact ⟨rfl,rfl⟩
theorem aDK (a b:Int) (w:World):Calls Tryz.prog 110 #[.int .i64 a,.int .i64 b] w fun e w'=>e=.returned (.int .i64 (aIe a b))∧w=w':=by
 have hc:aIe a b=if a<b then -1 else if b<a then 1 else 0:=rfl
 have C1:=aA (aCm a w)
 have C2:=aA (aCm b w)
 by_cases h1:a<b
 ·rw [if_pos h1] at hc
  rw [hc]
  clear hc
  go_enter Tryz.func110,Tryz.ntmps110
  go_wp2_with fail
  refine (uH C1).mono ?_
  rintro e w1 ⟨rfl,rfl⟩
  go_wp2_with fail
  refine (uH C2).mono ?_
  rintro e w2 ⟨rfl,rfl⟩
  go_wp2
  go_ret
  exact ⟨rfl,rfl⟩
 ·rw [if_neg h1] at hc
  by_cases h2:b<a
  ·rw [if_pos h2] at hc
   rw [hc]
   clear hc
   go_enter Tryz.func110,Tryz.ntmps110
   go_wp2_with fail
   refine (uH C1).mono ?_
   rintro e w1 ⟨rfl,rfl⟩
   go_wp2_with fail
   refine (uH C2).mono ?_
   rintro e w2 ⟨rfl,rfl⟩
   go_wp2
   go_ret
   exact ⟨rfl,rfl⟩
  ·rw [if_neg h2] at hc
   rw [hc]
   clear hc
   go_enter Tryz.func110,Tryz.ntmps110
   go_wp2_with fail
   refine (uH C1).mono ?_
   rintro e w1 ⟨rfl,rfl⟩
   go_wp2_with fail
   refine (uH C2).mono ?_
   rintro e w2 ⟨rfl,rfl⟩
   go_wp2
   go_ret
   exact ⟨rfl,rfl⟩
theorem aIF (c:Con) (id:Int) (w:World):Calls Tryz.prog 109 #[.agg #[.int .i64 c.id,.int .i64 c.app,.string (bs c.node),.int .i64 c.mem,.int .i64 c.cpu],.int .i64 id] w fun e w'=>e=.returned (.int .i64 (aIe c.id id))∧Below w.heap.size w w':=by
 have C:=aA (fun wx=>aDK c.id id wx)
 obtain ⟨o,ho⟩:∃o,aIe c.id id=o:=⟨_,rfl⟩
 rw [ho] at C ⊢
 obtain ⟨ci,cap,cn,me,cp⟩:=c
 simp only at C ho
 clear ho
 go_enter Tryz.func109,Tryz.ntmps109
 go_wp2_with fail
 refine (uH C _).mono ?_
 rintro e w1 ⟨rfl,rfl⟩
 go_wp2
 go_ret
 exact ⟨rfl,yA (yH _ _) _⟩
def aLX (l:List Con):Prop:=∀i j (hi:i<l.length) (hj:j<l.length),i<j→l[i].id<l[j].id
def aGc (l:List Con) (id:Int) (n:Nat) (w:World) (e:Ending) (w':World):Prop:=
 ∃(p:Nat) (f:Bool),e=.returned (.tuple #[.int .i64 (p:Int),.bool f])∧p≤l.length∧(∀i (hi:i<l.length),i<p→l[i].id<id)∧(∀i (hi:i<l.length),p≤i→id≤l[i].id)∧(f=true↔∃c ∈ l,c.id=id)∧Below n w w'
theorem aEW (ao:Option Addr) (len cap:Nat) (l:List Con) (id:Int) (w:World) (h:bC w ao len l) (hl:len≤1048576) (ha:aLX l) :
  Calls Tryz.prog 108 #[.slice ao len cap,.int .i64 id,.func (.func 109) #[] #[]] w (aGc l id w.heap.size w):=by
 have HR:=aA h
 have HL:=aA h.1
 have HA:=aA ha
 have C:=aA (fun c wx=>aIF c id wx)
 clear h ha
 go_enter Tryz.func108,Tryz.ntmps108
 go_wp2
 go_loopw [9,10,11] (fun i j _ wr=>∃a b:Nat,a≤b∧b≤len∧i=.int .i64 a∧j=.int .i64 b∧Hid (∀k (hk:k<l.length),k<a→l[k].id<id)∧Hid (∀k (hk:k<l.length),b≤k→id≤l[k].id)∧Hid (Below w.heap.size w wr)) (fun i j _ _=>(intOf j).toNat - (intOf i).toNat)
 case atStart=>exact ⟨0,len,Nat.zero_le _,yJ _,rfl,rfl,aA (fun k _ h=>absurd h (by omega)),aA (fun k hk h=>absurd hk (by have:=uH HL;omega)),aA (yH _ _)⟩
 case round=>
  obtain ⟨a,b,hab,hbl,rfl,rfl,H1,H2,HB⟩:=hrel
  by_cases hlt:a<b
  ·obtain ⟨m,hm⟩:∃m:Nat,(a+b) / 2=m:=⟨_,rfl⟩
   have hq:((a:Int)+(b:Int)) / 2=(m:Int):=by omega
   have hma:a≤m:=by omega
   have hmb:m<b:=by omega
   have hml:m<len:=by omega
   obtain ⟨bb,off,rfl,hat⟩:=((uH HR).below (uH HB)).at hml
   have hmk:m<l.length:=by have:=uH HL;omega
   obtain ⟨c0,c1,c2,c3,c4⟩:=hat hmk
   have H1b:=aA (show l[m].id<id→∀k (hk:k<l.length),k<m+1→l[k].id<id from fun hx k hk hkm=>by
    by_cases e:k=m
    ·subst e;exact hx
    ·have:=uH HA k m hk hmk (by omega);omega)
   have H2b:=aA (show id≤l[m].id→∀k (hk:k<l.length),m≤k→id≤l[k].id from fun hx k hk hkm=>by
    by_cases e:k=m
    ·subst e;exact hx
    ·have:=uH HA m k hmk hk (by omega);omega)
   obtain ⟨c,hc⟩:∃c,l[m]=c:=⟨_,rfl⟩
   rw [hc] at c0 c1 c2 c3 c4 H1b H2b
   have C1:=aA (uH C c)
   have m0:(0:Int)≤m:=by omega
   have m1:(m:Int)<len:=by omega
   obtain ⟨ci,cap',cn,me,cp⟩:=c
   simp only at c0 c1 c2 c3 c4 C1 H1b H2b
   clear hat hc hm hmk
   by_cases hci:ci<id
   ·have hr:aIe ci id = -1:=by rw [aIe,if_pos hci]
    rw [hr] at C1
    have HN:=aA (uH H1b hci)
    clear hr H1b H2b
    go_wp2_with fail
    refine (uH C1 _).mono ?_
    rintro e w2 ⟨rfl,hb⟩
    have HB2:=aA (yB (uH HB) hb)
    clear hb
    go_wp2
    go_roundw
    case rel=>exact ⟨m+1,b,by omega,hbl,by go_num,rfl,HN,H2,HB2⟩
    case measure=>simp [intOf];omega
   ·obtain ⟨r,hr⟩:∃r,aIe ci id=r:=⟨_,rfl⟩
    have hr0:¬r<0:=by rw [←hr,aIe,if_neg hci];split<;>omega
    rw [hr] at C1
    have HN:=aA (uH H2b (by omega))
    clear hr H1b H2b
    go_wp2_with fail
    refine (uH C1 _).mono ?_
    rintro e w2 ⟨rfl,hb⟩
    have HB2:=aA (yB (uH HB) hb)
    clear hb
    go_wp2
    go_roundw
    case rel=>exact ⟨a,m,hma,by omega,rfl,rfl,H1,HN,HB2⟩
    case measure=>simp [intOf];omega
  ·obtain rfl:a=b:=by omega
   by_cases hal:a<len
   ·obtain ⟨bb,off,rfl,hat⟩:=((uH HR).below (uH HB)).at hal
    have hmk:a<l.length:=by have:=uH HL;omega
    obtain ⟨c0,c1,c2,c3,c4⟩:=hat hmk
    have HF:=aA (show (∃c ∈ l,c.id=id)↔l[a].id=id from ⟨fun ⟨c,hc,e⟩=>by
     obtain ⟨k,hk,rfl⟩:=List.mem_iff_getElem.1 hc
     by_cases e1:k<a
     ·have:=uH H1 k hk e1;omega
     ·by_cases e2:k=a
      ·subst e2;exact e
      ·have h1:=uH HA a k hmk hk (by omega)
       have h2:=uH H2 a hmk (yJ _)
       omega,fun e=>⟨_,yM hmk,e⟩⟩)
    have HG:=aA (uH H2 a hmk (yJ _))
    obtain ⟨c,hc⟩:∃c,l[a]=c:=⟨_,rfl⟩
    rw [hc] at c0 c1 c2 c3 c4 HF HG
    have C1:=aA (uH C c)
    obtain ⟨ci,cap',cn,me,cp⟩:=c
    simp only at c0 c1 c2 c3 c4 C1 HF HG
    obtain ⟨r,hr⟩:∃r,aIe ci id=r:=⟨_,rfl⟩
    have hr1:r=0↔ci=id:=by
     have:=uH HG
     rw [←hr,aIe,if_neg (by omega)]
     split<;>omega
    rw [hr] at C1
    have HR1:=aA hr1
    have m0:(0:Int)≤a:=by omega
    have m1:(a:Int)<len:=by omega
    have hpl:a≤l.length:=by omega
    clear hat hc hmk hr hr1
    by_cases hz:r=0
    ·subst hz
     go_wp2_with fail
     refine (uH C1 _).mono ?_
     rintro e w2 ⟨rfl,hb⟩
     have HB2:=aA (yB (uH HB) hb)
     clear hb
     have HZ:=aA (show aGc l id w.heap.size w _ w2 from ⟨a,true,rfl,hpl,uH H1,uH H2,⟨fun _=>(uH HF).2 ((uH HR1).1 (by first | rfl | trivial)),fun _=>rfl⟩,uH HB2⟩)
     go_wp2
     refine bodyPost_ret (v:=.tuple #[.int .i64 (a:Int),.bool true]) (by simp [results,Tryz.results108,go_sem]) rfl (uH HZ)
    ·go_wp2_with fail
     refine (uH C1 _).mono ?_
     rintro e w2 ⟨rfl,hb⟩
     have HB2:=aA (yB (uH HB) hb)
     clear hb
     have HZ:=aA (show aGc l id w.heap.size w _ w2 from ⟨a,false,rfl,hpl,uH H1,uH H2,⟨fun h=>absurd h Bool.false_ne_true,fun h=>absurd ((uH HR1).2 ((uH HF).1 h)) hz⟩,uH HB2⟩)
     go_wp2
     refine bodyPost_ret (v:=.tuple #[.int .i64 (a:Int),.bool false]) (by simp [results,Tryz.results108,go_sem,hz]) rfl (uH HZ)
   ·have hal2:¬(a:Int)<len:=by omega
    have hpl:a≤l.length:=by have:=uH HL;omega
    have HNO:=aA (show ¬ ∃c ∈ l,c.id=id by
     rintro ⟨c,hc,e⟩
     obtain ⟨k,hk,rfl⟩:=List.mem_iff_getElem.1 hc
     have h9:=uH HL
     have h8:=uH H1 k hk (by omega)
     omega)
    have HZ:=aA (fun wx (hb:Below w.heap.size w wx)=>show aGc l id w.heap.size w _ wx from ⟨a,false,rfl,hpl,uH H1,uH H2,⟨fun h=>absurd h Bool.false_ne_true,fun h=>absurd h (uH HNO)⟩,hb⟩)
    go_wp2
    refine bodyPost_ret (v:=.tuple #[.int .i64 (a:Int),.bool false]) (by simp [results,Tryz.results108,go_sem]) rfl (uH HZ _ (uH HB))
theorem rH (x:Sls) (s:St) (id:Int) (w:World) (h:jC w x s) (hf:bD s) (ha:aLX s.cs) :
  Calls Tryz.prog 71 #[sv x s,.int .i64 id] w (aGc s.cs id w.heap.size w):=by
 have hcl:x.cl≤1048576:=by have:=h.len.2.2.2;have:=hf.2.2.2.1;omega
 have hb0:=yA (yH _ w) (.cells (svc x s) 34)
 have C:=aA (aEW x.ca x.cl x.cc s.cs id _ (h.2.2.2.below hb0) hcl ha)
 have HB0:=aA hb0
 clear h hf ha hb0
 obtain ⟨qa,ql,qc,aa,al,ac,ma,ml,mc,ca,cl,cc⟩:=x
 obtain ⟨qs,clock,epoch,next,serial,apps,ms,cs⟩:=s
 simp only at C ⊢
 have hmf:∀(fn:Fn) (first cap:Array Value) (w:World),(Instr.makeFunc fn first cap).run Tryz.prog w=.ok (.func fn first cap) w:=fun _ _ _ _=>rfl
 go_enter Tryz.func71,Tryz.ntmps71
 go_wp2_with fail
 refine (uH C).mono ?_
 rintro e w1 ⟨p,f,rfl,h1,h2,h3,h4,hb⟩
 have HZ:=aA (show aGc cs id w.heap.size w _ w1 from ⟨p,f,rfl,h1,h2,h3,h4,yB (uH HB0) hb⟩)
 clear h1 h2 h3 h4 hb C HB0
 go_wp2
 refine bodyPost_ret (v:=.tuple #[.int .i64 (p:Int),.bool f]) (by simp [results,Tryz.results71,go_sem]) rfl (uH HZ)
def iP:Nat→List AV→Nat
 | K,[]=>K
 | K,v::t=>iP (K+2+5*v.len) t
def hsM:Nat→List AV→List AV
 | _,[]=>[]
 | K,v::t=>⟨(K:Int),109::dgs (K+1),v.ao,v.len,v.cap⟩::hsM (K+2+5*v.len) t
def nD (w:World):Nat→List AV→Prop
 | _,[]=>True
 | K,v::t=>aO w v.ao v.len (kF (K+2) v.len)∧nD w (K+2+5*v.len) t
theorem kI:∀(l:List AV) (K:Nat),(hsM K l).length=l.length
 | [],_=>rfl
 | v::t,K=>by simp [hsM,kI t]
theorem nD.below {w w':World} (hb:Below w.heap.size w w'):∀(l:List AV) (K:Nat),nD w K l→nD w' K l
 | [],_,_=>trivial
 | v::t,K,h=>⟨h.1.below hb,nD.below hb t _ h.2⟩
theorem sO:∀(l:List AV) (K:Nat),K≤iP K l
 | [],K=>yJ _
 | v::t,K=>by have:=sO t (K+2+5*v.len);rw [iP];omega
theorem xP:∀(l:List AV) (K j:Nat) (h:j<l.length),iP K (l.take (j+1))=iP K (l.take j)+2+5*l[j].len
 | v::t,K,0,_=>by simp [iP]
 | v::t,K,j+1,h=>by
  have:=xP t (K+2+5*v.len) j (by simpa using h)
  simp only [List.take_succ_cons,iP,List.getElem_cons_succ]
  exact this
theorem aFU {w:World}:∀(l:List AV) (K j:Nat) (h:j<l.length),nD w K l→aO w l[j].ao l[j].len (kF (iP K (l.take j)+2) l[j].len)
 | v::t,K,0,_,h=>by simpa [iP] using h.1
 | v::t,K,j+1,hj,h=>by
  have:=aFU t (K+2+5*v.len) j (by simpa using hj) h.2
  simpa [iP] using this
theorem aJu:∀(l:List AV) (K j:Nat) (h:j<l.length) (h':j<(hsM K l).length),(hsM K l)[j]=⟨(iP K (l.take j):Int),109::dgs (iP K (l.take j)+1),l[j].ao,l[j].len,l[j].cap⟩
 | v::t,K,0,_,_=>by simp [hsM,iP]
 | v::t,K,j+1,h,h'=>by
  have:=aJu t (K+2+5*v.len) j (by simpa using h) (by simpa [hsM] using h')
  simp only [hsM,List.getElem_cons_succ,List.take_succ_cons,iP]
  exact this
def tF (w0:World) (b p:Nat) (q:AV) (w:World):Prop:=aGk w b p q∧Below w0.heap.size w0 w
theorem tF.call {w0 w w':World} {b p:Nat} {q:AV} (h:tF w0 b p q w) (hb:Below w.heap.size w w'):tF w0 b p q w':=⟨h.1.below hb,yB h.2 hb⟩
theorem tF.drew {w0 w:World} {b p:Nat} {q:AV} (h:tF w0 b p q w):tF w0 b p q w.drew:=h.call (yH _ _).drew
theorem tF.read (w0:World) (b p:Nat) (q:AV):∀wx,tF w0 b p q wx→wx.cell? ⟨b,p,none⟩=some (.int .i64 q.id)∧wx.cell? ⟨b,p+1,none⟩=some (.string (bs q.queue))∧wx.cell? ⟨b,p+2,none⟩=some (.slice q.ao q.len q.cap):=fun wx h=>h.1
theorem aCv (ao:Option Addr) (n c K:Nat) (hs:List AV) (w:World) (h:fA w ao n (hsM K hs)) (ha:nD w K hs) (hn:n≤1048576) (hk:∀v ∈ hs,v.len≤1048576) (h0:0<K) (h1:iP K hs≤100000000000000) :
  Calls Tryz.prog 39 #[.slice ao n c,.int .i64 (K:Int)] w fun e w'=>e=.returned (.int .i64 (iP K hs:Int))∧Below w.heap.size w w':=by
 have HR:=aA h
 have HA:=aA ha
 have HLN:=aA (show n=hs.length by rw [h.1,kI])
 have HV:=aA hk
 have HE:=aA (show ∀j,iP K (hs.take j)≤iP K hs from fun j=>by
  have:∀(l:List AV) (K j:Nat),iP K (l.take j)≤iP K l:=by
   intro l
   induction l with
   | nil=>intro K j;simp [iP]
   | cons v t ih=>
    intro K j
    cases j with
    | zero=>simp only [List.take_zero,iP];have:=sO t (K+2+5*v.len);omega
    | succ j=>simp only [List.take_succ_cons,iP];exact ih _ _
  exact this hs K j)
 have HG:=aA (fun j=>sO (hs.take j) K)
 clear h ha hk
 go_enter Tryz.func39,Tryz.ntmps39
 go_wp2
 go_loopw [1,5] (fun s i wr=>∃(j:Nat) (k:Nat),j≤n∧i=.int .i64 j∧s=.int .i64 (k:Int)∧Hid (k=iP K (hs.take j))∧Hid (Below w.heap.size w wr)) (fun _ i _=>n - (intOf i).toNat)
 case atStart=>exact ⟨0,K,Nat.zero_le _,rfl,rfl,aA (by simp [iP]),aA (yH _ _)⟩
 case round=>
  obtain ⟨j,k,hj,rfl,rfl,HK,HB⟩:=hrel
  by_cases hlt:j<n
  ·have hjl:j<hs.length:=by have:=uH HLN;omega
   obtain ⟨b,off,rfl,hq⟩:=((uH HR).below (uH HB)).at hlt
   have hqq:=hq (by rw [kI];exact hjl)
   rw [aJu hs K j hjl] at hqq
   have hrow:=(aFU hs K j hjl (uH HA)).below (uH HB)
   have hvl:=uH HV _ (yM hjl)
   have hst:=xP hs K j hjl
   have hle:=uH HE (j+1)
   have hgk:=uH HG j
   rw [←uH HK] at hqq hrow hst hgk
   obtain ⟨⟨vi,vq,va,vl,vc⟩,hv⟩:∃v,hs[j]=v:=⟨_,rfl⟩
   rw [hv] at hqq hrow hst hvl
   simp only at hqq hrow hst hvl
   rw [hst] at hle
   have HN:=aA (show (k+2+5*vl:Nat)=iP K (hs.take (j+1)) from hst.symm)
   have C0:=aA (show ∀wx,Calls Tryz.prog 47 #[.int .i64 ((k:Int)+1)] wx fun e w'=>e=.returned (.string (bs (109::dgs (k+1))))∧Below wx.heap.size wx w' from fun wx=>by
    have:=aV ((k:Int)+1) wx (by omega) (by omega)
    rw [show ((k:Int)+1).toNat=k+1 by omega] at this
    exact this)
   have C1:=aA (fun wx (hb:Below wr.heap.size wr wx)=>by have:=aCu va vl vc (k+2) wx (hrow.below hb) hvl (by omega) (by omega);rw [show ((k+2:Nat):Int)=(k:Int)+1+1 by omega] at this;exact this)
   have A0:=aA (show tF wr b (off+j*3) ⟨(k:Int),109::dgs (k+1),va,vl,vc⟩ wr from ⟨hqq,yH _ _⟩)
   have R:=tF.read wr b (off+j*3) ⟨(k:Int),109::dgs (k+1),va,vl,vc⟩
   simp only at R
   have R':=aA R
   obtain ⟨r0,_,_⟩:=R _ (uH A0)
   have j0:(0:Int)≤j:=by omega
   have j1:(j:Int)<n:=by omega
   have hk0:0<k:=by omega
   have hk1:k≤100000000000000:=by omega
   have hw1:IntKind.i64.wrap ((k:Int)+1)=(k:Int)+1:=by rw [IntKind.wrap_i64];omega
   clear hq hqq hrow hst hv hle hgk R hjl
   go_wp2_with fail
   have R:=uH R'
   clear r0
   go_region_held3 (fun wx=>tF wr b (off+j*3) ⟨(k:Int),109::dgs (k+1),va,vl,vc⟩ wx)
    (first | (with_reducible assumption) | exact (uH A0).drew | exact tF.call (by assumption) (by assumption))
    (first
    | (go_at_call 47;refine (uH C0 _).mono ?_;rintro e wt ⟨rfl,hb⟩;have SA:=tF.call (w0:=wr) (b:=b) (p:=off+j*3) (q:=⟨(k:Int),109::dgs (k+1),va,vl,vc⟩) (by assumption) hb))
   obtain ⟨_,_,r2⟩:=R _ SA
   have HS2:=aA SA.2
   clear SA A0 R C0 R'
   go_wp2_with fail
   refine (uH C1 _ (uH HS2)).mono ?_
   rintro e w3 ⟨rfl,hb⟩
   have HB3:=aA (yB (yB (uH HB) (uH HS2)) hb)
   clear hb HS2 C1 r2
   have hkn:¬((k:Int)+1+1+5*(vl:Int))<0:=by omega
   go_wp2
   go_roundw
   case rel=>exact ⟨j+1,k+2+5*vl,by omega,by go_num,by refine congrArg _ ?_;omega,HN,HB3⟩
   case measure=>simp [intOf];omega
  ·have hjn:j=n:=by omega
   have hke:k=iP K hs:=by rw [uH HK,List.take_of_length_le (by have:=uH HLN;omega)]
   have j1:¬(j:Int)<n:=by omega
   go_wp2
   go_ret
   exact ⟨rfl,uH HB⟩
abbrev aGa (q:Ask):List Value:=[.int .i64 q.mem,.int .i64 q.cpu,.int .i64 q.count,.string (bs q.node),.int .i64 q.missed]
def aK:List Ask→List Value
 | []=>[]
 | q::t=>aGa q++aK t
theorem aU:∀l:List Ask,(aK l).length=l.length*5
 | []=>rfl
 | q::t=>by rw [aK,List.length_append,aU t];simp;omega
theorem lW:∀(l:List Ask) (i:Nat) (h:i<l.length),(aK l)[i*5]? = some (.int .i64 l[i].mem)∧(aK l)[i*5+1]? = some (.int .i64 l[i].cpu)∧(aK l)[i*5+2]? = some (.int .i64 l[i].count)∧(aK l)[i*5+3]? = some (.string (bs l[i].node))∧(aK l)[i*5+4]? = some (.int .i64 l[i].missed)
 | q::t,0,_=>⟨rfl,rfl,rfl,rfl,rfl⟩
 | q::t,i+1,h=>by
  have e:=lW t i (by simpa using h)
  have k:∀j,(aK (q::t))[(i+1)*5+j]? = (aK t)[i*5+j]?:=fun j=>by
   rw [aK,show (i+1)*5+j=(aGa q).length+(i*5+j) by simp;omega,List.getElem?_append_right (by omega)]
   congr 1
   omega
  have k0:=k 0
  simp only [Nat.add_zero] at k0
  rw [k0,k 1,k 2,k 3,k 4]
  simpa using e
theorem oN {w:World} {b off len:Nat} {l:List Ask} (h:aO w (some ⟨b,off,none⟩) len l):∀j u,(aK l)[j]? = some u→w.cell? ⟨b,off+j,none⟩=some u:=fun j u hj=>by
 have hjl:j<l.length*5:=by rw [←aU];exact (List.getElem?_eq_some_iff.1 hj).1
 obtain ⟨h1,h2⟩:=h
 rcases h2 with h2 | ⟨b',off',e,h4⟩
 ·omega
 ·cases e
  have hi:j / 5<l.length:=by omega
  obtain ⟨a0,a1,a2,a3,a4⟩:=lW l (j / 5) hi
  obtain ⟨c0,c1,c2,c3,c4⟩:=h4 (j / 5) hi
  rcases (show j % 5=0∨j % 5=1∨j % 5=2∨j % 5=3∨j % 5=4 by omega) with e | e | e | e | e
  ·rw [show j=j / 5*5 by omega] at hj ⊢;rw [a0] at hj;cases hj;exact c0
  ·rw [show j=j / 5*5+1 by omega] at hj ⊢;rw [a1] at hj;cases hj;rw [←Nat.add_assoc];exact c1
  ·rw [show j=j / 5*5+2 by omega] at hj ⊢;rw [a2] at hj;cases hj;rw [←Nat.add_assoc];exact c2
  ·rw [show j=j / 5*5+3 by omega] at hj ⊢;rw [a3] at hj;cases hj;rw [←Nat.add_assoc];exact c3
  ·rw [show j=j / 5*5+4 by omega] at hj ⊢;rw [a4] at hj;cases hj;rw [←Nat.add_assoc];exact c4
theorem iR:∀(l:List Ask),∀u ∈ aK l,u.oneCell'=true
 | [],u,h=>by simp [aK] at h
 | q::t,u,h=>by
  rw [aK,List.mem_append] at h
  rcases h with h | h
  ·simp at h
   rcases h with rfl | rfl | rfl | rfl | rfl<;>rfl
  ·exact iR t u h
def tH (B:Nat) (w:World) (v:Value) (l:List Ask):Prop:=w.ownsRow B 77 5 v l.length (aK l)
theorem aJf (B:Nat) (w:World):tH B w (.slice none 0 0) []:=World.ownsRow_nil _ _ _ _
theorem sW (w:World):w.alloc (.cells #[] 77) |>.ownsRow w.heap.size 77 5 (.slice (some ⟨w.heap.size,0,none⟩) 0 0) 0 []:=
 ⟨rfl,.inr ⟨w.heap.size,0,#[],rfl,yJ _,by show (w.heap.push _)[w.heap.size]? = _;simp,yJ _,by unfold maxLen;omega,rfl,rfl⟩⟩
theorem tH.below {w w':World} {B:Nat} {v:Value} {l:List Ask} (h:tH B w v l) (hb:Below w.heap.size w w'):tH B w' v l:=
 h.kept (aG (aC w none) hb) (by by_cases e:v.ownBlock=none;exact .inl e;exact .inr e)
theorem tH.base {w:World} {B B':Nat} {v:Value} {l:List Ask} (h:tH B w v l) (hb:B'≤B):tH B' w v l:=by
 obtain ⟨h1,h2⟩:=h
 refine ⟨h1,?_⟩
 rcases h2 with h2 | ⟨g,cap,cur,a,b,c⟩
 ·exact .inl h2
 ·exact .inr ⟨g,cap,cur,a,Nat.le_trans hb b,c⟩
theorem tH.row {w:World} {B:Nat} {v:Value} {l:List Ask} (h:tH B w v l):∃ao cap,v=.slice ao l.length cap∧aO w ao l.length l∧l.length≤cap∧(l≠[]→∃g cur,ao=some ⟨g,0,none⟩∧B≤g∧w.heap[g]? = some (.cells cur 77 (0,0))∧cur.size=cap*5):=by
 rcases h.2 with ⟨rfl,h0⟩ | ⟨g,cap,cur,rfl,h1,h2,h3,h4,h5,h6⟩
 ·exact ⟨none,0,by rw [h0],⟨rfl,.inl h0⟩,by omega,fun hn=>absurd (List.length_eq_zero_iff.1 h0) hn⟩
 ·refine ⟨some ⟨g,0,none⟩,cap,rfl,⟨rfl,.inr ⟨g,0,rfl,fun i hi=>?_⟩⟩,h3,fun _=>⟨g,cur,rfl,h1,h2,h5⟩⟩
  obtain ⟨a,b,c,d,e⟩:=lW l i hi
  have k:∀j (v:Value),j<l.length*5→(aK l)[j]? = some v→w.cell? ⟨g,j,none⟩=some v:=fun j v hj hv=>by
   rw [←h6,List.getElem?_take_of_lt hj] at hv
   simp [World.cell?,h2]
   simpa using hv
  unfold pV
  rw [Nat.zero_add]
  exact ⟨k _ _ (by omega) a,k _ _ (by omega) b,k _ _ (by omega) c,k _ _ (by omega) d,k _ _ (by omega) e⟩
theorem Tryz.infoA:(Tryz.prog.info? 77).map (fun i=>(i.zero,i.size,i.bytes))=some (some (.agg #[.int .i64 0,.int .i64 0,.int .i64 0,.string ByteArray.empty,.int .i64 0]),5,48):=by kernel_rfl
theorem aDI (ao:Option Addr) (len cap:Nat) (l:List Ask) (w:World) (h:aO w ao len l) (hl:len≤1048576) :
  Calls Tryz.prog 102 #[.slice ao len cap] w fun e w'=>∃v,e=.returned v∧tH w.heap.size w' v l∧Below w.heap.size w w':=by
 obtain ⟨i0,hi,hz0,hz1,hz2⟩:=info_parts Tryz.infoA
 cases ao with
 | none=>
  have hn:len=0:=by rcases h.2 with h | ⟨b,off,e,_⟩;exact h;cases e
  subst hn
  have hl0:l=[]:=List.length_eq_zero_iff.1 h.1.symm
  subst hl0
  have hnl:∀wx,(binOp .eql 72 (.slice none 0 cap) (.slice none 0 0)).run Tryz.prog wx=.ok (.bool true) wx:=fun wx=>Lib.run_eql_slice_nil wx _ _ none 0 cap 0 0 Tryz.underlying72
  clear h hl
  go_enter Tryz.func102,Tryz.ntmps102
  go_wp2
  go_ret
  exact ⟨_,rfl,aJf _ _,yH _ _⟩
 | some ad=>
  have hnew:∀j u,(aK l)[j]? = some u→(w.alloc (.cells #[] 77)).cell? (ad.add j)=some u:=fun j u hj=>by
   have hjl:j<l.length*5:=by rw [←aU];exact (List.getElem?_eq_some_iff.1 hj).1
   rcases h.2 with h0 | ⟨b,off,e,_⟩
   ·have:=h.1;omega
   ·cases e
    have:=oN (h.below (yA (yH _ w) (.cells #[] 77))) j u hj
    rw [Lib.add_plain]
    exact this
  have HNW:=aA hnew
  have HLN:=aA h.1
  have hown:=sW w
  have hll:(aK l).length=len*5:=by rw [aU,h.1]
  have hone:=iR l
  have hnl:∀wx,(binOp .eql 72 (.slice (some ad) len cap) (.slice none 0 0)).run Tryz.prog wx=.ok (.bool false) wx:=fun wx=>Lib.run_eql_slice_nil wx _ _ (some ad) len cap 0 0 Tryz.underlying72
  clear h hnew
  go_enter Tryz.func102,Tryz.ntmps102
  go_wp2_with (at_builtin;refine wpList_append_own _ rfl _ _ 72 rfl w.heap.size 77 i0 (.agg #[.int .i64 0,.int .i64 0,.int .i64 0,.string ByteArray.empty,.int .i64 0]) 5 48 Tryz.underlying72 hi hz0 hz1 hz2 rfl (by decide) _ _ _ rfl hown ad len cap (aK l) rfl hll (uH HNW) hone ?c3 ?c4 ?c5 ?_)
  case c3=>unfold maxLen;omega
  case c4=>omega
  case c5=>simp
  intro v' w3 hown' hgrow _
  have HO:=aA (show tH w.heap.size w3 v' l by
   unfold tH
   rw [←uH HLN]
   exact hown')
  have HB:=aA (show Below w.heap.size w w3 from (yA (yH _ w) (.cells #[] 77)).grown hgrow (by simp) (fun k e=>by simp [Value.ownBlock] at e;omega))
  clear hown' hgrow hown hone hll
  go_wp2
  go_ret
  exact ⟨_,rfl,uH HO,uH HB⟩
theorem aIr {arr:Array Value} {j:Nat} {x:Value} (h:arr[j]? = some x):arr.setIfInBounds j x=arr:=by
 apply Array.ext
 ·simp
 ·intro i h1 h2
  rw [Array.getElem_setIfInBounds]
  split
  ·rename_i e
   subst e
   rw [Array.getElem?_eq_getElem h2] at h
   exact (Option.some.inj h).symm
  ·rfl
theorem tH.same {w:World} {B g n cap j:Nat} {x:Value} {l:List Ask} (h:tH B w (.slice (some ⟨g,0,none⟩) n cap) l) (hc:w.cell? ⟨g,j,none⟩=some x):tH B (w.setCell ⟨g,j,none⟩ x) (.slice (some ⟨g,0,none⟩) n cap) l∧B≤g:=by
 obtain ⟨h1,h2⟩:=h
 rcases h2 with ⟨e,_⟩ | ⟨g',cap',cur,e,h3,h4,h5⟩
 ·cases e
 ·cases e
  have hx:cur[j]? = some x:=by simpa [World.cell?,h4] using hc
  refine ⟨⟨h1,.inr ⟨g,cap,cur,rfl,h3,?_,h5⟩⟩,h3⟩
  have:=heap_setCell_same w g j _ _ x h4
  rw [aIr hx] at this
  exact this
theorem tH.other3 {w:World} {B:Nat} {v:Value} {l:List Ask} (h:tH B w v l) (k j:Nat) (x:Value) (hk:k<B):tH B (w.setCell ⟨k,j,none⟩ x) v l:=by
 obtain ⟨h1,h2⟩:=h
 refine ⟨h1,?_⟩
 rcases h2 with h2 | ⟨g,cap,cur,a,b,c,d⟩
 ·exact .inl h2
 ·exact .inr ⟨g,cap,cur,a,b,(heap_setCell_other w ⟨k,j,none⟩ g x (show g≠k by omega)).trans c,d⟩
theorem aBb (id:Int) (qu:List UInt8) (ao:Option Addr) (len cap:Nat) (l:List Ask) (w:World) (h:aO w ao len l) (hl:len≤1048576) (hq:qu.length≤1048576) (hn:∀q ∈ l,q.node.length≤1048576) :
  Calls Tryz.prog 65 #[yO id qu ao len cap] w fun e w'=>∃v,e=.returned (.agg #[.int .i64 id,.string (bs qu),v])∧tH w.heap.size w' v l∧Below w.heap.size w w':=by
 have HN:=aA hn
 have hB:=yA (yA (yH _ w) (.cells #[.int .i64 id,.string (bs qu),.slice ao len cap] 74)) (.cells #[.int .i64 0,.string ByteArray.empty,.slice none 0 0] 74)
 have CC:=aA (aDI ao len cap l _ (h.below hB) hl)
 have HB0:=aA hB
 have K0:=aA ((yD w #[.int .i64 id,.string (bs qu),.slice ao len cap] 74).al (.cells #[.int .i64 0,.string ByteArray.empty,.slice none 0 0] 74))
 have K1:=aA (show Blk _ (w.heap.size+1) #[.int .i64 0,.string ByteArray.empty,.slice none 0 0] 74 by have:=yD (w.alloc (.cells #[.int .i64 id,.string (bs qu),.slice ao len cap] 74)) #[.int .i64 0,.string ByteArray.empty,.slice none 0 0] 74;rwa [yE] at this)
 have hll:=aA h.1
 have hsq:(bs qu).size≤281474976710656:=by rw [dI];omega
 clear h hn hB
 go_enter Tryz.func65,Tryz.ntmps65
 go_wp2_with fail
 refine (uH CC).mono ?_
 rintro e w1 ⟨v,rfl,ho,hb⟩
 have HB1:=aA (yB (uH HB0) hb)
 have P0:=aA ((uH K0).below hb)
 have P1:=aA ((uH K1).below hb)
 have hsz1:w.heap.size+2≤w1.heap.size:=by have:=hb.size;rw [yE,yE] at this;omega
 have HO:=aA (ho.base (B':=w.heap.size+2) (by rw [yE,yE];omega))
 obtain ⟨xo,xc,rfl,_,hxc,hxg⟩:=ho.row
 obtain ⟨n,hnn⟩:∃n,l.length=n:=⟨_,rfl⟩
 have HLN:=aA hnn
 have hn2:n≤1048576:=by have:=uH hll;omega
 rw [hnn] at HO hxc ⊢
 clear ho hb CC HB0 K0 K1 hnn hxg
 go_wp2
 go_loopw [10] (fun i wr=>∃(k:Nat),k≤n∧i=.int .i64 k∧Hid (tH (w.heap.size+2) wr (.slice xo n xc) l)∧Hid (Below (w.heap.size+2) w1 wr)) (fun i _=>n - (intOf i).toNat)
 case atStart=>exact ⟨0,Nat.zero_le _,rfl,HO,aA (yH _ _)⟩
 case round=>
  obtain ⟨k,hk,rfl,HOr,HBr⟩:=hrel
  by_cases hlt:k<n
  ·have hkl:k<l.length:=by have:=uH HLN;omega
   obtain ⟨xo',xc',e,hrow,_,hg⟩:=(uH HOr).row
   obtain ⟨g,cur,rfl,hg1,hg2,hg3⟩:=hg (by intro e;rw [e] at hkl;simp at hkl)
   rw [uH HLN] at e hrow
   cases e
   obtain ⟨b',off',e',hat⟩:=hrow.at hlt
   cases e'
   have c3:=(hat hkl).2.2.2.1
   simp only [Nat.zero_add] at c3
   have hnd:=uH HN l[k] (yM _)
   obtain ⟨nd,hs⟩:∃s,l[k].node=s:=⟨_,rfl⟩
   rw [hs] at c3 hnd
   have hsn:(bs nd).size≤281474976710656:=by rw [dI];omega
   have k0:(0:Int)≤k:=by omega
   have k1:(k:Int)<n:=by omega
   have hgs:g<wr.heap.size:=lt_of_block hg2
   clear hat hrow hg2 hg3 hs hkl
   go_wp2_with fail
   refine (iE (bs nd) _ hsn).mono ?_
   rintro e w2 ⟨rfl,hb⟩
   have HO2:=aA ((uH HOr).below hb)
   have c3':=(hb.cell (p:=⟨g,k*5+3,none⟩) hgs).trans c3
   have hsame:=(uH HO2).same c3'
   have f3:w2.frozen? ⟨g,k*5+3,none⟩=false:=by
    rcases (uH HO2).2 with ⟨e,_⟩ | ⟨g',cap',cur',e,_,h4,_⟩
    ·cases e
    ·cases e;simp [World.frozen?,h4]
   have HS:=aA hsame
   have HB2:=aA (show Below (w.heap.size+2) w1 (w2.setCell ⟨g,k*5+3,none⟩ (.string (bs nd))) from ((uH HBr).trans (hb.mono (by have:=(uH HBr).size;omega))).setCell (by exact hsame.2) _)
   clear hb hsame HOr HBr HO2 c3
   go_wp2
   go_roundw
   case rel=>exact ⟨k+1,by omega,by go_num,aA (uH HS).1,HB2⟩
   case measure=>simp [intOf];omega
  ·have q0:=(show Blk wr w.heap.size _ 74 from ((uH HBr).block _ (by omega)).trans (uH P0))
   have q1:=(show Blk wr (w.heap.size+1) _ 74 from ((uH HBr).block _ (by omega)).trans (uH P1))
   have HQ1:=aA q1
   have HBw:=aA (show Below w.heap.size w wr from (uH HB1).trans ((uH HBr).mono (by omega)))
   have hwr:w.heap.size+2≤wr.heap.size:=by have:=(uH HBr).size;omega
   have HQ0:=aA q0
   have a0:=q0.at 0
   have a1:=q0.at 1
   simp at a0 a1
   have CL:=aA (fun wx=>iE (bs qu) wx hsq)
   clear q0 q1
   go_wp2_with fail
   go_region_with (go_at_call 67;refine (uH CL _).mono ?_;rintro e w2 ⟨rfl,hb⟩;have HW2:=aA (yB (yH _ wr).drew hb);have b0:=((uH HQ0).below (uH HW2)).at 0;have b1:=((uH HQ0).below (uH HW2)).at 1;have T2:=(uH HQ1).below (uH HW2);have t0:=T2.at 0;have t1:=T2.at 1;have t2:=T2.at 2;have tf0:=T2.f 0;have tf1:=T2.f 1;have tf2:=T2.f 2;simp at b0 b1 t0 t1 t2;have HT2:=aA T2;clear T2 hb)
   all_goals go_wp2
   all_goals
    have X1:=(((uH HT2).set 0 (.int .i64 id)).set 1 (.string (bs qu))).set 2 (.slice xo n xc)
    have x0:=X1.at 0
    have x1:=X1.at 1
    have x2:=X1.at 2
    simp at x0 x1 x2
    refine bodyPost_ret (v:=.agg #[.int .i64 id,.string (bs qu),.slice xo n xc]) (by simp [results,Tryz.results65,go_sem,x0,x1,x2]) rfl ⟨_,rfl,?_,?_⟩
    ·exact ((((((uH HOr).below (uH HW2)).other3 (w.heap.size+1) 0 (.int .i64 id) (by omega)).other3 (w.heap.size+1) 1 (.string (bs qu)) (by omega)).other3 (w.heap.size+1) 2 (.slice xo n xc) (by omega))).base (by omega)
    ·exact yC (yC (yC (yB (uH HBw) (uH HW2)) _ _ _ (by omega)) _ _ _ (by omega)) _ _ _ (by omega)
end
end Go.Proofs.YtdhibeclkdepiaaGreat
