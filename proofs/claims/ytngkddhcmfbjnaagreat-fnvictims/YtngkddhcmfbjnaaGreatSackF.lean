/-
  Texts in one: OkA, MachI, SumS4.
-/
import Derived.Test.YtngkddhcmfbjnaaGreatSackC
import Derived.Test.YtngkddhcmfbjnaaGreatSackB
set_option maxRecDepth 100000
set_option maxHeartbeats 16000000
set_option linter.unusedVariables false
set_option linter.unusedSimpArgs false
namespace Go.Proofs.YtngkddhcmfbjnaaGreat
section
open Go.RowKit
def lZ (a b:Int):Bool:=aM a b&&!(decide (a=0)&&decide (b=0))
theorem p8 (a b:Int) (w:World) :
  cP 132 #[rv a b] w fun e w'=>e=.returned (.bool (lZ a b))∧Bw w w':=by
 have HB0:=aA (yA (yH _ w) (.cells #[.int .i64 a,.int .i64 b] 37))
 have P0:=aA (yD w #[.int .i64 a,.int .i64 b] 37)
 obtain ⟨r,hr⟩:∃r,aM a b=r:=⟨_,rfl⟩
 have C:=aA (fun wx=>by have:=aJL a b wx;rw [hr] at this;exact this)
 have HS:=aA (show lZ a b=(r&&!(decide (a=0)&&decide (b=0))) by rw [lZ,hr])
 obtain ⟨o,ho⟩:∃o,lZ a b=o:=⟨_,rfl⟩
 rw [ho] at HS ⊢
 clear hr ho
 go_enter Tryz.func132,Tryz.ntmps132
 go_wp2_with fail
 refine (uH C _).mono ?_
 rintro e w1 ⟨rfl,hb⟩
 have HB1:=aA (yB (uH HB0) hb)
 have P1:=(uH P0).below hb
 have p0:=P1.at 0
 have p1:=P1.at 1
 simp at p0 p1
 clear hb P1 P0 HB0 C
 cases r with
 | false=>
  go_wp2
  go_ret
  exact ⟨yF (by rw [uH HS];simp),uH HB1⟩
 | true=>
  by_cases ha:a=0
  ·by_cases hbz:b=0
   ·subst ha hbz
    go_wp2
    go_ret
    exact ⟨yF (by rw [uH HS];simp),uH HB1⟩
   ·subst ha
    go_wp2
    go_ret
    exact ⟨yF (by rw [uH HS];simp [hbz]),uH HB1⟩
  ·go_wp2
   go_ret
   exact ⟨yF (by rw [uH HS];simp [ha]),uH HB1⟩
theorem rM (a b:Int) (w:World) :
  cP 86 #[rv a b] w fun e w'=>e=.returned (.bool (aM a b))∧Bw w w':=
 (aR a b w).mono fun e w' h=>⟨h.1,by rw [h.2];exact yA (yH _ _) _⟩
theorem pI (a b:Int) (w:World) :
  cP 56 #[rv a b] w fun e w'=>e=.returned (.bool (lZ a b))∧Bw w w':=by
 have HB0:=aA (yA (yH _ w) (.cells #[.int .i64 a,.int .i64 b] 37))
 have P0:=aA (yD w #[.int .i64 a,.int .i64 b] 37)
 obtain ⟨r,hr⟩:∃r,aM a b=r:=⟨_,rfl⟩
 have C:=aA (fun wx=>by have:=rM a b wx;rw [hr] at this;exact this)
 have HS:=aA (show lZ a b=(r&&!(decide (a=0)&&decide (b=0))) by rw [lZ,hr])
 obtain ⟨o,ho⟩:∃o,lZ a b=o:=⟨_,rfl⟩
 rw [ho] at HS ⊢
 clear hr ho
 go_enter Tryz.func56,Tryz.ntmps56
 go_wp2_with fail
 refine (uH C _).mono ?_
 rintro e w1 ⟨rfl,hb⟩
 have HB1:=aA (yB (uH HB0) hb)
 have P1:=(uH P0).below hb
 have p0:=P1.at 0
 have p1:=P1.at 1
 simp at p0 p1
 clear hb P1 P0 HB0 C
 cases r with
 | false=>
  go_wp2
  go_ret
  exact ⟨yF (by rw [uH HS];simp),uH HB1⟩
 | true=>
  by_cases ha:a=0
  ·by_cases hbz:b=0
   ·subst ha hbz
    go_wp2
    go_ret
    exact ⟨yF (by rw [uH HS];simp),uH HB1⟩
   ·subst ha
    go_wp2
    go_ret
    exact ⟨yF (by rw [uH HS];simp [hbz]),uH HB1⟩
  ·go_wp2
   go_ret
   exact ⟨yF (by rw [uH HS];simp [ha]),uH HB1⟩
def iN (q:Ask):Bool:=lZ q.mem q.cpu&&(inB q.count 1 1000&&((decide (q.node=[])||bJ q.node)&&inB q.missed 0 1000))
theorem aCv (q:Ask) (w:World) (hn:q.node.length≤1048576) :
  cP 102 #[aKJ q] w fun e w'=>e=.returned (.bool (iN q))∧Bw w w':=by
 obtain ⟨x0,x1,ct,nd,ms⟩:=q
 simp only at hn
 have HB0:=aA (yA (yH _ w) (.cells #[.int .i64 x0,.int .i64 x1,.int .i64 ct,.string (bs nd),.int .i64 ms] 104))
 have P0:=aA (yD w #[.int .i64 x0,.int .i64 x1,.int .i64 ct,.string (bs nd),.int .i64 ms] 104)
 obtain ⟨sm,hsm⟩:∃r,lZ x0 x1=r:=⟨_,rfl⟩
 obtain ⟨nk,hnk⟩:∃r,bJ nd=r:=⟨_,rfl⟩
 have C:=aA (fun wx=>by have:=p8 x0 x1 wx;rw [hsm] at this;exact this)
 have CN:=aA (fun wx=>by have:=lK (bs nd) wx (by rw [dD];exact hn);rw [show bJ (bs nd).data.toList=nk by rw [←hnk];simp [bs]] at this;exact this)
 have HS:=aA (show iN ⟨x0,x1,ct,nd,ms⟩=(sm&&(inB ct 1 1000&&((decide (nd=[])||nk)&&inB ms 0 1000))) by rw [iN];simp only [hsm,hnk])
 obtain ⟨o,ho⟩:∃o,iN ⟨x0,x1,ct,nd,ms⟩=o:=⟨_,rfl⟩
 have hbz:=qW nd
 rw [ho] at HS ⊢
 clear hsm hnk ho hn
 go_enter Tryz.func102,Tryz.ntmps102
 go_wp2_with fail
 refine (uH C _).mono ?_
 rintro e w1 ⟨rfl,hb⟩
 have HB1:=aA (yB (uH HB0) hb)
 have P1:=(uH P0).below hb
 have p2:=P1.at 2
 have p3:=P1.at 3
 have p4:=P1.at 4
 simp at p2 p3 p4
 clear hb P1 P0 HB0 C
 cases sm with
 | false=>
  go_wp2
  go_ret
  exact ⟨yF (by rw [uH HS];simp),uH HB1⟩
 | true=>
 by_cases h1:1≤ct
 case neg=>
  go_wp2
  go_ret
  exact ⟨yF (by rw [uH HS,bK (by omega)];simp),uH HB1⟩
 by_cases h2:ct≤1000
 case neg=>
  go_wp2
  go_ret
  exact ⟨yF (by rw [uH HS,bK (by omega)];simp),uH HB1⟩
 by_cases hz:nd=[]
 ·rw [decide_eq_true hz] at hbz HS
  clear hz
  by_cases m1:0≤ms
  case neg=>
   go_wp2
   go_ret
   exact ⟨yF (by rw [uH HS,cZ h1 h2,bK (by omega)];simp),uH HB1⟩
  by_cases m2:ms≤1000
  case neg=>
   go_wp2
   go_ret
   exact ⟨yF (by rw [uH HS,cZ h1 h2,bK (x:=ms) (by omega)];simp;omega),uH HB1⟩
  go_wp2
  go_ret
  exact ⟨yF (by rw [uH HS,cZ h1 h2,cZ m1 m2];simp),uH HB1⟩
 ·rw [decide_eq_false hz] at hbz HS
  clear hz
  go_wp2_with fail
  refine (uH CN _).mono ?_
  rintro e w2 ⟨rfl,rfl⟩
  clear CN
  cases nk with
  | false=>
   go_wp2
   go_ret
   exact ⟨yF (by rw [uH HS];simp),uH HB1⟩
  | true=>
  by_cases m1:0≤ms
  case neg=>
   go_wp2
   go_ret
   exact ⟨yF (by rw [uH HS,cZ h1 h2,bK (by omega)];simp),uH HB1⟩
  by_cases m2:ms≤1000
  case neg=>
   go_wp2
   go_ret
   exact ⟨yF (by rw [uH HS,cZ h1 h2,bK (by omega)];simp;omega),uH HB1⟩
  go_wp2
  go_ret
  exact ⟨yF (by rw [uH HS,cZ h1 h2,cZ m1 m2];simp),uH HB1⟩
theorem aA8 (q:Ask) (w:World) (hn:q.node.length≤1048576) :
  cP 104 #[aKJ q] w fun e w'=>e=.returned (.bool (iN q))∧Bw w w':=by
 obtain ⟨x0,x1,ct,nd,ms⟩:=q
 simp only at hn
 have HB0:=aA (yA (yH _ w) (.cells #[.int .i64 x0,.int .i64 x1,.int .i64 ct,.string (bs nd),.int .i64 ms] 104))
 have P0:=aA (yD w #[.int .i64 x0,.int .i64 x1,.int .i64 ct,.string (bs nd),.int .i64 ms] 104)
 obtain ⟨sm,hsm⟩:∃r,lZ x0 x1=r:=⟨_,rfl⟩
 obtain ⟨nk,hnk⟩:∃r,bJ nd=r:=⟨_,rfl⟩
 obtain ⟨ic,hic⟩:∃r,inB ct 1 1000=r:=⟨_,rfl⟩
 obtain ⟨im,him⟩:∃r,inB ms 0 1000=r:=⟨_,rfl⟩
 have C:=aA (fun wx=>by have:=pI x0 x1 wx;rw [hsm] at this;exact this)
 have CN:=aA (fun wx=>by have:=lF (bs nd) wx (by rw [dD];exact hn);rw [show bJ (bs nd).data.toList=nk by rw [←hnk];simp [bs]] at this;exact this)
 have CC:=aA (fun wx=>by have:=aQ ct 1 1000 wx;rw [hic] at this;exact this)
 have CD:=aA (fun wx=>by have:=aQ ms 0 1000 wx;rw [him] at this;exact this)
 have HS:=aA (show iN ⟨x0,x1,ct,nd,ms⟩=(sm&&(ic&&((decide (nd=[])||nk)&&im))) by rw [iN];simp only [hsm,hnk,hic,him])
 obtain ⟨o,ho⟩:∃o,iN ⟨x0,x1,ct,nd,ms⟩=o:=⟨_,rfl⟩
 have hbz:=qW nd
 rw [ho] at HS ⊢
 clear hsm hnk ho hn hic him
 go_enter Tryz.func104,Tryz.ntmps104
 go_wp2_with fail
 refine (uH C _).mono ?_
 rintro e w1 ⟨rfl,hb⟩
 have HB1:=aA (yB (uH HB0) hb)
 have P1:=(uH P0).below hb
 have p2:=P1.at 2
 have p3:=P1.at 3
 have p4:=P1.at 4
 simp at p2 p3 p4
 clear hb P1 P0 HB0 C
 cases sm with
 | false=>
  go_wp2
  go_ret
  exact ⟨yF (by rw [uH HS];simp),uH HB1⟩
 | true=>
 go_wp2_with fail
 refine (uH CC _).mono ?_
 rintro e w2 ⟨rfl,rfl⟩
 clear CC
 cases ic with
 | false=>
  go_wp2
  go_ret
  exact ⟨yF (by rw [uH HS];simp),uH HB1⟩
 | true=>
 by_cases hz:nd=[]
 ·rw [decide_eq_true hz] at hbz HS
  clear hz CN
  go_wp2_with fail
  refine (uH CD _).mono ?_
  rintro e w3 ⟨rfl,rfl⟩
  clear CD
  go_wp2
  go_ret
  exact ⟨yF (by rw [uH HS];simp),uH HB1⟩
 ·rw [decide_eq_false hz] at hbz HS
  clear hz
  go_wp2_with fail
  refine (uH CN _).mono ?_
  rintro e w3 ⟨rfl,rfl⟩
  clear CN
  cases nk with
  | false=>
   go_wp2
   go_ret
   exact ⟨yF (by rw [uH HS];simp),uH HB1⟩
  | true=>
  go_wp2_with fail
  refine (uH CD _).mono ?_
  rintro e w4 ⟨rfl,rfl⟩
  clear CD
  go_wp2
  go_ret
  exact ⟨yF (by rw [uH HS];simp),uH HB1⟩
end
section
open Go.RowKit Go.Shelf Go.Maps
variable {l:List Mac} {W W' w:World}
attribute [local go_sem] Oper.semAt_some
def aI7 (w:World) (c:Array Value):World:=((w.alloc (.cells c 29)).alloc (.map #[] 0)).alloc (.cells #[.map (some (w.heap.size+1))] 147)
theorem aCV (w:World) (c:Array Value):(aI7 w c).heap.size=w.heap.size+1+1+1:=by simp only [aI7,yE]
theorem aF1 (w:World) (c:Array Value):Bw w (aI7 w c):=yA (yA (yA (yH _ w) _) _) _
theorem aI6 (w:World) (c:Array Value):(aI7 w c).ownsMap Tryz.prog 92 jE (w.heap.size+1) 0 (.map []):=by
 have:=(World.ownsMap_made (w.alloc (.cells c 29)) Tryz.prog 92 jE).alloc (.cells #[.map (some (w.heap.size+1))] 147)
 rw [yE] at this
 exact this
theorem aI5 (w:World) (c:Array Value):Blk (aI7 w c) (w.heap.size+1+1) #[.map (some (w.heap.size+1))] 147:=by
 have:=yD ((w.alloc (.cells c 29)).alloc (.map #[] 0)) #[.map (some (w.heap.size+1))] 147
 rw [yE,yE] at this
 exact this
def nN (w:World) (l:List Mac) (W:World):Prop:=(∃D,W.ownsMap Tryz.prog 92 jE (w.heap.size+1) l.length D∧lW l D)∧Blk W (w.heap.size+1+1) #[.map (some (w.heap.size+1))] 147
theorem nN.grown {row:Option Nat} (h:nN w l W) (hg:W.grownBy W' row) (hr:∀r,row=some r→w.heap.size+1+1<r):nN w l W':=by
 obtain ⟨⟨D,h1,h2⟩,h3⟩:=h
 exact ⟨⟨D,h1.kept hg (fun e=>by have:=hr _ e.symm;omega),h2⟩,(hg.block _ h3.lt (fun e=>by have:=hr _ e.symm;omega)).trans h3⟩
theorem nN.below (h:nN w l W) (hb:Bw W W'):nN w l W':=h.grown (aG (aF W none) hb) (fun r e=>by cases e)
theorem aCW (x:Sls) (s:St) (w:World) (h:cO w x.ma x.ml s.ms) (hl:x.ml≤1048576) (hn:∀m ∈ s.ms,m.name.length≤1048576) :
  cP 129 #[sv x s] w fun e w'=>e=.returned (.map (some (w.heap.size+1)))∧nN w s.ms w'∧Bw w w':=by
 obtain ⟨qa,ql,qc,aa,al,ac,ma,ml,mc,ca,cl,cc⟩:=x
 obtain ⟨qs,cv,ez,nv,sj,aj,ms,cs⟩:=s
 simp only at h hl hn ⊢
 have HR:=aA h
 have HL:=aA h.1
 have HN:=aA hn
 have hmx:Tryz.prog.follows .mixedOrders=true:=by kernel_rfl
 have hmm:=fun (t:TypeId) (wx:World)=>run_makeMap (P:=Tryz.prog) t wx
 clear h hn
 refine (callsIn_wide (n:=3)).1 ?_
 refine callsIn_of_wp_marks Tryz.func129 rfl trivial ?_ rfl
 simp only [Tryz.ntmps129,List.size_toArray,List.length_cons,List.length_nil,Nat.reduceAdd,Nat.reduceSub,Array.replicate_succ,Array.replicate_zero,List.push_toArray,List.append_toArray,List.nil_append,List.cons_append]
 gi_wp2_with fail
 first | refine ⟨trivial,?_⟩ | skip
 first | refine ⟨(by intro e;cases e),?_⟩ | skip
 refine (callsIn_wide.2 (aHd (.slice ma ml mc) _ rfl)).mono ?_
 rintro e w4 ⟨rfl,rfl⟩
 gi_wp2
 have QS:=yE (aI7 w (svc ⟨qa,ql,qc,aa,al,ac,ma,ml,mc,ca,cl,cc⟩ ⟨qs,cv,ez,nv,sj,aj,ms,cs⟩)) (.cells #[.slice ma ml mc] 26)
 rw [aCV] at QS
 have hB0:=yA (aF1 w (svc ⟨qa,ql,qc,aa,al,ac,ma,ml,mc,ca,cl,cc⟩ ⟨qs,cv,ez,nv,sj,aj,ms,cs⟩)) (.cells #[.slice ma ml mc] 26)
 have hI0:=nN.below (w:=w) (l:=[]) ⟨⟨_,aI6 w (svc ⟨qa,ql,qc,aa,al,ac,ma,ml,mc,ca,cl,cc⟩ ⟨qs,cv,ez,nv,sj,aj,ms,cs⟩),aC7⟩,aI5 w _⟩ (yA (yH _ _) (.cells #[.slice ma ml mc] 26))
 have GQ:=(yD (aI7 w (svc ⟨qa,ql,qc,aa,al,ac,ma,ml,mc,ca,cl,cc⟩ ⟨qs,cv,ez,nv,sj,aj,ms,cs⟩)) #[.slice ma ml mc] 26).at 0
 rw [aCV] at GQ
 obtain ⟨W0,hW0⟩:∃W0,(aI7 w (svc ⟨qa,ql,qc,aa,al,ac,ma,ml,mc,ca,cl,cc⟩ ⟨qs,cv,ez,nv,sj,aj,ms,cs⟩)).alloc (.cells #[.slice ma ml mc] 26)=W0:=⟨_,rfl⟩
 rw [hW0] at QS hB0 hI0 GQ
 have HC:=aA (aDy (3 - 1) (w.heap.size+1+1+1) ml mc ma ms W0 GQ ((uH HR).below hB0) hl (uH HN))
 show Code.wpIn _ _ _ _ _ _ ((aI7 w (svc ⟨qa,ql,qc,aa,al,ac,ma,ml,mc,ca,cl,cc⟩ ⟨qs,cv,ez,nv,sj,aj,ms,cs⟩)).alloc (.cells #[.slice ma ml mc] 26))
 rw [hW0]
 clear hW0 GQ
 refine wpIn_rangeFunc_ownH rfl (by omega) (gf:=189) (lb:=#[.pointer (some ⟨w.heap.size+1+1+1,0,none⟩)]) rfl trivial (enters_of Tryz.func189 (by kernel_rfl) rfl)
  (uH HC) aFc aIc (yH _ _) (fun _=>rfl)
  (fun pre W=>nN w ((pre.map (fun x:Int×aGE=>x.2.1)).reverse) W∧Bw w W)
  (fun _ _ _=>False)
  (OwnFrom.and (fun s X Y row hs hg hr=>nN.grown hs hg (fun r e=>by have:=(hr r e).1;omega)) (ownFrom_below (yJ _) (by omega)))
  (fun _ _ _ _ _ hs _ _=>hs)
  ⟨hI0,hB0⟩
  (fun x a' W=>∃Bx,w.heap.size+1+1<Bx∧Blk W Bx #[.string (bs x.2.1.name),.int .i64 x.2.1.mem,.int .i64 x.2.1.cpu,.int .i64 x.2.1.seen] 102∧a' = { tmps:=#[sv ⟨qa,ql,qc,aa,al,ac,ma,ml,mc,ca,cl,cc⟩ ⟨qs,cv,ez,nv,sj,aj,ms,cs⟩,.pointer (some ⟨w.heap.size,0,none⟩),.map none,.pointer (some ⟨w.heap.size+1+1,0,none⟩),undef,.pointer (some ⟨Bx,0,none⟩),.map (some (w.heap.size+1)),.pointer (some ⟨w.heap.size,6,none⟩),.slice ma ml mc,.func (.func 189) #[] #[.pointer (some ⟨w.heap.size+1+1+1,0,none⟩)],.int .i64 x.1,aI8 x.2.1,undef,undef,undef,undef,undef],defers:=[] })
  (fun x a' _ X Y row hs hg hr=>by
   obtain ⟨Bx,h1,h2,h3⟩:=hs
   refine ⟨Bx,h1,(hg.block Bx h2.lt (fun e=>?_)).trans h2,h3⟩
   obtain ⟨_,o,ho,hc⟩:=hr Bx e.symm
   rw [show X.heap[Bx]? = _ from h2] at ho
   cases ho
   cases hc)
  ?assign ?body ?done ?stop
 case assign=>
  rintro lp pre ⟨i,⟨⟨nm,me,cp,se⟩,hnm⟩⟩ W K ⟨hI,hB⟩ hK
  have hlt:=hI.2.lt
  gi_wp2
  exact hK _ _ ((KeepsOthers.alloc _ _).from _) (jR (yA (yH _ W) _)) ⟨hI.below (yA (yH _ W) _),yA hB _⟩ ⟨W.heap.size,hlt,yD W _ _,rfl⟩
 case body=>
  rintro lp pre ⟨i,⟨⟨nm,me,cp,se⟩,hnm⟩⟩ a' W hlp _ ⟨hI,hB⟩ ⟨Bx,hBx,hX,rfl⟩ hlt
  have HI:=aA hI
  have HX:=aA hX
  have HB:=aA hB
  have x0:=hX.at 0
  have x1:=hX.at 1
  have x2:=hX.at 2
  have x3:=hX.at 3
  have v0:=hI.2.at 0
  simp at x0 x1 x2 x3 v0
  have hpl:pre.length<1048576:=by have:=uH HL;omega
  clear hI hX hB
  have hnm':nm.length≤1048576:=hnm
  obtain ⟨kl,G7⟩:=aA9 (nm:=nm) (k:=0) (by omega) (by decide)
  have QA:=aA G7
  clear G7
  gi_wp2_with fail
  gi_region_with_o (first | (first | refine ⟨trivial,?_⟩ | skip);(first | refine ⟨(by intro e;cases e),?_⟩ | skip);refine (CallsIn.inRound lp (callsIn_wide.2 (aF4 ⟨nm,me,cp,se⟩ _))).mono ?_;rintro e wc ⟨rfl,hbc⟩;have HW3:=aA (yB (yH _ W).drew hbc);have y0:=((uH HX).below (uH HW3)).at 0;have y1:=((uH HX).below (uH HW3)).at 1;have y2:=((uH HX).below (uH HW3)).at 2;have y3:=((uH HX).below (uH HW3)).at 3;have u0:=((uH HI).below (uH HW3)).2.at 0;simp at y0 y1 y2 y3 u0;obtain ⟨D,Hq,hk⟩:=((uH HI).below (uH HW3)).1;obtain ⟨w4,gq,GZ,GK⟩:=Hq.update jS Tryz.underlying147 (by unfold maxLen;simp;omega) (uH QA) (rX ⟨nm,me,cp,se⟩);have zk:=aA (And.intro GZ (And.intro GK (lW.put (m:=⟨nm,me,cp,se⟩) hk Hq.isMap (uH QA))));clear GZ GK hk Hq hbc)
  all_goals gi_wp2
  all_goals
   obtain ⟨f1,f2,f3⟩:=uH zk
   have GA:=(uH HW3)
   have hv4:=(f2.block _ ((uH HI).below GA).2.lt (by simp)).trans ((uH HI).below GA).2
   have Fv:nN w (⟨nm,me,cp,se⟩::(pre.map (fun x:Int×aGE=>x.2.1)).reverse) w4:=⟨⟨_,f1,f3⟩,hv4⟩
   refine ⟨((iI GA).from _).trans (KeepsFrom.of_grownBy f2 (fun j e=>by cases e;omega)),aFc (jR GA) (fun k o ho hc=>(f2.block k (lt_of_block ho) (fun e=>?_)).trans ho),by simpa using Fv,?_⟩
   ·obtain ⟨D',hD',_⟩:=((uH HI).below GA).1
    obtain ⟨es,ck,hm',_⟩:=hD'
    obtain rfl:k=w.heap.size+1:=by simpa using e
    rw [hm'] at ho
    cases ho
    cases hc
   ·exact ((uH HB).trans (GA.mono (uH HB).size)).grown f2 (by have:=(uH HB).size;have:=GA.size;omega) (fun k e=>by cases e;omega)
 case done=>
  rintro D ys W hD hys ⟨hI,hB⟩ hK
  rw [uH hys,List.reverse_reverse] at hI
  have v0:=hI.2.at 0
  simp at v0
  have HI:=aA hI
  have HB:=aA hB
  clear hI hB
  gi_wp2
  refine ⟨by simp,.inl ⟨_,_,rfl,run_takeDeferred hK,?_⟩⟩
  exact ⟨_,results_tmp rfl _ _ _,rfl,(uH HI).grown (grownBy_putObj' W D _) (fun r e=>by cases e;omega),(uH HB).trans (belowK_b (w:=w) (yJ _) W D _ _ (by omega) hK rfl rfl)⟩
 case stop=>
  rintro D c pre W _ _ h _
  exact h.elim
theorem aD8 (x:Sls) (s:St) (w:World) (h:cO w x.ma x.ml s.ms) (hl:x.ml≤1048576) (hn:∀m ∈ s.ms,m.name.length≤1048576) :
  cP 129 #[sv x s] w fun e w'=>∃bm,e=.returned (.map (some bm))∧(w.heap.size≤bm∧∃D,w'.ownsMap Tryz.prog 92 jE bm s.ms.length D∧lW s.ms D)∧Bw w w':=
 (aCW x s w h hl hn).mono fun e w' ⟨h1,h2,h3⟩=>⟨_,h1,⟨by omega,h2.1⟩,h3⟩
end
section
open Go.RowKit
variable {x y:Int} {r:Int×Int} {b p:Nat} {w w0:World}
def bU (w0:World) (b p:Nat) (r:Int×Int) (x y:Int) (w:World):Prop:=RAt w b p r∧Var w 37 (w0.heap.size+1) x y∧Var w 37 w0.heap.size 0 0∧Bw w0 w
theorem bU.call {w':World} (h:bU w0 b p r x y w) (hb:Bw w w'):bU w0 b p r x y w':=⟨h.1.below hb,h.2.1.below hb,h.2.2.1.below hb,yB h.2.2.2 hb⟩
theorem bU.drew (h:bU w0 b p r x y w):bU w0 b p r x y w.drew:=h.call (yH _ _).drew
theorem bU.al (h:bU w0 b p r x y w) (o:Obj):bU w0 b p r x y (w.alloc o):=h.call (yA (yH _ _) o)
theorem bU.set (h:bU w0 b p r x y w) (k j:Nat) (v:Value) (h1:w0.heap.size+1<k) (h2:b≠k):bU w0 b p r x y (w.setCell ⟨k,j,none⟩ v):=by
  have hc:∀q,(w.setCell ⟨k,j,none⟩ v).cell? ⟨b,q,none⟩=w.cell? ⟨b,q,none⟩:=fun q=>by unfold World.cell?;rw [heap_setCell_other w ⟨k,j,none⟩ b v h2]
  exact ⟨⟨(hc _).trans h.1.1,(hc _).trans h.1.2⟩,h.2.1.other _ _ _ (by omega),h.2.2.1.other _ _ _ (by omega),yC h.2.2.2 _ _ _ (by omega)⟩
theorem bU.read (w0:World) (b p:Nat) (r:Int×Int) (x y:Int):∀wx,bU w0 b p r x y wx→wx.cell? ⟨b,p,none⟩=some (.int .i64 r.1)∧wx.cell? ⟨b,p+1,none⟩=some (.int .i64 r.2)∧wx.cell? ⟨w0.heap.size+1,0,none⟩=some (.int .i64 x)∧wx.cell? ⟨w0.heap.size+1,1,none⟩=some (.int .i64 y):=
  fun wx h=>⟨h.1.1,h.1.2,h.2.1.c0,h.2.1.c1⟩
theorem lT (ao:Option Addr) (len cap:Nat) (l:List (Int×Int)) (w:World) (h:aGD w ao len l) (hl:len≤1048576) :
    cP 99 #[.slice ao len cap] w fun e w'=>e=.returned (.tuple #[rv (iL l).1 (iL l).2.1,.bool (iL l).2.2])∧Bw w w':=by
  have HR:=aA h
  have HL:=aA h.1
  obtain ⟨⟨sx,sy,so⟩,hs⟩:∃s,iL l=s:=⟨_,rfl⟩
  have HS:=aA (show aS l 0 0=(sx,sy,so) from hs)
  rw [hs]
  clear h hs
  go_enter Tryz.func99,Tryz.ntmps99
  go_wp2
  go_loopw [5] (fun i wr=>∃(k:Nat) (x y:Int),k≤len∧i=.int .i64 k∧Hid (aS (l.drop k) x y=(sx,sy,so))∧Hid (Var wr 37 w.heap.size 0 0)∧Hid (Var wr 37 (w.heap.size+1) x y)∧Hid (Bw w wr)) (fun i _=>len - (intOf i).toNat)
  case atStart=>exact ⟨0,0,0,Nat.zero_le _,rfl,aA (by simpa using uH HS),aA ((bD w _ _ _).al _),aA (jK w _ _ 0 0 0 0),aA (yA (yA (yH _ _) _) _)⟩
  case round=>
    obtain ⟨k,x,y,hk,rfl,HQ,QP,GH,HB⟩:=hrel
    by_cases hlt:k<len
    · obtain ⟨b,off,rfl,hq⟩:=((uH HR).below (uH HB)).at hlt
      have hkl:k<l.length:=by have:=uH HL;omega
      have hst:=tV hkl x y
      have A0:=aA (show bU w b (off+k*2) l[k] x y wr from ⟨hq hkl,uH GH,uH QP,uH HB⟩)
      obtain ⟨⟨a,d⟩,hs⟩:∃q,l[k]=q:=⟨_,rfl⟩
      rw [hs] at A0 hst
      simp only at hst
      have HST:=aA hst
      have R:=bU.read w b (off+k*2) (a,d) x y
      simp only at R
      have k0:(0:Int)≤k:=by omega
      have k1:(k:Int)<len:=by omega
      clear hq hs hkl hst QP GH HB
      have CA:=aA (fun wx=>wW x y a d wx)
      obtain ⟨x',y',ok,hv⟩:∃x' y' ok,kT 1 x y a d=rv x' y'∧aP 1 x y a d=ok:=by
        cases ho:aP 1 x y a d
        · exact ⟨0,0,_,mH ho,rfl⟩
        · exact ⟨_,_,_,oF ho,rfl⟩
      have XY:=aA hv
      rw [hv.1,hv.2] at CA
      clear hv
      have sz1:=(uH A0).2.1.lt
      have sb1:=(uH A0).1.lt
      go_wp2_with fail
      go_cut [6,7] from 15 to 24 (fun v6 v7 wx=>∃g,v6=.pointer (some ⟨g,0,none⟩)∧v7=.bool ok∧bU w b (off+k*2) (a,d) x y wx∧Var wx 37 g x' y'∧w.heap.size+1<g)
      case first=>
        go_region_held3 (fun wx=>bU w b (off+k*2) (a,d) x y wx)
          (first | (with_reducible assumption) | exact uH SA | exact (uH A0).drew | exact bU.al (uH SA) _ | exact bU.al (by assumption) _ | exact bU.al (uH A0).drew _ | exact bU.call (by assumption) (by assumption) | exact bU.set (bU.set (uH SA) _ _ _ (by first | omega | (simp<;>omega)) (by first | omega | (simp<;>omega))) _ _ _ (by first | omega | (simp<;>omega)) (by first | omega | (simp<;>omega)) | exact bU.set (bU.set (by assumption) _ _ _ (by first | omega | (simp<;>omega)) (by first | omega | (simp<;>omega))) _ _ _ (by first | omega | (simp<;>omega)) (by first | omega | (simp<;>omega)))
          (first
          | (go_at_call 37;refine (uH CA _).mono ?_;rintro e wt ⟨rfl,hb⟩;have SA:=aA (bU.call (w0:=w) (b:=b) (p:=off+k*2) (r:=(a,d)) (x:=x) (y:=y) (by assumption) hb);have sz:=(uH SA).2.1.lt;have sb:=(uH SA).1.lt
             first
               | (have V5:=(bD _ 37 0 0).below hb;(try simp at V5);have c50:=V5.c0;have c51:=V5.c1;have f50:=V5.f 0;have f51:=V5.f 1;have V5:=aA V5)
               | (have V5:=(bD _ 37 0 0).drew.below hb;(try simp at V5);have c50:=V5.c0;have c51:=V5.c1;have f50:=V5.f 0;have f51:=V5.f 1;have V5:=aA V5)
               | skip))
        all_goals
          go_wp2_with fail
          go_meet
          exact ⟨_,rfl,rfl,by first | assumption | exact uH SA | exact bU.al (uH SA) _,by first | exact bD _ _ _ _ | exact (uH V5).set _ _,by first | omega | (simp<;>omega)⟩
      case rest=>
        obtain ⟨g,rfl,rfl,hA,hV,hg⟩:=hcut
        have A1:=aA hA
        have W1:=aA hV
        clear hA hV A0 CA R
        have v0:=(uH W1).c0
        have v1:=(uH W1).c1
        have s0:=(uH A1).2.1.c0
        have s1:=(uH A1).2.1.c1
        have sf0:=(uH A1).2.1.f 0
        have sf1:=(uH A1).2.1.f 1
        have t0:=(uH A1).2.2.1.c0
        have t1:=(uH A1).2.2.1.c1
        have tf0:=(uH A1).2.2.1.f 0
        have tf1:=(uH A1).2.2.1.f 1
        cases ok with
        | true=>
          have hxy:=oF (uH XY).2
          rw [(uH XY).1] at hxy
          simp only [rv,Value.agg.injEq,Array.mk.injEq,List.cons.injEq,Value.int.injEq,and_true,true_and] at hxy
          rw [if_pos (uH XY).2,←hxy.1,←hxy.2] at HST
          clear hxy XY
          go_wp2
          go_roundw
          case rel=>exact ⟨k+1,x',y',by omega,by go_num,aA (by rw [←uH HST];exact uH HQ),aA (((uH A1).2.2.1.other _ _ _ (show w.heap.size≠w.heap.size+1 by omega)).other _ _ _ (show w.heap.size≠w.heap.size+1 by omega)),aA ((uH A1).2.1.set _ _),aA (yC (yC (uH A1).2.2.2 _ _ _ (show w.heap.size≤w.heap.size+1 by omega)) _ _ _ (show w.heap.size≤w.heap.size+1 by omega))⟩
          case measure=>simp [intOf];omega
        | false=>
          rw [if_neg (by rw [(uH XY).2];simp)] at HST
          have GU:=(uH HST).symm.trans (uH HQ)
          simp only [Prod.mk.injEq] at GU
          obtain ⟨rfl,rfl,rfl⟩:=GU
          have k4:=(uH A1).2.2.1.s0 (.int .i64 0)
          have k5:=(uH A1).2.2.1.s1 (.int .i64 0) (.int .i64 0)
          have HB1:=aA (uH A1).2.2.2
          clear HST HS XY
          go_wp2
          refine bodyPost_ret (v:=.tuple #[rv 0 0,.bool false]) (by simp [results,Tryz.results99,go_sem,k4,k5]) rfl ⟨rfl,?_⟩
          repeat (first | exact uH HB1 | refine yC ?_ _ _ _ (by omega))
    · have GU:(x,y,true)=(sx,sy,so):=by rw [←uH HQ,wO (by have:=uH HL;omega)]
      simp only [Prod.mk.injEq] at GU
      obtain ⟨rfl,rfl,rfl⟩:=GU
      have s0:=(uH GH).c0
      have s1:=(uH GH).c1
      have t0:=(uH QP).c0
      have t1:=(uH QP).c1
      have f0:=(uH QP).f 0
      have f1:=(uH QP).f 1
      have k4:=(uH QP).s0 (.int .i64 x)
      have k5:=(uH QP).s1 (.int .i64 x) (.int .i64 y)
      go_wp2
      refine bodyPost_ret (v:=.tuple #[rv x y,.bool true]) (by simp [results,Tryz.results99,go_sem,k4,k5]) rfl ⟨rfl,?_⟩
      repeat (first | exact uH HB | refine yC ?_ _ _ _ (by omega))
end
end Go.Proofs.YtngkddhcmfbjnaaGreat
