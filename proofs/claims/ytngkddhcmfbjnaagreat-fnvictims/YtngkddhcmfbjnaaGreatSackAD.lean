/-
  Texts in one: VicK, VicN, VicI.
-/
import Derived.Test.YtngkddhcmfbjnaaGreatSackAC
import Derived.Test.YtngkddhcmfbjnaaGreatSackAA
set_option maxRecDepth 100000
set_option maxHeartbeats 16000000
set_option linter.unusedVariables false
set_option linter.unusedSimpArgs false
namespace Go.Proofs.YtngkddhcmfbjnaaGreat
section
open Go.RowKit Go.Maps
variable {p:Con→Bool} {D:DataW Unit} {ms:List Con} {bm n:Nat} {β:Type} {w:World}
attribute [local go_sem] Oper.semAt_some
theorem aJS (i:Int) (q:List UInt8) (ao:Option Addr) (len cap:Nat) (wx:World):(Instr.field 48 (.agg #[.int .i64 i,.string (bs q),.slice ao len cap]) 1).run Tryz.prog wx=.ok (.string (bs q)) wx:=by
 simp [Instr.field,go_sem,asAgg]
theorem aK8 {l:List AV} (Hq:w.ownsMap Tryz.prog 92 dE bm n D) (hk:dO l aDE D) {id:Int} {kl:Lit} (G7:keyOf Tryz.prog 92 (oW [] id)=some kl) :
  ∃v:AV,(Instr.lookup 89 (.map (some bm)) (oW [] id) false).run Tryz.prog w=.ok (avv v) w∧(∀u,fJ id l=some u→v=u)∧(fJ id l=none→v=⟨0,[],none,0,0⟩):=by
 obtain ⟨v,ps,gq,hv⟩:=Hq.lookup jS Tryz.underlying89 (aHk w) (jG ⟨0,[],none,0,0⟩) G7
 obtain ⟨h1,h2⟩:=hk.look G7
 cases hf:fJ id l with
 | none=>
  have hh:=h1 hf
  rw [atKey_of_not_has hh] at hv
  rw [zF hv] at gq
  exact ⟨_,gq,(fun u e=>by cases e),fun _=>rfl⟩
 | some u=>
  obtain ⟨ha,hb⟩:=h2 u hf
  obtain ⟨c,rfl⟩:=kH hv
  refine ⟨c,gq,fun u' e=>?_,(fun e=>by cases e)⟩
  cases e
  rw [hb ha] at hv
  rw [jG] at hv
  exact aEy (congrArg Prod.fst (Option.some.inj hv))
theorem aJI {id:Int}:∀(hs:List AV) (l:List bN),hs.length=l.length→(∀i (h:i<hs.length) (h':i<l.length),hs[i].id=l[i].id∧hs[i].queue=l[i].queue)→
  (fJ id hs=none∧bH id l=none)∨∃v a,fJ id hs=some v∧bH id l=some a∧v.queue=a.queue
 | [],[],_,_=>.inl ⟨rfl,rfl⟩
 | v::t,a::r,h1,h2=>by
  have h0:=h2 0 (by simp) (by simp)
  simp only [List.getElem_cons_zero] at h0
  by_cases e:a.id=id
  ·have e':v.id=id:=h0.1.trans e
   exact .inr ⟨v,a,by simp [fJ,e'],by simp [bH,e],h0.2⟩
  ·have e':¬v.id=id:=fun x=>e (h0.1.symm.trans x)
   rcases aJI t r (by simpa using h1) (fun i a b=>by have:=h2 (i+1) (by simpa using a) (by simpa using b);simpa using this) with ⟨x,y⟩ | ⟨v',a',x,y,z⟩
   ·exact .inl ⟨by simpa [fJ,e'] using x,by simpa [bH,e] using y⟩
   ·exact .inr ⟨v',a',by simpa [fJ,e'] using x,by simpa [bH,e] using y,z⟩
 | [],a::r,h1,_=>by simp at h1
 | v::t,[],h1,_=>by simp at h1
theorem aLK {wa:World} {s:St} {hs:List AV} (hh:jJ wa hs s.apps) (Hq:w.ownsMap Tryz.prog 92 dE bm n D) (hk:dO hs aDE D) (c:Con) (hc:(Lit.int .i64 c.app).wf=true) :
  ∃v:AV,(Instr.lookup 89 (.map (some bm)) (.agg #[.string (bs []),.int .i64 c.app]) false).run Tryz.prog w=.ok (.agg #[.int .i64 v.id,.string (bs v.queue),.slice v.ao v.len v.cap]) w∧v.queue=rQ s c:=by
 obtain ⟨kl,G7⟩:=aA9 (nm:=[]) (k:=c.app) (by decide) hc
 obtain ⟨v,h1,h2,h3⟩:=aK8 Hq hk G7
 refine ⟨v,h1,?_⟩
 rcases aJI (id:=c.app) hs s.apps hh.1 (fun i a b=>let ⟨x,y,_⟩:=hh.2 i a b;⟨x,y⟩) with ⟨hf1,hf2⟩ | ⟨u,a,hf1,hf2,hu2⟩
 ·rw [h3 hf1];simp [rQ,jA,hf2]
 ·rw [h2 u hf1,hu2];simp [rQ,jA,hf2]
theorem aI4 {A:Nat} (bm n:Nat) (hs:List AV) (h:bm<A):OwnFrom A (fun (_:β) W=>∃D,W.ownsMap Tryz.prog 92 dE bm n D∧dO hs aDE D):=fun s X Y row hs hg hr=>by
 obtain ⟨D,h1,h2⟩:=hs
 exact ⟨D,h1.kept hg (fun e=>by have:=(hr _ e.symm).1;omega),h2⟩
theorem aEv (g:Nat) (f:β→Array Value) (t:TypeId):Own (fun (s:β) W=>Blk W g (f s) t):=fun s X Y row hs hg hr=>
 (hg.block g (show Blk X g (f s) t from hs).lt (fun e=>by
  obtain ⟨o,ho,hc⟩:=hr g e.symm
  rw [show X.heap[g]? = _ from hs] at ho
  cases ho
  cases hc)).trans hs
theorem aIm {k j:Nat} {a:List Nat} (h:List.IsPrefix (a++[k]) (List.range n).reverse) (hk:k<j) (hj:j<n):j ∈ a:=by
 obtain ⟨b,hb⟩:=h
 have hm:j ∈ (List.range n).reverse:=by simp [hj]
 have hp:((List.range n).reverse).Pairwise (fun x y=>y<x):=List.pairwise_reverse.2 List.pairwise_lt_range
 rw [←hb,List.append_assoc] at hp hm
 rcases List.mem_append.1 hm with hm | hm
 ·exact hm
 ·rcases List.mem_cons.1 hm with rfl | hm
  ·omega
  ·have:=(List.pairwise_append.1 hp).2.1
   have:=(List.pairwise_cons.1 this).1 j hm
   omega
def aID (pre:List (CIx ms)):Int:=match pre.getLast? with
 | some y=>y.1.1
 | none=>0
theorem aGx {pre ini:List (CIx ms)} {last:CIx ms} (hp:List.IsPrefix (cpl pre) (List.range ms.length).reverse) (e:pre=ini++[last]) (hy:∀y ∈ ini,p y.1.2=false) (hl:p last.1.2=true):plL (dB p ms)=aID pre:=by
 subst e
 obtain ⟨⟨i,c⟩,k,hk,he⟩:=last
 simp only [Prod.mk.injEq] at he
 obtain ⟨rfl,rfl⟩:=he
 have e2:aID (ini++[(⟨((k:Int),ms[k]),k,hk,rfl⟩:CIx ms)])=(k:Int):=by rw [aID,List.getLast?_append];rfl
 rw [e2,rZ hk hl (fun j hj hkj=>?_)]
 ·rfl
 ·have e3:cpl (ini++[(⟨((k:Int),ms[k]),k,hk,rfl⟩:CIx ms)])=cpl ini++[k]:=by rw [cpl,List.map_append];simp [cpl]
  rw [e3] at hp
  have:=aIm hp hkj hj
  obtain ⟨⟨⟨yi,yc⟩,ky,hky,hye⟩,hym,hyj⟩:=List.mem_map.1 this
  simp only [Prod.mk.injEq] at hye
  obtain ⟨rfl,rfl⟩:=hye
  have hyj:ky=j:=by simpa using hyj
  subst hyj
  exact hy _ hym
theorem aIa {ys:List (CIx ms)} (hp:cpl ys=(List.range ms.length).reverse) (hy:∀y ∈ ys,p y.1.2=false):plL (dB p ms) = -1:=by
 rw [kV (fun c hc=>?_)]
 ·rfl
 ·obtain ⟨j,hj,rfl⟩:=List.mem_iff_getElem.1 hc
  have:j ∈ cpl ys:=by rw [hp];simp [hj]
  obtain ⟨⟨⟨yi,yc⟩,ky,hky,hye⟩,hym,hyj⟩:=List.mem_map.1 this
  simp only [Prod.mk.injEq] at hye
  obtain ⟨rfl,rfl⟩:=hye
  have hyj:ky=j:=by simpa using hyj
  subst hyj
  exact hy _ hym
theorem aC3 (x:Sls) (s:St) (wt:List UInt8) (w:World) (h:gU w x s) (hf:dI s) (hw:aAF s) :
  cP 85 #[sv x s,.string (bs wt)] w fun e w'=>e=.returned (.int .i64 (plL (dB (onQ s wt) s.cs)))∧Bw w w':=by
 have hal:x.al≤1048576:=by have:=h.len.2.1;have:=hf.2.1.1;omega
 have hcl:x.cl≤1048576:=by have:=h.2.2.2.1;have:=hf.2.2.2.1;omega
 obtain ⟨hs,qj,hh⟩:=h.2.1.heads
 have CM:=aA (fun wx (hb:Bw w wx)=>aBd x s hs wx (qj.below hb) hal (aB3 hh hw.1))
 have CROW:=aA (fun wx (hb:Bw w wx)=>h.2.2.2.below hb)
 obtain ⟨pq,hpq⟩:∃f:Con→Bool,onQ s wt=f:=⟨_,rfl⟩
 obtain ⟨qf,NG⟩:∃f:Con→List UInt8,rQ s=f:=⟨_,rfl⟩
 have VJ:=aA (show ∀c,pq c=decide (qf c=wt) from fun c=>by rw [←hpq,←NG];rfl)
 have LK:=aA (show ∀c,c ∈ s.cs→∀(wx:World) (bm:Nat) (D:DataW Unit),wx.ownsMap Tryz.prog 92 dE bm hs.length D→dO hs aDE D→∃v:AV,(Instr.lookup 89 (.map (some bm)) (.agg #[.string (bs []),.int .i64 c.app]) false).run Tryz.prog wx=.ok (.agg #[.int .i64 v.id,.string (bs v.queue),.slice v.ao v.len v.cap]) wx∧v.queue=qf c from
  fun c hc wx bm D h1 h2=>by rw [←NG];exact aLK hh h1 h2 c (hw.2 c hc))
 rw [hpq]
 obtain ⟨r,hr⟩:∃r,plL (dB pq s.cs)=r:=⟨_,rfl⟩
 have HR:=aA hr
 rw [hr]
 clear h hf hw qj hh hpq NG hr
 obtain ⟨qa,ql,qc,aa,al,ac,ma,ml,mc,ca,cl,cc⟩:=x
 obtain ⟨qs,cv,ez,nv,sj,aj,ms,cs⟩:=s
 simp only at CM CROW LK HR hal hcl
 have hB0:=yA (yA (yA (yH _ w) (.cells (svc ⟨qa,ql,qc,aa,al,ac,ma,ml,mc,ca,cl,cc⟩ ⟨qs,cv,ez,nv,sj,aj,ms,cs⟩) 29)) (.cells #[.string (bs wt)] 9)) (.cells #[.int .i64 0] 3)
 have P0:=aA (((yD w (svc ⟨qa,ql,qc,aa,al,ac,ma,ml,mc,ca,cl,cc⟩ ⟨qs,cv,ez,nv,sj,aj,ms,cs⟩) 29).al (.cells #[.string (bs wt)] 9)).al (.cells #[.int .i64 0] 3))
 have Q0:=(yD (w.alloc (.cells (svc ⟨qa,ql,qc,aa,al,ac,ma,ml,mc,ca,cl,cc⟩ ⟨qs,cv,ez,nv,sj,aj,ms,cs⟩) 29)) #[.string (bs wt)] 9).al (.cells #[.int .i64 0] 3)
 have R0:=yD ((w.alloc (.cells (svc ⟨qa,ql,qc,aa,al,ac,ma,ml,mc,ca,cl,cc⟩ ⟨qs,cv,ez,nv,sj,aj,ms,cs⟩) 29)).alloc (.cells #[.string (bs wt)] 9)) #[.int .i64 0] 3
 have hsz:(((w.alloc (.cells (svc ⟨qa,ql,qc,aa,al,ac,ma,ml,mc,ca,cl,cc⟩ ⟨qs,cv,ez,nv,sj,aj,ms,cs⟩) 29)).alloc (.cells #[.string (bs wt)] 9)).alloc (.cells #[.int .i64 0] 3)).heap.size=w.heap.size+3:=by simp only [yE]
 rw [yE] at Q0
 rw [yE,yE] at R0
 have Vk:=aA Q0
 have YF:=aA R0
 have HB0:=aA hB0
 clear hB0 Q0 R0
 obtain ⟨x0,x1,x2,x3,x4,x5,x6,x7⟩:=zq (uH P0)
 have hmx:Tryz.prog.follows .mixedOrders=true:=by kernel_rfl
 refine (callsIn_wide (n:=3)).1 ?_
 refine callsIn_of_wp_marks Tryz.func85 rfl trivial ?_ rfl
 simp only [Tryz.ntmps85,List.size_toArray,List.length_cons,List.length_nil,Nat.reduceAdd,Nat.reduceSub,Array.replicate_succ,Array.replicate_zero,List.push_toArray,List.append_toArray,List.nil_append,List.cons_append]
 gi_wp2_with fail
 first | refine ⟨trivial,?_⟩ | skip
 first | refine ⟨(by intro e;cases e),?_⟩ | skip
 refine (callsIn_wide.2 (uH CM _ (uH HB0))).mono ?_
 rintro e w1 ⟨bm,rfl,⟨QM,D,Hq,hk⟩,hb⟩
 have HB1:=aA (yB (uH HB0) hb)
 have Q1:=aA ((uH Vk).below hb)
 have R1:=aA ((uH YF).below hb)
 have y7:=((uH P0).below hb).at 7
 have y8:=(((uH P0).below hb).al (.cells #[.map (some bm)] 89)).at 7
 simp at y7 y8
 have KN1:=aA (show ∃D,w1.ownsMap Tryz.prog 92 dE bm hs.length D∧dO hs aDE D from ⟨D,Hq,hk⟩)
 rw [hsz] at QM
 have hw1:w.heap.size+2<w1.heap.size:=(uH R1).lt
 have hbw:bm<w1.heap.size:=by obtain ⟨es,ck,hm',_⟩:=Hq;exact lt_of_block hm'
 clear hb Hq hk HB0 Vk YF P0 CM x0 x1 x2 x3 x4 x5 x6 x7 hsz
 gi_wp2_with fail
 first | refine ⟨trivial,?_⟩ | skip
 first | refine ⟨(by intro e;cases e),?_⟩ | skip
 refine (callsIn_wide.2 (aHe (.slice ca cl cc) _ rfl)).mono ?_
 rintro e w4 ⟨rfl,rfl⟩
 have GQ:=(yD (w1.alloc (.cells #[.map (some bm)] 89)) #[.slice ca cl cc] 27).at 0
 rw [yE] at GQ
 have hb2:=yA (yA (yH _ w1) (.cells #[.map (some bm)] 89)) (.cells #[.slice ca cl cc] 27)
 have HB2:=aA (yB (uH HB1) hb2)
 have Q2:=aA ((uH Q1).below hb2)
 have R2:=aA ((uH R1).below hb2)
 have V2:=(yD w1 #[.map (some bm)] 89).al (.cells #[.slice ca cl cc] 27)
 have KN2:=aA (show ∃D,((w1.alloc (.cells #[.map (some bm)] 89)).alloc (.cells #[.slice ca cl cc] 27)).ownsMap Tryz.prog 92 dE bm hs.length D∧dO hs aDE D from let ⟨D,a,b⟩:=uH KN1;⟨D,(a.alloc _).alloc _,b⟩)
 obtain ⟨g3,hg3⟩:∃g,w1.heap.size=g:=⟨_,rfl⟩
 rw [hg3] at hw1 hbw V2 GQ
 have GI:=aA V2
 clear V2
 try rw [yE]
 try rw [hg3]
 gi_wp2
 try rw [yE]
 try rw [hg3]
 obtain ⟨W0,hW0⟩:∃W0,(w1.alloc (.cells #[.map (some bm)] 89)).alloc (.cells #[.slice ca cl cc] 27)=W0:=⟨_,rfl⟩
 have hsz2:W0.heap.size=g3+2:=by rw [←hW0,yE,yE,hg3]
 rw [hW0] at HB2 Q2 R2 GQ GI KN2 ⊢
 try rw [hg3]
 have HC:=aA (aDz (3 - 1) (g3+1) cl cc ca cs W0 GQ (uH CROW _ (uH HB2)) hcl)
 clear hW0 GQ hb2 HB1 Q1 R1 KN1 y7 y8 hg3 CROW
 refine wpIn_rangeFunc_ownH rfl (by omega) (gf:=182) (lb:=#[.pointer (some ⟨g3+1,0,none⟩)]) rfl trivial (enters_of Tryz.func182 (by kernel_rfl) rfl)
  (uH HC) aFc aIc (yH _ _) (fun _=>rfl)
  (fun pre W=>(((((Blk W (w.heap.size+1) #[.string (bs wt)] 9∧Blk W (w.heap.size+1+1) #[.int .i64 0] 3)∧Blk W g3 #[.map (some bm)] 89)∧∃D,W.ownsMap Tryz.prog 92 dE bm hs.length D∧dO hs aDE D)∧(∀y ∈ pre,pq y.1.2=false))∧Bw w W))
  (fun c pre W=>((Blk W (w.heap.size+1+1) #[.int .i64 (aID pre)] 3∧(c=.ret∧∃ini last,pre=ini++[last]∧(∀y ∈ ini,pq y.1.2=false)∧pq last.1.2=true))∧Bw w W))
  (OwnFrom.and (OwnFrom.and (OwnFrom.and (Own.from (kD (kD (nL _ _ _) (nL _ _ _)) (nL _ _ _)) _) (aI4 _ _ _ (by omega))) (Own.from (nX (fun pre:List (CIx cs)=>∀y ∈ pre,pq y.1.2=false)) _)) (ownFrom_below (yJ _) (by omega)))
  (fun c=>OwnFrom.and (Own.from (kD (aEv _ (fun pre:List (CIx cs)=>#[Value.int .i64 (aID pre)]) _) (nX (fun pre:List (CIx cs)=>c=.ret∧∃ini last,pre=ini++[last]∧(∀y ∈ ini,pq y.1.2=false)∧pq last.1.2=true))) _) (ownFrom_below (yJ _) (by omega)))
  ⟨⟨⟨⟨⟨uH Q2,uH R2⟩,uH GI⟩,uH KN2⟩,by simp⟩,uH HB2⟩
  (fun x a' W=>∃Bx,g3<Bx∧Blk W Bx #[.int .i64 x.1.2.id,.int .i64 x.1.2.app,.string (bs x.1.2.node),.int .i64 x.1.2.mem,.int .i64 x.1.2.cpu] 52∧a' = { tmps:=#[sv ⟨qa,ql,qc,aa,al,ac,ma,ml,mc,ca,cl,cc⟩ ⟨qs,cv,ez,nv,sj,aj,ms,cs⟩,.string (bs wt),.pointer (some ⟨w.heap.size,0,none⟩),.pointer (some ⟨w.heap.size+1,0,none⟩),.pointer (some ⟨w.heap.size+1+1,0,none⟩),.pointer (some ⟨g3,0,none⟩),.int .i64 x.1.1,.pointer (some ⟨Bx,0,none⟩),sv ⟨qa,ql,qc,aa,al,ac,ma,ml,mc,ca,cl,cc⟩ ⟨qs,cv,ez,nv,sj,aj,ms,cs⟩,.map (some bm),.pointer (some ⟨w.heap.size,7,none⟩),.slice ca cl cc,.func (.func 182) #[] #[.pointer (some ⟨g3+1,0,none⟩)],.int .i64 x.1.1,conv x.1.2,undef,undef,undef,undef,undef,undef,undef,undef],defers:=[] })
  (fun x a' _ X Y row hs hg hr=>by
   obtain ⟨Bx,h1,h2,h3⟩:=hs
   refine ⟨Bx,h1,(hg.block Bx h2.lt (fun e=>?_)).trans h2,h3⟩
   obtain ⟨_,o,ho,hc⟩:=hr Bx e.symm
   rw [show X.heap[Bx]? = _ from h2] at ho
   cases ho
   cases hc)
  ?assign ?body ?done ?stop
 case assign=>
  rintro lq pre ⟨⟨i,id,ap,nd,me,cp⟩,hx⟩ W K ⟨⟨⟨⟨⟨k5,k6⟩,k7⟩,hk8⟩,hne⟩,hB⟩ hK
  have hlt:=k7.lt
  gi_wp2
  exact hK _ _ ((KeepsOthers.alloc _ _).from _) (jR (yA (yH _ W) _)) ⟨⟨⟨⟨⟨k5.al _,k6.al _⟩,k7.al _⟩,let ⟨D,a,b⟩:=hk8;⟨D,a.alloc _,b⟩⟩,hne⟩,yA hB _⟩ ⟨W.heap.size,hlt,yD W _ _,rfl⟩
 case body=>
  rintro lq pre ⟨⟨i,id,ap,nd,me,cp⟩,hx⟩ a' W hlq _ ⟨⟨⟨⟨⟨k5,k6⟩,k7⟩,k8⟩,hne⟩,hB⟩ ⟨Bx,hBx,hX,rfl⟩ hlt
  have QK:(⟨id,ap,nd,me,cp⟩:Con) ∈ cs:=by
   obtain ⟨k,hk,e⟩:=hx
   rw [(Prod.mk.inj e).2]
   exact yM _
  obtain ⟨x0,x1,x2,x3,x4⟩:=zp hX
  have q0:=k5.at 0
  have v0:=k7.at 0
  simp at q0 v0
  have K5:=aA k5
  have K6:=aA k6
  have K7:=aA k7
  have K8:=aA k8
  have HX:=aA hX
  have ZK:=aA hne
  have HB:=aA hB
  have LKc:=aA (uH LK ⟨id,ap,nd,me,cp⟩ QK)
  obtain ⟨pc,hpc⟩:∃z,pq ⟨id,ap,nd,me,cp⟩=z:=⟨_,rfl⟩
  have VZ:=uH VJ ⟨id,ap,nd,me,cp⟩
  obtain ⟨qq,hqq⟩:∃z,qf ⟨id,ap,nd,me,cp⟩=z:=⟨_,rfl⟩
  rw [hqq] at LKc VZ
  rw [hpc] at VZ
  have hbe:=lL qq wt
  rw [←VZ] at hbe
  have MP:=aA hpc
  clear k5 k6 k7 k8 hX hne hB hqq VZ hpc QK
  cases pc with
  | true=>
   gi_wp2_with fail
   gi_region_with_o (first | (first | refine ⟨trivial,?_⟩ | skip);(first | refine ⟨(by intro e;cases e),?_⟩ | skip);refine (CallsIn.inRound lq (callsIn_wide.2 (xH ⟨id,ap,nd,me,cp⟩ _))).mono ?_;rintro e wc ⟨rfl,hbc⟩;have HW3:=aA (yB (yH _ W).drew hbc);have z0:=((uH K5).below (uH HW3)).at 0;have u0:=((uH K7).below (uH HW3)).at 0;have y0:=((uH HX).below (uH HW3)).at 0;have y1:=((uH HX).below (uH HW3)).at 1;have y2:=((uH HX).below (uH HW3)).at 2;have y3:=((uH HX).below (uH HW3)).at 3;have y4:=((uH HX).below (uH HW3)).at 4;have p6:=((uH K6).below (uH HW3)).at 0;have f6:=((uH K6).below (uH HW3)).f 0;simp at z0 u0 y0 y1 y2 y3 y4 p6;obtain ⟨D,Hq,hk⟩:=uH K8;obtain ⟨⟨v1,v2,v3,v4,v5⟩,hlk,JM⟩:=uH LKc wc bm D (bL Hq (uH HW3)) hk;simp only at hlk JM;subst JM;have hfl:=aJS v1 v2 v3 v4 v5 wc;clear Hq hk hbc)
   all_goals gi_wp2
   all_goals
    refine ⟨((iI (uH HW3)).from _).trans ((KeepsOthers.setCell _ _ _).from _),⟨?_,rfl,pre,⟨(i,⟨id,ap,nd,me,cp⟩),hx⟩,rfl,uH ZK,uH MP⟩,yC (yB (uH HB) (uH HW3)) _ _ _ (by omega)⟩
    have:=((uH K6).below (uH HW3)).set 0 (.int .i64 i)
    have e2:aID (pre++[⟨(i,⟨id,ap,nd,me,cp⟩),hx⟩])=i:=by rw [aID,List.getLast?_append];rfl
    rw [e2]
    simpa using this
  | false=>
   gi_wp2_with fail
   gi_region_with_o (first | (first | refine ⟨trivial,?_⟩ | skip);(first | refine ⟨(by intro e;cases e),?_⟩ | skip);refine (CallsIn.inRound lq (callsIn_wide.2 (xH ⟨id,ap,nd,me,cp⟩ _))).mono ?_;rintro e wc ⟨rfl,hbc⟩;have HW3:=aA (yB (yH _ W).drew hbc);have z0:=((uH K5).below (uH HW3)).at 0;have u0:=((uH K7).below (uH HW3)).at 0;have y0:=((uH HX).below (uH HW3)).at 0;have y1:=((uH HX).below (uH HW3)).at 1;have y2:=((uH HX).below (uH HW3)).at 2;have y3:=((uH HX).below (uH HW3)).at 3;have y4:=((uH HX).below (uH HW3)).at 4;have p6:=((uH K6).below (uH HW3)).at 0;have f6:=((uH K6).below (uH HW3)).f 0;simp at z0 u0 y0 y1 y2 y3 y4 p6;obtain ⟨D,Hq,hk⟩:=uH K8;obtain ⟨⟨v1,v2,v3,v4,v5⟩,hlk,JM⟩:=uH LKc wc bm D (bL Hq (uH HW3)) hk;simp only at hlk JM;subst JM;have hfl:=aJS v1 v2 v3 v4 v5 wc;clear Hq hk hbc)
   all_goals gi_wp2
   all_goals
    refine ⟨(iI (uH HW3)).from _,jR (uH HW3),⟨⟨⟨⟨(uH K5).below (uH HW3),(uH K6).below (uH HW3)⟩,(uH K7).below (uH HW3)⟩,let ⟨D,a,b⟩:=uH K8;⟨D,bL a (uH HW3),b⟩⟩,?_⟩,yB (uH HB) (uH HW3)⟩
    intro z hz
    rcases List.mem_append.1 hz with hz | hz
    ·exact uH ZK z hz
    ·have:z=⟨(i,⟨id,ap,nd,me,cp⟩),hx⟩:=by simpa using hz
     rw [this]
     exact uH MP
 case done=>
  rintro D ys W hD hys ⟨⟨⟨⟨⟨k5,k6⟩,k7⟩,k8⟩,hne⟩,hB⟩ hK
  have GU:r = -1:=by rw [←uH HR];exact aIa (uH hys) hne
  subst GU
  have K6:=aA k6
  have HB:=aA hB
  have HK:=aA hK
  have c6:=k6.at 0
  have f6:=k6.f 0
  simp at c6
  have XW:D≠w.heap.size+1+1:=by omega
  clear k5 k6 k7 k8 hne hB hK
  gi_wp2
  have e2:=(KeepsOthers.setCell W ⟨w.heap.size+1+1,0,none⟩ (.int .i64 (-1))).same D _ (uH HK) rfl
  refine ⟨by simp,.inl ⟨_,_,rfl,run_takeDeferred e2,?_⟩⟩
  have KF:Blk _ (w.heap.size+1+1) _ _:=(World.putObj_heap_other (o:=.deferred none) (w:=W.setCell ⟨w.heap.size+1+1,0,none⟩ (.int .i64 (-1))) (Ne.symm XW)).trans ((uH K6).set 0 (.int .i64 (-1)))
  have r0:=KF.at 0
  simp at r0
  exact ⟨.int .i64 (-1),(by simp [results,Tryz.results85,go_sem,r0]),rfl,(yC (uH HB) _ _ _ (by omega)).trans (belowK_b (w:=w) (yJ _) _ D _ _ (by omega) e2 rfl rfl)⟩
 case stop=>
  rintro D c pre W hD QT ⟨⟨k6,rfl,ini,last,he,hne,hov⟩,hB⟩ hK
  have GU:r=aID pre:=by rw [←uH HR];exact aGx (uH QT) he hne hov
  obtain ⟨v,hv⟩:∃v,aID pre=v:=⟨_,rfl⟩
  rw [hv] at k6 GU
  subst GU
  have K6:=aA k6
  have HB:=aA hB
  have HK:=aA hK
  have XW:D≠w.heap.size+1+1:=by omega
  clear k6 hB hK hv he
  gi_wp2
  refine ⟨by simp,.inl ⟨_,_,rfl,run_takeDeferred (uH HK),?_⟩⟩
  have KF:Blk _ (w.heap.size+1+1) _ _:=(World.putObj_heap_other (o:=.deferred none) (w:=W) (Ne.symm XW)).trans (uH K6)
  have r0:=KF.at 0
  simp at r0
  exact ⟨.int .i64 r,(by simp [results,Tryz.results85,go_sem,r0]),rfl,(uH HB).trans (belowK_b (w:=w) (yJ _) _ D _ _ (by omega) (uH HK) rfl rfl)⟩
attribute [local go_sem] Oper.semAt_some
def aJZ (f:List UInt8→Int) (pre:List (Int×List UInt8)):Int:=match pre.getLast? with
 | some y=>f y.2
 | none=>0
theorem sD {s:St}:∀{a b:List (List UInt8)},(∀q ∈ a,iM s q=false)→aBT s (a++b)=aBT s b
 | [],b,_=>rfl
 | q::t,b,h=>by
  rw [List.cons_append,aBT,if_neg (by simp [h q List.mem_cons_self])]
  exact sD (fun x hx=>h x (List.mem_cons_of_mem _ hx))
theorem aBN (x:Sls) (s:St) (w:World) (h:gU w x s) (hf:dI s) (hc:x.ql≤x.qc) (hw:aAF s) :
  cP 30 #[sv x s] w fun e w'=>e=.returned (.int .i64 (plL (aBT s (gM s).reverse)))∧Bw w w':=by
 have CO:=aA (fun wx (hb:Bw w wx)=>qQ x s wx (h.below hb) hf hc hw)
 have CV:=aA (fun q wx (hb:Bw w wx)=>kX x s q wx (h.below hb) hf hc hw)
 have CLH:=aA (fun q wx (hb:Bw w wx)=>aC3 x s q wx (h.below hb) hf hw)
 have DU:=aA (show (gM s).length≤1048576 from by have:=aGd s;have:=h.1.1;have:=h.ql hf;omega)
 obtain ⟨lp,hlp⟩:∃f:List UInt8→Int,(fun q=>plL (dB (onQ s q) s.cs))=f:=⟨_,rfl⟩
 obtain ⟨r,hr⟩:∃r,plL (aBT s (gM s).reverse)=r:=⟨_,rfl⟩
 have PY:=aA (show ∀ys:List (Int×List UInt8),ys.map (fun x=>x.2)=(gM s).reverse→(∀y ∈ ys,iM s y.2=false)→r = -1 from fun ys e hy=>by
  rw [←hr,←e]
  have:=sD (s:=s) (a:=ys.map (fun x=>x.2)) (b:=[]) (fun q hq=>by obtain ⟨y,hy2,rfl⟩:=List.mem_map.1 hq;exact hy y hy2)
  rw [List.append_nil] at this
  rw [this]
  rfl)
 have HST:=aA (show ∀pre:List (Int×List UInt8),List.IsPrefix (pre.map (fun x=>x.2)) (gM s).reverse→∀ini last,pre=ini++[last]→(∀y ∈ ini,iM s y.2=false)→iM s last.2=true→r=aJZ lp pre from fun pre hp ini last e hy hl=>by
  obtain ⟨rest,he⟩:=hp
  subst e
  rw [←hr,←he,List.map_append,List.append_assoc,sD (fun q hq=>by obtain ⟨y,hy2,rfl⟩:=List.mem_map.1 hq;exact hy y hy2),aJZ,List.getLast?_append]
  simp only [List.map_cons,List.map_nil,List.getLast?_singleton,List.singleton_append,Option.or_some,Option.some_or]
  rw [aBT,if_pos hl,←hlp])
 rw [hr]
 obtain ⟨ord,KM⟩:∃p,gM s=p:=⟨_,rfl⟩
 rw [KM] at CO DU PY HST
 have CLL:=aA (show ∀q wx,Bw w wx→cP 85 #[sv x s,.string (bs q)] wx fun e w'=>e=.returned (.int .i64 (lp q))∧Bw wx w' from by rw [←hlp];exact uH CLH)
 obtain ⟨ovf,hov⟩:∃f,iM s=f:=⟨_,rfl⟩
 rw [hov] at CV PY HST
 clear h hf hc hw CLH hlp hr KM hov
 obtain ⟨qa,ql,qc,aa,al,ac,ma,ml,mc,ca,cl,cc⟩:=x
 obtain ⟨qs,cv,ez,nv,sj,aj,ms,cs⟩:=s
 have hol:ord.length≤1048576:=uH DU
 have hB0:=yA (yA (yH _ w) (.cells (svc ⟨qa,ql,qc,aa,al,ac,ma,ml,mc,ca,cl,cc⟩ ⟨qs,cv,ez,nv,sj,aj,ms,cs⟩) 29)) (.cells #[.int .i64 0] 3)
 have P0:=aA ((yD w (svc ⟨qa,ql,qc,aa,al,ac,ma,ml,mc,ca,cl,cc⟩ ⟨qs,cv,ez,nv,sj,aj,ms,cs⟩) 29).al (.cells #[.int .i64 0] 3))
 have R0:=aA (yD (w.alloc (.cells (svc ⟨qa,ql,qc,aa,al,ac,ma,ml,mc,ca,cl,cc⟩ ⟨qs,cv,ez,nv,sj,aj,ms,cs⟩) 29)) #[.int .i64 0] 3)
 rw [yE] at R0
 have HB0:=aA hB0
 clear hB0
 obtain ⟨x0,x1,x2,x3,x4,x5,x6,x7⟩:=zq (uH P0)
 have hmx:Tryz.prog.follows .mixedOrders=true:=by kernel_rfl
 refine (callsIn_wide (n:=3)).1 ?_
 refine callsIn_of_wp_marks Tryz.func30 rfl trivial ?_ rfl
 simp only [Tryz.ntmps30,List.size_toArray,List.length_cons,List.length_nil,Nat.reduceAdd,Nat.reduceSub,Array.replicate_succ,Array.replicate_zero,List.push_toArray,List.append_toArray,List.nil_append,List.cons_append]
 gi_wp2_with fail
 first | refine ⟨trivial,?_⟩ | skip
 first | refine ⟨(by intro e;cases e),?_⟩ | skip
 refine (callsIn_wide.2 (uH CO _ (uH HB0))).mono ?_
 rintro e w1 ⟨v0,rfl,ht,hb⟩
 obtain ⟨vo,vc,rfl,Hw⟩:=ht.open
 have GX:=aA (show sU w1 vo ord from Hw)
 have HB1:=aA (yB (uH HB0) hb)
 have P1:=aA ((uH P0).below hb)
 have R1:=aA ((uH R0).below hb)
 clear hb ht Hw HB0 P0 R0 CO x0 x1 x2 x3 x4 x5 x6 x7
 gi_wp2_with fail
 first | refine ⟨trivial,?_⟩ | skip
 first | refine ⟨(by intro e;cases e),?_⟩ | skip
 refine (callsIn_wide.2 (aHc (.slice vo ord.length vc) _ rfl)).mono ?_
 rintro e w4 ⟨rfl,rfl⟩
 have GQ:=(yD w1 #[.slice vo ord.length vc] 41).at 0
 have hb2:=yA (yH _ w1) (.cells #[.slice vo ord.length vc] 41)
 have HB2:=aA (yB (uH HB1) hb2)
 have P2:=aA ((uH P1).below hb2)
 have R2:=aA ((uH R1).below hb2)
 have hw1:w.heap.size+1<w1.heap.size:=(uH R1).lt
 obtain ⟨bT,Nv⟩:∃g,w1.heap.size=g:=⟨_,rfl⟩
 rw [Nv] at GQ hw1
 gi_wp2
 obtain ⟨W0,hW0⟩:∃W0,w1.alloc (.cells #[.slice vo ord.length vc] 41)=W0:=⟨_,rfl⟩
 have ZG:sU W0 vo ord:=by rw [←hW0];exact (uH GX).below hb2
 rw [hW0] at HB2 P2 R2 GQ ⊢
 try rw [Nv]
 have HC:=aA (aDx (3 - 1) bT ord.length vc vo ord W0 GQ rfl ZG hol)
 have QS:bT<W0.heap.size:=yG GQ
 clear hW0 GQ hb2 ZG GX HB1 P1 R1 Nv
 refine wpIn_rangeFunc_ownH rfl (by omega) (gf:=137) (lb:=#[.pointer (some ⟨bT,0,none⟩)]) rfl trivial (enters_of Tryz.func137 (by kernel_rfl) rfl)
  (uH HC) aFc aIc (yH _ _) (fun _=>rfl)
  (fun pre W=>(((Blk W w.heap.size (svc ⟨qa,ql,qc,aa,al,ac,ma,ml,mc,ca,cl,cc⟩ ⟨qs,cv,ez,nv,sj,aj,ms,cs⟩) 29∧Blk W (w.heap.size+1) #[.int .i64 0] 3)∧(∀y ∈ pre,ovf y.2=false))∧Bw w W))
  (fun c pre W=>((Blk W (w.heap.size+1) #[.int .i64 (aJZ lp pre)] 3∧(c=.ret∧∃ini last,pre=ini++[last]∧(∀y ∈ ini,ovf y.2=false)∧ovf last.2=true))∧Bw w W))
  (OwnFrom.and (Own.from (kD (kD (nL _ _ _) (nL _ _ _)) (nX (fun pre:List (Int×List UInt8)=>∀y ∈ pre,ovf y.2=false))) _) (ownFrom_below (yJ _) (by omega)))
  (fun c=>OwnFrom.and (Own.from (kD (aEv _ (fun pre:List (Int×List UInt8)=>#[Value.int .i64 (aJZ lp pre)]) _) (nX (fun pre:List (Int×List UInt8)=>c=.ret∧∃ini last,pre=ini++[last]∧(∀y ∈ ini,ovf y.2=false)∧ovf last.2=true))) _) (ownFrom_below (yJ _) (by omega)))
  ⟨⟨⟨uH P2,uH R2⟩,by simp⟩,uH HB2⟩
  (fun x a' W=>a' = { tmps:=#[sv ⟨qa,ql,qc,aa,al,ac,ma,ml,mc,ca,cl,cc⟩ ⟨qs,cv,ez,nv,sj,aj,ms,cs⟩,.pointer (some ⟨w.heap.size,0,none⟩),.pointer (some ⟨w.heap.size+1,0,none⟩),undef,.string (bs x.2),sv ⟨qa,ql,qc,aa,al,ac,ma,ml,mc,ca,cl,cc⟩ ⟨qs,cv,ez,nv,sj,aj,ms,cs⟩,.slice vo ord.length vc,.func (.func 137) #[] #[.pointer (some ⟨bT,0,none⟩)],.int .i64 x.1,.string (bs x.2),undef,undef,undef,undef,undef,undef],defers:=[] })
  (fun x a' _ X Y row hs hg hr=>hs)
  ?assign ?body ?done ?stop
 case assign=>
  rintro lq pre ⟨i,qn⟩ W K ⟨⟨⟨k5,k6⟩,hne⟩,hB⟩ hK
  gi_wp2
  exact hK _ _ (KeepsFrom.refl _ _) (jR (yH _ W)) ⟨⟨⟨k5,k6⟩,hne⟩,hB⟩ rfl
 case body=>
  rintro lq pre ⟨i,qn⟩ a' W hlq _ ⟨⟨⟨k5,k6⟩,hne⟩,hB⟩ rfl hlt
  have K5:=aA k5
  have K6:=aA k6
  have ZK:=aA hne
  have HB:=aA hB
  obtain ⟨x0,x1,x2,x3,x4,x5,x6,x7⟩:=zq k5
  have CV1:=aA (uH CV qn)
  obtain ⟨ov,hov⟩:∃b,ovf qn=b:=⟨_,rfl⟩
  rw [hov] at CV1
  have MQ:=aA hov
  clear k5 k6 hne hB hov
  gi_wp2_with fail
  first | refine ⟨trivial,?_⟩ | skip
  first | refine ⟨(by intro e;cases e),?_⟩ | skip
  refine (CallsIn.inRound lq (callsIn_wide.2 (uH CV1 _ (uH HB)))).mono ?_
  rintro e w5 ⟨rfl,hb⟩
  have K55:=aA ((uH K5).below hb)
  have K65:=aA ((uH K6).below hb)
  have GR:=aA (yB (uH HB) hb)
  have Gy:=aA hb
  clear hb K5 K6 HB CV1 x0 x1 x2 x3 x4 x5 x6 x7
  cases ov with
  | false=>
   gi_wp2
   refine ⟨(iI (uH Gy)).from _,jR (uH Gy),⟨⟨uH K55,uH K65⟩,?_⟩,uH GR⟩
   intro z hz
   rcases List.mem_append.1 hz with hz | hz
   ·exact uH ZK z hz
   ·have:z=(i,qn):=by simpa using hz
    rw [this]
    exact uH MQ
  | true=>
   obtain ⟨x0,x1,x2,x3,x4,x5,x6,x7⟩:=zq (uH K55)
   gi_wp2_with fail
   first | refine ⟨trivial,?_⟩ | skip
   first | refine ⟨(by intro e;cases e),?_⟩ | skip
   refine (CallsIn.inRound lq (callsIn_wide.2 (uH CLL qn _ (uH GR)))).mono ?_
   rintro e w6 ⟨rfl,hb⟩
   have K66:=aA ((uH K65).below hb)
   have GY:=aA (yB (uH GR) hb)
   have Qv:=aA (yB (uH Gy) hb)
   have r6:=(uH K66).at 0
   have f6:=(uH K66).f 0
   simp at r6
   clear hb K55 K65 GR Gy x0 x1 x2 x3 x4 x5 x6 x7
   gi_wp2
   refine ⟨((iI (uH Qv)).from _).trans ((KeepsOthers.setCell _ _ _).from _),⟨?_,rfl,pre,(i,qn),rfl,uH ZK,uH MQ⟩,yC (uH GY) _ _ _ (by omega)⟩
   have:=(uH K66).set 0 (.int .i64 (lp qn))
   have e2:aJZ lp (pre++[(i,qn)])=lp qn:=by rw [aJZ,List.getLast?_append];rfl
   rw [e2]
   simpa using this
 case done=>
  rintro D ys W hD hys ⟨⟨⟨k5,k6⟩,hne⟩,hB⟩ hK
  have GU:=uH PY ys (uH hys) hne
  subst GU
  have K6:=aA k6
  have HB:=aA hB
  have HK:=aA hK
  have c6:=k6.at 0
  have f6:=k6.f 0
  simp at c6
  have XW:D≠w.heap.size+1:=by omega
  clear k5 k6 hne hB hK
  gi_wp2
  have e2:=(KeepsOthers.setCell W ⟨w.heap.size+1,0,none⟩ (.int .i64 (-1))).same D _ (uH HK) rfl
  refine ⟨by simp,.inl ⟨_,_,rfl,run_takeDeferred e2,?_⟩⟩
  have KF:Blk _ (w.heap.size+1) _ _:=(World.putObj_heap_other (o:=.deferred none) (w:=W.setCell ⟨w.heap.size+1,0,none⟩ (.int .i64 (-1))) (Ne.symm XW)).trans ((uH K6).set 0 (.int .i64 (-1)))
  have r0:=KF.at 0
  simp at r0
  exact ⟨.int .i64 (-1),(by simp [results,Tryz.results30,go_sem,r0]),rfl,(yC (uH HB) _ _ _ (by omega)).trans (belowK_b (w:=w) (yJ _) _ D _ _ (by omega) e2 rfl rfl)⟩
 case stop=>
  rintro D c pre W hD QT ⟨⟨k6,rfl,ini,last,he,hne,hov⟩,hB⟩ hK
  have GU:=uH HST pre (uH QT) ini last he hne hov
  obtain ⟨v,hv⟩:∃v,aJZ lp pre=v:=⟨_,rfl⟩
  rw [hv] at k6 GU
  subst GU
  have K6:=aA k6
  have HB:=aA hB
  have HK:=aA hK
  have XW:D≠w.heap.size+1:=by omega
  clear k6 hB hK hv he
  gi_wp2
  refine ⟨by simp,.inl ⟨_,_,rfl,run_takeDeferred (uH HK),?_⟩⟩
  have KF:Blk _ (w.heap.size+1) _ _:=(World.putObj_heap_other (o:=.deferred none) (w:=W) (Ne.symm XW)).trans (uH K6)
  have r0:=KF.at 0
  simp at r0
  exact ⟨.int .i64 r,(by simp [results,Tryz.results30,go_sem,r0]),rfl,(uH HB).trans (belowK_b (w:=w) (yJ _) _ D _ _ (by omega) (uH HK) rfl rfl)⟩
end
section
open Go.RowKit
variable {gl l:List Con} {M g:Nat} {w:World}
theorem rD.keptSt {k j:Nat} {arr:Array Value} (h:rD w g M l gl) (hb:Blk w k arr 29) (v:Value):rD (w.setCell ⟨k,j,none⟩ v) g M l gl:=by
 obtain ⟨u,h1,h2,h3⟩:=h
 have e1:k≠g+1:=by
  intro e
  subst e
  have x:w.heap[g+1]? = _:=h1
  rw [show w.heap[g+1]? = _ from hb] at x
  cases x
 have e2:k≠g:=by
  intro e
  subst e
  obtain ⟨R,r1,r2⟩:=h2
  rw [show w.heap[k]? = _ from hb] at r1
  cases r1
 refine ⟨u,h1.other k j v (by omega),h2.other k j v (by omega),World.ownsRow.kept h3 (wE w k j v) (.inr (fun e=>?_))⟩
 obtain ⟨N,hc⟩:=qE h3 k e
 exact absurd (hc.type ⟨arr,hb,rfl⟩) (by decide)
theorem aJu (c0 c1 c3 c4:Int) (cn:List UInt8) (wx:World):(Instr.field 52 (conv ⟨c0,c1,cn,c3,c4⟩) 3).run Tryz.prog wx=.ok (rv c3 c4) wx:=by
 simp [Instr.field,go_sem,asAgg,conv]
theorem rD.mksl {w':World} {b:Nat} (h:rD w g M l gl) (hm:Mks (fun k=>k=b) w w') (hb:b<g):rD w' g M l gl:=by
 obtain ⟨v,h1,h2,h3⟩:=h
 exact ⟨v,hm.blk1 h1 (by omega),h2.of_block (hm.block g h2.lt (by omega)),aEs hm h3 (by omega)⟩
theorem yI (x:Sls) (s:St) (nm:List UInt8) (w:World) (h:gU w x s) (hf:dI s) (hc:x.ql≤x.qc) (hw:aAF s) :
  cP 6 #[sv x s,.string (bs nm)] w fun e w'=>∃v,e=.returned v∧Hid (aBl w.heap.size w' v (iP s nm)∧Bw w w'):=by
 have hcl:x.cl≤1048576:=by have:=h.2.2.2.1;have:=hf.2.2.2.1;omega
 have QC:=aA (show x.cl=s.cs.length from h.2.2.2.1)
 have CO:=aA (fun wx (hb:Bw w wx)=>nJ x s wx (h.below hb) hf hc hw)
 have CS:=aA (fun wx (hb:Bw w wx)=>vR x s wx (h.below hb) hf hc hw)
 have CL:=aA (fun wx (hb:Bw w wx)=>uQ x s nm wx (h.below hb) hf hc hw)
 have CT:=aA (fun wx (hb:Bw w wx)=>mU x.ca x.cl x.cc s.cs wx (h.below hb).2.2.2 hcl)
 have CN:=aA (fun (L:List Con) (ca:Option Addr) (cc:Nat) (wx:World) (hb:Bw w wx) (hr:bG wx ca L.length L) (hl:L.length≤s.cs.length) (hs:∀c ∈ L,c ∈ s.cs)=>by
  have:=aBN ⟨x.qa,x.ql,x.qc,x.aa,x.al,x.ac,x.ma,x.ml,x.mc,ca,L.length,cc⟩ (aZ s L) wx (aFM h hb hr) (yQ hf hl hs) hc (aEG hw hs)
  rw [aEg] at this
  exact (show cP 30 _ wx (fun e w'=>e=.returned (.int .i64 (plL (rY (aZ s L))))∧Bw wx w') from this))
 have Vj:=aA (show (dJ s).length≤1048576 from by have:=aGU s;have:=h.1.1;have:=h.ql hf;omega)
 obtain ⟨vs,hvs⟩:∃l,iP s nm=l:=⟨_,rfl⟩
 obtain ⟨ok,hok⟩:∃b,aW s=b:=⟨_,rfl⟩
 obtain ⟨stv,ZW⟩:∃b,dJ s=b:=⟨_,rfl⟩
 obtain ⟨⟨l1,l2⟩,hlk⟩:∃b,sG s nm=b:=⟨_,rfl⟩
 have ZA:=aA (show vs=((if ok=true∧stv.any (fun x=>decide (x=nm))=true then tL s (l1,l2) (s.cs.length+1) s.cs (0,0) else []).map (·.id)) from by rw [←hvs,←hok,←ZW,←hlk];rfl)
 have MC:=aA (aGC.start s (l1,l2))
 rw [hok] at CO
 rw [ZW] at CS Vj
 rw [hlk] at CL
 rw [hvs]
 simp only at CL
 clear h hf hw hvs hok ZW hlk
 have hB0:=yA (yH _ w) (.cells (svc x s) 29)
 have P0:=aA (yD w (svc x s) 29)
 have HB0:=aA hB0
 obtain ⟨qa,ql,qc,aa,al,ac,ma,ml,mc,ca,cl,cc⟩:=x
 obtain ⟨qs,cv,ez,nv,sj,aj,ms,cs⟩:=s
 simp only at hc hcl QC CT CN
 obtain ⟨x0,x1,x2,x3,x4,x5,x6,x7⟩:=zq (uH P0)
 clear hB0
 go_enter Tryz.func6,Tryz.ntmps6
 go_wp2_with fail
 refine (uH CO _ (uH HB0)).mono ?_
 rintro e w1 ⟨rfl,hb⟩
 have HB1:=aA (yB (uH HB0) hb)
 have P1:=aA ((uH P0).below hb)
 clear hb HB0 P0 CO x0 x1 x2 x3 x4 x5 x6 x7
 obtain ⟨x0,x1,x2,x3,x4,x5,x6,x7⟩:=zq (uH P1)
 cases ok with
 | false=>
  obtain rfl:vs=[]:=by rw [uH ZA];simp
  clear ZA
  go_wp2
  go_ret
  exact ⟨_,rfl,aA ⟨aBY _ _,uH HB1⟩⟩
 | true=>
  go_wp2_with fail
  refine (uH CS _ (uH HB1)).mono ?_
  rintro e w2 ⟨v,rfl,ht,hb⟩
  obtain ⟨vo,vc,rfl,Hw⟩:=ht.open
  have HB2:=aA (yB (uH HB1) hb)
  have P2:=aA ((uH P1).below hb)
  have CC:=aA (aB8 vo _ vc stv nm w2 Hw rfl (uH Vj))
  clear hb ht Hw HB1 P1 CS x0 x1 x2 x3 x4 x5 x6 x7
  obtain ⟨sl,hsl⟩:∃n,stv.length=n:=⟨_,rfl⟩
  obtain ⟨has,qz⟩:∃b,stv.any (fun x=>decide (x=nm))=b:=⟨_,rfl⟩
  rw [hsl] at CC ⊢
  rw [qz] at CC ZA
  clear hsl qz Vj
  go_wp2_with fail
  refine (uH CC).mono ?_
  rintro e w3 ⟨rfl,rfl⟩
  clear CC
  obtain ⟨x0,x1,x2,x3,x4,x5,x6,x7⟩:=zq (uH P2)
  cases has with
  | false=>
   obtain rfl:vs=[]:=by rw [uH ZA];simp
   clear ZA
   go_wp2
   go_ret
   exact ⟨_,rfl,aA ⟨aBY _ _,uH HB2⟩⟩
  | true=>
   have Qw:=aA (show vs=(tL ⟨qs,cv,ez,nv,sj,aj,ms,cs⟩ (l1,l2) (cs.length+1) cs (0,0)).map (·.id) from by rw [uH ZA];simp)
   clear ZA
   go_wp2_with fail
   refine (uH CL _ (uH HB2)).mono ?_
   rintro e w3 ⟨rfl,hb⟩
   have HB3:=aA (yB (uH HB2) hb)
   have P3:=aA ((uH P2).below hb)
   have G8:=aA (yA (yA (uH HB3) (.cells #[.int .i64 l1,.int .i64 l2] 37)) (.cells #[.int .i64 0,.int .i64 0] 37))
   have P4:=aA (((uH P3).al (.cells #[.int .i64 l1,.int .i64 l2] 37)).al (.cells #[.int .i64 0,.int .i64 0] 37))
   have hw3:w.heap.size<w3.heap.size:=(uH P3).lt
   clear hb HB2 P2 CL x0 x1 x2 x3 x4 x5 x6 x7 HB3 P3
   obtain ⟨x0,x1,x2,x3,x4,x5,x6,x7⟩:=zq (uH P4)
   obtain ⟨gA,hgA⟩:∃g,w3.heap.size=g:=⟨_,rfl⟩
   have A4:=aA (show Blk _ gA #[.int .i64 l1,.int .i64 l2] 37 from by have:=(yD w3 #[.int .i64 l1,.int .i64 l2] 37).al (.cells #[.int .i64 0,.int .i64 0] 37);rwa [hgA] at this)
   have B4:=aA (show Blk _ (gA+1) #[.int .i64 0,.int .i64 0] 37 from by have:=yD (w3.alloc (.cells #[.int .i64 l1,.int .i64 l2] 37)) #[.int .i64 0,.int .i64 0] 37;rwa [yE,hgA] at this)
   have hs4:((w3.alloc (.cells #[.int .i64 l1,.int .i64 l2] 37)).alloc (.cells #[.int .i64 0,.int .i64 0] 37)).heap.size=gA+2:=by rw [yE,yE,hgA]
   go_wp2_with fail
   have CT4:=aA (uH CT _ (uH G8))
   clear CT x0 x1 x2 x3 x4 x5 x6 x7
   rw [hgA] at hw3
   clear hgA
   generalize (w3.alloc (.cells #[.int .i64 l1,.int .i64 l2] 37)).alloc (.cells #[.int .i64 0,.int .i64 0] 37)=w4 at G8 P4 A4 B4 hs4 CT4 ⊢
   refine (uH CT4).mono ?_
   rintro e w5 ⟨rfl,ht,hs5,hb⟩
   rw [hs4] at ht hs5
   rw [hs4]
   have Tq:=aA ht
   have GR:=aA (yB (uH G8) hb)
   have P5:=aA ((uH P4).below hb)
   have A5:=aA ((uH A4).below hb)
   have B5:=aA ((uH B4).below hb)
   clear ht hb CT4 G8 P4 A4 B4 hs4
   obtain ⟨x0,x1,x2,x3,x4,x5,x6,x7⟩:=zq (uH P5)
   go_wp2
   clear x0 x1 x2 x3 x4 x5 x6 x7
   have hbL:=yA (yH _ w5) (.cells #[.slice qa ql qc,.int .i64 cv,.int .i64 ez,.int .i64 nv,.int .i64 sj,.slice aa al ac,.slice ma ml mc,.slice ca cl cc] 29)
   have GL:=aA (show Blk _ (gA+2+2) #[.slice qa ql qc,.int .i64 cv,.int .i64 ez,.int .i64 nv,.int .i64 sj,.slice aa al ac,.slice ma ml mc,.slice ca cl cc] 29 from by have:=yD w5 #[.slice qa ql qc,.int .i64 cv,.int .i64 ez,.int .i64 nv,.int .i64 sj,.slice aa al ac,.slice ma ml mc,.slice ca cl cc] 29;rwa [hs5] at this)
   have HT6:=aA ((uH Tq).below hbL)
   have GY:=aA (yB (uH GR) hbL)
   have A6:=aA ((uH A5).below hbL)
   have B6:=aA ((uH B5).below hbL)
   clear hbL Tq GR A5 B5 P5
   go_loopw [8] (fun v wr=>∃(L G:List Con) (g1 g2:Int) (n:Nat) (co:Option Addr) (cn cp gL:Nat),v=.pointer (some ⟨gL,0,none⟩)∧gA+3<gL∧Hid (Blk wr gL #[.slice qa ql qc,.int .i64 cv,.int .i64 ez,.int .i64 nv,.int .i64 sj,.slice aa al ac,.slice ma ml mc,.slice co cn cp] 29)∧Hid (Blk wr gA #[.int .i64 l1,.int .i64 l2] 37)∧Hid (Blk wr (gA+1) #[.int .i64 g1,.int .i64 g2] 37)∧Hid (rD wr (gA+2) (cl*5) L G)∧Hid (aGC ⟨qs,cv,ez,nv,sj,aj,ms,cs⟩ (l1,l2) n L G (g1,g2))∧Hid (Bw w wr)) (fun _ wr=>aAM wr (gA+2+1))
   case atStart=>exact ⟨cs,[],0,0,_,ca,cl,cc,gA+2+2,rfl,by omega,GL,A6,B6,HT6,MC,GY⟩
   case round=>
    obtain ⟨L,G,g1,g2,n,co,cn,cp,gL,rfl,hgL,HL,HA,HBk,HT,HV,HB⟩:=hrel
    have a0:=(uH HA).at 0;have a1:=(uH HA).at 1
    have b0:=(uH HBk).at 0;have b1:=(uH HBk).at 1
    simp at a0 a1 b0 b1
    go_wp2_with fail
    refine (fH l1 l2 g1 g2 _).mono ?_
    rintro e w7 ⟨rfl,hb⟩
    have ZT:=aA ((uH HL).below hb)
    have FX:=aA ((uH HA).below hb)
    have FL:=aA ((uH HBk).below hb)
    have MF:=aA ((uH HT).below hb)
    have QX:=aA (yB (uH HB) hb)
    have TG:aAM wr (gA+2+1)=L.length:=(uH HT).len
    clear a0 a1 b0 b1 hb HL HA HBk HT HB
    cases Gv:within l1 l2 g1 g2 with
    | true=>
     have Gw:=(uH HV).enough Gv
     have Zz:=aA (show vs=G.map (·.id) from by rw [uH Qw];exact congrArg _ Gw)
     have PU:=aA (show G.length≤1048576 from by have h1:=(uH HV).tot;have h2:=uH QC;simp only at h1 h2;omega)
     clear Gw Gv Qw
     obtain ⟨v,hbk,qy,how⟩:=uH MF
     obtain ⟨vo,vc,rfl,ZF,JO,JN⟩:=wF how
     have t1:=hbk.at 1
     simp at t1
     have CI:=aA (aCh vo _ vc G w7 ZF (uH PU))
     clear hbk qy how ZF JO JN
     obtain ⟨gn,hgn⟩:∃n,G.length=n:=⟨_,rfl⟩
     rw [hgn] at CI t1
     clear hgn
     go_wp2_with fail
     refine (uH CI).mono ?_
     rintro e w8 ⟨v,rfl,hv⟩
     have VH:=aA hv
     clear hv
     go_wp2
     go_ret
     exact ⟨_,rfl,aA ⟨by rw [uH Zz];exact xW (uH (uH VH)).1 (uH QX).size,yB (uH QX) (uH (uH VH)).2⟩⟩
    | false=>
     have ZI:=aA Gv
     clear Gv
     obtain ⟨v,hbk,qy,how⟩:=uH MF
     have t0:=hbk.at 0
     simp at t0
     have f7:=(uH ZT).f 7
     have MZ:=aA (qy.rowC)
     clear hbk qy how
     obtain ⟨q0,q1,q2,q3,q4,q5,q6,q7⟩:=zq (uH ZT)
     go_upto_region 8 with fail
     have VL:=aA (show Blk (w7.setCell ⟨gL,7,none⟩ (.slice (some ⟨gA+2,0,none⟩) L.length L.length)) gL #[.slice qa ql qc,.int .i64 cv,.int .i64 ez,.int .i64 nv,.int .i64 sj,.slice aa al ac,.slice ma ml mc,.slice (some ⟨gA+2,0,none⟩) L.length L.length] 29 from (uH ZT).set 7 _)
     have JD:=aA ((uH FX).other gL 7 (.slice (some ⟨gA+2,0,none⟩) L.length L.length) (by omega))
     have WY:=aA ((uH FL).other gL 7 (.slice (some ⟨gA+2,0,none⟩) L.length L.length) (by omega))
     have VQ:=aA (yC (uH QX) gL 7 (.slice (some ⟨gA+2,0,none⟩) L.length L.length) (by omega))
     have jq:=aA (show rD (w7.setCell ⟨gL,7,none⟩ (.slice (some ⟨gA+2,0,none⟩) L.length L.length)) (gA+2) (cl*5) L G from (uH MF).keptSt (uH ZT) _)
     clear q0 q1 q2 q3 q4 q5 q6 q7 f7 t0 MZ ZT FX FL QX MF
     generalize w7.setCell ⟨gL,7,none⟩ (.slice (some ⟨gA+2,0,none⟩) L.length L.length)=w8 at VL JD WY VQ jq ⊢
     have MZ:=aA (show bG w8 (some ⟨gA+2,0,none⟩) L.length L from (let ⟨_,_,b,_⟩:=uH jq;b.rowC))
     have CN8:=aA (uH CN L (some ⟨gA+2,0,none⟩) L.length w8 (uH VQ) (uH MZ) (by have:=(uH HV).tot;simp only at this;omega) (uH HV).sub)
     obtain ⟨q0,q1,q2,q3,q4,q5,q6,q7⟩:=zq (uH VL)
     have MU:=aA TG
     obtain ⟨ll,hll⟩:∃n,L.length=n:=⟨_,rfl⟩
     have Xz:=aA hll
     rw [hll] at CN8 q7 VL ⊢
     clear hll TG MZ
     obtain ⟨at',hat⟩:∃o,rY (aZ ⟨qs,cv,ez,nv,sj,aj,ms,cs⟩ L)=o:=⟨_,rfl⟩
     have HAT:=aA hat
     rw [hat] at CN8
     clear hat
     go_wp2_with fail
     refine (uH CN8).mono ?_
     rintro e w9 ⟨rfl,hb⟩
     have WN:=aA ((uH VL).below hb)
     have JC:=aA ((uH JD).below hb)
     have WX:=aA ((uH WY).below hb)
     have RH:=aA ((uH jq).below hb)
     have GM:=aA (yB (uH VQ) hb)
     clear q0 q1 q2 q3 q4 q5 q6 q7 CN8 hb VL JD WY jq VQ
     cases at' with
     | none=>
      simp only [plL]
      have Gw:=(uH HV).over (uH HAT)
      have Zz:=aA (show vs=G.map (·.id) from by rw [uH Qw];exact congrArg _ Gw)
      have PU:=aA (show G.length≤1048576 from by have h1:=(uH HV).tot;have h2:=uH QC;simp only at h1 h2;omega)
      clear Gw Qw HAT HV
      obtain ⟨v,hbk,qy,how⟩:=uH RH
      obtain ⟨vo,vc,rfl,ZF,JO,JN⟩:=wF how
      have t1:=hbk.at 1
      simp at t1
      have CI:=aA (aCh vo _ vc G w9 ZF (uH PU))
      clear hbk qy how ZF JO JN
      obtain ⟨gn,hgn⟩:∃n,G.length=n:=⟨_,rfl⟩
      rw [hgn] at CI t1
      clear hgn
      go_wp2_with fail
      refine (uH CI).mono ?_
      rintro e w10 ⟨v,rfl,hv⟩
      have VH:=aA hv
      clear hv
      go_wp2
      go_ret
      exact ⟨_,rfl,aA ⟨by rw [uH Zz];exact xW (uH (uH VH)).1 (uH GM).size,yB (uH GM) (uH (uH VH)).2⟩⟩
     | some i=>
      simp only [plL]
      have hi0:¬((i:Int)<0):=by omega
      obtain ⟨hic,ZF⟩:=(uH HV).step (uH ZI) (uH HAT)
      have hgl:L.length≤1048576∧G.length≤1048576:=by have h1:=(uH HV).tot;have h2:=uH QC;simp only at h1 h2;omega
      have qw:=aA (fun wx (h:rD wx (gA+2) (cl*5) L G)=>aER (gA+2) (cl*5) i L G wx h hic hgl.1 hgl.2)
      obtain ⟨c,hcx⟩:∃c,L[i]=c:=⟨_,rfl⟩
      rw [hcx] at ZF qw
      have Mk:=aA hic
      have Vq:=zJ g1 g2 c
      obtain ⟨⟨b1,b2⟩,hbb⟩:∃p,aDF (g1,g2) c=p:=⟨_,rfl⟩
      rw [hbb] at ZF Vq
      obtain ⟨c0,c1,cn,c3,c4⟩:=c
      simp only at Vq
      have CA:=aA (fun wx=>by have:=pK g1 g2 c3 c4 wx;rw [Vq] at this;exact this)
      have BR:=aA ZF
      obtain ⟨bo,KT⟩:∃b,aP 1 g1 g2 c3 c4=b:=⟨_,rfl⟩
      rw [KT] at CA
      obtain ⟨L2,hL2⟩:∃l,L.eraseIdx i=l:=⟨_,rfl⟩
      have gz:=List.length_eraseIdx_of_lt hic
      rw [hL2] at qw BR gz
      have Gj:=aA gz
      clear ZF hgl hcx hbb Vq KT hL2 gz hic HV ZI HAT CN
      go_upto_region 10 with fail
      have hgl9:gL<w9.heap.size:=(uH WN).lt
      refine jB 9 (fun wx=>Below (gA+1) w9 wx) (fun wx=>Below (gA+2) w9 wx) (by kernel_rfl) ((yH _ w9).drew) ((yH _ w9).drew) (fun S0 T0=>?_)
      have WF:=aA ((uH RH).below (yH _ w9).drew)
      have Xy:=aA (uH GM).drew
      have WP:=aA ((uH WN).below (yH _ w9).drew)
      have ZN:=aA ((uH JC).below (yH _ w9).drew)
      have KH:gA+2≤w9.drew.heap.size:=by show gA+2≤w9.heap.size;omega
      clear RH GM WN JC
      generalize w9.drew=wn at S0 T0 WF Xy WP ZN KH ⊢
      refine tT 0 42 (rv g1 g2) rfl rfl S0 T0 ?_ (hy:=Or.inl ⟨by rfl,fun wz hz=>bI (aCD (show Blk wz (gA+1) _ _ from (hz.block (gA+1) (by omega)).trans (uH WX)))⟩)
      try simp only [zW]
      refine aX 1 43 (.pointer (some ⟨gA+2+1,0,none⟩)) rfl rfl S0 T0 ?_
      try simp only [zW]
      refine aX 2 44 (.int .i64 (i:Int)) rfl rfl S0 T0 ?_
      try simp only [zW]
      refine aD [3] (aB.cons rfl (fun K hK=>?_) aB.nil)
      go_simp
      refine (uH qw _ (uH WF)).mono ?_
      rintro e wt ⟨rfl,ht,hb,hk⟩
      have S1:Below (gA+1) w9 wt:=Below.trans S0 (hb.mono (by omega))
      have T1:Below (gA+2) w9 wt:=Below.trans T0 hb
      have Bz:=aA ht
      have Dw:=aA (hk _ _ (uH WP))
      have VC:=aA (show Blk wt gA _ _ from (hb.block gA (by omega)).trans (uH ZN))
      have Xw:=aA (Below.trans (uH Xy) (hb.mono (show w.heap.size≤gA+2 by omega)))
      have KG:gA+2≤wt.heap.size:=Nat.le_trans KH hb.size
      clear S0 T0 ht hb hk WF Xy WP ZN KH qw
      go_wp2_with fail
      refine hK.out _ _ S1 (fun _=>T1) ?_
      clear hK K
      have S0:=S1
      have T0:=T1
      clear S1 T1
      try simp only [zW]
      refine aX 4 46 (rv c3 c4) rfl rfl S0 T0 ?_ (hy:=Or.inl ⟨by rfl,fun wz hz=>bI (aJu c0 c1 c3 c4 cn wz)⟩)
      try simp only [zW]
      refine aD [5] (aB.cons rfl (fun K hK=>?_) aB.nil)
      go_simp
      refine (uH CA _).mono ?_
      rintro e wu ⟨rfl,hb⟩
      have S1:Below (gA+1) w9 wu:=Below.trans S0 (hb.mono (by omega))
      have T1:Below (gA+2) w9 wu:=Below.trans T0 (hb.mono KG)
      have BV:=aA ((uH Bz).below hb)
      have Dv:=aA ((uH Dw).below hb)
      have Fq:=aA ((uH VC).below hb)
      have FU:=aA (yB (uH Xw) hb)
      have TB:gA+2≤wu.heap.size:=Nat.le_trans KG hb.size
      have XH:=aA (show Blk wu (gA+1) _ _ from (T1.block (gA+1) (by omega)).trans (uH WX))
      clear S0 T0 hb Bz Xw Dw VC KG CA WX
      go_wp2_with fail
      refine hK.out _ _ S1 (fun _=>T1) ?_
      clear hK K
      have S0:=S1
      have T0:=T1
      clear S1 T1
      try simp only [zW]
      refine aX 6 41 (.tuple #[rv b1 b2,.bool bo]) rfl rfl S0 T0 ?_
      try simp only [zW]
      refine aX 7 48 (rv b1 b2) rfl rfl S0 T0 ?_
      try simp only [zW]
      refine aX 8 49 (.bool bo) rfl rfl S0 T0 ?_
      try simp only [zW]
      have M:=aBO (uH XH) #[.int .i64 b1,.int .i64 b2] rfl
      have S9:Below (gA+1) w9 (World.setRow wu (gA+1) #[.int .i64 b1,.int .i64 b2]):=Below.trans S0 (M.below (fun k e=>by subst e;omega) (by omega))
      have YO:=aA (zC (uH XH) #[.int .i64 b1,.int .i64 b2])
      have VA:=aA (M.blk (uH Fq) (by omega))
      have WO:=aA (M.blk (uH Dv) (by omega))
      have WE:=aA ((uH BV).mksl M (by omega))
      have xz:=aA (Below.trans (uH FU) (M.below (B:=w.heap.size) (fun k e=>by subst e;omega) (by omega)))
      refine aD [9] (aB.cons rfl (fun K hK=>fQ (by rfl) rfl (fC (bP 37 (arr:=#[.int .i64 b1,.int .i64 b2]) (uH XH) (by kernel_rfl) rfl (by kernel_rfl))) ?_) aB.nil)
      clear S0 T0
      refine hK.out _ _ S9 (fun e=>by cases e) ?_
      clear hK K S9 M XH Fq Dv BV FU
      try simp only [zW]
      refine gK _ _ _ _ (by kernel_rfl) ?_
      refine wpAnyH_done (by kernel_rfl) ?_ _
      generalize World.setRow wu (gA+1) #[.int .i64 b1,.int .i64 b2]=wv at YO VA WO WE xz ⊢
      obtain ⟨q0,q1,q2,q3,q4,q5,q6,q7⟩:=zq (uH WO)
      have hglv:gL<wv.heap.size:=(uH WO).lt
      go_wp2
      have hbz:=yA (yH _ wv) (.cells #[.slice qa ql qc,.int .i64 cv,.int .i64 ez,.int .i64 nv,.int .i64 sj,.slice aa al ac,.slice ma ml mc,.slice (some ⟨gA+2,0,none⟩) ll ll] 29)
      go_roundw
      case rel=>exact ⟨L2,G++[⟨c0,c1,cn,c3,c4⟩],b1,b2,n - 1,some ⟨gA+2,0,none⟩,ll,ll,wv.heap.size,rfl,by omega,aA (yD wv _ _),aA ((uH VA).below hbz),aA ((uH YO).below hbz),aA ((uH WE).below hbz),BR,aA (yB (uH xz) hbz)⟩
      case measure=>
       have h1:=((uH WE).below hbz).len
       have h2:=uH MU
       have h3:=uH Gj
       have h4:=uH Mk
       rw [h1,h2,h3]
       omega
end
end Go.Proofs.YtngkddhcmfbjnaaGreat
