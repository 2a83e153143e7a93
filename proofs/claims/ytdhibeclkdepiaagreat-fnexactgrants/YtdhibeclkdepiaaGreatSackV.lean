/-
  Texts in one: GrowS, CopyS, TakB, StEnd, AnsW, StBx.
-/
import Derived.Test.YtdhibeclkdepiaaGreatSackT
import Derived.Laws.Rows
set_option maxRecDepth 100000
set_option maxHeartbeats 16000000
set_option linter.unusedVariables false
set_option linter.unusedSimpArgs false
namespace Go.Proofs.YtdhibeclkdepiaaGreat
section
open Go.RowKit
theorem gJ {w w':World} {b p:Nat} {u:Value} (h:w.cell? ⟨b,p,none⟩=some u) (hb:w'.heap[b]? = w.heap[b]?):w'.cell? ⟨b,p,none⟩=some u:=(World.cell?_of_block (w:=w) (a:=⟨b,p,none⟩) hb).trans h
theorem iG.kept {w w':World} {ao:Option Addr} {len:Nat} {l:List Q} (h:iG w ao len l) (hs:∀k,inR ao len k→w'.heap[k]? = w.heap[k]?):iG w' ao len l:=by
 obtain ⟨h1,h2⟩:=h
 refine ⟨h1,?_⟩
 rcases h2 with h2 | ⟨b,off,h3,h4⟩
 ·exact .inl h2
 ·by_cases hz:len=0
  ·exact .inl hz
  ·have hb:=hs b ⟨hz,off,h3⟩
   exact .inr ⟨b,off,h3,fun i h=>let ⟨a,c,d,e⟩:=h4 i h;⟨gJ a hb,gJ c hb,gJ d hb,gJ e hb⟩⟩
theorem bE.kept {w w':World} {ao:Option Addr} {len:Nat} {l:List Mac} (h:bE w ao len l) (hs:∀k,inR ao len k→w'.heap[k]? = w.heap[k]?):bE w' ao len l:=by
 obtain ⟨h1,h2⟩:=h
 refine ⟨h1,?_⟩
 rcases h2 with h2 | ⟨b,off,h3,h4⟩
 ·exact .inl h2
 ·by_cases hz:len=0
  ·exact .inl hz
  ·have hb:=hs b ⟨hz,off,h3⟩
   exact .inr ⟨b,off,h3,fun i h=>let ⟨a,c,d,e⟩:=h4 i h;⟨gJ a hb,gJ c hb,gJ d hb,gJ e hb⟩⟩
theorem bC.kept {w w':World} {ao:Option Addr} {len:Nat} {l:List Con} (h:bC w ao len l) (hs:∀k,inR ao len k→w'.heap[k]? = w.heap[k]?):bC w' ao len l:=by
 obtain ⟨h1,h2⟩:=h
 refine ⟨h1,?_⟩
 rcases h2 with h2 | ⟨b,off,h3,h4⟩
 ·exact .inl h2
 ·by_cases hz:len=0
  ·exact .inl hz
  ·have hb:=hs b ⟨hz,off,h3⟩
   exact .inr ⟨b,off,h3,fun i h=>let ⟨a,c,d,e,f⟩:=h4 i h;⟨gJ a hb,gJ c hb,gJ d hb,gJ e hb,gJ f hb⟩⟩
theorem aO.kept {w w':World} {ao:Option Addr} {len:Nat} {l:List Ask} (h:aO w ao len l) (hs:∀k,inR ao len k→w'.heap[k]? = w.heap[k]?):aO w' ao len l:=by
 obtain ⟨h1,h2⟩:=h
 refine ⟨h1,?_⟩
 rcases h2 with h2 | ⟨b,off,h3,h4⟩
 ·exact .inl h2
 ·by_cases hz:len=0
  ·exact .inl hz
  ·have hb:=hs b ⟨hz,off,h3⟩
   exact .inr ⟨b,off,h3,fun i h=>let ⟨a,c,d,e,f⟩:=h4 i h;⟨gJ a hb,gJ c hb,gJ d hb,gJ e hb,gJ f hb⟩⟩
theorem fA.kept {w w':World} {ao:Option Addr} {len:Nat} {l:List AV} (h:fA w ao len l) (hs:∀k,inR ao len k→w'.heap[k]? = w.heap[k]?):fA w' ao len l:=by
 obtain ⟨h1,h2⟩:=h
 refine ⟨h1,?_⟩
 rcases h2 with h2 | ⟨b,off,h3,h4⟩
 ·exact .inl h2
 ·by_cases hz:len=0
  ·exact .inl hz
  ·have hb:=hs b ⟨hz,off,h3⟩
   exact .inr ⟨b,off,h3,fun i h=>let ⟨a,c,d⟩:=h4 i h;⟨gJ a hb,gJ c hb,gJ d hb⟩⟩
theorem gG {B:Nat} {w w':World} {t t':TypeId} {sz n:Nat} {ao:Option Addr} {r:Option Nat} (h:dU B w.heap.size w t sz ao n) (hg:w.grownBy w' r) (hr:∀k,r=some k→∃N,Cel w t' k N) (ht:t'≠t):(∀k,inR ao n k→w'.heap[k]? = w.heap[k]?)∧dU B w'.heap.size w' t sz ao n:=by
 have key:∀k,inR ao n k→w'.heap[k]? = w.heap[k]?:=fun k hk=>by
  obtain ⟨_,h2,N,h3⟩:=h.lies k hk
  refine hg.block k h2 (fun e=>?_)
  obtain ⟨N',h4⟩:=hr k e.symm
  exact ht (h4.type h3)
 refine ⟨key,?_⟩
 rcases h with e | ⟨g,M,e,h1,h2,h3,h4⟩
 ·exact .inl e
 ·by_cases hz:n=0
  ·exact .inl hz
  ·exact .inr ⟨g,M,e,h1,Nat.lt_of_lt_of_le h2 hg.size,h3.of_block (key g ⟨hz,0,e⟩),h4⟩
theorem vD.grown {B n:Nat} {w w':World} {t':TypeId} {ao:Option Addr} {l:List Q} {r:Option Nat} (h:vD B w ao n l) (hg:w.grownBy w' r) (hr:∀k,r=some k→∃N,Cel w t' k N) (ht:t'≠100):vD B w' ao n l:=⟨h.1.kept (gG h.2 hg hr ht).1,(gG h.2 hg hr ht).2⟩
theorem uS.grown {B n:Nat} {w w':World} {t':TypeId} {ao:Option Addr} {l:List Mac} {r:Option Nat} (h:uS B w ao n l) (hg:w.grownBy w' r) (hr:∀k,r=some k→∃N,Cel w t' k N) (ht:t'≠104):uS B w' ao n l:=⟨h.1.kept (gG h.2 hg hr ht).1,(gG h.2 hg hr ht).2⟩
theorem qA.grown {B n:Nat} {w w':World} {t':TypeId} {ao:Option Addr} {l:List Con} {r:Option Nat} (h:qA B w ao n l) (hg:w.grownBy w' r) (hr:∀k,r=some k→∃N,Cel w t' k N) (ht:t'≠38):qA B w' ao n l:=⟨h.1.kept (gG h.2 hg hr ht).1,(gG h.2 hg hr ht).2⟩
theorem p9.grown {B n:Nat} {w w':World} {t':TypeId} {ao:Option Addr} {l:List AV} {r:Option Nat} (h:p9 B w ao n l) (hg:w.grownBy w' r) (hr:∀k,r=some k→∃N,Cel w t' k N) (ht:t'≠74):p9 B w' ao n l:=⟨h.1.kept (gG h.2 hg hr ht).1,(gG h.2 hg hr ht).2⟩
theorem kX.grown {B:Nat} {w w':World} {t':TypeId} {hs:List AV} {l:List bY} {r:Option Nat} (h:kX B w hs l) (hg:w.grownBy w' r) (hr:∀k,r=some k→∃N,Cel w t' k N) (ht:t'≠77):kX B w' hs l:=
 ⟨⟨h.heads.1,fun i h1 h2=>let ⟨a,b,c,d⟩:=h.heads.2 i h1 h2;⟨a,b,c.kept (gG (h.own _ (yM h1)) hg hr ht).1,d⟩⟩,fun v hv=>(gG (h.own v hv) hg hr ht).2,h.apart⟩
theorem aJC {w:World} {B sz n:Nat} {e:TypeId} {v:Value} {xs:List Value} (h:w.ownsRow B e sz v n xs):∀k,v.ownBlock=some k→∃N,Cel w e k N:=fun k hk=>by
 rcases h.2 with ⟨rfl,_⟩ | ⟨g,cap,cur,rfl,_,h2,_⟩
 ·simp [Value.ownBlock] at hk
 ·obtain rfl:g=k:=by simpa [Value.ownBlock] using hk
  exact ⟨_,cur,h2,rfl⟩
theorem Blk.grown {w w':World} {g:Nat} {arr:Array Value} {t t':TypeId} {r:Option Nat} (h:Blk w g arr t) (hg:w.grownBy w' r) (hr:∀k,r=some k→∃N,Cel w t' k N) (ht:t'≠t):Blk w' g arr t:=
 (hg.block g h.lt (fun e=>by obtain ⟨N,h4⟩:=hr g e.symm;exact ht (h4.type ⟨arr,h,rfl⟩))).trans h
theorem aB2 (w:World) (g j:Nat) (v:Value):w.grownBy (w.setCell ⟨g,j,none⟩ v) (some g):=⟨rfl,rfl,rfl,by simp [World.setCell],fun k _ hne=>Below.heap_setCell _ _ _ _ (by show k≠g;intro e;exact hne (by rw [e]))⟩
structure aI8 (x:Sls) (hs:List AV):Prop where
 q:x.qa=none→x.ql=0∧x.qc=0
 m:x.ma=none→x.ml=0∧x.mc=0
 c:x.ca=none→x.cl=0∧x.cc=0
 k:∀v ∈ hs,v.ao=none→v.len=0∧v.cap=0
theorem vH {B E:Nat} {w:World} {t:TypeId} {sz c n:Nat} {ao:Option Addr} (h:dU B E w t sz ao c) (hn:n≤c) (e:ao=none):n=0∧c=0:=by
 rcases h with h | ⟨g,M,h1,_⟩
 ·omega
 ·rw [e] at h1;cases h1
theorem p8.some {B E:Nat} {w:World} {x:Sls} {s:St} {hs:List AV} (h:p8 B E w x s hs):aI8 x hs:=
 ⟨vH h.rm.1 h.cap.q,vH h.rm.2.2.1 h.cap.m,vH h.rm.2.2.2.1 h.cap.c,fun v hv=>vH (h.rm.2.2.2.2 v hv) (by
  obtain ⟨i,hi,rfl⟩:=List.getElem_of_mem hv
  exact (h.heads.2 i hi (by rw [←h.heads.1];exact hi)).2.2.2)⟩
structure CpS (w:World) (a0:Array Value) (arr:Array Value) (wr:World):Prop where
 r0:Blk wr w.heap.size a0 34
 r1:Blk wr (w.heap.size+1) #[.slice none 0 0,.int .i64 0,.int .i64 0,.int .i64 0,.int .i64 0,.slice none 0 0,.slice none 0 0,.slice none 0 0] 34
 r2:Blk wr (w.heap.size+2) arr 34
 b:Below w.heap.size w wr
 z:w.heap.size+3≤wr.heap.size
theorem CpS.below {w:World} {a0 arr:Array Value} {wr wy:World} (h:CpS w a0 arr wr) (hb:Below wr.heap.size wr wy):CpS w a0 arr wy:=⟨h.r0.below hb,h.r1.below hb,h.r2.below hb,yB h.b hb,Nat.le_trans h.z hb.size⟩
theorem CpS.sc {w:World} {a0 arr:Array Value} {wr:World} (h:CpS w a0 arr wr) (j:Nat) (v:Value):CpS w a0 (arr.setIfInBounds j v) (wr.setCell ⟨w.heap.size+2,j,none⟩ v):=
 ⟨h.r0.other _ _ _ (by omega),h.r1.other _ _ _ (by omega),h.r2.set j v,yC h.b _ _ _ (by omega),by rw [bG];exact h.z⟩
theorem CpS.grown {w:World} {a0 arr:Array Value} {wr wy:World} {t':TypeId} {r:Option Nat} (h:CpS w a0 arr wr) (hg:wr.grownBy wy r) (hr:∀k,r=some k→w.heap.size≤k∧∃N,Cel wr t' k N) (ht:t'≠34):CpS w a0 arr wy:=
 ⟨h.r0.grown hg (fun k e=>(hr k e).2) ht,h.r1.grown hg (fun k e=>(hr k e).2) ht,h.r2.grown hg (fun k e=>(hr k e).2) ht,h.b.grown hg (by have:=h.z;omega) (fun k e=>(hr k e).1),Nat.le_trans h.z hg.size⟩
def aFS (w:World) (s:St) (e:Ending) (w':World):Prop:=∃y hs,e=.returned (sv y s)∧p8 w.heap.size w'.heap.size w' y s hs∧Below w.heap.size w w'∧∃g,y.ca=some ⟨g,0,none⟩
theorem uB (x:Sls) (s:St) (hs0:List AV) (w:World) (h:jC w x s) (hav:fA w x.aa x.al hs0) (hhd:jH w hs0 s.apps) (hss:aI8 x hs0) (hf:bD s) :
  Calls Tryz.prog 23 #[sv x s] w (aFS w s):=by
 have hcq:=h.1.1
 have hca:=h.2.1.1
 have hcm:=h.2.2.1.1
 have hcc:=h.2.2.2.1
 have hlq:x.ql≤1048576:=by have:=hf.1.1;omega
 have hla:x.al≤1048576:=by have:=hf.2.1.1;omega
 have hlm:x.ml≤1048576:=by have:=hf.2.2.1.1;omega
 have hlc:x.cl≤1048576:=by have:=hf.2.2.2.1;omega
 obtain ⟨qa,ql,qc,aa,al,ac,ma,ml,mc,ca,cl,cc⟩:=x
 obtain ⟨qs,clock,epoch,next,serial,apps,ms,cs⟩:=s
 simp only at *
 have RQ:=aA (show iG w qa ql qs from h.1)
 have RM:=aA (show bE w ma ml ms from h.2.2.1)
 have RC:=aA (show bC w ca cl cs from h.2.2.2)
 have RQN:=aA (show qa=none→ql=0∧qc=0 from hss.q)
 have RMN:=aA (show ma=none→ml=0∧mc=0 from hss.m)
 have RCN:=aA (show ca=none→cl=0∧cc=0 from hss.c)
 have SV:=aA (show fA w aa al hs0 from hav)
 have SH:=aA (show jH w hs0 apps from hhd)
 have HF:=aA hf
 have HSS:=aA hss.k
 have hal0:al=hs0.length:=hav.1
 have HAL:=aA hal0
 have hb0:=yA (yA (yA (yH _ w) (.cells #[.slice qa ql qc,.int .i64 clock,.int .i64 epoch,.int .i64 next,.int .i64 serial,.slice aa al ac,.slice ma ml mc,.slice ca cl cc] 34)) (.cells #[.slice none 0 0,.int .i64 0,.int .i64 0,.int .i64 0,.int .i64 0,.slice none 0 0,.slice none 0 0,.slice none 0 0] 34)) (.cells #[.slice qa ql qc,.int .i64 clock,.int .i64 epoch,.int .i64 next,.int .i64 serial,.slice aa al ac,.slice ma ml mc,.slice ca cl cc] 34)
 have CP:=aA (show CpS w #[.slice qa ql qc,.int .i64 clock,.int .i64 epoch,.int .i64 next,.int .i64 serial,.slice aa al ac,.slice ma ml mc,.slice ca cl cc] #[.slice qa ql qc,.int .i64 clock,.int .i64 epoch,.int .i64 next,.int .i64 serial,.slice aa al ac,.slice ma ml mc,.slice ca cl cc] (((w.alloc (.cells #[.slice qa ql qc,.int .i64 clock,.int .i64 epoch,.int .i64 next,.int .i64 serial,.slice aa al ac,.slice ma ml mc,.slice ca cl cc] 34)).alloc (.cells #[.slice none 0 0,.int .i64 0,.int .i64 0,.int .i64 0,.int .i64 0,.slice none 0 0,.slice none 0 0,.slice none 0 0] 34)).alloc (.cells #[.slice qa ql qc,.int .i64 clock,.int .i64 epoch,.int .i64 next,.int .i64 serial,.slice aa al ac,.slice ma ml mc,.slice ca cl cc] 34)) from
  ⟨((yD w _ _).al _).al _,by have:=(yD (w.alloc (.cells #[.slice qa ql qc,.int .i64 clock,.int .i64 epoch,.int .i64 next,.int .i64 serial,.slice aa al ac,.slice ma ml mc,.slice ca cl cc] 34)) #[.slice none 0 0,.int .i64 0,.int .i64 0,.int .i64 0,.int .i64 0,.slice none 0 0,.slice none 0 0,.slice none 0 0] 34).al (.cells #[.slice qa ql qc,.int .i64 clock,.int .i64 epoch,.int .i64 next,.int .i64 serial,.slice aa al ac,.slice ma ml mc,.slice ca cl cc] 34);rwa [yE] at this,by have:=yD ((w.alloc (.cells #[.slice qa ql qc,.int .i64 clock,.int .i64 epoch,.int .i64 next,.int .i64 serial,.slice aa al ac,.slice ma ml mc,.slice ca cl cc] 34)).alloc (.cells #[.slice none 0 0,.int .i64 0,.int .i64 0,.int .i64 0,.int .i64 0,.slice none 0 0,.slice none 0 0,.slice none 0 0] 34)) #[.slice qa ql qc,.int .i64 clock,.int .i64 epoch,.int .i64 next,.int .i64 serial,.slice aa al ac,.slice ma ml mc,.slice ca cl cc] 34;rwa [yE,yE] at this,hb0,by rw [yE,yE,yE];omega⟩)
 clear h hav hhd hb0 hf hss hcq hca hcm hcc hal0
 go_enter Tryz.func23,Tryz.ntmps23
 have HM:=aA (RmL.nil (w.heap.size+3) (((w.alloc (.cells #[.slice qa ql qc,.int .i64 clock,.int .i64 epoch,.int .i64 next,.int .i64 serial,.slice aa al ac,.slice ma ml mc,.slice ca cl cc] 34)).alloc (.cells #[.slice none 0 0,.int .i64 0,.int .i64 0,.int .i64 0,.int .i64 0,.slice none 0 0,.slice none 0 0,.slice none 0 0] 34)).alloc (.cells #[.slice qa ql qc,.int .i64 clock,.int .i64 epoch,.int .i64 next,.int .i64 serial,.slice aa al ac,.slice ma ml mc,.slice ca cl cc] 34)))
 go_upto_region 2 with fail
 generalize ((w.alloc (.cells #[.slice qa ql qc,.int .i64 clock,.int .i64 epoch,.int .i64 next,.int .i64 serial,.slice aa al ac,.slice ma ml mc,.slice ca cl cc] 34)).alloc (.cells #[.slice none 0 0,.int .i64 0,.int .i64 0,.int .i64 0,.int .i64 0,.slice none 0 0,.slice none 0 0,.slice none 0 0] 34)).alloc (.cells #[.slice qa ql qc,.int .i64 clock,.int .i64 epoch,.int .i64 next,.int .i64 serial,.slice aa al ac,.slice ma ml mc,.slice ca cl cc] 34)=w3 at CP HM ⊢
 have hb1:=yA (yH _ w3) (.cells #[] 100)
 have HNW:=aA (show ∀ad,qa=some ad→∀j u,(fT qs)[j]? = some u→(w3.alloc (.cells #[] 100)).cell? (ad.add j)=some u from fun ad he j u hj=>by
  have hr:=(((uH RQ).below (uH CP).b).below hb1)
  rcases hr.2 with e | ⟨b,off,e,_⟩
  ·have hl:=jU qs
   have h2:=(List.getElem?_eq_some_iff.1 hj).1
   have h3:=hr.1
   rw [hl] at h2
   omega
  ·obtain rfl:=Option.some.inj (he.symm.trans e)
   rw [e] at hr
   have:=aAJ hr j u hj
   rw [Lib.add_plain]
   exact this)
 have hown:(w3.alloc (.cells #[] 100)).ownsRow w3.heap.size 100 4 (.slice (some ⟨w3.heap.size,0,none⟩) 0 0) 0 []:=aAI w3
 have hll:(fT qs).length=ql*4:=by rw [jU,(uH RQ).1]
 have hone:=rY qs
 have cp1:=(uH CP).below hb1
 have a0:=cp1.r0.at 0
 simp at a0
 obtain ⟨i0,hi,hz0,hz1,hz2⟩:=info_parts Tryz.infoQ
 clear cp1
 go_wp2_with (at_builtin;refine fO _ rfl _ _ 29 rfl w3.heap.size 100 i0 (.agg #[.string ByteArray.empty,.string ByteArray.empty,.int .i64 0,.int .i64 0]) 4 48 Tryz.underlying29 hi hz0 hz1 hz2 rfl (by decide) _ _ _ rfl hown qa ql qc (fT qs) rfl (uH RQN) hll (uH HNW) hone ?c3 ?c4 ?c5 ?_)
 case c3=>unfold maxLen;omega
 case c4=>omega
 case c5=>simp
 intro v w4 hown' hgrow _
 have hbB:Below w3.heap.size w3 w4:=hb1.grown hgrow (by simp) (fun k e=>by simp [Value.ownBlock] at e;omega)
 have hoo:uR (w.heap.size+3) w4 v qs:=by
  refine aHN (B:=w3.heap.size) ?_ (uH CP).z
  unfold uR
  rw [←(uH RQ).1]
  simpa using hown'
 obtain ⟨qo,qd,rfl,hcap,hhas⟩:=uR.has hoo
 obtain ⟨nq,hnl⟩:∃n,qs.length=n:=⟨_,rfl⟩
 rw [hnl] at hhas ⊢
 have HH0:=aA hhas
 have HMb:=aA (RmL.cons (iN hoo) ((uH HM).below hbB))
 have CPb:=aA ((uH CP).below hbB)
 have HNL0:=aA hnl
 have HCAP0:=aA (show nq≤qd by omega)
 have d0:=(uH CPb).r2.at 0
 have f0:=(uH CPb).r2.f 0
 simp at d0
 clear hown' hgrow hown hone hll HNW a0 hhas hoo hb1 hbB hnl hcap hi hz0 hz1 hz2 CP
 go_upto_region 3 with fail
 have CP:=aA (show CpS w _ #[.slice qo nq qd,.int .i64 clock,.int .i64 epoch,.int .i64 next,.int .i64 serial,.slice aa al ac,.slice ma ml mc,.slice ca cl cc] (w4.setCell ⟨w.heap.size+2,0,none⟩ (.slice qo nq qd)) from (uH CPb).sc 0 (.slice qo nq qd))
 have HMn:=aA ((uH HMb).sc (w.heap.size+2) 0 (.slice qo nq qd))
 have HHn0:=aA ((uH HH0).sc (k:=w.heap.size+2) (j:=0) (v:=.slice qo nq qd) (by omega))
 generalize w4.setCell ⟨w.heap.size+2,0,none⟩ (.slice qo nq qd)=w5 at CP HMn HHn0  ⊢
 clear d0 f0 CPb HH0 i0 HM HMb
 have HM:=HMn
 clear HMn
 have HH0:=HHn0
 clear HHn0
 have hb1:=yA (yH _ w5) (.cells #[] 104)
 have HNW:=aA (show ∀ad,ma=some ad→∀j u,(fU ms)[j]? = some u→(w5.alloc (.cells #[] 104)).cell? (ad.add j)=some u from fun ad he j u hj=>by
  have hr:=(((uH RM).below (uH CP).b).below hb1)
  rcases hr.2 with e | ⟨b,off,e,_⟩
  ·have hl:=jX ms
   have h2:=(List.getElem?_eq_some_iff.1 hj).1
   have h3:=hr.1
   rw [hl] at h2
   omega
  ·obtain rfl:=Option.some.inj (he.symm.trans e)
   rw [e] at hr
   have:=aA1 hr j u hj
   rw [Lib.add_plain]
   exact this)
 have hown:(w5.alloc (.cells #[] 104)).ownsRow w5.heap.size 104 4 (.slice (some ⟨w5.heap.size,0,none⟩) 0 0) 0 []:=aA0 w5
 have hll:(fU ms).length=ml*4:=by rw [jX,(uH RM).1]
 have hone:=sD ms
 have cp1:=(uH CP).below hb1
 have a6:=cp1.r0.at 6
 simp at a6
 obtain ⟨i0,hi,hz0,hz1,hz2⟩:=info_parts Tryz.infoMachine
 clear cp1
 go_wp2_with (at_builtin;refine fO _ rfl _ _ 31 rfl w5.heap.size 104 i0 (.agg #[.string ByteArray.empty,.int .i64 0,.int .i64 0,.int .i64 0]) 4 40 Tryz.underlying31 hi hz0 hz1 hz2 rfl (by decide) _ _ _ rfl hown ma ml mc (fU ms) rfl (uH RMN) hll (uH HNW) hone ?c3 ?c4 ?c5 ?_)
 case c3=>unfold maxLen;omega
 case c4=>omega
 case c5=>simp
 intro v w6 hown' hgrow _
 have hbB:Below w5.heap.size w5 w6:=hb1.grown hgrow (by simp) (fun k e=>by simp [Value.ownBlock] at e;omega)
 have hoo:aIh (w.heap.size+3) w6 v ms:=by
  refine wM (B:=w5.heap.size) ?_ (uH CP).z
  unfold aIh
  rw [←(uH RM).1]
  simpa using hown'
 obtain ⟨mo,md,rfl,hcap,hhas⟩:=aEw hoo
 obtain ⟨nm,hnl⟩:∃n,ms.length=n:=⟨_,rfl⟩
 rw [hnl] at hhas ⊢
 have HH6:=aA hhas
 have HMb:=aA (RmL.cons (iN hoo) ((uH HM).below hbB))
 have CPb:=aA ((uH CP).below hbB)
 have HNL6:=aA hnl
 have HCAP6:=aA (show nm≤md by omega)
 have HH0b:=aA ((uH HH0).below hbB)
 have d6:=(uH CPb).r2.at 6
 have f6:=(uH CPb).r2.f 6
 simp at d6
 clear hown' hgrow hown hone hll HNW a6 hhas hoo hb1 hbB hnl hcap hi hz0 hz1 hz2 CP
 go_upto_region 4 with fail
 have CP:=aA (show CpS w _ #[.slice qo nq qd,.int .i64 clock,.int .i64 epoch,.int .i64 next,.int .i64 serial,.slice aa al ac,.slice mo nm md,.slice ca cl cc] (w6.setCell ⟨w.heap.size+2,6,none⟩ (.slice mo nm md)) from (uH CPb).sc 6 (.slice mo nm md))
 have HMn:=aA ((uH HMb).sc (w.heap.size+2) 6 (.slice mo nm md))
 have HHn6:=aA ((uH HH6).sc (k:=w.heap.size+2) (j:=6) (v:=.slice mo nm md) (by omega))
 have HH0n:=aA ((uH HH0b).sc (k:=w.heap.size+2) (j:=6) (v:=.slice mo nm md) (by omega))
 generalize w6.setCell ⟨w.heap.size+2,6,none⟩ (.slice mo nm md)=w7 at CP HMn HHn6 HH0n ⊢
 clear d6 f6 CPb HH6 i0 HM HMb HH0 HH0b
 have HM:=HMn
 clear HMn
 have HH0:=HH0n
 clear HH0n
 have HH6:=HHn6
 clear HHn6
 have hb1:=yA (yH _ w7) (.cells #[] 38)
 have HNW:=aA (show ∀ad,ca=some ad→∀j u,(aD cs)[j]? = some u→(w7.alloc (.cells #[] 38)).cell? (ad.add j)=some u from fun ad he j u hj=>by
  have hr:=(((uH RC).below (uH CP).b).below hb1)
  rcases hr.2 with e | ⟨b,off,e,_⟩
  ·have hl:=bP cs
   have h2:=(List.getElem?_eq_some_iff.1 hj).1
   have h3:=hr.1
   rw [hl] at h2
   omega
  ·obtain rfl:=Option.some.inj (he.symm.trans e)
   rw [e] at hr
   have:=fQ hr j u hj
   rw [Lib.add_plain]
   exact this)
 have hown:(w7.alloc (.cells #[] 38)).ownsRow w7.heap.size 38 5 (.slice (some ⟨w7.heap.size,0,none⟩) 0 0) 0 []:=aAf w7
 have hll:(aD cs).length=cl*5:=by rw [bP,(uH RC).1]
 have hone:=dQ cs
 have cp1:=(uH CP).below hb1
 have a7:=cp1.r0.at 7
 simp at a7
 obtain ⟨i0,hi,hz0,hz1,hz2⟩:=info_parts Tryz.infoCont
 clear cp1
 go_wp2_with (at_builtin;refine fO _ rfl _ _ 32 rfl w7.heap.size 38 i0 (.agg #[.int .i64 0,.int .i64 0,.string ByteArray.empty,.int .i64 0,.int .i64 0]) 5 48 Tryz.underlying32 hi hz0 hz1 hz2 rfl (by decide) _ _ _ rfl hown ca cl cc (aD cs) rfl (uH RCN) hll (uH HNW) hone ?c3 ?c4 ?c5 ?_)
 case c3=>unfold maxLen;omega
 case c4=>omega
 case c5=>simp
 intro v w8 hown' hgrow hnz
 have hvn:v≠.slice none 0 0:=hnz
 have hbB:Below w7.heap.size w7 w8:=hb1.grown hgrow (by simp) (fun k e=>by simp [Value.ownBlock] at e;omega)
 have hoo:aGh (w.heap.size+3) w8 v cs:=by
  refine aIG (B:=w7.heap.size) ?_ (uH CP).z
  unfold aGh
  rw [←(uH RC).1]
  simpa using hown'
 obtain ⟨co,cd,rfl,hcap,hhas⟩:=aBa hoo
 have HNZ7:=aA (show ∃g,co=some ⟨g,0,none⟩ from by
  rcases hoo.2 with ⟨e,_⟩ | ⟨g,cap,cur,e,_⟩
  ·exact absurd e hvn
  ·cases e;exact ⟨g,rfl⟩)
 clear hvn hnz
 obtain ⟨nc,hnl⟩:∃n,cs.length=n:=⟨_,rfl⟩
 rw [hnl] at hhas ⊢
 have HH7:=aA hhas
 have HMb:=aA (RmL.cons (iN hoo) ((uH HM).below hbB))
 have CPb:=aA ((uH CP).below hbB)
 have HNL7:=aA hnl
 have HCAP7:=aA (show nc≤cd by omega)
 have HH0b:=aA ((uH HH0).below hbB)
 have HH6b:=aA ((uH HH6).below hbB)
 have d7:=(uH CPb).r2.at 7
 have f7:=(uH CPb).r2.f 7
 simp at d7
 clear hown' hgrow hown hone hll HNW a7 hhas hoo hb1 hbB hnl hcap hi hz0 hz1 hz2 CP
 go_upto_region 5 with fail
 have CP:=aA (show CpS w _ #[.slice qo nq qd,.int .i64 clock,.int .i64 epoch,.int .i64 next,.int .i64 serial,.slice aa al ac,.slice mo nm md,.slice co nc cd] (w8.setCell ⟨w.heap.size+2,7,none⟩ (.slice co nc cd)) from (uH CPb).sc 7 (.slice co nc cd))
 have HMn:=aA ((uH HMb).sc (w.heap.size+2) 7 (.slice co nc cd))
 have HHn7:=aA ((uH HH7).sc (k:=w.heap.size+2) (j:=7) (v:=.slice co nc cd) (by omega))
 have HH0n:=aA ((uH HH0b).sc (k:=w.heap.size+2) (j:=7) (v:=.slice co nc cd) (by omega))
 have HH6n:=aA ((uH HH6b).sc (k:=w.heap.size+2) (j:=7) (v:=.slice co nc cd) (by omega))
 generalize w8.setCell ⟨w.heap.size+2,7,none⟩ (.slice co nc cd)=w9 at CP HMn HHn7 HH0n HH6n ⊢
 clear d7 f7 CPb HH7 i0 HM HMb HH0 HH6 HH0b HH6b
 have HM:=HMn
 clear HMn
 have HH0:=HH0n
 have HH6:=HH6n
 clear HH0n HH6n
 have HH7:=HHn7
 clear HHn7
 have hb1:=yA (yH _ w9) (.cells #[] 74)
 have PO:=aA (show aBm w9.heap.size (w9.alloc (.cells #[] 74)) (.slice (some ⟨w9.heap.size,0,none⟩) 0 0) [] from aAL w9)
 have CPb:=aA ((uH CP).below hb1)
 have HMb:=aA ((uH HM).below hb1)
 have H0b:=aA ((uH HH0).below hb1)
 have H6b:=aA ((uH HH6).below hb1)
 have H7b:=aA ((uH HH7).below hb1)
 have d5:=(uH CPb).r2.at 5
 have f5:=(uH CPb).r2.f 5
 simp at d5
 have hz9:=(uH CP).z
 obtain ⟨g0,hg0⟩:∃g,w9.heap.size=g:=⟨_,rfl⟩
 have HG0:=aA hg0
 rw [hg0] at PO hz9
 clear hb1 CP HH0 HH6 HH7 hg0 HM
 go_upto_region 6 with fail
 rw [uH HG0]
 have CP:=aA (show CpS w #[.slice qa ql qc,.int .i64 clock,.int .i64 epoch,.int .i64 next,.int .i64 serial,.slice aa al ac,.slice ma ml mc,.slice ca cl cc] #[.slice qo nq qd,.int .i64 clock,.int .i64 epoch,.int .i64 next,.int .i64 serial,.slice (some ⟨g0,0,none⟩) 0 0,.slice mo nm md,.slice co nc cd] ((w9.alloc (.cells #[] 74)).setCell ⟨w.heap.size+2,5,none⟩ (.slice (some ⟨g0,0,none⟩) 0 0)) from (uH CPb).sc 5 _)
 have HM:=aA ((uH HMb).sc (w.heap.size+2) 5 (.slice (some ⟨g0,0,none⟩) 0 0))
 have H0:=aA ((uH H0b).sc (k:=w.heap.size+2) (j:=5) (v:=.slice (some ⟨g0,0,none⟩) 0 0) (by omega))
 have H6:=aA ((uH H6b).sc (k:=w.heap.size+2) (j:=5) (v:=.slice (some ⟨g0,0,none⟩) 0 0) (by omega))
 have H7:=aA ((uH H7b).sc (k:=w.heap.size+2) (j:=5) (v:=.slice (some ⟨g0,0,none⟩) 0 0) (by omega))
 have PO2:=aA (wD (aAK (uH PO) (w.heap.size+2) 5 (.slice (some ⟨g0,0,none⟩) 0 0) (by omega)) hz9)
 generalize (w9.alloc (.cells #[] 74)).setCell ⟨w.heap.size+2,5,none⟩ (.slice (some ⟨g0,0,none⟩) 0 0)=w10 at CP HM H0 H6 H7 PO2 ⊢
 clear CPb HMb H0b H6b H7b d5 f5 PO hz9
 go_wp2
 go_loopw [4] (fun i wr=>∃(k:Nat),k≤al∧i=.int .i64 k∧Hid (∃po pd ns,aBm (w.heap.size+3) wr (.slice po k pd) ns∧ns.length=k∧kX (w.heap.size+3) wr ns (apps.take k)∧RmL (w.heap.size+3) wr (RL4 co cd mo md qo qd ns)∧CpS w #[.slice qa ql qc,.int .i64 clock,.int .i64 epoch,.int .i64 next,.int .i64 serial,.slice aa al ac,.slice ma ml mc,.slice ca cl cc] #[.slice qo nq qd,.int .i64 clock,.int .i64 epoch,.int .i64 next,.int .i64 serial,.slice po k pd,.slice mo nm md,.slice co nc cd] wr)∧Hid (vD (w.heap.size+3) wr qo nq qs)∧Hid (uS (w.heap.size+3) wr mo nm ms)∧Hid (qA (w.heap.size+3) wr co nc cs)) (fun i _=>al - (intOf i).toNat)
 case atStart=>exact ⟨0,Nat.zero_le _,rfl,aA ⟨some ⟨g0,0,none⟩,0,[],uH PO2,rfl,by simpa using kX.nil _ _,by simpa [RL4] using uH HM,uH CP⟩,H0,H6,H7⟩
 case round=>
  clear CP H0 H6 H7 PO2 HM
  obtain ⟨k,hk,rfl,HX,H0,H6,H7⟩:=hrel
  obtain ⟨po,pd,ns,hpo,hns,hkh,hrm,hcp⟩:=uH HX
  have HC:=aA hcp
  have HNS:=aA hns
  have a5:=hcp.r0.at 5
  simp at a5
  by_cases hlt:k<al
  ·have hk0:k<hs0.length:=by have:=uH HAL;omega
   have hk1:k<apps.length:=by have:=(uH SH).1;omega
   obtain ⟨b,off,rfl,hat⟩:=((uH SV).below hcp.b).at hlt
   obtain ⟨c0,c1,c2⟩:=hat hk0
   obtain ⟨e0,e1,e2,e3⟩:=(uH SH).2 k hk0 hk1
   have hfa:=(uH HF).2.1.2 apps[k] (yM hk1)
   have haad:=uH HSS hs0[k] (yM hk0)
   obtain ⟨⟨ai,aq,ak⟩,hap⟩:∃a,apps[k]=a:=⟨_,rfl⟩
   obtain ⟨⟨vi,vq,va,vl,vc⟩,hv⟩:∃v,hs0[k]=v:=⟨_,rfl⟩
   have htk:apps.take (k+1)=apps.take k++[⟨ai,aq,ak⟩]:=by rw [List.take_succ_eq_append_getElem hk1,hap]
   rw [hap] at e0 e1 e2 hfa
   rw [hv] at c0 c1 c2 e0 e1 e2 e3 haad
   simp only at c0 c1 c2 e0 e1 e2 e3 haad
   subst e0 e1
   have HAD:=aA haad
   clear haad
   have hvl:vl≤1048576:=by have:=e2.1;have:ak.length≤1048576:=hfa.2.1;omega
   have hrow:=e2.below hcp.b
   have HTK:=aA htk
   have HPO:=aA hpo
   have HKH:=aA hkh
   have HW:=aA (yA (yH _ wr) (.cells #[.int .i64 vi,.string (bs vq),.slice va vl vc] 74))
   have X0:=aA (hcp.below (uH HW))
   have XP:=aA (aAM hpo (uH HW))
   have XK:=aA (hkh.below (uH HW))
   have XM:=aA (hrm.below (uH HW))
   have Y0:=aA ((uH H0).below (uH HW))
   have Y6:=aA ((uH H6).below (uH HW))
   have Y7:=aA ((uH H7).below (uH HW))
   have XA:=aA (yD wr #[.int .i64 vi,.string (bs vq),.slice va vl vc] 74)
   have XR:=aA (hrow.below (uH HW))
   obtain ⟨ba,hba⟩:∃b,wr.heap.size=b:=⟨_,rfl⟩
   have HBA:=aA hba
   have HPLT:=aA (show ∀kk,(Value.slice po k pd).ownBlock=some kk→kk<ba from fun kk e=>by have:=(World.ownsRow.lt hpo kk e).2;omega)
   rw [hba] at XA
   have hzb:w.heap.size+3≤ba:=by have:=hcp.z;omega
   have k0:(0:Int)≤k:=by omega
   have k1:(k:Int)<al:=by omega
   clear hpo hkh hrm hcp hat hap hv htk hrow e3 hfa hk0 hk1 hns HX H0 H6 H7 hba
   go_upto_region 10 with fail
   rw [uH HBA]
   have XZ:=aA (show (wr.alloc (.cells #[.int .i64 vi,.string (bs vq),.slice va vl vc] 74)).heap.size=ba+1 by rw [yE,uH HBA])
   generalize wr.alloc (.cells #[.int .i64 vi,.string (bs vq),.slice va vl vc] 74)=W at X0 XP XK XM Y0 Y6 Y7 XA XR XZ ⊢
   clear HW HC HPO HKH c0 c1 c2 a5 e2
   have hb1:=yA (yH _ W) (.cells #[] 77)
   have HNW:=aA (show ∀ad,va=some ad→∀j u,(aK ak)[j]? = some u→(W.alloc (.cells #[] 77)).cell? (ad.add j)=some u from fun ad he j u hj=>by
    have hr:=(uH XR).below hb1
    rcases hr.2 with e | ⟨b,off,e,_⟩
    ·have hl:=aU ak
     have h2:=(List.getElem?_eq_some_iff.1 hj).1
     have h3:=hr.1
     rw [hl] at h2
     omega
    ·obtain rfl:=Option.some.inj (he.symm.trans e)
     rw [e] at hr
     have:=oN hr j u hj
     rw [Lib.add_plain]
     exact this)
   have hown:(W.alloc (.cells #[] 77)).ownsRow W.heap.size 77 5 (.slice (some ⟨W.heap.size,0,none⟩) 0 0) 0 []:=sW W
   have hll:(aK ak).length=vl*5:=by rw [aU,(uH XR).1]
   have hone:=iR ak
   have xa2:=((uH XA).below hb1).at 2
   simp at xa2
   obtain ⟨i0,hi,hz0,hz1,hz2⟩:=info_parts Tryz.infoA
   go_wp2_with (at_builtin;refine fO _ rfl _ _ 72 rfl W.heap.size 77 i0 (.agg #[.int .i64 0,.int .i64 0,.int .i64 0,.string ByteArray.empty,.int .i64 0]) 5 48 Tryz.underlying72 hi hz0 hz1 hz2 rfl (by decide) _ _ _ rfl hown va vl vc (aK ak) rfl (uH HAD) hll (uH HNW) hone ?c3 ?c4 ?c5 ?_)
   case c3=>unfold maxLen;omega
   case c4=>omega
   case c5=>simp
   intro v w11 hown' hgrow _
   have hbB:Below W.heap.size W w11:=hb1.grown hgrow (by simp) (fun k e=>by simp [Value.ownBlock] at e;omega)
   have hoo:tH W.heap.size w11 v ak:=by
    unfold tH
    rw [←(uH XR).1]
    simpa using hown'
   obtain ⟨no,nd,rfl,hnd,hnr,hno⟩:=vJ hoo
   obtain ⟨nl,hnl⟩:∃n,ak.length=n:=⟨_,rfl⟩
   have HNL:=aA hnl
   have HND:=aA hnd
   have HNR:=aA hnr
   have HAM:=aA ((iN hoo).mono (show w.heap.size+3≤W.heap.size by have:=uH XZ;omega) (yJ _))
   have HNO:=aA hno
   rw [hnl]
   have HBW:=aA hbB
   have XAb:=aA ((uH XA).below hbB)
   have xd2:=(uH XAb).at 2
   have xf2:=(uH XAb).f 2
   simp at xd2
   clear hown' hgrow hown hone hll HNW xa2 hoo hb1 hbB hnl hnd hnr hno hi hz0 hz1 hz2
   go_upto_region 11 with fail
   have N2:Mks (fun k=>k=ba) w11 (w11.setCell ⟨ba,2,none⟩ (.slice no nl nd)):=Mks.one _ _ _ _ _ rfl
   have hcel:Cel w11 74 ba 3:=⟨_,uH XAb,rfl⟩
   have X0n:=aA (show CpS w _ #[.slice qo nq qd,.int .i64 clock,.int .i64 epoch,.int .i64 next,.int .i64 serial,.slice po k pd,.slice mo nm md,.slice co nc cd] (w11.setCell ⟨ba,2,none⟩ (.slice no nl nd)) from by
    have hx:=(uH X0).below (uH HBW)
    exact ⟨hx.r0.other _ _ _ (by omega),hx.r1.other _ _ _ (by omega),hx.r2.other _ _ _ (by omega),yC hx.b _ _ _ (by omega),by rw [bG];exact hx.z⟩)
   have XPn:=aA (show aBm (w.heap.size+3) (w11.setCell ⟨ba,2,none⟩ (.slice no nl nd)) (.slice po k pd) ns from ownsRow_setCell_other (aAM (uH XP) (uH HBW)) (a:=⟨ba,2,none⟩) (fun e=>by have:=uH HPLT ba e;omega) _)
   have XKn:=aA (show kX (w.heap.size+3) (w11.setCell ⟨ba,2,none⟩ (.slice no nl nd)) (ns++[⟨vi,vq,no,nl,nd⟩]) (apps.take (k+1)) from by
    rw [uH HTK,←uH HNL]
    exact ((uH XK).snoc (uH HBW) (by have:=uH XZ;omega) vi vq no nd ak (uH HND) (uH HNR) (uH HNO)).sc (.inr ⟨_,_,hcel,by decide⟩))
   have XMn:=aA (show RmL (w.heap.size+3) (w11.setCell ⟨ba,2,none⟩ (.slice no nl nd)) (RL4 co cd mo md qo qd (ns++[⟨vi,vq,no,nl,nd⟩])) from ((RmL.cons (uH HAM) ((uH XM).below (uH HBW))).sub (aIt co cd mo md qo qd ns ⟨vi,vq,no,nl,nd⟩)).sc ba 2 _)
   have hr1:∀k,some ba=some k→∃N,Cel w11 74 k N:=fun k e=>⟨3,by rw [←Option.some.inj e];exact hcel⟩
   have Y0n:=aA (((uH Y0).below (uH HBW)).grown (aB2 w11 ba 2 (.slice no nl nd)) hr1 (by decide))
   have Y6n:=aA (((uH Y6).below (uH HBW)).grown (aB2 w11 ba 2 (.slice no nl nd)) hr1 (by decide))
   have Y7n:=aA (((uH Y7).below (uH HBW)).grown (aB2 w11 ba 2 (.slice no nl nd)) hr1 (by decide))
   have XAn:=aA (show Blk (w11.setCell ⟨ba,2,none⟩ (.slice no nl nd)) ba #[.int .i64 vi,.string (bs vq),.slice no nl nd] 74 from (uH XAb).set 2 _)
   generalize w11.setCell ⟨ba,2,none⟩ (.slice no nl nd)=w12 at X0n XPn XKn XMn Y0n Y6n Y7n XAn ⊢
   clear N2 hcel hr1 xd2 xf2 XAb HAM XM X0 XP XK Y0 Y6 Y7 XA XR XZ HBW HNR HNO HND HNL
   have hb2:=yA (yH _ w12) (.cells #[.int .i64 vi,.string (bs vq),.slice no nl nd] 74)
   have g5:=(uH X0n).r2.at 5
   have q0:=(uH XAn).at 0
   have q1:=(uH XAn).at 1
   have q2:=(uH XAn).at 2
   simp at g5 q0 q1 q2
   have hzz:=(uH X0n).z
   have hown:w12.ownsRow (w.heap.size+3) 74 3 (.slice po k pd) k (dB ns):=by have:=uH XPn;unfold aBm at this;rwa [uH HNS] at this
   have HOW:=aA hown
   obtain ⟨i0,hi,hz0,hz1,hz2⟩:=info_parts Tryz.infoApp
   go_wp2_with (at_builtin;refine wpList_append_own _ rfl _ _ 30 rfl (w.heap.size+3) 74 i0 (.agg #[.int .i64 0,.string ByteArray.empty,.slice none 0 0]) 3 48 Tryz.underlying30 hi hz0 hz1 hz2 rfl (by decide) _ _ _ rfl (hown.alloc _) ⟨w12.heap.size,0,none⟩ 1 1 (aDm ⟨vi,vq,no,nl,nd⟩) rfl rfl ?c1 ?c2 ?c3 ?c4 ?c5 ?_)
   case c1=>exact World.news_of_block (yD w12 #[.int .i64 vi,.string (bs vq),.slice no nl nd] 74)
   case c2=>intro u hu;simp at hu;rcases hu with rfl | rfl | rfl<;>rfl
   case c3=>unfold maxLen;omega
   case c4=>omega
   case c5=>simp;omega
   intro v' w13 hown' hgrow _
   obtain ⟨ng,ncap,rfl,_,_⟩:=World.ownsRow.form hown' (by omega)
   have hr2:∀kk,(Value.slice po k pd).ownBlock=some kk→w.heap.size≤kk∧∃N,Cel (w12.alloc (.cells #[.int .i64 vi,.string (bs vq),.slice no nl nd] 74)) 74 kk N:=fun kk e=>by
    have h1:=(World.ownsRow.lt (uH HOW) kk e).1
    obtain ⟨N,hc⟩:=aJC (uH HOW) kk e
    exact ⟨by omega,N,hc.below hb2⟩
   have X0m:=aA (((uH X0n).below hb2).grown hgrow hr2 (by decide))
   have Y0m:=aA (((uH Y0n).below hb2).grown hgrow (fun kk e=>(hr2 kk e).2) (by decide))
   have Y6m:=aA (((uH Y6n).below hb2).grown hgrow (fun kk e=>(hr2 kk e).2) (by decide))
   have Y7m:=aA (((uH Y7n).below hb2).grown hgrow (fun kk e=>(hr2 kk e).2) (by decide))
   have XKm:=aA (((uH XKn).below hb2).grown hgrow (fun kk e=>(hr2 kk e).2) (by decide))
   have XMm:=aA (((uH XMn).below hb2).grown hgrow (fun kk e=>(hr2 kk e).2) (aKG co cd mo md qo qd _))
   have XPm:=aA (show aBm (w.heap.size+3) w13 (.slice (some ⟨ng,0,none⟩) (k+1) ncap) (ns++[⟨vi,vq,no,nl,nd⟩]) by
    unfold aBm
    rw [aAQ,List.length_append,uH HNS]
    exact hown')
   have d5:=(uH X0m).r2.at 5
   have f5:=(uH X0m).r2.f 5
   simp at d5
   clear hown hown' hgrow hr2 hb2 g5 q0 q1 q2 HOW X0n XPn XKn XMn Y0n Y6n Y7n XAn hi hz0 hz1 hz2
   go_wp2
   go_roundw
   case rel=>
    refine ⟨k+1,by omega,by go_num,aA ⟨some ⟨ng,0,none⟩,ncap,ns++[⟨vi,vq,no,nl,nd⟩],aAK (uH XPm) _ _ _ (by omega),by simp [uH HNS],(uH XKm).sc (.inl (by omega)),(uH XMm).sc _ _ _,(uH X0m).sc 5 _⟩,aA ((uH Y0m).sc (by omega)),aA ((uH Y6m).sc (by omega)),aA ((uH Y7m).sc (by omega))⟩
   case measure=>simp [intOf];omega
  ·obtain rfl:k=al:=by omega
   have HC:=aA hcp
   have htk:apps.take k=apps:=List.take_of_length_le (by have:=(uH SH).1;have:=uH HAL;omega)
   have HPM:=aA (iN hpo)
   have HRM:=aA hrm
   obtain ⟨_,_,e,hpc,hph⟩:=aEp hpo
   rw [htk] at hkh
   rw [hns] at hph e hpc
   cases e
   have HPC:=aA hpc
   have HP:=aA hph
   have HK:=aA hkh
   have k1:¬(k:Int)<k:=by omega
   have b0:=hcp.r2.at 0;have b1:=hcp.r2.at 1;have b2:=hcp.r2.at 2;have b3:=hcp.r2.at 3;have b4:=hcp.r2.at 4;have b5:=hcp.r2.at 5;have b6:=hcp.r2.at 6;have b7:=hcp.r2.at 7
   have c0:=hcp.r1.at 0;have c1:=hcp.r1.at 1;have c2:=hcp.r1.at 2;have c3:=hcp.r1.at 3;have c4:=hcp.r1.at 4;have c5:=hcp.r1.at 5;have c6:=hcp.r1.at 6;have c7:=hcp.r1.at 7
   have f0:=hcp.r1.f 0;have f1:=hcp.r1.f 1;have f2:=hcp.r1.f 2;have f3:=hcp.r1.f 3;have f4:=hcp.r1.f 4;have f5:=hcp.r1.f 5;have f6:=hcp.r1.f 6;have f7:=hcp.r1.f 7
   simp at b0 b1 b2 b3 b4 b5 b6 b7 c0 c1 c2 c3 c4 c5 c6 c7
   clear hpo hkh hrm hcp htk hlt hns hph HX hpc
   go_wp2
   have R9:=aA (show Blk ((((((((wr.setCell ⟨w.heap.size+1,0,none⟩ (.slice qo nq qd)).setCell ⟨w.heap.size+1,1,none⟩ (.int .i64 clock)).setCell ⟨w.heap.size+1,2,none⟩ (.int .i64 epoch)).setCell ⟨w.heap.size+1,3,none⟩ (.int .i64 next)).setCell ⟨w.heap.size+1,4,none⟩ (.int .i64 serial)).setCell ⟨w.heap.size+1,5,none⟩ (.slice po k pd)).setCell ⟨w.heap.size+1,6,none⟩ (.slice mo nm md)).setCell ⟨w.heap.size+1,7,none⟩ (.slice co nc cd)) (w.heap.size+1) #[.slice qo nq qd,.int .i64 clock,.int .i64 epoch,.int .i64 next,.int .i64 serial,.slice po k pd,.slice mo nm md,.slice co nc cd] 34 from (((((((((uH HC).r1.set 0 (.slice qo nq qd)).set 1 (.int .i64 clock)).set 2 (.int .i64 epoch)).set 3 (.int .i64 next)).set 4 (.int .i64 serial)).set 5 (.slice po k pd)).set 6 (.slice mo nm md)).set 7 (.slice co nc cd)))
   have Q9:=aA (((((((((uH H0).sc (k:=w.heap.size+1) (j:=0) (v:=.slice qo nq qd) (by omega)).sc (k:=w.heap.size+1) (j:=1) (v:=.int .i64 clock) (by omega)).sc (k:=w.heap.size+1) (j:=2) (v:=.int .i64 epoch) (by omega)).sc (k:=w.heap.size+1) (j:=3) (v:=.int .i64 next) (by omega)).sc (k:=w.heap.size+1) (j:=4) (v:=.int .i64 serial) (by omega)).sc (k:=w.heap.size+1) (j:=5) (v:=.slice po k pd) (by omega)).sc (k:=w.heap.size+1) (j:=6) (v:=.slice mo nm md) (by omega)).sc (k:=w.heap.size+1) (j:=7) (v:=.slice co nc cd) (by omega))
   have P9:=aA (((((((((uH HP).sc (k:=w.heap.size+1) (j:=0) (v:=.slice qo nq qd) (by omega)).sc (k:=w.heap.size+1) (j:=1) (v:=.int .i64 clock) (by omega)).sc (k:=w.heap.size+1) (j:=2) (v:=.int .i64 epoch) (by omega)).sc (k:=w.heap.size+1) (j:=3) (v:=.int .i64 next) (by omega)).sc (k:=w.heap.size+1) (j:=4) (v:=.int .i64 serial) (by omega)).sc (k:=w.heap.size+1) (j:=5) (v:=.slice po k pd) (by omega)).sc (k:=w.heap.size+1) (j:=6) (v:=.slice mo nm md) (by omega)).sc (k:=w.heap.size+1) (j:=7) (v:=.slice co nc cd) (by omega))
   have K9:=aA (((((((((uH HK).sc (k:=w.heap.size+1) (j:=0) (v:=.slice qo nq qd) (.inl (by omega))).sc (k:=w.heap.size+1) (j:=1) (v:=.int .i64 clock) (.inl (by omega))).sc (k:=w.heap.size+1) (j:=2) (v:=.int .i64 epoch) (.inl (by omega))).sc (k:=w.heap.size+1) (j:=3) (v:=.int .i64 next) (.inl (by omega))).sc (k:=w.heap.size+1) (j:=4) (v:=.int .i64 serial) (.inl (by omega))).sc (k:=w.heap.size+1) (j:=5) (v:=.slice po k pd) (.inl (by omega))).sc (k:=w.heap.size+1) (j:=6) (v:=.slice mo nm md) (.inl (by omega))).sc (k:=w.heap.size+1) (j:=7) (v:=.slice co nc cd) (.inl (by omega)))
   have M9:=aA (((((((((uH H6).sc (k:=w.heap.size+1) (j:=0) (v:=.slice qo nq qd) (by omega)).sc (k:=w.heap.size+1) (j:=1) (v:=.int .i64 clock) (by omega)).sc (k:=w.heap.size+1) (j:=2) (v:=.int .i64 epoch) (by omega)).sc (k:=w.heap.size+1) (j:=3) (v:=.int .i64 next) (by omega)).sc (k:=w.heap.size+1) (j:=4) (v:=.int .i64 serial) (by omega)).sc (k:=w.heap.size+1) (j:=5) (v:=.slice po k pd) (by omega)).sc (k:=w.heap.size+1) (j:=6) (v:=.slice mo nm md) (by omega)).sc (k:=w.heap.size+1) (j:=7) (v:=.slice co nc cd) (by omega))
   have C9:=aA (((((((((uH H7).sc (k:=w.heap.size+1) (j:=0) (v:=.slice qo nq qd) (by omega)).sc (k:=w.heap.size+1) (j:=1) (v:=.int .i64 clock) (by omega)).sc (k:=w.heap.size+1) (j:=2) (v:=.int .i64 epoch) (by omega)).sc (k:=w.heap.size+1) (j:=3) (v:=.int .i64 next) (by omega)).sc (k:=w.heap.size+1) (j:=4) (v:=.int .i64 serial) (by omega)).sc (k:=w.heap.size+1) (j:=5) (v:=.slice po k pd) (by omega)).sc (k:=w.heap.size+1) (j:=6) (v:=.slice mo nm md) (by omega)).sc (k:=w.heap.size+1) (j:=7) (v:=.slice co nc cd) (by omega))
   have B9:=aA (yC (yC (yC (yC (yC (yC (yC (yC (uH HC).b (w.heap.size+1) 0 (.slice qo nq qd) (by omega)) (w.heap.size+1) 1 (.int .i64 clock) (by omega)) (w.heap.size+1) 2 (.int .i64 epoch) (by omega)) (w.heap.size+1) 3 (.int .i64 next) (by omega)) (w.heap.size+1) 4 (.int .i64 serial) (by omega)) (w.heap.size+1) 5 (.slice po k pd) (by omega)) (w.heap.size+1) 6 (.slice mo nm md) (by omega)) (w.heap.size+1) 7 (.slice co nc cd) (by omega))
   have N9:=aA (((((((((uH HRM).sc (w.heap.size+1) 0 (.slice qo nq qd)).sc (w.heap.size+1) 1 (.int .i64 clock)).sc (w.heap.size+1) 2 (.int .i64 epoch)).sc (w.heap.size+1) 3 (.int .i64 next)).sc (w.heap.size+1) 4 (.int .i64 serial)).sc (w.heap.size+1) 5 (.slice po k pd)).sc (w.heap.size+1) 6 (.slice mo nm md)).sc (w.heap.size+1) 7 (.slice co nc cd))
   have L9:=aA (mK (mK (mK (mK (mK (mK (mK (mK (uH HPM) (w.heap.size+1) 0 (.slice qo nq qd)) (w.heap.size+1) 1 (.int .i64 clock)) (w.heap.size+1) 2 (.int .i64 epoch)) (w.heap.size+1) 3 (.int .i64 next)) (w.heap.size+1) 4 (.int .i64 serial)) (w.heap.size+1) 5 (.slice po k pd)) (w.heap.size+1) 6 (.slice mo nm md)) (w.heap.size+1) 7 (.slice co nc cd))
   generalize ((((((((wr.setCell ⟨w.heap.size+1,0,none⟩ (.slice qo nq qd)).setCell ⟨w.heap.size+1,1,none⟩ (.int .i64 clock)).setCell ⟨w.heap.size+1,2,none⟩ (.int .i64 epoch)).setCell ⟨w.heap.size+1,3,none⟩ (.int .i64 next)).setCell ⟨w.heap.size+1,4,none⟩ (.int .i64 serial)).setCell ⟨w.heap.size+1,5,none⟩ (.slice po k pd)).setCell ⟨w.heap.size+1,6,none⟩ (.slice mo nm md)).setCell ⟨w.heap.size+1,7,none⟩ (.slice co nc cd))=W9 at R9 Q9 P9 K9 M9 C9 B9 N9 L9 ⊢
   obtain ⟨z0,z1,z2,z3,z4,z5,z6,z7⟩:=zq (uH R9)
   refine bodyPost_ret (v:=.agg #[.slice qo nq qd,.int .i64 clock,.int .i64 epoch,.int .i64 next,.int .i64 serial,.slice po k pd,.slice mo nm md,.slice co nc cd]) (by simp [results,Tryz.results23,go_sem,z0,z1,z2,z3,z4,z5,z6,z7]) rfl (show aFS w _ _ _ from ⟨⟨qo,nq,qd,po,k,pd,mo,nm,md,co,nc,cd⟩,ns,rfl,?_,uH B9,uH HNZ7⟩)
   exact (aDd (x:=⟨qo,nq,qd,po,k,pd,mo,nm,md,co,nc,cd⟩) (s:=⟨qs,clock,epoch,next,serial,apps,ms,cs⟩) (uH Q9) (uH P9) (uH K9) (uH M9) (uH C9) ⟨uH HCAP0,uH HPC,uH HCAP6,uH HCAP7⟩ (aJo (uH N9) (uH L9))).mono (by omega) (yJ _)
theorem aKX (x:Sls) (s:St) (hs0:List AV) (w:World) (h:jC w x s) (hav:fA w x.aa x.al hs0) (hhd:jH w hs0 s.apps) (hss:aI8 x hs0) (hf:bD s) :
  Calls Tryz.prog 23 #[sv x s] w (aEa w s):=(uB x s hs0 w h hav hhd hss hf).mono fun e w' ⟨y,hs,h1,h2,h3,_⟩=>⟨y,hs,h1,h2,h3⟩
theorem vD.base {B B' n:Nat} {w:World} {ao:Option Addr} {l:List Q} (h:vD B w ao n l) (hb:B'≤B):vD B' w ao n l:=⟨h.1,h.2.mono hb (yJ _)⟩
theorem uS.base {B B' n:Nat} {w:World} {ao:Option Addr} {l:List Mac} (h:uS B w ao n l) (hb:B'≤B):uS B' w ao n l:=⟨h.1,h.2.mono hb (yJ _)⟩
theorem p9.base {B B' n:Nat} {w:World} {ao:Option Addr} {l:List AV} (h:p9 B w ao n l) (hb:B'≤B):p9 B' w ao n l:=⟨h.1,h.2.mono hb (yJ _)⟩
theorem kX.base {B B':Nat} {w:World} {hs:List AV} {l:List bY} (h:kX B w hs l) (hb:B'≤B):kX B' w hs l:=⟨h.heads,fun v hv=>(h.own v hv).mono hb (yJ _),h.apart⟩
theorem aHt (w:World):jH w [] []:=⟨rfl,fun i h=>absurd h (by simp)⟩
theorem aGP {w:World} {v:AV} {t:List AV} {a:bY} {s:List bY} (h:jH w (v::t) (a::s)):(v.id=a.id∧v.queue=a.queue∧aO w v.ao v.len a.asks∧v.len≤v.cap)∧jH w t s:=
 ⟨h.2 0 (by simp) (by simp),by simpa using h.1,fun i h1 h2=>by have:=h.2 (i+1) (by simpa using h1) (by simpa using h2);simpa using this⟩
theorem aHs {w:World} {v:AV} {t:List AV} {a:bY} {s:List bY} (h:v.id=a.id∧v.queue=a.queue∧aO w v.ao v.len a.asks∧v.len≤v.cap) (h':jH w t s):jH w (v::t) (a::s):=
 ⟨by simp [h'.1],fun i h1 h2=>by
  cases i with
  | zero=>exact h
  | succ i=>exact h'.2 i (by simpa using h1) (by simpa using h2)⟩
theorem uF {w:World} (f:Int→Bool):∀(hs:List AV) (l:List bY),jH w hs l→jH w (hs.filter (fun v=>f v.id)) (l.filter (fun a=>f a.id))
 | [],[],_=>aHt w
 | [],a::s,h=>absurd h.1 (by simp)
 | v::t,[],h=>absurd h.1 (by simp)
 | v::t,a::s,h=>by
  obtain ⟨h1,h2⟩:=aGP h
  have ih:=uF f t s h2
  cases hf:f a.id with
  | true=>rw [List.filter_cons_of_pos (by simpa [h1.1] using hf),List.filter_cons_of_pos (by simpa using hf)];exact aHs h1 ih
  | false=>rw [List.filter_cons_of_neg (by simp [h1.1,hf]),List.filter_cons_of_neg (by simp [hf])];exact ih
theorem kX.filter {B:Nat} {w:World} {hs:List AV} {l:List bY} (h:kX B w hs l) (f:Int→Bool):kX B w (hs.filter (fun v=>f v.id)) (l.filter (fun a=>f a.id)):=
 ⟨uF f hs l h.heads,fun v hv=>h.own v (List.mem_filter.1 hv).1,h.apart.filter _⟩
structure dR (B:Nat) (w:World) (x:Sls) (s:St) (hs:List AV):Prop where
 q:vD B w x.qa x.ql s.qs
 p:p9 B w x.aa x.al hs
 k:kX B w hs s.apps
 m:uS B w x.ma x.ml s.ms
 c:qA B w x.ca x.cl s.cs
 cap:aLb x
 rm:RmS B w.heap.size w x hs
theorem dR.below {B:Nat} {w w':World} {x:Sls} {s:St} {hs:List AV} (h:dR B w x s hs) (hb:Below w.heap.size w w'):dR B w' x s hs:=⟨h.q.below hb,h.p.below hb,h.k.below hb,h.m.below hb,h.c.below hb,h.cap,(h.rm.below hb).mono (yJ _) hb.size⟩
theorem dR.base {B B':Nat} {w:World} {x:Sls} {s:St} {hs:List AV} (h:dR B w x s hs) (hb:B'≤B):dR B' w x s hs:=⟨h.q.base hb,h.p.base hb,h.k.base hb,h.m.base hb,h.c.base hb,h.cap,h.rm.mono hb (yJ _)⟩
theorem dR.ans {B:Nat} {w:World} {x:Sls} {s:St} {hs:List AV} (h:dR B w x s hs):p8 B w.heap.size w x s hs:=aDd h.q h.p h.k h.m h.c h.cap h.rm
theorem p8.has {B E:Nat} {w:World} {x:Sls} {s:St} {hs:List AV} (h:p8 B E w x s hs) (hE:E≤w.heap.size):dR B w x s hs:=
 ⟨⟨h.row.1,h.q.mono (yJ _) hE⟩,⟨h.av,h.a.mono (yJ _) hE⟩,⟨h.heads,fun v hv=>(h.asks v hv).mono (yJ _) hE,h.apart⟩,⟨h.row.2.2.1,h.m.mono (yJ _) hE⟩,⟨h.row.2.2.2,h.c.mono (yJ _) hE⟩,h.cap,h.rm.mono (yJ _) hE⟩
theorem aHB:(Tryz.prog.info? 34).map (·.size)=some 8:=by kernel_rfl
theorem vT {w:World} {b:Nat} {arr:Array Value} (h:Blk w b arr 34) (hs:arr.size=8):(Instr.loadAt 34 (.pointer (some ⟨b,0,none⟩))).run Tryz.prog w=.ok (.agg arr) w:=by
 simp only [Instr.loadAt,Instr.sureAddr,Sem.run_bind,Sem.run_pure,Result.andThen]
 exact run_loadVar_row w b 34 34 arr (0,0) _ h Tryz.underlying34 rfl (by rw [aHB,hs])
theorem qC {w:World} {b:Nat} {old arr:Array Value} (h:Blk w b old 34) (ho:old.size=8) (hs:arr.size=8) (h1:arr.all (·.oneCell')=true):(Instr.storeAt 34 (.pointer (some ⟨b,0,none⟩)) (.agg arr)).run Tryz.prog w=.ok () (w.setRow b arr):=by
 simp only [Instr.storeAt,Instr.sureAddr,Sem.run_bind,Sem.run_pure,Result.andThen]
 exact run_storeVar_row w b 34 34 old arr h (by rw [aHB,hs]) (by rw [ho,hs]) h1
theorem aL3 (x:Sls) (s:St):(svc x s).all (·.oneCell')=true:=by kernel_rfl
theorem jG {w:World} {b:Nat} {old:Array Value} {t:TypeId} (h:Blk w b old t) (arr:Array Value):Blk (w.setRow b arr) b arr t:=setRow_heap w b old arr t (0,0) h
theorem kD {w:World} {b:Nat} {old:Array Value} {t:TypeId} (h:Blk w b old t) (arr:Array Value) (hs:arr.size=old.size):Mks (fun k=>k=b) w (w.setRow b arr):=by
 refine ⟨rfl,rfl,rfl,by rw [setRow_size];exact yJ _,fun k _ hk=>setRow_other w b k arr hk,fun t' g N hc=>?_⟩
 by_cases e:g=b
 ·subst e
  obtain ⟨c,h1,h2⟩:=hc
  rw [h] at h1
  cases h1
  exact ⟨arr,jG h arr,by omega⟩
 ·exact hc.of_block (setRow_other w b g arr e)
theorem eY {B:Nat} {S:Nat→Prop} {w w':World} {t t':TypeId} {sz n:Nat} {ao:Option Addr} (h:dU B w.heap.size w t sz ao n) (hm:Mks S w w') (hS:∀k,S k→∃N,Cel w t' k N) (ht:t'≠t):(∀k,inR ao n k→¬S k)∧dU B w'.heap.size w' t sz ao n:=by
 refine ⟨fun k hk e=>?_,(h.mks hm).mono (yJ _) hm.size⟩
 obtain ⟨_,_,N',h2⟩:=h.lies k hk
 obtain ⟨N,h3⟩:=hS k e
 exact ht (h3.type h2)
section
variable {B:Nat} {S:Nat→Prop} {w w':World}
theorem vD.mkc {n:Nat} {ao:Option Addr} {l:List Q} (h:vD B w ao n l) (hm:Mks S w w') (hS:∀k,S k→∃N,Cel w 74 k N):vD B w' ao n l:=
 ⟨h.1.mks hm (eY h.2 hm hS (by decide)).1,(eY h.2 hm hS (by decide)).2⟩
theorem uS.mkc {n:Nat} {ao:Option Addr} {l:List Mac} (h:uS B w ao n l) (hm:Mks S w w') (hS:∀k,S k→∃N,Cel w 74 k N):uS B w' ao n l:=
 ⟨h.1.mks hm (eY h.2 hm hS (by decide)).1,(eY h.2 hm hS (by decide)).2⟩
theorem qA.mkc {n:Nat} {ao:Option Addr} {l:List Con} (h:qA B w ao n l) (hm:Mks S w w') (hS:∀k,S k→∃N,Cel w 74 k N):qA B w' ao n l:=
 ⟨h.1.mks hm (eY h.2 hm hS (by decide)).1,(eY h.2 hm hS (by decide)).2⟩
theorem kX.mkc {hs:List AV} {l:List bY} (h:kX B w hs l) (hm:Mks S w w') (hS:∀k,S k→∃N,Cel w 74 k N):kX B w' hs l:=
 ⟨⟨h.heads.1,fun i h1 h2=>let ⟨a,b',c,d⟩:=h.heads.2 i h1 h2;⟨a,b',c.mks hm (eY (h.own _ (yM h1)) hm hS (by decide)).1,d⟩⟩,fun v hv=>(eY (h.own v hv) hm hS (by decide)).2,h.apart⟩
end
theorem dU.le {B E:Nat} {w:World} {t:TypeId} {sz n m:Nat} {ao:Option Addr} (h:dU B E w t sz ao n) (hm:m≤n):dU B E w t sz ao m:=by
 rcases h with h | ⟨g,M,h1,h2,h3,h4,h5⟩
 ·exact .inl (by omega)
 ·exact .inr ⟨g,M,h1,h2,h3,h4,by omega⟩
theorem dR.add {B g cap:Nat} {w w':World} {x:Sls} {s:St} {hs:List AV} (h:dR B w x s hs) (hB:B≤w.heap.size) (app nx:Int) (qu:List UInt8)
  (ha:aLY B w 74 3 x.aa (x.al+1) (dB hs++aDm ⟨app,qu,none,0,0⟩) g cap w') :
  dR B w' ⟨x.qa,x.ql,x.qc,some ⟨g,0,none⟩,x.al+1,cap,x.ma,x.ml,x.mc,x.ca,x.cl,x.cc⟩ ⟨s.qs,s.clock,s.epoch,nx,s.serial,s.apps++[⟨app,qu,[]⟩],s.ms,s.cs⟩ (hs++[⟨app,qu,none,0,0⟩]):=by
 have hS:∀k,(∃N,Cel w 74 k N∧B≤k)→∃N,Cel w 74 k N:=fun k hk=>let ⟨N,a,_⟩:=hk;⟨N,a⟩
 have hal:x.al=hs.length:=h.p.1.1
 have hrm:=(h.rm.mks ha.mks).mono (yJ B) ha.mks.size
 have hk:=h.k.mkc ha.mks hS
 refine ⟨h.q.mkc ha.mks hS,⟨?_,ha.own.le ha.cap⟩,?_,h.m.mkc ha.mks hS,h.c.mkc ha.mks hS,⟨h.cap.q,ha.cap,h.cap.m,h.cap.c⟩,⟨hrm.1,ha.own,hrm.2.2.1,hrm.2.2.2.1,fun v hv=>?_⟩⟩
 ·rcases ha.own with e | ⟨g',M,e,_,_,hc,hM⟩
  ·have:=ha.cap;omega
  ·cases e
   have hl:(dB (hs++[⟨app,qu,none,0,0⟩])).length≤M*3:=by
    rw [iJ,List.length_append]
    exact Nat.mul_le_mul_right _ (by have:=ha.cap;simp;omega)
   have:=(aA7 hc (cs:=dB (hs++[⟨app,qu,none,0,0⟩])) (by rw [aAQ];exact ha.cells) hl).rowP
   rw [List.length_append] at this
   rw [hal]
   exact this
 ·exact hk.snoc (yH _ _) (Nat.le_trans hB ha.mks.size) app qu none 0 [] (yJ _) ⟨rfl,.inl rfl⟩ (.inl rfl)
 ·rcases List.mem_append.1 hv with hv | hv
  ·exact hrm.2.2.2.2 v hv
  ·obtain rfl:=List.mem_singleton.1 hv
   exact .inl rfl
theorem p8.keep {B E:Nat} {w w':World} {x:Sls} {s:St} {hs:List AV} (h:p8 B E w x s hs) (hk:∀k,B≤k→k<E→w'.heap[k]? = w.heap[k]?):p8 B E w' x s hs:=by
 have key:∀{t:TypeId} {sz n:Nat} {ao:Option Addr},dU B E w t sz ao n→(∀k,inR ao n k→w'.heap[k]? = w.heap[k]?)∧dU B E w' t sz ao n:=fun ho=>by
  refine ⟨fun k hi=>?_,?_⟩
  ·obtain ⟨h1,h2,_⟩:=ho.lies k hi
   exact hk k h1 h2
  ·rcases ho with e | ⟨g,M,e,h1,h2,h3,h4⟩
   ·exact .inl e
   ·exact .inr ⟨g,M,e,h1,h2,h3.of_block (hk g h1 h2),h4⟩
 have hh:jH w' hs s.apps:=⟨h.heads.1,fun i h1 h2=>by
  obtain ⟨a,b,c,d⟩:=h.heads.2 i h1 h2
  exact ⟨a,b,c.kept (key (h.asks _ (yM h1))).1,d⟩⟩
 have hav:=h.av.kept (key h.a).1
 exact ⟨⟨h.row.1.kept (key h.q).1,aI0 hav hh,h.row.2.2.1.kept (key h.m).1,h.row.2.2.2.kept (key h.c).1⟩,(key h.q).2,(key h.a).2,(key h.m).2,(key h.c).2,hav,hh,fun v hv=>(key (h.asks v hv)).2,h.apart,h.cap,h.rm.map (fun o=>(key o).2)⟩
structure aBj (B E:Nat) (w:World) (g:Nat) (y:Sls) (s:St) (hs:List AV) (go:Option Addr) (gn:Nat) (gone:List Con):Prop where
 box:Blk w g (svc y s) 34
 a:p8 B E w y s hs
 c:bC w go gn gone
 co:dU B E w 38 5 go gn
 ap:∀k,inR go gn k→¬inR y.ca y.cl k
 ge:E≤g
theorem aBj.below {B E:Nat} {w w':World} {g:Nat} {y:Sls} {s:St} {hs:List AV} {go:Option Addr} {gn:Nat} {gone:List Con} (h:aBj B E w g y s hs go gn gone) (hb:Below w.heap.size w w'):aBj B E w' g y s hs go gn gone:=
 ⟨h.box.below hb,h.a.below hb,h.c.below hb,h.co.below hb,h.ap,h.ge⟩
theorem aBj.al {B E:Nat} {w:World} {g:Nat} {y:Sls} {s:St} {hs:List AV} {go:Option Addr} {gn:Nat} {gone:List Con} (h:aBj B E w g y s hs go gn gone) (o:Obj):aBj B E (w.alloc o) g y s hs go gn gone:=h.below (yA (yH _ _) o)
theorem aBj.keep {B E:Nat} {w w':World} {g:Nat} {y:Sls} {s:St} {hs:List AV} {go:Option Addr} {gn:Nat} {gone:List Con} (h:aBj B E w g y s hs go gn gone) (hk:∀k,B≤k→k<E→w'.heap[k]? = w.heap[k]?) (hg:w'.heap[g]? = w.heap[g]?):aBj B E w' g y s hs go gn gone:=by
 refine ⟨hg.trans h.box,h.a.keep hk,h.c.kept (fun k hi=>?_),?_,h.ap,h.ge⟩
 ·obtain ⟨h1,h2,_⟩:=h.co.lies k hi
  exact hk k h1 h2
 ·rcases h.co with e | ⟨b,M,e,h1,h2,h3,h4⟩
  ·exact .inl e
  ·exact .inr ⟨b,M,e,h1,h2,h3.of_block (hk b h1 h2),h4⟩
theorem aBj.read {B E:Nat} {w:World} {g:Nat} {y:Sls} {s:St} {hs:List AV} {go:Option Addr} {gn:Nat} {gone:List Con} (h:aBj B E w g y s hs go gn gone):w.cell? ⟨g,0,none⟩=some (.slice y.qa y.ql y.qc)∧w.cell? ⟨g,1,none⟩=some (.int .i64 s.clock)∧w.cell? ⟨g,2,none⟩=some (.int .i64 s.epoch)∧w.cell? ⟨g,3,none⟩=some (.int .i64 s.next)∧w.cell? ⟨g,4,none⟩=some (.int .i64 s.serial)∧w.cell? ⟨g,5,none⟩=some (.slice y.aa y.al y.ac)∧w.cell? ⟨g,6,none⟩=some (.slice y.ma y.ml y.mc)∧w.cell? ⟨g,7,none⟩=some (.slice y.ca y.cl y.cc):=
 ⟨h.box.at 0,h.box.at 1,h.box.at 2,h.box.at 3,h.box.at 4,h.box.at 5,h.box.at 6,h.box.at 7⟩
structure aLV (B E:Nat) (w:World) (x:Sls) (hs:List AV):Prop where
 q:dU B E w 100 4 x.qa x.ql
 a:dU B E w 74 3 x.aa x.al
 m:dU B E w 104 4 x.ma x.ml
 c:dU B E w 38 5 x.ca x.cl
 k:∀v ∈ hs,dU B E w 77 5 v.ao v.len
theorem p8.own {B E:Nat} {w:World} {x:Sls} {s:St} {hs:List AV} (h:p8 B E w x s hs):aLV B E w x hs:=⟨h.q,h.a,h.m,h.c,h.asks⟩
theorem aLV.mks {B E:Nat} {w w':World} {x:Sls} {hs:List AV} {S:Nat→Prop} (h:aLV B E w x hs) (hm:Mks S w w'):aLV B E w' x hs:=⟨h.q.mks hm,h.a.mks hm,h.m.mks hm,h.c.mks hm,fun v hv=>(h.k v hv).mks hm⟩
structure aL1 (B E:Nat) (w:World) (g:Nat) (y:Sls) (s:St) (hs:List AV) (go:Option Addr) (gn:Nat):Prop where
 box:Blk w g (svc y s) 34
 m:SMk w y hs
 own:aLV B E w y hs
 co:dU B E w 38 5 go gn
 ap:∀k,inR go gn k→¬inR y.ca y.cl k
 ge:E≤g
theorem aL1.read {B E:Nat} {w:World} {g:Nat} {y:Sls} {s:St} {hs:List AV} {go:Option Addr} {gn:Nat} (h:aL1 B E w g y s hs go gn):w.cell? ⟨g,0,none⟩=some (.slice y.qa y.ql y.qc):=h.box.at 0
theorem aKQ {B E:Nat} {w:World} {g:Nat} {y:Sls} {s:St} {hs:List AV} {go:Option Addr} {gn:Nat} {gone:List Con} (h:aBj B E w g y s hs go gn gone) (hl:aIg y hs) :
  Calls Tryz.prog 11 #[sv y s,.int .i64 1] w fun e w'=>e=.returned (.int .i64 (aDA y hs:Int))∧aL1 B E w' g y s hs go gn∧Mks (inS y hs) w w':=by
 refine (aBO h.a (by have:=h.box.lt;have:=h.ge;omega) hl).mono ?_
 rintro e w' ⟨rfl,hm,hk⟩
 exact ⟨rfl,⟨hk.blk h.box (fun hi=>by have:=h.a.ins g hi;have:=h.ge;omega),hm,h.a.own.mks hk,h.co.mks hk,h.ap,h.ge⟩,hk⟩
structure aIj (w:World) (g:Nat) (y:Sls) (s:St) (hs:List AV) (go:Option Addr) (gn:Nat):Prop where
 box:Blk w g (svc y s) 34
 m:SMk w y hs
 c:bC w go gn (kE (aDA y hs) gn)
theorem aIj.below {w w':World} {g:Nat} {y:Sls} {s:St} {hs:List AV} {go:Option Addr} {gn:Nat} (h:aIj w g y s hs go gn) (hb:Below w.heap.size w w'):aIj w' g y s hs go gn:=⟨h.box.below hb,h.m.below hb,h.c.below hb⟩
theorem aIj.al {w:World} {g:Nat} {y:Sls} {s:St} {hs:List AV} {go:Option Addr} {gn:Nat} (h:aIj w g y s hs go gn) (o:Obj):aIj (w.alloc o) g y s hs go gn:=h.below (yA (yH _ _) o)
theorem aIj.read {w:World} {g:Nat} {y:Sls} {s:St} {hs:List AV} {go:Option Addr} {gn:Nat} (h:aIj w g y s hs go gn):w.cell? ⟨g,0,none⟩=some (.slice y.qa y.ql y.qc)∧w.cell? ⟨g,1,none⟩=some (.int .i64 s.clock)∧w.cell? ⟨g,2,none⟩=some (.int .i64 s.epoch)∧w.cell? ⟨g,3,none⟩=some (.int .i64 s.next)∧w.cell? ⟨g,4,none⟩=some (.int .i64 s.serial)∧w.cell? ⟨g,5,none⟩=some (.slice y.aa y.al y.ac)∧w.cell? ⟨g,6,none⟩=some (.slice y.ma y.ml y.mc)∧w.cell? ⟨g,7,none⟩=some (.slice y.ca y.cl y.cc):=
 ⟨h.box.at 0,h.box.at 1,h.box.at 2,h.box.at 3,h.box.at 4,h.box.at 5,h.box.at 6,h.box.at 7⟩
theorem aIg.end {y:Sls} {hs:List AV} (h:aIg y hs):0<aDA y hs∧aDA y hs≤100000000000000:=by
 have h1:=h.e
 have h2:=h.m
 have h3:=h.c
 unfold aDA
 omega
theorem aHa {B E:Nat} {w:World} {g:Nat} {y:Sls} {s:St} {hs:List AV} {go:Option Addr} {gn gc:Nat} (h:aL1 B E w g y s hs go gn) (hl:aIg y hs) (hn:gn≤1048576) :
  Calls Tryz.prog 16 #[.slice go gn gc,.int .i64 (aDA y hs:Int)] w fun e w'=>e=.returned (.int .i64 ((aDA y hs:Int)+5*(gn:Int)))∧aIj w' g y s hs go gn∧Mks (inR go gn) w w':=by
 have he:=hl.end
 refine (qU (c:=gc) (aDA y hs) h.co hn he.1 (by omega)).mono ?_
 rintro e w' ⟨rfl,hr,hm⟩
 have hap:∀{t:TypeId} {sz n:Nat} {ao:Option Addr},dU B E w t sz ao n→t≠38→∀k,inR ao n k→¬inR go gn k:=fun ho ht=>ho.apart h.co ht
 exact ⟨rfl,⟨hm.blk h.box (fun hi=>by have:=(h.co.lies g hi).2.1;have:=h.ge;omega),⟨h.m.q.mks hm (hap h.own.q (by decide)),h.m.a.mks hm (hap h.own.a (by decide)),h.m.k.mks hm _ _ (fun v hv=>hap (h.own.k v hv) (by decide)),h.m.m.mks hm (hap h.own.m (by decide)),h.m.c.mks hm (fun k h1 h2=>h.ap k h2 h1),h.m.z⟩,hr⟩,hm⟩
theorem aCt {w:World} {g:Nat} {y:Sls} {s:St} {hs:List AV} {go:Option Addr} {gn gc:Nat} (h:aIj w g y s hs go gn) (hl:aIg y hs) (hn:gn≤1048576) :
  Calls Tryz.prog 17 #[.slice go gn gc,.int .i64 (aDA y hs:Int)] w fun e w'=>e=.returned (.int .i64 ((aDA y hs:Int)+5*(gn:Int)))∧Below w.heap.size w w':=
 rD go gn gc (aDA y hs) w h.c hn hl.end.1 (by have:=hl.end;omega)
theorem aBj.off {B E B' E':Nat} {w w':World} {g:Nat} {y:Sls} {s:St} {hs:List AV} {go:Option Addr} {gn:Nat} {gone:List Con} {S:Nat→Prop} (h:aBj B E w g y s hs go gn gone) (hm:Mks S w w') (hS:∀k,S k→B'≤k∧k<E') (h1:g<B'∨E'≤B) (h2:g<B'∨E'≤g):aBj B E w' g y s hs go gn gone:=
 h.keep (fun k hk1 hk2=>hm.block k (by have:=h.box.lt;have:=h.ge;omega) (fun hs=>by have:=hS k hs;have:=h.ge;omega)) (hm.block g h.box.lt (fun hs=>by have:=hS g hs;omega))
theorem aBj.offd {B E B' E':Nat} {w w':World} {g:Nat} {y:Sls} {s:St} {hs:List AV} {go:Option Addr} {gn:Nat} {gone:List Con} (h:aBj B E w g y s hs go gn gone) (hm:Mkd B' E' w w') (h1:g<B'∨E'≤B) (h2:g<B'∨E'≤g):aBj B E w' g y s hs go gn gone:=
 h.keep (fun k hk1 hk2=>hm.block k (by have:=h.box.lt;have:=h.ge;omega) (by have:=h.ge;omega)) (hm.block g h.box.lt h2)
theorem jD.off {w wx wy:World} {x:Sls} {s:St} {B:Nat} {S:Nat→Prop} (h:jD w x s wx) (hm:Mks S wx wy) (hS:∀k,S k→B≤k) (h1:w.heap.size<B) (h2:B≤wx.heap.size):jD w x s wy:=h.low (hm.below hS h2) h1
theorem aFq {w:World} {g1 g2 g3 g4:Nat} {x:Sls} {s:St} (h:iU w g1 g2 g3 g4 x.ql x.al x.ml x.cl s) (hl:aLa x s):∃hs,fA w (some ⟨g2,0,none⟩) x.al hs∧jH w hs s.apps∧aI8 (aDo g1 g2 g3 g4 x.ql x.al x.ml x.cl) hs:=by
 obtain ⟨hs,h1,h2⟩:=(h.2.1.row hl.2.1).heads
 refine ⟨hs,h1,h2,⟨(fun e=>by cases e),(fun e=>by cases e),(fun e=>by cases e),fun v hv hno=>?_⟩⟩
 obtain ⟨i,hi,rfl⟩:=List.getElem_of_mem hv
 have hi':i<s.apps.length:=by rw [←h2.1];exact hi
 obtain ⟨arr,a1,a2,a3⟩:=h.2.1
 obtain ⟨_,_,ao,len,cap,e,ho⟩:=a3 i hi' (by have:=hl.2.1;omega)
 obtain ⟨b,rfl,_,_⟩:=ho.2.2.2
 rcases h1.2 with z | ⟨b',off',z,hh⟩
 ·have:=h1.1;omega
 ·cases z
  have hc:=(hh i hi).2.2
  simp [World.cell?,a1] at hc
  rw [e] at hc
  simp at hc
  rw [hno] at hc
  exact absurd hc.1 (by simp)
structure StB (w:World) (b:Nat) (y:Sls) (s:St):Prop where
 box:Blk w b (svc y s) 34
 row:jC w y s
 cap:y.ql≤y.qc
theorem StB.below {w w':World} {b:Nat} {y:Sls} {s:St} (h:StB w b y s) (hb:Below w.heap.size w w'):StB w' b y s:=⟨h.box.below hb,h.row.below hb,h.cap⟩
theorem StB.new {B:Nat} {w:World} {y:Sls} {s:St} {hs:List AV} (h:dR B w y s hs):StB (w.alloc (.cells (svc y s) 34)) w.heap.size y s:=⟨yD _ _ _,h.ans.row.below (yA (yH _ w) _),h.cap.q⟩
theorem StB.read {w:World} {b:Nat} {y:Sls} {s:St} (h:StB w b y s):w.cell? ⟨b,0,none⟩=some (.slice y.qa y.ql y.qc)∧w.cell? ⟨b,1,none⟩=some (.int .i64 s.clock)∧w.cell? ⟨b,2,none⟩=some (.int .i64 s.epoch)∧w.cell? ⟨b,3,none⟩=some (.int .i64 s.next)∧w.cell? ⟨b,4,none⟩=some (.int .i64 s.serial)∧w.cell? ⟨b,5,none⟩=some (.slice y.aa y.al y.ac)∧w.cell? ⟨b,6,none⟩=some (.slice y.ma y.ml y.mc)∧w.cell? ⟨b,7,none⟩=some (.slice y.ca y.cl y.cc):=
 ⟨h.box.at 0,h.box.at 1,h.box.at 2,h.box.at 3,h.box.at 4,h.box.at 5,h.box.at 6,h.box.at 7⟩
end
end Go.Proofs.YtdhibeclkdepiaaGreat
