/-
  Texts in one: OwnY, CpRp, RdM.
-/
import Derived.Test.YtjkfappkpopbdaaGreatSackL
import Derived.Test.YtjkfappkpopbdaaGreatSackM
set_option maxRecDepth 100000
set_option maxHeartbeats 16000000
set_option linter.unusedVariables false
set_option linter.unusedSimpArgs false
namespace Go.Proofs.YtjkfappkpopbdaaGreat
section
open Go.RowKit
abbrev ycell (q:RH):List Value:=[.int .i64 q.code,.int .i64 q.app,.slice q.ao q.len q.cap,.slice q.bo q.bl q.bc]
def ycells:List RH→List Value
 | []=>[]
 | q::t=>ycell q++ycells t
theorem ycells_len:∀l:List RH,(ycells l).length=l.length*4
 | []=>rfl
 | q::t=>by rw [ycells,List.length_append,ycells_len t];simp;omega
theorem ycells_at:∀(l:List RH) (i:Nat) (h:i<l.length),(ycells l)[i*4]? = some (.int .i64 l[i].code)∧(ycells l)[i*4+1]? = some (.int .i64 l[i].app)∧(ycells l)[i*4+2]? = some (.slice l[i].ao l[i].len l[i].cap)∧(ycells l)[i*4+3]? = some (.slice l[i].bo l[i].bl l[i].bc)
 | q::t,0,_=>⟨rfl,rfl,rfl,rfl⟩
 | q::t,i+1,h=>by
  have e:=ycells_at t i (by simpa using h)
  have k:∀j,(ycells (q::t))[(i+1)*4+j]? = (ycells t)[i*4+j]?:=fun j=>by
   rw [ycells,show (i+1)*4+j=(ycell q).length+(i*4+j) by simp;omega,List.getElem?_append_right (by omega)]
   congr 1
   omega
  have k0:=k 0
  simp only [Nat.add_zero] at k0
  rw [k0,k 1,k 2,k 3]
  simpa using e
theorem ycells_row {w:World} {b off len:Nat} {l:List RH} (h:RHRow w (some ⟨b,off,none⟩) len l):∀j u,(ycells l)[j]? = some u→w.cell? ⟨b,off+j,none⟩=some u:=fun j u hj=>by
 have hjl:j<l.length*4:=by rw [←ycells_len];exact (List.getElem?_eq_some_iff.1 hj).1
 obtain ⟨h1,h2⟩:=h
 rcases h2 with h2 | ⟨b',off',e,h4⟩
 ·omega
 ·cases e
  have hi:j / 4<l.length:=by omega
  obtain ⟨a0,a1,a2,a3⟩:=ycells_at l (j / 4) hi
  obtain ⟨c0,c1,c2,c3⟩:=h4 (j / 4) hi
  rcases (show j % 4=0∨j % 4=1∨j % 4=2∨j % 4=3 by omega) with e | e | e | e
  ·rw [show j=j / 4*4 by omega] at hj ⊢;rw [a0] at hj;cases hj;exact c0
  ·rw [show j=j / 4*4+1 by omega] at hj ⊢;rw [a1] at hj;cases hj;rw [←Nat.add_assoc];exact c1
  ·rw [show j=j / 4*4+2 by omega] at hj ⊢;rw [a2] at hj;cases hj;rw [←Nat.add_assoc];exact c2
  ·rw [show j=j / 4*4+3 by omega] at hj ⊢;rw [a3] at hj;cases hj;rw [←Nat.add_assoc];exact c3
theorem ycells_one:∀(l:List RH),∀u ∈ ycells l,u.oneCell'=true
 | [],u,h=>by simp [ycells] at h
 | q::t,u,h=>by
  rw [ycells,List.mem_append] at h
  rcases h with h | h
  ·simp at h
   rcases h with rfl | rfl | rfl | rfl<;>rfl
  ·exact ycells_one t u h
def YOwn (B:Nat) (w:World) (v:Value) (l:List RH):Prop:=w.ownsRow B 91 4 v l.length (ycells l)
theorem yown_nil (B:Nat) (w:World):YOwn B w (.slice none 0 0) []:=World.ownsRow_nil _ _ _ _
theorem yown_empty (w:World):w.alloc (.cells #[] 91) |>.ownsRow w.heap.size 91 4 (.slice (some ⟨w.heap.size,0,none⟩) 0 0) 0 []:=
 ⟨rfl,.inr ⟨w.heap.size,0,#[],rfl,yJ _,by show (w.heap.push _)[w.heap.size]? = _;simp,yJ _,by unfold maxLen;omega,rfl,rfl⟩⟩
theorem yown_row {w:World} {B:Nat} {v:Value} {l:List RH} (h:YOwn B w v l):∃ao cap,v=.slice ao l.length cap∧RHRow w ao l.length l∧l.length≤cap∧(l≠[]→∃g cur,ao=some ⟨g,0,none⟩∧B≤g∧w.heap[g]? = some (.cells cur 91 (0,0))∧cur.size=cap*4):=by
 rcases h.2 with ⟨rfl,h0⟩ | ⟨g,cap,cur,rfl,h1,h2,h3,h4,h5,h6⟩
 ·exact ⟨none,0,by rw [h0],⟨rfl,.inl h0⟩,by omega,fun hn=>absurd (List.length_eq_zero_iff.1 h0) hn⟩
 ·refine ⟨some ⟨g,0,none⟩,cap,rfl,⟨rfl,.inr ⟨g,0,rfl,fun i hi=>?_⟩⟩,h3,fun _=>⟨g,cur,rfl,h1,h2,h5⟩⟩
  obtain ⟨a,b,c,d⟩:=ycells_at l i hi
  have k:∀j (v:Value),j<l.length*4→(ycells l)[j]? = some v→w.cell? ⟨g,j,none⟩=some v:=fun j v hj hv=>by
   rw [←h6,List.getElem?_take_of_lt hj] at hv
   simp [World.cell?,h2]
   simpa using hv
  unfold RHAt
  rw [Nat.zero_add]
  exact ⟨k _ _ (by omega) a,k _ _ (by omega) b,k _ _ (by omega) c,k _ _ (by omega) d⟩
theorem Tryz.infoReply:(Tryz.prog.info? 91).map (fun i=>(i.zero,i.size,i.bytes))=some (some (.agg #[.int .i64 0,.int .i64 0,.slice none 0 0,.slice none 0 0]),4,64):=by kernel_rfl
theorem cloneReply_any (ao:Option Addr) (len cap:Nat) (l:List RH) (w:World) (h:RHRow w ao len l) (hl:len≤1048576) :
  Calls Tryz.prog 92 #[.slice ao len cap] w fun e w'=>∃v,e=.returned v∧YOwn w.heap.size w' v l∧Below w.heap.size w w':=by
 obtain ⟨i0,hi,hz0,hz1,hz2⟩:=info_parts Tryz.infoReply
 cases ao with
 | none=>
  have hn:len=0:=by rcases h.2 with h | ⟨b,off,e,_⟩;exact h;cases e
  subst hn
  have hl0:l=[]:=List.length_eq_zero_iff.1 h.1.symm
  subst hl0
  have hnl:∀wx,(binOp .eql 38 (.slice none 0 cap) (.slice none 0 0)).run Tryz.prog wx=.ok (.bool true) wx:=fun wx=>Lib.run_eql_slice_nil wx _ _ none 0 cap 0 0 Tryz.underlying38
  clear h hl
  go_enter Tryz.func92,Tryz.ntmps92
  go_wp2
  go_ret
  exact ⟨_,rfl,yown_nil _ _,yH _ _⟩
 | some ad=>
  have hnew:∀j u,(ycells l)[j]? = some u→(w.alloc (.cells #[] 91)).cell? (ad.add j)=some u:=fun j u hj=>by
   have hjl:j<l.length*4:=by rw [←ycells_len];exact (List.getElem?_eq_some_iff.1 hj).1
   rcases h.2 with h0 | ⟨b,off,e,_⟩
   ·have:=h.1;omega
   ·cases e
    have:=ycells_row (h.below (yA (yH _ w) (.cells #[] 91))) j u hj
    rw [Lib.add_plain]
    exact this
  have HNW:=hide hnew
  have HLN:=hide h.1
  have hown:=yown_empty w
  have hll:(ycells l).length=len*4:=by rw [ycells_len,h.1]
  have hone:=ycells_one l
  have hnl:∀wx,(binOp .eql 38 (.slice (some ad) len cap) (.slice none 0 0)).run Tryz.prog wx=.ok (.bool false) wx:=fun wx=>Lib.run_eql_slice_nil wx _ _ (some ad) len cap 0 0 Tryz.underlying38
  clear h hnew
  go_enter Tryz.func92,Tryz.ntmps92
  go_wp2_with (at_builtin;refine wpList_append_own _ rfl _ _ 38 rfl w.heap.size 91 i0 (.agg #[.int .i64 0,.int .i64 0,.slice none 0 0,.slice none 0 0]) 4 64 Tryz.underlying38 hi hz0 hz1 hz2 rfl (by decide) _ _ _ rfl hown ad len cap (ycells l) rfl hll (uH HNW) hone ?c3 ?c4 ?c5 ?_)
  case c3=>unfold maxLen;omega
  case c4=>omega
  case c5=>simp
  intro v' w3 hown' hgrow _
  have HO:=hide (show YOwn w.heap.size w3 v' l by
   unfold YOwn
   rw [←uH HLN]
   simpa using hown')
  have HB:=hide (show Below w.heap.size w w3 from (yA (yH _ w) (.cells #[] 91)).grown hgrow (by simp) (fun k e=>by simp [Value.ownBlock] at e;omega))
  clear hown' hgrow hown hone hll
  go_wp2
  go_ret
  exact ⟨_,rfl,uH HO,uH HB⟩
def YHas (B:Nat) (w:World) (ao:Option Addr) (n cap:Nat) (hs:List RH):Prop:=RHRow w ao n hs∧n≤cap∧(n=0∨∃g,ao=some ⟨g,0,none⟩∧B≤g∧RHBlk w g cap hs)
theorem RHBlk.has {B w g M n} {l:List RH} (h:RHBlk w g M l) (hB:B≤g) (hn:n=l.length):YHas B w (some ⟨g,0,none⟩) n M l:=
 ⟨⟨hn,.inr ⟨g,0,rfl,fun i hi=>by rw [Nat.zero_add];exact h.2.2 i hi⟩⟩,by have:=h.2.1;omega,.inr ⟨g,rfl,hB,h⟩⟩
theorem yown_has {B:Nat} {w:World} {v:Value} {hs:List RH} (h:YOwn B w v hs):∃ao cap,v=.slice ao hs.length cap∧YHas B w ao hs.length cap hs:=by
 obtain ⟨ao,cap,rfl,hr,hc,hg⟩:=yown_row h
 refine ⟨ao,cap,rfl,hr,hc,?_⟩
 by_cases e:hs=[]
 ·subst e;exact .inl rfl
 ·obtain ⟨g,cur,rfl,hB,hh,hs'⟩:=hg e
  refine .inr ⟨g,rfl,hB,⟨cur,hh,by omega⟩,hc,fun i hi=>?_⟩
  rcases hr.2 with e2 | ⟨b,off,e2,h4⟩
  ·omega
  ·cases e2
   have:=h4 i hi
   rwa [Nat.zero_add] at this
def NSays (B:Nat) (w:World) (v:RH) (q:Rpl):Prop:=v.code=q.code∧v.app=q.app∧CHas B w v.ao v.len q.cs∧NRow w v.bo v.bl q.kill∧(v.bl=0∨∃k,v.bo=some ⟨k,0,none⟩∧B≤k)
theorem NSays.below {B:Nat} {w w':World} {v:RH} {q:Rpl} (h:NSays B w v q) (hb:Below w.heap.size w w'):NSays B w' v q:=⟨h.1,h.2.1,h.2.2.1.below hb,h.2.2.2.1.below hb,h.2.2.2.2⟩
theorem NRow.scf {w:World} {ao:Option Addr} {len:Nat} {l:List Int} {B g j:Nat} {v:Value} (h:NRow w ao len l) (hf:len=0∨∃k,ao=some ⟨k,0,none⟩∧B≤k) (hg:g<B):NRow (w.setCell ⟨g,j,none⟩ v) ao len l:=by
 rcases hf with e | ⟨k,rfl,hk⟩
 ·exact ⟨h.1,.inl e⟩
 ·exact h.other g j v (fun b off e=>by cases e;omega)
theorem NSays.sc {B:Nat} {w:World} {v:RH} {q:Rpl} (h:NSays B w v q) {g j:Nat} {x:Value} (hg:g<B):NSays B (w.setCell ⟨g,j,none⟩ x) v q:=
 ⟨h.1,h.2.1,h.2.2.1.sc hg,h.2.2.2.1.scf h.2.2.2.2 hg,h.2.2.2.2⟩
theorem NSays.says {B:Nat} {w:World} {v:RH} {q:Rpl} (h:NSays B w v q):RHSays w v q:=⟨h.1,h.2.1,h.2.2.1.1,h.2.2.2.1⟩
theorem RHBlk.two {w:World} {g M i:Nat} {l:List RH} (h:RHBlk w g M l) (hi:i<l.length) (ao:Option Addr) (len cap:Nat):RHBlk (w.setCell ⟨g,i*4+2,none⟩ (.slice ao len cap)) g M (l.set i ⟨l[i].code,l[i].app,ao,len,cap,l[i].bo,l[i].bl,l[i].bc⟩):=by
 refine ⟨h.1.set _ _ _,by simpa using h.2.1,fun j hj=>?_⟩
 have hj':j<l.length:=by simpa using hj
 obtain ⟨a,b,c,d⟩:=h.2.2 j hj'
 by_cases e:i=j
 ·subst e
  simp only [List.getElem_set_self]
  exact ⟨cellKeep a (by omega),cellKeep b (by omega),World.cell?_setCell_same _ ⟨g,i*4+2,none⟩ _ c,cellKeep d (by omega)⟩
 ·rw [List.getElem_set_ne e]
  exact ⟨cellKeep a (by omega),cellKeep b (by omega),cellKeep c (by omega),cellKeep d (by omega)⟩
theorem RHBlk.three {w:World} {g M i:Nat} {l:List RH} (h:RHBlk w g M l) (hi:i<l.length) (bo:Option Addr) (bl bc:Nat):RHBlk (w.setCell ⟨g,i*4+3,none⟩ (.slice bo bl bc)) g M (l.set i ⟨l[i].code,l[i].app,l[i].ao,l[i].len,l[i].cap,bo,bl,bc⟩):=by
 refine ⟨h.1.set _ _ _,by simpa using h.2.1,fun j hj=>?_⟩
 have hj':j<l.length:=by simpa using hj
 obtain ⟨a,b,c,d⟩:=h.2.2 j hj'
 by_cases e:i=j
 ·subst e
  simp only [List.getElem_set_self]
  exact ⟨cellKeep a (by omega),cellKeep b (by omega),cellKeep c (by omega),World.cell?_setCell_same _ ⟨g,i*4+3,none⟩ _ d⟩
 ·rw [List.getElem_set_ne e]
  exact ⟨cellKeep a (by omega),cellKeep b (by omega),cellKeep c (by omega),cellKeep d (by omega)⟩
theorem RHBlk.put3 {w:World} {g M i:Nat} {l:List RH} {c a:Int} {ao bo0:Option Addr} {len cap bl0 bc0:Nat} (h:RHBlk w g M (l.set i ⟨c,a,ao,len,cap,bo0,bl0,bc0⟩)) (hi:i<l.length) (bo:Option Addr) (bl bc:Nat):RHBlk (w.setCell ⟨g,i*4+3,none⟩ (.slice bo bl bc)) g M (l.set i ⟨c,a,ao,len,cap,bo,bl,bc⟩):=by
 have:=h.three (i:=i) (by simpa using hi) bo bl bc
 simpa [List.set_set] using this
theorem iown_has {w:World} {B:Nat} {v:Value} {l:List Int} (h:IOwn B w v l):∃ao cap,v=.slice ao l.length cap∧NRow w ao l.length l∧(l.length=0∨∃k,ao=some ⟨k,0,none⟩∧B≤k):=by
 obtain ⟨ao,cap,e,hr⟩:=iown_row h
 refine ⟨ao,cap,e,hr,?_⟩
 rcases h.2 with ⟨e2,h0⟩ | ⟨g,cap2,cur,e2,h1,_⟩
 ·exact .inl h0
 ·rw [e2] at e;cases e;exact .inr ⟨g,rfl,h1⟩
theorem says_step {B q:Nat} {w:World} {l:List Rpl} {hs hs0:List RH} (v:RH) (hn:∀i (h:i<hs.length) (h':i<l.length),i<q→NSays B w hs[i] l[i]) (ho:∀i (h:i<hs.length) (h':i<hs0.length),q≤i→hs[i]=hs0[i]) (hv:∀h':q<l.length,NSays B w v l[q]) :
  (∀i (h:i<(hs.set q v).length) (h':i<l.length),i<q+1→NSays B w (hs.set q v)[i] l[i])∧(∀i (h:i<(hs.set q v).length) (h':i<hs0.length),q+1≤i→(hs.set q v)[i]=hs0[i]):=by
 refine ⟨fun i h h' hi=>?_,fun i h h' hi=>?_⟩
 ·by_cases e:q=i
  ·subst e;rw [List.getElem_set_self];exact hv h'
  ·rw [List.getElem_set_ne e];exact hn i (by simpa using h) h' (by omega)
 ·rw [List.getElem_set_ne (by omega)];exact ho i (by simpa using h) h' (by omega)
theorem copyOfReplies_any (ao:Option Addr) (len cap:Nat) (l:List Rpl) (w:World) (h:RplRow w ao len l) (hl:len≤1048576) (hk:∀q ∈ l,q.cs.length≤1048576∧q.kill.length≤1048576∧∀c ∈ q.cs,c.node.length≤1048576) :
  Calls Tryz.prog 47 #[.slice ao len cap] w fun e w'=>∃co cd hs,e=.returned (.slice co l.length cd)∧YHas w.heap.size w' co l.length cd hs∧(∀i (h:i<hs.length) (h':i<l.length),NSays w.heap.size w' hs[i] l[i])∧Below w.heap.size w w':=by
 obtain ⟨hs0,hr0,hh0⟩:=h.heads
 have HF:=hide hk
 have CA:=hide (cloneReply_any ao len cap hs0 w hr0 hl)
 have HL:=hide h.1
 have HH:=hide hh0
 clear h hk hr0
 go_enter Tryz.func47,Tryz.ntmps47
 go_wp2_with fail
 refine (uH CA).mono ?_
 rintro e w9 ⟨v,rfl,ho,hb⟩
 obtain ⟨co,cd,rfl,hch⟩:=yown_has ho
 rw [hh0.1] at hch ⊢
 obtain ⟨n4,hn4⟩:∃n,l.length=n:=⟨_,rfl⟩
 rw [hn4] at hch ⊢
 have OC:=hide hch
 have HB9:=hide hb
 have HN4:=hide hn4
 have hl4:n4≤1048576:=by have:=uH HL;omega
 have hzw:w.heap.size≤w9.heap.size:=hb.size
 clear ho hb hch CA hn4 hh0
 go_wp2
 go_loopw [4,5,10] (fun _ _ i wr=>∃(q:Nat),q≤n4∧i=.int .i64 q∧Hid (∃hs,YHas w.heap.size wr co n4 cd hs∧hs.length=l.length∧(∀i (h:i<hs.length) (h':i<l.length),i<q→NSays w9.heap.size wr hs[i] l[i])∧(∀i (h:i<hs.length) (h':i<hs0.length),q≤i→hs[i]=hs0[i]))∧Hid (Below w.heap.size w wr)∧Hid (w9.heap.size≤wr.heap.size)∧Hid (∀g,co=some ⟨g,0,none⟩→n4≠0→g<w9.heap.size)) (fun _ _ i _=>n4 - (intOf i).toNat)
 case atStart=>
  refine ⟨0,Nat.zero_le _,rfl,hide ⟨hs0,uH OC,(uH HH).1,fun i _ _ h=>absurd h (Nat.not_lt_zero _),fun i _ _ _=>rfl⟩,HB9,hide (yJ _),hide (fun g e hz=>?_)⟩
  rcases (uH OC).2.2 with e2 | ⟨g2,e2,_,hb⟩
  ·exact absurd e2 hz
  ·rw [e] at e2;cases e2;exact hb.1.lt
 case round=>
  obtain ⟨q,hq,rfl,HC,HB,HZ,HGL⟩:=hrel
  clear OC HB9
  obtain ⟨hs,hg,hlen,hnew,hold⟩:=uH HC
  by_cases hlt:q<n4
  ·rcases hg.2.2 with e | ⟨g,rfl,hgB,hbk⟩
   ·omega
   have hgw:=uH HGL g rfl (by omega)
   have hjl:q<hs.length:=by have:=hg.1.1;omega
   have hjl2:q<l.length:=by have:=uH HN4;omega
   have hj0:q<hs0.length:=by have:=(uH HH).1;omega
   obtain ⟨c0,c1,c2,c3⟩:=hbk.2.2 q hjl
   have hsay:=((uH HH).2 q hj0 hjl2).below (uH HB)
   rw [←hold q hjl hj0 (yJ _)] at hsay
   have hf:=uH HF l[q] (yM hjl2)
   have HST:=hide (fun (w':World) (ho:RHBlk w' g cd hs) (xo':Option Addr) (xl' xc':Nat)=>ho.two hjl xo' xl' xc')
   have HNW:=hide hnew
   have HOD:=hide hold
   have HLE:=hide hlen
   have HLN:=hide (show n4=hs.length from hg.1.1)
   obtain ⟨⟨qc,qa,qs,qk⟩,hq2⟩:∃m,l[q]=m:=⟨_,rfl⟩
   have HQ:=hide hq2
   obtain ⟨⟨vc,va,xo,xl,xc,yo,yl,yc⟩,hm⟩:∃m,hs[q]=m:=⟨_,rfl⟩
   rw [hm] at c0 c1 c2 c3 hsay HST
   rw [hq2] at hsay hf
   obtain ⟨s0,s1,s2,s3⟩:=hsay
   simp only at c0 c1 c2 c3 s0 s1 s2 s3 hf HST
   have hxl:xl≤1048576:=by have:=s2.1;omega
   have hyl:yl≤1048576:=by have:=s3.1;omega
   have HS0:=hide s0
   have HS1:=hide s1
   have SW:=hide ((uH HH).2 q hj0 hjl2)
   have HEQ:=hide (show hs0[q]=⟨vc,va,xo,xl,xc,yo,yl,yc⟩ by rw [←hold q hjl hj0 (yJ _),hm])
   have HW:=hide (yA (yH _ wr) (.cells #[.int .i64 vc,.int .i64 va,.slice xo xl xc,.slice yo yl yc] 91))
   have XC:=hide (hbk.below (uH HW))
   have XB:=hide (yB (uH HB) (uH HW))
   have XA:=hide (yD wr #[.int .i64 vc,.int .i64 va,.slice xo xl xc,.slice yo yl yc] 91)
   have RW:=hide (show ConRow w xo xl qs∧NRow w yo yl qk from by
    have h:=uH SW
    rw [uH HEQ] at h
    have h2:=h.2.2
    rw [hq2] at h2
    exact h2)
   have CC:=hide (fun wx (hb:Below w.heap.size w wx)=>copyOfConts_any xo xl xc qs wx ((uH RW).1.below hb) hxl hf.2.2)
   have CI:=hide (fun wx (hb:Below w.heap.size w wx)=>cloneInt_any yo yl yc qk wx ((uH RW).2.below hb) hyl)
   have j0:(0:Int)≤q:=by omega
   have j1:(q:Int)<n4:=by omega
   have hgr:¬g=wr.heap.size:=by have:=hbk.1.lt;omega
   have HJL:=hide hjl
   have HWS:=hide (show w9.heap.size≤(wr.alloc (.cells #[.int .i64 vc,.int .i64 va,.slice xo xl xc,.slice yo yl yc] 91)).heap.size from Nat.le_trans (uH HZ) (uH HW).size)
   have XB0:=hide (uH XB)
   obtain ⟨W,hW⟩:∃W,wr.alloc (.cells #[.int .i64 vc,.int .i64 va,.slice xo xl xc,.slice yo yl yc] 91)=W:=⟨_,rfl⟩
   have XA1:=uH XA
   have NW:=hide (fun i h h' hi=>((uH HNW) i h h' hi).below (uH HW))
   have D2:=hide (cellBel c2 (uH HW))
   have D3:=hide (cellBel c3 (uH HW))
   rw [hW] at XC XB XA1 HWS NW D2 D3
   have XW:=hide XA1
   have xa2:=(uH XA).at 2
   simp at xa2
   have HWW:=hide hW
   have HBR:=hide (show wr.heap.size<W.heap.size by rw [←hW];exact (uH XA).lt)
   have hgB2:=hide hgw
   have hgW:=hide hgB
   clear s0 s1 s2 s3 hm hq2 hbk hg hold hnew hlen HC hW HW XA XA1 hf hxl hyl hgB hgw
   go_wp2_with fail
   refine (uH CC _ ?hb1).mono ?_
   case hb1=>exact uH XB0
   rintro e w6 ⟨co',cd',rfl,hcd,hch,_,hb⟩
   rw [uH HWW] at hb hch
   have HCH:=hide (hch.base (uH HWS))
   have XC6:=hide ((uH XC).below hb)
   have XB6:=hide (yB (uH XB) hb)
   have XW6:=hide ((uH XW).below hb)
   have NW6:=hide (fun i h h' hi=>((uH NW) i h h' hi).below hb)
   have z2:=(uH XC6).1.frozen (q*4+2)
   have d2:=cellBel (uH D2) hb
   have D36:=hide (cellKeep (v:=.slice co' qs.length cd') (cellBel (uH D3) hb) (show q*4+2≠q*4+3 by omega))
   clear c0 c1 c2 c3 D2 D3
   have xb3:=(uH XW6).at 3
   simp at xb3
   have xa3:(w6.setCell ⟨g,q*4+2,none⟩ (.slice co' qs.length cd')).cell? ⟨wr.heap.size,3,none⟩=some (.slice yo yl yc):=(World.cell?_setCell_other _ _ _ _ (fun e=>hgr (congrArg Addr.block e))).trans xb3
   have HS6:=hide hb.size
   have Y6:=hide (uH HST _ (uH XC6) co' qs.length cd')
   have YB:=hide (yC (uH XB6) g (q*4+2) (.slice co' qs.length cd') (uH hgW))
   have YN:=hide (fun i h h' hi=>((uH NW6) i h h' hi).sc (j:=q*4+2) (x:=.slice co' qs.length cd') (uH hgB2))
   have YC:=hide ((uH HCH).sc (j:=q*4+2) (v:=.slice co' qs.length cd') (uH hgB2))
   clear hb hch hcd XC XB XW HWW NW xa2 xb3 XW6 HCH NW6
   go_wp2_with fail
   refine (uH CI _ ?hb2).mono ?_
   case hb2=>exact uH YB
   rintro e w7 ⟨v,rfl,ho,hb⟩
   obtain ⟨ko,kc,rfl,hkr,hkf⟩:=iown_has ho
   have Y7:=hide ((uH Y6).below hb)
   have YB7:=hide (yB (uH YB) hb)
   have YN7:=hide (fun i h h' hi=>((uH YN) i h h' hi).below hb)
   have YC7:=hide ((uH YC).below hb)
   have KR:=hide (And.intro hkr (show qk.length=0∨∃k,ko=some ⟨k,0,none⟩∧w9.heap.size≤k from hkf.elim .inl fun ⟨k,a,b⟩=>.inr ⟨k,a,by have h1:=uH HWS;have h2:=uH HS6;rw [set_size] at b;omega⟩))
   have z3:=(uH Y7).1.frozen (q*4+3)
   have d3:=cellBel (uH D36) hb
   have HZ7:=hide (show w9.heap.size≤w7.heap.size by have h1:=uH HWS;have h2:=uH HS6;have h3:=hb.size;rw [set_size] at h3;omega)
   clear hb ho hkr hkf Y6 YB YN YC XC6 XB6 z2 xa3 d2 D36
   go_wp2
   go_roundw
   case rel=>
    have hS:=says_step ⟨vc,va,co',qs.length,cd',ko,qk.length,kc⟩ (fun i h h' hi=>((uH YN7) i h h' hi).sc (j:=q*4+3) (x:=.slice ko qk.length kc) (uH hgB2)) (uH HOD) (fun h'=>by
     have e:=uH HQ
     rw [e]
     exact ⟨uH HS0,uH HS1,(uH YC7).sc (uH hgB2),(uH KR).1.scf (uH KR).2 (uH hgB2),(uH KR).2⟩)
    have hY:=(uH Y7).put3 (uH HJL) ko qk.length kc
    exact ⟨q+1,by omega,by go_num,hide ⟨_,hY.has (uH hgW) (by have:=uH HLN;simpa using this),by rw [List.length_set];exact uH HLE,hS.1,hS.2⟩,hide (yC (uH YB7) _ _ _ (uH hgW)),hide (by rw [set_size];exact uH HZ7),HGL⟩
   case measure=>simp [intOf];omega
  ·obtain rfl:q=n4:=by omega
   have j1:¬(q:Int)<q:=by omega
   have HG:=hide hg
   have HS:=hide (show ∀i (h:i<hs.length) (h':i<l.length),NSays w.heap.size wr hs[i] l[i] from fun i h h'=>by
    have hx:=hnew i h h' (by have:=uH HN4;omega)
    exact ⟨hx.1,hx.2.1,hx.2.2.1.base hzw,hx.2.2.2.1,hx.2.2.2.2.elim .inl fun ⟨k,a,b⟩=>.inr ⟨k,a,Nat.le_trans hzw b⟩⟩)
   clear hlt hg HC hnew hold hlen
   go_wp2
   go_ret
   exact ⟨co,cd,by rw [uH HN4];rfl,hs,by rw [uH HN4];exact uH HG,uH HS,uH HB⟩
def readEntry (s:ByteArray) (i:Nat):Option (Rc×Int):=
 if s.size<i+4 then none
 else if (getText s.data.toList ((i+4:Nat):Int)).2<0 then none
 else match gotRec (getText s.data.toList ((i+4:Nat):Int)).1 with
  | none=>none
  | some r=>if crc (getText s.data.toList ((i+4:Nat):Int)).1=svN s i 4 then some (r,(getText s.data.toList ((i+4:Nat):Int)).2) else none
theorem getText_len2 (l:List UInt8) (i:Int):(getText l i).1.length≤2000:=by
 by_cases h:(getText l i).2<0
 ·unfold getText at h ⊢
  simp only at h ⊢
  split
  ·simp
  ·rename_i hc
   simp only [List.length_take]
   omega
 ·exact (getText_split l i h).2.1
theorem nextEntry_any (g:Nat) (s:ByteArray) (i:Nat) (bg:Int) (w:World) (h:Rd w g s i bg) (hs:s.size≤1048576) (hi:i≤s.size) :
  Calls Tryz.prog 99 #[rdp g] w fun e w'=>Reads w g s i ((readEntry s i).map (fun x=>(rcv x.1,x.2))) e w':=by
 have hgl:g<w.heap.size:=Rd.lt h
 have hBg:w.heap.size≠g:=by omega
 have CS:=hide (fun wx (hr:Rd wx g s i i)=>nextSum_any g s i i wx hr hs hi)
 have CT:=hide (fun wx (hr:Rd wx g s ((i+4:Nat):Int) i) (h4:i+4≤s.size)=>nextText_any g s ((i+4:Nat):Int) i wx hr hs (by omega) (by omega))
 have k1:=(Rd.al h (.cells #[.int .i64 0,.int .i64 0,.string ⟨#[]⟩] 54)).at 1
 have k2:=(Rd.al h (.cells #[.int .i64 0,.int .i64 0,.string ⟨#[]⟩] 54)).at 2
 have kf:=(Rd.al h (.cells #[.int .i64 0,.int .i64 0,.string ⟨#[]⟩] 54)).f 2
 simp only [List.getElem?_toArray,List.getElem?_cons_succ,List.getElem?_cons_zero] at k1 k2
 have HR0:=hide (Rd.begin (Rd.al h (.cells #[.int .i64 0,.int .i64 0,.string ⟨#[]⟩] 54)) (i:Int))
 have V0:=hide ((yD w #[.int .i64 0,.int .i64 0,.string ⟨#[]⟩] 54).other g 2 (.int .i64 (i:Int)) hBg)
 have G0:=hide (grownBy_set (gby_below (r:=some g) (yA (yH _ w) (.cells #[.int .i64 0,.int .i64 0,.string ⟨#[]⟩] 54))) 2 (.int .i64 (i:Int)))
 rw [set_old _ _ _ _ _ hgl] at HR0 V0 G0
 clear h
 by_cases h4:i+4≤s.size
 case neg=>
  have HX:readEntry s i=none:=by unfold readEntry;rw [if_pos (by omega)]
  rw [HX]
  simp only [Option.map_none]
  have CS':=hide (fun wx hr=>by have:=uH CS wx hr;rw [if_neg h4] at this;exact this)
  clear CS HX
  go_enter Tryz.func99,Tryz.ntmps99
  go_wp2_with fail
  refine (uH CS' _ (uH HR0)).mono ?_
  rintro e w1 ⟨hg,rfl,hr⟩
  have HG:=hide (grownBy_trans (uH G0) hg)
  have HR:=hide hr
  clear hg hr
  go_wp2
  exact ⟨rfl,uH HG,rfl,uH HR⟩
 have CS':=hide (fun wx hr=>by have:=uH CS wx hr;rw [if_pos h4] at this;exact this)
 have CT':=hide (fun wx hr=>uH CT wx hr h4)
 have hx4:=svN_lt s i 4
 have HX:readEntry s i=if (getText s.data.toList ((i+4:Nat):Int)).2<0 then none
  else match gotRec (getText s.data.toList ((i+4:Nat):Int)).1 with
  | none=>none
  | some r=>if crc (getText s.data.toList ((i+4:Nat):Int)).1=svN s i 4 then some (r,(getText s.data.toList ((i+4:Nat):Int)).2) else none:=by
  conv=>lhs;unfold readEntry
  rw [if_neg (by omega)]
 rw [HX]
 clear HX CS CT
 have htl:=getText_len2 s.data.toList ((i+4:Nat):Int)
 obtain ⟨⟨t,j⟩,htj⟩:∃x,getText s.data.toList ((i+4:Nat):Int)=x:=⟨_,rfl⟩
 rw [htj] at CT' htl ⊢
 simp only at CT' htl ⊢
 clear htj
 obtain ⟨x,hx⟩:∃x,svN s i 4=x:=⟨_,rfl⟩
 rw [hx] at CS' hx4 ⊢
 clear hx
 by_cases hj:j<0
 ·rw [if_pos hj]
  simp only [Option.map_none]
  have CT2:=hide (fun wx hr=>by have:=uH CT' wx hr;rw [if_pos hj] at this;exact this)
  clear CT'
  go_enter Tryz.func99,Tryz.ntmps99
  go_wp2_with fail
  refine (uH CS' _ (uH HR0)).mono ?_
  rintro e w1 ⟨hg,rfl,hr⟩
  have HG:=hide (grownBy_trans (uH G0) hg)
  have HR:=hide hr
  clear hg hr
  go_wp2_with fail
  refine (uH CT2 _ (uH HR)).mono ?_
  rintro e w2 ⟨hg,rfl,hr⟩
  have HG2:=hide (grownBy_trans (uH HG) hg)
  have HR2:=hide hr
  clear hg hr
  go_wp2
  exact ⟨rfl,uH HG2,rfl,uH HR2⟩
 rw [if_neg hj]
 have CT2:=hide (fun wx hr=>by have:=uH CT' wx hr;rw [if_neg hj] at this;exact this)
 clear CT'
 have CG:=hide (fun wx=>by have:=implGetRec_any (bs t) wx (by rw [bs_size];omega);rw [show gotRec (bs t).data.toList=gotRec t from rfl] at this;exact this)
 have CC:=hide (fun wx (hr:Rd wx g s j i)=>by have:=sumOf_anyR (P:=(.string s,.int .i64 j,.int .i64 i)) g (bs t) wx (by rw [bs_size];omega) hr;rw [show crc (bs t).data.toList=crc t from rfl] at this;exact this)
 have CF:=hide (fun wx (hr:Rd wx g s j i)=>fail_any g s j i wx hr)
 have hcl:crc t<4294967296:=xor_lt32 (crcTo_lt _) (by decide)
 obtain ⟨c,hc⟩:∃c,crc t=c:=⟨_,rfl⟩
 rw [hc] at CC hcl ⊢
 clear hc
 obtain ⟨o,ho⟩:∃o,gotRec t=o:=⟨_,rfl⟩
 rw [ho] at CG ⊢
 clear ho
 cases o with
 | none=>
  simp only [recAns] at CG
  simp only [Option.map_none]
  go_enter Tryz.func99,Tryz.ntmps99
  go_wp2_with fail
  refine (uH CS' _ (uH HR0)).mono ?_
  rintro e w1 ⟨hg,rfl,hr⟩
  have HG:=hide (grownBy_trans (uH G0) hg)
  have HR:=hide hr
  clear hg hr
  go_wp2_with fail
  refine (uH CT2 _ (uH HR)).mono ?_
  rintro e w2 ⟨hg,rfl,hr⟩
  have HG2:=hide (grownBy_trans (uH HG) hg)
  have HR2:=hide hr
  clear hg hr
  go_wp2_with fail
  refine (uH CG _).mono ?_
  rintro e w3 ⟨rfl,hb⟩
  have HG3:=hide (grownBy_below (grownBy_below (uH HG2) hb) (yA (yH _ _) (.cells #[.int .i64 0,.int .i64 0,.string (bs [])] 54)))
  have HR3:=hide (show Rd _ g s j i from Rd.al (Rd.below (uH HR2) hb) (.cells #[.int .i64 0,.int .i64 0,.string (bs [])] 54))
  clear hb
  go_wp2_with fail
  refine (uH CF _ (uH HR3)).mono ?_
  rintro e w4 ⟨rfl,rfl⟩
  go_wp2
  exact ⟨rfl,uH HG3,rfl,_,uH HR3⟩
 | some r=>
  obtain ⟨rk,ra,rq⟩:=r
  simp only [recAns] at CG
  by_cases hcx:c=x
  case neg=>
   simp only [if_neg hcx,Option.map_none]
   have hne:((c:Int)==(x:Int))=false:=by simp;omega
   have hne2:¬(c:Int)=(x:Int):=by omega
   clear hcx
   go_enter Tryz.func99,Tryz.ntmps99
   go_wp2_with fail
   refine (uH CS' _ (uH HR0)).mono ?_
   rintro e w1 ⟨hg,rfl,hr⟩
   have HG:=hide (grownBy_trans (uH G0) hg)
   have HR:=hide hr
   clear hg hr
   go_wp2_with fail
   refine (uH CT2 _ (uH HR)).mono ?_
   rintro e w2 ⟨hg,rfl,hr⟩
   have HG2:=hide (grownBy_trans (uH HG) hg)
   have HR2:=hide hr
   clear hg hr
   go_wp2_with fail
   refine (uH CG _).mono ?_
   rintro e w3 ⟨rfl,hb⟩
   have HG3:=hide (grownBy_below (grownBy_below (uH HG2) hb) (yA (yH _ _) (.cells #[.int .i64 rk,.int .i64 ra,.string (bs rq)] 54)))
   have HR3:=hide (show Rd _ g s j i from Rd.al (Rd.below (uH HR2) hb) (.cells #[.int .i64 rk,.int .i64 ra,.string (bs rq)] 54))
   clear hb
   go_wp2_with fail
   refine (uH CC _ (uH HR3)).mono ?_
   rintro e w4 ⟨rfl,hr4,hg4⟩
   have HG4:=hide (grownBy_trans (uH HG3) hg4)
   have HR4:=hide (show Rd w4 g s j i from hr4)
   clear hr4 hg4
   go_wp2_with fail
   refine (uH CF _ (uH HR4)).mono ?_
   rintro e w5 ⟨rfl,rfl⟩
   go_wp2
   exact ⟨rfl,uH HG4,rfl,_,uH HR4⟩
  ·subst hcx
   simp only [if_true,Option.map_some]
   go_enter Tryz.func99,Tryz.ntmps99
   go_wp2_with fail
   refine (uH CS' _ (uH HR0)).mono ?_
   rintro e w1 ⟨hg,rfl,hr⟩
   have HG:=hide (grownBy_trans (uH G0) hg)
   have HR:=hide hr
   have V1:=hide ((uH V0).gby hg hBg)
   clear hg hr
   go_wp2_with fail
   refine (uH CT2 _ (uH HR)).mono ?_
   rintro e w2 ⟨hg,rfl,hr⟩
   have HG2:=hide (grownBy_trans (uH HG) hg)
   have HR2:=hide hr
   have V2:=hide ((uH V1).gby hg hBg)
   clear hg hr
   go_wp2_with fail
   refine (uH CG _).mono ?_
   rintro e w3 ⟨rfl,hb⟩
   have HG3:=hide (grownBy_below (grownBy_below (uH HG2) hb) (yA (yH _ _) (.cells #[.int .i64 rk,.int .i64 ra,.string (bs rq)] 54)))
   have HR3:=hide (show Rd _ g s j i from Rd.al (Rd.below (uH HR2) hb) (.cells #[.int .i64 rk,.int .i64 ra,.string (bs rq)] 54))
   have V3:=hide (((uH V2).below hb).al (.cells #[.int .i64 rk,.int .i64 ra,.string (bs rq)] 54))
   have U3:=hide (yD w3 #[.int .i64 rk,.int .i64 ra,.string (bs rq)] 54)
   have hg3:g<w3.heap.size:=(Rd.below (uH HR2) hb).lt
   clear hb
   go_wp2_with fail
   refine (uH CC _ (uH HR3)).mono ?_
   rintro e w4 ⟨rfl,hr4,hg4⟩
   have HG4:=hide (grownBy_trans (uH HG3) hg4)
   have HR4:=hide (show Rd w4 g s j i from hr4)
   have V4:=hide ((uH V3).gby hg4 hBg)
   have U4:=hide ((uH U3).gby hg4 (by omega))
   have u0:=(uH U4).at 0
   have u1:=(uH U4).at 1
   have u2:=(uH U4).at 2
   have v0:=(uH V4).at 0
   have v1:=(uH V4).at 1
   have v2:=(uH V4).at 2
   have f0:=(uH V4).f 0
   have f1:=(uH V4).f 1
   have f2:=(uH V4).f 2
   simp at u0 u1 u2 v0 v1 v2
   clear hr4 hg4
   have hV:=((uH V4).set 0 (.int .i64 rk)).set 1 (.int .i64 ra)
   have hV2:=hV.set 2 (.string (bs rq))
   simp at hV2
   have x0:=hV2.at 0
   have x1:=hV2.at 1
   have x2:=hV2.at 2
   simp at x0 x1 x2
   have HF:=hide (show Rd _ g s j i from Rd.other (Rd.other (Rd.other (uH HR4) w.heap.size 0 (.int .i64 rk) (Ne.symm hBg)) w.heap.size 1 (.int .i64 ra) (Ne.symm hBg)) w.heap.size 2 (.string (bs rq)) (Ne.symm hBg))
   clear hV hV2
   go_wp2
   refine bodyPost_ret (v:=rcv ⟨rk,ra,rq⟩) (by simp [results,Tryz.results99,go_sem,x0,x1,x2]) rfl ⟨?_,rfl,uH HF⟩
   exact grownBy_new (grownBy_new (grownBy_new (uH HG4) _ _ _ (yJ _)) _ _ _ (yJ _)) _ _ _ (yJ _)
end
end Go.Proofs.YtjkfappkpopbdaaGreat
