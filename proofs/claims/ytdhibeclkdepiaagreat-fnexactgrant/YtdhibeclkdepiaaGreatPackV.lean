/-
  Texts in one: OwnM, OwnC, OwnP, ARow, QOwn.
-/
import Derived.Lib.SliceRun
import Derived.Test.YtdhibeclkdepiaaGreatPackQ
set_option maxRecDepth 100000
set_option maxHeartbeats 16000000
set_option linter.unusedVariables false
set_option linter.unusedSimpArgs false
namespace Go.Proofs.YtdhibeclkdepiaaGreat
section
open Go.RowKit
abbrev mcell (q:Mac):List Value:=[.string (bs q.name),.int .i64 q.mem,.int .i64 q.cpu,.int .i64 q.seen]
def mcells:List Mac→List Value
 | []=>[]
 | q::t=>mcell q++mcells t
theorem mcells_len:∀l:List Mac,(mcells l).length=l.length*4
 | []=>rfl
 | q::t=>by rw [mcells,List.length_append,mcells_len t];simp;omega
theorem mcells_at:∀(l:List Mac) (i:Nat) (h:i<l.length),(mcells l)[i*4]? = some (.string (bs l[i].name))∧(mcells l)[i*4+1]? = some (.int .i64 l[i].mem)∧(mcells l)[i*4+2]? = some (.int .i64 l[i].cpu)∧(mcells l)[i*4+3]? = some (.int .i64 l[i].seen)
 | q::t,0,_=>⟨rfl,rfl,rfl,rfl⟩
 | q::t,i+1,h=>by
  have e:=mcells_at t i (by simpa using h)
  have k:∀j,(mcells (q::t))[(i+1)*4+j]? = (mcells t)[i*4+j]?:=fun j=>by
   rw [mcells,show (i+1)*4+j=(mcell q).length+(i*4+j) by simp;omega,List.getElem?_append_right (by omega)]
   congr 1
   omega
  have k0:=k 0
  simp only [Nat.add_zero] at k0
  rw [k0,k 1,k 2,k 3]
  simpa using e
theorem mcells_row {w:World} {b off len:Nat} {l:List Mac} (h:MacRow w (some ⟨b,off,none⟩) len l):∀j u,(mcells l)[j]? = some u→w.cell? ⟨b,off+j,none⟩=some u:=fun j u hj=>by
 have hjl:j<l.length*4:=by rw [←mcells_len];exact (List.getElem?_eq_some_iff.1 hj).1
 obtain ⟨h1,h2⟩:=h
 rcases h2 with h2 | ⟨b',off',e,h4⟩
 ·omega
 ·cases e
  have hi:j / 4<l.length:=by omega
  obtain ⟨a0,a1,a2,a3⟩:=mcells_at l (j / 4) hi
  obtain ⟨c0,c1,c2,c3⟩:=h4 (j / 4) hi
  rcases (show j % 4=0∨j % 4=1∨j % 4=2∨j % 4=3 by omega) with e | e | e | e
  ·rw [show j=j / 4*4 by omega] at hj ⊢;rw [a0] at hj;cases hj;exact c0
  ·rw [show j=j / 4*4+1 by omega] at hj ⊢;rw [a1] at hj;cases hj;rw [←Nat.add_assoc];exact c1
  ·rw [show j=j / 4*4+2 by omega] at hj ⊢;rw [a2] at hj;cases hj;rw [←Nat.add_assoc];exact c2
  ·rw [show j=j / 4*4+3 by omega] at hj ⊢;rw [a3] at hj;cases hj;rw [←Nat.add_assoc];exact c3
theorem mcells_one:∀(l:List Mac),∀u ∈ mcells l,u.oneCell'=true
 | [],u,h=>by simp [mcells] at h
 | q::t,u,h=>by
  rw [mcells,List.mem_append] at h
  rcases h with h | h
  ·simp at h
   rcases h with rfl | rfl | rfl | rfl<;>rfl
  ·exact mcells_one t u h
def MOwn (B:Nat) (w:World) (v:Value) (l:List Mac):Prop:=w.ownsRow B 104 4 v l.length (mcells l)
theorem mown_nil (B:Nat) (w:World):MOwn B w (.slice none 0 0) []:=World.ownsRow_nil _ _ _ _
theorem mown_empty (w:World):w.alloc (.cells #[] 104) |>.ownsRow w.heap.size 104 4 (.slice (some ⟨w.heap.size,0,none⟩) 0 0) 0 []:=
 ⟨rfl,.inr ⟨w.heap.size,0,#[],rfl,Nat.le_refl _,by show (w.heap.push _)[w.heap.size]? = _;simp,Nat.le_refl _,by unfold maxLen;omega,rfl,rfl⟩⟩
theorem mown_base {w:World} {B B':Nat} {v:Value} {l:List Mac} (h:MOwn B w v l) (hb:B'≤B):MOwn B' w v l:=by
 obtain ⟨h1,h2⟩:=h
 refine ⟨h1,?_⟩
 rcases h2 with h2 | ⟨g,cap,cur,a,b,c⟩
 ·exact .inl h2
 ·exact .inr ⟨g,cap,cur,a,Nat.le_trans hb b,c⟩
theorem mown_row {w:World} {B:Nat} {v:Value} {l:List Mac} (h:MOwn B w v l):∃ao cap,v=.slice ao l.length cap∧MacRow w ao l.length l∧l.length≤cap∧(l≠[]→∃g cur,ao=some ⟨g,0,none⟩∧B≤g∧w.heap[g]? = some (.cells cur 104 (0,0))∧cur.size=cap*4):=by
 rcases h.2 with ⟨rfl,h0⟩ | ⟨g,cap,cur,rfl,h1,h2,h3,h4,h5,h6⟩
 ·exact ⟨none,0,by rw [h0],⟨rfl,.inl h0⟩,by omega,fun hn=>absurd (List.length_eq_zero_iff.1 h0) hn⟩
 ·refine ⟨some ⟨g,0,none⟩,cap,rfl,⟨rfl,.inr ⟨g,0,rfl,fun i hi=>?_⟩⟩,h3,fun _=>⟨g,cur,rfl,h1,h2,h5⟩⟩
  obtain ⟨a,b,c,d⟩:=mcells_at l i hi
  have k:∀j (v:Value),j<l.length*4→(mcells l)[j]? = some v→w.cell? ⟨g,j,none⟩=some v:=fun j v hj hv=>by
   rw [←h6,List.getElem?_take_of_lt hj] at hv
   simp [World.cell?,h2]
   simpa using hv
  unfold MacAt
  rw [Nat.zero_add]
  exact ⟨k _ _ (by omega) a,k _ _ (by omega) b,k _ _ (by omega) c,k _ _ (by omega) d⟩
theorem Tryz.infoMachine:(Tryz.prog.info? 104).map (fun i=>(i.zero,i.size,i.bytes))=some (some (.agg #[.string ByteArray.empty,.int .i64 0,.int .i64 0,.int .i64 0]),4,40):=by kernel_rfl
theorem cloneMachine_any (ao:Option Addr) (len cap:Nat) (l:List Mac) (w:World) (h:MacRow w ao len l) (hl:len≤1048576) :
  Calls Tryz.prog 66 #[.slice ao len cap] w fun e w'=>∃v,e=.returned v∧MOwn w.heap.size w' v l∧Below w.heap.size w w':=by
 obtain ⟨i0,hi,hz0,hz1,hz2⟩:=info_parts Tryz.infoMachine
 cases ao with
 | none=>
  have hn:len=0:=by rcases h.2 with h | ⟨b,off,e,_⟩;exact h;cases e
  subst hn
  have hl0:l=[]:=List.length_eq_zero_iff.1 h.1.symm
  subst hl0
  have hnl:∀wx,(binOp .eql 31 (.slice none 0 cap) (.slice none 0 0)).run Tryz.prog wx=.ok (.bool true) wx:=fun wx=>Lib.run_eql_slice_nil wx _ _ none 0 cap 0 0 Tryz.underlying31
  clear h hl
  go_enter Tryz.func66,Tryz.ntmps66
  go_wp2
  go_ret
  exact ⟨_,rfl,mown_nil _ _,Below.refl _ _⟩
 | some ad=>
  have hnew:∀j u,(mcells l)[j]? = some u→(w.alloc (.cells #[] 104)).cell? (ad.add j)=some u:=fun j u hj=>by
   have hjl:j<l.length*4:=by rw [←mcells_len];exact (List.getElem?_eq_some_iff.1 hj).1
   rcases h.2 with h0 | ⟨b,off,e,_⟩
   ·have:=h.1;omega
   ·cases e
    have:=mcells_row (h.below (yA (Below.refl _ w) (.cells #[] 104))) j u hj
    rw [Lib.add_plain]
    exact this
  have HNW:=hide hnew
  have HLN:=hide h.1
  have hown:=mown_empty w
  have hll:(mcells l).length=len*4:=by rw [mcells_len,h.1]
  have hone:=mcells_one l
  have hnl:∀wx,(binOp .eql 31 (.slice (some ad) len cap) (.slice none 0 0)).run Tryz.prog wx=.ok (.bool false) wx:=fun wx=>Lib.run_eql_slice_nil wx _ _ (some ad) len cap 0 0 Tryz.underlying31
  clear h hnew
  go_enter Tryz.func66,Tryz.ntmps66
  go_wp2_with (at_builtin;refine wpList_append_own _ rfl _ _ 31 rfl w.heap.size 104 i0 (.agg #[.string ByteArray.empty,.int .i64 0,.int .i64 0,.int .i64 0]) 4 40 Tryz.underlying31 hi hz0 hz1 hz2 rfl (by decide) _ _ _ rfl hown ad len cap (mcells l) rfl hll (uH HNW) hone ?c3 ?c4 ?c5 ?_)
  case c3=>unfold maxLen;omega
  case c4=>omega
  case c5=>simp
  intro v' w3 hown' hgrow _
  have HO:=hide (show MOwn w.heap.size w3 v' l by
   unfold MOwn
   rw [←uH HLN]
   simpa using hown')
  have HB:=hide (show Below w.heap.size w w3 from (yA (Below.refl _ w) (.cells #[] 104)).grown hgrow (by simp) (fun k e=>by simp [Value.ownBlock] at e;omega))
  clear hown' hgrow hown hone hll
  go_wp2
  go_ret
  exact ⟨_,rfl,uH HO,uH HB⟩
abbrev ccell (q:Con):List Value:=[.int .i64 q.id,.int .i64 q.app,.string (bs q.node),.int .i64 q.mem,.int .i64 q.cpu]
def ccells:List Con→List Value
 | []=>[]
 | q::t=>ccell q++ccells t
theorem ccells_len:∀l:List Con,(ccells l).length=l.length*5
 | []=>rfl
 | q::t=>by rw [ccells,List.length_append,ccells_len t];simp;omega
theorem ccells_at:∀(l:List Con) (i:Nat) (h:i<l.length),(ccells l)[i*5]? = some (.int .i64 l[i].id)∧(ccells l)[i*5+1]? = some (.int .i64 l[i].app)∧(ccells l)[i*5+2]? = some (.string (bs l[i].node))∧(ccells l)[i*5+3]? = some (.int .i64 l[i].mem)∧(ccells l)[i*5+4]? = some (.int .i64 l[i].cpu)
 | q::t,0,_=>⟨rfl,rfl,rfl,rfl,rfl⟩
 | q::t,i+1,h=>by
  have e:=ccells_at t i (by simpa using h)
  have k:∀j,(ccells (q::t))[(i+1)*5+j]? = (ccells t)[i*5+j]?:=fun j=>by
   rw [ccells,show (i+1)*5+j=(ccell q).length+(i*5+j) by simp;omega,List.getElem?_append_right (by omega)]
   congr 1
   omega
  have k0:=k 0
  simp only [Nat.add_zero] at k0
  rw [k0,k 1,k 2,k 3,k 4]
  simpa using e
theorem ccells_row {w:World} {b off len:Nat} {l:List Con} (h:ConRow w (some ⟨b,off,none⟩) len l):∀j u,(ccells l)[j]? = some u→w.cell? ⟨b,off+j,none⟩=some u:=fun j u hj=>by
 have hjl:j<l.length*5:=by rw [←ccells_len];exact (List.getElem?_eq_some_iff.1 hj).1
 obtain ⟨h1,h2⟩:=h
 rcases h2 with h2 | ⟨b',off',e,h4⟩
 ·omega
 ·cases e
  have hi:j / 5<l.length:=by omega
  obtain ⟨a0,a1,a2,a3,a4⟩:=ccells_at l (j / 5) hi
  obtain ⟨c0,c1,c2,c3,c4⟩:=h4 (j / 5) hi
  rcases (show j % 5=0∨j % 5=1∨j % 5=2∨j % 5=3∨j % 5=4 by omega) with e | e | e | e | e
  ·rw [show j=j / 5*5 by omega] at hj ⊢;rw [a0] at hj;cases hj;exact c0
  ·rw [show j=j / 5*5+1 by omega] at hj ⊢;rw [a1] at hj;cases hj;rw [←Nat.add_assoc];exact c1
  ·rw [show j=j / 5*5+2 by omega] at hj ⊢;rw [a2] at hj;cases hj;rw [←Nat.add_assoc];exact c2
  ·rw [show j=j / 5*5+3 by omega] at hj ⊢;rw [a3] at hj;cases hj;rw [←Nat.add_assoc];exact c3
  ·rw [show j=j / 5*5+4 by omega] at hj ⊢;rw [a4] at hj;cases hj;rw [←Nat.add_assoc];exact c4
theorem ccells_one:∀(l:List Con),∀u ∈ ccells l,u.oneCell'=true
 | [],u,h=>by simp [ccells] at h
 | q::t,u,h=>by
  rw [ccells,List.mem_append] at h
  rcases h with h | h
  ·simp at h
   rcases h with rfl | rfl | rfl | rfl | rfl<;>rfl
  ·exact ccells_one t u h
def COwn (B:Nat) (w:World) (v:Value) (l:List Con):Prop:=w.ownsRow B 38 5 v l.length (ccells l)
theorem cown_nil (B:Nat) (w:World):COwn B w (.slice none 0 0) []:=World.ownsRow_nil _ _ _ _
theorem cown_empty (w:World):w.alloc (.cells #[] 38) |>.ownsRow w.heap.size 38 5 (.slice (some ⟨w.heap.size,0,none⟩) 0 0) 0 []:=
 ⟨rfl,.inr ⟨w.heap.size,0,#[],rfl,Nat.le_refl _,by show (w.heap.push _)[w.heap.size]? = _;simp,Nat.le_refl _,by unfold maxLen;omega,rfl,rfl⟩⟩
theorem cown_base {w:World} {B B':Nat} {v:Value} {l:List Con} (h:COwn B w v l) (hb:B'≤B):COwn B' w v l:=by
 obtain ⟨h1,h2⟩:=h
 refine ⟨h1,?_⟩
 rcases h2 with h2 | ⟨g,cap,cur,a,b,c⟩
 ·exact .inl h2
 ·exact .inr ⟨g,cap,cur,a,Nat.le_trans hb b,c⟩
theorem cown_row {w:World} {B:Nat} {v:Value} {l:List Con} (h:COwn B w v l):∃ao cap,v=.slice ao l.length cap∧ConRow w ao l.length l∧l.length≤cap∧(l≠[]→∃g cur,ao=some ⟨g,0,none⟩∧B≤g∧w.heap[g]? = some (.cells cur 38 (0,0))∧cur.size=cap*5):=by
 rcases h.2 with ⟨rfl,h0⟩ | ⟨g,cap,cur,rfl,h1,h2,h3,h4,h5,h6⟩
 ·exact ⟨none,0,by rw [h0],⟨rfl,.inl h0⟩,by omega,fun hn=>absurd (List.length_eq_zero_iff.1 h0) hn⟩
 ·refine ⟨some ⟨g,0,none⟩,cap,rfl,⟨rfl,.inr ⟨g,0,rfl,fun i hi=>?_⟩⟩,h3,fun _=>⟨g,cur,rfl,h1,h2,h5⟩⟩
  obtain ⟨a,b,c,d,e⟩:=ccells_at l i hi
  have k:∀j (v:Value),j<l.length*5→(ccells l)[j]? = some v→w.cell? ⟨g,j,none⟩=some v:=fun j v hj hv=>by
   rw [←h6,List.getElem?_take_of_lt hj] at hv
   simp [World.cell?,h2]
   simpa using hv
  unfold ConAt
  rw [Nat.zero_add]
  exact ⟨k _ _ (by omega) a,k _ _ (by omega) b,k _ _ (by omega) c,k _ _ (by omega) d,k _ _ (by omega) e⟩
theorem Tryz.infoCont:(Tryz.prog.info? 38).map (fun i=>(i.zero,i.size,i.bytes))=some (some (.agg #[.int .i64 0,.int .i64 0,.string ByteArray.empty,.int .i64 0,.int .i64 0]),5,48):=by kernel_rfl
theorem cloneCont_any (ao:Option Addr) (len cap:Nat) (l:List Con) (w:World) (h:ConRow w ao len l) (hl:len≤1048576) :
  Calls Tryz.prog 104 #[.slice ao len cap] w fun e w'=>∃v,e=.returned v∧COwn w.heap.size w' v l∧Below w.heap.size w w':=by
 obtain ⟨i0,hi,hz0,hz1,hz2⟩:=info_parts Tryz.infoCont
 cases ao with
 | none=>
  have hn:len=0:=by rcases h.2 with h | ⟨b,off,e,_⟩;exact h;cases e
  subst hn
  have hl0:l=[]:=List.length_eq_zero_iff.1 h.1.symm
  subst hl0
  have hnl:∀wx,(binOp .eql 32 (.slice none 0 cap) (.slice none 0 0)).run Tryz.prog wx=.ok (.bool true) wx:=fun wx=>Lib.run_eql_slice_nil wx _ _ none 0 cap 0 0 Tryz.underlying32
  clear h hl
  go_enter Tryz.func104,Tryz.ntmps104
  go_wp2
  go_ret
  exact ⟨_,rfl,cown_nil _ _,Below.refl _ _⟩
 | some ad=>
  have hnew:∀j u,(ccells l)[j]? = some u→(w.alloc (.cells #[] 38)).cell? (ad.add j)=some u:=fun j u hj=>by
   have hjl:j<l.length*5:=by rw [←ccells_len];exact (List.getElem?_eq_some_iff.1 hj).1
   rcases h.2 with h0 | ⟨b,off,e,_⟩
   ·have:=h.1;omega
   ·cases e
    have:=ccells_row (h.below (yA (Below.refl _ w) (.cells #[] 38))) j u hj
    rw [Lib.add_plain]
    exact this
  have HNW:=hide hnew
  have HLN:=hide h.1
  have hown:=cown_empty w
  have hll:(ccells l).length=len*5:=by rw [ccells_len,h.1]
  have hone:=ccells_one l
  have hnl:∀wx,(binOp .eql 32 (.slice (some ad) len cap) (.slice none 0 0)).run Tryz.prog wx=.ok (.bool false) wx:=fun wx=>Lib.run_eql_slice_nil wx _ _ (some ad) len cap 0 0 Tryz.underlying32
  clear h hnew
  go_enter Tryz.func104,Tryz.ntmps104
  go_wp2_with (at_builtin;refine wpList_append_own _ rfl _ _ 32 rfl w.heap.size 38 i0 (.agg #[.int .i64 0,.int .i64 0,.string ByteArray.empty,.int .i64 0,.int .i64 0]) 5 48 Tryz.underlying32 hi hz0 hz1 hz2 rfl (by decide) _ _ _ rfl hown ad len cap (ccells l) rfl hll (uH HNW) hone ?c3 ?c4 ?c5 ?_)
  case c3=>unfold maxLen;omega
  case c4=>omega
  case c5=>simp
  intro v' w3 hown' hgrow _
  have HO:=hide (show COwn w.heap.size w3 v' l by
   unfold COwn
   rw [←uH HLN]
   simpa using hown')
  have HB:=hide (show Below w.heap.size w w3 from (yA (Below.refl _ w) (.cells #[] 38)).grown hgrow (by simp) (fun k e=>by simp [Value.ownBlock] at e;omega))
  clear hown' hgrow hown hone hll
  go_wp2
  go_ret
  exact ⟨_,rfl,uH HO,uH HB⟩
abbrev pcell (q:AV):List Value:=[.int .i64 q.id,.string (bs q.queue),.slice q.ao q.len q.cap]
def pcells:List AV→List Value
 | []=>[]
 | q::t=>pcell q++pcells t
theorem pcells_app (a:List AV) (q:AV):pcells (a++[q])=pcells a++pcell q:=by
 induction a with
 | nil=>rfl
 | cons x t ih=>rw [List.cons_append,pcells,pcells,ih,List.append_assoc]
theorem pcells_len:∀l:List AV,(pcells l).length=l.length*3
 | []=>rfl
 | q::t=>by rw [pcells,List.length_append,pcells_len t];simp;omega
theorem pcells_at:∀(l:List AV) (i:Nat) (h:i<l.length),(pcells l)[i*3]? = some (.int .i64 l[i].id)∧(pcells l)[i*3+1]? = some (.string (bs l[i].queue))∧(pcells l)[i*3+2]? = some (.slice l[i].ao l[i].len l[i].cap)
 | q::t,0,_=>⟨rfl,rfl,rfl⟩
 | q::t,i+1,h=>by
  have e:=pcells_at t i (by simpa using h)
  have k:∀j,(pcells (q::t))[(i+1)*3+j]? = (pcells t)[i*3+j]?:=fun j=>by
   rw [pcells,show (i+1)*3+j=(pcell q).length+(i*3+j) by simp;omega,List.getElem?_append_right (by omega)]
   congr 1
   omega
  have k0:=k 0
  simp only [Nat.add_zero] at k0
  rw [k0,k 1,k 2]
  simpa using e
theorem pcells_row {w:World} {b off len:Nat} {l:List AV} (h:AVRow w (some ⟨b,off,none⟩) len l):∀j u,(pcells l)[j]? = some u→w.cell? ⟨b,off+j,none⟩=some u:=fun j u hj=>by
 have hjl:j<l.length*3:=by rw [←pcells_len];exact (List.getElem?_eq_some_iff.1 hj).1
 obtain ⟨h1,h2⟩:=h
 rcases h2 with h2 | ⟨b',off',e,h4⟩
 ·omega
 ·cases e
  have hi:j / 3<l.length:=by omega
  obtain ⟨a0,a1,a2⟩:=pcells_at l (j / 3) hi
  obtain ⟨c0,c1,c2⟩:=h4 (j / 3) hi
  rcases (show j % 3=0∨j % 3=1∨j % 3=2 by omega) with e | e | e
  ·rw [show j=j / 3*3 by omega] at hj ⊢;rw [a0] at hj;cases hj;exact c0
  ·rw [show j=j / 3*3+1 by omega] at hj ⊢;rw [a1] at hj;cases hj;rw [←Nat.add_assoc];exact c1
  ·rw [show j=j / 3*3+2 by omega] at hj ⊢;rw [a2] at hj;cases hj;rw [←Nat.add_assoc];exact c2
theorem pcells_one:∀(l:List AV),∀u ∈ pcells l,u.oneCell'=true
 | [],u,h=>by simp [pcells] at h
 | q::t,u,h=>by
  rw [pcells,List.mem_append] at h
  rcases h with h | h
  ·simp at h
   rcases h with rfl | rfl | rfl<;>rfl
  ·exact pcells_one t u h
def POwn (B:Nat) (w:World) (v:Value) (l:List AV):Prop:=w.ownsRow B 74 3 v l.length (pcells l)
theorem pown_nil (B:Nat) (w:World):POwn B w (.slice none 0 0) []:=World.ownsRow_nil _ _ _ _
theorem pown_empty (w:World):w.alloc (.cells #[] 74) |>.ownsRow w.heap.size 74 3 (.slice (some ⟨w.heap.size,0,none⟩) 0 0) 0 []:=
 ⟨rfl,.inr ⟨w.heap.size,0,#[],rfl,Nat.le_refl _,by show (w.heap.push _)[w.heap.size]? = _;simp,Nat.le_refl _,by unfold maxLen;omega,rfl,rfl⟩⟩
theorem pown_below {w w':World} {B:Nat} {v:Value} {l:List AV} (h:POwn B w v l) (hb:Below w.heap.size w w'):POwn B w' v l:=
 World.ownsRow.kept h (grownBy_below (grownBy_refl w none) hb) (by by_cases e:v.ownBlock=none;exact .inl e;exact .inr e)
theorem pown_base {w:World} {B B':Nat} {v:Value} {l:List AV} (h:POwn B w v l) (hb:B'≤B):POwn B' w v l:=by
 obtain ⟨h1,h2⟩:=h
 refine ⟨h1,?_⟩
 rcases h2 with h2 | ⟨g,cap,cur,a,b,c⟩
 ·exact .inl h2
 ·exact .inr ⟨g,cap,cur,a,Nat.le_trans hb b,c⟩
theorem pown_row {w:World} {B:Nat} {v:Value} {l:List AV} (h:POwn B w v l):∃ao cap,v=.slice ao l.length cap∧AVRow w ao l.length l∧l.length≤cap∧(l≠[]→∃g cur,ao=some ⟨g,0,none⟩∧B≤g∧w.heap[g]? = some (.cells cur 74 (0,0))∧cur.size=cap*3):=by
 rcases h.2 with ⟨rfl,h0⟩ | ⟨g,cap,cur,rfl,h1,h2,h3,h4,h5,h6⟩
 ·exact ⟨none,0,by rw [h0],⟨rfl,.inl h0⟩,by omega,fun hn=>absurd (List.length_eq_zero_iff.1 h0) hn⟩
 ·refine ⟨some ⟨g,0,none⟩,cap,rfl,⟨rfl,.inr ⟨g,0,rfl,fun i hi=>?_⟩⟩,h3,fun _=>⟨g,cur,rfl,h1,h2,h5⟩⟩
  obtain ⟨a,b,c⟩:=pcells_at l i hi
  have k:∀j (v:Value),j<l.length*3→(pcells l)[j]? = some v→w.cell? ⟨g,j,none⟩=some v:=fun j v hj hv=>by
   rw [←h6,List.getElem?_take_of_lt hj] at hv
   simp [World.cell?,h2]
   simpa using hv
  unfold AVAt
  rw [Nat.zero_add]
  exact ⟨k _ _ (by omega) a,k _ _ (by omega) b,k _ _ (by omega) c⟩
theorem pown_other {w:World} {B:Nat} {v:Value} {l:List AV} (h:POwn B w v l) (k j:Nat) (x:Value) (hk:k<B):POwn B (w.setCell ⟨k,j,none⟩ x) v l:=by
 obtain ⟨h1,h2⟩:=h
 refine ⟨h1,?_⟩
 rcases h2 with h2 | ⟨g,cap,cur,a,b,c,d⟩
 ·exact .inl h2
 ·exact .inr ⟨g,cap,cur,a,b,(heap_setCell_other w ⟨k,j,none⟩ g x (show g≠k by omega)).trans c,d⟩
theorem Tryz.infoApp:(Tryz.prog.info? 74).map (fun i=>(i.zero,i.size,i.bytes))=some (some (.agg #[.int .i64 0,.string ByteArray.empty,.slice none 0 0]),3,48):=by kernel_rfl
theorem cloneApp_any (ao:Option Addr) (len cap:Nat) (l:List AV) (w:World) (h:AVRow w ao len l) (hl:len≤1048576) :
  Calls Tryz.prog 64 #[.slice ao len cap] w fun e w'=>∃v,e=.returned v∧POwn w.heap.size w' v l∧Below w.heap.size w w':=by
 obtain ⟨i0,hi,hz0,hz1,hz2⟩:=info_parts Tryz.infoApp
 cases ao with
 | none=>
  have hn:len=0:=by rcases h.2 with h | ⟨b,off,e,_⟩;exact h;cases e
  subst hn
  have hl0:l=[]:=List.length_eq_zero_iff.1 h.1.symm
  subst hl0
  have hnl:∀wx,(binOp .eql 30 (.slice none 0 cap) (.slice none 0 0)).run Tryz.prog wx=.ok (.bool true) wx:=fun wx=>Lib.run_eql_slice_nil wx _ _ none 0 cap 0 0 Tryz.underlying30
  clear h hl
  go_enter Tryz.func64,Tryz.ntmps64
  go_wp2
  go_ret
  exact ⟨_,rfl,pown_nil _ _,Below.refl _ _⟩
 | some ad=>
  have hnew:∀j u,(pcells l)[j]? = some u→(w.alloc (.cells #[] 74)).cell? (ad.add j)=some u:=fun j u hj=>by
   have hjl:j<l.length*3:=by rw [←pcells_len];exact (List.getElem?_eq_some_iff.1 hj).1
   rcases h.2 with h0 | ⟨b,off,e,_⟩
   ·have:=h.1;omega
   ·cases e
    have:=pcells_row (h.below (yA (Below.refl _ w) (.cells #[] 74))) j u hj
    rw [Lib.add_plain]
    exact this
  have HNW:=hide hnew
  have HLN:=hide h.1
  have hown:=pown_empty w
  have hll:(pcells l).length=len*3:=by rw [pcells_len,h.1]
  have hone:=pcells_one l
  have hnl:∀wx,(binOp .eql 30 (.slice (some ad) len cap) (.slice none 0 0)).run Tryz.prog wx=.ok (.bool false) wx:=fun wx=>Lib.run_eql_slice_nil wx _ _ (some ad) len cap 0 0 Tryz.underlying30
  clear h hnew
  go_enter Tryz.func64,Tryz.ntmps64
  go_wp2_with (at_builtin;refine wpList_append_own _ rfl _ _ 30 rfl w.heap.size 74 i0 (.agg #[.int .i64 0,.string ByteArray.empty,.slice none 0 0]) 3 48 Tryz.underlying30 hi hz0 hz1 hz2 rfl (by decide) _ _ _ rfl hown ad len cap (pcells l) rfl hll (uH HNW) hone ?c3 ?c4 ?c5 ?_)
  case c3=>unfold maxLen;omega
  case c4=>omega
  case c5=>simp
  intro v' w3 hown' hgrow _
  have HO:=hide (show POwn w.heap.size w3 v' l by
   unfold POwn
   rw [←uH HLN]
   simpa using hown')
  have HB:=hide (show Below w.heap.size w w3 from (yA (Below.refl _ w) (.cells #[] 74)).grown hgrow (by simp) (fun k e=>by simp [Value.ownBlock] at e;omega))
  clear hown' hgrow hown hone hll
  go_wp2
  go_ret
  exact ⟨_,rfl,uH HO,uH HB⟩
abbrev acell (q:Ask):List Value:=[.int .i64 q.mem,.int .i64 q.cpu,.int .i64 q.count,.string (bs q.node),.int .i64 q.missed]
def acells:List Ask→List Value
 | []=>[]
 | q::t=>acell q++acells t
theorem acells_len:∀l:List Ask,(acells l).length=l.length*5
 | []=>rfl
 | q::t=>by rw [acells,List.length_append,acells_len t];simp;omega
theorem acells_at:∀(l:List Ask) (i:Nat) (h:i<l.length),(acells l)[i*5]? = some (.int .i64 l[i].mem)∧(acells l)[i*5+1]? = some (.int .i64 l[i].cpu)∧(acells l)[i*5+2]? = some (.int .i64 l[i].count)∧(acells l)[i*5+3]? = some (.string (bs l[i].node))∧(acells l)[i*5+4]? = some (.int .i64 l[i].missed)
 | q::t,0,_=>⟨rfl,rfl,rfl,rfl,rfl⟩
 | q::t,i+1,h=>by
  have e:=acells_at t i (by simpa using h)
  have k:∀j,(acells (q::t))[(i+1)*5+j]? = (acells t)[i*5+j]?:=fun j=>by
   rw [acells,show (i+1)*5+j=(acell q).length+(i*5+j) by simp;omega,List.getElem?_append_right (by omega)]
   congr 1
   omega
  have k0:=k 0
  simp only [Nat.add_zero] at k0
  rw [k0,k 1,k 2,k 3,k 4]
  simpa using e
theorem acells_row {w:World} {b off len:Nat} {l:List Ask} (h:AskRow w (some ⟨b,off,none⟩) len l):∀j u,(acells l)[j]? = some u→w.cell? ⟨b,off+j,none⟩=some u:=fun j u hj=>by
 have hjl:j<l.length*5:=by rw [←acells_len];exact (List.getElem?_eq_some_iff.1 hj).1
 obtain ⟨h1,h2⟩:=h
 rcases h2 with h2 | ⟨b',off',e,h4⟩
 ·omega
 ·cases e
  have hi:j / 5<l.length:=by omega
  obtain ⟨a0,a1,a2,a3,a4⟩:=acells_at l (j / 5) hi
  obtain ⟨c0,c1,c2,c3,c4⟩:=h4 (j / 5) hi
  rcases (show j % 5=0∨j % 5=1∨j % 5=2∨j % 5=3∨j % 5=4 by omega) with e | e | e | e | e
  ·rw [show j=j / 5*5 by omega] at hj ⊢;rw [a0] at hj;cases hj;exact c0
  ·rw [show j=j / 5*5+1 by omega] at hj ⊢;rw [a1] at hj;cases hj;rw [←Nat.add_assoc];exact c1
  ·rw [show j=j / 5*5+2 by omega] at hj ⊢;rw [a2] at hj;cases hj;rw [←Nat.add_assoc];exact c2
  ·rw [show j=j / 5*5+3 by omega] at hj ⊢;rw [a3] at hj;cases hj;rw [←Nat.add_assoc];exact c3
  ·rw [show j=j / 5*5+4 by omega] at hj ⊢;rw [a4] at hj;cases hj;rw [←Nat.add_assoc];exact c4
theorem acells_one:∀(l:List Ask),∀u ∈ acells l,u.oneCell'=true
 | [],u,h=>by simp [acells] at h
 | q::t,u,h=>by
  rw [acells,List.mem_append] at h
  rcases h with h | h
  ·simp at h
   rcases h with rfl | rfl | rfl | rfl | rfl<;>rfl
  ·exact acells_one t u h
def AOwn (B:Nat) (w:World) (v:Value) (l:List Ask):Prop:=w.ownsRow B 77 5 v l.length (acells l)
theorem aown_nil (B:Nat) (w:World):AOwn B w (.slice none 0 0) []:=World.ownsRow_nil _ _ _ _
theorem aown_empty (w:World):w.alloc (.cells #[] 77) |>.ownsRow w.heap.size 77 5 (.slice (some ⟨w.heap.size,0,none⟩) 0 0) 0 []:=
 ⟨rfl,.inr ⟨w.heap.size,0,#[],rfl,Nat.le_refl _,by show (w.heap.push _)[w.heap.size]? = _;simp,Nat.le_refl _,by unfold maxLen;omega,rfl,rfl⟩⟩
theorem AOwn.below {w w':World} {B:Nat} {v:Value} {l:List Ask} (h:AOwn B w v l) (hb:Below w.heap.size w w'):AOwn B w' v l:=
 h.kept (grownBy_below (grownBy_refl w none) hb) (by by_cases e:v.ownBlock=none;exact .inl e;exact .inr e)
theorem AOwn.base {w:World} {B B':Nat} {v:Value} {l:List Ask} (h:AOwn B w v l) (hb:B'≤B):AOwn B' w v l:=by
 obtain ⟨h1,h2⟩:=h
 refine ⟨h1,?_⟩
 rcases h2 with h2 | ⟨g,cap,cur,a,b,c⟩
 ·exact .inl h2
 ·exact .inr ⟨g,cap,cur,a,Nat.le_trans hb b,c⟩
theorem AOwn.row {w:World} {B:Nat} {v:Value} {l:List Ask} (h:AOwn B w v l):∃ao cap,v=.slice ao l.length cap∧AskRow w ao l.length l∧l.length≤cap∧(l≠[]→∃g cur,ao=some ⟨g,0,none⟩∧B≤g∧w.heap[g]? = some (.cells cur 77 (0,0))∧cur.size=cap*5):=by
 rcases h.2 with ⟨rfl,h0⟩ | ⟨g,cap,cur,rfl,h1,h2,h3,h4,h5,h6⟩
 ·exact ⟨none,0,by rw [h0],⟨rfl,.inl h0⟩,by omega,fun hn=>absurd (List.length_eq_zero_iff.1 h0) hn⟩
 ·refine ⟨some ⟨g,0,none⟩,cap,rfl,⟨rfl,.inr ⟨g,0,rfl,fun i hi=>?_⟩⟩,h3,fun _=>⟨g,cur,rfl,h1,h2,h5⟩⟩
  obtain ⟨a,b,c,d,e⟩:=acells_at l i hi
  have k:∀j (v:Value),j<l.length*5→(acells l)[j]? = some v→w.cell? ⟨g,j,none⟩=some v:=fun j v hj hv=>by
   rw [←h6,List.getElem?_take_of_lt hj] at hv
   simp [World.cell?,h2]
   simpa using hv
  unfold AskAt
  rw [Nat.zero_add]
  exact ⟨k _ _ (by omega) a,k _ _ (by omega) b,k _ _ (by omega) c,k _ _ (by omega) d,k _ _ (by omega) e⟩
theorem Tryz.infoA:(Tryz.prog.info? 77).map (fun i=>(i.zero,i.size,i.bytes))=some (some (.agg #[.int .i64 0,.int .i64 0,.int .i64 0,.string ByteArray.empty,.int .i64 0]),5,48):=by kernel_rfl
theorem cloneAsk_any (ao:Option Addr) (len cap:Nat) (l:List Ask) (w:World) (h:AskRow w ao len l) (hl:len≤1048576) :
  Calls Tryz.prog 102 #[.slice ao len cap] w fun e w'=>∃v,e=.returned v∧AOwn w.heap.size w' v l∧Below w.heap.size w w':=by
 obtain ⟨i0,hi,hz0,hz1,hz2⟩:=info_parts Tryz.infoA
 cases ao with
 | none=>
  have hn:len=0:=by rcases h.2 with h | ⟨b,off,e,_⟩;exact h;cases e
  subst hn
  have hl0:l=[]:=List.length_eq_zero_iff.1 h.1.symm
  subst hl0
  have hnl:∀wx,(binOp .eql 72 (.slice none 0 cap) (.slice none 0 0)).run Tryz.prog wx=.ok (.bool true) wx:=fun wx=>Lib.run_eql_slice_nil wx _ _ none 0 cap 0 0 Tryz.underlying72
  clear h hl
  go_enter Tryz.func102,Tryz.ntmps102
  go_wp2
  go_ret
  exact ⟨_,rfl,aown_nil _ _,Below.refl _ _⟩
 | some ad=>
  have hnew:∀j u,(acells l)[j]? = some u→(w.alloc (.cells #[] 77)).cell? (ad.add j)=some u:=fun j u hj=>by
   have hjl:j<l.length*5:=by rw [←acells_len];exact (List.getElem?_eq_some_iff.1 hj).1
   rcases h.2 with h0 | ⟨b,off,e,_⟩
   ·have:=h.1;omega
   ·cases e
    have:=acells_row (h.below (yA (Below.refl _ w) (.cells #[] 77))) j u hj
    rw [Lib.add_plain]
    exact this
  have HNW:=hide hnew
  have HLN:=hide h.1
  have hown:=aown_empty w
  have hll:(acells l).length=len*5:=by rw [acells_len,h.1]
  have hone:=acells_one l
  have hnl:∀wx,(binOp .eql 72 (.slice (some ad) len cap) (.slice none 0 0)).run Tryz.prog wx=.ok (.bool false) wx:=fun wx=>Lib.run_eql_slice_nil wx _ _ (some ad) len cap 0 0 Tryz.underlying72
  clear h hnew
  go_enter Tryz.func102,Tryz.ntmps102
  go_wp2_with (at_builtin;refine wpList_append_own _ rfl _ _ 72 rfl w.heap.size 77 i0 (.agg #[.int .i64 0,.int .i64 0,.int .i64 0,.string ByteArray.empty,.int .i64 0]) 5 48 Tryz.underlying72 hi hz0 hz1 hz2 rfl (by decide) _ _ _ rfl hown ad len cap (acells l) rfl hll (uH HNW) hone ?c3 ?c4 ?c5 ?_)
  case c3=>unfold maxLen;omega
  case c4=>omega
  case c5=>simp
  intro v' w3 hown' hgrow _
  have HO:=hide (show AOwn w.heap.size w3 v' l by
   unfold AOwn
   rw [←uH HLN]
   exact hown')
  have HB:=hide (show Below w.heap.size w w3 from (yA (Below.refl _ w) (.cells #[] 77)).grown hgrow (by simp) (fun k e=>by simp [Value.ownBlock] at e;omega))
  clear hown' hgrow hown hone hll
  go_wp2
  go_ret
  exact ⟨_,rfl,uH HO,uH HB⟩
theorem set_idem {arr:Array Value} {j:Nat} {x:Value} (h:arr[j]? = some x):arr.setIfInBounds j x=arr:=by
 apply Array.ext
 ·simp
 ·intro i h1 h2
  rw [Array.getElem_setIfInBounds]
  split
  ·rename_i e
   subst e
   rw [Array.getElem?_eq_getElem h2] at h
   exact (Option.some.inj h).symm
  ·rfl
theorem AOwn.same {w:World} {B g n cap j:Nat} {x:Value} {l:List Ask} (h:AOwn B w (.slice (some ⟨g,0,none⟩) n cap) l) (hc:w.cell? ⟨g,j,none⟩=some x):AOwn B (w.setCell ⟨g,j,none⟩ x) (.slice (some ⟨g,0,none⟩) n cap) l∧B≤g:=by
 obtain ⟨h1,h2⟩:=h
 rcases h2 with ⟨e,_⟩ | ⟨g',cap',cur,e,h3,h4,h5⟩
 ·cases e
 ·cases e
  have hx:cur[j]? = some x:=by simpa [World.cell?,h4] using hc
  refine ⟨⟨h1,.inr ⟨g,cap,cur,rfl,h3,?_,h5⟩⟩,h3⟩
  have:=heap_setCell_same w g j _ _ x h4
  rw [set_idem hx] at this
  exact this
theorem AOwn.other3 {w:World} {B:Nat} {v:Value} {l:List Ask} (h:AOwn B w v l) (k j:Nat) (x:Value) (hk:k<B):AOwn B (w.setCell ⟨k,j,none⟩ x) v l:=by
 obtain ⟨h1,h2⟩:=h
 refine ⟨h1,?_⟩
 rcases h2 with h2 | ⟨g,cap,cur,a,b,c,d⟩
 ·exact .inl h2
 ·exact .inr ⟨g,cap,cur,a,b,(heap_setCell_other w ⟨k,j,none⟩ g x (show g≠k by omega)).trans c,d⟩
theorem copyOfApp_any (id:Int) (qu:List UInt8) (ao:Option Addr) (len cap:Nat) (l:List Ask) (w:World) (h:AskRow w ao len l) (hl:len≤1048576) (hq:qu.length≤1048576) (hn:∀q ∈ l,q.node.length≤1048576) :
  Calls Tryz.prog 65 #[applv id qu ao len cap] w fun e w'=>∃v,e=.returned (.agg #[.int .i64 id,.string (bs qu),v])∧AOwn w.heap.size w' v l∧Below w.heap.size w w':=by
 have HN:=hide hn
 have hB:=yA (yA (Below.refl _ w) (.cells #[.int .i64 id,.string (bs qu),.slice ao len cap] 74)) (.cells #[.int .i64 0,.string ByteArray.empty,.slice none 0 0] 74)
 have CC:=hide (cloneAsk_any ao len cap l _ (h.below hB) hl)
 have HB0:=hide hB
 have K0:=hide ((yD w #[.int .i64 id,.string (bs qu),.slice ao len cap] 74).al (.cells #[.int .i64 0,.string ByteArray.empty,.slice none 0 0] 74))
 have K1:=hide (show Blk _ (w.heap.size+1) #[.int .i64 0,.string ByteArray.empty,.slice none 0 0] 74 by have:=yD (w.alloc (.cells #[.int .i64 id,.string (bs qu),.slice ao len cap] 74)) #[.int .i64 0,.string ByteArray.empty,.slice none 0 0] 74;rwa [yE] at this)
 have hll:=hide h.1
 have hsq:(bs qu).size≤281474976710656:=by rw [bs_size];omega
 clear h hn hB
 go_enter Tryz.func65,Tryz.ntmps65
 go_wp2_with fail
 refine (uH CC).mono ?_
 rintro e w1 ⟨v,rfl,ho,hb⟩
 have HB1:=hide (yB (uH HB0) hb)
 have P0:=hide ((uH K0).below hb)
 have P1:=hide ((uH K1).below hb)
 have hsz1:w.heap.size+2≤w1.heap.size:=by have:=hb.size;rw [yE,yE] at this;omega
 have HO:=hide (ho.base (B':=w.heap.size+2) (by rw [yE,yE];omega))
 obtain ⟨xo,xc,rfl,_,hxc,hxg⟩:=ho.row
 obtain ⟨n,hnn⟩:∃n,l.length=n:=⟨_,rfl⟩
 have HLN:=hide hnn
 have hn2:n≤1048576:=by have:=uH hll;omega
 rw [hnn] at HO hxc ⊢
 clear ho hb CC HB0 K0 K1 hnn hxg
 go_wp2
 go_loopw [10] (fun i wr=>∃(k:Nat),k≤n∧i=.int .i64 k∧Hid (AOwn (w.heap.size+2) wr (.slice xo n xc) l)∧Hid (Below (w.heap.size+2) w1 wr)) (fun i _=>n - (intOf i).toNat)
 case atStart=>exact ⟨0,Nat.zero_le _,rfl,HO,hide (Below.refl _ _)⟩
 case round=>
  obtain ⟨k,hk,rfl,HOr,HBr⟩:=hrel
  by_cases hlt:k<n
  ·have hkl:k<l.length:=by have:=uH HLN;omega
   obtain ⟨xo',xc',e,hrow,_,hg⟩:=(uH HOr).row
   obtain ⟨g,cur,rfl,hg1,hg2,hg3⟩:=hg (by intro e;rw [e] at hkl;simp at hkl)
   rw [uH HLN] at e hrow
   cases e
   obtain ⟨b',off',e',hat⟩:=hrow.at hlt
   cases e'
   have c3:=(hat hkl).2.2.2.1
   simp only [Nat.zero_add] at c3
   have hnd:=uH HN l[k] (List.getElem_mem _)
   obtain ⟨nd,hs⟩:∃s,l[k].node=s:=⟨_,rfl⟩
   rw [hs] at c3 hnd
   have hsn:(bs nd).size≤281474976710656:=by rw [bs_size];omega
   have k0:(0:Int)≤k:=by omega
   have k1:(k:Int)<n:=by omega
   have hgs:g<wr.heap.size:=lt_of_block hg2
   clear hat hrow hg2 hg3 hs hkl
   go_wp2_with fail
   refine (clone_any (bs nd) _ hsn).mono ?_
   rintro e w2 ⟨rfl,hb⟩
   have HO2:=hide ((uH HOr).below hb)
   have c3':=(hb.cell (p:=⟨g,k*5+3,none⟩) hgs).trans c3
   have hsame:=(uH HO2).same c3'
   have f3:w2.frozen? ⟨g,k*5+3,none⟩=false:=by
    rcases (uH HO2).2 with ⟨e,_⟩ | ⟨g',cap',cur',e,_,h4,_⟩
    ·cases e
    ·cases e;simp [World.frozen?,h4]
   have HS:=hide hsame
   have HB2:=hide (show Below (w.heap.size+2) w1 (w2.setCell ⟨g,k*5+3,none⟩ (.string (bs nd))) from ((uH HBr).trans (hb.mono (by have:=(uH HBr).size;omega))).setCell (by exact hsame.2) _)
   clear hb hsame HOr HBr HO2 c3
   go_wp2
   go_roundw
   case rel=>exact ⟨k+1,by omega,by go_num,hide (uH HS).1,HB2⟩
   case measure=>simp [intOf];omega
  ·have q0:=(show Blk wr w.heap.size _ 74 from ((uH HBr).block _ (by omega)).trans (uH P0))
   have q1:=(show Blk wr (w.heap.size+1) _ 74 from ((uH HBr).block _ (by omega)).trans (uH P1))
   have HQ1:=hide q1
   have HBw:=hide (show Below w.heap.size w wr from (uH HB1).trans ((uH HBr).mono (by omega)))
   have hwr:w.heap.size+2≤wr.heap.size:=by have:=(uH HBr).size;omega
   have HQ0:=hide q0
   have a0:=q0.at 0
   have a1:=q0.at 1
   simp at a0 a1
   have CL:=hide (fun wx=>clone_any (bs qu) wx hsq)
   clear q0 q1
   go_wp2_with fail
   go_region_with (go_at_call 67;refine (uH CL _).mono ?_;rintro e w2 ⟨rfl,hb⟩;have HW2:=hide (yB (Below.refl _ wr).drew hb);have b0:=((uH HQ0).below (uH HW2)).at 0;have b1:=((uH HQ0).below (uH HW2)).at 1;have T2:=(uH HQ1).below (uH HW2);have t0:=T2.at 0;have t1:=T2.at 1;have t2:=T2.at 2;have tf0:=T2.f 0;have tf1:=T2.f 1;have tf2:=T2.f 2;simp at b0 b1 t0 t1 t2;have HT2:=hide T2;clear T2 hb)
   all_goals go_wp2
   all_goals
    have X1:=(((uH HT2).set 0 (.int .i64 id)).set 1 (.string (bs qu))).set 2 (.slice xo n xc)
    have x0:=X1.at 0
    have x1:=X1.at 1
    have x2:=X1.at 2
    simp at x0 x1 x2
    refine bodyPost_ret (v:=.agg #[.int .i64 id,.string (bs qu),.slice xo n xc]) (by simp [results,Tryz.results65,go_sem,x0,x1,x2]) rfl ⟨_,rfl,?_,?_⟩
    ·exact ((((((uH HOr).below (uH HW2)).other3 (w.heap.size+1) 0 (.int .i64 id) (by omega)).other3 (w.heap.size+1) 1 (.string (bs qu)) (by omega)).other3 (w.heap.size+1) 2 (.slice xo n xc) (by omega))).base (by omega)
    ·exact yC (yC (yC (yB (uH HBw) (uH HW2)) _ _ _ (by omega)) _ _ _ (by omega)) _ _ _ (by omega)
abbrev qcell (q:Q):List Value:=[.string (bs q.name),.string (bs q.parent),.int .i64 q.due,.int .i64 q.most]
def qcells:List Q→List Value
 | []=>[]
 | q::t=>qcell q++qcells t
theorem qcells_len:∀l:List Q,(qcells l).length=l.length*4
 | []=>rfl
 | q::t=>by rw [qcells,List.length_append,qcells_len t];simp;omega
theorem qcells_at:∀(l:List Q) (i:Nat) (h:i<l.length),(qcells l)[i*4]? = some (.string (bs l[i].name))∧(qcells l)[i*4+1]? = some (.string (bs l[i].parent))∧(qcells l)[i*4+2]? = some (.int .i64 l[i].due)∧(qcells l)[i*4+3]? = some (.int .i64 l[i].most)
 | q::t,0,_=>⟨rfl,rfl,rfl,rfl⟩
 | q::t,i+1,h=>by
  have e:=qcells_at t i (by simpa using h)
  have k:∀j,(qcells (q::t))[(i+1)*4+j]? = (qcells t)[i*4+j]?:=fun j=>by
   rw [qcells,show (i+1)*4+j=(qcell q).length+(i*4+j) by simp;omega,List.getElem?_append_right (by omega)]
   congr 1
   omega
  have k0:=k 0
  simp only [Nat.add_zero] at k0
  rw [k0,k 1,k 2,k 3]
  simpa using e
def QOwn (B:Nat) (w:World) (v:Value) (l:List Q):Prop:=w.ownsRow B 100 4 v l.length (qcells l)
theorem qown_nil (B:Nat) (w:World):QOwn B w (.slice none 0 0) []:=World.ownsRow_nil _ _ _ _
theorem qown_empty (w:World):QOwn w.heap.size (w.alloc (.cells #[] 100)) (.slice (some ⟨w.heap.size,0,none⟩) 0 0) []:=
 ⟨rfl,.inr ⟨w.heap.size,0,#[],rfl,Nat.le_refl _,by show (w.heap.push _)[w.heap.size]? = _;simp,Nat.le_refl _,by unfold maxLen;omega,rfl,rfl⟩⟩
theorem QOwn.below {w w':World} {B:Nat} {v:Value} {l:List Q} (h:QOwn B w v l) (hb:Below w.heap.size w w'):QOwn B w' v l:=
 h.kept (grownBy_below (grownBy_refl w none) hb) (by by_cases e:v.ownBlock=none;exact .inl e;exact .inr e)
theorem QOwn.row {w:World} {B:Nat} {v:Value} {l:List Q} (h:QOwn B w v l):∃ao cap,v=.slice ao l.length cap∧QRow w ao l.length l∧l.length≤cap:=by
 rcases h.2 with ⟨rfl,h0⟩ | ⟨g,cap,cur,rfl,h1,h2,h3,h4,h5,h6⟩
 ·exact ⟨none,0,by rw [h0],⟨rfl,.inl h0⟩,by omega⟩
 ·refine ⟨some ⟨g,0,none⟩,cap,rfl,⟨rfl,.inr ⟨g,0,rfl,fun i hi=>?_⟩⟩,h3⟩
  obtain ⟨a,b,c,d⟩:=qcells_at l i hi
  have k:∀j (v:Value),j<l.length*4→(qcells l)[j]? = some v→w.cell? ⟨g,j,none⟩=some v:=fun j v hj hv=>by
   rw [←h6,List.getElem?_take_of_lt hj] at hv
   simp [World.cell?,h2]
   simpa using hv
  unfold QAt
  rw [Nat.zero_add]
  exact ⟨k _ _ (by omega) a,k _ _ (by omega) b,k _ _ (by omega) c,k _ _ (by omega) d⟩
theorem QOwn.some {w:World} {B:Nat} {v:Value} {l:List Q} (h:QOwn B w v l) (hl:l≠[]):∃g cap,v=.slice (some ⟨g,0,none⟩) l.length cap∧QAny w 100 g cap∧QRow w (some ⟨g,0,none⟩) l.length l∧l.length≤cap∧B≤g:=by
 obtain ⟨ao,cap,e,hr,hc⟩:=h.row
 rcases h.2 with ⟨rfl,h0⟩ | ⟨g,cap',cur,rfl,h1,h2,h3,h4,h5,h6⟩
 ·exact absurd (List.eq_nil_of_length_eq_zero h0) hl
 ·simp only [Value.slice.injEq] at e
  obtain ⟨rfl,_,rfl⟩:=e
  exact ⟨g,cap',rfl,⟨cur,h2,by omega,fun i hi=>absurd hi (by simp)⟩,hr,hc,h1⟩
theorem Tryz.infoQ:(Tryz.prog.info? 100).map (fun i=>(i.zero,i.size,i.bytes))=some (some (.agg #[.string ByteArray.empty,.string ByteArray.empty,.int .i64 0,.int .i64 0]),4,48):=by kernel_rfl
end
end Go.Proofs.YtdhibeclkdepiaaGreat
