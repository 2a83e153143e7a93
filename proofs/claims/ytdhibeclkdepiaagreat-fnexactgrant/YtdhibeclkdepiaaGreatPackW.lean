/-
  Texts in one: CloneQ, Hav, CopyC, CpC, RmL.
-/
import Derived.Test.YtdhibeclkdepiaaGreatPackV
import Derived.Test.YtdhibeclkdepiaaGreatPackU
set_option maxRecDepth 100000
set_option maxHeartbeats 16000000
set_option linter.unusedVariables false
set_option linter.unusedSimpArgs false
namespace Go.Proofs.YtdhibeclkdepiaaGreat
section
open Go.RowKit
theorem qcells_row {w:World} {b off len:Nat} {l:List Q} (h:QRow w (some ⟨b,off,none⟩) len l):∀j u,(qcells l)[j]? = some u→w.cell? ⟨b,off+j,none⟩=some u:=fun j u hj=>by
 have hjl:j<l.length*4:=by rw [←qcells_len];exact (List.getElem?_eq_some_iff.1 hj).1
 obtain ⟨h1,h2⟩:=h
 rcases h2 with h2 | ⟨b',off',e,h4⟩
 ·omega
 ·cases e
  have hi:j / 4<l.length:=by omega
  obtain ⟨a0,a1,a2,a3⟩:=qcells_at l (j / 4) hi
  obtain ⟨c0,c1,c2,c3⟩:=h4 (j / 4) hi
  rcases (show j % 4=0∨j % 4=1∨j % 4=2∨j % 4=3 by omega) with e | e | e | e
  ·rw [show j=j / 4*4 by omega] at hj ⊢;rw [a0] at hj;cases hj;exact c0
  ·rw [show j=j / 4*4+1 by omega] at hj ⊢;rw [a1] at hj;cases hj;rw [←Nat.add_assoc];exact c1
  ·rw [show j=j / 4*4+2 by omega] at hj ⊢;rw [a2] at hj;cases hj;rw [←Nat.add_assoc];exact c2
  ·rw [show j=j / 4*4+3 by omega] at hj ⊢;rw [a3] at hj;cases hj;rw [←Nat.add_assoc];exact c3
theorem qcells_one:∀(l:List Q),∀u ∈ qcells l,u.oneCell'=true
 | [],u,h=>by simp [qcells] at h
 | q::t,u,h=>by
  rw [qcells,List.mem_append] at h
  rcases h with h | h
  ·simp at h
   rcases h with rfl | rfl | rfl | rfl<;>rfl
  ·exact qcells_one t u h
theorem qown_base {w:World} {B B':Nat} {v:Value} {l:List Q} (h:QOwn B w v l) (hb:B'≤B):QOwn B' w v l:=by
 obtain ⟨h1,h2⟩:=h
 refine ⟨h1,?_⟩
 rcases h2 with h2 | ⟨g,cap,cur,a,b,c⟩
 ·exact .inl h2
 ·exact .inr ⟨g,cap,cur,a,Nat.le_trans hb b,c⟩
theorem qown_rowx {w:World} {B:Nat} {v:Value} {l:List Q} (h:QOwn B w v l):∃ao cap,v=.slice ao l.length cap∧QRow w ao l.length l∧l.length≤cap∧(l≠[]→∃g cur,ao=some ⟨g,0,none⟩∧B≤g∧w.heap[g]? = some (.cells cur 100 (0,0))∧cur.size=cap*4):=by
 obtain ⟨ao,cap,e,hr,hc⟩:=h.row
 refine ⟨ao,cap,e,hr,hc,fun hn=>?_⟩
 rcases h.2 with ⟨rfl,h0⟩ | ⟨g,cap',cur,rfl,h1,h2,h3,h4,h5,h6⟩
 ·exact absurd (List.length_eq_zero_iff.1 h0) hn
 ·simp only [Value.slice.injEq] at e
  obtain ⟨rfl,_,rfl⟩:=e
  exact ⟨g,cur,rfl,h1,h2,h5⟩
theorem cloneQ_any (ao:Option Addr) (len cap:Nat) (l:List Q) (w:World) (h:QRow w ao len l) (hl:len≤1048576) :
  Calls Tryz.prog 101 #[.slice ao len cap] w fun e w'=>∃v,e=.returned v∧QOwn w.heap.size w' v l∧Below w.heap.size w w':=by
 obtain ⟨i0,hi,hz0,hz1,hz2⟩:=info_parts Tryz.infoQ
 cases ao with
 | none=>
  have hn:len=0:=by rcases h.2 with h | ⟨b,off,e,_⟩;exact h;cases e
  subst hn
  have hl0:l=[]:=List.length_eq_zero_iff.1 h.1.symm
  subst hl0
  have hnl:∀wx,(binOp .eql 29 (.slice none 0 cap) (.slice none 0 0)).run Tryz.prog wx=.ok (.bool true) wx:=fun wx=>Lib.run_eql_slice_nil wx _ _ none 0 cap 0 0 Tryz.underlying29
  clear h hl
  go_enter Tryz.func101,Tryz.ntmps101
  go_wp2
  go_ret
  exact ⟨_,rfl,qown_nil _ _,Below.refl _ _⟩
 | some ad=>
  have hnew:∀j u,(qcells l)[j]? = some u→(w.alloc (.cells #[] 100)).cell? (ad.add j)=some u:=fun j u hj=>by
   have hjl:j<l.length*4:=by rw [←qcells_len];exact (List.getElem?_eq_some_iff.1 hj).1
   rcases h.2 with h0 | ⟨b,off,e,_⟩
   ·have:=h.1;omega
   ·cases e
    have:=qcells_row (h.below (yA (Below.refl _ w) (.cells #[] 100))) j u hj
    rw [Lib.add_plain]
    exact this
  have HNW:=hide hnew
  have HLN:=hide h.1
  have hown:(w.alloc (.cells #[] 100)).ownsRow w.heap.size 100 4 (.slice (some ⟨w.heap.size,0,none⟩) 0 0) 0 []:=qown_empty w
  have hll:(qcells l).length=len*4:=by rw [qcells_len,h.1]
  have hone:=qcells_one l
  have hnl:∀wx,(binOp .eql 29 (.slice (some ad) len cap) (.slice none 0 0)).run Tryz.prog wx=.ok (.bool false) wx:=fun wx=>Lib.run_eql_slice_nil wx _ _ (some ad) len cap 0 0 Tryz.underlying29
  clear h hnew
  go_enter Tryz.func101,Tryz.ntmps101
  go_wp2_with (at_builtin;refine wpList_append_own _ rfl _ _ 29 rfl w.heap.size 100 i0 (.agg #[.string ByteArray.empty,.string ByteArray.empty,.int .i64 0,.int .i64 0]) 4 48 Tryz.underlying29 hi hz0 hz1 hz2 rfl (by decide) _ _ _ rfl hown ad len cap (qcells l) rfl hll (uH HNW) hone ?c3 ?c4 ?c5 ?_)
  case c3=>unfold maxLen;omega
  case c4=>omega
  case c5=>simp
  intro v' w3 hown' hgrow _
  have HO:=hide (show QOwn w.heap.size w3 v' l by
   unfold QOwn
   rw [←uH HLN]
   exact hown')
  have HB:=hide (show Below w.heap.size w w3 from (yA (Below.refl _ w) (.cells #[] 100)).grown hgrow (by simp) (fun k e=>by simp [Value.ownBlock] at e;omega))
  clear hown' hgrow hown hone hll
  go_wp2
  go_ret
  exact ⟨_,rfl,uH HO,uH HB⟩
theorem set_idemQ {arr:Array Value} {j:Nat} {x:Value} (h:arr[j]? = some x):arr.setIfInBounds j x=arr:=by
 apply Array.ext
 ·simp
 ·intro i h1 h2
  rw [Array.getElem_setIfInBounds]
  split
  ·rename_i e
   subst e
   rw [Array.getElem?_eq_getElem h2] at h
   exact (Option.some.inj h).symm
  ·rfl
theorem qown_same {w:World} {B g n cap j:Nat} {x:Value} {l:List Q} (h:QOwn B w (.slice (some ⟨g,0,none⟩) n cap) l) (hc:w.cell? ⟨g,j,none⟩=some x):QOwn B (w.setCell ⟨g,j,none⟩ x) (.slice (some ⟨g,0,none⟩) n cap) l∧B≤g:=by
 obtain ⟨h1,h2⟩:=h
 rcases h2 with ⟨e,_⟩ | ⟨g',cap',cur,e,h3,h4,h5⟩
 ·cases e
 ·cases e
  have hx:cur[j]? = some x:=by simpa [World.cell?,h4] using hc
  refine ⟨⟨h1,.inr ⟨g,cap,cur,rfl,h3,?_,h5⟩⟩,h3⟩
  have:=heap_setCell_same w g j _ _ x h4
  rw [set_idemQ hx] at this
  exact this
theorem copyOfQueues_any (ao:Option Addr) (len cap:Nat) (l:List Q) (w:World) (h:QRow w ao len l) (hl:len≤1048576) (hn:∀q ∈ l,q.name.length≤1048576∧q.parent.length≤1048576) :
  Calls Tryz.prog 63 #[.slice ao len cap] w fun e w'=>∃v,e=.returned v∧QOwn w.heap.size w' v l∧Below w.heap.size w w':=by
 have HN:=hide hn
 have CC:=hide (cloneQ_any ao len cap l w h hl)
 have hll:=hide h.1
 clear h hn
 go_enter Tryz.func63,Tryz.ntmps63
 go_wp2_with fail
 refine (uH CC).mono ?_
 rintro e w1 ⟨v,rfl,ho,hb⟩
 have HB1:=hide hb
 have HO:=hide ho
 obtain ⟨xo,xc,rfl,_,hxc,hxg⟩:=(qown_rowx ho)
 obtain ⟨n,hnn⟩:∃n,l.length=n:=⟨_,rfl⟩
 have HLN:=hide hnn
 have hn2:n≤1048576:=by have:=uH hll;omega
 rw [hnn] at HO hxc ⊢
 clear ho hb CC hnn hxg
 go_wp2
 go_loopw [9] (fun i wr=>∃(k:Nat),k≤n∧i=.int .i64 k∧Hid (QOwn w.heap.size wr (.slice xo n xc) l)∧Hid (Below w.heap.size w wr)) (fun i _=>n - (intOf i).toNat)
 case atStart=>exact ⟨0,Nat.zero_le _,rfl,HO,HB1⟩
 case round=>
  obtain ⟨k,hk,rfl,HOr,HBr⟩:=hrel
  by_cases hlt:k<n
  ·have hkl:k<l.length:=by have:=uH HLN;omega
   obtain ⟨xo',xc',e,hrow,_,hg⟩:=(qown_rowx (uH HOr))
   obtain ⟨g,cur,rfl,hg1,hg2,hg3⟩:=hg (by intro e;rw [e] at hkl;simp at hkl)
   rw [uH HLN] at e hrow
   cases e
   obtain ⟨b',off',e',hat⟩:=hrow.at hlt
   cases e'
   have c0:=(hat hkl).1
   have c1:=(hat hkl).2.1
   simp only [Nat.zero_add] at c0 c1
   have hnd:=uH HN l[k] (List.getElem_mem _)
   obtain ⟨⟨na,pa,du,mo⟩,hs⟩:∃s,l[k]=s:=⟨_,rfl⟩
   rw [hs] at c0 c1 hnd
   simp only at c0 c1 hnd
   have hs1:(bs na).size≤281474976710656:=by rw [bs_size];omega
   have hs2:(bs pa).size≤281474976710656:=by rw [bs_size];omega
   have k0:(0:Int)≤k:=by omega
   have k1:(k:Int)<n:=by omega
   have hgs:g<wr.heap.size:=lt_of_block hg2
   clear hat hrow hg2 hg3 hs hkl hnd
   go_wp2_with fail
   refine (clone_any (bs na) _ hs1).mono ?_
   rintro e w2 ⟨rfl,hb⟩
   have HO2:=hide ((uH HOr).below hb)
   have c0':=(hb.cell (p:=⟨g,k*4,none⟩) hgs).trans c0
   have c1':=(hb.cell (p:=⟨g,k*4+1,none⟩) hgs).trans c1
   have hsame:=(qown_same (uH HO2) c0')
   have hfz:∀j,w2.frozen? ⟨g,j,none⟩=false:=fun j=>by
    rcases (uH HO2).2 with ⟨e,_⟩ | ⟨g',cap',cur',e,_,h4,_⟩
    ·cases e
    ·cases e;simp [World.frozen?,h4]
   have f0:=hfz (k*4)
   have HB2:=hide (show Below w.heap.size w (w2.setCell ⟨g,k*4,none⟩ (.string (bs na))) from (yB (uH HBr) hb).setCell (by exact hsame.2) _)
   have hg2':g<w2.heap.size:=Nat.lt_of_lt_of_le hgs hb.size
   have d1:(w2.setCell ⟨g,k*4,none⟩ (.string (bs na))).cell? ⟨g,k*4+1,none⟩=some (.string (bs pa)):=cell_keep c1' (by omega)
   have HS:=hide hsame
   obtain ⟨W3,hW3⟩:∃W,w2.setCell ⟨g,k*4,none⟩ (.string (bs na))=W:=⟨_,rfl⟩
   rw [hW3] at HB2 d1 HS
   have hgW:g<W3.heap.size:=yG d1
   clear hb hsame HOr HBr HO2 c0 c1 c1' hfz
   go_wp2_with fail
   refine (clone_any (bs pa) _ hs2).mono ?_
   rintro e w4 ⟨rfl,hb⟩
   have HO4:=hide ((uH HS).1.below hb)
   have d1':=(hb.cell (p:=⟨g,k*4+1,none⟩) hgW).trans d1
   have hsame:=(qown_same (uH HO4) d1')
   have f1:w4.frozen? ⟨g,k*4+1,none⟩=false:=by
    rcases (uH HO4).2 with ⟨e,_⟩ | ⟨g',cap',cur',e,_,h4,_⟩
    ·cases e
    ·cases e;simp [World.frozen?,h4]
   have HB4:=hide (show Below w.heap.size w (w4.setCell ⟨g,k*4+1,none⟩ (.string (bs pa))) from (yB (uH HB2) hb).setCell (by exact hsame.2) _)
   have HS4:=hide hsame.1
   clear hb hsame HS HO4 HB2 c0' d1 hW3 f0
   go_wp2
   go_roundw
   case rel=>exact ⟨k+1,by omega,by go_num,HS4,HB4⟩
   case measure=>simp [intOf];omega
  ·have k1:¬(k:Int)<n:=by omega
   go_wp2
   go_ret
   exact ⟨_,rfl,uH HOr,uH HBr⟩
theorem Own1.grow {B E:Nat} {w w':World} {t:TypeId} {sz n:Nat} {ao:Option Addr} (h:Own1 B E w t sz ao n) (hb:Below w.heap.size w w') (hE:E≤w.heap.size):Own1 B w'.heap.size w' t sz ao n:=(h.below hb).mono (Nat.le_refl _) (Nat.le_trans hE hb.size)
theorem not_in {B E k:Nat} {w:World} {t:TypeId} {sz n:Nat} {ao:Option Addr} (h:Own1 B E w t sz ao n) (hk:k<B∨E≤k):∀i,inR ao n i→¬(i=k):=fun i hi e=>by
 obtain ⟨h1,h2,_⟩:=h.lies i hi
 omega
def QHas (B:Nat) (w:World) (ao:Option Addr) (n:Nat) (l:List Q):Prop:=QRow w ao n l∧Own1 B w.heap.size w 100 4 ao n
theorem QHas.below {B n:Nat} {w w':World} {ao:Option Addr} {l:List Q} (h:QHas B w ao n l) (hb:Below w.heap.size w w'):QHas B w' ao n l:=⟨h.1.below hb,h.2.grow hb (Nat.le_refl _)⟩
theorem QHas.sc {B n k j:Nat} {v:Value} {w:World} {ao:Option Addr} {l:List Q} (h:QHas B w ao n l) (hk:k<B):QHas B (w.setCell ⟨k,j,none⟩ v) ao n l:=
 ⟨h.1.mks (Mks.one (fun x=>x=k) w k j v rfl) (not_in h.2 (.inl hk)),by rw [set_size];exact h.2.mks (Mks.one (fun x=>x=k) w k j v rfl)⟩
theorem QOwn.has {B:Nat} {w:World} {v:Value} {l:List Q} (h:QOwn B w v l):∃ao cap,v=.slice ao l.length cap∧l.length≤cap∧QHas B w ao l.length l:=by
 obtain ⟨ao,cap,e,hr,hc,hg⟩:=qown_rowx h
 refine ⟨ao,cap,e,hc,hr,?_⟩
 by_cases hz:l=[]
 ·exact .inl (by rw [hz];rfl)
 ·obtain ⟨g,cur,e,h1,h2,h3⟩:=hg hz
  exact .inr ⟨g,cap,e,h1,lt_of_block h2,⟨cur,h2,h3⟩,hc⟩
def MHas (B:Nat) (w:World) (ao:Option Addr) (n:Nat) (l:List Mac):Prop:=MacRow w ao n l∧Own1 B w.heap.size w 104 4 ao n
theorem MHas.below {B n:Nat} {w w':World} {ao:Option Addr} {l:List Mac} (h:MHas B w ao n l) (hb:Below w.heap.size w w'):MHas B w' ao n l:=⟨h.1.below hb,h.2.grow hb (Nat.le_refl _)⟩
theorem MHas.sc {B n k j:Nat} {v:Value} {w:World} {ao:Option Addr} {l:List Mac} (h:MHas B w ao n l) (hk:k<B):MHas B (w.setCell ⟨k,j,none⟩ v) ao n l:=
 ⟨h.1.mks (Mks.one (fun x=>x=k) w k j v rfl) (not_in h.2 (.inl hk)),by rw [set_size];exact h.2.mks (Mks.one (fun x=>x=k) w k j v rfl)⟩
theorem mown_has {B:Nat} {w:World} {v:Value} {l:List Mac} (h:MOwn B w v l):∃ao cap,v=.slice ao l.length cap∧l.length≤cap∧MHas B w ao l.length l:=by
 obtain ⟨ao,cap,e,hr,hc,hg⟩:=mown_row h
 refine ⟨ao,cap,e,hc,hr,?_⟩
 by_cases hz:l=[]
 ·exact .inl (by rw [hz];rfl)
 ·obtain ⟨g,cur,e,h1,h2,h3⟩:=hg hz
  exact .inr ⟨g,cap,e,h1,lt_of_block h2,⟨cur,h2,h3⟩,hc⟩
def CHas (B:Nat) (w:World) (ao:Option Addr) (n:Nat) (l:List Con):Prop:=ConRow w ao n l∧Own1 B w.heap.size w 38 5 ao n
theorem CHas.below {B n:Nat} {w w':World} {ao:Option Addr} {l:List Con} (h:CHas B w ao n l) (hb:Below w.heap.size w w'):CHas B w' ao n l:=⟨h.1.below hb,h.2.grow hb (Nat.le_refl _)⟩
theorem CHas.sc {B n k j:Nat} {v:Value} {w:World} {ao:Option Addr} {l:List Con} (h:CHas B w ao n l) (hk:k<B):CHas B (w.setCell ⟨k,j,none⟩ v) ao n l:=
 ⟨h.1.mks (Mks.one (fun x=>x=k) w k j v rfl) (not_in h.2 (.inl hk)),by rw [set_size];exact h.2.mks (Mks.one (fun x=>x=k) w k j v rfl)⟩
theorem CHas.base {B B' n:Nat} {w:World} {ao:Option Addr} {l:List Con} (h:CHas B w ao n l) (hb:B'≤B):CHas B' w ao n l:=⟨h.1,h.2.mono hb (Nat.le_refl _)⟩
theorem cown_has {B:Nat} {w:World} {v:Value} {l:List Con} (h:COwn B w v l):∃ao cap,v=.slice ao l.length cap∧l.length≤cap∧CHas B w ao l.length l:=by
 obtain ⟨ao,cap,e,hr,hc,hg⟩:=cown_row h
 refine ⟨ao,cap,e,hc,hr,?_⟩
 by_cases hz:l=[]
 ·exact .inl (by rw [hz];rfl)
 ·obtain ⟨g,cur,e,h1,h2,h3⟩:=hg hz
  exact .inr ⟨g,cap,e,h1,lt_of_block h2,⟨cur,h2,h3⟩,hc⟩
def PHas (B:Nat) (w:World) (ao:Option Addr) (n:Nat) (hs:List AV):Prop:=AVRow w ao n hs∧Own1 B w.heap.size w 74 3 ao n
theorem PHas.below {B n:Nat} {w w':World} {ao:Option Addr} {l:List AV} (h:PHas B w ao n l) (hb:Below w.heap.size w w'):PHas B w' ao n l:=⟨h.1.below hb,h.2.grow hb (Nat.le_refl _)⟩
theorem PHas.sc {B n k j:Nat} {v:Value} {w:World} {ao:Option Addr} {l:List AV} (h:PHas B w ao n l) (hk:k<B):PHas B (w.setCell ⟨k,j,none⟩ v) ao n l:=
 ⟨h.1.mks (Mks.one (fun x=>x=k) w k j v rfl) (not_in h.2 (.inl hk)),by rw [set_size];exact h.2.mks (Mks.one (fun x=>x=k) w k j v rfl)⟩
theorem pown_has {B:Nat} {w:World} {v:Value} {l:List AV} (h:POwn B w v l):∃ao cap,v=.slice ao l.length cap∧l.length≤cap∧PHas B w ao l.length l:=by
 obtain ⟨ao,cap,e,hr,hc,hg⟩:=pown_row h
 refine ⟨ao,cap,e,hc,hr,?_⟩
 by_cases hz:l=[]
 ·exact .inl (by rw [hz];rfl)
 ·obtain ⟨g,cur,e,h1,h2,h3⟩:=hg hz
  exact .inr ⟨g,cap,e,h1,lt_of_block h2,⟨cur,h2,h3⟩,hc⟩
structure KHas (B:Nat) (w:World) (ns:List AV) (l:List Appl):Prop where
 heads:Heads w ns l
 own:∀v ∈ ns,Own1 B w.heap.size w 77 5 v.ao v.len
 apart:ns.Pairwise Apart
theorem KHas.below {B:Nat} {w w':World} {ns:List AV} {l:List Appl} (h:KHas B w ns l) (hb:Below w.heap.size w w'):KHas B w' ns l:=⟨h.heads.below hb,fun v hv=>(h.own v hv).grow hb (Nat.le_refl _),h.apart⟩
theorem KHas.sc {B k j:Nat} {v:Value} {w:World} {ns:List AV} {l:List Appl} (h:KHas B w ns l) (hk:k<B∨∃t N,Cel w t k N∧t≠77):KHas B (w.setCell ⟨k,j,none⟩ v) ns l:=by
 have key:∀u ∈ ns,∀i,inR u.ao u.len i→¬(i=k):=fun u hu i hi e=>by
  obtain ⟨h1,h2,N,hc⟩:=(h.own u hu).lies i hi
  subst e
  rcases hk with hk | ⟨t,N',hc',ht⟩
  ·omega
  ·exact ht (hc'.type hc)
 refine ⟨⟨h.heads.1,fun i h1 h2=>?_⟩,fun u hu=>?_,h.apart⟩
 ·obtain ⟨a,b,c,d⟩:=h.heads.2 i h1 h2
  exact ⟨a,b,c.mks (Mks.one (fun x=>x=k) w k j v rfl) (key _ (List.getElem_mem h1)),d⟩
 ·rw [set_size]
  exact (h.own u hu).mks (Mks.one (fun x=>x=k) w k j v rfl)
theorem KHas.nil (B:Nat) (w:World):KHas B w [] []:=⟨⟨rfl,fun i h=>absurd h (by simp)⟩,fun v hv=>absurd hv (by simp),.nil⟩
theorem aown_has {B:Nat} {w:World} {v:Value} {l:List Ask} (h:AOwn B w v l):∃ao cap,v=.slice ao l.length cap∧l.length≤cap∧AskRow w ao l.length l∧Own1 B w.heap.size w 77 5 ao l.length:=by
 obtain ⟨ao,cap,e,hr,hc,hg⟩:=h.row
 refine ⟨ao,cap,e,hc,hr,?_⟩
 by_cases hz:l=[]
 ·exact .inl (by rw [hz];rfl)
 ·obtain ⟨g,cur,e,h1,h2,h3⟩:=hg hz
  exact .inr ⟨g,cap,e,h1,lt_of_block h2,⟨cur,h2,h3⟩,hc⟩
theorem KHas.snoc {B:Nat} {w w':World} {ns:List AV} {l:List Appl} (h:KHas B w ns l) (hb:Below w.heap.size w w') (hB:B≤w.heap.size) (id:Int) (qu:List UInt8) (ao:Option Addr) (cap:Nat) (k:List Ask) (hc:k.length≤cap)
  (hr:AskRow w' ao k.length k) (ho:Own1 w.heap.size w'.heap.size w' 77 5 ao k.length):KHas B w' (ns++[⟨id,qu,ao,k.length,cap⟩]) (l++[⟨id,qu,k⟩]):=by
 have h':=h.below hb
 refine ⟨⟨by simp [h.heads.1],fun i h1 h2=>?_⟩,fun v hv=>?_,?_⟩
 ·by_cases hi:i<ns.length
  ·have hi':i<l.length:=by rw [←h.heads.1];exact hi
   rw [List.getElem_append_left hi,List.getElem_append_left hi']
   exact h'.heads.2 i hi hi'
  ·have hi1:i=ns.length:=by simp at h1;omega
   subst hi1
   have hl:ns.length=l.length:=h.heads.1
   simp only [List.getElem_append_right (Nat.le_refl _),Nat.sub_self,List.getElem_cons_zero]
   rw [List.getElem_append_right (by omega)]
   simp only [hl,Nat.sub_self,List.getElem_cons_zero]
   exact ⟨trivial,trivial,hr,hc⟩
 ·rcases List.mem_append.1 hv with hv | hv
  ·exact h'.own v hv
  ·simp at hv
   subst hv
   exact ho.mono hB (Nat.le_refl _)
 ·refine List.pairwise_append.2 ⟨h.apart,by simp,fun u hu v hv=>?_⟩
  simp at hv
  subst hv
  rcases h.own u hu with e | ⟨g1,M1,e1,_,h3,_⟩
  ·exact .inl e
  ·rcases ho with e | ⟨g2,M2,e2,h4,_⟩
   ·exact .inr (.inl e)
   ·refine .inr (.inr (fun e=>?_))
    simp only at e
    rw [e1,e2] at e
    cases e
    omega
theorem appl_of {w:World} {ao:Option Addr} {n:Nat} {hs:List AV} {l:List Appl} (h:AVRow w ao n hs) (hh:Heads w hs l):ApplRow w ao n l:=by
 refine ⟨h.1.trans hh.1,?_⟩
 rcases h.2 with e | ⟨b,off,e,hc⟩
 ·exact .inl e
 ·refine .inr ⟨b,off,e,fun i hi=>?_⟩
  have hi':i<hs.length:=by rw [hh.1];exact hi
  obtain ⟨a1,a2,a3,a4⟩:=hh.2 i hi' hi
  obtain ⟨c1,c2,c3⟩:=hc i hi'
  rw [a1] at c1
  rw [a2] at c2
  exact ⟨hs[i].ao,hs[i].len,hs[i].cap,c1,c2,c3,a3,a4⟩
theorem sans_of {B:Nat} {w:World} {x:Sls} {s:St} {hs:List AV} (q:QHas B w x.qa x.ql s.qs) (a:PHas B w x.aa x.al hs) (k:KHas B w hs s.apps) (m:MHas B w x.ma x.ml s.ms) (c:CHas B w x.ca x.cl s.cs) (cap:SCap x) (rm:RmS B w.heap.size w x hs):SAns B w.heap.size w x s hs:=
 ⟨⟨q.1,appl_of a.1 k.heads,m.1,c.1⟩,q.2,a.2,m.2,c.2,a.1,k.heads,k.own,k.apart,cap,rm⟩
theorem copyOfCont_any (q:Con) (w:World) (hn:q.node.length≤1048576) :
  Calls Tryz.prog 73 #[conv q] w fun e w'=>e=.returned (conv q)∧Below w.heap.size w w':=by
 obtain ⟨id,ap,nd,me,cp⟩:=q
 simp only at hn
 have hs:(bs nd).size≤281474976710656:=by rw [bs_size];omega
 have HB0:=hide (yA (yA (Below.refl _ w) (.cells #[.int .i64 id,.int .i64 ap,.string (bs nd),.int .i64 me,.int .i64 cp] 38)) (.cells #[.int .i64 0,.int .i64 0,.string ByteArray.empty,.int .i64 0,.int .i64 0] 38))
 have P0:=hide ((yD w #[.int .i64 id,.int .i64 ap,.string (bs nd),.int .i64 me,.int .i64 cp] 38).al (.cells #[.int .i64 0,.int .i64 0,.string ByteArray.empty,.int .i64 0,.int .i64 0] 38))
 have P1:=hide (show Blk _ (w.heap.size+1) #[.int .i64 0,.int .i64 0,.string ByteArray.empty,.int .i64 0,.int .i64 0] 38 by have:=yD (w.alloc (.cells #[.int .i64 id,.int .i64 ap,.string (bs nd),.int .i64 me,.int .i64 cp] 38)) #[.int .i64 0,.int .i64 0,.string ByteArray.empty,.int .i64 0,.int .i64 0] 38;rwa [yE] at this)
 clear hn
 go_enter Tryz.func73,Tryz.ntmps73
 go_wp2_with fail
 refine (clone_any (bs nd) _ hs).mono ?_
 rintro e w1 ⟨rfl,hb⟩
 have HB1:=hide (yB (uH HB0) hb)
 have Q0:=hide ((uH P0).below hb)
 have Q1:=hide ((uH P1).below hb)
 clear hb HB0 P0 P1
 have d2:=(uH Q0).at 2
 have f2:=(uH Q0).f 2
 simp at d2
 go_upto_region 2 with fail
 have HB2:=hide (yC (uH HB1) w.heap.size 2 (.string (bs nd)) (Nat.le_refl _))
 have R0:=hide (show Blk (w1.setCell ⟨w.heap.size,2,none⟩ (.string (bs nd))) w.heap.size #[.int .i64 id,.int .i64 ap,.string (bs nd),.int .i64 me,.int .i64 cp] 38 from (uH Q0).set 2 (.string (bs nd)))
 have R1:=hide ((uH Q1).other w.heap.size 2 (.string (bs nd)) (by omega))
 generalize w1.setCell ⟨w.heap.size,2,none⟩ (.string (bs nd))=w2 at HB2 R0 R1 ⊢
 clear d2 f2 HB1 Q0 Q1
 have a0:=(uH R0).at 0;have a1:=(uH R0).at 1;have a2:=(uH R0).at 2;have a3:=(uH R0).at 3;have a4:=(uH R0).at 4
 have c0:=(uH R1).at 0;have c1:=(uH R1).at 1;have c2:=(uH R1).at 2;have c3:=(uH R1).at 3;have c4:=(uH R1).at 4
 have f0:=(uH R1).f 0;have f1:=(uH R1).f 1;have f2:=(uH R1).f 2;have f3:=(uH R1).f 3;have f4:=(uH R1).f 4
 simp at a0 a1 a2 a3 a4 c0 c1 c2 c3 c4
 go_wp2
 have HB9:=hide (yC (yC (yC (yC (yC (uH HB2) (w.heap.size+1) 0 (.int .i64 id) (by omega)) (w.heap.size+1) 1 (.int .i64 ap) (by omega)) (w.heap.size+1) 2 (.string (bs nd)) (by omega)) (w.heap.size+1) 3 (.int .i64 me) (by omega)) (w.heap.size+1) 4 (.int .i64 cp) (by omega))
 have R9:=hide (show Blk (((((w2.setCell ⟨w.heap.size+1,0,none⟩ (.int .i64 id)).setCell ⟨w.heap.size+1,1,none⟩ (.int .i64 ap)).setCell ⟨w.heap.size+1,2,none⟩ (.string (bs nd))).setCell ⟨w.heap.size+1,3,none⟩ (.int .i64 me)).setCell ⟨w.heap.size+1,4,none⟩ (.int .i64 cp)) (w.heap.size+1) #[.int .i64 id,.int .i64 ap,.string (bs nd),.int .i64 me,.int .i64 cp] 38 from (((((uH R1).set 0 (.int .i64 id)).set 1 (.int .i64 ap)).set 2 (.string (bs nd))).set 3 (.int .i64 me)).set 4 (.int .i64 cp))
 generalize (((((w2.setCell ⟨w.heap.size+1,0,none⟩ (.int .i64 id)).setCell ⟨w.heap.size+1,1,none⟩ (.int .i64 ap)).setCell ⟨w.heap.size+1,2,none⟩ (.string (bs nd))).setCell ⟨w.heap.size+1,3,none⟩ (.int .i64 me)).setCell ⟨w.heap.size+1,4,none⟩ (.int .i64 cp))=W9 at HB9 R9 ⊢
 have z0:=(uH R9).at 0;have z1:=(uH R9).at 1;have z2:=(uH R9).at 2;have z3:=(uH R9).at 3;have z4:=(uH R9).at 4
 simp at z0 z1 z2 z3 z4
 refine bodyPost_ret (v:=.agg #[.int .i64 id,.int .i64 ap,.string (bs nd),.int .i64 me,.int .i64 cp]) (by simp [results,Tryz.results73,go_sem,z0,z1,z2,z3,z4]) rfl ⟨rfl,uH HB9⟩
theorem CHas.blk {B n k:Nat} {w:World} {ao:Option Addr} {l:List Con} (h:CHas B w ao n l) (hk:k<n):∃g,ao=some ⟨g,0,none⟩∧B≤g∧g<w.heap.size∧(∀j,w.frozen? ⟨g,j,none⟩=false)∧∀i (hi:i<l.length),ConAt w g (i*5) l[i]:=by
 obtain ⟨⟨h1,h2⟩,h3⟩:=h
 rcases h3 with e | ⟨g,M,rfl,hB,hE,hc,hn⟩
 ·omega
 ·rcases h2 with e | ⟨b,off,e,hh⟩
  ·omega
  ·cases e
   exact ⟨g,rfl,hB,hE,fun j=>hc.frozen j,fun i hi=>by have:=hh i hi;rwa [Nat.zero_add] at this⟩
theorem copyOfConts_any (ao:Option Addr) (len cap:Nat) (cs:List Con) (w:World) (h:ConRow w ao len cs) (hl:len≤1048576) (hn:∀c ∈ cs,c.node.length≤1048576) :
  Calls Tryz.prog 68 #[.slice ao len cap] w fun e w'=>∃co cd,e=.returned (.slice co cs.length cd)∧cs.length≤cd∧CHas w.heap.size w' co cs.length cs∧Own1 w.heap.size w'.heap.size w' 38 5 co cd∧Below w.heap.size w w':=by
 have HF:=hide hn
 have CC:=hide (cloneCont_any ao len cap cs w h hl)
 have hll:=hide h.1
 clear h hn
 go_enter Tryz.func68,Tryz.ntmps68
 go_wp2_with fail
 refine (uH CC).mono ?_
 rintro e w9 ⟨v,rfl,ho,hb⟩
 obtain ⟨co,cd,rfl,hcd,hch⟩:=cown_has ho
 obtain ⟨n4,hn4⟩:∃n,cs.length=n:=⟨_,rfl⟩
 rw [hn4] at hch hcd ⊢
 have OC:=hide hch
 have HO9:=hide (own1_of ho)
 have HB9:=hide hb
 have HN4:=hide hn4
 have hl4:n4≤1048576:=by have:=uH hll;omega
 clear ho hb hch CC hn4
 go_wp2
 go_loopw [4,5,10] (fun _ _ i wr=>∃(q:Nat),q≤n4∧i=.int .i64 q∧Hid (CHas w.heap.size wr co n4 cs)∧Hid (Own1 w.heap.size wr.heap.size wr 38 5 co cd)∧Hid (Below w.heap.size w wr)) (fun _ _ i _=>n4 - (intOf i).toNat)
 case atStart=>exact ⟨0,Nat.zero_le _,rfl,OC,HO9,HB9⟩
 case round=>
  obtain ⟨q,hq,rfl,HC,HO,HB⟩:=hrel
  clear OC HO9 HB9
  by_cases hlt:q<n4
  ·obtain ⟨g,rfl,hgB,hgE,hfz,hat⟩:=(uH HC).blk hlt
   have hjl:q<cs.length:=by have:=uH HN4;omega
   obtain ⟨c0,c1,c2,c3,c4⟩:=hat q hjl
   have hnm:=uH HF cs[q] (List.getElem_mem hjl)
   obtain ⟨⟨ci,cap,cn,me,cp⟩,hm⟩:∃m,cs[q]=m:=⟨_,rfl⟩
   rw [hm] at c0 c1 c2 c3 c4 hnm
   simp only at c0 c1 c2 c3 c4 hnm
   have HW:=hide (yA (Below.refl _ wr) (.cells #[.int .i64 ci,.int .i64 cap,.string (bs cn),.int .i64 me,.int .i64 cp] 38))
   have XC:=hide ((uH HC).below (uH HW))
   have XB:=hide (yB (uH HB) (uH HW))
   have XO:=hide ((uH HO).grow (uH HW) (Nat.le_refl _))
   have XA:=hide (yD wr #[.int .i64 ci,.int .i64 cap,.string (bs cn),.int .i64 me,.int .i64 cp] 38)
   have D0:=hide (cellBel c0 (uH HW))
   have D1:=hide (cellBel c1 (uH HW))
   have D2:=hide (cellBel c2 (uH HW))
   have D3:=hide (cellBel c3 (uH HW))
   have D4:=hide (cellBel c4 (uH HW))
   have CL:=hide (fun wx=>copyOfCont_any ⟨ci,cap,cn,me,cp⟩ wx hnm)
   have j0:(0:Int)≤q:=by omega
   have j1:(q:Int)<n4:=by omega
   clear hat hm hjl hfz hnm
   obtain ⟨W,hW⟩:∃W,wr.alloc (.cells #[.int .i64 ci,.int .i64 cap,.string (bs cn),.int .i64 me,.int .i64 cp] 38)=W:=⟨_,rfl⟩
   have XA1:=uH XA
   rw [hW] at XC XB XO D0 D1 D2 D3 D4 XA1
   have xa0:=(uH XA).at 0
   have xa1:=(uH XA).at 1
   have xa2:=(uH XA).at 2
   have xa3:=(uH XA).at 3
   have xa4:=(uH XA).at 4
   simp at xa0 xa1 xa2 xa3 xa4
   have HWW:=hide hW
   clear hW HW HC HB HO XA XA1
   go_wp2_with fail
   refine (uH CL _).mono ?_
   rintro e w6 ⟨rfl,hb⟩
   rw [uH HWW] at hb
   have HB6:=hide (yB (Below.refl _ W) hb)
   clear c0 c1 c2 c3 c4
   have c0:=cellBel (uH D0) (uH HB6);have c1:=cellBel (uH D1) (uH HB6);have c2:=cellBel (uH D2) (uH HB6);have c3:=cellBel (uH D3) (uH HB6);have c4:=cellBel (uH D4) (uH HB6)
   have s0:=sc_same c0;have s1:=sc_same c1;have s2:=sc_same c2;have s3:=sc_same c3;have s4:=sc_same c4
   obtain ⟨g',e',_,_,hfz,_⟩:=((uH XC).below (uH HB6)).blk hlt
   cases e'
   have z0:=hfz (q*5);have z1:=hfz (q*5+1);have z2:=hfz (q*5+2);have z3:=hfz (q*5+3);have z4:=hfz (q*5+4)
   clear hb hfz
   go_wp2
   go_roundw
   case rel=>exact ⟨q+1,by omega,by go_num,hide ((uH XC).below (uH HB6)),hide ((uH XO).grow (uH HB6) (Nat.le_refl _)),hide (yB (uH XB) (uH HB6))⟩
   case measure=>simp [intOf];omega
  ·obtain rfl:q=n4:=by omega
   have j1:¬(q:Int)<q:=by omega
   clear hlt
   go_wp2
   go_ret
   rw [uH HN4]
   exact ⟨co,cd,rfl,hcd,uH HC,uH HO,uH HB⟩
def RmL (B:Nat) (w:World) (l:List (TypeId×Nat×Option Addr×Nat)):Prop:=∀p ∈ l,Own1 B w.heap.size w p.1 p.2.1 p.2.2.1 p.2.2.2
theorem RmL.nil (B:Nat) (w:World):RmL B w []:=fun p hp=>absurd hp (by simp)
theorem RmL.cons {B:Nat} {w:World} {l:List (TypeId×Nat×Option Addr×Nat)} {t:TypeId} {sz c:Nat} {ao:Option Addr} (h:Own1 B w.heap.size w t sz ao c) (hl:RmL B w l):RmL B w ((t,sz,ao,c)::l):=fun p hp=>by
 rcases List.mem_cons.1 hp with rfl | hp
 ·exact h
 ·exact hl p hp
theorem RmL.sub {B:Nat} {w:World} {l l':List (TypeId×Nat×Option Addr×Nat)} (h:RmL B w l) (hs:∀p ∈ l',p ∈ l):RmL B w l':=fun p hp=>h p (hs p hp)
theorem RmL.below {B:Nat} {w w':World} {l:List (TypeId×Nat×Option Addr×Nat)} (h:RmL B w l) (hb:Below w.heap.size w w'):RmL B w' l:=fun p hp=>((h p hp).below hb).mono (Nat.le_refl _) hb.size
theorem own1_sc {B:Nat} {w:World} {t:TypeId} {sz n:Nat} {ao:Option Addr} (h:Own1 B w.heap.size w t sz ao n) (k j:Nat) (v:Value):Own1 B (w.setCell ⟨k,j,none⟩ v).heap.size (w.setCell ⟨k,j,none⟩ v) t sz ao n:=(h.sc k j v).mono (Nat.le_refl _) (by rw [set_size];exact Nat.le_refl _)
theorem RmL.sc {B:Nat} {w:World} {l:List (TypeId×Nat×Option Addr×Nat)} (h:RmL B w l) (k j:Nat) (v:Value):RmL B (w.setCell ⟨k,j,none⟩ v) l:=fun p hp=>own1_sc (h p hp) k j v
theorem RmL.grown {B:Nat} {w w':World} {l:List (TypeId×Nat×Option Addr×Nat)} {t':TypeId} {r:Option Nat} (h:RmL B w l) (hg:w.grownBy w' r) (hr:∀k,r=some k→∃N,Cel w t' k N) (ht:∀p ∈ l,t'≠p.1):RmL B w' l:=fun p hp=>by
 rcases h p hp with e | ⟨g,M,e,h1,h2,h3,h4⟩
 ·exact .inl e
 ·refine .inr ⟨g,M,e,h1,Nat.lt_of_lt_of_le h2 hg.size,h3.of_block (hg.block g h2 (fun e2=>?_)),h4⟩
  obtain ⟨N,hc⟩:=hr g e2.symm
  exact ht p hp (hc.type h3)
def RL4 (co:Option Addr) (cd:Nat) (mo:Option Addr) (md:Nat) (qo:Option Addr) (qd:Nat) (ns:List AV):List (TypeId×Nat×Option Addr×Nat):=(38,5,co,cd)::(104,4,mo,md)::(100,4,qo,qd)::ns.map (fun v=>(77,5,v.ao,v.cap))
theorem rl4_snoc (co:Option Addr) (cd:Nat) (mo:Option Addr) (md:Nat) (qo:Option Addr) (qd:Nat) (ns:List AV) (v:AV):∀p ∈ RL4 co cd mo md qo qd (ns++[v]),p ∈ (77,5,v.ao,v.cap)::RL4 co cd mo md qo qd ns:=fun p hp=>by
 simp only [RL4,List.map_append,List.map_cons,List.map_nil,List.mem_cons,List.mem_append,List.not_mem_nil,or_false] at hp ⊢
 rcases hp with h | h | h | h | h<;>simp [h]
theorem rl4_app (co:Option Addr) (cd:Nat) (mo:Option Addr) (md:Nat) (qo:Option Addr) (qd:Nat) (ns:List AV):∀p ∈ RL4 co cd mo md qo qd ns,74≠p.1:=fun p hp=>by
 simp only [RL4,List.mem_cons,List.mem_map] at hp
 rcases hp with rfl | rfl | rfl | ⟨v,_,rfl⟩<;>(simp only;decide)
theorem rms_of {B:Nat} {w:World} {x:Sls} {hs:List AV} (h:RmL B w (RL4 x.ca x.cc x.ma x.mc x.qa x.qc hs)) (ha:Own1 B w.heap.size w 74 3 x.aa x.ac):RmS B w.heap.size w x hs:=
 ⟨h (100,4,x.qa,x.qc) (by simp [RL4]),ha,h (104,4,x.ma,x.mc) (by simp [RL4]),h (38,5,x.ca,x.cc) (by simp [RL4]),fun v hv=>h (77,5,v.ao,v.cap) (by simp only [RL4,List.mem_cons,List.mem_map];exact .inr (.inr (.inr ⟨v,hv,rfl⟩)))⟩
end
end Go.Proofs.YtdhibeclkdepiaaGreat
