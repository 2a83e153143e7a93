/-
  Texts in one: MarkA, ARow, SumS4, CapS.
-/
import Derived.Test.YtjkfappkpopbdaaGreatSackF
set_option maxRecDepth 100000
set_option maxHeartbeats 16000000
set_option linter.unusedVariables false
set_option linter.unusedSimpArgs false
namespace Go.Proofs.YtjkfappkpopbdaaGreat
section
open Go.RowKit
def AskOne (w0:World) (b p:Nat) (q:Ask) (w:World):Prop:=AskAt w b p q∧Below w0.heap.size w0 w
theorem AskOne.call {w0 w w':World} {b p:Nat} {q:Ask} (h:AskOne w0 b p q w) (hb:Below w.heap.size w w'):AskOne w0 b p q w':=⟨h.1.below hb,yB h.2 hb⟩
theorem AskOne.drew {w0 w:World} {b p:Nat} {q:Ask} (h:AskOne w0 b p q w):AskOne w0 b p q w.drew:=h.call (yH _ _).drew
theorem AskOne.read (w0:World) (b p:Nat) (q:Ask):∀wx,AskOne w0 b p q wx→wx.cell? ⟨b,p,none⟩=some (.int .i64 q.mem)∧wx.cell? ⟨b,p+1,none⟩=some (.int .i64 q.cpu)∧wx.cell? ⟨b,p+2,none⟩=some (.int .i64 q.count)∧wx.cell? ⟨b,p+3,none⟩=some (.string (bs q.node))∧wx.cell? ⟨b,p+4,none⟩=some (.int .i64 q.missed):=
 fun wx h=>h.1
theorem heldAskS_any (ao:Option Addr) (n c K:Nat) (w:World) (h:AskRow w ao n (marksA K n)) (hn:n≤1048576) (h0:0<K) (h1:K≤1000000000000000) :
  Calls Tryz.prog 111 #[.slice ao n c,.int .i64 (K:Int)] w fun e w'=>e=.returned (.int .i64 ((K:Int)+5*(n:Int)))∧Below w.heap.size w w':=by
 have HR:=hide h
 clear h
 go_enter Tryz.func111,Tryz.ntmps111
 go_wp2
 go_loopw [1,5] (fun s i wr=>∃(j:Nat) (k:Int),j≤n∧i=.int .i64 j∧s=.int .i64 k∧k=(K:Int)+5*(j:Int)∧Hid (Below w.heap.size w wr)) (fun _ i _=>n - (intOf i).toNat)
 case atStart=>exact ⟨0,K,Nat.zero_le _,rfl,rfl,by omega,hide (yH _ _)⟩
 case round=>
  obtain ⟨j,k,hj,rfl,rfl,hk,HB⟩:=hrel
  by_cases hlt:j<n
  ·obtain ⟨b,off,rfl,hq⟩:=((uH HR).below (uH HB)).at hlt
   have hqq:=hq (by rw [marksA_len];exact hlt)
   rw [marksA_at] at hqq
   have T0:∀wx,Calls Tryz.prog 109 #[.int .i64 (k+1+1+1)] wx fun e w'=>e=.returned (.string (bs (markA K j).node))∧Below wx.heap.size wx w':=fun wx=>by
    have:=markText_int (k+1+1+1) wx (by omega) (by omega)
    rw [show (k+1+1+1).toNat=K+5*j+1+1+1 by omega] at this
    exact this
   have hd:(markA K j).mem=k:=by rw [hk];rfl
   have hm:(markA K j).cpu=k+1:=by rw [hk];rfl
   have hp:(markA K j).count=k+1+1:=by rw [hk];rfl
   have hr:(markA K j).missed=k+1+1+1+1:=by rw [hk];rfl
   obtain ⟨q,hqe⟩:∃q,markA K j=q:=⟨_,rfl⟩
   rw [hqe] at hqq T0 hd hm hp hr
   have A0:=hide (show AskOne w b (off+j*5) q wr from ⟨hqq,uH HB⟩)
   have C0:=hide T0
   have HK:=hide hk
   have HR4:=hide hr
   have R:=AskOne.read w b (off+j*5) q
   have R':=hide R
   obtain ⟨r0,r1,r2,_,_⟩:=R _ (uH A0)
   rw [hd] at r0
   rw [hm] at r1
   rw [hp] at r2
   have j0:(0:Int)≤j:=by omega
   have j1:(j:Int)<n:=by omega
   have hk0:0<k:=by omega
   have hk1:k≤1000000010000000:=by omega
   have hw1:IntKind.i64.wrap (k+1)=k+1:=by rw [IntKind.wrap_i64];omega
   have hw2:IntKind.i64.wrap (k+1+1)=k+1+1:=by rw [IntKind.wrap_i64];omega
   have hw3:IntKind.i64.wrap (k+1+1+1)=k+1+1+1:=by rw [IntKind.wrap_i64];omega
   clear hq hqq T0 hqe hk hd hm hp hr R
   go_wp2_with fail
   have R:=uH R'
   clear r0 r1 r2
   go_region_held3 (fun wx=>AskOne w b (off+j*5) q wx)
    (first | (with_reducible assumption) | exact (uH A0).drew | exact AskOne.call (by assumption) (by assumption))
    (first
    | (go_at_call 109;refine (uH C0 _).mono ?_;rintro e wt ⟨rfl,hb⟩;have SA:=AskOne.call (w0:=w) (b:=b) (p:=off+j*5) (q:=q) (by assumption) hb))
   obtain ⟨_,_,_,_,r4⟩:=R _ SA
   rw [uH HR4] at r4
   have HB2:=hide SA.2
   clear SA A0 R C0 R'
   go_wp2
   go_roundw
   case rel=>exact ⟨j+1,k+1+1+1+1+1,by omega,by go_num,by go_num,by have:=uH HK;omega,HB2⟩
   case measure=>simp [intOf];omega
  ·have hjn:j=n:=by omega
   subst hjn
   go_wp2
   go_ret
   exact ⟨ret_int (by omega),uH HB⟩
abbrev acell (q:Ask):List Value:=[.int .i64 q.mem,.int .i64 q.cpu,.int .i64 q.count,.string (bs q.node),.int .i64 q.missed]
def acells:List Ask→List Value
 | []=>[]
 | q::t=>acell q++acells t
theorem acells_len:∀l:List Ask,(acells l).length=l.length*5
 | []=>rfl
 | q::t=>by rw [acells,List.length_append,acells_len t];simp;omega
theorem acells_at:∀(l:List Ask) (i:Nat) (h:i<l.length),(acells l)[i*5]? = some (.int .i64 l[i].mem)∧(acells l)[i*5+1]? = some (.int .i64 l[i].cpu)∧(acells l)[i*5+2]? = some (.int .i64 l[i].count)∧(acells l)[i*5+3]? = some (.string (bs l[i].node))∧(acells l)[i*5+4]? = some (.int .i64 l[i].missed)
 | q::t,0,_=>⟨rfl,rfl,rfl,rfl,rfl⟩
 | q::t,i+1,h=>by
  have e:=acells_at t i (by simpa using h)
  have k:∀j,(acells (q::t))[(i+1)*5+j]? = (acells t)[i*5+j]?:=fun j=>by
   rw [acells,show (i+1)*5+j=(acell q).length+(i*5+j) by simp;omega,List.getElem?_append_right (by omega)]
   congr 1
   omega
  have k0:=k 0
  simp only [Nat.add_zero] at k0
  rw [k0,k 1,k 2,k 3,k 4]
  simpa using e
theorem acells_row {w:World} {b off len:Nat} {l:List Ask} (h:AskRow w (some ⟨b,off,none⟩) len l):∀j u,(acells l)[j]? = some u→w.cell? ⟨b,off+j,none⟩=some u:=fun j u hj=>by
 have hjl:j<l.length*5:=by rw [←acells_len];exact (List.getElem?_eq_some_iff.1 hj).1
 obtain ⟨h1,h2⟩:=h
 rcases h2 with h2 | ⟨b',off',e,h4⟩
 ·omega
 ·cases e
  have hi:j / 5<l.length:=by omega
  obtain ⟨a0,a1,a2,a3,a4⟩:=acells_at l (j / 5) hi
  obtain ⟨c0,c1,c2,c3,c4⟩:=h4 (j / 5) hi
  rcases (show j % 5=0∨j % 5=1∨j % 5=2∨j % 5=3∨j % 5=4 by omega) with e | e | e | e | e
  ·rw [show j=j / 5*5 by omega] at hj ⊢;rw [a0] at hj;cases hj;exact c0
  ·rw [show j=j / 5*5+1 by omega] at hj ⊢;rw [a1] at hj;cases hj;rw [←Nat.add_assoc];exact c1
  ·rw [show j=j / 5*5+2 by omega] at hj ⊢;rw [a2] at hj;cases hj;rw [←Nat.add_assoc];exact c2
  ·rw [show j=j / 5*5+3 by omega] at hj ⊢;rw [a3] at hj;cases hj;rw [←Nat.add_assoc];exact c3
  ·rw [show j=j / 5*5+4 by omega] at hj ⊢;rw [a4] at hj;cases hj;rw [←Nat.add_assoc];exact c4
theorem acells_one:∀(l:List Ask),∀u ∈ acells l,u.oneCell'=true
 | [],u,h=>by simp [acells] at h
 | q::t,u,h=>by
  rw [acells,List.mem_append] at h
  rcases h with h | h
  ·simp at h
   rcases h with rfl | rfl | rfl | rfl | rfl<;>rfl
  ·exact acells_one t u h
def AOwn (B:Nat) (w:World) (v:Value) (l:List Ask):Prop:=w.ownsRow B 193 5 v l.length (acells l)
theorem aown_nil (B:Nat) (w:World):AOwn B w (.slice none 0 0) []:=World.ownsRow_nil _ _ _ _
theorem aown_empty (w:World):w.alloc (.cells #[] 193) |>.ownsRow w.heap.size 193 5 (.slice (some ⟨w.heap.size,0,none⟩) 0 0) 0 []:=
 ⟨rfl,.inr ⟨w.heap.size,0,#[],rfl,yJ _,by show (w.heap.push _)[w.heap.size]? = _;simp,yJ _,by unfold maxLen;omega,rfl,rfl⟩⟩
theorem AOwn.below {w w':World} {B:Nat} {v:Value} {l:List Ask} (h:AOwn B w v l) (hb:Below w.heap.size w w'):AOwn B w' v l:=
 h.kept (grownBy_below (grownBy_refl w none) hb) (by by_cases e:v.ownBlock=none;exact .inl e;exact .inr e)
theorem AOwn.base {w:World} {B B':Nat} {v:Value} {l:List Ask} (h:AOwn B w v l) (hb:B'≤B):AOwn B' w v l:=by
 obtain ⟨h1,h2⟩:=h
 refine ⟨h1,?_⟩
 rcases h2 with h2 | ⟨g,cap,cur,a,b,c⟩
 ·exact .inl h2
 ·exact .inr ⟨g,cap,cur,a,Nat.le_trans hb b,c⟩
theorem AOwn.row {w:World} {B:Nat} {v:Value} {l:List Ask} (h:AOwn B w v l):∃ao cap,v=.slice ao l.length cap∧AskRow w ao l.length l∧l.length≤cap∧(l≠[]→∃g cur,ao=some ⟨g,0,none⟩∧B≤g∧w.heap[g]? = some (.cells cur 193 (0,0))∧cur.size=cap*5):=by
 rcases h.2 with ⟨rfl,h0⟩ | ⟨g,cap,cur,rfl,h1,h2,h3,h4,h5,h6⟩
 ·exact ⟨none,0,by rw [h0],⟨rfl,.inl h0⟩,by omega,fun hn=>absurd (List.length_eq_zero_iff.1 h0) hn⟩
 ·refine ⟨some ⟨g,0,none⟩,cap,rfl,⟨rfl,.inr ⟨g,0,rfl,fun i hi=>?_⟩⟩,h3,fun _=>⟨g,cur,rfl,h1,h2,h5⟩⟩
  obtain ⟨a,b,c,d,e⟩:=acells_at l i hi
  have k:∀j (v:Value),j<l.length*5→(acells l)[j]? = some v→w.cell? ⟨g,j,none⟩=some v:=fun j v hj hv=>by
   rw [←h6,List.getElem?_take_of_lt hj] at hv
   simp [World.cell?,h2]
   simpa using hv
  unfold AskAt
  rw [Nat.zero_add]
  exact ⟨k _ _ (by omega) a,k _ _ (by omega) b,k _ _ (by omega) c,k _ _ (by omega) d,k _ _ (by omega) e⟩
theorem Tryz.infoA:(Tryz.prog.info? 193).map (fun i=>(i.zero,i.size,i.bytes))=some (some (.agg #[.int .i64 0,.int .i64 0,.int .i64 0,.string ByteArray.empty,.int .i64 0]),5,48):=by kernel_rfl
theorem cloneAsk_any (ao:Option Addr) (len cap:Nat) (l:List Ask) (w:World) (h:AskRow w ao len l) (hl:len≤1048576) :
  Calls Tryz.prog 126 #[.slice ao len cap] w fun e w'=>∃v,e=.returned v∧AOwn w.heap.size w' v l∧Below w.heap.size w w':=by
 obtain ⟨i0,hi,hz0,hz1,hz2⟩:=info_parts Tryz.infoA
 cases ao with
 | none=>
  have hn:len=0:=by rcases h.2 with h | ⟨b,off,e,_⟩;exact h;cases e
  subst hn
  have hl0:l=[]:=List.length_eq_zero_iff.1 h.1.symm
  subst hl0
  have hnl:∀wx,(binOp .eql 137 (.slice none 0 cap) (.slice none 0 0)).run Tryz.prog wx=.ok (.bool true) wx:=fun wx=>Lib.run_eql_slice_nil wx _ _ none 0 cap 0 0 Tryz.underlying137
  clear h hl
  go_enter Tryz.func126,Tryz.ntmps126
  go_wp2
  go_ret
  exact ⟨_,rfl,aown_nil _ _,yH _ _⟩
 | some ad=>
  have hnew:∀j u,(acells l)[j]? = some u→(w.alloc (.cells #[] 193)).cell? (ad.add j)=some u:=fun j u hj=>by
   have hjl:j<l.length*5:=by rw [←acells_len];exact (List.getElem?_eq_some_iff.1 hj).1
   rcases h.2 with h0 | ⟨b,off,e,_⟩
   ·have:=h.1;omega
   ·cases e
    have:=acells_row (h.below (yA (yH _ w) (.cells #[] 193))) j u hj
    rw [Lib.add_plain]
    exact this
  have HNW:=hide hnew
  have HLN:=hide h.1
  have hown:=aown_empty w
  have hll:(acells l).length=len*5:=by rw [acells_len,h.1]
  have hone:=acells_one l
  have hnl:∀wx,(binOp .eql 137 (.slice (some ad) len cap) (.slice none 0 0)).run Tryz.prog wx=.ok (.bool false) wx:=fun wx=>Lib.run_eql_slice_nil wx _ _ (some ad) len cap 0 0 Tryz.underlying137
  clear h hnew
  go_enter Tryz.func126,Tryz.ntmps126
  go_wp2_with (at_builtin;refine wpList_append_own _ rfl _ _ 137 rfl w.heap.size 193 i0 (.agg #[.int .i64 0,.int .i64 0,.int .i64 0,.string ByteArray.empty,.int .i64 0]) 5 48 Tryz.underlying137 hi hz0 hz1 hz2 rfl (by decide) _ _ _ rfl hown ad len cap (acells l) rfl hll (uH HNW) hone ?c3 ?c4 ?c5 ?_)
  case c3=>unfold maxLen;omega
  case c4=>omega
  case c5=>simp
  intro v' w3 hown' hgrow _
  have HO:=hide (show AOwn w.heap.size w3 v' l by
   unfold AOwn
   rw [←uH HLN]
   exact hown')
  have HB:=hide (show Below w.heap.size w w3 from (yA (yH _ w) (.cells #[] 193)).grown hgrow (by simp) (fun k e=>by simp [Value.ownBlock] at e;omega))
  clear hown' hgrow hown hone hll
  go_wp2
  go_ret
  exact ⟨_,rfl,uH HO,uH HB⟩
theorem set_idem {arr:Array Value} {j:Nat} {x:Value} (h:arr[j]? = some x):arr.setIfInBounds j x=arr:=by
 apply Array.ext
 ·simp
 ·intro i h1 h2
  rw [Array.getElem_setIfInBounds]
  split
  ·rename_i e
   subst e
   rw [Array.getElem?_eq_getElem h2] at h
   exact (Option.some.inj h).symm
  ·rfl
theorem AOwn.same {w:World} {B g n cap j:Nat} {x:Value} {l:List Ask} (h:AOwn B w (.slice (some ⟨g,0,none⟩) n cap) l) (hc:w.cell? ⟨g,j,none⟩=some x):AOwn B (w.setCell ⟨g,j,none⟩ x) (.slice (some ⟨g,0,none⟩) n cap) l∧B≤g:=by
 obtain ⟨h1,h2⟩:=h
 rcases h2 with ⟨e,_⟩ | ⟨g',cap',cur,e,h3,h4,h5⟩
 ·cases e
 ·cases e
  have hx:cur[j]? = some x:=by simpa [World.cell?,h4] using hc
  refine ⟨⟨h1,.inr ⟨g,cap,cur,rfl,h3,?_,h5⟩⟩,h3⟩
  have:=heap_setCell_same w g j _ _ x h4
  rw [set_idem hx] at this
  exact this
theorem AOwn.other3 {w:World} {B:Nat} {v:Value} {l:List Ask} (h:AOwn B w v l) (k j:Nat) (x:Value) (hk:k<B):AOwn B (w.setCell ⟨k,j,none⟩ x) v l:=by
 obtain ⟨h1,h2⟩:=h
 refine ⟨h1,?_⟩
 rcases h2 with h2 | ⟨g,cap,cur,a,b,c,d⟩
 ·exact .inl h2
 ·exact .inr ⟨g,cap,cur,a,b,(heap_setCell_other w ⟨k,j,none⟩ g x (show g≠k by omega)).trans c,d⟩
theorem copyOfApp_any (id:Int) (qu:List UInt8) (ao:Option Addr) (len cap:Nat) (l:List Ask) (w:World) (h:AskRow w ao len l) (hl:len≤1048576) (hq:qu.length≤1048576) (hn:∀q ∈ l,q.node.length≤1048576) :
  Calls Tryz.prog 88 #[applv id qu ao len cap] w fun e w'=>∃v,e=.returned (.agg #[.int .i64 id,.string (bs qu),v])∧AOwn w.heap.size w' v l∧Below w.heap.size w w':=by
 have HN:=hide hn
 have hB:=yA (yA (yH _ w) (.cells #[.int .i64 id,.string (bs qu),.slice ao len cap] 139)) (.cells #[.int .i64 0,.string ByteArray.empty,.slice none 0 0] 139)
 have CC:=hide (cloneAsk_any ao len cap l _ (h.below hB) hl)
 have HB0:=hide hB
 have K0:=hide ((yD w #[.int .i64 id,.string (bs qu),.slice ao len cap] 139).al (.cells #[.int .i64 0,.string ByteArray.empty,.slice none 0 0] 139))
 have K1:=hide (show Blk _ (w.heap.size+1) #[.int .i64 0,.string ByteArray.empty,.slice none 0 0] 139 by have:=yD (w.alloc (.cells #[.int .i64 id,.string (bs qu),.slice ao len cap] 139)) #[.int .i64 0,.string ByteArray.empty,.slice none 0 0] 139;rwa [yE] at this)
 have hll:=hide h.1
 have hsq:(bs qu).size≤281474976710656:=by rw [bs_size];omega
 clear h hn hB
 go_enter Tryz.func88,Tryz.ntmps88
 go_wp2_with fail
 refine (uH CC).mono ?_
 rintro e w1 ⟨v,rfl,ho,hb⟩
 have HB1:=hide (yB (uH HB0) hb)
 have P0:=hide ((uH K0).below hb)
 have P1:=hide ((uH K1).below hb)
 have hsz1:w.heap.size+2≤w1.heap.size:=by have:=hb.size;rw [yE,yE] at this;omega
 have HO:=hide (ho.base (B':=w.heap.size+2) (by rw [yE,yE];omega))
 obtain ⟨xo,xc,rfl,_,hxc,hxg⟩:=ho.row
 obtain ⟨n,hnn⟩:∃n,l.length=n:=⟨_,rfl⟩
 have HLN:=hide hnn
 have hn2:n≤1048576:=by have:=uH hll;omega
 rw [hnn] at HO hxc ⊢
 clear ho hb CC HB0 K0 K1 hnn hxg
 go_wp2
 go_loopw [10] (fun i wr=>∃(k:Nat),k≤n∧i=.int .i64 k∧Hid (AOwn (w.heap.size+2) wr (.slice xo n xc) l)∧Hid (Below (w.heap.size+2) w1 wr)) (fun i _=>n - (intOf i).toNat)
 case atStart=>exact ⟨0,Nat.zero_le _,rfl,HO,hide (yH _ _)⟩
 case round=>
  obtain ⟨k,hk,rfl,HOr,HBr⟩:=hrel
  by_cases hlt:k<n
  ·have hkl:k<l.length:=by have:=uH HLN;omega
   obtain ⟨xo',xc',e,hrow,_,hg⟩:=(uH HOr).row
   obtain ⟨g,cur,rfl,hg1,hg2,hg3⟩:=hg (by intro e;rw [e] at hkl;simp at hkl)
   rw [uH HLN] at e hrow
   cases e
   obtain ⟨b',off',e',hat⟩:=hrow.at hlt
   cases e'
   have c3:=(hat hkl).2.2.2.1
   simp only [Nat.zero_add] at c3
   have hnd:=uH HN l[k] (yM _)
   obtain ⟨nd,hs⟩:∃s,l[k].node=s:=⟨_,rfl⟩
   rw [hs] at c3 hnd
   have hsn:(bs nd).size≤281474976710656:=by rw [bs_size];omega
   have k0:(0:Int)≤k:=by omega
   have k1:(k:Int)<n:=by omega
   have hgs:g<wr.heap.size:=lt_of_block hg2
   clear hat hrow hg2 hg3 hs hkl
   go_wp2_with fail
   refine (clone_any (bs nd) _ hsn).mono ?_
   rintro e w2 ⟨rfl,hb⟩
   have HO2:=hide ((uH HOr).below hb)
   have c3':=(hb.cell (p:=⟨g,k*5+3,none⟩) hgs).trans c3
   have hsame:=(uH HO2).same c3'
   have f3:w2.frozen? ⟨g,k*5+3,none⟩=false:=by
    rcases (uH HO2).2 with ⟨e,_⟩ | ⟨g',cap',cur',e,_,h4,_⟩
    ·cases e
    ·cases e;simp [World.frozen?,h4]
   have HS:=hide hsame
   have HB2:=hide (show Below (w.heap.size+2) w1 (w2.setCell ⟨g,k*5+3,none⟩ (.string (bs nd))) from ((uH HBr).trans (hb.mono (by have:=(uH HBr).size;omega))).setCell (by exact hsame.2) _)
   clear hb hsame HOr HBr HO2 c3
   go_wp2
   go_roundw
   case rel=>exact ⟨k+1,by omega,by go_num,hide (uH HS).1,HB2⟩
   case measure=>simp [intOf];omega
  ·have q0:=(show Blk wr w.heap.size _ 139 from ((uH HBr).block _ (by omega)).trans (uH P0))
   have q1:=(show Blk wr (w.heap.size+1) _ 139 from ((uH HBr).block _ (by omega)).trans (uH P1))
   have HQ1:=hide q1
   have HBw:=hide (show Below w.heap.size w wr from (uH HB1).trans ((uH HBr).mono (by omega)))
   have hwr:w.heap.size+2≤wr.heap.size:=by have:=(uH HBr).size;omega
   have HQ0:=hide q0
   have a0:=q0.at 0
   have a1:=q0.at 1
   simp at a0 a1
   have CL:=hide (fun wx=>clone_any (bs qu) wx hsq)
   clear q0 q1
   go_wp2_with fail
   go_region_with (go_at_call 46;refine (uH CL _).mono ?_;rintro e w2 ⟨rfl,hb⟩;have HW2:=hide (yB (yH _ wr).drew hb);have b0:=((uH HQ0).below (uH HW2)).at 0;have b1:=((uH HQ0).below (uH HW2)).at 1;have T2:=(uH HQ1).below (uH HW2);have t0:=T2.at 0;have t1:=T2.at 1;have t2:=T2.at 2;have tf0:=T2.f 0;have tf1:=T2.f 1;have tf2:=T2.f 2;simp at b0 b1 t0 t1 t2;have HT2:=hide T2;clear T2 hb)
   all_goals go_wp2
   all_goals
    have X1:=(((uH HT2).set 0 (.int .i64 id)).set 1 (.string (bs qu))).set 2 (.slice xo n xc)
    have x0:=X1.at 0
    have x1:=X1.at 1
    have x2:=X1.at 2
    simp at x0 x1 x2
    refine bodyPost_ret (v:=.agg #[.int .i64 id,.string (bs qu),.slice xo n xc]) (by simp [results,Tryz.results88,go_sem,x0,x1,x2]) rfl ⟨_,rfl,?_,?_⟩
    ·exact ((((((uH HOr).below (uH HW2)).other3 (w.heap.size+1) 0 (.int .i64 id) (by omega)).other3 (w.heap.size+1) 1 (.string (bs qu)) (by omega)).other3 (w.heap.size+1) 2 (.slice xo n xc) (by omega))).base (by omega)
    ·exact yC (yC (yC (yB (uH HBw) (uH HW2)) _ _ _ (by omega)) _ _ _ (by omega)) _ _ _ (by omega)
def SumHeld (w0:World) (b p:Nat) (r:Int×Int) (x y:Int) (w:World):Prop:=RAt w b p r∧Var w 145 (w0.heap.size+1) x y∧Var w 145 w0.heap.size 0 0∧Below w0.heap.size w0 w
theorem SumHeld.call {w0 w w':World} {b p:Nat} {r:Int×Int} {x y:Int} (h:SumHeld w0 b p r x y w) (hb:Below w.heap.size w w'):SumHeld w0 b p r x y w':=⟨h.1.below hb,h.2.1.below hb,h.2.2.1.below hb,yB h.2.2.2 hb⟩
theorem SumHeld.drew {w0 w:World} {b p:Nat} {r:Int×Int} {x y:Int} (h:SumHeld w0 b p r x y w):SumHeld w0 b p r x y w.drew:=h.call (yH _ _).drew
theorem SumHeld.al {w0 w:World} {b p:Nat} {r:Int×Int} {x y:Int} (h:SumHeld w0 b p r x y w) (o:Obj):SumHeld w0 b p r x y (w.alloc o):=h.call (yA (yH _ _) o)
theorem SumHeld.set {w0 w:World} {b p:Nat} {r:Int×Int} {x y:Int} (h:SumHeld w0 b p r x y w) (k j:Nat) (v:Value) (h1:w0.heap.size+1<k) (h2:b≠k):SumHeld w0 b p r x y (w.setCell ⟨k,j,none⟩ v):=by
  have hc:∀q,(w.setCell ⟨k,j,none⟩ v).cell? ⟨b,q,none⟩=w.cell? ⟨b,q,none⟩:=fun q=>by unfold World.cell?;rw [heap_setCell_other w ⟨k,j,none⟩ b v h2]
  exact ⟨⟨(hc _).trans h.1.1,(hc _).trans h.1.2⟩,h.2.1.other _ _ _ (by omega),h.2.2.1.other _ _ _ (by omega),yC h.2.2.2 _ _ _ (by omega)⟩
theorem SumHeld.read (w0:World) (b p:Nat) (r:Int×Int) (x y:Int):∀wx,SumHeld w0 b p r x y wx→wx.cell? ⟨b,p,none⟩=some (.int .i64 r.1)∧wx.cell? ⟨b,p+1,none⟩=some (.int .i64 r.2)∧wx.cell? ⟨w0.heap.size+1,0,none⟩=some (.int .i64 x)∧wx.cell? ⟨w0.heap.size+1,1,none⟩=some (.int .i64 y):=
  fun wx h=>⟨h.1.1,h.1.2,h.2.1.c0,h.2.1.c1⟩
theorem l04Sum_any (ao:Option Addr) (len cap:Nat) (l:List (Int×Int)) (w:World) (h:RRow w ao len l) (hl:len≤1048576) :
    Calls Tryz.prog 152 #[.slice ao len cap] w fun e w'=>e=.returned (.tuple #[rv (sumR l).1 (sumR l).2.1,.bool (sumR l).2.2])∧Below w.heap.size w w':=by
  have HR:=hide h
  have HL:=hide h.1
  obtain ⟨⟨sx,sy,so⟩,hs⟩:∃s,sumR l=s:=⟨_,rfl⟩
  have HS:=hide (show sumFrom l 0 0=(sx,sy,so) from hs)
  rw [hs]
  clear h hs
  go_enter Tryz.func152,Tryz.ntmps152
  go_wp2
  go_loopw [5] (fun i wr=>∃(k:Nat) (x y:Int),k≤len∧i=.int .i64 k∧Hid (sumFrom (l.drop k) x y=(sx,sy,so))∧Hid (Var wr 145 w.heap.size 0 0)∧Hid (Var wr 145 (w.heap.size+1) x y)∧Hid (Below w.heap.size w wr)) (fun i _=>len - (intOf i).toNat)
  case atStart=>exact ⟨0,0,0,Nat.zero_le _,rfl,hide (by simpa using uH HS),hide ((var_new w _ _ _).al _),hide (var_new2 w _ _ 0 0 0 0),hide (yA (yA (yH _ _) _) _)⟩
  case round=>
    obtain ⟨k,x,y,hk,rfl,HQ,HV0,HV1,HB⟩:=hrel
    by_cases hlt:k<len
    · obtain ⟨b,off,rfl,hq⟩:=((uH HR).below (uH HB)).at hlt
      have hkl:k<l.length:=by have:=uH HL;omega
      have hst:=sumFrom_step hkl x y
      have A0:=hide (show SumHeld w b (off+k*2) l[k] x y wr from ⟨hq hkl,uH HV1,uH HV0,uH HB⟩)
      obtain ⟨⟨a,d⟩,hs⟩:∃q,l[k]=q:=⟨_,rfl⟩
      rw [hs] at A0 hst
      simp only at hst
      have HST:=hide hst
      have R:=SumHeld.read w b (off+k*2) (a,d) x y
      simp only at R
      have k0:(0:Int)≤k:=by omega
      have k1:(k:Int)<len:=by omega
      clear hq hs hkl hst HV0 HV1 HB
      have CA:=hide (fun wx=>specAdd_any x y a d wx)
      obtain ⟨x',y',ok,hv⟩:∃x' y' ok,bothV 1 x y a d=rv x' y'∧bothOk 1 x y a d=ok:=by
        cases ho:bothOk 1 x y a d
        · exact ⟨0,0,_,both_no ho,rfl⟩
        · exact ⟨_,_,_,both_yes ho,rfl⟩
      have HVV:=hide hv
      rw [hv.1,hv.2] at CA
      clear hv
      have sz1:=(uH A0).2.1.lt
      have sb1:=(uH A0).1.lt
      go_wp2_with fail
      go_cut [6,7] from 15 to 24 (fun v6 v7 wx=>∃g,v6=.pointer (some ⟨g,0,none⟩)∧v7=.bool ok∧SumHeld w b (off+k*2) (a,d) x y wx∧Var wx 145 g x' y'∧w.heap.size+1<g)
      case first=>
        go_region_held3 (fun wx=>SumHeld w b (off+k*2) (a,d) x y wx)
          (first | (with_reducible assumption) | exact uH SA | exact (uH A0).drew | exact SumHeld.al (uH SA) _ | exact SumHeld.al (by assumption) _ | exact SumHeld.al (uH A0).drew _ | exact SumHeld.call (by assumption) (by assumption) | exact SumHeld.set (SumHeld.set (uH SA) _ _ _ (by first | omega | (simp<;>omega)) (by first | omega | (simp<;>omega))) _ _ _ (by first | omega | (simp<;>omega)) (by first | omega | (simp<;>omega)) | exact SumHeld.set (SumHeld.set (by assumption) _ _ _ (by first | omega | (simp<;>omega)) (by first | omega | (simp<;>omega))) _ _ _ (by first | omega | (simp<;>omega)) (by first | omega | (simp<;>omega)))
          (first
          | (go_at_call 179;refine (uH CA _).mono ?_;rintro e wt ⟨rfl,hb⟩;have SA:=hide (SumHeld.call (w0:=w) (b:=b) (p:=off+k*2) (r:=(a,d)) (x:=x) (y:=y) (by assumption) hb);have sz:=(uH SA).2.1.lt;have sb:=(uH SA).1.lt
             first
               | (have V5:=(var_new _ 145 0 0).below hb;(try simp at V5);have c50:=V5.c0;have c51:=V5.c1;have f50:=V5.f 0;have f51:=V5.f 1;have V5:=hide V5)
               | (have V5:=(var_new _ 145 0 0).drew.below hb;(try simp at V5);have c50:=V5.c0;have c51:=V5.c1;have f50:=V5.f 0;have f51:=V5.f 1;have V5:=hide V5)
               | skip))
        all_goals
          go_wp2_with fail
          go_meet
          exact ⟨_,rfl,rfl,by first | assumption | exact uH SA | exact SumHeld.al (uH SA) _,by first | exact var_new _ _ _ _ | exact (uH V5).set _ _,by first | omega | (simp<;>omega)⟩
      case rest=>
        obtain ⟨g,rfl,rfl,hA,hV,hg⟩:=hcut
        have A1:=hide hA
        have W1:=hide hV
        clear hA hV A0 CA R
        have v0:=(uH W1).c0
        have v1:=(uH W1).c1
        have s0:=(uH A1).2.1.c0
        have s1:=(uH A1).2.1.c1
        have sf0:=(uH A1).2.1.f 0
        have sf1:=(uH A1).2.1.f 1
        have t0:=(uH A1).2.2.1.c0
        have t1:=(uH A1).2.2.1.c1
        have tf0:=(uH A1).2.2.1.f 0
        have tf1:=(uH A1).2.2.1.f 1
        cases ok with
        | true=>
          have hxy:=both_yes (uH HVV).2
          rw [(uH HVV).1] at hxy
          simp only [rv,Value.agg.injEq,Array.mk.injEq,List.cons.injEq,Value.int.injEq,and_true,true_and] at hxy
          rw [if_pos (uH HVV).2,←hxy.1,←hxy.2] at HST
          clear hxy HVV
          go_wp2
          go_roundw
          case rel=>exact ⟨k+1,x',y',by omega,by go_num,hide (by rw [←uH HST];exact uH HQ),hide (((uH A1).2.2.1.other _ _ _ (show w.heap.size≠w.heap.size+1 by omega)).other _ _ _ (show w.heap.size≠w.heap.size+1 by omega)),hide ((uH A1).2.1.set _ _),hide (yC (yC (uH A1).2.2.2 _ _ _ (show w.heap.size≤w.heap.size+1 by omega)) _ _ _ (show w.heap.size≤w.heap.size+1 by omega))⟩
          case measure=>simp [intOf];omega
        | false=>
          rw [if_neg (by rw [(uH HVV).2];simp)] at HST
          have hres:=(uH HST).symm.trans (uH HQ)
          simp only [Prod.mk.injEq] at hres
          obtain ⟨rfl,rfl,rfl⟩:=hres
          have k4:=(uH A1).2.2.1.s0 (.int .i64 0)
          have k5:=(uH A1).2.2.1.s1 (.int .i64 0) (.int .i64 0)
          have HB1:=hide (uH A1).2.2.2
          clear HST HS HVV
          go_wp2
          refine bodyPost_ret (v:=.tuple #[rv 0 0,.bool false]) (by simp [results,Tryz.results152,go_sem,k4,k5]) rfl ⟨rfl,?_⟩
          repeat (first | exact uH HB1 | refine yC ?_ _ _ _ (by omega))
    · have hres:(x,y,true)=(sx,sy,so):=by rw [←uH HQ,sumFrom_end (by have:=uH HL;omega)]
      simp only [Prod.mk.injEq] at hres
      obtain ⟨rfl,rfl,rfl⟩:=hres
      have s0:=(uH HV1).c0
      have s1:=(uH HV1).c1
      have t0:=(uH HV0).c0
      have t1:=(uH HV0).c1
      have f0:=(uH HV0).f 0
      have f1:=(uH HV0).f 1
      have k4:=(uH HV0).s0 (.int .i64 x)
      have k5:=(uH HV0).s1 (.int .i64 x) (.int .i64 y)
      go_wp2
      refine bodyPost_ret (v:=.tuple #[rv x y,.bool true]) (by simp [results,Tryz.results152,go_sem,k4,k5]) rfl ⟨rfl,?_⟩
      repeat (first | exact uH HB | refine yC ?_ _ _ _ (by omega))
theorem l04Caps_any (x:Sls) (s:St) (w:World) (h:MacRow w x.ma x.ml s.ms) (hl:x.ml≤1048576) :
  Calls Tryz.prog 156 #[sv x s] w fun e w'=>∃v,e=.returned v∧ROwn w.heap.size w' v (capsOf s.ms)∧Below w.heap.size w w':=by
 obtain ⟨i0,hi,hz0,hz1,hz2⟩:=info_parts Tryz.infoR
 obtain ⟨qa,ql,qc,aa,al,ac,ma,ml,mc,ca,cl,cc⟩:=x
 obtain ⟨qs,clock,epoch,next,serial,apps,ms,cs⟩:=s
 simp only at h hl ⊢
 have HR:=hide h
 have HL:=hide h.1
 have HB0:=hide (boxW_below w #[.slice qa ql qc,.int .i64 clock,.int .i64 epoch,.int .i64 next,.int .i64 serial,.slice aa al ac,.slice ma ml mc,.slice ca cl cc])
 have P0:=hide (boxW_blk w #[.slice qa ql qc,.int .i64 clock,.int .i64 epoch,.int .i64 next,.int .i64 serial,.slice aa al ac,.slice ma ml mc,.slice ca cl cc])
 have HW:=hide (boxW_size w #[.slice qa ql qc,.int .i64 clock,.int .i64 epoch,.int .i64 next,.int .i64 serial,.slice aa al ac,.slice ma ml mc,.slice ca cl cc])
 have HO0:=hide (rown_empty (boxW w #[.slice qa ql qc,.int .i64 clock,.int .i64 epoch,.int .i64 next,.int .i64 serial,.slice aa al ac,.slice ma ml mc,.slice ca cl cc]))
 obtain ⟨c,hc⟩:∃c:Array Value,#[.slice qa ql qc,.int .i64 clock,.int .i64 epoch,.int .i64 next,.int .i64 serial,.slice aa al ac,.slice ma ml mc,.slice ca cl cc]=c:=⟨_,rfl⟩
 rw [hc] at HB0 HW HO0
 have P0:=hide (show Blk (boxW w c) w.heap.size #[.slice qa ql qc,.int .i64 clock,.int .i64 epoch,.int .i64 next,.int .i64 serial,.slice aa al ac,.slice ma ml mc,.slice ca cl cc] 37 by rw [hc];exact boxW_blk w c)
 have HC:=hide hc
 clear h hc
 go_enter Tryz.func156,Tryz.ntmps156
 go_wp2
 go_loopw [3,4] (fun v i wr=>∃(k:Nat),k≤ml∧i=.int .i64 k∧Hid (ROwn (boxW w c).heap.size wr v (capsOf (ms.take k)))∧Hid (Below (boxW w c).heap.size (boxW w c) wr)) (fun _ i _=>ml - (intOf i).toNat)
 case atStart=>
  obtain rfl:=uH HC
  have h1:=uH HW
  refine ⟨0,Nat.zero_le _,rfl,hide ?_,hide (yA (yH _ _) _)⟩
  have:=uH HO0
  rw [h1] at this
  rw [h1]
  exact this
 case round=>
  obtain ⟨k,hk,rfl,HO,HB⟩:=hrel
  have hn1:w.heap.size<(boxW w c).heap.size:=by have:=uH HW;omega
  have p6:=Blk.at (show Blk wr w.heap.size _ 37 from ((uH HB).block _ hn1).trans (uH P0)) 6
  simp at p6
  by_cases hlt:k<ml
  ·obtain ⟨b,off,rfl,hq⟩:=(((uH HR).below (uH HB0)).below (uH HB)).at hlt
   have hkl:k<ms.length:=by have:=uH HL;omega
   have hst:=hide (capsOf_step hkl)
   obtain ⟨c0,c1,c2,c3⟩:=hq hkl
   obtain ⟨m,hs⟩:∃q,ms[k]=q:=⟨_,rfl⟩
   rw [hs] at c0 c1 c2 c3 hst
   have hal:(capsOf (ms.take k)).length≤1048576:=by simp [capsOf];omega
   obtain ⟨acc,hacc⟩:∃a,capsOf (ms.take k)=a:=⟨_,rfl⟩
   rw [hacc] at hst hal HO
   obtain ⟨nm,me,cp,se⟩:=m
   simp only at c0 c1 c2 c3 hst
   have hs2:(boxW w c).heap.size≤wr.heap.size:=(uH HB).size
   have hown:wr.ownsRow (boxW w c).heap.size 145 2 _ acc.length (rcells acc):=uH HO
   clear hq hs hkl hacc
   go_wp2_with (at_builtin;refine wpList_append_own _ rfl _ _ 216 rfl (boxW w c).heap.size 145 i0 (.agg #[.int .i64 0,.int .i64 0]) 2 16 Tryz.underlying216 hi hz0 hz1 hz2 rfl (by decide) _ _ _ rfl (hown.alloc _) ⟨wr.heap.size,0,none⟩ 1 1 (rcell (me,cp)) rfl rfl ?c1 ?c2 ?c3 ?c4 ?c5 ?_)
   case c1=>
    intro j x hj
    match j,hj with
    | 0,hj=>simp at hj;subst hj;simp [Addr.add]
    | 1,hj=>simp at hj;subst hj;simp [Addr.add]
    | _+2,hj=>simp at hj
   case c2=>intro x hx;simp at hx;rcases hx with rfl | rfl<;>rfl
   case c3=>unfold maxLen;omega
   case c4=>omega
   case c5=>simp at hs2 ⊢;omega
   intro v' w3 hown' hgrow _
   have R:=rown_step (q:=(me,cp)) (uH HB) (uH HO) hown' hgrow hs2
   have HR3:=hide R
   clear hown' hgrow hown c0 c1 c2 c3 R p6
   go_wp2
   go_roundw
   case rel=>exact ⟨k+1,by omega,by go_num,hide (by rw [uH hst];exact (uH HR3).1),hide (uH HR3).2⟩
   case measure=>simp [intOf];omega
  ·have htk:ms.take k=ms:=List.take_of_length_le (by have:=uH HL;omega)
   rw [htk] at HO
   go_wp2
   go_ret
   exact ⟨_,rfl,(uH HO).base (by omega),yB (uH HB0) (uH HB)⟩
end
end Go.Proofs.YtjkfappkpopbdaaGreat
