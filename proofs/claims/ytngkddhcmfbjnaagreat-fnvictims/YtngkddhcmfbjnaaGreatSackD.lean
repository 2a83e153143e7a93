/-
  Texts in one: CloneQ, PathM, FitsM, IdxI, AddI, OfM, FracI, RatioP, UpM1, UpM, RatN, BackT, VicT.
-/
import Derived.Test.YtngkddhcmfbjnaaGreatSackA
set_option maxRecDepth 100000
set_option maxHeartbeats 16000000
set_option linter.unusedVariables false
set_option linter.unusedSimpArgs false
namespace Go.Proofs.YtngkddhcmfbjnaaGreat
section
open Go.RowKit
variable {a b d:Int} {l:List Q} {nm:List UInt8} {B i j k n:Nat} {p:Q→Bool} {v x:Value} {w:World}
theorem rT {b off len:Nat} (h:gJ w (some ⟨b,off,none⟩) len l):∀j u,(fD l)[j]? = some u→w.cell? ⟨b,off+j,none⟩=some u:=fun j u hj=>by
 have hjl:j<l.length*4:=by rw [←iE];exact (List.getElem?_eq_some_iff.1 hj).1
 obtain ⟨h1,h2⟩:=h
 rcases h2 with h2 | ⟨b',off',e,h4⟩
 ·omega
 ·cases e
  have hi:j / 4<l.length:=by omega
  obtain ⟨a0,a1,a2,a3⟩:=wY l (j / 4) hi
  obtain ⟨c0,c1,c2,c3⟩:=h4 (j / 4) hi
  rcases (show j % 4=0∨j % 4=1∨j % 4=2∨j % 4=3 by omega) with e | e | e | e
  ·rw [show j=j / 4*4 by omega] at hj ⊢;rw [a0] at hj;cases hj;exact c0
  ·rw [show j=j / 4*4+1 by omega] at hj ⊢;rw [a1] at hj;cases hj;rw [←Nat.add_assoc];exact c1
  ·rw [show j=j / 4*4+2 by omega] at hj ⊢;rw [a2] at hj;cases hj;rw [←Nat.add_assoc];exact c2
  ·rw [show j=j / 4*4+3 by omega] at hj ⊢;rw [a3] at hj;cases hj;rw [←Nat.add_assoc];exact c3
theorem nT:∀(l:List Q),∀u ∈ fD l,u.oneCell'=true
 | [],u,h=>by simp [fD] at h
 | q::t,u,h=>by
  rw [fD,List.mem_append] at h
  rcases h with h | h
  ·simp at h
   rcases h with rfl | rfl | rfl | rfl<;>rfl
  ·exact nT t u h
theorem aG7 {B':Nat} (h:oH B w v l) (hb:B'≤B):oH B' w v l:=by
 obtain ⟨h1,h2⟩:=h
 refine ⟨h1,?_⟩
 rcases h2 with h2 | ⟨g,cap,cur,a,b,c⟩
 ·exact .inl h2
 ·exact .inr ⟨g,cap,cur,a,Nat.le_trans hb b,c⟩
theorem nA (h:oH B w v l):∃ao cap,v=.slice ao l.length cap∧gJ w ao l.length l∧l.length≤cap∧(l≠[]→∃g cur,ao=some ⟨g,0,none⟩∧B≤g∧w.heap[g]? = some (.cells cur 56 (0,0))∧cur.size=cap*4):=by
 obtain ⟨ao,cap,e,hr,hc⟩:=h.row
 refine ⟨ao,cap,e,hr,hc,fun hn=>?_⟩
 rcases h.2 with ⟨rfl,h0⟩ | ⟨g,cap',cur,rfl,h1,h2,h3,h4,h5,h6⟩
 ·exact absurd (List.length_eq_zero_iff.1 h0) hn
 ·simp only [Value.slice.injEq] at e
  obtain ⟨rfl,_,rfl⟩:=e
  exact ⟨g,cur,rfl,h1,h2,h5⟩
theorem aFm (ao:Option Addr) (len cap:Nat) (l:List Q) (w:World) (h:gJ w ao len l) (hl:len≤1048576) :
  cP 154 #[.slice ao len cap] w fun e w'=>∃v,e=.returned v∧oH w.heap.size w' v l∧Bw w w':=by
 obtain ⟨i0,hi,hz0,hz1,hz2⟩:=info_parts Tryz.infoQ
 cases ao with
 | none=>
  have hn:len=0:=by rcases h.2 with h | ⟨b,off,e,_⟩;exact h;cases e
  subst hn
  have hl0:l=[]:=List.length_eq_zero_iff.1 h.1.symm
  subst hl0
  have hnl:∀wx,(binOp .eql 24 (.slice none 0 cap) (.slice none 0 0)).run Tryz.prog wx=.ok (.bool true) wx:=fun wx=>Lib.run_eql_slice_nil wx _ _ none 0 cap 0 0 Tryz.underlying24
  clear h hl
  go_enter Tryz.func154,Tryz.ntmps154
  go_wp2
  go_ret
  exact ⟨_,rfl,aE2 _ _,yH _ _⟩
 | some ad=>
  have Gz:∀j u,(fD l)[j]? = some u→(w.alloc (.cells #[] 56)).cell? (ad.add j)=some u:=fun j u hj=>by
   have hjl:j<l.length*4:=by rw [←iE];exact (List.getElem?_eq_some_iff.1 hj).1
   rcases h.2 with h0 | ⟨b,off,e,_⟩
   ·have:=h.1;omega
   ·cases e
    have:=rT (h.below (yA (yH _ w) (.cells #[] 56))) j u hj
    rw [Lib.add_plain]
    exact this
  have QH:=aA Gz
  have Q6:=aA h.1
  have Hq:(w.alloc (.cells #[] 56)).ownsRow w.heap.size 56 4 (.slice (some ⟨w.heap.size,0,none⟩) 0 0) 0 []:=rR w
  have hll:(fD l).length=len*4:=by rw [iE,h.1]
  have gy:=nT l
  have hnl:∀wx,(binOp .eql 24 (.slice (some ad) len cap) (.slice none 0 0)).run Tryz.prog wx=.ok (.bool false) wx:=fun wx=>Lib.run_eql_slice_nil wx _ _ (some ad) len cap 0 0 Tryz.underlying24
  clear h Gz
  go_enter Tryz.func154,Tryz.ntmps154
  go_wp2_with (at_builtin;refine wpList_append_own _ rfl _ _ 24 rfl w.heap.size 56 i0 (.agg #[.string ByteArray.empty,.string ByteArray.empty,.int .i64 0,.int .i64 0]) 4 48 Tryz.underlying24 hi hz0 hz1 hz2 rfl (by decide) _ _ _ rfl Hq ad len cap (fD l) rfl hll (uH QH) gy ?c3 ?c4 ?c5 ?_)
  case c3=>unfold maxLen;omega
  case c4=>omega
  case c5=>simp
  intro v' w3 Hy Hz _
  have HO:=aA (show oH w.heap.size w3 v' l by
   unfold oH
   rw [←uH Q6]
   exact Hy)
  have HB:=aA (show Bw w w3 from (yA (yH _ w) (.cells #[] 56)).grown Hz (by simp) (fun k e=>by simp [Value.ownBlock] at e;omega))
  clear Hy Hz Hq gy hll
  go_wp2
  go_ret
  exact ⟨_,rfl,uH HO,uH HB⟩
theorem aG4 {arr:Array Value} (h:arr[j]? = some x):arr.setIfInBounds j x=arr:=by
 apply Array.ext
 ·simp
 ·intro i h1 h2
  rw [Array.getElem_setIfInBounds]
  split
  ·rename_i e
   subst e
   rw [Array.getElem?_eq_getElem h2] at h
   exact (Option.some.inj h).symm
  ·rfl
theorem aCF {g cap:Nat} (h:oH B w (.slice (some ⟨g,0,none⟩) n cap) l) (hc:w.cell? ⟨g,j,none⟩=some x):oH B (w.setCell ⟨g,j,none⟩ x) (.slice (some ⟨g,0,none⟩) n cap) l∧B≤g:=by
 obtain ⟨h1,h2⟩:=h
 rcases h2 with ⟨e,_⟩ | ⟨g',cap',cur,e,h3,h4,h5⟩
 ·cases e
 ·cases e
  have hx:cur[j]? = some x:=by simpa [World.cell?,h4] using hc
  refine ⟨⟨h1,.inr ⟨g,cap,cur,rfl,h3,?_,h5⟩⟩,h3⟩
  have:=heap_setCell_same w g j _ _ x h4
  rw [aG4 hx] at this
  exact this
theorem iD (h:oH B w v l) (k j:Nat) (x:Value) (hk:k<B):oH B (w.setCell ⟨k,j,none⟩ x) v l:=by
 obtain ⟨h1,h2⟩:=h
 refine ⟨h1,?_⟩
 rcases h2 with h2 | ⟨g,cap,cur,a,b,c,d⟩
 ·exact .inl h2
 ·exact .inr ⟨g,cap,cur,a,b,(heap_setCell_other w ⟨k,j,none⟩ g x (show g≠k by omega)).trans c,d⟩
theorem vT (ao:Option Addr) (len cap:Nat) (l:List Q) (w:World) (h:gJ w ao len l) (hl:len≤1048576) (hn:∀q ∈ l,q.name.length≤1048576∧q.parent.length≤1048576) :
  cP 108 #[.slice ao len cap] w fun e w'=>∃v,e=.returned v∧oH w.heap.size w' v l∧Bw w w':=by
 have HN:=aA hn
 have CC:=aA (aFm ao len cap l w h hl)
 have hll:=aA h.1
 clear h hn
 go_enter Tryz.func108,Tryz.ntmps108
 go_wp2_with fail
 refine (uH CC).mono ?_
 rintro e w1 ⟨v,rfl,ho,hb⟩
 have HB1:=aA hb
 have HO:=aA ho
 obtain ⟨xo,xc,rfl,_,ND,hxg⟩:=(nA ho)
 obtain ⟨n,hnn⟩:∃n,l.length=n:=⟨_,rfl⟩
 have Q6:=aA hnn
 have hn2:n≤1048576:=by have:=uH hll;omega
 rw [hnn] at HO ND ⊢
 clear ho hb CC hnn hxg
 go_wp2
 go_loopw [9] (fun i wr=>∃(k:Nat),k≤n∧i=.int .i64 k∧Hid (oH w.heap.size wr (.slice xo n xc) l)∧Hid (Bw w wr)) (fun i _=>n - (intOf i).toNat)
 case atStart=>exact ⟨0,Nat.zero_le _,rfl,HO,HB1⟩
 case round=>
  obtain ⟨k,hk,rfl,Vw,Qz⟩:=hrel
  by_cases hlt:k<n
  ·have hkl:k<l.length:=by have:=uH Q6;omega
   obtain ⟨xo',xc',e,Hw,_,hg⟩:=(nA (uH Vw))
   obtain ⟨g,cur,rfl,hg1,hg2,hg3⟩:=hg (by intro e;rw [e] at hkl;simp at hkl)
   rw [uH Q6] at e Hw
   cases e
   obtain ⟨b',off',e',hat⟩:=Hw.at hlt
   cases e'
   have c0:=(hat hkl).1
   have c1:=(hat hkl).2.1
   simp only [Nat.zero_add] at c0 c1
   have hnd:=uH HN l[k] (yM _)
   obtain ⟨⟨na,pa,du,mo⟩,hs⟩:∃s,l[k]=s:=⟨_,rfl⟩
   rw [hs] at c0 c1 hnd
   simp only at c0 c1 hnd
   have hs1:(bs na).size≤281474976710656:=by rw [dD];omega
   have hs2:(bs pa).size≤281474976710656:=by rw [dD];omega
   have k0:(0:Int)≤k:=by omega
   have k1:(k:Int)<n:=by omega
   have hgs:g<wr.heap.size:=lt_of_block hg2
   clear hat Hw hg2 hg3 hs hkl hnd
   go_wp2_with fail
   refine (kS (bs na) _ hs1).mono ?_
   rintro e w2 ⟨rfl,hb⟩
   have GD:=aA ((uH Vw).below hb)
   have c0':=(hb.cell (p:=⟨g,k*4,none⟩) hgs).trans c0
   have c1':=(hb.cell (p:=⟨g,k*4+1,none⟩) hgs).trans c1
   have G6:=(aCF (uH GD) c0')
   have hfz:∀j,w2.frozen? ⟨g,j,none⟩=false:=fun j=>by
    rcases (uH GD).2 with ⟨e,_⟩ | ⟨g',cap',cur',e,_,h4,_⟩
    ·cases e
    ·cases e;simp [World.frozen?,h4]
   have f0:=hfz (k*4)
   have HB2:=aA (show Bw w (w2.setCell ⟨g,k*4,none⟩ (.string (bs na))) from (yB (uH Qz) hb).setCell (by exact G6.2) _)
   have hg2':g<w2.heap.size:=Nat.lt_of_lt_of_le hgs hb.size
   have d1:(w2.setCell ⟨g,k*4,none⟩ (.string (bs na))).cell? ⟨g,k*4+1,none⟩=some (.string (bs pa)):=aH5 c1' (by omega)
   have HS:=aA G6
   obtain ⟨W3,hW3⟩:∃W,w2.setCell ⟨g,k*4,none⟩ (.string (bs na))=W:=⟨_,rfl⟩
   rw [hW3] at HB2 d1 HS
   have hgW:g<W3.heap.size:=yG d1
   clear hb G6 Vw Qz GD c0 c1 c1' hfz
   go_wp2_with fail
   refine (kS (bs pa) _ hs2).mono ?_
   rintro e w4 ⟨rfl,hb⟩
   have kz:=aA ((uH HS).1.below hb)
   have d1':=(hb.cell (p:=⟨g,k*4+1,none⟩) hgW).trans d1
   have G6:=(aCF (uH kz) d1')
   have f1:w4.frozen? ⟨g,k*4+1,none⟩=false:=by
    rcases (uH kz).2 with ⟨e,_⟩ | ⟨g',cap',cur',e,_,h4,_⟩
    ·cases e
    ·cases e;simp [World.frozen?,h4]
   have G8:=aA (show Bw w (w4.setCell ⟨g,k*4+1,none⟩ (.string (bs pa))) from (yB (uH HB2) hb).setCell (by exact G6.2) _)
   have Xq:=aA G6.1
   clear hb G6 HS kz HB2 c0' d1 hW3 f0
   go_wp2
   go_roundw
   case rel=>exact ⟨k+1,by omega,by go_num,Xq,G8⟩
   case measure=>simp [intOf];omega
  ·have k1:¬(k:Int)<n:=by omega
   go_wp2
   go_ret
   exact ⟨_,rfl,uH Vw,uH Qz⟩
theorem kP (nm:List UInt8):∀(l:List Q) (k:Nat),aN nm l k = -1∨((k:Int)≤aN nm l k∧aN nm l k<k+l.length)
 | [],_=>.inl rfl
 | q::t,k=>by
  rw [aN]
  split
  ·right;simp;omega
  ·rcases kP nm t (k+1) with h | h
   ·exact .inl h
   ·right;simp;omega
theorem eX (l:List Q) (nm:List UInt8):place l nm = -1∨(0≤place l nm∧place l nm<l.length):=by
 rcases kP nm l 0 with h | h
 ·exact .inl h
 ·right;unfold place;simp at h;omega
theorem jM {nm:List UInt8}:∀{l:List Q} {k:Nat},(∀q ∈ l,q.name≠nm)→aN nm l k = -1
 | [],_,_=>rfl
 | q::t,k,h=>by
  rw [aN,if_neg (h q (by simp))]
  exact jM (fun x hx=>h x (by simp [hx]))
theorem xG {l:List Q}:∀(m:List Q) (k:Nat),gN l m k=true→∀i (h:i<m.length),qOk l (k+i) m[i]=true
 | [],_,_,i,h=>by simp at h
 | x::t,k,ho,i,h=>by
  rw [gN,yK] at ho
  cases i with
  | zero=>simpa using ho.1
  | succ j=>
   have:=xG t (k+1) ho.2 j (by simpa using h)
   rw [show k+1+j=k+(j+1) by omega] at this
   simpa using this
theorem aIX (h:aH l=true) (i:Nat) (hi:i<l.length):qOk l i l[i]=true:=by
 have h1:gN l l 0=true:=by simp only [aH,yK] at h;exact h.1.1
 have:=xG l 0 h1 i hi
 simpa using this
theorem aE8 (h:aH l=true):∀q ∈ l,q.name≠[]:=fun q hq e=>by
 obtain ⟨i,hi,rfl⟩:=List.mem_iff_getElem.1 hq
 have:=aIX h i hi
 simp [qOk,bJ,e,inB] at this
theorem iF (h:aH l=true) (hi:i<l.length):place l l[i].parent<i:=by
 have h1:=aIX h i hi
 simp only [qOk,yK] at h1
 have h2:=h1.2
 by_cases h0:i=0
 ·rw [if_pos h0] at h2
  simp only [yK,yL] at h2
  rw [h2.1]
  have:place l [] = -1:=jM (aE8 h)
  omega
 ·rw [if_neg h0] at h2
  simp only [inB,yL] at h2
  omega
def dZ (l:List Q):Nat→Int→List (List UInt8)
 | 0,_=>[]
 | n+1,p=>if h:0≤p∧p.toNat<l.length then l[p.toNat].name::dZ l n (place l l[p.toNat].parent) else []
def path (l:List Q) (nm:List UInt8):List (List UInt8):=if aH l then dZ l (l.length+1) (place l nm) else []
theorem xC {l:List Q} (h:aH l=true):∀(n m:Nat) (p:Int),p<n→p<m→dZ l n p=dZ l m p
 | 0,0,_,_,_=>rfl
 | 0,m+1,p,h1,h2=>by rw [dZ,dZ,dif_neg (by omega)]
 | n+1,0,p,h1,h2=>by rw [dZ,dZ,dif_neg (by omega)]
 | n+1,m+1,p,h1,h2=>by
  rw [dZ,dZ]
  split
  ·rename_i hp
   have:=iF h hp.2
   rw [xC h n m _ (by omega) (by omega)]
  ·rfl
theorem aCJ (h:aH l=true) (hk:k<l.length) (hn:k<n):dZ l n k=l[k].name::dZ l n (place l l[k].parent):=by
 cases n with
 | zero=>omega
 | succ n=>
  have hp:=iF h hk
  rw [dZ,dif_pos (by simp;exact hk)]
  simp only [Int.toNat_natCast]
  rw [xC h n (n+1) _ (by omega) (by omega)]
theorem aBH {p:Int} (hp:p<0):dZ l n p=[]:=by
 cases n with
 | zero=>rfl
 | succ n=>rw [dZ,dif_neg (by omega)]
/-- a tree of queues, or nothing, is one with this one behind it -/
def aB4 (l : List Q) (q : Q) : Bool :=
  decide (l.length < 20) && bJ q.name && decide (place l q.name < 0) && decide (0 ≤ q.due ∧ q.due ≤ q.most ∧ q.most ≤ 10000)
    && (if l.length = 0 then decide (q.parent = [] ∧ q.due = 10000 ∧ q.most = 10000) else decide (0 ≤ place l q.parent ∧ dC q.parent l + q.due ≤ 10000))
/-- a tree of queues, or nothing -/
def okT (l : List Q) : Bool := gN l l 0 && jY l l && decide (l.length ≤ 20)
theorem oQ (nm : List UInt8) (q : Q) : ∀ (l : List Q) (k : Nat), aN nm (l ++ [q]) k = if aN nm l k < 0 then (if q.name = nm then ((k + l.length : Nat) : Int) else -1) else aN nm l k
  | [], k => by simp [aN]
  | x :: t, k => by
    rw [List.cons_append, aN, aN]
    by_cases h : x.name = nm
    · rw [if_pos h, if_pos h, if_neg (by omega)]
    · rw [if_neg h, if_neg h, oQ nm q t (k + 1)]
      simp only [List.length_cons, show k + 1 + t.length = k + (t.length + 1) by omega]
theorem nU (l : List Q) (q : Q) (nm : List UInt8) : place (l ++ [q]) nm = if place l nm < 0 then (if q.name = nm then (l.length : Int) else -1) else place l nm := by
  unfold place
  rw [oQ, Nat.zero_add]
theorem qB {nm : List UInt8} : ∀ {l : List Q} {k : Nat}, (∃ q ∈ l, q.name = nm) → 0 ≤ aN nm l k
  | [], _, h => by obtain ⟨q, hq, _⟩ := h; simp at hq
  | x :: t, k, h => by
    rw [aN]
    by_cases e : x.name = nm
    · rw [if_pos e]; omega
    · rw [if_neg e]
      obtain ⟨q, hq, hn⟩ := h
      rcases List.mem_cons.1 hq with rfl | hq
      · exact absurd hn e
      · exact qB ⟨q, hq, hn⟩
theorem aCH (h : ∃ q ∈ l, q.name = nm) : 0 ≤ place l nm := qB h
theorem aCI (h : 0 ≤ place l nm) : ∃ q ∈ l, q.name = nm := by
  refine Classical.byContradiction fun hc => ?_
  have : place l nm = -1 := jM (fun q hq e => hc ⟨q, hq, e⟩)
  omega
theorem aGa (h : place l nm < 0) : ∀ q ∈ l, q.name ≠ nm := fun q hq e => by
  have := aCH (l := l) (nm := nm) ⟨q, hq, e⟩
  omega
theorem qU (nm : List UInt8) (q : Q) : ∀ l : List Q, dC nm (l ++ [q]) = dC nm l + (if q.parent = nm then q.due else 0)
  | [] => by simp [dC]
  | x :: t => by rw [List.cons_append, dC, dC, qU nm q t]; omega
theorem uN (l : List Q) (q : Q) (nm : List UInt8) (h : 0 < l.length) : iA (l ++ [q]) nm = iA l nm + (if q.parent = nm then q.due else 0) := by
  cases l with
  | nil => simp at h
  | cons x t => exact qU nm q t
theorem yR {nm : List UInt8} : ∀ {l : List Q}, (∀ q ∈ l, q.parent ≠ nm) → dC nm l = 0
  | [], _ => rfl
  | x :: t, h => by rw [dC, if_neg (h x (by simp)), yR (fun q hq => h q (by simp [hq]))]; omega
theorem aAX {l : List Q} : ∀ (m : List Q) (k : Nat), gN l m k = true ↔ ∀ i (h : i < m.length), qOk l (k + i) m[i] = true
  | [], k => by simp [gN]
  | x :: t, k => by
    constructor
    · exact xG (x :: t) k
    · intro h
      rw [gN, yK]
      refine ⟨by have := h 0 (by simp); rw [Nat.add_zero] at this; exact this, (aAX t (k + 1)).2 fun i hi => ?_⟩
      have := h (i + 1) (by simpa using hi)
      rw [show k + 1 + i = k + (i + 1) by omega]
      simpa using this
theorem aAJ {l : List Q} : ∀ (m : List Q), jY l m = true ↔ ∀ q ∈ m, iA l q.name ≤ 10000
  | [] => by simp [jY]
  | x :: t => by rw [jY, yK, aAJ t]; simp
theorem aBL : okT l = true ↔ (∀ i (h : i < l.length), qOk l i l[i] = true) ∧ (∀ q ∈ l, iA l q.name ≤ 10000) ∧ l.length ≤ 20 := by
  rw [okT, yK, yK, aAX l 0, aAJ l, and_assoc]
  simp
theorem uC (l : List Q) : aH l = (okT l && decide (0 < l.length)) := by
  rw [aH, okT]
  cases gN l l 0 <;> cases jY l l <;> simp [inB]
  rw [Bool.eq_iff_iff]; simp; omega
theorem aE3 {q:Q} (hi : i < l.length) : qOk (l ++ [q]) i l[i] = qOk l i l[i] := by
  have h1 : 0 ≤ place l l[i].name := aCH ⟨l[i], yM _, rfl⟩
  have h2 : place (l ++ [q]) l[i].name = place l l[i].name := by rw [nU, if_neg (by omega)]
  have h3 : inB (place (l ++ [q]) l[i].parent) 0 ((i : Int) - 1) = inB (place l l[i].parent) 0 ((i : Int) - 1) := by
    rw [nU]
    by_cases h : place l l[i].parent < 0
    · rw [if_pos h]
      simp only [inB]
      rw [decide_eq_false (p := 0 ≤ place l l[i].parent ∧ _) (by omega)]
      refine decide_eq_false ?_
      split <;> omega
    · rw [if_neg h]
  simp only [qOk, h2, h3]
theorem aDj (h : ∀ i (h : i < l.length), qOk l i l[i] = true) : ∀ q ∈ l, bJ q.name = true ∧ 0 ≤ q.due ∧ q.due ≤ 10000 ∧ (q.parent = [] ∨ ∃ x ∈ l, x.name = q.parent) := fun q hq => by
  obtain ⟨i, hi, rfl⟩ := List.mem_iff_getElem.1 hq
  have := h i hi
  simp only [qOk, yK, yL, inB] at this
  obtain ⟨⟨⟨⟨a1, a2⟩, a3⟩, a4⟩, a5⟩ := this
  refine ⟨a1, a4.1, by omega, ?_⟩
  by_cases e : i = 0
  · rw [if_pos e] at a5
    simp only [yK, yL] at a5
    exact .inl a5.1
  · rw [if_neg e] at a5
    simp only [yL] at a5
    exact .inr (aCI a5.1)
theorem aCT {n:List UInt8} (h : bJ n = true) : n ≠ [] := fun e => by simp [bJ, e, inB] at h
theorem aIY (l : List Q) (q : Q) : okT (l ++ [q]) = (okT l && aB4 l q) := by
  rw [Bool.eq_iff_iff, yK, aBL, aBL]
  have hA : (∀ i (h : i < (l ++ [q]).length), qOk (l ++ [q]) i (l ++ [q])[i] = true) ↔ (∀ i (h : i < l.length), qOk l i l[i] = true) ∧ qOk (l ++ [q]) l.length q = true := by
    constructor
    · intro h
      refine ⟨fun i hi => ?_, ?_⟩
      · have := h i (by simp; omega)
        rw [List.getElem_append_left hi, aE3 hi] at this
        exact this
      · have := h l.length (by simp)
        simpa using this
    · rintro ⟨h1, h2⟩ i hi
      by_cases e : i < l.length
      · rw [List.getElem_append_left e, aE3 e]; exact h1 i e
      · have : i = l.length := by simp at hi; omega
        subst this
        simpa using h2
  rw [hA]
  have hP : qOk (l ++ [q]) l.length q = true ↔ bJ q.name = true ∧ place l q.name < 0 ∧ (0 ≤ q.due ∧ q.due ≤ q.most ∧ q.most ≤ 10000) ∧ (if l.length = 0 then q.parent = [] ∧ q.due = 10000 else 0 ≤ place l q.parent) := by
    simp only [qOk, yK, yL, inB]
    have e1 : place (l ++ [q]) q.name = (l.length : Int) ↔ place l q.name < 0 := by
      rw [nU]
      have := eX l q.name
      by_cases h : place l q.name < 0
      · simp [h]
      · rw [if_neg h]; constructor <;> intro _ <;> omega
    rw [e1]
    by_cases h0 : l.length = 0
    · rw [if_pos h0, if_pos h0]
      simp only [yK, yL]
      constructor
      · rintro ⟨⟨⟨⟨a, b⟩, c⟩, d⟩, e⟩; exact ⟨a, b, by omega, e⟩
      · rintro ⟨a, b, c, e⟩; exact ⟨⟨⟨⟨a, b⟩, by omega⟩, by omega⟩, e⟩
    · rw [if_neg h0, if_neg h0]
      simp only [yL]
      have e2 : (0 ≤ place (l ++ [q]) q.parent ∧ place (l ++ [q]) q.parent ≤ (l.length : Int) - 1) ↔ 0 ≤ place l q.parent := by
        rw [nU]
        have := eX l q.parent
        by_cases h : place l q.parent < 0
        · rw [if_pos h]; constructor
          · intro h'; split at h' <;> omega
          · intro h'; omega
        · rw [if_neg h]; constructor <;> intro _ <;> omega
      rw [e2]
      constructor
      · rintro ⟨⟨⟨⟨a, b⟩, c⟩, d⟩, e⟩; exact ⟨a, b, by omega, e⟩
      · rintro ⟨a, b, c, e⟩; exact ⟨⟨⟨⟨a, b⟩, by omega⟩, by omega⟩, e⟩
  have hF : aB4 l q = true ↔ l.length < 20 ∧ bJ q.name = true ∧ place l q.name < 0 ∧ (0 ≤ q.due ∧ q.due ≤ q.most ∧ q.most ≤ 10000) ∧ (if l.length = 0 then q.parent = [] ∧ q.due = 10000 ∧ q.most = 10000 else 0 ≤ place l q.parent ∧ dC q.parent l + q.due ≤ 10000) := by
    by_cases h0 : l.length = 0 <;> simp only [aB4, h0, if_true, if_false, yK, yL, and_assoc]
  rw [hP, hF]
  by_cases h0 : l.length = 0
  · have hl : l = [] := List.eq_nil_of_length_eq_zero h0
    subst hl
    simp only [List.length_nil, if_true, List.nil_append, List.length_cons, List.mem_singleton, forall_eq]
    have hk : iA [q] q.name = 0 := rfl
    rw [hk]
    constructor
    · rintro ⟨⟨_, a, b, c, d, e⟩, _⟩
      exact ⟨⟨fun i hi => by simp at hi, fun x hx => by simp at hx, by omega⟩, by omega, a, b, c, d, e, by omega⟩
    · rintro ⟨_, _, a, b, c, d, e, f⟩
      exact ⟨⟨fun i hi => by simp at hi, a, b, c, d, e⟩, by omega, by omega⟩
  · rw [if_neg h0, if_neg h0]
    have hlp : 0 < l.length := by omega
    constructor
    · rintro ⟨⟨h1, a, b, c, d⟩, h2, h3⟩
      have hk := aDj h1
      have h4 : ∀ x ∈ l, iA l x.name + (if q.parent = x.name then q.due else 0) ≤ 10000 := fun x hx => by
        have := h2 x (by simp [hx])
        rwa [uN l q x.name hlp] at this
      refine ⟨⟨h1, fun x hx => ?_, by simp at h3; omega⟩, by simp at h3; omega, a, b, c, d, ?_⟩
      · have := h4 x hx
        split at this <;> omega
      · obtain ⟨x, hx, hn⟩ := aCI d
        have := h4 x hx
        rw [hn, if_pos rfl] at this
        have hd : dC q.parent l = iA l q.parent := by
          cases l with
          | nil => simp at hlp
          | cons y t =>
            show dC q.parent (y :: t) = dC q.parent t
            rw [dC, if_neg, Int.zero_add]
            intro e
            have hy := h1 0 (by simp)
            simp only [qOk, List.getElem_cons_zero, if_true, yK, yL] at hy
            exact aCT (hk x hx).1 (by rw [hn, ← e, hy.2.1])
        omega
    · rintro ⟨⟨h1, h2, h3⟩, h4, a, b, c, d, e⟩
      have hk := aDj h1
      have hd : iA l q.parent ≤ dC q.parent l := by
        cases l with
        | nil => simp at hlp
        | cons y t =>
          show dC q.parent t ≤ dC q.parent (y :: t)
          rw [dC]
          have := (hk y (by simp)).2.1
          split <;> omega
      refine ⟨⟨h1, a, b, c, d⟩, fun x hx => ?_, by simp; omega⟩
      rw [uN l q x.name hlp]
      rcases List.mem_append.1 hx with hx | hx
      · have := h2 x hx
        split
        · rename_i hq
          rw [hq] at hd e
          omega
        · omega
      · have : x = q := by simpa using hx
        subst this
        have hz : iA l x.name = 0 := by
          cases l with
          | nil => simp at hlp
          | cons y t =>
            refine yR (l := t) fun z hz hp => ?_
            rcases (hk z (by simp [hz])).2.2.2 with hn | ⟨u, hu, hn⟩
            · exact aCT a (by rw [← hp, hn])
            · exact aGa b u hu (by rw [hn, hp])
        have : x.parent ≠ x.name := fun hp => by rw [hp] at d; omega
        rw [if_neg this, hz]
        omega
theorem qH (h : k < l.length) : okT (l.take (k + 1)) = (okT (l.take k) && aB4 (l.take k) l[k]) := by
  rw [List.take_succ_eq_append_getElem h, aIY]
/-- where a beginning is none, the whole is none -/
theorem zY (h : okT (l.take k) = false) : okT l = false := by
  by_cases hk : k < l.length
  · have : ∀ n, k ≤ n → n ≤ l.length → okT (l.take n) = false := by
      intro n hn
      induction n with
      | zero => intro _; have : k = 0 := by omega
                subst this; exact h
      | succ m ih =>
        intro hm
        by_cases e : k = m + 1
        · subst e; exact h
        · rw [qH (by omega), ih (by omega) (by omega)]; rfl
    have := this l.length (by omega) (yJ _)
    rwa [List.take_length] at this
  · rwa [List.take_of_length_le (by omega)] at h
theorem aJg (h : okT l = true) : ∀ q ∈ l, 0 ≤ q.due ∧ q.due ≤ 10000 := fun q hq => by
  have := aDj (aBL.1 h).1 q hq
  exact ⟨this.2.1, this.2.2.1⟩
def iX (p:Q→Bool):List Q→Nat→Int
 | [],_=>-1
 | q::t,k=>if p q=true then (k:Int) else iX p t (k+1)
theorem aCg (h:k<l.length):iX p (l.drop k) k=if p l[k]=true then (k:Int) else iX p (l.drop (k+1)) (k+1):=by
 rw [List.drop_eq_getElem_cons h,iX]
theorem aDm (h:l.length≤k):iX p (l.drop k) k = -1:=by
 rw [List.drop_of_length_le h];rfl
theorem aCd (nm:List UInt8):∀(l:List Q) (k:Nat),iX (fun q=>decide (q.name=nm)) l k=aN nm l k
 | [],_=>rfl
 | q::t,k=>by
  rw [iX,aN,aCd nm t (k+1)]
  by_cases h:q.name=nm<;>simp [h]
theorem aHK (p:Q→Bool):∀(l:List Q) (k:Nat),decide (0≤iX p l k)=l.any p
 | [],_=>by simp [iX]
 | q::t,k=>by
  rw [iX,List.any_cons]
  by_cases h:p q=true
  ·rw [if_pos h,h];simp
  ·rw [if_neg h,aHK p t (k+1)];simp [h]
theorem qP (g:Nat) (lb:Array Value) (eg:∀args w,(callFunc g args).run Tryz.prog w=.ok (.enter g args) w) (p:Q→Bool) (ao:Option Addr) (len cap:Nat) (l:List Q) (w:World) (h:gJ w ao len l) (hl:len≤1048576)
  (hp:∀wx q,Bw w wx→Calls Tryz.prog g (#[qv q]++lb) wx fun e w'=>e=.returned (.bool (p q))∧Bw wx w') :
  cP 184 #[.slice ao len cap,.func (.func g) #[] lb] w fun e w'=>e=.returned (.int .i64 (iX p l 0))∧Bw w w':=by
 have HR:=aA h
 have HL:=aA h.1
 have HP:=aA hp
 clear h hp
 go_enter Tryz.func184,Tryz.ntmps184
 go_wp2
 go_loopw [5,8] (fun _ i wr=>∃k:Nat,k≤len∧i=.int .i64 k∧Hid (iX p l 0=iX p (l.drop k) k)∧Hid (Bw w wr)) (fun _ i _=>len - (intOf i).toNat)
 case atStart=>exact ⟨0,Nat.zero_le _,rfl,aA (by simp),aA (yH _ _)⟩
 case round=>
  obtain ⟨k,hk,rfl,hq,HB⟩:=hrel
  by_cases hlt:k<len
  ·obtain ⟨b,off,rfl,hx⟩:=((uH HR).below (uH HB)).at hlt
   have hkl:k<l.length:=by have:=uH HL;omega
   have hst:=aA (aCg (p:=p) (l:=l) (k:=k) hkl)
   obtain ⟨c0,c1,c2,c3⟩:=hx hkl
   clear hx
   obtain ⟨⟨nm,pa,du,mo⟩,hs⟩:∃s,l[k]=s:=⟨_,rfl⟩
   rw [hs] at c0 c1 c2 c3 hst
   simp only at c0 c1 c2 c3
   have HC:=aA (uH HP wr ⟨nm,pa,du,mo⟩ (uH HB))
   clear hs hkl HP
   cases hpq:p ⟨nm,pa,du,mo⟩ with
   | true=>
    rw [hpq] at HC
    have HQ:=aA hpq
    clear hpq
    go_wp2_with (go_at_fn g;refine (uH HC).mono ?_;rintro e w' ⟨rfl,hb⟩)
    go_ret
    exact ⟨eP (by rw [uH hq,uH hst,if_pos (uH HQ)]),yB (uH HB) hb⟩
   | false=>
    rw [hpq] at HC
    have HQ:=aA hpq
    clear hpq
    go_wp2_with (go_at_fn g;refine (uH HC).mono ?_;rintro e w' ⟨rfl,hb⟩)
    go_roundw
    case rel=>exact ⟨k+1,by omega,by go_num,aA (by rw [uH hq,uH hst,if_neg (by rw [uH HQ];simp)]),aA (yB (uH HB) hb)⟩
    case measure=>simp [intOf];omega
  ·go_wp2
   go_ret
   exact ⟨eP (by rw [uH hq,aDm (by have:=uH HL;omega)]),uH HB⟩
theorem aDY (B:Nat) (nm:List UInt8) (q:Q) (w:World) (hc:w.cell? ⟨B,0,none⟩=some (.string (bs nm))) :
  cP 185 #[qv q,.pointer (some ⟨B,0,none⟩)] w fun e w'=>e=.returned (.bool (decide (q.name=nm)))∧Bw w w':=by
 have hlt:=yG hc
 have hc2:(w.alloc (.cells #[.string (bs q.name),.string (bs q.parent),.int .i64 q.due,.int .i64 q.most] 56)).cell? ⟨B,0,none⟩=some (.string (bs nm)):=by rw [World.cell?_alloc_lt _ _ ⟨B,0,none⟩ hlt];exact hc
 have hbe:=lL q.name nm
 clear hc hlt
 go_enter Tryz.func185,Tryz.ntmps185
 go_wp2
 go_ret
 exact ⟨rfl,yA (yH _ _) _⟩
theorem qA (ao:Option Addr) (len cap:Nat) (l:List Q) (nm:List UInt8) (w:World) (h:gJ w ao len l) (hl:len≤1048576) :
  cP 146 #[.slice ao len cap,.string (bs nm)] w fun e w'=>e=.returned (.int .i64 (place l nm))∧Bw w w':=by
 have KQ:∀(fn:Fn) (first cap:Array Value) (w:World),(Instr.makeFunc fn first cap).run Tryz.prog w=.ok (.func fn first cap) w:=fun _ _ _ _=>rfl
 have hb0:=yA (yH _ w) (.cells #[.string (bs nm)] 9)
 have C:=aA (qP 185 #[.pointer (some ⟨w.heap.size,0,none⟩)] (enters_of Tryz.func185 (by kernel_rfl) rfl) (fun q=>decide (q.name=nm)) ao len cap l _ (h.below hb0) hl
  (fun wx q hb=>aDY w.heap.size nm q wx ((hb.cell (p:=⟨w.heap.size,0,none⟩) (by simp)).trans (by simp))))
 rw [aCd] at C
 obtain ⟨p,hp⟩:∃p,aN nm l 0=p:=⟨_,rfl⟩
 rw [show place l nm=p from hp]
 rw [hp] at C
 have HB0:=aA hb0
 clear h hb0 hp
 go_enter Tryz.func146,Tryz.ntmps146
 go_wp2_with fail
 refine (uH C).mono ?_
 rintro e w1 ⟨rfl,hb⟩
 have HB:=aA (yB (uH HB0) hb)
 clear hb
 go_wp2
 go_ret
 exact ⟨rfl,uH HB⟩
theorem pK (a b c d:Int) (w:World) :
  cP 20 #[rv a b,rv c d] w fun e w'=>e=.returned (.tuple #[kT 1 a b c d,.bool (aP 1 a b c d)])∧Bw w w':=by
 have V1:=((bD w 37 a b).al (.cells #[.int .i64 c,.int .i64 d] 37)).al (.cells #[.int .i64 0,.int .i64 0] 37)
 have V2:=(jK w 37 37 a b c d).al (.cells #[.int .i64 0,.int .i64 0] 37)
 have V3:=jK (w.alloc (.cells #[.int .i64 a,.int .i64 b] 37)) 37 37 c d 0 0
 have B3:=yA (yA (yA (yH _ w) (.cells #[.int .i64 a,.int .i64 b] 37)) (.cells #[.int .i64 c,.int .i64 d] 37)) (.cells #[.int .i64 0,.int .i64 0] 37)
 simp at V3
 have GH:=aA V1
 have GI:=aA V2
 have QO:=aA V3
 have HB3:=aA B3
 have hc:=aA (nW a b c d)
 clear V1 V2 V3 B3
 cases h0:aM a b&&aM c d
 ·have hb:aP 1 a b c d=false:=by rw [aP,h0];rfl
  rw [mH hb,hb]
  go_enter Tryz.func20,Tryz.ntmps20
  go_wp2_with fail
  refine (uH hc _).mono ?_
  rw [h0]
  rintro e w1 ⟨rfl,hb⟩
  have V3:=(uH QO).below hb
  have k2:=V3.f 0
  have k3:=V3.f 1
  have k0:=V3.c0
  have k1:=V3.c1
  have k4:=V3.s0 (.int .i64 0)
  have k5:=V3.s1 (.int .i64 0) (.int .i64 0)
  have HB:=aA (yB (uH HB3) hb)
  clear hb GH GI QO HB3 V3 hc
  go_wp2
  refine bodyPost_ret (v:=.tuple #[rv 0 0,.bool false]) (by simp [results,Tryz.results20,go_sem,k4,k5]) rfl ⟨rfl,?_⟩
  repeat (first | exact uH HB | refine yA ?_ _ | refine Below.drew ?_ | refine yC ?_ _ _ _ (by omega))
 ·have h0':=h0
  simp only [yK] at h0'
  obtain ⟨q1,q2,q3,q4⟩:=aO h0'.1
  obtain ⟨q5,q6,q7,q8⟩:=aO h0'.2
  obtain ⟨x,hx⟩:∃x,a+c=x:=⟨_,rfl⟩
  obtain ⟨y,hy⟩:∃y,b+d=y:=⟨_,rfl⟩
  have m3:IntKind.i64.wrap (a+c)=x:=by rw [IntKind.wrap_i64];omega
  have m4:IntKind.i64.wrap (b+d)=y:=by rw [IntKind.wrap_i64];omega
  have e1:aP 1 a b c d=aM x y:=by rw [aP,h0,show a+1*c=x by omega,show b+1*d=y by omega];rfl
  have e2:kT 1 a b c d=orV x y:=by rw [kT,orV,e1,show a+1*c=x by omega,show b+1*d=y by omega]
  obtain ⟨u,v,hv⟩:∃u v,orV x y=rv u v:=by unfold orV;split<;>exact ⟨_,_,rfl⟩
  obtain ⟨o,ho⟩:∃o,aM x y=o:=⟨_,rfl⟩
  have ho2:∀wx,cP 65 #[rv x y] wx fun e w'=>e=.returned (.tuple #[rv u v,.bool o])∧Bw wx w':=fun wx=>by have:=aJJ x y wx;rw [hv,ho] at this;exact this
  rw [e1,e2,hv,ho]
  have HO:=aA ho2
  clear e1 e2 hv ho ho2 h0' q1 q2 q3 q4 q5 q6 q7 q8 hx hy
  go_enter Tryz.func20,Tryz.ntmps20
  go_wp2_with fail
  refine (uH hc _).mono ?_
  rw [h0]
  rintro e w1 ⟨rfl,hb⟩
  have V1:=(uH GH).below hb
  have V2:=(uH GI).below hb
  have V3:=aA ((uH QO).below hb)
  have a1:=V1.c0
  have a2:=V1.c1
  have a3:=V2.c0
  have a4:=V2.c1
  have HB:=aA (yB (uH HB3) hb)
  clear hb GH GI QO HB3 V1 V2 hc
  go_wp2_with fail
  refine (uH HO _).mono ?_
  rintro e w2 ⟨rfl,hb⟩
  have V4:=(uH V3).below hb
  have k0:=V4.c0
  have k1:=V4.c1
  have k2:=V4.f 0
  have k3:=V4.f 1
  have k4:=V4.s0 (.int .i64 u)
  have k5:=V4.s1 (.int .i64 u) (.int .i64 v)
  have HB2:=aA (yB (uH HB) hb)
  clear hb V4 V3 HB HO a1 a2 a3 a4
  go_wp2
  refine bodyPost_ret (v:=.tuple #[rv u v,.bool o]) (by simp [results,Tryz.results20,go_sem,k4,k5]) rfl ⟨rfl,?_⟩
  repeat (first | exact uH HB2 | refine yA ?_ _ | refine Below.drew ?_ | refine yC ?_ _ _ _ (by omega))
def dV (most:Bool) (q:Q):Int:=if most then q.most else q.due
def uW (l:List Q) (n:List UInt8):Q:=l.getD (place l n).toNat ⟨[],[],0,0⟩
def ofP (l:List Q) (most:Bool) (t:Int×Int):List (List UInt8)→Int×Int
 | []=>t
 | [_]=>t
 | n::m::r=>(fA (ofP l most t (m::r)).1 (ofP l most t (m::r)).2 (dV most (uW l n)),fB (ofP l most t (m::r)).1 (ofP l most t (m::r)).2 (dV most (uW l n)))
def ofR (l:List Q) (nm:List UInt8) (a b:Int) (most:Bool):Int×Int:=if path l nm=[]∨aM a b=false then (0,0) else ofP l most (a,b) (path l nm)
theorem aI0 (l:List Q) (most:Bool) (t:Int×Int) {p:List (List UInt8)} (h:p≠[]):ofP l most t (p.drop (p.length - 1))=t:=by
 have hl:0<p.length:=List.length_pos_iff.2 h
 rw [List.drop_eq_getElem_cons (by omega),show p.length - 1+1=p.length by omega,List.drop_length]
 rfl
theorem aIZ (l:List Q) (most:Bool) (t:Int×Int) {p:List (List UInt8)} (h:j+1<p.length) :
  ofP l most t (p.drop j)=(fA (ofP l most t (p.drop (j+1))).1 (ofP l most t (p.drop (j+1))).2 (dV most (uW l p[j])),fB (ofP l most t (p.drop (j+1))).1 (ofP l most t (p.drop (j+1))).2 (dV most (uW l p[j]))):=by
 rw [List.drop_eq_getElem_cons (show j<p.length by omega),List.drop_eq_getElem_cons h,ofP]
theorem uE {l:List Q} (h:aH l=true):∀(n:Nat) (p:Int),∀x ∈ dZ l n p,∃k:Nat,∃hk:k<l.length,place l x=k∧l[k].name=x
 | 0,_,x,hx=>by simp [dZ] at hx
 | n+1,p,x,hx=>by
  rw [dZ] at hx
  split at hx
  ·rename_i hp
   rcases List.mem_cons.1 hx with rfl | hx
   ·refine ⟨p.toNat,hp.2,?_,rfl⟩
    have:=aIX h p.toNat hp.2
    simp only [qOk,yK,yL] at this
    exact this.1.1.1.2
   ·exact uE h n _ x hx
  ·simp at hx
theorem aFT:∀x ∈ path l nm,∃k:Nat,∃hk:k<l.length,place l x=k∧uW l x=l[k]:=fun x hx=>by
 unfold path at hx
 split at hx
 ·rename_i h
  obtain ⟨k,hk,h1,h2⟩:=uE h _ _ x hx
  exact ⟨k,hk,h1,by rw [uW,h1];simp [List.getD_eq_getElem?_getD,List.getElem?_eq_getElem hk]⟩
 ·simp at hx
theorem aAW {l:List Q}:∀(n:Nat) (p:Int),(dZ l n p).length≤n
 | 0,_=>by simp [dZ]
 | n+1,p=>by
  rw [dZ]
  split
  ·have:=aAW (l:=l) n (place l l[p.toNat].parent);simp;exact this
  ·simp
theorem aIU (l:List Q) (nm:List UInt8):(path l nm).length≤l.length+1:=by
 unfold path;split
 ·exact aAW _ _
 ·simp
abbrev fv (p:Int×Int):Value:=rv p.1 p.2
def aKK (x y:Int):Prop:=jH x∧jH y∧(y=0→x=1)
theorem qD {u:Int} (hu:jH u) (hd:jH d):aKK (l5 u d).1 (l5 u d).2:=by
 refine ⟨(kK hu hd).1,(kK hu hd).2,?_⟩
 unfold l5
 split
 ·intro h;simp at h;omega
 ·split<;>simp
theorem aAO (a b c d:Int):aKK (fO a b c d).1 (fO a b c d).2:=by
 unfold fO
 split
 ·rename_i h
  simp only [yK] at h
  obtain ⟨s1,s2⟩:=eF h.1
  obtain ⟨s3,s4⟩:=eF h.2
  split
  ·exact qD s2 s4
  ·exact qD s1 s3
 ·exact ⟨by unfold jH;simp,by unfold jH;simp,by simp⟩
theorem aF7 {c:Int} (h1:aKK a b) (h2:aKK c d):less a b c d=decide (a*d<c*b):=by
 obtain ⟨⟨a0,a1⟩,⟨b0,b1⟩,k1⟩:=h1
 obtain ⟨⟨c0,c1⟩,⟨d0,d1⟩,k2⟩:=h2
 unfold less
 split
 ·rename_i hb
  subst hb
  rw [k1 rfl]
  simp;omega
 ·split
  ·rename_i hb hd
   subst hd
   rw [k2 rfl]
   simp;omega
  ·rfl
theorem oZ (u d:Int) (w:World) :
  cP 205 #[.int .i64 u,.int .i64 d] w fun e w'=>e=.returned (fv (l5 u d))∧Bw w w':=by
 by_cases h1:0<d
 ·rw [show l5 u d=(u,d) from if_pos h1]
  go_enter Tryz.func205,Tryz.ntmps205
  go_wp2
  refine bodyPost_ret (v:=rv u d) (by simp [results,Tryz.results205,go_sem]) rfl ⟨rfl,?_⟩
  repeat (first | exact yH _ _ | refine yA ?_ _ | refine Below.drew ?_ | refine yC ?_ _ _ _ (by omega))
 ·by_cases h2:0<u
  ·rw [show l5 u d=(1,0) by simp [l5,h1,h2]]
   go_enter Tryz.func205,Tryz.ntmps205
   go_wp2
   refine bodyPost_ret (v:=rv 1 0) (by simp [results,Tryz.results205,go_sem]) rfl ⟨rfl,?_⟩
   repeat (first | exact yH _ _ | refine yA ?_ _ | refine Below.drew ?_ | refine yC ?_ _ _ _ (by omega))
  ·rw [show l5 u d=(0,1) by simp [l5,h1,h2]]
   go_enter Tryz.func205,Tryz.ntmps205
   go_wp2
   refine bodyPost_ret (v:=rv 0 1) (by simp [results,Tryz.results205,go_sem]) rfl ⟨rfl,?_⟩
   repeat (first | exact yH _ _ | refine yA ?_ _ | refine Below.drew ?_ | refine yC ?_ _ _ _ (by omega))
theorem uS (a b c d:Int) (w:World) (h1:aKK a b) (h2:aKK c d) :
  cP 197 #[rv a b,rv c d] w fun e w'=>e=.returned (.bool (less a b c d))∧Bw w w':=by
 obtain ⟨m1,m2⟩:=p9 h1.1 h2.2.1
 obtain ⟨m3,m4⟩:=p9 h2.1 h1.2.1
 rw [aF7 h1 h2]
 clear h1 h2
 go_enter Tryz.func197,Tryz.ntmps197
 go_wp2
 go_ret
 refine ⟨rfl,?_⟩
 repeat (first | exact yH _ _ | refine yA ?_ _ | refine Below.drew ?_ | refine yC ?_ _ _ _ (by omega))
theorem aBI (a b c d:Int) (w:World) :
  cP 203 #[pv a b c d] w fun e w'=>e=.returned (fv (fO a b c d))∧Bw w w':=by
 have GH:=aA ((vX w 86 a b c d).al (.cells #[.int .i64 0,.int .i64 0] 220))
 have GI:=aA (show Var ((w.alloc (.cells #[.int .i64 a,.int .i64 b,.int .i64 c,.int .i64 d] 86)).alloc (.cells #[.int .i64 0,.int .i64 0] 220)) 220 (w.heap.size+1) 0 0 by have:=bD (w.alloc (.cells #[.int .i64 a,.int .i64 b,.int .i64 c,.int .i64 d] 86)) 220 0 0;simpa using this)
 have HB0:=aA (yA (yA (yH _ w) (.cells #[.int .i64 a,.int .i64 b,.int .i64 c,.int .i64 d] 86)) (.cells #[.int .i64 0,.int .i64 0] 220))
 have hc:=aA (nW a b c d)
 cases h0:aM a b&&aM c d
 ·rw [show fO a b c d=(0,1) by rw [fO,h0];rfl]
  go_enter Tryz.func203,Tryz.ntmps203
  go_wp2_with fail
  refine (uH hc _).mono ?_
  rw [h0]
  rintro e w1 ⟨rfl,hb⟩
  have V2:=(uH GI).below hb
  have k0:=V2.c0
  have k1:=V2.c1
  have k2:=V2.f 0
  have k3:=V2.f 1
  have k4:=V2.s0 (.int .i64 0)
  have k5:=V2.s1 (.int .i64 0) (.int .i64 1)
  have HB:=aA (yB (uH HB0) hb)
  clear hb GH GI HB0 V2 hc
  go_wp2
  refine bodyPost_ret (v:=rv 0 1) (by simp [results,Tryz.results203,go_sem,k4,k5]) rfl ⟨rfl,?_⟩
  repeat (first | exact uH HB | refine yA ?_ _ | refine Below.drew ?_ | refine yC ?_ _ _ _ (by omega))
 ·have h0':=h0
  simp only [yK] at h0'
  obtain ⟨s1,s2⟩:=eF h0'.1
  obtain ⟨s3,s4⟩:=eF h0'.2
  have F1:=qD s1 s3
  have F2:=qD s2 s4
  have hr:fO a b c d=if less (l5 a c).1 (l5 a c).2 (l5 b d).1 (l5 b d).2 then l5 b d else l5 a c:=by rw [fO,h0];rfl
  rw [hr]
  have hp1:=aA (oZ a c)
  have hp2:=aA (oZ b d)
  obtain ⟨⟨x1,y1⟩,e1⟩:∃p,l5 a c=p:=⟨_,rfl⟩
  obtain ⟨⟨x2,y2⟩,e2⟩:∃p,l5 b d=p:=⟨_,rfl⟩
  rw [e1] at hp1 F1 ⊢
  rw [e2] at hp2 F2 ⊢
  obtain ⟨l,hl⟩:∃l,less x1 y1 x2 y2=l:=⟨_,rfl⟩
  have hL:∀wx,cP 197 #[rv x1 y1,rv x2 y2] wx fun e w'=>e=.returned (.bool l)∧Bw wx w':=fun wx=>by have:=uS x1 y1 x2 y2 wx F1 F2;rw [hl] at this;exact this
  have HL:=aA hL
  rw [show less (x1,y1).1 (x1,y1).2 (x2,y2).1 (x2,y2).2=l from hl]
  clear hL hl F1 F2 e1 e2 hr s1 s2 s3 s4 h0'
  go_enter Tryz.func203,Tryz.ntmps203
  go_wp2_with fail
  refine (uH hc _).mono ?_
  rw [h0]
  rintro e w1 ⟨rfl,hb⟩
  have V1:=(uH GH).below hb
  have BU:=aA V1
  have V2:=aA ((uH GI).below hb)
  have a1:=V1.c0
  have a2:=V1.c1
  have a3:=V1.c2
  have a4:=V1.c3
  have HB:=aA (yB (uH HB0) hb)
  clear hb GH GI HB0 V1 hc
  go_wp2_with fail
  refine (uH hp1 _).mono ?_
  rintro e w2 ⟨rfl,hb⟩
  have V3:=aA (((uH BU).below hb).al (.cells #[.int .i64 x1,.int .i64 y1] 220))
  have V4:=aA (((uH V2).below hb).al (.cells #[.int .i64 x1,.int .i64 y1] 220))
  have V5:=aA (bD w2 220 x1 y1)
  have HB2:=aA (yA (yB (uH HB) hb) (.cells #[.int .i64 x1,.int .i64 y1] 220))
  clear hb BU V2 HB hp1 a1 a2 a3 a4
  have a1:=(uH V3).c0
  have a2:=(uH V3).c1
  have a3:=(uH V3).c2
  have a4:=(uH V3).c3
  go_wp2_with fail
  refine (uH hp2 _).mono ?_
  rintro e w3 ⟨rfl,hb⟩
  have V6:=aA (((uH V4).below hb).al (.cells #[.int .i64 x2,.int .i64 y2] 220))
  have V7:=aA (((uH V5).below hb).al (.cells #[.int .i64 x2,.int .i64 y2] 220))
  have V8:=aA (bD w3 220 x2 y2)
  have HB3:=aA (yA (yB (uH HB2) hb) (.cells #[.int .i64 x2,.int .i64 y2] 220))
  clear hb V3 V4 V5 HB2 hp2 a1 a2 a3 a4
  have a1:=(uH V7).c0
  have a2:=(uH V7).c1
  have a3:=(uH V8).c0
  have a4:=(uH V8).c1
  go_wp2_with fail
  refine (uH HL _).mono ?_
  rintro e w4 ⟨rfl,hb⟩
  have V9:=(uH V6).below hb
  have V10:=(uH V7).below hb
  have V11:=(uH V8).below hb
  have G8:=aA (yB (uH HB3) hb)
  clear hb V6 V7 V8 HB3 HL a1 a2 a3 a4
  have a1:=V10.c0
  have a2:=V10.c1
  have a3:=V11.c0
  have a4:=V11.c1
  have k0:=V9.c0
  have k1:=V9.c1
  have k2:=V9.f 0
  have k3:=V9.f 1
  have k4:=V9.s0 (.int .i64 x1)
  have k5:=V9.s1 (.int .i64 x1) (.int .i64 y1)
  have k6:=V9.s0 (.int .i64 x2)
  have k7:=V9.s1 (.int .i64 x2) (.int .i64 y2)
  clear V9 V10 V11
  cases l with
  | true=>
   go_wp2
   refine bodyPost_ret (v:=rv x2 y2) (by simp [results,Tryz.results203,go_sem,k6,k7]) rfl ⟨rfl,?_⟩
   repeat (first | exact uH G8 | refine yA ?_ _ | refine Below.drew ?_ | refine yC ?_ _ _ _ (by omega))
  | false=>
   go_wp2
   refine bodyPost_ret (v:=rv x1 y1) (by simp [results,Tryz.results203,go_sem,k4,k5]) rfl ⟨rfl,?_⟩
   repeat (first | exact uH G8 | refine yA ?_ _ | refine Below.drew ?_ | refine yC ?_ _ _ _ (by omega))
def gZ:Nat→List Q→List UInt8→List Q
 | 0,_,_=>[]
 | n+1,l,nm=>if h:0≤place l nm∧(place l nm).toNat<l.length then l[(place l nm).toNat]::gZ n (l.take (place l nm).toNat) l[(place l nm).toNat].parent else []
def ups (l:List Q) (nm:List UInt8):List Q:=gZ (l.length+1) l nm
theorem tO:∀(n m:Nat) (l:List Q) (nm:List UInt8),l.length<n→l.length<m→gZ n l nm=gZ m l nm
 | 0,_,_,_,h,_=>by omega
 | _+1,0,_,_,_,h=>by omega
 | n+1,m+1,l,nm,h1,h2=>by
  rw [gZ,gZ]
  split
  ·rename_i h
   rw [tO n m _ _ (by simp;omega) (by simp;omega)]
  ·rfl
theorem aIG (h:place l nm<0):ups l nm=[]:=by
 rw [ups,gZ,dif_neg (by omega)]
theorem aIE (hk:k<l.length) (h:place l nm=k):ups l nm=l[k]::ups (l.take k) l[k].parent:=by
 rw [ups,gZ]
 simp only [h,Int.toNat_natCast]
 rw [dif_pos (by simp;omega),ups,tO l.length ((l.take k).length+1) _ _ (by simp;omega) (by simp)]
theorem aAo:∀(n:Nat) (l:List Q) (nm:List UInt8),(gZ n l nm).length≤l.length
 | 0,l,nm=>by simp [gZ]
 | n+1,l,nm=>by
  rw [gZ]
  split
  ·rename_i h
   have:=aAo n (l.take (place l nm).toNat) l[(place l nm).toNat].parent
   simp at this ⊢
   omega
  ·simp
theorem oO (nm:List UInt8):∀(l:List Q) (k j:Nat),aN nm (l.take j) k=if aN nm l k<((k+j:Nat):Int) then aN nm l k else -1
 | [],k,j=>by simp [aN];omega
 | x::t,k,0=>by
  rw [List.take_zero,aN]
  rcases kP nm (x::t) k with h | h
  ·rw [h,if_pos (by omega)]
  ·rw [if_neg (by omega)]
 | x::t,k,j+1=>by
  rw [List.take_succ_cons,aN,aN]
  by_cases h:x.name=nm
  ·rw [if_pos h,if_pos h,if_pos (by omega)]
  ·rw [if_neg h,if_neg h,oO nm t (k+1) j,show k+1+j=k+(j+1) by omega]
theorem aFQ (l:List Q) (nm:List UInt8) (j:Nat):place (l.take j) nm=if place l nm<j then place l nm else -1:=by
 have:=oO nm l 0 j
 rw [Nat.zero_add] at this
 exact this
def aEP (l:List Q):Nat→Int→List Q
 | 0,_=>[]
 | n+1,p=>if h:0≤p∧p.toNat<l.length then l[p.toNat]::aEP l n (place l l[p.toNat].parent) else []
theorem aAI (l:List Q):∀(n:Nat) (p:Int),(aEP l n p).map Q.name=dZ l n p
 | 0,_=>rfl
 | n+1,p=>by
  rw [aEP,dZ]
  split
  ·rw [List.map_cons,aAI l n]
  ·rfl
theorem tN {l:List Q} (h:aH l=true):∀(n j:Nat) (nm:List UInt8),place l nm<j→gZ n (l.take j) nm=aEP l n (place l nm)
 | 0,_,_,_=>rfl
 | n+1,j,nm,hj=>by
  have hp:place (l.take j) nm=place l nm:=by rw [aFQ,if_pos hj]
  have hr:=eX l nm
  rw [gZ,aEP]
  simp only [hp]
  by_cases h0:0≤place l nm
  ·rw [dif_pos ⟨h0,by simp;omega⟩,dif_pos ⟨h0,by omega⟩]
   rw [List.getElem_take,List.take_take,show min (place l nm).toNat j=(place l nm).toNat by omega]
   rw [tN h n _ _ (iF h (by omega))]
  ·rw [dif_neg (by omega),dif_neg (by omega)]
theorem aGM (h:aH l=true) (nm:List UInt8):ups l nm=aEP l (l.length+1) (place l nm):=by
 have hr:=eX l nm
 have:=tN h (l.length+1) l.length nm (by omega)
 rwa [List.take_length] at this
theorem aEM (h:aH l=true) (nm:List UInt8):(ups l nm).map Q.name=path l nm:=by
 rw [aGM h,aAI,path,h];rfl
def lQ (t:Int×Int):List Int→Int×Int
 | []=>t
 | n::r=>(fA (lQ t r).1 (lQ t r).2 n,fB (lQ t r).1 (lQ t r).2 n)
def jU (most:Bool) (u:List Q):List Int:=(u.takeWhile (fun q=>decide (q.parent≠[]))).map (dV most)
theorem aBn {l:List Q} (h:aH l=true) (most:Bool) (t:Int×Int):∀(n:Nat) (p:Int),p<n→lQ t (jU most (aEP l n p))=ofP l most t ((aEP l n p).map Q.name)
 | 0,_,_=>rfl
 | n+1,p,hn=>by
  rw [aEP]
  split
  ·rename_i hp
   have hq:=aIX h p.toNat hp.2
   have ha:=iF h hp.2
   simp only [qOk,yK,yL] at hq
   have hb:uW l l[p.toNat].name=l[p.toNat]:=by rw [uW,hq.1.1.1.2,Int.toNat_natCast,List.getD_eq_getElem?_getD,List.getElem?_eq_getElem hp.2];rfl
   by_cases hz:l[p.toNat].parent=[]
   ·have hm:place l l[p.toNat].parent = -1:=by rw [hz];exact jM (aE8 h)
    have hu:aEP l n (place l l[p.toNat].parent)=[]:=by
     rw [hm];cases n with
     | zero=>rfl
     | succ n=>rw [aEP,dif_neg (by omega)]
    rw [hu]
    simp [jU,hz,lQ,ofP]
   ·have hi:p.toNat≠0:=fun e=>by
     have:=hq.2
     rw [if_pos e] at this
     simp only [yK,yL] at this
     exact hz this.1
    have hpl:=hq.2
    rw [if_neg hi] at hpl
    simp only [inB,yL] at hpl
    have ih:=aBn h most t n (place l l[p.toNat].parent) (by omega)
    obtain ⟨r,hr⟩:∃r,aEP l n (place l l[p.toNat].parent)=r:=⟨_,rfl⟩
    have hne:r≠[]:=by
     rw [←hr];cases n with
     | zero=>omega
     | succ n=>rw [aEP,dif_pos ⟨hpl.1,by omega⟩];simp
    rw [hr] at ih ⊢
    cases r with
    | nil=>exact absurd rfl hne
    | cons y r=>
     rw [List.map_cons,List.map_cons,ofP,hb]
     rw [List.map_cons] at ih
     rw [←ih]
     simp only [jU,List.takeWhile_cons (a:=l[p.toNat])]
     simp only [hz,ne_eq,not_false_eq_true,decide_true,if_true,List.map_cons,lQ]
  ·simp [jU,lQ,ofP]
theorem aIF (h:aH l=true) (nm:List UInt8) (a b:Int) (most:Bool) (hp:0≤place l nm) (hr:aM a b=true):ofR l nm a b most=lQ (a,b) (jU most (ups l nm)):=by
 have hr':=eX l nm
 have e:=aEM h nm
 have hne:path l nm≠[]:=by
  rw [←e,aGM h,aEP,dif_pos ⟨hp,by omega⟩];simp
 rw [ofR,if_neg (by simp [hne,hr]),←e,aGM h,aBn h most (a,b) _ _ (by omega)]
theorem aGj (h:aH l=false) (nm:List UInt8) (a b:Int) (most:Bool):ofR l nm a b most=(0,0):=by rw [ofR,path,h];simp
theorem aGi (h:place l nm<0) (a b:Int) (most:Bool):ofR l nm a b most=(0,0):=by
 have:path l nm=[]:=by rw [path];split;exact aBH h;rfl
 rw [ofR,this];simp
theorem aGh (l:List Q) (nm:List UInt8) (h:aM a b=false) (most:Bool):ofR l nm a b most=(0,0):=by rw [ofR,h];simp
end
section
theorem aDa {a b c d e f:Int} (hb:jH b) (hd:jH d) (hf:jH f) (h:less c d a b=false) (k:less e f c d=false):less e f a b=false:=by
 unfold less at *
 by_cases f0:f=0
 ·simp [f0]
 ·by_cases d0:d=0
  ·simp [d0,f0] at k
  ·by_cases b0:b=0
   ·simp [b0,d0] at h
   ·simp only [b0,d0,f0,if_false,decide_eq_false_iff_not,Int.not_lt] at h k ⊢
    have pb:0≤b:=hb.1
    have pf:0≤f:=hf.1
    have pd:0<d:=by have:=hd.1;omega
    have h1:=Int.mul_le_mul_of_nonneg_right h pf
    have h2:=Int.mul_le_mul_of_nonneg_right k pb
    have e1:a*d*f=a*f*d:=by rw [Int.mul_assoc,Int.mul_comm d f,←Int.mul_assoc]
    have e2:c*b*f=c*f*b:=by rw [Int.mul_assoc,Int.mul_comm b f,←Int.mul_assoc]
    have e3:e*d*b=e*b*d:=by rw [Int.mul_assoc,Int.mul_comm d b,←Int.mul_assoc]
    have h3:a*f*d≤e*b*d:=by rw [←e1,←e3];rw [e2] at h1;exact Int.le_trans h1 h2
    exact Int.le_of_mul_le_mul_right h3 pd
end
section
open Go.RowKit Go.Shelf
variable {l:List (List UInt8)} {ao:Option Addr} {W W':World}
attribute [local go_sem] Oper.semAt_some
def sU (w:World) (ao:Option Addr) (ps:List (List UInt8)):Prop:=∀j (hj:j<ps.length),∃g,ao=some ⟨g,0,none⟩∧w.cell? ⟨g,j,none⟩=some (.string (bs ps[j]))
theorem sU.kpa (h:sU W ao l) (k:KpA W W'):sU W' ao l:=fun j hj=>let ⟨g,a,b⟩:=h j hj;⟨g,a,k.cell b⟩
theorem sU.below (h:sU W ao l) (k:Bw W W'):sU W' ao l:=fun j hj=>let ⟨g,a,b⟩:=h j hj;⟨g,a,(k.cell (yG b)).trans b⟩
theorem aFr (n l Bs len cap:Nat) (ao:Option Addr) (ms:List (List UInt8)) (J Jx:List (Int×List UInt8)→World→Prop)
  (hY:∀pre x W1,J pre W1→pre.length<ms.length→YieldAt Fence.wide (n - 1) Tryz.prog l #[.int .i64 x.1,Value.string (bs x.2)] W1 fun e W'=>
   (e=.returned (.bool true)∧J (pre++[x]) W'∧KpA W1 W')∨(e=.returned (.bool false)∧Jx (pre++[x]) W'))
  (W:World) (GQ:W.cell? ⟨Bs,0,none⟩=some (.slice ao len cap)) (gz:len=ms.length) (hg:sU W ao ms) (hl:len≤1048576) (h0:J [] W) :
  CallsIn Fence.wide n Tryz.prog 137 #[.func (.yield l) #[] #[],.pointer (some ⟨Bs,0,none⟩)] W fun e W'=>(∃v,e=.returned v)∧
   ((∃ys:List (Int×List UInt8),Hid (ys.map (fun x:Int×List UInt8=>x.2)=ms.reverse)∧J ys W')∨(∃pre:List (Int×List UInt8),Hid (List.IsPrefix (pre.map (fun x:Int×List UInt8=>x.2)) ms.reverse)∧Jx pre W')):=by
 have HY:=aA hY
 have yw:=aA GQ
 have HG:=aA hg
 have Gj:=aA gz
 have H0:=aA h0
 clear hY hg h0 gz
 refine callsIn_of_wp Tryz.func137 rfl trivial ?_ rfl
 simp only [Tryz.ntmps137,List.size_toArray,List.length_cons,List.length_nil,Nat.reduceAdd,Nat.reduceSub,Array.replicate_succ,Array.replicate_zero,List.push_toArray,List.append_toArray,List.nil_append,List.cons_append]
 gi_wp2
 clear GQ
 gi_loopw [3] (fun i wr=>∃(k:Nat) (pre:List (Int×List UInt8)),k≤len∧i=.int .i64 ((k:Int) - 1)∧Hid (pre.length+k=ms.length)∧Hid (pre.map (fun x:Int×List UInt8=>x.2)=(ms.drop k).reverse)∧Hid (J pre wr)∧Hid (wr.cell? ⟨Bs,0,none⟩=some (.slice ao len cap))∧Hid (sU wr ao ms)) (fun i _=>(intOf i+1).toNat)
 case atStart=>exact ⟨len,[],yJ _,by go_num,aA (by have:=uH Gj;simp;omega),aA (by rw [List.drop_of_length_le (by have:=uH Gj;omega)];rfl),H0,yw,HG⟩
 case round=>
  obtain ⟨k,pre,hk,rfl,HL,HM,HJ,HB,XF⟩:=hrel
  cases k with
  | zero=>
   gi_wp2
   go_end0
   exact ⟨⟨_,rfl⟩,.inl ⟨pre,aA (by rw [uH HM];rfl),uH HJ⟩⟩
  | succ j=>
   have hj:j<len:=by omega
   have hjm:j<ms.length:=by have:=uH Gj;omega
   obtain ⟨b,rfl,c0⟩:=uH XF j hjm
   have Qx:=uH HB
   obtain ⟨fn,tmps,assign,body,hy,hR⟩:=uH HY pre ((j:Int),ms[j]) wr (uH HJ) (by have:=uH HL;omega)
   have HRR:=aA hR
   have QD:=aA (show (pre++[((j:Int),ms[j])]).map (fun x:Int×List UInt8=>x.2)=(ms.drop j).reverse by rw [List.map_append,uH HM,List.drop_eq_getElem_cons hjm,List.reverse_cons];rfl)
   have hij:((j+1:Nat):Int) - 1=(j:Int):=by omega
   obtain ⟨y,ZE⟩:∃y:List UInt8,ms[j]=y:=⟨_,rfl⟩
   rw [ZE] at hy HRR QD c0
   simp only at hy
   rw [hij]
   have j0:(0:Int)≤j:=by omega
   have j1:(j:Int)<len:=by omega
   clear hR ZE hij HM hjm
   gi_wp2
   refine ⟨(by intro e;cases e),?_⟩
   refine (uH HRR).mono ?_
   rintro e W3 (⟨rfl,hJ3,hk3⟩ | ⟨rfl,QN⟩)
   ·have HB3:=aA (hk3.cell (uH HB))
    have vk:=aA ((uH XF).kpa hk3)
    have Ky:=aA hJ3
    clear hk3 hJ3 Qx hy HRR c0
    gi_wp2
    go_roundw
    case rel=>exact ⟨j,pre++[((j:Int),y)],by omega,by go_num,aA (by have:=uH HL;simp;omega),QD,Ky,HB3,vk⟩
    case measure=>simp [intOf]
   ·gi_wp2
    refine bodyPost_ret (results_none rfl _ _ _) rfl ?_
    exact ⟨⟨_,rfl⟩,.inr ⟨_,aA (by rw [uH QD];exact List.reverse_prefix.mpr (List.drop_suffix j ms)),QN⟩⟩
theorem aDx (n Bs len cap:Nat) (ao:Option Addr) (ms:List (List UInt8)) (w:World) (GQ:w.cell? ⟨Bs,0,none⟩=some (.slice ao len cap)) (gz:len=ms.length) (Hw:sU w ao ms) (hl:len≤1048576) :
  SeqStopsK Fence.wide n Tryz.prog 137 #[.pointer (some ⟨Bs,0,none⟩)] (fun x:Int×List UInt8=>#[.int .i64 x.1,Value.string (bs x.2)]) KpA (fun ys=>Hid (ys.map (fun x:Int×List UInt8=>x.2)=ms.reverse)) (fun pre=>Hid (List.IsPrefix (pre.map (fun x:Int×List UInt8=>x.2)) ms.reverse)) ms.length w:=by
 intro l J Jx W hW hJ hJx hY h0
 refine (aFr n l Bs len cap ao ms J Jx hY W ((hW.cell (yG GQ)).trans GQ) gz (Hw.below hW) hl h0).mono ?_
 rintro e W' ⟨he,⟨ys,h1,h2⟩ | ⟨pre,h1,h2⟩⟩
 ·exact ⟨he,.inl ⟨ys,h1,h2⟩⟩
 ·exact ⟨he,.inr ⟨pre,h1,h2⟩⟩
theorem aHc (v:Value) (w:World) (hv:v.oneCell'=true) :
  cP 83 #[v] w fun e w'=>e=.returned (.func (.func 137) #[] #[.pointer (some ⟨w.heap.size,0,none⟩)])∧w.alloc (.cells #[v] 41)=w':=by
 have KQ:∀(fn:Fn) (first cap:Array Value) (w:World),(Instr.makeFunc fn first cap).run Tryz.prog w=.ok (.func fn first cap) w:=fun _ _ _ _=>rfl
 go_enter Tryz.func83,Tryz.ntmps83
 go_wp2
 go_ret
 exact ⟨rfl,rfl⟩
end
section
open Go.RowKit
variable {l:List (List UInt8)} {x:List UInt8} {k:Nat}
def gW (x:List UInt8):List (List UInt8)→Nat→Int
 | [],_=>-1
 | y::t,k=>if y=x then k else gW x t (k+1)
theorem aB1 (h:k<l.length):gW x (l.drop k) k=if l[k]=x then (k:Int) else gW x (l.drop (k+1)) (k+1):=by rw [List.drop_eq_getElem_cons h,gW]
theorem aCe (h:l.length≤k):gW x (l.drop k) k = -1:=by rw [List.drop_of_length_le h];rfl
theorem aEi {x:List UInt8}:∀(l:List (List UInt8)) (k:Nat),decide (0≤gW x l k)=l.any (fun y=>decide (y=x))
 | [],k=>rfl
 | y::t,k=>by
  by_cases h:y=x
  ·simp [gW,h]
  ·rw [gW,if_neg h,aEi t]
   simp [h]
theorem aFg (ao:Option Addr) (len cap:Nat) (l:List (List UInt8)) (x:List UInt8) (w:World) (h:sU w ao l) (gz:len=l.length) (hl:len≤1048576) :
  cP 79 #[.slice ao len cap,.string (bs x)] w fun e w'=>e=.returned (.int .i64 (gW x l 0))∧w=w':=by
 have HR:=aA h
 have HL:=aA gz
 clear h gz
 go_enter Tryz.func79,Tryz.ntmps79
 go_wp2
 go_loopw [8] (fun i wr=>∃k:Nat,k≤len∧i=.int .i64 k∧Hid (gW x l 0=gW x (l.drop k) k)∧wr=w) (fun i _=>len - (intOf i).toNat)
 case atStart=>exact ⟨0,Nat.zero_le _,rfl,aA (by simp),rfl⟩
 case round=>
  obtain ⟨k,hk,rfl,hp,rfl⟩:=hrel
  by_cases hlt:k<len
  ·have hkl:k<l.length:=by have:=uH HL;omega
   obtain ⟨g,rfl,c0⟩:=uH HR k hkl
   have hst:=aA (aB1 (x:=x) hkl)
   obtain ⟨s,hs⟩:∃s,l[k]=s:=⟨_,rfl⟩
   rw [hs] at c0 hst
   clear hs hkl
   by_cases he:s=x
   ·have HE:=aA he
    have hbe:=lL x s
    rw [decide_eq_true he.symm] at hbe
    clear he
    go_wp2
    go_ret
    exact ⟨eP (by rw [uH hp,uH hst,if_pos (uH HE)]),rfl⟩
   ·have HE:=aA he
    have hbe:=lL x s
    rw [decide_eq_false (fun e=>he e.symm)] at hbe
    clear he
    go_wp2
    go_roundw
    case rel=>exact ⟨k+1,by omega,by go_num,aA (by rw [uH hp,uH hst,if_neg (uH HE)]),trivial⟩
    case measure=>simp [intOf];omega
  ·go_wp2
   go_ret
   exact ⟨eP (by rw [uH hp,aCe (by have:=uH HL;omega)]),rfl⟩
theorem aB8 (ao:Option Addr) (len cap:Nat) (l:List (List UInt8)) (x:List UInt8) (w:World) (h:sU w ao l) (gz:len=l.length) (hl:len≤1048576) :
  cP 27 #[.slice ao len cap,.string (bs x)] w fun e w'=>e=.returned (.bool (l.any (fun y=>decide (y=x))))∧w=w':=by
 have C:=aA (aFg ao len cap l x w h gz hl)
 have hh:=aEi (x:=x) l 0
 obtain ⟨r,hr⟩:∃r,gW x l 0=r:=⟨_,rfl⟩
 rw [hr] at C hh
 have HH:=aA hh
 clear h gz hr hh
 go_enter Tryz.func27,Tryz.ntmps27
 go_wp2_with fail
 refine (uH C).mono ?_
 rintro e w1 ⟨rfl,rfl⟩
 clear C
 go_wp2
 go_ret
 exact ⟨yF (uH HH),rfl⟩
end
end Go.Proofs.YtngkddhcmfbjnaaGreat
