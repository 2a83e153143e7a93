/-
  Texts in one: ARow, Hav, CpC, RmL, RowE, BackA, AppsI, FindAp, UsedByM, VicJ.
-/
import Derived.Test.YtngkddhcmfbjnaaGreatSackB
import Derived.Test.YtngkddhcmfbjnaaGreatSackD
set_option maxRecDepth 100000
set_option maxHeartbeats 16000000
set_option linter.unusedVariables false
set_option linter.unusedSimpArgs false
namespace Go.Proofs.YtngkddhcmfbjnaaGreat
section
open Go.RowKit
variable {hs ns:List AV} {l:List Ask} {cs:List Value} {B B' E M N cap g j k n sz:Nat} {ao:Option Addr} {t:TypeId} {v x:Value} {w w':World}
abbrev oJ (q:Ask):List Value:=[.int .i64 q.mem,.int .i64 q.cpu,.int .i64 q.count,.string (bs q.node),.int .i64 q.missed]
def cK:List Ask→List Value
 | []=>[]
 | q::t=>oJ q++cK t
theorem eQ:∀l:List Ask,(cK l).length=l.length*5
 | []=>rfl
 | q::t=>by rw [cK,List.length_append,eQ t];simp;omega
theorem q9:∀(l:List Ask) (i:Nat) (h:i<l.length),(cK l)[i*5]? = some (.int .i64 l[i].mem)∧(cK l)[i*5+1]? = some (.int .i64 l[i].cpu)∧(cK l)[i*5+2]? = some (.int .i64 l[i].count)∧(cK l)[i*5+3]? = some (.string (bs l[i].node))∧(cK l)[i*5+4]? = some (.int .i64 l[i].missed)
 | q::t,0,_=>⟨rfl,rfl,rfl,rfl,rfl⟩
 | q::t,i+1,h=>by
  have e:=q9 t i (by simpa using h)
  have k:∀j,(cK (q::t))[(i+1)*5+j]? = (cK t)[i*5+j]?:=fun j=>by
   rw [cK,show (i+1)*5+j=(oJ q).length+(i*5+j) by simp;omega,List.getElem?_append_right (by omega)]
   congr 1
   omega
  have k0:=k 0
  simp only [Nat.add_zero] at k0
  rw [k0,k 1,k 2,k 3,k 4]
  simpa using e
theorem lV {b off len:Nat} (h:bE w (some ⟨b,off,none⟩) len l):∀j u,(cK l)[j]? = some u→w.cell? ⟨b,off+j,none⟩=some u:=fun j u hj=>by
 have hjl:j<l.length*5:=by rw [←eQ];exact (List.getElem?_eq_some_iff.1 hj).1
 obtain ⟨h1,h2⟩:=h
 rcases h2 with h2 | ⟨b',off',e,h4⟩
 ·omega
 ·cases e
  have hi:j / 5<l.length:=by omega
  obtain ⟨a0,a1,a2,a3,a4⟩:=q9 l (j / 5) hi
  obtain ⟨c0,c1,c2,c3,c4⟩:=h4 (j / 5) hi
  rcases (show j % 5=0∨j % 5=1∨j % 5=2∨j % 5=3∨j % 5=4 by omega) with e | e | e | e | e
  ·rw [show j=j / 5*5 by omega] at hj ⊢;rw [a0] at hj;cases hj;exact c0
  ·rw [show j=j / 5*5+1 by omega] at hj ⊢;rw [a1] at hj;cases hj;rw [←Nat.add_assoc];exact c1
  ·rw [show j=j / 5*5+2 by omega] at hj ⊢;rw [a2] at hj;cases hj;rw [←Nat.add_assoc];exact c2
  ·rw [show j=j / 5*5+3 by omega] at hj ⊢;rw [a3] at hj;cases hj;rw [←Nat.add_assoc];exact c3
  ·rw [show j=j / 5*5+4 by omega] at hj ⊢;rw [a4] at hj;cases hj;rw [←Nat.add_assoc];exact c4
theorem oG:∀(l:List Ask),∀u ∈ cK l,u.oneCell'=true
 | [],u,h=>by simp [cK] at h
 | q::t,u,h=>by
  rw [cK,List.mem_append] at h
  rcases h with h | h
  ·simp at h
   rcases h with rfl | rfl | rfl | rfl | rfl<;>rfl
  ·exact oG t u h
def tC (B:Nat) (w:World) (v:Value) (l:List Ask):Prop:=w.ownsRow B 104 5 v l.length (cK l)
theorem aBe (B:Nat) (w:World):tC B w (.slice none 0 0) []:=World.ownsRow_nil _ _ _ _
theorem sS (w:World):w.alloc (.cells #[] 104) |>.ownsRow w.heap.size 104 5 (.slice (some ⟨w.heap.size,0,none⟩) 0 0) 0 []:=
 ⟨rfl,.inr ⟨w.heap.size,0,#[],rfl,yJ _,by show (w.heap.push _)[w.heap.size]? = _;simp,yJ _,by unfold maxLen;omega,rfl,rfl⟩⟩
theorem tC.below (h:tC B w v l) (hb:Bw w w'):tC B w' v l:=
 h.kept (aG (aF w none) hb) (by by_cases e:v.ownBlock=none;exact .inl e;exact .inr e)
theorem tC.base (h:tC B w v l) (hb:B'≤B):tC B' w v l:=by
 obtain ⟨h1,h2⟩:=h
 refine ⟨h1,?_⟩
 rcases h2 with h2 | ⟨g,cap,cur,a,b,c⟩
 ·exact .inl h2
 ·exact .inr ⟨g,cap,cur,a,Nat.le_trans hb b,c⟩
theorem tC.row (h:tC B w v l):∃ao cap,v=.slice ao l.length cap∧bE w ao l.length l∧l.length≤cap∧(l≠[]→∃g cur,ao=some ⟨g,0,none⟩∧B≤g∧w.heap[g]? = some (.cells cur 104 (0,0))∧cur.size=cap*5):=by
 rcases h.2 with ⟨rfl,h0⟩ | ⟨g,cap,cur,rfl,h1,h2,h3,h4,h5,h6⟩
 ·exact ⟨none,0,by rw [h0],⟨rfl,.inl h0⟩,by omega,fun hn=>absurd (List.length_eq_zero_iff.1 h0) hn⟩
 ·refine ⟨some ⟨g,0,none⟩,cap,rfl,⟨rfl,.inr ⟨g,0,rfl,fun i hi=>?_⟩⟩,h3,fun _=>⟨g,cur,rfl,h1,h2,h5⟩⟩
  obtain ⟨a,b,c,d,e⟩:=q9 l i hi
  have k:∀j (v:Value),j<l.length*5→(cK l)[j]? = some v→w.cell? ⟨g,j,none⟩=some v:=fun j v hj hv=>by
   rw [←h6,List.getElem?_take_of_lt hj] at hv
   simp [World.cell?,h2]
   simpa using hv
  unfold sZ
  rw [Nat.zero_add]
  exact ⟨k _ _ (by omega) a,k _ _ (by omega) b,k _ _ (by omega) c,k _ _ (by omega) d,k _ _ (by omega) e⟩
theorem Tryz.infoA:(Tryz.prog.info? 104).map (fun i=>(i.zero,i.size,i.bytes))=some (some (.agg #[.int .i64 0,.int .i64 0,.int .i64 0,.string ByteArray.empty,.int .i64 0]),5,48):=by kernel_rfl
theorem aCs (ao:Option Addr) (len cap:Nat) (l:List Ask) (w:World) (h:bE w ao len l) (hl:len≤1048576) :
  cP 118 #[.slice ao len cap] w fun e w'=>∃v,e=.returned v∧tC w.heap.size w' v l∧Bw w w':=by
 obtain ⟨i0,hi,hz0,hz1,hz2⟩:=info_parts Tryz.infoA
 cases ao with
 | none=>
  have hn:len=0:=by rcases h.2 with h | ⟨b,off,e,_⟩;exact h;cases e
  subst hn
  have hl0:l=[]:=List.length_eq_zero_iff.1 h.1.symm
  subst hl0
  have hnl:∀wx,(binOp .eql 46 (.slice none 0 cap) (.slice none 0 0)).run Tryz.prog wx=.ok (.bool true) wx:=fun wx=>Lib.run_eql_slice_nil wx _ _ none 0 cap 0 0 Tryz.underlying46
  clear h hl
  go_enter Tryz.func118,Tryz.ntmps118
  go_wp2
  go_ret
  exact ⟨_,rfl,aBe _ _,yH _ _⟩
 | some ad=>
  have Gz:∀j u,(cK l)[j]? = some u→(w.alloc (.cells #[] 104)).cell? (ad.add j)=some u:=fun j u hj=>by
   have hjl:j<l.length*5:=by rw [←eQ];exact (List.getElem?_eq_some_iff.1 hj).1
   rcases h.2 with h0 | ⟨b,off,e,_⟩
   ·have:=h.1;omega
   ·cases e
    have:=lV (h.below (yA (yH _ w) (.cells #[] 104))) j u hj
    rw [Lib.add_plain]
    exact this
  have QH:=aA Gz
  have Q6:=aA h.1
  have Hq:=sS w
  have hll:(cK l).length=len*5:=by rw [eQ,h.1]
  have gy:=oG l
  have hnl:∀wx,(binOp .eql 46 (.slice (some ad) len cap) (.slice none 0 0)).run Tryz.prog wx=.ok (.bool false) wx:=fun wx=>Lib.run_eql_slice_nil wx _ _ (some ad) len cap 0 0 Tryz.underlying46
  clear h Gz
  go_enter Tryz.func118,Tryz.ntmps118
  go_wp2_with (at_builtin;refine wpList_append_own _ rfl _ _ 46 rfl w.heap.size 104 i0 (.agg #[.int .i64 0,.int .i64 0,.int .i64 0,.string ByteArray.empty,.int .i64 0]) 5 48 Tryz.underlying46 hi hz0 hz1 hz2 rfl (by decide) _ _ _ rfl Hq ad len cap (cK l) rfl hll (uH QH) gy ?c3 ?c4 ?c5 ?_)
  case c3=>unfold maxLen;omega
  case c4=>omega
  case c5=>simp
  intro v' w3 Hy Hz _
  have HO:=aA (show tC w.heap.size w3 v' l by
   unfold tC
   rw [←uH Q6]
   exact Hy)
  have HB:=aA (show Bw w w3 from (yA (yH _ w) (.cells #[] 104)).grown Hz (by simp) (fun k e=>by simp [Value.ownBlock] at e;omega))
  clear Hy Hz Hq gy hll
  go_wp2
  go_ret
  exact ⟨_,rfl,uH HO,uH HB⟩
theorem aIM {arr:Array Value} (h:arr[j]? = some x):arr.setIfInBounds j x=arr:=by
 apply Array.ext
 ·simp
 ·intro i h1 h2
  rw [Array.getElem_setIfInBounds]
  split
  ·rename_i e
   subst e
   rw [Array.getElem?_eq_getElem h2] at h
   exact (Option.some.inj h).symm
  ·rfl
theorem tC.same (h:tC B w (.slice (some ⟨g,0,none⟩) n cap) l) (hc:w.cell? ⟨g,j,none⟩=some x):tC B (w.setCell ⟨g,j,none⟩ x) (.slice (some ⟨g,0,none⟩) n cap) l∧B≤g:=by
 obtain ⟨h1,h2⟩:=h
 rcases h2 with ⟨e,_⟩ | ⟨g',cap',cur,e,h3,h4,h5⟩
 ·cases e
 ·cases e
  have hx:cur[j]? = some x:=by simpa [World.cell?,h4] using hc
  refine ⟨⟨h1,.inr ⟨g,cap,cur,rfl,h3,?_,h5⟩⟩,h3⟩
  have:=heap_setCell_same w g j _ _ x h4
  rw [aIM hx] at this
  exact this
theorem tC.other3 (h:tC B w v l) (k j:Nat) (x:Value) (hk:k<B):tC B (w.setCell ⟨k,j,none⟩ x) v l:=by
 obtain ⟨h1,h2⟩:=h
 refine ⟨h1,?_⟩
 rcases h2 with h2 | ⟨g,cap,cur,a,b,c,d⟩
 ·exact .inl h2
 ·exact .inr ⟨g,cap,cur,a,b,(heap_setCell_other w ⟨k,j,none⟩ g x (show g≠k by omega)).trans c,d⟩
theorem qV (id:Int) (qu:List UInt8) (ao:Option Addr) (len cap:Nat) (l:List Ask) (w:World) (h:bE w ao len l) (hl:len≤1048576) (hq:qu.length≤1048576) (hn:∀q ∈ l,q.node.length≤1048576) :
  cP 64 #[aHj id qu ao len cap] w fun e w'=>∃v,e=.returned (.agg #[.int .i64 id,.string (bs qu),v])∧tC w.heap.size w' v l∧Bw w w':=by
 have HN:=aA hn
 have hB:=yA (yA (yH _ w) (.cells #[.int .i64 id,.string (bs qu),.slice ao len cap] 48)) (.cells #[.int .i64 0,.string ByteArray.empty,.slice none 0 0] 48)
 have CC:=aA (aCs ao len cap l _ (h.below hB) hl)
 have HB0:=aA hB
 have K0:=aA ((yD w #[.int .i64 id,.string (bs qu),.slice ao len cap] 48).al (.cells #[.int .i64 0,.string ByteArray.empty,.slice none 0 0] 48))
 have K1:=aA (show Blk _ (w.heap.size+1) #[.int .i64 0,.string ByteArray.empty,.slice none 0 0] 48 by have:=yD (w.alloc (.cells #[.int .i64 id,.string (bs qu),.slice ao len cap] 48)) #[.int .i64 0,.string ByteArray.empty,.slice none 0 0] 48;rwa [yE] at this)
 have hll:=aA h.1
 have QJ:(bs qu).size≤281474976710656:=by rw [dD];omega
 clear h hn hB
 go_enter Tryz.func64,Tryz.ntmps64
 go_wp2_with fail
 refine (uH CC).mono ?_
 rintro e w1 ⟨v,rfl,ho,hb⟩
 have HB1:=aA (yB (uH HB0) hb)
 have P0:=aA ((uH K0).below hb)
 have P1:=aA ((uH K1).below hb)
 have VW:w.heap.size+2≤w1.heap.size:=by have:=hb.size;rw [yE,yE] at this;omega
 have HO:=aA (ho.base (B':=w.heap.size+2) (by rw [yE,yE];omega))
 obtain ⟨xo,xc,rfl,_,ND,hxg⟩:=ho.row
 obtain ⟨n,hnn⟩:∃n,l.length=n:=⟨_,rfl⟩
 have Q6:=aA hnn
 have hn2:n≤1048576:=by have:=uH hll;omega
 rw [hnn] at HO ND ⊢
 clear ho hb CC HB0 K0 K1 hnn hxg
 go_wp2
 go_loopw [10] (fun i wr=>∃(k:Nat),k≤n∧i=.int .i64 k∧Hid (tC (w.heap.size+2) wr (.slice xo n xc) l)∧Hid (Below (w.heap.size+2) w1 wr)) (fun i _=>n - (intOf i).toNat)
 case atStart=>exact ⟨0,Nat.zero_le _,rfl,HO,aA (yH _ _)⟩
 case round=>
  obtain ⟨k,hk,rfl,Vw,Qz⟩:=hrel
  by_cases hlt:k<n
  ·have hkl:k<l.length:=by have:=uH Q6;omega
   obtain ⟨xo',xc',e,Hw,_,hg⟩:=(uH Vw).row
   obtain ⟨g,cur,rfl,hg1,hg2,hg3⟩:=hg (by intro e;rw [e] at hkl;simp at hkl)
   rw [uH Q6] at e Hw
   cases e
   obtain ⟨b',off',e',hat⟩:=Hw.at hlt
   cases e'
   have c3:=(hat hkl).2.2.2.1
   simp only [Nat.zero_add] at c3
   have hnd:=uH HN l[k] (yM _)
   obtain ⟨nd,hs⟩:∃s,l[k].node=s:=⟨_,rfl⟩
   rw [hs] at c3 hnd
   have hsn:(bs nd).size≤281474976710656:=by rw [dD];omega
   have k0:(0:Int)≤k:=by omega
   have k1:(k:Int)<n:=by omega
   have hgs:g<wr.heap.size:=lt_of_block hg2
   clear hat Hw hg2 hg3 hs hkl
   go_wp2_with fail
   refine (kS (bs nd) _ hsn).mono ?_
   rintro e w2 ⟨rfl,hb⟩
   have GD:=aA ((uH Vw).below hb)
   have c3':=(hb.cell (p:=⟨g,k*5+3,none⟩) hgs).trans c3
   have G6:=(uH GD).same c3'
   have f3:w2.frozen? ⟨g,k*5+3,none⟩=false:=by
    rcases (uH GD).2 with ⟨e,_⟩ | ⟨g',cap',cur',e,_,h4,_⟩
    ·cases e
    ·cases e;simp [World.frozen?,h4]
   have HS:=aA G6
   have HB2:=aA (show Below (w.heap.size+2) w1 (w2.setCell ⟨g,k*5+3,none⟩ (.string (bs nd))) from ((uH Qz).trans (hb.mono (by have:=(uH Qz).size;omega))).setCell (by exact G6.2) _)
   clear hb G6 Vw Qz GD c3
   go_wp2
   go_roundw
   case rel=>exact ⟨k+1,by omega,by go_num,aA (uH HS).1,HB2⟩
   case measure=>simp [intOf];omega
  ·have q0:=(show Blk wr w.heap.size _ 48 from ((uH Qz).block _ (by omega)).trans (uH P0))
   have q1:=(show Blk wr (w.heap.size+1) _ 48 from ((uH Qz).block _ (by omega)).trans (uH P1))
   have HQ1:=aA q1
   have JB:=aA (show Bw w wr from (uH HB1).trans ((uH Qz).mono (by omega)))
   have hwr:w.heap.size+2≤wr.heap.size:=by have:=(uH Qz).size;omega
   have Vk:=aA q0
   have a0:=q0.at 0
   have a1:=q0.at 1
   simp at a0 a1
   have CL:=aA (fun wx=>kS (bs qu) wx QJ)
   clear q0 q1
   go_wp2_with fail
   go_region_with (go_at_call 111;refine (uH CL _).mono ?_;rintro e w2 ⟨rfl,hb⟩;have HW2:=aA (yB (yH _ wr).drew hb);have b0:=((uH Vk).below (uH HW2)).at 0;have b1:=((uH Vk).below (uH HW2)).at 1;have T2:=(uH HQ1).below (uH HW2);have t0:=T2.at 0;have t1:=T2.at 1;have t2:=T2.at 2;have tf0:=T2.f 0;have tf1:=T2.f 1;have tf2:=T2.f 2;simp at b0 b1 t0 t1 t2;have HT2:=aA T2;clear T2 hb)
   all_goals go_wp2
   all_goals
    have X1:=(((uH HT2).set 0 (.int .i64 id)).set 1 (.string (bs qu))).set 2 (.slice xo n xc)
    have x0:=X1.at 0
    have x1:=X1.at 1
    have x2:=X1.at 2
    simp at x0 x1 x2
    refine bodyPost_ret (v:=.agg #[.int .i64 id,.string (bs qu),.slice xo n xc]) (by simp [results,Tryz.results64,go_sem,x0,x1,x2]) rfl ⟨_,rfl,?_,?_⟩
    ·exact ((((((uH Vw).below (uH HW2)).other3 (w.heap.size+1) 0 (.int .i64 id) (by omega)).other3 (w.heap.size+1) 1 (.string (bs qu)) (by omega)).other3 (w.heap.size+1) 2 (.slice xo n xc) (by omega))).base (by omega)
    ·exact yC (yC (yC (yB (uH JB) (uH HW2)) _ _ _ (by omega)) _ _ _ (by omega)) _ _ _ (by omega)
theorem dS.grow (h:dS B E w t sz ao n) (hb:Bw w w') (hE:E≤w.heap.size):dS B w'.heap.size w' t sz ao n:=(h.below hb).mono (yJ _) (Nat.le_trans hE hb.size)
theorem aEa (h:dS B E w t sz ao n) (hk:k<B∨E≤k):∀i,inR ao n i→¬(i=k):=fun i hi e=>by
 obtain ⟨h1,h2,_⟩:=h.lies i hi
 omega
def pQ (B:Nat) (w:World) (ao:Option Addr) (n:Nat) (l:List Q):Prop:=gJ w ao n l∧dS B w.heap.size w 56 4 ao n
theorem pQ.below {l:List Q} (h:pQ B w ao n l) (hb:Bw w w'):pQ B w' ao n l:=⟨h.1.below hb,h.2.grow hb (yJ _)⟩
theorem pQ.sc {l:List Q} (h:pQ B w ao n l) (hk:k<B):pQ B (w.setCell ⟨k,j,none⟩ v) ao n l:=
 ⟨h.1.mks (Mks.one (fun x=>x=k) w k j v rfl) (aEa h.2 (.inl hk)),by rw [dY];exact h.2.mks (Mks.one (fun x=>x=k) w k j v rfl)⟩
theorem oH.has {l:List Q} (h:oH B w v l):∃ao cap,v=.slice ao l.length cap∧l.length≤cap∧pQ B w ao l.length l:=by
 obtain ⟨ao,cap,e,hr,hc,hg⟩:=nA h
 refine ⟨ao,cap,e,hc,hr,?_⟩
 by_cases hz:l=[]
 ·exact .inl (by rw [hz];rfl)
 ·obtain ⟨g,cur,e,h1,h2,h3⟩:=hg hz
  exact .inr ⟨g,cap,e,h1,lt_of_block h2,⟨cur,h2,h3⟩,hc⟩
def nO (B:Nat) (w:World) (ao:Option Addr) (n:Nat) (l:List Mac):Prop:=cO w ao n l∧dS B w.heap.size w 102 4 ao n
theorem nO.below {l:List Mac} (h:nO B w ao n l) (hb:Bw w w'):nO B w' ao n l:=⟨h.1.below hb,h.2.grow hb (yJ _)⟩
theorem nO.sc {l:List Mac} (h:nO B w ao n l) (hk:k<B):nO B (w.setCell ⟨k,j,none⟩ v) ao n l:=
 ⟨h.1.mks (Mks.one (fun x=>x=k) w k j v rfl) (aEa h.2 (.inl hk)),by rw [dY];exact h.2.mks (Mks.one (fun x=>x=k) w k j v rfl)⟩
theorem aEc {l:List Mac} (h:aHv B w v l):∃ao cap,v=.slice ao l.length cap∧l.length≤cap∧nO B w ao l.length l:=by
 obtain ⟨ao,cap,e,hr,hc,hg⟩:=aI1 h
 refine ⟨ao,cap,e,hc,hr,?_⟩
 by_cases hz:l=[]
 ·exact .inl (by rw [hz];rfl)
 ·obtain ⟨g,cur,e,h1,h2,h3⟩:=hg hz
  exact .inr ⟨g,cap,e,h1,lt_of_block h2,⟨cur,h2,h3⟩,hc⟩
def kY (B:Nat) (w:World) (ao:Option Addr) (n:Nat) (l:List Con):Prop:=bG w ao n l∧dS B w.heap.size w 52 5 ao n
theorem kY.below {l:List Con} (h:kY B w ao n l) (hb:Bw w w'):kY B w' ao n l:=⟨h.1.below hb,h.2.grow hb (yJ _)⟩
theorem kY.sc {l:List Con} (h:kY B w ao n l) (hk:k<B):kY B (w.setCell ⟨k,j,none⟩ v) ao n l:=
 ⟨h.1.mks (Mks.one (fun x=>x=k) w k j v rfl) (aEa h.2 (.inl hk)),by rw [dY];exact h.2.mks (Mks.one (fun x=>x=k) w k j v rfl)⟩
theorem kY.base {l:List Con} (h:kY B w ao n l) (hb:B'≤B):kY B' w ao n l:=⟨h.1,h.2.mono hb (yJ _)⟩
theorem wG {l:List Con} (h:zQ B w v l):∃ao cap,v=.slice ao l.length cap∧l.length≤cap∧kY B w ao l.length l:=by
 obtain ⟨ao,cap,e,hr,hc,hg⟩:=wF h
 refine ⟨ao,cap,e,hc,hr,?_⟩
 by_cases hz:l=[]
 ·exact .inl (by rw [hz];rfl)
 ·obtain ⟨g,cur,e,h1,h2,h3⟩:=hg hz
  exact .inr ⟨g,cap,e,h1,lt_of_block h2,⟨cur,h2,h3⟩,hc⟩
def mI (B:Nat) (w:World) (ao:Option Addr) (n:Nat) (hs:List AV):Prop:=fK w ao n hs∧dS B w.heap.size w 48 3 ao n
theorem mI.below {l:List AV} (h:mI B w ao n l) (hb:Bw w w'):mI B w' ao n l:=⟨h.1.below hb,h.2.grow hb (yJ _)⟩
theorem mI.sc {l:List AV} (h:mI B w ao n l) (hk:k<B):mI B (w.setCell ⟨k,j,none⟩ v) ao n l:=
 ⟨h.1.mks (Mks.one (fun x=>x=k) w k j v rfl) (aEa h.2 (.inl hk)),by rw [dY];exact h.2.mks (Mks.one (fun x=>x=k) w k j v rfl)⟩
theorem aE4 {l:List AV} (h:aBk B w v l):∃ao cap,v=.slice ao l.length cap∧l.length≤cap∧mI B w ao l.length l:=by
 obtain ⟨ao,cap,e,hr,hc,hg⟩:=aIS h
 refine ⟨ao,cap,e,hc,hr,?_⟩
 by_cases hz:l=[]
 ·exact .inl (by rw [hz];rfl)
 ·obtain ⟨g,cur,e,h1,h2,h3⟩:=hg hz
  exact .inr ⟨g,cap,e,h1,lt_of_block h2,⟨cur,h2,h3⟩,hc⟩
structure jI (B:Nat) (w:World) (ns:List AV) (l:List bN):Prop where
 heads:jJ w ns l
 own:∀v ∈ ns,dS B w.heap.size w 104 5 v.ao v.len
 apart:ns.Pairwise aJG
theorem jI.below {l:List bN} (h:jI B w ns l) (hb:Bw w w'):jI B w' ns l:=⟨h.heads.below hb,fun v hv=>(h.own v hv).grow hb (yJ _),h.apart⟩
theorem jI.sc {l:List bN} (h:jI B w ns l) (hk:k<B∨∃t N,Cel w t k N∧t≠104):jI B (w.setCell ⟨k,j,none⟩ v) ns l:=by
 have key:∀u ∈ ns,∀i,inR u.ao u.len i→¬(i=k):=fun u hu i hi e=>by
  obtain ⟨h1,h2,N,hc⟩:=(h.own u hu).lies i hi
  subst e
  rcases hk with hk | ⟨t,N',hc',ht⟩
  ·omega
  ·exact ht (hc'.type hc)
 refine ⟨⟨h.heads.1,fun i h1 h2=>?_⟩,fun u hu=>?_,h.apart⟩
 ·obtain ⟨a,b,c,d⟩:=h.heads.2 i h1 h2
  exact ⟨a,b,c.mks (Mks.one (fun x=>x=k) w k j v rfl) (key _ (yM h1)),d⟩
 ·rw [dY]
  exact (h.own u hu).mks (Mks.one (fun x=>x=k) w k j v rfl)
theorem jI.nil (B:Nat) (w:World):jI B w [] []:=⟨⟨rfl,fun i h=>absurd h (by simp)⟩,fun v hv=>absurd hv (by simp),.nil⟩
theorem aBf (h:tC B w v l):∃ao cap,v=.slice ao l.length cap∧l.length≤cap∧bE w ao l.length l∧dS B w.heap.size w 104 5 ao l.length:=by
 obtain ⟨ao,cap,e,hr,hc,hg⟩:=h.row
 refine ⟨ao,cap,e,hc,hr,?_⟩
 by_cases hz:l=[]
 ·exact .inl (by rw [hz];rfl)
 ·obtain ⟨g,cur,e,h1,h2,h3⟩:=hg hz
  exact .inr ⟨g,cap,e,h1,lt_of_block h2,⟨cur,h2,h3⟩,hc⟩
theorem jI.snoc {l:List bN} (h:jI B w ns l) (hb:Bw w w') (hB:B≤w.heap.size) (id:Int) (qu:List UInt8) (ao:Option Addr) (cap:Nat) (k:List Ask) (hc:k.length≤cap)
  (hr:bE w' ao k.length k) (ho:dS w.heap.size w'.heap.size w' 104 5 ao k.length):jI B w' (ns++[⟨id,qu,ao,k.length,cap⟩]) (l++[⟨id,qu,k⟩]):=by
 have h':=h.below hb
 refine ⟨⟨by simp [h.heads.1],fun i h1 h2=>?_⟩,fun v hv=>?_,?_⟩
 ·by_cases hi:i<ns.length
  ·have hi':i<l.length:=by rw [←h.heads.1];exact hi
   rw [List.getElem_append_left hi,List.getElem_append_left hi']
   exact h'.heads.2 i hi hi'
  ·have hi1:i=ns.length:=by simp at h1;omega
   subst hi1
   have hl:ns.length=l.length:=h.heads.1
   simp only [List.getElem_append_right (yJ _),Nat.sub_self,List.getElem_cons_zero]
   rw [List.getElem_append_right (by omega)]
   simp only [hl,Nat.sub_self,List.getElem_cons_zero]
   exact ⟨trivial,trivial,hr,hc⟩
 ·rcases List.mem_append.1 hv with hv | hv
  ·exact h'.own v hv
  ·simp at hv
   subst hv
   exact ho.mono hB (yJ _)
 ·refine List.pairwise_append.2 ⟨h.apart,by simp,fun u hu v hv=>?_⟩
  simp at hv
  subst hv
  rcases h.own u hu with e | ⟨g1,M1,e1,_,h3,_⟩
  ·exact .inl e
  ·rcases ho with e | ⟨g2,M2,e2,h4,_⟩
   ·exact .inr (.inl e)
   ·refine .inr (.inr (fun e=>?_))
    simp only at e
    rw [e1,e2] at e
    cases e
    omega
theorem aEB {l:List bN} (h:fK w ao n hs) (hh:jJ w hs l):iC w ao n l:=by
 refine ⟨h.1.trans hh.1,?_⟩
 rcases h.2 with e | ⟨b,off,e,hc⟩
 ·exact .inl e
 ·refine .inr ⟨b,off,e,fun i hi=>?_⟩
  have hi':i<hs.length:=by rw [hh.1];exact hi
  obtain ⟨a1,a2,a3,a4⟩:=hh.2 i hi' hi
  obtain ⟨c1,c2,c3⟩:=hc i hi'
  rw [a1] at c1
  rw [a2] at c2
  exact ⟨hs[i].ao,hs[i].len,hs[i].cap,c1,c2,c3,a3,a4⟩
theorem aDV {x:Sls} {s:St} (q:pQ B w x.qa x.ql s.qs) (a:mI B w x.aa x.al hs) (k:jI B w hs s.apps) (m:nO B w x.ma x.ml s.ms) (c:kY B w x.ca x.cl s.cs) (cap:aLW x) (rm:RmS B w.heap.size w x hs):rA B w.heap.size w x s hs:=
 ⟨⟨q.1,aEB a.1 k.heads,m.1,c.1⟩,q.2,a.2,m.2,c.2,a.1,k.heads,k.own,k.apart,cap,rm⟩
theorem kY.blk {l:List Con} (h:kY B w ao n l) (hk:k<n):∃g,ao=some ⟨g,0,none⟩∧B≤g∧g<w.heap.size∧(∀j,w.frozen? ⟨g,j,none⟩=false)∧∀i (hi:i<l.length),mQ w g (i*5) l[i]:=by
 obtain ⟨⟨h1,h2⟩,h3⟩:=h
 rcases h3 with e | ⟨g,M,rfl,hB,hE,hc,hn⟩
 ·omega
 ·rcases h2 with e | ⟨b,off,e,hh⟩
  ·omega
  ·cases e
   exact ⟨g,rfl,hB,hE,fun j=>hc.frozen j,fun i hi=>by have:=hh i hi;rwa [Nat.zero_add] at this⟩
theorem yV (ao:Option Addr) (len cap:Nat) (cs:List Con) (w:World) (h:bG w ao len cs) (hl:len≤1048576) (hn:∀c ∈ cs,c.node.length≤1048576) :
  cP 112 #[.slice ao len cap] w fun e w'=>∃co cd,e=.returned (.slice co cs.length cd)∧cs.length≤cd∧kY w.heap.size w' co cs.length cs∧dS w.heap.size w'.heap.size w' 52 5 co cd∧Bw w w':=by
 have HF:=aA hn
 have CC:=aA (aBa ao len cap cs w h hl)
 have hll:=aA h.1
 clear h hn
 go_enter Tryz.func112,Tryz.ntmps112
 go_wp2_with fail
 refine (uH CC).mono ?_
 rintro e w9 ⟨v,rfl,ho,hb⟩
 obtain ⟨co,cd,rfl,hcd,hch⟩:=wG ho
 obtain ⟨n4,YT⟩:∃n,cs.length=n:=⟨_,rfl⟩
 rw [YT] at hch hcd ⊢
 have OC:=aA hch
 have U8:=aA (jW ho)
 have GM:=aA hb
 have pz:=aA YT
 have hl4:n4≤1048576:=by have:=uH hll;omega
 clear ho hb hch CC YT
 go_wp2
 go_loopw [4,5,10] (fun _ _ i wr=>∃(q:Nat),q≤n4∧i=.int .i64 q∧Hid (kY w.heap.size wr co n4 cs)∧Hid (dS w.heap.size wr.heap.size wr 52 5 co cd)∧Hid (Bw w wr)) (fun _ _ i _=>n4 - (intOf i).toNat)
 case atStart=>exact ⟨0,Nat.zero_le _,rfl,OC,U8,GM⟩
 case round=>
  obtain ⟨q,hq,rfl,HC,HO,HB⟩:=hrel
  clear OC U8 GM
  by_cases hlt:q<n4
  ·obtain ⟨g,rfl,hgB,TJ,hfz,hat⟩:=(uH HC).blk hlt
   have hjl:q<cs.length:=by have:=uH pz;omega
   obtain ⟨c0,c1,c2,c3,c4⟩:=hat q hjl
   have hnm:=uH HF cs[q] (yM hjl)
   obtain ⟨⟨ci,cap,cn,me,cp⟩,hm⟩:∃m,cs[q]=m:=⟨_,rfl⟩
   rw [hm] at c0 c1 c2 c3 c4 hnm
   simp only at c0 c1 c2 c3 c4 hnm
   have HW:=aA (yA (yH _ wr) (.cells #[.int .i64 ci,.int .i64 cap,.string (bs cn),.int .i64 me,.int .i64 cp] 52))
   have XC:=aA ((uH HC).below (uH HW))
   have XB:=aA (yB (uH HB) (uH HW))
   have XO:=aA ((uH HO).grow (uH HW) (yJ _))
   have XA:=aA (yD wr #[.int .i64 ci,.int .i64 cap,.string (bs cn),.int .i64 me,.int .i64 cp] 52)
   have D0:=aA (iB c0 (uH HW))
   have D1:=aA (iB c1 (uH HW))
   have D2:=aA (iB c2 (uH HW))
   have D3:=aA (iB c3 (uH HW))
   have D4:=aA (iB c4 (uH HW))
   have CL:=aA (fun wx=>aAD ⟨ci,cap,cn,me,cp⟩ wx hnm)
   have j0:(0:Int)≤q:=by omega
   have j1:(q:Int)<n4:=by omega
   clear hat hm hjl hfz hnm
   obtain ⟨W,hW⟩:∃W,wr.alloc (.cells #[.int .i64 ci,.int .i64 cap,.string (bs cn),.int .i64 me,.int .i64 cp] 52)=W:=⟨_,rfl⟩
   have XA1:=uH XA
   rw [hW] at XC XB XO D0 D1 D2 D3 D4 XA1
   have xa0:=(uH XA).at 0
   have xa1:=(uH XA).at 1
   have xa2:=(uH XA).at 2
   have xa3:=(uH XA).at 3
   have xa4:=(uH XA).at 4
   simp at xa0 xa1 xa2 xa3 xa4
   have HWW:=aA hW
   clear hW HW HC HB HO XA XA1
   go_wp2_with fail
   refine (uH CL _).mono ?_
   rintro e w6 ⟨rfl,hb⟩
   rw [uH HWW] at hb
   have GY:=aA (yB (yH _ W) hb)
   clear c0 c1 c2 c3 c4
   have c0:=iB (uH D0) (uH GY);have c1:=iB (uH D1) (uH GY);have c2:=iB (uH D2) (uH GY);have c3:=iB (uH D3) (uH GY);have c4:=iB (uH D4) (uH GY)
   have s0:=mX c0;have s1:=mX c1;have s2:=mX c2;have s3:=mX c3;have s4:=mX c4
   obtain ⟨g',e',_,_,hfz,_⟩:=((uH XC).below (uH GY)).blk hlt
   cases e'
   have z0:=hfz (q*5);have z1:=hfz (q*5+1);have z2:=hfz (q*5+2);have z3:=hfz (q*5+3);have z4:=hfz (q*5+4)
   clear hb hfz
   go_wp2
   go_roundw
   case rel=>exact ⟨q+1,by omega,by go_num,aA ((uH XC).below (uH GY)),aA ((uH XO).grow (uH GY) (yJ _)),aA (yB (uH XB) (uH GY))⟩
   case measure=>simp [intOf];omega
  ·obtain rfl:q=n4:=by omega
   have j1:¬(q:Int)<q:=by omega
   clear hlt
   go_wp2
   go_ret
   rw [uH pz]
   exact ⟨co,cd,rfl,hcd,uH HC,uH HO,uH HB⟩
def RmL (B:Nat) (w:World) (l:List (TypeId×Nat×Option Addr×Nat)):Prop:=∀p ∈ l,dS B w.heap.size w p.1 p.2.1 p.2.2.1 p.2.2.2
theorem RmL.nil (B:Nat) (w:World):RmL B w []:=fun p hp=>absurd hp (by simp)
theorem RmL.cons {l:List (TypeId×Nat×Option Addr×Nat)} {c:Nat} (h:dS B w.heap.size w t sz ao c) (hl:RmL B w l):RmL B w ((t,sz,ao,c)::l):=fun p hp=>by
 rcases List.mem_cons.1 hp with rfl | hp
 ·exact h
 ·exact hl p hp
theorem RmL.sub {l l':List (TypeId×Nat×Option Addr×Nat)} (h:RmL B w l) (hs:∀p ∈ l',p ∈ l):RmL B w l':=fun p hp=>h p (hs p hp)
theorem RmL.below {l:List (TypeId×Nat×Option Addr×Nat)} (h:RmL B w l) (hb:Bw w w'):RmL B w' l:=fun p hp=>((h p hp).below hb).mono (yJ _) hb.size
theorem l6 (h:dS B w.heap.size w t sz ao n) (k j:Nat) (v:Value):dS B (w.setCell ⟨k,j,none⟩ v).heap.size (w.setCell ⟨k,j,none⟩ v) t sz ao n:=(h.sc k j v).mono (yJ _) (by rw [dY];exact yJ _)
theorem RmL.sc {l:List (TypeId×Nat×Option Addr×Nat)} (h:RmL B w l) (k j:Nat) (v:Value):RmL B (w.setCell ⟨k,j,none⟩ v) l:=fun p hp=>l6 (h p hp) k j v
theorem RmL.grown {l:List (TypeId×Nat×Option Addr×Nat)} {t':TypeId} {r:Option Nat} (h:RmL B w l) (hg:w.grownBy w' r) (hr:∀k,r=some k→∃N,Cel w t' k N) (ht:∀p ∈ l,t'≠p.1):RmL B w' l:=fun p hp=>by
 rcases h p hp with e | ⟨g,M,e,h1,h2,h3,h4⟩
 ·exact .inl e
 ·refine .inr ⟨g,M,e,h1,Nat.lt_of_lt_of_le h2 hg.size,h3.of_block (hg.block g h2 (fun e2=>?_)),h4⟩
  obtain ⟨N,hc⟩:=hr g e2.symm
  exact ht p hp (hc.type h3)
def RL4 (co:Option Addr) (cd:Nat) (mo:Option Addr) (md:Nat) (qo:Option Addr) (qd:Nat) (ns:List AV):List (TypeId×Nat×Option Addr×Nat):=(52,5,co,cd)::(102,4,mo,md)::(56,4,qo,qd)::ns.map (fun v=>(104,5,v.ao,v.cap))
theorem aIP (co:Option Addr) (cd:Nat) (mo:Option Addr) (md:Nat) (qo:Option Addr) (qd:Nat) (ns:List AV) (v:AV):∀p ∈ RL4 co cd mo md qo qd (ns++[v]),p ∈ (104,5,v.ao,v.cap)::RL4 co cd mo md qo qd ns:=fun p hp=>by
 simp only [RL4,List.map_append,List.map_cons,List.map_nil,List.mem_cons,List.mem_append,List.not_mem_nil,or_false] at hp ⊢
 rcases hp with h | h | h | h | h<;>simp [h]
theorem aJ8 (co:Option Addr) (cd:Nat) (mo:Option Addr) (md:Nat) (qo:Option Addr) (qd:Nat) (ns:List AV):∀p ∈ RL4 co cd mo md qo qd ns,48≠p.1:=fun p hp=>by
 simp only [RL4,List.mem_cons,List.mem_map] at hp
 rcases hp with rfl | rfl | rfl | ⟨v,_,rfl⟩<;>(simp only;decide)
theorem aJH {x:Sls} (h:RmL B w (RL4 x.ca x.cc x.ma x.mc x.qa x.qc hs)) (ha:dS B w.heap.size w 48 3 x.aa x.ac):RmS B w.heap.size w x hs:=
 ⟨h (56,4,x.qa,x.qc) (by simp [RL4]),ha,h (102,4,x.ma,x.mc) (by simp [RL4]),h (52,5,x.ca,x.cc) (by simp [RL4]),fun v hv=>h (104,5,v.ao,v.cap) (by simp only [RL4,List.mem_cons,List.mem_map];exact .inr (.inr (.inr ⟨v,hv,rfl⟩)))⟩
theorem Lay.frozen (h:Lay w t g M cs) (j:Nat):w.frozen? ⟨g,j,none⟩=false:=h.cel.frozen j
theorem Lay.isThere (h:Lay w t g M cs) (hj:j<M):(w.cell? ⟨g,j,none⟩).isSome=true:=by
 obtain ⟨R,h1,h2⟩:=h
 have h3:j<(cs++R).length:=by omega
 simp [World.cell?,h1,List.getElem?_eq_getElem h3]
theorem Lay.drew (h:Lay w t g M cs):Lay w.drew t g M cs:=h
theorem Lay.cells (h:Lay w t g M cs) (o:Nat) (vs:List Value) (hf:o+vs.length≤M) (new:List Value) (hn:new.length≤M)
  (hi:∀j u,new[j]? = some u→(o≤j∧j<o+vs.length→vs[j - o]? = some u)∧(¬(o≤j∧j<o+vs.length)→w.cell? ⟨g,j,none⟩=some u)):Lay (w.setCells g o vs) t g M new:=by
 refine xL ?_ (fun j u hj=>?_) hn
 ·exact (nG (S:=fun k=>k=g) rfl vs o w w (Mks.refl _ _)).cel _ _ _ h.cel
 ·by_cases e:o≤j∧j<o+vs.length
  ·have h1:=World.cell?_setCells_in g vs o w (fun k hk=>h.isThere (by omega)) (j - o) (by omega)
   rw [show o+(j - o)=j by omega] at h1
   rw [h1]
   have h2:=(hi j u hj).1 e
   rw [List.getElem?_eq_getElem (by omega)] at h2
   exact h2
  ·rw [World.cell?_setCells_out g vs o w ⟨g,j,none⟩ (fun _ _=>by show j<o∨o+vs.length≤j;omega)]
   exact (hi j u hj).2 e
theorem bE.lay (h:bE w (some ⟨g,0,none⟩) n l) (hc:Cel w 104 g N) (hn:l.length*5≤N):Lay w 104 g N (cK l):=
 xL hc (fun j u hj=>by have:=lV h j u hj;rwa [Nat.zero_add] at this) (by rw [eQ];exact hn)
theorem Lay.rowA (h:Lay w 104 g M (cK l)):bE w (some ⟨g,0,none⟩) l.length l:=by
 refine ⟨rfl,.inr ⟨g,0,rfl,fun i hi=>?_⟩⟩
 obtain ⟨a,b,c,d,e⟩:=q9 l i hi
 rw [Nat.zero_add]
 exact ⟨h.cell a,h.cell b,h.cell c,h.cell d,h.cell e⟩
theorem bG.lay {l:List Con} (h:bG w (some ⟨g,0,none⟩) n l) (hc:Cel w 52 g N) (hn:l.length*5≤N):Lay w 52 g N (aJ l):=
 xL hc (fun j u hj=>by have:=iJ h j u hj;rwa [Nat.zero_add] at this) (by rw [bB];exact hn)
def zM (B:Nat) (w:World) (t:TypeId) (sz:Nat) (ao:Option Addr) (n cap:Nat):Prop:=n≤cap∧(cap=0∨∃g M,ao=some ⟨g,0,none⟩∧B≤g∧Cel w t g (M*sz)∧cap≤M)
theorem zM.mks {S:Nat→Prop} (h:zM B w t sz ao n cap) (hm:Mks S w w'):zM B w' t sz ao n cap:=by
 obtain ⟨h1,h3⟩:=h
 refine ⟨h1,?_⟩
 rcases h3 with h3 | ⟨g,M,e,hB,hc,hM⟩
 ·exact .inl h3
 ·exact .inr ⟨g,M,e,hB,hm.cel _ _ _ hc,hM⟩
theorem zM.below (h:zM B w t sz ao n cap) (hb:Bw w w'):zM B w' t sz ao n cap:=h.mks (S:=fun _=>False) (.of_below hb)
theorem zM.own (h:zM B w t sz ao n cap):dS B w.heap.size w t sz ao n:=by
 obtain ⟨h1,h3⟩:=h
 rcases h3 with h3 | ⟨g,M,e,hB,hc,hM⟩
 ·exact .inl (by omega)
 ·exact .inr ⟨g,M,e,hB,hc.lt,hc,by omega⟩
theorem zM.all (h:zM B w t sz ao n cap):dS B w.heap.size w t sz ao cap:=by
 rcases h.2 with h3 | ⟨g,M,e,hB,hc,hM⟩
 ·exact .inl h3
 ·exact .inr ⟨g,M,e,hB,hc.lt,hc,hM⟩
end
section
open Go.RowKit Go.Shelf
attribute [local go_sem] Oper.semAt_some
abbrev NAV:={ m:AV // (Lit.int .i64 m.id).wf=true }
theorem fK.kpa {W W':World} {ao:Option Addr} {len:Nat} {l:List AV} (h:fK W ao len l) (k:KpA W W'):fK W' ao len l:=by
 obtain ⟨h1,h2⟩:=h
 refine ⟨h1,?_⟩
 rcases h2 with h2 | ⟨b,off,h3,h4⟩
 ·exact .inl h2
 ·exact .inr ⟨b,off,h3,fun i hi=>let ⟨a,b,c⟩:=h4 i hi;⟨k.cell a,k.cell b,k.cell c⟩⟩
theorem aFu (n l Bs len cap:Nat) (ao:Option Addr) (ms:List AV) (J Jx:List (Int×NAV)→World→Prop)
  (hY:∀pre x W1,J pre W1→pre.length<ms.length→YieldAt Fence.wide (n - 1) Tryz.prog l #[.int .i64 x.1,avv x.2.1] W1 fun e W'=>
   (e=.returned (.bool true)∧J (pre++[x]) W'∧KpA W1 W')∨(e=.returned (.bool false)∧Jx (pre++[x]) W'))
  (W:World) (GQ:W.cell? ⟨Bs,0,none⟩=some (.slice ao len cap)) (hg:fK W ao len ms) (hl:len≤1048576) (hN:∀m ∈ ms,(Lit.int .i64 m.id).wf=true) (h0:J [] W) :
  CallsIn Fence.wide n Tryz.prog 158 #[.func (.yield l) #[] #[],.pointer (some ⟨Bs,0,none⟩)] W fun e W'=>(∃v,e=.returned v)∧
   ((∃ys:List (Int×NAV),Hid (ys.map (fun x:Int×NAV=>x.2.1)=ms.reverse)∧J ys W')∨(∃pre,Jx pre W')):=by
 have HY:=aA hY
 have yw:=aA GQ
 have HG:=aA hg
 have Gj:=aA hg.1
 have H0:=aA h0
 have J2:=aA hN
 clear hY hg h0 hN
 refine callsIn_of_wp Tryz.func158 rfl trivial ?_ rfl
 simp only [Tryz.ntmps158,List.size_toArray,List.length_cons,List.length_nil,Nat.reduceAdd,Nat.reduceSub,Array.replicate_succ,Array.replicate_zero,List.push_toArray,List.append_toArray,List.nil_append,List.cons_append]
 gi_wp2
 clear GQ
 gi_loopw [3] (fun i wr=>∃(k:Nat) (pre:List (Int×NAV)),k≤len∧i=.int .i64 ((k:Int) - 1)∧Hid (pre.length+k=ms.length)∧Hid (pre.map (fun x:Int×NAV=>x.2.1)=(ms.drop k).reverse)∧Hid (J pre wr)∧Hid (wr.cell? ⟨Bs,0,none⟩=some (.slice ao len cap))∧Hid (fK wr ao len ms)) (fun i _=>(intOf i+1).toNat)
 case atStart=>exact ⟨len,[],yJ _,by go_num,aA (by have:=uH Gj;simp;omega),aA (by rw [List.drop_of_length_le (by have:=uH Gj;omega)];rfl),H0,yw,HG⟩
 case round=>
  obtain ⟨k,pre,hk,rfl,HL,HM,HJ,HB,XF⟩:=hrel
  cases k with
  | zero=>
   gi_wp2
   go_end0
   exact ⟨⟨_,rfl⟩,.inl ⟨pre,aA (by rw [uH HM];rfl),uH HJ⟩⟩
  | succ j=>
   have hj:j<len:=by omega
   obtain ⟨b,off,rfl,hq⟩:=(uH XF).at hj
   have hjm:j<ms.length:=by have:=uH Gj;omega
   obtain ⟨c0,c1,c2⟩:=hq hjm
   have Qx:=uH HB
   have hel:=uH J2 ms[j] (yM _)
   obtain ⟨fn,tmps,assign,body,hy,hR⟩:=uH HY pre ((j:Int),⟨ms[j],hel⟩) wr (uH HJ) (by have:=uH HL;omega)
   have HRR:=aA hR
   have QD:=aA (show (pre++[((j:Int),(⟨ms[j],hel⟩:NAV))]).map (fun x:Int×NAV=>x.2.1)=(ms.drop j).reverse by rw [List.map_append,uH HM,List.drop_eq_getElem_cons hjm,List.reverse_cons];rfl)
   have hij:((j+1:Nat):Int) - 1=(j:Int):=by omega
   obtain ⟨y,ZE⟩:∃y:NAV,(⟨ms[j],hel⟩:NAV)=y:=⟨_,rfl⟩
   have hy1:ms[j]=y.1:=by rw [←ZE]
   rw [ZE] at hy HRR QD
   rw [hy1] at c0 c1 c2
   obtain ⟨⟨id,qu,zo,zl,zc⟩,hyn⟩:=y
   simp only at hy c0 c1 c2
   rw [hij]
   have j0:(0:Int)≤j:=by omega
   have j1:(j:Int)<len:=by omega
   clear hR ZE hy1 hij HM hq hjm hel
   gi_wp2
   refine ⟨(by intro e;cases e),?_⟩
   refine (uH HRR).mono ?_
   rintro e W3 (⟨rfl,hJ3,hk3⟩ | ⟨rfl,QN⟩)
   ·have HB3:=aA (hk3.cell (uH HB))
    have vk:=aA ((uH XF).kpa hk3)
    have Ky:=aA hJ3
    clear hk3 hJ3 Qx hy HRR c0 c1 c2
    gi_wp2
    go_roundw
    case rel=>exact ⟨j,pre++[((j:Int),⟨⟨id,qu,zo,zl,zc⟩,hyn⟩)],by omega,by go_num,aA (by have:=uH HL;simp;omega),QD,Ky,HB3,vk⟩
    case measure=>simp [intOf]
   ·gi_wp2
    refine bodyPost_ret (results_none rfl _ _ _) rfl ?_
    exact ⟨⟨_,rfl⟩,.inr ⟨_,QN⟩⟩
theorem aEA (n Bs len cap:Nat) (ao:Option Addr) (ms:List AV) (w:World) (GQ:w.cell? ⟨Bs,0,none⟩=some (.slice ao len cap)) (Hw:fK w ao len ms) (hl:len≤1048576) (hN:∀m ∈ ms,(Lit.int .i64 m.id).wf=true) :
  SeqStopsK Fence.wide n Tryz.prog 158 #[.pointer (some ⟨Bs,0,none⟩)] (fun x:Int×NAV=>#[.int .i64 x.1,avv x.2.1]) KpA (fun ys=>Hid (ys.map (fun x:Int×NAV=>x.2.1)=ms.reverse)) (fun _=>True) ms.length w:=by
 intro l J Jx W hW hJ hJx hY h0
 refine (aFu n l Bs len cap ao ms J Jx hY W ((hW.cell (yG GQ)).trans GQ) (Hw.below hW) hl hN h0).mono ?_
 rintro e W' ⟨he,⟨ys,h1,h2⟩ | ⟨pre,h2⟩⟩
 ·exact ⟨he,.inl ⟨ys,h1,h2⟩⟩
 ·exact ⟨he,.inr ⟨pre,trivial,h2⟩⟩
theorem aHf (v:Value) (w:World) (hv:v.oneCell'=true) :
  cP 116 #[v] w fun e w'=>e=.returned (.func (.func 158) #[] #[.pointer (some ⟨w.heap.size,0,none⟩)])∧w.alloc (.cells #[v] 25)=w':=by
 have KQ:∀(fn:Fn) (first cap:Array Value) (w:World),(Instr.makeFunc fn first cap).run Tryz.prog w=.ok (.func fn first cap) w:=fun _ _ _ _=>rfl
 go_enter Tryz.func116,Tryz.ntmps116
 go_wp2
 go_ret
 exact ⟨rfl,rfl⟩
theorem aFz (m:AV) (w:World) :
  cP 117 #[avv m] w fun e w'=>e=.returned (.agg #[.string (bs []),.int .i64 m.id])∧Bw w w':=by
 obtain ⟨id,qu,zo,zl,zc⟩:=m
 go_enter Tryz.func117,Tryz.ntmps117
 go_wp2
 refine bodyPost_ret (v:=.agg #[.string (bs []),.int .i64 id]) (by simp [results,Tryz.results117,go_sem];rfl) rfl ⟨rfl,?_⟩
 repeat (first | exact yH _ _ | refine yA ?_ _ | refine Below.drew ?_ | refine yC ?_ _ _ _ (by omega))
end
section
open Go.RowKit Go.Shelf Go.Maps
variable {l:List AV} {W W' w:World}
attribute [local go_sem] Oper.semAt_some
def aIz (w:World) (c:Array Value):World:=((w.alloc (.cells c 29)).alloc (.map #[] 0)).alloc (.cells #[.map (some (w.heap.size+1))] 89)
theorem aCy (w:World) (c:Array Value):(aIz w c).heap.size=w.heap.size+1+1+1:=by simp only [aIz,yE]
theorem aGA (w:World) (c:Array Value):Bw w (aIz w c):=yA (yA (yA (yH _ w) _) _) _
theorem aIy (w:World) (c:Array Value):(aIz w c).ownsMap Tryz.prog 92 dE (w.heap.size+1) 0 (.map []):=by
 have:=(World.ownsMap_made (w.alloc (.cells c 29)) Tryz.prog 92 dE).alloc (.cells #[.map (some (w.heap.size+1))] 89)
 rw [yE] at this
 exact this
theorem aIx (w:World) (c:Array Value):Blk (aIz w c) (w.heap.size+1+1) #[.map (some (w.heap.size+1))] 89:=by
 have:=yD ((w.alloc (.cells c 29)).alloc (.map #[] 0)) #[.map (some (w.heap.size+1))] 89
 rw [yE,yE] at this
 exact this
def nQ (w:World) (l:List AV) (W:World):Prop:=(∃D,W.ownsMap Tryz.prog 92 dE (w.heap.size+1) l.length D∧dO l aDE D)∧Blk W (w.heap.size+1+1) #[.map (some (w.heap.size+1))] 89
theorem nQ.grown {row:Option Nat} (h:nQ w l W) (hg:W.grownBy W' row) (hr:∀r,row=some r→w.heap.size+1+1<r):nQ w l W':=by
 obtain ⟨⟨D,h1,h2⟩,h3⟩:=h
 exact ⟨⟨D,h1.kept hg (fun e=>by have:=hr _ e.symm;omega),h2⟩,(hg.block _ h3.lt (fun e=>by have:=hr _ e.symm;omega)).trans h3⟩
theorem nQ.below (h:nQ w l W) (hb:Bw W W'):nQ w l W':=h.grown (aG (aF W none) hb) (fun r e=>by cases e)
theorem aIt (x:Sls) (s:St) (hs:List AV) (w:World) (h:fK w x.aa x.al hs) (hl:x.al≤1048576) (hn:∀m ∈ hs,(Lit.int .i64 m.id).wf=true) :
  cP 63 #[sv x s] w fun e w'=>e=.returned (.map (some (w.heap.size+1)))∧nQ w hs w'∧Bw w w':=by
 obtain ⟨qa,ql,qc,aa,al,ac,ma,ml,mc,ca,cl,cc⟩:=x
 obtain ⟨qs,cv,ez,nv,sj,aj,ms,cs⟩:=s
 simp only at h hl
 have HR:=aA h
 have HL:=aA h.1
 have HN:=aA hn
 have hmx:Tryz.prog.follows .mixedOrders=true:=by kernel_rfl
 have hmm:=fun (t:TypeId) (wx:World)=>run_makeMap (P:=Tryz.prog) t wx
 clear h hn
 refine (callsIn_wide (n:=3)).1 ?_
 refine callsIn_of_wp_marks Tryz.func63 rfl trivial ?_ rfl
 simp only [Tryz.ntmps63,List.size_toArray,List.length_cons,List.length_nil,Nat.reduceAdd,Nat.reduceSub,Array.replicate_succ,Array.replicate_zero,List.push_toArray,List.append_toArray,List.nil_append,List.cons_append]
 gi_wp2_with fail
 first | refine ⟨trivial,?_⟩ | skip
 first | refine ⟨(by intro e;cases e),?_⟩ | skip
 refine (callsIn_wide.2 (aHf (.slice aa al ac) _ rfl)).mono ?_
 rintro e w4 ⟨rfl,rfl⟩
 gi_wp2
 have QS:=yE (aIz w (svc ⟨qa,ql,qc,aa,al,ac,ma,ml,mc,ca,cl,cc⟩ ⟨qs,cv,ez,nv,sj,aj,ms,cs⟩)) (.cells #[.slice aa al ac] 25)
 rw [aCy] at QS
 have hB0:=yA (aGA w (svc ⟨qa,ql,qc,aa,al,ac,ma,ml,mc,ca,cl,cc⟩ ⟨qs,cv,ez,nv,sj,aj,ms,cs⟩)) (.cells #[.slice aa al ac] 25)
 have hI0:=nQ.below (w:=w) (l:=[]) ⟨⟨_,aIy w (svc ⟨qa,ql,qc,aa,al,ac,ma,ml,mc,ca,cl,cc⟩ ⟨qs,cv,ez,nv,sj,aj,ms,cs⟩),aC8⟩,aIx w _⟩ (yA (yH _ _) (.cells #[.slice aa al ac] 25))
 have GQ:=(yD (aIz w (svc ⟨qa,ql,qc,aa,al,ac,ma,ml,mc,ca,cl,cc⟩ ⟨qs,cv,ez,nv,sj,aj,ms,cs⟩)) #[.slice aa al ac] 25).at 0
 rw [aCy] at GQ
 obtain ⟨W0,hW0⟩:∃W0,(aIz w (svc ⟨qa,ql,qc,aa,al,ac,ma,ml,mc,ca,cl,cc⟩ ⟨qs,cv,ez,nv,sj,aj,ms,cs⟩)).alloc (.cells #[.slice aa al ac] 25)=W0:=⟨_,rfl⟩
 rw [hW0] at QS hB0 hI0 GQ
 have HC:=aA (aEA (3 - 1) (w.heap.size+1+1+1) al ac aa hs W0 GQ ((uH HR).below hB0) hl (uH HN))
 show Code.wpIn _ _ _ _ _ _ ((aIz w (svc ⟨qa,ql,qc,aa,al,ac,ma,ml,mc,ca,cl,cc⟩ ⟨qs,cv,ez,nv,sj,aj,ms,cs⟩)).alloc (.cells #[.slice aa al ac] 25))
 rw [hW0]
 clear hW0 GQ
 refine wpIn_rangeFunc_ownH rfl (by omega) (gf:=158) (lb:=#[.pointer (some ⟨w.heap.size+1+1+1,0,none⟩)]) rfl trivial (enters_of Tryz.func158 (by kernel_rfl) rfl)
  (uH HC) aFc aIc (yH _ _) (fun _=>rfl)
  (fun pre W=>nQ w ((pre.map (fun x:Int×NAV=>x.2.1)).reverse) W∧Bw w W)
  (fun _ _ _=>False)
  (OwnFrom.and (fun s X Y row hs hg hr=>nQ.grown hs hg (fun r e=>by have:=(hr r e).1;omega)) (ownFrom_below (yJ _) (by omega)))
  (fun _ _ _ _ _ hs _ _=>hs)
  ⟨hI0,hB0⟩
  (fun x a' W=>∃Bx,w.heap.size+1+1<Bx∧Blk W Bx #[.int .i64 x.2.1.id,.string (bs x.2.1.queue),.slice x.2.1.ao x.2.1.len x.2.1.cap] 48∧a' = { tmps:=#[sv ⟨qa,ql,qc,aa,al,ac,ma,ml,mc,ca,cl,cc⟩ ⟨qs,cv,ez,nv,sj,aj,ms,cs⟩,.pointer (some ⟨w.heap.size,0,none⟩),.map none,.pointer (some ⟨w.heap.size+1+1,0,none⟩),undef,.pointer (some ⟨Bx,0,none⟩),.map (some (w.heap.size+1)),.pointer (some ⟨w.heap.size,5,none⟩),.slice aa al ac,.func (.func 158) #[] #[.pointer (some ⟨w.heap.size+1+1+1,0,none⟩)],.int .i64 x.1,avv x.2.1,undef,undef,undef,undef,undef],defers:=[] })
  (fun x a' _ X Y row hs hg hr=>by
   obtain ⟨Bx,h1,h2,h3⟩:=hs
   refine ⟨Bx,h1,(hg.block Bx h2.lt (fun e=>?_)).trans h2,h3⟩
   obtain ⟨_,o,ho,hc⟩:=hr Bx e.symm
   rw [show X.heap[Bx]? = _ from h2] at ho
   cases ho
   cases hc)
  ?assign ?body ?done ?stop
 case assign=>
  rintro lp pre ⟨i,⟨⟨id,qu,zo,zl,zc⟩,hnm⟩⟩ W K ⟨hI,hB⟩ hK
  have hlt:=hI.2.lt
  gi_wp2
  exact hK _ _ ((KeepsOthers.alloc _ _).from _) (jR (yA (yH _ W) _)) ⟨hI.below (yA (yH _ W) _),yA hB _⟩ ⟨W.heap.size,hlt,yD W _ _,rfl⟩
 case body=>
  rintro lp pre ⟨i,⟨⟨id,qu,zo,zl,zc⟩,hnm⟩⟩ a' W hlp _ ⟨hI,hB⟩ ⟨Bx,hBx,hX,rfl⟩ hlt
  have HI:=aA hI
  have HX:=aA hX
  have HB:=aA hB
  have x0:=hX.at 0
  have x1:=hX.at 1
  have x2:=hX.at 2
  have v0:=hI.2.at 0
  simp at x0 x1 x2 v0
  have hpl:pre.length<1048576:=by have:=uH HL;omega
  clear hI hX hB
  obtain ⟨kl,G7⟩:=aA9 (nm:=[]) (k:=id) (by decide) hnm
  have QA:=aA G7
  clear G7
  gi_wp2_with fail
  gi_region_with_o (first | (first | refine ⟨trivial,?_⟩ | skip);(first | refine ⟨(by intro e;cases e),?_⟩ | skip);refine (CallsIn.inRound lp (callsIn_wide.2 (aFz ⟨id,qu,zo,zl,zc⟩ _))).mono ?_;rintro e wc ⟨rfl,hbc⟩;have HW3:=aA (yB (yH _ W).drew hbc);have y0:=((uH HX).below (uH HW3)).at 0;have y1:=((uH HX).below (uH HW3)).at 1;have y2:=((uH HX).below (uH HW3)).at 2;have u0:=((uH HI).below (uH HW3)).2.at 0;simp at y0 y1 y2 u0;obtain ⟨D,Hq,hk⟩:=((uH HI).below (uH HW3)).1;obtain ⟨w4,gq,GZ,GK⟩:=Hq.update jS Tryz.underlying89 (by unfold maxLen;simp;omega) (uH QA) (jG ⟨id,qu,zo,zl,zc⟩);have zk:=aA (And.intro GZ (And.intro GK (dO.put (m:=⟨id,qu,zo,zl,zc⟩) hk Hq.isMap (uH QA))));clear GZ GK hk Hq hbc)
  all_goals gi_wp2
  all_goals
   obtain ⟨f1,f2,f3⟩:=uH zk
   have GA:=(uH HW3)
   have hv4:=(f2.block _ ((uH HI).below GA).2.lt (by simp)).trans ((uH HI).below GA).2
   have Fv:nQ w (⟨id,qu,zo,zl,zc⟩::(pre.map (fun x:Int×NAV=>x.2.1)).reverse) w4:=⟨⟨_,f1,f3⟩,hv4⟩
   refine ⟨((iI GA).from _).trans (KeepsFrom.of_grownBy f2 (fun j e=>by cases e;omega)),aFc (jR GA) (fun k o ho hc=>(f2.block k (lt_of_block ho) (fun e=>?_)).trans ho),by simpa using Fv,?_⟩
   ·obtain ⟨D',hD',_⟩:=((uH HI).below GA).1
    obtain ⟨es,ck,hm',_⟩:=hD'
    obtain rfl:k=w.heap.size+1:=by simpa using e
    rw [hm'] at ho
    cases ho
    cases hc
   ·exact ((uH HB).trans (GA.mono (uH HB).size)).grown f2 (by have:=(uH HB).size;have:=GA.size;omega) (fun k e=>by cases e;omega)
 case done=>
  rintro D ys W hD hys ⟨hI,hB⟩ hK
  rw [uH hys,List.reverse_reverse] at hI
  have v0:=hI.2.at 0
  simp at v0
  have HI:=aA hI
  have HB:=aA hB
  clear hI hB
  gi_wp2
  refine ⟨by simp,.inl ⟨_,_,rfl,run_takeDeferred hK,?_⟩⟩
  exact ⟨_,results_tmp rfl _ _ _,rfl,(uH HI).grown (grownBy_putObj' W D _) (fun r e=>by cases e;omega),(uH HB).trans (belowK_b (w:=w) (yJ _) W D _ _ (by omega) hK rfl rfl)⟩
 case stop=>
  rintro D c pre W _ _ h _
  exact h.elim
theorem aBd (x:Sls) (s:St) (hs:List AV) (w:World) (h:fK w x.aa x.al hs) (hl:x.al≤1048576) (hn:∀m ∈ hs,(Lit.int .i64 m.id).wf=true) :
  cP 63 #[sv x s] w fun e w'=>∃bm,e=.returned (.map (some bm))∧(w.heap.size≤bm∧∃D,w'.ownsMap Tryz.prog 92 dE bm hs.length D∧dO hs aDE D)∧Bw w w':=
 (aIt x s hs w h hl hn).mono fun e w' ⟨h1,h2,h3⟩=>⟨_,h1,⟨by omega,h2.1⟩,h3⟩
end
section
open Go.RowKit Go.Maps
variable {k:Nat}
def bH (id:Int) (l:List bN):Option bN:=l.find? (fun a=>decide (a.id=id))
def nM (id:Int):List bN→Nat→Int
 | [],_=>-1
 | q::t,k=>if q.id=id then k else nM id t (k+1)
def aJA (l:List bN) (id:Int):Int:=nM id l 0
theorem aEC {id:Int} {l:List bN} (h:k<l.length):nM id (l.drop k) k=if l[k].id=id then (k:Int) else nM id (l.drop (k+1)) (k+1):=by
 rw [List.drop_eq_getElem_cons h,nM]
theorem aGB {id:Int} {l:List bN} (h:l.length≤k):nM id (l.drop k) k = -1:=by
 rw [List.drop_of_length_le h];rfl
theorem zG (id:Int):∀(l:List bN) (k:Nat),(bH id l=none∧nM id l k = -1)∨(∃(j:Nat) (h:j<l.length),bH id l=some l[j]∧nM id l k=((k+j:Nat):Int))
 | [],k=>.inl ⟨rfl,rfl⟩
 | q::t,k=>by
  by_cases h:q.id=id
  ·right
   exact ⟨0,by simp,by simp [bH,h],by rw [nM,if_pos h];simp⟩
  ·have hf:bH id (q::t)=bH id t:=by simp [bH,h]
   rw [hf,nM,if_neg h]
   rcases zG id t (k+1) with ⟨a,b⟩ | ⟨j,hj,a,b⟩
   ·exact .inl ⟨a,b⟩
   ·exact .inr ⟨j+1,by simpa using hj,by simpa using a,by rw [b];congr 1;omega⟩
theorem zH (id:Int) (l:List bN):(bH id l=none∧aJA l id = -1)∨(∃(j:Nat) (h:j<l.length),bH id l=some l[j]∧aJA l id=(j:Int)):=by
 rcases zG id l 0 with h | ⟨j,h,a,b⟩
 ·exact .inl h
 ·exact .inr ⟨j,h,a,by rw [aJA,b];congr 1;omega⟩
theorem aAb {hs:List AV} {l:List bN} {id:Int}:hs.length=l.length→(∀i (h:i<hs.length) (h':i<l.length),hs[i].id=l[i].id∧hs[i].queue=l[i].queue)→(fJ id hs).map AV.queue=(bH id l).map bN.queue:=by
 induction hs generalizing l with
 | nil=>
  intro h _
  have:l=[]:=List.length_eq_zero_iff.1 h.symm
  subst this
  rfl
 | cons v t ih=>
  intro h1 h2
  cases l with
  | nil=>simp at h1
  | cons a r=>
   have h0:=h2 0 (by simp) (by simp)
   simp only [List.getElem_cons_zero] at h0
   by_cases e:a.id=id
   ·have e':v.id=id:=h0.1.trans e
    simp [fJ,bH,e,e',h0.2]
   ·have e':¬v.id=id:=fun x=>e (h0.1.symm.trans x)
    have:=ih (l:=r) (by simpa using h1) (fun i a b=>by have:=h2 (i+1) (by simpa using a) (by simpa using b);simpa using this)
    simpa [fJ,bH,e,e'] using this
theorem sH (x:Sls) (s:St) (id:Int) (w:World) (h:iC w x.aa x.al s.apps) (hl:x.al≤1048576) :
  cP 54 #[sv x s,.int .i64 id] w fun e w'=>e=.returned (.int .i64 (aJA s.apps id))∧Bw w w':=by
 have HR:=aA h
 have HL:=aA h.1
 have HB0:=aA (yA (yH _ w) (.cells (svc x s) 29))
 have P0:=aA (yD w (svc x s) 29)
 clear h
 obtain ⟨qa,ql,qc,aa,al,ac,ma,ml,mc,ca,cl,cc⟩:=x
 obtain ⟨qs,cv,ez,nv,sj,aj,ms,cs⟩:=s
 simp only at hl HR HL ⊢
 go_enter Tryz.func54,Tryz.ntmps54
 go_wp2
 go_loopw [5] (fun i wr=>∃(k:Nat),k≤al∧i=.int .i64 k∧Hid (aJA aj id=nM id (aj.drop k) k)∧Hid (Blk wr w.heap.size (svc ⟨qa,ql,qc,aa,al,ac,ma,ml,mc,ca,cl,cc⟩ ⟨qs,cv,ez,nv,sj,aj,ms,cs⟩) 29)∧Hid (Bw w wr)) (fun i _=>al - (intOf i).toNat)
 case atStart=>exact ⟨0,Nat.zero_le _,rfl,aA (by simp [aJA]),P0,HB0⟩
 case round=>
  obtain ⟨k,hk,rfl,HQ,HP,HB⟩:=hrel
  have p5:=(uH HP).at 5
  simp at p5
  by_cases hlt:k<al
  ·obtain ⟨b,off,rfl,hq⟩:=((uH HR).below (uH HB)).at hlt
   have hkl:k<aj.length:=by have:=uH HL;omega
   have hst:=aA (aEC (id:=id) hkl)
   obtain ⟨xo,xl,xc,Y3⟩:=hq hkl
   have c0:=Y3.1
   clear hq Y3
   obtain ⟨s,hs⟩:∃s,aj[k].id=s:=⟨_,rfl⟩
   rw [hs] at c0 hst
   clear hs hkl
   by_cases he:s=id
   ·have HE:=aA he
    have hbe:(s==id)=true:=by simp [he]
    clear he
    go_wp2
    go_ret
    exact ⟨eP (by rw [uH HQ,uH hst,if_pos (uH HE)]),uH HB⟩
   ·have HE:=aA he
    have hbe:(s==id)=false:=by simp [he]
    clear he
    go_wp2
    go_roundw
    case rel=>exact ⟨k+1,by omega,by go_num,aA (by rw [uH HQ,uH hst,if_neg (uH HE)]),HP,HB⟩
    case measure=>simp [intOf];omega
  ·go_wp2
   go_ret
   exact ⟨eP (by rw [uH HQ,aGB (by have:=uH HL;omega)]),uH HB⟩
def byQ (s:St) (nm:List UInt8) (q:Con):Bool:=match bH q.app s.apps with
 | none=>false
 | some a=>(path s.qs a.queue).any (fun x=>decide (x=nm))
def aL (s:St) (nm:List UInt8):Int×Int:=((iL (aV (byQ s nm) s.cs)).1,(iL (aV (byQ s nm) s.cs)).2.1)
theorem aA7 (v:Value) (ps:List (List UInt8)) (nm:List UInt8) (B:Nat) (w:World) (h:bY B w v ps) (hl:ps.length≤1048576) :
  cP 33 #[v,.string (bs nm)] w fun e w'=>e=.returned (.bool (ps.any (fun x=>decide (x=nm))))∧w=w':=by
 obtain ⟨o,ho⟩:∃o,ps.any (fun x=>decide (x=nm))=o:=⟨_,rfl⟩
 have HO:=aA (show (ps.drop 0).any (fun x=>decide (x=nm))=o from ho)
 rw [ho]
 clear ho
 obtain ⟨ao,cap,rfl,HC⟩:∃ao cap,v=.slice ao ps.length cap∧Hid (∀j (hj:j<ps.length),∃g,ao=some ⟨g,0,none⟩∧w.cell? ⟨g,j,none⟩=some (.string (bs ps[j]))):=by
  by_cases hp:ps=[]
  ·subst hp
   obtain ⟨a,cap,rfl⟩:=kJ h
   exact ⟨a,cap,rfl,aA (fun j hj=>by simp at hj)⟩
  ·obtain ⟨g,cap,rfl,hs,_⟩:=kI h hp
   exact ⟨_,cap,rfl,aA (fun j hj=>⟨g,rfl,hs.text hj⟩)⟩
 clear h
 obtain ⟨n,hn⟩:∃n,ps.length=n:=⟨_,rfl⟩
 rw [hn] at hl ⊢
 have HN:=aA hn
 clear hn
 go_enter Tryz.func33,Tryz.ntmps33
 go_wp2
 go_loopw [5] (fun i wr=>∃(k:Nat),k≤n∧i=.int .i64 k∧Hid ((ps.drop k).any (fun x=>decide (x=nm))=o)∧wr=w) (fun i _=>n - (intOf i).toNat)
 case atStart=>exact ⟨0,Nat.zero_le _,rfl,HO,rfl⟩
 case round=>
  obtain ⟨k,hk,rfl,HQ,rfl⟩:=hrel
  by_cases hlt:k<n
  ·have hkl:k<ps.length:=by have:=uH HN;omega
   obtain ⟨g,rfl,c0⟩:=uH HC k hkl
   have hst:(ps.drop k).any (fun x=>decide (x=nm))=(decide (ps[k]=nm)||(ps.drop (k+1)).any (fun x=>decide (x=nm))):=by rw [List.drop_eq_getElem_cons hkl,List.any_cons]
   rw [uH HQ] at hst
   obtain ⟨s,hs⟩:∃s,ps[k]=s:=⟨_,rfl⟩
   rw [hs] at c0 hst
   have hbe:=lL s nm
   clear hs hkl
   by_cases he:s=nm
   ·rw [decide_eq_true he] at hbe hst
    have hot:o=true:=by rw [hst];rfl
    subst hot
    clear he hst
    go_wp2
    go_ret
    exact ⟨rfl,rfl⟩
   ·rw [decide_eq_false he] at hbe hst
    have ZR:=aA (show (ps.drop (k+1)).any (fun x=>decide (x=nm))=o by simpa using hst.symm)
    clear he hst
    go_wp2
    go_roundw
    case rel=>exact ⟨k+1,by omega,by go_num,ZR,trivial⟩
    case measure=>simp [intOf];omega
  ·have hof:o=false:=by rw [←uH HQ,List.drop_of_length_le (by have:=uH HN;omega)];rfl
   subst hof
   go_wp2
   go_ret
   exact ⟨rfl,rfl⟩
end
section
open Go.RowKit
variable {l:List Int} {B:Nat} {v:Value} {w:World}
theorem aIg {l:List Con} {k:Nat} (h:k<l.length):((l.take (k+1)).map (·.id))=(l.take k).map (·.id)++[l[k].id]:=by
 rw [List.take_succ_eq_append_getElem h,List.map_append]
 rfl
theorem aBY (B:Nat) (w:World):aBl B w (.slice none 0 0) []:=⟨rfl,.inl ⟨rfl,rfl⟩⟩
theorem xW {B':Nat} (h:aBl B w v l) (hb:B'≤B):aBl B' w v l:=⟨h.1,h.2.imp id (fun ⟨g,cap,cur,h1,h2,h3⟩=>⟨g,cap,cur,h1,Nat.le_trans hb h2,h3⟩)⟩
theorem aC9 {wr w1:World} {v':Value} {q:Int} {ob:Obj} (hb:Below B w wr) (Hq:aBl B wr v l)
  (h1:w1.ownsRow B 3 1 v' (l.length+1) (yO l++[.int .i64 q])) (hg:(wr.alloc ob).grownBy w1 v.ownBlock) (hB:B≤wr.heap.size) :
  aBl B w1 v' (l++[q])∧Below B w w1:=by
 refine ⟨?_,(hb.alloc hB ob).grown hg (by simp;omega) ?_⟩
 ·unfold aBl
  rw [List.length_append,yO,List.map_append]
  exact h1
 ·intro k hk
  rcases Hq.2 with ⟨rfl,_⟩ | ⟨g,cap,cur,rfl,hg',_⟩
  ·simp [Value.ownBlock] at hk
  ·simp [Value.ownBlock] at hk;omega
theorem aCh (ao:Option Addr) (len cap:Nat) (l:List Con) (w:World) (h:bG w ao len l) (hl:len≤1048576) :
  cP 32 #[.slice ao len cap] w fun e w'=>∃v,e=.returned v∧Hid (aBl w.heap.size w' v (l.map (·.id))∧Bw w w'):=by
 obtain ⟨i0,hi,hz0,hz1,hz2⟩:=info_parts Tryz.infoI
 have HR:=aA h
 have HL:=aA h.1
 clear h
 go_enter Tryz.func32,Tryz.ntmps32
 go_wp2
 go_loopw [3,8] (fun v i wr=>∃(k:Nat),k≤len∧i=.int .i64 k∧Hid (aBl w.heap.size wr v ((l.take k).map (·.id)))∧Hid (Bw w wr)) (fun _ i _=>len - (intOf i).toNat)
 case atStart=>exact ⟨0,Nat.zero_le _,rfl,aA (by simpa using aBY _ _),aA (yH _ _)⟩
 case round=>
  obtain ⟨k,hk,rfl,HO,HB⟩:=hrel
  by_cases hlt:k<len
  ·obtain ⟨b,off,rfl,hq⟩:=((uH HR).below (uH HB)).at hlt
   have hkl:k<l.length:=by have:=uH HL;omega
   have hst:=aIg hkl
   obtain ⟨c0,c1,c2,c3,c4⟩:=hq hkl
   obtain ⟨m,hs⟩:∃q,l[k]=q:=⟨_,rfl⟩
   rw [hs] at c0 c1 c2 c3 c4 hst
   have hal:((l.take k).map (·.id)).length≤1048576:=by have:=uH HL;simp;omega
   obtain ⟨acc,Gq⟩:∃a,(l.take k).map (·.id)=a:=⟨_,rfl⟩
   rw [Gq] at hst hal HO
   obtain ⟨id,ap,nd,me,cp⟩:=m
   simp only at c0 c1 c2 c3 c4 hst
   have HST:=aA hst
   have hx:=yA (yH _ wr) (.cells #[.int .i64 id,.int .i64 ap,.string (bs nd),.int .i64 me,.int .i64 cp] 52)
   have HB1:=aA (yB (uH HB) hx)
   have Zk:=aA (dX (uH HO) hx)
   have q0:=(yD wr #[.int .i64 id,.int .i64 ap,.string (bs nd),.int .i64 me,.int .i64 cp] 52).at 0
   simp at q0
   have hw1:w.heap.size≤(wr.alloc (.cells #[.int .i64 id,.int .i64 ap,.string (bs nd),.int .i64 me,.int .i64 cp] 52)).heap.size:=(uH HB1).size
   have Hq:(wr.alloc (.cells #[.int .i64 id,.int .i64 ap,.string (bs nd),.int .i64 me,.int .i64 cp] 52)).ownsRow w.heap.size 3 1 _ acc.length (yO acc):=uH Zk
   clear hq hs hkl Gq hst HO HB hx
   go_wp2_with (at_builtin;refine wpList_append_own _ rfl _ _ 32 rfl w.heap.size 3 i0 (.int .i64 0) 1 8 Tryz.underlying32 hi hz0 hz1 hz2 rfl (by decide) _ _ _ rfl (Hq.alloc _) ⟨wr.heap.size+1,0,none⟩ 1 1 [.int .i64 id] (by first | rfl | simp) rfl ?c1 ?c2 ?c3 ?c4 ?c5 ?_)
   case c1=>
    have:=World.news_of_block (yD (wr.alloc (.cells #[.int .i64 id,.int .i64 ap,.string (bs nd),.int .i64 me,.int .i64 cp] 52)) #[.int .i64 id] 3)
    rw [yE] at this
    exact this
   case c2=>intro u hu;simp at hu;subst hu;rfl
   case c3=>unfold maxLen;omega
   case c4=>omega
   case c5=>have:=hw1;simp only [yE] at this ⊢;omega
   intro v' w3 Hy Hz _
   have R:=aA (aC9 (q:=id) (uH HB1) (uH Zk) Hy Hz hw1)
   clear Hy Hz Hq q0 c0 c1 c2 c3 c4
   go_wp2
   go_roundw
   case rel=>exact ⟨k+1,by omega,by go_num,aA (by rw [uH HST];exact (uH R).1),aA (uH R).2⟩
   case measure=>simp [intOf];omega
  ·have htk:l.take k=l:=List.take_of_length_le (by have:=uH HL;omega)
   rw [htk] at HO
   go_wp2
   go_ret
   exact ⟨_,rfl,aA ⟨uH HO,uH HB⟩⟩
end
end Go.Proofs.YtngkddhcmfbjnaaGreat
