/-
  Texts in one: MarkAM, MarkA, OwnC, IdsR.
-/
import Derived.Test.YtmkedfdnokmglaaGreatPackC
import Derived.Lib.SliceRun
import Derived.Deep.AppendLies
set_option maxRecDepth 100000
set_option maxHeartbeats 16000000
set_option linter.unusedVariables false
set_option linter.unusedSimpArgs false
namespace Go.Proofs.YtmkedfdnokmglaaGreat
section
open Go.RowKit
def markA (k j:Nat):Ask:=⟨(k:Int)+5*(j:Int),(k:Int)+5*(j:Int)+1,(k:Int)+5*(j:Int)+1+1,109::dgs (k+5*j+1+1+1),(k:Int)+5*(j:Int)+1+1+1+1⟩
def marksA (k n:Nat):List Ask:=(List.range n).map (markA k)
theorem marksA_len (k n:Nat):(marksA k n).length=n:=by simp [marksA]
theorem marksA_at (k n j:Nat) (h:j<(marksA k n).length):(marksA k n)[j]=markA k j:=by simp [marksA]
theorem AskBlk.tail {w:World} {t:TypeId} {g n k:Nat} {l:List Ask} (h:AskBlk w t g n k l) {p:Nat} (hp:k*5≤p) (v:Value):AskBlk (w.setCell ⟨g,p,none⟩ v) t g n k l:=by
 obtain ⟨arr,h1,h2,h3⟩:=h
 refine ⟨_,heap_setCell_same w g p _ _ v h1,by simp [h2],fun i hi hik=>?_⟩
 obtain ⟨a,b,c,d,e⟩:=h3 i hi hik
 refine ⟨?_,?_,?_,?_,?_⟩
 ·rw [←a,Array.getElem?_setIfInBounds,if_neg (by omega)]
 ·rw [←b,Array.getElem?_setIfInBounds,if_neg (by omega)]
 ·rw [←c,Array.getElem?_setIfInBounds,if_neg (by omega)]
 ·rw [←d,Array.getElem?_setIfInBounds,if_neg (by omega)]
 ·rw [←e,Array.getElem?_setIfInBounds,if_neg (by omega)]
theorem AskBlk.next {w:World} {t:TypeId} {g n k:Nat} {l:List Ask} (h:AskBlk w t g n k l) (c:∀hk:k<l.length,AskAt w g (k*5) l[k]):AskBlk w t g n (k+1) l:=by
 obtain ⟨arr,h1,h2,h3⟩:=h
 refine ⟨arr,h1,h2,fun i hi hik=>?_⟩
 by_cases e:i=k
 ·subst e
  obtain ⟨c0,c1,c2,c3,c4⟩:=c hi
  simp [World.cell?,h1] at c0 c1 c2 c3 c4
  exact ⟨c0,c1,c2,c3,c4⟩
 ·exact h3 i hi (by omega)
theorem AskBlk.rowOf {w:World} {t:TypeId} {g c n:Nat} {l:List Ask} (h:AskBlk w t g c n l) (hl:n=l.length):AskRow w (some ⟨g,0,none⟩) n l:=by
 obtain ⟨arr,h1,h2,h3⟩:=h
 refine ⟨hl,.inr ⟨g,0,rfl,fun i hi=>?_⟩⟩
 obtain ⟨a,b,c,d,e⟩:=h3 i hi (by omega)
 unfold AskAt
 simp only [Nat.zero_add]
 exact ⟨by simp [World.cell?,h1,a],by simp [World.cell?,h1,b],by simp [World.cell?,h1,c],by simp [World.cell?,h1,d],by simp [World.cell?,h1,e]⟩
theorem cellKeep {w:World} {g p q:Nat} {u v:Value} (h:w.cell? ⟨g,p,none⟩=some u) (hne:q≠p):(w.setCell ⟨g,q,none⟩ v).cell? ⟨g,p,none⟩=some u:=
 (World.cell?_setCell_other _ _ _ _ (fun e=>hne (congrArg Addr.off e))).trans h
theorem cellBel {w w':World} {g p:Nat} {u:Value} (h:w.cell? ⟨g,p,none⟩=some u) (hb:Below w.heap.size w w'):w'.cell? ⟨g,p,none⟩=some u:=(hb.cell (yG h)).trans h
theorem markAskS_from (g n c K:Nat) {d:Nat} (w:World) (h:Cel w 198 g (c*5)) (hc:n≤c) (hn:n≤1048576) (h0:0<K) (h1:K≤1000000000000000) :
  Calls Tryz.prog 129 #[.slice (some ⟨g,0,none⟩) n d,.int .i64 (K:Int)] w fun e w'=>e=.returned (.int .i64 ((K:Int)+5*(n:Int)))∧AskRow w' (some ⟨g,0,none⟩) n (marksA K n)∧Mkd g (g+1) w w':=by
 have HQ0:=hide (show AskBlk w 198 g c 0 (marksA K n) by obtain ⟨arr,h1,h2⟩:=h;exact ⟨arr,h1,h2,fun i _ h=>absurd h (by omega)⟩)
 clear h
 go_enter Tryz.func129,Tryz.ntmps129
 go_wp2
 go_loopw [1,5] (fun s i wr=>∃(j:Nat) (k:Int),j≤n∧i=.int .i64 j∧s=.int .i64 k∧k=(K:Int)+5*(j:Int)∧Hid (AskBlk wr 198 g c j (marksA K n))∧Hid (Mkd g (g+1) w wr)) (fun _ i _=>n - (intOf i).toNat)
 case atStart=>exact ⟨0,K,Nat.zero_le _,rfl,rfl,by omega,HQ0,hide (Mkd.refl _ _ _)⟩
 case round=>
  obtain ⟨j,k,hj,rfl,rfl,hk,HQ,HG⟩:=hrel
  by_cases hlt:j<n
  ·have HK:=hide hk
   have hk0:0<k:=by omega
   have hk1:k≤1000000010000000:=by omega
   clear hk
   obtain ⟨v0,d0⟩:=(uH HQ).cell (j:=j*5) (by omega)
   have f0:=(uH HQ).frozen (j*5)
   have X0:=hide (World.cell?_setCell_same wr ⟨g,j*5,none⟩ (.int .i64 k) d0)
   have HQ1:=hide ((uH HQ).tail (p:=j*5) (by omega) (.int .i64 k))
   have HG1:=hide ((uH HG).sc g (j*5) (.int .i64 k) (yJ _) (by omega))
   obtain ⟨v1,d1⟩:=(uH HQ1).cell (j:=j*5+1) (by omega)
   have f1:=(uH HQ1).frozen (j*5+1)
   have X1:=hide (World.cell?_setCell_same _ ⟨g,j*5+1,none⟩ (.int .i64 (k+1)) d1)
   have X01:=hide (cellKeep (q:=j*5+1) (v:=.int .i64 (k+1)) (uH X0) (by omega))
   have HQ2:=hide ((uH HQ1).tail (p:=j*5+1) (by omega) (.int .i64 (k+1)))
   have HG2:=hide ((uH HG1).sc g (j*5+1) (.int .i64 (k+1)) (yJ _) (by omega))
   obtain ⟨v2,d2⟩:=(uH HQ2).cell (j:=j*5+2) (by omega)
   have f2:=(uH HQ2).frozen (j*5+2)
   have X2:=hide (World.cell?_setCell_same _ ⟨g,j*5+2,none⟩ (.int .i64 (k+1+1)) d2)
   have X02:=hide (cellKeep (q:=j*5+2) (v:=.int .i64 (k+1+1)) (uH X01) (by omega))
   have X12:=hide (cellKeep (q:=j*5+2) (v:=.int .i64 (k+1+1)) (uH X1) (by omega))
   have HQ3:=hide ((uH HQ2).tail (p:=j*5+2) (by omega) (.int .i64 (k+1+1)))
   have HG3:=hide ((uH HG2).sc g (j*5+2) (.int .i64 (k+1+1)) (yJ _) (by omega))
   clear X0 X1 X01 HQ HG
   go_wp2_with fail
   refine (markText_int (k+1+1+1) _ (by omega) (by omega)).mono ?_
   rintro e w1 ⟨rfl,hb⟩
   have HQ4:=hide ((uH HQ3).below hb)
   have HG4:=hide ((uH HG3).on hb)
   have Y0:=hide (cellBel (uH X02) hb)
   have Y1:=hide (cellBel (uH X12) hb)
   have Y2:=hide (cellBel (uH X2) hb)
   clear hb d0 f0 d1 f1 d2 f2 X2 X02 X12 HQ1 HQ2 HQ3 HG1 HG2 HG3
   obtain ⟨v3,d3⟩:=(uH HQ4).cell (j:=j*5+3) (by omega)
   have f3:=(uH HQ4).frozen (j*5+3)
   have Z0:=hide (cellKeep (q:=j*5+3) (v:=.string (mk (k+1+1+1).toNat)) (uH Y0) (by omega))
   have Z1:=hide (cellKeep (q:=j*5+3) (v:=.string (mk (k+1+1+1).toNat)) (uH Y1) (by omega))
   have Z2:=hide (cellKeep (q:=j*5+3) (v:=.string (mk (k+1+1+1).toNat)) (uH Y2) (by omega))
   have Z3:=hide (World.cell?_setCell_same w1 ⟨g,j*5+3,none⟩ (.string (mk (k+1+1+1).toNat)) d3)
   have HQ5:=hide ((uH HQ4).tail (p:=j*5+3) (by omega) (.string (mk (k+1+1+1).toNat)))
   have HG5:=hide ((uH HG4).sc g (j*5+3) (.string (mk (k+1+1+1).toNat)) (yJ _) (by omega))
   obtain ⟨v4,d4⟩:=(uH HQ5).cell (j:=j*5+4) (by omega)
   have f4:=(uH HQ5).frozen (j*5+4)
   have HN:=hide (show AskBlk _ 198 g c (j+1) (marksA K n) from ((uH HQ5).tail (p:=j*5+4) (by omega) (.int .i64 (k+1+1+1+1))).next (fun hj'=>by
    rw [marksA_at]
    have e1:(k+1+1+1).toNat=K+5*j+1+1+1:=by have:=uH HK;omega
    have e3:=uH HK
    have y0:=cellKeep (q:=j*5+4) (v:=.int .i64 (k+1+1+1+1)) (uH Z0) (by omega)
    have y1:=cellKeep (q:=j*5+4) (v:=.int .i64 (k+1+1+1+1)) (uH Z1) (by omega)
    have y2:=cellKeep (q:=j*5+4) (v:=.int .i64 (k+1+1+1+1)) (uH Z2) (by omega)
    have y3:=cellKeep (q:=j*5+4) (v:=.int .i64 (k+1+1+1+1)) (uH Z3) (by omega)
    have y4:=World.cell?_setCell_same _ ⟨g,j*5+4,none⟩ (.int .i64 (k+1+1+1+1)) d4
    refine ⟨y0.trans ?_,y1.trans ?_,y2.trans ?_,y3.trans ?_,y4.trans ?_⟩
    ·rw [e3];rfl
    ·rw [e3];rfl
    ·rw [e3];rfl
    ·rw [e1];rfl
    ·rw [e3];rfl))
   have HG6:=hide ((uH HG5).sc g (j*5+4) (.int .i64 (k+1+1+1+1)) (yJ _) (by omega))
   clear HQ4 HG4 HG5 Y0 Y1 Y2 Z0 Z1 Z2 Z3
   go_wp2
   go_roundw
   case rel=>exact ⟨j+1,k+1+1+1+1+1,by omega,by go_num,by go_num,by have:=uH HK;omega,HN,HG6⟩
   case measure=>simp [intOf];omega
  ·have hjn:j=n:=by omega
   subst hjn
   go_wp2
   go_ret
   exact ⟨ret_int (by omega),(uH HQ).rowOf (by rw [marksA_len]),uH HG⟩
def AskOne (w0:World) (b p:Nat) (q:Ask) (w:World):Prop:=AskAt w b p q∧Below w0.heap.size w0 w
theorem AskOne.call {w0 w w':World} {b p:Nat} {q:Ask} (h:AskOne w0 b p q w) (hb:Below w.heap.size w w'):AskOne w0 b p q w':=⟨h.1.below hb,yB h.2 hb⟩
theorem AskOne.drew {w0 w:World} {b p:Nat} {q:Ask} (h:AskOne w0 b p q w):AskOne w0 b p q w.drew:=h.call (yH _ _).drew
theorem AskOne.read (w0:World) (b p:Nat) (q:Ask):∀wx,AskOne w0 b p q wx→wx.cell? ⟨b,p,none⟩=some (.int .i64 q.mem)∧wx.cell? ⟨b,p+1,none⟩=some (.int .i64 q.cpu)∧wx.cell? ⟨b,p+2,none⟩=some (.int .i64 q.count)∧wx.cell? ⟨b,p+3,none⟩=some (.string (bs q.node))∧wx.cell? ⟨b,p+4,none⟩=some (.int .i64 q.missed):=
 fun wx h=>h.1
abbrev ccell (q:Con):List Value:=[.int .i64 q.id,.int .i64 q.app,.string (bs q.node),.int .i64 q.mem,.int .i64 q.cpu]
def ccells:List Con→List Value
 | []=>[]
 | q::t=>ccell q++ccells t
theorem ccells_len:∀l:List Con,(ccells l).length=l.length*5
 | []=>rfl
 | q::t=>by rw [ccells,List.length_append,ccells_len t];simp;omega
theorem ccells_at:∀(l:List Con) (i:Nat) (h:i<l.length),(ccells l)[i*5]? = some (.int .i64 l[i].id)∧(ccells l)[i*5+1]? = some (.int .i64 l[i].app)∧(ccells l)[i*5+2]? = some (.string (bs l[i].node))∧(ccells l)[i*5+3]? = some (.int .i64 l[i].mem)∧(ccells l)[i*5+4]? = some (.int .i64 l[i].cpu)
 | q::t,0,_=>⟨rfl,rfl,rfl,rfl,rfl⟩
 | q::t,i+1,h=>by
  have e:=ccells_at t i (by simpa using h)
  have k:∀j,(ccells (q::t))[(i+1)*5+j]? = (ccells t)[i*5+j]?:=fun j=>by
   rw [ccells,show (i+1)*5+j=(ccell q).length+(i*5+j) by simp;omega,List.getElem?_append_right (by omega)]
   congr 1
   omega
  have k0:=k 0
  simp only [Nat.add_zero] at k0
  rw [k0,k 1,k 2,k 3,k 4]
  simpa using e
theorem ccells_row {w:World} {b off len:Nat} {l:List Con} (h:ConRow w (some ⟨b,off,none⟩) len l):∀j u,(ccells l)[j]? = some u→w.cell? ⟨b,off+j,none⟩=some u:=fun j u hj=>by
 have hjl:j<l.length*5:=by rw [←ccells_len];exact (List.getElem?_eq_some_iff.1 hj).1
 obtain ⟨h1,h2⟩:=h
 rcases h2 with h2 | ⟨b',off',e,h4⟩
 ·omega
 ·cases e
  have hi:j / 5<l.length:=by omega
  obtain ⟨a0,a1,a2,a3,a4⟩:=ccells_at l (j / 5) hi
  obtain ⟨c0,c1,c2,c3,c4⟩:=h4 (j / 5) hi
  rcases (show j % 5=0∨j % 5=1∨j % 5=2∨j % 5=3∨j % 5=4 by omega) with e | e | e | e | e
  ·rw [show j=j / 5*5 by omega] at hj ⊢;rw [a0] at hj;cases hj;exact c0
  ·rw [show j=j / 5*5+1 by omega] at hj ⊢;rw [a1] at hj;cases hj;rw [←Nat.add_assoc];exact c1
  ·rw [show j=j / 5*5+2 by omega] at hj ⊢;rw [a2] at hj;cases hj;rw [←Nat.add_assoc];exact c2
  ·rw [show j=j / 5*5+3 by omega] at hj ⊢;rw [a3] at hj;cases hj;rw [←Nat.add_assoc];exact c3
  ·rw [show j=j / 5*5+4 by omega] at hj ⊢;rw [a4] at hj;cases hj;rw [←Nat.add_assoc];exact c4
theorem ccells_one:∀(l:List Con),∀u ∈ ccells l,u.oneCell'=true
 | [],u,h=>by simp [ccells] at h
 | q::t,u,h=>by
  rw [ccells,List.mem_append] at h
  rcases h with h | h
  ·simp at h
   rcases h with rfl | rfl | rfl | rfl | rfl<;>rfl
  ·exact ccells_one t u h
def COwn (B:Nat) (w:World) (v:Value) (l:List Con):Prop:=w.ownsRow B 74 5 v l.length (ccells l)
theorem cown_row {w:World} {B:Nat} {v:Value} {l:List Con} (h:COwn B w v l):∃ao cap,v=.slice ao l.length cap∧ConRow w ao l.length l∧l.length≤cap∧(l≠[]→∃g cur,ao=some ⟨g,0,none⟩∧B≤g∧w.heap[g]? = some (.cells cur 74 (0,0))∧cur.size=cap*5):=by
 rcases h.2 with ⟨rfl,h0⟩ | ⟨g,cap,cur,rfl,h1,h2,h3,h4,h5,h6⟩
 ·exact ⟨none,0,by rw [h0],⟨rfl,.inl h0⟩,by omega,fun hn=>absurd (List.length_eq_zero_iff.1 h0) hn⟩
 ·refine ⟨some ⟨g,0,none⟩,cap,rfl,⟨rfl,.inr ⟨g,0,rfl,fun i hi=>?_⟩⟩,h3,fun _=>⟨g,cur,rfl,h1,h2,h5⟩⟩
  obtain ⟨a,b,c,d,e⟩:=ccells_at l i hi
  have k:∀j (v:Value),j<l.length*5→(ccells l)[j]? = some v→w.cell? ⟨g,j,none⟩=some v:=fun j v hj hv=>by
   rw [←h6,List.getElem?_take_of_lt hj] at hv
   simp [World.cell?,h2]
   simpa using hv
  unfold ConAt
  rw [Nat.zero_add]
  exact ⟨k _ _ (by omega) a,k _ _ (by omega) b,k _ _ (by omega) c,k _ _ (by omega) d,k _ _ (by omega) e⟩
theorem Tryz.infoCont:(Tryz.prog.info? 74).map (fun i=>(i.zero,i.size,i.bytes))=some (some (.agg #[.int .i64 0,.int .i64 0,.string ByteArray.empty,.int .i64 0,.int .i64 0]),5,48):=by kernel_rfl
theorem ids_step {l:List Con} {k:Nat} (h:k<l.length):((l.take (k+1)).map (·.id))=(l.take k).map (·.id)++[l[k].id]:=by
 rw [List.take_succ_eq_append_getElem h,List.map_append]
 rfl
theorem iown_nil (B:Nat) (w:World):IOwn B w (.slice none 0 0) []:=⟨rfl,.inl ⟨rfl,rfl⟩⟩
theorem iown_base {B B':Nat} {w:World} {v:Value} {l:List Int} (h:IOwn B w v l) (hb:B'≤B):IOwn B' w v l:=⟨h.1,h.2.imp id (fun ⟨g,cap,cur,h1,h2,h3⟩=>⟨g,cap,cur,h1,Nat.le_trans hb h2,h3⟩)⟩
theorem iown_step {w wr w1:World} {B:Nat} {v v':Value} {l:List Int} {q:Int} {ob:Obj} (hb:Below B w wr) (hown:IOwn B wr v l)
  (h1:w1.ownsRow B 3 1 v' (l.length+1) (icells l++[.int .i64 q])) (hg:(wr.alloc ob).grownBy w1 v.ownBlock) (hB:B≤wr.heap.size) :
  IOwn B w1 v' (l++[q])∧Below B w w1:=by
 refine ⟨?_,(hb.alloc hB ob).grown hg (by simp;omega) ?_⟩
 ·unfold IOwn
  rw [List.length_append,icells,List.map_append]
  exact h1
 ·intro k hk
  rcases hown.2 with ⟨rfl,_⟩ | ⟨g,cap,cur,rfl,hg',_⟩
  ·simp [Value.ownBlock] at hk
  ·simp [Value.ownBlock] at hk;omega
theorem idsOf_any (ao:Option Addr) (len cap:Nat) (l:List Con) (w:World) (h:ConRow w ao len l) (hl:len≤1048576) :
  Calls Tryz.prog 31 #[.slice ao len cap] w fun e w'=>∃v,e=.returned v∧Hid (IOwn w.heap.size w' v (l.map (·.id))∧Below w.heap.size w w'):=by
 obtain ⟨i0,hi,hz0,hz1,hz2⟩:=info_parts Tryz.infoI
 have HR:=hide h
 have HL:=hide h.1
 clear h
 go_enter Tryz.func31,Tryz.ntmps31
 go_wp2
 go_loopw [3,8] (fun v i wr=>∃(k:Nat),k≤len∧i=.int .i64 k∧Hid (IOwn w.heap.size wr v ((l.take k).map (·.id)))∧Hid (Below w.heap.size w wr)) (fun _ i _=>len - (intOf i).toNat)
 case atStart=>exact ⟨0,Nat.zero_le _,rfl,hide (by simpa using iown_nil _ _),hide (yH _ _)⟩
 case round=>
  obtain ⟨k,hk,rfl,HO,HB⟩:=hrel
  by_cases hlt:k<len
  ·obtain ⟨b,off,rfl,hq⟩:=((uH HR).below (uH HB)).at hlt
   have hkl:k<l.length:=by have:=uH HL;omega
   have hst:=ids_step hkl
   obtain ⟨c0,c1,c2,c3,c4⟩:=hq hkl
   obtain ⟨m,hs⟩:∃q,l[k]=q:=⟨_,rfl⟩
   rw [hs] at c0 c1 c2 c3 c4 hst
   have hal:((l.take k).map (·.id)).length≤1048576:=by have:=uH HL;simp;omega
   obtain ⟨acc,hacc⟩:∃a,(l.take k).map (·.id)=a:=⟨_,rfl⟩
   rw [hacc] at hst hal HO
   obtain ⟨id,ap,nd,me,cp⟩:=m
   simp only at c0 c1 c2 c3 c4 hst
   have HST:=hide hst
   have hx:=yA (yH _ wr) (.cells #[.int .i64 id,.int .i64 ap,.string (bs nd),.int .i64 me,.int .i64 cp] 74)
   have HB1:=hide (yB (uH HB) hx)
   have HO1:=hide (iown_below (uH HO) hx)
   have q0:=(yD wr #[.int .i64 id,.int .i64 ap,.string (bs nd),.int .i64 me,.int .i64 cp] 74).at 0
   simp at q0
   have hw1:w.heap.size≤(wr.alloc (.cells #[.int .i64 id,.int .i64 ap,.string (bs nd),.int .i64 me,.int .i64 cp] 74)).heap.size:=(uH HB1).size
   have hown:(wr.alloc (.cells #[.int .i64 id,.int .i64 ap,.string (bs nd),.int .i64 me,.int .i64 cp] 74)).ownsRow w.heap.size 3 1 _ acc.length (icells acc):=uH HO1
   clear hq hs hkl hacc hst HO HB hx
   go_wp2_with (at_builtin;refine wpList_append_own _ rfl _ _ 35 rfl w.heap.size 3 i0 (.int .i64 0) 1 8 Tryz.underlying35 hi hz0 hz1 hz2 rfl (by decide) _ _ _ rfl (hown.alloc _) ⟨wr.heap.size+1,0,none⟩ 1 1 [.int .i64 id] (by first | rfl | simp) rfl ?c1 ?c2 ?c3 ?c4 ?c5 ?_)
   case c1=>
    have:=World.news_of_block (yD (wr.alloc (.cells #[.int .i64 id,.int .i64 ap,.string (bs nd),.int .i64 me,.int .i64 cp] 74)) #[.int .i64 id] 3)
    rw [yE] at this
    exact this
   case c2=>intro u hu;simp at hu;subst hu;rfl
   case c3=>unfold maxLen;omega
   case c4=>omega
   case c5=>have:=hw1;simp only [yE] at this ⊢;omega
   intro v' w3 hown' hgrow _
   have R:=hide (iown_step (q:=id) (uH HB1) (uH HO1) hown' hgrow hw1)
   clear hown' hgrow hown q0 c0 c1 c2 c3 c4
   go_wp2
   go_roundw
   case rel=>exact ⟨k+1,by omega,by go_num,hide (by rw [uH HST];exact (uH R).1),hide (uH R).2⟩
   case measure=>simp [intOf];omega
  ·have htk:l.take k=l:=List.take_of_length_le (by have:=uH HL;omega)
   rw [htk] at HO
   go_wp2
   go_ret
   exact ⟨_,rfl,hide ⟨uH HO,uH HB⟩⟩
end
end Go.Proofs.YtmkedfdnokmglaaGreat
