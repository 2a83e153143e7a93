/-
  Texts in one: MarkFC, MarkAM, MarkA, MarkP, MarkH, HeldQ, MarkZ.
-/
import Derived.Test.YtdhibeclkdepiaaGreatPackS
set_option maxRecDepth 100000
set_option maxHeartbeats 16000000
set_option linter.unusedVariables false
set_option linter.unusedSimpArgs false
namespace Go.Proofs.YtdhibeclkdepiaaGreat
section
open Go.RowKit
def markC (k j:Nat):Con:=⟨(k:Int)+5*(j:Int),(k:Int)+5*(j:Int)+1,109::dgs (k+5*j+1+1),(k:Int)+5*(j:Int)+1+1+1,(k:Int)+5*(j:Int)+1+1+1+1⟩
def marksC (k n:Nat):List Con:=(List.range n).map (markC k)
theorem marksC_len (k n:Nat):(marksC k n).length=n:=by simp [marksC]
theorem marksC_at (k n j:Nat) (h:j<(marksC k n).length):(marksC k n)[j]=markC k j:=by simp [marksC]
theorem ConBlk.tail {w:World} {t:TypeId} {g n k:Nat} {l:List Con} (h:ConBlk w t g n k l) {p:Nat} (hp:k*5≤p) (v:Value):ConBlk (w.setCell ⟨g,p,none⟩ v) t g n k l:=by
 obtain ⟨arr,h1,h2,h3⟩:=h
 refine ⟨_,heap_setCell_same w g p _ _ v h1,by simp [h2],fun i hi hik=>?_⟩
 obtain ⟨a,b,c,d,e⟩:=h3 i hi hik
 refine ⟨?_,?_,?_,?_,?_⟩
 ·rw [←a,Array.getElem?_setIfInBounds,if_neg (by omega)]
 ·rw [←b,Array.getElem?_setIfInBounds,if_neg (by omega)]
 ·rw [←c,Array.getElem?_setIfInBounds,if_neg (by omega)]
 ·rw [←d,Array.getElem?_setIfInBounds,if_neg (by omega)]
 ·rw [←e,Array.getElem?_setIfInBounds,if_neg (by omega)]
theorem ConBlk.next {w:World} {t:TypeId} {g n k:Nat} {l:List Con} (h:ConBlk w t g n k l) (c:∀hk:k<l.length,ConAt w g (k*5) l[k]):ConBlk w t g n (k+1) l:=by
 obtain ⟨arr,h1,h2,h3⟩:=h
 refine ⟨arr,h1,h2,fun i hi hik=>?_⟩
 by_cases e:i=k
 ·subst e
  obtain ⟨c0,c1,c2,c3,c4⟩:=c hi
  simp [World.cell?,h1] at c0 c1 c2 c3 c4
  exact ⟨c0,c1,c2,c3,c4⟩
 ·exact h3 i hi (by omega)
theorem ConBlk.rowOf {w:World} {t:TypeId} {g c n:Nat} {l:List Con} (h:ConBlk w t g c n l) (hl:n=l.length):ConRow w (some ⟨g,0,none⟩) n l:=by
 obtain ⟨arr,h1,h2,h3⟩:=h
 refine ⟨hl,.inr ⟨g,0,rfl,fun i hi=>?_⟩⟩
 obtain ⟨a,b,c,d,e⟩:=h3 i hi (by omega)
 unfold ConAt
 simp only [Nat.zero_add]
 exact ⟨by simp [World.cell?,h1,a],by simp [World.cell?,h1,b],by simp [World.cell?,h1,c],by simp [World.cell?,h1,d],by simp [World.cell?,h1,e]⟩
theorem cellKeepC {w:World} {g p q:Nat} {u v:Value} (h:w.cell? ⟨g,p,none⟩=some u) (hne:q≠p):(w.setCell ⟨g,q,none⟩ v).cell? ⟨g,p,none⟩=some u:=
 (World.cell?_setCell_other _ _ _ _ (fun e=>hne (congrArg Addr.off e))).trans h
theorem cellBelC {w w':World} {g p:Nat} {u:Value} (h:w.cell? ⟨g,p,none⟩=some u) (hb:Below w.heap.size w w'):w'.cell? ⟨g,p,none⟩=some u:=(hb.cell (yG h)).trans h
theorem markContS_full (g n c K:Nat) {d:Nat} (w:World) (h:Cel w 38 g (c*5)) (hc:n≤c) (hn:n≤1048576) (h0:0<K) (h1:K≤1000000000000000) :
  Calls Tryz.prog 16 #[.slice (some ⟨g,0,none⟩) n d,.int .i64 (K:Int)] w fun e w'=>e=.returned (.int .i64 ((K:Int)+5*(n:Int)))∧ConRow w' (some ⟨g,0,none⟩) n (marksC K n)∧Mkd g (g+1) w w':=by
 have HQ0:=hide (show ConBlk w 38 g c 0 (marksC K n) by obtain ⟨arr,h1,h2⟩:=h;exact ⟨arr,h1,h2,fun i _ h=>absurd h (by omega)⟩)
 clear h
 go_enter Tryz.func16,Tryz.ntmps16
 go_wp2
 go_loopw [1,5] (fun s i wr=>∃(j:Nat) (k:Int),j≤n∧i=.int .i64 j∧s=.int .i64 k∧k=(K:Int)+5*(j:Int)∧Hid (ConBlk wr 38 g c j (marksC K n))∧Hid (Mkd g (g+1) w wr)) (fun _ i _=>n - (intOf i).toNat)
 case atStart=>exact ⟨0,K,Nat.zero_le _,rfl,rfl,by omega,HQ0,hide (Mkd.refl _ _ _)⟩
 case round=>
  obtain ⟨j,k,hj,rfl,rfl,hk,HQ,HG⟩:=hrel
  by_cases hlt:j<n
  ·have HK:=hide hk
   have hk0:0<k:=by omega
   have hk1:k≤1000000010000000:=by omega
   clear hk
   obtain ⟨v0,d0⟩:=(uH HQ).cell (j:=j*5) (by omega)
   have f0:=(uH HQ).frozen (j*5)
   have X0_1:=hide (World.cell?_setCell_same _ ⟨g,j*5,none⟩ (.int .i64 (k)) d0)
   have HQ1:=hide ((uH HQ).tail (p:=j*5) (by omega) (.int .i64 (k)))
   have HG1:=hide ((uH HG).sc g (j*5) (.int .i64 (k)) (Nat.le_refl _) (by omega))
   obtain ⟨v1,d1⟩:=(uH HQ1).cell (j:=j*5+1) (by omega)
   have f1:=(uH HQ1).frozen (j*5+1)
   have X0_2:=hide (cellKeepC (q:=j*5+1) (v:=.int .i64 (k+1)) (uH X0_1) (by omega))
   have X1_3:=hide (World.cell?_setCell_same _ ⟨g,j*5+1,none⟩ (.int .i64 (k+1)) d1)
   have HQ2:=hide ((uH HQ1).tail (p:=j*5+1) (by omega) (.int .i64 (k+1)))
   have HG2:=hide ((uH HG1).sc g (j*5+1) (.int .i64 (k+1)) (Nat.le_refl _) (by omega))
   clear HQ HG X0_1 HQ1 HG1
   go_wp2_with fail
   refine (markText_int (k+1+1) _ (by omega) (by omega)).mono ?_
   rintro e w1 ⟨rfl,hb⟩
   have HQt:=hide ((uH HQ2).below hb)
   have HGt:=hide ((uH HG2).on hb)
   have Y0:=hide (cellBelC (uH X0_2) hb)
   have Y1:=hide (cellBelC (uH X1_3) hb)
   clear HQ2 HG2 X0_2 X1_3 hb d0 f0 d1 f1
   obtain ⟨v2,d2⟩:=(uH HQt).cell (j:=j*5+2) (by omega)
   have f2:=(uH HQt).frozen (j*5+2)
   have Z0_4:=hide (cellKeepC (q:=j*5+2) (v:=.string (mk (k+1+1).toNat)) (uH Y0) (by omega))
   have Z1_5:=hide (cellKeepC (q:=j*5+2) (v:=.string (mk (k+1+1).toNat)) (uH Y1) (by omega))
   have Z2_6:=hide (World.cell?_setCell_same _ ⟨g,j*5+2,none⟩ (.string (mk (k+1+1).toNat)) d2)
   have HQ3z:=hide ((uH HQt).tail (p:=j*5+2) (by omega) (.string (mk (k+1+1).toNat)))
   have HG3z:=hide ((uH HGt).sc g (j*5+2) (.string (mk (k+1+1).toNat)) (Nat.le_refl _) (by omega))
   obtain ⟨v3,d3⟩:=(uH HQ3z).cell (j:=j*5+3) (by omega)
   have f3:=(uH HQ3z).frozen (j*5+3)
   have Z0_7:=hide (cellKeepC (q:=j*5+3) (v:=.int .i64 (k+1+1+1)) (uH Z0_4) (by omega))
   have Z1_8:=hide (cellKeepC (q:=j*5+3) (v:=.int .i64 (k+1+1+1)) (uH Z1_5) (by omega))
   have Z2_9:=hide (cellKeepC (q:=j*5+3) (v:=.int .i64 (k+1+1+1)) (uH Z2_6) (by omega))
   have Z3_10:=hide (World.cell?_setCell_same _ ⟨g,j*5+3,none⟩ (.int .i64 (k+1+1+1)) d3)
   have HQ4z:=hide ((uH HQ3z).tail (p:=j*5+3) (by omega) (.int .i64 (k+1+1+1)))
   have HG4z:=hide ((uH HG3z).sc g (j*5+3) (.int .i64 (k+1+1+1)) (Nat.le_refl _) (by omega))
   obtain ⟨v4,d4⟩:=(uH HQ4z).cell (j:=j*5+4) (by omega)
   have f4:=(uH HQ4z).frozen (j*5+4)
   have HN:=hide (show ConBlk _ 38 g c (j+1) (marksC K n) from ((uH HQ4z).tail (p:=j*5+4) (by omega) (.int .i64 (k+1+1+1+1))).next (fun hj'=>by
    rw [marksC_at]
    have e1:(k+1+1).toNat=K+5*j+1+1:=by have:=uH HK;omega
    have e3:=uH HK
    have y0:=cellKeepC (q:=j*5+4) (v:=.int .i64 (k+1+1+1+1)) (uH Z0_7) (by omega)
    have y1:=cellKeepC (q:=j*5+4) (v:=.int .i64 (k+1+1+1+1)) (uH Z1_8) (by omega)
    have y2:=cellKeepC (q:=j*5+4) (v:=.int .i64 (k+1+1+1+1)) (uH Z2_9) (by omega)
    have y3:=cellKeepC (q:=j*5+4) (v:=.int .i64 (k+1+1+1+1)) (uH Z3_10) (by omega)
    have y4:=World.cell?_setCell_same _ ⟨g,j*5+4,none⟩ (.int .i64 (k+1+1+1+1)) d4
    refine ⟨y0.trans ?_,y1.trans ?_,y2.trans ?_,y3.trans ?_,y4.trans ?_⟩
    ·rw [e3];rfl
    ·rw [e3];rfl
    ·rw [e1];rfl
    ·rw [e3];rfl
    ·rw [e3];rfl))
   have HGn:=hide ((uH HG4z).sc g (j*5+4) (.int .i64 (k+1+1+1+1)) (Nat.le_refl _) (by omega))
   clear Y0 Y1 HQt HGt Z0_4 Z1_5 Z2_6 HQ3z HG3z HG4z Z0_7 Z1_8 Z2_9 Z3_10
   go_wp2
   go_roundw
   case rel=>exact ⟨j+1,k+1+1+1+1+1,by omega,by go_num,by go_num,by have:=uH HK;omega,HN,HGn⟩
   case measure=>simp [intOf];omega
  ·have hjn:j=n:=by omega
   subst hjn
   go_wp2
   go_ret
   exact ⟨ret_int (by omega),(uH HQ).rowOf (by rw [marksC_len]),uH HG⟩
def ConOne (w0:World) (b p:Nat) (q:Con) (w:World):Prop:=ConAt w b p q∧Below w0.heap.size w0 w
theorem ConOne.call {w0 w w':World} {b p:Nat} {q:Con} (h:ConOne w0 b p q w) (hb:Below w.heap.size w w'):ConOne w0 b p q w':=⟨h.1.below hb,yB h.2 hb⟩
theorem ConOne.drew {w0 w:World} {b p:Nat} {q:Con} (h:ConOne w0 b p q w):ConOne w0 b p q w.drew:=h.call (Below.refl _ _).drew
theorem ConOne.read (w0:World) (b p:Nat) (q:Con):∀wx,ConOne w0 b p q wx→wx.cell? ⟨b,p,none⟩=some (.int .i64 q.id)∧wx.cell? ⟨b,p+1,none⟩=some (.int .i64 q.app)∧wx.cell? ⟨b,p+2,none⟩=some (.string (bs q.node))∧wx.cell? ⟨b,p+3,none⟩=some (.int .i64 q.mem)∧wx.cell? ⟨b,p+4,none⟩=some (.int .i64 q.cpu):=fun wx h=>h.1
theorem heldContS_any (ao:Option Addr) (n c K:Nat) (w:World) (h:ConRow w ao n (marksC K n)) (hn:n≤1048576) (h0:0<K) (h1:K≤1000000000000000) :
  Calls Tryz.prog 17 #[.slice ao n c,.int .i64 (K:Int)] w fun e w'=>e=.returned (.int .i64 ((K:Int)+5*(n:Int)))∧Below w.heap.size w w':=by
 have HR:=hide h
 clear h
 go_enter Tryz.func17,Tryz.ntmps17
 go_wp2
 go_loopw [1,5] (fun s i wr=>∃(j:Nat) (k:Int),j≤n∧i=.int .i64 j∧s=.int .i64 k∧k=(K:Int)+5*(j:Int)∧Hid (Below w.heap.size w wr)) (fun _ i _=>n - (intOf i).toNat)
 case atStart=>exact ⟨0,K,Nat.zero_le _,rfl,rfl,by omega,hide (Below.refl _ _)⟩
 case round=>
  obtain ⟨j,k,hj,rfl,rfl,hk,HB⟩:=hrel
  by_cases hlt:j<n
  ·obtain ⟨b,off,rfl,hq⟩:=((uH HR).below (uH HB)).at hlt
   have hqq:=hq (by rw [marksC_len];exact hlt)
   rw [marksC_at] at hqq
   have T0:∀wx,Calls Tryz.prog 47 #[.int .i64 (k+1+1)] wx fun e w'=>e=.returned (.string (bs (markC K j).node))∧Below wx.heap.size wx w':=fun wx=>by
    have:=markText_int (k+1+1) wx (by omega) (by omega)
    rw [show (k+1+1).toNat=K+5*j+1+1 by omega] at this
    exact this
   have h_0:(markC K j).id=k:=by rw [hk];rfl
   have h_1:(markC K j).app=k+1:=by rw [hk];rfl
   have h_3:(markC K j).mem=k+1+1+1:=by rw [hk];rfl
   have h_4:(markC K j).cpu=k+1+1+1+1:=by rw [hk];rfl
   obtain ⟨q,hqe⟩:∃q,markC K j=q:=⟨_,rfl⟩
   rw [hqe] at hqq T0 h_0 h_1 h_3 h_4
   have A0:=hide (show ConOne w b (off+j*5) q wr from ⟨hqq,uH HB⟩)
   have C0:=hide T0
   have HK:=hide hk
   have H_0:=hide h_0
   have H_1:=hide h_1
   have H_3:=hide h_3
   have H_4:=hide h_4
   have R:=ConOne.read w b (off+j*5) q
   have R':=hide R
   obtain ⟨r0,r1,_,_,_⟩:=R _ (uH A0)
   rw [h_0] at r0
   rw [h_1] at r1
   have j0:(0:Int)≤j:=by omega
   have j1:(j:Int)<n:=by omega
   have hk0:0<k:=by omega
   have hk1:k≤1000000010000000:=by omega
   have hw1:IntKind.i64.wrap (k+1)=k+1:=by rw [IntKind.wrap_i64];omega
   have hw2:IntKind.i64.wrap (k+1+1)=k+1+1:=by rw [IntKind.wrap_i64];omega
   clear hq hqq T0 hqe hk h_0 h_1 h_3 h_4 R
   go_wp2_with fail
   have R:=uH R'
   clear r0 r1
   go_region_held3 (fun wx=>ConOne w b (off+j*5) q wx)
    (first | (with_reducible assumption) | exact (uH A0).drew | exact ConOne.call (by assumption) (by assumption))
    (first
    | (go_at_call 47;refine (uH C0 _).mono ?_;rintro e wt ⟨rfl,hb⟩;have SA:=ConOne.call (w0:=w) (b:=b) (p:=off+j*5) (q:=q) (by assumption) hb))
   obtain ⟨_,_,_,r3,r4⟩:=R _ SA
   rw [uH H_3] at r3
   rw [uH H_4] at r4
   have HB2:=hide SA.2
   clear SA A0 R C0 R'
   go_wp2
   go_roundw
   case rel=>exact ⟨j+1,k+1+1+1+1+1,by omega,by go_num,by go_num,by have:=uH HK;omega,HB2⟩
   case measure=>simp [intOf];omega
  ·have hjn:j=n:=by omega
   subst hjn
   go_wp2
   go_ret
   exact ⟨ret_int (by omega),uH HB⟩
def markA (k j:Nat):Ask:=⟨(k:Int)+5*(j:Int),(k:Int)+5*(j:Int)+1,(k:Int)+5*(j:Int)+1+1,109::dgs (k+5*j+1+1+1),(k:Int)+5*(j:Int)+1+1+1+1⟩
def marksA (k n:Nat):List Ask:=(List.range n).map (markA k)
theorem marksA_len (k n:Nat):(marksA k n).length=n:=by simp [marksA]
theorem marksA_at (k n j:Nat) (h:j<(marksA k n).length):(marksA k n)[j]=markA k j:=by simp [marksA]
theorem AskBlk.tail {w:World} {t:TypeId} {g n k:Nat} {l:List Ask} (h:AskBlk w t g n k l) {p:Nat} (hp:k*5≤p) (v:Value):AskBlk (w.setCell ⟨g,p,none⟩ v) t g n k l:=by
 obtain ⟨arr,h1,h2,h3⟩:=h
 refine ⟨_,heap_setCell_same w g p _ _ v h1,by simp [h2],fun i hi hik=>?_⟩
 obtain ⟨a,b,c,d,e⟩:=h3 i hi hik
 refine ⟨?_,?_,?_,?_,?_⟩
 ·rw [←a,Array.getElem?_setIfInBounds,if_neg (by omega)]
 ·rw [←b,Array.getElem?_setIfInBounds,if_neg (by omega)]
 ·rw [←c,Array.getElem?_setIfInBounds,if_neg (by omega)]
 ·rw [←d,Array.getElem?_setIfInBounds,if_neg (by omega)]
 ·rw [←e,Array.getElem?_setIfInBounds,if_neg (by omega)]
theorem AskBlk.next {w:World} {t:TypeId} {g n k:Nat} {l:List Ask} (h:AskBlk w t g n k l) (c:∀hk:k<l.length,AskAt w g (k*5) l[k]):AskBlk w t g n (k+1) l:=by
 obtain ⟨arr,h1,h2,h3⟩:=h
 refine ⟨arr,h1,h2,fun i hi hik=>?_⟩
 by_cases e:i=k
 ·subst e
  obtain ⟨c0,c1,c2,c3,c4⟩:=c hi
  simp [World.cell?,h1] at c0 c1 c2 c3 c4
  exact ⟨c0,c1,c2,c3,c4⟩
 ·exact h3 i hi (by omega)
theorem AskBlk.rowOf {w:World} {t:TypeId} {g c n:Nat} {l:List Ask} (h:AskBlk w t g c n l) (hl:n=l.length):AskRow w (some ⟨g,0,none⟩) n l:=by
 obtain ⟨arr,h1,h2,h3⟩:=h
 refine ⟨hl,.inr ⟨g,0,rfl,fun i hi=>?_⟩⟩
 obtain ⟨a,b,c,d,e⟩:=h3 i hi (by omega)
 unfold AskAt
 simp only [Nat.zero_add]
 exact ⟨by simp [World.cell?,h1,a],by simp [World.cell?,h1,b],by simp [World.cell?,h1,c],by simp [World.cell?,h1,d],by simp [World.cell?,h1,e]⟩
theorem cellKeep {w:World} {g p q:Nat} {u v:Value} (h:w.cell? ⟨g,p,none⟩=some u) (hne:q≠p):(w.setCell ⟨g,q,none⟩ v).cell? ⟨g,p,none⟩=some u:=
 (World.cell?_setCell_other _ _ _ _ (fun e=>hne (congrArg Addr.off e))).trans h
theorem cellBel {w w':World} {g p:Nat} {u:Value} (h:w.cell? ⟨g,p,none⟩=some u) (hb:Below w.heap.size w w'):w'.cell? ⟨g,p,none⟩=some u:=(hb.cell (yG h)).trans h
theorem markAskS_from (g n c K:Nat) {d:Nat} (w:World) (h:Cel w 77 g (c*5)) (hc:n≤c) (hn:n≤1048576) (h0:0<K) (h1:K≤1000000000000000) :
  Calls Tryz.prog 77 #[.slice (some ⟨g,0,none⟩) n d,.int .i64 (K:Int)] w fun e w'=>e=.returned (.int .i64 ((K:Int)+5*(n:Int)))∧AskRow w' (some ⟨g,0,none⟩) n (marksA K n)∧Mkd g (g+1) w w':=by
 have HQ0:=hide (show AskBlk w 77 g c 0 (marksA K n) by obtain ⟨arr,h1,h2⟩:=h;exact ⟨arr,h1,h2,fun i _ h=>absurd h (by omega)⟩)
 clear h
 go_enter Tryz.func77,Tryz.ntmps77
 go_wp2
 go_loopw [1,5] (fun s i wr=>∃(j:Nat) (k:Int),j≤n∧i=.int .i64 j∧s=.int .i64 k∧k=(K:Int)+5*(j:Int)∧Hid (AskBlk wr 77 g c j (marksA K n))∧Hid (Mkd g (g+1) w wr)) (fun _ i _=>n - (intOf i).toNat)
 case atStart=>exact ⟨0,K,Nat.zero_le _,rfl,rfl,by omega,HQ0,hide (Mkd.refl _ _ _)⟩
 case round=>
  obtain ⟨j,k,hj,rfl,rfl,hk,HQ,HG⟩:=hrel
  by_cases hlt:j<n
  ·have HK:=hide hk
   have hk0:0<k:=by omega
   have hk1:k≤1000000010000000:=by omega
   clear hk
   obtain ⟨v0,d0⟩:=(uH HQ).cell (j:=j*5) (by omega)
   have f0:=(uH HQ).frozen (j*5)
   have X0:=hide (World.cell?_setCell_same wr ⟨g,j*5,none⟩ (.int .i64 k) d0)
   have HQ1:=hide ((uH HQ).tail (p:=j*5) (by omega) (.int .i64 k))
   have HG1:=hide ((uH HG).sc g (j*5) (.int .i64 k) (Nat.le_refl _) (by omega))
   obtain ⟨v1,d1⟩:=(uH HQ1).cell (j:=j*5+1) (by omega)
   have f1:=(uH HQ1).frozen (j*5+1)
   have X1:=hide (World.cell?_setCell_same _ ⟨g,j*5+1,none⟩ (.int .i64 (k+1)) d1)
   have X01:=hide (cellKeep (q:=j*5+1) (v:=.int .i64 (k+1)) (uH X0) (by omega))
   have HQ2:=hide ((uH HQ1).tail (p:=j*5+1) (by omega) (.int .i64 (k+1)))
   have HG2:=hide ((uH HG1).sc g (j*5+1) (.int .i64 (k+1)) (Nat.le_refl _) (by omega))
   obtain ⟨v2,d2⟩:=(uH HQ2).cell (j:=j*5+2) (by omega)
   have f2:=(uH HQ2).frozen (j*5+2)
   have X2:=hide (World.cell?_setCell_same _ ⟨g,j*5+2,none⟩ (.int .i64 (k+1+1)) d2)
   have X02:=hide (cellKeep (q:=j*5+2) (v:=.int .i64 (k+1+1)) (uH X01) (by omega))
   have X12:=hide (cellKeep (q:=j*5+2) (v:=.int .i64 (k+1+1)) (uH X1) (by omega))
   have HQ3:=hide ((uH HQ2).tail (p:=j*5+2) (by omega) (.int .i64 (k+1+1)))
   have HG3:=hide ((uH HG2).sc g (j*5+2) (.int .i64 (k+1+1)) (Nat.le_refl _) (by omega))
   clear X0 X1 X01 HQ HG
   go_wp2_with fail
   refine (markText_int (k+1+1+1) _ (by omega) (by omega)).mono ?_
   rintro e w1 ⟨rfl,hb⟩
   have HQ4:=hide ((uH HQ3).below hb)
   have HG4:=hide ((uH HG3).on hb)
   have Y0:=hide (cellBel (uH X02) hb)
   have Y1:=hide (cellBel (uH X12) hb)
   have Y2:=hide (cellBel (uH X2) hb)
   clear hb d0 f0 d1 f1 d2 f2 X2 X02 X12 HQ1 HQ2 HQ3 HG1 HG2 HG3
   obtain ⟨v3,d3⟩:=(uH HQ4).cell (j:=j*5+3) (by omega)
   have f3:=(uH HQ4).frozen (j*5+3)
   have Z0:=hide (cellKeep (q:=j*5+3) (v:=.string (mk (k+1+1+1).toNat)) (uH Y0) (by omega))
   have Z1:=hide (cellKeep (q:=j*5+3) (v:=.string (mk (k+1+1+1).toNat)) (uH Y1) (by omega))
   have Z2:=hide (cellKeep (q:=j*5+3) (v:=.string (mk (k+1+1+1).toNat)) (uH Y2) (by omega))
   have Z3:=hide (World.cell?_setCell_same w1 ⟨g,j*5+3,none⟩ (.string (mk (k+1+1+1).toNat)) d3)
   have HQ5:=hide ((uH HQ4).tail (p:=j*5+3) (by omega) (.string (mk (k+1+1+1).toNat)))
   have HG5:=hide ((uH HG4).sc g (j*5+3) (.string (mk (k+1+1+1).toNat)) (Nat.le_refl _) (by omega))
   obtain ⟨v4,d4⟩:=(uH HQ5).cell (j:=j*5+4) (by omega)
   have f4:=(uH HQ5).frozen (j*5+4)
   have HN:=hide (show AskBlk _ 77 g c (j+1) (marksA K n) from ((uH HQ5).tail (p:=j*5+4) (by omega) (.int .i64 (k+1+1+1+1))).next (fun hj'=>by
    rw [marksA_at]
    have e1:(k+1+1+1).toNat=K+5*j+1+1+1:=by have:=uH HK;omega
    have e3:=uH HK
    have y0:=cellKeep (q:=j*5+4) (v:=.int .i64 (k+1+1+1+1)) (uH Z0) (by omega)
    have y1:=cellKeep (q:=j*5+4) (v:=.int .i64 (k+1+1+1+1)) (uH Z1) (by omega)
    have y2:=cellKeep (q:=j*5+4) (v:=.int .i64 (k+1+1+1+1)) (uH Z2) (by omega)
    have y3:=cellKeep (q:=j*5+4) (v:=.int .i64 (k+1+1+1+1)) (uH Z3) (by omega)
    have y4:=World.cell?_setCell_same _ ⟨g,j*5+4,none⟩ (.int .i64 (k+1+1+1+1)) d4
    refine ⟨y0.trans ?_,y1.trans ?_,y2.trans ?_,y3.trans ?_,y4.trans ?_⟩
    ·rw [e3];rfl
    ·rw [e3];rfl
    ·rw [e3];rfl
    ·rw [e1];rfl
    ·rw [e3];rfl))
   have HG6:=hide ((uH HG5).sc g (j*5+4) (.int .i64 (k+1+1+1+1)) (Nat.le_refl _) (by omega))
   clear HQ4 HG4 HG5 Y0 Y1 Y2 Z0 Z1 Z2 Z3
   go_wp2
   go_roundw
   case rel=>exact ⟨j+1,k+1+1+1+1+1,by omega,by go_num,by go_num,by have:=uH HK;omega,HN,HG6⟩
   case measure=>simp [intOf];omega
  ·have hjn:j=n:=by omega
   subst hjn
   go_wp2
   go_ret
   exact ⟨ret_int (by omega),(uH HQ).rowOf (by rw [marksA_len]),uH HG⟩
def AskOne (w0:World) (b p:Nat) (q:Ask) (w:World):Prop:=AskAt w b p q∧Below w0.heap.size w0 w
theorem AskOne.call {w0 w w':World} {b p:Nat} {q:Ask} (h:AskOne w0 b p q w) (hb:Below w.heap.size w w'):AskOne w0 b p q w':=⟨h.1.below hb,yB h.2 hb⟩
theorem AskOne.drew {w0 w:World} {b p:Nat} {q:Ask} (h:AskOne w0 b p q w):AskOne w0 b p q w.drew:=h.call (Below.refl _ _).drew
theorem AskOne.read (w0:World) (b p:Nat) (q:Ask):∀wx,AskOne w0 b p q wx→wx.cell? ⟨b,p,none⟩=some (.int .i64 q.mem)∧wx.cell? ⟨b,p+1,none⟩=some (.int .i64 q.cpu)∧wx.cell? ⟨b,p+2,none⟩=some (.int .i64 q.count)∧wx.cell? ⟨b,p+3,none⟩=some (.string (bs q.node))∧wx.cell? ⟨b,p+4,none⟩=some (.int .i64 q.missed):=
 fun wx h=>h.1
theorem heldAskS_any (ao:Option Addr) (n c K:Nat) (w:World) (h:AskRow w ao n (marksA K n)) (hn:n≤1048576) (h0:0<K) (h1:K≤1000000000000000) :
  Calls Tryz.prog 78 #[.slice ao n c,.int .i64 (K:Int)] w fun e w'=>e=.returned (.int .i64 ((K:Int)+5*(n:Int)))∧Below w.heap.size w w':=by
 have HR:=hide h
 clear h
 go_enter Tryz.func78,Tryz.ntmps78
 go_wp2
 go_loopw [1,5] (fun s i wr=>∃(j:Nat) (k:Int),j≤n∧i=.int .i64 j∧s=.int .i64 k∧k=(K:Int)+5*(j:Int)∧Hid (Below w.heap.size w wr)) (fun _ i _=>n - (intOf i).toNat)
 case atStart=>exact ⟨0,K,Nat.zero_le _,rfl,rfl,by omega,hide (Below.refl _ _)⟩
 case round=>
  obtain ⟨j,k,hj,rfl,rfl,hk,HB⟩:=hrel
  by_cases hlt:j<n
  ·obtain ⟨b,off,rfl,hq⟩:=((uH HR).below (uH HB)).at hlt
   have hqq:=hq (by rw [marksA_len];exact hlt)
   rw [marksA_at] at hqq
   have T0:∀wx,Calls Tryz.prog 47 #[.int .i64 (k+1+1+1)] wx fun e w'=>e=.returned (.string (bs (markA K j).node))∧Below wx.heap.size wx w':=fun wx=>by
    have:=markText_int (k+1+1+1) wx (by omega) (by omega)
    rw [show (k+1+1+1).toNat=K+5*j+1+1+1 by omega] at this
    exact this
   have hd:(markA K j).mem=k:=by rw [hk];rfl
   have hm:(markA K j).cpu=k+1:=by rw [hk];rfl
   have hp:(markA K j).count=k+1+1:=by rw [hk];rfl
   have hr:(markA K j).missed=k+1+1+1+1:=by rw [hk];rfl
   obtain ⟨q,hqe⟩:∃q,markA K j=q:=⟨_,rfl⟩
   rw [hqe] at hqq T0 hd hm hp hr
   have A0:=hide (show AskOne w b (off+j*5) q wr from ⟨hqq,uH HB⟩)
   have C0:=hide T0
   have HK:=hide hk
   have HR4:=hide hr
   have R:=AskOne.read w b (off+j*5) q
   have R':=hide R
   obtain ⟨r0,r1,r2,_,_⟩:=R _ (uH A0)
   rw [hd] at r0
   rw [hm] at r1
   rw [hp] at r2
   have j0:(0:Int)≤j:=by omega
   have j1:(j:Int)<n:=by omega
   have hk0:0<k:=by omega
   have hk1:k≤1000000010000000:=by omega
   have hw1:IntKind.i64.wrap (k+1)=k+1:=by rw [IntKind.wrap_i64];omega
   have hw2:IntKind.i64.wrap (k+1+1)=k+1+1:=by rw [IntKind.wrap_i64];omega
   have hw3:IntKind.i64.wrap (k+1+1+1)=k+1+1+1:=by rw [IntKind.wrap_i64];omega
   clear hq hqq T0 hqe hk hd hm hp hr R
   go_wp2_with fail
   have R:=uH R'
   clear r0 r1 r2
   go_region_held3 (fun wx=>AskOne w b (off+j*5) q wx)
    (first | (with_reducible assumption) | exact (uH A0).drew | exact AskOne.call (by assumption) (by assumption))
    (first
    | (go_at_call 47;refine (uH C0 _).mono ?_;rintro e wt ⟨rfl,hb⟩;have SA:=AskOne.call (w0:=w) (b:=b) (p:=off+j*5) (q:=q) (by assumption) hb))
   obtain ⟨_,_,_,_,r4⟩:=R _ SA
   rw [uH HR4] at r4
   have HB2:=hide SA.2
   clear SA A0 R C0 R'
   go_wp2
   go_roundw
   case rel=>exact ⟨j+1,k+1+1+1+1+1,by omega,by go_num,by go_num,by have:=uH HK;omega,HB2⟩
   case measure=>simp [intOf];omega
  ·have hjn:j=n:=by omega
   subst hjn
   go_wp2
   go_ret
   exact ⟨ret_int (by omega),uH HB⟩
def endM:Nat→List AV→Nat
 | K,[]=>K
 | K,v::t=>endM (K+2+5*v.len) t
def hsM:Nat→List AV→List AV
 | _,[]=>[]
 | K,v::t=>⟨(K:Int),109::dgs (K+1),v.ao,v.len,v.cap⟩::hsM (K+2+5*v.len) t
def AsksM (w:World):Nat→List AV→Prop
 | _,[]=>True
 | K,v::t=>AskRow w v.ao v.len (marksA (K+2) v.len)∧AsksM w (K+2+5*v.len) t
theorem hsM_len:∀(l:List AV) (K:Nat),(hsM K l).length=l.length
 | [],_=>rfl
 | v::t,K=>by simp [hsM,hsM_len t]
theorem AsksM.below {w w':World} (hb:Below w.heap.size w w'):∀(l:List AV) (K:Nat),AsksM w K l→AsksM w' K l
 | [],_,_=>trivial
 | v::t,K,h=>⟨h.1.below hb,AsksM.below hb t _ h.2⟩
theorem endM_ge:∀(l:List AV) (K:Nat),K≤endM K l
 | [],K=>Nat.le_refl _
 | v::t,K=>by have:=endM_ge t (K+2+5*v.len);rw [endM];omega
theorem endM_step:∀(l:List AV) (K j:Nat) (h:j<l.length),endM K (l.take (j+1))=endM K (l.take j)+2+5*l[j].len
 | v::t,K,0,_=>by simp [endM]
 | v::t,K,j+1,h=>by
  have:=endM_step t (K+2+5*v.len) j (by simpa using h)
  simp only [List.take_succ_cons,endM,List.getElem_cons_succ]
  exact this
theorem AsksM_at {w:World}:∀(l:List AV) (K j:Nat) (h:j<l.length),AsksM w K l→AskRow w l[j].ao l[j].len (marksA (endM K (l.take j)+2) l[j].len)
 | v::t,K,0,_,h=>by simpa [endM] using h.1
 | v::t,K,j+1,hj,h=>by
  have:=AsksM_at t (K+2+5*v.len) j (by simpa using hj) h.2
  simpa [endM] using this
theorem hsM_at:∀(l:List AV) (K j:Nat) (h:j<l.length) (h':j<(hsM K l).length),(hsM K l)[j]=⟨(endM K (l.take j):Int),109::dgs (endM K (l.take j)+1),l[j].ao,l[j].len,l[j].cap⟩
 | v::t,K,0,_,_=>by simp [hsM,endM]
 | v::t,K,j+1,h,h'=>by
  have:=hsM_at t (K+2+5*v.len) j (by simpa using h) (by simpa [hsM] using h')
  simp only [hsM,List.getElem_cons_succ,List.take_succ_cons,endM]
  exact this
def AVOne (w0:World) (b p:Nat) (q:AV) (w:World):Prop:=AVAt w b p q∧Below w0.heap.size w0 w
theorem AVOne.call {w0 w w':World} {b p:Nat} {q:AV} (h:AVOne w0 b p q w) (hb:Below w.heap.size w w'):AVOne w0 b p q w':=⟨h.1.below hb,yB h.2 hb⟩
theorem AVOne.drew {w0 w:World} {b p:Nat} {q:AV} (h:AVOne w0 b p q w):AVOne w0 b p q w.drew:=h.call (Below.refl _ _).drew
theorem AVOne.read (w0:World) (b p:Nat) (q:AV):∀wx,AVOne w0 b p q wx→wx.cell? ⟨b,p,none⟩=some (.int .i64 q.id)∧wx.cell? ⟨b,p+1,none⟩=some (.string (bs q.queue))∧wx.cell? ⟨b,p+2,none⟩=some (.slice q.ao q.len q.cap):=fun wx h=>h.1
theorem heldAppS_any (ao:Option Addr) (n c K:Nat) (hs:List AV) (w:World) (h:AVRow w ao n (hsM K hs)) (ha:AsksM w K hs) (hn:n≤1048576) (hk:∀v ∈ hs,v.len≤1048576) (h0:0<K) (h1:endM K hs≤100000000000000) :
  Calls Tryz.prog 39 #[.slice ao n c,.int .i64 (K:Int)] w fun e w'=>e=.returned (.int .i64 (endM K hs:Int))∧Below w.heap.size w w':=by
 have HR:=hide h
 have HA:=hide ha
 have HLN:=hide (show n=hs.length by rw [h.1,hsM_len])
 have HV:=hide hk
 have HE:=hide (show ∀j,endM K (hs.take j)≤endM K hs from fun j=>by
  have:∀(l:List AV) (K j:Nat),endM K (l.take j)≤endM K l:=by
   intro l
   induction l with
   | nil=>intro K j;simp [endM]
   | cons v t ih=>
    intro K j
    cases j with
    | zero=>simp only [List.take_zero,endM];have:=endM_ge t (K+2+5*v.len);omega
    | succ j=>simp only [List.take_succ_cons,endM];exact ih _ _
  exact this hs K j)
 have HG:=hide (fun j=>endM_ge (hs.take j) K)
 clear h ha hk
 go_enter Tryz.func39,Tryz.ntmps39
 go_wp2
 go_loopw [1,5] (fun s i wr=>∃(j:Nat) (k:Nat),j≤n∧i=.int .i64 j∧s=.int .i64 (k:Int)∧Hid (k=endM K (hs.take j))∧Hid (Below w.heap.size w wr)) (fun _ i _=>n - (intOf i).toNat)
 case atStart=>exact ⟨0,K,Nat.zero_le _,rfl,rfl,hide (by simp [endM]),hide (Below.refl _ _)⟩
 case round=>
  obtain ⟨j,k,hj,rfl,rfl,HK,HB⟩:=hrel
  by_cases hlt:j<n
  ·have hjl:j<hs.length:=by have:=uH HLN;omega
   obtain ⟨b,off,rfl,hq⟩:=((uH HR).below (uH HB)).at hlt
   have hqq:=hq (by rw [hsM_len];exact hjl)
   rw [hsM_at hs K j hjl] at hqq
   have hrow:=(AsksM_at hs K j hjl (uH HA)).below (uH HB)
   have hvl:=uH HV _ (List.getElem_mem hjl)
   have hst:=endM_step hs K j hjl
   have hle:=uH HE (j+1)
   have hgk:=uH HG j
   rw [←uH HK] at hqq hrow hst hgk
   obtain ⟨⟨vi,vq,va,vl,vc⟩,hv⟩:∃v,hs[j]=v:=⟨_,rfl⟩
   rw [hv] at hqq hrow hst hvl
   simp only at hqq hrow hst hvl
   rw [hst] at hle
   have HN:=hide (show (k+2+5*vl:Nat)=endM K (hs.take (j+1)) from hst.symm)
   have C0:=hide (show ∀wx,Calls Tryz.prog 47 #[.int .i64 ((k:Int)+1)] wx fun e w'=>e=.returned (.string (bs (109::dgs (k+1))))∧Below wx.heap.size wx w' from fun wx=>by
    have:=markText_int ((k:Int)+1) wx (by omega) (by omega)
    rw [show ((k:Int)+1).toNat=k+1 by omega] at this
    exact this)
   have C1:=hide (fun wx (hb:Below wr.heap.size wr wx)=>by have:=heldAskS_any va vl vc (k+2) wx (hrow.below hb) hvl (by omega) (by omega);rw [show ((k+2:Nat):Int)=(k:Int)+1+1 by omega] at this;exact this)
   have A0:=hide (show AVOne wr b (off+j*3) ⟨(k:Int),109::dgs (k+1),va,vl,vc⟩ wr from ⟨hqq,Below.refl _ _⟩)
   have R:=AVOne.read wr b (off+j*3) ⟨(k:Int),109::dgs (k+1),va,vl,vc⟩
   simp only at R
   have R':=hide R
   obtain ⟨r0,_,_⟩:=R _ (uH A0)
   have j0:(0:Int)≤j:=by omega
   have j1:(j:Int)<n:=by omega
   have hk0:0<k:=by omega
   have hk1:k≤100000000000000:=by omega
   have hw1:IntKind.i64.wrap ((k:Int)+1)=(k:Int)+1:=by rw [IntKind.wrap_i64];omega
   clear hq hqq hrow hst hv hle hgk R hjl
   go_wp2_with fail
   have R:=uH R'
   clear r0
   go_region_held3 (fun wx=>AVOne wr b (off+j*3) ⟨(k:Int),109::dgs (k+1),va,vl,vc⟩ wx)
    (first | (with_reducible assumption) | exact (uH A0).drew | exact AVOne.call (by assumption) (by assumption))
    (first
    | (go_at_call 47;refine (uH C0 _).mono ?_;rintro e wt ⟨rfl,hb⟩;have SA:=AVOne.call (w0:=wr) (b:=b) (p:=off+j*3) (q:=⟨(k:Int),109::dgs (k+1),va,vl,vc⟩) (by assumption) hb))
   obtain ⟨_,_,r2⟩:=R _ SA
   have HS2:=hide SA.2
   clear SA A0 R C0 R'
   go_wp2_with fail
   refine (uH C1 _ (uH HS2)).mono ?_
   rintro e w3 ⟨rfl,hb⟩
   have HB3:=hide (yB (yB (uH HB) (uH HS2)) hb)
   clear hb HS2 C1 r2
   have hkn:¬((k:Int)+1+1+5*(vl:Int))<0:=by omega
   go_wp2
   go_roundw
   case rel=>exact ⟨j+1,k+2+5*vl,by omega,by go_num,by refine congrArg _ ?_;omega,HN,HB3⟩
   case measure=>simp [intOf];omega
  ·have hjn:j=n:=by omega
   have hke:k=endM K hs:=by rw [uH HK,List.take_of_length_le (by have:=uH HLN;omega)]
   have j1:¬(j:Int)<n:=by omega
   go_wp2
   go_ret
   exact ⟨rfl,uH HB⟩
def markQ (j:Nat):Q:=⟨109::dgs (1+4*j),109::dgs (1+4*j+1),1+4*(j:Int)+1+1,1+4*(j:Int)+1+1+1⟩
def marksQ (n:Nat):List Q:=(List.range n).map markQ
theorem marksQ_len (n:Nat):(marksQ n).length=n:=by simp [marksQ]
theorem marksQ_at (n j:Nat) (h:j<(marksQ n).length):(marksQ n)[j]=markQ j:=by simp [marksQ]
theorem QBlk.tail {w:World} {t:TypeId} {g n k:Nat} {l:List Q} (h:QBlk w t g n k l) {p:Nat} (hp:k*4≤p) (v:Value):QBlk (w.setCell ⟨g,p,none⟩ v) t g n k l:=by
 obtain ⟨arr,h1,h2,h3⟩:=h
 refine ⟨_,heap_setCell_same w g p _ _ v h1,by simp [h2],fun i hi hik=>?_⟩
 obtain ⟨a,b,c,d⟩:=h3 i hi hik
 refine ⟨?_,?_,?_,?_⟩
 ·rw [←a,Array.getElem?_setIfInBounds,if_neg (by omega)]
 ·rw [←b,Array.getElem?_setIfInBounds,if_neg (by omega)]
 ·rw [←c,Array.getElem?_setIfInBounds,if_neg (by omega)]
 ·rw [←d,Array.getElem?_setIfInBounds,if_neg (by omega)]
theorem QBlk.next {w:World} {t:TypeId} {g n k:Nat} {l:List Q} (h:QBlk w t g n k l) (c:∀hk:k<l.length,QAt w g (k*4) l[k]):QBlk w t g n (k+1) l:=by
 obtain ⟨arr,h1,h2,h3⟩:=h
 refine ⟨arr,h1,h2,fun i hi hik=>?_⟩
 by_cases e:i=k
 ·subst e
  obtain ⟨c0,c1,c2,c3⟩:=c hi
  simp [World.cell?,h1] at c0 c1 c2 c3
  exact ⟨c0,c1,c2,c3⟩
 ·exact h3 i hi (by omega)
theorem QBlk.rowOf {w:World} {t:TypeId} {g c n:Nat} {l:List Q} (h:QBlk w t g c n l) (hl:n=l.length):QRow w (some ⟨g,0,none⟩) n l:=by
 obtain ⟨arr,h1,h2,h3⟩:=h
 refine ⟨hl,.inr ⟨g,0,rfl,fun i hi=>?_⟩⟩
 obtain ⟨a,b,c,d⟩:=h3 i hi (by omega)
 unfold QAt
 simp only [Nat.zero_add]
 exact ⟨by simp [World.cell?,h1,a],by simp [World.cell?,h1,b],by simp [World.cell?,h1,c],by simp [World.cell?,h1,d]⟩
theorem cell_keep {w:World} {g p q:Nat} {u v:Value} (h:w.cell? ⟨g,p,none⟩=some u) (hne:q≠p):(w.setCell ⟨g,q,none⟩ v).cell? ⟨g,p,none⟩=some u:=
 (World.cell?_setCell_other _ _ _ _ (fun e=>hne (congrArg Addr.off e))).trans h
theorem cell_bel {w w':World} {g p:Nat} {u:Value} (h:w.cell? ⟨g,p,none⟩=some u) (hb:Below w.heap.size w w'):w'.cell? ⟨g,p,none⟩=some u:=(hb.cell (yG h)).trans h
theorem markQueueS_full (g n c:Nat) {d:Nat} (w:World) (h:QAny w 100 g c) (hc:n≤c) (hn:n≤1048576) :
  Calls Tryz.prog 35 #[.slice (some ⟨g,0,none⟩) n d,.int .i64 1] w fun e w'=>e=.returned (.int .i64 (1+4*(n:Int)))∧QBlk w' 100 g c n (marksQ n)∧w.grownBy w' (some g):=by
 have HQ0:=hide (show QBlk w 100 g c 0 (marksQ n) by obtain ⟨arr,h1,h2,_⟩:=h;exact ⟨arr,h1,h2,fun i _ h=>absurd h (by omega)⟩)
 clear h
 go_enter Tryz.func35,Tryz.ntmps35
 go_wp2
 go_loopw [1,5] (fun s i wr=>∃(j:Nat) (k:Int),j≤n∧i=.int .i64 j∧s=.int .i64 k∧k=1+4*(j:Int)∧Hid (QBlk wr 100 g c j (marksQ n))∧Hid (w.grownBy wr (some g))) (fun _ i _=>n - (intOf i).toNat)
 case atStart=>exact ⟨0,1,Nat.zero_le _,rfl,rfl,by omega,HQ0,hide (grownBy_refl _ _)⟩
 case round=>
  obtain ⟨j,k,hj,rfl,rfl,hk,HQ,HG⟩:=hrel
  by_cases hlt:j<n
  ·have HK:=hide hk
   have hk0:0<k:=by omega
   have hk1:k≤4194305:=by omega
   clear hk
   go_wp2_with fail
   refine (markText_int k _ hk0 (by omega)).mono ?_
   rintro e w1 ⟨rfl,hb⟩
   have HQ1:=hide ((uH HQ).below hb)
   have HG1:=hide (grownBy_below (uH HG) hb)
   obtain ⟨v0,d0⟩:=(uH HQ1).cell (j:=j*4) (by omega)
   have f0:=(uH HQ1).frozen (j*4)
   have HQ1':=hide ((uH HQ1).tail (p:=j*4) (by omega) (.string (mk k.toNat)))
   have X0:=hide (World.cell?_setCell_same w1 ⟨g,j*4,none⟩ (.string (mk k.toNat)) d0)
   have HG1':=hide (grownBy_set (uH HG1) (j*4) (.string (mk k.toNat)))
   clear hb HQ HG
   go_wp2_with fail
   refine (markText_int (k+1) _ (by omega) (by omega)).mono ?_
   rintro e w2 ⟨rfl,hb⟩
   have HQ2:=hide ((uH HQ1').below hb)
   have HG2:=hide (grownBy_below (uH HG1') hb)
   have X02:=hide (cell_bel (uH X0) hb)
   obtain ⟨v1,d1⟩:=(uH HQ2).cell (j:=j*4+1) (by omega)
   have f1:=(uH HQ2).frozen (j*4+1)
   have X1:=hide (World.cell?_setCell_same w2 ⟨g,j*4+1,none⟩ (.string (mk (k+1).toNat)) d1)
   have X03:=hide (cell_keep (q:=j*4+1) (v:=.string (mk (k+1).toNat)) (uH X02) (by omega))
   have HQ3:=hide ((uH HQ2).tail (p:=j*4+1) (by omega) (.string (mk (k+1).toNat)))
   have HG3:=hide (grownBy_set (uH HG2) (j*4+1) (.string (mk (k+1).toNat)))
   obtain ⟨v2,d2⟩:=(uH HQ3).cell (j:=j*4+2) (by omega)
   have f2:=(uH HQ3).frozen (j*4+2)
   have X2:=hide (World.cell?_setCell_same _ ⟨g,j*4+2,none⟩ (.int .i64 (k+1+1)) d2)
   have X04:=hide (cell_keep (q:=j*4+2) (v:=.int .i64 (k+1+1)) (uH X03) (by omega))
   have X14:=hide (cell_keep (q:=j*4+2) (v:=.int .i64 (k+1+1)) (uH X1) (by omega))
   have HQ4:=hide ((uH HQ3).tail (p:=j*4+2) (by omega) (.int .i64 (k+1+1)))
   have HG4:=hide (grownBy_set (uH HG3) (j*4+2) (.int .i64 (k+1+1)))
   obtain ⟨v3,d3⟩:=(uH HQ4).cell (j:=j*4+3) (by omega)
   have f3:=(uH HQ4).frozen (j*4+3)
   have HN:=hide (show QBlk _ 100 g c (j+1) (marksQ n) from ((uH HQ4).tail (p:=j*4+3) (by omega) (.int .i64 (k+1+1+1))).next (fun hj'=>by
    rw [marksQ_at]
    have e1:k.toNat=1+4*j:=by have:=uH HK;omega
    have e2:(k+1).toNat=1+4*j+1:=by have:=uH HK;omega
    have e3:=uH HK
    have y0:=cell_keep (q:=j*4+3) (v:=.int .i64 (k+1+1+1)) (uH X04) (by omega)
    have y1:=cell_keep (q:=j*4+3) (v:=.int .i64 (k+1+1+1)) (uH X14) (by omega)
    have y2:=cell_keep (q:=j*4+3) (v:=.int .i64 (k+1+1+1)) (uH X2) (by omega)
    have y3:=World.cell?_setCell_same _ ⟨g,j*4+3,none⟩ (.int .i64 (k+1+1+1)) d3
    refine ⟨y0.trans ?_,y1.trans ?_,y2.trans ?_,y3.trans ?_⟩
    ·rw [e1];rfl
    ·rw [e2];rfl
    ·rw [e3];rfl
    ·rw [e3];rfl))
   clear hb d0 f0 HQ1 HG1 HQ1' HG1' HQ2 HG2 X0 X02 X1 X03 X2 X04 X14
   go_wp2
   go_roundw
   case rel=>exact ⟨j+1,k+1+1+1+1,by omega,by go_num,by go_num,by have:=uH HK;omega,HN,hide (grownBy_set (uH HG4) _ _)⟩
   case measure=>simp [intOf];omega
  ·have hjn:j=n:=by omega
   subst hjn
   go_wp2
   go_ret
   exact ⟨ret_int (by omega),uH HQ,uH HG⟩
def QOne (w0:World) (b p:Nat) (q:Q) (w:World):Prop:=QAt w b p q∧Below w0.heap.size w0 w
theorem QOne.call {w0 w w':World} {b p:Nat} {q:Q} (h:QOne w0 b p q w) (hb:Below w.heap.size w w'):QOne w0 b p q w':=⟨h.1.below hb,yB h.2 hb⟩
theorem QOne.drew {w0 w:World} {b p:Nat} {q:Q} (h:QOne w0 b p q w):QOne w0 b p q w.drew:=h.call (Below.refl _ _).drew
theorem QOne.read (w0:World) (b p:Nat) (q:Q):∀wx,QOne w0 b p q wx→wx.cell? ⟨b,p,none⟩=some (.string (bs q.name))∧wx.cell? ⟨b,p+1,none⟩=some (.string (bs q.parent))∧wx.cell? ⟨b,p+2,none⟩=some (.int .i64 q.due)∧wx.cell? ⟨b,p+3,none⟩=some (.int .i64 q.most):=
 fun wx h=>⟨h.1.1,h.1.2.1,h.1.2.2.1,h.1.2.2.2⟩
theorem heldQueueS_any (g n c:Nat) (w:World) (h:QRow w (some ⟨g,0,none⟩) n (marksQ n)) (hn:n≤1048576) :
  Calls Tryz.prog 38 #[.slice (some ⟨g,0,none⟩) n c,.int .i64 1] w fun e w'=>e=.returned (.int .i64 (1+4*(n:Int)))∧Below w.heap.size w w':=by
 have HR:=hide h
 clear h
 go_enter Tryz.func38,Tryz.ntmps38
 go_wp2
 go_loopw [1,5] (fun s i wr=>∃(j:Nat) (k:Int),j≤n∧i=.int .i64 j∧s=.int .i64 k∧k=1+4*(j:Int)∧Hid (Below w.heap.size w wr)) (fun _ i _=>n - (intOf i).toNat)
 case atStart=>exact ⟨0,1,Nat.zero_le _,rfl,rfl,by omega,hide (Below.refl _ _)⟩
 case round=>
  obtain ⟨j,k,hj,rfl,rfl,hk,HB⟩:=hrel
  by_cases hlt:j<n
  ·obtain ⟨b,off,e,hq⟩:=((uH HR).below (uH HB)).at hlt
   simp only [Option.some.injEq,Addr.mk.injEq,and_true] at e
   obtain ⟨rfl,rfl⟩:=e
   have hqq:=hq (by rw [marksQ_len];exact hlt)
   rw [marksQ_at] at hqq
   have T0:∀wx,Calls Tryz.prog 47 #[.int .i64 k] wx fun e w'=>e=.returned (.string (bs (markQ j).name))∧Below wx.heap.size wx w':=fun wx=>by
    have:=markText_int k wx (by omega) (by omega)
    rw [show k.toNat=1+4*j by omega] at this
    exact this
   have T1:∀wx,Calls Tryz.prog 47 #[.int .i64 (k+1)] wx fun e w'=>e=.returned (.string (bs (markQ j).parent))∧Below wx.heap.size wx w':=fun wx=>by
    have:=markText_int (k+1) wx (by omega) (by omega)
    rw [show (k+1).toNat=1+4*j+1 by omega] at this
    exact this
   have hd:(markQ j).due=k+1+1:=by rw [hk];rfl
   have hm:(markQ j).most=k+1+1+1:=by rw [hk];rfl
   obtain ⟨q,hqe⟩:∃q,markQ j=q:=⟨_,rfl⟩
   rw [hqe] at hqq T0 T1 hd hm
   have A0:=hide (show QOne w g (0+j*4) q wr from ⟨hqq,uH HB⟩)
   have C0:=hide T0
   have C1:=hide T1
   have HK:=hide hk
   have HD:=hide hd
   have HM:=hide hm
   have R:=QOne.read w g (0+j*4) q
   simp only [Nat.zero_add] at A0 R
   have j0:(0:Int)≤j:=by omega
   have j1:(j:Int)<n:=by omega
   have hk0:0<k:=by omega
   have hk1:k≤4194305:=by omega
   have hw1:IntKind.i64.wrap (k+1)=k+1:=by rw [IntKind.wrap_i64];omega
   clear hq hqq T0 T1 hqe hk hd hm
   go_wp2_with fail
   go_region_held3 (fun wx=>QOne w g (j*4) q wx)
    (first | (with_reducible assumption) | exact (uH A0).drew | exact QOne.call (by assumption) (by assumption))
    (first
    | (go_at_call 47;refine (uH C0 _).mono ?_;rintro e wt ⟨rfl,hb⟩;have SA:=QOne.call (w0:=w) (b:=g) (p:=j*4) (q:=q) (by assumption) hb))
   have A1:=hide SA
   clear SA A0
   go_wp2_with fail
   go_region_held3 (fun wx=>QOne w g (j*4) q wx)
    (first | (with_reducible assumption) | exact (uH A1).drew | exact QOne.call (by assumption) (by assumption))
    (first
    | (go_at_call 47;refine (uH C1 _).mono ?_;rintro e wt2 ⟨rfl,hb⟩;have SA:=QOne.call (w0:=w) (b:=g) (p:=j*4) (q:=q) (by assumption) hb))
   obtain ⟨_,_,r2,r3⟩:=R _ SA
   rw [uH HD] at r2
   rw [uH HM] at r3
   have HB2:=hide SA.2
   clear SA A1 R C0 C1
   go_wp2
   go_roundw
   case rel=>exact ⟨j+1,k+1+1+1+1,by omega,by go_num,by go_num,by have:=uH HK;omega,HB2⟩
   case measure=>simp [intOf];omega
  ·have hjn:j=n:=by omega
   subst hjn
   go_wp2
   go_ret
   exact ⟨ret_int (by omega),uH HB⟩
theorem markQueueS_zero (ao:Option Addr) (c:Nat) (w:World) :
  Calls Tryz.prog 35 #[.slice ao 0 c,.int .i64 1] w fun e w'=>e=.returned (.int .i64 1)∧w=w':=by
 go_enter Tryz.func35,Tryz.ntmps35
 go_wp2
 go_loopw [1,5] (fun s i wr=>i=.int .i64 0∧s=.int .i64 1∧wr=w) (fun _ _ _=>0)
 case atStart=>exact ⟨rfl,rfl,rfl⟩
 case round=>
  obtain ⟨rfl,rfl,rfl⟩:=hrel
  go_wp2
  go_ret
  exact ⟨rfl,rfl⟩
theorem heldQueueS_zero (ao:Option Addr) (c:Nat) (w:World) :
  Calls Tryz.prog 38 #[.slice ao 0 c,.int .i64 1] w fun e w'=>e=.returned (.int .i64 1)∧w=w':=by
 go_enter Tryz.func38,Tryz.ntmps38
 go_wp2
 go_loopw [1,5] (fun s i wr=>i=.int .i64 0∧s=.int .i64 1∧wr=w) (fun _ _ _=>0)
 case atStart=>exact ⟨rfl,rfl,rfl⟩
 case round=>
  obtain ⟨rfl,rfl,rfl⟩:=hrel
  go_wp2
  go_ret
  exact ⟨rfl,rfl⟩
end
end Go.Proofs.YtdhibeclkdepiaaGreat
