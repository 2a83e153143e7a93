/-
  Texts in one: MarkFC, MarkS.
-/
import Derived.Test.YtmkedfdnokmglaaGreatPackC
set_option maxRecDepth 100000
set_option maxHeartbeats 16000000
set_option linter.unusedVariables false
set_option linter.unusedSimpArgs false
namespace Go.Proofs.YtmkedfdnokmglaaGreat
section
open Go.RowKit
theorem ConBlk.tail {w:World} {t:TypeId} {g n k:Nat} {l:List Con} (h:ConBlk w t g n k l) {p:Nat} (hp:k*5≤p) (v:Value):ConBlk (w.setCell ⟨g,p,none⟩ v) t g n k l:=by
 obtain ⟨arr,h1,h2,h3⟩:=h
 refine ⟨_,heap_setCell_same w g p _ _ v h1,by simp [h2],fun i hi hik=>?_⟩
 obtain ⟨a,b,c,d,e⟩:=h3 i hi hik
 refine ⟨?_,?_,?_,?_,?_⟩
 ·rw [←a,Array.getElem?_setIfInBounds,if_neg (by omega)]
 ·rw [←b,Array.getElem?_setIfInBounds,if_neg (by omega)]
 ·rw [←c,Array.getElem?_setIfInBounds,if_neg (by omega)]
 ·rw [←d,Array.getElem?_setIfInBounds,if_neg (by omega)]
 ·rw [←e,Array.getElem?_setIfInBounds,if_neg (by omega)]
theorem ConBlk.next {w:World} {t:TypeId} {g n k:Nat} {l:List Con} (h:ConBlk w t g n k l) (c:∀hk:k<l.length,ConAt w g (k*5) l[k]):ConBlk w t g n (k+1) l:=by
 obtain ⟨arr,h1,h2,h3⟩:=h
 refine ⟨arr,h1,h2,fun i hi hik=>?_⟩
 by_cases e:i=k
 ·subst e
  obtain ⟨c0,c1,c2,c3,c4⟩:=c hi
  simp [World.cell?,h1] at c0 c1 c2 c3 c4
  exact ⟨c0,c1,c2,c3,c4⟩
 ·exact h3 i hi (by omega)
theorem ConBlk.rowOf {w:World} {t:TypeId} {g c n:Nat} {l:List Con} (h:ConBlk w t g c n l) (hl:n=l.length):ConRow w (some ⟨g,0,none⟩) n l:=by
 obtain ⟨arr,h1,h2,h3⟩:=h
 refine ⟨hl,.inr ⟨g,0,rfl,fun i hi=>?_⟩⟩
 obtain ⟨a,b,c,d,e⟩:=h3 i hi (by omega)
 unfold ConAt
 simp only [Nat.zero_add]
 exact ⟨by simp [World.cell?,h1,a],by simp [World.cell?,h1,b],by simp [World.cell?,h1,c],by simp [World.cell?,h1,d],by simp [World.cell?,h1,e]⟩
def ConOne (w0:World) (b p:Nat) (q:Con) (w:World):Prop:=ConAt w b p q∧Below w0.heap.size w0 w
theorem ConOne.call {w0 w w':World} {b p:Nat} {q:Con} (h:ConOne w0 b p q w) (hb:Below w.heap.size w w'):ConOne w0 b p q w':=⟨h.1.below hb,yB h.2 hb⟩
theorem ConOne.drew {w0 w:World} {b p:Nat} {q:Con} (h:ConOne w0 b p q w):ConOne w0 b p q w.drew:=h.call (yH _ _).drew
theorem ConOne.read (w0:World) (b p:Nat) (q:Con):∀wx,ConOne w0 b p q wx→wx.cell? ⟨b,p,none⟩=some (.int .i64 q.id)∧wx.cell? ⟨b,p+1,none⟩=some (.int .i64 q.app)∧wx.cell? ⟨b,p+2,none⟩=some (.string (bs q.node))∧wx.cell? ⟨b,p+3,none⟩=some (.int .i64 q.mem)∧wx.cell? ⟨b,p+4,none⟩=some (.int .i64 q.cpu):=fun wx h=>h.1
theorem markQueueS_from (g n c:Nat) (k0:Int) (w:World) (h:Cel w 95 g (c*4)) (hc:n≤c) (hn:n≤1048576) (h0:0<k0) (h1:k0≤1000000000000000) :
  Calls Tryz.prog 22 #[.slice (some ⟨g,0,none⟩) n c,.int .i64 k0] w fun e w'=>e=.returned (.int .i64 (k0+4*(n:Int)))∧Mkd g (g+1) w w':=by
 have HQ0:=hide h
 clear h
 go_enter Tryz.func22,Tryz.ntmps22
 go_wp2
 go_loopw [1,5] (fun s i wr=>∃(j:Nat) (k:Int),j≤n∧i=.int .i64 j∧s=.int .i64 k∧k=k0+4*(j:Int)∧Hid (Cel wr 95 g (c*4))∧Hid (Mkd g (g+1) w wr)) (fun _ i _=>n - (intOf i).toNat)
 case atStart=>exact ⟨0,k0,Nat.zero_le _,rfl,rfl,by omega,HQ0,hide (Mkd.refl _ _ _)⟩
 case round=>
  obtain ⟨j,k,hj,rfl,rfl,hk,HQ,HG⟩:=hrel
  by_cases hlt:j<n
  ·have HK:=hide hk
   have hk0:0<k:=by omega
   have hk1:k≤1000000010000000:=by omega
   clear hk
   go_wp2_with fail
   refine (markText_int k _ (by omega) (by omega)).mono ?_
   rintro e w1 ⟨rfl,hb⟩
   have HQt0:=hide ((uH HQ).below hb)
   have HGt0:=hide ((uH HG).on hb)
   clear hb  HQ HG
   obtain ⟨v0,d0⟩:=(uH HQt0).cell (j:=j*4) (by omega)
   have f0:=(uH HQt0).frozen (j*4)
   have HQs0:=hide ((uH HQt0).set g (j*4) (.string (mk k.toNat)))
   have HGs0:=hide ((uH HGt0).sc g (j*4) (.string (mk k.toNat)) (yJ _) (by omega))
   go_wp2_with fail
   refine (markText_int (k+1) _ (by omega) (by omega)).mono ?_
   rintro e w2 ⟨rfl,hb⟩
   have HQt1:=hide ((uH HQs0).below hb)
   have HGt1:=hide ((uH HGs0).on hb)
   clear hb d0 f0 HQt0 HGt0 HQs0 HGs0
   obtain ⟨v1,d1⟩:=(uH HQt1).cell (j:=j*4+1) (by omega)
   have f1:=(uH HQt1).frozen (j*4+1)
   have HQs1:=hide ((uH HQt1).set g (j*4+1) (.string (mk (k+1).toNat)))
   have HGs1:=hide ((uH HGt1).sc g (j*4+1) (.string (mk (k+1).toNat)) (yJ _) (by omega))
   obtain ⟨v2,d2⟩:=(uH HQs1).cell (j:=j*4+2) (by omega)
   have f2:=(uH HQs1).frozen (j*4+2)
   have HQs2:=hide ((uH HQs1).set g (j*4+2) (.int .i64 (k+1+1)))
   have HGs2:=hide ((uH HGs1).sc g (j*4+2) (.int .i64 (k+1+1)) (yJ _) (by omega))
   obtain ⟨v3,d3⟩:=(uH HQs2).cell (j:=j*4+3) (by omega)
   have f3:=(uH HQs2).frozen (j*4+3)
   have HQs3:=hide ((uH HQs2).set g (j*4+3) (.int .i64 (k+1+1+1)))
   have HGs3:=hide ((uH HGs2).sc g (j*4+3) (.int .i64 (k+1+1+1)) (yJ _) (by omega))
   go_wp2
   go_roundw
   case rel=>exact ⟨j+1,k+1+1+1+1,by omega,by go_num,by go_num,by have:=uH HK;omega,HQs3,HGs3⟩
   case measure=>simp [intOf];omega
  ·have hjn:j=n:=by omega
   subst hjn
   go_wp2
   go_ret
   exact ⟨ret_int (by omega),uH HG⟩
theorem markMachineS_from (g n c:Nat) (k0:Int) (w:World) (h:Cel w 177 g (c*4)) (hc:n≤c) (hn:n≤1048576) (h0:0<k0) (h1:k0≤1000000000000000) :
  Calls Tryz.prog 101 #[.slice (some ⟨g,0,none⟩) n c,.int .i64 k0] w fun e w'=>e=.returned (.int .i64 (k0+4*(n:Int)))∧Mkd g (g+1) w w':=by
 have HQ0:=hide h
 clear h
 go_enter Tryz.func101,Tryz.ntmps101
 go_wp2
 go_loopw [1,5] (fun s i wr=>∃(j:Nat) (k:Int),j≤n∧i=.int .i64 j∧s=.int .i64 k∧k=k0+4*(j:Int)∧Hid (Cel wr 177 g (c*4))∧Hid (Mkd g (g+1) w wr)) (fun _ i _=>n - (intOf i).toNat)
 case atStart=>exact ⟨0,k0,Nat.zero_le _,rfl,rfl,by omega,HQ0,hide (Mkd.refl _ _ _)⟩
 case round=>
  obtain ⟨j,k,hj,rfl,rfl,hk,HQ,HG⟩:=hrel
  by_cases hlt:j<n
  ·have HK:=hide hk
   have hk0:0<k:=by omega
   have hk1:k≤1000000010000000:=by omega
   clear hk
   go_wp2_with fail
   refine (markText_int k _ (by omega) (by omega)).mono ?_
   rintro e w1 ⟨rfl,hb⟩
   have HQt0:=hide ((uH HQ).below hb)
   have HGt0:=hide ((uH HG).on hb)
   clear hb  HQ HG
   obtain ⟨v0,d0⟩:=(uH HQt0).cell (j:=j*4) (by omega)
   have f0:=(uH HQt0).frozen (j*4)
   have HQs0:=hide ((uH HQt0).set g (j*4) (.string (mk k.toNat)))
   have HGs0:=hide ((uH HGt0).sc g (j*4) (.string (mk k.toNat)) (yJ _) (by omega))
   obtain ⟨v1,d1⟩:=(uH HQs0).cell (j:=j*4+1) (by omega)
   have f1:=(uH HQs0).frozen (j*4+1)
   have HQs1:=hide ((uH HQs0).set g (j*4+1) (.int .i64 (k+1)))
   have HGs1:=hide ((uH HGs0).sc g (j*4+1) (.int .i64 (k+1)) (yJ _) (by omega))
   obtain ⟨v2,d2⟩:=(uH HQs1).cell (j:=j*4+2) (by omega)
   have f2:=(uH HQs1).frozen (j*4+2)
   have HQs2:=hide ((uH HQs1).set g (j*4+2) (.int .i64 (k+1+1)))
   have HGs2:=hide ((uH HGs1).sc g (j*4+2) (.int .i64 (k+1+1)) (yJ _) (by omega))
   obtain ⟨v3,d3⟩:=(uH HQs2).cell (j:=j*4+3) (by omega)
   have f3:=(uH HQs2).frozen (j*4+3)
   have HQs3:=hide ((uH HQs2).set g (j*4+3) (.int .i64 (k+1+1+1)))
   have HGs3:=hide ((uH HGs2).sc g (j*4+3) (.int .i64 (k+1+1+1)) (yJ _) (by omega))
   go_wp2
   go_roundw
   case rel=>exact ⟨j+1,k+1+1+1+1,by omega,by go_num,by go_num,by have:=uH HK;omega,HQs3,HGs3⟩
   case measure=>simp [intOf];omega
  ·have hjn:j=n:=by omega
   subst hjn
   go_wp2
   go_ret
   exact ⟨ret_int (by omega),uH HG⟩
theorem markContS_from (g n c:Nat) (k0:Int) (w:World) (h:Cel w 74 g (c*5)) (hc:n≤c) (hn:n≤1048576) (h0:0<k0) (h1:k0≤1000000000000000) :
  Calls Tryz.prog 51 #[.slice (some ⟨g,0,none⟩) n c,.int .i64 k0] w fun e w'=>e=.returned (.int .i64 (k0+5*(n:Int)))∧Mkd g (g+1) w w':=by
 have HQ0:=hide h
 clear h
 go_enter Tryz.func51,Tryz.ntmps51
 go_wp2
 go_loopw [1,5] (fun s i wr=>∃(j:Nat) (k:Int),j≤n∧i=.int .i64 j∧s=.int .i64 k∧k=k0+5*(j:Int)∧Hid (Cel wr 74 g (c*5))∧Hid (Mkd g (g+1) w wr)) (fun _ i _=>n - (intOf i).toNat)
 case atStart=>exact ⟨0,k0,Nat.zero_le _,rfl,rfl,by omega,HQ0,hide (Mkd.refl _ _ _)⟩
 case round=>
  obtain ⟨j,k,hj,rfl,rfl,hk,HQ,HG⟩:=hrel
  by_cases hlt:j<n
  ·have HK:=hide hk
   have hk0:0<k:=by omega
   have hk1:k≤1000000010000000:=by omega
   clear hk
   obtain ⟨v0,d0⟩:=(uH HQ).cell (j:=j*5) (by omega)
   have f0:=(uH HQ).frozen (j*5)
   have HQs0:=hide ((uH HQ).set g (j*5) (.int .i64 k))
   have HGs0:=hide ((uH HG).sc g (j*5) (.int .i64 k) (yJ _) (by omega))
   obtain ⟨v1,d1⟩:=(uH HQs0).cell (j:=j*5+1) (by omega)
   have f1:=(uH HQs0).frozen (j*5+1)
   have HQs1:=hide ((uH HQs0).set g (j*5+1) (.int .i64 (k+1)))
   have HGs1:=hide ((uH HGs0).sc g (j*5+1) (.int .i64 (k+1)) (yJ _) (by omega))
   go_wp2_with fail
   refine (markText_int (k+1+1) _ (by omega) (by omega)).mono ?_
   rintro e w1 ⟨rfl,hb⟩
   have HQt2:=hide ((uH HQs1).below hb)
   have HGt2:=hide ((uH HGs1).on hb)
   clear hb d0 f0 HQ HG d1 f1 HQs0 HGs0 HQs1 HGs1
   obtain ⟨v2,d2⟩:=(uH HQt2).cell (j:=j*5+2) (by omega)
   have f2:=(uH HQt2).frozen (j*5+2)
   have HQs2:=hide ((uH HQt2).set g (j*5+2) (.string (mk (k+1+1).toNat)))
   have HGs2:=hide ((uH HGt2).sc g (j*5+2) (.string (mk (k+1+1).toNat)) (yJ _) (by omega))
   obtain ⟨v3,d3⟩:=(uH HQs2).cell (j:=j*5+3) (by omega)
   have f3:=(uH HQs2).frozen (j*5+3)
   have HQs3:=hide ((uH HQs2).set g (j*5+3) (.int .i64 (k+1+1+1)))
   have HGs3:=hide ((uH HGs2).sc g (j*5+3) (.int .i64 (k+1+1+1)) (yJ _) (by omega))
   obtain ⟨v4,d4⟩:=(uH HQs3).cell (j:=j*5+4) (by omega)
   have f4:=(uH HQs3).frozen (j*5+4)
   have HQs4:=hide ((uH HQs3).set g (j*5+4) (.int .i64 (k+1+1+1+1)))
   have HGs4:=hide ((uH HGs3).sc g (j*5+4) (.int .i64 (k+1+1+1+1)) (yJ _) (by omega))
   go_wp2
   go_roundw
   case rel=>exact ⟨j+1,k+1+1+1+1+1,by omega,by go_num,by go_num,by have:=uH HK;omega,HQs4,HGs4⟩
   case measure=>simp [intOf];omega
  ·have hjn:j=n:=by omega
   subst hjn
   go_wp2
   go_ret
   exact ⟨ret_int (by omega),uH HG⟩
end
end Go.Proofs.YtmkedfdnokmglaaGreat
