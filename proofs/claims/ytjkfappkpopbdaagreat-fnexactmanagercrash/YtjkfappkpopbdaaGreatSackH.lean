/-
  Texts in one: MarkFC, GRecC.
-/
import Derived.Test.YtjkfappkpopbdaaGreatSackF
import Derived.Test.YtjkfappkpopbdaaGreatSackG
set_option maxRecDepth 100000
set_option maxHeartbeats 16000000
set_option linter.unusedVariables false
set_option linter.unusedSimpArgs false
namespace Go.Proofs.YtjkfappkpopbdaaGreat
section
open Go.RowKit
def markC (k j:Nat):Con:=⟨(k:Int)+5*(j:Int),(k:Int)+5*(j:Int)+1,109::dgs (k+5*j+1+1),(k:Int)+5*(j:Int)+1+1+1,(k:Int)+5*(j:Int)+1+1+1+1⟩
def marksC (k n:Nat):List Con:=(List.range n).map (markC k)
theorem marksC_len (k n:Nat):(marksC k n).length=n:=by simp [marksC]
theorem marksC_at (k n j:Nat) (h:j<(marksC k n).length):(marksC k n)[j]=markC k j:=by simp [marksC]
theorem ConBlk.tail {w:World} {t:TypeId} {g n k:Nat} {l:List Con} (h:ConBlk w t g n k l) {p:Nat} (hp:k*5≤p) (v:Value):ConBlk (w.setCell ⟨g,p,none⟩ v) t g n k l:=by
 obtain ⟨arr,h1,h2,h3⟩:=h
 refine ⟨_,heap_setCell_same w g p _ _ v h1,by simp [h2],fun i hi hik=>?_⟩
 obtain ⟨a,b,c,d,e⟩:=h3 i hi hik
 refine ⟨?_,?_,?_,?_,?_⟩
 ·rw [←a,Array.getElem?_setIfInBounds,if_neg (by omega)]
 ·rw [←b,Array.getElem?_setIfInBounds,if_neg (by omega)]
 ·rw [←c,Array.getElem?_setIfInBounds,if_neg (by omega)]
 ·rw [←d,Array.getElem?_setIfInBounds,if_neg (by omega)]
 ·rw [←e,Array.getElem?_setIfInBounds,if_neg (by omega)]
theorem ConBlk.next {w:World} {t:TypeId} {g n k:Nat} {l:List Con} (h:ConBlk w t g n k l) (c:∀hk:k<l.length,ConAt w g (k*5) l[k]):ConBlk w t g n (k+1) l:=by
 obtain ⟨arr,h1,h2,h3⟩:=h
 refine ⟨arr,h1,h2,fun i hi hik=>?_⟩
 by_cases e:i=k
 ·subst e
  obtain ⟨c0,c1,c2,c3,c4⟩:=c hi
  simp [World.cell?,h1] at c0 c1 c2 c3 c4
  exact ⟨c0,c1,c2,c3,c4⟩
 ·exact h3 i hi (by omega)
theorem ConBlk.rowOf {w:World} {t:TypeId} {g c n:Nat} {l:List Con} (h:ConBlk w t g c n l) (hl:n=l.length):ConRow w (some ⟨g,0,none⟩) n l:=by
 obtain ⟨arr,h1,h2,h3⟩:=h
 refine ⟨hl,.inr ⟨g,0,rfl,fun i hi=>?_⟩⟩
 obtain ⟨a,b,c,d,e⟩:=h3 i hi (by omega)
 unfold ConAt
 simp only [Nat.zero_add]
 exact ⟨by simp [World.cell?,h1,a],by simp [World.cell?,h1,b],by simp [World.cell?,h1,c],by simp [World.cell?,h1,d],by simp [World.cell?,h1,e]⟩
theorem cellKeepC {w:World} {g p q:Nat} {u v:Value} (h:w.cell? ⟨g,p,none⟩=some u) (hne:q≠p):(w.setCell ⟨g,q,none⟩ v).cell? ⟨g,p,none⟩=some u:=
 (World.cell?_setCell_other _ _ _ _ (fun e=>hne (congrArg Addr.off e))).trans h
theorem cellBelC {w w':World} {g p:Nat} {u:Value} (h:w.cell? ⟨g,p,none⟩=some u) (hb:Below w.heap.size w w'):w'.cell? ⟨g,p,none⟩=some u:=(hb.cell (yG h)).trans h
theorem markContS_full (g n c K:Nat) {d:Nat} (w:World) (h:Cel w 150 g (c*5)) (hc:n≤c) (hn:n≤1048576) (h0:0<K) (h1:K≤1000000000000000) :
  Calls Tryz.prog 62 #[.slice (some ⟨g,0,none⟩) n d,.int .i64 (K:Int)] w fun e w'=>e=.returned (.int .i64 ((K:Int)+5*(n:Int)))∧ConRow w' (some ⟨g,0,none⟩) n (marksC K n)∧Mkd g (g+1) w w':=by
 have HQ0:=hide (show ConBlk w 150 g c 0 (marksC K n) by obtain ⟨arr,h1,h2⟩:=h;exact ⟨arr,h1,h2,fun i _ h=>absurd h (by omega)⟩)
 clear h
 go_enter Tryz.func62,Tryz.ntmps62
 go_wp2
 go_loopw [1,5] (fun s i wr=>∃(j:Nat) (k:Int),j≤n∧i=.int .i64 j∧s=.int .i64 k∧k=(K:Int)+5*(j:Int)∧Hid (ConBlk wr 150 g c j (marksC K n))∧Hid (Mkd g (g+1) w wr)) (fun _ i _=>n - (intOf i).toNat)
 case atStart=>exact ⟨0,K,Nat.zero_le _,rfl,rfl,by omega,HQ0,hide (Mkd.refl _ _ _)⟩
 case round=>
  obtain ⟨j,k,hj,rfl,rfl,hk,HQ,HG⟩:=hrel
  by_cases hlt:j<n
  ·have HK:=hide hk
   have hk0:0<k:=by omega
   have hk1:k≤1000000010000000:=by omega
   clear hk
   obtain ⟨v0,d0⟩:=(uH HQ).cell (j:=j*5) (by omega)
   have f0:=(uH HQ).frozen (j*5)
   have X0_1:=hide (World.cell?_setCell_same _ ⟨g,j*5,none⟩ (.int .i64 (k)) d0)
   have HQ1:=hide ((uH HQ).tail (p:=j*5) (by omega) (.int .i64 (k)))
   have HG1:=hide ((uH HG).sc g (j*5) (.int .i64 (k)) (yJ _) (by omega))
   obtain ⟨v1,d1⟩:=(uH HQ1).cell (j:=j*5+1) (by omega)
   have f1:=(uH HQ1).frozen (j*5+1)
   have X0_2:=hide (cellKeepC (q:=j*5+1) (v:=.int .i64 (k+1)) (uH X0_1) (by omega))
   have X1_3:=hide (World.cell?_setCell_same _ ⟨g,j*5+1,none⟩ (.int .i64 (k+1)) d1)
   have HQ2:=hide ((uH HQ1).tail (p:=j*5+1) (by omega) (.int .i64 (k+1)))
   have HG2:=hide ((uH HG1).sc g (j*5+1) (.int .i64 (k+1)) (yJ _) (by omega))
   clear HQ HG X0_1 HQ1 HG1
   go_wp2_with fail
   refine (markText_int (k+1+1) _ (by omega) (by omega)).mono ?_
   rintro e w1 ⟨rfl,hb⟩
   have HQt:=hide ((uH HQ2).below hb)
   have HGt:=hide ((uH HG2).on hb)
   have Y0:=hide (cellBelC (uH X0_2) hb)
   have Y1:=hide (cellBelC (uH X1_3) hb)
   clear HQ2 HG2 X0_2 X1_3 hb d0 f0 d1 f1
   obtain ⟨v2,d2⟩:=(uH HQt).cell (j:=j*5+2) (by omega)
   have f2:=(uH HQt).frozen (j*5+2)
   have Z0_4:=hide (cellKeepC (q:=j*5+2) (v:=.string (mk (k+1+1).toNat)) (uH Y0) (by omega))
   have Z1_5:=hide (cellKeepC (q:=j*5+2) (v:=.string (mk (k+1+1).toNat)) (uH Y1) (by omega))
   have Z2_6:=hide (World.cell?_setCell_same _ ⟨g,j*5+2,none⟩ (.string (mk (k+1+1).toNat)) d2)
   have HQ3z:=hide ((uH HQt).tail (p:=j*5+2) (by omega) (.string (mk (k+1+1).toNat)))
   have HG3z:=hide ((uH HGt).sc g (j*5+2) (.string (mk (k+1+1).toNat)) (yJ _) (by omega))
   obtain ⟨v3,d3⟩:=(uH HQ3z).cell (j:=j*5+3) (by omega)
   have f3:=(uH HQ3z).frozen (j*5+3)
   have Z0_7:=hide (cellKeepC (q:=j*5+3) (v:=.int .i64 (k+1+1+1)) (uH Z0_4) (by omega))
   have Z1_8:=hide (cellKeepC (q:=j*5+3) (v:=.int .i64 (k+1+1+1)) (uH Z1_5) (by omega))
   have Z2_9:=hide (cellKeepC (q:=j*5+3) (v:=.int .i64 (k+1+1+1)) (uH Z2_6) (by omega))
   have Z3_10:=hide (World.cell?_setCell_same _ ⟨g,j*5+3,none⟩ (.int .i64 (k+1+1+1)) d3)
   have HQ4z:=hide ((uH HQ3z).tail (p:=j*5+3) (by omega) (.int .i64 (k+1+1+1)))
   have HG4z:=hide ((uH HG3z).sc g (j*5+3) (.int .i64 (k+1+1+1)) (yJ _) (by omega))
   obtain ⟨v4,d4⟩:=(uH HQ4z).cell (j:=j*5+4) (by omega)
   have f4:=(uH HQ4z).frozen (j*5+4)
   have HN:=hide (show ConBlk _ 150 g c (j+1) (marksC K n) from ((uH HQ4z).tail (p:=j*5+4) (by omega) (.int .i64 (k+1+1+1+1))).next (fun hj'=>by
    rw [marksC_at]
    have e1:(k+1+1).toNat=K+5*j+1+1:=by have:=uH HK;omega
    have e3:=uH HK
    have y0:=cellKeepC (q:=j*5+4) (v:=.int .i64 (k+1+1+1+1)) (uH Z0_7) (by omega)
    have y1:=cellKeepC (q:=j*5+4) (v:=.int .i64 (k+1+1+1+1)) (uH Z1_8) (by omega)
    have y2:=cellKeepC (q:=j*5+4) (v:=.int .i64 (k+1+1+1+1)) (uH Z2_9) (by omega)
    have y3:=cellKeepC (q:=j*5+4) (v:=.int .i64 (k+1+1+1+1)) (uH Z3_10) (by omega)
    have y4:=World.cell?_setCell_same _ ⟨g,j*5+4,none⟩ (.int .i64 (k+1+1+1+1)) d4
    refine ⟨y0.trans ?_,y1.trans ?_,y2.trans ?_,y3.trans ?_,y4.trans ?_⟩
    ·rw [e3];rfl
    ·rw [e3];rfl
    ·rw [e1];rfl
    ·rw [e3];rfl
    ·rw [e3];rfl))
   have HGn:=hide ((uH HG4z).sc g (j*5+4) (.int .i64 (k+1+1+1+1)) (yJ _) (by omega))
   clear Y0 Y1 HQt HGt Z0_4 Z1_5 Z2_6 HQ3z HG3z HG4z Z0_7 Z1_8 Z2_9 Z3_10
   go_wp2
   go_roundw
   case rel=>exact ⟨j+1,k+1+1+1+1+1,by omega,by go_num,by go_num,by have:=uH HK;omega,HN,HGn⟩
   case measure=>simp [intOf];omega
  ·have hjn:j=n:=by omega
   subst hjn
   go_wp2
   go_ret
   exact ⟨ret_int (by omega),(uH HQ).rowOf (by rw [marksC_len]),uH HG⟩
def ConOne (w0:World) (b p:Nat) (q:Con) (w:World):Prop:=ConAt w b p q∧Below w0.heap.size w0 w
theorem ConOne.call {w0 w w':World} {b p:Nat} {q:Con} (h:ConOne w0 b p q w) (hb:Below w.heap.size w w'):ConOne w0 b p q w':=⟨h.1.below hb,yB h.2 hb⟩
theorem ConOne.drew {w0 w:World} {b p:Nat} {q:Con} (h:ConOne w0 b p q w):ConOne w0 b p q w.drew:=h.call (yH _ _).drew
theorem ConOne.read (w0:World) (b p:Nat) (q:Con):∀wx,ConOne w0 b p q wx→wx.cell? ⟨b,p,none⟩=some (.int .i64 q.id)∧wx.cell? ⟨b,p+1,none⟩=some (.int .i64 q.app)∧wx.cell? ⟨b,p+2,none⟩=some (.string (bs q.node))∧wx.cell? ⟨b,p+3,none⟩=some (.int .i64 q.mem)∧wx.cell? ⟨b,p+4,none⟩=some (.int .i64 q.cpu):=fun wx h=>h.1
theorem heldContS_any (ao:Option Addr) (n c K:Nat) (w:World) (h:ConRow w ao n (marksC K n)) (hn:n≤1048576) (h0:0<K) (h1:K≤1000000000000000) :
  Calls Tryz.prog 67 #[.slice ao n c,.int .i64 (K:Int)] w fun e w'=>e=.returned (.int .i64 ((K:Int)+5*(n:Int)))∧Below w.heap.size w w':=by
 have HR:=hide h
 clear h
 go_enter Tryz.func67,Tryz.ntmps67
 go_wp2
 go_loopw [1,5] (fun s i wr=>∃(j:Nat) (k:Int),j≤n∧i=.int .i64 j∧s=.int .i64 k∧k=(K:Int)+5*(j:Int)∧Hid (Below w.heap.size w wr)) (fun _ i _=>n - (intOf i).toNat)
 case atStart=>exact ⟨0,K,Nat.zero_le _,rfl,rfl,by omega,hide (yH _ _)⟩
 case round=>
  obtain ⟨j,k,hj,rfl,rfl,hk,HB⟩:=hrel
  by_cases hlt:j<n
  ·obtain ⟨b,off,rfl,hq⟩:=((uH HR).below (uH HB)).at hlt
   have hqq:=hq (by rw [marksC_len];exact hlt)
   rw [marksC_at] at hqq
   have T0:∀wx,Calls Tryz.prog 109 #[.int .i64 (k+1+1)] wx fun e w'=>e=.returned (.string (bs (markC K j).node))∧Below wx.heap.size wx w':=fun wx=>by
    have:=markText_int (k+1+1) wx (by omega) (by omega)
    rw [show (k+1+1).toNat=K+5*j+1+1 by omega] at this
    exact this
   have h_0:(markC K j).id=k:=by rw [hk];rfl
   have h_1:(markC K j).app=k+1:=by rw [hk];rfl
   have h_3:(markC K j).mem=k+1+1+1:=by rw [hk];rfl
   have h_4:(markC K j).cpu=k+1+1+1+1:=by rw [hk];rfl
   obtain ⟨q,hqe⟩:∃q,markC K j=q:=⟨_,rfl⟩
   rw [hqe] at hqq T0 h_0 h_1 h_3 h_4
   have A0:=hide (show ConOne w b (off+j*5) q wr from ⟨hqq,uH HB⟩)
   have C0:=hide T0
   have HK:=hide hk
   have H_0:=hide h_0
   have H_1:=hide h_1
   have H_3:=hide h_3
   have H_4:=hide h_4
   have R:=ConOne.read w b (off+j*5) q
   have R':=hide R
   obtain ⟨r0,r1,_,_,_⟩:=R _ (uH A0)
   rw [h_0] at r0
   rw [h_1] at r1
   have j0:(0:Int)≤j:=by omega
   have j1:(j:Int)<n:=by omega
   have hk0:0<k:=by omega
   have hk1:k≤1000000010000000:=by omega
   have hw1:IntKind.i64.wrap (k+1)=k+1:=by rw [IntKind.wrap_i64];omega
   have hw2:IntKind.i64.wrap (k+1+1)=k+1+1:=by rw [IntKind.wrap_i64];omega
   clear hq hqq T0 hqe hk h_0 h_1 h_3 h_4 R
   go_wp2_with fail
   have R:=uH R'
   clear r0 r1
   go_region_held3 (fun wx=>ConOne w b (off+j*5) q wx)
    (first | (with_reducible assumption) | exact (uH A0).drew | exact ConOne.call (by assumption) (by assumption))
    (first
    | (go_at_call 109;refine (uH C0 _).mono ?_;rintro e wt ⟨rfl,hb⟩;have SA:=ConOne.call (w0:=w) (b:=b) (p:=off+j*5) (q:=q) (by assumption) hb))
   obtain ⟨_,_,_,r3,r4⟩:=R _ SA
   rw [uH H_3] at r3
   rw [uH H_4] at r4
   have HB2:=hide SA.2
   clear SA A0 R C0 R'
   go_wp2
   go_roundw
   case rel=>exact ⟨j+1,k+1+1+1+1+1,by omega,by go_num,by go_num,by have:=uH HK;omega,HB2⟩
   case measure=>simp [intOf];omega
  ·have hjn:j=n:=by omega
   subst hjn
   go_wp2
   go_ret
   exact ⟨ret_int (by omega),uH HB⟩
theorem failure_yes (bg:Int) (w:World) :
  Calls Tryz.prog 97 #[.iface 160 (.agg #[.int .i64 bg])] w fun e w'=>e=.returned (.tuple #[.agg #[.int .i64 bg],.bool true])∧Below w.heap.size w w':=by
 have hta:∀(xt:TypeId) wx,(Instr.typeAssert (.iface 160 (.agg #[.int .i64 bg])) xt 160 true).run Tryz.prog wx=.ok (.tuple #[.agg #[.int .i64 bg],.bool true]) wx:=fun xt wx=>by
  simp [Instr.typeAssert,go_sem]
 go_enter Tryz.func97,Tryz.ntmps97
 go_wp2
 refine bodyPost_ret (v:=.tuple #[.agg #[.int .i64 bg],.bool true]) (by simp [results,Tryz.results97,go_sem]) rfl ⟨rfl,?_⟩
 repeat (first | exact yH _ _ | refine yA ?_ _ | refine Below.drew ?_ | refine yC ?_ _ _ _ (by omega))
theorem failure_no (w:World) :
  Calls Tryz.prog 97 #[.nilIface] w fun e w'=>e=.returned (.tuple #[.agg #[.int .i64 0],.bool false])∧Below w.heap.size w w':=by
 have hta:∀(xt:TypeId) wx,(Instr.typeAssert .nilIface xt 160 true).run Tryz.prog wx=.ok (.tuple #[.agg #[.int .i64 0],.bool false]) wx:=fun xt wx=>by
  simp [Instr.typeAssert,go_sem]
 go_enter Tryz.func97,Tryz.ntmps97
 go_wp2
 refine bodyPost_ret (v:=.tuple #[.agg #[.int .i64 0],.bool false]) (by simp [results,Tryz.results97,go_sem]) rfl ⟨rfl,?_⟩
 repeat (first | exact yH _ _ | refine yA ?_ _ | refine Below.drew ?_ | refine yC ?_ _ _ _ (by omega))
theorem catch_panicking (g:Nat) (r:Rc) (b:Bool) (bg:Int) (older:List PanicEntry) (w:World) (h1:Blk w g #[.int .i64 r.kind,.int .i64 r.app,.string (bs r.queue)] 54) (h2:Blk w (g+1) #[.bool b] 4) :
  CallsD Tryz.prog 169 #[.pointer (some ⟨g,0,none⟩),.pointer (some ⟨g+1,0,none⟩)] (.panicking (perr bg::older)) w fun e u' w'=>
   e=.returned (.tuple #[])∧u'=.panicking ({ perr bg with recovered:=true } :: older)∧Blk w' g #[.int .i64 0,.int .i64 0,.string ⟨#[]⟩] 54∧Blk w' (g+1) #[.bool false] 4∧Below g w w':=by
 have H1:=hide h1
 have H2:=hide h2
 clear h1 h2
 refine callsD_of_wpS Tryz.func169 rfl fun c₀ cs hu=>?_
 apply wpS_seq
 apply wpS_region
 rw [Tryz.ntmps169,show ∀x y:Value,#[x,y]++Array.replicate (11 - #[x,y].size) undef=#[x,y,undef,undef,undef,undef,undef,undef,undef,undef,undef] from fun _ _=>rfl]
 simp only [List.size_toArray,List.length_cons,List.length_nil,Nat.zero_add,Nat.reduceAdd,List.range,List.range.loop]
 refine opsS_rec (w':=w) (d:=some 5) rfl rfl rfl (by simp [go_sem]) (v:=.iface 160 (.agg #[.int .i64 bg])) (cs':={ c₀ with mode:=.panicking ({ perr bg with recovered:=true } :: older) } :: cs) (by simp [recoverD,hu]) ?_
 simp only [zW]
 refine opsS_call (w':=w) (f:=97) (args:=#[.iface 160 (.agg #[.int .i64 bg])]) (d:=some 6) rfl rfl rfl (by simp [go_sem]) (failure_yes bg w) ?_
 rintro e w1 ⟨rfl,hb⟩
 refine ⟨_,rfl,?_⟩
 have HB:=hide hb
 have G1:=hide ((uH H1).below hb)
 have G2:=hide ((uH H2).below hb)
 clear hb
 simp only [zW]
 refine opsS_val (v:=.tuple #[.agg #[.int .i64 bg],.bool true]) (w':=w1) (d:=some 4) rfl rfl rfl (by simp [go_sem]) ?_
 simp only [zW]
 refine opsS_val (v:=.agg #[.int .i64 bg]) (w':=w1) (d:=some 7) rfl rfl rfl (by simp [go_sem]) ?_
 simp only [zW]
 refine opsS_val (v:=.bool true) (w':=w1) (d:=some 8) rfl rfl rfl (by simp [go_sem]) ?_
 simp only [zW]
 refine opsS_val (v:=.pointer (some ⟨w1.heap.size,0,none⟩)) (w':=w1.alloc (.cells #[.int .i64 0] 160)) (d:=some 2) rfl rfl rfl (by simp [go_sem]) ?_
 simp only [zW]
 refine opsS_skip (w':=w1.alloc (.cells #[.int .i64 bg] 160)) (d:=none) rfl rfl rfl (by simp [go_sem]) ?_
 simp only [zW]
 refine opsS_val (v:=.bool true) (w':=w1.alloc (.cells #[.int .i64 bg] 160)) (d:=some 3) rfl rfl rfl (by simp [go_sem]) ?_
 simp only [zW]
 refine opsS_nil ?_
 refine wpS_of_wp ?_
 have k0:=((uH G1).al (.cells #[.int .i64 bg] 160)).at 0
 have k1:=((uH G1).al (.cells #[.int .i64 bg] 160)).at 1
 have k2:=((uH G1).al (.cells #[.int .i64 bg] 160)).at 2
 have f0:=((uH G1).al (.cells #[.int .i64 bg] 160)).f 0
 have f1:=((uH G1).al (.cells #[.int .i64 bg] 160)).f 1
 have f2:=((uH G1).al (.cells #[.int .i64 bg] 160)).f 2
 have p0:=((uH G2).al (.cells #[.int .i64 bg] 160)).at 0
 have q0:=((uH G2).al (.cells #[.int .i64 bg] 160)).f 0
 have W1:=hide ((uH G1).al (.cells #[.int .i64 bg] 160))
 have W2:=hide ((uH G2).al (.cells #[.int .i64 bg] 160))
 have HBL:=hide (show Below g w (w1.alloc (.cells #[.int .i64 bg] 160)) from (yA (uH HB) _).mono (Nat.le_of_lt (uH H1).lt))
 simp only [List.getElem?_toArray,List.getElem?_cons_succ,List.getElem?_cons_zero] at k0 k1 k2 p0
 obtain ⟨W,hW⟩:∃W,w1.alloc (.cells #[.int .i64 bg] 160)=W:=⟨_,rfl⟩
 rw [hW] at k0 k1 k2 f0 f1 f2 p0 q0 W1 W2 HBL ⊢
 clear hW HB G1 G2 H1 H2
 go_wp2
 refine ⟨rfl,_,rfl,.tuple #[],by simp [results,Tryz.results169,go_sem],rfl,rfl,?_,?_,?_⟩
 ·have:=(((uH W1).set 0 (.int .i64 0)).set 1 (.int .i64 0)).set 2 (.string ⟨#[]⟩)
  simp at this
  exact this.other (g+1) 0 (.bool false) (by omega)
 ·have:=((((uH W2).other g 0 (.int .i64 0) (by omega)).other g 1 (.int .i64 0) (by omega)).other g 2 (.string ⟨#[]⟩) (by omega)).set 0 (.bool false)
  simpa using this
 ·exact ((((uH HBL).setCell (yJ _) _).setCell (yJ _) _).setCell (yJ _) _).setCell (Nat.le_succ _) _
theorem catch_idle (g:Nat) (r:Rc) (b:Bool) (w:World) (h1:Blk w g #[.int .i64 r.kind,.int .i64 r.app,.string (bs r.queue)] 54) (h2:Blk w (g+1) #[.bool b] 4) :
  CallsD Tryz.prog 169 #[.pointer (some ⟨g,0,none⟩),.pointer (some ⟨g+1,0,none⟩)] .returning w fun e u' w'=>
   e=.returned (.tuple #[])∧u'=.returning∧Below w.heap.size w w':=by
 have H1:=hide h1
 have H2:=hide h2
 clear h1 h2
 refine callsD_of_wpS Tryz.func169 rfl fun c₀ cs hu=>?_
 apply wpS_seq
 apply wpS_region
 rw [Tryz.ntmps169,show ∀x y:Value,#[x,y]++Array.replicate (11 - #[x,y].size) undef=#[x,y,undef,undef,undef,undef,undef,undef,undef,undef,undef] from fun _ _=>rfl]
 simp only [List.size_toArray,List.length_cons,List.length_nil,Nat.zero_add,Nat.reduceAdd,List.range,List.range.loop]
 refine opsS_rec0 (w':=w) (d:=some 5) rfl rfl rfl (by simp [go_sem]) (by simp [recoverD,hu]) ?_
 simp only [zW]
 refine opsS_call (w':=w) (f:=97) (args:=#[.nilIface]) (d:=some 6) rfl rfl rfl (by simp [go_sem]) (failure_no w) ?_
 rintro e w1 ⟨rfl,hb⟩
 refine ⟨_,rfl,?_⟩
 have HB:=hide hb
 have G1:=hide ((uH H1).below hb)
 have G2:=hide ((uH H2).below hb)
 clear hb
 simp only [zW]
 refine opsS_val (v:=.tuple #[.agg #[.int .i64 0],.bool false]) (w':=w1) (d:=some 4) rfl rfl rfl (by simp [go_sem]) ?_
 simp only [zW]
 refine opsS_val (v:=.agg #[.int .i64 0]) (w':=w1) (d:=some 7) rfl rfl rfl (by simp [go_sem]) ?_
 simp only [zW]
 refine opsS_val (v:=.bool false) (w':=w1) (d:=some 8) rfl rfl rfl (by simp [go_sem]) ?_
 simp only [zW]
 refine opsS_val (v:=.pointer (some ⟨w1.heap.size,0,none⟩)) (w':=w1.alloc (.cells #[.int .i64 0] 160)) (d:=some 2) rfl rfl rfl (by simp [go_sem]) ?_
 simp only [zW]
 refine opsS_skip (w':=w1.alloc (.cells #[.int .i64 0] 160)) (d:=none) rfl rfl rfl (by simp [go_sem]) ?_
 simp only [zW]
 refine opsS_val (v:=.bool false) (w':=w1.alloc (.cells #[.int .i64 0] 160)) (d:=some 3) rfl rfl rfl (by simp [go_sem]) ?_
 simp only [zW]
 refine opsS_nil ?_
 refine wpS_of_wp ?_
 have HBL:=hide (yA (uH HB) (.cells #[.int .i64 0] 160))
 go_wp2
 refine ⟨rfl,.returning,?_,.tuple #[],by simp [results,Tryz.results169,go_sem],rfl,rfl,uH HBL⟩
 cases c₀
 simp_all
end
end Go.Proofs.YtjkfappkpopbdaaGreat
