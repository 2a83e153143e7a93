/-
  bI in one: CapsI, MarkFC, OwnP.
-/
import Derived.Test.YtdhibeclkdepiaaGreatPackM
import Derived.Test.YtdhibeclkdepiaaGreatPackL
set_option maxRecDepth 100000
set_option maxHeartbeats 16000000
set_option linter.unusedVariables false
set_option linter.unusedSimpArgs false
namespace Go.Proofs.YtdhibeclkdepiaaGreat
section
open Go.RowKit
theorem pV (x:Sls) (s:St) (w:World) (h:aZ w x.ma x.ml s.ms) (hl:x.ml≤1048576) :
  Calls Tryz.prog 174 #[sv x s] w fun e w'=>e=.returned (rv (gN (aX s.ms)).1 (gN (aX s.ms)).2.1)∧Below w.heap.size w w':=by
 have HR:=aA h
 clear h
 obtain ⟨⟨sx,sy,so⟩,hs⟩:∃y,gN (aX s.ms)=y:=⟨_,rfl⟩
 have CC:=aA (fun wx (hb:Below w.heap.size w wx)=>by have:=aEL x s wx ((uH HR).below hb) hl;rw [hs] at this;exact this)
 rw [hs]
 clear hs
 obtain ⟨qa,ql,qc,aa,al,ac,ma,ml,mc,ca,cl,cc⟩:=x
 obtain ⟨qs,clock,epoch,next,serial,apps,ms,cs⟩:=s
 go_enter Tryz.func174,Tryz.ntmps174
 go_wp2_with fail
 refine (uH CC _ (bV w _)).mono ?_
 rintro e w1 ⟨rfl,hb⟩
 have V1:=(gL w _).below hb
 have HB1:=aA (yB (bV w _) hb)
 have V2:=V1.al (.cells #[.int .i64 sx,.int .i64 sy] 36)
 have t0:=V2.c0
 have t1:=V2.c1
 have f0:=V2.f 0
 have f1:=V2.f 1
 have u0:=V1.c0
 have u1:=V1.c1
 have e0:=V1.f 0
 have e1:=V1.f 1
 have VG:=V2.set sx sy
 have k6:=VG.c0
 have k7:=VG.c1
 clear hb V1 V2 VG CC
 go_wp2
 refine bodyPost_ret (v:=rv sx sy) (by simp [results,Tryz.results174,go_sem,k6,k7]) rfl ⟨rfl,?_⟩
 repeat (first | exact uH HB1 | refine yA ?_ _ | refine yC ?_ _ _ _ (by omega))
def aB6 (k j:Nat):Con:=⟨(k:Int)+5*(j:Int),(k:Int)+5*(j:Int)+1,109::dgs (k+5*j+1+1),(k:Int)+5*(j:Int)+1+1+1,(k:Int)+5*(j:Int)+1+1+1+1⟩
def jL (k n:Nat):List Con:=(List.range n).map (aB6 k)
theorem zH (k n:Nat):(jL k n).length=n:=by simp [jL]
theorem aB3 (k n j:Nat) (h:j<(jL k n).length):(jL k n)[j]=aB6 k j:=by simp [jL]
theorem bO.tail {w:World} {t:TypeId} {g n k:Nat} {l:List Con} (h:bO w t g n k l) {p:Nat} (hp:k*5≤p) (v:Value):bO (w.setCell ⟨g,p,none⟩ v) t g n k l:=by
 obtain ⟨arr,h1,h2,h3⟩:=h
 refine ⟨_,heap_setCell_same w g p _ _ v h1,by simp [h2],fun i hi hik=>?_⟩
 obtain ⟨a,b,c,d,e⟩:=h3 i hi hik
 refine ⟨?_,?_,?_,?_,?_⟩
 ·rw [←a,Array.getElem?_setIfInBounds,if_neg (by omega)]
 ·rw [←b,Array.getElem?_setIfInBounds,if_neg (by omega)]
 ·rw [←c,Array.getElem?_setIfInBounds,if_neg (by omega)]
 ·rw [←d,Array.getElem?_setIfInBounds,if_neg (by omega)]
 ·rw [←e,Array.getElem?_setIfInBounds,if_neg (by omega)]
theorem bO.next {w:World} {t:TypeId} {g n k:Nat} {l:List Con} (h:bO w t g n k l) (c:∀hk:k<l.length,nO w g (k*5) l[k]):bO w t g n (k+1) l:=by
 obtain ⟨arr,h1,h2,h3⟩:=h
 refine ⟨arr,h1,h2,fun i hi hik=>?_⟩
 by_cases e:i=k
 ·subst e
  obtain ⟨c0,c1,c2,c3,c4⟩:=c hi
  simp [World.cell?,h1] at c0 c1 c2 c3 c4
  exact ⟨c0,c1,c2,c3,c4⟩
 ·exact h3 i hi (by omega)
theorem bO.rowOf {w:World} {t:TypeId} {g c n:Nat} {l:List Con} (h:bO w t g c n l) (hl:n=l.length):aY w (some ⟨g,0,none⟩) n l:=by
 obtain ⟨arr,h1,h2,h3⟩:=h
 refine ⟨hl,.inr ⟨g,0,rfl,fun i hi=>?_⟩⟩
 obtain ⟨a,b,c,d,e⟩:=h3 i hi (by omega)
 unfold nO
 simp only [Nat.zero_add]
 exact ⟨by simp [World.cell?,h1,a],by simp [World.cell?,h1,b],by simp [World.cell?,h1,c],by simp [World.cell?,h1,d],by simp [World.cell?,h1,e]⟩
theorem fG {w:World} {g p q:Nat} {u v:Value} (h:w.cell? ⟨g,p,none⟩=some u) (hne:q≠p):(w.setCell ⟨g,q,none⟩ v).cell? ⟨g,p,none⟩=some u:=
 (World.cell?_setCell_other _ _ _ _ (fun e=>hne (congrArg Addr.off e))).trans h
theorem aEK {w w':World} {g p:Nat} {u:Value} (h:w.cell? ⟨g,p,none⟩=some u) (hb:Below w.heap.size w w'):w'.cell? ⟨g,p,none⟩=some u:=(hb.cell (yG h)).trans h
theorem xI (g n c K:Nat) {d:Nat} (w:World) (h:Cel w 38 g (c*5)) (hc:n≤c) (hn:n≤1048576) (h0:0<K) (h1:K≤1000000000000000) :
  Calls Tryz.prog 16 #[.slice (some ⟨g,0,none⟩) n d,.int .i64 (K:Int)] w fun e w'=>e=.returned (.int .i64 ((K:Int)+5*(n:Int)))∧aY w' (some ⟨g,0,none⟩) n (jL K n)∧Mkd g (g+1) w w':=by
 have HQ0:=aA (show bO w 38 g c 0 (jL K n) by obtain ⟨arr,h1,h2⟩:=h;exact ⟨arr,h1,h2,fun i _ h=>absurd h (by omega)⟩)
 clear h
 go_enter Tryz.func16,Tryz.ntmps16
 go_wp2
 go_loopw [1,5] (fun s i wr=>∃(j:Nat) (k:Int),j≤n∧i=.int .i64 j∧s=.int .i64 k∧k=(K:Int)+5*(j:Int)∧Hid (bO wr 38 g c j (jL K n))∧Hid (Mkd g (g+1) w wr)) (fun _ i _=>n - (intOf i).toNat)
 case atStart=>exact ⟨0,K,Nat.zero_le _,rfl,rfl,by omega,HQ0,aA (Mkd.refl _ _ _)⟩
 case round=>
  obtain ⟨j,k,hj,rfl,rfl,hk,HQ,HG⟩:=hrel
  by_cases hlt:j<n
  ·have HK:=aA hk
   have hk0:0<k:=by omega
   have hk1:k≤1000000010000000:=by omega
   clear hk
   obtain ⟨v0,d0⟩:=(uH HQ).cell (j:=j*5) (by omega)
   have f0:=(uH HQ).frozen (j*5)
   have X0_1:=aA (World.cell?_setCell_same _ ⟨g,j*5,none⟩ (.int .i64 (k)) d0)
   have HQ1:=aA ((uH HQ).tail (p:=j*5) (by omega) (.int .i64 (k)))
   have HG1:=aA ((uH HG).sc g (j*5) (.int .i64 (k)) (Nat.le_refl _) (by omega))
   obtain ⟨v1,d1⟩:=(uH HQ1).cell (j:=j*5+1) (by omega)
   have f1:=(uH HQ1).frozen (j*5+1)
   have X0_2:=aA (fG (q:=j*5+1) (v:=.int .i64 (k+1)) (uH X0_1) (by omega))
   have X1_3:=aA (World.cell?_setCell_same _ ⟨g,j*5+1,none⟩ (.int .i64 (k+1)) d1)
   have HQ2:=aA ((uH HQ1).tail (p:=j*5+1) (by omega) (.int .i64 (k+1)))
   have HG2:=aA ((uH HG1).sc g (j*5+1) (.int .i64 (k+1)) (Nat.le_refl _) (by omega))
   clear HQ HG X0_1 HQ1 HG1
   go_wp2_with fail
   refine (aU (k+1+1) _ (by omega) (by omega)).mono ?_
   rintro e w1 ⟨rfl,hb⟩
   have HQt:=aA ((uH HQ2).below hb)
   have HGt:=aA ((uH HG2).on hb)
   have Y0:=aA (aEK (uH X0_2) hb)
   have Y1:=aA (aEK (uH X1_3) hb)
   clear HQ2 HG2 X0_2 X1_3 hb d0 f0 d1 f1
   obtain ⟨v2,d2⟩:=(uH HQt).cell (j:=j*5+2) (by omega)
   have f2:=(uH HQt).frozen (j*5+2)
   have Z0_4:=aA (fG (q:=j*5+2) (v:=.string (mk (k+1+1).toNat)) (uH Y0) (by omega))
   have Z1_5:=aA (fG (q:=j*5+2) (v:=.string (mk (k+1+1).toNat)) (uH Y1) (by omega))
   have Z2_6:=aA (World.cell?_setCell_same _ ⟨g,j*5+2,none⟩ (.string (mk (k+1+1).toNat)) d2)
   have HQ3z:=aA ((uH HQt).tail (p:=j*5+2) (by omega) (.string (mk (k+1+1).toNat)))
   have HG3z:=aA ((uH HGt).sc g (j*5+2) (.string (mk (k+1+1).toNat)) (Nat.le_refl _) (by omega))
   obtain ⟨v3,d3⟩:=(uH HQ3z).cell (j:=j*5+3) (by omega)
   have f3:=(uH HQ3z).frozen (j*5+3)
   have Z0_7:=aA (fG (q:=j*5+3) (v:=.int .i64 (k+1+1+1)) (uH Z0_4) (by omega))
   have Z1_8:=aA (fG (q:=j*5+3) (v:=.int .i64 (k+1+1+1)) (uH Z1_5) (by omega))
   have Z2_9:=aA (fG (q:=j*5+3) (v:=.int .i64 (k+1+1+1)) (uH Z2_6) (by omega))
   have Z3_10:=aA (World.cell?_setCell_same _ ⟨g,j*5+3,none⟩ (.int .i64 (k+1+1+1)) d3)
   have HQ4z:=aA ((uH HQ3z).tail (p:=j*5+3) (by omega) (.int .i64 (k+1+1+1)))
   have HG4z:=aA ((uH HG3z).sc g (j*5+3) (.int .i64 (k+1+1+1)) (Nat.le_refl _) (by omega))
   obtain ⟨v4,d4⟩:=(uH HQ4z).cell (j:=j*5+4) (by omega)
   have f4:=(uH HQ4z).frozen (j*5+4)
   have HN:=aA (show bO _ 38 g c (j+1) (jL K n) from ((uH HQ4z).tail (p:=j*5+4) (by omega) (.int .i64 (k+1+1+1+1))).next (fun hj'=>by
    rw [aB3]
    have e1:(k+1+1).toNat=K+5*j+1+1:=by have:=uH HK;omega
    have e3:=uH HK
    have y0:=fG (q:=j*5+4) (v:=.int .i64 (k+1+1+1+1)) (uH Z0_7) (by omega)
    have y1:=fG (q:=j*5+4) (v:=.int .i64 (k+1+1+1+1)) (uH Z1_8) (by omega)
    have y2:=fG (q:=j*5+4) (v:=.int .i64 (k+1+1+1+1)) (uH Z2_9) (by omega)
    have y3:=fG (q:=j*5+4) (v:=.int .i64 (k+1+1+1+1)) (uH Z3_10) (by omega)
    have y4:=World.cell?_setCell_same _ ⟨g,j*5+4,none⟩ (.int .i64 (k+1+1+1+1)) d4
    refine ⟨y0.trans ?_,y1.trans ?_,y2.trans ?_,y3.trans ?_,y4.trans ?_⟩
    ·rw [e3];rfl
    ·rw [e3];rfl
    ·rw [e1];rfl
    ·rw [e3];rfl
    ·rw [e3];rfl))
   have HGn:=aA ((uH HG4z).sc g (j*5+4) (.int .i64 (k+1+1+1+1)) (Nat.le_refl _) (by omega))
   clear Y0 Y1 HQt HGt Z0_4 Z1_5 Z2_6 HQ3z HG3z HG4z Z0_7 Z1_8 Z2_9 Z3_10
   go_wp2
   go_roundw
   case rel=>exact ⟨j+1,k+1+1+1+1+1,by omega,by go_num,by go_num,by have:=uH HK;omega,HN,HGn⟩
   case measure=>simp [intOf];omega
  ·have hjn:j=n:=by omega
   subst hjn
   go_wp2
   go_ret
   exact ⟨bQ (by omega),(uH HQ).rowOf (by rw [zH]),uH HG⟩
def lI (w0:World) (b p:Nat) (q:Con) (w:World):Prop:=nO w b p q∧Below w0.heap.size w0 w
theorem lI.call {w0 w w':World} {b p:Nat} {q:Con} (h:lI w0 b p q w) (hb:Below w.heap.size w w'):lI w0 b p q w':=⟨h.1.below hb,yB h.2 hb⟩
theorem lI.drew {w0 w:World} {b p:Nat} {q:Con} (h:lI w0 b p q w):lI w0 b p q w.drew:=h.call (Below.refl _ _).drew
theorem lI.read (w0:World) (b p:Nat) (q:Con):∀wx,lI w0 b p q wx→wx.cell? ⟨b,p,none⟩=some (.int .i64 q.id)∧wx.cell? ⟨b,p+1,none⟩=some (.int .i64 q.app)∧wx.cell? ⟨b,p+2,none⟩=some (.string (bs q.node))∧wx.cell? ⟨b,p+3,none⟩=some (.int .i64 q.mem)∧wx.cell? ⟨b,p+4,none⟩=some (.int .i64 q.cpu):=fun wx h=>h.1
theorem p8 (ao:Option Addr) (n c K:Nat) (w:World) (h:aY w ao n (jL K n)) (hn:n≤1048576) (h0:0<K) (h1:K≤1000000000000000) :
  Calls Tryz.prog 17 #[.slice ao n c,.int .i64 (K:Int)] w fun e w'=>e=.returned (.int .i64 ((K:Int)+5*(n:Int)))∧Below w.heap.size w w':=by
 have HR:=aA h
 clear h
 go_enter Tryz.func17,Tryz.ntmps17
 go_wp2
 go_loopw [1,5] (fun s i wr=>∃(j:Nat) (k:Int),j≤n∧i=.int .i64 j∧s=.int .i64 k∧k=(K:Int)+5*(j:Int)∧Hid (Below w.heap.size w wr)) (fun _ i _=>n - (intOf i).toNat)
 case atStart=>exact ⟨0,K,Nat.zero_le _,rfl,rfl,by omega,aA (Below.refl _ _)⟩
 case round=>
  obtain ⟨j,k,hj,rfl,rfl,hk,HB⟩:=hrel
  by_cases hlt:j<n
  ·obtain ⟨b,off,rfl,hq⟩:=((uH HR).below (uH HB)).at hlt
   have hqq:=hq (by rw [zH];exact hlt)
   rw [aB3] at hqq
   have T0:∀wx,Calls Tryz.prog 47 #[.int .i64 (k+1+1)] wx fun e w'=>e=.returned (.string (bs (aB6 K j).node))∧Below wx.heap.size wx w':=fun wx=>by
    have:=aU (k+1+1) wx (by omega) (by omega)
    rw [show (k+1+1).toNat=K+5*j+1+1 by omega] at this
    exact this
   have h_0:(aB6 K j).id=k:=by rw [hk];rfl
   have h_1:(aB6 K j).app=k+1:=by rw [hk];rfl
   have h_3:(aB6 K j).mem=k+1+1+1:=by rw [hk];rfl
   have h_4:(aB6 K j).cpu=k+1+1+1+1:=by rw [hk];rfl
   obtain ⟨q,hqe⟩:∃q,aB6 K j=q:=⟨_,rfl⟩
   rw [hqe] at hqq T0 h_0 h_1 h_3 h_4
   have A0:=aA (show lI w b (off+j*5) q wr from ⟨hqq,uH HB⟩)
   have C0:=aA T0
   have HK:=aA hk
   have H_0:=aA h_0
   have H_1:=aA h_1
   have H_3:=aA h_3
   have H_4:=aA h_4
   have R:=lI.read w b (off+j*5) q
   have R':=aA R
   obtain ⟨r0,r1,_,_,_⟩:=R _ (uH A0)
   rw [h_0] at r0
   rw [h_1] at r1
   have j0:(0:Int)≤j:=by omega
   have j1:(j:Int)<n:=by omega
   have hk0:0<k:=by omega
   have hk1:k≤1000000010000000:=by omega
   have hw1:IntKind.i64.wrap (k+1)=k+1:=by rw [IntKind.wrap_i64];omega
   have hw2:IntKind.i64.wrap (k+1+1)=k+1+1:=by rw [IntKind.wrap_i64];omega
   clear hq hqq T0 hqe hk h_0 h_1 h_3 h_4 R
   go_wp2_with fail
   have R:=uH R'
   clear r0 r1
   go_region_held3 (fun wx=>lI w b (off+j*5) q wx)
    (first | (with_reducible assumption) | exact (uH A0).drew | exact lI.call (by assumption) (by assumption))
    (first
    | (go_at_call 47;refine (uH C0 _).mono ?_;rintro e wt ⟨rfl,hb⟩;have SA:=lI.call (w0:=w) (b:=b) (p:=off+j*5) (q:=q) (by assumption) hb))
   obtain ⟨_,_,_,r3,r4⟩:=R _ SA
   rw [uH H_3] at r3
   rw [uH H_4] at r4
   have HB2:=aA SA.2
   clear SA A0 R C0 R'
   go_wp2
   go_roundw
   case rel=>exact ⟨j+1,k+1+1+1+1+1,by omega,by go_num,by go_num,by have:=uH HK;omega,HB2⟩
   case measure=>simp [intOf];omega
  ·have hjn:j=n:=by omega
   subst hjn
   go_wp2
   go_ret
   exact ⟨bQ (by omega),uH HB⟩
abbrev aCp (q:AV):List Value:=[.int .i64 q.id,.string (bs q.queue),.slice q.ao q.len q.cap]
def bY:List AV→List Value
 | []=>[]
 | q::t=>aCp q++bY t
theorem yV (a:List AV) (q:AV):bY (a++[q])=bY a++aCp q:=by
 induction a with
 | nil=>rfl
 | cons x t ih=>rw [List.cons_append,bY,bY,ih,List.append_assoc]
theorem gU:∀l:List AV,(bY l).length=l.length*3
 | []=>rfl
 | q::t=>by rw [bY,List.length_append,gU t];simp;omega
theorem kS:∀(l:List AV) (i:Nat) (h:i<l.length),(bY l)[i*3]? = some (.int .i64 l[i].id)∧(bY l)[i*3+1]? = some (.string (bs l[i].queue))∧(bY l)[i*3+2]? = some (.slice l[i].ao l[i].len l[i].cap)
 | q::t,0,_=>⟨rfl,rfl,rfl⟩
 | q::t,i+1,h=>by
  have e:=kS t i (by simpa using h)
  have k:∀j,(bY (q::t))[(i+1)*3+j]? = (bY t)[i*3+j]?:=fun j=>by
   rw [bY,show (i+1)*3+j=(aCp q).length+(i*3+j) by simp;omega,List.getElem?_append_right (by omega)]
   congr 1
   omega
  have k0:=k 0
  simp only [Nat.add_zero] at k0
  rw [k0,k 1,k 2]
  simpa using e
theorem yT {w:World} {b off len:Nat} {l:List AV} (h:eF w (some ⟨b,off,none⟩) len l):∀j u,(bY l)[j]? = some u→w.cell? ⟨b,off+j,none⟩=some u:=fun j u hj=>by
 have hjl:j<l.length*3:=by rw [←gU];exact (List.getElem?_eq_some_iff.1 hj).1
 obtain ⟨h1,h2⟩:=h
 rcases h2 with h2 | ⟨b',off',e,h4⟩
 ·omega
 ·cases e
  have hi:j / 3<l.length:=by omega
  obtain ⟨a0,a1,a2⟩:=kS l (j / 3) hi
  obtain ⟨c0,c1,c2⟩:=h4 (j / 3) hi
  rcases (show j % 3=0∨j % 3=1∨j % 3=2 by omega) with e | e | e
  ·rw [show j=j / 3*3 by omega] at hj ⊢;rw [a0] at hj;cases hj;exact c0
  ·rw [show j=j / 3*3+1 by omega] at hj ⊢;rw [a1] at hj;cases hj;rw [←Nat.add_assoc];exact c1
  ·rw [show j=j / 3*3+2 by omega] at hj ⊢;rw [a2] at hj;cases hj;rw [←Nat.add_assoc];exact c2
theorem yU:∀(l:List AV),∀u ∈ bY l,u.oneCell'=true
 | [],u,h=>by simp [bY] at h
 | q::t,u,h=>by
  rw [bY,List.mem_append] at h
  rcases h with h | h
  ·simp at h
   rcases h with rfl | rfl | rfl<;>rfl
  ·exact yU t u h
def aAs (B:Nat) (w:World) (v:Value) (l:List AV):Prop:=w.ownsRow B 74 3 v l.length (bY l)
theorem aHq (B:Nat) (w:World):aAs B w (.slice none 0 0) []:=World.ownsRow_nil _ _ _ _
theorem yQ (w:World):w.alloc (.cells #[] 74) |>.ownsRow w.heap.size 74 3 (.slice (some ⟨w.heap.size,0,none⟩) 0 0) 0 []:=
 ⟨rfl,.inr ⟨w.heap.size,0,#[],rfl,Nat.le_refl _,by show (w.heap.push _)[w.heap.size]? = _;simp,Nat.le_refl _,by unfold maxLen;omega,rfl,rfl⟩⟩
theorem yR {w w':World} {B:Nat} {v:Value} {l:List AV} (h:aAs B w v l) (hb:Below w.heap.size w w'):aAs B w' v l:=
 World.ownsRow.kept h (aH (aF w none) hb) (by by_cases e:v.ownBlock=none;exact .inl e;exact .inr e)
theorem uU {w:World} {B B':Nat} {v:Value} {l:List AV} (h:aAs B w v l) (hb:B'≤B):aAs B' w v l:=by
 obtain ⟨h1,h2⟩:=h
 refine ⟨h1,?_⟩
 rcases h2 with h2 | ⟨g,cap,cur,a,b,c⟩
 ·exact .inl h2
 ·exact .inr ⟨g,cap,cur,a,Nat.le_trans hb b,c⟩
theorem aHp {w:World} {B:Nat} {v:Value} {l:List AV} (h:aAs B w v l):∃ao cap,v=.slice ao l.length cap∧eF w ao l.length l∧l.length≤cap∧(l≠[]→∃g cur,ao=some ⟨g,0,none⟩∧B≤g∧w.heap[g]? = some (.cells cur 74 (0,0))∧cur.size=cap*3):=by
 rcases h.2 with ⟨rfl,h0⟩ | ⟨g,cap,cur,rfl,h1,h2,h3,h4,h5,h6⟩
 ·exact ⟨none,0,by rw [h0],⟨rfl,.inl h0⟩,by omega,fun hn=>absurd (List.length_eq_zero_iff.1 h0) hn⟩
 ·refine ⟨some ⟨g,0,none⟩,cap,rfl,⟨rfl,.inr ⟨g,0,rfl,fun i hi=>?_⟩⟩,h3,fun _=>⟨g,cur,rfl,h1,h2,h5⟩⟩
  obtain ⟨a,b,c⟩:=kS l i hi
  have k:∀j (v:Value),j<l.length*3→(bY l)[j]? = some v→w.cell? ⟨g,j,none⟩=some v:=fun j v hj hv=>by
   rw [←h6,List.getElem?_take_of_lt hj] at hv
   simp [World.cell?,h2]
   simpa using hv
  unfold aFh
  rw [Nat.zero_add]
  exact ⟨k _ _ (by omega) a,k _ _ (by omega) b,k _ _ (by omega) c⟩
theorem yP {w:World} {B:Nat} {v:Value} {l:List AV} (h:aAs B w v l) (k j:Nat) (x:Value) (hk:k<B):aAs B (w.setCell ⟨k,j,none⟩ x) v l:=by
 obtain ⟨h1,h2⟩:=h
 refine ⟨h1,?_⟩
 rcases h2 with h2 | ⟨g,cap,cur,a,b,c,d⟩
 ·exact .inl h2
 ·exact .inr ⟨g,cap,cur,a,b,(heap_setCell_other w ⟨k,j,none⟩ g x (show g≠k by omega)).trans c,d⟩
theorem Tryz.infoApp:(Tryz.prog.info? 74).map (fun i=>(i.zero,i.size,i.bytes))=some (some (.agg #[.int .i64 0,.string ByteArray.empty,.slice none 0 0]),3,48):=by kernel_rfl
theorem aCL (ao:Option Addr) (len cap:Nat) (l:List AV) (w:World) (h:eF w ao len l) (hl:len≤1048576) :
  Calls Tryz.prog 64 #[.slice ao len cap] w fun e w'=>∃v,e=.returned v∧aAs w.heap.size w' v l∧Below w.heap.size w w':=by
 obtain ⟨i0,hi,hz0,hz1,hz2⟩:=info_parts Tryz.infoApp
 cases ao with
 | none=>
  have hn:len=0:=by rcases h.2 with h | ⟨b,off,e,_⟩;exact h;cases e
  subst hn
  have hl0:l=[]:=List.length_eq_zero_iff.1 h.1.symm
  subst hl0
  have hnl:∀wx,(binOp .eql 30 (.slice none 0 cap) (.slice none 0 0)).run Tryz.prog wx=.ok (.bool true) wx:=fun wx=>Lib.run_eql_slice_nil wx _ _ none 0 cap 0 0 Tryz.underlying30
  clear h hl
  go_enter Tryz.func64,Tryz.ntmps64
  go_wp2
  go_ret
  exact ⟨_,rfl,aHq _ _,Below.refl _ _⟩
 | some ad=>
  have hnew:∀j u,(bY l)[j]? = some u→(w.alloc (.cells #[] 74)).cell? (ad.add j)=some u:=fun j u hj=>by
   have hjl:j<l.length*3:=by rw [←gU];exact (List.getElem?_eq_some_iff.1 hj).1
   rcases h.2 with h0 | ⟨b,off,e,_⟩
   ·have:=h.1;omega
   ·cases e
    have:=yT (h.below (yA (Below.refl _ w) (.cells #[] 74))) j u hj
    rw [Lib.add_plain]
    exact this
  have HNW:=aA hnew
  have HLN:=aA h.1
  have hown:=yQ w
  have hll:(bY l).length=len*3:=by rw [gU,h.1]
  have hone:=yU l
  have hnl:∀wx,(binOp .eql 30 (.slice (some ad) len cap) (.slice none 0 0)).run Tryz.prog wx=.ok (.bool false) wx:=fun wx=>Lib.run_eql_slice_nil wx _ _ (some ad) len cap 0 0 Tryz.underlying30
  clear h hnew
  go_enter Tryz.func64,Tryz.ntmps64
  go_wp2_with (at_builtin;refine wpList_append_own _ rfl _ _ 30 rfl w.heap.size 74 i0 (.agg #[.int .i64 0,.string ByteArray.empty,.slice none 0 0]) 3 48 Tryz.underlying30 hi hz0 hz1 hz2 rfl (by decide) _ _ _ rfl hown ad len cap (bY l) rfl hll (uH HNW) hone ?c3 ?c4 ?c5 ?_)
  case c3=>unfold maxLen;omega
  case c4=>omega
  case c5=>simp
  intro v' w3 hown' hgrow _
  have HO:=aA (show aAs w.heap.size w3 v' l by
   unfold aAs
   rw [←uH HLN]
   simpa using hown')
  have HB:=aA (show Below w.heap.size w w3 from (yA (Below.refl _ w) (.cells #[] 74)).grown hgrow (by simp) (fun k e=>by simp [Value.ownBlock] at e;omega))
  clear hown' hgrow hown hone hll
  go_wp2
  go_ret
  exact ⟨_,rfl,uH HO,uH HB⟩
end
end Go.Proofs.YtdhibeclkdepiaaGreat
