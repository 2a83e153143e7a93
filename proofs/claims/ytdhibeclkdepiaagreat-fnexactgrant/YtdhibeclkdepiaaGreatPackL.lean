/-
  bI in one: KpAB, BackM, Cel, MarkFM, MarkAM, OwnM, CloneQ, MarkS.
-/
import Derived.RangeFuncNested
import Derived.RangeFuncBound
import Derived.RangeFuncCalls
import Derived.RangeFuncLeaves
import Derived.Shelf.AbstractIn
import Derived.Shelf.RegionOpen
import Derived.OwnWalkIn
import Derived.TacticsInMore
import Derived.LoopNIn
import Derived.LoopIn
import Derived.Test.YtdhibeclkdepiaaGreatPackI
import Derived.Lib.SliceRun
import Derived.Test.YtdhibeclkdepiaaGreatPackB
set_option maxRecDepth 100000
set_option maxHeartbeats 16000000
set_option linter.unusedVariables false
set_option linter.unusedSimpArgs false
namespace Go.Proofs.YtdhibeclkdepiaaGreat
section
open Go.RowKit Go.Shelf
def KpA (W W':World):Prop:=∀(k:Nat) (o:Obj),W.heap[k]? = some o→o.isCells=true→W'.heap[k]? = some o
theorem aII {A B C:World} (h:KpA A B) (k:KpA B C):KpA A C:=fun i o ho hc=>k i o (h i o ho hc) hc
theorem aKB {w:World} (W:World) (l:Nat) (o o':Obj) (hl:w.heap.size≤l) (h:W.heap[l]? = some o) (h1:o.isCells=false) (h2:o.isWalk=false):KpA W (W.putObj l o'):=fun k q hq hc=>by
 have hne:k≠l:=fun e=>by
  subst e
  rw [hq] at h
  cases h
  rw [h1] at hc
  cases hc
 exact ((grownBy_putObj' W l o').block k (lt_of_block hq) (by simp;omega)).trans hq
theorem pR {W W':World} (h:Below W.heap.size W W'):KpA W W':=fun k o ho _=>(h.block k (lt_of_block ho)).trans ho
theorem aFV {W:World} {b j:Nat} {v:Value} (hc:W.cell? ⟨b,j,none⟩=some v):∃o,W.heap[b]? = some o∧o.isCells=true:=by
 cases h:W.heap[b]? with
 | none=>simp [World.cell?,h] at hc
 | some o=>
  refine ⟨o,rfl,?_⟩
  cases o<;>simp [World.cell?,h] at hc<;>rfl
theorem KpA.cell {W W':World} (h:KpA W W') {b j:Nat} {v:Value} (hc:W.cell? ⟨b,j,none⟩=some v):W'.cell? ⟨b,j,none⟩=some v:=by
 obtain ⟨o,h1,h2⟩:=aFV hc
 have h3:=h b o h1 h2
 unfold World.cell? at hc ⊢
 rw [h1] at hc
 rw [h3]
 exact hc
theorem sJ {w w':World} (hb:Below w.heap.size w w'):KeepsOthers w w':=KeepsOthers.of_grownBy (row:=none) (aH (aF w none) hb) (fun j o e=>by cases e)
attribute [local go_sem] Oper.semAt_some
abbrev aFb:={ m:Mac // m.name.length≤1048576 }
theorem aZ.kpa {W W':World} {ao:Option Addr} {len:Nat} {l:List Mac} (h:aZ W ao len l) (k:KpA W W'):aZ W' ao len l:=by
 obtain ⟨h1,h2⟩:=h
 refine ⟨h1,?_⟩
 rcases h2 with h2 | ⟨b,off,h3,h4⟩
 ·exact .inl h2
 ·exact .inr ⟨b,off,h3,fun i hi=>let ⟨a,b,c,d⟩:=h4 i hi;⟨k.cell a,k.cell b,k.cell c,k.cell d⟩⟩
theorem aFY (n l Bs len cap:Nat) (ao:Option Addr) (ms:List Mac) (J Jx:List (Int×aFb)→World→Prop)
  (hY:∀pre x W1,J pre W1→pre.length<ms.length→YieldAt Fence.wide (n - 1) Tryz.prog l #[.int .i64 x.1,aAq x.2.1] W1 fun e W'=>
   (e=.returned (.bool true)∧J (pre++[x]) W'∧KpA W1 W')∨(e=.returned (.bool false)∧Jx (pre++[x]) W'))
  (W:World) (hBs:W.cell? ⟨Bs,0,none⟩=some (.slice ao len cap)) (hg:aZ W ao len ms) (hl:len≤1048576) (hN:∀m ∈ ms,m.name.length≤1048576) (h0:J [] W) :
  CallsIn Fence.wide n Tryz.prog 157 #[.func (.yield l) #[] #[],.pointer (some ⟨Bs,0,none⟩)] W fun e W'=>(∃v,e=.returned v)∧
   ((∃ys:List (Int×aFb),Hid (ys.map (fun x:Int×aFb=>x.2.1)=ms.reverse)∧J ys W')∨(∃pre,Jx pre W')):=by
 have HY:=aA hY
 have HBs:=aA hBs
 have HG:=aA hg
 have HLEN:=aA hg.1
 have H0:=aA h0
 have HNN:=aA hN
 clear hY hg h0 hN
 refine callsIn_of_wp Tryz.func157 rfl trivial ?_ rfl
 simp only [Tryz.ntmps157,List.size_toArray,List.length_cons,List.length_nil,Nat.reduceAdd,Nat.reduceSub,Array.replicate_succ,Array.replicate_zero,List.push_toArray,List.append_toArray,List.nil_append,List.cons_append]
 gi_wp2
 clear hBs
 gi_loopw [3] (fun i wr=>∃(k:Nat) (pre:List (Int×aFb)),k≤len∧i=.int .i64 ((k:Int) - 1)∧Hid (pre.length+k=ms.length)∧Hid (pre.map (fun x:Int×aFb=>x.2.1)=(ms.drop k).reverse)∧Hid (J pre wr)∧Hid (wr.cell? ⟨Bs,0,none⟩=some (.slice ao len cap))∧Hid (aZ wr ao len ms)) (fun i _=>(intOf i+1).toNat)
 case atStart=>exact ⟨len,[],Nat.le_refl _,by go_num,aA (by have:=uH HLEN;simp;omega),aA (by rw [List.drop_of_length_le (by have:=uH HLEN;omega)];rfl),H0,HBs,HG⟩
 case round=>
  obtain ⟨k,pre,hk,rfl,HL,HM,HJ,HB,HGr⟩:=hrel
  cases k with
  | zero=>
   gi_wp2
   go_end0
   exact ⟨⟨_,rfl⟩,.inl ⟨pre,aA (by rw [uH HM];rfl),uH HJ⟩⟩
  | succ j=>
   have hj:j<len:=by omega
   obtain ⟨b,off,rfl,hq⟩:=(uH HGr).at hj
   have hjm:j<ms.length:=by have:=uH HLEN;omega
   obtain ⟨c0,c1,c2,c3⟩:=hq hjm
   have hbox:=uH HB
   have hel:=uH HNN ms[j] (List.getElem_mem _)
   obtain ⟨fn,tmps,assign,body,hy,hR⟩:=uH HY pre ((j:Int),⟨ms[j],hel⟩) wr (uH HJ) (by have:=uH HL;omega)
   have HRR:=aA hR
   have HM2:=aA (show (pre++[((j:Int),(⟨ms[j],hel⟩:aFb))]).map (fun x:Int×aFb=>x.2.1)=(ms.drop j).reverse by rw [List.map_append,uH HM,List.drop_eq_getElem_cons hjm,List.reverse_cons];rfl)
   have hij:((j+1:Nat):Int) - 1=(j:Int):=by omega
   obtain ⟨y,hyy⟩:∃y:aFb,(⟨ms[j],hel⟩:aFb)=y:=⟨_,rfl⟩
   have hy1:ms[j]=y.1:=by rw [←hyy]
   rw [hyy] at hy HRR HM2
   rw [hy1] at c0 c1 c2 c3
   obtain ⟨⟨nm,me,cp,se⟩,hyn⟩:=y
   simp only at hy c0 c1 c2 c3
   rw [hij]
   have j0:(0:Int)≤j:=by omega
   have j1:(j:Int)<len:=by omega
   clear hR hyy hy1 hij HM hq hjm hel
   gi_wp2
   refine ⟨(by intro e;cases e),?_⟩
   refine (uH HRR).mono ?_
   rintro e W3 (⟨rfl,hJ3,hk3⟩ | ⟨rfl,hJx3⟩)
   ·have HB3:=aA (hk3.cell (uH HB))
    have HG3:=aA ((uH HGr).kpa hk3)
    have HJ3:=aA hJ3
    clear hk3 hJ3 hbox hy HRR c0 c1 c2 c3
    gi_wp2
    go_roundw
    case rel=>exact ⟨j,pre++[((j:Int),⟨⟨nm,me,cp,se⟩,hyn⟩)],by omega,by go_num,aA (by have:=uH HL;simp;omega),HM2,HJ3,HB3,HG3⟩
    case measure=>simp [intOf]
   ·gi_wp2
    refine bodyPost_ret (results_none rfl _ _ _) rfl ?_
    exact ⟨⟨_,rfl⟩,.inr ⟨_,hJx3⟩⟩
theorem aD5 (n Bs len cap:Nat) (ao:Option Addr) (ms:List Mac) (w:World) (hBs:w.cell? ⟨Bs,0,none⟩=some (.slice ao len cap)) (hrow:aZ w ao len ms) (hl:len≤1048576) (hN:∀m ∈ ms,m.name.length≤1048576) :
  SeqStopsK Fence.wide n Tryz.prog 157 #[.pointer (some ⟨Bs,0,none⟩)] (fun x:Int×aFb=>#[.int .i64 x.1,aAq x.2.1]) KpA (fun ys=>Hid (ys.map (fun x:Int×aFb=>x.2.1)=ms.reverse)) (fun _=>True) ms.length w:=by
 intro l J Jx W hW hJ hJx hY h0
 refine (aFY n l Bs len cap ao ms J Jx hY W ((hW.cell (yG hBs)).trans hBs) (hrow.below hW) hl hN h0).mono ?_
 rintro e W' ⟨he,⟨ys,h1,h2⟩ | ⟨pre,h2⟩⟩
 ·exact ⟨he,.inl ⟨ys,h1,h2⟩⟩
 ·exact ⟨he,.inr ⟨pre,trivial,h2⟩⟩
theorem aHP (v:Value) (w:World) (hv:v.oneCell'=true) :
  Calls Tryz.prog 126 #[v] w fun e w'=>e=.returned (.func (.func 157) #[] #[.pointer (some ⟨w.heap.size,0,none⟩)])∧w.alloc (.cells #[v] 31)=w':=by
 have hmf:∀(fn:Fn) (first cap:Array Value) (w:World),(Instr.makeFunc fn first cap).run Tryz.prog w=.ok (.func fn first cap) w:=fun _ _ _ _=>rfl
 go_enter Tryz.func126,Tryz.ntmps126
 go_wp2
 go_ret
 exact ⟨rfl,rfl⟩
theorem aFB (m:Mac) (w:World) :
  Calls Tryz.prog 127 #[aAq m] w fun e w'=>e=.returned (.agg #[.string (bs m.name),.int .i64 0])∧Below w.heap.size w w':=by
 obtain ⟨nm,me,cp,se⟩:=m
 go_enter Tryz.func127,Tryz.ntmps127
 go_wp2
 refine bodyPost_ret (v:=.agg #[.string (bs nm),.int .i64 0]) (by simp [results,Tryz.results127,go_sem]) rfl ⟨rfl,?_⟩
 repeat (first | exact Below.refl _ _ | refine yA ?_ _ | refine Below.drew ?_ | refine yC ?_ _ _ _ (by omega))
end
section
open Go.RowKit
theorem kZ.cel {w:World} {t:TypeId} {g n k:Nat} {l:List Q} (h:kZ w t g n k l):Cel w t g (n*4):=let ⟨arr,h1,h2,_⟩:=h;⟨arr,h1,h2⟩
theorem bG.cel {w:World} {t:TypeId} {g n k:Nat} {l:List Ask} (h:bG w t g n k l):Cel w t g (n*5):=let ⟨arr,h1,h2,_⟩:=h;⟨arr,h1,h2⟩
theorem bN.cel {w:World} {t:TypeId} {g n k:Nat} {l:List Mac} (h:bN w t g n k l):Cel w t g (n*4):=let ⟨arr,h1,h2,_⟩:=h;⟨arr,h1,h2⟩
theorem bO.cel {w:World} {t:TypeId} {g n k:Nat} {l:List Con} (h:bO w t g n k l):Cel w t g (n*5):=let ⟨arr,h1,h2,_⟩:=h;⟨arr,h1,h2⟩
theorem bM.cel {w:World} {t:TypeId} {g n k:Nat} {l:List dB} (h:bM w t g n k l):Cel w t g (n*3):=let ⟨arr,h1,h2,_⟩:=h;⟨arr,h1,h2⟩
def aCx (k j:Nat):Mac:=⟨109::dgs (k+4*j),(k:Int)+4*(j:Int)+1,(k:Int)+4*(j:Int)+1+1,(k:Int)+4*(j:Int)+1+1+1⟩
def jW (k n:Nat):List Mac:=(List.range n).map (aCx k)
theorem zG (k n:Nat):(jW k n).length=n:=by simp [jW]
theorem aB2 (k n j:Nat) (h:j<(jW k n).length):(jW k n)[j]=aCx k j:=by simp [jW]
theorem bN.tail {w:World} {t:TypeId} {g n k:Nat} {l:List Mac} (h:bN w t g n k l) {p:Nat} (hp:k*4≤p) (v:Value):bN (w.setCell ⟨g,p,none⟩ v) t g n k l:=by
 obtain ⟨arr,h1,h2,h3⟩:=h
 refine ⟨_,heap_setCell_same w g p _ _ v h1,by simp [h2],fun i hi hik=>?_⟩
 obtain ⟨a,b,c,d⟩:=h3 i hi hik
 refine ⟨?_,?_,?_,?_⟩
 ·rw [←a,Array.getElem?_setIfInBounds,if_neg (by omega)]
 ·rw [←b,Array.getElem?_setIfInBounds,if_neg (by omega)]
 ·rw [←c,Array.getElem?_setIfInBounds,if_neg (by omega)]
 ·rw [←d,Array.getElem?_setIfInBounds,if_neg (by omega)]
theorem bN.next {w:World} {t:TypeId} {g n k:Nat} {l:List Mac} (h:bN w t g n k l) (c:∀hk:k<l.length,nN w g (k*4) l[k]):bN w t g n (k+1) l:=by
 obtain ⟨arr,h1,h2,h3⟩:=h
 refine ⟨arr,h1,h2,fun i hi hik=>?_⟩
 by_cases e:i=k
 ·subst e
  obtain ⟨c0,c1,c2,c3⟩:=c hi
  simp [World.cell?,h1] at c0 c1 c2 c3
  exact ⟨c0,c1,c2,c3⟩
 ·exact h3 i hi (by omega)
theorem bN.rowOf {w:World} {t:TypeId} {g c n:Nat} {l:List Mac} (h:bN w t g c n l) (hl:n=l.length):aZ w (some ⟨g,0,none⟩) n l:=by
 obtain ⟨arr,h1,h2,h3⟩:=h
 refine ⟨hl,.inr ⟨g,0,rfl,fun i hi=>?_⟩⟩
 obtain ⟨a,b,c,d⟩:=h3 i hi (by omega)
 unfold nN
 simp only [Nat.zero_add]
 exact ⟨by simp [World.cell?,h1,a],by simp [World.cell?,h1,b],by simp [World.cell?,h1,c],by simp [World.cell?,h1,d]⟩
theorem kW {w:World} {g p q:Nat} {u v:Value} (h:w.cell? ⟨g,p,none⟩=some u) (hne:q≠p):(w.setCell ⟨g,q,none⟩ v).cell? ⟨g,p,none⟩=some u:=
 (World.cell?_setCell_other _ _ _ _ (fun e=>hne (congrArg Addr.off e))).trans h
theorem qV (g n c K:Nat) {d:Nat} (w:World) (h:Cel w 104 g (c*4)) (hc:n≤c) (hn:n≤1048576) (h0:0<K) (h1:K≤1000000000000000) :
  Calls Tryz.prog 37 #[.slice (some ⟨g,0,none⟩) n d,.int .i64 (K:Int)] w fun e w'=>e=.returned (.int .i64 ((K:Int)+4*(n:Int)))∧aZ w' (some ⟨g,0,none⟩) n (jW K n)∧Mkd g (g+1) w w':=by
 have HQ0:=aA (show bN w 104 g c 0 (jW K n) by obtain ⟨arr,h1,h2⟩:=h;exact ⟨arr,h1,h2,fun i _ h=>absurd h (by omega)⟩)
 clear h
 go_enter Tryz.func37,Tryz.ntmps37
 go_wp2
 go_loopw [1,5] (fun s i wr=>∃(j:Nat) (k:Int),j≤n∧i=.int .i64 j∧s=.int .i64 k∧k=(K:Int)+4*(j:Int)∧Hid (bN wr 104 g c j (jW K n))∧Hid (Mkd g (g+1) w wr)) (fun _ i _=>n - (intOf i).toNat)
 case atStart=>exact ⟨0,K,Nat.zero_le _,rfl,rfl,by omega,HQ0,aA (Mkd.refl _ _ _)⟩
 case round=>
  obtain ⟨j,k,hj,rfl,rfl,hk,HQ,HG⟩:=hrel
  by_cases hlt:j<n
  ·have HK:=aA hk
   have hk0:0<k:=by omega
   have hk1:k≤1000000010000000:=by omega
   clear hk
   go_wp2_with fail
   refine (aU (k) _ (by omega) (by omega)).mono ?_
   rintro e w1 ⟨rfl,hb⟩
   have HQt:=aA ((uH HQ).below hb)
   have HGt:=aA ((uH HG).on hb)
   clear HQ HG hb
   obtain ⟨v0,d0⟩:=(uH HQt).cell (j:=j*4) (by omega)
   have f0:=(uH HQt).frozen (j*4)
   have Z0_1:=aA (World.cell?_setCell_same _ ⟨g,j*4,none⟩ (.string (mk (k).toNat)) d0)
   have HQ1z:=aA ((uH HQt).tail (p:=j*4) (by omega) (.string (mk (k).toNat)))
   have HG1z:=aA ((uH HGt).sc g (j*4) (.string (mk (k).toNat)) (Nat.le_refl _) (by omega))
   obtain ⟨v1,d1⟩:=(uH HQ1z).cell (j:=j*4+1) (by omega)
   have f1:=(uH HQ1z).frozen (j*4+1)
   have Z0_2:=aA (kW (q:=j*4+1) (v:=.int .i64 (k+1)) (uH Z0_1) (by omega))
   have Z1_3:=aA (World.cell?_setCell_same _ ⟨g,j*4+1,none⟩ (.int .i64 (k+1)) d1)
   have HQ2z:=aA ((uH HQ1z).tail (p:=j*4+1) (by omega) (.int .i64 (k+1)))
   have HG2z:=aA ((uH HG1z).sc g (j*4+1) (.int .i64 (k+1)) (Nat.le_refl _) (by omega))
   obtain ⟨v2,d2⟩:=(uH HQ2z).cell (j:=j*4+2) (by omega)
   have f2:=(uH HQ2z).frozen (j*4+2)
   have Z0_4:=aA (kW (q:=j*4+2) (v:=.int .i64 (k+1+1)) (uH Z0_2) (by omega))
   have Z1_5:=aA (kW (q:=j*4+2) (v:=.int .i64 (k+1+1)) (uH Z1_3) (by omega))
   have Z2_6:=aA (World.cell?_setCell_same _ ⟨g,j*4+2,none⟩ (.int .i64 (k+1+1)) d2)
   have HQ3z:=aA ((uH HQ2z).tail (p:=j*4+2) (by omega) (.int .i64 (k+1+1)))
   have HG3z:=aA ((uH HG2z).sc g (j*4+2) (.int .i64 (k+1+1)) (Nat.le_refl _) (by omega))
   obtain ⟨v3,d3⟩:=(uH HQ3z).cell (j:=j*4+3) (by omega)
   have f3:=(uH HQ3z).frozen (j*4+3)
   have HN:=aA (show bN _ 104 g c (j+1) (jW K n) from ((uH HQ3z).tail (p:=j*4+3) (by omega) (.int .i64 (k+1+1+1))).next (fun hj'=>by
    rw [aB2]
    have e1:(k).toNat=K+4*j:=by have:=uH HK;omega
    have e3:=uH HK
    have y0:=kW (q:=j*4+3) (v:=.int .i64 (k+1+1+1)) (uH Z0_4) (by omega)
    have y1:=kW (q:=j*4+3) (v:=.int .i64 (k+1+1+1)) (uH Z1_5) (by omega)
    have y2:=kW (q:=j*4+3) (v:=.int .i64 (k+1+1+1)) (uH Z2_6) (by omega)
    have y3:=World.cell?_setCell_same _ ⟨g,j*4+3,none⟩ (.int .i64 (k+1+1+1)) d3
    refine ⟨y0.trans ?_,y1.trans ?_,y2.trans ?_,y3.trans ?_⟩
    ·rw [e1];rfl
    ·rw [e3];rfl
    ·rw [e3];rfl
    ·rw [e3];rfl))
   have HGn:=aA ((uH HG3z).sc g (j*4+3) (.int .i64 (k+1+1+1)) (Nat.le_refl _) (by omega))
   clear HQt HGt Z0_1 HQ1z HG1z Z0_2 Z1_3 HQ2z HG2z HG3z Z0_4 Z1_5 Z2_6
   go_wp2
   go_roundw
   case rel=>exact ⟨j+1,k+1+1+1+1,by omega,by go_num,by go_num,by have:=uH HK;omega,HN,HGn⟩
   case measure=>simp [intOf];omega
  ·have hjn:j=n:=by omega
   subst hjn
   go_wp2
   go_ret
   exact ⟨bQ (by omega),(uH HQ).rowOf (by rw [zG]),uH HG⟩
def lD (w0:World) (b p:Nat) (q:Mac) (w:World):Prop:=nN w b p q∧Below w0.heap.size w0 w
theorem lD.call {w0 w w':World} {b p:Nat} {q:Mac} (h:lD w0 b p q w) (hb:Below w.heap.size w w'):lD w0 b p q w':=⟨h.1.below hb,yB h.2 hb⟩
theorem lD.drew {w0 w:World} {b p:Nat} {q:Mac} (h:lD w0 b p q w):lD w0 b p q w.drew:=h.call (Below.refl _ _).drew
theorem lD.read (w0:World) (b p:Nat) (q:Mac):∀wx,lD w0 b p q wx→wx.cell? ⟨b,p,none⟩=some (.string (bs q.name))∧wx.cell? ⟨b,p+1,none⟩=some (.int .i64 q.mem)∧wx.cell? ⟨b,p+2,none⟩=some (.int .i64 q.cpu)∧wx.cell? ⟨b,p+3,none⟩=some (.int .i64 q.seen):=fun wx h=>h.1
theorem tN (ao:Option Addr) (n c K:Nat) (w:World) (h:aZ w ao n (jW K n)) (hn:n≤1048576) (h0:0<K) (h1:K≤1000000000000000) :
  Calls Tryz.prog 40 #[.slice ao n c,.int .i64 (K:Int)] w fun e w'=>e=.returned (.int .i64 ((K:Int)+4*(n:Int)))∧Below w.heap.size w w':=by
 have HR:=aA h
 clear h
 go_enter Tryz.func40,Tryz.ntmps40
 go_wp2
 go_loopw [1,5] (fun s i wr=>∃(j:Nat) (k:Int),j≤n∧i=.int .i64 j∧s=.int .i64 k∧k=(K:Int)+4*(j:Int)∧Hid (Below w.heap.size w wr)) (fun _ i _=>n - (intOf i).toNat)
 case atStart=>exact ⟨0,K,Nat.zero_le _,rfl,rfl,by omega,aA (Below.refl _ _)⟩
 case round=>
  obtain ⟨j,k,hj,rfl,rfl,hk,HB⟩:=hrel
  by_cases hlt:j<n
  ·obtain ⟨b,off,rfl,hq⟩:=((uH HR).below (uH HB)).at hlt
   have hqq:=hq (by rw [zG];exact hlt)
   rw [aB2] at hqq
   have T0:∀wx,Calls Tryz.prog 47 #[.int .i64 (k)] wx fun e w'=>e=.returned (.string (bs (aCx K j).name))∧Below wx.heap.size wx w':=fun wx=>by
    have:=aU (k) wx (by omega) (by omega)
    rw [show (k).toNat=K+4*j by omega] at this
    exact this
   have h_1:(aCx K j).mem=k+1:=by rw [hk];rfl
   have h_2:(aCx K j).cpu=k+1+1:=by rw [hk];rfl
   have h_3:(aCx K j).seen=k+1+1+1:=by rw [hk];rfl
   obtain ⟨q,hqe⟩:∃q,aCx K j=q:=⟨_,rfl⟩
   rw [hqe] at hqq T0 h_1 h_2 h_3
   have A0:=aA (show lD w b (off+j*4) q wr from ⟨hqq,uH HB⟩)
   have C0:=aA T0
   have HK:=aA hk
   have H_1:=aA h_1
   have H_2:=aA h_2
   have H_3:=aA h_3
   have R:=lD.read w b (off+j*4) q
   have R':=aA R
   obtain ⟨_,_,_,_⟩:=R _ (uH A0)
   have j0:(0:Int)≤j:=by omega
   have j1:(j:Int)<n:=by omega
   have hk0:0<k:=by omega
   have hk1:k≤1000000010000000:=by omega
   clear hq hqq T0 hqe hk h_1 h_2 h_3 R
   go_wp2_with fail
   have R:=uH R'
   go_region_held3 (fun wx=>lD w b (off+j*4) q wx)
    (first | (with_reducible assumption) | exact (uH A0).drew | exact lD.call (by assumption) (by assumption))
    (first
    | (go_at_call 47;refine (uH C0 _).mono ?_;rintro e wt ⟨rfl,hb⟩;have SA:=lD.call (w0:=w) (b:=b) (p:=off+j*4) (q:=q) (by assumption) hb))
   obtain ⟨_,r1,r2,r3⟩:=R _ SA
   rw [uH H_1] at r1
   rw [uH H_2] at r2
   rw [uH H_3] at r3
   have HB2:=aA SA.2
   clear SA A0 R C0 R'
   go_wp2
   go_roundw
   case rel=>exact ⟨j+1,k+1+1+1+1,by omega,by go_num,by go_num,by have:=uH HK;omega,HB2⟩
   case measure=>simp [intOf];omega
  ·have hjn:j=n:=by omega
   subst hjn
   go_wp2
   go_ret
   exact ⟨bQ (by omega),uH HB⟩
def aB9 (k j:Nat):Ask:=⟨(k:Int)+5*(j:Int),(k:Int)+5*(j:Int)+1,(k:Int)+5*(j:Int)+1+1,109::dgs (k+5*j+1+1+1),(k:Int)+5*(j:Int)+1+1+1+1⟩
def jM (k n:Nat):List Ask:=(List.range n).map (aB9 k)
theorem zI (k n:Nat):(jM k n).length=n:=by simp [jM]
theorem aB4 (k n j:Nat) (h:j<(jM k n).length):(jM k n)[j]=aB9 k j:=by simp [jM]
theorem bG.tail {w:World} {t:TypeId} {g n k:Nat} {l:List Ask} (h:bG w t g n k l) {p:Nat} (hp:k*5≤p) (v:Value):bG (w.setCell ⟨g,p,none⟩ v) t g n k l:=by
 obtain ⟨arr,h1,h2,h3⟩:=h
 refine ⟨_,heap_setCell_same w g p _ _ v h1,by simp [h2],fun i hi hik=>?_⟩
 obtain ⟨a,b,c,d,e⟩:=h3 i hi hik
 refine ⟨?_,?_,?_,?_,?_⟩
 ·rw [←a,Array.getElem?_setIfInBounds,if_neg (by omega)]
 ·rw [←b,Array.getElem?_setIfInBounds,if_neg (by omega)]
 ·rw [←c,Array.getElem?_setIfInBounds,if_neg (by omega)]
 ·rw [←d,Array.getElem?_setIfInBounds,if_neg (by omega)]
 ·rw [←e,Array.getElem?_setIfInBounds,if_neg (by omega)]
theorem bG.next {w:World} {t:TypeId} {g n k:Nat} {l:List Ask} (h:bG w t g n k l) (c:∀hk:k<l.length,qJ w g (k*5) l[k]):bG w t g n (k+1) l:=by
 obtain ⟨arr,h1,h2,h3⟩:=h
 refine ⟨arr,h1,h2,fun i hi hik=>?_⟩
 by_cases e:i=k
 ·subst e
  obtain ⟨c0,c1,c2,c3,c4⟩:=c hi
  simp [World.cell?,h1] at c0 c1 c2 c3 c4
  exact ⟨c0,c1,c2,c3,c4⟩
 ·exact h3 i hi (by omega)
theorem bG.rowOf {w:World} {t:TypeId} {g c n:Nat} {l:List Ask} (h:bG w t g c n l) (hl:n=l.length):aO w (some ⟨g,0,none⟩) n l:=by
 obtain ⟨arr,h1,h2,h3⟩:=h
 refine ⟨hl,.inr ⟨g,0,rfl,fun i hi=>?_⟩⟩
 obtain ⟨a,b,c,d,e⟩:=h3 i hi (by omega)
 unfold qJ
 simp only [Nat.zero_add]
 exact ⟨by simp [World.cell?,h1,a],by simp [World.cell?,h1,b],by simp [World.cell?,h1,c],by simp [World.cell?,h1,d],by simp [World.cell?,h1,e]⟩
theorem bB {w:World} {g p q:Nat} {u v:Value} (h:w.cell? ⟨g,p,none⟩=some u) (hne:q≠p):(w.setCell ⟨g,q,none⟩ v).cell? ⟨g,p,none⟩=some u:=
 (World.cell?_setCell_other _ _ _ _ (fun e=>hne (congrArg Addr.off e))).trans h
theorem fD {w w':World} {g p:Nat} {u:Value} (h:w.cell? ⟨g,p,none⟩=some u) (hb:Below w.heap.size w w'):w'.cell? ⟨g,p,none⟩=some u:=(hb.cell (yG h)).trans h
theorem pQ (g n c K:Nat) {d:Nat} (w:World) (h:Cel w 77 g (c*5)) (hc:n≤c) (hn:n≤1048576) (h0:0<K) (h1:K≤1000000000000000) :
  Calls Tryz.prog 77 #[.slice (some ⟨g,0,none⟩) n d,.int .i64 (K:Int)] w fun e w'=>e=.returned (.int .i64 ((K:Int)+5*(n:Int)))∧aO w' (some ⟨g,0,none⟩) n (jM K n)∧Mkd g (g+1) w w':=by
 have HQ0:=aA (show bG w 77 g c 0 (jM K n) by obtain ⟨arr,h1,h2⟩:=h;exact ⟨arr,h1,h2,fun i _ h=>absurd h (by omega)⟩)
 clear h
 go_enter Tryz.func77,Tryz.ntmps77
 go_wp2
 go_loopw [1,5] (fun s i wr=>∃(j:Nat) (k:Int),j≤n∧i=.int .i64 j∧s=.int .i64 k∧k=(K:Int)+5*(j:Int)∧Hid (bG wr 77 g c j (jM K n))∧Hid (Mkd g (g+1) w wr)) (fun _ i _=>n - (intOf i).toNat)
 case atStart=>exact ⟨0,K,Nat.zero_le _,rfl,rfl,by omega,HQ0,aA (Mkd.refl _ _ _)⟩
 case round=>
  obtain ⟨j,k,hj,rfl,rfl,hk,HQ,HG⟩:=hrel
  by_cases hlt:j<n
  ·have HK:=aA hk
   have hk0:0<k:=by omega
   have hk1:k≤1000000010000000:=by omega
   clear hk
   obtain ⟨v0,d0⟩:=(uH HQ).cell (j:=j*5) (by omega)
   have f0:=(uH HQ).frozen (j*5)
   have X0:=aA (World.cell?_setCell_same wr ⟨g,j*5,none⟩ (.int .i64 k) d0)
   have HQ1:=aA ((uH HQ).tail (p:=j*5) (by omega) (.int .i64 k))
   have HG1:=aA ((uH HG).sc g (j*5) (.int .i64 k) (Nat.le_refl _) (by omega))
   obtain ⟨v1,d1⟩:=(uH HQ1).cell (j:=j*5+1) (by omega)
   have f1:=(uH HQ1).frozen (j*5+1)
   have X1:=aA (World.cell?_setCell_same _ ⟨g,j*5+1,none⟩ (.int .i64 (k+1)) d1)
   have X01:=aA (bB (q:=j*5+1) (v:=.int .i64 (k+1)) (uH X0) (by omega))
   have HQ2:=aA ((uH HQ1).tail (p:=j*5+1) (by omega) (.int .i64 (k+1)))
   have HG2:=aA ((uH HG1).sc g (j*5+1) (.int .i64 (k+1)) (Nat.le_refl _) (by omega))
   obtain ⟨v2,d2⟩:=(uH HQ2).cell (j:=j*5+2) (by omega)
   have f2:=(uH HQ2).frozen (j*5+2)
   have X2:=aA (World.cell?_setCell_same _ ⟨g,j*5+2,none⟩ (.int .i64 (k+1+1)) d2)
   have X02:=aA (bB (q:=j*5+2) (v:=.int .i64 (k+1+1)) (uH X01) (by omega))
   have X12:=aA (bB (q:=j*5+2) (v:=.int .i64 (k+1+1)) (uH X1) (by omega))
   have HQ3:=aA ((uH HQ2).tail (p:=j*5+2) (by omega) (.int .i64 (k+1+1)))
   have HG3:=aA ((uH HG2).sc g (j*5+2) (.int .i64 (k+1+1)) (Nat.le_refl _) (by omega))
   clear X0 X1 X01 HQ HG
   go_wp2_with fail
   refine (aU (k+1+1+1) _ (by omega) (by omega)).mono ?_
   rintro e w1 ⟨rfl,hb⟩
   have HQ4:=aA ((uH HQ3).below hb)
   have HG4:=aA ((uH HG3).on hb)
   have Y0:=aA (fD (uH X02) hb)
   have Y1:=aA (fD (uH X12) hb)
   have Y2:=aA (fD (uH X2) hb)
   clear hb d0 f0 d1 f1 d2 f2 X2 X02 X12 HQ1 HQ2 HQ3 HG1 HG2 HG3
   obtain ⟨v3,d3⟩:=(uH HQ4).cell (j:=j*5+3) (by omega)
   have f3:=(uH HQ4).frozen (j*5+3)
   have Z0:=aA (bB (q:=j*5+3) (v:=.string (mk (k+1+1+1).toNat)) (uH Y0) (by omega))
   have Z1:=aA (bB (q:=j*5+3) (v:=.string (mk (k+1+1+1).toNat)) (uH Y1) (by omega))
   have Z2:=aA (bB (q:=j*5+3) (v:=.string (mk (k+1+1+1).toNat)) (uH Y2) (by omega))
   have Z3:=aA (World.cell?_setCell_same w1 ⟨g,j*5+3,none⟩ (.string (mk (k+1+1+1).toNat)) d3)
   have HQ5:=aA ((uH HQ4).tail (p:=j*5+3) (by omega) (.string (mk (k+1+1+1).toNat)))
   have HG5:=aA ((uH HG4).sc g (j*5+3) (.string (mk (k+1+1+1).toNat)) (Nat.le_refl _) (by omega))
   obtain ⟨v4,d4⟩:=(uH HQ5).cell (j:=j*5+4) (by omega)
   have f4:=(uH HQ5).frozen (j*5+4)
   have HN:=aA (show bG _ 77 g c (j+1) (jM K n) from ((uH HQ5).tail (p:=j*5+4) (by omega) (.int .i64 (k+1+1+1+1))).next (fun hj'=>by
    rw [aB4]
    have e1:(k+1+1+1).toNat=K+5*j+1+1+1:=by have:=uH HK;omega
    have e3:=uH HK
    have y0:=bB (q:=j*5+4) (v:=.int .i64 (k+1+1+1+1)) (uH Z0) (by omega)
    have y1:=bB (q:=j*5+4) (v:=.int .i64 (k+1+1+1+1)) (uH Z1) (by omega)
    have y2:=bB (q:=j*5+4) (v:=.int .i64 (k+1+1+1+1)) (uH Z2) (by omega)
    have y3:=bB (q:=j*5+4) (v:=.int .i64 (k+1+1+1+1)) (uH Z3) (by omega)
    have y4:=World.cell?_setCell_same _ ⟨g,j*5+4,none⟩ (.int .i64 (k+1+1+1+1)) d4
    refine ⟨y0.trans ?_,y1.trans ?_,y2.trans ?_,y3.trans ?_,y4.trans ?_⟩
    ·rw [e3];rfl
    ·rw [e3];rfl
    ·rw [e3];rfl
    ·rw [e1];rfl
    ·rw [e3];rfl))
   have HG6:=aA ((uH HG5).sc g (j*5+4) (.int .i64 (k+1+1+1+1)) (Nat.le_refl _) (by omega))
   clear HQ4 HG4 HG5 Y0 Y1 Y2 Z0 Z1 Z2 Z3
   go_wp2
   go_roundw
   case rel=>exact ⟨j+1,k+1+1+1+1+1,by omega,by go_num,by go_num,by have:=uH HK;omega,HN,HG6⟩
   case measure=>simp [intOf];omega
  ·have hjn:j=n:=by omega
   subst hjn
   go_wp2
   go_ret
   exact ⟨bQ (by omega),(uH HQ).rowOf (by rw [zI]),uH HG⟩
abbrev aJq (q:Mac):List Value:=[.string (bs q.name),.int .i64 q.mem,.int .i64 q.cpu,.int .i64 q.seen]
def fA:List Mac→List Value
 | []=>[]
 | q::t=>aJq q++fA t
theorem jH:∀l:List Mac,(fA l).length=l.length*4
 | []=>rfl
 | q::t=>by rw [fA,List.length_append,jH t];simp;omega
theorem vE:∀(l:List Mac) (i:Nat) (h:i<l.length),(fA l)[i*4]? = some (.string (bs l[i].name))∧(fA l)[i*4+1]? = some (.int .i64 l[i].mem)∧(fA l)[i*4+2]? = some (.int .i64 l[i].cpu)∧(fA l)[i*4+3]? = some (.int .i64 l[i].seen)
 | q::t,0,_=>⟨rfl,rfl,rfl,rfl⟩
 | q::t,i+1,h=>by
  have e:=vE t i (by simpa using h)
  have k:∀j,(fA (q::t))[(i+1)*4+j]? = (fA t)[i*4+j]?:=fun j=>by
   rw [fA,show (i+1)*4+j=(aJq q).length+(i*4+j) by simp;omega,List.getElem?_append_right (by omega)]
   congr 1
   omega
  have k0:=k 0
  simp only [Nat.add_zero] at k0
  rw [k0,k 1,k 2,k 3]
  simpa using e
theorem zD {w:World} {b off len:Nat} {l:List Mac} (h:aZ w (some ⟨b,off,none⟩) len l):∀j u,(fA l)[j]? = some u→w.cell? ⟨b,off+j,none⟩=some u:=fun j u hj=>by
 have hjl:j<l.length*4:=by rw [←jH];exact (List.getElem?_eq_some_iff.1 hj).1
 obtain ⟨h1,h2⟩:=h
 rcases h2 with h2 | ⟨b',off',e,h4⟩
 ·omega
 ·cases e
  have hi:j / 4<l.length:=by omega
  obtain ⟨a0,a1,a2,a3⟩:=vE l (j / 4) hi
  obtain ⟨c0,c1,c2,c3⟩:=h4 (j / 4) hi
  rcases (show j % 4=0∨j % 4=1∨j % 4=2∨j % 4=3 by omega) with e | e | e | e
  ·rw [show j=j / 4*4 by omega] at hj ⊢;rw [a0] at hj;cases hj;exact c0
  ·rw [show j=j / 4*4+1 by omega] at hj ⊢;rw [a1] at hj;cases hj;rw [←Nat.add_assoc];exact c1
  ·rw [show j=j / 4*4+2 by omega] at hj ⊢;rw [a2] at hj;cases hj;rw [←Nat.add_assoc];exact c2
  ·rw [show j=j / 4*4+3 by omega] at hj ⊢;rw [a3] at hj;cases hj;rw [←Nat.add_assoc];exact c3
theorem qR:∀(l:List Mac),∀u ∈ fA l,u.oneCell'=true
 | [],u,h=>by simp [fA] at h
 | q::t,u,h=>by
  rw [fA,List.mem_append] at h
  rcases h with h | h
  ·simp at h
   rcases h with rfl | rfl | rfl | rfl<;>rfl
  ·exact qR t u h
def aHb (B:Nat) (w:World) (v:Value) (l:List Mac):Prop:=w.ownsRow B 104 4 v l.length (fA l)
theorem aIB (B:Nat) (w:World):aHb B w (.slice none 0 0) []:=World.ownsRow_nil _ _ _ _
theorem zC (w:World):w.alloc (.cells #[] 104) |>.ownsRow w.heap.size 104 4 (.slice (some ⟨w.heap.size,0,none⟩) 0 0) 0 []:=
 ⟨rfl,.inr ⟨w.heap.size,0,#[],rfl,Nat.le_refl _,by show (w.heap.push _)[w.heap.size]? = _;simp,Nat.le_refl _,by unfold maxLen;omega,rfl,rfl⟩⟩
theorem vD {w:World} {B B':Nat} {v:Value} {l:List Mac} (h:aHb B w v l) (hb:B'≤B):aHb B' w v l:=by
 obtain ⟨h1,h2⟩:=h
 refine ⟨h1,?_⟩
 rcases h2 with h2 | ⟨g,cap,cur,a,b,c⟩
 ·exact .inl h2
 ·exact .inr ⟨g,cap,cur,a,Nat.le_trans hb b,c⟩
theorem aIA {w:World} {B:Nat} {v:Value} {l:List Mac} (h:aHb B w v l):∃ao cap,v=.slice ao l.length cap∧aZ w ao l.length l∧l.length≤cap∧(l≠[]→∃g cur,ao=some ⟨g,0,none⟩∧B≤g∧w.heap[g]? = some (.cells cur 104 (0,0))∧cur.size=cap*4):=by
 rcases h.2 with ⟨rfl,h0⟩ | ⟨g,cap,cur,rfl,h1,h2,h3,h4,h5,h6⟩
 ·exact ⟨none,0,by rw [h0],⟨rfl,.inl h0⟩,by omega,fun hn=>absurd (List.length_eq_zero_iff.1 h0) hn⟩
 ·refine ⟨some ⟨g,0,none⟩,cap,rfl,⟨rfl,.inr ⟨g,0,rfl,fun i hi=>?_⟩⟩,h3,fun _=>⟨g,cur,rfl,h1,h2,h5⟩⟩
  obtain ⟨a,b,c,d⟩:=vE l i hi
  have k:∀j (v:Value),j<l.length*4→(fA l)[j]? = some v→w.cell? ⟨g,j,none⟩=some v:=fun j v hj hv=>by
   rw [←h6,List.getElem?_take_of_lt hj] at hv
   simp [World.cell?,h2]
   simpa using hv
  unfold nN
  rw [Nat.zero_add]
  exact ⟨k _ _ (by omega) a,k _ _ (by omega) b,k _ _ (by omega) c,k _ _ (by omega) d⟩
theorem Tryz.infoMachine:(Tryz.prog.info? 104).map (fun i=>(i.zero,i.size,i.bytes))=some (some (.agg #[.string ByteArray.empty,.int .i64 0,.int .i64 0,.int .i64 0]),4,40):=by kernel_rfl
theorem tT (ao:Option Addr) (len cap:Nat) (l:List Mac) (w:World) (h:aZ w ao len l) (hl:len≤1048576) :
  Calls Tryz.prog 66 #[.slice ao len cap] w fun e w'=>∃v,e=.returned v∧aHb w.heap.size w' v l∧Below w.heap.size w w':=by
 obtain ⟨i0,hi,hz0,hz1,hz2⟩:=info_parts Tryz.infoMachine
 cases ao with
 | none=>
  have hn:len=0:=by rcases h.2 with h | ⟨b,off,e,_⟩;exact h;cases e
  subst hn
  have hl0:l=[]:=List.length_eq_zero_iff.1 h.1.symm
  subst hl0
  have hnl:∀wx,(binOp .eql 31 (.slice none 0 cap) (.slice none 0 0)).run Tryz.prog wx=.ok (.bool true) wx:=fun wx=>Lib.run_eql_slice_nil wx _ _ none 0 cap 0 0 Tryz.underlying31
  clear h hl
  go_enter Tryz.func66,Tryz.ntmps66
  go_wp2
  go_ret
  exact ⟨_,rfl,aIB _ _,Below.refl _ _⟩
 | some ad=>
  have hnew:∀j u,(fA l)[j]? = some u→(w.alloc (.cells #[] 104)).cell? (ad.add j)=some u:=fun j u hj=>by
   have hjl:j<l.length*4:=by rw [←jH];exact (List.getElem?_eq_some_iff.1 hj).1
   rcases h.2 with h0 | ⟨b,off,e,_⟩
   ·have:=h.1;omega
   ·cases e
    have:=zD (h.below (yA (Below.refl _ w) (.cells #[] 104))) j u hj
    rw [Lib.add_plain]
    exact this
  have HNW:=aA hnew
  have HLN:=aA h.1
  have hown:=zC w
  have hll:(fA l).length=len*4:=by rw [jH,h.1]
  have hone:=qR l
  have hnl:∀wx,(binOp .eql 31 (.slice (some ad) len cap) (.slice none 0 0)).run Tryz.prog wx=.ok (.bool false) wx:=fun wx=>Lib.run_eql_slice_nil wx _ _ (some ad) len cap 0 0 Tryz.underlying31
  clear h hnew
  go_enter Tryz.func66,Tryz.ntmps66
  go_wp2_with (at_builtin;refine wpList_append_own _ rfl _ _ 31 rfl w.heap.size 104 i0 (.agg #[.string ByteArray.empty,.int .i64 0,.int .i64 0,.int .i64 0]) 4 40 Tryz.underlying31 hi hz0 hz1 hz2 rfl (by decide) _ _ _ rfl hown ad len cap (fA l) rfl hll (uH HNW) hone ?c3 ?c4 ?c5 ?_)
  case c3=>unfold maxLen;omega
  case c4=>omega
  case c5=>simp
  intro v' w3 hown' hgrow _
  have HO:=aA (show aHb w.heap.size w3 v' l by
   unfold aHb
   rw [←uH HLN]
   simpa using hown')
  have HB:=aA (show Below w.heap.size w w3 from (yA (Below.refl _ w) (.cells #[] 104)).grown hgrow (by simp) (fun k e=>by simp [Value.ownBlock] at e;omega))
  clear hown' hgrow hown hone hll
  go_wp2
  go_ret
  exact ⟨_,rfl,uH HO,uH HB⟩
theorem yO {w:World} {b off len:Nat} {l:List Q} (h:gM w (some ⟨b,off,none⟩) len l):∀j u,(eZ l)[j]? = some u→w.cell? ⟨b,off+j,none⟩=some u:=fun j u hj=>by
 have hjl:j<l.length*4:=by rw [←jF];exact (List.getElem?_eq_some_iff.1 hj).1
 obtain ⟨h1,h2⟩:=h
 rcases h2 with h2 | ⟨b',off',e,h4⟩
 ·omega
 ·cases e
  have hi:j / 4<l.length:=by omega
  obtain ⟨a0,a1,a2,a3⟩:=uT l (j / 4) hi
  obtain ⟨c0,c1,c2,c3⟩:=h4 (j / 4) hi
  rcases (show j % 4=0∨j % 4=1∨j % 4=2∨j % 4=3 by omega) with e | e | e | e
  ·rw [show j=j / 4*4 by omega] at hj ⊢;rw [a0] at hj;cases hj;exact c0
  ·rw [show j=j / 4*4+1 by omega] at hj ⊢;rw [a1] at hj;cases hj;rw [←Nat.add_assoc];exact c1
  ·rw [show j=j / 4*4+2 by omega] at hj ⊢;rw [a2] at hj;cases hj;rw [←Nat.add_assoc];exact c2
  ·rw [show j=j / 4*4+3 by omega] at hj ⊢;rw [a3] at hj;cases hj;rw [←Nat.add_assoc];exact c3
theorem qO:∀(l:List Q),∀u ∈ eZ l,u.oneCell'=true
 | [],u,h=>by simp [eZ] at h
 | q::t,u,h=>by
  rw [eZ,List.mem_append] at h
  rcases h with h | h
  ·simp at h
   rcases h with rfl | rfl | rfl | rfl<;>rfl
  ·exact qO t u h
theorem aGK {w:World} {B B':Nat} {v:Value} {l:List Q} (h:tF B w v l) (hb:B'≤B):tF B' w v l:=by
 obtain ⟨h1,h2⟩:=h
 refine ⟨h1,?_⟩
 rcases h2 with h2 | ⟨g,cap,cur,a,b,c⟩
 ·exact .inl h2
 ·exact .inr ⟨g,cap,cur,a,Nat.le_trans hb b,c⟩
theorem uS {w:World} {B:Nat} {v:Value} {l:List Q} (h:tF B w v l):∃ao cap,v=.slice ao l.length cap∧gM w ao l.length l∧l.length≤cap∧(l≠[]→∃g cur,ao=some ⟨g,0,none⟩∧B≤g∧w.heap[g]? = some (.cells cur 100 (0,0))∧cur.size=cap*4):=by
 obtain ⟨ao,cap,e,hr,hc⟩:=h.row
 refine ⟨ao,cap,e,hr,hc,fun hn=>?_⟩
 rcases h.2 with ⟨rfl,h0⟩ | ⟨g,cap',cur,rfl,h1,h2,h3,h4,h5,h6⟩
 ·exact absurd (List.length_eq_zero_iff.1 h0) hn
 ·simp only [Value.slice.injEq] at e
  obtain ⟨rfl,_,rfl⟩:=e
  exact ⟨g,cur,rfl,h1,h2,h5⟩
theorem aFU (ao:Option Addr) (len cap:Nat) (l:List Q) (w:World) (h:gM w ao len l) (hl:len≤1048576) :
  Calls Tryz.prog 101 #[.slice ao len cap] w fun e w'=>∃v,e=.returned v∧tF w.heap.size w' v l∧Below w.heap.size w w':=by
 obtain ⟨i0,hi,hz0,hz1,hz2⟩:=info_parts Tryz.infoQ
 cases ao with
 | none=>
  have hn:len=0:=by rcases h.2 with h | ⟨b,off,e,_⟩;exact h;cases e
  subst hn
  have hl0:l=[]:=List.length_eq_zero_iff.1 h.1.symm
  subst hl0
  have hnl:∀wx,(binOp .eql 29 (.slice none 0 cap) (.slice none 0 0)).run Tryz.prog wx=.ok (.bool true) wx:=fun wx=>Lib.run_eql_slice_nil wx _ _ none 0 cap 0 0 Tryz.underlying29
  clear h hl
  go_enter Tryz.func101,Tryz.ntmps101
  go_wp2
  go_ret
  exact ⟨_,rfl,aHl _ _,Below.refl _ _⟩
 | some ad=>
  have hnew:∀j u,(eZ l)[j]? = some u→(w.alloc (.cells #[] 100)).cell? (ad.add j)=some u:=fun j u hj=>by
   have hjl:j<l.length*4:=by rw [←jF];exact (List.getElem?_eq_some_iff.1 hj).1
   rcases h.2 with h0 | ⟨b,off,e,_⟩
   ·have:=h.1;omega
   ·cases e
    have:=yO (h.below (yA (Below.refl _ w) (.cells #[] 100))) j u hj
    rw [Lib.add_plain]
    exact this
  have HNW:=aA hnew
  have HLN:=aA h.1
  have hown:(w.alloc (.cells #[] 100)).ownsRow w.heap.size 100 4 (.slice (some ⟨w.heap.size,0,none⟩) 0 0) 0 []:=yN w
  have hll:(eZ l).length=len*4:=by rw [jF,h.1]
  have hone:=qO l
  have hnl:∀wx,(binOp .eql 29 (.slice (some ad) len cap) (.slice none 0 0)).run Tryz.prog wx=.ok (.bool false) wx:=fun wx=>Lib.run_eql_slice_nil wx _ _ (some ad) len cap 0 0 Tryz.underlying29
  clear h hnew
  go_enter Tryz.func101,Tryz.ntmps101
  go_wp2_with (at_builtin;refine wpList_append_own _ rfl _ _ 29 rfl w.heap.size 100 i0 (.agg #[.string ByteArray.empty,.string ByteArray.empty,.int .i64 0,.int .i64 0]) 4 48 Tryz.underlying29 hi hz0 hz1 hz2 rfl (by decide) _ _ _ rfl hown ad len cap (eZ l) rfl hll (uH HNW) hone ?c3 ?c4 ?c5 ?_)
  case c3=>unfold maxLen;omega
  case c4=>omega
  case c5=>simp
  intro v' w3 hown' hgrow _
  have HO:=aA (show tF w.heap.size w3 v' l by
   unfold tF
   rw [←uH HLN]
   exact hown')
  have HB:=aA (show Below w.heap.size w w3 from (yA (Below.refl _ w) (.cells #[] 100)).grown hgrow (by simp) (fun k e=>by simp [Value.ownBlock] at e;omega))
  clear hown' hgrow hown hone hll
  go_wp2
  go_ret
  exact ⟨_,rfl,uH HO,uH HB⟩
theorem aGC {arr:Array Value} {j:Nat} {x:Value} (h:arr[j]? = some x):arr.setIfInBounds j x=arr:=by
 apply Array.ext
 ·simp
 ·intro i h1 h2
  rw [Array.getElem_setIfInBounds]
  split
  ·rename_i e
   subst e
   rw [Array.getElem?_eq_getElem h2] at h
   exact (Option.some.inj h).symm
  ·rfl
theorem aBL {w:World} {B g n cap j:Nat} {x:Value} {l:List Q} (h:tF B w (.slice (some ⟨g,0,none⟩) n cap) l) (hc:w.cell? ⟨g,j,none⟩=some x):tF B (w.setCell ⟨g,j,none⟩ x) (.slice (some ⟨g,0,none⟩) n cap) l∧B≤g:=by
 obtain ⟨h1,h2⟩:=h
 rcases h2 with ⟨e,_⟩ | ⟨g',cap',cur,e,h3,h4,h5⟩
 ·cases e
 ·cases e
  have hx:cur[j]? = some x:=by simpa [World.cell?,h4] using hc
  refine ⟨⟨h1,.inr ⟨g,cap,cur,rfl,h3,?_,h5⟩⟩,h3⟩
  have:=heap_setCell_same w g j _ _ x h4
  rw [aGC hx] at this
  exact this
theorem tO (ao:Option Addr) (len cap:Nat) (l:List Q) (w:World) (h:gM w ao len l) (hl:len≤1048576) (hn:∀q ∈ l,q.name.length≤1048576∧q.parent.length≤1048576) :
  Calls Tryz.prog 63 #[.slice ao len cap] w fun e w'=>∃v,e=.returned v∧tF w.heap.size w' v l∧Below w.heap.size w w':=by
 have HN:=aA hn
 have CC:=aA (aFU ao len cap l w h hl)
 have hll:=aA h.1
 clear h hn
 go_enter Tryz.func63,Tryz.ntmps63
 go_wp2_with fail
 refine (uH CC).mono ?_
 rintro e w1 ⟨v,rfl,ho,hb⟩
 have HB1:=aA hb
 have HO:=aA ho
 obtain ⟨xo,xc,rfl,_,hxc,hxg⟩:=(uS ho)
 obtain ⟨n,hnn⟩:∃n,l.length=n:=⟨_,rfl⟩
 have HLN:=aA hnn
 have hn2:n≤1048576:=by have:=uH hll;omega
 rw [hnn] at HO hxc ⊢
 clear ho hb CC hnn hxg
 go_wp2
 go_loopw [9] (fun i wr=>∃(k:Nat),k≤n∧i=.int .i64 k∧Hid (tF w.heap.size wr (.slice xo n xc) l)∧Hid (Below w.heap.size w wr)) (fun i _=>n - (intOf i).toNat)
 case atStart=>exact ⟨0,Nat.zero_le _,rfl,HO,HB1⟩
 case round=>
  obtain ⟨k,hk,rfl,HOr,HBr⟩:=hrel
  by_cases hlt:k<n
  ·have hkl:k<l.length:=by have:=uH HLN;omega
   obtain ⟨xo',xc',e,hrow,_,hg⟩:=(uS (uH HOr))
   obtain ⟨g,cur,rfl,hg1,hg2,hg3⟩:=hg (by intro e;rw [e] at hkl;simp at hkl)
   rw [uH HLN] at e hrow
   cases e
   obtain ⟨b',off',e',hat⟩:=hrow.at hlt
   cases e'
   have c0:=(hat hkl).1
   have c1:=(hat hkl).2.1
   simp only [Nat.zero_add] at c0 c1
   have hnd:=uH HN l[k] (List.getElem_mem _)
   obtain ⟨⟨na,pa,du,mo⟩,hs⟩:∃s,l[k]=s:=⟨_,rfl⟩
   rw [hs] at c0 c1 hnd
   simp only at c0 c1 hnd
   have hs1:(bs na).size≤281474976710656:=by rw [dA];omega
   have hs2:(bs pa).size≤281474976710656:=by rw [dA];omega
   have k0:(0:Int)≤k:=by omega
   have k1:(k:Int)<n:=by omega
   have hgs:g<wr.heap.size:=lt_of_block hg2
   clear hat hrow hg2 hg3 hs hkl hnd
   go_wp2_with fail
   refine (gK (bs na) _ hs1).mono ?_
   rintro e w2 ⟨rfl,hb⟩
   have HO2:=aA ((uH HOr).below hb)
   have c0':=(hb.cell (p:=⟨g,k*4,none⟩) hgs).trans c0
   have c1':=(hb.cell (p:=⟨g,k*4+1,none⟩) hgs).trans c1
   have hsame:=(aBL (uH HO2) c0')
   have hfz:∀j,w2.frozen? ⟨g,j,none⟩=false:=fun j=>by
    rcases (uH HO2).2 with ⟨e,_⟩ | ⟨g',cap',cur',e,_,h4,_⟩
    ·cases e
    ·cases e;simp [World.frozen?,h4]
   have f0:=hfz (k*4)
   have HB2:=aA (show Below w.heap.size w (w2.setCell ⟨g,k*4,none⟩ (.string (bs na))) from (yB (uH HBr) hb).setCell (by exact hsame.2) _)
   have hg2':g<w2.heap.size:=Nat.lt_of_lt_of_le hgs hb.size
   have d1:(w2.setCell ⟨g,k*4,none⟩ (.string (bs na))).cell? ⟨g,k*4+1,none⟩=some (.string (bs pa)):=jR c1' (by omega)
   have HS:=aA hsame
   obtain ⟨W3,hW3⟩:∃W,w2.setCell ⟨g,k*4,none⟩ (.string (bs na))=W:=⟨_,rfl⟩
   rw [hW3] at HB2 d1 HS
   have hgW:g<W3.heap.size:=yG d1
   clear hb hsame HOr HBr HO2 c0 c1 c1' hfz
   go_wp2_with fail
   refine (gK (bs pa) _ hs2).mono ?_
   rintro e w4 ⟨rfl,hb⟩
   have HO4:=aA ((uH HS).1.below hb)
   have d1':=(hb.cell (p:=⟨g,k*4+1,none⟩) hgW).trans d1
   have hsame:=(aBL (uH HO4) d1')
   have f1:w4.frozen? ⟨g,k*4+1,none⟩=false:=by
    rcases (uH HO4).2 with ⟨e,_⟩ | ⟨g',cap',cur',e,_,h4,_⟩
    ·cases e
    ·cases e;simp [World.frozen?,h4]
   have HB4:=aA (show Below w.heap.size w (w4.setCell ⟨g,k*4+1,none⟩ (.string (bs pa))) from (yB (uH HB2) hb).setCell (by exact hsame.2) _)
   have HS4:=aA hsame.1
   clear hb hsame HS HO4 HB2 c0' d1 hW3 f0
   go_wp2
   go_roundw
   case rel=>exact ⟨k+1,by omega,by go_num,HS4,HB4⟩
   case measure=>simp [intOf];omega
  ·have k1:¬(k:Int)<n:=by omega
   go_wp2
   go_ret
   exact ⟨_,rfl,uH HOr,uH HBr⟩
theorem vH (g n c:Nat) (k0:Int) (w:World) (h:Cel w 100 g (c*4)) (hc:n≤c) (hn:n≤1048576) (h0:0<k0) (h1:k0≤1000000000000000) :
  Calls Tryz.prog 35 #[.slice (some ⟨g,0,none⟩) n c,.int .i64 k0] w fun e w'=>e=.returned (.int .i64 (k0+4*(n:Int)))∧Mkd g (g+1) w w':=by
 have HQ0:=aA h
 clear h
 go_enter Tryz.func35,Tryz.ntmps35
 go_wp2
 go_loopw [1,5] (fun s i wr=>∃(j:Nat) (k:Int),j≤n∧i=.int .i64 j∧s=.int .i64 k∧k=k0+4*(j:Int)∧Hid (Cel wr 100 g (c*4))∧Hid (Mkd g (g+1) w wr)) (fun _ i _=>n - (intOf i).toNat)
 case atStart=>exact ⟨0,k0,Nat.zero_le _,rfl,rfl,by omega,HQ0,aA (Mkd.refl _ _ _)⟩
 case round=>
  obtain ⟨j,k,hj,rfl,rfl,hk,HQ,HG⟩:=hrel
  by_cases hlt:j<n
  ·have HK:=aA hk
   have hk0:0<k:=by omega
   have hk1:k≤1000000010000000:=by omega
   clear hk
   go_wp2_with fail
   refine (aU k _ (by omega) (by omega)).mono ?_
   rintro e w1 ⟨rfl,hb⟩
   have HQt0:=aA ((uH HQ).below hb)
   have HGt0:=aA ((uH HG).on hb)
   clear hb  HQ HG
   obtain ⟨v0,d0⟩:=(uH HQt0).cell (j:=j*4) (by omega)
   have f0:=(uH HQt0).frozen (j*4)
   have HQs0:=aA ((uH HQt0).set g (j*4) (.string (mk k.toNat)))
   have HGs0:=aA ((uH HGt0).sc g (j*4) (.string (mk k.toNat)) (Nat.le_refl _) (by omega))
   go_wp2_with fail
   refine (aU (k+1) _ (by omega) (by omega)).mono ?_
   rintro e w2 ⟨rfl,hb⟩
   have HQt1:=aA ((uH HQs0).below hb)
   have HGt1:=aA ((uH HGs0).on hb)
   clear hb d0 f0 HQt0 HGt0 HQs0 HGs0
   obtain ⟨v1,d1⟩:=(uH HQt1).cell (j:=j*4+1) (by omega)
   have f1:=(uH HQt1).frozen (j*4+1)
   have HQs1:=aA ((uH HQt1).set g (j*4+1) (.string (mk (k+1).toNat)))
   have HGs1:=aA ((uH HGt1).sc g (j*4+1) (.string (mk (k+1).toNat)) (Nat.le_refl _) (by omega))
   obtain ⟨v2,d2⟩:=(uH HQs1).cell (j:=j*4+2) (by omega)
   have f2:=(uH HQs1).frozen (j*4+2)
   have HQs2:=aA ((uH HQs1).set g (j*4+2) (.int .i64 (k+1+1)))
   have HGs2:=aA ((uH HGs1).sc g (j*4+2) (.int .i64 (k+1+1)) (Nat.le_refl _) (by omega))
   obtain ⟨v3,d3⟩:=(uH HQs2).cell (j:=j*4+3) (by omega)
   have f3:=(uH HQs2).frozen (j*4+3)
   have HQs3:=aA ((uH HQs2).set g (j*4+3) (.int .i64 (k+1+1+1)))
   have HGs3:=aA ((uH HGs2).sc g (j*4+3) (.int .i64 (k+1+1+1)) (Nat.le_refl _) (by omega))
   go_wp2
   go_roundw
   case rel=>exact ⟨j+1,k+1+1+1+1,by omega,by go_num,by go_num,by have:=uH HK;omega,HQs3,HGs3⟩
   case measure=>simp [intOf];omega
  ·have hjn:j=n:=by omega
   subst hjn
   go_wp2
   go_ret
   exact ⟨bQ (by omega),uH HG⟩
theorem qW (g n c:Nat) (k0:Int) (w:World) (h:Cel w 104 g (c*4)) (hc:n≤c) (hn:n≤1048576) (h0:0<k0) (h1:k0≤1000000000000000) :
  Calls Tryz.prog 37 #[.slice (some ⟨g,0,none⟩) n c,.int .i64 k0] w fun e w'=>e=.returned (.int .i64 (k0+4*(n:Int)))∧Mkd g (g+1) w w':=by
 have HQ0:=aA h
 clear h
 go_enter Tryz.func37,Tryz.ntmps37
 go_wp2
 go_loopw [1,5] (fun s i wr=>∃(j:Nat) (k:Int),j≤n∧i=.int .i64 j∧s=.int .i64 k∧k=k0+4*(j:Int)∧Hid (Cel wr 104 g (c*4))∧Hid (Mkd g (g+1) w wr)) (fun _ i _=>n - (intOf i).toNat)
 case atStart=>exact ⟨0,k0,Nat.zero_le _,rfl,rfl,by omega,HQ0,aA (Mkd.refl _ _ _)⟩
 case round=>
  obtain ⟨j,k,hj,rfl,rfl,hk,HQ,HG⟩:=hrel
  by_cases hlt:j<n
  ·have HK:=aA hk
   have hk0:0<k:=by omega
   have hk1:k≤1000000010000000:=by omega
   clear hk
   go_wp2_with fail
   refine (aU k _ (by omega) (by omega)).mono ?_
   rintro e w1 ⟨rfl,hb⟩
   have HQt0:=aA ((uH HQ).below hb)
   have HGt0:=aA ((uH HG).on hb)
   clear hb  HQ HG
   obtain ⟨v0,d0⟩:=(uH HQt0).cell (j:=j*4) (by omega)
   have f0:=(uH HQt0).frozen (j*4)
   have HQs0:=aA ((uH HQt0).set g (j*4) (.string (mk k.toNat)))
   have HGs0:=aA ((uH HGt0).sc g (j*4) (.string (mk k.toNat)) (Nat.le_refl _) (by omega))
   obtain ⟨v1,d1⟩:=(uH HQs0).cell (j:=j*4+1) (by omega)
   have f1:=(uH HQs0).frozen (j*4+1)
   have HQs1:=aA ((uH HQs0).set g (j*4+1) (.int .i64 (k+1)))
   have HGs1:=aA ((uH HGs0).sc g (j*4+1) (.int .i64 (k+1)) (Nat.le_refl _) (by omega))
   obtain ⟨v2,d2⟩:=(uH HQs1).cell (j:=j*4+2) (by omega)
   have f2:=(uH HQs1).frozen (j*4+2)
   have HQs2:=aA ((uH HQs1).set g (j*4+2) (.int .i64 (k+1+1)))
   have HGs2:=aA ((uH HGs1).sc g (j*4+2) (.int .i64 (k+1+1)) (Nat.le_refl _) (by omega))
   obtain ⟨v3,d3⟩:=(uH HQs2).cell (j:=j*4+3) (by omega)
   have f3:=(uH HQs2).frozen (j*4+3)
   have HQs3:=aA ((uH HQs2).set g (j*4+3) (.int .i64 (k+1+1+1)))
   have HGs3:=aA ((uH HGs2).sc g (j*4+3) (.int .i64 (k+1+1+1)) (Nat.le_refl _) (by omega))
   go_wp2
   go_roundw
   case rel=>exact ⟨j+1,k+1+1+1+1,by omega,by go_num,by go_num,by have:=uH HK;omega,HQs3,HGs3⟩
   case measure=>simp [intOf];omega
  ·have hjn:j=n:=by omega
   subst hjn
   go_wp2
   go_ret
   exact ⟨bQ (by omega),uH HG⟩
theorem xJ (g n c:Nat) (k0:Int) (w:World) (h:Cel w 38 g (c*5)) (hc:n≤c) (hn:n≤1048576) (h0:0<k0) (h1:k0≤1000000000000000) :
  Calls Tryz.prog 16 #[.slice (some ⟨g,0,none⟩) n c,.int .i64 k0] w fun e w'=>e=.returned (.int .i64 (k0+5*(n:Int)))∧Mkd g (g+1) w w':=by
 have HQ0:=aA h
 clear h
 go_enter Tryz.func16,Tryz.ntmps16
 go_wp2
 go_loopw [1,5] (fun s i wr=>∃(j:Nat) (k:Int),j≤n∧i=.int .i64 j∧s=.int .i64 k∧k=k0+5*(j:Int)∧Hid (Cel wr 38 g (c*5))∧Hid (Mkd g (g+1) w wr)) (fun _ i _=>n - (intOf i).toNat)
 case atStart=>exact ⟨0,k0,Nat.zero_le _,rfl,rfl,by omega,HQ0,aA (Mkd.refl _ _ _)⟩
 case round=>
  obtain ⟨j,k,hj,rfl,rfl,hk,HQ,HG⟩:=hrel
  by_cases hlt:j<n
  ·have HK:=aA hk
   have hk0:0<k:=by omega
   have hk1:k≤1000000010000000:=by omega
   clear hk
   obtain ⟨v0,d0⟩:=(uH HQ).cell (j:=j*5) (by omega)
   have f0:=(uH HQ).frozen (j*5)
   have HQs0:=aA ((uH HQ).set g (j*5) (.int .i64 k))
   have HGs0:=aA ((uH HG).sc g (j*5) (.int .i64 k) (Nat.le_refl _) (by omega))
   obtain ⟨v1,d1⟩:=(uH HQs0).cell (j:=j*5+1) (by omega)
   have f1:=(uH HQs0).frozen (j*5+1)
   have HQs1:=aA ((uH HQs0).set g (j*5+1) (.int .i64 (k+1)))
   have HGs1:=aA ((uH HGs0).sc g (j*5+1) (.int .i64 (k+1)) (Nat.le_refl _) (by omega))
   go_wp2_with fail
   refine (aU (k+1+1) _ (by omega) (by omega)).mono ?_
   rintro e w1 ⟨rfl,hb⟩
   have HQt2:=aA ((uH HQs1).below hb)
   have HGt2:=aA ((uH HGs1).on hb)
   clear hb d0 f0 HQ HG d1 f1 HQs0 HGs0 HQs1 HGs1
   obtain ⟨v2,d2⟩:=(uH HQt2).cell (j:=j*5+2) (by omega)
   have f2:=(uH HQt2).frozen (j*5+2)
   have HQs2:=aA ((uH HQt2).set g (j*5+2) (.string (mk (k+1+1).toNat)))
   have HGs2:=aA ((uH HGt2).sc g (j*5+2) (.string (mk (k+1+1).toNat)) (Nat.le_refl _) (by omega))
   obtain ⟨v3,d3⟩:=(uH HQs2).cell (j:=j*5+3) (by omega)
   have f3:=(uH HQs2).frozen (j*5+3)
   have HQs3:=aA ((uH HQs2).set g (j*5+3) (.int .i64 (k+1+1+1)))
   have HGs3:=aA ((uH HGs2).sc g (j*5+3) (.int .i64 (k+1+1+1)) (Nat.le_refl _) (by omega))
   obtain ⟨v4,d4⟩:=(uH HQs3).cell (j:=j*5+4) (by omega)
   have f4:=(uH HQs3).frozen (j*5+4)
   have HQs4:=aA ((uH HQs3).set g (j*5+4) (.int .i64 (k+1+1+1+1)))
   have HGs4:=aA ((uH HGs3).sc g (j*5+4) (.int .i64 (k+1+1+1+1)) (Nat.le_refl _) (by omega))
   go_wp2
   go_roundw
   case rel=>exact ⟨j+1,k+1+1+1+1+1,by omega,by go_num,by go_num,by have:=uH HK;omega,HQs4,HGs4⟩
   case measure=>simp [intOf];omega
  ·have hjn:j=n:=by omega
   subst hjn
   go_wp2
   go_ret
   exact ⟨bQ (by omega),uH HG⟩
end
end Go.Proofs.YtdhibeclkdepiaaGreat
