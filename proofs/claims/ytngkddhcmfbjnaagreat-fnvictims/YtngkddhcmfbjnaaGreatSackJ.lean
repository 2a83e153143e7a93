/-
  Texts in one: NewSt, OkB, OnS, UsedOnS, UsedOnB, FreeOnS, AppOfB.
-/
import Derived.Test.YtngkddhcmfbjnaaGreatSackF
import Derived.Test.YtngkddhcmfbjnaaGreatSackG
import Derived.Test.YtngkddhcmfbjnaaGreatSackE
set_option maxRecDepth 100000
set_option maxHeartbeats 16000000
set_option linter.unusedVariables false
set_option linter.unusedSimpArgs false
namespace Go.Proofs.YtngkddhcmfbjnaaGreat
section
open Go.RowKit
variable {p:Ask→Bool} {l:List Ask} {k:Nat}
def zN (w:World) (l:List Q) (e:Ending) (w':World):Prop:=Bw w w'∧(aH l=false∧e=.returned (.tuple #[.agg #[.slice none 0 0,.int .i64 0,.int .i64 0,.int .i64 0,.int .i64 0,.slice none 0 0,.slice none 0 0,.slice none 0 0],.bool false])∨aH l=true∧∃v,e=.returned (.tuple #[.agg #[v,.int .i64 0,.int .i64 1,.int .i64 1001,.int .i64 1,.slice none 0 0,.slice none 0 0,.slice none 0 0],.bool true])∧oH (w.heap.size+1) w' v l)
theorem mJ (ao:Option Addr) (len cap:Nat) (l:List Q) (w:World) (h:gJ w ao len l) (hl:len≤1048576) (hf:aKL l) (ha:∃ad,ao=some ad)
  (CO:∀(qo:Option Addr) (n c:Nat) (wx:World),gJ wx qo n l→n≤c→cP 14 #[.agg #[.slice qo n c,.int .i64 0,.int .i64 1,.int .i64 1001,.int .i64 1,.slice none 0 0,.slice none 0 0,.slice none 0 0]] wx fun e w'=>e=.returned (.bool (aH l))∧Bw wx w') :
  cP 67 #[.slice ao len cap] w (zN w l):=by
 obtain ⟨i0,hi,hz0,hz1,hz2⟩:=info_parts Tryz.infoQ
 obtain ⟨o,ho⟩:∃o,aH l=o:=⟨_,rfl⟩
 obtain ⟨ad,rfl⟩:=ha
 have hb1:=yA (yA (yH _ w) (.cells #[.slice none 0 0,.int .i64 0,.int .i64 0,.int .i64 0,.int .i64 0,.slice none 0 0,.slice none 0 0,.slice none 0 0] 29)) (.cells #[] 56)
 have P0:=aA ((yD w #[.slice none 0 0,.int .i64 0,.int .i64 0,.int .i64 0,.int .i64 0,.slice none 0 0,.slice none 0 0,.slice none 0 0] 29).al (.cells #[] 56))
 have Gz:∀j u,(fD l)[j]? = some u→((w.alloc (.cells #[.slice none 0 0,.int .i64 0,.int .i64 0,.int .i64 0,.int .i64 0,.slice none 0 0,.slice none 0 0,.slice none 0 0] 29)).alloc (.cells #[] 56)).cell? (ad.add j)=some u:=fun j u hj=>by
  have hjl:j<l.length*4:=by rw [←iE];exact (List.getElem?_eq_some_iff.1 hj).1
  rcases h.2 with h0 | ⟨b,off,e,_⟩
  ·have:=h.1;omega
  ·cases e
   have:=rT (h.below hb1) j u hj
   rw [Lib.add_plain]
   exact this
 have QH:=aA Gz
 have Q6:=aA h.1
 have HB1:=aA hb1
 have Hq:((w.alloc (.cells #[.slice none 0 0,.int .i64 0,.int .i64 0,.int .i64 0,.int .i64 0,.slice none 0 0,.slice none 0 0,.slice none 0 0] 29)).alloc (.cells #[] 56)).ownsRow (w.heap.size+1) 56 4 (.slice (some ⟨w.heap.size+1,0,none⟩) 0 0) 0 []:=by
  have:=rR (w.alloc (.cells #[.slice none 0 0,.int .i64 0,.int .i64 0,.int .i64 0,.int .i64 0,.slice none 0 0,.slice none 0 0,.slice none 0 0] 29))
  rw [yE] at this
  exact this
 have hll:(fD l).length=len*4:=by rw [iE,h.1]
 have gy:=nT l
 have CS:=aA (fun (qo:Option Addr) (n c:Nat) (wx:World) (hr:gJ wx qo n l) (hc:n≤c)=>by have:=CO qo n c wx hr hc;rw [ho] at this;exact this)
 have U7:=aA ho
 clear CO ho hf h Gz hb1
 go_enter Tryz.func67,Tryz.ntmps67
 go_wp2_with (at_builtin;refine wpList_append_own _ rfl _ _ 24 rfl (w.heap.size+1) 56 i0 (.agg #[.string ByteArray.empty,.string ByteArray.empty,.int .i64 0,.int .i64 0]) 4 48 Tryz.underlying24 hi hz0 hz1 hz2 rfl (by decide) _ _ _ rfl Hq ad len cap (fD l) rfl hll (uH QH) gy ?c3 ?c4 ?c5 ?_)
 case c3=>unfold maxLen;omega
 case c4=>omega
 case c5=>simp
 intro v w2 Hy Hz _
 have HO:=aA (show oH (w.heap.size+1) w2 v l by
  unfold oH
  rw [←uH Q6]
  simpa using Hy)
 have HB2:=aA (show Bw w w2 from (uH HB1).grown Hz (by simp;omega) (fun k e=>by simp [Value.ownBlock] at e;omega))
 have R0:=aA (show Blk w2 w.heap.size #[.slice none 0 0,.int .i64 0,.int .i64 0,.int .i64 0,.int .i64 0,.slice none 0 0,.slice none 0 0,.slice none 0 0] 29 from (Hz.block _ (uH P0).lt (by simp [Value.ownBlock])).trans (uH P0))
 obtain ⟨qo,qc,rfl,Hw,hqc,_⟩:=nA (uH HO)
 have HRW:=aA (Hw.below (yA (yH _ w2) (.cells #[.slice qo l.length qc,.int .i64 0,.int .i64 1,.int .i64 1001,.int .i64 1,.slice none 0 0,.slice none 0 0,.slice none 0 0] 29)))
 have HB3:=aA (yA (uH HB2) (.cells #[.slice qo l.length qc,.int .i64 0,.int .i64 1,.int .i64 1001,.int .i64 1,.slice none 0 0,.slice none 0 0,.slice none 0 0] 29))
 have S1:=aA (yD w2 #[.slice qo l.length qc,.int .i64 0,.int .i64 1,.int .i64 1001,.int .i64 1,.slice none 0 0,.slice none 0 0,.slice none 0 0] 29)
 have S0:=aA ((uH R0).al (.cells #[.slice qo l.length qc,.int .i64 0,.int .i64 1,.int .i64 1001,.int .i64 1,.slice none 0 0,.slice none 0 0,.slice none 0 0] 29))
 have ZQ:=aA ((uH HO).below (yA (yH _ w2) (.cells #[.slice qo l.length qc,.int .i64 0,.int .i64 1,.int .i64 1001,.int .i64 1,.slice none 0 0,.slice none 0 0,.slice none 0 0] 29)))
 clear Hy Hz Hq gy hll HB1 HB2 R0 P0 HO Hw QH
 go_wp2_with fail
 refine (uH CS qo l.length qc _ (uH HRW) hqc).mono ?_
 rintro e w4 ⟨rfl,hb⟩
 have G8:=aA (yB (uH HB3) hb)
 have T0:=aA ((uH S0).below hb)
 have T1:=aA ((uH S1).below hb)
 have kz:=aA ((uH ZQ).below hb)
 clear hb HB3 S0 S1 ZQ HRW CS
 cases o
 case false=>
  obtain ⟨c0,c1,c2,c3,c4,c5,c6,c7⟩:=zq (uH T0)
  have rf0:=(uH T0).f 0;have rf1:=(uH T0).f 1;have rf2:=(uH T0).f 2;have rf3:=(uH T0).f 3;have rf4:=(uH T0).f 4;have rf5:=(uH T0).f 5;have rf6:=(uH T0).f 6;have rf7:=(uH T0).f 7
  go_wp2
  have GM:=aA (yC (yC (yC (yC (yC (yC (yC (yC (uH G8) w.heap.size 0 (.slice none 0 0) (yJ _)) w.heap.size 1 (.int .i64 0) (yJ _)) w.heap.size 2 (.int .i64 0) (yJ _)) w.heap.size 3 (.int .i64 0) (yJ _)) w.heap.size 4 (.int .i64 0) (yJ _)) w.heap.size 5 (.slice none 0 0) (yJ _)) w.heap.size 6 (.slice none 0 0) (yJ _)) w.heap.size 7 (.slice none 0 0) (yJ _))
  have R9:=aA (show Blk ((((((((w4.setCell ⟨w.heap.size,0,none⟩ (.slice none 0 0)).setCell ⟨w.heap.size,1,none⟩ (.int .i64 0)).setCell ⟨w.heap.size,2,none⟩ (.int .i64 0)).setCell ⟨w.heap.size,3,none⟩ (.int .i64 0)).setCell ⟨w.heap.size,4,none⟩ (.int .i64 0)).setCell ⟨w.heap.size,5,none⟩ (.slice none 0 0)).setCell ⟨w.heap.size,6,none⟩ (.slice none 0 0)).setCell ⟨w.heap.size,7,none⟩ (.slice none 0 0)) w.heap.size #[.slice none 0 0,.int .i64 0,.int .i64 0,.int .i64 0,.int .i64 0,.slice none 0 0,.slice none 0 0,.slice none 0 0] 29 from (((((((((uH T0).set 0 (.slice none 0 0)).set 1 (.int .i64 0)).set 2 (.int .i64 0)).set 3 (.int .i64 0)).set 4 (.int .i64 0)).set 5 (.slice none 0 0)).set 6 (.slice none 0 0)).set 7 (.slice none 0 0)))
  generalize ((((((((w4.setCell ⟨w.heap.size,0,none⟩ (.slice none 0 0)).setCell ⟨w.heap.size,1,none⟩ (.int .i64 0)).setCell ⟨w.heap.size,2,none⟩ (.int .i64 0)).setCell ⟨w.heap.size,3,none⟩ (.int .i64 0)).setCell ⟨w.heap.size,4,none⟩ (.int .i64 0)).setCell ⟨w.heap.size,5,none⟩ (.slice none 0 0)).setCell ⟨w.heap.size,6,none⟩ (.slice none 0 0)).setCell ⟨w.heap.size,7,none⟩ (.slice none 0 0))=W9 at GM R9 ⊢
  obtain ⟨z0,z1,z2,z3,z4,z5,z6,z7⟩:=zq (uH R9)
  refine bodyPost_ret (v:=.tuple #[.agg #[.slice none 0 0,.int .i64 0,.int .i64 0,.int .i64 0,.int .i64 0,.slice none 0 0,.slice none 0 0,.slice none 0 0],.bool false]) (by simp [results,Tryz.results67,go_sem,z0,z1,z2,z3,z4,z5,z6,z7]) rfl (show zN w l _ _ from ⟨uH GM,.inl ⟨uH U7,rfl⟩⟩)
 obtain ⟨a0,a1,a2,a3,a4,a5,a6,a7⟩:=zq (uH T1)
 have af0:=(uH T1).f 0;have af1:=(uH T1).f 1;have af2:=(uH T1).f 2;have af3:=(uH T1).f 3;have af4:=(uH T1).f 4;have af5:=(uH T1).f 5;have af6:=(uH T1).f 6;have af7:=(uH T1).f 7
 obtain ⟨c0,c1,c2,c3,c4,c5,c6,c7⟩:=zq (uH T0)
 have rf0:=(uH T0).f 0;have rf1:=(uH T0).f 1;have rf2:=(uH T0).f 2;have rf3:=(uH T0).f 3;have rf4:=(uH T0).f 4;have rf5:=(uH T0).f 5;have rf6:=(uH T0).f 6;have rf7:=(uH T0).f 7
 go_wp2
 have GM:=aA (yC (yC (yC (yC (yC (yC (yC (yC (uH G8) w.heap.size 0 (.slice qo l.length qc) (yJ _)) w.heap.size 1 (.int .i64 0) (yJ _)) w.heap.size 2 (.int .i64 1) (yJ _)) w.heap.size 3 (.int .i64 1001) (yJ _)) w.heap.size 4 (.int .i64 1) (yJ _)) w.heap.size 5 (.slice none 0 0) (yJ _)) w.heap.size 6 (.slice none 0 0) (yJ _)) w.heap.size 7 (.slice none 0 0) (yJ _))
 have R9:=aA (show Blk ((((((((w4.setCell ⟨w.heap.size,0,none⟩ (.slice qo l.length qc)).setCell ⟨w.heap.size,1,none⟩ (.int .i64 0)).setCell ⟨w.heap.size,2,none⟩ (.int .i64 1)).setCell ⟨w.heap.size,3,none⟩ (.int .i64 1001)).setCell ⟨w.heap.size,4,none⟩ (.int .i64 1)).setCell ⟨w.heap.size,5,none⟩ (.slice none 0 0)).setCell ⟨w.heap.size,6,none⟩ (.slice none 0 0)).setCell ⟨w.heap.size,7,none⟩ (.slice none 0 0)) w.heap.size #[.slice qo l.length qc,.int .i64 0,.int .i64 1,.int .i64 1001,.int .i64 1,.slice none 0 0,.slice none 0 0,.slice none 0 0] 29 from (((((((((uH T0).set 0 (.slice qo l.length qc)).set 1 (.int .i64 0)).set 2 (.int .i64 1)).set 3 (.int .i64 1001)).set 4 (.int .i64 1)).set 5 (.slice none 0 0)).set 6 (.slice none 0 0)).set 7 (.slice none 0 0)))
 have O9:=aA (iD (iD (iD (iD (iD (iD (iD (iD (uH kz) w.heap.size 0 (.slice qo l.length qc) (Nat.lt_succ_self _)) w.heap.size 1 (.int .i64 0) (Nat.lt_succ_self _)) w.heap.size 2 (.int .i64 1) (Nat.lt_succ_self _)) w.heap.size 3 (.int .i64 1001) (Nat.lt_succ_self _)) w.heap.size 4 (.int .i64 1) (Nat.lt_succ_self _)) w.heap.size 5 (.slice none 0 0) (Nat.lt_succ_self _)) w.heap.size 6 (.slice none 0 0) (Nat.lt_succ_self _)) w.heap.size 7 (.slice none 0 0) (Nat.lt_succ_self _))
 generalize ((((((((w4.setCell ⟨w.heap.size,0,none⟩ (.slice qo l.length qc)).setCell ⟨w.heap.size,1,none⟩ (.int .i64 0)).setCell ⟨w.heap.size,2,none⟩ (.int .i64 1)).setCell ⟨w.heap.size,3,none⟩ (.int .i64 1001)).setCell ⟨w.heap.size,4,none⟩ (.int .i64 1)).setCell ⟨w.heap.size,5,none⟩ (.slice none 0 0)).setCell ⟨w.heap.size,6,none⟩ (.slice none 0 0)).setCell ⟨w.heap.size,7,none⟩ (.slice none 0 0))=W9 at GM R9 O9 ⊢
 obtain ⟨z0,z1,z2,z3,z4,z5,z6,z7⟩:=zq (uH R9)
 refine bodyPost_ret (v:=.tuple #[.agg #[.slice qo l.length qc,.int .i64 0,.int .i64 1,.int .i64 1001,.int .i64 1,.slice none 0 0,.slice none 0 0,.slice none 0 0],.bool true]) (by simp [results,Tryz.results67,go_sem,z0,z1,z2,z3,z4,z5,z6,z7]) rfl (show zN w l _ _ from ⟨uH GM,.inr ⟨uH U7,_,rfl,uH O9⟩⟩)
def aGH (p:Ask→Bool):List Ask→Nat→Int
 | [],_=>-1
 | q::t,k=>if p q=true then (k:Int) else aGH p t (k+1)
theorem aHL (h:k<l.length):aGH p (l.drop k) k=if p l[k]=true then (k:Int) else aGH p (l.drop (k+1)) (k+1):=by
 rw [List.drop_eq_getElem_cons h,aGH]
theorem aIe (h:l.length≤k):aGH p (l.drop k) k = -1:=by
 rw [List.drop_of_length_le h];rfl
theorem aEk (p:Ask→Bool):∀(l:List Ask) (k:Nat),decide (0≤aGH p l k)=l.any p
 | [],_=>by simp [aGH]
 | q::t,k=>by
  rw [aGH,List.any_cons]
  by_cases h:p q=true
  ·rw [if_pos h,h];simp
  ·rw [if_neg h,aEk p t (k+1)];simp [h]
theorem aAB (g:Nat) (lb:Array Value) (eg:∀args w,(callFunc g args).run Tryz.prog w=.ok (.enter g args) w) (p:Ask→Bool) (ao:Option Addr) (len cap:Nat) (l:List Ask) (w:World) (h:bE w ao len l) (hl:len≤1048576)
  (hp:∀wx (q:Ask),q ∈ l→Bw w wx→Calls Tryz.prog g (#[aKJ q]++lb) wx fun e w'=>e=.returned (.bool (p q))∧Bw wx w') :
  cP 188 #[.slice ao len cap,.func (.func g) #[] lb] w fun e w'=>e=.returned (.int .i64 (aGH p l 0))∧Bw w w':=by
 have HR:=aA h
 have HL:=aA h.1
 have HP:=aA hp
 clear h hp
 go_enter Tryz.func188,Tryz.ntmps188
 go_wp2
 go_loopw [5,8] (fun _ i wr=>∃k:Nat,k≤len∧i=.int .i64 k∧Hid (aGH p l 0=aGH p (l.drop k) k)∧Hid (Bw w wr)) (fun _ i _=>len - (intOf i).toNat)
 case atStart=>exact ⟨0,Nat.zero_le _,rfl,aA (by simp),aA (yH _ _)⟩
 case round=>
  obtain ⟨k,hk,rfl,hq,HB⟩:=hrel
  by_cases hlt:k<len
  ·obtain ⟨b,off,rfl,hx⟩:=((uH HR).below (uH HB)).at hlt
   have hkl:k<l.length:=by have:=uH HL;omega
   have hst:=aA (aHL (p:=p) (l:=l) (k:=k) hkl)
   obtain ⟨c0,c1,c2,c3,c4⟩:=hx hkl
   clear hx
   have HC:=aA (uH HP wr l[k] (yM _) (uH HB))
   obtain ⟨⟨y0,y1,y2,nd,y4⟩,hs⟩:∃s,l[k]=s:=⟨_,rfl⟩
   rw [hs] at c0 c1 c2 c3 c4 hst HC
   simp only at c0 c1 c2 c3 c4
   clear hs hkl HP
   cases hpq:p ⟨y0,y1,y2,nd,y4⟩ with
   | true=>
    rw [hpq] at HC
    have HQ:=aA hpq
    clear hpq
    go_wp2_with (go_at_fn g;refine (uH HC).mono ?_;rintro e w' ⟨rfl,hb⟩)
    go_ret
    exact ⟨eP (by rw [uH hq,uH hst,if_pos (uH HQ)]),yB (uH HB) hb⟩
   | false=>
    rw [hpq] at HC
    have HQ:=aA hpq
    clear hpq
    go_wp2_with (go_at_fn g;refine (uH HC).mono ?_;rintro e w' ⟨rfl,hb⟩)
    go_roundw
    case rel=>exact ⟨k+1,by omega,by go_num,aA (by rw [uH hq,uH hst,if_neg (by rw [uH HQ];simp)]),aA (yB (uH HB) hb)⟩
    case measure=>simp [intOf];omega
  ·go_wp2
   go_ret
   exact ⟨eP (by rw [uH hq,aIe (by have:=uH HL;omega)]),uH HB⟩
theorem sN (g:Nat) (lb:Array Value) (eg:∀args w,(callFunc g args).run Tryz.prog w=.ok (.enter g args) w) (p:Ask→Bool) (ao:Option Addr) (len cap:Nat) (l:List Ask) (w:World) (h:bE w ao len l) (hl:len≤1048576)
  (hp:∀wx (q:Ask),q ∈ l→Bw w wx→Calls Tryz.prog g (#[aKJ q]++lb) wx fun e w'=>e=.returned (.bool (p q))∧Bw wx w') :
  cP 161 #[.slice ao len cap,.func (.func g) #[] lb] w fun e w'=>e=.returned (.bool (l.any p))∧Bw w w':=by
 have C:=aA (aAB g lb eg p ao len cap l w h hl hp)
 have HS:=aA (aEk p l 0)
 obtain ⟨i,hi⟩:∃i,aGH p l 0=i:=⟨_,rfl⟩
 obtain ⟨b,hb⟩:∃b,l.any p=b:=⟨_,rfl⟩
 rw [hi] at C HS
 rw [hb] at HS ⊢
 clear h hp hi hb
 go_enter Tryz.func161,Tryz.ntmps161
 go_wp2_with fail
 refine (uH C).mono ?_
 rintro e w1 ⟨rfl,hb⟩
 have HB:=aA hb
 clear hb
 by_cases h0:0≤i
 ·go_wp2
  go_ret
  exact ⟨yF (by first | exact uH HS | (rw [←uH HS];simp [h0])),uH HB⟩
 ·go_wp2
  go_ret
  exact ⟨yF (by first | exact uH HS | (rw [←uH HS];simp [h0])),uH HB⟩
theorem aFx (q:Ask) (w:World) (hn:q.node.length≤1048576) :
  cP 162 #[aKJ q] w fun e w'=>e=.returned (.bool (!iN q))∧Bw w w':=by
 have C:=aA (aCv q (w.alloc (.cells #[.int .i64 q.mem,.int .i64 q.cpu,.int .i64 q.count,.string (bs q.node),.int .i64 q.missed] 104)) hn)
 obtain ⟨o,ho⟩:∃o,iN q=o:=⟨_,rfl⟩
 rw [ho] at C ⊢
 obtain ⟨y0,y1,y2,nd,y4⟩:=q
 clear ho
 go_enter Tryz.func162,Tryz.ntmps162
 go_wp2_with fail
 refine (uH C).mono ?_
 rintro e w1 ⟨rfl,hb⟩
 have HB:=aA (yB (yA (yH _ w) _) hb)
 clear hb C
 cases o
 ·go_wp2
  go_ret
  exact ⟨rfl,uH HB⟩
 ·go_wp2
  go_ret
  exact ⟨rfl,uH HB⟩
def uY (l:List Ask):Bool:=decide (l.length≤10)&&l.all iN
theorem aFv (id:Int) (qu:List UInt8) (ao:Option Addr) (len cap:Nat) (l:List Ask) (w:World) (h:bE w ao len l) (hl:len≤1048576) (hn:∀q ∈ l,q.node.length≤1048576) :
  cP 127 #[aHj id qu ao len cap] w fun e w'=>e=.returned (.bool (uY l))∧Bw w w':=by
 have hb0:=yA (yH _ w) (.cells #[.int .i64 id,.string (bs qu),.slice ao len cap] 48)
 have C:=aA (sN 162 #[] (enters_of Tryz.func162 (by kernel_rfl) rfl) (fun q=>!iN q) ao len cap l _ (h.below hb0) hl (fun wx q hq _=>aFx q wx (hn q hq)))
 have HS:=aA (show uY l=(decide (len≤10)&&!(l.any fun q=>!iN q)) by rw [uY,←h.1];congr 1;rw [List.not_any_eq_all_not];simp)
 obtain ⟨o,ho⟩:∃o,uY l=o:=⟨_,rfl⟩
 obtain ⟨b,hb⟩:∃o,(l.any fun q=>!iN q)=o:=⟨_,rfl⟩
 rw [ho] at HS ⊢
 rw [hb] at HS C
 have HB0:=aA hb0
 clear ho hb h hn hb0
 by_cases h10:len≤10
 ·have hi:(len:Int)≤10:=by omega
  rw [decide_eq_true h10] at HS
  clear h10
  go_enter Tryz.func127,Tryz.ntmps127
  go_wp2_with fail
  refine (uH C).mono ?_
  rintro e w1 ⟨rfl,hb⟩
  have HB:=aA (yB (uH HB0) hb)
  clear hb C HB0
  go_wp2
  go_ret
  exact ⟨yF (by rw [uH HS];simp),uH HB⟩
 ·have hi:¬(len:Int)≤10:=by omega
  rw [decide_eq_false h10] at HS
  clear h10 C
  go_enter Tryz.func127,Tryz.ntmps127
  go_wp2
  go_ret
  exact ⟨yF (by rw [uH HS];simp),uH HB0⟩
def aCO (s:St):Bool:=inB s.clock 0 1000000000&&(inB s.epoch 1 1000000000&&(inB s.next 1 1000000000&&inB s.serial 1 1000000000))
theorem aBM (x:Sls) (s:St) (w:World) :
  cP 75 #[sv x s] w fun e w'=>e=.returned (.bool (aCO s))∧Bw w w':=by
 obtain ⟨qa,ql,qc,aa,al,ac,ma,ml,mc,ca,cl,cc⟩:=x
 obtain ⟨qs,cv,ez,nv,sj,aj,ms,cs⟩:=s
 have HB0:=aA (yA (yH _ w) (.cells (svc ⟨qa,ql,qc,aa,al,ac,ma,ml,mc,ca,cl,cc⟩ ⟨qs,cv,ez,nv,sj,aj,ms,cs⟩) 29))
 simp only [aCO]
 obtain ⟨b0,h0⟩:∃b,inB cv 0 1000000000=b:=⟨_,rfl⟩
 obtain ⟨b1,h1⟩:∃b,inB ez 1 1000000000=b:=⟨_,rfl⟩
 obtain ⟨b2,h2⟩:∃b,inB nv 1 1000000000=b:=⟨_,rfl⟩
 obtain ⟨b3,h3⟩:∃b,inB sj 1 1000000000=b:=⟨_,rfl⟩
 have C0:=aA (fun wx=>by have:=nE cv wx;rw [h0] at this;exact this)
 have C1:=aA (fun wx=>by have:=pM ez wx;rw [h1] at this;exact this)
 have C2:=aA (fun wx=>by have:=pM nv wx;rw [h2] at this;exact this)
 have C3:=aA (fun wx=>by have:=pM sj wx;rw [h3] at this;exact this)
 rw [h0,h1,h2,h3]
 clear h0 h1 h2 h3
 go_enter Tryz.func75,Tryz.ntmps75
 go_wp2_with fail
 refine (uH C0 _).mono ?_
 rintro e w1 ⟨rfl,rfl⟩
 cases b0 with
 | false=>
  go_wp2
  go_ret
  exact ⟨rfl,uH HB0⟩
 | true=>
 go_wp2_with fail
 refine (uH C1 _).mono ?_
 rintro e w1 ⟨rfl,rfl⟩
 cases b1 with
 | false=>
  go_wp2
  go_ret
  exact ⟨rfl,uH HB0⟩
 | true=>
 go_wp2_with fail
 refine (uH C2 _).mono ?_
 rintro e w1 ⟨rfl,rfl⟩
 cases b2 with
 | false=>
  go_wp2
  go_ret
  exact ⟨rfl,uH HB0⟩
 | true=>
 go_wp2_with fail
 refine (uH C3 _).mono ?_
 rintro e w1 ⟨rfl,rfl⟩
 go_wp2
 go_ret
 exact ⟨yF (by simp),uH HB0⟩
theorem aC5 (x:Sls) (s:St) (nd:List UInt8) (w:World) (h:bG w x.ca x.cl s.cs) (hl:x.cl≤1048576) :
  cP 107 #[sv x s,.string (bs nd)] w fun e w'=>∃v,e=.returned v∧aAG w.heap.size w' v (aV (fun q=>decide (q.node=nd)) s.cs)∧Bw w w':=by
 obtain ⟨i0,hi,hz0,hz1,hz2⟩:=info_parts Tryz.infoR
 obtain ⟨qa,ql,qc,aa,al,ac,ma,ml,mc,ca,cl,cc⟩:=x
 obtain ⟨qs,cv,ez,nv,sj,aj,ms,cs⟩:=s
 simp only at h hl ⊢
 have HR:=aA h
 have HL:=aA h.1
 have HB0:=aA (gG w #[.slice qa ql qc,.int .i64 cv,.int .i64 ez,.int .i64 nv,.int .i64 sj,.slice aa al ac,.slice ma ml mc,.slice ca cl cc])
 have P0:=aA (eB w #[.slice qa ql qc,.int .i64 cv,.int .i64 ez,.int .i64 nv,.int .i64 sj,.slice aa al ac,.slice ma ml mc,.slice ca cl cc])
 have HW:=aA (zB w #[.slice qa ql qc,.int .i64 cv,.int .i64 ez,.int .i64 nv,.int .i64 sj,.slice aa al ac,.slice ma ml mc,.slice ca cl cc])
 have YJ:=aA (rP (o5 w #[.slice qa ql qc,.int .i64 cv,.int .i64 ez,.int .i64 nv,.int .i64 sj,.slice aa al ac,.slice ma ml mc,.slice ca cl cc]))
 obtain ⟨c,hc⟩:∃c:Array Value,#[.slice qa ql qc,.int .i64 cv,.int .i64 ez,.int .i64 nv,.int .i64 sj,.slice aa al ac,.slice ma ml mc,.slice ca cl cc]=c:=⟨_,rfl⟩
 rw [hc] at HB0 HW YJ
 have P0:=aA (show Blk (o5 w c) w.heap.size #[.slice qa ql qc,.int .i64 cv,.int .i64 ez,.int .i64 nv,.int .i64 sj,.slice aa al ac,.slice ma ml mc,.slice ca cl cc] 29 by rw [hc];exact eB w c)
 have HC:=aA hc
 clear h hc
 go_enter Tryz.func107,Tryz.ntmps107
 go_wp2
 go_loopw [5,6] (fun v i wr=>∃(k:Nat),k≤cl∧i=.int .i64 k∧Hid (aAG (o5 w c).heap.size wr v (aV (fun q=>decide (q.node=nd)) (cs.take k)))∧Hid (Below (o5 w c).heap.size (o5 w c) wr)) (fun _ i _=>cl - (intOf i).toNat)
 case atStart=>
  obtain rfl:=uH HC
  have h1:=uH HW
  refine ⟨0,Nat.zero_le _,rfl,aA ?_,aA (yA (yH _ _) _)⟩
  have:=uH YJ
  rw [h1] at this
  rw [h1]
  exact this
 case round=>
  obtain ⟨k,hk,rfl,HO,HB⟩:=hrel
  have hn1:w.heap.size<(o5 w c).heap.size:=by have:=uH HW;omega
  have p7:=Blk.at (show Blk wr w.heap.size _ 29 from ((uH HB).block _ hn1).trans (uH P0)) 7
  simp at p7
  by_cases hlt:k<cl
  ·obtain ⟨b,off,rfl,hq⟩:=(((uH HR).below (uH HB0)).below (uH HB)).at hlt
   have hkl:k<cs.length:=by have:=uH HL;omega
   have hst:=rJ (p:=fun q=>decide (q.node=nd)) hkl
   obtain ⟨c0,c1,c2,c3,c4⟩:=hq hkl
   obtain ⟨m,hs⟩:∃q,cs[k]=q:=⟨_,rfl⟩
   rw [hs] at c0 c1 c2 c3 c4 hst
   have hal:(aV (fun q=>decide (q.node=nd)) (cs.take k)).length≤1048576:=by have:(aV (fun q:Con=>decide (q.node=nd)) (cs.take k)).length≤(cs.take k).length:=(by simp only [aV,List.length_map];exact List.length_filter_le _ _);simp at this;omega
   obtain ⟨acc,Gq⟩:∃a,aV (fun q=>decide (q.node=nd)) (cs.take k)=a:=⟨_,rfl⟩
   rw [Gq] at hst hal HO
   obtain ⟨id,ap,no,me,cp⟩:=m
   simp only at c0 c1 c2 c3 c4 hst
   have hs2:(o5 w c).heap.size≤wr.heap.size:=(uH HB).size
   have Hq:wr.ownsRow (o5 w c).heap.size 37 2 _ acc.length (iZ acc):=uH HO
   have hbe:=lL no nd
   clear hq hs hkl Gq
   by_cases hnd:no=nd
   ·rw [decide_eq_true hnd] at hbe hst
    have HST:=aA (show aV (fun q=>decide (q.node=nd)) (cs.take (k+1))=acc++[(me,cp)] by have:=hst;rw [if_pos rfl] at this;exact this)
    clear hst hnd
    go_wp2_with (at_builtin;refine wpList_append_own _ rfl _ _ 120 rfl (o5 w c).heap.size 37 i0 (.agg #[.int .i64 0,.int .i64 0]) 2 16 Tryz.underlying120 hi hz0 hz1 hz2 rfl (by decide) _ _ _ rfl (Hq.alloc _) ⟨wr.heap.size,0,none⟩ 1 1 (aBE (me,cp)) rfl rfl ?c1 ?c2 ?c3 ?c4 ?c5 ?_)
    case c1=>
     intro j x hj
     match j,hj with
     | 0,hj=>simp at hj;subst hj;simp [Addr.add]
     | 1,hj=>simp at hj;subst hj;simp [Addr.add]
     | _+2,hj=>simp at hj
    case c2=>intro x hx;simp at hx;rcases hx with rfl | rfl<;>rfl
    case c3=>unfold maxLen;omega
    case c4=>omega
    case c5=>simp at hs2 ⊢;omega
    intro v' w3 Hy Hz _
    have R:=mZ (q:=(me,cp)) (uH HB) (uH HO) Hy Hz hs2
    have HR3:=aA R
    clear Hy Hz Hq c0 c1 c2 c3 c4 R p7
    go_wp2
    go_roundw
    case rel=>exact ⟨k+1,by omega,by go_num,aA (by rw [uH HST];exact (uH HR3).1),aA (uH HR3).2⟩
    case measure=>simp [intOf];omega
   ·rw [decide_eq_false hnd] at hbe hst
    have HST:=aA (show aV (fun q=>decide (q.node=nd)) (cs.take (k+1))=acc by have:=hst;rw [if_neg (by simp)] at this;exact this)
    clear hst hnd Hq
    go_wp2
    go_roundw
    case rel=>exact ⟨k+1,by omega,by go_num,aA (by rw [uH HST];exact uH HO),HB⟩
    case measure=>simp [intOf];omega
  ·have htk:cs.take k=cs:=List.take_of_length_le (by have:=uH HL;omega)
   rw [htk] at HO
   go_wp2
   go_ret
   exact ⟨_,rfl,(uH HO).base (by omega),yB (uH HB0) (uH HB)⟩
theorem zU (x:Sls) (s:St) (nd:List UInt8) (w:World) (h:bG w x.ca x.cl s.cs) (hl:x.cl≤1048576) :
  cP 121 #[sv x s,.string (bs nd)] w fun e w'=>e=.returned (rv (iL (aV (fun q=>decide (q.node=nd)) s.cs)).1 (iL (aV (fun q=>decide (q.node=nd)) s.cs)).2.1)∧Bw w w':=by
 have hlc:(aV (fun q=>decide (q.node=nd)) s.cs).length≤1048576:=by have:=h.1;have:(aV (fun q:Con=>decide (q.node=nd)) s.cs).length≤s.cs.length:=(by simp only [aV,List.length_map];exact List.length_filter_le _ _);omega
 have HR:=aA h
 clear h
 obtain ⟨⟨sx,sy,so⟩,hs⟩:∃y,iL (aV (fun q=>decide (q.node=nd)) s.cs)=y:=⟨_,rfl⟩
 have CC:=aA (fun wx (hb:Bw w wx)=>aC5 x s nd wx ((uH HR).below hb) hl)
 have CS:=aA (fun ao cap wx (h:aGD wx ao (aV (fun q=>decide (q.node=nd)) s.cs).length (aV (fun q=>decide (q.node=nd)) s.cs))=>by have:=lT ao _ cap (aV (fun q=>decide (q.node=nd)) s.cs) wx h hlc;rw [hs] at this;exact this)
 rw [hs]
 clear hs
 obtain ⟨qa,ql,qc,aa,al,ac,ma,ml,mc,ca,cl,cc⟩:=x
 obtain ⟨qs,cv,ez,nv,sj,aj,ms,cs⟩:=s
 simp only at CC CS hlc
 go_enter Tryz.func121,Tryz.ntmps121
 go_wp2_with fail
 refine (uH CC _ (bZ w _)).mono ?_
 rintro e w1 ⟨v,rfl,ho,hb⟩
 obtain ⟨ao,cp,rfl,Hw,_⟩:=ho.row
 have V1:=(gY w _).below hb
 have GH:=aA V1
 have HB1:=aA (yB (bZ w _) hb)
 have GX:=aA Hw
 obtain ⟨n,hn⟩:∃n,(aV (fun q=>decide (q.node=nd)) cs).length=n:=⟨_,rfl⟩
 rw [hn] at CS GX ⊢
 clear hb V1 CC ho Hw hn hlc
 go_wp2_with fail
 refine (uH CS _ _ _ (uH GX)).mono ?_
 rintro e w2 ⟨rfl,hb⟩
 have V1:=(uH GH).below hb
 have HB2:=aA (yB (uH HB1) hb)
 have V2:=V1.al (.cells #[.int .i64 sx,.int .i64 sy] 37)
 have t0:=V2.c0
 have t1:=V2.c1
 have f0:=V2.f 0
 have f1:=V2.f 1
 have VG:=V2.set sx sy
 have k6:=VG.c0
 have k7:=VG.c1
 clear hb V1 V2 VG CS GH HB1 GX
 go_wp2
 refine bodyPost_ret (v:=rv sx sy) (by simp [results,Tryz.results121,go_sem,k6,k7]) rfl ⟨rfl,?_⟩
 repeat (first | exact uH HB2 | refine yA ?_ _ | refine yC ?_ _ _ _ (by omega))
theorem gU.cl {w:World} {x:Sls} {s:St} (h:gU w x s) (hf:dI s):x.cl≤1048576:=by have:=h.len.2.2.2;have:=hf.2.2.2.1;omega
theorem aCA (x:Sls) (s:St) (nd:List UInt8) (w:World) (h:bG w x.ca x.cl s.cs) (hl:x.cl≤1048576) :
  cP 121 #[sv x s,.string (bs nd)] w fun e w'=>e=.returned (rv (o9 s nd).1 (o9 s nd).2)∧Bw w w':=zU x s nd w h hl
end
section
open Go.RowKit Go.Maps
theorem oN (x:Sls) (s:St) (nm:List UInt8) (w:World) (h:gU w x s) (hf:dI s) :
    cP 69 #[sv x s,.string (bs nm)] w fun e w'=>e=.returned (rv (sI s nm).1 (sI s nm).2)∧Bw w w':=by
  have GN:x.ml≤1048576:=by have:=h.len.2.2.1;have:=hf.2.2.1.1;omega
  have hcl:x.cl≤1048576:=by have:=h.len.2.2.2;have:=hf.2.2.2.1;omega
  have CM:=aA (fun wx (hb:Bw w wx)=>oU x s nm wx (h.2.2.1.below hb) GN)
  have CU:=aA (fun wx (hb:Bw w wx)=>aCA x s nm wx (h.2.2.2.below hb) hcl)
  have vv:=aA (show sI s nm=match bQ nm s.ms with | none=>(0,0) | some m=>aF8 m.mem m.cpu (o9 s nm).1 (o9 s nm).2 from rfl)
  have UA:=aA (fun wx (hb:Bw w wx)=>h.2.2.1.below hb)
  have MW:=aA h.2.2.1.1
  have hat:=aA4 nm s.ms
  obtain ⟨⟨ux,uy⟩,hu⟩:∃u,o9 s nm=u:=⟨_,rfl⟩
  obtain ⟨⟨fx,fy⟩,hfr⟩:∃u,sI s nm=u:=⟨_,rfl⟩
  obtain ⟨at0,ha⟩:∃p,aBR s.ms nm=p:=⟨_,rfl⟩
  rw [hu] at CU vv
  rw [hfr] at vv ⊢
  rw [ha] at CM hat
  clear h hf hu hfr ha
  obtain ⟨qa,ql,qc,aa,al,ac,ma,ml,mc,ca,cl,cc⟩:=x
  obtain ⟨qs,cv,ez,nv,sj,aj,ms,cs⟩:=s
  simp only at vv UA MW hat
  have HB0:=aA (bZ w (svc ⟨qa,ql,qc,aa,al,ac,ma,ml,mc,ca,cl,cc⟩ ⟨qs,cv,ez,nv,sj,aj,ms,cs⟩))
  have V0:=aA (gY w (svc ⟨qa,ql,qc,aa,al,ac,ma,ml,mc,ca,cl,cc⟩ ⟨qs,cv,ez,nv,sj,aj,ms,cs⟩))
  have P0:=aA ((eB w (svc ⟨qa,ql,qc,aa,al,ac,ma,ml,mc,ca,cl,cc⟩ ⟨qs,cv,ez,nv,sj,aj,ms,cs⟩)).al (.cells #[.int .i64 0,.int .i64 0] 37))
  go_enter Tryz.func69,Tryz.ntmps69
  go_wp2_with fail
  refine (uH CM _ (uH HB0)).mono ?_
  rintro e w1 ⟨rfl,hb⟩
  have HB1:=aA (yB (uH HB0) hb)
  have V1:=aA ((uH V0).below hb)
  have P1:=aA ((uH P0).below hb)
  clear hb HB0 V0 P0 CM
  rcases hat with ⟨hfm,rfl⟩ | ⟨j,hj,hfm,rfl⟩
  · rw [hfm] at vv
    simp only at vv
    have hz:=uH vv
    simp only [Prod.mk.injEq] at hz
    obtain ⟨rfl,rfl⟩:=hz
    have V2:=uH V1
    have t0:=V2.c0
    have t1:=V2.c1
    have f0:=V2.f 0
    have f1:=V2.f 1
    have k4:=V2.s0 (.int .i64 0)
    have k5:=V2.s1 (.int .i64 0) (.int .i64 0)
    clear V2
    go_wp2
    refine bodyPost_ret (v:=rv 0 0) (by simp [results,Tryz.results69,go_sem,k4,k5]) rfl ⟨rfl,?_⟩
    repeat (first | exact uH HB1 | refine yA ?_ _ | refine yC ?_ _ _ _ (by omega))
  · rw [hfm] at vv
    have hjl:j<ml:=by have:=uH MW;omega
    obtain ⟨mb,mo,rfl,hq⟩:=(uH UA _ (uH HB1)).at hjl
    have HQ:=aA (hq hj)
    obtain ⟨⟨mn,me,mp,se⟩,hs⟩:∃m,ms[j]=m:=⟨_,rfl⟩
    rw [hs] at HQ vv
    simp only at vv
    have Tj:=aA (show kT (-1) me mp ux uy=rv fx fy by rw [aGt,←uH vv])
    have CB:=aA (fun wx=>by have:=aDS me mp ux uy wx;rw [uH Tj] at this;exact this)
    obtain ⟨ok,hok⟩:∃o,aP (-1) me mp ux uy=o:=⟨_,rfl⟩
    rw [hok] at CB
    have j0:(0:Int)≤j:=by omega
    have j1:(j:Int)<ml:=by omega
    clear hok Tj vv hfm hq hs hj
    have R:∀wx,Kp w1 wx→wx.cell? ⟨w.heap.size,0,none⟩=some (.slice qa ql qc)∧wx.cell? ⟨w.heap.size,1,none⟩=some (.int .i64 cv)∧wx.cell? ⟨w.heap.size,2,none⟩=some (.int .i64 ez)∧wx.cell? ⟨w.heap.size,3,none⟩=some (.int .i64 nv)∧wx.cell? ⟨w.heap.size,4,none⟩=some (.int .i64 sj)∧wx.cell? ⟨w.heap.size,5,none⟩=some (.slice aa al ac)∧wx.cell? ⟨w.heap.size,6,none⟩=some (.slice (some ⟨mb,mo,none⟩) ml mc)∧wx.cell? ⟨w.heap.size,7,none⟩=some (.slice ca cl cc)∧wx.cell? ⟨mb,mo+j*4+1,none⟩=some (.int .i64 me)∧wx.cell? ⟨mb,mo+j*4+2,none⟩=some (.int .i64 mp):=fun wx h=>
      ⟨h.cell ((uH P1).at 0),h.cell ((uH P1).at 1),h.cell ((uH P1).at 2),h.cell ((uH P1).at 3),h.cell ((uH P1).at 4),h.cell ((uH P1).at 5),h.cell ((uH P1).at 6),h.cell ((uH P1).at 7),h.cell (uH HQ).2.1,h.cell (uH HQ).2.2.1⟩
    have A0:=aA (Kp.new w1)
    have HS:=aA (aK w1)
    have hw1:=(uH V1).lt
    go_wp2_with fail
    go_cut [6,7] from 14 to 26 (fun v7 v8 wx=>∃g,v7=.pointer (some ⟨g,0,none⟩)∧v8=.bool ok∧Kp w1 wx∧Var wx 37 g fx fy∧w1.heap.size≤g)
    case first=>
      go_region_held3 (fun wx=>Kp w1 wx)
        (first | (with_reducible assumption) | exact uH SA | exact (uH HS).drew (uH A0) | exact (uH HS).al (uH SA) _ | exact (uH HS).al (by assumption) _ | exact (uH HS).al ((uH HS).drew (uH A0)) _ | exact (uH HS).call (by assumption) (by assumption) | exact (uH HS).set2 (uH SA) _ _ _ (by first | omega | (simp<;>omega)) | exact (uH HS).set2 (by assumption) _ _ _ (by first | omega | (simp<;>omega)))
        (first
        | (go_at_call 121;refine (uH CU _ ?_).mono ?_;(exact yB (uH HB1) ((uH HS).below (by assumption)));rintro e wt ⟨rfl,hb⟩;have SA:=aA ((uH HS).call (by assumption) hb);have sz:=(uH HS).size (uH SA)
           first
             | (have V5:=(bD _ 37 0 0).below hb;(try simp at V5);have c50:=V5.c0;have c51:=V5.c1;have f50:=V5.f 0;have f51:=V5.f 1;have V5:=aA V5)
             | (have V5:=(bD _ 37 0 0).drew.below hb;(try simp at V5);have c50:=V5.c0;have c51:=V5.c1;have f50:=V5.f 0;have f51:=V5.f 1;have V5:=aA V5)
             | skip)
        | (go_at_call 120;refine (uH CB _).mono ?_;rintro e wt ⟨rfl,hb⟩;have SA:=aA ((uH HS).call (by assumption) hb);have sz:=(uH HS).size (uH SA)
           first
             | (have V5:=(bD _ 37 0 0).below hb;(try simp at V5);have c50:=V5.c0;have c51:=V5.c1;have f50:=V5.f 0;have f51:=V5.f 1;have V5:=aA V5)
             | (have V5:=(bD _ 37 0 0).drew.below hb;(try simp at V5);have c50:=V5.c0;have c51:=V5.c1;have f50:=V5.f 0;have f51:=V5.f 1;have V5:=aA V5)
             | (have V5:=aA ((uH V5).below hb);have c50:=(uH V5).c0;have c51:=(uH V5).c1;have f50:=(uH V5).f 0;have f51:=(uH V5).f 1)
             | skip))
      all_goals
        go_wp2_with fail
        go_meet
        exact ⟨_,rfl,rfl,by first | assumption | exact uH SA | exact (uH HS).al (uH SA) _,by first | exact bD _ _ _ _ | exact (uH V5).set _ _,by first | omega | (simp<;>omega)⟩
    case rest=>
      obtain ⟨g,rfl,rfl,hA,hV,hg⟩:=hcut
      have HB2:=aA (yB (uH HB1) hA)
      have v0:=hV.c0
      have v1:=hV.c1
      have V2:=(uH V1).below hA
      have t0:=V2.c0
      have t1:=V2.c1
      have f0:=V2.f 0
      have f1:=V2.f 1
      have k4:=V2.s0 (.int .i64 fx)
      have k5:=V2.s1 (.int .i64 fx) (.int .i64 fy)
      clear hA hV A0 CB CU R V2 V1 P1 HB1
      go_wp2
      refine bodyPost_ret (v:=rv fx fy) (by simp [results,Tryz.results69,go_sem,k4,k5]) rfl ⟨rfl,?_⟩
      repeat (first | exact uH HB2 | refine yA ?_ _ | refine yC ?_ _ _ _ (by omega))
def jA (s:St) (id:Int):bN×Bool:=match bH id s.apps with
 | none=>(⟨0,[],[]⟩,false)
 | some a=>(a,true)
theorem aE6 {id:Int} (P:AV→bN→Prop) (hid:∀v a,P v a→v.id=a.id):∀(hs:List AV) (l:List bN),hs.length=l.length→(∀i (h:i<hs.length) (h':i<l.length),P hs[i] l[i])→
  (fJ id hs=none∧bH id l=none)∨∃v a,fJ id hs=some v∧bH id l=some a∧P v a∧a ∈ l
 | [],[],_,_=>.inl ⟨rfl,rfl⟩
 | v::t,a::r,h1,h2=>by
  have h0:=h2 0 (by simp) (by simp)
  simp only [List.getElem_cons_zero] at h0
  by_cases e:a.id=id
  ·have e':v.id=id:=(hid _ _ h0).trans e
   exact .inr ⟨v,a,by simp [fJ,e'],by simp [bH,e],h0,by simp⟩
  ·have e':¬v.id=id:=fun x=>e ((hid _ _ h0).symm.trans x)
   rcases aE6 P hid t r (by simpa using h1) (fun i a b=>by have:=h2 (i+1) (by simpa using a) (by simpa using b);simpa using this) with ⟨x,y⟩ | ⟨v',a',x,y,z,m⟩
   ·exact .inl ⟨by simpa [fJ,e'] using x,by simpa [bH,e] using y⟩
   ·exact .inr ⟨v',a',by simpa [fJ,e'] using x,by simpa [bH,e] using y,z,List.mem_cons_of_mem _ m⟩
 | [],a::r,h1,_=>by simp at h1
 | v::t,[],h1,_=>by simp at h1
def aKq (w:World) (c:Array Value):World:=(w.alloc (.cells c 29)).alloc (.cells #[.int .i64 0,.string ByteArray.empty,.slice none 0 0] 48)
theorem aCx (w:World) (c:Array Value):(aKq w c).heap.size=w.heap.size+1+1:=by simp only [aKq,yE]
theorem aAl (w:World) (c:Array Value):Bw w (aKq w c):=yA (yA (yH _ w) _) _
theorem aIv (w:World) (c:Array Value):Blk (aKq w c) w.heap.size c 29:=(yD w c _).al _
theorem aEx (w:World) (c:Array Value):Blk (aKq w c) (w.heap.size+1) #[.int .i64 0,.string ByteArray.empty,.slice none 0 0] 48:=by
 have:=yD (w.alloc (.cells c 29)) #[.int .i64 0,.string ByteArray.empty,.slice none 0 0] 48
 rwa [yE] at this
theorem aB0 (x:Sls) (s:St) (id:Int) (w:World) (h:gU w x s) (hf:dI s) (hw:∀a ∈ s.apps,(Lit.int .i64 a.id).wf=true) (hi:(Lit.int .i64 id).wf=true) :
  cP 19 #[sv x s,.int .i64 id] w fun e w'=>∃v,e=.returned (.tuple #[.agg #[.int .i64 (jA s id).1.id,.string (bs (jA s id).1.queue),v],.bool (jA s id).2])∧Hid (tC w.heap.size w' v (jA s id).1.asks∧Bw w w'):=by
 have hal:x.al≤1048576:=by have:=h.len.2.1;have:=hf.2.1.1;omega
 obtain ⟨hs,qj,hh⟩:=h.2.1.heads
 have hwf:∀v ∈ hs,(Lit.int .i64 v.id).wf=true:=fun v hv=>by
  obtain ⟨i,hi,rfl⟩:=List.mem_iff_getElem.1 hv
  have hi':i<s.apps.length:=by rw [←hh.1];exact hi
  rw [(hh.2 i hi hi').1]
  exact hw _ (yM _)
 have CM:=aA (fun wx (hb:Bw w wx)=>aBd x s hs wx (qj.below hb) hal hwf)
 obtain ⟨kl,G7⟩:=aA9 (nm:=[]) (k:=id) (by decide) hi
 have QA:=aA G7
 have NK:=aE6 (id:=id) (fun v a=>v.id=a.id∧v.queue=a.queue∧bE w v.ao v.len a.asks∧v.len≤v.cap) (fun v a h=>h.1) hs s.apps hh.1 hh.2
 have MO:=aA NK
 have zw:=aA hf.2.1
 have xx:=aA (show jA s id=match bH id s.apps with | none=>(⟨0,[],[]⟩,false) | some a=>(a,true) from rfl)
 obtain ⟨⟨⟨ai,aq,aas⟩,fo⟩,hap⟩:∃r,jA s id=r:=⟨_,rfl⟩
 rw [hap] at xx ⊢
 clear h hf hw hi qj hh hwf G7 NK hap
 obtain ⟨qa,ql,qc,aa,al,ac,ma,ml,mc,ca,cl,cc⟩:=x
 obtain ⟨qs,cv,ez,nv,sj,aj,ms,cs⟩:=s
 simp only at CM MO zw xx hal ⊢
 have HB0:=aA (aAl w (svc ⟨qa,ql,qc,aa,al,ac,ma,ml,mc,ca,cl,cc⟩ ⟨qs,cv,ez,nv,sj,aj,ms,cs⟩))
 have V0:=aA (aEx w (svc ⟨qa,ql,qc,aa,al,ac,ma,ml,mc,ca,cl,cc⟩ ⟨qs,cv,ez,nv,sj,aj,ms,cs⟩))
 go_enter Tryz.func19,Tryz.ntmps19
 go_wp2_with fail
 refine (uH CM _ (uH HB0)).mono ?_
 rintro e w1 ⟨bm,rfl,⟨QM,D,Hq,hk⟩,hb⟩
 have HB1:=aA (yB (uH HB0) hb)
 have V1:=aA ((uH V0).below hb)
 obtain ⟨v,hlk,hv1,hv2⟩:=aK9 Hq hk (uH QA)
 rcases uH MO with ⟨hf1,hf2⟩ | ⟨u,a,hf1,hf2,⟨hu1,hu2,hu3,tq⟩,QK⟩
 ·obtain rfl:=hv2 hf1
  rw [hf1] at hlk
  rw [hf2] at xx
  have hz:=uH xx
  simp only [Prod.mk.injEq,bN.mk.injEq] at hz
  obtain ⟨⟨rfl,rfl,rfl⟩,rfl⟩:=hz
  have hl2:(Instr.lookup 89 (.map (some bm)) (.agg #[.string { data:=#[] },.int .i64 id]) true).run Tryz.prog w1=.ok (.tuple #[.agg #[.int .i64 0,.string { data:=#[] },.slice none 0 0],.bool false]) w1:=hlk
  have hl3:(Instr.lookup 89 (.map (some bm)) (.agg #[.string ByteArray.empty,.int .i64 id]) true).run Tryz.prog w1=.ok (.tuple #[.agg #[.int .i64 0,.string { data:=#[] },.slice none 0 0],.bool false]) w1:=hlk
  have V2:=(uH V1).al (.cells #[.int .i64 0,.string { data:=#[] },.slice none 0 0] 48)
  have GI:=aA V2
  have t0:=V2.at 0
  have t1:=V2.at 1
  have t2:=V2.at 2
  have tf0:=V2.f 0
  have tf1:=V2.f 1
  have tf2:=V2.f 2
  simp at t0 t1 t2
  clear hlk hv1 hv2 hf1 hf2 Hq hk hb V2 MO
  go_wp2
  have X1:=(((uH GI).set 0 (.int .i64 0)).set 1 (.string { data:=#[] })).set 2 (.slice none 0 0)
  have x0:=X1.at 0
  have x1:=X1.at 1
  have x2:=X1.at 2
  simp at x0 x1 x2
  refine bodyPost_ret (v:=.tuple #[.agg #[.int .i64 0,.string { data:=#[] },.slice none 0 0],.bool false]) (by simp [results,Tryz.results19,go_sem,x0,x1,x2]) rfl ⟨_,rfl,aA ⟨aBe _ _,?_⟩⟩
  exact yC (yC (yC (yA (uH HB1) _) _ _ _ (by omega)) _ _ _ (by omega)) _ _ _ (by omega)
 ·have hvu:=hv1 u hf1 rfl
  subst hvu
  rw [hf1] at hlk
  rw [hf2] at xx
  have hz:=uH xx
  simp only [Prod.mk.injEq] at hz
  obtain ⟨hza,rfl⟩:=hz
  subst hza
  obtain ⟨ui,uq,uo,ul,uc⟩:=v
  simp only at hu1 hu2 hu3 tq
  subst hu1 hu2
  have hfa:=(uH zw).2 _ QK
  have Fx:ul≤1048576:=by have h1:=hu3.1;have h2:=hfa.2.1;simp only at h2;omega
  have CO:=aA (fun wx (hb:Bw w wx)=>qV ui uq uo ul uc aas wx (hu3.below hb) Fx hfa.1 hfa.2.2)
  have hl2:(Instr.lookup 89 (.map (some bm)) (.agg #[.string { data:=#[] },.int .i64 id]) true).run Tryz.prog w1=.ok (.tuple #[.agg #[.int .i64 ui,.string (bs uq),.slice uo ul uc],.bool true]) w1:=hlk
  have hl3:(Instr.lookup 89 (.map (some bm)) (.agg #[.string ByteArray.empty,.int .i64 id]) true).run Tryz.prog w1=.ok (.tuple #[.agg #[.int .i64 ui,.string (bs uq),.slice uo ul uc],.bool true]) w1:=hlk
  have HB2:=aA (yA (uH HB1) (.cells #[.int .i64 ui,.string (bs uq),.slice uo ul uc] 48))
  have V2:=aA ((uH V1).al (.cells #[.int .i64 ui,.string (bs uq),.slice uo ul uc] 48))
  have hs1:w.heap.size+1+1≤w1.heap.size:=by have:=hb.size;rw [aCx] at this;exact this
  clear hlk hv1 hv2 hf1 hf2 Hq hk hb MO hu3 tq QK hfa xx HB1 V1 HB0 V0 CM zw
  go_wp2_with fail
  refine (uH CO _ (uH HB2)).mono ?_
  rintro e w2 ⟨v,rfl,ho,hb⟩
  have HO:=aA (ho.base (B':=w.heap.size+2) (by rw [yE];omega))
  have QO:=aA ((uH V2).below hb)
  have HB3:=aA (yB (uH HB2) hb)
  obtain ⟨xo,xc,rfl,_⟩:=ho.row
  obtain ⟨n,hnn⟩:∃n,aas.length=n:=⟨_,rfl⟩
  rw [hnn] at HO ⊢
  clear ho hb hnn CO HB2 V2 hl2 hl3
  have t0:=(uH QO).at 0
  have t1:=(uH QO).at 1
  have t2:=(uH QO).at 2
  have tf0:=(uH QO).f 0
  have tf1:=(uH QO).f 1
  have tf2:=(uH QO).f 2
  simp at t0 t1 t2
  go_wp2
  have X1:=(((uH QO).set 0 (.int .i64 ui)).set 1 (.string (bs uq))).set 2 (.slice xo n xc)
  have x0:=X1.at 0
  have x1:=X1.at 1
  have x2:=X1.at 2
  simp at x0 x1 x2
  refine bodyPost_ret (v:=.tuple #[.agg #[.int .i64 ui,.string (bs uq),.slice xo n xc],.bool true]) (by simp [results,Tryz.results19,go_sem,x0,x1,x2]) rfl ⟨_,rfl,aA ⟨?_,?_⟩⟩
  ·exact ((((uH HO).other3 (w.heap.size+1) 0 (.int .i64 ui) (by omega)).other3 (w.heap.size+1) 1 (.string (bs uq)) (by omega)).other3 (w.heap.size+1) 2 (.slice xo n xc) (by omega)).base (by omega)
  ·exact yC (yC (yC (uH HB3) _ _ _ (by omega)) _ _ _ (by omega)) _ _ _ (by omega)
end
end Go.Proofs.YtngkddhcmfbjnaaGreat
