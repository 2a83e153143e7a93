/-
  Texts in one: RightS, SumI4, CapI, UsedI, UsedOnI, FreeOnM, CapsI, KnownI, OfK, LessK, StdM, StdC.
-/
import Derived.Test.YtngkddhcmfbjnaaGreatSackC
import Derived.Test.YtngkddhcmfbjnaaGreatSackB
import Derived.Test.YtngkddhcmfbjnaaGreatSackD
import Derived.Laws.OwnMore
set_option maxRecDepth 100000
set_option maxHeartbeats 16000000
set_option linter.unusedVariables false
set_option linter.unusedSimpArgs false
namespace Go.Proofs.YtngkddhcmfbjnaaGreat
section
open Go.RowKit
variable {B cap g:Nat} {ao:Option Addr} {w0:World}
theorem CSt.rebase {w:World} {len:Nat} (h:CSt w0 B g ao len cap w):CSt w B g ao len cap w:=⟨h.1,h.2.1,aF w _,h.2.2.2⟩
def aAp (a b c d:Int):List Q:=[⟨[114,111,111,116],[],10000,10000⟩,⟨[97],[114,111,111,116],a,b⟩,⟨[98],[114,111,111,116],c,d⟩]
theorem aDL (a b c d:Int):aBh (aAp a b c d):=fun q hq=>by
 simp [aAp] at hq
 rcases hq with rfl | rfl | rfl<;>simp
theorem aBD {len:Nat} (w:World) (h:CSt w0 B g ao len cap w) :
  cP 68 #[.pointer (some ⟨g,0,none⟩)] w fun e w'=>∃v ls,e=.returned v∧Hid (QDr w.heap.size w' v ls)∧3≤ls.length∧ls.length≤5∧Hid (aBh ls)∧Hid (CSt w0 B g ao len cap w'):=by
 obtain ⟨i0,hi,hz0,hz1,hz2⟩:=info_parts Tryz.infoQD
 have HS:=aA h
 have hgl:=h.1.lt
 have hw0:=h.2.2.1.size
 clear h
 have hq1:=aA (fG w 3 [5000,3000,0,6000] (by decide))
 go_enter Tryz.func68,Tryz.ntmps68
 go_wp2_with fail
 refine (lG w.heap.size 4 4 _ ((uH HS).alloc _).rebase (uH hq1) (by omega) (by decide) (by decide)).mono ?_
 rintro e w1 ⟨x1,rfl,_,_,hs1⟩
 have ZP:=aA (((uH HS).alloc _).step hs1.1 hs1.2.2.1)
 have hz1':w.heap.size+1≤w1.heap.size:=by have:=hs1.2.2.1.size;rwa [World.size_alloc] at this
 have hq2:=aA (fG w1 3 [8000,10000,6000] (by decide))
 clear hs1 hq1 HS
 go_wp2_with fail
 refine (lG w1.heap.size 3 3 _ ((uH ZP).alloc _).rebase (uH hq2) (by omega) (by decide) (by decide)).mono ?_
 rintro e w2 ⟨x2,rfl,_,_,hs2⟩
 have HS2:=aA (((uH ZP).alloc _).step hs2.1 hs2.2.2.1)
 have hz2':w1.heap.size+1≤w2.heap.size:=by have:=hs2.2.2.1.size;rwa [World.size_alloc] at this
 have hq3:=aA (fG w2 3 [4000,2000,0] (by decide))
 clear hs2 hq2 ZP
 go_wp2_with fail
 refine (lG w2.heap.size 3 3 _ ((uH HS2).alloc _).rebase (uH hq3) (by omega) (by decide) (by decide)).mono ?_
 rintro e w3 ⟨x3,rfl,_,_,hs3⟩
 have ZB:=aA (((uH HS2).alloc _).step hs3.1 hs3.2.2.1)
 have hz3':w2.heap.size+1≤w3.heap.size:=by have:=hs3.2.2.1.size;rwa [World.size_alloc] at this
 have hq4:=aA (fG w3 3 [10000,5000] (by decide))
 clear hs3 hq3 HS2
 go_wp2_with fail
 refine (lG w3.heap.size 2 2 _ ((uH ZB).alloc _).rebase (uH hq4) (by omega) (by decide) (by decide)).mono ?_
 rintro e w4 ⟨x4,rfl,_,_,hs4⟩
 have Xq:=aA ((((uH ZB).alloc _).step hs4.1 hs4.2.2.1).alloc (.cells (dF (aAp x1 x2 x3 x4)).toArray 56))
 have hz4':w3.heap.size+1≤w4.heap.size:=by have:=hs4.2.2.1.size;rwa [World.size_alloc] at this
 have uw:=aA (aJ9 w4 (aAp x1 x2 x3 x4) 3 rfl (by decide))
 have WZ:=aA (aDL x1 x2 x3 x4)
 have Q6:=aA (show (aAp x1 x2 x3 x4).length=3 from rfl)
 clear hs4 hq4 ZB
 go_wp2_with fail
 refine (aD2 2 _ (uH Xq).rebase (by decide) (by decide)).mono ?_
 rintro e w5 ⟨x,rfl,hs5⟩
 have WG:=aA ((uH Xq).step hs5.1 hs5.2.2.1)
 have YG:=aA ((uH uw).kept hs5.2.2.1 (fun k e=>by cases e;omega))
 have hz5':w4.heap.size+1≤w5.heap.size:=by have:=hs5.2.2.1.size;rwa [World.size_alloc] at this
 clear hs5 Xq uw
 cases x with
 | false=>
  go_wp2
  go_ret
  exact ⟨_,aAp x1 x2 x3 x4,rfl,aA ⟨(uH YG).1,by rcases (uH YG).2 with h | ⟨a,b,c,h1,h2,h3⟩;exact .inl h;exact .inr ⟨a,b,c,h1,by omega,h3⟩⟩,by rw [uH Q6];omega,by rw [uH Q6];omega,WZ,WG⟩
 | true=>
  have TF:=aA (fG w5 3 [5000,1000] (by decide))
  go_wp2_with fail
  refine (lG w5.heap.size 2 2 _ ((uH WG).alloc _).rebase (uH TF) (by omega) (by decide) (by decide)).mono ?_
  rintro e w6 ⟨x6,rfl,_,_,hs6⟩
  have HS6:=aA (((uH WG).alloc _).step hs6.1 hs6.2.2.1)
  have uk:=aA (((uH YG).below (yA (yH _ _) _)).kept hs6.2.2.1 (fun k e=>by cases e;omega))
  have hz6':w5.heap.size+1≤w6.heap.size:=by have:=hs6.2.2.1.size;rwa [World.size_alloc] at this
  have Hq:w6.ownsRow w4.heap.size 56 4 _ 3 (dF (aAp x1 x2 x3 x4)):=uH uk
  have hs2:w4.heap.size≤w6.heap.size:=by omega
  clear hs6 TF WG YG
  go_wp2_with (at_builtin;refine wpList_append_own _ rfl _ _ 24 rfl w4.heap.size 56 i0 (.agg #[.string ByteArray.empty,.string ByteArray.empty,.int .i64 0,.int .i64 0]) 4 48 Tryz.underlying24 hi hz0 hz1 hz2 rfl (by decide) _ _ _ rfl (Hq.alloc _) ⟨w6.heap.size,0,none⟩ 2 2 (dF [⟨[98,49],[98],5000,10000⟩,⟨[98,50],[98],x6,9000⟩]) rfl rfl ?c1 ?c2 ?c3 ?c4 ?c5 ?_)
  case c1=>
   intro j x hj
   have hj8:j<8:=by have:=(List.getElem?_eq_some_iff.1 hj).1;simpa [dF] using this
   match j,hj8,hj with
   | 0,_,hj=>simp [dF] at hj;subst hj;simp [Addr.add];rfl
   | 1,_,hj=>simp [dF] at hj;subst hj;simp [Addr.add];rfl
   | 2,_,hj=>simp [dF] at hj;subst hj;simp [Addr.add]
   | 3,_,hj=>simp [dF] at hj;subst hj;simp [Addr.add]
   | 4,_,hj=>simp [dF] at hj;subst hj;simp [Addr.add];rfl
   | 5,_,hj=>simp [dF] at hj;subst hj;simp [Addr.add];rfl
   | 6,_,hj=>simp [dF] at hj;subst hj;simp [Addr.add]
   | 7,_,hj=>simp [dF] at hj;subst hj;simp [Addr.add]
  case c2=>intro x hx;simp [dF] at hx;rcases hx with rfl | rfl | rfl | rfl | rfl | rfl | rfl | rfl<;>rfl
  case c3=>unfold maxLen;omega
  case c4=>omega
  case c5=>simp at hs2 ⊢;omega
  intro v' w7 Hy Hz _
  have DC:=aA (show QDr w4.heap.size w7 v' (aAp x1 x2 x3 x4++[⟨[98,49],[98],5000,10000⟩,⟨[98,50],[98],x6,9000⟩]) by unfold QDr;rw [aAe];exact Hy)
  have RO:=aA (((uH HS6).alloc _).gro Hz (fun k hk=>by
   rcases (uH uk).2 with ⟨e,_⟩ | ⟨q,_,_,e,hq,_⟩
   ·rw [e] at hk;simp [Value.ownBlock] at hk
   ·rw [e] at hk;simp [Value.ownBlock] at hk;omega))
  clear Hy Hz Hq
  go_wp2
  go_ret
  refine ⟨_,aAp x1 x2 x3 x4++[⟨[98,49],[98],5000,10000⟩,⟨[98,50],[98],x6,9000⟩],rfl,aA ⟨(uH DC).1,by rcases (uH DC).2 with h | ⟨a,b,c,h1,h2,h3⟩;exact .inl h;exact .inr ⟨a,b,c,h1,by omega,h3⟩⟩,by simp [uH Q6],by simp [uH Q6],aA ?_,RO⟩
  intro q hq
  rcases List.mem_append.1 hq with hq | hq
  ·exact uH WZ q hq
  ·simp at hq
   rcases hq with rfl | rfl<;>simp
theorem tQ (ao:Option Addr) (len cap:Nat) (l:List (Int×Int)) (w:World) (h:aGD w ao len l) (hl:len≤1048576) :
  cP 150 #[.slice ao len cap] w fun e w'=>e=.returned (.tuple #[rv (iL l).1 (iL l).2.1,.bool (iL l).2.2])∧Bw w w':=by
 have HR:=aA h
 have HL:=aA h.1
 obtain ⟨⟨sx,sy,so⟩,hs⟩:∃s,iL l=s:=⟨_,rfl⟩
 have HS:=aA (show aS l 0 0=(sx,sy,so) from hs)
 rw [hs]
 clear h hs
 go_enter Tryz.func150,Tryz.ntmps150
 go_wp2
 go_loopw [12] (fun i wr=>∃(k:Nat) (x y:Int),k≤len∧i=.int .i64 k∧Hid (aS (l.drop k) x y=(sx,sy,so))∧Hid (Var wr 37 w.heap.size 0 0)∧Hid (Var wr 37 (w.heap.size+1) x y)∧Hid (Bw w wr)) (fun i _=>len - (intOf i).toNat)
 case atStart=>exact ⟨0,0,0,Nat.zero_le _,rfl,aA (by simpa using uH HS),aA ((bD w _ _ _).al _),aA (jK w _ _ 0 0 0 0),aA (yA (yA (yH _ _) _) _)⟩
 case round=>
  obtain ⟨k,x,y,hk,rfl,HQ,QP,GH,HB⟩:=hrel
  by_cases hlt:k<len
  ·obtain ⟨b,off,rfl,hq⟩:=((uH HR).below (uH HB)).at hlt
   have hkl:k<l.length:=by have:=uH HL;omega
   have hst:=tV hkl x y
   obtain ⟨c0,c1⟩:=hq hkl
   obtain ⟨⟨a,d⟩,hs⟩:∃q,l[k]=q:=⟨_,rfl⟩
   rw [hs] at c0 c1 hst
   simp only at c0 c1 hst
   have HST:=aA hst
   have s0:=(uH GH).c0
   have s1:=(uH GH).c1
   have hsz:=(uH GH).lt
   have hl2:=World.cell?_alloc_lt wr (.cells #[.int .i64 a,.int .i64 d] 37) ⟨w.heap.size+1,0,none⟩ hsz
   have hl3:=World.cell?_alloc_lt wr (.cells #[.int .i64 a,.int .i64 d] 37) ⟨w.heap.size+1,1,none⟩ hsz
   rw [s0] at hl2
   rw [s1] at hl3
   clear hq hs hkl hst
   have CA:=aA (fun wx=>pK x y a d wx)
   have HA:=aA (yA (yH _ wr) (.cells #[.int .i64 a,.int .i64 d] 37))
   cases ho:aP 1 x y a d with
   | true=>
    rw [oF ho,ho] at CA
    rw [if_pos ho] at HST
    clear ho
    go_wp2_with fail
    refine (uH CA _).mono ?_
    rintro e w1 ⟨rfl,hb⟩
    have W0:=aA (((uH QP).below (uH HA)).below hb)
    have W1:=aA (((uH GH).below (uH HA)).below hb)
    have HB1:=aA (yB (yB (uH HB) (uH HA)) hb)
    have VW:=(uH W1).lt
    have t0:=(uH W1).c0
    have t1:=(uH W1).c1
    have f0:=(uH W1).f 0
    have f1:=(uH W1).f 1
    have g0:=World.cell?_alloc_lt w1 (.cells #[.int .i64 (x+1*a),.int .i64 (y+1*d)] 37) ⟨w.heap.size+1,0,none⟩ VW
    have g1:=World.cell?_alloc_lt w1 (.cells #[.int .i64 (x+1*a),.int .i64 (y+1*d)] 37) ⟨w.heap.size+1,1,none⟩ VW
    rw [t0] at g0
    rw [t1] at g1
    clear hb CA HA c0 c1 s0 s1 hl2 hl3 QP GH HB
    obtain ⟨x',hx'⟩:∃x',x+1*a=x':=⟨_,rfl⟩
    obtain ⟨y',hy'⟩:∃y',y+1*d=y':=⟨_,rfl⟩
    rw [hx',hy'] at HST g0 g1
    rw [hx',hy']
    clear hx' hy'
    have h2:=(uH W1).al (.cells #[.int .i64 x',.int .i64 y'] 37)
    have ff0:=h2.f 0
    have ff1:=h2.f 1
    have W2:=aA h2
    clear h2
    go_wp2
    go_roundw
    case rel=>exact ⟨k+1,x',y',by omega,by go_num,aA (by rw [←uH HST];exact uH HQ),aA ((((uH W0).other _ _ _ (show w.heap.size≠w.heap.size+1 by omega)).other _ _ _ (show w.heap.size≠w.heap.size+1 by omega)).al _),aA (((uH W1).set _ _).al _),aA (yA (yC (yC (uH HB1) _ _ _ (show w.heap.size≤w.heap.size+1 by omega)) _ _ _ (show w.heap.size≤w.heap.size+1 by omega)) _)⟩
    case measure=>simp [intOf];omega
   | false=>
    rw [mH ho,ho] at CA
    rw [if_neg (by rw [ho];simp)] at HST
    have GU:=(uH HST).symm.trans (uH HQ)
    simp only [Prod.mk.injEq] at GU
    obtain ⟨rfl,rfl,rfl⟩:=GU
    clear ho HST HS
    go_wp2_with fail
    refine (uH CA _).mono ?_
    rintro e w1 ⟨rfl,hb⟩
    have W0:=aA ((((uH QP).below (uH HA)).below hb).al (.cells #[.int .i64 0,.int .i64 0] 37))
    have HB1:=aA (yA (yB (yB (uH HB) (uH HA)) hb) (.cells #[.int .i64 0,.int .i64 0] 37))
    clear hb CA HA c0 c1 s0 s1 hl2 hl3 QP GH HB
    have t0:=(uH W0).c0
    have t1:=(uH W0).c1
    have f0:=(uH W0).f 0
    have f1:=(uH W0).f 1
    have k4:=(uH W0).s0 (.int .i64 0)
    have k5:=(uH W0).s1 (.int .i64 0) (.int .i64 0)
    go_wp2
    refine bodyPost_ret (v:=.tuple #[rv 0 0,.bool false]) (by simp [results,Tryz.results150,go_sem,k4,k5]) rfl ⟨rfl,?_⟩
    repeat (first | exact uH HB1 | refine yC ?_ _ _ _ (by omega))
  ·have GU:(x,y,true)=(sx,sy,so):=by rw [←uH HQ,wO (by have:=uH HL;omega)]
   simp only [Prod.mk.injEq] at GU
   obtain ⟨rfl,rfl,rfl⟩:=GU
   have s0:=(uH GH).c0
   have s1:=(uH GH).c1
   have t0:=(uH QP).c0
   have t1:=(uH QP).c1
   have f0:=(uH QP).f 0
   have f1:=(uH QP).f 1
   have k4:=(uH QP).s0 (.int .i64 x)
   have k5:=(uH QP).s1 (.int .i64 x) (.int .i64 y)
   go_wp2
   refine bodyPost_ret (v:=.tuple #[rv x y,.bool true]) (by simp [results,Tryz.results150,go_sem,k4,k5]) rfl ⟨rfl,?_⟩
   repeat (first | exact uH HB | refine yC ?_ _ _ _ (by omega))
theorem aEu (x:Sls) (s:St) (w:World) (h:cO w x.ma x.ml s.ms) (hl:x.ml≤1048576) :
  cP 96 #[sv x s] w fun e w'=>e=.returned (.tuple #[rv (iL (aT s.ms)).1 (iL (aT s.ms)).2.1,.bool (iL (aT s.ms)).2.2])∧Bw w w':=by
 obtain ⟨i0,hi,hz0,hz1,hz2⟩:=info_parts Tryz.infoR
 obtain ⟨qa,ql,qc,aa,al,ac,ma,ml,mc,ca,cl,cc⟩:=x
 obtain ⟨qs,cv,ez,nv,sj,aj,ms,cs⟩:=s
 simp only at h hl ⊢
 have HR:=aA h
 have HL:=aA h.1
 obtain ⟨c,hc⟩:∃c:Array Value,#[.slice qa ql qc,.int .i64 cv,.int .i64 ez,.int .i64 nv,.int .i64 sj,.slice aa al ac,.slice ma ml mc,.slice ca cl cc]=c:=⟨_,rfl⟩
 have HC:=aA hc
 have HB0:=aA (bZ w c)
 have V0:=aA (gY w c)
 have hW:=nK w c
 have HW:=aA hW
 clear h hc hW
 obtain ⟨⟨sx,sy,so⟩,hs⟩:∃s,iL (aT ms)=s:=⟨_,rfl⟩
 have HS:=aA hs
 rw [hs]
 clear hs
 go_enter Tryz.func96,Tryz.ntmps96
 go_wp2
 go_loopw [4,10] (fun v i wr=>∃(k:Nat),k≤ml∧i=.int .i64 k∧Hid (aAG (zS w c).heap.size wr v (aT (ms.take k)))∧Hid (Below (zS w c).heap.size (zS w c) wr)) (fun _ i _=>ml - (intOf i).toNat)
 case atStart=>
  obtain rfl:=uH HC
  exact ⟨0,Nat.zero_le _,rfl,aA (by simpa [aT] using aEY _ _),aA (yH _ _)⟩
 case round=>
  obtain ⟨k,hk,rfl,HO,HB⟩:=hrel
  by_cases hlt:k<ml
  ·obtain ⟨b,off,rfl,hq⟩:=(((uH HR).below (uH HB0)).below (uH HB)).at hlt
   have hkl:k<ms.length:=by have:=uH HL;omega
   have hst:=aA (zA hkl)
   obtain ⟨c0,c1,c2,c3⟩:=hq hkl
   obtain ⟨m,hs⟩:∃q,ms[k]=q:=⟨_,rfl⟩
   rw [hs] at c0 c1 c2 c3 hst
   have hal:(aT (ms.take k)).length≤1048576:=by simp [aT];omega
   obtain ⟨acc,Gq⟩:∃a,aT (ms.take k)=a:=⟨_,rfl⟩
   rw [Gq] at hst hal HO
   obtain ⟨nm,me,cp,se⟩:=m
   simp only at c0 c1 c2 c3 hst
   have HB2:=aA (yA (uH HB) (aA1 ⟨nm,me,cp,se⟩))
   have GD:=aA ((uH HO).below (yA (yH _ wr) (aA1 ⟨nm,me,cp,se⟩)))
   have hs2:(zS w c).heap.size≤(wr.alloc (aA1 ⟨nm,me,cp,se⟩)).heap.size:=(uH HB2).size
   have Hq:(wr.alloc (aA1 ⟨nm,me,cp,se⟩)).ownsRow (zS w c).heap.size 37 2 _ acc.length (iZ acc):=uH GD
   clear hq hs hkl Gq HO HB
   go_wp2_with (at_builtin;refine wpList_append_own _ rfl _ _ 120 rfl (zS w c).heap.size 37 i0 (.agg #[.int .i64 0,.int .i64 0]) 2 16 Tryz.underlying120 hi hz0 hz1 hz2 rfl (by decide) _ _ _ rfl (Hq.alloc _) ⟨wr.heap.size+1,0,none⟩ 1 1 (aBE (me,cp)) rfl rfl ?c1 ?c2 ?c3 ?c4 ?c5 ?_)
   case c1=>
    intro j x hj
    match j,hj with
    | 0,hj=>simp at hj;subst hj;simp [Addr.add]
    | 1,hj=>simp at hj;subst hj;simp [Addr.add]
    | _+2,hj=>simp at hj
   case c2=>intro x hx;simp at hx;rcases hx with rfl | rfl<;>rfl
   case c3=>unfold maxLen;omega
   case c4=>omega
   case c5=>simp at hs2 ⊢;omega
   intro v' w3 Hy Hz _
   have R:=mZ (q:=(me,cp)) (uH HB2) (uH GD) Hy Hz hs2
   have HR3:=aA R
   clear Hy Hz Hq c0 c1 c2 c3 R
   go_wp2
   go_roundw
   case rel=>exact ⟨k+1,by omega,by go_num,aA (by rw [uH hst];exact (uH HR3).1),aA (uH HR3).2⟩
   case measure=>simp [intOf];omega
  ·have htk:ms.take k=ms:=List.take_of_length_le (by have:=uH HL;omega)
   rw [htk] at HO
   obtain ⟨ao,cp,rfl,Hw,hcp⟩:=(uH HO).row
   have hlc:(aT ms).length≤1048576:=by have:=uH HL;simp [aT];omega
   have CT:=aA (tQ ao _ cp (aT ms) wr Hw hlc)
   rw [uH HS] at CT
   obtain ⟨n,hn⟩:∃n,(aT ms).length=n:=⟨_,rfl⟩
   rw [hn] at CT ⊢
   clear Hw hn htk hcp hlc HO
   go_wp2_with fail
   refine (uH CT).mono ?_
   rintro e w1 ⟨rfl,hb⟩
   have hsz:w.heap.size+1<(zS w c).heap.size:=by have:=uH HW;omega
   have V1:Var w1 37 (w.heap.size+1) 0 0:=Var.below ((uH HB).block _ hsz |>.trans (uH V0)) hb
   have HB1:=aA (yB (yB (uH HB0) (uH HB)) hb)
   have t0:=V1.c0
   have t1:=V1.c1
   have f0:=V1.f 0
   have f1:=V1.f 1
   have k4:=V1.s0 (.int .i64 sx)
   have k5:=V1.s1 (.int .i64 sx) (.int .i64 sy)
   clear hb V1 CT HB HB0
   go_wp2
   refine bodyPost_ret (v:=.tuple #[rv sx sy,.bool so]) (by simp [results,Tryz.results96,go_sem,k4,k5]) rfl ⟨rfl,?_⟩
   repeat (first | exact uH HB1 | refine yC ?_ _ _ _ (by omega))
abbrev aJT (m:Con):Obj:=.cells #[.int .i64 m.id,.int .i64 m.app,.string (bs m.node),.int .i64 m.mem,.int .i64 m.cpu] 52
theorem aEL {p:Con→Bool} (l:List Con):(aV p l).length≤l.length:=by simp [aV];exact List.length_filter_le _ _
def aJK (nm:List UInt8) (q:Con):Bool:=decide (q.node=nm)
def o9 (s:St) (nm:List UInt8):Int×Int:=((iL (aV (aJK nm) s.cs)).1,(iL (aV (aJK nm) s.cs)).2.1)
end
section
open Go.RowKit Go.Maps
def aF8 (a b c d:Int):Int×Int:=if aP (-1) a b c d then (a + -1*c,b + -1*d) else (0,0)
theorem aGt (a b c d:Int):kT (-1) a b c d=rv (aF8 a b c d).1 (aF8 a b c d).2:=by
 cases h:aP (-1) a b c d
 ·rw [mH h,aF8,h];rfl
 ·rw [oF h,aF8,h];rfl
def sI (s:St) (nm:List UInt8):Int×Int:=match bQ nm s.ms with
 | none=>(0,0)
 | some m=>aF8 m.mem m.cpu (o9 s nm).1 (o9 s nm).2
end
section
open Go.RowKit
theorem kE (x:Sls) (s:St) (w:World) (h:cO w x.ma x.ml s.ms) (hl:x.ml≤1048576) :
  cP 41 #[sv x s] w fun e w'=>e=.returned (rv (iL (aT s.ms)).1 (iL (aT s.ms)).2.1)∧Bw w w':=by
 have HR:=aA h
 clear h
 obtain ⟨⟨sx,sy,so⟩,hs⟩:∃y,iL (aT s.ms)=y:=⟨_,rfl⟩
 have CC:=aA (fun wx (hb:Bw w wx)=>by have:=aEu x s wx ((uH HR).below hb) hl;rw [hs] at this;exact this)
 rw [hs]
 clear hs
 obtain ⟨qa,ql,qc,aa,al,ac,ma,ml,mc,ca,cl,cc⟩:=x
 obtain ⟨qs,cv,ez,nv,sj,aj,ms,cs⟩:=s
 go_enter Tryz.func41,Tryz.ntmps41
 go_wp2_with fail
 refine (uH CC _ (bZ w _)).mono ?_
 rintro e w1 ⟨rfl,hb⟩
 have V1:=(gY w _).below hb
 have HB1:=aA (yB (bZ w _) hb)
 have V2:=V1.al (.cells #[.int .i64 sx,.int .i64 sy] 37)
 have t0:=V2.c0
 have t1:=V2.c1
 have f0:=V2.f 0
 have f1:=V2.f 1
 have u0:=V1.c0
 have u1:=V1.c1
 have e0:=V1.f 0
 have e1:=V1.f 1
 have VG:=V2.set sx sy
 have k6:=VG.c0
 have k7:=VG.c1
 clear hb V1 V2 VG CC
 go_wp2
 refine bodyPost_ret (v:=rv sx sy) (by simp [results,Tryz.results41,go_sem,k6,k7]) rfl ⟨rfl,?_⟩
 repeat (first | exact uH HB1 | refine yA ?_ _ | refine yC ?_ _ _ _ (by omega))
end
section
open Go.RowKit Go.Maps
variable {D:DataW Unit} {a b c d g h:Int} {kl:Lit} {B bm cap n:Nat} {w w' w0 w1 w2:World}
theorem aF2:laidOutB Tryz.prog=true:=by kernel_rfl
theorem aJc:(86:TypeId)<Tryz.prog.types.size:=of_decide_eq_true (by kernel_rfl)
theorem aIV:(match Tryz.prog.underlying 86 with | some (.array _ _) | some (.struct _)=>true | _=>false)=true:=by kernel_rfl
theorem xD:Keyed Tryz.prog 86:=Keyed.of_law (deep_law_laid aF2 (m:=3) (by omega) aJc (by kernel_rfl) aIV)
theorem aDZ:Tryz.prog.keyType 86=true:=by kernel_rfl
theorem aCK:Tryz.prog.cellsOf 86=4:=by kernel_rfl
theorem aEZ:Tryz.prog.cellsOf 37=2:=by kernel_rfl
theorem aId:Tryz.prog.cellsOf 3=1:=by kernel_rfl
theorem aGO:∃m,Tryz.prog.types.size+1=m+3:=⟨Tryz.prog.types.size - 2,by have:3≤Tryz.prog.types.size:=of_decide_eq_true (by kernel_rfl);omega⟩
theorem aEe (n:Nat) (h:(Lit.int .i64 a).wf=true):Tryz.prog.keyLits (n+1) 3 [.int .i64 a]=some [.int .i64 a]:=by
 simp [Program.keyLits,Tryz.underlying3,h]
theorem aEd (n:Nat) (ha:(Lit.int .i64 a).wf=true) (hb:(Lit.int .i64 b).wf=true):Tryz.prog.keyLits (n+2) 37 [.int .i64 a,.int .i64 b]=some [.int .i64 a,.int .i64 b]:=by
 have h:=Tryz.underlying37
 unfold Program.keyLits
 simp [h,aEZ,aId,aEe n ha,aEe n hb]
theorem aJd (ha:(Lit.int .i64 a).wf=true) (hb:(Lit.int .i64 b).wf=true) (hc:(Lit.int .i64 c).wf=true) (hd:(Lit.int .i64 d).wf=true):∃kl,keyOf Tryz.prog 86 (pv a b c d)=some kl:=by
 obtain ⟨m,hm⟩:=aGO
 have h:Tryz.prog.keyLits (m+3) 86 [.int .i64 a,.int .i64 b,.int .i64 c,.int .i64 d]=some [.int .i64 a,.int .i64 b,.int .i64 c,.int .i64 d]:=by
  have h:=Tryz.underlying86
  unfold Program.keyLits
  simp [h,aCK,aEZ,aEd m ha hb,aEd m hc hd,List.range_succ]
 have hu:=Tryz.underlying86
 have hk:keyOf Tryz.prog 86 (pv a b c d)=if Tryz.prog.keyType 86&&(pv a b c d).formed Tryz.prog 86 then (Tryz.prog.keyLits (Tryz.prog.types.size+1) 86 (pv a b c d).cells.toList).map (fun ls=>.string (keyBytes ls)) else none:=by
  unfold keyOf
  rw [hu]
 rw [hk,if_pos (by simp [aDZ,Value.formed,hu,aCK]),hm,show (pv a b c d).cells.toList=[.int .i64 a,.int .i64 b,.int .i64 c,.int .i64 d] from rfl,h]
 exact ⟨_,rfl⟩
def fd (p:Int×Int):DataW Unit:=.agg [.lit (.int .i64 p.1),.lit (.int .i64 p.2)]
def mF:Value→Option (DataW Unit×List MemPlace)
 | .agg cs=>match cs.toList with
  | [.int .i64 x,.int .i64 y]=>some (fd (x,y),[])
  | _=>none
 | _=>none
theorem yP (x y:Int):mF (rv x y)=some (fd (x,y),[]):=rfl
theorem uT {v:Value} {x y:Int} {ps:List MemPlace} (h:mF v=some (fd (x,y),ps)):v=rv x y:=by
 unfold mF at h
 split at h
 ·rename_i cs
  split at h
  ·rename_i x' y' e
   have e2:cs=#[.int .i64 x',.int .i64 y']:=by cases cs;simpa using e
   simp [fd] at h
   rw [e2,h.1.1,h.1.2]
  ·cases h
 ·cases h
def aGF (D:DataW Unit):Prop:=∀a b c d kl,keyOf Tryz.prog 86 (pv a b c d)=some kl→Maps.has D kl=true→∀zd,D.atKey kl zd=fd (fO a b c d)
theorem aDi:aGF (.map []):=fun a b c d kl _ h=>by simp [Maps.has] at h
theorem aGF.put (h:aGF D) (hD:IsMap D) (hk:keyOf Tryz.prog 86 (pv a b c d)=some kl):aGF (D.put kl (fd (fO a b c d))):=fun a' b' c' d' kl' hk' hh zd=>by
 by_cases e:kl'=kl
 ·subst e
  have:=xD.inj hk hk'
  simp [pv] at this
  obtain ⟨rfl,rfl,rfl,rfl⟩:=this
  exact atKey_put_same hD (xD.key hk) _ _
 ·rw [atKey_put_other e]
  rw [has_put_other e] at hh
  exact h a' b' c' d' kl' hk' hh zd
theorem aIj (w:World):(zeroValue 220).run Tryz.prog w=.ok (rv 0 0) w:=by kernel_rfl
theorem look (Hq:w.ownsMap Tryz.prog 86 mF bm n D) (hk:aGF D) (G7:keyOf Tryz.prog 86 (pv a b c d)=some kl) :
  (Instr.lookup 202 (.map (some bm)) (pv a b c d) true).run Tryz.prog w=.ok (.tuple #[if Maps.has D kl then fv (fO a b c d) else rv 0 0,.bool (Maps.has D kl)]) w:=by
 obtain ⟨v,ps,gq,hv⟩:=Hq.look_ok xD Tryz.underlying202 (aIj w) (yP 0 0) G7
 rw [gq]
 cases hh:Maps.has D kl
 ·rw [atKey_of_not_has hh] at hv
  rw [uT hv]
  rfl
 ·rw [hk a b c d kl G7 hh] at hv
  rw [uT hv]
  rfl
abbrev P4:=Int×Int×Int×Int
theorem aCP {α:Type}:∀(ps K:List α),ps.Nodup→(∀p ∈ ps,p ∈ K)→ps.length≤K.length
 | [],_,_,_=>Nat.zero_le _
 | p::t,K,h,s=>by
  obtain ⟨h1,h2⟩:=List.nodup_cons.1 h
  obtain ⟨a,b,rfl⟩:=List.append_of_mem (s p (List.mem_cons_self ..))
  have:=aCP t (a++b) h2 (fun q hq=>by
   have h3:=s q (List.mem_cons_of_mem _ hq)
   rcases List.mem_append.1 h3 with h3 | h3
   ·exact List.mem_append.2 (.inl h3)
   ·rcases List.mem_cons.1 h3 with rfl | h3
    ·exact absurd hq h1
    ·exact List.mem_append.2 (.inr h3))
  simp at this ⊢
  omega
def dU (K:List P4) (bm:Nat) (w:World):Prop:=∃(ps:List P4) (D:DataW Unit),ps.Nodup∧(∀p ∈ ps,p ∈ K)∧w.ownsMap Tryz.prog 86 mF bm ps.length D∧aGF D∧∀p ∈ ps,∀kl,keyOf Tryz.prog 86 (pv p.1 p.2.1 p.2.2.1 p.2.2.2)=some kl→Maps.has D kl=true
theorem dU.lt {K:List P4} (h:dU K bm w):bm<w.heap.size:=let ⟨_,_,_,_,h,_⟩:=h;h.lt
theorem dU.grown {K:List P4} {row:Option Nat} (h:dU K bm w) (hg:w.grownBy w' row) (hne:some bm≠row):dU K bm w':=let ⟨ps,D,a,b,h,k⟩:=h;⟨ps,D,a,b,h.kept hg hne,k⟩
theorem dU.below {K:List P4} (h:dU K bm w) (hb:Bw w w'):dU K bm w':=h.grown (aG (aF w none) hb) (by simp)
theorem aDn (K:List P4) (h:w.ownsMap Tryz.prog 86 mF bm 0 (.map [])):dU K bm w:=⟨[],.map [],List.nodup_nil,(fun _ h=>absurd h (by simp)),h,aDi,(fun _ h=>absurd h (by simp))⟩
theorem aFW (ha:(Lit.int .i64 a).wf=true) (hb:(Lit.int .i64 b).wf=true) (hc:(Lit.int .i64 c).wf=true) (hd:(Lit.int .i64 d).wf=true):∃kl,keyOf Tryz.prog 86 (pv a b c d)=some kl:=aJd ha hb hc hd
theorem aGk (K:List P4) (hK:K.length≤1000000000) (a b c d:Int) (ha:(Lit.int .i64 a).wf=true) (hb:(Lit.int .i64 b).wf=true) (hc:(Lit.int .i64 c).wf=true) (hd:(Lit.int .i64 d).wf=true) (hin:(a,b,c,d) ∈ K) (bm:Nat) (w:World) (hm:dU K bm w) :
  cP 196 #[.map (some bm),pv a b c d] w fun e w'=>e=.returned (fv (fO a b c d))∧dU K bm w'∧w.grownBy w' (some bm):=by
 obtain ⟨ps,D,nd,sub,Hq,hk,hps⟩:=hm
 obtain ⟨kl,G7⟩:=aFW ha hb hc hd
 have hpl:=aCP ps K nd sub
 have KZ:=aA (fun (h:Maps.has D kl=false)=>show (a,b,c,d) ∉ ps from fun hp=>by have:=hps _ hp _ G7;rw [h] at this;exact absurd this (by simp))
 have WL:=aA nd
 have Bv:=aA sub
 have U1:=aA hps
 have hlt:=Hq.lt
 have hl:=look ((Hq.alloc (.cells #[.int .i64 a,.int .i64 b,.int .i64 c,.int .i64 d] 86)).alloc (.cells #[.int .i64 0,.int .i64 0] 220)) hk G7
 have hpr:=aA (aBI a b c d)
 have HK:=aA hk
 have QA:=aA G7
 have Vy:=aA Hq
 have HIN:=aA hin
 clear ha hb hc hd hk G7 Hq nd sub hps hin
 obtain ⟨f,hf⟩:∃f,Maps.has D kl=f:=⟨_,rfl⟩
 rw [hf] at hl KZ
 obtain ⟨⟨x,y⟩,hr⟩:∃p,fO a b c d=p:=⟨_,rfl⟩
 rw [hr] at hl hpr ⊢
 have HR:=aA hr
 clear hf hr
 cases f with
 | true=>
  replace hl:(Instr.lookup 202 (.map (some bm)) (pv a b c d) true).run Tryz.prog ((w.alloc (.cells #[.int .i64 a,.int .i64 b,.int .i64 c,.int .i64 d] 86)).alloc (.cells #[.int .i64 0,.int .i64 0] 220))=.ok (.tuple #[rv x y,.bool true]) ((w.alloc (.cells #[.int .i64 a,.int .i64 b,.int .i64 c,.int .i64 d] 86)).alloc (.cells #[.int .i64 0,.int .i64 0] 220)):=hl
  go_enter Tryz.func196,Tryz.ntmps196
  go_wp2
  have HG:∀wx:World,Bw w wx→wx=wx→dU K bm wx∧w.grownBy wx (some bm):=fun wx hb _=>
   have hg:w.grownBy wx none:=aG (aF w none) hb
   ⟨⟨ps,D,uH WL,uH Bv,(uH Vy).kept hg (by simp),uH HK,uH U1⟩,aG (aF w (some bm)) hb⟩
  refine bodyPost_ret (v:=rv x y) (by simp [results,Tryz.results196,go_sem]) rfl ⟨rfl,HG _ ?_ rfl⟩
  repeat (first | exact yH _ _ | refine yA ?_ _ | refine Below.drew ?_ | refine yC ?_ _ _ _ (by omega))
 | false=>
  replace hl:(Instr.lookup 202 (.map (some bm)) (pv a b c d) true).run Tryz.prog ((w.alloc (.cells #[.int .i64 a,.int .i64 b,.int .i64 c,.int .i64 d] 86)).alloc (.cells #[.int .i64 0,.int .i64 0] 220))=.ok (.tuple #[rv 0 0,.bool false]) ((w.alloc (.cells #[.int .i64 a,.int .i64 b,.int .i64 c,.int .i64 d] 86)).alloc (.cells #[.int .i64 0,.int .i64 0] 220)):=hl
  have GH:=aA (((vX w 86 a b c d).al (.cells #[.int .i64 0,.int .i64 0] 220)).al (.cells #[.int .i64 0,.int .i64 0] 220))
  have GI:=aA (show Var (((w.alloc (.cells #[.int .i64 a,.int .i64 b,.int .i64 c,.int .i64 d] 86)).alloc (.cells #[.int .i64 0,.int .i64 0] 220)).alloc (.cells #[.int .i64 0,.int .i64 0] 220)) 220 (w.heap.size+1) 0 0 by
   have:=(bD (w.alloc (.cells #[.int .i64 a,.int .i64 b,.int .i64 c,.int .i64 d] 86)) 220 0 0).al (.cells #[.int .i64 0,.int .i64 0] 220);simpa using this)
  have QO:=aA (show Var (((w.alloc (.cells #[.int .i64 a,.int .i64 b,.int .i64 c,.int .i64 d] 86)).alloc (.cells #[.int .i64 0,.int .i64 0] 220)).alloc (.cells #[.int .i64 0,.int .i64 0] 220)) 220 (w.heap.size+1+1) 0 0 by
   have:=bD ((w.alloc (.cells #[.int .i64 a,.int .i64 b,.int .i64 c,.int .i64 d] 86)).alloc (.cells #[.int .i64 0,.int .i64 0] 220)) 220 0 0;simpa using this)
  have HB0:=aA (yA (yA (yA (yH _ w) (.cells #[.int .i64 a,.int .i64 b,.int .i64 c,.int .i64 d] 86)) (.cells #[.int .i64 0,.int .i64 0] 220)) (.cells #[.int .i64 0,.int .i64 0] 220))
  go_enter Tryz.func196,Tryz.ntmps196
  go_wp2_with fail
  refine (uH hpr _).mono ?_
  rintro e w1 ⟨rfl,hb⟩
  have V1:=aA ((uH GH).below hb)
  have V2:=aA ((uH GI).below hb)
  have V3:=aA ((uH QO).below hb)
  have HB:=aA (yB (uH HB0) hb)
  clear hb hl hpr GH GI QO HB0
  have a1:=(uH V1).c0
  have a2:=(uH V1).c1
  have a3:=(uH V1).c2
  have a4:=(uH V1).c3
  have k0:=(uH V3).c0
  have k1:=(uH V3).c1
  have k2:=(uH V3).f 0
  have k3:=(uH V3).f 1
  have k4:=(uH V3).s0 (.int .i64 x)
  have k5:=(uH V3).s1 (.int .i64 x) (.int .i64 y)
  have ho1:=(((uH Vy).kept (aG (aF w none) (uH HB)) (by simp)).setCell (a:=⟨w.heap.size+1+1,0,none⟩) (by simp;omega) (.int .i64 x)).setCell (a:=⟨w.heap.size+1+1,1,none⟩) (by simp;omega) (.int .i64 y)
  obtain ⟨w2,gq,GZ,GK⟩:=ho1.update xD Tryz.underlying202 (by unfold maxLen;omega) (uH QA) (yP x y)
  have V4:=aA (((uH V3).set x y).grown' GK (by simp;omega))
  have V5:=aA ((((uH V2).other (w.heap.size+1+1) 0 (.int .i64 x) (by omega)).other (w.heap.size+1+1) 1 (.int .i64 y) (by omega)).grown' GK (by simp;omega))
  have b0:=(uH V4).c0
  have b1:=(uH V4).c1
  have b2:=(uH V5).c0
  have b3:=(uH V5).c1
  have b4:=(uH V5).f 0
  have b5:=(uH V5).f 1
  have b6:=(uH V5).s0 (.int .i64 x)
  have b7:=(uH V5).s1 (.int .i64 x) (.int .i64 y)
  have hm2:dU K bm w2:=⟨(a,b,c,d)::ps,_,List.nodup_cons.2 ⟨uH KZ (by first | rfl | trivial),uH WL⟩,fun p hp=>by
   rcases List.mem_cons.1 hp with rfl | hp
   ·exact uH HIN
   ·exact uH Bv p hp,GZ,by rw [←uH HR];exact (uH HK).put (uH Vy).isMap (uH QA),fun p hp kl' hk'=>by
   by_cases e:kl'=kl
   ·subst e;exact has_put_same (uH Vy).isMap (xD.key (uH QA)) _
   ·rcases List.mem_cons.1 hp with rfl | hp
    ·have:=hk'.symm.trans (uH QA);cases this;exact absurd rfl e
    ·rw [has_put_other e];exact uH U1 p hp kl' hk'⟩
  have hg1:w.grownBy w2 (some bm):=by
   have g1:w.grownBy ((w1.setCell ⟨w.heap.size+1+1,0,none⟩ (.int .i64 x)).setCell ⟨w.heap.size+1+1,1,none⟩ (.int .i64 y)) (some bm):=aG (aF w (some bm)) (yC (yC (uH HB) _ _ _ (by omega)) _ _ _ (by omega))
   exact bR g1 GK
  have QD:=aA hm2
  have XG:=aA hg1
  clear ho1 GZ GK hm2 hg1 V1 V2 V3 V4 V5 HB
  go_wp2
  have hsz:=(uH XG).size
  refine bodyPost_ret (v:=rv x y) (by simp [results,Tryz.results196,go_sem,b6,b7]) rfl ⟨rfl,?_,?_⟩
  ·have hg:w2.grownBy ((w2.setCell ⟨w.heap.size+1,0,none⟩ (.int .i64 x)).setCell ⟨w.heap.size+1,1,none⟩ (.int .i64 y)) (some (w.heap.size+1)):=dM (dM (aF _ _) _ _) _ _
   exact (uH QD).grown hg (by simp;omega)
  ·exact ⟨(uH XG).os,(uH XG).tape,(uH XG).output,by simpa using hsz,fun k hk hne=>by
    rw [heap_setCell_other _ ⟨w.heap.size+1,1,none⟩ k _ (by simp;omega),heap_setCell_other _ ⟨w.heap.size+1,0,none⟩ k _ (by simp;omega)]
    exact (uH XG).block k hk hne⟩
def iK (K:List P4) (w0:World) (bm:Nat) (a b c d e f g h:Int) (wx:World):Prop:=
 pO wx 86 w0.heap.size a b c d∧pO wx 86 (w0.heap.size+1) e f g h∧w0.grownBy wx (some bm)∧bm<w0.heap.size∧dU K bm wx
theorem iK.call {K:List P4} {e f:Int} (p:iK K w0 bm a b c d e f g h w1) (hk:dU K bm w2) (hg:w1.grownBy w2 (some bm)):iK K w0 bm a b c d e f g h w2:=by
 obtain ⟨p1,p2,p3,p4,_⟩:=p
 exact ⟨p1.grown hg (by simp;omega),p2.grown hg (by simp;omega),bR p3 hg,p4,hk⟩
theorem iK.below {K:List P4} {e f:Int} (p:iK K w0 bm a b c d e f g h w1) (hb:Bw w1 w2):iK K w0 bm a b c d e f g h w2:=p.call (p.2.2.2.2.below hb) (aG (aF _ _) hb)
theorem iK.drew {K:List P4} {e f:Int} (p:iK K w0 bm a b c d e f g h w1):iK K w0 bm a b c d e f g h w1.drew:=p.below (yH _ _).drew
theorem iK.read (K:List P4) (w0:World) (bm:Nat) (a b c d e f g h:Int):∀wx,iK K w0 bm a b c d e f g h wx→wx.cell? ⟨w0.heap.size,0,none⟩=some (.int .i64 a)∧wx.cell? ⟨w0.heap.size,1,none⟩=some (.int .i64 b)∧wx.cell? ⟨w0.heap.size,2,none⟩=some (.int .i64 c)∧wx.cell? ⟨w0.heap.size,3,none⟩=some (.int .i64 d)
  ∧wx.cell? ⟨w0.heap.size+1,0,none⟩=some (.int .i64 e)∧wx.cell? ⟨w0.heap.size+1,1,none⟩=some (.int .i64 f)∧wx.cell? ⟨w0.heap.size+1,2,none⟩=some (.int .i64 g)∧wx.cell? ⟨w0.heap.size+1,3,none⟩=some (.int .i64 h):=
 fun wx p=>⟨p.1.c0,p.1.c1,p.1.c2,p.1.c3,p.2.1.c0,p.2.1.c1,p.2.1.c2,p.2.1.c3⟩
def Wf4 (a b c d:Int):Prop:=(Lit.int .i64 a).wf=true∧(Lit.int .i64 b).wf=true∧(Lit.int .i64 c).wf=true∧(Lit.int .i64 d).wf=true
theorem aC0 (K:List P4) (hK:K.length≤1000000000) (a b c d e f g h:Int) (h1:Wf4 a b c d) (h2:Wf4 e f g h) (i1:(a,b,c,d) ∈ K) (i2:(e,f,g,h) ∈ K) (bm:Nat) (w:World) (hm:dU K bm w) :
  cP 179 #[.map (some bm),pv a b c d,pv e f g h] w fun o w'=>o=.returned (.bool (vP a b c d e f g h))∧dU K bm w'∧w.grownBy w' (some bm):=by
 have C1:=aA (fun wx (hx:dU K bm wx)=>aGk K hK a b c d h1.1 h1.2.1 h1.2.2.1 h1.2.2.2 i1 bm wx hx)
 have C2:=aA (fun wx (hx:dU K bm wx)=>aGk K hK e f g h h2.1 h2.2.1 h2.2.2.1 h2.2.2.2 i2 bm wx hx)
 have C3:=aA (fun wx=>uS _ _ _ _ wx (aAO a b c d) (aAO e f g h))
 have hlt:=hm.lt
 have A0:=aA (show iK K w bm a b c d e f g h ((w.alloc (.cells #[.int .i64 a,.int .i64 b,.int .i64 c,.int .i64 d] 86)).alloc (.cells #[.int .i64 e,.int .i64 f,.int .i64 g,.int .i64 h] 86)) from
  ⟨(vX w 86 a b c d).al _,by have:=vX (w.alloc (.cells #[.int .i64 a,.int .i64 b,.int .i64 c,.int .i64 d] 86)) 86 e f g h;simpa using this,aG (aF _ _) (yA (yA (yH _ _) _) _),hlt,hm.below (yA (yA (yH _ w) _) _)⟩)
 have R:=iK.read K w bm a b c d e f g h
 unfold vP
 obtain ⟨l,hl⟩:∃l,less (fO a b c d).1 (fO a b c d).2 (fO e f g h).1 (fO e f g h).2=l:=⟨_,rfl⟩
 rw [hl] at C3 ⊢
 obtain ⟨⟨x1,y1⟩,e1⟩:∃p,fO a b c d=p:=⟨_,rfl⟩
 obtain ⟨⟨x2,y2⟩,e2⟩:∃p,fO e f g h=p:=⟨_,rfl⟩
 rw [e1] at C1 C3
 rw [e2] at C2 C3
 clear hl e1 e2 h1 h2 hm i1 i2
 go_enter Tryz.func179,Tryz.ntmps179
 go_wp2_with fail
 go_region_held3 (fun wx=>iK K w bm a b c d e f g h wx)
  (first | (with_reducible assumption) | exact (uH A0).drew | exact iK.drew (by assumption))
  (first
  | (go_at_call_of 196 a;refine (uH C1 _ ?_).mono ?_;(exact (show iK K w bm a b c d e f g h _ by assumption).2.2.2.2);rintro o wt ⟨rfl,hh,hg⟩;have SA:=iK.call (K:=K) (w0:=w) (bm:=bm) (a:=a) (b:=b) (c:=c) (d:=d) (e:=e) (f:=f) (g:=g) (h:=h) (by assumption) hh hg)
  | (go_at_call_of 196 e;refine (uH C2 _ ?_).mono ?_;(exact (show iK K w bm a b c d e f g h _ by assumption).2.2.2.2);rintro o wt ⟨rfl,hh,hg⟩;have SA:=iK.call (K:=K) (w0:=w) (bm:=bm) (a:=a) (b:=b) (c:=c) (d:=d) (e:=e) (f:=f) (g:=g) (h:=h) (by assumption) hh hg)
  | (go_at_call 197;refine (uH C3 _).mono ?_;rintro o wt ⟨rfl,hb⟩;have SA:=iK.below (K:=K) (w0:=w) (bm:=bm) (a:=a) (b:=b) (c:=c) (d:=d) (e:=e) (f:=f) (g:=g) (h:=h) (by assumption) hb))
 all_goals
  have HG:=aA SA.2.2
  go_wp2
  go_ret
  exact ⟨rfl,(uH HG).2.2,(uH HG).1⟩
abbrev SE:=List UInt8×P4
def stc (x:SE):List Value:=[.string (bs x.1),.int .i64 x.2.1,.int .i64 x.2.2.1,.int .i64 x.2.2.2.1,.int .i64 x.2.2.2.2]
abbrev stv (x:SE):Value:=.agg #[.string (bs x.1),.int .i64 x.2.1,.int .i64 x.2.2.1,.int .i64 x.2.2.2.1,.int .i64 x.2.2.2.2]
def kZ:List SE→List Value
 | []=>[]
 | x::t=>stc x++kZ t
theorem aEV:∀l:List SE,(kZ l).length=l.length*5
 | []=>rfl
 | x::t=>by rw [kZ,List.length_append,aEV t];simp [stc];omega
theorem aEW:∀a b:List SE,kZ (a++b)=kZ a++kZ b
 | [],b=>rfl
 | x::t,b=>by rw [List.cons_append,kZ,aEW t b,kZ,List.append_assoc]
theorem aBs:∀(l:List SE) (k:Nat),kZ (l.take k)=(kZ l).take (k*5)
 | l,0=>by simp [kZ]
 | [],k+1=>by simp [kZ]
 | x::t,k+1=>by
  rw [List.take_succ_cons,kZ,kZ,aBs t k,show (k+1)*5=(stc x).length+k*5 by simp [stc];omega,List.take_length_add_append]
theorem aGZ:∀(l:List SE) (i:Nat) (h:i<l.length),(kZ l)[i*5]? = some (.string (bs l[i].1))∧(kZ l)[i*5+1]? = some (.int .i64 l[i].2.1)∧(kZ l)[i*5+2]? = some (.int .i64 l[i].2.2.1)∧(kZ l)[i*5+3]? = some (.int .i64 l[i].2.2.2.1)∧(kZ l)[i*5+4]? = some (.int .i64 l[i].2.2.2.2)
 | x::t,0,_=>by simp [kZ,stc]
 | x::t,i+1,h=>by
  have ih:=aGZ t i (by simpa using h)
  have e:∀r,(kZ (x::t))[(i+1)*5+r]? = (kZ t)[i*5+r]?:=fun r=>by
   rw [kZ,List.getElem?_append_right (by simp [stc];omega)]
   congr 1
   simp [stc];omega
  have e0:=e 0
  simp only [Nat.add_zero] at e0
  rw [e0,e 1,e 2,e 3,e 4]
  simpa using ih
def aGV (xs:List Value) (i:Nat) (x:SE):List Value:=((((xs.set (i*5) (.string (bs x.1))).set (i*5+1) (.int .i64 x.2.1)).set (i*5+2) (.int .i64 x.2.2.1)).set (i*5+3) (.int .i64 x.2.2.2.1)).set (i*5+4) (.int .i64 x.2.2.2.2)
theorem aEU:∀(l:List SE) (i:Nat) (x:SE),aGV (kZ l) i x=kZ (l.set i x)
 | [],i,x=>by simp [kZ,aGV]
 | y::t,0,x=>by simp [kZ,stc,aGV]
 | y::t,i+1,x=>by
  have ih:=aEU t i x
  have e:∀(s:List Value) r v,(stc y++s).set ((i+1)*5+r) v=stc y++s.set (i*5+r) v:=fun s r v=>by
   rw [List.set_append,if_neg (by simp [stc];omega)]
   congr 2
   simp [stc];omega
  rw [sC,kZ,kZ,←ih,aGV,aGV]
  have e0:=fun s v=>e s 0 v
  simp only [Nat.add_zero] at e0
  rw [e0,e,e,e,e]
theorem lH {g j sz:Nat} {e:TypeId} {xs:List Value} (h:w.ownsRow B e sz (.slice (some ⟨g,0,none⟩) n cap) n xs) (hj:j<n*sz) (v:Value):(w.setCell ⟨g,j,none⟩ v).ownsRow B e sz (.slice (some ⟨g,0,none⟩) n cap) n (xs.set j v):=by
 obtain ⟨h1,h2⟩:=h
 refine ⟨by simpa using h1,?_⟩
 rcases h2 with ⟨e,_⟩ | ⟨g',cap',cur,e,hb,hc,k1,k2,k3,k4⟩
 ·cases e
 ·cases e
  refine .inr ⟨g,cap,_,rfl,hb,heap_setCell_same w g j cur _ _ hc,k1,k2,by simpa using k3,?_⟩
  rw [Array.toList_setIfInBounds,List.take_set,k4]
def stW (w:World) (g i:Nat) (x:SE):World:=((((w.setCell ⟨g,i*5,none⟩ (.string (bs x.1))).setCell ⟨g,i*5+1,none⟩ (.int .i64 x.2.1)).setCell ⟨g,i*5+2,none⟩ (.int .i64 x.2.2.1)).setCell ⟨g,i*5+3,none⟩ (.int .i64 x.2.2.2.1)).setCell ⟨g,i*5+4,none⟩ (.int .i64 x.2.2.2.2)
theorem aCL {g i:Nat} {l:List SE} (h:w.ownsRow B 164 5 (.slice (some ⟨g,0,none⟩) l.length cap) l.length (kZ l)) (hi:i<l.length) (x:SE):(stW w g i x).ownsRow B 164 5 (.slice (some ⟨g,0,none⟩) l.length cap) l.length (kZ (l.set i x)):=by
 rw [←aEU]
 exact lH (lH (lH (lH (lH h (by omega) _) (by omega) _) (by omega) _) (by omega) _) (by omega) _
def aKb (p q:P4):Bool:=vP p.1 p.2.1 p.2.2.1 p.2.2.2 q.1 q.2.1 q.2.2.1 q.2.2.2
def gT (x y:SE):Bool:=OrdM.ahead aKb Op.bytesLess x y
theorem Blk.gby1 {g k:Nat} {arr:Array Value} {t:TypeId} (h:Blk w k arr t) (hg:w.grownBy w' (some g)) (hn:k≠g):Blk w' k arr t:=(hg.block k h.lt (fun e=>hn (by simpa using e))).trans h
abbrev aBj (bk:Nat):Value:=.func (.func 178) #[] #[.pointer (some ⟨bk,0,none⟩)]
theorem aDd (K:List P4) (hK:K.length≤1000000000) (KW:∀p ∈ K,Wf4 p.1 p.2.1 p.2.2.1 p.2.2.2) (x y:SE) (hx:x.2 ∈ K) (hy:y.2 ∈ K) (bm bk:Nat) (w:World) (hc:Blk w bk #[.map (some bm)] 202) (hm:dU K bm w) (hne:bk≠bm) :
  cP 178 #[stv x,stv y,.pointer (some ⟨bk,0,none⟩)] w fun e w'=>e=.returned (.bool (gT x y))∧dU K bm w'∧w.grownBy w' (some bm):=by
 obtain ⟨n1,a,b,c,d⟩:=x
 obtain ⟨n2,e,f,g,h⟩:=y
 have C1:=aA (fun wx hm=>aC0 K hK a b c d e f g h (KW _ hx) (KW _ hy) hx hy bm wx hm)
 have C2:=aA (fun wx hm=>aC0 K hK e f g h a b c d (KW _ hy) (KW _ hx) hy hx bm wx hm)
 have HA:=aA (show gT (n1,a,b,c,d) (n2,e,f,g,h)=(vP a b c d e f g h||(!vP e f g h a b c d&&Op.bytesLess n1 n2)) from rfl)
 obtain ⟨l1,hl1⟩:∃z,vP a b c d e f g h=z:=⟨_,rfl⟩
 obtain ⟨l2,hl2⟩:∃b',vP e f g h a b c d=b':=⟨_,rfl⟩
 obtain ⟨o,ho⟩:∃b',gT (n1,a,b,c,d) (n2,e,f,g,h)=b':=⟨_,rfl⟩
 rw [hl1] at C1 HA
 rw [hl2] at C2 HA
 rw [ho] at HA ⊢
 have X0:=aA ((yD w #[.string (bs n1),.int .i64 a,.int .i64 b,.int .i64 c,.int .i64 d] 164).al (.cells #[.string (bs n2),.int .i64 e,.int .i64 f,.int .i64 g,.int .i64 h] 164))
 have Y0:=aA (show Blk ((w.alloc (.cells #[.string (bs n1),.int .i64 a,.int .i64 b,.int .i64 c,.int .i64 d] 164)).alloc (.cells #[.string (bs n2),.int .i64 e,.int .i64 f,.int .i64 g,.int .i64 h] 164)) (w.heap.size+1) #[.string (bs n2),.int .i64 e,.int .i64 f,.int .i64 g,.int .i64 h] 164 from by have:=yD (w.alloc (.cells #[.string (bs n1),.int .i64 a,.int .i64 b,.int .i64 c,.int .i64 d] 164)) #[.string (bs n2),.int .i64 e,.int .i64 f,.int .i64 g,.int .i64 h] 164;rw [yE] at this;exact this)
 have M0:=aA ((hc.al (.cells #[.string (bs n1),.int .i64 a,.int .i64 b,.int .i64 c,.int .i64 d] 164)).al (.cells #[.string (bs n2),.int .i64 e,.int .i64 f,.int .i64 g,.int .i64 h] 164))
 have hb0:=yA (yA (yH _ w) (.cells #[.string (bs n1),.int .i64 a,.int .i64 b,.int .i64 c,.int .i64 d] 164)) (.cells #[.string (bs n2),.int .i64 e,.int .i64 f,.int .i64 g,.int .i64 h] 164)
 have H0:=aA (hm.below hb0)
 have G0:=aA (aG (aF w (some bm)) hb0)
 have hlm:bm<w.heap.size:=hm.lt
 clear hl1 hl2 ho hc hm hb0 hx hy
 have c0:=(uH M0).at 0
 have x1:=(uH X0).at 1;have x2:=(uH X0).at 2;have x3:=(uH X0).at 3;have x4:=(uH X0).at 4
 have y1:=(uH Y0).at 1;have y2:=(uH Y0).at 2;have y3:=(uH Y0).at 3;have y4:=(uH Y0).at 4
 simp at c0 x1 x2 x3 x4 y1 y2 y3 y4
 go_enter Tryz.func178,Tryz.ntmps178
 go_wp2_with fail
 refine (uH C1 _ (uH H0)).mono ?_
 rintro e1 w1 ⟨rfl,hh,hg⟩
 have H1:=aA hh
 have G1:=aA (bR (uH G0) hg)
 have X1:=aA ((uH X0).gby1 hg (by omega))
 have Y1:=aA ((uH Y0).gby1 hg (by omega))
 have M1:=aA ((uH M0).gby1 hg hne)
 clear hh hg H0 G0 X0 Y0 M0 C1 c0 x1 x2 x3 x4 y1 y2 y3 y4
 cases l1
 case true=>
  go_wp2
  go_ret
  exact ⟨yF (by rw [uH HA];rfl),uH H1,uH G1⟩
 have c0:=(uH M1).at 0
 have x1:=(uH X1).at 1;have x2:=(uH X1).at 2;have x3:=(uH X1).at 3;have x4:=(uH X1).at 4
 have y1:=(uH Y1).at 1;have y2:=(uH Y1).at 2;have y3:=(uH Y1).at 3;have y4:=(uH Y1).at 4
 simp at c0 x1 x2 x3 x4 y1 y2 y3 y4
 go_wp2_with fail
 refine (uH C2 _ (uH H1)).mono ?_
 rintro e2 w2 ⟨rfl,hh,hg⟩
 have H2:=aA hh
 have G2:=aA (bR (uH G1) hg)
 have X2:=aA ((uH X1).gby1 hg (by omega))
 have Y2:=aA ((uH Y1).gby1 hg (by omega))
 clear hh hg H1 G1 X1 Y1 M1 C2 c0 x1 x2 x3 x4 y1 y2 y3 y4
 cases l2
 case true=>
  go_wp2
  go_ret
  exact ⟨yF (by rw [uH HA];rfl),uH H2,uH G2⟩
 have x0:=(uH X2).at 0
 have y0:=(uH Y2).at 0
 simp at x0 y0
 obtain ⟨bl,hbl⟩:∃z,Op.bytesLess (bs n1).toList (bs n2).toList=z:=⟨_,rfl⟩
 have sw:=aA (show Op.bytesLess n1 n2=bl by rw [←hbl];simp [bs])
 go_wp2
 go_ret
 exact ⟨yF (by rw [uH HA,uH sw];rfl),uH H2,uH G2⟩
end
end Go.Proofs.YtngkddhcmfbjnaaGreat
