/-
  Texts in one: SumS4, OnS, CapS.
-/
import Derived.Test.YtmkedfdnokmglaaGreatSackC
set_option maxRecDepth 100000
set_option maxHeartbeats 16000000
set_option linter.unusedVariables false
set_option linter.unusedSimpArgs false
namespace Go.Proofs.YtmkedfdnokmglaaGreat
section
open Go.RowKit
def SumHeld (w0:World) (b p:Nat) (r:Int×Int) (x y:Int) (w:World):Prop:=RAt w b p r∧Var w 69 (w0.heap.size+1) x y∧Var w 69 w0.heap.size 0 0∧Below w0.heap.size w0 w
theorem SumHeld.call {w0 w w':World} {b p:Nat} {r:Int×Int} {x y:Int} (h:SumHeld w0 b p r x y w) (hb:Below w.heap.size w w'):SumHeld w0 b p r x y w':=⟨h.1.below hb,h.2.1.below hb,h.2.2.1.below hb,yB h.2.2.2 hb⟩
theorem SumHeld.drew {w0 w:World} {b p:Nat} {r:Int×Int} {x y:Int} (h:SumHeld w0 b p r x y w):SumHeld w0 b p r x y w.drew:=h.call (yH _ _).drew
theorem SumHeld.al {w0 w:World} {b p:Nat} {r:Int×Int} {x y:Int} (h:SumHeld w0 b p r x y w) (o:Obj):SumHeld w0 b p r x y (w.alloc o):=h.call (yA (yH _ _) o)
theorem SumHeld.set {w0 w:World} {b p:Nat} {r:Int×Int} {x y:Int} (h:SumHeld w0 b p r x y w) (k j:Nat) (v:Value) (h1:w0.heap.size+1<k) (h2:b≠k):SumHeld w0 b p r x y (w.setCell ⟨k,j,none⟩ v):=by
  have hc:∀q,(w.setCell ⟨k,j,none⟩ v).cell? ⟨b,q,none⟩=w.cell? ⟨b,q,none⟩:=fun q=>by unfold World.cell?;rw [heap_setCell_other w ⟨k,j,none⟩ b v h2]
  exact ⟨⟨(hc _).trans h.1.1,(hc _).trans h.1.2⟩,h.2.1.other _ _ _ (by omega),h.2.2.1.other _ _ _ (by omega),yC h.2.2.2 _ _ _ (by omega)⟩
theorem SumHeld.read (w0:World) (b p:Nat) (r:Int×Int) (x y:Int):∀wx,SumHeld w0 b p r x y wx→wx.cell? ⟨b,p,none⟩=some (.int .i64 r.1)∧wx.cell? ⟨b,p+1,none⟩=some (.int .i64 r.2)∧wx.cell? ⟨w0.heap.size+1,0,none⟩=some (.int .i64 x)∧wx.cell? ⟨w0.heap.size+1,1,none⟩=some (.int .i64 y):=
  fun wx h=>⟨h.1.1,h.1.2,h.2.1.c0,h.2.1.c1⟩
theorem l04Sum_any (ao:Option Addr) (len cap:Nat) (l:List (Int×Int)) (w:World) (h:RRow w ao len l) (hl:len≤1048576) :
    Calls Tryz.prog 151 #[.slice ao len cap] w fun e w'=>e=.returned (.tuple #[rv (sumR l).1 (sumR l).2.1,.bool (sumR l).2.2])∧Below w.heap.size w w':=by
  have HR:=hide h
  have HL:=hide h.1
  obtain ⟨⟨sx,sy,so⟩,hs⟩:∃s,sumR l=s:=⟨_,rfl⟩
  have HS:=hide (show sumFrom l 0 0=(sx,sy,so) from hs)
  rw [hs]
  clear h hs
  go_enter Tryz.func151,Tryz.ntmps151
  go_wp2
  go_loopw [5] (fun i wr=>∃(k:Nat) (x y:Int),k≤len∧i=.int .i64 k∧Hid (sumFrom (l.drop k) x y=(sx,sy,so))∧Hid (Var wr 69 w.heap.size 0 0)∧Hid (Var wr 69 (w.heap.size+1) x y)∧Hid (Below w.heap.size w wr)) (fun i _=>len - (intOf i).toNat)
  case atStart=>exact ⟨0,0,0,Nat.zero_le _,rfl,hide (by simpa using uH HS),hide ((var_new w _ _ _).al _),hide (var_new2 w _ _ 0 0 0 0),hide (yA (yA (yH _ _) _) _)⟩
  case round=>
    obtain ⟨k,x,y,hk,rfl,HQ,HV0,HV1,HB⟩:=hrel
    by_cases hlt:k<len
    · obtain ⟨b,off,rfl,hq⟩:=((uH HR).below (uH HB)).at hlt
      have hkl:k<l.length:=by have:=uH HL;omega
      have hst:=sumFrom_step hkl x y
      have A0:=hide (show SumHeld w b (off+k*2) l[k] x y wr from ⟨hq hkl,uH HV1,uH HV0,uH HB⟩)
      obtain ⟨⟨a,d⟩,hs⟩:∃q,l[k]=q:=⟨_,rfl⟩
      rw [hs] at A0 hst
      simp only at hst
      have HST:=hide hst
      have R:=SumHeld.read w b (off+k*2) (a,d) x y
      simp only at R
      have k0:(0:Int)≤k:=by omega
      have k1:(k:Int)<len:=by omega
      clear hq hs hkl hst HV0 HV1 HB
      have CA:=hide (fun wx=>specAdd_any x y a d wx)
      obtain ⟨x',y',ok,hv⟩:∃x' y' ok,bothV 1 x y a d=rv x' y'∧bothOk 1 x y a d=ok:=by
        cases ho:bothOk 1 x y a d
        · exact ⟨0,0,_,both_no ho,rfl⟩
        · exact ⟨_,_,_,both_yes ho,rfl⟩
      have HVV:=hide hv
      rw [hv.1,hv.2] at CA
      clear hv
      have sz1:=(uH A0).2.1.lt
      have sb1:=(uH A0).1.lt
      go_wp2_with fail
      go_cut [6,7] from 15 to 24 (fun v6 v7 wx=>∃g,v6=.pointer (some ⟨g,0,none⟩)∧v7=.bool ok∧SumHeld w b (off+k*2) (a,d) x y wx∧Var wx 69 g x' y'∧w.heap.size+1<g)
      case first=>
        go_region_held3 (fun wx=>SumHeld w b (off+k*2) (a,d) x y wx)
          (first | (with_reducible assumption) | exact uH SA | exact (uH A0).drew | exact SumHeld.al (uH SA) _ | exact SumHeld.al (by assumption) _ | exact SumHeld.al (uH A0).drew _ | exact SumHeld.call (by assumption) (by assumption) | exact SumHeld.set (SumHeld.set (uH SA) _ _ _ (by first | omega | (simp<;>omega)) (by first | omega | (simp<;>omega))) _ _ _ (by first | omega | (simp<;>omega)) (by first | omega | (simp<;>omega)) | exact SumHeld.set (SumHeld.set (by assumption) _ _ _ (by first | omega | (simp<;>omega)) (by first | omega | (simp<;>omega))) _ _ _ (by first | omega | (simp<;>omega)) (by first | omega | (simp<;>omega)))
          (first
          | (go_at_call 169;refine (uH CA _).mono ?_;rintro e wt ⟨rfl,hb⟩;have SA:=hide (SumHeld.call (w0:=w) (b:=b) (p:=off+k*2) (r:=(a,d)) (x:=x) (y:=y) (by assumption) hb);have sz:=(uH SA).2.1.lt;have sb:=(uH SA).1.lt
             first
               | (have V5:=(var_new _ 69 0 0).below hb;(try simp at V5);have c50:=V5.c0;have c51:=V5.c1;have f50:=V5.f 0;have f51:=V5.f 1;have V5:=hide V5)
               | (have V5:=(var_new _ 69 0 0).drew.below hb;(try simp at V5);have c50:=V5.c0;have c51:=V5.c1;have f50:=V5.f 0;have f51:=V5.f 1;have V5:=hide V5)
               | skip))
        all_goals
          go_wp2_with fail
          go_meet
          exact ⟨_,rfl,rfl,by first | assumption | exact uH SA | exact SumHeld.al (uH SA) _,by first | exact var_new _ _ _ _ | exact (uH V5).set _ _,by first | omega | (simp<;>omega)⟩
      case rest=>
        obtain ⟨g,rfl,rfl,hA,hV,hg⟩:=hcut
        have A1:=hide hA
        have W1:=hide hV
        clear hA hV A0 CA R
        have v0:=(uH W1).c0
        have v1:=(uH W1).c1
        have s0:=(uH A1).2.1.c0
        have s1:=(uH A1).2.1.c1
        have sf0:=(uH A1).2.1.f 0
        have sf1:=(uH A1).2.1.f 1
        have t0:=(uH A1).2.2.1.c0
        have t1:=(uH A1).2.2.1.c1
        have tf0:=(uH A1).2.2.1.f 0
        have tf1:=(uH A1).2.2.1.f 1
        cases ok with
        | true=>
          have hxy:=both_yes (uH HVV).2
          rw [(uH HVV).1] at hxy
          simp only [rv,Value.agg.injEq,Array.mk.injEq,List.cons.injEq,Value.int.injEq,and_true,true_and] at hxy
          rw [if_pos (uH HVV).2,←hxy.1,←hxy.2] at HST
          clear hxy HVV
          go_wp2
          go_roundw
          case rel=>exact ⟨k+1,x',y',by omega,by go_num,hide (by rw [←uH HST];exact uH HQ),hide (((uH A1).2.2.1.other _ _ _ (show w.heap.size≠w.heap.size+1 by omega)).other _ _ _ (show w.heap.size≠w.heap.size+1 by omega)),hide ((uH A1).2.1.set _ _),hide (yC (yC (uH A1).2.2.2 _ _ _ (show w.heap.size≤w.heap.size+1 by omega)) _ _ _ (show w.heap.size≤w.heap.size+1 by omega))⟩
          case measure=>simp [intOf];omega
        | false=>
          rw [if_neg (by rw [(uH HVV).2];simp)] at HST
          have hres:=(uH HST).symm.trans (uH HQ)
          simp only [Prod.mk.injEq] at hres
          obtain ⟨rfl,rfl,rfl⟩:=hres
          have k4:=(uH A1).2.2.1.s0 (.int .i64 0)
          have k5:=(uH A1).2.2.1.s1 (.int .i64 0) (.int .i64 0)
          have HB1:=hide (uH A1).2.2.2
          clear HST HS HVV
          go_wp2
          refine bodyPost_ret (v:=.tuple #[rv 0 0,.bool false]) (by simp [results,Tryz.results151,go_sem,k4,k5]) rfl ⟨rfl,?_⟩
          repeat (first | exact uH HB1 | refine yC ?_ _ _ _ (by omega))
    · have hres:(x,y,true)=(sx,sy,so):=by rw [←uH HQ,sumFrom_end (by have:=uH HL;omega)]
      simp only [Prod.mk.injEq] at hres
      obtain ⟨rfl,rfl,rfl⟩:=hres
      have s0:=(uH HV1).c0
      have s1:=(uH HV1).c1
      have t0:=(uH HV0).c0
      have t1:=(uH HV0).c1
      have f0:=(uH HV0).f 0
      have f1:=(uH HV0).f 1
      have k4:=(uH HV0).s0 (.int .i64 x)
      have k5:=(uH HV0).s1 (.int .i64 x) (.int .i64 y)
      go_wp2
      refine bodyPost_ret (v:=.tuple #[rv x y,.bool true]) (by simp [results,Tryz.results151,go_sem,k4,k5]) rfl ⟨rfl,?_⟩
      repeat (first | exact uH HB | refine yC ?_ _ _ _ (by omega))
theorem l04On_any (x:Sls) (s:St) (nd:List UInt8) (w:World) (h:ConRow w x.ca x.cl s.cs) (hl:x.cl≤1048576) :
  Calls Tryz.prog 152 #[sv x s,.string (bs nd)] w fun e w'=>∃v,e=.returned v∧ROwn w.heap.size w' v (usedL (fun q=>decide (q.node=nd)) s.cs)∧Below w.heap.size w w':=by
 obtain ⟨i0,hi,hz0,hz1,hz2⟩:=info_parts Tryz.infoR
 obtain ⟨qa,ql,qc,aa,al,ac,ma,ml,mc,ca,cl,cc⟩:=x
 obtain ⟨qs,clock,epoch,next,serial,apps,ms,cs⟩:=s
 simp only at h hl ⊢
 have HR:=hide h
 have HL:=hide h.1
 have HB0:=hide (boxW_below w #[.slice qa ql qc,.int .i64 clock,.int .i64 epoch,.int .i64 next,.int .i64 serial,.slice aa al ac,.slice ma ml mc,.slice ca cl cc])
 have P0:=hide (boxW_blk w #[.slice qa ql qc,.int .i64 clock,.int .i64 epoch,.int .i64 next,.int .i64 serial,.slice aa al ac,.slice ma ml mc,.slice ca cl cc])
 have HW:=hide (boxW_size w #[.slice qa ql qc,.int .i64 clock,.int .i64 epoch,.int .i64 next,.int .i64 serial,.slice aa al ac,.slice ma ml mc,.slice ca cl cc])
 have HO0:=hide (rown_empty (boxW w #[.slice qa ql qc,.int .i64 clock,.int .i64 epoch,.int .i64 next,.int .i64 serial,.slice aa al ac,.slice ma ml mc,.slice ca cl cc]))
 obtain ⟨c,hc⟩:∃c:Array Value,#[.slice qa ql qc,.int .i64 clock,.int .i64 epoch,.int .i64 next,.int .i64 serial,.slice aa al ac,.slice ma ml mc,.slice ca cl cc]=c:=⟨_,rfl⟩
 rw [hc] at HB0 HW HO0
 have P0:=hide (show Blk (boxW w c) w.heap.size #[.slice qa ql qc,.int .i64 clock,.int .i64 epoch,.int .i64 next,.int .i64 serial,.slice aa al ac,.slice ma ml mc,.slice ca cl cc] 42 by rw [hc];exact boxW_blk w c)
 have HC:=hide hc
 clear h hc
 go_enter Tryz.func152,Tryz.ntmps152
 go_wp2
 go_loopw [5,6] (fun v i wr=>∃(k:Nat),k≤cl∧i=.int .i64 k∧Hid (ROwn (boxW w c).heap.size wr v (usedL (fun q=>decide (q.node=nd)) (cs.take k)))∧Hid (Below (boxW w c).heap.size (boxW w c) wr)) (fun _ i _=>cl - (intOf i).toNat)
 case atStart=>
  obtain rfl:=uH HC
  have h1:=uH HW
  refine ⟨0,Nat.zero_le _,rfl,hide ?_,hide (yA (yH _ _) _)⟩
  have:=uH HO0
  rw [h1] at this
  rw [h1]
  exact this
 case round=>
  obtain ⟨k,hk,rfl,HO,HB⟩:=hrel
  have hn1:w.heap.size<(boxW w c).heap.size:=by have:=uH HW;omega
  have p7:=Blk.at (show Blk wr w.heap.size _ 42 from ((uH HB).block _ hn1).trans (uH P0)) 7
  simp at p7
  by_cases hlt:k<cl
  ·obtain ⟨b,off,rfl,hq⟩:=(((uH HR).below (uH HB0)).below (uH HB)).at hlt
   have hkl:k<cs.length:=by have:=uH HL;omega
   have hst:=usedL_step (p:=fun q=>decide (q.node=nd)) hkl
   obtain ⟨c0,c1,c2,c3,c4⟩:=hq hkl
   obtain ⟨m,hs⟩:∃q,cs[k]=q:=⟨_,rfl⟩
   rw [hs] at c0 c1 c2 c3 c4 hst
   have hal:(usedL (fun q=>decide (q.node=nd)) (cs.take k)).length≤1048576:=by have:(usedL (fun q:Con=>decide (q.node=nd)) (cs.take k)).length≤(cs.take k).length:=(by simp only [usedL,List.length_map];exact List.length_filter_le _ _);simp at this;omega
   obtain ⟨acc,hacc⟩:∃a,usedL (fun q=>decide (q.node=nd)) (cs.take k)=a:=⟨_,rfl⟩
   rw [hacc] at hst hal HO
   obtain ⟨id,ap,no,me,cp⟩:=m
   simp only at c0 c1 c2 c3 c4 hst
   have hs2:(boxW w c).heap.size≤wr.heap.size:=(uH HB).size
   have hown:wr.ownsRow (boxW w c).heap.size 69 2 _ acc.length (rcells acc):=uH HO
   have hbe:=bs_eq no nd
   clear hq hs hkl hacc
   by_cases hnd:no=nd
   ·rw [decide_eq_true hnd] at hbe hst
    have HST:=hide (show usedL (fun q=>decide (q.node=nd)) (cs.take (k+1))=acc++[(me,cp)] by have:=hst;rw [if_pos rfl] at this;exact this)
    clear hst hnd
    go_wp2_with (at_builtin;refine wpList_append_own _ rfl _ _ 204 rfl (boxW w c).heap.size 69 i0 (.agg #[.int .i64 0,.int .i64 0]) 2 16 Tryz.underlying204 hi hz0 hz1 hz2 rfl (by decide) _ _ _ rfl (hown.alloc _) ⟨wr.heap.size,0,none⟩ 1 1 (rcell (me,cp)) rfl rfl ?c1 ?c2 ?c3 ?c4 ?c5 ?_)
    case c1=>
     intro j x hj
     match j,hj with
     | 0,hj=>simp at hj;subst hj;simp [Addr.add]
     | 1,hj=>simp at hj;subst hj;simp [Addr.add]
     | _+2,hj=>simp at hj
    case c2=>intro x hx;simp at hx;rcases hx with rfl | rfl<;>rfl
    case c3=>unfold maxLen;omega
    case c4=>omega
    case c5=>simp at hs2 ⊢;omega
    intro v' w3 hown' hgrow _
    have R:=rown_step (q:=(me,cp)) (uH HB) (uH HO) hown' hgrow hs2
    have HR3:=hide R
    clear hown' hgrow hown c0 c1 c2 c3 c4 R p7
    go_wp2
    go_roundw
    case rel=>exact ⟨k+1,by omega,by go_num,hide (by rw [uH HST];exact (uH HR3).1),hide (uH HR3).2⟩
    case measure=>simp [intOf];omega
   ·rw [decide_eq_false hnd] at hbe hst
    have HST:=hide (show usedL (fun q=>decide (q.node=nd)) (cs.take (k+1))=acc by have:=hst;rw [if_neg (by simp)] at this;exact this)
    clear hst hnd hown
    go_wp2
    go_roundw
    case rel=>exact ⟨k+1,by omega,by go_num,hide (by rw [uH HST];exact uH HO),HB⟩
    case measure=>simp [intOf];omega
  ·have htk:cs.take k=cs:=List.take_of_length_le (by have:=uH HL;omega)
   rw [htk] at HO
   go_wp2
   go_ret
   exact ⟨_,rfl,(uH HO).base (by omega),yB (uH HB0) (uH HB)⟩
theorem l04Caps_any (x:Sls) (s:St) (w:World) (h:MacRow w x.ma x.ml s.ms) (hl:x.ml≤1048576) :
  Calls Tryz.prog 154 #[sv x s] w fun e w'=>∃v,e=.returned v∧ROwn w.heap.size w' v (capsOf s.ms)∧Below w.heap.size w w':=by
 obtain ⟨i0,hi,hz0,hz1,hz2⟩:=info_parts Tryz.infoR
 obtain ⟨qa,ql,qc,aa,al,ac,ma,ml,mc,ca,cl,cc⟩:=x
 obtain ⟨qs,clock,epoch,next,serial,apps,ms,cs⟩:=s
 simp only at h hl ⊢
 have HR:=hide h
 have HL:=hide h.1
 have HB0:=hide (boxW_below w #[.slice qa ql qc,.int .i64 clock,.int .i64 epoch,.int .i64 next,.int .i64 serial,.slice aa al ac,.slice ma ml mc,.slice ca cl cc])
 have P0:=hide (boxW_blk w #[.slice qa ql qc,.int .i64 clock,.int .i64 epoch,.int .i64 next,.int .i64 serial,.slice aa al ac,.slice ma ml mc,.slice ca cl cc])
 have HW:=hide (boxW_size w #[.slice qa ql qc,.int .i64 clock,.int .i64 epoch,.int .i64 next,.int .i64 serial,.slice aa al ac,.slice ma ml mc,.slice ca cl cc])
 have HO0:=hide (rown_empty (boxW w #[.slice qa ql qc,.int .i64 clock,.int .i64 epoch,.int .i64 next,.int .i64 serial,.slice aa al ac,.slice ma ml mc,.slice ca cl cc]))
 obtain ⟨c,hc⟩:∃c:Array Value,#[.slice qa ql qc,.int .i64 clock,.int .i64 epoch,.int .i64 next,.int .i64 serial,.slice aa al ac,.slice ma ml mc,.slice ca cl cc]=c:=⟨_,rfl⟩
 rw [hc] at HB0 HW HO0
 have P0:=hide (show Blk (boxW w c) w.heap.size #[.slice qa ql qc,.int .i64 clock,.int .i64 epoch,.int .i64 next,.int .i64 serial,.slice aa al ac,.slice ma ml mc,.slice ca cl cc] 42 by rw [hc];exact boxW_blk w c)
 have HC:=hide hc
 clear h hc
 go_enter Tryz.func154,Tryz.ntmps154
 go_wp2
 go_loopw [3,4] (fun v i wr=>∃(k:Nat),k≤ml∧i=.int .i64 k∧Hid (ROwn (boxW w c).heap.size wr v (capsOf (ms.take k)))∧Hid (Below (boxW w c).heap.size (boxW w c) wr)) (fun _ i _=>ml - (intOf i).toNat)
 case atStart=>
  obtain rfl:=uH HC
  have h1:=uH HW
  refine ⟨0,Nat.zero_le _,rfl,hide ?_,hide (yA (yH _ _) _)⟩
  have:=uH HO0
  rw [h1] at this
  rw [h1]
  exact this
 case round=>
  obtain ⟨k,hk,rfl,HO,HB⟩:=hrel
  have hn1:w.heap.size<(boxW w c).heap.size:=by have:=uH HW;omega
  have p6:=Blk.at (show Blk wr w.heap.size _ 42 from ((uH HB).block _ hn1).trans (uH P0)) 6
  simp at p6
  by_cases hlt:k<ml
  ·obtain ⟨b,off,rfl,hq⟩:=(((uH HR).below (uH HB0)).below (uH HB)).at hlt
   have hkl:k<ms.length:=by have:=uH HL;omega
   have hst:=hide (capsOf_step hkl)
   obtain ⟨c0,c1,c2,c3⟩:=hq hkl
   obtain ⟨m,hs⟩:∃q,ms[k]=q:=⟨_,rfl⟩
   rw [hs] at c0 c1 c2 c3 hst
   have hal:(capsOf (ms.take k)).length≤1048576:=by simp [capsOf];omega
   obtain ⟨acc,hacc⟩:∃a,capsOf (ms.take k)=a:=⟨_,rfl⟩
   rw [hacc] at hst hal HO
   obtain ⟨nm,me,cp,se⟩:=m
   simp only at c0 c1 c2 c3 hst
   have hs2:(boxW w c).heap.size≤wr.heap.size:=(uH HB).size
   have hown:wr.ownsRow (boxW w c).heap.size 69 2 _ acc.length (rcells acc):=uH HO
   clear hq hs hkl hacc
   go_wp2_with (at_builtin;refine wpList_append_own _ rfl _ _ 204 rfl (boxW w c).heap.size 69 i0 (.agg #[.int .i64 0,.int .i64 0]) 2 16 Tryz.underlying204 hi hz0 hz1 hz2 rfl (by decide) _ _ _ rfl (hown.alloc _) ⟨wr.heap.size,0,none⟩ 1 1 (rcell (me,cp)) rfl rfl ?c1 ?c2 ?c3 ?c4 ?c5 ?_)
   case c1=>
    intro j x hj
    match j,hj with
    | 0,hj=>simp at hj;subst hj;simp [Addr.add]
    | 1,hj=>simp at hj;subst hj;simp [Addr.add]
    | _+2,hj=>simp at hj
   case c2=>intro x hx;simp at hx;rcases hx with rfl | rfl<;>rfl
   case c3=>unfold maxLen;omega
   case c4=>omega
   case c5=>simp at hs2 ⊢;omega
   intro v' w3 hown' hgrow _
   have R:=rown_step (q:=(me,cp)) (uH HB) (uH HO) hown' hgrow hs2
   have HR3:=hide R
   clear hown' hgrow hown c0 c1 c2 c3 R p6
   go_wp2
   go_roundw
   case rel=>exact ⟨k+1,by omega,by go_num,hide (by rw [uH hst];exact (uH HR3).1),hide (uH HR3).2⟩
   case measure=>simp [intOf];omega
  ·have htk:ms.take k=ms:=List.take_of_length_le (by have:=uH HL;omega)
   rw [htk] at HO
   go_wp2
   go_ret
   exact ⟨_,rfl,(uH HO).base (by omega),yB (uH HB0) (uH HB)⟩
end
end Go.Proofs.YtmkedfdnokmglaaGreat
