/-
  Texts in one: SumS4, CapS, CapsS, TotalB, UsedI, BackA, UsedOnI, FreeOnM, OkA, OnS, MarkX.
-/
import Derived.Test.YtdhibeclkdepiaaGreatSackJ
import Derived.Test.YtdhibeclkdepiaaGreatSackI
set_option maxRecDepth 100000
set_option maxHeartbeats 16000000
set_option linter.unusedVariables false
set_option linter.unusedSimpArgs false
namespace Go.Proofs.YtdhibeclkdepiaaGreat
section
open Go.RowKit
def bR (w0:World) (b p:Nat) (r:Int×Int) (x y:Int) (w:World):Prop:=RAt w b p r∧Var w 36 (w0.heap.size+1) x y∧Var w 36 w0.heap.size 0 0∧Below w0.heap.size w0 w
theorem bR.call {w0 w w':World} {b p:Nat} {r:Int×Int} {x y:Int} (h:bR w0 b p r x y w) (hb:Below w.heap.size w w'):bR w0 b p r x y w':=⟨h.1.below hb,h.2.1.below hb,h.2.2.1.below hb,yB h.2.2.2 hb⟩
theorem bR.drew {w0 w:World} {b p:Nat} {r:Int×Int} {x y:Int} (h:bR w0 b p r x y w):bR w0 b p r x y w.drew:=h.call (yH _ _).drew
theorem bR.al {w0 w:World} {b p:Nat} {r:Int×Int} {x y:Int} (h:bR w0 b p r x y w) (o:Obj):bR w0 b p r x y (w.alloc o):=h.call (yA (yH _ _) o)
theorem bR.set {w0 w:World} {b p:Nat} {r:Int×Int} {x y:Int} (h:bR w0 b p r x y w) (k j:Nat) (v:Value) (h1:w0.heap.size+1<k) (h2:b≠k):bR w0 b p r x y (w.setCell ⟨k,j,none⟩ v):=by
  have hc:∀q,(w.setCell ⟨k,j,none⟩ v).cell? ⟨b,q,none⟩=w.cell? ⟨b,q,none⟩:=fun q=>by unfold World.cell?;rw [heap_setCell_other w ⟨k,j,none⟩ b v h2]
  exact ⟨⟨(hc _).trans h.1.1,(hc _).trans h.1.2⟩,h.2.1.other _ _ _ (by omega),h.2.2.1.other _ _ _ (by omega),yC h.2.2.2 _ _ _ (by omega)⟩
theorem bR.read (w0:World) (b p:Nat) (r:Int×Int) (x y:Int):∀wx,bR w0 b p r x y wx→wx.cell? ⟨b,p,none⟩=some (.int .i64 r.1)∧wx.cell? ⟨b,p+1,none⟩=some (.int .i64 r.2)∧wx.cell? ⟨w0.heap.size+1,0,none⟩=some (.int .i64 x)∧wx.cell? ⟨w0.heap.size+1,1,none⟩=some (.int .i64 y):=
  fun wx h=>⟨h.1.1,h.1.2,h.2.1.c0,h.2.1.c1⟩
theorem lQ (ao:Option Addr) (len cap:Nat) (l:List (Int×Int)) (w:World) (h:aGd w ao len l) (hl:len≤1048576) :
    Calls Tryz.prog 92 #[.slice ao len cap] w fun e w'=>e=.returned (.tuple #[rv (gX l).1 (gX l).2.1,.bool (gX l).2.2])∧Below w.heap.size w w':=by
  have HR:=aA h
  have HL:=aA h.1
  obtain ⟨⟨sx,sy,so⟩,hs⟩:∃s,gX l=s:=⟨_,rfl⟩
  have HS:=aA (show aT l 0 0=(sx,sy,so) from hs)
  rw [hs]
  clear h hs
  go_enter Tryz.func92,Tryz.ntmps92
  go_wp2
  go_loopw [5] (fun i wr=>∃(k:Nat) (x y:Int),k≤len∧i=.int .i64 k∧Hid (aT (l.drop k) x y=(sx,sy,so))∧Hid (Var wr 36 w.heap.size 0 0)∧Hid (Var wr 36 (w.heap.size+1) x y)∧Hid (Below w.heap.size w wr)) (fun i _=>len - (intOf i).toNat)
  case atStart=>exact ⟨0,0,0,Nat.zero_le _,rfl,aA (by simpa using uH HS),aA ((aH w _ _ _).al _),aA (gL w _ _ 0 0 0 0),aA (yA (yA (yH _ _) _) _)⟩
  case round=>
    obtain ⟨k,x,y,hk,rfl,HQ,HV0,HV1,HB⟩:=hrel
    by_cases hlt:k<len
    · obtain ⟨b,off,rfl,hq⟩:=((uH HR).below (uH HB)).at hlt
      have hkl:k<l.length:=by have:=uH HL;omega
      have hst:=tN hkl x y
      have A0:=aA (show bR w b (off+k*2) l[k] x y wr from ⟨hq hkl,uH HV1,uH HV0,uH HB⟩)
      obtain ⟨⟨a,d⟩,hs⟩:∃q,l[k]=q:=⟨_,rfl⟩
      rw [hs] at A0 hst
      simp only at hst
      have HST:=aA hst
      have R:=bR.read w b (off+k*2) (a,d) x y
      simp only at R
      have k0:(0:Int)≤k:=by omega
      have k1:(k:Int)<len:=by omega
      clear hq hs hkl hst HV0 HV1 HB
      have CA:=aA (fun wx=>vV x y a d wx)
      obtain ⟨x',y',ok,hv⟩:∃x' y' ok,jQ 1 x y a d=rv x' y'∧aI 1 x y a d=ok:=by
        cases ho:aI 1 x y a d
        · exact ⟨0,0,_,kL ho,rfl⟩
        · exact ⟨_,_,_,kW ho,rfl⟩
      have HVV:=aA hv
      rw [hv.1,hv.2] at CA
      clear hv
      have sz1:=(uH A0).2.1.lt
      have sb1:=(uH A0).1.lt
      go_wp2_with fail
      go_cut [6,7] from 15 to 24 (fun v6 v7 wx=>∃g,v6=.pointer (some ⟨g,0,none⟩)∧v7=.bool ok∧bR w b (off+k*2) (a,d) x y wx∧Var wx 36 g x' y'∧w.heap.size+1<g)
      case first=>
        go_region_held3 (fun wx=>bR w b (off+k*2) (a,d) x y wx)
          (first | (with_reducible assumption) | exact uH SA | exact (uH A0).drew | exact bR.al (uH SA) _ | exact bR.al (by assumption) _ | exact bR.al (uH A0).drew _ | exact bR.call (by assumption) (by assumption) | exact bR.set (bR.set (uH SA) _ _ _ (by first | omega | (simp<;>omega)) (by first | omega | (simp<;>omega))) _ _ _ (by first | omega | (simp<;>omega)) (by first | omega | (simp<;>omega)) | exact bR.set (bR.set (by assumption) _ _ _ (by first | omega | (simp<;>omega)) (by first | omega | (simp<;>omega))) _ _ _ (by first | omega | (simp<;>omega)) (by first | omega | (simp<;>omega)))
          (first
          | (go_at_call 129;refine (uH CA _).mono ?_;rintro e wt ⟨rfl,hb⟩;have SA:=aA (bR.call (w0:=w) (b:=b) (p:=off+k*2) (r:=(a,d)) (x:=x) (y:=y) (by assumption) hb);have sz:=(uH SA).2.1.lt;have sb:=(uH SA).1.lt
             first
               | (have V5:=(aH _ 36 0 0).below hb;(try simp at V5);have c50:=V5.c0;have c51:=V5.c1;have f50:=V5.f 0;have f51:=V5.f 1;have V5:=aA V5)
               | (have V5:=(aH _ 36 0 0).drew.below hb;(try simp at V5);have c50:=V5.c0;have c51:=V5.c1;have f50:=V5.f 0;have f51:=V5.f 1;have V5:=aA V5)
               | skip))
        all_goals
          go_wp2_with fail
          go_meet
          exact ⟨_,rfl,rfl,by first | assumption | exact uH SA | exact bR.al (uH SA) _,by first | exact aH _ _ _ _ | exact (uH V5).set _ _,by first | omega | (simp<;>omega)⟩
      case rest=>
        obtain ⟨g,rfl,rfl,hA,hV,hg⟩:=hcut
        have A1:=aA hA
        have W1:=aA hV
        clear hA hV A0 CA R
        have v0:=(uH W1).c0
        have v1:=(uH W1).c1
        have s0:=(uH A1).2.1.c0
        have s1:=(uH A1).2.1.c1
        have sf0:=(uH A1).2.1.f 0
        have sf1:=(uH A1).2.1.f 1
        have t0:=(uH A1).2.2.1.c0
        have t1:=(uH A1).2.2.1.c1
        have tf0:=(uH A1).2.2.1.f 0
        have tf1:=(uH A1).2.2.1.f 1
        cases ok with
        | true=>
          have hxy:=kW (uH HVV).2
          rw [(uH HVV).1] at hxy
          simp only [rv,Value.agg.injEq,Array.mk.injEq,List.cons.injEq,Value.int.injEq,and_true,true_and] at hxy
          rw [if_pos (uH HVV).2,←hxy.1,←hxy.2] at HST
          clear hxy HVV
          go_wp2
          go_roundw
          case rel=>exact ⟨k+1,x',y',by omega,by go_num,aA (by rw [←uH HST];exact uH HQ),aA (((uH A1).2.2.1.other _ _ _ (show w.heap.size≠w.heap.size+1 by omega)).other _ _ _ (show w.heap.size≠w.heap.size+1 by omega)),aA ((uH A1).2.1.set _ _),aA (yC (yC (uH A1).2.2.2 _ _ _ (show w.heap.size≤w.heap.size+1 by omega)) _ _ _ (show w.heap.size≤w.heap.size+1 by omega))⟩
          case measure=>simp [intOf];omega
        | false=>
          rw [if_neg (by rw [(uH HVV).2];simp)] at HST
          have hres:=(uH HST).symm.trans (uH HQ)
          simp only [Prod.mk.injEq] at hres
          obtain ⟨rfl,rfl,rfl⟩:=hres
          have k4:=(uH A1).2.2.1.s0 (.int .i64 0)
          have k5:=(uH A1).2.2.1.s1 (.int .i64 0) (.int .i64 0)
          have HB1:=aA (uH A1).2.2.2
          clear HST HS HVV
          go_wp2
          refine bodyPost_ret (v:=.tuple #[rv 0 0,.bool false]) (by simp [results,Tryz.results92,go_sem,k4,k5]) rfl ⟨rfl,?_⟩
          repeat (first | exact uH HB1 | refine yC ?_ _ _ _ (by omega))
    · have hres:(x,y,true)=(sx,sy,so):=by rw [←uH HQ,vS (by have:=uH HL;omega)]
      simp only [Prod.mk.injEq] at hres
      obtain ⟨rfl,rfl,rfl⟩:=hres
      have s0:=(uH HV1).c0
      have s1:=(uH HV1).c1
      have t0:=(uH HV0).c0
      have t1:=(uH HV0).c1
      have f0:=(uH HV0).f 0
      have f1:=(uH HV0).f 1
      have k4:=(uH HV0).s0 (.int .i64 x)
      have k5:=(uH HV0).s1 (.int .i64 x) (.int .i64 y)
      go_wp2
      refine bodyPost_ret (v:=.tuple #[rv x y,.bool true]) (by simp [results,Tryz.results92,go_sem,k4,k5]) rfl ⟨rfl,?_⟩
      repeat (first | exact uH HB | refine yC ?_ _ _ _ (by omega))
theorem wX (x:Sls) (s:St) (w:World) (h:bE w x.ma x.ml s.ms) (hl:x.ml≤1048576) :
  Calls Tryz.prog 96 #[sv x s] w fun e w'=>∃v,e=.returned v∧yZ w.heap.size w' v (aY s.ms)∧Below w.heap.size w w':=by
 obtain ⟨i0,hi,hz0,hz1,hz2⟩:=info_parts Tryz.infoR
 obtain ⟨qa,ql,qc,aa,al,ac,ma,ml,mc,ca,cl,cc⟩:=x
 obtain ⟨qs,clock,epoch,next,serial,apps,ms,cs⟩:=s
 simp only at h hl ⊢
 have HR:=aA h
 have HL:=aA h.1
 have HB0:=aA (iQ w #[.slice qa ql qc,.int .i64 clock,.int .i64 epoch,.int .i64 next,.int .i64 serial,.slice aa al ac,.slice ma ml mc,.slice ca cl cc])
 have P0:=aA (fD w #[.slice qa ql qc,.int .i64 clock,.int .i64 epoch,.int .i64 next,.int .i64 serial,.slice aa al ac,.slice ma ml mc,.slice ca cl cc])
 have HW:=aA (xY w #[.slice qa ql qc,.int .i64 clock,.int .i64 epoch,.int .i64 next,.int .i64 serial,.slice aa al ac,.slice ma ml mc,.slice ca cl cc])
 have HO0:=aA (rX (rU w #[.slice qa ql qc,.int .i64 clock,.int .i64 epoch,.int .i64 next,.int .i64 serial,.slice aa al ac,.slice ma ml mc,.slice ca cl cc]))
 obtain ⟨c,hc⟩:∃c:Array Value,#[.slice qa ql qc,.int .i64 clock,.int .i64 epoch,.int .i64 next,.int .i64 serial,.slice aa al ac,.slice ma ml mc,.slice ca cl cc]=c:=⟨_,rfl⟩
 rw [hc] at HB0 HW HO0
 have P0:=aA (show Blk (rU w c) w.heap.size #[.slice qa ql qc,.int .i64 clock,.int .i64 epoch,.int .i64 next,.int .i64 serial,.slice aa al ac,.slice ma ml mc,.slice ca cl cc] 34 by rw [hc];exact fD w c)
 have HC:=aA hc
 clear h hc
 go_enter Tryz.func96,Tryz.ntmps96
 go_wp2
 go_loopw [3,4] (fun v i wr=>∃(k:Nat),k≤ml∧i=.int .i64 k∧Hid (yZ (rU w c).heap.size wr v (aY (ms.take k)))∧Hid (Below (rU w c).heap.size (rU w c) wr)) (fun _ i _=>ml - (intOf i).toNat)
 case atStart=>
  obtain rfl:=uH HC
  have h1:=uH HW
  refine ⟨0,Nat.zero_le _,rfl,aA ?_,aA (yA (yH _ _) _)⟩
  have:=uH HO0
  rw [h1] at this
  rw [h1]
  exact this
 case round=>
  obtain ⟨k,hk,rfl,HO,HB⟩:=hrel
  have hn1:w.heap.size<(rU w c).heap.size:=by have:=uH HW;omega
  have p6:=Blk.at (show Blk wr w.heap.size _ 34 from ((uH HB).block _ hn1).trans (uH P0)) 6
  simp at p6
  by_cases hlt:k<ml
  ·obtain ⟨b,off,rfl,hq⟩:=(((uH HR).below (uH HB0)).below (uH HB)).at hlt
   have hkl:k<ms.length:=by have:=uH HL;omega
   have hst:=aA (xX hkl)
   obtain ⟨c0,c1,c2,c3⟩:=hq hkl
   obtain ⟨m,hs⟩:∃q,ms[k]=q:=⟨_,rfl⟩
   rw [hs] at c0 c1 c2 c3 hst
   have hal:(aY (ms.take k)).length≤1048576:=by simp [aY];omega
   obtain ⟨acc,hacc⟩:∃a,aY (ms.take k)=a:=⟨_,rfl⟩
   rw [hacc] at hst hal HO
   obtain ⟨nm,me,cp,se⟩:=m
   simp only at c0 c1 c2 c3 hst
   have hs2:(rU w c).heap.size≤wr.heap.size:=(uH HB).size
   have hown:wr.ownsRow (rU w c).heap.size 36 2 _ acc.length (gZ acc):=uH HO
   clear hq hs hkl hacc
   go_wp2_with (at_builtin;refine wpList_append_own _ rfl _ _ 141 rfl (rU w c).heap.size 36 i0 (.agg #[.int .i64 0,.int .i64 0]) 2 16 Tryz.underlying141 hi hz0 hz1 hz2 rfl (by decide) _ _ _ rfl (hown.alloc _) ⟨wr.heap.size,0,none⟩ 1 1 (zF (me,cp)) rfl rfl ?c1 ?c2 ?c3 ?c4 ?c5 ?_)
   case c1=>
    intro j x hj
    match j,hj with
    | 0,hj=>simp at hj;subst hj;simp [Addr.add]
    | 1,hj=>simp at hj;subst hj;simp [Addr.add]
    | _+2,hj=>simp at hj
   case c2=>intro x hx;simp at hx;rcases hx with rfl | rfl<;>rfl
   case c3=>unfold maxLen;omega
   case c4=>omega
   case c5=>simp at hs2 ⊢;omega
   intro v' w3 hown' hgrow _
   have R:=lM (q:=(me,cp)) (uH HB) (uH HO) hown' hgrow hs2
   have HR3:=aA R
   clear hown' hgrow hown c0 c1 c2 c3 R p6
   go_wp2
   go_roundw
   case rel=>exact ⟨k+1,by omega,by go_num,aA (by rw [uH hst];exact (uH HR3).1),aA (uH HR3).2⟩
   case measure=>simp [intOf];omega
  ·have htk:ms.take k=ms:=List.take_of_length_le (by have:=uH HL;omega)
   rw [htk] at HO
   go_wp2
   go_ret
   exact ⟨_,rfl,(uH HO).base (by omega),yB (uH HB0) (uH HB)⟩
theorem qD (x:Sls) (s:St) (w:World) (h:bE w x.ma x.ml s.ms) (hl:x.ml≤1048576) :
  Calls Tryz.prog 163 #[sv x s] w fun e w'=>e=.returned (rv (gX (aY s.ms)).1 (gX (aY s.ms)).2.1)∧Below w.heap.size w w':=by
 have hlc:(aY s.ms).length≤1048576:=by have:=h.1;simp [aY];omega
 have HR:=aA h
 clear h
 obtain ⟨⟨sx,sy,so⟩,hs⟩:∃y,gX (aY s.ms)=y:=⟨_,rfl⟩
 have CC:=aA (fun wx (hb:Below w.heap.size w wx)=>wX x s wx ((uH HR).below hb) hl)
 have CS:=aA (fun ao cap wx (h:aGd wx ao (aY s.ms).length (aY s.ms))=>by have:=lQ ao _ cap (aY s.ms) wx h hlc;rw [hs] at this;exact this)
 rw [hs]
 clear hs
 obtain ⟨qa,ql,qc,aa,al,ac,ma,ml,mc,ca,cl,cc⟩:=x
 obtain ⟨qs,clock,epoch,next,serial,apps,ms,cs⟩:=s
 simp only at CC CS hlc
 go_enter Tryz.func163,Tryz.ntmps163
 go_wp2_with fail
 refine (uH CC _ (cK w _)).mono ?_
 rintro e w1 ⟨v,rfl,ho,hb⟩
 obtain ⟨ao,cp,rfl,hrow,_⟩:=ho.row
 have V1:=(iF w _).below hb
 have HV1:=aA V1
 have HB1:=aA (yB (cK w _) hb)
 have HROW:=aA hrow
 obtain ⟨n,hn⟩:∃n,(aY ms).length=n:=⟨_,rfl⟩
 rw [hn] at CS HROW ⊢
 clear hb V1 CC ho hrow hn hlc
 go_wp2_with fail
 refine (uH CS _ _ _ (uH HROW)).mono ?_
 rintro e w2 ⟨rfl,hb⟩
 have V1:=(uH HV1).below hb
 have HB2:=aA (yB (uH HB1) hb)
 have V2:=V1.al (.cells #[.int .i64 sx,.int .i64 sy] 36)
 have t0:=V2.c0
 have t1:=V2.c1
 have f0:=V2.f 0
 have f1:=V2.f 1
 have VG:=V2.set sx sy
 have k6:=VG.c0
 have k7:=VG.c1
 clear hb V1 V2 VG CS HV1 HB1 HROW
 go_wp2
 refine bodyPost_ret (v:=rv sx sy) (by simp [results,Tryz.results163,go_sem,k6,k7]) rfl ⟨rfl,?_⟩
 repeat (first | exact uH HB2 | refine yA ?_ _ | refine yC ?_ _ _ _ (by omega))
def dY (s:St):Int×Int:=((gX (aY s.ms)).1,(gX (aY s.ms)).2.1)
theorem jC.ml {w:World} {x:Sls} {s:St} (h:jC w x s) (hf:bD s):x.ml≤1048576:=by have:=h.len.2.2.1;have:=hf.2.2.1.1;omega
theorem jC.al {w:World} {x:Sls} {s:St} (h:jC w x s) (hf:bD s):x.al≤1048576:=by have:=h.len.2.1;have:=hf.2.1.1;omega
theorem jC.ql {w:World} {x:Sls} {s:St} (h:jC w x s) (hf:bD s):x.ql≤1048576:=by have:=h.len.1;have:=hf.1.1;omega
abbrev aDH (m:Con):Obj:=.cells #[.int .i64 m.id,.int .i64 m.app,.string (bs m.node),.int .i64 m.mem,.int .i64 m.cpu] 38
theorem vF {p:Con→Bool} (l:List Con):(aJ p l).length≤l.length:=by simp [aJ];exact List.length_filter_le _ _
theorem aIm (g:Nat) (lb:Array Value) (eg:∀args w,(callFunc g args).run Tryz.prog w=.ok (.enter g args) w) (p:Con→Bool) (x:Sls) (s:St) (w:World) (h:bC w x.ca x.cl s.cs) (hl:x.cl≤1048576)
  (hp:∀wx q,Below w.heap.size w wx→Calls Tryz.prog g (#[conv q]++lb) wx fun e w'=>e=.returned (.bool (p q))∧Below wx.heap.size wx w') :
  Calls Tryz.prog 187 #[sv x s,.func (.func g) #[] lb] w fun e w'=>e=.returned (rv (gX (aJ p s.cs)).1 (gX (aJ p s.cs)).2.1)∧Below w.heap.size w w':=by
 obtain ⟨i0,hi,hz0,hz1,hz2⟩:=info_parts Tryz.infoR
 obtain ⟨qa,ql,qc,aa,al,ac,ma,ml,mc,ca,cl,cc⟩:=x
 obtain ⟨qs,clock,epoch,next,serial,apps,ms,cs⟩:=s
 simp only at h hl ⊢
 have HR:=aA h
 have HL:=aA h.1
 have HP:=aA hp
 obtain ⟨c,hc⟩:∃c:Array Value,#[.slice qa ql qc,.int .i64 clock,.int .i64 epoch,.int .i64 next,.int .i64 serial,.slice aa al ac,.slice ma ml mc,.slice ca cl cc]=c:=⟨_,rfl⟩
 have HC:=aA hc
 have HB0:=aA (cK w c)
 have V0:=aA (iF w c)
 have HW:=aA (rP w c)
 clear h hc hp
 obtain ⟨⟨sx,sy,so⟩,hs⟩:∃s,gX (aJ p cs)=s:=⟨_,rfl⟩
 have HS:=aA hs
 rw [hs]
 clear hs
 go_enter Tryz.func187,Tryz.ntmps187
 go_wp2
 go_loopw [5,13] (fun v i wr=>∃(k:Nat),k≤cl∧i=.int .i64 k∧Hid (yZ (sQ w c).heap.size wr v (aJ p (cs.take k)))∧Hid (Below (sQ w c).heap.size (sQ w c) wr)) (fun _ i _=>cl - (intOf i).toNat)
 case atStart=>
  obtain rfl:=uH HC
  exact ⟨0,Nat.zero_le _,rfl,aA (by simpa [aJ] using aBG _ _),aA (yH _ _)⟩
 case round=>
  obtain ⟨k,hk,rfl,HO,HB⟩:=hrel
  by_cases hlt:k<cl
  ·obtain ⟨b,off,rfl,hq⟩:=(((uH HR).below (uH HB0)).below (uH HB)).at hlt
   have hkl:k<cs.length:=by have:=uH HL;omega
   have hst:=nW (p:=p) hkl
   obtain ⟨c0,c1,c2,c3,c4⟩:=hq hkl
   obtain ⟨m,hs⟩:∃q,cs[k]=q:=⟨_,rfl⟩
   rw [hs] at c0 c1 c2 c3 c4 hst
   have hal:(aJ p (cs.take k)).length≤1048576:=by have:=vF (p:=p) (cs.take k);simp at this;omega
   obtain ⟨acc,hacc⟩:∃a,aJ p (cs.take k)=a:=⟨_,rfl⟩
   rw [hacc] at hst hal HO
   obtain ⟨id,ap,nd,me,cp⟩:=m
   simp only at c0 c1 c2 c3 c4 hst
   have HBA:=aA (yA (yH _ wr) (aDH ⟨id,ap,nd,me,cp⟩))
   have HCL:=aA (uH HP (wr.alloc (aDH ⟨id,ap,nd,me,cp⟩)) ⟨id,ap,nd,me,cp⟩ (yB (yB (uH HB0) (uH HB)) (uH HBA)))
   have KB:=aA (yD wr #[.int .i64 id,.int .i64 ap,.string (bs nd),.int .i64 me,.int .i64 cp] 38)
   clear hq hs hkl hacc
   cases hpq:p ⟨id,ap,nd,me,cp⟩ with
   | true=>
    rw [hpq] at HCL
    rw [hpq,if_pos rfl] at hst
    have HST:=aA hst
    clear hpq hst
    go_wp2_with (first
     | (go_at_fn g;refine (uH HCL).mono ?_;rintro e w1 ⟨rfl,hb⟩;have HB1:=aA (yB (yB (uH HB) (uH HBA)) hb);have HO1:=aA (((uH HO).below (uH HBA)).below hb);have b1:=(uH KB).below hb;have q3:=b1.at 3;have q4:=b1.at 4;simp at q3 q4;have hs2:(sQ w c).heap.size≤w1.heap.size:=(uH HB1).size;have hown:w1.ownsRow (sQ w c).heap.size 36 2 _ acc.length (gZ acc):=uH HO1;clear b1 hb HCL c0 c1 c2 c3 c4 HO HB)
     | (at_builtin;refine wpList_append_own _ rfl _ _ 141 rfl (sQ w c).heap.size 36 i0 (.agg #[.int .i64 0,.int .i64 0]) 2 16 Tryz.underlying141 hi hz0 hz1 hz2 rfl (by decide) _ _ _ rfl (hown.alloc _) ⟨w1.heap.size,0,none⟩ 1 1 (zF (me,cp)) rfl rfl ?c1 ?c2 ?c3 ?c4 ?c5 ?_))
    case c1=>
     intro j x hj
     match j,hj with
     | 0,hj=>simp at hj;subst hj;simp [Addr.add]
     | 1,hj=>simp at hj;subst hj;simp [Addr.add]
     | _+2,hj=>simp at hj
    case c2=>intro x hx;simp at hx;rcases hx with rfl | rfl<;>rfl
    case c3=>unfold maxLen;omega
    case c4=>omega
    case c5=>simp at hs2 ⊢;omega
    intro v' w3 hown' hgrow _
    have R:=lM (q:=(me,cp)) (uH HB1) (uH HO1) hown' hgrow hs2
    have HR3:=aA R
    clear hown' hgrow hown R q3 q4
    go_wp2
    go_roundw
    case rel=>exact ⟨k+1,by omega,by go_num,aA (by rw [uH HST];exact (uH HR3).1),aA (uH HR3).2⟩
    case measure=>simp [intOf];omega
   | false=>
    rw [hpq] at HCL
    rw [hpq,if_neg (by simp)] at hst
    have HST:=aA hst
    clear hpq hst
    go_wp2_with (go_at_fn g;refine (uH HCL).mono ?_;rintro e w1 ⟨rfl,hb⟩;have HB1:=aA (yB (yB (uH HB) (uH HBA)) hb);have HO1:=aA (((uH HO).below (uH HBA)).below hb);clear hb HCL c0 c1 c2 c3 c4 HO HB)
    go_roundw
    case rel=>exact ⟨k+1,by omega,by go_num,aA (by rw [uH HST];exact uH HO1),HB1⟩
    case measure=>simp [intOf];omega
  ·have htk:cs.take k=cs:=List.take_of_length_le (by have:=uH HL;omega)
   rw [htk] at HO
   obtain ⟨ao,cp,rfl,hrow,hcp⟩:=(uH HO).row
   have hlc:(aJ p cs).length≤1048576:=by have:=vF (p:=p) cs;have:=uH HL;omega
   have CT:=aA (nI ao _ cp (aJ p cs) wr hrow hlc)
   rw [uH HS] at CT
   obtain ⟨n,hn⟩:∃n,(aJ p cs).length=n:=⟨_,rfl⟩
   rw [hn] at CT ⊢
   clear hrow hn htk hcp hlc HO
   go_wp2_with fail
   refine (uH CT).mono ?_
   rintro e w1 ⟨rfl,hb⟩
   have hsz:w.heap.size+1<(sQ w c).heap.size:=by have:=uH HW;omega
   have V1:Var w1 36 (w.heap.size+1) 0 0:=Var.below ((uH HB).block _ hsz |>.trans (uH V0)) hb
   have HB1:=aA (yB (yB (uH HB0) (uH HB)) hb)
   have V2:=V1.al (.cells #[.int .i64 sx,.int .i64 sy] 36)
   have t0:=V2.c0
   have t1:=V2.c1
   have f0:=V2.f 0
   have f1:=V2.f 1
   have VG:=V2.set sx sy
   have k6:=VG.c0
   have k7:=VG.c1
   clear hb V1 V2 VG CT HB HB0
   go_wp2
   refine bodyPost_ret (v:=rv sx sy) (by simp [results,Tryz.results187,go_sem,k6,k7]) rfl ⟨rfl,?_⟩
   repeat (first | exact uH HB1 | refine yA ?_ _ | refine yC ?_ _ _ _ (by omega))
end
section
open Go.RowKit Go.Shelf
attribute [local go_sem] Oper.semAt_some
abbrev NAV:={ m:AV // (Lit.int .i64 m.id).wf=true }
theorem fA.kpa {W W':World} {ao:Option Addr} {len:Nat} {l:List AV} (h:fA W ao len l) (k:KpA W W'):fA W' ao len l:=by
 obtain ⟨h1,h2⟩:=h
 refine ⟨h1,?_⟩
 rcases h2 with h2 | ⟨b,off,h3,h4⟩
 ·exact .inl h2
 ·exact .inr ⟨b,off,h3,fun i hi=>let ⟨a,b,c⟩:=h4 i hi;⟨k.cell a,k.cell b,k.cell c⟩⟩
theorem aG2 (n l Bs len cap:Nat) (ao:Option Addr) (ms:List AV) (J Jx:List (Int×NAV)→World→Prop)
  (hY:∀pre x W1,J pre W1→pre.length<ms.length→YieldAt Fence.wide (n - 1) Tryz.prog l #[.int .i64 x.1,avv x.2.1] W1 fun e W'=>
   (e=.returned (.bool true)∧J (pre++[x]) W'∧KpA W1 W')∨(e=.returned (.bool false)∧Jx (pre++[x]) W'))
  (W:World) (hBs:W.cell? ⟨Bs,0,none⟩=some (.slice ao len cap)) (hg:fA W ao len ms) (hl:len≤1048576) (hN:∀m ∈ ms,(Lit.int .i64 m.id).wf=true) (h0:J [] W) :
  CallsIn Fence.wide n Tryz.prog 182 #[.func (.yield l) #[] #[],.pointer (some ⟨Bs,0,none⟩)] W fun e W'=>(∃v,e=.returned v)∧
   ((∃ys:List (Int×NAV),Hid (ys.map (fun x:Int×NAV=>x.2.1)=ms.reverse)∧J ys W')∨(∃pre,Jx pre W')):=by
 have HY:=aA hY
 have HBs:=aA hBs
 have HG:=aA hg
 have HLEN:=aA hg.1
 have H0:=aA h0
 have HNN:=aA hN
 clear hY hg h0 hN
 refine callsIn_of_wp Tryz.func182 rfl trivial ?_ rfl
 simp only [Tryz.ntmps182,List.size_toArray,List.length_cons,List.length_nil,Nat.reduceAdd,Nat.reduceSub,Array.replicate_succ,Array.replicate_zero,List.push_toArray,List.append_toArray,List.nil_append,List.cons_append]
 gi_wp2
 clear hBs
 gi_loopw [3] (fun i wr=>∃(k:Nat) (pre:List (Int×NAV)),k≤len∧i=.int .i64 ((k:Int) - 1)∧Hid (pre.length+k=ms.length)∧Hid (pre.map (fun x:Int×NAV=>x.2.1)=(ms.drop k).reverse)∧Hid (J pre wr)∧Hid (wr.cell? ⟨Bs,0,none⟩=some (.slice ao len cap))∧Hid (fA wr ao len ms)) (fun i _=>(intOf i+1).toNat)
 case atStart=>exact ⟨len,[],yJ _,by go_num,aA (by have:=uH HLEN;simp;omega),aA (by rw [List.drop_of_length_le (by have:=uH HLEN;omega)];rfl),H0,HBs,HG⟩
 case round=>
  obtain ⟨k,pre,hk,rfl,HL,HM,HJ,HB,HGr⟩:=hrel
  cases k with
  | zero=>
   gi_wp2
   go_end0
   exact ⟨⟨_,rfl⟩,.inl ⟨pre,aA (by rw [uH HM];rfl),uH HJ⟩⟩
  | succ j=>
   have hj:j<len:=by omega
   obtain ⟨b,off,rfl,hq⟩:=(uH HGr).at hj
   have hjm:j<ms.length:=by have:=uH HLEN;omega
   obtain ⟨c0,c1,c2⟩:=hq hjm
   have hbox:=uH HB
   have hel:=uH HNN ms[j] (yM _)
   obtain ⟨fn,tmps,assign,body,hy,hR⟩:=uH HY pre ((j:Int),⟨ms[j],hel⟩) wr (uH HJ) (by have:=uH HL;omega)
   have HRR:=aA hR
   have HM2:=aA (show (pre++[((j:Int),(⟨ms[j],hel⟩:NAV))]).map (fun x:Int×NAV=>x.2.1)=(ms.drop j).reverse by rw [List.map_append,uH HM,List.drop_eq_getElem_cons hjm,List.reverse_cons];rfl)
   have hij:((j+1:Nat):Int) - 1=(j:Int):=by omega
   obtain ⟨y,hyy⟩:∃y:NAV,(⟨ms[j],hel⟩:NAV)=y:=⟨_,rfl⟩
   have hy1:ms[j]=y.1:=by rw [←hyy]
   rw [hyy] at hy HRR HM2
   rw [hy1] at c0 c1 c2
   obtain ⟨⟨id,qu,zo,zl,zc⟩,hyn⟩:=y
   simp only at hy c0 c1 c2
   rw [hij]
   have j0:(0:Int)≤j:=by omega
   have j1:(j:Int)<len:=by omega
   clear hR hyy hy1 hij HM hq hjm hel
   gi_wp2
   refine ⟨(by intro e;cases e),?_⟩
   refine (uH HRR).mono ?_
   rintro e W3 (⟨rfl,hJ3,hk3⟩ | ⟨rfl,hJx3⟩)
   ·have HB3:=aA (hk3.cell (uH HB))
    have HG3:=aA ((uH HGr).kpa hk3)
    have HJ3:=aA hJ3
    clear hk3 hJ3 hbox hy HRR c0 c1 c2
    gi_wp2
    go_roundw
    case rel=>exact ⟨j,pre++[((j:Int),⟨⟨id,qu,zo,zl,zc⟩,hyn⟩)],by omega,by go_num,aA (by have:=uH HL;simp;omega),HM2,HJ3,HB3,HG3⟩
    case measure=>simp [intOf]
   ·gi_wp2
    refine bodyPost_ret (results_none rfl _ _ _) rfl ?_
    exact ⟨⟨_,rfl⟩,.inr ⟨_,hJx3⟩⟩
theorem aE5 (n Bs len cap:Nat) (ao:Option Addr) (ms:List AV) (w:World) (hBs:w.cell? ⟨Bs,0,none⟩=some (.slice ao len cap)) (hrow:fA w ao len ms) (hl:len≤1048576) (hN:∀m ∈ ms,(Lit.int .i64 m.id).wf=true) :
  SeqStopsK Fence.wide n Tryz.prog 182 #[.pointer (some ⟨Bs,0,none⟩)] (fun x:Int×NAV=>#[.int .i64 x.1,avv x.2.1]) KpA (fun ys=>Hid (ys.map (fun x:Int×NAV=>x.2.1)=ms.reverse)) (fun _=>True) ms.length w:=by
 intro l J Jx W hW hJ hJx hY h0
 refine (aG2 n l Bs len cap ao ms J Jx hY W ((hW.cell (yG hBs)).trans hBs) (hrow.below hW) hl hN h0).mono ?_
 rintro e W' ⟨he,⟨ys,h1,h2⟩ | ⟨pre,h2⟩⟩
 ·exact ⟨he,.inl ⟨ys,h1,h2⟩⟩
 ·exact ⟨he,.inr ⟨pre,trivial,h2⟩⟩
theorem aIV (v:Value) (w:World) (hv:v.oneCell'=true) :
  Calls Tryz.prog 151 #[v] w fun e w'=>e=.returned (.func (.func 182) #[] #[.pointer (some ⟨w.heap.size,0,none⟩)])∧w.alloc (.cells #[v] 30)=w':=by
 have hmf:∀(fn:Fn) (first cap:Array Value) (w:World),(Instr.makeFunc fn first cap).run Tryz.prog w=.ok (.func fn first cap) w:=fun _ _ _ _=>rfl
 go_enter Tryz.func151,Tryz.ntmps151
 go_wp2
 go_ret
 exact ⟨rfl,rfl⟩
theorem aG7 (m:AV) (w:World) :
  Calls Tryz.prog 152 #[avv m] w fun e w'=>e=.returned (.agg #[.string (bs []),.int .i64 m.id])∧Below w.heap.size w w':=by
 obtain ⟨id,qu,zo,zl,zc⟩:=m
 go_enter Tryz.func152,Tryz.ntmps152
 go_wp2
 refine bodyPost_ret (v:=.agg #[.string (bs []),.int .i64 id]) (by simp [results,Tryz.results152,go_sem];rfl) rfl ⟨rfl,?_⟩
 repeat (first | exact yH _ _ | refine yA ?_ _ | refine Below.drew ?_ | refine yC ?_ _ _ _ (by omega))
end
section
open Go.RowKit
theorem aJD (B:Nat) (nm:List UInt8) (q:Con) (w:World) (hc:w.cell? ⟨B,0,none⟩=some (.string (bs nm))) :
  Calls Tryz.prog 188 #[conv q,.pointer (some ⟨B,0,none⟩)] w fun e w'=>e=.returned (.bool (decide (q.node=nm)))∧Below w.heap.size w w':=by
 have hlt:=yG hc
 have hc2:(w.alloc (aDH q)).cell? ⟨B,0,none⟩=some (.string (bs nm)):=by rw [World.cell?_alloc_lt _ _ ⟨B,0,none⟩ hlt];exact hc
 have hbe:=nS q.node nm
 clear hc hlt
 go_enter Tryz.func188,Tryz.ntmps188
 go_wp2
 go_ret
 exact ⟨rfl,yA (yH _ _) _⟩
def aH1 (nm:List UInt8) (q:Con):Bool:=decide (q.node=nm)
def fV (s:St) (nm:List UInt8):Int×Int:=((gX (aJ (aH1 nm) s.cs)).1,(gX (aJ (aH1 nm) s.cs)).2.1)
def onW (w:World) (c:Array Value) (nm:List UInt8):World:=((w.alloc (.cells c 34)).alloc (.cells #[.string (bs nm)] 9)).alloc (.cells #[.int .i64 0,.int .i64 0] 36)
theorem aCR (w:World) (c:Array Value) (nm:List UInt8):Below w.heap.size w (onW w c nm):=yA (yA (yA (yH _ w) _) _) _
theorem aEu (w:World) (c:Array Value) (nm:List UInt8):(onW w c nm).cell? ⟨w.heap.size+1,0,none⟩=some (.string (bs nm)):=by
 have:=((yD (w.alloc (.cells c 34)) #[.string (bs nm)] 9).al (.cells #[.int .i64 0,.int .i64 0] 36)).at 0
 rw [yE] at this
 exact this
theorem aKO (w:World) (c:Array Value) (nm:List UInt8):Var (onW w c nm) 36 (w.heap.size+1+1) 0 0:=by
 have:=aH ((w.alloc (.cells c 34)).alloc (.cells #[.string (bs nm)] 9)) 36 0 0
 rwa [yE,yE] at this
theorem zQ (x:Sls) (s:St) (nm:List UInt8) (w:World) (h:bC w x.ca x.cl s.cs) (hl:x.cl≤1048576) :
  Calls Tryz.prog 166 #[sv x s,.string (bs nm)] w fun e w'=>e=.returned (rv (fV s nm).1 (fV s nm).2)∧Below w.heap.size w w':=by
 have hmf:∀(fn:Fn) (first cap:Array Value) (w:World),(Instr.makeFunc fn first cap).run Tryz.prog w=.ok (.func fn first cap) w:=fun _ _ _ _=>rfl
 obtain ⟨⟨sx,sy⟩,hs⟩:∃s',fV s nm=s':=⟨_,rfl⟩
 have h1:=congrArg Prod.fst hs
 have h2:=congrArg Prod.snd hs
 simp only [fV] at h1 h2
 have CU:=aA (by
  have:=aIm 188 #[.pointer (some ⟨w.heap.size+1,0,none⟩)] (enters_of Tryz.func188 (by kernel_rfl) rfl) (aH1 nm) x s (onW w (svc x s) nm) (h.below (aCR w _ nm)) hl
   (fun wy q hy=>aJD (w.heap.size+1) nm q wy ((hy.cell (p:=⟨w.heap.size+1,0,none⟩) (yG (aEu w _ nm))).trans (aEu w _ nm)))
  rw [h1,h2] at this
  exact this)
 rw [hs]
 clear hs h1 h2 h
 obtain ⟨qa,ql,qc,aa,al,ac,ma,ml,mc,ca,cl,cc⟩:=x
 obtain ⟨qs,clock,epoch,next,serial,apps,ms,cs⟩:=s
 go_enter Tryz.func166,Tryz.ntmps166
 go_wp2_with fail
 refine (uH CU).mono ?_
 rintro e w1 ⟨rfl,hb⟩
 have V1:=(aKO w _ nm).below hb
 have HB1:=aA (yB (aCR w _ nm) hb)
 have t0:=V1.c0
 have t1:=V1.c1
 have f0:=V1.f 0
 have f1:=V1.f 1
 have VG:=V1.set sx sy
 have k6:=VG.c0
 have k7:=VG.c1
 clear hb V1 VG CU
 go_wp2
 refine bodyPost_ret (v:=rv sx sy) (by simp [results,Tryz.results166,go_sem,k6,k7]) rfl ⟨rfl,?_⟩
 repeat (first | exact uH HB1 | refine yA ?_ _ | refine yC ?_ _ _ _ (by omega))
end
section
open Go.RowKit Go.Maps
def aCc (a b c d:Int):Int×Int:=if aI (-1) a b c d then (a + -1*c,b + -1*d) else (0,0)
theorem aCb (a b c d:Int):jQ (-1) a b c d=rv (aCc a b c d).1 (aCc a b c d).2:=by
 cases h:aI (-1) a b c d
 ·rw [kL h,aCc,h];rfl
 ·rw [kW h,aCc,h];rfl
def fI (s:St) (nm:List UInt8):Int×Int:=match bF nm s.ms with
 | none=>(0,0)
 | some m=>aCc m.mem m.cpu (fV s nm).1 (fV s nm).2
end
section
open Go.RowKit
def mG (a b:Int):Bool:=aL a b&&!(decide (a=0)&&decide (b=0))
theorem qH (a b:Int) (w:World) :
  Calls Tryz.prog 124 #[rv a b] w fun e w'=>e=.returned (.bool (mG a b))∧Below w.heap.size w w':=by
 have HB0:=aA (yA (yH _ w) (.cells #[.int .i64 a,.int .i64 b] 36))
 have P0:=aA (yD w #[.int .i64 a,.int .i64 b] 36)
 obtain ⟨r,hr⟩:∃r,aL a b=r:=⟨_,rfl⟩
 have C:=aA (fun wx=>by have:=aJt a b wx;rw [hr] at this;exact this)
 have HS:=aA (show mG a b=(r&&!(decide (a=0)&&decide (b=0))) by rw [mG,hr])
 obtain ⟨o,ho⟩:∃o,mG a b=o:=⟨_,rfl⟩
 rw [ho] at HS ⊢
 clear hr ho
 go_enter Tryz.func124,Tryz.ntmps124
 go_wp2_with fail
 refine (uH C _).mono ?_
 rintro e w1 ⟨rfl,hb⟩
 have HB1:=aA (yB (uH HB0) hb)
 have P1:=(uH P0).below hb
 have p0:=P1.at 0
 have p1:=P1.at 1
 simp at p0 p1
 clear hb P1 P0 HB0 C
 cases r with
 | false=>
  go_wp2
  go_ret
  exact ⟨yF (by rw [uH HS];simp),uH HB1⟩
 | true=>
  by_cases ha:a=0
  ·by_cases hbz:b=0
   ·subst ha hbz
    go_wp2
    go_ret
    exact ⟨yF (by rw [uH HS];simp),uH HB1⟩
   ·subst ha
    go_wp2
    go_ret
    exact ⟨yF (by rw [uH HS];simp [hbz]),uH HB1⟩
  ·go_wp2
   go_ret
   exact ⟨yF (by rw [uH HS];simp [ha]),uH HB1⟩
theorem lJ (a b:Int) (w:World) :
  Calls Tryz.prog 94 #[rv a b] w fun e w'=>e=.returned (.bool (aL a b))∧Below w.heap.size w w':=
 (aQ a b w).mono fun e w' h=>⟨h.1,by rw [h.2];exact yA (yH _ _) _⟩
theorem kH (a b:Int) (w:World) :
  Calls Tryz.prog 56 #[rv a b] w fun e w'=>e=.returned (.bool (mG a b))∧Below w.heap.size w w':=by
 have HB0:=aA (yA (yH _ w) (.cells #[.int .i64 a,.int .i64 b] 36))
 have P0:=aA (yD w #[.int .i64 a,.int .i64 b] 36)
 obtain ⟨r,hr⟩:∃r,aL a b=r:=⟨_,rfl⟩
 have C:=aA (fun wx=>by have:=lJ a b wx;rw [hr] at this;exact this)
 have HS:=aA (show mG a b=(r&&!(decide (a=0)&&decide (b=0))) by rw [mG,hr])
 obtain ⟨o,ho⟩:∃o,mG a b=o:=⟨_,rfl⟩
 rw [ho] at HS ⊢
 clear hr ho
 go_enter Tryz.func56,Tryz.ntmps56
 go_wp2_with fail
 refine (uH C _).mono ?_
 rintro e w1 ⟨rfl,hb⟩
 have HB1:=aA (yB (uH HB0) hb)
 have P1:=(uH P0).below hb
 have p0:=P1.at 0
 have p1:=P1.at 1
 simp at p0 p1
 clear hb P1 P0 HB0 C
 cases r with
 | false=>
  go_wp2
  go_ret
  exact ⟨yF (by rw [uH HS];simp),uH HB1⟩
 | true=>
  by_cases ha:a=0
  ·by_cases hbz:b=0
   ·subst ha hbz
    go_wp2
    go_ret
    exact ⟨yF (by rw [uH HS];simp),uH HB1⟩
   ·subst ha
    go_wp2
    go_ret
    exact ⟨yF (by rw [uH HS];simp [hbz]),uH HB1⟩
  ·go_wp2
   go_ret
   exact ⟨yF (by rw [uH HS];simp [ha]),uH HB1⟩
def fK (q:Ask):Bool:=mG q.mem q.cpu&&(inB q.count 1 1000&&((decide (q.node=[])||bJ q.node)&&inB q.missed 0 1000))
theorem aIY (q:Ask) (w:World) (hn:q.node.length≤1048576) :
  Calls Tryz.prog 148 #[aDU q] w fun e w'=>e=.returned (.bool (fK q))∧Below w.heap.size w w':=by
 obtain ⟨x0,x1,ct,nd,ms⟩:=q
 simp only at hn
 have HB0:=aA (yA (yH _ w) (.cells #[.int .i64 x0,.int .i64 x1,.int .i64 ct,.string (bs nd),.int .i64 ms] 77))
 have P0:=aA (yD w #[.int .i64 x0,.int .i64 x1,.int .i64 ct,.string (bs nd),.int .i64 ms] 77)
 obtain ⟨sm,hsm⟩:∃r,mG x0 x1=r:=⟨_,rfl⟩
 obtain ⟨nk,hnk⟩:∃r,bJ nd=r:=⟨_,rfl⟩
 have C:=aA (fun wx=>by have:=qH x0 x1 wx;rw [hsm] at this;exact this)
 have CN:=aA (fun wx=>by have:=lF (bs nd) wx (by rw [dI];exact hn);rw [show bJ (bs nd).data.toList=nk by rw [←hnk];simp [bs]] at this;exact this)
 have HS:=aA (show fK ⟨x0,x1,ct,nd,ms⟩=(sm&&(inB ct 1 1000&&((decide (nd=[])||nk)&&inB ms 0 1000))) by rw [fK];simp only [hsm,hnk])
 obtain ⟨o,ho⟩:∃o,fK ⟨x0,x1,ct,nd,ms⟩=o:=⟨_,rfl⟩
 have hbz:=nA nd
 rw [ho] at HS ⊢
 clear hsm hnk ho hn
 go_enter Tryz.func148,Tryz.ntmps148
 go_wp2_with fail
 refine (uH C _).mono ?_
 rintro e w1 ⟨rfl,hb⟩
 have HB1:=aA (yB (uH HB0) hb)
 have P1:=(uH P0).below hb
 have p2:=P1.at 2
 have p3:=P1.at 3
 have p4:=P1.at 4
 simp at p2 p3 p4
 clear hb P1 P0 HB0 C
 cases sm with
 | false=>
  go_wp2
  go_ret
  exact ⟨yF (by rw [uH HS];simp),uH HB1⟩
 | true=>
 by_cases h1:1≤ct
 case neg=>
  go_wp2
  go_ret
  exact ⟨yF (by rw [uH HS,bK (by omega)];simp),uH HB1⟩
 by_cases h2:ct≤1000
 case neg=>
  go_wp2
  go_ret
  exact ⟨yF (by rw [uH HS,bK (by omega)];simp),uH HB1⟩
 by_cases hz:nd=[]
 ·rw [decide_eq_true hz] at hbz HS
  clear hz
  by_cases m1:0≤ms
  case neg=>
   go_wp2
   go_ret
   exact ⟨yF (by rw [uH HS,bZ h1 h2,bK (by omega)];simp),uH HB1⟩
  by_cases m2:ms≤1000
  case neg=>
   go_wp2
   go_ret
   exact ⟨yF (by rw [uH HS,bZ h1 h2,bK (x:=ms) (by omega)];simp;omega),uH HB1⟩
  go_wp2
  go_ret
  exact ⟨yF (by rw [uH HS,bZ h1 h2,bZ m1 m2];simp),uH HB1⟩
 ·rw [decide_eq_false hz] at hbz HS
  clear hz
  go_wp2_with fail
  refine (uH CN _).mono ?_
  rintro e w2 ⟨rfl,rfl⟩
  clear CN
  cases nk with
  | false=>
   go_wp2
   go_ret
   exact ⟨yF (by rw [uH HS];simp),uH HB1⟩
  | true=>
  by_cases m1:0≤ms
  case neg=>
   go_wp2
   go_ret
   exact ⟨yF (by rw [uH HS,bZ h1 h2,bK (by omega)];simp),uH HB1⟩
  by_cases m2:ms≤1000
  case neg=>
   go_wp2
   go_ret
   exact ⟨yF (by rw [uH HS,bZ h1 h2,bK (by omega)];simp;omega),uH HB1⟩
  go_wp2
  go_ret
  exact ⟨yF (by rw [uH HS,bZ h1 h2,bZ m1 m2];simp),uH HB1⟩
theorem aA8 (q:Ask) (w:World) (hn:q.node.length≤1048576) :
  Calls Tryz.prog 91 #[aDU q] w fun e w'=>e=.returned (.bool (fK q))∧Below w.heap.size w w':=by
 obtain ⟨x0,x1,ct,nd,ms⟩:=q
 simp only at hn
 have HB0:=aA (yA (yH _ w) (.cells #[.int .i64 x0,.int .i64 x1,.int .i64 ct,.string (bs nd),.int .i64 ms] 77))
 have P0:=aA (yD w #[.int .i64 x0,.int .i64 x1,.int .i64 ct,.string (bs nd),.int .i64 ms] 77)
 obtain ⟨sm,hsm⟩:∃r,mG x0 x1=r:=⟨_,rfl⟩
 obtain ⟨nk,hnk⟩:∃r,bJ nd=r:=⟨_,rfl⟩
 obtain ⟨ic,hic⟩:∃r,inB ct 1 1000=r:=⟨_,rfl⟩
 obtain ⟨im,him⟩:∃r,inB ms 0 1000=r:=⟨_,rfl⟩
 have C:=aA (fun wx=>by have:=kH x0 x1 wx;rw [hsm] at this;exact this)
 have CN:=aA (fun wx=>by have:=lC (bs nd) wx (by rw [dI];exact hn);rw [show bJ (bs nd).data.toList=nk by rw [←hnk];simp [bs]] at this;exact this)
 have CC:=aA (fun wx=>by have:=aM ct 1 1000 wx;rw [hic] at this;exact this)
 have CD:=aA (fun wx=>by have:=aM ms 0 1000 wx;rw [him] at this;exact this)
 have HS:=aA (show fK ⟨x0,x1,ct,nd,ms⟩=(sm&&(ic&&((decide (nd=[])||nk)&&im))) by rw [fK];simp only [hsm,hnk,hic,him])
 obtain ⟨o,ho⟩:∃o,fK ⟨x0,x1,ct,nd,ms⟩=o:=⟨_,rfl⟩
 have hbz:=nA nd
 rw [ho] at HS ⊢
 clear hsm hnk ho hn hic him
 go_enter Tryz.func91,Tryz.ntmps91
 go_wp2_with fail
 refine (uH C _).mono ?_
 rintro e w1 ⟨rfl,hb⟩
 have HB1:=aA (yB (uH HB0) hb)
 have P1:=(uH P0).below hb
 have p2:=P1.at 2
 have p3:=P1.at 3
 have p4:=P1.at 4
 simp at p2 p3 p4
 clear hb P1 P0 HB0 C
 cases sm with
 | false=>
  go_wp2
  go_ret
  exact ⟨yF (by rw [uH HS];simp),uH HB1⟩
 | true=>
 go_wp2_with fail
 refine (uH CC _).mono ?_
 rintro e w2 ⟨rfl,rfl⟩
 clear CC
 cases ic with
 | false=>
  go_wp2
  go_ret
  exact ⟨yF (by rw [uH HS];simp),uH HB1⟩
 | true=>
 by_cases hz:nd=[]
 ·rw [decide_eq_true hz] at hbz HS
  clear hz CN
  go_wp2_with fail
  refine (uH CD _).mono ?_
  rintro e w3 ⟨rfl,rfl⟩
  clear CD
  go_wp2
  go_ret
  exact ⟨yF (by rw [uH HS];simp),uH HB1⟩
 ·rw [decide_eq_false hz] at hbz HS
  clear hz
  go_wp2_with fail
  refine (uH CN _).mono ?_
  rintro e w3 ⟨rfl,rfl⟩
  clear CN
  cases nk with
  | false=>
   go_wp2
   go_ret
   exact ⟨yF (by rw [uH HS];simp),uH HB1⟩
  | true=>
  go_wp2_with fail
  refine (uH CD _).mono ?_
  rintro e w4 ⟨rfl,rfl⟩
  clear CD
  go_wp2
  go_ret
  exact ⟨yF (by rw [uH HS];simp),uH HB1⟩
theorem aCh (x:Sls) (s:St) (nd:List UInt8) (w:World) (h:bC w x.ca x.cl s.cs) (hl:x.cl≤1048576) :
  Calls Tryz.prog 93 #[sv x s,.string (bs nd)] w fun e w'=>∃v,e=.returned v∧yZ w.heap.size w' v (aJ (fun q=>decide (q.node=nd)) s.cs)∧Below w.heap.size w w':=by
 obtain ⟨i0,hi,hz0,hz1,hz2⟩:=info_parts Tryz.infoR
 obtain ⟨qa,ql,qc,aa,al,ac,ma,ml,mc,ca,cl,cc⟩:=x
 obtain ⟨qs,clock,epoch,next,serial,apps,ms,cs⟩:=s
 simp only at h hl ⊢
 have HR:=aA h
 have HL:=aA h.1
 have HB0:=aA (iQ w #[.slice qa ql qc,.int .i64 clock,.int .i64 epoch,.int .i64 next,.int .i64 serial,.slice aa al ac,.slice ma ml mc,.slice ca cl cc])
 have P0:=aA (fD w #[.slice qa ql qc,.int .i64 clock,.int .i64 epoch,.int .i64 next,.int .i64 serial,.slice aa al ac,.slice ma ml mc,.slice ca cl cc])
 have HW:=aA (xY w #[.slice qa ql qc,.int .i64 clock,.int .i64 epoch,.int .i64 next,.int .i64 serial,.slice aa al ac,.slice ma ml mc,.slice ca cl cc])
 have HO0:=aA (rX (rU w #[.slice qa ql qc,.int .i64 clock,.int .i64 epoch,.int .i64 next,.int .i64 serial,.slice aa al ac,.slice ma ml mc,.slice ca cl cc]))
 obtain ⟨c,hc⟩:∃c:Array Value,#[.slice qa ql qc,.int .i64 clock,.int .i64 epoch,.int .i64 next,.int .i64 serial,.slice aa al ac,.slice ma ml mc,.slice ca cl cc]=c:=⟨_,rfl⟩
 rw [hc] at HB0 HW HO0
 have P0:=aA (show Blk (rU w c) w.heap.size #[.slice qa ql qc,.int .i64 clock,.int .i64 epoch,.int .i64 next,.int .i64 serial,.slice aa al ac,.slice ma ml mc,.slice ca cl cc] 34 by rw [hc];exact fD w c)
 have HC:=aA hc
 clear h hc
 go_enter Tryz.func93,Tryz.ntmps93
 go_wp2
 go_loopw [5,6] (fun v i wr=>∃(k:Nat),k≤cl∧i=.int .i64 k∧Hid (yZ (rU w c).heap.size wr v (aJ (fun q=>decide (q.node=nd)) (cs.take k)))∧Hid (Below (rU w c).heap.size (rU w c) wr)) (fun _ i _=>cl - (intOf i).toNat)
 case atStart=>
  obtain rfl:=uH HC
  have h1:=uH HW
  refine ⟨0,Nat.zero_le _,rfl,aA ?_,aA (yA (yH _ _) _)⟩
  have:=uH HO0
  rw [h1] at this
  rw [h1]
  exact this
 case round=>
  obtain ⟨k,hk,rfl,HO,HB⟩:=hrel
  have hn1:w.heap.size<(rU w c).heap.size:=by have:=uH HW;omega
  have p7:=Blk.at (show Blk wr w.heap.size _ 34 from ((uH HB).block _ hn1).trans (uH P0)) 7
  simp at p7
  by_cases hlt:k<cl
  ·obtain ⟨b,off,rfl,hq⟩:=(((uH HR).below (uH HB0)).below (uH HB)).at hlt
   have hkl:k<cs.length:=by have:=uH HL;omega
   have hst:=nW (p:=fun q=>decide (q.node=nd)) hkl
   obtain ⟨c0,c1,c2,c3,c4⟩:=hq hkl
   obtain ⟨m,hs⟩:∃q,cs[k]=q:=⟨_,rfl⟩
   rw [hs] at c0 c1 c2 c3 c4 hst
   have hal:(aJ (fun q=>decide (q.node=nd)) (cs.take k)).length≤1048576:=by have:(aJ (fun q:Con=>decide (q.node=nd)) (cs.take k)).length≤(cs.take k).length:=(by simp only [aJ,List.length_map];exact List.length_filter_le _ _);simp at this;omega
   obtain ⟨acc,hacc⟩:∃a,aJ (fun q=>decide (q.node=nd)) (cs.take k)=a:=⟨_,rfl⟩
   rw [hacc] at hst hal HO
   obtain ⟨id,ap,no,me,cp⟩:=m
   simp only at c0 c1 c2 c3 c4 hst
   have hs2:(rU w c).heap.size≤wr.heap.size:=(uH HB).size
   have hown:wr.ownsRow (rU w c).heap.size 36 2 _ acc.length (gZ acc):=uH HO
   have hbe:=nS no nd
   clear hq hs hkl hacc
   by_cases hnd:no=nd
   ·rw [decide_eq_true hnd] at hbe hst
    have HST:=aA (show aJ (fun q=>decide (q.node=nd)) (cs.take (k+1))=acc++[(me,cp)] by have:=hst;rw [if_pos rfl] at this;exact this)
    clear hst hnd
    go_wp2_with (at_builtin;refine wpList_append_own _ rfl _ _ 141 rfl (rU w c).heap.size 36 i0 (.agg #[.int .i64 0,.int .i64 0]) 2 16 Tryz.underlying141 hi hz0 hz1 hz2 rfl (by decide) _ _ _ rfl (hown.alloc _) ⟨wr.heap.size,0,none⟩ 1 1 (zF (me,cp)) rfl rfl ?c1 ?c2 ?c3 ?c4 ?c5 ?_)
    case c1=>
     intro j x hj
     match j,hj with
     | 0,hj=>simp at hj;subst hj;simp [Addr.add]
     | 1,hj=>simp at hj;subst hj;simp [Addr.add]
     | _+2,hj=>simp at hj
    case c2=>intro x hx;simp at hx;rcases hx with rfl | rfl<;>rfl
    case c3=>unfold maxLen;omega
    case c4=>omega
    case c5=>simp at hs2 ⊢;omega
    intro v' w3 hown' hgrow _
    have R:=lM (q:=(me,cp)) (uH HB) (uH HO) hown' hgrow hs2
    have HR3:=aA R
    clear hown' hgrow hown c0 c1 c2 c3 c4 R p7
    go_wp2
    go_roundw
    case rel=>exact ⟨k+1,by omega,by go_num,aA (by rw [uH HST];exact (uH HR3).1),aA (uH HR3).2⟩
    case measure=>simp [intOf];omega
   ·rw [decide_eq_false hnd] at hbe hst
    have HST:=aA (show aJ (fun q=>decide (q.node=nd)) (cs.take (k+1))=acc by have:=hst;rw [if_neg (by simp)] at this;exact this)
    clear hst hnd hown
    go_wp2
    go_roundw
    case rel=>exact ⟨k+1,by omega,by go_num,aA (by rw [uH HST];exact uH HO),HB⟩
    case measure=>simp [intOf];omega
  ·have htk:cs.take k=cs:=List.take_of_length_le (by have:=uH HL;omega)
   rw [htk] at HO
   go_wp2
   go_ret
   exact ⟨_,rfl,(uH HO).base (by omega),yB (uH HB0) (uH HB)⟩
def AWh (w:World) (B E g n:Nat):Prop:=Cel w 74 g (n*3)∧∀i,i<n→∃b len,w.cell? ⟨g,i*3+2,none⟩=some (.slice (some ⟨b,0,none⟩) len len)∧Cel w 77 b (len*5)∧len≤1048576∧B≤b∧b<E∧b≠g
theorem AWh.below {w w':World} {B E g n:Nat} (h:AWh w B E g n) (hb:Below w.heap.size w w'):AWh w' B E g n:=
 ⟨h.1.below hb,fun i hi=>let ⟨b,len,a,c,d⟩:=h.2 i hi;⟨b,len,gD a hb,c.below hb,d⟩⟩
theorem AWh.sc {w:World} {B E g n:Nat} (h:AWh w B E g n) (j:Nat) (v:Value) (hj:∀i,j≠i*3+2):AWh (w.setCell ⟨g,j,none⟩ v) B E g n:=
 ⟨h.1.set _ _ _,fun i hi=>let ⟨b,len,a,c,d⟩:=h.2 i hi;⟨b,len,bI a (hj i),c.set _ _ _,d⟩⟩
theorem AWh.mkd {w w':World} {B E g n b:Nat} (h:AWh w B E g n) (hm:Mkd b (b+1) w w') (hn:b≠g):AWh w' B E g n:=
 ⟨hm.cel _ _ _ h.1,fun i hi=>let ⟨b',len,a,c,d⟩:=h.2 i hi;⟨b',len,(World.cell?_of_block (w:=w) (a:=⟨g,i*3+2,none⟩) (hm.block g h.1.lt (by omega))).trans a,hm.cel _ _ _ c,d⟩⟩
theorem bS.wh {w:World} {g n:Nat} {l:List bY} (h:bS w 74 g n n l) (hl:n=l.length) (hk:∀q ∈ l,q.asks.length≤1048576):AWh w (g+1) w.heap.size g n:=by
 refine ⟨h.cel,fun i hi=>?_⟩
 obtain ⟨arr,h1,h2,h3⟩:=h
 have hil:i<l.length:=by omega
 obtain ⟨_,_,ao,len,cap,e,ho⟩:=h3 i hil hi
 obtain ⟨b,rfl,rfl,hb⟩:=ho.2.2.2
 have hg:=ho.2.2.1 b 0 rfl
 have hlen:=hk l[i] (yM _)
 have:=ho.1.1
 exact ⟨b,cap,by simp [World.cell?,h1,e],hb.cel,by omega,by omega,hb.lt,by omega⟩
theorem aBR (B E g n:Nat) (k0:Int) (w:World) (h:AWh w B E g n) (hB:B≤g) (hE:g<E) (hn:n≤1048576) (h0:0<k0) (h1:k0≤100000000000000) :
  Calls Tryz.prog 36 #[.slice (some ⟨g,0,none⟩) n n,.int .i64 k0] w fun e w'=>∃k',e=.returned (.int .i64 k')∧k0≤k'∧k'≤k0+5242882*(n:Int)∧Mkd B E w w':=by
 have HQ0:=aA h
 clear h
 go_enter Tryz.func36,Tryz.ntmps36
 go_wp2
 go_loopw [1,5] (fun s i wr=>∃(j:Nat) (k:Int),j≤n∧i=.int .i64 j∧s=.int .i64 k∧k0≤k∧k≤k0+5242882*(j:Int)∧Hid (AWh wr B E g n)∧Hid (Mkd B E w wr)) (fun _ i _=>n - (intOf i).toNat)
 case atStart=>exact ⟨0,k0,Nat.zero_le _,rfl,rfl,by omega,by omega,HQ0,aA (Mkd.refl _ _ _)⟩
 case round=>
  obtain ⟨j,k,hj,rfl,rfl,hk,hk',HQ,HG⟩:=hrel
  by_cases hlt:j<n
  ·have hk0:0<k:=by omega
   have hk1:k≤105500000000000:=by omega
   have HK:=aA hk'
   clear hk'
   obtain ⟨v0,d0⟩:=(uH HQ).1.cell (j:=j*3) (by omega)
   have f0:=(uH HQ).1.frozen (j*3)
   have HQ1:=aA ((uH HQ).sc (j*3) (.int .i64 k) (by omega))
   have HG1:=aA ((uH HG).sc g (j*3) (.int .i64 k) hB hE)
   clear HQ HG
   go_wp2_with fail
   refine (aV (k+1) _ (by omega) (by omega)).mono ?_
   rintro e w1 ⟨rfl,hb⟩
   have HQ2:=aA ((uH HQ1).below hb)
   have HG2:=aA ((uH HG1).on hb)
   clear hb d0 f0 HQ1 HG1
   obtain ⟨v1,d1⟩:=(uH HQ2).1.cell (j:=j*3+1) (by omega)
   have f1:=(uH HQ2).1.frozen (j*3+1)
   have HQ3:=aA ((uH HQ2).sc (j*3+1) (.string (mk (k+1).toNat)) (by omega))
   have HG3:=aA ((uH HG2).sc g (j*3+1) (.string (mk (k+1).toNat)) hB hE)
   clear HQ2 HG2
   obtain ⟨b,len,d2,hcel,hlen,hb1,hb2,hbg⟩:=(uH HQ3).2 j hlt
   obtain ⟨K,hK⟩:=Int.eq_ofNat_of_zero_le (a:=k+1+1) (by omega)
   have CA:=aA (fun (e:k+1+1=(K:Int))=>by have:=qV b len len K (d:=len) _ hcel (yJ _) hlen (by omega) (by omega);rw [←e] at this;exact this)
   have HKK:=aA hK
   clear hcel hK
   go_wp2_with fail
   refine (uH CA (uH HKK)).mono ?_
   rintro e w2 ⟨rfl,_,hm⟩
   have HQ4:=aA ((uH HQ3).mkd hm hbg)
   have HG4:=aA ((uH HG3).trans (hm.mono hb1 (by omega)))
   clear hm CA HQ3 HG3 d1 f1 d2
   go_wp2
   go_roundw
   case rel=>exact ⟨j+1,k+1+1+5*(len:Int),by omega,by go_num,by go_num,by omega,by have:=uH HK;omega,HQ4,HG4⟩
   case measure=>simp [intOf];omega
  ·have hjn:j=n:=by omega
   subst hjn
   go_wp2
   go_ret
   exact ⟨k,rfl,hk,hk',uH HG⟩
theorem aBN (B E g1 g2 g3 g4 ql al ml cl:Nat) (s:St) (w:World) (hq:Cel w 100 g1 (ql*4)) (ha:AWh w B E g2 al) (hm:Cel w 104 g3 (ml*4)) (hc:Cel w 38 g4 (cl*5))
  (b1:B≤g1∧g1<g2∧g2<g3∧g3<g4∧g4<E) (hE:E≤w.heap.size) (hql:ql≤1048576) (hal:al≤1048576) (hml:ml≤1048576) (hcl:cl≤1048576) :
  Calls Tryz.prog 11 #[sv (aDo g1 g2 g3 g4 ql al ml cl) s,.int .i64 1] w fun e w'=>∃k,e=.returned (.int .i64 k)∧0<k∧Mkd B E w w':=by
 have hb0:=yA (yH _ w) (.cells (svc (aDo g1 g2 g3 g4 ql al ml cl) s) 34)
 have P0:=aA (yD w (svc (aDo g1 g2 g3 g4 ql al ml cl) s) 34)
 have CQ:=aA (hq.below hb0)
 have CA:=aA (ha.below hb0)
 have CM:=aA (hm.below hb0)
 have CC:=aA (hc.below hb0)
 have HG0:=aA (show Mkd B E w _ from .of_below hb0)
 obtain ⟨qs,clock,epoch,next,serial,apps,ms,cs⟩:=s
 clear hq ha hm hc hb0
 go_enter Tryz.func11,Tryz.ntmps11
 go_wp2_with fail
 refine (wQ g1 ql ql 1 _ (uH CQ) (yJ _) hql (by omega) (by omega)).mono ?_
 rintro e w1 ⟨rfl,hm1⟩
 have P1:=aA (hm1.blk (uH P0) (.inr (by omega)))
 have CA1:=aA ((uH CA).mkd hm1 (by omega))
 have CM1:=aA (hm1.cel _ _ _ (uH CM))
 have CC1:=aA (hm1.cel _ _ _ (uH CC))
 have HG1:=aA ((uH HG0).trans (hm1.mono b1.1 (by omega)))
 have p5:=(uH P1).at 5
 simp at p5
 clear hm1 P0 CQ CA CM CC HG0
 go_wp2_with fail
 refine (aBR B E g2 al (1+4*(ql:Int)) _ (uH CA1) (by omega) (by omega) hal (by omega) (by omega)).mono ?_
 rintro e w2 ⟨k2,rfl,hk2,hk2',hm2⟩
 have P2:=aA (hm2.blk (uH P1) (.inr (by omega)))
 have CM2:=aA (hm2.cel _ _ _ (uH CM1))
 have CC2:=aA (hm2.cel _ _ _ (uH CC1))
 have HG2:=aA ((uH HG1).trans hm2)
 have p6:=(uH P2).at 6
 simp at p6
 have hk2a:0<k2:=by omega
 have hk2b:k2≤10000000000000:=by omega
 clear hm2 P1 CA1 CM1 CC1 HG1 p5 hk2 hk2'
 go_wp2_with fail
 refine (sI g3 ml ml k2 _ (uH CM2) (yJ _) hml (by omega) (by omega)).mono ?_
 rintro e w3 ⟨rfl,hm3⟩
 have P3:=aA (hm3.blk (uH P2) (.inr (by omega)))
 have CC3:=aA (hm3.cel _ _ _ (uH CC2))
 have HG3:=aA ((uH HG2).trans (hm3.mono (by omega) (by omega)))
 have p7:=(uH P3).at 7
 simp at p7
 clear hm3 P2 CM2 CC2 HG2 p6
 go_wp2_with fail
 refine (zM g4 cl cl (k2+4*(ml:Int)) _ (uH CC3) (yJ _) hcl (by omega) (by omega)).mono ?_
 rintro e w4 ⟨rfl,hm4⟩
 have HG4:=aA ((uH HG3).trans (hm4.mono (by omega) (by omega)))
 clear hm4 P3 CC3 HG3 p7
 go_wp2
 go_ret
 exact ⟨_,rfl,by omega,uH HG4⟩
theorem AWh.mono {w:World} {B E B' E' g n:Nat} (h:AWh w B E g n) (h1:B'≤B) (h2:E≤E'):AWh w B' E' g n:=
 ⟨h.1,fun i hi=>let ⟨b,len,a,c,d,e,f,k⟩:=h.2 i hi;⟨b,len,a,c,d,by omega,by omega,k⟩⟩
theorem jD.mkd {w wx wy:World} {x:Sls} {s:St} {B E:Nat} (h:jD w x s wx) (hm:Mkd B E wx wy) (h1:w.heap.size<B) (h2:B≤wx.heap.size):jD w x s wy:=⟨hm.blk h.1 (.inl h1),h.2.trans ((hm.below h2).mono (by omega))⟩
theorem jD.low {w wx wy:World} {x:Sls} {s:St} {B:Nat} (h:jD w x s wx) (hm:Below B wx wy) (h1:w.heap.size<B):jD w x s wy:=⟨(hm.block _ h1).trans h.1,h.2.trans (hm.mono (by omega))⟩
def kY (w9 w:World) (x:Sls) (s:St) (g g1 g2 g3 g4:Nat) (wx:World):Prop:=pU w x s g g1 g2 g3 g4 wx∧Below w9.heap.size w9 wx
theorem kY.call {w9 w wx wy:World} {x:Sls} {s:St} {g g1 g2 g3 g4:Nat} (h:kY w9 w x s g g1 g2 g3 g4 wx) (hb:Below wx.heap.size wx wy):kY w9 w x s g g1 g2 g3 g4 wy:=⟨h.1.call hb,yB h.2 hb⟩
theorem kY.drew {w9 w wx:World} {x:Sls} {s:St} {g g1 g2 g3 g4:Nat} (h:kY w9 w x s g g1 g2 g3 g4 wx):kY w9 w x s g g1 g2 g3 g4 wx.drew:=h.call (yH _ _).drew
end
end Go.Proofs.YtdhibeclkdepiaaGreat
