/-
  bI in one: UsedByM, SumS4, CapS, BackA, MachI, OnS.
-/
import Derived.Test.YtdhibeclkdepiaaGreatPackP
set_option maxRecDepth 100000
set_option maxHeartbeats 16000000
set_option linter.unusedVariables false
set_option linter.unusedSimpArgs false
namespace Go.Proofs.YtdhibeclkdepiaaGreat
section
open Go.RowKit Go.Maps
def byQ (s:St) (nm:List UInt8) (q:Con):Bool:=match dY q.app s.apps with
 | none=>false
 | some a=>(path s.qs a.queue).any (fun x=>decide (x=nm))
def aL (s:St) (nm:List UInt8):Int×Int:=((gN (aT (byQ s nm) s.cs)).1,(gN (aT (byQ s nm) s.cs)).2.1)
theorem aFH (v:Value) (ps:List (List UInt8)) (nm:List UInt8) (B:Nat) (w:World) (h:bI B w v ps) (hl:ps.length≤1048576) :
  Calls Tryz.prog 185 #[v,.string (bs nm)] w fun e w'=>e=.returned (.bool (ps.any (fun x=>decide (x=nm))))∧w=w':=by
 obtain ⟨o,ho⟩:∃o,ps.any (fun x=>decide (x=nm))=o:=⟨_,rfl⟩
 have HO:=aA (show (ps.drop 0).any (fun x=>decide (x=nm))=o from ho)
 rw [ho]
 clear ho
 obtain ⟨ao,cap,rfl,HC⟩:∃ao cap,v=.slice ao ps.length cap∧Hid (∀j (hj:j<ps.length),∃g,ao=some ⟨g,0,none⟩∧w.cell? ⟨g,j,none⟩=some (.string (bs ps[j]))):=by
  by_cases hp:ps=[]
  ·subst hp
   obtain ⟨a,cap,rfl⟩:=jD h
   exact ⟨a,cap,rfl,aA (fun j hj=>by simp at hj)⟩
  ·obtain ⟨g,cap,rfl,hs,_⟩:=jC h hp
   exact ⟨_,cap,rfl,aA (fun j hj=>⟨g,rfl,hs.text hj⟩)⟩
 clear h
 obtain ⟨n,hn⟩:∃n,ps.length=n:=⟨_,rfl⟩
 rw [hn] at hl ⊢
 have HN:=aA hn
 clear hn
 go_enter Tryz.func185,Tryz.ntmps185
 go_wp2
 go_loopw [5] (fun i wr=>∃(k:Nat),k≤n∧i=.int .i64 k∧Hid ((ps.drop k).any (fun x=>decide (x=nm))=o)∧wr=w) (fun i _=>n - (intOf i).toNat)
 case atStart=>exact ⟨0,Nat.zero_le _,rfl,HO,rfl⟩
 case round=>
  obtain ⟨k,hk,rfl,HQ,rfl⟩:=hrel
  by_cases hlt:k<n
  ·have hkl:k<ps.length:=by have:=uH HN;omega
   obtain ⟨g,rfl,c0⟩:=uH HC k hkl
   have hst:(ps.drop k).any (fun x=>decide (x=nm))=(decide (ps[k]=nm)||(ps.drop (k+1)).any (fun x=>decide (x=nm))):=by rw [List.drop_eq_getElem_cons hkl,List.any_cons]
   rw [uH HQ] at hst
   obtain ⟨s,hs⟩:∃s,ps[k]=s:=⟨_,rfl⟩
   rw [hs] at c0 hst
   have hbe:=mV s nm
   clear hs hkl
   by_cases he:s=nm
   ·rw [decide_eq_true he] at hbe hst
    have hot:o=true:=by rw [hst];rfl
    subst hot
    clear he hst
    go_wp2
    go_ret
    exact ⟨rfl,rfl⟩
   ·rw [decide_eq_false he] at hbe hst
    have HN2:=aA (show (ps.drop (k+1)).any (fun x=>decide (x=nm))=o by simpa using hst.symm)
    clear he hst
    go_wp2
    go_roundw
    case rel=>exact ⟨k+1,by omega,by go_num,HN2,trivial⟩
    case measure=>simp [intOf];omega
  ·have hof:o=false:=by rw [←uH HQ,List.drop_of_length_le (by have:=uH HN;omega)];rfl
   subst hof
   go_wp2
   go_ret
   exact ⟨rfl,rfl⟩
end
section
open Go.RowKit
def bL (w0:World) (b p:Nat) (r:Int×Int) (x y:Int) (w:World):Prop:=RAt w b p r∧Var w 36 (w0.heap.size+1) x y∧Var w 36 w0.heap.size 0 0∧Below w0.heap.size w0 w
theorem bL.call {w0 w w':World} {b p:Nat} {r:Int×Int} {x y:Int} (h:bL w0 b p r x y w) (hb:Below w.heap.size w w'):bL w0 b p r x y w':=⟨h.1.below hb,h.2.1.below hb,h.2.2.1.below hb,yB h.2.2.2 hb⟩
theorem bL.drew {w0 w:World} {b p:Nat} {r:Int×Int} {x y:Int} (h:bL w0 b p r x y w):bL w0 b p r x y w.drew:=h.call (Below.refl _ _).drew
theorem bL.al {w0 w:World} {b p:Nat} {r:Int×Int} {x y:Int} (h:bL w0 b p r x y w) (o:Obj):bL w0 b p r x y (w.alloc o):=h.call (yA (Below.refl _ _) o)
theorem bL.set {w0 w:World} {b p:Nat} {r:Int×Int} {x y:Int} (h:bL w0 b p r x y w) (k j:Nat) (v:Value) (h1:w0.heap.size+1<k) (h2:b≠k):bL w0 b p r x y (w.setCell ⟨k,j,none⟩ v):=by
  have hc:∀q,(w.setCell ⟨k,j,none⟩ v).cell? ⟨b,q,none⟩=w.cell? ⟨b,q,none⟩:=fun q=>by unfold World.cell?;rw [heap_setCell_other w ⟨k,j,none⟩ b v h2]
  exact ⟨⟨(hc _).trans h.1.1,(hc _).trans h.1.2⟩,h.2.1.other _ _ _ (by omega),h.2.2.1.other _ _ _ (by omega),yC h.2.2.2 _ _ _ (by omega)⟩
theorem bL.read (w0:World) (b p:Nat) (r:Int×Int) (x y:Int):∀wx,bL w0 b p r x y wx→wx.cell? ⟨b,p,none⟩=some (.int .i64 r.1)∧wx.cell? ⟨b,p+1,none⟩=some (.int .i64 r.2)∧wx.cell? ⟨w0.heap.size+1,0,none⟩=some (.int .i64 x)∧wx.cell? ⟨w0.heap.size+1,1,none⟩=some (.int .i64 y):=
  fun wx h=>⟨h.1.1,h.1.2,h.2.1.c0,h.2.1.c1⟩
theorem kU (ao:Option Addr) (len cap:Nat) (l:List (Int×Int)) (w:World) (h:aF9 w ao len l) (hl:len≤1048576) :
    Calls Tryz.prog 92 #[.slice ao len cap] w fun e w'=>e=.returned (.tuple #[rv (gN l).1 (gN l).2.1,.bool (gN l).2.2])∧Below w.heap.size w w':=by
  have HR:=aA h
  have HL:=aA h.1
  obtain ⟨⟨sx,sy,so⟩,hs⟩:∃s,gN l=s:=⟨_,rfl⟩
  have HS:=aA (show bJ l 0 0=(sx,sy,so) from hs)
  rw [hs]
  clear h hs
  go_enter Tryz.func92,Tryz.ntmps92
  go_wp2
  go_loopw [5] (fun i wr=>∃(k:Nat) (x y:Int),k≤len∧i=.int .i64 k∧Hid (bJ (l.drop k) x y=(sx,sy,so))∧Hid (Var wr 36 w.heap.size 0 0)∧Hid (Var wr 36 (w.heap.size+1) x y)∧Hid (Below w.heap.size w wr)) (fun i _=>len - (intOf i).toNat)
  case atStart=>exact ⟨0,0,0,Nat.zero_le _,rfl,aA (by simpa using uH HS),aA ((aJ w _ _ _).al _),aA (fJ w _ _ 0 0 0 0),aA (yA (yA (Below.refl _ _) _) _)⟩
  case round=>
    obtain ⟨k,x,y,hk,rfl,HQ,HV0,HV1,HB⟩:=hrel
    by_cases hlt:k<len
    · obtain ⟨b,off,rfl,hq⟩:=((uH HR).below (uH HB)).at hlt
      have hkl:k<l.length:=by have:=uH HL;omega
      have hst:=rR hkl x y
      have A0:=aA (show bL w b (off+k*2) l[k] x y wr from ⟨hq hkl,uH HV1,uH HV0,uH HB⟩)
      obtain ⟨⟨a,d⟩,hs⟩:∃q,l[k]=q:=⟨_,rfl⟩
      rw [hs] at A0 hst
      simp only at hst
      have HST:=aA hst
      have R:=bL.read w b (off+k*2) (a,d) x y
      simp only at R
      have k0:(0:Int)≤k:=by omega
      have k1:(k:Int)<len:=by omega
      clear hq hs hkl hst HV0 HV1 HB
      have CA:=aA (fun wx=>uN x y a d wx)
      obtain ⟨x',y',ok,hv⟩:∃x' y' ok,jA 1 x y a d=rv x' y'∧aK 1 x y a d=ok:=by
        cases ho:aK 1 x y a d
        · exact ⟨0,0,_,jS ho,rfl⟩
        · exact ⟨_,_,_,kC ho,rfl⟩
      have HVV:=aA hv
      rw [hv.1,hv.2] at CA
      clear hv
      have sz1:=(uH A0).2.1.lt
      have sb1:=(uH A0).1.lt
      go_wp2_with fail
      go_cut [6,7] from 15 to 24 (fun v6 v7 wx=>∃g,v6=.pointer (some ⟨g,0,none⟩)∧v7=.bool ok∧bL w b (off+k*2) (a,d) x y wx∧Var wx 36 g x' y'∧w.heap.size+1<g)
      case first=>
        go_region_held3 (fun wx=>bL w b (off+k*2) (a,d) x y wx)
          (first | (with_reducible assumption) | exact uH SA | exact (uH A0).drew | exact bL.al (uH SA) _ | exact bL.al (by assumption) _ | exact bL.al (uH A0).drew _ | exact bL.call (by assumption) (by assumption) | exact bL.set (bL.set (uH SA) _ _ _ (by first | omega | (simp<;>omega)) (by first | omega | (simp<;>omega))) _ _ _ (by first | omega | (simp<;>omega)) (by first | omega | (simp<;>omega)) | exact bL.set (bL.set (by assumption) _ _ _ (by first | omega | (simp<;>omega)) (by first | omega | (simp<;>omega))) _ _ _ (by first | omega | (simp<;>omega)) (by first | omega | (simp<;>omega)))
          (first
          | (go_at_call 129;refine (uH CA _).mono ?_;rintro e wt ⟨rfl,hb⟩;have SA:=aA (bL.call (w0:=w) (b:=b) (p:=off+k*2) (r:=(a,d)) (x:=x) (y:=y) (by assumption) hb);have sz:=(uH SA).2.1.lt;have sb:=(uH SA).1.lt
             first
               | (have V5:=(aJ _ 36 0 0).below hb;(try simp at V5);have c50:=V5.c0;have c51:=V5.c1;have f50:=V5.f 0;have f51:=V5.f 1;have V5:=aA V5)
               | (have V5:=(aJ _ 36 0 0).drew.below hb;(try simp at V5);have c50:=V5.c0;have c51:=V5.c1;have f50:=V5.f 0;have f51:=V5.f 1;have V5:=aA V5)
               | skip))
        all_goals
          go_wp2_with fail
          go_meet
          exact ⟨_,rfl,rfl,by first | assumption | exact uH SA | exact bL.al (uH SA) _,by first | exact aJ _ _ _ _ | exact (uH V5).set _ _,by first | omega | (simp<;>omega)⟩
      case rest=>
        obtain ⟨g,rfl,rfl,hA,hV,hg⟩:=hcut
        have A1:=aA hA
        have W1:=aA hV
        clear hA hV A0 CA R
        have v0:=(uH W1).c0
        have v1:=(uH W1).c1
        have s0:=(uH A1).2.1.c0
        have s1:=(uH A1).2.1.c1
        have sf0:=(uH A1).2.1.f 0
        have sf1:=(uH A1).2.1.f 1
        have t0:=(uH A1).2.2.1.c0
        have t1:=(uH A1).2.2.1.c1
        have tf0:=(uH A1).2.2.1.f 0
        have tf1:=(uH A1).2.2.1.f 1
        cases ok with
        | true=>
          have hxy:=kC (uH HVV).2
          rw [(uH HVV).1] at hxy
          simp only [rv,Value.agg.injEq,Array.mk.injEq,List.cons.injEq,Value.int.injEq,and_true,true_and] at hxy
          rw [if_pos (uH HVV).2,←hxy.1,←hxy.2] at HST
          clear hxy HVV
          go_wp2
          go_roundw
          case rel=>exact ⟨k+1,x',y',by omega,by go_num,aA (by rw [←uH HST];exact uH HQ),aA (((uH A1).2.2.1.other _ _ _ (show w.heap.size≠w.heap.size+1 by omega)).other _ _ _ (show w.heap.size≠w.heap.size+1 by omega)),aA ((uH A1).2.1.set _ _),aA (yC (yC (uH A1).2.2.2 _ _ _ (show w.heap.size≤w.heap.size+1 by omega)) _ _ _ (show w.heap.size≤w.heap.size+1 by omega))⟩
          case measure=>simp [intOf];omega
        | false=>
          rw [if_neg (by rw [(uH HVV).2];simp)] at HST
          have hres:=(uH HST).symm.trans (uH HQ)
          simp only [Prod.mk.injEq] at hres
          obtain ⟨rfl,rfl,rfl⟩:=hres
          have k4:=(uH A1).2.2.1.s0 (.int .i64 0)
          have k5:=(uH A1).2.2.1.s1 (.int .i64 0) (.int .i64 0)
          have HB1:=aA (uH A1).2.2.2
          clear HST HS HVV
          go_wp2
          refine bodyPost_ret (v:=.tuple #[rv 0 0,.bool false]) (by simp [results,Tryz.results92,go_sem,k4,k5]) rfl ⟨rfl,?_⟩
          repeat (first | exact uH HB1 | refine yC ?_ _ _ _ (by omega))
    · have hres:(x,y,true)=(sx,sy,so):=by rw [←uH HQ,uL (by have:=uH HL;omega)]
      simp only [Prod.mk.injEq] at hres
      obtain ⟨rfl,rfl,rfl⟩:=hres
      have s0:=(uH HV1).c0
      have s1:=(uH HV1).c1
      have t0:=(uH HV0).c0
      have t1:=(uH HV0).c1
      have f0:=(uH HV0).f 0
      have f1:=(uH HV0).f 1
      have k4:=(uH HV0).s0 (.int .i64 x)
      have k5:=(uH HV0).s1 (.int .i64 x) (.int .i64 y)
      go_wp2
      refine bodyPost_ret (v:=.tuple #[rv x y,.bool true]) (by simp [results,Tryz.results92,go_sem,k4,k5]) rfl ⟨rfl,?_⟩
      repeat (first | exact uH HB | refine yC ?_ _ _ _ (by omega))
theorem vM (x:Sls) (s:St) (w:World) (h:aZ w x.ma x.ml s.ms) (hl:x.ml≤1048576) :
  Calls Tryz.prog 96 #[sv x s] w fun e w'=>∃v,e=.returned v∧wU w.heap.size w' v (aX s.ms)∧Below w.heap.size w w':=by
 obtain ⟨i0,hi,hz0,hz1,hz2⟩:=info_parts Tryz.infoR
 obtain ⟨qa,ql,qc,aa,al,ac,ma,ml,mc,ca,cl,cc⟩:=x
 obtain ⟨qs,clock,epoch,next,serial,apps,ms,cs⟩:=s
 simp only at h hl ⊢
 have HR:=aA h
 have HL:=aA h.1
 have HB0:=aA (gZ w #[.slice qa ql qc,.int .i64 clock,.int .i64 epoch,.int .i64 next,.int .i64 serial,.slice aa al ac,.slice ma ml mc,.slice ca cl cc])
 have P0:=aA (eO w #[.slice qa ql qc,.int .i64 clock,.int .i64 epoch,.int .i64 next,.int .i64 serial,.slice aa al ac,.slice ma ml mc,.slice ca cl cc])
 have HW:=aA (wL w #[.slice qa ql qc,.int .i64 clock,.int .i64 epoch,.int .i64 next,.int .i64 serial,.slice aa al ac,.slice ma ml mc,.slice ca cl cc])
 have HO0:=aA (qN (qK w #[.slice qa ql qc,.int .i64 clock,.int .i64 epoch,.int .i64 next,.int .i64 serial,.slice aa al ac,.slice ma ml mc,.slice ca cl cc]))
 obtain ⟨c,hc⟩:∃c:Array Value,#[.slice qa ql qc,.int .i64 clock,.int .i64 epoch,.int .i64 next,.int .i64 serial,.slice aa al ac,.slice ma ml mc,.slice ca cl cc]=c:=⟨_,rfl⟩
 rw [hc] at HB0 HW HO0
 have P0:=aA (show Blk (qK w c) w.heap.size #[.slice qa ql qc,.int .i64 clock,.int .i64 epoch,.int .i64 next,.int .i64 serial,.slice aa al ac,.slice ma ml mc,.slice ca cl cc] 34 by rw [hc];exact eO w c)
 have HC:=aA hc
 clear h hc
 go_enter Tryz.func96,Tryz.ntmps96
 go_wp2
 go_loopw [3,4] (fun v i wr=>∃(k:Nat),k≤ml∧i=.int .i64 k∧Hid (wU (qK w c).heap.size wr v (aX (ms.take k)))∧Hid (Below (qK w c).heap.size (qK w c) wr)) (fun _ i _=>ml - (intOf i).toNat)
 case atStart=>
  obtain rfl:=uH HC
  have h1:=uH HW
  refine ⟨0,Nat.zero_le _,rfl,aA ?_,aA (yA (Below.refl _ _) _)⟩
  have:=uH HO0
  rw [h1] at this
  rw [h1]
  exact this
 case round=>
  obtain ⟨k,hk,rfl,HO,HB⟩:=hrel
  have hn1:w.heap.size<(qK w c).heap.size:=by have:=uH HW;omega
  have p6:=Blk.at (show Blk wr w.heap.size _ 34 from ((uH HB).block _ hn1).trans (uH P0)) 6
  simp at p6
  by_cases hlt:k<ml
  ·obtain ⟨b,off,rfl,hq⟩:=(((uH HR).below (uH HB0)).below (uH HB)).at hlt
   have hkl:k<ms.length:=by have:=uH HL;omega
   have hst:=aA (wK hkl)
   obtain ⟨c0,c1,c2,c3⟩:=hq hkl
   obtain ⟨m,hs⟩:∃q,ms[k]=q:=⟨_,rfl⟩
   rw [hs] at c0 c1 c2 c3 hst
   have hal:(aX (ms.take k)).length≤1048576:=by simp [aX];omega
   obtain ⟨acc,hacc⟩:∃a,aX (ms.take k)=a:=⟨_,rfl⟩
   rw [hacc] at hst hal HO
   obtain ⟨nm,me,cp,se⟩:=m
   simp only at c0 c1 c2 c3 hst
   have hs2:(qK w c).heap.size≤wr.heap.size:=(uH HB).size
   have hown:wr.ownsRow (qK w c).heap.size 36 2 _ acc.length (gH acc):=uH HO
   clear hq hs hkl hacc
   go_wp2_with (at_builtin;refine wpList_append_own _ rfl _ _ 141 rfl (qK w c).heap.size 36 i0 (.agg #[.int .i64 0,.int .i64 0]) 2 16 Tryz.underlying141 hi hz0 hz1 hz2 rfl (by decide) _ _ _ rfl (hown.alloc _) ⟨wr.heap.size,0,none⟩ 1 1 (xB (me,cp)) rfl rfl ?c1 ?c2 ?c3 ?c4 ?c5 ?_)
   case c1=>
    intro j x hj
    match j,hj with
    | 0,hj=>simp at hj;subst hj;simp [Addr.add]
    | 1,hj=>simp at hj;subst hj;simp [Addr.add]
    | _+2,hj=>simp at hj
   case c2=>intro x hx;simp at hx;rcases hx with rfl | rfl<;>rfl
   case c3=>unfold maxLen;omega
   case c4=>omega
   case c5=>simp at hs2 ⊢;omega
   intro v' w3 hown' hgrow _
   have R:=kR (q:=(me,cp)) (uH HB) (uH HO) hown' hgrow hs2
   have HR3:=aA R
   clear hown' hgrow hown c0 c1 c2 c3 R p6
   go_wp2
   go_roundw
   case rel=>exact ⟨k+1,by omega,by go_num,aA (by rw [uH hst];exact (uH HR3).1),aA (uH HR3).2⟩
   case measure=>simp [intOf];omega
  ·have htk:ms.take k=ms:=List.take_of_length_le (by have:=uH HL;omega)
   rw [htk] at HO
   go_wp2
   go_ret
   exact ⟨_,rfl,(uH HO).base (by omega),yB (uH HB0) (uH HB)⟩
end
section
open Go.RowKit Go.Shelf
attribute [local go_sem] Oper.semAt_some
abbrev NAV:={ m:AV // (Lit.int .i64 m.id).wf=true }
theorem eF.kpa {W W':World} {ao:Option Addr} {len:Nat} {l:List AV} (h:eF W ao len l) (k:KpA W W'):eF W' ao len l:=by
 obtain ⟨h1,h2⟩:=h
 refine ⟨h1,?_⟩
 rcases h2 with h2 | ⟨b,off,h3,h4⟩
 ·exact .inl h2
 ·exact .inr ⟨b,off,h3,fun i hi=>let ⟨a,b,c⟩:=h4 i hi;⟨k.cell a,k.cell b,k.cell c⟩⟩
theorem aFZ (n l Bs len cap:Nat) (ao:Option Addr) (ms:List AV) (J Jx:List (Int×NAV)→World→Prop)
  (hY:∀pre x W1,J pre W1→pre.length<ms.length→YieldAt Fence.wide (n - 1) Tryz.prog l #[.int .i64 x.1,avv x.2.1] W1 fun e W'=>
   (e=.returned (.bool true)∧J (pre++[x]) W'∧KpA W1 W')∨(e=.returned (.bool false)∧Jx (pre++[x]) W'))
  (W:World) (hBs:W.cell? ⟨Bs,0,none⟩=some (.slice ao len cap)) (hg:eF W ao len ms) (hl:len≤1048576) (hN:∀m ∈ ms,(Lit.int .i64 m.id).wf=true) (h0:J [] W) :
  CallsIn Fence.wide n Tryz.prog 182 #[.func (.yield l) #[] #[],.pointer (some ⟨Bs,0,none⟩)] W fun e W'=>(∃v,e=.returned v)∧
   ((∃ys:List (Int×NAV),Hid (ys.map (fun x:Int×NAV=>x.2.1)=ms.reverse)∧J ys W')∨(∃pre,Jx pre W')):=by
 have HY:=aA hY
 have HBs:=aA hBs
 have HG:=aA hg
 have HLEN:=aA hg.1
 have H0:=aA h0
 have HNN:=aA hN
 clear hY hg h0 hN
 refine callsIn_of_wp Tryz.func182 rfl trivial ?_ rfl
 simp only [Tryz.ntmps182,List.size_toArray,List.length_cons,List.length_nil,Nat.reduceAdd,Nat.reduceSub,Array.replicate_succ,Array.replicate_zero,List.push_toArray,List.append_toArray,List.nil_append,List.cons_append]
 gi_wp2
 clear hBs
 gi_loopw [3] (fun i wr=>∃(k:Nat) (pre:List (Int×NAV)),k≤len∧i=.int .i64 ((k:Int) - 1)∧Hid (pre.length+k=ms.length)∧Hid (pre.map (fun x:Int×NAV=>x.2.1)=(ms.drop k).reverse)∧Hid (J pre wr)∧Hid (wr.cell? ⟨Bs,0,none⟩=some (.slice ao len cap))∧Hid (eF wr ao len ms)) (fun i _=>(intOf i+1).toNat)
 case atStart=>exact ⟨len,[],Nat.le_refl _,by go_num,aA (by have:=uH HLEN;simp;omega),aA (by rw [List.drop_of_length_le (by have:=uH HLEN;omega)];rfl),H0,HBs,HG⟩
 case round=>
  obtain ⟨k,pre,hk,rfl,HL,HM,HJ,HB,HGr⟩:=hrel
  cases k with
  | zero=>
   gi_wp2
   go_end0
   exact ⟨⟨_,rfl⟩,.inl ⟨pre,aA (by rw [uH HM];rfl),uH HJ⟩⟩
  | succ j=>
   have hj:j<len:=by omega
   obtain ⟨b,off,rfl,hq⟩:=(uH HGr).at hj
   have hjm:j<ms.length:=by have:=uH HLEN;omega
   obtain ⟨c0,c1,c2⟩:=hq hjm
   have hbox:=uH HB
   have hel:=uH HNN ms[j] (List.getElem_mem _)
   obtain ⟨fn,tmps,assign,body,hy,hR⟩:=uH HY pre ((j:Int),⟨ms[j],hel⟩) wr (uH HJ) (by have:=uH HL;omega)
   have HRR:=aA hR
   have HM2:=aA (show (pre++[((j:Int),(⟨ms[j],hel⟩:NAV))]).map (fun x:Int×NAV=>x.2.1)=(ms.drop j).reverse by rw [List.map_append,uH HM,List.drop_eq_getElem_cons hjm,List.reverse_cons];rfl)
   have hij:((j+1:Nat):Int) - 1=(j:Int):=by omega
   obtain ⟨y,hyy⟩:∃y:NAV,(⟨ms[j],hel⟩:NAV)=y:=⟨_,rfl⟩
   have hy1:ms[j]=y.1:=by rw [←hyy]
   rw [hyy] at hy HRR HM2
   rw [hy1] at c0 c1 c2
   obtain ⟨⟨id,qu,zo,zl,zc⟩,hyn⟩:=y
   simp only at hy c0 c1 c2
   rw [hij]
   have j0:(0:Int)≤j:=by omega
   have j1:(j:Int)<len:=by omega
   clear hR hyy hy1 hij HM hq hjm hel
   gi_wp2
   refine ⟨(by intro e;cases e),?_⟩
   refine (uH HRR).mono ?_
   rintro e W3 (⟨rfl,hJ3,hk3⟩ | ⟨rfl,hJx3⟩)
   ·have HB3:=aA (hk3.cell (uH HB))
    have HG3:=aA ((uH HGr).kpa hk3)
    have HJ3:=aA hJ3
    clear hk3 hJ3 hbox hy HRR c0 c1 c2
    gi_wp2
    go_roundw
    case rel=>exact ⟨j,pre++[((j:Int),⟨⟨id,qu,zo,zl,zc⟩,hyn⟩)],by omega,by go_num,aA (by have:=uH HL;simp;omega),HM2,HJ3,HB3,HG3⟩
    case measure=>simp [intOf]
   ·gi_wp2
    refine bodyPost_ret (results_none rfl _ _ _) rfl ?_
    exact ⟨⟨_,rfl⟩,.inr ⟨_,hJx3⟩⟩
theorem aD6 (n Bs len cap:Nat) (ao:Option Addr) (ms:List AV) (w:World) (hBs:w.cell? ⟨Bs,0,none⟩=some (.slice ao len cap)) (hrow:eF w ao len ms) (hl:len≤1048576) (hN:∀m ∈ ms,(Lit.int .i64 m.id).wf=true) :
  SeqStopsK Fence.wide n Tryz.prog 182 #[.pointer (some ⟨Bs,0,none⟩)] (fun x:Int×NAV=>#[.int .i64 x.1,avv x.2.1]) KpA (fun ys=>Hid (ys.map (fun x:Int×NAV=>x.2.1)=ms.reverse)) (fun _=>True) ms.length w:=by
 intro l J Jx W hW hJ hJx hY h0
 refine (aFZ n l Bs len cap ao ms J Jx hY W ((hW.cell (yG hBs)).trans hBs) (hrow.below hW) hl hN h0).mono ?_
 rintro e W' ⟨he,⟨ys,h1,h2⟩ | ⟨pre,h2⟩⟩
 ·exact ⟨he,.inl ⟨ys,h1,h2⟩⟩
 ·exact ⟨he,.inr ⟨pre,trivial,h2⟩⟩
theorem aHQ (v:Value) (w:World) (hv:v.oneCell'=true) :
  Calls Tryz.prog 151 #[v] w fun e w'=>e=.returned (.func (.func 182) #[] #[.pointer (some ⟨w.heap.size,0,none⟩)])∧w.alloc (.cells #[v] 30)=w':=by
 have hmf:∀(fn:Fn) (first cap:Array Value) (w:World),(Instr.makeFunc fn first cap).run Tryz.prog w=.ok (.func fn first cap) w:=fun _ _ _ _=>rfl
 go_enter Tryz.func151,Tryz.ntmps151
 go_wp2
 go_ret
 exact ⟨rfl,rfl⟩
theorem aF4 (m:AV) (w:World) :
  Calls Tryz.prog 152 #[avv m] w fun e w'=>e=.returned (.agg #[.string (bs []),.int .i64 m.id])∧Below w.heap.size w w':=by
 obtain ⟨id,qu,zo,zl,zc⟩:=m
 go_enter Tryz.func152,Tryz.ntmps152
 go_wp2
 refine bodyPost_ret (v:=.agg #[.string (bs []),.int .i64 id]) (by simp [results,Tryz.results152,go_sem];rfl) rfl ⟨rfl,?_⟩
 repeat (first | exact Below.refl _ _ | refine yA ?_ _ | refine Below.drew ?_ | refine yC ?_ _ _ _ (by omega))
end
section
open Go.RowKit Go.Shelf Go.Maps
attribute [local go_sem] Oper.semAt_some
def aIG (w:World) (c:Array Value):World:=((w.alloc (.cells c 34)).alloc (.map #[] 0)).alloc (.cells #[.map (some (w.heap.size+1))] 130)
theorem aBa (w:World) (c:Array Value):(aIG w c).heap.size=w.heap.size+1+1+1:=by simp only [aIG,yE]
theorem aEx (w:World) (c:Array Value):Below w.heap.size w (aIG w c):=yA (yA (yA (Below.refl _ w) _) _) _
theorem aIF (w:World) (c:Array Value):(aIG w c).ownsMap Tryz.prog 133 gW (w.heap.size+1) 0 (.map []):=by
 have:=(World.ownsMap_made (w.alloc (.cells c 34)) Tryz.prog 133 gW).alloc (.cells #[.map (some (w.heap.size+1))] 130)
 rw [yE] at this
 exact this
theorem aIE (w:World) (c:Array Value):Blk (aIG w c) (w.heap.size+1+1) #[.map (some (w.heap.size+1))] 130:=by
 have:=yD ((w.alloc (.cells c 34)).alloc (.map #[] 0)) #[.map (some (w.heap.size+1))] 130
 rw [yE,yE] at this
 exact this
def mX (w:World) (l:List Mac) (W:World):Prop:=(∃D,W.ownsMap Tryz.prog 133 gW (w.heap.size+1) l.length D∧lF l D)∧Blk W (w.heap.size+1+1) #[.map (some (w.heap.size+1))] 130
theorem mX.grown {w W W':World} {l:List Mac} {row:Option Nat} (h:mX w l W) (hg:W.grownBy W' row) (hr:∀r,row=some r→w.heap.size+1+1<r):mX w l W':=by
 obtain ⟨⟨D,h1,h2⟩,h3⟩:=h
 exact ⟨⟨D,h1.kept hg (fun e=>by have:=hr _ e.symm;omega),h2⟩,(hg.block _ h3.lt (fun e=>by have:=hr _ e.symm;omega)).trans h3⟩
theorem mX.below {w W W':World} {l:List Mac} (h:mX w l W) (hb:Below W.heap.size W W'):mX w l W':=h.grown (aH (aF W none) hb) (fun r e=>by cases e)
theorem aBb (x:Sls) (s:St) (w:World) (h:aZ w x.ma x.ml s.ms) (hl:x.ml≤1048576) (hn:∀m ∈ s.ms,m.name.length≤1048576) :
  Calls Tryz.prog 84 #[sv x s] w fun e w'=>e=.returned (.map (some (w.heap.size+1)))∧mX w s.ms w'∧Below w.heap.size w w':=by
 obtain ⟨qa,ql,qc,aa,al,ac,ma,ml,mc,ca,cl,cc⟩:=x
 obtain ⟨qs,clock,epoch,next,serial,apps,ms,cs⟩:=s
 simp only at h hl hn ⊢
 have HR:=aA h
 have HL:=aA h.1
 have HN:=aA hn
 have hmx:Tryz.prog.follows .mixedOrders=true:=by kernel_rfl
 have hmm:=fun (t:TypeId) (wx:World)=>run_makeMap (P:=Tryz.prog) t wx
 clear h hn
 refine (callsIn_wide (n:=3)).1 ?_
 refine callsIn_of_wp_marks Tryz.func84 rfl trivial ?_ rfl
 simp only [Tryz.ntmps84,List.size_toArray,List.length_cons,List.length_nil,Nat.reduceAdd,Nat.reduceSub,Array.replicate_succ,Array.replicate_zero,List.push_toArray,List.append_toArray,List.nil_append,List.cons_append]
 gi_wp2_with fail
 first | refine ⟨trivial,?_⟩ | skip
 first | refine ⟨(by intro e;cases e),?_⟩ | skip
 refine (callsIn_wide.2 (aHP (.slice ma ml mc) _ rfl)).mono ?_
 rintro e w4 ⟨rfl,rfl⟩
 gi_wp2
 have hsz0:=yE (aIG w (svc ⟨qa,ql,qc,aa,al,ac,ma,ml,mc,ca,cl,cc⟩ ⟨qs,clock,epoch,next,serial,apps,ms,cs⟩)) (.cells #[.slice ma ml mc] 31)
 rw [aBa] at hsz0
 have hB0:=yA (aEx w (svc ⟨qa,ql,qc,aa,al,ac,ma,ml,mc,ca,cl,cc⟩ ⟨qs,clock,epoch,next,serial,apps,ms,cs⟩)) (.cells #[.slice ma ml mc] 31)
 have hI0:=mX.below (w:=w) (l:=[]) ⟨⟨_,aIF w (svc ⟨qa,ql,qc,aa,al,ac,ma,ml,mc,ca,cl,cc⟩ ⟨qs,clock,epoch,next,serial,apps,ms,cs⟩),aBn⟩,aIE w _⟩ (yA (Below.refl _ _) (.cells #[.slice ma ml mc] 31))
 have hBs:=(yD (aIG w (svc ⟨qa,ql,qc,aa,al,ac,ma,ml,mc,ca,cl,cc⟩ ⟨qs,clock,epoch,next,serial,apps,ms,cs⟩)) #[.slice ma ml mc] 31).at 0
 rw [aBa] at hBs
 obtain ⟨W0,hW0⟩:∃W0,(aIG w (svc ⟨qa,ql,qc,aa,al,ac,ma,ml,mc,ca,cl,cc⟩ ⟨qs,clock,epoch,next,serial,apps,ms,cs⟩)).alloc (.cells #[.slice ma ml mc] 31)=W0:=⟨_,rfl⟩
 rw [hW0] at hsz0 hB0 hI0 hBs
 have HC:=aA (aD5 (3 - 1) (w.heap.size+1+1+1) ml mc ma ms W0 hBs ((uH HR).below hB0) hl (uH HN))
 show Code.wpIn _ _ _ _ _ _ ((aIG w (svc ⟨qa,ql,qc,aa,al,ac,ma,ml,mc,ca,cl,cc⟩ ⟨qs,clock,epoch,next,serial,apps,ms,cs⟩)).alloc (.cells #[.slice ma ml mc] 31))
 rw [hW0]
 clear hW0 hBs
 refine wpIn_rangeFunc_ownH rfl (by omega) (gf:=157) (lb:=#[.pointer (some ⟨w.heap.size+1+1+1,0,none⟩)]) rfl trivial (enters_of Tryz.func157 (by kernel_rfl) rfl)
  (uH HC) aII aKB (Below.refl _ _) (fun _=>rfl)
  (fun pre W=>mX w ((pre.map (fun x:Int×aFb=>x.2.1)).reverse) W∧Below w.heap.size w W)
  (fun _ _ _=>False)
  (OwnFrom.and (fun s X Y row hs hg hr=>mX.grown hs hg (fun r e=>by have:=(hr r e).1;omega)) (ownFrom_below (Nat.le_refl _) (by omega)))
  (fun _ _ _ _ _ hs _ _=>hs)
  ⟨hI0,hB0⟩
  (fun x a' W=>∃Bx,w.heap.size+1+1<Bx∧Blk W Bx #[.string (bs x.2.1.name),.int .i64 x.2.1.mem,.int .i64 x.2.1.cpu,.int .i64 x.2.1.seen] 104∧a' = { tmps:=#[sv ⟨qa,ql,qc,aa,al,ac,ma,ml,mc,ca,cl,cc⟩ ⟨qs,clock,epoch,next,serial,apps,ms,cs⟩,.pointer (some ⟨w.heap.size,0,none⟩),.map none,.pointer (some ⟨w.heap.size+1+1,0,none⟩),undef,.pointer (some ⟨Bx,0,none⟩),.map (some (w.heap.size+1)),.pointer (some ⟨w.heap.size,6,none⟩),.slice ma ml mc,.func (.func 157) #[] #[.pointer (some ⟨w.heap.size+1+1+1,0,none⟩)],.int .i64 x.1,aAq x.2.1,undef,undef,undef,undef,undef],defers:=[] })
  (fun x a' _ X Y row hs hg hr=>by
   obtain ⟨Bx,h1,h2,h3⟩:=hs
   refine ⟨Bx,h1,(hg.block Bx h2.lt (fun e=>?_)).trans h2,h3⟩
   obtain ⟨_,o,ho,hc⟩:=hr Bx e.symm
   rw [show X.heap[Bx]? = _ from h2] at ho
   cases ho
   cases hc)
  ?assign ?body ?done ?stop
 case assign=>
  rintro lp pre ⟨i,⟨⟨nm,me,cp,se⟩,hnm⟩⟩ W K ⟨hI,hB⟩ hK
  have hlt:=hI.2.lt
  gi_wp2
  exact hK _ _ ((KeepsOthers.alloc _ _).from _) (pR (yA (Below.refl _ W) _)) ⟨hI.below (yA (Below.refl _ W) _),yA hB _⟩ ⟨W.heap.size,hlt,yD W _ _,rfl⟩
 case body=>
  rintro lp pre ⟨i,⟨⟨nm,me,cp,se⟩,hnm⟩⟩ a' W hlp _ ⟨hI,hB⟩ ⟨Bx,hBx,hX,rfl⟩ hlt
  have HI:=aA hI
  have HX:=aA hX
  have HB:=aA hB
  have x0:=hX.at 0
  have x1:=hX.at 1
  have x2:=hX.at 2
  have x3:=hX.at 3
  have v0:=hI.2.at 0
  simp at x0 x1 x2 x3 v0
  have hpl:pre.length<1048576:=by have:=uH HL;omega
  clear hI hX hB
  have hnm':nm.length≤1048576:=hnm
  obtain ⟨kl,hkey⟩:=zO (nm:=nm) (k:=0) (by omega) (by decide)
  have HKEY:=aA hkey
  clear hkey
  gi_wp2_with fail
  gi_region_with_o (first | (first | refine ⟨trivial,?_⟩ | skip);(first | refine ⟨(by intro e;cases e),?_⟩ | skip);refine (CallsIn.inRound lp (callsIn_wide.2 (aFB ⟨nm,me,cp,se⟩ _))).mono ?_;rintro e wc ⟨rfl,hbc⟩;have HW3:=aA (yB (Below.refl _ W).drew hbc);have y0:=((uH HX).below (uH HW3)).at 0;have y1:=((uH HX).below (uH HW3)).at 1;have y2:=((uH HX).below (uH HW3)).at 2;have y3:=((uH HX).below (uH HW3)).at 3;have u0:=((uH HI).below (uH HW3)).2.at 0;simp at y0 y1 y2 y3 u0;obtain ⟨D,hown,hk⟩:=((uH HI).below (uH HW3)).1;obtain ⟨w4,hrun,hown2,hgrow2⟩:=hown.update iT Tryz.underlying130 (by unfold maxLen;simp;omega) (uH HKEY) (qX ⟨nm,me,cp,se⟩);have HFIN:=aA (And.intro hown2 (And.intro hgrow2 (lF.put (m:=⟨nm,me,cp,se⟩) hk hown.isMap (uH HKEY))));clear hown2 hgrow2 hk hown hbc)
  all_goals gi_wp2
  all_goals
   obtain ⟨f1,f2,f3⟩:=uH HFIN
   have hbelow:=(uH HW3)
   have hv4:=(f2.block _ ((uH HI).below hbelow).2.lt (by simp)).trans ((uH HI).below hbelow).2
   have hmi:mX w (⟨nm,me,cp,se⟩::(pre.map (fun x:Int×aFb=>x.2.1)).reverse) w4:=⟨⟨_,f1,f3⟩,hv4⟩
   refine ⟨((sJ hbelow).from _).trans (KeepsFrom.of_grownBy f2 (fun j e=>by cases e;omega)),aII (pR hbelow) (fun k o ho hc=>(f2.block k (lt_of_block ho) (fun e=>?_)).trans ho),by simpa using hmi,?_⟩
   ·obtain ⟨D',hD',_⟩:=((uH HI).below hbelow).1
    obtain ⟨es,ck,hm',_⟩:=hD'
    obtain rfl:k=w.heap.size+1:=by simpa using e
    rw [hm'] at ho
    cases ho
    cases hc
   ·exact ((uH HB).trans (hbelow.mono (uH HB).size)).grown f2 (by have:=(uH HB).size;have:=hbelow.size;omega) (fun k e=>by cases e;omega)
 case done=>
  rintro D ys W hD hys ⟨hI,hB⟩ hK
  rw [uH hys,List.reverse_reverse] at hI
  have v0:=hI.2.at 0
  simp at v0
  have HI:=aA hI
  have HB:=aA hB
  clear hI hB
  gi_wp2
  refine ⟨by simp,.inl ⟨_,_,rfl,run_takeDeferred hK,?_⟩⟩
  exact ⟨_,results_tmp rfl _ _ _,rfl,(uH HI).grown (grownBy_putObj' W D _) (fun r e=>by cases e;omega),(uH HB).trans (belowK_b (w:=w) (Nat.le_refl _) W D _ _ (by omega) hK rfl rfl)⟩
 case stop=>
  rintro D c pre W _ _ h _
  exact h.elim
theorem oD (x:Sls) (s:St) (w:World) (h:aZ w x.ma x.ml s.ms) (hl:x.ml≤1048576) (hn:∀m ∈ s.ms,m.name.length≤1048576) :
  Calls Tryz.prog 84 #[sv x s] w fun e w'=>∃bm,e=.returned (.map (some bm))∧(w.heap.size≤bm∧∃D,w'.ownsMap Tryz.prog 133 gW bm s.ms.length D∧lF s.ms D)∧Below w.heap.size w w':=
 (aBb x s w h hl hn).mono fun e w' ⟨h1,h2,h3⟩=>⟨_,h1,⟨by omega,h2.1⟩,h3⟩
end
section
open Go.RowKit
theorem aBk (x:Sls) (s:St) (nd:List UInt8) (w:World) (h:aY w x.ca x.cl s.cs) (hl:x.cl≤1048576) :
  Calls Tryz.prog 93 #[sv x s,.string (bs nd)] w fun e w'=>∃v,e=.returned v∧wU w.heap.size w' v (aT (fun q=>decide (q.node=nd)) s.cs)∧Below w.heap.size w w':=by
 obtain ⟨i0,hi,hz0,hz1,hz2⟩:=info_parts Tryz.infoR
 obtain ⟨qa,ql,qc,aa,al,ac,ma,ml,mc,ca,cl,cc⟩:=x
 obtain ⟨qs,clock,epoch,next,serial,apps,ms,cs⟩:=s
 simp only at h hl ⊢
 have HR:=aA h
 have HL:=aA h.1
 have HB0:=aA (gZ w #[.slice qa ql qc,.int .i64 clock,.int .i64 epoch,.int .i64 next,.int .i64 serial,.slice aa al ac,.slice ma ml mc,.slice ca cl cc])
 have P0:=aA (eO w #[.slice qa ql qc,.int .i64 clock,.int .i64 epoch,.int .i64 next,.int .i64 serial,.slice aa al ac,.slice ma ml mc,.slice ca cl cc])
 have HW:=aA (wL w #[.slice qa ql qc,.int .i64 clock,.int .i64 epoch,.int .i64 next,.int .i64 serial,.slice aa al ac,.slice ma ml mc,.slice ca cl cc])
 have HO0:=aA (qN (qK w #[.slice qa ql qc,.int .i64 clock,.int .i64 epoch,.int .i64 next,.int .i64 serial,.slice aa al ac,.slice ma ml mc,.slice ca cl cc]))
 obtain ⟨c,hc⟩:∃c:Array Value,#[.slice qa ql qc,.int .i64 clock,.int .i64 epoch,.int .i64 next,.int .i64 serial,.slice aa al ac,.slice ma ml mc,.slice ca cl cc]=c:=⟨_,rfl⟩
 rw [hc] at HB0 HW HO0
 have P0:=aA (show Blk (qK w c) w.heap.size #[.slice qa ql qc,.int .i64 clock,.int .i64 epoch,.int .i64 next,.int .i64 serial,.slice aa al ac,.slice ma ml mc,.slice ca cl cc] 34 by rw [hc];exact eO w c)
 have HC:=aA hc
 clear h hc
 go_enter Tryz.func93,Tryz.ntmps93
 go_wp2
 go_loopw [5,6] (fun v i wr=>∃(k:Nat),k≤cl∧i=.int .i64 k∧Hid (wU (qK w c).heap.size wr v (aT (fun q=>decide (q.node=nd)) (cs.take k)))∧Hid (Below (qK w c).heap.size (qK w c) wr)) (fun _ i _=>cl - (intOf i).toNat)
 case atStart=>
  obtain rfl:=uH HC
  have h1:=uH HW
  refine ⟨0,Nat.zero_le _,rfl,aA ?_,aA (yA (Below.refl _ _) _)⟩
  have:=uH HO0
  rw [h1] at this
  rw [h1]
  exact this
 case round=>
  obtain ⟨k,hk,rfl,HO,HB⟩:=hrel
  have hn1:w.heap.size<(qK w c).heap.size:=by have:=uH HW;omega
  have p7:=Blk.at (show Blk wr w.heap.size _ 34 from ((uH HB).block _ hn1).trans (uH P0)) 7
  simp at p7
  by_cases hlt:k<cl
  ·obtain ⟨b,off,rfl,hq⟩:=(((uH HR).below (uH HB0)).below (uH HB)).at hlt
   have hkl:k<cs.length:=by have:=uH HL;omega
   have hst:=mZ (p:=fun q=>decide (q.node=nd)) hkl
   obtain ⟨c0,c1,c2,c3,c4⟩:=hq hkl
   obtain ⟨m,hs⟩:∃q,cs[k]=q:=⟨_,rfl⟩
   rw [hs] at c0 c1 c2 c3 c4 hst
   have hal:(aT (fun q=>decide (q.node=nd)) (cs.take k)).length≤1048576:=by have:(aT (fun q:Con=>decide (q.node=nd)) (cs.take k)).length≤(cs.take k).length:=(by simp only [aT,List.length_map];exact List.length_filter_le _ _);simp at this;omega
   obtain ⟨acc,hacc⟩:∃a,aT (fun q=>decide (q.node=nd)) (cs.take k)=a:=⟨_,rfl⟩
   rw [hacc] at hst hal HO
   obtain ⟨id,ap,no,me,cp⟩:=m
   simp only at c0 c1 c2 c3 c4 hst
   have hs2:(qK w c).heap.size≤wr.heap.size:=(uH HB).size
   have hown:wr.ownsRow (qK w c).heap.size 36 2 _ acc.length (gH acc):=uH HO
   have hbe:=mV no nd
   clear hq hs hkl hacc
   by_cases hnd:no=nd
   ·rw [decide_eq_true hnd] at hbe hst
    have HST:=aA (show aT (fun q=>decide (q.node=nd)) (cs.take (k+1))=acc++[(me,cp)] by have:=hst;rw [if_pos rfl] at this;exact this)
    clear hst hnd
    go_wp2_with (at_builtin;refine wpList_append_own _ rfl _ _ 141 rfl (qK w c).heap.size 36 i0 (.agg #[.int .i64 0,.int .i64 0]) 2 16 Tryz.underlying141 hi hz0 hz1 hz2 rfl (by decide) _ _ _ rfl (hown.alloc _) ⟨wr.heap.size,0,none⟩ 1 1 (xB (me,cp)) rfl rfl ?c1 ?c2 ?c3 ?c4 ?c5 ?_)
    case c1=>
     intro j x hj
     match j,hj with
     | 0,hj=>simp at hj;subst hj;simp [Addr.add]
     | 1,hj=>simp at hj;subst hj;simp [Addr.add]
     | _+2,hj=>simp at hj
    case c2=>intro x hx;simp at hx;rcases hx with rfl | rfl<;>rfl
    case c3=>unfold maxLen;omega
    case c4=>omega
    case c5=>simp at hs2 ⊢;omega
    intro v' w3 hown' hgrow _
    have R:=kR (q:=(me,cp)) (uH HB) (uH HO) hown' hgrow hs2
    have HR3:=aA R
    clear hown' hgrow hown c0 c1 c2 c3 c4 R p7
    go_wp2
    go_roundw
    case rel=>exact ⟨k+1,by omega,by go_num,aA (by rw [uH HST];exact (uH HR3).1),aA (uH HR3).2⟩
    case measure=>simp [intOf];omega
   ·rw [decide_eq_false hnd] at hbe hst
    have HST:=aA (show aT (fun q=>decide (q.node=nd)) (cs.take (k+1))=acc by have:=hst;rw [if_neg (by simp)] at this;exact this)
    clear hst hnd hown
    go_wp2
    go_roundw
    case rel=>exact ⟨k+1,by omega,by go_num,aA (by rw [uH HST];exact uH HO),HB⟩
    case measure=>simp [intOf];omega
  ·have htk:cs.take k=cs:=List.take_of_length_le (by have:=uH HL;omega)
   rw [htk] at HO
   go_wp2
   go_ret
   exact ⟨_,rfl,(uH HO).base (by omega),yB (uH HB0) (uH HB)⟩
end
end Go.Proofs.YtdhibeclkdepiaaGreat
