/-
  Several texts of this claim in one, made short by program: UsedByM, OrI, AddI, SumI4, CapI, CapsI, AddS, SumS4, CapS, CapsS, TotalB, ShareS, OfM, WithM.
-/
import Derived.Test.YtdhibeclkdepiaaGreatPackE
set_option maxRecDepth 100000
set_option maxHeartbeats 16000000
set_option linter.unusedVariables false
set_option linter.unusedSimpArgs false
namespace Go.Proofs.YtdhibeclkdepiaaGreat
section
open Go.RowKit Go.Maps
def byQ (s:St) (nm:List UInt8) (q:Con):Bool:=match findAp q.app s.apps with
 | none=>false
 | some a=>(path s.qs a.queue).any (fun x=>decide (x=nm))
def usedByV (s:St) (nm:List UInt8):Int×Int:=((sumR (usedL (byQ s nm) s.cs)).1,(sumR (usedL (byQ s nm) s.cs)).2.1)
theorem l04Has_any (v:Value) (ps:List (List UInt8)) (nm:List UInt8) (B:Nat) (w:World) (h:Texts B w v ps) (hl:ps.length≤1048576) :
  Calls Tryz.prog 185 #[v,.string (bs nm)] w fun e w'=>e=.returned (.bool (ps.any (fun x=>decide (x=nm))))∧w=w':=by
 obtain ⟨o,ho⟩:∃o,ps.any (fun x=>decide (x=nm))=o:=⟨_,rfl⟩
 have HO:=hide (show (ps.drop 0).any (fun x=>decide (x=nm))=o from ho)
 rw [ho]
 clear ho
 obtain ⟨ao,cap,rfl,HC⟩:∃ao cap,v=.slice ao ps.length cap∧Hid (∀j (hj:j<ps.length),∃g,ao=some ⟨g,0,none⟩∧w.cell? ⟨g,j,none⟩=some (.string (bs ps[j]))):=by
  by_cases hp:ps=[]
  ·subst hp
   obtain ⟨a,cap,rfl⟩:=texts_none h
   exact ⟨a,cap,rfl,hide (fun j hj=>by simp at hj)⟩
  ·obtain ⟨g,cap,rfl,hs,_⟩:=texts_some h hp
   exact ⟨_,cap,rfl,hide (fun j hj=>⟨g,rfl,hs.text hj⟩)⟩
 clear h
 obtain ⟨n,hn⟩:∃n,ps.length=n:=⟨_,rfl⟩
 rw [hn] at hl ⊢
 have HN:=hide hn
 clear hn
 go_enter Tryz.func185,Tryz.ntmps185
 go_wp2
 go_loopw [5] (fun i wr=>∃(k:Nat),k≤n∧i=.int .i64 k∧Hid ((ps.drop k).any (fun x=>decide (x=nm))=o)∧wr=w) (fun i _=>n - (intOf i).toNat)
 case atStart=>exact ⟨0,Nat.zero_le _,rfl,HO,rfl⟩
 case round=>
  obtain ⟨k,hk,rfl,HQ,rfl⟩:=hrel
  by_cases hlt:k<n
  ·have hkl:k<ps.length:=by have:=uH HN;omega
   obtain ⟨g,rfl,c0⟩:=uH HC k hkl
   have hst:(ps.drop k).any (fun x=>decide (x=nm))=(decide (ps[k]=nm)||(ps.drop (k+1)).any (fun x=>decide (x=nm))):=by rw [List.drop_eq_getElem_cons hkl,List.any_cons]
   rw [uH HQ] at hst
   obtain ⟨s,hs⟩:∃s,ps[k]=s:=⟨_,rfl⟩
   rw [hs] at c0 hst
   have hbe:=bs_eq s nm
   clear hs hkl
   by_cases he:s=nm
   ·rw [decide_eq_true he] at hbe hst
    have hot:o=true:=by rw [hst];rfl
    subst hot
    clear he hst
    go_wp2
    go_ret
    exact ⟨rfl,rfl⟩
   ·rw [decide_eq_false he] at hbe hst
    have HN2:=hide (show (ps.drop (k+1)).any (fun x=>decide (x=nm))=o by simpa using hst.symm)
    clear he hst
    go_wp2
    go_roundw
    case rel=>exact ⟨k+1,by omega,by go_num,HN2,trivial⟩
    case measure=>simp [intOf];omega
  ·have hof:o=false:=by rw [←uH HQ,List.drop_of_length_le (by have:=uH HN;omega)];rfl
   subst hof
   go_wp2
   go_ret
   exact ⟨rfl,rfl⟩
end
section
open Go.RowKit
def orV (a b:Int):Value:=if resOk a b then rv a b else rv 0 0
theorem or_any (a b:Int) (w:World) :
  Calls Tryz.prog 154 #[rv a b] w fun e w'=>e=.returned (.tuple #[orV a b,.bool (resOk a b)])∧Below w.heap.size w w':=by
 cases h1:resOk a b
 ·rw [show orV a b=rv 0 0 by simp [orV,h1]]
  go_enter Tryz.func154,Tryz.ntmps154
  go_wp2_with (go_at_call 155;refine (ok_any _ _ _).mono ?_;rintro e w' ⟨rfl,rfl⟩)
  refine bodyPost_ret (v:=.tuple #[rv 0 0,.bool false]) (by simp [results,Tryz.results154,go_sem]) rfl ⟨rfl,?_⟩
  repeat (first | exact Below.refl _ _ | refine yA ?_ _ | refine Below.drew ?_ | refine yC ?_ _ _ _ (by omega))
 ·rw [show orV a b=rv a b by simp [orV,h1]]
  go_enter Tryz.func154,Tryz.ntmps154
  go_wp2_with (go_at_call 155;refine (ok_any _ _ _).mono ?_;rintro e w' ⟨rfl,rfl⟩)
  refine bodyPost_ret (v:=.tuple #[rv a b,.bool true]) (by simp [results,Tryz.results154,go_sem]) rfl ⟨rfl,?_⟩
  repeat (first | exact Below.refl _ _ | refine yA ?_ _ | refine Below.drew ?_ | refine yC ?_ _ _ _ (by omega))
theorem implAdd_any (a b c d:Int) (w:World) :
  Calls Tryz.prog 181 #[rv a b,rv c d] w fun e w'=>e=.returned (.tuple #[bothV 1 a b c d,.bool (bothOk 1 a b c d)])∧Below w.heap.size w w':=by
 have V1:=((var_new w 36 a b).al (.cells #[.int .i64 c,.int .i64 d] 36)).al (.cells #[.int .i64 0,.int .i64 0] 36)
 have V2:=(var_new2 w 36 36 a b c d).al (.cells #[.int .i64 0,.int .i64 0] 36)
 have V3:=var_new2 (w.alloc (.cells #[.int .i64 a,.int .i64 b] 36)) 36 36 c d 0 0
 have B3:=yA (yA (yA (Below.refl _ w) (.cells #[.int .i64 a,.int .i64 b] 36)) (.cells #[.int .i64 c,.int .i64 d] 36)) (.cells #[.int .i64 0,.int .i64 0] 36)
 simp at V3
 have HV1:=hide V1
 have HV2:=hide V2
 have HV3:=hide V3
 have HB3:=hide B3
 have hc:=hide (pairOk_any a b c d)
 clear V1 V2 V3 B3
 cases h0:resOk a b&&resOk c d
 ·have hb:bothOk 1 a b c d=false:=by rw [bothOk,h0];rfl
  rw [both_no hb,hb]
  go_enter Tryz.func181,Tryz.ntmps181
  go_wp2_with fail
  refine (uH hc _).mono ?_
  rw [h0]
  rintro e w1 ⟨rfl,hb⟩
  have V3:=(uH HV3).below hb
  have k2:=V3.f 0
  have k3:=V3.f 1
  have k0:=V3.c0
  have k1:=V3.c1
  have k4:=V3.s0 (.int .i64 0)
  have k5:=V3.s1 (.int .i64 0) (.int .i64 0)
  have HB:=hide (yB (uH HB3) hb)
  clear hb HV1 HV2 HV3 HB3 V3 hc
  go_wp2
  refine bodyPost_ret (v:=.tuple #[rv 0 0,.bool false]) (by simp [results,Tryz.results181,go_sem,k4,k5]) rfl ⟨rfl,?_⟩
  repeat (first | exact uH HB | refine yA ?_ _ | refine Below.drew ?_ | refine yC ?_ _ _ _ (by omega))
 ·have h0':=h0
  simp only [Bool.and_eq_true] at h0'
  obtain ⟨q1,q2,q3,q4⟩:=resOk_bd h0'.1
  obtain ⟨q5,q6,q7,q8⟩:=resOk_bd h0'.2
  obtain ⟨x,hx⟩:∃x,a+c=x:=⟨_,rfl⟩
  obtain ⟨y,hy⟩:∃y,b+d=y:=⟨_,rfl⟩
  have m3:IntKind.i64.wrap (a+c)=x:=by rw [IntKind.wrap_i64];omega
  have m4:IntKind.i64.wrap (b+d)=y:=by rw [IntKind.wrap_i64];omega
  have e1:bothOk 1 a b c d=resOk x y:=by rw [bothOk,h0,show a+1*c=x by omega,show b+1*d=y by omega];rfl
  have e2:bothV 1 a b c d=orV x y:=by rw [bothV,orV,e1,show a+1*c=x by omega,show b+1*d=y by omega]
  obtain ⟨u,v,hv⟩:∃u v,orV x y=rv u v:=by unfold orV;split<;>exact ⟨_,_,rfl⟩
  obtain ⟨o,ho⟩:∃o,resOk x y=o:=⟨_,rfl⟩
  have ho2:∀wx,Calls Tryz.prog 154 #[rv x y] wx fun e w'=>e=.returned (.tuple #[rv u v,.bool o])∧Below wx.heap.size wx w':=fun wx=>by have:=or_any x y wx;rw [hv,ho] at this;exact this
  rw [e1,e2,hv,ho]
  have HO:=hide ho2
  clear e1 e2 hv ho ho2 h0' q1 q2 q3 q4 q5 q6 q7 q8 hx hy
  go_enter Tryz.func181,Tryz.ntmps181
  go_wp2_with fail
  refine (uH hc _).mono ?_
  rw [h0]
  rintro e w1 ⟨rfl,hb⟩
  have V1:=(uH HV1).below hb
  have V2:=(uH HV2).below hb
  have V3:=hide ((uH HV3).below hb)
  have a1:=V1.c0
  have a2:=V1.c1
  have a3:=V2.c0
  have a4:=V2.c1
  have HB:=hide (yB (uH HB3) hb)
  clear hb HV1 HV2 HV3 HB3 V1 V2 hc
  go_wp2_with fail
  refine (uH HO _).mono ?_
  rintro e w2 ⟨rfl,hb⟩
  have V4:=(uH V3).below hb
  have k0:=V4.c0
  have k1:=V4.c1
  have k2:=V4.f 0
  have k3:=V4.f 1
  have k4:=V4.s0 (.int .i64 u)
  have k5:=V4.s1 (.int .i64 u) (.int .i64 v)
  have HB2:=hide (yB (uH HB) hb)
  clear hb V4 V3 HB HO a1 a2 a3 a4
  go_wp2
  refine bodyPost_ret (v:=.tuple #[rv u v,.bool o]) (by simp [results,Tryz.results181,go_sem,k4,k5]) rfl ⟨rfl,?_⟩
  repeat (first | exact uH HB2 | refine yA ?_ _ | refine Below.drew ?_ | refine yC ?_ _ _ _ (by omega))
theorem together_any (ao:Option Addr) (len cap:Nat) (l:List (Int×Int)) (w:World) (h:RRow w ao len l) (hl:len≤1048576) :
  Calls Tryz.prog 150 #[.slice ao len cap] w fun e w'=>e=.returned (.tuple #[rv (sumR l).1 (sumR l).2.1,.bool (sumR l).2.2])∧Below w.heap.size w w':=by
 have HR:=hide h
 have HL:=hide h.1
 obtain ⟨⟨sx,sy,so⟩,hs⟩:∃s,sumR l=s:=⟨_,rfl⟩
 have HS:=hide (show sumFrom l 0 0=(sx,sy,so) from hs)
 rw [hs]
 clear h hs
 go_enter Tryz.func150,Tryz.ntmps150
 go_wp2
 go_loopw [12] (fun i wr=>∃(k:Nat) (x y:Int),k≤len∧i=.int .i64 k∧Hid (sumFrom (l.drop k) x y=(sx,sy,so))∧Hid (Var wr 36 w.heap.size 0 0)∧Hid (Var wr 36 (w.heap.size+1) x y)∧Hid (Below w.heap.size w wr)) (fun i _=>len - (intOf i).toNat)
 case atStart=>exact ⟨0,0,0,Nat.zero_le _,rfl,hide (by simpa using uH HS),hide ((var_new w _ _ _).al _),hide (var_new2 w _ _ 0 0 0 0),hide (yA (yA (Below.refl _ _) _) _)⟩
 case round=>
  obtain ⟨k,x,y,hk,rfl,HQ,HV0,HV1,HB⟩:=hrel
  by_cases hlt:k<len
  ·obtain ⟨b,off,rfl,hq⟩:=((uH HR).below (uH HB)).at hlt
   have hkl:k<l.length:=by have:=uH HL;omega
   have hst:=sumFrom_step hkl x y
   obtain ⟨c0,c1⟩:=hq hkl
   obtain ⟨⟨a,d⟩,hs⟩:∃q,l[k]=q:=⟨_,rfl⟩
   rw [hs] at c0 c1 hst
   simp only at c0 c1 hst
   have HST:=hide hst
   have s0:=(uH HV1).c0
   have s1:=(uH HV1).c1
   have hsz:=(uH HV1).lt
   have hl2:=World.cell?_alloc_lt wr (.cells #[.int .i64 a,.int .i64 d] 36) ⟨w.heap.size+1,0,none⟩ hsz
   have hl3:=World.cell?_alloc_lt wr (.cells #[.int .i64 a,.int .i64 d] 36) ⟨w.heap.size+1,1,none⟩ hsz
   rw [s0] at hl2
   rw [s1] at hl3
   clear hq hs hkl hst
   have CA:=hide (fun wx=>implAdd_any x y a d wx)
   have HA:=hide (yA (Below.refl _ wr) (.cells #[.int .i64 a,.int .i64 d] 36))
   cases ho:bothOk 1 x y a d with
   | true=>
    rw [both_yes ho,ho] at CA
    rw [if_pos ho] at HST
    clear ho
    go_wp2_with fail
    refine (uH CA _).mono ?_
    rintro e w1 ⟨rfl,hb⟩
    have W0:=hide (((uH HV0).below (uH HA)).below hb)
    have W1:=hide (((uH HV1).below (uH HA)).below hb)
    have HB1:=hide (yB (yB (uH HB) (uH HA)) hb)
    have hsz1:=(uH W1).lt
    have t0:=(uH W1).c0
    have t1:=(uH W1).c1
    have f0:=(uH W1).f 0
    have f1:=(uH W1).f 1
    have g0:=World.cell?_alloc_lt w1 (.cells #[.int .i64 (x+1*a),.int .i64 (y+1*d)] 36) ⟨w.heap.size+1,0,none⟩ hsz1
    have g1:=World.cell?_alloc_lt w1 (.cells #[.int .i64 (x+1*a),.int .i64 (y+1*d)] 36) ⟨w.heap.size+1,1,none⟩ hsz1
    rw [t0] at g0
    rw [t1] at g1
    clear hb CA HA c0 c1 s0 s1 hl2 hl3 HV0 HV1 HB
    obtain ⟨x',hx'⟩:∃x',x+1*a=x':=⟨_,rfl⟩
    obtain ⟨y',hy'⟩:∃y',y+1*d=y':=⟨_,rfl⟩
    rw [hx',hy'] at HST g0 g1
    rw [hx',hy']
    clear hx' hy'
    have h2:=(uH W1).al (.cells #[.int .i64 x',.int .i64 y'] 36)
    have ff0:=h2.f 0
    have ff1:=h2.f 1
    have W2:=hide h2
    clear h2
    go_wp2
    go_roundw
    case rel=>exact ⟨k+1,x',y',by omega,by go_num,hide (by rw [←uH HST];exact uH HQ),hide ((((uH W0).other _ _ _ (show w.heap.size≠w.heap.size+1 by omega)).other _ _ _ (show w.heap.size≠w.heap.size+1 by omega)).al _),hide (((uH W1).set _ _).al _),hide (yA (yC (yC (uH HB1) _ _ _ (show w.heap.size≤w.heap.size+1 by omega)) _ _ _ (show w.heap.size≤w.heap.size+1 by omega)) _)⟩
    case measure=>simp [intOf];omega
   | false=>
    rw [both_no ho,ho] at CA
    rw [if_neg (by rw [ho];simp)] at HST
    have hres:=(uH HST).symm.trans (uH HQ)
    simp only [Prod.mk.injEq] at hres
    obtain ⟨rfl,rfl,rfl⟩:=hres
    clear ho HST HS
    go_wp2_with fail
    refine (uH CA _).mono ?_
    rintro e w1 ⟨rfl,hb⟩
    have W0:=hide ((((uH HV0).below (uH HA)).below hb).al (.cells #[.int .i64 0,.int .i64 0] 36))
    have HB1:=hide (yA (yB (yB (uH HB) (uH HA)) hb) (.cells #[.int .i64 0,.int .i64 0] 36))
    clear hb CA HA c0 c1 s0 s1 hl2 hl3 HV0 HV1 HB
    have t0:=(uH W0).c0
    have t1:=(uH W0).c1
    have f0:=(uH W0).f 0
    have f1:=(uH W0).f 1
    have k4:=(uH W0).s0 (.int .i64 0)
    have k5:=(uH W0).s1 (.int .i64 0) (.int .i64 0)
    go_wp2
    refine bodyPost_ret (v:=.tuple #[rv 0 0,.bool false]) (by simp [results,Tryz.results150,go_sem,k4,k5]) rfl ⟨rfl,?_⟩
    repeat (first | exact uH HB1 | refine yC ?_ _ _ _ (by omega))
  ·have hres:(x,y,true)=(sx,sy,so):=by rw [←uH HQ,sumFrom_end (by have:=uH HL;omega)]
   simp only [Prod.mk.injEq] at hres
   obtain ⟨rfl,rfl,rfl⟩:=hres
   have s0:=(uH HV1).c0
   have s1:=(uH HV1).c1
   have t0:=(uH HV0).c0
   have t1:=(uH HV0).c1
   have f0:=(uH HV0).f 0
   have f1:=(uH HV0).f 1
   have k4:=(uH HV0).s0 (.int .i64 x)
   have k5:=(uH HV0).s1 (.int .i64 x) (.int .i64 y)
   go_wp2
   refine bodyPost_ret (v:=.tuple #[rv x y,.bool true]) (by simp [results,Tryz.results150,go_sem,k4,k5]) rfl ⟨rfl,?_⟩
   repeat (first | exact uH HB | refine yC ?_ _ _ _ (by omega))
theorem caps_any (x:Sls) (s:St) (w:World) (h:MacRow w x.ma x.ml s.ms) (hl:x.ml≤1048576) :
  Calls Tryz.prog 120 #[sv x s] w fun e w'=>e=.returned (.tuple #[rv (sumR (capsOf s.ms)).1 (sumR (capsOf s.ms)).2.1,.bool (sumR (capsOf s.ms)).2.2])∧Below w.heap.size w w':=by
 obtain ⟨i0,hi,hz0,hz1,hz2⟩:=info_parts Tryz.infoR
 obtain ⟨qa,ql,qc,aa,al,ac,ma,ml,mc,ca,cl,cc⟩:=x
 obtain ⟨qs,clock,epoch,next,serial,apps,ms,cs⟩:=s
 simp only at h hl ⊢
 have HR:=hide h
 have HL:=hide h.1
 obtain ⟨c,hc⟩:∃c:Array Value,#[.slice qa ql qc,.int .i64 clock,.int .i64 epoch,.int .i64 next,.int .i64 serial,.slice aa al ac,.slice ma ml mc,.slice ca cl cc]=c:=⟨_,rfl⟩
 have HC:=hide hc
 have HB0:=hide (capW_below w c)
 have V0:=hide (capW_var w c)
 have hW:=capW_size w c
 have HW:=hide hW
 clear h hc hW
 obtain ⟨⟨sx,sy,so⟩,hs⟩:∃s,sumR (capsOf ms)=s:=⟨_,rfl⟩
 have HS:=hide hs
 rw [hs]
 clear hs
 go_enter Tryz.func120,Tryz.ntmps120
 go_wp2
 go_loopw [4,10] (fun v i wr=>∃(k:Nat),k≤ml∧i=.int .i64 k∧Hid (ROwn (capW w c).heap.size wr v (capsOf (ms.take k)))∧Hid (Below (capW w c).heap.size (capW w c) wr)) (fun _ i _=>ml - (intOf i).toNat)
 case atStart=>
  obtain rfl:=uH HC
  exact ⟨0,Nat.zero_le _,rfl,hide (by simpa [capsOf] using rown_nil _ _),hide (Below.refl _ _)⟩
 case round=>
  obtain ⟨k,hk,rfl,HO,HB⟩:=hrel
  by_cases hlt:k<ml
  ·obtain ⟨b,off,rfl,hq⟩:=(((uH HR).below (uH HB0)).below (uH HB)).at hlt
   have hkl:k<ms.length:=by have:=uH HL;omega
   have hst:=hide (capsOf_step hkl)
   obtain ⟨c0,c1,c2,c3⟩:=hq hkl
   obtain ⟨m,hs⟩:∃q,ms[k]=q:=⟨_,rfl⟩
   rw [hs] at c0 c1 c2 c3 hst
   have hal:(capsOf (ms.take k)).length≤1048576:=by simp [capsOf];omega
   obtain ⟨acc,hacc⟩:∃a,capsOf (ms.take k)=a:=⟨_,rfl⟩
   rw [hacc] at hst hal HO
   obtain ⟨nm,me,cp,se⟩:=m
   simp only at c0 c1 c2 c3 hst
   have HB2:=hide (yA (uH HB) (macobj ⟨nm,me,cp,se⟩))
   have HO2:=hide ((uH HO).below (yA (Below.refl _ wr) (macobj ⟨nm,me,cp,se⟩)))
   have hs2:(capW w c).heap.size≤(wr.alloc (macobj ⟨nm,me,cp,se⟩)).heap.size:=(uH HB2).size
   have hown:(wr.alloc (macobj ⟨nm,me,cp,se⟩)).ownsRow (capW w c).heap.size 36 2 _ acc.length (rcells acc):=uH HO2
   clear hq hs hkl hacc HO HB
   go_wp2_with (at_builtin;refine wpList_append_own _ rfl _ _ 141 rfl (capW w c).heap.size 36 i0 (.agg #[.int .i64 0,.int .i64 0]) 2 16 Tryz.underlying141 hi hz0 hz1 hz2 rfl (by decide) _ _ _ rfl (hown.alloc _) ⟨wr.heap.size+1,0,none⟩ 1 1 (rcell (me,cp)) rfl rfl ?c1 ?c2 ?c3 ?c4 ?c5 ?_)
   case c1=>
    intro j x hj
    match j,hj with
    | 0,hj=>simp at hj;subst hj;simp [Addr.add]
    | 1,hj=>simp at hj;subst hj;simp [Addr.add]
    | _+2,hj=>simp at hj
   case c2=>intro x hx;simp at hx;rcases hx with rfl | rfl<;>rfl
   case c3=>unfold maxLen;omega
   case c4=>omega
   case c5=>simp at hs2 ⊢;omega
   intro v' w3 hown' hgrow _
   have R:=rown_step (q:=(me,cp)) (uH HB2) (uH HO2) hown' hgrow hs2
   have HR3:=hide R
   clear hown' hgrow hown c0 c1 c2 c3 R
   go_wp2
   go_roundw
   case rel=>exact ⟨k+1,by omega,by go_num,hide (by rw [uH hst];exact (uH HR3).1),hide (uH HR3).2⟩
   case measure=>simp [intOf];omega
  ·have htk:ms.take k=ms:=List.take_of_length_le (by have:=uH HL;omega)
   rw [htk] at HO
   obtain ⟨ao,cp,rfl,hrow,hcp⟩:=(uH HO).row
   have hlc:(capsOf ms).length≤1048576:=by have:=uH HL;simp [capsOf];omega
   have CT:=hide (together_any ao _ cp (capsOf ms) wr hrow hlc)
   rw [uH HS] at CT
   obtain ⟨n,hn⟩:∃n,(capsOf ms).length=n:=⟨_,rfl⟩
   rw [hn] at CT ⊢
   clear hrow hn htk hcp hlc HO
   go_wp2_with fail
   refine (uH CT).mono ?_
   rintro e w1 ⟨rfl,hb⟩
   have hsz:w.heap.size+1<(capW w c).heap.size:=by have:=uH HW;omega
   have V1:Var w1 36 (w.heap.size+1) 0 0:=Var.below ((uH HB).block _ hsz |>.trans (uH V0)) hb
   have HB1:=hide (yB (yB (uH HB0) (uH HB)) hb)
   have t0:=V1.c0
   have t1:=V1.c1
   have f0:=V1.f 0
   have f1:=V1.f 1
   have k4:=V1.s0 (.int .i64 sx)
   have k5:=V1.s1 (.int .i64 sx) (.int .i64 sy)
   clear hb V1 CT HB HB0
   go_wp2
   refine bodyPost_ret (v:=.tuple #[rv sx sy,.bool so]) (by simp [results,Tryz.results120,go_sem,k4,k5]) rfl ⟨rfl,?_⟩
   repeat (first | exact uH HB1 | refine yC ?_ _ _ _ (by omega))
theorem implTotal_any (x:Sls) (s:St) (w:World) (h:MacRow w x.ma x.ml s.ms) (hl:x.ml≤1048576) :
  Calls Tryz.prog 174 #[sv x s] w fun e w'=>e=.returned (rv (sumR (capsOf s.ms)).1 (sumR (capsOf s.ms)).2.1)∧Below w.heap.size w w':=by
 have HR:=hide h
 clear h
 obtain ⟨⟨sx,sy,so⟩,hs⟩:∃y,sumR (capsOf s.ms)=y:=⟨_,rfl⟩
 have CC:=hide (fun wx (hb:Below w.heap.size w wx)=>by have:=caps_any x s wx ((uH HR).below hb) hl;rw [hs] at this;exact this)
 rw [hs]
 clear hs
 obtain ⟨qa,ql,qc,aa,al,ac,ma,ml,mc,ca,cl,cc⟩:=x
 obtain ⟨qs,clock,epoch,next,serial,apps,ms,cs⟩:=s
 go_enter Tryz.func174,Tryz.ntmps174
 go_wp2_with fail
 refine (uH CC _ (capW_below w _)).mono ?_
 rintro e w1 ⟨rfl,hb⟩
 have V1:=(capW_var w _).below hb
 have HB1:=hide (yB (capW_below w _) hb)
 have V2:=V1.al (.cells #[.int .i64 sx,.int .i64 sy] 36)
 have t0:=V2.c0
 have t1:=V2.c1
 have f0:=V2.f 0
 have f1:=V2.f 1
 have u0:=V1.c0
 have u1:=V1.c1
 have e0:=V1.f 0
 have e1:=V1.f 1
 have VG:=V2.set sx sy
 have k6:=VG.c0
 have k7:=VG.c1
 clear hb V1 V2 VG CC
 go_wp2
 refine bodyPost_ret (v:=rv sx sy) (by simp [results,Tryz.results174,go_sem,k6,k7]) rfl ⟨rfl,?_⟩
 repeat (first | exact uH HB1 | refine yA ?_ _ | refine yC ?_ _ _ _ (by omega))
theorem specAdd_any (a b c d:Int) (w:World) :
  Calls Tryz.prog 129 #[rv a b,rv c d] w fun e w'=>e=.returned (.tuple #[bothV 1 a b c d,.bool (bothOk 1 a b c d)])∧Below w.heap.size w w':=by
 have hv:∃x y,bothV 1 a b c d=rv x y:=by unfold bothV;split<;>exact ⟨_,_,rfl⟩
 obtain ⟨x,y,hv⟩:=hv
 have hc:=l02Both_any a b c d 1 ((w.alloc (.cells #[.int .i64 a,.int .i64 b] 36)).alloc (.cells #[.int .i64 c,.int .i64 d] 36) |>.alloc (.cells #[.int .i64 0,.int .i64 0] 36)) (by decide)
 rw [hv] at hc ⊢
 go_enter Tryz.func129,Tryz.ntmps129
 go_wp2_with fail
 refine hc.mono ?_
 rintro e w1 ⟨rfl,hb⟩
 have hk:Var w1 36 (w.heap.size+1+1) 0 0:=Var.below (by simpa using var_new ((w.alloc (.cells #[.int .i64 a,.int .i64 b] 36)).alloc (.cells #[.int .i64 c,.int .i64 d] 36)) 36 0 0) hb
 have k0:=hk.c0
 have k1:=hk.c1
 have k2:=hk.f 0
 have k3:=hk.f 1
 have k4:=hk.s0 (.int .i64 x)
 have k5:=hk.s1 (.int .i64 x) (.int .i64 y)
 have HB:=hide (yB (yA (yA (yA (Below.refl _ _) _) _) _) hb)
 clear hb hc hk
 go_wp2
 refine bodyPost_ret (v:=.tuple #[rv x y,.bool (bothOk 1 a b c d)]) (by simp [results,Tryz.results129,go_sem,k4,k5]) rfl ⟨rfl,?_⟩
 repeat (first | exact uH HB | refine yA ?_ _ | refine yC ?_ _ _ _ (by omega))
def SumHeld (w0:World) (b p:Nat) (r:Int×Int) (x y:Int) (w:World):Prop:=RAt w b p r∧Var w 36 (w0.heap.size+1) x y∧Var w 36 w0.heap.size 0 0∧Below w0.heap.size w0 w
theorem SumHeld.call {w0 w w':World} {b p:Nat} {r:Int×Int} {x y:Int} (h:SumHeld w0 b p r x y w) (hb:Below w.heap.size w w'):SumHeld w0 b p r x y w':=⟨h.1.below hb,h.2.1.below hb,h.2.2.1.below hb,yB h.2.2.2 hb⟩
theorem SumHeld.drew {w0 w:World} {b p:Nat} {r:Int×Int} {x y:Int} (h:SumHeld w0 b p r x y w):SumHeld w0 b p r x y w.drew:=h.call (Below.refl _ _).drew
theorem SumHeld.al {w0 w:World} {b p:Nat} {r:Int×Int} {x y:Int} (h:SumHeld w0 b p r x y w) (o:Obj):SumHeld w0 b p r x y (w.alloc o):=h.call (yA (Below.refl _ _) o)
theorem SumHeld.set {w0 w:World} {b p:Nat} {r:Int×Int} {x y:Int} (h:SumHeld w0 b p r x y w) (k j:Nat) (v:Value) (h1:w0.heap.size+1<k) (h2:b≠k):SumHeld w0 b p r x y (w.setCell ⟨k,j,none⟩ v):=by
  have hc:∀q,(w.setCell ⟨k,j,none⟩ v).cell? ⟨b,q,none⟩=w.cell? ⟨b,q,none⟩:=fun q=>by unfold World.cell?;rw [heap_setCell_other w ⟨k,j,none⟩ b v h2]
  exact ⟨⟨(hc _).trans h.1.1,(hc _).trans h.1.2⟩,h.2.1.other _ _ _ (by omega),h.2.2.1.other _ _ _ (by omega),yC h.2.2.2 _ _ _ (by omega)⟩
theorem SumHeld.read (w0:World) (b p:Nat) (r:Int×Int) (x y:Int):∀wx,SumHeld w0 b p r x y wx→wx.cell? ⟨b,p,none⟩=some (.int .i64 r.1)∧wx.cell? ⟨b,p+1,none⟩=some (.int .i64 r.2)∧wx.cell? ⟨w0.heap.size+1,0,none⟩=some (.int .i64 x)∧wx.cell? ⟨w0.heap.size+1,1,none⟩=some (.int .i64 y):=
  fun wx h=>⟨h.1.1,h.1.2,h.2.1.c0,h.2.1.c1⟩
theorem l04Sum_any (ao:Option Addr) (len cap:Nat) (l:List (Int×Int)) (w:World) (h:RRow w ao len l) (hl:len≤1048576) :
    Calls Tryz.prog 92 #[.slice ao len cap] w fun e w'=>e=.returned (.tuple #[rv (sumR l).1 (sumR l).2.1,.bool (sumR l).2.2])∧Below w.heap.size w w':=by
  have HR:=hide h
  have HL:=hide h.1
  obtain ⟨⟨sx,sy,so⟩,hs⟩:∃s,sumR l=s:=⟨_,rfl⟩
  have HS:=hide (show sumFrom l 0 0=(sx,sy,so) from hs)
  rw [hs]
  clear h hs
  go_enter Tryz.func92,Tryz.ntmps92
  go_wp2
  go_loopw [5] (fun i wr=>∃(k:Nat) (x y:Int),k≤len∧i=.int .i64 k∧Hid (sumFrom (l.drop k) x y=(sx,sy,so))∧Hid (Var wr 36 w.heap.size 0 0)∧Hid (Var wr 36 (w.heap.size+1) x y)∧Hid (Below w.heap.size w wr)) (fun i _=>len - (intOf i).toNat)
  case atStart=>exact ⟨0,0,0,Nat.zero_le _,rfl,hide (by simpa using uH HS),hide ((var_new w _ _ _).al _),hide (var_new2 w _ _ 0 0 0 0),hide (yA (yA (Below.refl _ _) _) _)⟩
  case round=>
    obtain ⟨k,x,y,hk,rfl,HQ,HV0,HV1,HB⟩:=hrel
    by_cases hlt:k<len
    · obtain ⟨b,off,rfl,hq⟩:=((uH HR).below (uH HB)).at hlt
      have hkl:k<l.length:=by have:=uH HL;omega
      have hst:=sumFrom_step hkl x y
      have A0:=hide (show SumHeld w b (off+k*2) l[k] x y wr from ⟨hq hkl,uH HV1,uH HV0,uH HB⟩)
      obtain ⟨⟨a,d⟩,hs⟩:∃q,l[k]=q:=⟨_,rfl⟩
      rw [hs] at A0 hst
      simp only at hst
      have HST:=hide hst
      have R:=SumHeld.read w b (off+k*2) (a,d) x y
      simp only at R
      have k0:(0:Int)≤k:=by omega
      have k1:(k:Int)<len:=by omega
      clear hq hs hkl hst HV0 HV1 HB
      have CA:=hide (fun wx=>specAdd_any x y a d wx)
      obtain ⟨x',y',ok,hv⟩:∃x' y' ok,bothV 1 x y a d=rv x' y'∧bothOk 1 x y a d=ok:=by
        cases ho:bothOk 1 x y a d
        · exact ⟨0,0,_,both_no ho,rfl⟩
        · exact ⟨_,_,_,both_yes ho,rfl⟩
      have HVV:=hide hv
      rw [hv.1,hv.2] at CA
      clear hv
      have sz1:=(uH A0).2.1.lt
      have sb1:=(uH A0).1.lt
      go_wp2_with fail
      go_cut [6,7] from 15 to 24 (fun v6 v7 wx=>∃g,v6=.pointer (some ⟨g,0,none⟩)∧v7=.bool ok∧SumHeld w b (off+k*2) (a,d) x y wx∧Var wx 36 g x' y'∧w.heap.size+1<g)
      case first=>
        go_region_held3 (fun wx=>SumHeld w b (off+k*2) (a,d) x y wx)
          (first | (with_reducible assumption) | exact uH SA | exact (uH A0).drew | exact SumHeld.al (uH SA) _ | exact SumHeld.al (by assumption) _ | exact SumHeld.al (uH A0).drew _ | exact SumHeld.call (by assumption) (by assumption) | exact SumHeld.set (SumHeld.set (uH SA) _ _ _ (by first | omega | (simp<;>omega)) (by first | omega | (simp<;>omega))) _ _ _ (by first | omega | (simp<;>omega)) (by first | omega | (simp<;>omega)) | exact SumHeld.set (SumHeld.set (by assumption) _ _ _ (by first | omega | (simp<;>omega)) (by first | omega | (simp<;>omega))) _ _ _ (by first | omega | (simp<;>omega)) (by first | omega | (simp<;>omega)))
          (first
          | (go_at_call 129;refine (uH CA _).mono ?_;rintro e wt ⟨rfl,hb⟩;have SA:=hide (SumHeld.call (w0:=w) (b:=b) (p:=off+k*2) (r:=(a,d)) (x:=x) (y:=y) (by assumption) hb);have sz:=(uH SA).2.1.lt;have sb:=(uH SA).1.lt
             first
               | (have V5:=(var_new _ 36 0 0).below hb;(try simp at V5);have c50:=V5.c0;have c51:=V5.c1;have f50:=V5.f 0;have f51:=V5.f 1;have V5:=hide V5)
               | (have V5:=(var_new _ 36 0 0).drew.below hb;(try simp at V5);have c50:=V5.c0;have c51:=V5.c1;have f50:=V5.f 0;have f51:=V5.f 1;have V5:=hide V5)
               | skip))
        all_goals
          go_wp2_with fail
          go_meet
          exact ⟨_,rfl,rfl,by first | assumption | exact uH SA | exact SumHeld.al (uH SA) _,by first | exact var_new _ _ _ _ | exact (uH V5).set _ _,by first | omega | (simp<;>omega)⟩
      case rest=>
        obtain ⟨g,rfl,rfl,hA,hV,hg⟩:=hcut
        have A1:=hide hA
        have W1:=hide hV
        clear hA hV A0 CA R
        have v0:=(uH W1).c0
        have v1:=(uH W1).c1
        have s0:=(uH A1).2.1.c0
        have s1:=(uH A1).2.1.c1
        have sf0:=(uH A1).2.1.f 0
        have sf1:=(uH A1).2.1.f 1
        have t0:=(uH A1).2.2.1.c0
        have t1:=(uH A1).2.2.1.c1
        have tf0:=(uH A1).2.2.1.f 0
        have tf1:=(uH A1).2.2.1.f 1
        cases ok with
        | true=>
          have hxy:=both_yes (uH HVV).2
          rw [(uH HVV).1] at hxy
          simp only [rv,Value.agg.injEq,Array.mk.injEq,List.cons.injEq,Value.int.injEq,and_true,true_and] at hxy
          rw [if_pos (uH HVV).2,←hxy.1,←hxy.2] at HST
          clear hxy HVV
          go_wp2
          go_roundw
          case rel=>exact ⟨k+1,x',y',by omega,by go_num,hide (by rw [←uH HST];exact uH HQ),hide (((uH A1).2.2.1.other _ _ _ (show w.heap.size≠w.heap.size+1 by omega)).other _ _ _ (show w.heap.size≠w.heap.size+1 by omega)),hide ((uH A1).2.1.set _ _),hide (yC (yC (uH A1).2.2.2 _ _ _ (show w.heap.size≤w.heap.size+1 by omega)) _ _ _ (show w.heap.size≤w.heap.size+1 by omega))⟩
          case measure=>simp [intOf];omega
        | false=>
          rw [if_neg (by rw [(uH HVV).2];simp)] at HST
          have hres:=(uH HST).symm.trans (uH HQ)
          simp only [Prod.mk.injEq] at hres
          obtain ⟨rfl,rfl,rfl⟩:=hres
          have k4:=(uH A1).2.2.1.s0 (.int .i64 0)
          have k5:=(uH A1).2.2.1.s1 (.int .i64 0) (.int .i64 0)
          have HB1:=hide (uH A1).2.2.2
          clear HST HS HVV
          go_wp2
          refine bodyPost_ret (v:=.tuple #[rv 0 0,.bool false]) (by simp [results,Tryz.results92,go_sem,k4,k5]) rfl ⟨rfl,?_⟩
          repeat (first | exact uH HB1 | refine yC ?_ _ _ _ (by omega))
    · have hres:(x,y,true)=(sx,sy,so):=by rw [←uH HQ,sumFrom_end (by have:=uH HL;omega)]
      simp only [Prod.mk.injEq] at hres
      obtain ⟨rfl,rfl,rfl⟩:=hres
      have s0:=(uH HV1).c0
      have s1:=(uH HV1).c1
      have t0:=(uH HV0).c0
      have t1:=(uH HV0).c1
      have f0:=(uH HV0).f 0
      have f1:=(uH HV0).f 1
      have k4:=(uH HV0).s0 (.int .i64 x)
      have k5:=(uH HV0).s1 (.int .i64 x) (.int .i64 y)
      go_wp2
      refine bodyPost_ret (v:=.tuple #[rv x y,.bool true]) (by simp [results,Tryz.results92,go_sem,k4,k5]) rfl ⟨rfl,?_⟩
      repeat (first | exact uH HB | refine yC ?_ _ _ _ (by omega))
theorem l04Caps_any (x:Sls) (s:St) (w:World) (h:MacRow w x.ma x.ml s.ms) (hl:x.ml≤1048576) :
  Calls Tryz.prog 96 #[sv x s] w fun e w'=>∃v,e=.returned v∧ROwn w.heap.size w' v (capsOf s.ms)∧Below w.heap.size w w':=by
 obtain ⟨i0,hi,hz0,hz1,hz2⟩:=info_parts Tryz.infoR
 obtain ⟨qa,ql,qc,aa,al,ac,ma,ml,mc,ca,cl,cc⟩:=x
 obtain ⟨qs,clock,epoch,next,serial,apps,ms,cs⟩:=s
 simp only at h hl ⊢
 have HR:=hide h
 have HL:=hide h.1
 have HB0:=hide (boxW_below w #[.slice qa ql qc,.int .i64 clock,.int .i64 epoch,.int .i64 next,.int .i64 serial,.slice aa al ac,.slice ma ml mc,.slice ca cl cc])
 have P0:=hide (boxW_blk w #[.slice qa ql qc,.int .i64 clock,.int .i64 epoch,.int .i64 next,.int .i64 serial,.slice aa al ac,.slice ma ml mc,.slice ca cl cc])
 have HW:=hide (boxW_size w #[.slice qa ql qc,.int .i64 clock,.int .i64 epoch,.int .i64 next,.int .i64 serial,.slice aa al ac,.slice ma ml mc,.slice ca cl cc])
 have HO0:=hide (rown_empty (boxW w #[.slice qa ql qc,.int .i64 clock,.int .i64 epoch,.int .i64 next,.int .i64 serial,.slice aa al ac,.slice ma ml mc,.slice ca cl cc]))
 obtain ⟨c,hc⟩:∃c:Array Value,#[.slice qa ql qc,.int .i64 clock,.int .i64 epoch,.int .i64 next,.int .i64 serial,.slice aa al ac,.slice ma ml mc,.slice ca cl cc]=c:=⟨_,rfl⟩
 rw [hc] at HB0 HW HO0
 have P0:=hide (show Blk (boxW w c) w.heap.size #[.slice qa ql qc,.int .i64 clock,.int .i64 epoch,.int .i64 next,.int .i64 serial,.slice aa al ac,.slice ma ml mc,.slice ca cl cc] 34 by rw [hc];exact boxW_blk w c)
 have HC:=hide hc
 clear h hc
 go_enter Tryz.func96,Tryz.ntmps96
 go_wp2
 go_loopw [3,4] (fun v i wr=>∃(k:Nat),k≤ml∧i=.int .i64 k∧Hid (ROwn (boxW w c).heap.size wr v (capsOf (ms.take k)))∧Hid (Below (boxW w c).heap.size (boxW w c) wr)) (fun _ i _=>ml - (intOf i).toNat)
 case atStart=>
  obtain rfl:=uH HC
  have h1:=uH HW
  refine ⟨0,Nat.zero_le _,rfl,hide ?_,hide (yA (Below.refl _ _) _)⟩
  have:=uH HO0
  rw [h1] at this
  rw [h1]
  exact this
 case round=>
  obtain ⟨k,hk,rfl,HO,HB⟩:=hrel
  have hn1:w.heap.size<(boxW w c).heap.size:=by have:=uH HW;omega
  have p6:=Blk.at (show Blk wr w.heap.size _ 34 from ((uH HB).block _ hn1).trans (uH P0)) 6
  simp at p6
  by_cases hlt:k<ml
  ·obtain ⟨b,off,rfl,hq⟩:=(((uH HR).below (uH HB0)).below (uH HB)).at hlt
   have hkl:k<ms.length:=by have:=uH HL;omega
   have hst:=hide (capsOf_step hkl)
   obtain ⟨c0,c1,c2,c3⟩:=hq hkl
   obtain ⟨m,hs⟩:∃q,ms[k]=q:=⟨_,rfl⟩
   rw [hs] at c0 c1 c2 c3 hst
   have hal:(capsOf (ms.take k)).length≤1048576:=by simp [capsOf];omega
   obtain ⟨acc,hacc⟩:∃a,capsOf (ms.take k)=a:=⟨_,rfl⟩
   rw [hacc] at hst hal HO
   obtain ⟨nm,me,cp,se⟩:=m
   simp only at c0 c1 c2 c3 hst
   have hs2:(boxW w c).heap.size≤wr.heap.size:=(uH HB).size
   have hown:wr.ownsRow (boxW w c).heap.size 36 2 _ acc.length (rcells acc):=uH HO
   clear hq hs hkl hacc
   go_wp2_with (at_builtin;refine wpList_append_own _ rfl _ _ 141 rfl (boxW w c).heap.size 36 i0 (.agg #[.int .i64 0,.int .i64 0]) 2 16 Tryz.underlying141 hi hz0 hz1 hz2 rfl (by decide) _ _ _ rfl (hown.alloc _) ⟨wr.heap.size,0,none⟩ 1 1 (rcell (me,cp)) rfl rfl ?c1 ?c2 ?c3 ?c4 ?c5 ?_)
   case c1=>
    intro j x hj
    match j,hj with
    | 0,hj=>simp at hj;subst hj;simp [Addr.add]
    | 1,hj=>simp at hj;subst hj;simp [Addr.add]
    | _+2,hj=>simp at hj
   case c2=>intro x hx;simp at hx;rcases hx with rfl | rfl<;>rfl
   case c3=>unfold maxLen;omega
   case c4=>omega
   case c5=>simp at hs2 ⊢;omega
   intro v' w3 hown' hgrow _
   have R:=rown_step (q:=(me,cp)) (uH HB) (uH HO) hown' hgrow hs2
   have HR3:=hide R
   clear hown' hgrow hown c0 c1 c2 c3 R p6
   go_wp2
   go_roundw
   case rel=>exact ⟨k+1,by omega,by go_num,hide (by rw [uH hst];exact (uH HR3).1),hide (uH HR3).2⟩
   case measure=>simp [intOf];omega
  ·have htk:ms.take k=ms:=List.take_of_length_le (by have:=uH HL;omega)
   rw [htk] at HO
   go_wp2
   go_ret
   exact ⟨_,rfl,(uH HO).base (by omega),yB (uH HB0) (uH HB)⟩
theorem specTotal_any (x:Sls) (s:St) (w:World) (h:MacRow w x.ma x.ml s.ms) (hl:x.ml≤1048576) :
  Calls Tryz.prog 163 #[sv x s] w fun e w'=>e=.returned (rv (sumR (capsOf s.ms)).1 (sumR (capsOf s.ms)).2.1)∧Below w.heap.size w w':=by
 have hlc:(capsOf s.ms).length≤1048576:=by have:=h.1;simp [capsOf];omega
 have HR:=hide h
 clear h
 obtain ⟨⟨sx,sy,so⟩,hs⟩:∃y,sumR (capsOf s.ms)=y:=⟨_,rfl⟩
 have CC:=hide (fun wx (hb:Below w.heap.size w wx)=>l04Caps_any x s wx ((uH HR).below hb) hl)
 have CS:=hide (fun ao cap wx (h:RRow wx ao (capsOf s.ms).length (capsOf s.ms))=>by have:=l04Sum_any ao _ cap (capsOf s.ms) wx h hlc;rw [hs] at this;exact this)
 rw [hs]
 clear hs
 obtain ⟨qa,ql,qc,aa,al,ac,ma,ml,mc,ca,cl,cc⟩:=x
 obtain ⟨qs,clock,epoch,next,serial,apps,ms,cs⟩:=s
 simp only at CC CS hlc
 go_enter Tryz.func163,Tryz.ntmps163
 go_wp2_with fail
 refine (uH CC _ (capW_below w _)).mono ?_
 rintro e w1 ⟨v,rfl,ho,hb⟩
 obtain ⟨ao,cp,rfl,hrow,_⟩:=ho.row
 have V1:=(capW_var w _).below hb
 have HV1:=hide V1
 have HB1:=hide (yB (capW_below w _) hb)
 have HROW:=hide hrow
 obtain ⟨n,hn⟩:∃n,(capsOf ms).length=n:=⟨_,rfl⟩
 rw [hn] at CS HROW ⊢
 clear hb V1 CC ho hrow hn hlc
 go_wp2_with fail
 refine (uH CS _ _ _ (uH HROW)).mono ?_
 rintro e w2 ⟨rfl,hb⟩
 have V1:=(uH HV1).below hb
 have HB2:=hide (yB (uH HB1) hb)
 have V2:=V1.al (.cells #[.int .i64 sx,.int .i64 sy] 36)
 have t0:=V2.c0
 have t1:=V2.c1
 have f0:=V2.f 0
 have f1:=V2.f 1
 have VG:=V2.set sx sy
 have k6:=VG.c0
 have k7:=VG.c1
 clear hb V1 V2 VG CS HV1 HB1 HROW
 go_wp2
 refine bodyPost_ret (v:=rv sx sy) (by simp [results,Tryz.results163,go_sem,k6,k7]) rfl ⟨rfl,?_⟩
 repeat (first | exact uH HB2 | refine yA ?_ _ | refine yC ?_ _ _ _ (by omega))
def totalV (s:St):Int×Int:=((sumR (capsOf s.ms)).1,(sumR (capsOf s.ms)).2.1)
theorem SRow.ml {w:World} {x:Sls} {s:St} (h:SRow w x s) (hf:FitSt s):x.ml≤1048576:=by have:=h.len.2.2.1;have:=hf.2.2.1.1;omega
theorem SRow.al {w:World} {x:Sls} {s:St} (h:SRow w x s) (hf:FitSt s):x.al≤1048576:=by have:=h.len.2.1;have:=hf.2.1.1;omega
theorem SRow.ql {w:World} {x:Sls} {s:St} (h:SRow w x s) (hf:FitSt s):x.ql≤1048576:=by have:=h.len.1;have:=hf.1.1;omega
def shareOk (a b n:Int):Bool:=resOk a b&&inB n 0 10000
def shareM (a b n:Int):Int:=if shareOk a b n then a*n / 10000 else 0
def shareC (a b n:Int):Int:=if shareOk a b n then b*n / 10000 else 0
theorem mul_bd {a n A N:Int} (h0:0≤a) (h1:a≤A) (h2:0≤n) (h3:n≤N):0≤a*n∧a*n≤A*N:=
 ⟨Int.mul_nonneg h0 h2,Int.mul_le_mul h1 h3 h2 (Int.le_trans h0 h1)⟩
theorem specShare_any (a b n:Int) (w:World) :
  Calls Tryz.prog 200 #[rv a b,.int .i64 n] w fun e w'=>e=.returned (rv (shareM a b n) (shareC a b n))∧Below w.heap.size w w':=by
 cases h1:resOk a b
 ·rw [show shareM a b n=0 by simp [shareM,shareOk,h1],show shareC a b n=0 by simp [shareC,shareOk,h1]]
  go_enter Tryz.func200,Tryz.ntmps200
  go_wp2_with (first | (go_at_call 94;refine (specResOk_any _ _ _).mono ?_;rintro e w' ⟨rfl,rfl⟩) | (go_at_call 42;refine (l01In_any _ _ _ _).mono ?_;rintro e w' ⟨rfl,rfl⟩))
  refine bodyPost_ret (v:=rv 0 0) (by simp [results,Tryz.results200,go_sem]) rfl ⟨rfl,?_⟩
  repeat (first | exact Below.refl _ _ | refine yA ?_ _ | refine Below.drew ?_ | refine yC ?_ _ _ _ (by omega))
 ·cases h2:inB n 0 10000
  ·rw [show shareM a b n=0 by simp [shareM,shareOk,h2],show shareC a b n=0 by simp [shareC,shareOk,h2]]
   go_enter Tryz.func200,Tryz.ntmps200
   go_wp2_with (first | (go_at_call 94;refine (specResOk_any _ _ _).mono ?_;rintro e w' ⟨rfl,rfl⟩) | (go_at_call 42;refine (l01In_any _ _ _ _).mono ?_;rintro e w' ⟨rfl,rfl⟩))
   refine bodyPost_ret (v:=rv 0 0) (by simp [results,Tryz.results200,go_sem]) rfl ⟨rfl,?_⟩
   repeat (first | exact Below.refl _ _ | refine yA ?_ _ | refine Below.drew ?_ | refine yC ?_ _ _ _ (by omega))
  ·rw [show shareM a b n=a*n / 10000 by simp [shareM,shareOk,h1,h2],show shareC a b n=b*n / 10000 by simp [shareC,shareOk,h1,h2]]
   obtain ⟨q1,q2,q3,q4⟩:=resOk_bd h1
   have hn:0≤n∧n≤10000:=by simpa [inB] using h2
   obtain ⟨m1,m2⟩:=mul_bd q1 q2 hn.1 hn.2
   obtain ⟨m3,m4⟩:=mul_bd q3 q4 hn.1 hn.2
   go_enter Tryz.func200,Tryz.ntmps200
   go_wp2_with (first | (go_at_call 94;refine (specResOk_any _ _ _).mono ?_;rintro e w' ⟨rfl,rfl⟩) | (go_at_call 42;refine (l01In_any _ _ _ _).mono ?_;rintro e w' ⟨rfl,rfl⟩))
   refine bodyPost_ret (v:=rv (a*n / 10000) (b*n / 10000)) (by simp [results,Tryz.results200,go_sem]) rfl ⟨rfl,?_⟩
   repeat (first | exact Below.refl _ _ | refine yA ?_ _ | refine Below.drew ?_ | refine yC ?_ _ _ _ (by omega))
def fieldOf (most:Bool) (q:Q):Int:=if most then q.most else q.due
def byName (l:List Q) (n:List UInt8):Q:=l.getD (place l n).toNat ⟨[],[],0,0⟩
def ofP (l:List Q) (most:Bool) (t:Int×Int):List (List UInt8)→Int×Int
 | []=>t
 | [_]=>t
 | n::m::r=>(shareM (ofP l most t (m::r)).1 (ofP l most t (m::r)).2 (fieldOf most (byName l n)),shareC (ofP l most t (m::r)).1 (ofP l most t (m::r)).2 (fieldOf most (byName l n)))
def ofR (l:List Q) (nm:List UInt8) (a b:Int) (most:Bool):Int×Int:=if path l nm=[]∨resOk a b=false then (0,0) else ofP l most (a,b) (path l nm)
theorem ofP_last (l:List Q) (most:Bool) (t:Int×Int) {p:List (List UInt8)} (h:p≠[]):ofP l most t (p.drop (p.length - 1))=t:=by
 have hl:0<p.length:=List.length_pos_iff.2 h
 rw [List.drop_eq_getElem_cons (by omega),show p.length - 1+1=p.length by omega,List.drop_length]
 rfl
theorem ofP_step (l:List Q) (most:Bool) (t:Int×Int) {p:List (List UInt8)} {j:Nat} (h:j+1<p.length) :
  ofP l most t (p.drop j)=(shareM (ofP l most t (p.drop (j+1))).1 (ofP l most t (p.drop (j+1))).2 (fieldOf most (byName l p[j])),shareC (ofP l most t (p.drop (j+1))).1 (ofP l most t (p.drop (j+1))).2 (fieldOf most (byName l p[j]))):=by
 rw [List.drop_eq_getElem_cons (show j<p.length by omega),List.drop_eq_getElem_cons h,ofP]
theorem pathAt_names {l:List Q} (h:queuesOk l=true):∀(n:Nat) (p:Int),∀x ∈ pathAt l n p,∃k:Nat,∃hk:k<l.length,place l x=k∧l[k].name=x
 | 0,_,x,hx=>by simp [pathAt] at hx
 | n+1,p,x,hx=>by
  rw [pathAt] at hx
  split at hx
  ·rename_i hp
   rcases List.mem_cons.1 hx with rfl | hx
   ·refine ⟨p.toNat,hp.2,?_,rfl⟩
    have:=ok_at h p.toNat hp.2
    simp only [qOk,Bool.and_eq_true,decide_eq_true_eq] at this
    exact this.1.1.1.2
   ·exact pathAt_names h n _ x hx
  ·simp at hx
theorem path_names {l:List Q} {nm:List UInt8}:∀x ∈ path l nm,∃k:Nat,∃hk:k<l.length,place l x=k∧byName l x=l[k]:=fun x hx=>by
 unfold path at hx
 split at hx
 ·rename_i h
  obtain ⟨k,hk,h1,h2⟩:=pathAt_names h _ _ x hx
  exact ⟨k,hk,h1,by rw [byName,h1];simp [List.getD_eq_getElem?_getD,List.getElem?_eq_getElem hk]⟩
 ·simp at hx
theorem pathAt_len {l:List Q}:∀(n:Nat) (p:Int),(pathAt l n p).length≤n
 | 0,_=>by simp [pathAt]
 | n+1,p=>by
  rw [pathAt]
  split
  ·have:=pathAt_len (l:=l) n (place l l[p.toNat].parent);simp;exact this
  ·simp
theorem path_len (l:List Q) (nm:List UInt8):(path l nm).length≤l.length+1:=by
 unfold path;split
 ·exact pathAt_len _ _
 ·simp
end
section
def within (a b c d:Int):Bool:=resOk a b&&resOk c d&&decide (a≤c)&&decide (b≤d)
end
end Go.Proofs.YtdhibeclkdepiaaGreat
