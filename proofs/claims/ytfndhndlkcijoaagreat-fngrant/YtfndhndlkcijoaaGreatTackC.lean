/-
  Texts in one: RatioP, KnownI, SumI4, CapI, CapsI, UsedI, UpM, VarB, RegM, Draw2, DrawG, DrawO, DrawP, NameD, QDraw.
-/
import Derived.Test.YtfndhndlkcijoaaGreatTackA
import Derived.Maps.OwnSet
import Derived.Maps.Views
import Derived.DeepKeys4
import Derived.Maps.Range
set_option maxRecDepth 100000
set_option maxHeartbeats 16000000
set_option linter.unusedVariables false
set_option linter.unusedSimpArgs false
open Go.Proofs.Tryz
namespace Go.Proofs.YtfndhndlkcijoaaGreat
section
open Go.RowKit
theorem aAh (a b c d:Int) (w:World) :
  cP 179 #[pv a b c d] w fun e w'=>e=.returned (fv (fV a b c d))∧Bw w w':=by
 have GM:=aA ((vG w 89 a b c d).al (.cells #[.int .i64 0,.int .i64 0] 171));have GR:=aA (show Var ((w.alloc (.cells #[.int .i64 a,.int .i64 b,.int .i64 c,.int .i64 d] 89)).alloc (.cells #[.int .i64 0,.int .i64 0] 171)) 171 (w.heap.size+1) 0 0 by have:=aM (w.alloc (.cells #[.int .i64 a,.int .i64 b,.int .i64 c,.int .i64 d] 89)) 171 0 0;simpa using this);have HB0:=aA (yA (yA (yH _ w) (.cells #[.int .i64 a,.int .i64 b,.int .i64 c,.int .i64 d] 89)) (.cells #[.int .i64 0,.int .i64 0] 171));have hc:=aA (oK a b c d);cases h0:aQ a b&&aQ c d
 ·rw [show fV a b c d=(0,1) by rw [fV,h0];rfl];go_enter func179,ntmps179;go_wp2_with fail;refine (uH hc _).mono ?_;rw [h0];rintro e w1 ⟨rfl,hb⟩;have V2:=(uH GR).below hb;have k0:=V2.c0;have k1:=V2.c1;have k2:=V2.f 0;have k3:=V2.f 1;have k4:=V2.s0 (.int .i64 0);have k5:=V2.s1 (.int .i64 0) (.int .i64 1);have HB:=aA (yB (uH HB0) hb);clear hb GM GR HB0 V2 hc;go_wp2;refine bodyPost_ret (v:=rv 0 1) (by simp [results,results179,go_sem,k4,k5]) rfl ⟨rfl,?_⟩;repeat (first | exact uH HB | refine yA ?_ _ | refine Below.drew ?_ | refine yC ?_ _ _ _ (by omega))
 ·have h0':=h0;simp only [yK] at h0';obtain ⟨s1,s2⟩:=eF h0'.1;obtain ⟨s3,s4⟩:=eF h0'.2;have F1:=qO s1 s3;have F2:=qO s2 s4;have hr:fV a b c d=if less (mK a c).1 (mK a c).2 (mK b d).1 (mK b d).2 then mK b d else mK a c:=by rw [fV,h0];rfl
  rw [hr];have hp1:=aA (pG a c);have hp2:=aA (pG b d);obtain ⟨⟨x1,y1⟩,e1⟩:∃p,mK a c=p:=⟨_,rfl⟩;obtain ⟨⟨x2,y2⟩,e2⟩:∃p,mK b d=p:=⟨_,rfl⟩;rw [e1] at hp1 F1 ⊢;rw [e2] at hp2 F2 ⊢;obtain ⟨l,hl⟩:∃l,less x1 y1 x2 y2=l:=⟨_,rfl⟩;have hL:∀wx,cP 130 #[rv x1 y1,rv x2 y2] wx fun e w'=>e=.returned (.bool l)∧Bw wx w':=fun wx=>by have:=uN x1 y1 x2 y2 wx F1 F2;rw [hl] at this;exact this
  have HL:=aA hL;rw [show less (x1,y1).1 (x1,y1).2 (x2,y2).1 (x2,y2).2=l from hl];clear hL hl F1 F2 e1 e2 hr s1 s2 s3 s4 h0';go_enter func179,ntmps179;go_wp2_with fail;refine (uH hc _).mono ?_;rw [h0];rintro e w1 ⟨rfl,hb⟩;have V1:=(uH GM).below hb;have Jz:=aA V1;have V2:=aA ((uH GR).below hb);have a1:=V1.c0;have a2:=V1.c1;have a3:=V1.c2;have a4:=V1.c3;have HB:=aA (yB (uH HB0) hb);clear hb GM GR HB0 V1 hc;go_wp2_with fail;refine (uH hp1 _).mono ?_;rintro e w2 ⟨rfl,hb⟩;have V3:=aA (((uH Jz).below hb).al (.cells #[.int .i64 x1,.int .i64 y1] 171));have V4:=aA (((uH V2).below hb).al (.cells #[.int .i64 x1,.int .i64 y1] 171));have V5:=aA (aM w2 171 x1 y1);have HB2:=aA (yA (yB (uH HB) hb) (.cells #[.int .i64 x1,.int .i64 y1] 171));clear hb Jz V2 HB hp1 a1 a2 a3 a4;have a1:=(uH V3).c0;have a2:=(uH V3).c1;have a3:=(uH V3).c2;have a4:=(uH V3).c3;go_wp2_with fail;refine (uH hp2 _).mono ?_;rintro e w3 ⟨rfl,hb⟩;have V6:=aA (((uH V4).below hb).al (.cells #[.int .i64 x2,.int .i64 y2] 171));have V7:=aA (((uH V5).below hb).al (.cells #[.int .i64 x2,.int .i64 y2] 171));have V8:=aA (aM w3 171 x2 y2);have HB3:=aA (yA (yB (uH HB2) hb) (.cells #[.int .i64 x2,.int .i64 y2] 171));clear hb V3 V4 V5 HB2 hp2 a1 a2 a3 a4;have a1:=(uH V7).c0;have a2:=(uH V7).c1;have a3:=(uH V8).c0;have a4:=(uH V8).c1;go_wp2_with fail;refine (uH HL _).mono ?_;rintro e w4 ⟨rfl,hb⟩;have V9:=(uH V6).below hb;have V10:=(uH V7).below hb;have V11:=(uH V8).below hb;have GD:=aA (yB (uH HB3) hb);clear hb V6 V7 V8 HB3 HL a1 a2 a3 a4;have a1:=V10.c0;have a2:=V10.c1;have a3:=V11.c0;have a4:=V11.c1;have k0:=V9.c0;have k1:=V9.c1;have k2:=V9.f 0;have k3:=V9.f 1;have k4:=V9.s0 (.int .i64 x1);have k5:=V9.s1 (.int .i64 x1) (.int .i64 y1);have k6:=V9.s0 (.int .i64 x2);have k7:=V9.s1 (.int .i64 x2) (.int .i64 y2);clear V9 V10 V11;cases l with
  | true=>go_wp2;refine bodyPost_ret (v:=rv x2 y2) (by simp [results,results179,go_sem,k6,k7]) rfl ⟨rfl,?_⟩;repeat (first | exact uH GD | refine yA ?_ _ | refine Below.drew ?_ | refine yC ?_ _ _ _ (by omega))
  | false=>go_wp2;refine bodyPost_ret (v:=rv x1 y1) (by simp [results,results179,go_sem,k4,k5]) rfl ⟨rfl,?_⟩;repeat (first | exact uH GD | refine yA ?_ _ | refine Below.drew ?_ | refine yC ?_ _ _ _ (by omega))
end
section
open Go.RowKit Go.Maps
variable {D:DataW Unit} {a b c d:Int} {kl:Lit}
theorem aEo:laidOutB Tryz.prog=true:=by kernel_rfl
theorem aJK:(89:TypeId)<Tryz.prog.types.size:=of_decide_eq_true (by kernel_rfl)
theorem aHn:(match Tryz.prog.underlying 89 with | some (.array _ _) | some (.struct _)=>true | _=>false)=true:=by kernel_rfl
theorem wJ:Keyed Tryz.prog 89:=Keyed.of_law (deep_law_laid aEo (m:=3) (by omega) aJK (by kernel_rfl) aHn)
theorem aCr:Tryz.prog.keyType 89=true:=by kernel_rfl
theorem aBa:Tryz.prog.cellsOf 89=4:=by kernel_rfl
theorem aDl:Tryz.prog.cellsOf 33=2:=by kernel_rfl
theorem aIJ:Tryz.prog.cellsOf 3=1:=by kernel_rfl
theorem aFf:∃m,Tryz.prog.types.size+1=m+3:=⟨Tryz.prog.types.size - 2,by have:3≤Tryz.prog.types.size:=of_decide_eq_true (by kernel_rfl);omega⟩
theorem aEB (n:Nat) (h:(Lit.int .i64 a).wf=true):Tryz.prog.keyLits (n+1) 3 [.int .i64 a]=some [.int .i64 a]:=by
 simp [Program.keyLits,underlying3,h]
theorem aEA (n:Nat) (ha:(Lit.int .i64 a).wf=true) (hb:(Lit.int .i64 b).wf=true):Tryz.prog.keyLits (n+2) 33 [.int .i64 a,.int .i64 b]=some [.int .i64 a,.int .i64 b]:=by
 have h:=underlying33;unfold Program.keyLits;simp [h,aDl,aIJ,aEB n ha,aEB n hb]
theorem aJL (ha:(Lit.int .i64 a).wf=true) (hb:(Lit.int .i64 b).wf=true) (hc:(Lit.int .i64 c).wf=true) (hd:(Lit.int .i64 d).wf=true):∃kl,keyOf Tryz.prog 89 (pv a b c d)=some kl:=by
 obtain ⟨m,hm⟩:=aFf;have h:Tryz.prog.keyLits (m+3) 89 [.int .i64 a,.int .i64 b,.int .i64 c,.int .i64 d]=some [.int .i64 a,.int .i64 b,.int .i64 c,.int .i64 d]:=by have h:=underlying89;unfold Program.keyLits;simp [h,aBa,aDl,aEA m ha hb,aEA m hc hd,List.range_succ]
 have hu:=underlying89;have hk:keyOf Tryz.prog 89 (pv a b c d)=if Tryz.prog.keyType 89&&(pv a b c d).formed Tryz.prog 89 then (Tryz.prog.keyLits (Tryz.prog.types.size+1) 89 (pv a b c d).cells.toList).map (fun ls=>.string (keyBytes ls)) else none:=by unfold keyOf;rw [hu]
 rw [hk,if_pos (by simp [aCr,Value.formed,hu,aBa]),hm,show (pv a b c d).cells.toList=[.int .i64 a,.int .i64 b,.int .i64 c,.int .i64 d] from rfl,h];exact ⟨_,rfl⟩
def fd (p:Int×Int):DataW Unit:=.agg [.lit (.int .i64 p.1),.lit (.int .i64 p.2)]
def kV:Value→Option (DataW Unit×List MemPlace)
 | .agg cs=>match cs.toList with
  | [.int .i64 x,.int .i64 y]=>some (fd (x,y),[])
  | _=>none
 | _=>none
theorem xI (x y:Int):kV (rv x y)=some (fd (x,y),[]):=rfl
theorem uO {v:Value} {x y:Int} {ps:List MemPlace} (h:kV v=some (fd (x,y),ps)):v=rv x y:=by
 unfold kV at h;split at h
 ·rename_i cs;split at h
  ·rename_i x' y' e;(have e2:cs=#[.int .i64 x',.int .i64 y']:=by cases cs;simpa using e);simp [fd] at h;rw [e2,h.1.1,h.1.2]
  ·cases h
 ·cases h
def aF4 (D:DataW Unit):Prop:=∀a b c d kl,keyOf Tryz.prog 89 (pv a b c d)=some kl→Maps.has D kl=true→∀zd,D.atKey kl zd=fd (fV a b c d)
theorem aDI:aF4 (.map []):=fun a b c d kl _ h=>by simp [Maps.has] at h
theorem aF4.put (h:aF4 D) (hD:IsMap D) (hk:keyOf Tryz.prog 89 (pv a b c d)=some kl):aF4 (D.put kl (fd (fV a b c d))):=fun a' b' c' d' kl' hk' hh zd=>by
 by_cases e:kl'=kl
 ·subst e;have:=wJ.inj hk hk';simp [pv] at this;obtain ⟨rfl,rfl,rfl,rfl⟩:=this;exact atKey_put_same hD (wJ.key hk) _ _
 ·rw [atKey_put_other e];rw [has_put_other e] at hh;exact h a' b' c' d' kl' hk' hh zd
theorem aIQ (w:World):(zeroValue 171).run Tryz.prog w=.ok (rv 0 0) w:=by kernel_rfl
theorem look {w:World} {bm n:Nat} (Hq:w.ownsMap Tryz.prog 89 kV bm n D) (hk:aF4 D) (gy:keyOf Tryz.prog 89 (pv a b c d)=some kl) :
  (Instr.lookup 117 (.map (some bm)) (pv a b c d) true).run Tryz.prog w=.ok (.tuple #[if Maps.has D kl then fv (fV a b c d) else rv 0 0,.bool (Maps.has D kl)]) w:=by
 obtain ⟨v,ps,gq,hv⟩:=Hq.look_ok wJ underlying117 (aIQ w) (xI 0 0) gy;rw [gq];cases hh:Maps.has D kl
 ·rw [atKey_of_not_has hh] at hv;rw [uO hv];rfl
 ·rw [hk a b c d kl gy hh] at hv;rw [uO hv];rfl
end
section
open Go.RowKit
variable {ops:Array Oper} {a b x y:Int} {l:List Q} {B cap g j k:Nat} {ao:Option Addr} {P:Program} {u v:Value} {w w' w0 w1:World}
theorem nI (ao:Option Addr) (len cap:Nat) (l:List (Int×Int)) (w:World) (h:aF2 w ao len l) (hl:len≤1048576) :
  cP 151 #[.slice ao len cap] w fun e w'=>e=.returned (.tuple #[rv (iC l).1 (iC l).2.1,.bool (iC l).2.2])∧Bw w w':=by
 have HR:=aA h;have HL:=aA h.1;obtain ⟨⟨sx,sy,so⟩,hs⟩:∃s,iC l=s:=⟨_,rfl⟩;have HS:=aA (show aT l 0 0=(sx,sy,so) from hs);rw [hs];clear h hs;go_enter func151,ntmps151;go_wp2;go_loopw [12] (fun i wr=>∃(k:Nat) (x y:Int),k≤len∧i=.int .i64 k∧Hid (aT (l.drop k) x y=(sx,sy,so))∧Hid (Var wr 33 w.heap.size 0 0)∧Hid (Var wr 33 (w.heap.size+1) x y)∧Hid (Bw w wr)) (fun i _=>len - (intOf i).toNat);case atStart=>exact ⟨0,0,0,Nat.zero_le _,rfl,aA (by simpa using uH HS),aA ((aM w _ _ _).al _),aA (iB w _ _ 0 0 0 0),aA (yA (yA (yH _ _) _) _)⟩
 case round=>
  obtain ⟨k,x,y,hk,rfl,HQ,Z0,GM,HB⟩:=hrel;by_cases hlt:k<len
  ·obtain ⟨b,off,rfl,hq⟩:=((uH HR).below (uH HB)).at hlt;(have hkl:k<l.length:=by have:=uH HL;omega);have hst:=tV hkl x y;obtain ⟨c0,c1⟩:=hq hkl;obtain ⟨⟨a,d⟩,hs⟩:∃q,l[k]=q:=⟨_,rfl⟩;rw [hs] at c0 c1 hst;simp only at c0 c1 hst;have HST:=aA hst;have s0:=(uH GM).c0;have s1:=(uH GM).c1;have hsz:=(uH GM).lt;have hl2:=World.cell?_alloc_lt wr (.cells #[.int .i64 a,.int .i64 d] 33) ⟨w.heap.size+1,0,none⟩ hsz;have hl3:=World.cell?_alloc_lt wr (.cells #[.int .i64 a,.int .i64 d] 33) ⟨w.heap.size+1,1,none⟩ hsz;rw [s0] at hl2;rw [s1] at hl3;clear hq hs hkl hst;have CA:=aA (fun wx=>aDN x y a d wx);have HA:=aA (yA (yH _ wr) (.cells #[.int .i64 a,.int .i64 d] 33));cases ho:aN 1 x y a d with
   | true=>rw [kW ho,ho] at CA;rw [if_pos ho] at HST;clear ho;(go_wp2_with fail);refine (uH CA _).mono ?_;rintro e w1 ⟨rfl,hb⟩;have W0:=aA (((uH Z0).below (uH HA)).below hb);have W1:=aA (((uH GM).below (uH HA)).below hb);have HB1:=aA (yB (yB (uH HB) (uH HA)) hb);have YH:=(uH W1).lt;have t0:=(uH W1).c0;have t1:=(uH W1).c1;have f0:=(uH W1).f 0;have f1:=(uH W1).f 1;have g0:=World.cell?_alloc_lt w1 (.cells #[.int .i64 (x+1*a),.int .i64 (y+1*d)] 33) ⟨w.heap.size+1,0,none⟩ YH;have g1:=World.cell?_alloc_lt w1 (.cells #[.int .i64 (x+1*a),.int .i64 (y+1*d)] 33) ⟨w.heap.size+1,1,none⟩ YH;rw [t0] at g0;rw [t1] at g1;clear hb CA HA c0 c1 s0 s1 hl2 hl3 Z0 GM HB;obtain ⟨x',hx'⟩:∃x',x+1*a=x':=⟨_,rfl⟩;obtain ⟨y',hy'⟩:∃y',y+1*d=y':=⟨_,rfl⟩;rw [hx',hy'] at HST g0 g1;rw [hx',hy'];clear hx' hy';have h2:=(uH W1).al (.cells #[.int .i64 x',.int .i64 y'] 33);have ff0:=h2.f 0;have ff1:=h2.f 1;have W2:=aA h2;clear h2;go_wp2;go_roundw;(case rel=>exact ⟨k+1,x',y',by omega,by go_num,aA (by rw [←uH HST];exact uH HQ),aA ((((uH W0).other _ _ _ (show w.heap.size≠w.heap.size+1 by omega)).other _ _ _ (show w.heap.size≠w.heap.size+1 by omega)).al _),aA (((uH W1).set _ _).al _),aA (yA (yC (yC (uH HB1) _ _ _ (show w.heap.size≤w.heap.size+1 by omega)) _ _ _ (show w.heap.size≤w.heap.size+1 by omega)) _)⟩);case measure=>simp [intOf];omega
   | false=>rw [kQ ho,ho] at CA;rw [if_neg (by rw [ho];simp)] at HST;have QA:=(uH HST).symm.trans (uH HQ);simp only [Prod.mk.injEq] at QA;obtain ⟨rfl,rfl,rfl⟩:=QA;clear ho HST HS;(go_wp2_with fail);refine (uH CA _).mono ?_;rintro e w1 ⟨rfl,hb⟩;have W0:=aA ((((uH Z0).below (uH HA)).below hb).al (.cells #[.int .i64 0,.int .i64 0] 33));have HB1:=aA (yA (yB (yB (uH HB) (uH HA)) hb) (.cells #[.int .i64 0,.int .i64 0] 33));clear hb CA HA c0 c1 s0 s1 hl2 hl3 Z0 GM HB;have t0:=(uH W0).c0;have t1:=(uH W0).c1;have f0:=(uH W0).f 0;have f1:=(uH W0).f 1;have k4:=(uH W0).s0 (.int .i64 0);have k5:=(uH W0).s1 (.int .i64 0) (.int .i64 0);go_wp2;refine bodyPost_ret (v:=.tuple #[rv 0 0,.bool false]) (by simp [results,results151,go_sem,k4,k5]) rfl ⟨rfl,?_⟩;repeat (first | exact uH HB1 | refine yC ?_ _ _ _ (by omega))
  ·(have QA:(x,y,true)=(sx,sy,so):=by rw [←uH HQ,vU (by have:=uH HL;omega)]);simp only [Prod.mk.injEq] at QA;obtain ⟨rfl,rfl,rfl⟩:=QA;have s0:=(uH GM).c0;have s1:=(uH GM).c1;have t0:=(uH Z0).c0;have t1:=(uH Z0).c1;have f0:=(uH Z0).f 0;have f1:=(uH Z0).f 1;have k4:=(uH Z0).s0 (.int .i64 x);have k5:=(uH Z0).s1 (.int .i64 x) (.int .i64 y);go_wp2;refine bodyPost_ret (v:=.tuple #[rv x y,.bool true]) (by simp [results,results151,go_sem,k4,k5]) rfl ⟨rfl,?_⟩;repeat (first | exact uH HB | refine yC ?_ _ _ _ (by omega))
theorem aEM (x:Sls) (s:St) (w:World) (h:cB w x.ma x.ml s.ms) (hl:x.ml≤1048576) :
  cP 94 #[sv x s] w fun e w'=>e=.returned (.tuple #[rv (iC (aX s.ms)).1 (iC (aX s.ms)).2.1,.bool (iC (aX s.ms)).2.2])∧Bw w w':=by
 obtain ⟨i0,hi,hz0,hz1,hz2⟩:=info_parts Tryz.infoR;obtain ⟨qa,ql,qc,aa,al,ac,ma,ml,mc,ca,cl,cc⟩:=x;obtain ⟨qs,cv,ez,ny,sj,aj,ms,cs⟩:=s;simp only at h hl ⊢;have HR:=aA h;have HL:=aA h.1;obtain ⟨c,hc⟩:∃c:Array Value,#[.slice qa ql qc,.int .i64 cv,.int .i64 ez,.int .i64 ny,.int .i64 sj,.slice aa al ac,.slice ma ml mc,.slice ca cl cc]=c:=⟨_,rfl⟩;have HC:=aA hc;have HB0:=aA (dG w c);have V0:=aA (iY w c);have hW:=rG w c;have HW:=aA hW;clear h hc hW;obtain ⟨⟨sx,sy,so⟩,hs⟩:∃s,iC (aX ms)=s:=⟨_,rfl⟩;have HS:=aA hs;rw [hs];clear hs;go_enter func94,ntmps94;go_wp2;go_loopw [4,10] (fun v i wr=>∃(k:Nat),k≤ml∧i=.int .i64 k∧Hid (yR (sZ w c).heap.size wr v (aX (ms.take k)))∧Hid (Below (sZ w c).heap.size (sZ w c) wr)) (fun _ i _=>ml - (intOf i).toNat);case atStart=>obtain rfl:=uH HC;exact ⟨0,Nat.zero_le _,rfl,aA (by simpa [aX] using aAf _ _),aA (yH _ _)⟩
 case round=>
  obtain ⟨k,hk,rfl,HO,HB⟩:=hrel;by_cases hlt:k<ml
  ·obtain ⟨b,off,rfl,hq⟩:=(((uH HR).below (uH HB0)).below (uH HB)).at hlt;(have hkl:k<ms.length:=by have:=uH HL;omega);have hst:=aA (xO hkl);obtain ⟨c0,c1,c2,c3⟩:=hq hkl;obtain ⟨m,hs⟩:∃q,ms[k]=q:=⟨_,rfl⟩;rw [hs] at c0 c1 c2 c3 hst;(have hal:(aX (ms.take k)).length≤1048576:=by simp [aX];omega);obtain ⟨acc,Gx⟩:∃a,aX (ms.take k)=a:=⟨_,rfl⟩;rw [Gx] at hst hal HO;obtain ⟨nm,me,cp,se⟩:=m;simp only at c0 c1 c2 c3 hst;have HB2:=aA (yA (uH HB) (uD ⟨nm,me,cp,se⟩));have GJ:=aA ((uH HO).below (yA (yH _ wr) (uD ⟨nm,me,cp,se⟩)));have hs2:(sZ w c).heap.size≤(wr.alloc (uD ⟨nm,me,cp,se⟩)).heap.size:=(uH HB2).size;have Hq:(wr.alloc (uD ⟨nm,me,cp,se⟩)).ownsRow (sZ w c).heap.size 33 2 _ acc.length (iQ acc):=uH GJ;clear hq hs hkl Gx HO HB;(go_wp2_with (at_builtin;refine wpList_append_own _ rfl _ _ 114 rfl (sZ w c).heap.size 33 i0 (.agg #[.int .i64 0,.int .i64 0]) 2 16 underlying114 hi hz0 hz1 hz2 rfl (by decide) _ _ _ rfl (Hq.alloc _) ⟨wr.heap.size+1,0,none⟩ 1 1 (y7 (me,cp)) rfl rfl ?c1 ?c2 ?c3 ?c4 ?c5 ?_));case c1=>
    intro j x hj
    match j,hj with
    | 0,hj=>simp at hj;subst hj;simp [Addr.add]
    | 1,hj=>simp at hj;subst hj;simp [Addr.add]
    | _+2,hj=>simp at hj
   (case c2=>intro x hx;simp at hx;rcases hx with rfl | rfl<;>rfl);(case c3=>unfold maxLen;omega);(case c4=>omega);(case c5=>simp at hs2 ⊢;omega);intro v' w3 Hy Hw _;have R:=lU (q:=(me,cp)) (uH HB2) (uH GJ) Hy Hw hs2;have HR3:=aA R;clear Hy Hw Hq c0 c1 c2 c3 R;go_wp2;go_roundw;(case rel=>exact ⟨k+1,by omega,by go_num,aA (by rw [uH hst];exact (uH HR3).1),aA (uH HR3).2⟩);case measure=>simp [intOf];omega
  ·have htk:ms.take k=ms:=List.take_of_length_le (by have:=uH HL;omega);rw [htk] at HO;obtain ⟨ao,cp,rfl,Hz,hcp⟩:=(uH HO).row;(have hlc:(aX ms).length≤1048576:=by have:=uH HL;simp [aX];omega);have CT:=aA (nI ao _ cp (aX ms) wr Hz hlc);rw [uH HS] at CT;obtain ⟨n,hn⟩:∃n,(aX ms).length=n:=⟨_,rfl⟩;rw [hn] at CT ⊢;clear Hz hn htk hcp hlc HO;(go_wp2_with fail);refine (uH CT).mono ?_;rintro e w1 ⟨rfl,hb⟩;(have hsz:w.heap.size+1<(sZ w c).heap.size:=by have:=uH HW;omega);have V1:Var w1 33 (w.heap.size+1) 0 0:=Var.below ((uH HB).block _ hsz |>.trans (uH V0)) hb;have HB1:=aA (yB (yB (uH HB0) (uH HB)) hb);have t0:=V1.c0;have t1:=V1.c1;have f0:=V1.f 0;have f1:=V1.f 1;have k4:=V1.s0 (.int .i64 sx);have k5:=V1.s1 (.int .i64 sx) (.int .i64 sy);clear hb V1 CT HB HB0;go_wp2;refine bodyPost_ret (v:=.tuple #[rv sx sy,.bool so]) (by simp [results,results94,go_sem,k4,k5]) rfl ⟨rfl,?_⟩;repeat (first | exact uH HB1 | refine yC ?_ _ _ _ (by omega))
theorem mQ (x:Sls) (s:St) (w:World) (h:cB w x.ma x.ml s.ms) (hl:x.ml≤1048576) :
  cP 30 #[sv x s] w fun e w'=>e=.returned (rv (iC (aX s.ms)).1 (iC (aX s.ms)).2.1)∧Bw w w':=by
 have HR:=aA h;clear h;obtain ⟨⟨sx,sy,so⟩,hs⟩:∃y,iC (aX s.ms)=y:=⟨_,rfl⟩;have CC:=aA (fun wx (hb:Bw w wx)=>by have:=aEM x s wx ((uH HR).below hb) hl;rw [hs] at this;exact this);rw [hs];clear hs;obtain ⟨qa,ql,qc,aa,al,ac,ma,ml,mc,ca,cl,cc⟩:=x;obtain ⟨qs,cv,ez,ny,sj,aj,ms,cs⟩:=s;go_enter func30,ntmps30;go_wp2_with fail;refine (uH CC _ (dG w _)).mono ?_;rintro e w1 ⟨rfl,hb⟩;have V1:=(iY w _).below hb;have HB1:=aA (yB (dG w _) hb);have V2:=V1.al (.cells #[.int .i64 sx,.int .i64 sy] 33);have t0:=V2.c0;have t1:=V2.c1;have f0:=V2.f 0;have f1:=V2.f 1;have u0:=V1.c0;have u1:=V1.c1;have e0:=V1.f 0;have e1:=V1.f 1;have VG:=V2.set sx sy;have k6:=VG.c0;have k7:=VG.c1;clear hb V1 V2 VG CC;go_wp2;refine bodyPost_ret (v:=rv sx sy) (by simp [results,results30,go_sem,k6,k7]) rfl ⟨rfl,?_⟩;repeat (first | exact uH HB1 | refine yA ?_ _ | refine yC ?_ _ _ _ (by omega))
abbrev aCS (m:Con):Obj:=.cells #[.int .i64 m.id,.int .i64 m.app,.string (bs m.node),.int .i64 m.mem,.int .i64 m.cpu] 35
theorem vH {p:Con→Bool} (l:List Con):(aO p l).length≤l.length:=by simp [aO];exact List.length_filter_le _ _
theorem aH8 (g:Nat) (lb:Array Value) (eg:∀args w,(callFunc g args).run Tryz.prog w=.ok (.enter g args) w) (p:Con→Bool) (x:Sls) (s:St) (w:World) (h:bR w x.ca x.cl s.cs) (hl:x.cl≤1048576)
  (hp:∀wx q,Bw w wx→Calls Tryz.prog g (#[conv q]++lb) wx fun e w'=>e=.returned (.bool (p q))∧Bw wx w') :
  cP 90 #[sv x s,.func (.func g) #[] lb] w fun e w'=>e=.returned (rv (iC (aO p s.cs)).1 (iC (aO p s.cs)).2.1)∧Bw w w':=by
 obtain ⟨i0,hi,hz0,hz1,hz2⟩:=info_parts Tryz.infoR;obtain ⟨qa,ql,qc,aa,al,ac,ma,ml,mc,ca,cl,cc⟩:=x;obtain ⟨qs,cv,ez,ny,sj,aj,ms,cs⟩:=s;simp only at h hl ⊢;have HR:=aA h;have HL:=aA h.1;have HP:=aA hp;obtain ⟨c,hc⟩:∃c:Array Value,#[.slice qa ql qc,.int .i64 cv,.int .i64 ez,.int .i64 ny,.int .i64 sj,.slice aa al ac,.slice ma ml mc,.slice ca cl cc]=c:=⟨_,rfl⟩;have HC:=aA hc;have HB0:=aA (dG w c);have V0:=aA (iY w c);have HW:=aA (rG w c);clear h hc hp;obtain ⟨⟨sx,sy,so⟩,hs⟩:∃s,iC (aO p cs)=s:=⟨_,rfl⟩;have HS:=aA hs;rw [hs];clear hs;go_enter func90,ntmps90;go_wp2;go_loopw [5,13] (fun v i wr=>∃(k:Nat),k≤cl∧i=.int .i64 k∧Hid (yR (sZ w c).heap.size wr v (aO p (cs.take k)))∧Hid (Below (sZ w c).heap.size (sZ w c) wr)) (fun _ i _=>cl - (intOf i).toNat);case atStart=>obtain rfl:=uH HC;exact ⟨0,Nat.zero_le _,rfl,aA (by simpa [aO] using aAf _ _),aA (yH _ _)⟩
 case round=>
  obtain ⟨k,hk,rfl,HO,HB⟩:=hrel;by_cases hlt:k<cl
  ·obtain ⟨b,off,rfl,hq⟩:=(((uH HR).below (uH HB0)).below (uH HB)).at hlt;(have hkl:k<cs.length:=by have:=uH HL;omega);have hst:=oF (p:=p) hkl;obtain ⟨c0,c1,c2,c3,c4⟩:=hq hkl;obtain ⟨m,hs⟩:∃q,cs[k]=q:=⟨_,rfl⟩;rw [hs] at c0 c1 c2 c3 c4 hst;(have hal:(aO p (cs.take k)).length≤1048576:=by have:=vH (p:=p) (cs.take k);simp at this;omega);obtain ⟨acc,Gx⟩:∃a,aO p (cs.take k)=a:=⟨_,rfl⟩;rw [Gx] at hst hal HO;obtain ⟨id,ap,nd,me,cp⟩:=m;simp only at c0 c1 c2 c3 c4 hst;have QS:=aA (yA (yH _ wr) (aCS ⟨id,ap,nd,me,cp⟩));have QY:=aA (uH HP (wr.alloc (aCS ⟨id,ap,nd,me,cp⟩)) ⟨id,ap,nd,me,cp⟩ (yB (yB (uH HB0) (uH HB)) (uH QS)));have KB:=aA (yD wr #[.int .i64 id,.int .i64 ap,.string (bs nd),.int .i64 me,.int .i64 cp] 35);clear hq hs hkl Gx;cases hpq:p ⟨id,ap,nd,me,cp⟩ with
   | true=>
    rw [hpq] at QY;rw [hpq,if_pos rfl] at hst;have HST:=aA hst;clear hpq hst;go_wp2_with (first
     | (go_at_fn g;refine (uH QY).mono ?_;rintro e w1 ⟨rfl,hb⟩;have HB1:=aA (yB (yB (uH HB) (uH QS)) hb);have ZI:=aA (((uH HO).below (uH QS)).below hb);have b1:=(uH KB).below hb;have q3:=b1.at 3;have q4:=b1.at 4;simp at q3 q4;have hs2:(sZ w c).heap.size≤w1.heap.size:=(uH HB1).size;have Hq:w1.ownsRow (sZ w c).heap.size 33 2 _ acc.length (iQ acc):=uH ZI;clear b1 hb QY c0 c1 c2 c3 c4 HO HB)
     | (at_builtin;refine wpList_append_own _ rfl _ _ 114 rfl (sZ w c).heap.size 33 i0 (.agg #[.int .i64 0,.int .i64 0]) 2 16 underlying114 hi hz0 hz1 hz2 rfl (by decide) _ _ _ rfl (Hq.alloc _) ⟨w1.heap.size,0,none⟩ 1 1 (y7 (me,cp)) rfl rfl ?c1 ?c2 ?c3 ?c4 ?c5 ?_))
    case c1=>
     intro j x hj
     match j,hj with
     | 0,hj=>simp at hj;subst hj;simp [Addr.add]
     | 1,hj=>simp at hj;subst hj;simp [Addr.add]
     | _+2,hj=>simp at hj
    (case c2=>intro x hx;simp at hx;rcases hx with rfl | rfl<;>rfl);(case c3=>unfold maxLen;omega);(case c4=>omega);(case c5=>simp at hs2 ⊢;omega);intro v' w3 Hy Hw _;have R:=lU (q:=(me,cp)) (uH HB1) (uH ZI) Hy Hw hs2;have HR3:=aA R;clear Hy Hw Hq R q3 q4;go_wp2;go_roundw;(case rel=>exact ⟨k+1,by omega,by go_num,aA (by rw [uH HST];exact (uH HR3).1),aA (uH HR3).2⟩);case measure=>simp [intOf];omega
   | false=>rw [hpq] at QY;rw [hpq,if_neg (by simp)] at hst;have HST:=aA hst;clear hpq hst;(go_wp2_with (go_at_fn g;refine (uH QY).mono ?_;rintro e w1 ⟨rfl,hb⟩;have HB1:=aA (yB (yB (uH HB) (uH QS)) hb);have ZI:=aA (((uH HO).below (uH QS)).below hb);clear hb QY c0 c1 c2 c3 c4 HO HB));go_roundw;(case rel=>exact ⟨k+1,by omega,by go_num,aA (by rw [uH HST];exact uH ZI),HB1⟩);case measure=>simp [intOf];omega
  ·have htk:cs.take k=cs:=List.take_of_length_le (by have:=uH HL;omega);rw [htk] at HO;obtain ⟨ao,cp,rfl,Hz,hcp⟩:=(uH HO).row;(have hlc:(aO p cs).length≤1048576:=by have:=vH (p:=p) cs;have:=uH HL;omega);have CT:=aA (nI ao _ cp (aO p cs) wr Hz hlc);rw [uH HS] at CT;obtain ⟨n,hn⟩:∃n,(aO p cs).length=n:=⟨_,rfl⟩;rw [hn] at CT ⊢;clear Hz hn htk hcp hlc HO;(go_wp2_with fail);refine (uH CT).mono ?_;rintro e w1 ⟨rfl,hb⟩;(have hsz:w.heap.size+1<(sZ w c).heap.size:=by have:=uH HW;omega);have V1:Var w1 33 (w.heap.size+1) 0 0:=Var.below ((uH HB).block _ hsz |>.trans (uH V0)) hb;have HB1:=aA (yB (yB (uH HB0) (uH HB)) hb);have V2:=V1.al (.cells #[.int .i64 sx,.int .i64 sy] 33);have t0:=V2.c0;have t1:=V2.c1;have f0:=V2.f 0;have f1:=V2.f 1;have VG:=V2.set sx sy;have k6:=VG.c0;have k7:=VG.c1;clear hb V1 V2 VG CT HB HB0;go_wp2;refine bodyPost_ret (v:=rv sx sy) (by simp [results,results90,go_sem,k6,k7]) rfl ⟨rfl,?_⟩;repeat (first | exact uH HB1 | refine yA ?_ _ | refine yC ?_ _ _ _ (by omega))
def lW (t:Int×Int):List Int→Int×Int
 | []=>t
 | n::r=>(eY (lW t r).1 (lW t r).2 n,eZ (lW t r).1 (lW t r).2 n)
def jM (most:Bool) (u:List Q):List Int:=(u.takeWhile (fun q=>decide (q.parent≠[]))).map (dQ most)
theorem aBR {l:List Q} (h:aF l=true) (most:Bool) (t:Int×Int):∀(n:Nat) (p:Int),p<n→lW t (jM most (aD9 l n p))=ofP l most t ((aD9 l n p).map Q.name)
 | 0,_,_=>rfl
 | n+1,p,hn=>by
  rw [aD9];split
  ·rename_i hp;have hq:=aHr h p.toNat hp.2;have ha:=jK h hp.2;simp only [qOk,yK,yL] at hq;(have hb:uR l l[p.toNat].name=l[p.toNat]:=by rw [uR,hq.1.1.1.2,Int.toNat_natCast,List.getD_eq_getElem?_getD,List.getElem?_eq_getElem hp.2];rfl);by_cases hz:l[p.toNat].parent=[]
   ·(have hm:place l l[p.toNat].parent = -1:=by rw [hz];exact jI (aDv h));have hu:aD9 l n (place l l[p.toNat].parent)=[]:=by
     rw [hm];cases n with
     | zero=>rfl
     | succ n=>rw [aD9,dif_neg (by omega)]
    rw [hu];simp [jM,hz,lW,ofP]
   ·have hi:p.toNat≠0:=fun e=>by
     have:=hq.2;rw [if_pos e] at this;simp only [yK,yL] at this;exact hz this.1
    have hpl:=hq.2;rw [if_neg hi] at hpl;simp only [inB,yL] at hpl;have ih:=aBR h most t n (place l l[p.toNat].parent) (by omega);obtain ⟨r,hr⟩:∃r,aD9 l n (place l l[p.toNat].parent)=r:=⟨_,rfl⟩;have hne:r≠[]:=by
     rw [←hr];cases n with
     | zero=>omega
     | succ n=>rw [aD9,dif_pos ⟨hpl.1,by omega⟩];simp
    rw [hr] at ih ⊢;cases r with
    | nil=>exact absurd rfl hne
    | cons y r=>rw [List.map_cons,List.map_cons,ofP,hb];rw [List.map_cons] at ih;rw [←ih];simp only [jM,List.takeWhile_cons (a:=l[p.toNat])];simp only [hz,ne_eq,not_false_eq_true,decide_true,if_true,List.map_cons,lW]
  ·simp [jM,lW,ofP]
theorem aHa (h:aF l=true) (nm:List UInt8) (a b:Int) (most:Bool) (hp:0≤place l nm) (hr:aQ a b=true):ofR l nm a b most=lW (a,b) (jM most (ups l nm)):=by
 have hr':=eT l nm;have e:=aA4 h nm;have hne:path l nm≠[]:=by rw [←e,aFd h,aD9,dif_pos ⟨hp,by omega⟩];simp
 rw [ofR,if_neg (by simp [hne,hr]),←e,aFd h,aBR h most (a,b) _ _ (by omega)]
theorem aGP (h:aF l=false) (nm:List UInt8) (a b:Int) (most:Bool):ofR l nm a b most=(0,0):=by rw [ofR,path,h];simp
theorem aGO {nm:List UInt8} (h:place l nm<0) (a b:Int) (most:Bool):ofR l nm a b most=(0,0):=by
 have:path l nm=[]:=by rw [path];split;exact aDq h;rfl
 rw [ofR,this];simp
theorem aGN (l:List Q) (nm:List UInt8) (h:aQ a b=false) (most:Bool):ofR l nm a b most=(0,0):=by rw [ofR,h];simp
def VB (w1 w:World) (g:Nat) (x y:Int):Prop:=w1.heap.size≤g∧Var w 33 g x y
theorem VB.below (h:VB w1 w g x y) (hb:Bw w w'):VB w1 w' g x y:=⟨h.1,h.2.below hb⟩
theorem VB.al (h:VB w1 w g x y) (o:Obj):VB w1 (w.alloc o) g x y:=⟨h.1,h.2.al o⟩
theorem VB.ne (h:VB w1 w g x y):g≠w.heap.size:=Nat.ne_of_lt h.2.lt
theorem aJv (h:Bw w1 w):VB w1 (w.alloc (.cells #[.int .i64 0,.int .i64 0] 33)) w.heap.size 0 0:=⟨h.size,aM w _ 0 0⟩
theorem VB.set (h:VB w1 w g a b) (x y:Int):VB w1 ((w.setCell ⟨g,0,none⟩ (.int .i64 x)).setCell ⟨g,1,none⟩ (.int .i64 y)) g x y:=⟨h.1,h.2.set x y⟩
theorem VB.off (h:VB w1 w g a b) (hn:g≠k):VB w1 ((w.setCell ⟨k,0,none⟩ u).setCell ⟨k,1,none⟩ v) g a b:=⟨h.1,(h.2.other k 0 u hn).other k 1 v hn⟩
theorem VB.kp (h:VB w1 w g a b) (hk:Bw w1 w):Bw w1 ((w.setCell ⟨g,0,none⟩ u).setCell ⟨g,1,none⟩ v):=yC (yC hk _ _ _ h.1) _ _ _ h.1
def aFF:Nat→List (List Bool)
 | 0=>[[]]
 | k+1=>(aFF k).map (false :: ·)++(aFF k).map (true :: ·)
theorem aBj:∀(f:List Bool),f ∈ aFF f.length
 | []=>by simp [aFF]
 | b::t=>by
  have:=aBj t;cases b<;>simp [aFF,this]
structure Mul where
 n:Nat
 cs:List Nat
 al:List Nat
 st:List Nat
 l0:List Bool
def Mul.lst (M:Mul) (c:Nat) (f:List Bool) (s:Nat):Array Bool:=
 ((List.range M.n).map fun i=>M.l0.getD i false||((M.cs.take c).contains i||(((M.al.zip f).any fun p=>p.1==i&&p.2)||(M.st.take s).contains i))).toArray
def Mul.nxt (M:Mul) (c:Nat) (f:List Bool) (s:Nat):List (Nat×Nat):=
 (List.range M.n).filterMap fun i=>
  if M.cs[c]? = some i then some (i,0)
  else match (List.range M.al.length).find? (fun j=>M.al[j]? == some i&&f[j]? == some false) with
   | some j=>some (i,j+2)
   | none=>if decide (c=M.cs.length)&&(f.all id&&decide (M.st[s]? = some i)) then some (i,1) else none
def Mul.to (c:Nat) (f:List Bool) (s:Nat):Nat→Nat×List Bool×Nat
 | 0=>(c+1,f,s)
 | 1=>(c,f,s+1)
 | j+2=>(c,f.set j true,s)
def Mul.one (M:Mul) (md:Region.Mode) (ops:Array Oper) (c:Nat) (f:List Bool) (s:Nat):Bool:=
 decide (Region.ready md ops (M.lst c f s)=(M.nxt c f s).map (·.1)) &&
 ((M.nxt c f s).isEmpty==(decide (c=M.cs.length)&&(f.all id&&decide (s=M.st.length)))) &&
 (M.nxt c f s).all fun p=>decide ((M.lst c f s).setIfInBounds p.1 true=M.lst (Mul.to c f s p.2).1 (Mul.to c f s p.2).2.1 (Mul.to c f s p.2).2.2) &&
  (match p.2 with | 0=>decide (M.cs[c]? = some p.1) | 1=>decide (c=M.cs.length)&&(f.all id&&decide (M.st[s]? = some p.1)) | j+2=>decide (M.al[j]? = some p.1)&&f[j]? == some false)
def Mul.ok (M:Mul) (md:Region.Mode) (ops:Array Oper):Bool:=
 decide (M.al.length=M.st.length)&&((List.range (M.cs.length+1)).all fun c=>(aFF M.al.length).all fun f=>M.one md ops c f 0)&&(List.range (M.st.length+1)).all fun s=>M.one md ops M.cs.length (List.replicate M.al.length true) s
theorem rJ {f:List Bool} (h:f.all id=true):f=List.replicate f.length true:=by
 induction f with
 | nil=>rfl
 | cons b t ih=>simp only [List.all_cons,id,yK] at h;rw [List.length_cons,List.replicate_succ,←ih h.2,h.1]
theorem Mul.at {M:Mul} {md:Region.Mode} (h:M.ok md ops=true) {c:Nat} {f:List Bool} {s:Nat} (hc:c≤M.cs.length) (hf:f.length=M.al.length) (hs:s≤M.st.length) (h0:0<s→c=M.cs.length∧f.all id=true):M.one md ops c f s=true:=by
 simp only [Mul.ok,yK,List.all_eq_true,List.mem_range] at h;obtain ⟨⟨_,h1⟩,h2⟩:=h;by_cases e:s=0
 ·subst e;exact h1 c (by omega) f (by rw [←hf];exact aBj f)
 ·obtain ⟨rfl,h3⟩:=h0 (by omega);have:=rJ h3;rw [hf] at this;rw [this];exact h2 s (by omega)
def Mul.step (P:Program) (ops:Array Oper) (Q:Exit→Act→World→Prop) (i:Nat) (a:Act) (w:World) (K:Act→World→Prop):Prop:=
 ∃o,ops[i]? = some o∧(if Region.wanted o (yielded ops a.tmps)=true then Oper.wp P o a w K Q else K (a.put o.dst undef) w)
theorem aGw {f:List Bool} (h:f[j]? = some false):(f.set j true).count false+1=f.count false:=by
 induction f generalizing j with
 | nil=>simp at h
 | cons b t ih=>
  cases j with
  | zero=>simp at h;subst h;simp
  | succ j=>simp at h;have:=ih h;simp only [sC,List.count_cons];omega
theorem aAW {f:List Bool} (h:f.all id=true):f.count false=0:=by rw [rJ h];simp [List.count_replicate]
theorem aFb {md:Region.Mode} {Q:Exit→Act→World→Prop} {S:World→Prop} {n n':Nat} {l l':Array Bool} {a a':Act} (hn:n=n') (hl:l=l') (ha:a=a') (h:wpAnyH P md ops Q S n' l' a' w):wpAnyH P md ops Q S n l a w:=by
 subst hn hl ha;exact h
def aIA (b:Bool) (g:Nat):Value:=match b with | true=>.pointer (some ⟨g,0,none⟩) | false=>undef
def aHz (b:Bool) (v:Value):Value:=match b with | true=>v | false=>undef
theorem aEs {α:Type} {l:List α} (h:l.length=4):∃a b c d,l=[a,b,c,d]:=by
 match l,h with
 | [a,b,c,d],_=>exact ⟨a,b,c,d,rfl⟩
theorem aB2 {md:Region.Mode} {Q:Exit→Act→World→Prop} (M:Mul) (Fr:Nat→List Bool→List Nat→Act) (vals:List (Int×Int)) (hv:vals.length=M.al.length)
  (hok:M.ok md ops=true)
  (hcall:∀c f us w K,c<M.cs.length→f.length=M.al.length→us.length=M.al.length→Kp w1 w→(∀w',Bw w w'→K (Fr (c+1) f us) w')→Mul.step P ops Q (M.cs.getD c 0) (Fr c f us) w K)
  (hal:∀j c f us w K,c≤M.cs.length→f.length=M.al.length→us.length=M.al.length→f[j]? = some false→K (Fr c (f.set j true) (us.set j w.heap.size)) (w.alloc (.cells #[.int .i64 0,.int .i64 0] 33))→Mul.step P ops Q (M.al.getD j 0) (Fr c f us) w K)
  (hst:∀s us w K,s<M.al.length→us.length=M.al.length→Var w 33 (us.getD s 0) 0 0→K (Fr M.cs.length (List.replicate M.al.length true) us) ((w.setCell ⟨us.getD s 0,0,none⟩ (.int .i64 (vals.getD s (0,0)).1)).setCell ⟨us.getD s 0,1,none⟩ (.int .i64 (vals.getD s (0,0)).2))→Mul.step P ops Q (M.st.getD s 0) (Fr M.cs.length (List.replicate M.al.length true) us) w K)
  (fin:∀us w,us.length=M.al.length→(∀j,j<M.al.length→VB w1 w (us.getD j 0) (vals.getD j (0,0)).1 (vals.getD j (0,0)).2)→Kp w1 w→Q .normal (Fr M.cs.length (List.replicate M.al.length true) us) w)
  (w:World) (hw:Kp w1 w):wpAnyH P md ops Q (Kp w1) (M.cs.length+M.al.length+M.al.length) (M.lst 0 (List.replicate M.al.length false) 0) (Fr 0 (List.replicate M.al.length false) (List.replicate M.al.length 0)) w:=by
 have hla:M.al.length=M.st.length:=by have:=hok;simp only [Mul.ok,yK,yL] at this;exact this.1.1
 refine oD (fun n lz az wz=>∃c f us s,c≤M.cs.length∧f.length=M.al.length∧us.length=M.al.length∧s≤M.al.length∧(0<s→c=M.cs.length∧f.all id=true)∧n=(M.cs.length - c)+f.count false+(M.al.length - s)∧lz=M.lst c f s∧az=Fr c f us
   ∧(∀j,f[j]? = some true→VB w1 wz (us.getD j 0) (if j<s then (vals.getD j (0,0)).1 else 0) (if j<s then (vals.getD j (0,0)).2 else 0))∧(∀i j,f[i]? = some true→f[j]? = some true→i≠j→us.getD i 0≠us.getD j 0)∧Kp w1 wz) ?_ ?_ _ _ _ _ ⟨0,_,_,0,Nat.zero_le _,by simp,by simp,Nat.zero_le _,fun h=>absurd h (by omega),by simp,rfl,rfl,fun j hj=>by simp [List.getElem?_replicate] at hj,fun i j hi=>by simp [List.getElem?_replicate] at hi,hw⟩
 ·rintro n lz az wz ⟨c,f,us,s,hc,hf,hu,hs,h0,hn,rfl,rfl,hV,hD,hk⟩;have gz:=Mul.at hok hc hf (by omega) h0;simp only [Mul.one,yK,yL,List.all_eq_true] at gz;obtain ⟨⟨hr,he⟩,zw⟩:=gz;have hne:(M.nxt c f s).map (·.1)≠[]:=fun e=>by
   have e':M.nxt c f s=[]:=List.map_eq_nil_iff.1 e;rw [e'] at he;simp only [List.isEmpty_nil,beq_iff_eq] at he;have he':=he.symm;simp only [yK,yL] at he';have:=aAW he'.2.1;omega
  refine bT hr hne (fun i hi=>?_);obtain ⟨⟨i',k⟩,hp,rfl⟩:=List.mem_map.1 hi;obtain ⟨Q8,hk'⟩:=zw _ hp;simp only at Q8 hk'
  match k,Q8,hk' with
  | 0,Q8,hk'=>
   simp only [yL] at hk';have hlt:c<M.cs.length:=(List.getElem?_eq_some_iff.1 hk').1;(have hcd:M.cs.getD c 0=i':=by rw [List.getD_eq_getElem?_getD,hk'];rfl);obtain ⟨o,ho,hh⟩:=hcall c f us wz (fun a' w'=>Kp w1 w'∧∃c' f' us' s',c'≤M.cs.length∧f'.length=M.al.length∧us'.length=M.al.length∧s'≤M.al.length∧(0<s'→c'=M.cs.length∧f'.all id=true)∧n=(M.cs.length - c')+f'.count false+(M.al.length - s')∧(M.lst c f s).setIfInBounds i' true=M.lst c' f' s'∧a'=Fr c' f' us'∧(∀j,f'[j]? = some true→VB w1 w' (us'.getD j 0) (if j<s' then (vals.getD j (0,0)).1 else 0) (if j<s' then (vals.getD j (0,0)).2 else 0))∧(∀i j,f'[i]? = some true→f'[j]? = some true→i≠j→us'.getD i 0≠us'.getD j 0)∧Kp w1 w') hlt hf hu hk
    (fun w' hb=>⟨yB hk hb,c+1,f,us,s,hlt,hf,hu,hs,fun h=>absurd (h0 h).1 (by omega),by omega,Q8,rfl,fun j hj=>(hV j hj).below hb,hD,yB hk hb⟩)
   rw [hcd] at ho;exact wpOp_step ho (fun K' hK=>by
    split
    ·rename_i hw;rw [if_pos hw] at hh;exact Oper.wp_mono (fun _ _ h=>hK _ _ h) hh
    ·rename_i hw;rw [if_neg hw] at hh;exact hK _ _ hh)
  | 1,Q8,hk'=>
   simp only [yK,yL] at hk';obtain ⟨rfl,hft,jw⟩:=hk';(have hsl:s<M.al.length:=by rw [hla];exact (List.getElem?_eq_some_iff.1 jw).1);have ZP:=rJ hft;rw [hf] at ZP;(have hj:f[s]? = some true:=by rw [ZP,List.getElem?_replicate,if_pos hsl]);(have hcd:M.st.getD s 0=i':=by rw [List.getD_eq_getElem?_getD,jw];rfl);have hvs:=hV s hj;rw [if_neg (by omega),if_neg (by omega)] at hvs;obtain ⟨o,ho,hh⟩:=hst s us wz (fun a' w'=>Kp w1 w'∧∃c' f' us' s',c'≤M.cs.length∧f'.length=M.al.length∧us'.length=M.al.length∧s'≤M.al.length∧(0<s'→c'=M.cs.length∧f'.all id=true)∧n=(M.cs.length - c')+f'.count false+(M.al.length - s')∧(M.lst M.cs.length f s).setIfInBounds i' true=M.lst c' f' s'∧a'=Fr c' f' us'∧(∀j,f'[j]? = some true→VB w1 w' (us'.getD j 0) (if j<s' then (vals.getD j (0,0)).1 else 0) (if j<s' then (vals.getD j (0,0)).2 else 0))∧(∀i j,f'[i]? = some true→f'[j]? = some true→i≠j→us'.getD i 0≠us'.getD j 0)∧Kp w1 w') hsl hu hvs.2
    ⟨hvs.kp hk,M.cs.length,f,us,s+1,yJ _,hf,hu,hsl,fun _=>⟨rfl,hft⟩,by have:=aAW hft;omega,Q8,by rw [←ZP],fun j hj'=>by
     by_cases e:j=s
     ·subst e;rw [if_pos (by omega),if_pos (by omega)];exact hvs.set _ _
     ·have h1:=(hV j hj').off (hD j s hj' hj e) (u:=.int .i64 (vals.getD s (0,0)).1) (v:=.int .i64 (vals.getD s (0,0)).2);by_cases e2:j<s
      ·rw [if_pos e2,if_pos e2] at h1;rw [if_pos (by omega),if_pos (by omega)];exact h1
      ·rw [if_neg e2,if_neg e2] at h1;rw [if_neg (by omega),if_neg (by omega)];exact h1,hD,hvs.kp hk⟩
   rw [hcd] at ho;rw [ZP];rw [←ZP] at hh ⊢;exact wpOp_step ho (fun K' hK=>by
    rw [ZP] at hK ⊢;rw [ZP] at hh;split
    ·rename_i hw;rw [if_pos hw] at hh;exact Oper.wp_mono (fun _ _ h=>hK _ _ h) hh
    ·rename_i hw;rw [if_neg hw] at hh;exact hK _ _ hh)
  | j+2,Q8,hk'=>
   simp only [yK,yL,beq_iff_eq] at hk';obtain ⟨ha,hfj⟩:=hk';have hjl:j<M.al.length:=(List.getElem?_eq_some_iff.1 ha).1;(have hcd:M.al.getD j 0=i':=by rw [List.getD_eq_getElem?_getD,ha];rfl);have hs0:s=0:=by
    by_cases e:s=0
    ·exact e
    ·have h1:=rJ (h0 (by omega)).2;rw [h1,List.getElem?_replicate,if_pos (by omega)] at hfj;cases hfj
   obtain ⟨o,ho,hh⟩:=hal j c f us wz (fun a' w'=>Kp w1 w'∧∃c' f' us' s',c'≤M.cs.length∧f'.length=M.al.length∧us'.length=M.al.length∧s'≤M.al.length∧(0<s'→c'=M.cs.length∧f'.all id=true)∧n=(M.cs.length - c')+f'.count false+(M.al.length - s')∧(M.lst c f s).setIfInBounds i' true=M.lst c' f' s'∧a'=Fr c' f' us'∧(∀j,f'[j]? = some true→VB w1 w' (us'.getD j 0) (if j<s' then (vals.getD j (0,0)).1 else 0) (if j<s' then (vals.getD j (0,0)).2 else 0))∧(∀i j,f'[i]? = some true→f'[j]? = some true→i≠j→us'.getD i 0≠us'.getD j 0)∧Kp w1 w') hc hf hu hfj
    ⟨yA hk _,c,f.set j true,us.set j wz.heap.size,s,hc,by simpa using hf,by simpa using hu,hs,fun h=>absurd h (by omega),by have:=aGw hfj;omega,Q8,rfl,fun x hx=>by
     subst hs0;rw [if_neg (by omega),if_neg (by omega)];by_cases e:x=j
     ·subst e;rw [List.getD_eq_getElem?_getD,List.getElem?_set_self (by omega)];exact aJv hk
     ·rw [List.getElem?_set_ne (fun h=>e h.symm)] at hx;rw [List.getD_eq_getElem?_getD,List.getElem?_set_ne (fun h=>e h.symm),←List.getD_eq_getElem?_getD];have:=hV x hx;rw [if_neg (by omega),if_neg (by omega)] at this;exact this.al _,fun x y hx hy YL=>by
     by_cases e:x=j
     ·subst e;by_cases e2:y=x
      ·exact absurd e2.symm YL
      ·rw [List.getElem?_set_ne (fun h=>e2 h.symm)] at hy;rw [List.getD_eq_getElem?_getD,List.getElem?_set_self (by omega),List.getD_eq_getElem?_getD,List.getElem?_set_ne (fun h=>e2 h.symm),←List.getD_eq_getElem?_getD];exact (hV y hy).ne.symm
     ·rw [List.getElem?_set_ne (fun h=>e h.symm)] at hx;rw [List.getD_eq_getElem?_getD (l:=us.set j wz.heap.size) (i:=x),List.getElem?_set_ne (fun h=>e h.symm),←List.getD_eq_getElem?_getD];by_cases e2:y=j
      ·subst e2;rw [List.getD_eq_getElem?_getD (l:=us.set y wz.heap.size),List.getElem?_set_self (by omega)];exact (hV x hx).ne
      ·rw [List.getElem?_set_ne (fun h=>e2 h.symm)] at hy;rw [List.getD_eq_getElem?_getD (l:=us.set j wz.heap.size),List.getElem?_set_ne (fun h=>e2 h.symm),←List.getD_eq_getElem?_getD];exact hD x y hx hy YL,yA hk _⟩
   rw [hcd] at ho;exact wpOp_step ho (fun K' hK=>by
    split
    ·rename_i hw;rw [if_pos hw] at hh;exact Oper.wp_mono (fun _ _ h=>hK _ _ h) hh
    ·rename_i hw;rw [if_neg hw] at hh;exact hK _ _ hh)
 ·rintro lz az wz ⟨c,f,us,s,hc,hf,hu,hs,h0,hn,rfl,rfl,hV,hD,hk⟩;have gz:=Mul.at hok hc hf (by omega) h0;simp only [Mul.one,yK,yL,List.all_eq_true] at gz;obtain ⟨⟨hr,he⟩,_⟩:=gz;have hcc:c=M.cs.length:=by omega
  have hfa:f.all id=true:=by
   rw [List.all_eq_true];intro b hb;cases b with
   | true=>rfl
   | false=>have:=List.count_pos_iff.2 hb;omega
  have hss:s=M.al.length:=by omega
  subst hcc hss;have hf':=rJ hfa;rw [hf] at hf';refine ⟨?_,?_⟩
  ·(rw [hr];have:(M.nxt M.cs.length f M.al.length).isEmpty=true:=by simp only [beq_iff_eq] at he;rw [he,hfa,hla];simp);rw [List.isEmpty_iff.1 this];rfl
  ·rw [hf'];refine fin us wz hu (fun j hj=>?_) hk;have:=hV j (by rw [hf',List.getElem?_replicate,if_pos hj]);rw [if_pos hj,if_pos hj] at this;exact this
def CSt (w0:World) (B g:Nat) (ao:Option Addr) (len cap:Nat) (w:World):Prop:=Cur w g ao len cap∧Code w B ao len∧w0.grownBy w (some g)∧B≤g
theorem CSt.step {len:Nat} (h:CSt w0 B g ao len cap w) (hc:Cur w' g ao len cap) (hg:w.grownBy w' (some g)):CSt w0 B g ao len cap w':=
 ⟨hc,h.2.1.grown hg h.2.2.2,bW h.2.2.1 hg,h.2.2.2⟩
theorem CSt.below {len:Nat} (h:CSt w0 B g ao len cap w) (hb:Bw w w'):CSt w0 B g ao len cap w':=
 ⟨h.1.below hb h.1.lt,h.2.1.below hb h.2.1.1,aH h.2.2.1 hb,h.2.2.2⟩
theorem CSt.alloc {len:Nat} (h:CSt w0 B g ao len cap w) (o:Obj):CSt w0 B g ao len cap (w.alloc o):=h.below ((yH _ _).alloc (yJ _) o)
theorem bD {len:Nat} (n:Int) (w:World) (h:CSt w0 B g ao len cap w) (hn0:0<n) (hn1:n≤9223372036854775807) :
  cP 57 #[.pointer (some ⟨g,0,none⟩),.int .i64 n] w fun e w'=>∃x:Int,e=.returned (.int .i64 x)∧0≤x∧x<n∧CSt w0 B g ao len cap w'∧w.grownBy w' (some g):=
 (uG B g ao len cap n w h.1 h.2.1 h.2.2.2 hn0 hn1).mono fun e w' ⟨x,h1,h2,h3,h4,h5⟩=>⟨x,h1,h2,h3,h.step h4 h5,h5⟩
theorem aIn (B:Nat) (ao:Option Addr) (len cap:Nat) (w:World) (hcode:Code w B ao len) :
  cP 55 #[.slice ao len cap] w fun e w'=>e=.returned (.pointer (some ⟨w.heap.size,0,none⟩))∧CSt w B w.heap.size ao len cap w':=by
 have hl:=hcode.2.1;have HK:=aA hcode;go_enter func55,ntmps55;go_wp2;go_loop [3,4] (fun v i=>∃(k:Nat) (h:Int),k≤len∧i=.int .i64 (k:Int)∧v=.int .i64 h∧0≤h∧h≤1073741823) (fun _ i=>len - (intOf i).toNat);case atStart=>exact ⟨0,_,Nat.zero_le _,rfl,rfl,by omega,by omega⟩
 case round=>
  obtain ⟨k,h,hk,rfl,rfl,hh0,hh1⟩:=hrel;by_cases hlt:k<len
  ·rcases hcode.2.2 with h0 | ⟨b,off,zs,rfl,QU,hz,hzs⟩
   ·omega
   by_cases h4:k<4000
   ·have hcz:=hz k hlt;obtain ⟨hz0,hz1⟩:=hzs k;(have KD:(k:Int)<(len:Int):=by omega);have hm:=aA (aBL (h*131+zs k+7) 1073741823 (by decide) (by decide));clear hz hzs hcode;go_wp2;(go_round);(case rel=>exact ⟨k+1,_,by omega,by go_num,rfl,(uH hm).1,(uH hm).2⟩);case measure=>simp [intOf];omega
   ·clear hz hzs hcode;go_wp2;go_ret;refine ⟨rfl,⟨0,h,?_,Nat.zero_le _⟩,(uH HK).below ((yH _ _).alloc (yJ _) _) (uH HK).1,aH (aD w _) ((yH _ _).alloc (yJ _) _),(uH HK).1⟩;(show (w.heap.push _)[w.heap.size]? = _);simp
  ·clear hcode;go_wp2;go_ret;refine ⟨rfl,⟨0,h,?_,Nat.zero_le _⟩,(uH HK).below ((yH _ _).alloc (yJ _) _) (uH HK).1,aH (aD w _) ((yH _ _).alloc (yJ _) _),(uH HK).1⟩;(show (w.heap.push _)[w.heap.size]? = _);simp
def aLF (w:World) (q L:Nat):Prop:=q<w.heap.size∧∀j,j<L→∃z:Int,w.cell? ⟨q,j,none⟩=some (.int .i64 z)∧-9223372036854775808≤z∧z≤9223372036854775807
theorem jO {len:Nat} (q L c:Nat) (w:World) (h:CSt w0 B g ao len cap w) (hq:aLF w q L) (hne:q≠g) (hL:0<L) (hL1:L≤1000) :
  cP 95 #[.pointer (some ⟨g,0,none⟩),.slice (some ⟨q,0,none⟩) L c] w fun e w'=>∃x:Int,e=.returned (.int .i64 x)∧-9223372036854775808≤x∧x≤9223372036854775807∧CSt w0 B g ao len cap w':=by
 have HS:=aA h;clear h;go_enter func95,ntmps95;go_wp2_with fail;refine (bD _ _ (uH HS) (by omega) (by omega)).mono ?_;rintro e w1 ⟨x,rfl,hx0,hx1,hs1,hg1⟩;obtain ⟨X,rfl⟩:=Int.eq_ofNat_of_zero_le hx0;obtain ⟨z,hz,hz0,hz1⟩:=hq.2 X (by omega);have hc:w1.cell? ⟨q,X,none⟩=some (.int .i64 z):=(World.cell?_of_block (w:=w) (a:=⟨q,X,none⟩) (hg1.block q hq.1 (fun e=>hne (Option.some.inj e)))).trans hz;have Qx:=aA hs1;clear hs1 hg1 hz hq;go_wp2;go_ret;exact ⟨z,rfl,hz0,hz1,uH Qx⟩
theorem d9 (w:World) (t:TypeId) (zs:List Int) (h:zs.all (fun z=>decide (-9223372036854775808≤z)&&decide (z≤9223372036854775807))=true):aLF (w.alloc (.cells (zs.map (Value.int .i64)).toArray t)) w.heap.size zs.length:=by
 refine ⟨by simp,fun j hj=>⟨zs[j],?_,?_⟩⟩
 ·rw [World.cell?_alloc_mark];simp [hj]
 ·have:=List.all_eq_true.1 h zs[j] (yM hj);simpa using this
theorem Var.grown {t:TypeId} {q:Nat} (h:Var w t q x y) (hg:w.grownBy w' (some g)) (hn:q≠g):Var w' t q x y:=h.same (hg.block q h.lt (fun e=>hn (Option.some.inj e)))
theorem aGk (h:w.grownBy w1 (some g)) (hk:w.heap.size≤k):w.grownBy (w1.setCell ⟨k,j,none⟩ v) (some g):=
 ⟨h.os,h.tape,h.output,by simpa using h.size,fun i hi hn=>by
  rw [heap_setCell_other w1 ⟨k,j,none⟩ i v (by have:i<k:=Nat.lt_of_lt_of_le hi hk;exact Nat.ne_of_lt this)];exact h.block i hi hn⟩
theorem CSt.set {len:Nat} (h:CSt w0 B g ao len cap w) (k j:Nat) (v:Value) (hk:w0.heap.size≤k) (hB:B≤k) (hn:k≠g):CSt w0 B g ao len cap (w.setCell ⟨k,j,none⟩ v):=by
 refine ⟨?_,?_,aGk h.2.2.1 hk,h.2.2.2⟩
 ·obtain ⟨i,x,h1,h2⟩:=h.1;exact ⟨i,x,by rw [heap_setCell_other w ⟨k,j,none⟩ g v (fun e=>hn e.symm)];exact h1,h2⟩
 ·have hb:Below B w (w.setCell ⟨k,j,none⟩ v):=(yH B w).setCell hB v;exact h.2.1.below hb (yJ _)
def Low (w0:World) (B g:Nat) (w:World):Prop:=w0.heap.size≤w.heap.size∧B≤w.heap.size∧g<w.heap.size
theorem CSt.low {len:Nat} (h:CSt w0 B g ao len cap w):Low w0 B g w:=⟨h.2.2.1.size,by have:=h.1.lt;have:=h.2.2.2;omega,h.1.lt⟩
theorem aDH (B g:Nat) (ao:Option Addr) (len cap:Nat) (n:Int) (w:World) (hcur:Cur w g ao len cap) (hcode:Code w B ao len) (hB:B≤g) (hn0:0<n) (hn1:n≤9223372036854775807) :
  cP 217 #[.pointer (some ⟨g,0,none⟩),.int .i64 n] w fun e w'=>∃x:Bool,e=.returned (.bool x)∧Cur w' g ao len cap∧w.grownBy w' (some g):=by
 have HC:=aA hcur;have HK:=aA hcode;clear hcur hcode;go_enter func217,ntmps217;go_wp2_with fail;refine (uG B g ao len cap _ _ (uH HC) (uH HK) hB hn0 hn1).mono ?_;rintro e w1 ⟨x,rfl,hx0,hx1,hc1,hg1⟩;have Qw:=aA hc1;have KX:=aA hg1;clear hc1 hg1;go_wp2;go_ret;exact ⟨_,rfl,uH Qw,uH KX⟩
theorem aGJ {len:Nat} (n:Int) (w:World) (h:CSt w0 B g ao len cap w) (hn0:0<n) (hn1:n≤9223372036854775807) :
  cP 217 #[.pointer (some ⟨g,0,none⟩),.int .i64 n] w fun e w'=>∃x:Bool,e=.returned (.bool x)∧CSt w0 B g ao len cap w':=
 (aDH B g ao len cap n w h.1 h.2.1 h.2.2.2 hn0 hn1).mono fun e w' ⟨x,h1,h4,h5⟩=>⟨x,h1,h.step h4 h5⟩
def qC (w:World) (q L:Nat):Prop:=q<w.heap.size∧∀j,j<L→∃s:ByteArray,w.cell? ⟨q,j,none⟩=some (.string s)∧s.size≤12
theorem dH (w:World) (t:TypeId) (xs:List ByteArray) (h:xs.all (fun s=>decide (s.size≤12))=true):qC (w.alloc (.cells (xs.map Value.string).toArray t)) w.heap.size xs.length:=by
 refine ⟨by simp,fun j hj=>⟨xs[j],?_,?_⟩⟩
 ·rw [World.cell?_alloc_mark];simp [hj]
 ·have:=List.all_eq_true.1 h xs[j] (yM hj);simpa using this
theorem iD {len:Nat} (q L c:Nat) (w:World) (h:CSt w0 B g ao len cap w) (hq:qC w q L) (hne:q≠g) (hL:0<L) (hL1:L≤1000) :
  cP 56 #[.pointer (some ⟨g,0,none⟩),.slice (some ⟨q,0,none⟩) L c] w fun e w'=>∃s:ByteArray,e=.returned (.string s)∧s.size≤12∧CSt w0 B g ao len cap w':=by
 have HS:=aA h;clear h;go_enter func56,ntmps56;go_wp2_with fail;refine (bD _ _ (uH HS) (by omega) (by omega)).mono ?_;rintro e w1 ⟨x,rfl,hx0,hx1,hs1,hg1⟩;obtain ⟨X,rfl⟩:=Int.eq_ofNat_of_zero_le hx0;obtain ⟨z,hz,hz0⟩:=hq.2 X (by omega);have hc:w1.cell? ⟨q,X,none⟩=some (.string z):=(World.cell?_of_block (w:=w) (a:=⟨q,X,none⟩) (hg1.block q hq.1 (fun e=>hne (Option.some.inj e)))).trans hz;have Qx:=aA hs1;clear hs1 hg1 hz hq;go_wp2;go_ret;exact ⟨z,rfl,hz0,uH Qx⟩
theorem aJU {len:Nat} (w:World) (h:CSt w0 B g ao len cap w) :
  cP 196 #[.pointer (some ⟨g,0,none⟩)] w fun e w'=>∃s:ByteArray,e=.returned (.string s)∧s.size≤12∧CSt w0 B g ao len cap w':=by
 have HS:=aA h;clear h;go_enter func196,ntmps196;go_wp2_with fail;refine (aGJ 16 _ (uH HS) (by decide) (by decide)).mono ?_;rintro e w1 ⟨x,rfl,hs1⟩;have Qx:=aA hs1;have hne:Hid (w1.heap.size≠g):=aA (by have:=hs1.1.lt;omega);clear hs1;cases x with
 | true=>have hq:=aA (dH w1 9 [⟨#[]⟩,⟨#[65]⟩,⟨#[48,49,50,51,52,53,54,55,56,57]⟩,⟨#[48,49,50,51,52,53,54,55,56,57,48]⟩,⟨#[97,32,98]⟩] (by decide));go_wp2_with fail;refine (iD w1.heap.size 5 5 _ ((uH Qx).alloc _) (uH hq) (uH hne) (by decide) (by decide)).mono ?_;rintro e w2 ⟨x,rfl,hx0,hs2⟩;have HS2:=aA hs2;clear hs2;go_wp2;go_ret;exact ⟨x,rfl,hx0,uH HS2⟩
 | false=>have hq:=aA (dH w1 9 [⟨#[97]⟩,⟨#[98]⟩,⟨#[114,111,111,116]⟩] (by decide));go_wp2_with fail;refine (iD w1.heap.size 3 3 _ ((uH Qx).alloc _) (uH hq) (uH hne) (by decide) (by decide)).mono ?_;rintro e w2 ⟨x,rfl,hx0,hs2⟩;have HS2:=aA hs2;clear hs2;go_wp2;go_ret;exact ⟨x,rfl,hx0,uH HS2⟩
abbrev aJd (q:Q):List Value:=[.string (bs q.name),.string (bs q.parent),.int .i64 q.due,.int .i64 q.most]
def dK:List Q→List Value
 | []=>[]
 | q::t=>aJd q++dK t
theorem aAU (a b:List Q):dK (a++b)=dK a++dK b:=by
 induction a with
 | nil=>rfl
 | cons x t ih=>rw [List.cons_append,dK,dK,ih,List.append_assoc]
theorem oQ:∀l:List Q,(dK l).length=l.length*4
 | []=>rfl
 | q::t=>by rw [dK,List.length_append,oQ t];simp;omega
theorem aCN:∀(l:List Q) (i:Nat) (h:i<l.length),(dK l)[i*4]? = some (.string (bs l[i].name))∧(dK l)[i*4+1]? = some (.string (bs l[i].parent))∧(dK l)[i*4+2]? = some (.int .i64 l[i].due)∧(dK l)[i*4+3]? = some (.int .i64 l[i].most)
 | q::t,0,_=>⟨rfl,rfl,rfl,rfl⟩
 | q::t,i+1,h=>by
  have e:=aCN t i (by simpa using h);have k:∀j,(dK (q::t))[(i+1)*4+j]? = (dK t)[i*4+j]?:=fun j=>by
   rw [dK,show (i+1)*4+j=(aJd q).length+(i*4+j) by simp;omega,List.getElem?_append_right (by omega)];(congr 1);omega
  have k0:=k 0;simp only [Nat.add_zero] at k0;rw [k0,k 1,k 2,k 3];simpa using e
def QDr (B:Nat) (w:World) (v:Value) (l:List Q):Prop:=w.ownsRow B 105 4 v l.length (dK l)
theorem QDr.kept {row:Option Nat} (h:QDr B w v l) (hg:w.grownBy w' row) (hr:∀k,row=some k→k<B):QDr B w' v l:=by
 refine World.ownsRow.kept h hg ?_;rcases h.2 with ⟨rfl,_⟩ | ⟨g,cap,cur,rfl,hg',_⟩
 ·exact .inl rfl
 ·right
  intro e;have:=hr g e.symm;omega
theorem QDr.below (h:QDr B w v l) (hb:Bw w w'):QDr B w' v l:=h.kept (aH (aD w none) hb) (fun k e=>by cases e)
theorem QDr.row (h:QDr B w v l) (hl:l≠[]):∃g cap cur,v=.slice (some ⟨g,0,none⟩) l.length cap∧gH w (some ⟨g,0,none⟩) l.length l∧l.length≤cap∧B≤g∧w.heap[g]? = some (.cells cur 105 (0,0)):=by
 rcases h.2 with ⟨rfl,h0⟩ | ⟨g,cap,cur,rfl,h1,h2,h3,h4,h5,h6⟩
 ·exact absurd (List.length_eq_zero_iff.1 h0) hl
 ·refine ⟨g,cap,cur,rfl,⟨rfl,.inr ⟨g,0,rfl,fun i hi=>?_⟩⟩,h3,h1,h2⟩;obtain ⟨a,b,c,d⟩:=aCN l i hi;have k:∀j (v:Value),j<l.length*4→(dK l)[j]? = some v→w.cell? ⟨g,j,none⟩=some v:=fun j v hj hv=>by
   rw [←h6,List.getElem?_take_of_lt hj] at hv;simp [World.cell?,h2];simpa using hv
  unfold QAt;rw [Nat.zero_add];exact ⟨k _ _ (by omega) a,k _ _ (by omega) b,k _ _ (by omega) c,k _ _ (by omega) d⟩
theorem aJI (w:World) (l:List Q) (n:Nat) (hn:l.length=n) (hm:n≤1000):QDr w.heap.size (w.alloc (.cells (dK l).toArray 105)) (.slice (some ⟨w.heap.size,0,none⟩) n n) l:=by
 subst hn;refine ⟨oQ l,.inr ⟨w.heap.size,l.length,(dK l).toArray,rfl,yJ _,by show (w.heap.push _)[w.heap.size]? = _;simp,yJ _,by unfold maxLen;omega,by simp [oQ],?_⟩⟩;rw [←oQ];simp
theorem gH.put {b off len:Nat} (h:gH w (some ⟨b,off,none⟩) len l) (i:Nat) (hi:i<l.length) (q:Q) (j:Nat) (x:Value)
  (hx:(j=0∧x=.string (bs q.name)∧q = { l[i] with name:=q.name })∨(j=1∧x=.string (bs q.parent)∧q = { l[i] with parent:=q.parent })∨(j=2∧x=.int .i64 q.due∧q = { l[i] with due:=q.due })∨(j=3∧x=.int .i64 q.most∧q = { l[i] with most:=q.most })) :
  gH (w.setCell ⟨b,off+i*4+j,none⟩ x) (some ⟨b,off,none⟩) len (l.set i q):=by
 obtain ⟨h1,h2⟩:=h;have hl:len≠0:=by omega
 rcases h2 with h2 | ⟨b',off',e,h4⟩
 ·exact absurd h2 hl
 ·cases e;have hot:∀p,p≠off+i*4+j→(w.setCell ⟨b,off+i*4+j,none⟩ x).cell? ⟨b,p,none⟩=w.cell? ⟨b,p,none⟩:=fun p hp=>World.cell?_setCell_other _ ⟨b,off+i*4+j,none⟩ ⟨b,p,none⟩ _ (by intro e;have:=congrArg Addr.off e;simp at this;omega)
  have GA:∀v,w.cell? ⟨b,off+i*4+j,none⟩=some v→(w.setCell ⟨b,off+i*4+j,none⟩ x).cell? ⟨b,off+i*4+j,none⟩=some x:=fun v hv=>World.cell?_setCell_same w _ _ hv
  refine ⟨by simpa using h1,.inr ⟨b,off,rfl,fun k hk=>?_⟩⟩;have hk':k<l.length:=by simpa using hk
  obtain ⟨a0,a1,a2,a3⟩:=h4 k hk';by_cases e:k=i
  ·subst e;rw [show (l.set k q)[k]=q by simp];rcases hx with ⟨rfl,rfl,hq⟩ | ⟨rfl,rfl,hq⟩ | ⟨rfl,rfl,hq⟩ | ⟨rfl,rfl,hq⟩
   ·refine ⟨GA _ a0,?_,?_,?_⟩
    ·rw [hot _ (by omega),a1,hq]
    ·rw [hot _ (by omega),a2,hq]
    ·rw [hot _ (by omega),a3,hq]
   ·refine ⟨?_,GA _ a1,?_,?_⟩
    ·rw [hot _ (by omega),a0,hq]
    ·rw [hot _ (by omega),a2,hq]
    ·rw [hot _ (by omega),a3,hq]
   ·refine ⟨?_,?_,GA _ a2,?_⟩
    ·rw [hot _ (by omega),a0,hq]
    ·rw [hot _ (by omega),a1,hq]
    ·rw [hot _ (by omega),a3,hq]
   ·refine ⟨?_,?_,?_,GA _ a3⟩
    ·rw [hot _ (by omega),a0,hq]
    ·rw [hot _ (by omega),a1,hq]
    ·rw [hot _ (by omega),a2,hq]
  ·rw [show (l.set i q)[k]=l[k] by rw [List.getElem_set_ne (fun h=>e h.symm)]];(have hj:j<4:=by rcases hx with ⟨rfl,_⟩ | ⟨rfl,_⟩ | ⟨rfl,_⟩ | ⟨rfl,_⟩<;>omega);refine ⟨?_,?_,?_,?_⟩
   ·rw [hot _ (by omega),a0]
   ·rw [hot _ (by omega),a1]
   ·rw [hot _ (by omega),a2]
   ·rw [hot _ (by omega),a3]
def aBN (l:List Q):Prop:=∀q ∈ l,q.name.length≤1000∧q.parent.length≤1000
theorem aBN.set (h:aBN l) (i:Nat) (q:Q) (hq:q.name.length≤1000∧q.parent.length≤1000):aBN (l.set i q):=fun x hx=>by
 rcases List.mem_or_eq_of_mem_set hx with hx | rfl
 ·exact h x hx
 ·exact hq
theorem CSt.gro {len:Nat} (h:CSt w0 B g ao len cap w) {row:Option Nat} (hg:w.grownBy w' row) (hr:∀k,row=some k→w0.heap.size≤k∧g<k):CSt w0 B g ao len cap w':=by
 obtain ⟨⟨i,x,h1,h2⟩,hc,hgr,hB⟩:=h;have hgl:g<w.heap.size:=lt_of_block h1;refine ⟨⟨i,x,(hg.block g hgl (fun e=>by have:=hr g e.symm;omega)).trans h1,h2⟩,?_,hgr.andThen hg (fun j hj=>.inl (hr j hj).1),hB⟩;exact hc.below ((yH B w).grown hg hc.1 (fun k e=>by have:=hr k e;omega)) (yJ _)
theorem Tryz.infoQD:(Tryz.prog.info? 105).map (fun i=>(i.zero,i.size,i.bytes))=some (some (.agg #[.string .empty,.string .empty,.int .i64 0,.int .i64 0]),4,48):=by kernel_rfl
end
end Go.Proofs.YtfndhndlkcijoaaGreat
