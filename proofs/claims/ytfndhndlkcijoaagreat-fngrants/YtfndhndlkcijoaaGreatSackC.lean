/-
  Texts in one: RatioP, KnownI, SumI4, CapI, CapsI, UsedI, OkA, Draw2, DrawG, DrawO, DrawP, NameD, QDraw, MarkN.
-/
import Derived.Test.YtfndhndlkcijoaaGreatSackA
import Derived.Maps.OwnSet
import Derived.Maps.Views
import Derived.DeepKeys4
import Derived.Maps.Range
set_option maxRecDepth 100000
set_option maxHeartbeats 16000000
set_option linter.unusedVariables false
set_option linter.unusedSimpArgs false
open Go.Proofs.Tryz
namespace Go.Proofs.YtfndhndlkcijoaaGreat
section
open Go.RowKit
theorem aB4 (a b c d:Int) (w:World) :
  cP 179 #[pv a b c d] w fun e w'=>e=.returned (fv (gF a b c d))∧Bw w w':=by
 have GQ:=aA ((wI w 89 a b c d).al (.cells #[.int .i64 0,.int .i64 0] 171));have Gz:=aA (show Var ((w.alloc (.cells #[.int .i64 a,.int .i64 b,.int .i64 c,.int .i64 d] 89)).alloc (.cells #[.int .i64 0,.int .i64 0] 171)) 171 (w.heap.size+1) 0 0 by have:=aK (w.alloc (.cells #[.int .i64 a,.int .i64 b,.int .i64 c,.int .i64 d] 89)) 171 0 0;simpa using this);have HB0:=aA (yA (yA (yH _ w) (.cells #[.int .i64 a,.int .i64 b,.int .i64 c,.int .i64 d] 89)) (.cells #[.int .i64 0,.int .i64 0] 171));have hc:=aA (pI a b c d);cases h0:aR a b&&aR c d
 ·rw [show gF a b c d=(0,1) by rw [gF,h0];rfl];go_enter func179,ntmps179;go_wp2_with fail;refine (uH hc _).mono ?_;rw [h0];rintro e w1 ⟨rfl,hb⟩;have V2:=(uH Gz).below hb;have k0:=V2.c0;have k1:=V2.c1;have k2:=V2.f 0;have k3:=V2.f 1;have k4:=V2.s0 (.int .i64 0);have k5:=V2.s1 (.int .i64 0) (.int .i64 1);have HB:=aA (yB (uH HB0) hb);clear hb GQ Gz HB0 V2 hc;go_wp2;refine bodyPost_ret (v:=rv 0 1) (by simp [results,results179,go_sem,k4,k5]) rfl ⟨rfl,?_⟩;repeat (first | exact uH HB | refine yA ?_ _ | refine Below.drew ?_ | refine yC ?_ _ _ _ (by omega))
 ·have h0':=h0;simp only [yK] at h0';obtain ⟨s1,s2⟩:=eQ h0'.1;obtain ⟨s3,s4⟩:=eQ h0'.2;have F1:=rU s1 s3;have F2:=rU s2 s4;have hr:gF a b c d=if less (nE a c).1 (nE a c).2 (nE b d).1 (nE b d).2 then nE b d else nE a c:=by rw [gF,h0];rfl
  rw [hr];have hp1:=aA (qI a c);have hp2:=aA (qI b d);obtain ⟨⟨x1,y1⟩,e1⟩:∃p,nE a c=p:=⟨_,rfl⟩;obtain ⟨⟨x2,y2⟩,e2⟩:∃p,nE b d=p:=⟨_,rfl⟩;rw [e1] at hp1 F1 ⊢;rw [e2] at hp2 F2 ⊢;obtain ⟨l,hl⟩:∃l,less x1 y1 x2 y2=l:=⟨_,rfl⟩;have hL:∀wx,cP 130 #[rv x1 y1,rv x2 y2] wx fun e w'=>e=.returned (.bool l)∧Bw wx w':=fun wx=>by have:=vH x1 y1 x2 y2 wx F1 F2;rw [hl] at this;exact this
  have HL:=aA hL;rw [show less (x1,y1).1 (x1,y1).2 (x2,y2).1 (x2,y2).2=l from hl];clear hL hl F1 F2 e1 e2 hr s1 s2 s3 s4 h0';go_enter func179,ntmps179;go_wp2_with fail;refine (uH hc _).mono ?_;rw [h0];rintro e w1 ⟨rfl,hb⟩;have V1:=(uH GQ).below hb;have F6:=aA V1;have V2:=aA ((uH Gz).below hb);have a1:=V1.c0;have a2:=V1.c1;have a3:=V1.c2;have a4:=V1.c3;have HB:=aA (yB (uH HB0) hb);clear hb GQ Gz HB0 V1 hc;go_wp2_with fail;refine (uH hp1 _).mono ?_;rintro e w2 ⟨rfl,hb⟩;have V3:=aA (((uH F6).below hb).al (.cells #[.int .i64 x1,.int .i64 y1] 171));have V4:=aA (((uH V2).below hb).al (.cells #[.int .i64 x1,.int .i64 y1] 171));have V5:=aA (aK w2 171 x1 y1);have HB2:=aA (yA (yB (uH HB) hb) (.cells #[.int .i64 x1,.int .i64 y1] 171));clear hb F6 V2 HB hp1 a1 a2 a3 a4;have a1:=(uH V3).c0;have a2:=(uH V3).c1;have a3:=(uH V3).c2;have a4:=(uH V3).c3;go_wp2_with fail;refine (uH hp2 _).mono ?_;rintro e w3 ⟨rfl,hb⟩;have V6:=aA (((uH V4).below hb).al (.cells #[.int .i64 x2,.int .i64 y2] 171));have V7:=aA (((uH V5).below hb).al (.cells #[.int .i64 x2,.int .i64 y2] 171));have V8:=aA (aK w3 171 x2 y2);have HB3:=aA (yA (yB (uH HB2) hb) (.cells #[.int .i64 x2,.int .i64 y2] 171));clear hb V3 V4 V5 HB2 hp2 a1 a2 a3 a4;have a1:=(uH V7).c0;have a2:=(uH V7).c1;have a3:=(uH V8).c0;have a4:=(uH V8).c1;go_wp2_with fail;refine (uH HL _).mono ?_;rintro e w4 ⟨rfl,hb⟩;have V9:=(uH V6).below hb;have V10:=(uH V7).below hb;have V11:=(uH V8).below hb;have GD:=aA (yB (uH HB3) hb);clear hb V6 V7 V8 HB3 HL a1 a2 a3 a4;have a1:=V10.c0;have a2:=V10.c1;have a3:=V11.c0;have a4:=V11.c1;have k0:=V9.c0;have k1:=V9.c1;have k2:=V9.f 0;have k3:=V9.f 1;have k4:=V9.s0 (.int .i64 x1);have k5:=V9.s1 (.int .i64 x1) (.int .i64 y1);have k6:=V9.s0 (.int .i64 x2);have k7:=V9.s1 (.int .i64 x2) (.int .i64 y2);clear V9 V10 V11;cases l with
  | true=>go_wp2;refine bodyPost_ret (v:=rv x2 y2) (by simp [results,results179,go_sem,k6,k7]) rfl ⟨rfl,?_⟩;repeat (first | exact uH GD | refine yA ?_ _ | refine Below.drew ?_ | refine yC ?_ _ _ _ (by omega))
  | false=>go_wp2;refine bodyPost_ret (v:=rv x1 y1) (by simp [results,results179,go_sem,k4,k5]) rfl ⟨rfl,?_⟩;repeat (first | exact uH GD | refine yA ?_ _ | refine Below.drew ?_ | refine yC ?_ _ _ _ (by omega))
end
section
open Go.RowKit Go.Maps
variable {D:DataW Unit} {a b c d:Int} {kl:Lit}
theorem aFa:laidOutB Tryz.prog=true:=by kernel_rfl
theorem aJf:(89:TypeId)<Tryz.prog.types.size:=of_decide_eq_true (by kernel_rfl)
theorem aIY:(match Tryz.prog.underlying 89 with | some (.array _ _) | some (.struct _)=>true | _=>false)=true:=by kernel_rfl
theorem xR:Keyed Tryz.prog 89:=Keyed.of_law (deep_law_laid aFa (m:=3) (by omega) aJf (by kernel_rfl) aIY)
theorem aDh:Tryz.prog.keyType 89=true:=by kernel_rfl
theorem aCY:Tryz.prog.cellsOf 89=4:=by kernel_rfl
theorem aEa:Tryz.prog.cellsOf 33=2:=by kernel_rfl
theorem aIj:Tryz.prog.cellsOf 3=1:=by kernel_rfl
theorem aGR:∃m,Tryz.prog.types.size+1=m+3:=⟨Tryz.prog.types.size - 2,by have:3≤Tryz.prog.types.size:=of_decide_eq_true (by kernel_rfl);omega⟩
theorem aEp (n:Nat) (h:(Lit.int .i64 a).wf=true):Tryz.prog.keyLits (n+1) 3 [.int .i64 a]=some [.int .i64 a]:=by
 simp [Program.keyLits,underlying3,h]
theorem aEo (n:Nat) (ha:(Lit.int .i64 a).wf=true) (hb:(Lit.int .i64 b).wf=true):Tryz.prog.keyLits (n+2) 33 [.int .i64 a,.int .i64 b]=some [.int .i64 a,.int .i64 b]:=by
 have h:=underlying33;unfold Program.keyLits;simp [h,aEa,aIj,aEp n ha,aEp n hb]
theorem aJg (ha:(Lit.int .i64 a).wf=true) (hb:(Lit.int .i64 b).wf=true) (hc:(Lit.int .i64 c).wf=true) (hd:(Lit.int .i64 d).wf=true):∃kl,keyOf Tryz.prog 89 (pv a b c d)=some kl:=by
 obtain ⟨m,hm⟩:=aGR;have h:Tryz.prog.keyLits (m+3) 89 [.int .i64 a,.int .i64 b,.int .i64 c,.int .i64 d]=some [.int .i64 a,.int .i64 b,.int .i64 c,.int .i64 d]:=by have h:=underlying89;unfold Program.keyLits;simp [h,aCY,aEa,aEo m ha hb,aEo m hc hd,List.range_succ]
 have hu:=underlying89;have hk:keyOf Tryz.prog 89 (pv a b c d)=if Tryz.prog.keyType 89&&(pv a b c d).formed Tryz.prog 89 then (Tryz.prog.keyLits (Tryz.prog.types.size+1) 89 (pv a b c d).cells.toList).map (fun ls=>.string (keyBytes ls)) else none:=by unfold keyOf;rw [hu]
 rw [hk,if_pos (by simp [aDh,Value.formed,hu,aCY]),hm,show (pv a b c d).cells.toList=[.int .i64 a,.int .i64 b,.int .i64 c,.int .i64 d] from rfl,h];exact ⟨_,rfl⟩
def fd (p:Int×Int):DataW Unit:=.agg [.lit (.int .i64 p.1),.lit (.int .i64 p.2)]
def nQ:Value→Option (DataW Unit×List MemPlace)
 | .agg cs=>match cs.toList with
  | [.int .i64 x,.int .i64 y]=>some (fd (x,y),[])
  | _=>none
 | _=>none
theorem zF (x y:Int):nQ (rv x y)=some (fd (x,y),[]):=rfl
theorem vI {v:Value} {x y:Int} {ps:List MemPlace} (h:nQ v=some (fd (x,y),ps)):v=rv x y:=by
 unfold nQ at h;split at h
 ·rename_i cs;split at h
  ·rename_i x' y' e;(have e2:cs=#[.int .i64 x',.int .i64 y']:=by cases cs;simpa using e);simp [fd] at h;rw [e2,h.1.1,h.1.2]
  ·cases h
 ·cases h
def aGJ (D:DataW Unit):Prop:=∀a b c d kl,keyOf Tryz.prog 89 (pv a b c d)=some kl→Maps.has D kl=true→∀zd,D.atKey kl zd=fd (gF a b c d)
theorem aEA:aGJ (.map []):=fun a b c d kl _ h=>by simp [Maps.has] at h
theorem aGJ.put (h:aGJ D) (hD:IsMap D) (hk:keyOf Tryz.prog 89 (pv a b c d)=some kl):aGJ (D.put kl (fd (gF a b c d))):=fun a' b' c' d' kl' hk' hh zd=>by
 by_cases e:kl'=kl
 ·subst e;have:=xR.inj hk hk';simp [pv] at this;obtain ⟨rfl,rfl,rfl,rfl⟩:=this;exact atKey_put_same hD (xR.key hk) _ _
 ·rw [atKey_put_other e];rw [has_put_other e] at hh;exact h a' b' c' d' kl' hk' hh zd
theorem aIo (w:World):(zeroValue 171).run Tryz.prog w=.ok (rv 0 0) w:=by kernel_rfl
theorem look {w:World} {bm n:Nat} (Hz:w.ownsMap Tryz.prog 89 nQ bm n D) (hk:aGJ D) (GG:keyOf Tryz.prog 89 (pv a b c d)=some kl) :
  (Instr.lookup 117 (.map (some bm)) (pv a b c d) true).run Tryz.prog w=.ok (.tuple #[if Maps.has D kl then fv (gF a b c d) else rv 0 0,.bool (Maps.has D kl)]) w:=by
 obtain ⟨v,ps,gq,hv⟩:=Hz.look_ok xR underlying117 (aIo w) (zF 0 0) GG;rw [gq];cases hh:Maps.has D kl
 ·rw [atKey_of_not_has hh] at hv;rw [vI hv];rfl
 ·rw [hk a b c d kl GG hh] at hv;rw [vI hv];rfl
end
section
open Go.RowKit
variable {l:List Q} {B cap g:Nat} {ao:Option Addr} {v:Value} {w w' w0:World}
theorem oF (ao:Option Addr) (len cap:Nat) (l:List (Int×Int)) (w:World) (h:aGH w ao len l) (hl:len≤1048576) :
  cP 151 #[.slice ao len cap] w fun e w'=>e=.returned (.tuple #[rv (iY l).1 (iY l).2.1,.bool (iY l).2.2])∧Bw w w':=by
 have HR:=aA h;have HL:=aA h.1;obtain ⟨⟨sx,sy,so⟩,hs⟩:∃s,iY l=s:=⟨_,rfl⟩;have HS:=aA (show aZ l 0 0=(sx,sy,so) from hs);rw [hs];clear h hs;go_enter func151,ntmps151;go_wp2;go_loopw [12] (fun i wr=>∃(k:Nat) (x y:Int),k≤len∧i=.int .i64 k∧Hid (aZ (l.drop k) x y=(sx,sy,so))∧Hid (Var wr 33 w.heap.size 0 0)∧Hid (Var wr 33 (w.heap.size+1) x y)∧Hid (Bw w wr)) (fun i _=>len - (intOf i).toNat);case atStart=>exact ⟨0,0,0,Nat.zero_le _,rfl,aA (by simpa using uH HS),aA ((aK w _ _ _).al _),aA (iH w _ _ 0 0 0 0),aA (yA (yA (yH _ _) _) _)⟩
 case round=>
  obtain ⟨k,x,y,hk,rfl,HQ,ZH,GQ,HB⟩:=hrel;by_cases hlt:k<len
  ·obtain ⟨b,off,rfl,hq⟩:=((uH HR).below (uH HB)).at hlt;(have hkl:k<l.length:=by have:=uH HL;omega);have hst:=uR hkl x y;obtain ⟨c0,c1⟩:=hq hkl;obtain ⟨⟨a,d⟩,hs⟩:∃q,l[k]=q:=⟨_,rfl⟩;rw [hs] at c0 c1 hst;simp only at c0 c1 hst;have HST:=aA hst;have s0:=(uH GQ).c0;have s1:=(uH GQ).c1;have hsz:=(uH GQ).lt;have hl2:=World.cell?_alloc_lt wr (.cells #[.int .i64 a,.int .i64 d] 33) ⟨w.heap.size+1,0,none⟩ hsz;have hl3:=World.cell?_alloc_lt wr (.cells #[.int .i64 a,.int .i64 d] 33) ⟨w.heap.size+1,1,none⟩ hsz;rw [s0] at hl2;rw [s1] at hl3;clear hq hs hkl hst;have CA:=aA (fun wx=>aEG x y a d wx);have HA:=aA (yA (yH _ wr) (.cells #[.int .i64 a,.int .i64 d] 33));cases ho:aN 1 x y a d with
   | true=>rw [lW ho,ho] at CA;rw [if_pos ho] at HST;clear ho;(go_wp2_with fail);refine (uH CA _).mono ?_;rintro e w1 ⟨rfl,hb⟩;have W0:=aA (((uH ZH).below (uH HA)).below hb);have W1:=aA (((uH GQ).below (uH HA)).below hb);have HB1:=aA (yB (yB (uH HB) (uH HA)) hb);have YF:=(uH W1).lt;have t0:=(uH W1).c0;have t1:=(uH W1).c1;have f0:=(uH W1).f 0;have f1:=(uH W1).f 1;have g0:=World.cell?_alloc_lt w1 (.cells #[.int .i64 (x+1*a),.int .i64 (y+1*d)] 33) ⟨w.heap.size+1,0,none⟩ YF;have g1:=World.cell?_alloc_lt w1 (.cells #[.int .i64 (x+1*a),.int .i64 (y+1*d)] 33) ⟨w.heap.size+1,1,none⟩ YF;rw [t0] at g0;rw [t1] at g1;clear hb CA HA c0 c1 s0 s1 hl2 hl3 ZH GQ HB;obtain ⟨x',hx'⟩:∃x',x+1*a=x':=⟨_,rfl⟩;obtain ⟨y',hy'⟩:∃y',y+1*d=y':=⟨_,rfl⟩;rw [hx',hy'] at HST g0 g1;rw [hx',hy'];clear hx' hy';have h2:=(uH W1).al (.cells #[.int .i64 x',.int .i64 y'] 33);have ff0:=h2.f 0;have ff1:=h2.f 1;have W2:=aA h2;clear h2;go_wp2;go_roundw;(case rel=>exact ⟨k+1,x',y',by omega,by go_num,aA (by rw [←uH HST];exact uH HQ),aA ((((uH W0).other _ _ _ (show w.heap.size≠w.heap.size+1 by omega)).other _ _ _ (show w.heap.size≠w.heap.size+1 by omega)).al _),aA (((uH W1).set _ _).al _),aA (yA (yC (yC (uH HB1) _ _ _ (show w.heap.size≤w.heap.size+1 by omega)) _ _ _ (show w.heap.size≤w.heap.size+1 by omega)) _)⟩);case measure=>simp [intOf];omega
   | false=>rw [lN ho,ho] at CA;rw [if_neg (by rw [ho];simp)] at HST;have QJ:=(uH HST).symm.trans (uH HQ);simp only [Prod.mk.injEq] at QJ;obtain ⟨rfl,rfl,rfl⟩:=QJ;clear ho HST HS;(go_wp2_with fail);refine (uH CA _).mono ?_;rintro e w1 ⟨rfl,hb⟩;have W0:=aA ((((uH ZH).below (uH HA)).below hb).al (.cells #[.int .i64 0,.int .i64 0] 33));have HB1:=aA (yA (yB (yB (uH HB) (uH HA)) hb) (.cells #[.int .i64 0,.int .i64 0] 33));clear hb CA HA c0 c1 s0 s1 hl2 hl3 ZH GQ HB;have t0:=(uH W0).c0;have t1:=(uH W0).c1;have f0:=(uH W0).f 0;have f1:=(uH W0).f 1;have k4:=(uH W0).s0 (.int .i64 0);have k5:=(uH W0).s1 (.int .i64 0) (.int .i64 0);go_wp2;refine bodyPost_ret (v:=.tuple #[rv 0 0,.bool false]) (by simp [results,results151,go_sem,k4,k5]) rfl ⟨rfl,?_⟩;repeat (first | exact uH HB1 | refine yC ?_ _ _ _ (by omega))
  ·(have QJ:(x,y,true)=(sx,sy,so):=by rw [←uH HQ,wX (by have:=uH HL;omega)]);simp only [Prod.mk.injEq] at QJ;obtain ⟨rfl,rfl,rfl⟩:=QJ;have s0:=(uH GQ).c0;have s1:=(uH GQ).c1;have t0:=(uH ZH).c0;have t1:=(uH ZH).c1;have f0:=(uH ZH).f 0;have f1:=(uH ZH).f 1;have k4:=(uH ZH).s0 (.int .i64 x);have k5:=(uH ZH).s1 (.int .i64 x) (.int .i64 y);go_wp2;refine bodyPost_ret (v:=.tuple #[rv x y,.bool true]) (by simp [results,results151,go_sem,k4,k5]) rfl ⟨rfl,?_⟩;repeat (first | exact uH HB | refine yC ?_ _ _ _ (by omega))
theorem aFA (x:Sls) (s:St) (w:World) (h:dB w x.ma x.ml s.ms) (hl:x.ml≤1048576) :
  cP 94 #[sv x s] w fun e w'=>e=.returned (.tuple #[rv (iY (bG s.ms)).1 (iY (bG s.ms)).2.1,.bool (iY (bG s.ms)).2.2])∧Bw w w':=by
 obtain ⟨i0,hi,hz0,hz1,hz2⟩:=info_parts Tryz.infoR;obtain ⟨qa,ql,qc,aa,al,ac,ma,ml,mc,ca,cl,cc⟩:=x;obtain ⟨qs,cv,ez,nv,sj,aj,ms,cs⟩:=s;simp only at h hl ⊢;have HR:=aA h;have HL:=aA h.1;obtain ⟨c,hc⟩:∃c:Array Value,#[.slice qa ql qc,.int .i64 cv,.int .i64 ez,.int .i64 nv,.int .i64 sj,.slice aa al ac,.slice ma ml mc,.slice ca cl cc]=c:=⟨_,rfl⟩;have HC:=aA hc;have HB0:=aA (dM w c);have V0:=aA (jL w c);have hW:=sP w c;have HW:=aA hW;clear h hc hW;obtain ⟨⟨sx,sy,so⟩,hs⟩:∃s,iY (bG ms)=s:=⟨_,rfl⟩;have HS:=aA hs;rw [hs];clear hs;go_enter func94,ntmps94;go_wp2;go_loopw [4,10] (fun v i wr=>∃(k:Nat),k≤ml∧i=.int .i64 k∧Hid (aAB (uI w c).heap.size wr v (bG (ms.take k)))∧Hid (Below (uI w c).heap.size (uI w c) wr)) (fun _ i _=>ml - (intOf i).toNat);case atStart=>obtain rfl:=uH HC;exact ⟨0,Nat.zero_le _,rfl,aA (by simpa [bG] using aB0 _ _),aA (yH _ _)⟩
 case round=>
  obtain ⟨k,hk,rfl,HO,HB⟩:=hrel;by_cases hlt:k<ml
  ·obtain ⟨b,off,rfl,hq⟩:=(((uH HR).below (uH HB0)).below (uH HB)).at hlt;(have hkl:k<ms.length:=by have:=uH HL;omega);have hst:=aA (zK hkl);obtain ⟨c0,c1,c2,c3⟩:=hq hkl;obtain ⟨m,hs⟩:∃q,ms[k]=q:=⟨_,rfl⟩;rw [hs] at c0 c1 c2 c3 hst;(have hal:(bG (ms.take k)).length≤1048576:=by simp [bG];omega);obtain ⟨acc,QC⟩:∃a,bG (ms.take k)=a:=⟨_,rfl⟩;rw [QC] at hst hal HO;obtain ⟨nm,me,cp,se⟩:=m;simp only at c0 c1 c2 c3 hst;have HB2:=aA (yA (uH HB) (uX ⟨nm,me,cp,se⟩));have GL:=aA ((uH HO).below (yA (yH _ wr) (uX ⟨nm,me,cp,se⟩)));have hs2:(uI w c).heap.size≤(wr.alloc (uX ⟨nm,me,cp,se⟩)).heap.size:=(uH HB2).size;have Hz:(wr.alloc (uX ⟨nm,me,cp,se⟩)).ownsRow (uI w c).heap.size 33 2 _ acc.length (jB acc):=uH GL;clear hq hs hkl QC HO HB;(go_wp2_with (at_builtin;refine wpList_append_own _ rfl _ _ 114 rfl (uI w c).heap.size 33 i0 (.agg #[.int .i64 0,.int .i64 0]) 2 16 underlying114 hi hz0 hz1 hz2 rfl (by decide) _ _ _ rfl (Hz.alloc _) ⟨wr.heap.size+1,0,none⟩ 1 1 (aAH (me,cp)) rfl rfl ?c1 ?c2 ?c3 ?c4 ?c5 ?_));case c1=>
    intro j x hj
    match j,hj with
    | 0,hj=>simp at hj;subst hj;simp [Addr.add]
    | 1,hj=>simp at hj;subst hj;simp [Addr.add]
    | _+2,hj=>simp at hj
   (case c2=>intro x hx;simp at hx;rcases hx with rfl | rfl<;>rfl);(case c3=>unfold maxLen;omega);(case c4=>omega);(case c5=>simp at hs2 ⊢;omega);intro v' w3 Hy Hw _;have R:=mH (q:=(me,cp)) (uH HB2) (uH GL) Hy Hw hs2;have HR3:=aA R;clear Hy Hw Hz c0 c1 c2 c3 R;go_wp2;go_roundw;(case rel=>exact ⟨k+1,by omega,by go_num,aA (by rw [uH hst];exact (uH HR3).1),aA (uH HR3).2⟩);case measure=>simp [intOf];omega
  ·have htk:ms.take k=ms:=List.take_of_length_le (by have:=uH HL;omega);rw [htk] at HO;obtain ⟨ao,cp,rfl,Hq,hcp⟩:=(uH HO).row;(have hlc:(bG ms).length≤1048576:=by have:=uH HL;simp [bG];omega);have CT:=aA (oF ao _ cp (bG ms) wr Hq hlc);rw [uH HS] at CT;obtain ⟨n,hn⟩:∃n,(bG ms).length=n:=⟨_,rfl⟩;rw [hn] at CT ⊢;clear Hq hn htk hcp hlc HO;(go_wp2_with fail);refine (uH CT).mono ?_;rintro e w1 ⟨rfl,hb⟩;(have hsz:w.heap.size+1<(uI w c).heap.size:=by have:=uH HW;omega);have V1:Var w1 33 (w.heap.size+1) 0 0:=Var.below ((uH HB).block _ hsz |>.trans (uH V0)) hb;have HB1:=aA (yB (yB (uH HB0) (uH HB)) hb);have t0:=V1.c0;have t1:=V1.c1;have f0:=V1.f 0;have f1:=V1.f 1;have k4:=V1.s0 (.int .i64 sx);have k5:=V1.s1 (.int .i64 sx) (.int .i64 sy);clear hb V1 CT HB HB0;go_wp2;refine bodyPost_ret (v:=.tuple #[rv sx sy,.bool so]) (by simp [results,results94,go_sem,k4,k5]) rfl ⟨rfl,?_⟩;repeat (first | exact uH HB1 | refine yC ?_ _ _ _ (by omega))
theorem nL (x:Sls) (s:St) (w:World) (h:dB w x.ma x.ml s.ms) (hl:x.ml≤1048576) :
  cP 30 #[sv x s] w fun e w'=>e=.returned (rv (iY (bG s.ms)).1 (iY (bG s.ms)).2.1)∧Bw w w':=by
 have HR:=aA h;clear h;obtain ⟨⟨sx,sy,so⟩,hs⟩:∃y,iY (bG s.ms)=y:=⟨_,rfl⟩;have CC:=aA (fun wx (hb:Bw w wx)=>by have:=aFA x s wx ((uH HR).below hb) hl;rw [hs] at this;exact this);rw [hs];clear hs;obtain ⟨qa,ql,qc,aa,al,ac,ma,ml,mc,ca,cl,cc⟩:=x;obtain ⟨qs,cv,ez,nv,sj,aj,ms,cs⟩:=s;go_enter func30,ntmps30;go_wp2_with fail;refine (uH CC _ (dM w _)).mono ?_;rintro e w1 ⟨rfl,hb⟩;have V1:=(jL w _).below hb;have HB1:=aA (yB (dM w _) hb);have V2:=V1.al (.cells #[.int .i64 sx,.int .i64 sy] 33);have t0:=V2.c0;have t1:=V2.c1;have f0:=V2.f 0;have f1:=V2.f 1;have u0:=V1.c0;have u1:=V1.c1;have e0:=V1.f 0;have e1:=V1.f 1;have VG:=V2.set sx sy;have k6:=VG.c0;have k7:=VG.c1;clear hb V1 V2 VG CC;go_wp2;refine bodyPost_ret (v:=rv sx sy) (by simp [results,results30,go_sem,k6,k7]) rfl ⟨rfl,?_⟩;repeat (first | exact uH HB1 | refine yA ?_ _ | refine yC ?_ _ _ _ (by omega))
abbrev aDH (m:Con):Obj:=.cells #[.int .i64 m.id,.int .i64 m.app,.string (bs m.node),.int .i64 m.mem,.int .i64 m.cpu] 35
theorem wJ {p:Con→Bool} (l:List Con):(aP p l).length≤l.length:=by simp [aP];exact List.length_filter_le _ _
theorem aIH (g:Nat) (lb:Array Value) (eg:∀args w,(callFunc g args).run Tryz.prog w=.ok (.enter g args) w) (p:Con→Bool) (x:Sls) (s:St) (w:World) (h:dC w x.ca x.cl s.cs) (hl:x.cl≤1048576)
  (hp:∀wx q,Bw w wx→Calls Tryz.prog g (#[conv q]++lb) wx fun e w'=>e=.returned (.bool (p q))∧Bw wx w') :
  cP 90 #[sv x s,.func (.func g) #[] lb] w fun e w'=>e=.returned (rv (iY (aP p s.cs)).1 (iY (aP p s.cs)).2.1)∧Bw w w':=by
 obtain ⟨i0,hi,hz0,hz1,hz2⟩:=info_parts Tryz.infoR;obtain ⟨qa,ql,qc,aa,al,ac,ma,ml,mc,ca,cl,cc⟩:=x;obtain ⟨qs,cv,ez,nv,sj,aj,ms,cs⟩:=s;simp only at h hl ⊢;have HR:=aA h;have HL:=aA h.1;have HP:=aA hp;obtain ⟨c,hc⟩:∃c:Array Value,#[.slice qa ql qc,.int .i64 cv,.int .i64 ez,.int .i64 nv,.int .i64 sj,.slice aa al ac,.slice ma ml mc,.slice ca cl cc]=c:=⟨_,rfl⟩;have HC:=aA hc;have HB0:=aA (dM w c);have V0:=aA (jL w c);have HW:=aA (sP w c);clear h hc hp;obtain ⟨⟨sx,sy,so⟩,hs⟩:∃s,iY (aP p cs)=s:=⟨_,rfl⟩;have HS:=aA hs;rw [hs];clear hs;go_enter func90,ntmps90;go_wp2;go_loopw [5,13] (fun v i wr=>∃(k:Nat),k≤cl∧i=.int .i64 k∧Hid (aAB (uI w c).heap.size wr v (aP p (cs.take k)))∧Hid (Below (uI w c).heap.size (uI w c) wr)) (fun _ i _=>cl - (intOf i).toNat);case atStart=>obtain rfl:=uH HC;exact ⟨0,Nat.zero_le _,rfl,aA (by simpa [aP] using aB0 _ _),aA (yH _ _)⟩
 case round=>
  obtain ⟨k,hk,rfl,HO,HB⟩:=hrel;by_cases hlt:k<cl
  ·obtain ⟨b,off,rfl,hq⟩:=(((uH HR).below (uH HB0)).below (uH HB)).at hlt;(have hkl:k<cs.length:=by have:=uH HL;omega);have hst:=o7 (p:=p) hkl;obtain ⟨c0,c1,c2,c3,c4⟩:=hq hkl;obtain ⟨m,hs⟩:∃q,cs[k]=q:=⟨_,rfl⟩;rw [hs] at c0 c1 c2 c3 c4 hst;(have hal:(aP p (cs.take k)).length≤1048576:=by have:=wJ (p:=p) (cs.take k);simp at this;omega);obtain ⟨acc,QC⟩:∃a,aP p (cs.take k)=a:=⟨_,rfl⟩;rw [QC] at hst hal HO;obtain ⟨id,ap,nd,me,cp⟩:=m;simp only at c0 c1 c2 c3 c4 hst;have QZ:=aA (yA (yH _ wr) (aDH ⟨id,ap,nd,me,cp⟩));have QY:=aA (uH HP (wr.alloc (aDH ⟨id,ap,nd,me,cp⟩)) ⟨id,ap,nd,me,cp⟩ (yB (yB (uH HB0) (uH HB)) (uH QZ)));have KB:=aA (yD wr #[.int .i64 id,.int .i64 ap,.string (bs nd),.int .i64 me,.int .i64 cp] 35);clear hq hs hkl QC;cases hpq:p ⟨id,ap,nd,me,cp⟩ with
   | true=>
    rw [hpq] at QY;rw [hpq,if_pos rfl] at hst;have HST:=aA hst;clear hpq hst;go_wp2_with (first
     | (go_at_fn g;refine (uH QY).mono ?_;rintro e w1 ⟨rfl,hb⟩;have HB1:=aA (yB (yB (uH HB) (uH QZ)) hb);have ZE:=aA (((uH HO).below (uH QZ)).below hb);have b1:=(uH KB).below hb;have q3:=b1.at 3;have q4:=b1.at 4;simp at q3 q4;have hs2:(uI w c).heap.size≤w1.heap.size:=(uH HB1).size;have Hz:w1.ownsRow (uI w c).heap.size 33 2 _ acc.length (jB acc):=uH ZE;clear b1 hb QY c0 c1 c2 c3 c4 HO HB)
     | (at_builtin;refine wpList_append_own _ rfl _ _ 114 rfl (uI w c).heap.size 33 i0 (.agg #[.int .i64 0,.int .i64 0]) 2 16 underlying114 hi hz0 hz1 hz2 rfl (by decide) _ _ _ rfl (Hz.alloc _) ⟨w1.heap.size,0,none⟩ 1 1 (aAH (me,cp)) rfl rfl ?c1 ?c2 ?c3 ?c4 ?c5 ?_))
    case c1=>
     intro j x hj
     match j,hj with
     | 0,hj=>simp at hj;subst hj;simp [Addr.add]
     | 1,hj=>simp at hj;subst hj;simp [Addr.add]
     | _+2,hj=>simp at hj
    (case c2=>intro x hx;simp at hx;rcases hx with rfl | rfl<;>rfl);(case c3=>unfold maxLen;omega);(case c4=>omega);(case c5=>simp at hs2 ⊢;omega);intro v' w3 Hy Hw _;have R:=mH (q:=(me,cp)) (uH HB1) (uH ZE) Hy Hw hs2;have HR3:=aA R;clear Hy Hw Hz R q3 q4;go_wp2;go_roundw;(case rel=>exact ⟨k+1,by omega,by go_num,aA (by rw [uH HST];exact (uH HR3).1),aA (uH HR3).2⟩);case measure=>simp [intOf];omega
   | false=>rw [hpq] at QY;rw [hpq,if_neg (by simp)] at hst;have HST:=aA hst;clear hpq hst;(go_wp2_with (go_at_fn g;refine (uH QY).mono ?_;rintro e w1 ⟨rfl,hb⟩;have HB1:=aA (yB (yB (uH HB) (uH QZ)) hb);have ZE:=aA (((uH HO).below (uH QZ)).below hb);clear hb QY c0 c1 c2 c3 c4 HO HB));go_roundw;(case rel=>exact ⟨k+1,by omega,by go_num,aA (by rw [uH HST];exact uH ZE),HB1⟩);case measure=>simp [intOf];omega
  ·have htk:cs.take k=cs:=List.take_of_length_le (by have:=uH HL;omega);rw [htk] at HO;obtain ⟨ao,cp,rfl,Hq,hcp⟩:=(uH HO).row;(have hlc:(aP p cs).length≤1048576:=by have:=wJ (p:=p) cs;have:=uH HL;omega);have CT:=aA (oF ao _ cp (aP p cs) wr Hq hlc);rw [uH HS] at CT;obtain ⟨n,hn⟩:∃n,(aP p cs).length=n:=⟨_,rfl⟩;rw [hn] at CT ⊢;clear Hq hn htk hcp hlc HO;(go_wp2_with fail);refine (uH CT).mono ?_;rintro e w1 ⟨rfl,hb⟩;(have hsz:w.heap.size+1<(uI w c).heap.size:=by have:=uH HW;omega);have V1:Var w1 33 (w.heap.size+1) 0 0:=Var.below ((uH HB).block _ hsz |>.trans (uH V0)) hb;have HB1:=aA (yB (yB (uH HB0) (uH HB)) hb);have V2:=V1.al (.cells #[.int .i64 sx,.int .i64 sy] 33);have t0:=V2.c0;have t1:=V2.c1;have f0:=V2.f 0;have f1:=V2.f 1;have VG:=V2.set sx sy;have k6:=VG.c0;have k7:=VG.c1;clear hb V1 V2 VG CT HB HB0;go_wp2;refine bodyPost_ret (v:=rv sx sy) (by simp [results,results90,go_sem,k6,k7]) rfl ⟨rfl,?_⟩;repeat (first | exact uH HB1 | refine yA ?_ _ | refine yC ?_ _ _ _ (by omega))
def nD (a b:Int):Bool:=aR a b&&!(decide (a=0)&&decide (b=0))
theorem rM (a b:Int) (w:World) :
  cP 143 #[rv a b] w fun e w'=>e=.returned (.bool (nD a b))∧Bw w w':=by
 have HB0:=aA (yA (yH _ w) (.cells #[.int .i64 a,.int .i64 b] 33));have P0:=aA (yD w #[.int .i64 a,.int .i64 b] 33);obtain ⟨r,hr⟩:∃r,aR a b=r:=⟨_,rfl⟩;have C:=aA (fun wx=>by have:=aJT a b wx;rw [hr] at this;exact this);have HS:=aA (show nD a b=(r&&!(decide (a=0)&&decide (b=0))) by rw [nD,hr]);obtain ⟨o,ho⟩:∃o,nD a b=o:=⟨_,rfl⟩;rw [ho] at HS ⊢;clear hr ho;go_enter func143,ntmps143;go_wp2_with fail;refine (uH C _).mono ?_;rintro e w1 ⟨rfl,hb⟩;have HB1:=aA (yB (uH HB0) hb);have P1:=(uH P0).below hb;have p0:=P1.at 0;have p1:=P1.at 1;simp at p0 p1;clear hb P1 P0 HB0 C;cases r with
 | false=>go_wp2;go_ret;exact ⟨yF (by rw [uH HS];simp),uH HB1⟩
 | true=>
  by_cases ha:a=0
  ·by_cases hbz:b=0
   ·subst ha hbz;go_wp2;go_ret;exact ⟨yF (by rw [uH HS];simp),uH HB1⟩
   ·subst ha;go_wp2;go_ret;exact ⟨yF (by rw [uH HS];simp [hbz]),uH HB1⟩
  ·go_wp2;go_ret;exact ⟨yF (by rw [uH HS];simp [ha]),uH HB1⟩
theorem tF (a b:Int) (w:World) :
  cP 127 #[rv a b] w fun e w'=>e=.returned (.bool (aR a b))∧Bw w w':=
 (aU a b w).mono fun e w' h=>⟨h.1,by rw [h.2];exact yA (yH _ _) _⟩
theorem qQ (a b:Int) (w:World) :
  cP 69 #[rv a b] w fun e w'=>e=.returned (.bool (nD a b))∧Bw w w':=by
 have HB0:=aA (yA (yH _ w) (.cells #[.int .i64 a,.int .i64 b] 33));have P0:=aA (yD w #[.int .i64 a,.int .i64 b] 33);obtain ⟨r,hr⟩:∃r,aR a b=r:=⟨_,rfl⟩;have C:=aA (fun wx=>by have:=tF a b wx;rw [hr] at this;exact this);have HS:=aA (show nD a b=(r&&!(decide (a=0)&&decide (b=0))) by rw [nD,hr]);obtain ⟨o,ho⟩:∃o,nD a b=o:=⟨_,rfl⟩;rw [ho] at HS ⊢;clear hr ho;go_enter func69,ntmps69;go_wp2_with fail;refine (uH C _).mono ?_;rintro e w1 ⟨rfl,hb⟩;have HB1:=aA (yB (uH HB0) hb);have P1:=(uH P0).below hb;have p0:=P1.at 0;have p1:=P1.at 1;simp at p0 p1;clear hb P1 P0 HB0 C;cases r with
 | false=>go_wp2;go_ret;exact ⟨yF (by rw [uH HS];simp),uH HB1⟩
 | true=>
  by_cases ha:a=0
  ·by_cases hbz:b=0
   ·subst ha hbz;go_wp2;go_ret;exact ⟨yF (by rw [uH HS];simp),uH HB1⟩
   ·subst ha;go_wp2;go_ret;exact ⟨yF (by rw [uH HS];simp [hbz]),uH HB1⟩
  ·go_wp2;go_ret;exact ⟨yF (by rw [uH HS];simp [ha]),uH HB1⟩
def gU (q:Ask):Bool:=nD q.mem q.cpu&&(inB q.count 1 1000&&((decide (q.node=[])||bP q.node)&&inB q.missed 0 1000))
theorem aHl (q:Ask) (w:World) (hn:q.node.length≤1048576) :
  cP 185 #[aKN q] w fun e w'=>e=.returned (.bool (gU q))∧Bw w w':=by
 obtain ⟨x0,x1,ct,nd,ms⟩:=q;simp only at hn;have HB0:=aA (yA (yH _ w) (.cells #[.int .i64 x0,.int .i64 x1,.int .i64 ct,.string (bs nd),.int .i64 ms] 43));have P0:=aA (yD w #[.int .i64 x0,.int .i64 x1,.int .i64 ct,.string (bs nd),.int .i64 ms] 43);obtain ⟨sm,hsm⟩:∃r,nD x0 x1=r:=⟨_,rfl⟩;obtain ⟨nk,hnk⟩:∃r,bP nd=r:=⟨_,rfl⟩;have C:=aA (fun wx=>by have:=rM x0 x1 wx;rw [hsm] at this;exact this);have CN:=aA (fun wx=>by have:=l9 (bs nd) wx (by rw [dD];exact hn);rw [show bP (bs nd).data.toList=nk by rw [←hnk];simp [bs]] at this;exact this);have HS:=aA (show gU ⟨x0,x1,ct,nd,ms⟩=(sm&&(inB ct 1 1000&&((decide (nd=[])||nk)&&inB ms 0 1000))) by rw [gU];simp only [hsm,hnk]);obtain ⟨o,ho⟩:∃o,gU ⟨x0,x1,ct,nd,ms⟩=o:=⟨_,rfl⟩;have hbz:=nS nd;rw [ho] at HS ⊢;clear hsm hnk ho hn;go_enter func185,ntmps185;go_wp2_with fail;refine (uH C _).mono ?_;rintro e w1 ⟨rfl,hb⟩;have HB1:=aA (yB (uH HB0) hb);have P1:=(uH P0).below hb;have p2:=P1.at 2;have p3:=P1.at 3;have p4:=P1.at 4;simp at p2 p3 p4;clear hb P1 P0 HB0 C;cases sm with
 | false=>go_wp2;go_ret;exact ⟨yF (by rw [uH HS];simp),uH HB1⟩
 | true=>
 by_cases h1:1≤ct;case neg=>go_wp2;go_ret;exact ⟨yF (by rw [uH HS,bQ (by omega)];simp),uH HB1⟩
 by_cases h2:ct≤1000;case neg=>go_wp2;go_ret;exact ⟨yF (by rw [uH HS,bQ (by omega)];simp),uH HB1⟩
 by_cases hz:nd=[]
 ·rw [decide_eq_true hz] at hbz HS;clear hz;by_cases m1:0≤ms;case neg=>go_wp2;go_ret;exact ⟨yF (by rw [uH HS,dG h1 h2,bQ (by omega)];simp),uH HB1⟩
  by_cases m2:ms≤1000;case neg=>go_wp2;go_ret;exact ⟨yF (by rw [uH HS,dG h1 h2,bQ (x:=ms) (by omega)];simp;omega),uH HB1⟩
  go_wp2;go_ret;exact ⟨yF (by rw [uH HS,dG h1 h2,dG m1 m2];simp),uH HB1⟩
 ·rw [decide_eq_false hz] at hbz HS;clear hz;go_wp2_with fail;refine (uH CN _).mono ?_;rintro e w2 ⟨rfl,rfl⟩;clear CN;cases nk with
  | false=>go_wp2;go_ret;exact ⟨yF (by rw [uH HS];simp),uH HB1⟩
  | true=>
  by_cases m1:0≤ms;case neg=>go_wp2;go_ret;exact ⟨yF (by rw [uH HS,dG h1 h2,bQ (by omega)];simp),uH HB1⟩
  by_cases m2:ms≤1000;case neg=>go_wp2;go_ret;exact ⟨yF (by rw [uH HS,dG h1 h2,bQ (by omega)];simp;omega),uH HB1⟩
  go_wp2;go_ret;exact ⟨yF (by rw [uH HS,dG h1 h2,dG m1 m2];simp),uH HB1⟩
theorem aFi (q:Ask) (w:World) (hn:q.node.length≤1048576) :
  cP 125 #[aKN q] w fun e w'=>e=.returned (.bool (gU q))∧Bw w w':=by
 obtain ⟨x0,x1,ct,nd,ms⟩:=q;simp only at hn;have HB0:=aA (yA (yH _ w) (.cells #[.int .i64 x0,.int .i64 x1,.int .i64 ct,.string (bs nd),.int .i64 ms] 43));have P0:=aA (yD w #[.int .i64 x0,.int .i64 x1,.int .i64 ct,.string (bs nd),.int .i64 ms] 43);obtain ⟨sm,hsm⟩:∃r,nD x0 x1=r:=⟨_,rfl⟩;obtain ⟨nk,hnk⟩:∃r,bP nd=r:=⟨_,rfl⟩;obtain ⟨ic,hic⟩:∃r,inB ct 1 1000=r:=⟨_,rfl⟩;obtain ⟨im,him⟩:∃r,inB ms 0 1000=r:=⟨_,rfl⟩;have C:=aA (fun wx=>by have:=qQ x0 x1 wx;rw [hsm] at this;exact this);have CN:=aA (fun wx=>by have:=l6 (bs nd) wx (by rw [dD];exact hn);rw [show bP (bs nd).data.toList=nk by rw [←hnk];simp [bs]] at this;exact this);have CC:=aA (fun wx=>by have:=aS ct 1 1000 wx;rw [hic] at this;exact this);have CD:=aA (fun wx=>by have:=aS ms 0 1000 wx;rw [him] at this;exact this);have HS:=aA (show gU ⟨x0,x1,ct,nd,ms⟩=(sm&&(ic&&((decide (nd=[])||nk)&&im))) by rw [gU];simp only [hsm,hnk,hic,him]);obtain ⟨o,ho⟩:∃o,gU ⟨x0,x1,ct,nd,ms⟩=o:=⟨_,rfl⟩;have hbz:=nS nd;rw [ho] at HS ⊢;clear hsm hnk ho hn hic him;go_enter func125,ntmps125;go_wp2_with fail;refine (uH C _).mono ?_;rintro e w1 ⟨rfl,hb⟩;have HB1:=aA (yB (uH HB0) hb);have P1:=(uH P0).below hb;have p2:=P1.at 2;have p3:=P1.at 3;have p4:=P1.at 4;simp at p2 p3 p4;clear hb P1 P0 HB0 C;cases sm with
 | false=>go_wp2;go_ret;exact ⟨yF (by rw [uH HS];simp),uH HB1⟩
 | true=>
 go_wp2_with fail
 refine (uH CC _).mono ?_;rintro e w2 ⟨rfl,rfl⟩;clear CC;cases ic with
 | false=>go_wp2;go_ret;exact ⟨yF (by rw [uH HS];simp),uH HB1⟩
 | true=>
 by_cases hz:nd=[]
 ·rw [decide_eq_true hz] at hbz HS;clear hz CN;go_wp2_with fail;refine (uH CD _).mono ?_;rintro e w3 ⟨rfl,rfl⟩;clear CD;go_wp2;go_ret;exact ⟨yF (by rw [uH HS];simp),uH HB1⟩
 ·rw [decide_eq_false hz] at hbz HS;clear hz;go_wp2_with fail;refine (uH CN _).mono ?_;rintro e w3 ⟨rfl,rfl⟩;clear CN;cases nk with
  | false=>go_wp2;go_ret;exact ⟨yF (by rw [uH HS];simp),uH HB1⟩
  | true=>
  go_wp2_with fail
  refine (uH CD _).mono ?_;rintro e w4 ⟨rfl,rfl⟩;clear CD;go_wp2;go_ret;exact ⟨yF (by rw [uH HS];simp),uH HB1⟩
def CSt (w0:World) (B g:Nat) (ao:Option Addr) (len cap:Nat) (w:World):Prop:=Cur w g ao len cap∧Code w B ao len∧w0.grownBy w (some g)∧B≤g
theorem CSt.step {len:Nat} (h:CSt w0 B g ao len cap w) (hc:Cur w' g ao len cap) (hg:w.grownBy w' (some g)):CSt w0 B g ao len cap w':=
 ⟨hc,h.2.1.grown hg h.2.2.2,cZ h.2.2.1 hg,h.2.2.2⟩
theorem CSt.below {len:Nat} (h:CSt w0 B g ao len cap w) (hb:Bw w w'):CSt w0 B g ao len cap w':=
 ⟨h.1.below hb h.1.lt,h.2.1.below hb h.2.1.1,aI h.2.2.1 hb,h.2.2.2⟩
theorem CSt.alloc {len:Nat} (h:CSt w0 B g ao len cap w) (o:Obj):CSt w0 B g ao len cap (w.alloc o):=h.below ((yH _ _).alloc (yJ _) o)
theorem bF {len:Nat} (n:Int) (w:World) (h:CSt w0 B g ao len cap w) (hn0:0<n) (hn1:n≤9223372036854775807) :
  cP 57 #[.pointer (some ⟨g,0,none⟩),.int .i64 n] w fun e w'=>∃x:Int,e=.returned (.int .i64 x)∧0≤x∧x<n∧CSt w0 B g ao len cap w'∧w.grownBy w' (some g):=
 (vC B g ao len cap n w h.1 h.2.1 h.2.2.2 hn0 hn1).mono fun e w' ⟨x,h1,h2,h3,h4,h5⟩=>⟨x,h1,h2,h3,h.step h4 h5,h5⟩
theorem aEk (B:Nat) (ao:Option Addr) (len cap:Nat) (w:World) (hcode:Code w B ao len) :
  cP 55 #[.slice ao len cap] w fun e w'=>e=.returned (.pointer (some ⟨w.heap.size,0,none⟩))∧CSt w B w.heap.size ao len cap w':=by
 have hl:=hcode.2.1;have HK:=aA hcode;go_enter func55,ntmps55;go_wp2;go_loop [3,4] (fun v i=>∃(k:Nat) (h:Int),k≤len∧i=.int .i64 (k:Int)∧v=.int .i64 h∧0≤h∧h≤1073741823) (fun _ i=>len - (intOf i).toNat);case atStart=>exact ⟨0,_,Nat.zero_le _,rfl,rfl,by omega,by omega⟩
 case round=>
  obtain ⟨k,h,hk,rfl,rfl,hh0,hh1⟩:=hrel;by_cases hlt:k<len
  ·rcases hcode.2.2 with h0 | ⟨b,off,zs,rfl,Qx,hz,hzs⟩
   ·omega
   by_cases h4:k<4000
   ·have hcz:=hz k hlt;obtain ⟨hz0,hz1⟩:=hzs k;(have VD:(k:Int)<(len:Int):=by omega);have hm:=aA (aBv (h*131+zs k+7) 1073741823 (by decide) (by decide));clear hz hzs hcode;go_wp2;(go_round);(case rel=>exact ⟨k+1,_,by omega,by go_num,rfl,(uH hm).1,(uH hm).2⟩);case measure=>simp [intOf];omega
   ·clear hz hzs hcode;go_wp2;go_ret;refine ⟨rfl,⟨0,h,?_,Nat.zero_le _⟩,(uH HK).below ((yH _ _).alloc (yJ _) _) (uH HK).1,aI (aF w _) ((yH _ _).alloc (yJ _) _),(uH HK).1⟩;(show (w.heap.push _)[w.heap.size]? = _);simp
  ·clear hcode;go_wp2;go_ret;refine ⟨rfl,⟨0,h,?_,Nat.zero_le _⟩,(uH HK).below ((yH _ _).alloc (yJ _) _) (uH HK).1,aI (aF w _) ((yH _ _).alloc (yJ _) _),(uH HK).1⟩;(show (w.heap.push _)[w.heap.size]? = _);simp
def aLF (w:World) (q L:Nat):Prop:=q<w.heap.size∧∀j,j<L→∃z:Int,w.cell? ⟨q,j,none⟩=some (.int .i64 z)∧-9223372036854775808≤z∧z≤9223372036854775807
theorem jS {len:Nat} (q L c:Nat) (w:World) (h:CSt w0 B g ao len cap w) (hq:aLF w q L) (hne:q≠g) (hL:0<L) (hL1:L≤1000) :
  cP 95 #[.pointer (some ⟨g,0,none⟩),.slice (some ⟨q,0,none⟩) L c] w fun e w'=>∃x:Int,e=.returned (.int .i64 x)∧-9223372036854775808≤x∧x≤9223372036854775807∧CSt w0 B g ao len cap w':=by
 have HS:=aA h;clear h;go_enter func95,ntmps95;go_wp2_with fail;refine (bF _ _ (uH HS) (by omega) (by omega)).mono ?_;rintro e w1 ⟨x,rfl,hx0,hx1,hs1,hg1⟩;obtain ⟨X,rfl⟩:=Int.eq_ofNat_of_zero_le hx0;obtain ⟨z,hz,hz0,hz1⟩:=hq.2 X (by omega);have hc:w1.cell? ⟨q,X,none⟩=some (.int .i64 z):=(World.cell?_of_block (w:=w) (a:=⟨q,X,none⟩) (hg1.block q hq.1 (fun e=>hne (Option.some.inj e)))).trans hz;have Zq:=aA hs1;clear hs1 hg1 hz hq;go_wp2;go_ret;exact ⟨z,rfl,hz0,hz1,uH Zq⟩
theorem dK (w:World) (t:TypeId) (zs:List Int) (h:zs.all (fun z=>decide (-9223372036854775808≤z)&&decide (z≤9223372036854775807))=true):aLF (w.alloc (.cells (zs.map (Value.int .i64)).toArray t)) w.heap.size zs.length:=by
 refine ⟨by simp,fun j hj=>⟨zs[j],?_,?_⟩⟩
 ·rw [World.cell?_alloc_mark];simp [hj]
 ·have:=List.all_eq_true.1 h zs[j] (yM hj);simpa using this
theorem Var.grown {t:TypeId} {q:Nat} {x y:Int} (h:Var w t q x y) (hg:w.grownBy w' (some g)) (hn:q≠g):Var w' t q x y:=h.same (hg.block q h.lt (fun e=>hn (Option.some.inj e)))
theorem aHW {w1:World} {k j:Nat} (h:w.grownBy w1 (some g)) (hk:w.heap.size≤k):w.grownBy (w1.setCell ⟨k,j,none⟩ v) (some g):=
 ⟨h.os,h.tape,h.output,by simpa using h.size,fun i hi hn=>by
  rw [heap_setCell_other w1 ⟨k,j,none⟩ i v (by have:i<k:=Nat.lt_of_lt_of_le hi hk;exact Nat.ne_of_lt this)];exact h.block i hi hn⟩
theorem CSt.set {len:Nat} (h:CSt w0 B g ao len cap w) (k j:Nat) (v:Value) (hk:w0.heap.size≤k) (hB:B≤k) (hn:k≠g):CSt w0 B g ao len cap (w.setCell ⟨k,j,none⟩ v):=by
 refine ⟨?_,?_,aHW h.2.2.1 hk,h.2.2.2⟩
 ·obtain ⟨i,x,h1,h2⟩:=h.1;exact ⟨i,x,by rw [heap_setCell_other w ⟨k,j,none⟩ g v (fun e=>hn e.symm)];exact h1,h2⟩
 ·have hb:Below B w (w.setCell ⟨k,j,none⟩ v):=(yH B w).setCell hB v;exact h.2.1.below hb (yJ _)
def Low (w0:World) (B g:Nat) (w:World):Prop:=w0.heap.size≤w.heap.size∧B≤w.heap.size∧g<w.heap.size
theorem CSt.low {len:Nat} (h:CSt w0 B g ao len cap w):Low w0 B g w:=⟨h.2.2.1.size,by have:=h.1.lt;have:=h.2.2.2;omega,h.1.lt⟩
theorem aDz (B g:Nat) (ao:Option Addr) (len cap:Nat) (n:Int) (w:World) (hcur:Cur w g ao len cap) (hcode:Code w B ao len) (hB:B≤g) (hn0:0<n) (hn1:n≤9223372036854775807) :
  cP 217 #[.pointer (some ⟨g,0,none⟩),.int .i64 n] w fun e w'=>∃x:Bool,e=.returned (.bool x)∧Cur w' g ao len cap∧w.grownBy w' (some g):=by
 have HC:=aA hcur;have HK:=aA hcode;clear hcur hcode;go_enter func217,ntmps217;go_wp2_with fail;refine (vC B g ao len cap _ _ (uH HC) (uH HK) hB hn0 hn1).mono ?_;rintro e w1 ⟨x,rfl,hx0,hx1,hc1,hg1⟩;have zw:=aA hc1;have Vq:=aA hg1;clear hc1 hg1;go_wp2;go_ret;exact ⟨_,rfl,uH zw,uH Vq⟩
theorem aGm {len:Nat} (n:Int) (w:World) (h:CSt w0 B g ao len cap w) (hn0:0<n) (hn1:n≤9223372036854775807) :
  cP 217 #[.pointer (some ⟨g,0,none⟩),.int .i64 n] w fun e w'=>∃x:Bool,e=.returned (.bool x)∧CSt w0 B g ao len cap w':=
 (aDz B g ao len cap n w h.1 h.2.1 h.2.2.2 hn0 hn1).mono fun e w' ⟨x,h1,h4,h5⟩=>⟨x,h1,h.step h4 h5⟩
def sU (w:World) (q L:Nat):Prop:=q<w.heap.size∧∀j,j<L→∃s:ByteArray,w.cell? ⟨q,j,none⟩=some (.string s)∧s.size≤12
theorem dU (w:World) (t:TypeId) (xs:List ByteArray) (h:xs.all (fun s=>decide (s.size≤12))=true):sU (w.alloc (.cells (xs.map Value.string).toArray t)) w.heap.size xs.length:=by
 refine ⟨by simp,fun j hj=>⟨xs[j],?_,?_⟩⟩
 ·rw [World.cell?_alloc_mark];simp [hj]
 ·have:=List.all_eq_true.1 h xs[j] (yM hj);simpa using this
theorem jD {len:Nat} (q L c:Nat) (w:World) (h:CSt w0 B g ao len cap w) (hq:sU w q L) (hne:q≠g) (hL:0<L) (hL1:L≤1000) :
  cP 56 #[.pointer (some ⟨g,0,none⟩),.slice (some ⟨q,0,none⟩) L c] w fun e w'=>∃s:ByteArray,e=.returned (.string s)∧s.size≤12∧CSt w0 B g ao len cap w':=by
 have HS:=aA h;clear h;go_enter func56,ntmps56;go_wp2_with fail;refine (bF _ _ (uH HS) (by omega) (by omega)).mono ?_;rintro e w1 ⟨x,rfl,hx0,hx1,hs1,hg1⟩;obtain ⟨X,rfl⟩:=Int.eq_ofNat_of_zero_le hx0;obtain ⟨z,hz,hz0⟩:=hq.2 X (by omega);have hc:w1.cell? ⟨q,X,none⟩=some (.string z):=(World.cell?_of_block (w:=w) (a:=⟨q,X,none⟩) (hg1.block q hq.1 (fun e=>hne (Option.some.inj e)))).trans hz;have Zq:=aA hs1;clear hs1 hg1 hz hq;go_wp2;go_ret;exact ⟨z,rfl,hz0,uH Zq⟩
theorem aJp {len:Nat} (w:World) (h:CSt w0 B g ao len cap w) :
  cP 196 #[.pointer (some ⟨g,0,none⟩)] w fun e w'=>∃s:ByteArray,e=.returned (.string s)∧s.size≤12∧CSt w0 B g ao len cap w':=by
 have HS:=aA h;clear h;go_enter func196,ntmps196;go_wp2_with fail;refine (aGm 16 _ (uH HS) (by decide) (by decide)).mono ?_;rintro e w1 ⟨x,rfl,hs1⟩;have Zq:=aA hs1;have hne:Hid (w1.heap.size≠g):=aA (by have:=hs1.1.lt;omega);clear hs1;cases x with
 | true=>have hq:=aA (dU w1 9 [⟨#[]⟩,⟨#[65]⟩,⟨#[48,49,50,51,52,53,54,55,56,57]⟩,⟨#[48,49,50,51,52,53,54,55,56,57,48]⟩,⟨#[97,32,98]⟩] (by decide));go_wp2_with fail;refine (jD w1.heap.size 5 5 _ ((uH Zq).alloc _) (uH hq) (uH hne) (by decide) (by decide)).mono ?_;rintro e w2 ⟨x,rfl,hx0,hs2⟩;have HS2:=aA hs2;clear hs2;go_wp2;go_ret;exact ⟨x,rfl,hx0,uH HS2⟩
 | false=>have hq:=aA (dU w1 9 [⟨#[97]⟩,⟨#[98]⟩,⟨#[114,111,111,116]⟩] (by decide));go_wp2_with fail;refine (jD w1.heap.size 3 3 _ ((uH Zq).alloc _) (uH hq) (uH hne) (by decide) (by decide)).mono ?_;rintro e w2 ⟨x,rfl,hx0,hs2⟩;have HS2:=aA hs2;clear hs2;go_wp2;go_ret;exact ⟨x,rfl,hx0,uH HS2⟩
abbrev aKG (q:Q):List Value:=[.string (bs q.name),.string (bs q.parent),.int .i64 q.due,.int .i64 q.most]
def dN:List Q→List Value
 | []=>[]
 | q::t=>aKG q++dN t
theorem aBC (a b:List Q):dN (a++b)=dN a++dN b:=by
 induction a with
 | nil=>rfl
 | cons x t ih=>rw [List.cons_append,dN,dN,ih,List.append_assoc]
theorem pW:∀l:List Q,(dN l).length=l.length*4
 | []=>rfl
 | q::t=>by rw [dN,List.length_append,pW t];simp;omega
theorem aDD:∀(l:List Q) (i:Nat) (h:i<l.length),(dN l)[i*4]? = some (.string (bs l[i].name))∧(dN l)[i*4+1]? = some (.string (bs l[i].parent))∧(dN l)[i*4+2]? = some (.int .i64 l[i].due)∧(dN l)[i*4+3]? = some (.int .i64 l[i].most)
 | q::t,0,_=>⟨rfl,rfl,rfl,rfl⟩
 | q::t,i+1,h=>by
  have e:=aDD t i (by simpa using h);have k:∀j,(dN (q::t))[(i+1)*4+j]? = (dN t)[i*4+j]?:=fun j=>by
   rw [dN,show (i+1)*4+j=(aKG q).length+(i*4+j) by simp;omega,List.getElem?_append_right (by omega)];(congr 1);omega
  have k0:=k 0;simp only [Nat.add_zero] at k0;rw [k0,k 1,k 2,k 3];simpa using e
def QDr (B:Nat) (w:World) (v:Value) (l:List Q):Prop:=w.ownsRow B 105 4 v l.length (dN l)
theorem QDr.kept {row:Option Nat} (h:QDr B w v l) (hg:w.grownBy w' row) (hr:∀k,row=some k→k<B):QDr B w' v l:=by
 refine World.ownsRow.kept h hg ?_;rcases h.2 with ⟨rfl,_⟩ | ⟨g,cap,cur,rfl,hg',_⟩
 ·exact .inl rfl
 ·right
  intro e;have:=hr g e.symm;omega
theorem QDr.below (h:QDr B w v l) (hb:Bw w w'):QDr B w' v l:=h.kept (aI (aF w none) hb) (fun k e=>by cases e)
theorem QDr.row (h:QDr B w v l) (hl:l≠[]):∃g cap cur,v=.slice (some ⟨g,0,none⟩) l.length cap∧gN w (some ⟨g,0,none⟩) l.length l∧l.length≤cap∧B≤g∧w.heap[g]? = some (.cells cur 105 (0,0)):=by
 rcases h.2 with ⟨rfl,h0⟩ | ⟨g,cap,cur,rfl,h1,h2,h3,h4,h5,h6⟩
 ·exact absurd (List.length_eq_zero_iff.1 h0) hl
 ·refine ⟨g,cap,cur,rfl,⟨rfl,.inr ⟨g,0,rfl,fun i hi=>?_⟩⟩,h3,h1,h2⟩;obtain ⟨a,b,c,d⟩:=aDD l i hi;have k:∀j (v:Value),j<l.length*4→(dN l)[j]? = some v→w.cell? ⟨g,j,none⟩=some v:=fun j v hj hv=>by
   rw [←h6,List.getElem?_take_of_lt hj] at hv;simp [World.cell?,h2];simpa using hv
  unfold QAt;rw [Nat.zero_add];exact ⟨k _ _ (by omega) a,k _ _ (by omega) b,k _ _ (by omega) c,k _ _ (by omega) d⟩
theorem aJc (w:World) (l:List Q) (n:Nat) (hn:l.length=n) (hm:n≤1000):QDr w.heap.size (w.alloc (.cells (dN l).toArray 105)) (.slice (some ⟨w.heap.size,0,none⟩) n n) l:=by
 subst hn;refine ⟨pW l,.inr ⟨w.heap.size,l.length,(dN l).toArray,rfl,yJ _,by show (w.heap.push _)[w.heap.size]? = _;simp,yJ _,by unfold maxLen;omega,by simp [pW],?_⟩⟩;rw [←pW];simp
theorem gN.put {b off len:Nat} (h:gN w (some ⟨b,off,none⟩) len l) (i:Nat) (hi:i<l.length) (q:Q) (j:Nat) (x:Value)
  (hx:(j=0∧x=.string (bs q.name)∧q = { l[i] with name:=q.name })∨(j=1∧x=.string (bs q.parent)∧q = { l[i] with parent:=q.parent })∨(j=2∧x=.int .i64 q.due∧q = { l[i] with due:=q.due })∨(j=3∧x=.int .i64 q.most∧q = { l[i] with most:=q.most })) :
  gN (w.setCell ⟨b,off+i*4+j,none⟩ x) (some ⟨b,off,none⟩) len (l.set i q):=by
 obtain ⟨h1,h2⟩:=h;have hl:len≠0:=by omega
 rcases h2 with h2 | ⟨b',off',e,h4⟩
 ·exact absurd h2 hl
 ·cases e;have hot:∀p,p≠off+i*4+j→(w.setCell ⟨b,off+i*4+j,none⟩ x).cell? ⟨b,p,none⟩=w.cell? ⟨b,p,none⟩:=fun p hp=>World.cell?_setCell_other _ ⟨b,off+i*4+j,none⟩ ⟨b,p,none⟩ _ (by intro e;have:=congrArg Addr.off e;simp at this;omega)
  have gz:∀v,w.cell? ⟨b,off+i*4+j,none⟩=some v→(w.setCell ⟨b,off+i*4+j,none⟩ x).cell? ⟨b,off+i*4+j,none⟩=some x:=fun v hv=>World.cell?_setCell_same w _ _ hv
  refine ⟨by simpa using h1,.inr ⟨b,off,rfl,fun k hk=>?_⟩⟩;have hk':k<l.length:=by simpa using hk
  obtain ⟨a0,a1,a2,a3⟩:=h4 k hk';by_cases e:k=i
  ·subst e;rw [show (l.set k q)[k]=q by simp];rcases hx with ⟨rfl,rfl,hq⟩ | ⟨rfl,rfl,hq⟩ | ⟨rfl,rfl,hq⟩ | ⟨rfl,rfl,hq⟩
   ·refine ⟨gz _ a0,?_,?_,?_⟩
    ·rw [hot _ (by omega),a1,hq]
    ·rw [hot _ (by omega),a2,hq]
    ·rw [hot _ (by omega),a3,hq]
   ·refine ⟨?_,gz _ a1,?_,?_⟩
    ·rw [hot _ (by omega),a0,hq]
    ·rw [hot _ (by omega),a2,hq]
    ·rw [hot _ (by omega),a3,hq]
   ·refine ⟨?_,?_,gz _ a2,?_⟩
    ·rw [hot _ (by omega),a0,hq]
    ·rw [hot _ (by omega),a1,hq]
    ·rw [hot _ (by omega),a3,hq]
   ·refine ⟨?_,?_,?_,gz _ a3⟩
    ·rw [hot _ (by omega),a0,hq]
    ·rw [hot _ (by omega),a1,hq]
    ·rw [hot _ (by omega),a2,hq]
  ·rw [show (l.set i q)[k]=l[k] by rw [List.getElem_set_ne (fun h=>e h.symm)]];(have hj:j<4:=by rcases hx with ⟨rfl,_⟩ | ⟨rfl,_⟩ | ⟨rfl,_⟩ | ⟨rfl,_⟩<;>omega);refine ⟨?_,?_,?_,?_⟩
   ·rw [hot _ (by omega),a0]
   ·rw [hot _ (by omega),a1]
   ·rw [hot _ (by omega),a2]
   ·rw [hot _ (by omega),a3]
def aBx (l:List Q):Prop:=∀q ∈ l,q.name.length≤1000∧q.parent.length≤1000
theorem aBx.set (h:aBx l) (i:Nat) (q:Q) (hq:q.name.length≤1000∧q.parent.length≤1000):aBx (l.set i q):=fun x hx=>by
 rcases List.mem_or_eq_of_mem_set hx with hx | rfl
 ·exact h x hx
 ·exact hq
theorem CSt.gro {len:Nat} (h:CSt w0 B g ao len cap w) {row:Option Nat} (hg:w.grownBy w' row) (hr:∀k,row=some k→w0.heap.size≤k∧g<k):CSt w0 B g ao len cap w':=by
 obtain ⟨⟨i,x,h1,h2⟩,hc,hgr,hB⟩:=h;have hgl:g<w.heap.size:=lt_of_block h1;refine ⟨⟨i,x,(hg.block g hgl (fun e=>by have:=hr g e.symm;omega)).trans h1,h2⟩,?_,hgr.andThen hg (fun j hj=>.inl (hr j hj).1),hB⟩;exact hc.below ((yH B w).grown hg hc.1 (fun k e=>by have:=hr k e;omega)) (yJ _)
theorem Tryz.infoQD:(Tryz.prog.info? 105).map (fun i=>(i.zero,i.size,i.bytes))=some (some (.agg #[.string .empty,.string .empty,.int .i64 0,.int .i64 0]),4,48):=by kernel_rfl
abbrev aKd (qo:Option Addr) (n c:Nat):Sls:=⟨qo,n,c,none,0,0,none,0,0,none,0,0⟩
abbrev aAN (l:List Q) (ep nx se:Int):St:=⟨l,0,ep,nx,se,[],[],[]⟩
theorem aJm {qo:Option Addr} {n c:Nat} (ep nx se:Int) (h:gN w qo n l):iL w (aKd qo n c) (aAN l ep nx se):=⟨h,⟨rfl,.inl rfl⟩,⟨rfl,.inl rfl⟩,⟨rfl,.inl rfl⟩⟩
theorem aJo (ep nx se:Int) (h:aLH l):bH (aAN l ep nx se):=⟨h,⟨by simp,by simp⟩,⟨by simp,by simp⟩,⟨by simp,by simp⟩⟩
end
end Go.Proofs.YtfndhndlkcijoaaGreat
