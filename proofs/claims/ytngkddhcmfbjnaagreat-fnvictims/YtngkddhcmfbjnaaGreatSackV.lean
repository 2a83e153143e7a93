/-
  Texts in one: OkD, OkE, OkF, UByI.
-/
import Derived.Test.YtngkddhcmfbjnaaGreatSackR
import Derived.Maps.RangeWalk
set_option maxRecDepth 100000
set_option maxHeartbeats 16000000
set_option linter.unusedVariables false
set_option linter.unusedSimpArgs false
namespace Go.Proofs.YtngkddhcmfbjnaaGreat
section
open Go.RowKit
variable {ck:Int} {l:List Mac} {last:List UInt8} {k:Nat}
def leT (a b:List UInt8):Bool:=Op.bytesLess (bs a).toList (bs b).toList||((bs a).toList==(bs b).toList)
def bA (ck:Int):List UInt8→List Mac→Bool
 | _,[]=>true
 | last,m::t=>!leT m.name last&&(bJ m.name&&(decide (0≤m.seen)&&(decide (m.seen≤ck)&&bA ck m.name t)))
def l8 (s:St):Bool:=decide (s.ms.length≤20)&&(bA s.clock [] s.ms&&(iL (aT s.ms)).2.2)
theorem z8 (h:k<l.length):bA ck last (l.drop k)=(!leT l[k].name last&&(bJ l[k].name&&(decide (0≤l[k].seen)&&(decide (l[k].seen≤ck)&&bA ck l[k].name (l.drop (k+1)))))):=by
 rw [List.drop_eq_getElem_cons h,bA]
theorem aBQ (h:l.length≤k):bA ck last (l.drop k)=true:=by
 rw [List.drop_of_length_le h];rfl
theorem aAA (x:Sls) (s:St) (w:World) (h:gU w x s) (hf:dI s) :
  cP 77 #[sv x s] w fun e w'=>e=.returned (.bool (l8 s))∧Bw w w':=by
 have GN:x.ml≤1048576:=by have:=h.len.2.2.1;have:=hf.2.2.1.1;omega
 have HR:=aA h.2.2.1
 have HL:=aA h.2.2.1.1
 have FE:=aA hf.2.2.1
 obtain ⟨⟨cx,cy,co⟩,hco⟩:∃r,iL (aT s.ms)=r:=⟨_,rfl⟩
 have CC:=aA (fun wx (hb:Bw w wx)=>by have:=aEu x s wx (h.2.2.1.below hb) GN;rw [hco] at this;exact this)
 have HS:=aA (show l8 s=(decide (x.ml≤20)&&(bA s.clock [] s.ms&&co)) by rw [l8,←h.2.2.1.1,hco])
 obtain ⟨o,ho⟩:∃o,l8 s=o:=⟨_,rfl⟩
 rw [ho] at HS ⊢
 clear h hf ho hco
 have hb0:=yA (yH _ w) (.cells (svc x s) 29)
 have P0:=aA (yD w (svc x s) 29)
 obtain ⟨qa,ql,qc,aa,al,ac,ma,ml,mc,ca,cl,cc⟩:=x
 obtain ⟨qs,clock,epoch,next,serial,apps,ms,cs⟩:=s
 simp only at GN HR HL FE CC HS P0 hb0
 have HB0:=aA hb0
 clear hb0
 by_cases XX:ml≤20
 case neg=>
  have hi:(20:Int)<ml:=by omega
  rw [decide_eq_false XX] at HS
  go_enter Tryz.func77,Tryz.ntmps77
  go_wp2
  go_ret
  exact ⟨yF (by rw [uH HS];simp),uH HB0⟩
 have hi:¬(20:Int)<ml:=by omega
 rw [decide_eq_true XX,Bool.true_and] at HS
 clear XX
 go_enter Tryz.func77,Tryz.ntmps77
 go_wp2
 go_loopw [3,15] (fun la i wr=>∃(k:Nat) (last:List UInt8),k≤ml∧i=.int .i64 k∧la=.string (bs last)∧Hid (o=(bA clock last (ms.drop k)&&co))∧Hid (Blk wr w.heap.size (svc ⟨qa,ql,qc,aa,al,ac,ma,ml,mc,ca,cl,cc⟩ ⟨qs,clock,epoch,next,serial,apps,ms,cs⟩) 29)∧Hid (Bw w wr)) (fun _ i _=>ml - (intOf i).toNat)
 case atStart=>exact ⟨0,[],Nat.zero_le _,rfl,rfl,aA (by rw [uH HS];simp),P0,HB0⟩
 case round=>
  obtain ⟨k,last,hk,rfl,rfl,HO,P1,HB⟩:=hrel
  clear P0 HB0 HS
  by_cases hlt:k<ml
  ·obtain ⟨b,off,rfl,hq⟩:=((uH HR).below (uH HB)).at hlt
   have hkl:k<ms.length:=by have:=uH HL;omega
   have hst:=aA (z8 (ck:=clock) (last:=last) (l:=ms) (k:=k) hkl)
   have hfa:=(uH FE).2 _ (yM hkl)
   obtain ⟨c0,c1,c2,c3⟩:=hq hkl
   obtain ⟨⟨nm,me,cp,se⟩,hs⟩:∃s,ms[k]=s:=⟨_,rfl⟩
   rw [hs] at c0 c1 c2 c3 hst hfa
   simp only at c0 c1 c2 c3 hst hfa
   obtain ⟨no,hno⟩:∃b,bJ nm=b:=⟨_,rfl⟩
   have C1:=aA (fun wx=>by have:=lK (bs nm) wx (by rw [dD];exact hfa);rw [show bJ (bs nm).data.toList=no by rw [←hno];simp [bs]] at this;exact this)
   obtain ⟨l1,hl1⟩:∃b,Op.bytesLess (bs nm).toList (bs last).toList=b:=⟨_,rfl⟩
   obtain ⟨l2,hl2⟩:∃b,((bs nm).toList==(bs last).toList)=b:=⟨_,rfl⟩
   have KI:=aA (show bA clock last (ms.drop k)=(!(l1||l2)&&(no&&(decide (0≤se)&&(decide (se≤clock)&&bA clock nm (ms.drop (k+1)))))) by rw [uH hst,leT,hl1,hl2,hno])
   have hb2:=yA (yH _ wr) (.cells #[.string (bs nm),.int .i64 me,.int .i64 cp,.int .i64 se] 102)
   have P2:=aA ((uH P1).below hb2)
   have HB2:=aA (yB (uH HB) hb2)
   have p1:=(uH P2).at 1
   simp at p1
   clear hq hs hkl hfa hb2 hno hst CC
   cases l1<;>cases l2
   case false.false=>
    go_wp2_with fail
    refine (uH C1 _).mono ?_
    rintro e w1 ⟨rfl,rfl⟩
    cases no with
    | false=>
     go_wp2
     go_ret
     exact ⟨yF (by rw [uH HO,uH KI];simp),uH HB2⟩
    | true=>
    by_cases h1:0≤se
    case neg=>
     have h1':se<0:=by omega
     go_wp2
     go_ret
     exact ⟨yF (by rw [uH HO,uH KI,decide_eq_false (show ¬0≤se by omega)];simp),uH HB2⟩
    by_cases h2:se≤clock
    case neg=>
     have h1':¬se<0:=by omega
     have h2':clock<se:=by omega
     go_wp2
     go_ret
     exact ⟨yF (by rw [uH HO,uH KI,decide_eq_false (show ¬se≤clock by omega)];simp),uH HB2⟩
    have h1':¬se<0:=by omega
    have h2':¬clock<se:=by omega
    have GD:=aA (show o=(bA clock nm (ms.drop (k+1))&&co) by rw [uH HO,uH KI,decide_eq_true h1,decide_eq_true h2];simp)
    go_wp2
    go_roundw
    case rel=>exact ⟨k+1,nm,by omega,by go_num,rfl,GD,P2,HB2⟩
    case measure=>simp [intOf];omega
   all_goals
    go_wp2
    go_ret
    exact ⟨yF (by rw [uH HO,uH KI];simp),uH HB2⟩
  ·have GD:=aA (show o=co by rw [uH HO,aBQ (by have:=uH HL;omega)];simp)
   have p0:=(uH P1).at 0;have p1:=(uH P1).at 1;have p2:=(uH P1).at 2;have p3:=(uH P1).at 3
   have p4:=(uH P1).at 4;have p5:=(uH P1).at 5;have p6:=(uH P1).at 6;have p7:=(uH P1).at 7
   simp at p0 p1 p2 p3 p4 p5 p6 p7
   go_wp2_with fail
   refine (uH CC _ (uH HB)).mono ?_
   rintro e w1 ⟨rfl,hb⟩
   have HB2:=aA (yA (yB (uH HB) hb) (.cells #[.int .i64 cx,.int .i64 cy] 37))
   clear hb CC
   go_wp2
   go_ret
   exact ⟨yF (by rw [uH GD]),uH HB2⟩
end
section
open Go.RowKit Go.Maps
variable {last:Int} {cs:List Con} {l:List Mac} {m:Mac} {k:Nat}
def d9 (apps:List bN):List Mac→Int→List Con→Bool
 | _,_,[]=>true
 | l,last,c::t=>decide (last<c.id)&&(decide (c.id≤1000000000)&&(lZ c.mem c.cpu&&((bH c.app apps).isSome&&((bQ c.node l).isSome&&(aP (-1) ((bQ c.node l).getD ⟨[],0,0,0⟩).mem ((bQ c.node l).getD ⟨[],0,0,0⟩).cpu c.mem c.cpu
   && d9 apps (⟨((bQ c.node l).getD ⟨[],0,0,0⟩).name,((bQ c.node l).getD ⟨[],0,0,0⟩).mem + -1*c.mem,((bQ c.node l).getD ⟨[],0,0,0⟩).cpu + -1*c.cpu,((bQ c.node l).getD ⟨[],0,0,0⟩).seen⟩::l) c.id t)))))
def mG (s:St):Bool:=decide (s.cs.length≤150)&&d9 s.apps s.ms 0 s.cs
theorem aB7 {apps:List bN} (h:cs.length≤k):d9 apps l last (cs.drop k)=true:=by
 rw [List.drop_of_length_le h];rfl
theorem aAE {apps:List bN} (h:k<cs.length) {b:Bool} (hm:(bQ cs[k].node l).getD ⟨[],0,0,0⟩=m) (hb:(bQ cs[k].node l).isSome=b) :
  d9 apps l last (cs.drop k)=(decide (last<cs[k].id)&&(decide (cs[k].id≤1000000000)&&(lZ cs[k].mem cs[k].cpu&&((bH cs[k].app apps).isSome&&(b&&(aP (-1) m.mem m.cpu cs[k].mem cs[k].cpu
   && d9 apps (⟨m.name,m.mem + -1*cs[k].mem,m.cpu + -1*cs[k].cpu,m.seen⟩::l) cs[k].id (cs.drop (k+1)))))))):=by
 rw [List.drop_eq_getElem_cons h,d9,hm,hb]
theorem sJ {nm:List UInt8} (h:bQ nm l=some m):m.name=nm:=by simpa using List.find?_some h
theorem aHQ {s:List bN} {hs:List AV} {w:World} (hh:jJ w hs s) (q:Con):aHR hs (fun _=>true) q=(bH q.app s).isSome:=by
 have:=aAb (id:=q.app) hh.1 (fun i h h'=>⟨(hh.2 i h h').1,(hh.2 i h h').2.1⟩)
 rw [aHR]
 cases h1:fJ q.app hs<;>cases h2:bH q.app s<;>rw [h1,h2] at this<;>simp [aKI] at this ⊢
theorem aBK (q:Con) (w:World) :
  cP 130 #[conv q] w fun e w'=>e=.returned (oW q.node 0)∧Bw w w':=by
 obtain ⟨id,ap,nd,me,cp⟩:=q
 go_enter Tryz.func130,Tryz.ntmps130
 go_wp2
 refine bodyPost_ret (v:=oW nd 0) (by simp [results,Tryz.results130,go_sem];try rfl) rfl ⟨rfl,?_⟩
 repeat (first | exact yH _ _ | refine yA ?_ _ | refine Below.drew ?_ | refine yC ?_ _ _ _ (by omega))
theorem aDq (x:Sls) (s:St) (w:World) (h:gU w x s) (hf:dI s) (hw:aAF s) :
  cP 78 #[sv x s] w fun e w'=>e=.returned (.bool (mG s))∧Bw w w':=by
 have hal:x.al≤1048576:=by have:=h.len.2.1;have:=hf.2.1.1;omega
 have GN:x.ml≤1048576:=by have:=h.len.2.2.1;have:=hf.2.2.1.1;omega
 have hcl:x.cl≤1048576:=by have:=h.len.2.2.2;have:=hf.2.2.2.1;omega
 have HR:=aA h.2.2.2
 have HL:=aA h.2.2.2.1
 have UO:=aA hf.2.2.2
 have BQ:=aA hw.2
 have hmn:s.ms.length≤1048576:=by have:=h.2.2.1.1;omega
 obtain ⟨hs,qj,hhd⟩:=h.2.1.heads
 have UH:=aA (fun q=>aHQ hhd q)
 have CA:=aA (fun wx (hb:Bw w wx)=>aBd x s hs wx (qj.below hb) hal (aB3 hhd hw.1))
 have CM:=aA (fun wx (hb:Bw w wx)=>aD8 x s wx (h.2.2.1.below hb) GN (fun m hm=>hf.2.2.1.2 m hm))
 have HS:=aA (show mG s=(decide (x.cl≤150)&&d9 s.apps s.ms 0 s.cs) by rw [mG,←h.2.2.2.1])
 obtain ⟨o,ho⟩:∃o,mG s=o:=⟨_,rfl⟩
 rw [ho] at HS ⊢
 clear h hf hw ho qj hhd
 obtain ⟨qa,ql,qc,aa,al,ac,ma,ml,mc,ca,cl,cc⟩:=x
 obtain ⟨qs,cv,ez,nv,sj,aj,ms,cs⟩:=s
 simp only at hal GN hcl HR HL UO BQ hmn CA CM HS UH
 have HB0:=aA (gG w (svc ⟨qa,ql,qc,aa,al,ac,ma,ml,mc,ca,cl,cc⟩ ⟨qs,cv,ez,nv,sj,aj,ms,cs⟩))
 have P0:=aA (eB w (svc ⟨qa,ql,qc,aa,al,ac,ma,ml,mc,ca,cl,cc⟩ ⟨qs,cv,ez,nv,sj,aj,ms,cs⟩))
 obtain ⟨q0,q1,q2,q3,q4,q5,q6,q7⟩:_∧_∧_∧_∧_∧_∧_∧_:=⟨(uH P0).at 0,(uH P0).at 1,(uH P0).at 2,(uH P0).at 3,(uH P0).at 4,(uH P0).at 5,(uH P0).at 6,(uH P0).at 7⟩
 simp at q0 q1 q2 q3 q4 q5 q6 q7
 by_cases XX:cl≤150
 case neg=>
  have hi:(150:Int)<cl:=by omega
  rw [decide_eq_false XX] at HS
  go_enter Tryz.func78,Tryz.ntmps78
  go_wp2
  go_ret
  exact ⟨yF (by rw [uH HS];simp),uH HB0⟩
 have hi:¬(150:Int)<cl:=by omega
 rw [decide_eq_true XX,Bool.true_and] at HS
 obtain ⟨W0,hW0⟩:∃W,o5 w (svc ⟨qa,ql,qc,aa,al,ac,ma,ml,mc,ca,cl,cc⟩ ⟨qs,cv,ez,nv,sj,aj,ms,cs⟩)=W:=⟨_,rfl⟩
 have QS:W0.heap.size=w.heap.size+1:=by rw [←hW0,zB]
 go_enter Tryz.func78,Tryz.ntmps78
 go_wp2_with fail
 change Code.wp _ _ _ _ (o5 w (svc ⟨qa,ql,qc,aa,al,ac,ma,ml,mc,ca,cl,cc⟩ ⟨qs,cv,ez,nv,sj,aj,ms,cs⟩))
 rw [hW0] at HB0 q0 q1 q2 q3 q4 q5 q6 q7 ⊢
 have R:∀wx,Kp W0 wx→wx.cell? ⟨w.heap.size,0,none⟩=some (.slice qa ql qc)∧wx.cell? ⟨w.heap.size,1,none⟩=some (.int .i64 cv)∧wx.cell? ⟨w.heap.size,2,none⟩=some (.int .i64 ez)∧wx.cell? ⟨w.heap.size,3,none⟩=some (.int .i64 nv)∧wx.cell? ⟨w.heap.size,4,none⟩=some (.int .i64 sj)∧wx.cell? ⟨w.heap.size,5,none⟩=some (.slice aa al ac)∧wx.cell? ⟨w.heap.size,6,none⟩=some (.slice ma ml mc)∧wx.cell? ⟨w.heap.size,7,none⟩=some (.slice ca cl cc):=fun wx h=>
  ⟨h.cell q0,h.cell q1,h.cell q2,h.cell q3,h.cell q4,h.cell q5,h.cell q6,h.cell q7⟩
 have A0:=aA (Kp.new W0)
 have HK:=aA (aK W0)
 have Q7:=aA q7
 clear q0 q1 q2 q3 q4 q5 q6 q7 P0 hW0 XX hi
 go_cut [3,4] from 16 to 19 (fun v3 v4 wx=>∃ba bm n,v3=.map (some ba)∧v4=.map (some bm)∧W0.heap.size≤ba∧ba<bm∧Hid (∃D,wx.ownsMap Tryz.prog 92 dE ba n D∧dO hs aDE D)∧Hid (∃D,wx.ownsMap Tryz.prog 92 jE bm ms.length D∧lW ms D)∧Kp W0 wx)
 case first=>
  go_region_held3 (fun wx=>Kp W0 wx)
   (first | (with_reducible assumption) | exact uH SA | exact (uH HK).drew (uH A0) | exact (uH HK).call (by assumption) (by assumption))
   (first
   | (go_at_call 63;refine (uH CA _ ?_).mono ?_;(exact yB (uH HB0) ((uH HK).below (by assumption)));rintro e wt ⟨ba,rfl,⟨GG,D1,KL,hk1⟩,hb⟩;have FV:=aA (And.intro KL hk1);have SZ:=(show W0.heap.size≤ba from Nat.le_trans ((uH HK).size (by assumption)) GG);have LT:=KL.lt;have SA:=aA ((uH HK).call (by assumption) hb);clear KL hk1)
   | (go_at_call 129;refine (uH CM _ ?_).mono ?_;(exact yB (uH HB0) ((uH HK).below (by assumption)));rintro e wt2 ⟨bm,rfl,⟨QM,D2,GZ,hk2⟩,hb⟩;have MV:=aA (And.intro GZ hk2);have SG:=aA (And.intro (bL (uH FV).1 hb) (uH FV).2);have SA:=aA ((uH HK).call (by assumption) hb);clear GZ hk2))
  all_goals
   go_wp2_with fail
   go_meet
   exact ⟨ba,bm,_,rfl,rfl,SZ,by omega,aA ⟨_,uH SG⟩,aA ⟨_,uH MV⟩,by first | assumption | exact uH SA⟩
 case rest=>
  obtain ⟨ba,bm,n,rfl,rfl,GG,QM,FV,MV,hA⟩:=hcut
  have HB1:=aA (yB (uH HB0) hA)
  have q7:=hA.cell (uH Q7)
  clear hA R A0 HK CA CM Q7
  go_wp2
  go_loopw [5,23] (fun la i wr=>∃(k:Nat) (last:Int) (l:List Mac),k≤cl∧i=.int .i64 k∧la=.int .i64 last∧l.length≤1048576+k∧Hid (o=d9 aj l last (cs.drop k))∧Hid (∃D,wr.ownsMap Tryz.prog 92 dE ba n D∧dO hs aDE D)∧Hid (∃D,wr.ownsMap Tryz.prog 92 jE bm l.length D∧lW l D)∧Hid (Bw w wr)) (fun _ i _=>cl - (intOf i).toNat)
  case atStart=>exact ⟨0,0,ms,Nat.zero_le _,rfl,rfl,by omega,aA (by rw [uH HS];simp),FV,MV,HB1⟩
  case round=>
   obtain ⟨k,last,l,hk,rfl,rfl,hll,HO,HA,HM,HB⟩:=hrel
   clear FV MV HB1 HS
   by_cases hlt:k<cl
   ·obtain ⟨b,off,rfl,hq⟩:=((uH HR).below (uH HB)).at hlt
    have hkl:k<cs.length:=by have:=uH HL;omega
    have hfc:=(uH UO).2 _ (yM hkl)
    have hwc:=uH BQ _ (yM hkl)
    obtain ⟨c0,c1,c2,c3,c4⟩:=hq hkl
    obtain ⟨m,hm⟩:∃m,(bQ cs[k].node l).getD ⟨[],0,0,0⟩=m:=⟨_,rfl⟩
    obtain ⟨th,hth⟩:∃t,(bQ cs[k].node l).isSome=t:=⟨_,rfl⟩
    have hst:=aAE (apps:=aj) (l:=l) (last:=last) hkl hm hth
    have KO:th=true→m.name=cs[k].node:=fun ht=>by
     cases hf:bQ cs[k].node l with
     | none=>rw [hf] at hth;subst ht;cases hth
     | some m'=>rw [hf] at hm;subst hm;exact sJ hf
    obtain ⟨q,hs'⟩:∃q,cs[k]=q:=⟨_,rfl⟩
    rw [hs'] at c0 c1 c2 c3 c4 hst hfc hwc hm hth KO
    have HST:=aA hst
    have Kj:=aA KO
    obtain ⟨kl,G7⟩:=aA9 (nm:=q.node) (k:=0) (by omega) (by decide)
    have QA:=aA G7
    have CO:=aA (fun wx=>aBK q wx)
    have CH:=aA (fun (wx:World) (hx:∃D,wx.ownsMap Tryz.prog 92 dE ba n D∧dO hs aDE D)=>by obtain ⟨D,h1,h2⟩:=hx;have:=aHP ba n D hs (fun _=>true) q wx h1 h2 hwc;rw [uH UH q] at this;exact this)
    have PL:=aA (fun (wx:World) (hx:∃D,wx.ownsMap Tryz.prog 92 jE bm l.length D∧lW l D)=>by obtain ⟨D,h1,h2⟩:=hx;have:=aLL h1 h2 G7;rw [hm,hth] at this;exact this)
    have C1:=aA (fun wx=>p8 q.mem q.cpu wx)
    have CS:=aA (fun wx=>aDl m.mem m.cpu q.mem q.cpu wx)
    clear hq hs' hkl hfc hwc hst KO G7 hm hth
    obtain ⟨id,ap,nd,me,cp⟩:=q
    obtain ⟨mn,mm,mp,se⟩:=m
    simp only at c0 c1 c2 c3 c4 HST Kj CH PL C1 CS
    obtain ⟨sm,hsm⟩:∃r,lZ me cp=r:=⟨_,rfl⟩
    obtain ⟨ha,NU⟩:∃r,(bH ap aj).isSome=r:=⟨_,rfl⟩
    obtain ⟨lx,ly,ok,hv⟩:∃x' y' ok,kT (-1) mm mp me cp=rv x' y'∧aP (-1) mm mp me cp=ok∧(ok=true→x'=mm + -1*me∧y'=mp + -1*cp):=by
     cases hb:aP (-1) mm mp me cp
     ·exact ⟨0,0,_,mH hb,rfl,by simp⟩
     ·exact ⟨_,_,_,oF hb,rfl,fun _=>⟨rfl,rfl⟩⟩
    have XY:=aA hv.2.2
    rw [hv.1,hv.2.1] at CS
    rw [hsm,NU,hv.2.1] at HST
    rw [hsm] at C1
    rw [NU] at CH
    have GD:=aA ((uH HO).trans (uH HST))
    clear hsm NU hv HO HST
    have P2:=aA (yD wr #[.int .i64 id,.int .i64 ap,.string (bs nd),.int .i64 me,.int .i64 cp] 52)
    have b2:=yA (yH _ wr) (.cells #[.int .i64 id,.int .i64 ap,.string (bs nd),.int .i64 me,.int .i64 cp] 52)
    have HB2:=aA b2
    clear b2
    go_wp2_with fail
    refine (uH CO _).mono ?_
    rintro e w3 ⟨rfl,hb⟩
    have h3:wr.heap.size+1≤w3.heap.size:=by have:=hb.size;rw [yE] at this;exact this
    have HB3:=aA (yB (uH HB2) hb)
    have P3:=aA ((uH P2).below hb)
    have hlk:=uH PL w3 (by obtain ⟨D,h1,h2⟩:=uH HM;exact ⟨D,bL h1 (uH HB3),h2⟩)
    clear hb HB2 P2
    have G8:=aA (yA (uH HB3) (aA1 ⟨mn,mm,mp,se⟩))
    have P4:=aA ((uH P3).al (aA1 ⟨mn,mm,mp,se⟩))
    have M4:=aA (yD w3 #[.string (bs mn),.int .i64 mm,.int .i64 mp,.int .i64 se] 102)
    have a3:=(uH P4).at 3
    have a4:=(uH P4).at 4
    simp at a3 a4
    go_wp2_with fail
    refine (uH CS _).mono ?_
    rintro e w5 ⟨rfl,hb⟩
    have GY:=aA (yA (yB (uH G8) hb) (.cells #[.int .i64 lx,.int .i64 ly] 37))
    have P6:=aA (((uH P4).below hb).al (.cells #[.int .i64 lx,.int .i64 ly] 37))
    have M6:=aA (((uH M4).below hb).al (.cells #[.int .i64 lx,.int .i64 ly] 37))
    have V6:=aA (bD w5 37 lx ly)
    have h5:w3.heap.size+1≤w5.heap.size:=by have:=hb.size;rw [yE] at this;exact this
    have e0:=(uH P6).at 0
    have e3:=(uH P6).at 3
    have e4:=(uH P6).at 4
    simp at e0 e3 e4
    have XI:=aA (yB (uH HB) (uH GY))
    clear hb G8 P4 M4 CS a3 a4 hlk c0 c1 c2 c3 c4 PL
    by_cases h1:last<id
    case neg=>
     have h1':id≤last:=by omega
     go_wp2
     go_ret
     exact ⟨yF (by rw [uH GD,decide_eq_false (show ¬last<id by omega)];simp),uH XI⟩
    have h1':¬id≤last:=by omega
    by_cases h2:id≤1000000000
    case neg=>
     have h2':1000000000<id:=by omega
     go_wp2
     go_ret
     exact ⟨yF (by rw [uH GD,decide_eq_false (show ¬id≤1000000000 by omega)];simp),uH XI⟩
    have h2':¬1000000000<id:=by omega
    have ZQ:=aA (show o=(sm&&(ha&&(th&&(ok&&d9 aj (⟨mn,mm + -1*me,mp + -1*cp,se⟩::l) id (cs.drop (k+1)))))) by rw [uH GD,decide_eq_true h1,decide_eq_true h2];simp)
    clear GD
    go_wp2_with fail
    refine (uH C1 _).mono ?_
    rintro e w7 ⟨rfl,hb⟩
    have QX:=aA (yB (uH GY) hb)
    have P7:=aA ((uH P6).below hb)
    have M7:=aA ((uH M6).below hb)
    have V7:=aA ((uH V6).below hb)
    have h7:w5.heap.size+1≤w7.heap.size:=by have:=hb.size;rw [yE] at this;exact this
    have f0:=(uH P7).at 0
    have f1:=(uH P7).at 1
    have f2:=(uH P7).at 2
    have f3:=(uH P7).at 3
    have f4:=(uH P7).at 4
    simp at f0 f1 f2 f3 f4
    have FN:=aA (yB (uH HB) (uH QX))
    clear hb GY P6 M6 V6 C1 XI e0 e3 e4
    cases sm with
    | false=>
     go_wp2
     go_ret
     exact ⟨yF (by rw [uH ZQ];simp),uH FN⟩
    | true=>
    go_wp2_with fail
    refine (uH CH _ ?_).mono ?_
    ·obtain ⟨D,g1,g2⟩:=uH HA
     exact ⟨D,bL g1 (uH QX),g2⟩
    rintro e w9 ⟨rfl,hb⟩
    have GM:=aA (yB (uH QX) hb)
    have P9:=aA ((uH P7).below hb)
    have M9:=aA ((uH M7).below hb)
    have V9:=aA ((uH V7).below hb)
    have h9:=hb.size
    have vw:=aA (yB (uH HB) (uH GM))
    clear hb QX P7 M7 V7 CH FN f0 f1 f2 f3 f4
    cases ha with
    | false=>
     go_wp2
     go_ret
     exact ⟨yF (by rw [uH ZQ];simp),uH vw⟩
    | true=>
    cases th with
    | false=>
     go_wp2
     go_ret
     exact ⟨yF (by rw [uH ZQ];simp),uH vw⟩
    | true=>
    cases ok with
    | false=>
     go_wp2
     go_ret
     exact ⟨yF (by rw [uH ZQ];simp),uH vw⟩
    | true=>
    obtain ⟨hlx,qy⟩:=uH XY rfl
    have kz:=aA (show o=d9 aj (⟨mn,lx,ly,se⟩::l) id (cs.drop (k+1)) by rw [uH ZQ,hlx,qy];simp)
    have Jv:=uH Kj rfl
    have Dy:=aA (show keyOf Tryz.prog 92 (oW mn 0)=some kl by rw [Jv];exact uH QA)
    clear ZQ XY hlx qy Kj Jv
    have v0:=(uH V9).c0
    have v1:=(uH V9).c1
    have m1:=(uH M9).f 1
    have m2:=(uH M9).f 2
    have m3:=(uH M9).at 1
    have m4:=(uH M9).at 2
    simp at m3 m4
    have hbmr:bm<wr.heap.size:=by obtain ⟨D,g1,_⟩:=uH HM;exact g1.lt
    have hbar:ba<wr.heap.size:=by obtain ⟨D,g1,_⟩:=uH HA;exact g1.lt
    have hw3:=(uH HB3).size
    have Sj:=(uH HB).size
    obtain ⟨W10,XU⟩:∃W,(w9.setCell ⟨w3.heap.size,1,none⟩ (.int .i64 lx)).setCell ⟨w3.heap.size,2,none⟩ (.int .i64 ly)=W:=⟨_,rfl⟩
    have XV:Blk W10 w3.heap.size #[.string (bs mn),.int .i64 lx,.int .i64 ly,.int .i64 se] 102:=by
     rw [←XU]
     exact heap_setCell_same _ _ 2 _ _ (.int .i64 ly) (heap_setCell_same _ _ 1 _ _ (.int .i64 lx) (uH M9))
    have Zq:Blk W10 wr.heap.size #[.int .i64 id,.int .i64 ap,.string (bs nd),.int .i64 me,.int .i64 cp] 52:=by
     rw [←XU]
     exact ((uH P9).other _ _ _ (by omega)).other _ _ _ (by omega)
    have Xy:=aA (show Bw w W10 by rw [←XU];exact yC (yC (uH vw) _ _ _ (by omega)) _ _ _ (by omega))
    have PE:=aA (show ∃D,W10.ownsMap Tryz.prog 92 jE bm l.length D∧lW l D by
     obtain ⟨D,g1,g2⟩:=uH HM
     exact ⟨D,by rw [←XU];exact ((bL g1 (uH GM)).setCell (by simp only;omega) _).setCell (by simp only;omega) _,g2⟩)
    have ZN:=aA (show ∃D,W10.ownsMap Tryz.prog 92 dE ba n D∧dO hs aDE D by
     obtain ⟨D,g1,g2⟩:=uH HA
     exact ⟨D,by rw [←XU];exact ((bL g1 (uH GM)).setCell (by simp only;omega) _).setCell (by simp only;omega) _,g2⟩)
    have p0:=Zq.at 0
    have p1:=Zq.at 1
    have p2:=Zq.at 2
    have p3:=Zq.at 3
    have p4:=Zq.at 4
    have z0:=XV.at 0
    have z1:=XV.at 1
    have z2:=XV.at 2
    have z3:=XV.at 3
    simp at p0 p1 p2 p3 p4 z0 z1 z2 z3
    have P10:=aA Zq
    have M10:=aA XV
    clear Zq XV P9 M9 V9 GM vw HM HA HB HB3 P3
    go_wp2_with fail
    clear XU v0 v1 m1 m2 m3 m4
    go_region_with (first | (go_at_call 130;refine (uH CO _).mono ?_;rintro e wz ⟨rfl,hbc⟩;have HZ:=aA (yB (yH _ W10).drew hbc);have y0:=((uH M10).below (uH HZ)).at 0;have y1:=((uH M10).below (uH HZ)).at 1;have y2:=((uH M10).below (uH HZ)).at 2;have y3:=((uH M10).below (uH HZ)).at 3;simp at y0 y1 y2 y3;obtain ⟨D,g1,g2⟩:=uH PE;obtain ⟨w11,gq,GZ,GK⟩:=(bL g1 (uH HZ)).update jS Tryz.underlying147 (by unfold maxLen;omega) (uH QA) (rX ⟨mn,lx,ly,se⟩);have zk:=aA (And.intro GZ (And.intro GK (lW.put (m:=⟨mn,lx,ly,se⟩) g2 g1.isMap (uH Dy))));clear GZ GK g1 g2 hbc))
    all_goals
     obtain ⟨f1,f2,f3⟩:=uH zk
     have hpz:=(uH P10).below (uH HZ)
     have P11:Blk w11 wr.heap.size #[.int .i64 id,.int .i64 ap,.string (bs nd),.int .i64 me,.int .i64 cp] 52:=(f2.block _ hpz.lt (by simp;omega)).trans hpz
     have g0:=P11.at 0
     simp at g0
     have ZV:=aA f1
     have Qq:=aA f2
     have VN:=aA f3
     clear f1 f2 f3 hpz P11
     go_wp2
     have f1:=uH ZV
     have f2:=uH Qq
     have f3:=uH VN
     go_roundw
     case rel=>
      refine ⟨k+1,id,⟨mn,lx,ly,se⟩::l,by omega,by go_num,rfl,by simp;omega,kz,?_,aA ⟨_,f1,f3⟩,aA ?_⟩
      ·obtain ⟨D2,a1,a2⟩:=uH ZN
       exact aA ⟨D2,(bL a1 (uH HZ)).kept f2 (by simp;omega),a2⟩
      ·exact (yB (uH Xy) (uH HZ)).grown f2 (by have:=(uH Xy).size;have:=(uH HZ).size;omega) (fun j e=>by cases e;omega)
     case measure=>simp [intOf];omega
   ·go_wp2
    go_ret
    exact ⟨yF (by rw [uH HO,aB7 (by have:=uH HL;omega)]),uH HB⟩
end
section
open Go.RowKit
def pV (s:St):Bool:=aH s.qs&&(aCO s&&(gI s&&(l8 s&&mG s)))
theorem aBu (x:Sls) (s:St) (w:World) (h:gU w x s) (hf:dI s) (hc:x.ql≤x.qc) (hw:aAF s) :
  cP 26 #[sv x s] w fun e w'=>e=.returned (.bool (pV s))∧Bw w w':=by
 have GJ:x.ql≤1048576:=by have:=h.len.1;have:=hf.1.1;omega
 have C1:=aA (fun wx (hb:Bw w wx)=>fE x.qa x.ql x.qc s.qs wx (h.1.below hb) GJ (fun q hq=>(hf.1.2 q hq).1) hc)
 have C2:=aA (fun wx=>aBM x s wx)
 have C3:=aA (fun wx (hb:Bw w wx)=>aFy x s wx (h.below hb) hf)
 have C4:=aA (fun wx (hb:Bw w wx)=>aAA x s wx (h.below hb) hf)
 have C5:=aA (fun wx (hb:Bw w wx)=>aDq x s wx (h.below hb) hf hw)
 obtain ⟨b1,e1⟩:∃b,aH s.qs=b:=⟨_,rfl⟩
 obtain ⟨b2,e2⟩:∃b,aCO s=b:=⟨_,rfl⟩
 obtain ⟨b3,e3⟩:∃b,gI s=b:=⟨_,rfl⟩
 obtain ⟨b4,e4⟩:∃b,l8 s=b:=⟨_,rfl⟩
 obtain ⟨b5,e5⟩:∃b,mG s=b:=⟨_,rfl⟩
 rw [show pV s=(b1&&(b2&&(b3&&(b4&&b5)))) by rw [pV,e1,e2,e3,e4,e5]]
 rw [e1] at C1
 rw [e2] at C2
 rw [e3] at C3
 rw [e4] at C4
 rw [e5] at C5
 clear h hf hc hw e1 e2 e3 e4 e5
 obtain ⟨qa,ql,qc,aa,al,ac,ma,ml,mc,ca,cl,cc⟩:=x
 obtain ⟨qs,cv,ez,nv,sj,aj,ms,cs⟩:=s
 simp only at C1 C2 C3 C4 C5 GJ
 have HB0:=aA (gG w (svc ⟨qa,ql,qc,aa,al,ac,ma,ml,mc,ca,cl,cc⟩ ⟨qs,cv,ez,nv,sj,aj,ms,cs⟩))
 have P0:=aA (eB w (svc ⟨qa,ql,qc,aa,al,ac,ma,ml,mc,ca,cl,cc⟩ ⟨qs,cv,ez,nv,sj,aj,ms,cs⟩))
 go_enter Tryz.func26,Tryz.ntmps26
 go_wp2_with fail
 refine (uH C1 _ (uH HB0)).mono ?_
 rintro e w1 ⟨rfl,hb⟩
 have HB1:=aA (yB (uH HB0) hb)
 have P1:=aA ((uH P0).below hb)
 clear hb HB0 P0 C1
 cases b1 with
 | false=>
  go_wp2
  go_ret
  exact ⟨rfl,uH HB1⟩
 | true=>
 obtain ⟨q0,q1,q2,q3,q4,q5,q6,q7⟩:_∧_∧_∧_∧_∧_∧_∧_:=⟨(uH P1).at 0,(uH P1).at 1,(uH P1).at 2,(uH P1).at 3,(uH P1).at 4,(uH P1).at 5,(uH P1).at 6,(uH P1).at 7⟩
 simp at q0 q1 q2 q3 q4 q5 q6 q7
 go_wp2_with fail
 refine (uH C2 _).mono ?_
 rintro e w2 ⟨rfl,hb⟩
 have HB2:=aA (yB (uH HB1) hb)
 have P2:=aA ((uH P1).below hb)
 clear hb HB1 P1 C2 q0 q1 q2 q3 q4 q5 q6 q7
 cases b2 with
 | false=>
  go_wp2
  go_ret
  exact ⟨rfl,uH HB2⟩
 | true=>
 obtain ⟨q0,q1,q2,q3,q4,q5,q6,q7⟩:_∧_∧_∧_∧_∧_∧_∧_:=⟨(uH P2).at 0,(uH P2).at 1,(uH P2).at 2,(uH P2).at 3,(uH P2).at 4,(uH P2).at 5,(uH P2).at 6,(uH P2).at 7⟩
 simp at q0 q1 q2 q3 q4 q5 q6 q7
 go_wp2_with fail
 refine (uH C3 _ (uH HB2)).mono ?_
 rintro e w3 ⟨rfl,hb⟩
 have HB3:=aA (yB (uH HB2) hb)
 have P3:=aA ((uH P2).below hb)
 clear hb HB2 P2 C3 q0 q1 q2 q3 q4 q5 q6 q7
 cases b3 with
 | false=>
  go_wp2
  go_ret
  exact ⟨rfl,uH HB3⟩
 | true=>
 obtain ⟨q0,q1,q2,q3,q4,q5,q6,q7⟩:_∧_∧_∧_∧_∧_∧_∧_:=⟨(uH P3).at 0,(uH P3).at 1,(uH P3).at 2,(uH P3).at 3,(uH P3).at 4,(uH P3).at 5,(uH P3).at 6,(uH P3).at 7⟩
 simp at q0 q1 q2 q3 q4 q5 q6 q7
 go_wp2_with fail
 refine (uH C4 _ (uH HB3)).mono ?_
 rintro e w4 ⟨rfl,hb⟩
 have G8:=aA (yB (uH HB3) hb)
 have P4:=aA ((uH P3).below hb)
 clear hb HB3 P3 C4 q0 q1 q2 q3 q4 q5 q6 q7
 cases b4 with
 | false=>
  go_wp2
  go_ret
  exact ⟨rfl,uH G8⟩
 | true=>
 obtain ⟨q0,q1,q2,q3,q4,q5,q6,q7⟩:_∧_∧_∧_∧_∧_∧_∧_:=⟨(uH P4).at 0,(uH P4).at 1,(uH P4).at 2,(uH P4).at 3,(uH P4).at 4,(uH P4).at 5,(uH P4).at 6,(uH P4).at 7⟩
 simp at q0 q1 q2 q3 q4 q5 q6 q7
 go_wp2_with fail
 refine (uH C5 _ (uH G8)).mono ?_
 rintro e w5 ⟨rfl,hb⟩
 have GR:=aA (yB (uH G8) hb)
 clear hb G8 P4 C5 q0 q1 q2 q3 q4 q5 q6 q7
 cases b5
 all_goals
  go_wp2
  go_ret
  exact ⟨rfl,uH GR⟩
end
end Go.Proofs.YtngkddhcmfbjnaaGreat
/-
 Whether a queue is another one,or below it: what the program's reaches answers;a aBi over the dump.
-/
namespace Go.Proofs.YtngkddhcmfbjnaaGreat
open Go.RowKit Go.Shelf
set_option linter.unusedVariables false
attribute [local go_sem] Oper.semAt_some
def jZ (l:List Q) (nm wt:List UInt8):Bool:=(ups l nm).any (fun q=>decide (q.name=wt))
theorem nL {β:Type} (g:Nat) (arr:Array Value) (t:TypeId):Own (fun (_:β) W=>Blk W g arr t):=fun s X Y row hs hg hr=>
 (hg.block g (show Blk X g arr t from hs).lt (fun e=>by
  obtain ⟨o,ho,hc⟩:=hr g e.symm
  rw [show X.heap[g]? = _ from hs] at ho
  cases ho
  cases hc)).trans hs
theorem nX {β:Type} (p:β→Prop):Own (fun (s:β) (_:World)=>p s):=fun s X Y row hs _ _=>hs
theorem kD {β:Type} {I I':β→World→Prop} (h:Own I) (h':Own I'):Own (fun s W=>I s W∧I' s W):=fun s W W' row hs hg hr=>⟨h s W W' row hs.1 hg hr,h' s W W' row hs.2 hg hr⟩
set_option maxRecDepth 100000 in
set_option maxHeartbeats 4000000 in
theorem aDX (ao:Option Addr) (len cap:Nat) (l:List Q) (nm wt:List UInt8) (w:World) (h:gJ w ao len l) (hl:len≤1048576) (hc:len≤cap) :
  cP 91 #[.slice ao len cap,.string (bs nm),.string (bs wt)] w fun e w'=>e=.returned (.bool (jZ l nm wt))∧Bw w w':=by
 have HR:=aA h
 have hB4:=yA (yA (yA (yA (yH _ w) (.cells #[.string (bs wt)] 9)) (.cells #[.bool false] 4)) (.cells #[.slice ao len cap] 24)) (.cells #[.string (bs nm)] 9)
 have TS:=(((yD w #[.string (bs wt)] 9).al (.cells #[.bool false] 4)).al (.cells #[.slice ao len cap] 24)).al (.cells #[.string (bs nm)] 9)
 have RA:=((yD (w.alloc (.cells #[.string (bs wt)] 9)) #[.bool false] 4).al (.cells #[.slice ao len cap] 24)).al (.cells #[.string (bs nm)] 9)
 have Yv:=((yD ((w.alloc (.cells #[.string (bs wt)] 9)).alloc (.cells #[.bool false] 4)) #[.slice ao len cap] 24).al (.cells #[.string (bs nm)] 9)).at 0
 have Yw:=(yD (((w.alloc (.cells #[.string (bs wt)] 9)).alloc (.cells #[.bool false] 4)).alloc (.cells #[.slice ao len cap] 24)) #[.string (bs nm)] 9).at 0
 have hsz:((((w.alloc (.cells #[.string (bs wt)] 9)).alloc (.cells #[.bool false] 4)).alloc (.cells #[.slice ao len cap] 24)).alloc (.cells #[.string (bs nm)] 9)).heap.size=w.heap.size+4:=by simp only [yE]
 rw [yE] at RA
 rw [yE,yE] at Yv
 rw [yE,yE,yE] at Yw
 obtain ⟨o,ho⟩:∃o,jZ l nm wt=o:=⟨_,rfl⟩
 have HO:=aA ho
 rw [ho]
 clear h ho
 have hmx:Tryz.prog.follows .mixedOrders=true:=by kernel_rfl
 refine (callsIn_wide (n:=3)).1 ?_
 refine callsIn_of_wp_marks Tryz.func91 rfl trivial ?_ rfl
 simp only [Tryz.ntmps91,List.size_toArray,List.length_cons,List.length_nil,Nat.reduceAdd,Nat.reduceSub,Array.replicate_succ,Array.replicate_zero,List.push_toArray,List.append_toArray,List.nil_append,List.cons_append]
 gi_wp2_with fail
 refine ⟨trivial,?_⟩
 first | refine ⟨(by intro e;cases e),?_⟩ | skip
 refine (callsIn_wide.2 (aCz ao len cap nm _)).mono ?_
 rintro e w2 ⟨rfl,rfl⟩
 gi_wp2
 obtain ⟨W0,hW0⟩:∃W0,(((w.alloc (.cells #[.string (bs wt)] 9)).alloc (.cells #[.bool false] 4)).alloc (.cells #[.slice ao len cap] 24)).alloc (.cells #[.string (bs nm)] 9)=W0:=⟨_,rfl⟩
 rw [hW0] at hB4 TS RA Yv Yw hsz ⊢
 have HC:=aA (zL (3 - 1) (w.heap.size+1+1) (w.heap.size+1+1+1) ao len cap l nm w W0 (uH HR) hB4 hl hc Yv Yw)
 clear hW0 Yv Yw
 refine wpIn_rangeFunc_ownH rfl (by omega) (gf:=186) (lb:=#[.pointer (some ⟨w.heap.size+1+1,0,none⟩),.pointer (some ⟨w.heap.size+1+1+1,0,none⟩)]) rfl trivial (enters_of Tryz.func186 (by kernel_rfl) rfl)
  (uH HC) aKf (aKg (by omega)) (yH _ _) (fun _=>rfl)
  (fun pre W=>((Blk W w.heap.size #[.string (bs wt)] 9∧Blk W (w.heap.size+1) #[.bool false] 4)∧(∀q ∈ pre,q.1.name≠wt))∧Bw w W)
  (fun c pre W=>(Blk W (w.heap.size+1) #[.bool true] 4∧(c=.ret∧∃q ∈ pre,q.1.name=wt))∧Bw w W)
  (OwnFrom.and (Own.from (kD (kD (nL _ _ _) (nL _ _ _)) (nX (fun pre:List { q:Q // q ∈ l }=>∀q ∈ pre,q.1.name≠wt))) _) (ownFrom_below (yJ _) (by omega)))
  (fun c=>OwnFrom.and (Own.from (kD (nL _ _ _) (nX (fun pre:List { q:Q // q ∈ l }=>c=.ret∧∃q ∈ pre,q.1.name=wt))) _) (ownFrom_below (yJ _) (by omega)))
  ⟨⟨⟨TS,RA⟩,by simp⟩,hB4⟩
  (fun x a' W=>∃Bx,w.heap.size+1<Bx∧mO W Bx x.1∧a' = { tmps:=#[.slice ao len cap,.string (bs nm),.string (bs wt),undef,undef,.pointer (some ⟨w.heap.size,0,none⟩),.pointer (some ⟨w.heap.size+1,0,none⟩),.pointer (some ⟨Bx,0,none⟩),.slice ao len cap,.string (bs nm),.func (.func 186) #[] #[.pointer (some ⟨w.heap.size+1+1,0,none⟩),.pointer (some ⟨w.heap.size+1+1+1,0,none⟩)],qv x.1,undef,undef,undef,undef],defers:=[] })
  (fun x a' _ X Y row hs hg hr=>by
   obtain ⟨Bx,h1,h2,h3⟩:=hs
   refine ⟨Bx,h1,(hg.block Bx h2.lt (fun e=>?_)).trans h2,h3⟩
   obtain ⟨_,o,ho,hc⟩:=hr Bx e.symm
   rw [show X.heap[Bx]? = _ from h2] at ho
   cases ho
   cases hc)
  ?assign ?body ?done ?stop
 case assign=>
  rintro lp pre x W K ⟨⟨⟨k5,k6⟩,hne⟩,hB⟩ hK
  have hlt:=k6.lt
  gi_wp2
  exact hK _ _ ((KeepsOthers.alloc _ _).from _) (aHA hB.size (yA (yH _ W) _)) ⟨⟨⟨k5.al _,k6.al _⟩,hne⟩,yA hB _⟩ ⟨W.heap.size,hlt,mO.new W x.1,rfl⟩
 case body=>
  rintro lp pre ⟨q,hq⟩ a' W hlp _ ⟨⟨⟨k5,k6⟩,hne⟩,hB⟩ ⟨Bx,hBx,hX,rfl⟩ hlt
  simp only at hX
  have hx0:=hX.c0
  have c5:=k5.at 0
  have c6:=k6.at 0
  have f6:=k6.f 0
  simp at c5 c6
  have hbe:=lL q.name wt
  have K5:=aA k5
  have K6:=aA k6
  have ZK:=aA hne
  have HB:=aA hB
  clear k5 k6 hne hB hX
  by_cases he:q.name=wt
  ·have HE:=aA he
   rw [decide_eq_true he] at hbe
   clear he
   gi_wp2
   refine ⟨(KeepsOthers.setCell _ _ _).from _,⟨?_,rfl,⟨q,hq⟩,by simp,uH HE⟩,yC (uH HB) _ _ _ (by omega)⟩
   have:=(uH K6).set 0 (.bool true)
   simpa using this
  ·have HE:=aA he
   rw [decide_eq_false he] at hbe
   clear he
   gi_wp2
   refine ⟨KeepsFrom.refl _ _,aHA (uH HB).size (yH _ _),⟨⟨uH K5,uH K6⟩,?_⟩,uH HB⟩
   intro z hz
   rcases List.mem_append.1 hz with hz | hz
   ·exact uH ZK z hz
   ·have:z=⟨q,hq⟩:=by simpa using hz
    rw [this]
    exact uH HE
 case done=>
  rintro D ys W hD hys ⟨⟨⟨k5,k6⟩,hne⟩,hB⟩ hK
  have c6:=k6.at 0
  have f6:=k6.f 0
  simp at c6
  have GU:o=false:=by
   rw [←uH HO,jZ,←hys,List.any_eq_false]
   intro z hz
   obtain ⟨q,hq,rfl⟩:=List.mem_map.1 hz
   simpa using hne q hq
  subst GU
  have K6:=aA k6
  have HB:=aA hB
  have HK:=aA hK
  have XW:D≠w.heap.size+1:=by omega
  clear k5 k6 hne hB hK
  gi_wp2
  have e2:=(KeepsOthers.setCell W ⟨w.heap.size+1,0,none⟩ (.bool false)).same D _ (uH HK) rfl
  refine ⟨by simp,.inl ⟨_,_,rfl,run_takeDeferred e2,?_⟩⟩
  have KF:Blk _ (w.heap.size+1) _ _:=(World.putObj_heap_other (o:=.deferred none) (w:=W.setCell ⟨w.heap.size+1,0,none⟩ (.bool false)) (Ne.symm XW)).trans ((uH K6).set 0 (.bool false))
  have r0:=KF.at 0
  simp at r0
  exact ⟨.bool false,(by simp [results,Tryz.results91,go_sem,r0]),rfl,(yC (uH HB) _ _ _ (by omega)).trans (belowK_b (w:=w) (yJ _) _ D _ _ (by omega) e2 rfl rfl)⟩
 case stop=>
  rintro D c pre W hD QT ⟨⟨k6,rfl,q,hq,he⟩,hB⟩ hK
  have GU:o=true:=by
   rw [←uH HO,jZ,List.any_eq_true]
   exact ⟨q.1,QT.subset (List.mem_map_of_mem hq),by simpa using he⟩
  subst GU
  have K6:=aA k6
  have HB:=aA hB
  have HK:=aA hK
  have XW:D≠w.heap.size+1:=by omega
  clear k6 hB hK
  gi_wp2
  refine ⟨by simp,.inl ⟨_,_,rfl,run_takeDeferred (uH HK),?_⟩⟩
  have KF:Blk _ (w.heap.size+1) _ _:=(World.putObj_heap_other (o:=.deferred none) (w:=W) (Ne.symm XW)).trans (uH K6)
  have r0:=KF.at 0
  simp at r0
  exact ⟨.bool true,(by simp [results,Tryz.results91,go_sem,r0]),rfl,(uH HB).trans (belowK_b (w:=w) (yJ _) _ D _ _ (by omega) (uH HK) rfl rfl)⟩
end Go.Proofs.YtngkddhcmfbjnaaGreat
/-
 What those containers have together that a method's value counts,by the program: used;a aBi over the dump.
-/
namespace Go.Proofs.YtngkddhcmfbjnaaGreat
open Go.RowKit
set_option linter.unusedVariables false
set_option maxRecDepth 100000 in
set_option maxHeartbeats 4000000 in
theorem aDK (bm:Nat) (p:Con→Bool) (x:Sls) (s:St) (w:World) (h:bG w x.ca x.cl s.cs) (hl:x.cl≤1048576)
  (hp:∀wx q,q ∈ s.cs→Bw w wx→cP 93 #[.map (some bm),conv q] wx fun e w'=>e=.returned (.bool (p q))∧Bw wx w') :
  cP 92 #[sv x s,.func (.func 93) #[.map (some bm)] #[]] w fun e w'=>e=.returned (rv (iL (aV p s.cs)).1 (iL (aV p s.cs)).2.1)∧Bw w w':=by
 obtain ⟨i0,hi,hz0,hz1,hz2⟩:=info_parts Tryz.infoR
 have eg:=enters_of Tryz.func93 (by kernel_rfl) rfl
 obtain ⟨qa,ql,qc,aa,al,ac,ma,ml,mc,ca,cl,cc⟩:=x
 obtain ⟨qs,cv,ez,nv,sj,aj,ms,cs⟩:=s
 simp only at h hl ⊢
 have HR:=aA h
 have HL:=aA h.1
 have HP:=aA hp
 obtain ⟨c,hc⟩:∃c:Array Value,#[.slice qa ql qc,.int .i64 cv,.int .i64 ez,.int .i64 nv,.int .i64 sj,.slice aa al ac,.slice ma ml mc,.slice ca cl cc]=c:=⟨_,rfl⟩
 have HC:=aA hc
 have HB0:=aA (bZ w c)
 have V0:=aA (gY w c)
 have HW:=aA (nK w c)
 clear h hc hp
 obtain ⟨⟨sx,sy,so⟩,hs⟩:∃s,iL (aV p cs)=s:=⟨_,rfl⟩
 have HS:=aA hs
 rw [hs]
 clear hs
 go_enter Tryz.func92,Tryz.ntmps92
 go_wp2
 go_loopw [5,13] (fun v i wr=>∃(k:Nat),k≤cl∧i=.int .i64 k∧Hid (aAG (zS w c).heap.size wr v (aV p (cs.take k)))∧Hid (Below (zS w c).heap.size (zS w c) wr)) (fun _ i _=>cl - (intOf i).toNat)
 case atStart=>
  obtain rfl:=uH HC
  exact ⟨0,Nat.zero_le _,rfl,aA (by simpa [aV] using aEY _ _),aA (yH _ _)⟩
 case round=>
  obtain ⟨k,hk,rfl,HO,HB⟩:=hrel
  by_cases hlt:k<cl
  ·obtain ⟨b,off,rfl,hq⟩:=(((uH HR).below (uH HB0)).below (uH HB)).at hlt
   have hkl:k<cs.length:=by have:=uH HL;omega
   have hst:=rJ (p:=p) hkl
   obtain ⟨c0,c1,c2,c3,c4⟩:=hq hkl
   obtain ⟨m,hs⟩:∃q,cs[k]=q:=⟨_,rfl⟩
   rw [hs] at c0 c1 c2 c3 c4 hst
   have hal:(aV p (cs.take k)).length≤1048576:=by have:=aEL (p:=p) (cs.take k);simp at this;omega
   obtain ⟨acc,Gq⟩:∃a,aV p (cs.take k)=a:=⟨_,rfl⟩
   rw [Gq] at hst hal HO
   obtain ⟨id,ap,nd,me,cp⟩:=m
   simp only at c0 c1 c2 c3 c4 hst
   have ZC:=aA (yA (yH _ wr) (aJT ⟨id,ap,nd,me,cp⟩))
   have QC:=aA (uH HP (wr.alloc (aJT ⟨id,ap,nd,me,cp⟩)) ⟨id,ap,nd,me,cp⟩ (by rw [←hs];exact yM _) (yB (yB (uH HB0) (uH HB)) (uH ZC)))
   have KB:=aA (yD wr #[.int .i64 id,.int .i64 ap,.string (bs nd),.int .i64 me,.int .i64 cp] 52)
   clear hq hs hkl Gq
   cases hpq:p ⟨id,ap,nd,me,cp⟩ with
   | true=>
    rw [hpq] at QC
    rw [hpq,if_pos rfl] at hst
    have HST:=aA hst
    clear hpq hst
    go_wp2_with (first
     | ((first | go_at_call 93 | go_at_fn 93);refine (uH QC).mono ?_;rintro e w1 ⟨rfl,hb⟩;have HB1:=aA (yB (yB (uH HB) (uH ZC)) hb);have Zk:=aA (((uH HO).below (uH ZC)).below hb);have b1:=(uH KB).below hb;have q3:=b1.at 3;have q4:=b1.at 4;simp at q3 q4;have hs2:(zS w c).heap.size≤w1.heap.size:=(uH HB1).size;have Hq:w1.ownsRow (zS w c).heap.size 37 2 _ acc.length (iZ acc):=uH Zk;clear b1 hb QC c0 c1 c2 c3 c4 HO HB)
     | (at_builtin;refine wpList_append_own _ rfl _ _ 120 rfl (zS w c).heap.size 37 i0 (.agg #[.int .i64 0,.int .i64 0]) 2 16 Tryz.underlying120 hi hz0 hz1 hz2 rfl (by decide) _ _ _ rfl (Hq.alloc _) ⟨w1.heap.size,0,none⟩ 1 1 (aBE (me,cp)) rfl rfl ?c1 ?c2 ?c3 ?c4 ?c5 ?_))
    case c1=>
     intro j x hj
     match j,hj with
     | 0,hj=>simp at hj;subst hj;simp [Addr.add]
     | 1,hj=>simp at hj;subst hj;simp [Addr.add]
     | _+2,hj=>simp at hj
    case c2=>intro x hx;simp at hx;rcases hx with rfl | rfl<;>rfl
    case c3=>unfold maxLen;omega
    case c4=>omega
    case c5=>simp at hs2 ⊢;omega
    intro v' w3 Hy Hz _
    have R:=mZ (q:=(me,cp)) (uH HB1) (uH Zk) Hy Hz hs2
    have HR3:=aA R
    clear Hy Hz Hq R q3 q4
    go_wp2
    go_roundw
    case rel=>exact ⟨k+1,by omega,by go_num,aA (by rw [uH HST];exact (uH HR3).1),aA (uH HR3).2⟩
    case measure=>simp [intOf];omega
   | false=>
    rw [hpq] at QC
    rw [hpq,if_neg (by simp)] at hst
    have HST:=aA hst
    clear hpq hst
    go_wp2_with ((first | go_at_call 93 | go_at_fn 93);refine (uH QC).mono ?_;rintro e w1 ⟨rfl,hb⟩;have HB1:=aA (yB (yB (uH HB) (uH ZC)) hb);have Zk:=aA (((uH HO).below (uH ZC)).below hb);clear hb QC c0 c1 c2 c3 c4 HO HB)
    go_roundw
    case rel=>exact ⟨k+1,by omega,by go_num,aA (by rw [uH HST];exact uH Zk),HB1⟩
    case measure=>simp [intOf];omega
  ·have htk:cs.take k=cs:=List.take_of_length_le (by have:=uH HL;omega)
   rw [htk] at HO
   obtain ⟨ao,cp,rfl,Hw,hcp⟩:=(uH HO).row
   have hlc:(aV p cs).length≤1048576:=by have:=aEL (p:=p) cs;have:=uH HL;omega
   have CT:=aA (tQ ao _ cp (aV p cs) wr Hw hlc)
   rw [uH HS] at CT
   obtain ⟨n,hn⟩:∃n,(aV p cs).length=n:=⟨_,rfl⟩
   rw [hn] at CT ⊢
   clear Hw hn htk hcp hlc HO
   go_wp2_with fail
   refine (uH CT).mono ?_
   rintro e w1 ⟨rfl,hb⟩
   have hsz:w.heap.size+1<(zS w c).heap.size:=by have:=uH HW;omega
   have V1:Var w1 37 (w.heap.size+1) 0 0:=Var.below ((uH HB).block _ hsz |>.trans (uH V0)) hb
   have HB1:=aA (yB (yB (uH HB0) (uH HB)) hb)
   have V2:=V1.al (.cells #[.int .i64 sx,.int .i64 sy] 37)
   have t0:=V2.c0
   have t1:=V2.c1
   have f0:=V2.f 0
   have f1:=V2.f 1
   have VG:=V2.set sx sy
   have k6:=VG.c0
   have k7:=VG.c1
   clear hb V1 V2 VG CT HB HB0
   go_wp2
   refine bodyPost_ret (v:=rv sx sy) (by simp [results,Tryz.results92,go_sem,k6,k7]) rfl ⟨rfl,?_⟩
   repeat (first | exact uH HB1 | refine yA ?_ _ | refine yC ?_ _ _ _ (by omega))
end Go.Proofs.YtngkddhcmfbjnaaGreat
/-
 What a queue uses,by the program: UsedBy;a aBi over the dump,with a map that is ranged over and shrinks.
-/
namespace Go.Proofs.YtngkddhcmfbjnaaGreat
open Go.RowKit Go.Maps
set_option linter.unusedVariables false
set_option maxRecDepth 100000 in
theorem xR {n:Nat} {cs:List Value} {ls:List Lit} (h:Tryz.prog.keyLits (n+1) 9 cs=some ls):∃s,cs=[.string s]:=by
 unfold Program.keyLits at h
 rw [Tryz.underlying9] at h
 split at h<;>simp_all
set_option maxRecDepth 100000 in
theorem xS {n:Nat} {cs:List Value} {ls:List Lit} (h:Tryz.prog.keyLits (n+1) 3 cs=some ls):∃k,cs=[.int .i64 k]:=by
 unfold Program.keyLits at h
 rw [Tryz.underlying3] at h
 split at h<;>simp_all
set_option maxRecDepth 100000 in
theorem aHH {key:Value} {kl:Lit} (h:keyOf Tryz.prog 92 key=some kl):∃x:List UInt8×Int,key=oW x.1 x.2:=by
 have hu:=Tryz.underlying92
 obtain ⟨m,hm⟩:=uO
 unfold keyOf at h
 rw [hu] at h
 simp only at h
 split at h
 ·rename_i hf
  rw [yK] at hf
  have hf2:=hf.2
  cases key with
  | agg cs=>
   simp only [Value.formed,hu,aBW] at hf2
   obtain ⟨l⟩:=cs
   have hl:l.length=2:=by simpa using hf2
   match l,hl with
   | [c0,c1],_=>
    rw [hm,show (Value.agg #[c0,c1]).cells.toList=[c0,c1] from rfl] at h
    cases hk:Tryz.prog.keyLits (m+2) 92 [c0,c1] with
    | none=>rw [hk] at h;simp at h
    | some ls=>
     unfold Program.keyLits at hk
     rw [hu] at hk
     simp only at hk
     split at hk
     ·simp [xU,xQ] at hk
      cases h0:Tryz.prog.keyLits (m+1) 9 [c0] with
      | none=>rw [h0] at hk;simp at hk
      | some l0=>
       cases h1:Tryz.prog.keyLits (m+1) 3 [c1] with
       | none=>rw [h0,h1] at hk;simp at hk
       | some l1=>
        obtain ⟨s,e0⟩:=xR h0
        obtain ⟨k,e1⟩:=xS h1
        simp at e0 e1
        subst e0 e1
        exact ⟨(s.data.toList,k),by simp [oW,aDu]⟩
     ·cases hk
  | _=>simp [Value.formed,hu] at hf2
 ·cases h
theorem aDb {D:DataW Unit} {left:Lit→Bool} {kl:Lit} (hkl:WideAt.IsKeyLit kl) (h:∀z,left z=true→Maps.has D z=true):∀z,(left z&&!z.sameKey kl)=true→Maps.has (D.del kl) z=true:=fun z hz=>by
 simp only [yK,Bool.not_eq_true'] at hz
 rw [has_del_other (fun e=>by subst e;rw [WideAt.sameKey_self hkl] at hz;cases hz.2)]
 exact h z hz.1
theorem aGv {D:DataW Unit} {left:Lit→Bool} {kl:Lit} (h:∀z,left z=true→Maps.has D z=true):∀z,(left z&&!z.sameKey kl)=true→Maps.has D z=true:=fun z hz=>by
 simp only [yK] at hz
 exact h z hz.1
theorem aJs {s:St} {hs:List AV} {w:World} (hh:jJ w hs s.apps) (ho:aH s.qs=true) (nm:List UInt8) (q:Con):aHR hs (fun v=>jZ s.qs v.queue nm) q=byQ s nm q:=by
 have e:=aAb (id:=q.app) hh.1 (fun i a b=>⟨(hh.2 i a b).1,(hh.2 i a b).2.1⟩)
 unfold aHR byQ
 cases h1:fJ q.app hs with
 | none=>
  cases h2:bH q.app s.apps with
  | none=>rfl
  | some a=>rw [h1,h2] at e;cases e
 | some v=>
  cases h2:bH q.app s.apps with
  | none=>rw [h1,h2] at e;cases e
  | some a=>
   rw [h1,h2] at e
   have e':v.queue=a.queue:=by simpa using e
   simp only [aKI]
   rw [jZ,e',←aEM ho,List.any_map]
   rfl
theorem aIp {s:St} (ho:aH s.qs=false) (nm:List UInt8) (q:Con):byQ s nm q=false:=by
 unfold byQ
 cases bH q.app s.apps with
 | none=>rfl
 | some a=>simp [path,ho]
theorem aFE {p:Con→Bool} {l:List Con} (h:∀q,p q=false):aV p l=[]:=by
 have:l.filter p=[]:=by rw [List.filter_eq_nil_iff];intro a _;simp [h a]
 simp [aV,this]
theorem aDJ {p p':Con→Bool} {l:List Con} (h:∀q,p q=p' q):aV p l=aV p' l:=by rw [show p=p' from funext h]
set_option maxRecDepth 100000 in
set_option maxHeartbeats 4000000 in
theorem jN (x:Sls) (s:St) (nm:List UInt8) (w:World) (h:gU w x s) (hf:dI s) (hc:x.ql≤x.qc) (hw:aAF s) :
  cP 39 #[sv x s,.string (bs nm)] w fun e w'=>e=.returned (rv (aL s nm).1 (aL s nm).2)∧Bw w w':=by
 have KQ:∀(fn:Fn) (first cap:Array Value) (w:World),(Instr.makeFunc fn first cap).run Tryz.prog w=.ok (.func fn first cap) w:=fun _ _ _ _=>rfl
 have GJ:x.ql≤1048576:=by have:=h.len.1;have:=hf.1.1;omega
 have hal:x.al≤1048576:=by have:=h.len.2.1;have:=hf.2.1.1;omega
 have hcl:x.cl≤1048576:=by have:=h.len.2.2.2;have:=hf.2.2.2.1;omega
 obtain ⟨hs,qj,hh⟩:=h.2.1.heads
 have CQ:=aA (fun wx (hb:Bw w wx)=>fE x.qa x.ql x.qc s.qs wx (h.1.below hb) GJ (fun q hq=>(hf.1.2 q hq).1) hc)
 have CM:=aA (fun wx (hb:Bw w wx)=>aBd x s hs wx (qj.below hb) hal (aB3 hh hw.1))
 have CR:=aA (fun wx (hb:Bw w wx) (qu:List UInt8)=>aDX x.qa x.ql x.qc s.qs qu nm wx (h.1.below hb) GJ hc)
 have CU:=aA (fun (bm n:Nat) (D:DataW Unit) wx (hb:Bw w wx) (Hq:wx.ownsMap Tryz.prog 92 dE bm n D) (hk:dO hs (fun _ v=>jZ s.qs v.queue nm) D)=>aDK bm (aHR hs (fun v=>jZ s.qs v.queue nm)) x s wx (h.2.2.2.below hb) hcl
  (fun wy q hq hy=>aHP bm n D hs (fun v=>jZ s.qs v.queue nm) q wy (bL Hq hy) hk (hw.2 q hq)))
 have GH:=aA (fun ho:aH s.qs=true=>aDJ (l:=s.cs) (aJs hh ho nm))
 have GI:=aA (fun ho:aH s.qs=false=>aFE (l:=s.cs) (aIp ho nm))
 have HV:=aA (show aL s nm=((iL (aV (byQ s nm) s.cs)).1,(iL (aV (byQ s nm) s.cs)).2.1) from rfl)
 obtain ⟨⟨ux,uy⟩,hu⟩:∃u,aL s nm=u:=⟨_,rfl⟩
 rw [hu] at HV ⊢
 obtain ⟨o,ho⟩:∃o,aH s.qs=o:=⟨_,rfl⟩
 rw [ho] at CQ GH GI
 clear h hf hc hw hu ho qj hh
 obtain ⟨qa,ql,qc,aa,al,ac,ma,ml,mc,ca,cl,cc⟩:=x
 obtain ⟨qs,cv,ez,nv,sj,aj,ms,cs⟩:=s
 simp only at CQ CM CR CU GH GI HV GJ hal hcl
 have HB0:=aA (bZ w (svc ⟨qa,ql,qc,aa,al,ac,ma,ml,mc,ca,cl,cc⟩ ⟨qs,cv,ez,nv,sj,aj,ms,cs⟩))
 have V0:=aA (gY w (svc ⟨qa,ql,qc,aa,al,ac,ma,ml,mc,ca,cl,cc⟩ ⟨qs,cv,ez,nv,sj,aj,ms,cs⟩))
 have P0:=aA ((eB w (svc ⟨qa,ql,qc,aa,al,ac,ma,ml,mc,ca,cl,cc⟩ ⟨qs,cv,ez,nv,sj,aj,ms,cs⟩)).al (.cells #[.int .i64 0,.int .i64 0] 37))
 go_enter Tryz.func39,Tryz.ntmps39
 go_wp2_with fail
 refine (uH CQ _ (uH HB0)).mono ?_
 rintro e w1 ⟨rfl,hb⟩
 have HB1:=aA (yB (uH HB0) hb)
 have V1:=aA ((uH V0).below hb)
 have P1:=aA ((uH P0).below hb)
 clear hb HB0 V0 P0 CQ
 cases o with
 | false=>
  have hz:=uH HV
  rw [uH GI (by first | rfl | trivial)] at hz
  simp only [iL,aS,Prod.mk.injEq] at hz
  obtain ⟨rfl,rfl⟩:=hz
  have V2:=uH V1
  have t0:=V2.c0
  have t1:=V2.c1
  have f0:=V2.f 0
  have f1:=V2.f 1
  have k4:=V2.s0 (.int .i64 0)
  have k5:=V2.s1 (.int .i64 0) (.int .i64 0)
  clear V2
  go_wp2
  refine bodyPost_ret (v:=rv 0 0) (by simp [results,Tryz.results39,go_sem,k4,k5]) rfl ⟨rfl,?_⟩
  repeat (first | exact uH HB1 | refine yA ?_ _ | refine yC ?_ _ _ _ (by omega))
 | true=>
  have HE:=aA (uH GH (by first | rfl | trivial))
  have XY:=aA (show (ux,uy)=((iL (aV (aHR hs (fun v=>jZ qs v.queue nm)) cs)).1,(iL (aV (aHR hs (fun v=>jZ qs v.queue nm)) cs)).2.1) by rw [uH HE];exact uH HV)
  rw [show (iL (aV (aHR hs (fun v=>jZ qs v.queue nm)) cs)).1=ux from (congrArg Prod.fst (uH XY)).symm,show (iL (aV (aHR hs (fun v=>jZ qs v.queue nm)) cs)).2.1=uy from (congrArg Prod.snd (uH XY)).symm] at CU
  clear HV GH GI HE XY
  obtain ⟨q0,q1,q2,q3,q4,q5,q6,q7⟩:_∧_∧_∧_∧_∧_∧_∧_:=⟨(uH P1).at 0,(uH P1).at 1,(uH P1).at 2,(uH P1).at 3,(uH P1).at 4,(uH P1).at 5,(uH P1).at 6,(uH P1).at 7⟩
  simp at q0 q1 q2 q3 q4 q5 q6 q7
  have hpl:=(uH P1).lt
  have hvl:=(uH V1).lt
  go_wp2_with fail
  refine (uH CM _ (uH HB1)).mono ?_
  rintro e w2 ⟨bm,rfl,⟨QM,D0,Hq,hkn⟩,hb⟩
  have HB2:=aA hb
  have QR:=aA hkn
  clear q0 q1 q2 q3 q4 q5 q6 q7 hb hkn CM
  go_wp2_with (first
   | (at_range;refine wpList_range_own _ rfl _ 89 rfl 92 48 jS Tryz.underlying89 _ bm hs.length D0 rfl Hq ?_;intro w3 hrg0 hg0 hs0)
   | go_in)
  go_frame
  have JL:w1.heap.size≤w2.heap.size:=(uH HB2).size
  have HB3:=aA (show Bw w1 w3 from (uH HB2).grown hg0 JL (fun k e=>by cases e))
  have WH:=aA hrg0
  obtain ⟨r,hr⟩:∃r,w2.heap.size=r:=⟨_,rfl⟩
  rw [hr] at WH JL ⊢
  have hwa:w.heap.size≤w1.heap.size:=(uH HB1).size
  clear hrg0 hg0 hs0 HB2 Hq hr
  go_loopw [6] (fun _ wr=>∃(left:Lit→Bool) (cnt:Nat) (D:DataW Unit),Hid (wr.ranges Tryz.prog 92 dE bm r hs.length D left cnt)∧Hid (dO hs (fun kl v=>left kl||jZ qs v.queue nm) D)∧Hid (∀z,left z=true→Maps.has D z=true)∧Hid (Bw w1 wr)) (fun _ wr=>wr.rangeLeft bm r)
  case atStart=>exact ⟨_,_,D0,WH,aA ⟨(uH QR).1,fun v kl h1 h2=>by have:=(uH QR).2 v kl h1 h2;simp only at this ⊢;rw [this];rfl⟩,aA (fun z h=>h),HB3⟩
  case round=>
   obtain ⟨left,cnt,D,Tv,J7,Mq,Qz⟩:=hrel
   have hrg:=uH Tv
   clear WH QR HB3
   go_wp2_with (first
    | (at_next;refine wpList_next_ranges _ rfl _ rfl 92 jS dE (fun x:List UInt8×Int=>oW x.1 x.2) avv (fun key kl G7=>aHH G7) (fun v y hv=>kH hv) bm r hs.length D left cnt rfl hrg ?_ ?_)
    | go_in)
   ·intro _ hl0
    have HKF:=aA (show dO hs (fun _ v=>jZ qs v.queue nm) D from ⟨(uH J7).1,fun v kl h1 h2=>by have:=(uH J7).2 v kl h1 h2;simp only [hl0,Bool.false_or] at this;exact this⟩)
    have PB:=(uH P1).below (uH Qz)
    obtain ⟨q0,q1,q2,q3,q4,q5,q6,q7⟩:_∧_∧_∧_∧_∧_∧_∧_:=⟨PB.at 0,PB.at 1,PB.at 2,PB.at 3,PB.at 4,PB.at 5,PB.at 6,PB.at 7⟩
    simp at q0 q1 q2 q3 q4 q5 q6 q7
    have HVB:=aA ((uH V1).below (uH Qz))
    have Xv:=aA (yB (uH HB1) (uH Qz))
    have HOW:=aA hrg.owns
    clear Tv J7 Mq hrg hl0 PB CR
    go_wp2_with fail
    refine (uH CU bm hs.length D _ (uH Xv) (uH HOW) (uH HKF)).mono ?_
    rintro e w5 ⟨rfl,hb⟩
    have V2:=(uH HVB).below hb
    have GR:=aA (yB (uH Xv) hb)
    have t0:=V2.c0
    have t1:=V2.c1
    have f0:=V2.f 0
    have f1:=V2.f 1
    have k4:=V2.s0 (.int .i64 ux)
    have k5:=V2.s1 (.int .i64 ux) (.int .i64 uy)
    clear V2 hb q0 q1 q2 q3 q4 q5 q6 q7
    go_wp2
    refine bodyPost_ret (v:=rv ux uy) (by simp [results,Tryz.results39,go_sem,k4,k5]) rfl ⟨rfl,?_⟩
    repeat (first | exact uH GR | refine yA ?_ _ | refine yC ?_ _ _ _ (by omega))
   ·rintro x1 x2 ⟨id,qu,zo,zl,zc⟩ kl y1 y2 w4 cnt1 G7 hlk hR hat hrg1 hlt hg1 hs1 hen
    obtain ⟨UN,UE⟩:Hid (fJ id hs=some ⟨id,qu,zo,zl,zc⟩)∧Hid (keyOf Tryz.prog 92 (oW [] id)=some kl):=by
     obtain ⟨v,hf,hkv,qj⟩:=(uH J7).1 kl (uH Mq kl hlk)
     rw [jG] at hR
     have e:=aEy ((qj (.map [])).symm.trans ((hat (.map [])).trans (congrArg Prod.fst (Option.some.inj hR)).symm))
     subst e
     exact ⟨aA hf,aA hkv⟩
    have UD:=aA (show keyOf Tryz.prog 92 (oW x1 x2)=some kl from G7)
    have HR1:=aA hrg1
    have Dx:=aA hlt
    have G8:=aA (show Bw w1 w4 from (uH Qz).grown hg1 (uH Qz).size (fun k e=>by cases e;omega))
    obtain ⟨b,hbb⟩:∃b,jZ qs qu nm=b:=⟨_,rfl⟩
    have CRq:=aA (fun wx (hb:Bw w wx)=>by have:=uH CR wx hb qu;rw [hbb] at this;exact this)
    have Xv:=aA hbb
    have PB:=(uH P1).below (uH G8)
    have q0:=PB.at 0
    simp at q0
    have q0b:=(PB.al (.cells #[.string (bs x1),.int .i64 x2] 92)).at 0
    have q0c:=((PB.al (.cells #[.string (bs x1),.int .i64 x2] 92)).al (.cells #[.int .i64 id,.string (bs qu),.slice zo zl zc] 48)).at 0
    simp at q0b q0c
    clear G7 hR hat hrg1 hlt hg1 hs1 hlk hbb PB CR CU
    go_wp2_with fail
    refine (uH CRq _ ?_).mono ?_
    ·exact yA (yA (yB (uH HB1) (uH G8)) _) _
    rintro e w5 ⟨rfl,hb⟩
    have GR:=aA (yB (yA (yA (yH _ w4) (.cells #[.string (bs x1),.int .i64 x2] 92)) (.cells #[.int .i64 id,.string (bs qu),.slice zo zl zc] 48)) hb)
    have KB:=((yD w4 #[.string (bs x1),.int .i64 x2] 92).al (.cells #[.int .i64 id,.string (bs qu),.slice zo zl zc] 48)).below hb
    have z0:=KB.at 0
    have z1:=KB.at 1
    simp at z0 z1
    have RP:=aA ((uH HR1).kept (aG (aF w4 none) (uH GR)) (by simp) (by simp))
    have Gy:=aA (show Bw w1 w5 from yB (uH G8) (uH GR))
    clear hb KB CRq q0 q0b q0c hen HR1
    cases b with
    | true=>
     have HST:=aA ((uH J7).stay (v:=⟨id,qu,zo,zl,zc⟩) (uH UN) (uH UE) (uH Xv))
     go_wp2
     go_roundw
     case rel=>exact ⟨_,cnt1,D,RP,HST,aA (aGv (uH Mq)),Gy⟩
     case measure=>rw [(uH RP).left_eq,hrg.left_eq];exact uH Dx
    | false=>
     have HST:=aA ((uH J7).strike (v:=⟨id,qu,zo,zl,zc⟩) (uH UN) (uH UE) (uH Xv))
     have JZ:=uH RP
     go_wp2_with (first
      | (at_delete;refine wpList_delete_ranges _ rfl _ _ 89 92 rfl 48 jS Tryz.underlying89 _ bm r hs.length _ _ _ rfl JZ _ _ rfl (uH UD) ?_;intro w6 cnt2 hrg6 hle hturn;go_frame)
      | go_in)
     rw [strike_twice] at hrg6
     have Qv:=aA (show Bw w1 w6 from (uH Gy).grown hturn.grown (uH Gy).size (fun k e=>by cases e;omega))
     have Ty:=aA hrg6
     have HLE:=aA hle
     clear hturn JZ hrg6 hle
     go_roundw
     case rel=>exact ⟨_,cnt2,_,Ty,HST,aA (aDb (jS.key (uH UD)) (uH Mq)),Qv⟩
     case measure=>rw [(uH Ty).left_eq,hrg.left_eq];have:=uH HLE;have:=uH Dx;omega
end Go.Proofs.YtngkddhcmfbjnaaGreat
