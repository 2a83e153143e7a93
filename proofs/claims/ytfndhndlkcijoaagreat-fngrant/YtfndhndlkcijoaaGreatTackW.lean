/-
  Texts in one: OkE, OkF.
-/
import Derived.Test.YtfndhndlkcijoaaGreatTackT
import Derived.Test.YtfndhndlkcijoaaGreatTackF
set_option maxRecDepth 100000
set_option maxHeartbeats 16000000
set_option linter.unusedVariables false
set_option linter.unusedSimpArgs false
open Go.Proofs.Tryz
namespace Go.Proofs.YtfndhndlkcijoaaGreat
section
open Go.RowKit Go.Maps
variable {last:Int} {cs:List Con} {l:List Mac} {m:Mac} {k:Nat}
def eD (apps:List dA):List Mac→Int→List Con→Bool
 | _,_,[]=>true
 | l,last,c::t=>decide (last<c.id)&&(decide (c.id≤1000000000)&&(lT c.mem c.cpu&&((bB c.app apps).isSome&&((bL c.node l).isSome&&(aN (-1) ((bL c.node l).getD ⟨[],0,0,0⟩).mem ((bL c.node l).getD ⟨[],0,0,0⟩).cpu c.mem c.cpu
   && eD apps (⟨((bL c.node l).getD ⟨[],0,0,0⟩).name,((bL c.node l).getD ⟨[],0,0,0⟩).mem + -1*c.mem,((bL c.node l).getD ⟨[],0,0,0⟩).cpu + -1*c.cpu,((bL c.node l).getD ⟨[],0,0,0⟩).seen⟩::l) c.id t)))))
def mU (s:St):Bool:=decide (s.cs.length≤150)&&eD s.apps s.ms 0 s.cs
theorem aBG {apps:List dA} (h:cs.length≤k):eD apps l last (cs.drop k)=true:=by
 rw [List.drop_of_length_le h];rfl
theorem zM {apps:List dA} (h:k<cs.length) {b:Bool} (hm:(bL cs[k].node l).getD ⟨[],0,0,0⟩=m) (hb:(bL cs[k].node l).isSome=b) :
  eD apps l last (cs.drop k)=(decide (last<cs[k].id)&&(decide (cs[k].id≤1000000000)&&(lT cs[k].mem cs[k].cpu&&((bB cs[k].app apps).isSome&&(b&&(aN (-1) m.mem m.cpu cs[k].mem cs[k].cpu
   && eD apps (⟨m.name,m.mem + -1*cs[k].mem,m.cpu + -1*cs[k].cpu,m.seen⟩::l) cs[k].id (cs.drop (k+1)))))))):=by
 rw [List.drop_eq_getElem_cons h,eD,hm,hb]
theorem sQ {nm:List UInt8} (h:bL nm l=some m):m.name=nm:=by simpa using List.find?_some h
theorem aGi {s:List dA} {hs:List AV} {w:World} (hh:kD w hs s) (q:Con):aGj hs (fun _=>true) q=(bB q.app s).isSome:=by
 have:=aAR (id:=q.app) hh.1 (fun i h h'=>⟨(hh.2 i h h').1,(hh.2 i h h').2.1⟩);rw [aGj];cases h1:iV q.app hs<;>cases h2:bB q.app s<;>rw [h1,h2] at this<;>simp [aJr] at this ⊢
theorem aAk (q:Con) (w:World) :
  cP 141 #[conv q] w fun e w'=>e=.returned (qE q.node 0)∧Bw w w':=by
 obtain ⟨id,ap,nd,me,cp⟩:=q;go_enter func141,ntmps141;go_wp2;refine bodyPost_ret (v:=qE nd 0) (by simp [results,results141,go_sem];try rfl) rfl ⟨rfl,?_⟩;repeat (first | exact yH _ _ | refine yA ?_ _ | refine Below.drew ?_ | refine yC ?_ _ _ _ (by omega))
theorem aDV (x:Sls) (s:St) (w:World) (h:gW w x s) (hf:dB s) (hw:yQ s) :
  cP 82 #[sv x s] w fun e w'=>e=.returned (.bool (mU s))∧Bw w w':=by
 have hal:x.al≤1048576:=by have:=h.len.2.1;have:=hf.2.1.1;omega
 have GN:x.ml≤1048576:=by have:=h.len.2.2.1;have:=hf.2.2.1.1;omega
 have hcl:x.cl≤1048576:=by have:=h.len.2.2.2;have:=hf.2.2.2.1;omega
 have HR:=aA h.2.2.2;have HL:=aA h.2.2.2.1;have VC:=aA hf.2.2.2;have PV:=aA hw.2;have Ry:s.ms.length≤1048576:=by have:=h.2.2.1.1;omega
 obtain ⟨hs,QN,hhd⟩:=h.2.1.heads;have TH:=aA (fun q=>aGi hhd q);have CA:=aA (fun wx (hb:Bw w wx)=>aD1 x s hs wx (QN.below hb) hal (aEJ hhd hw.1));have CM:=aA (fun wx (hb:Bw w wx)=>pV x s wx (h.2.2.1.below hb) GN (fun m hm=>hf.2.2.1.2 m hm));have HS:=aA (show mU s=(decide (x.cl≤150)&&eD s.apps s.ms 0 s.cs) by rw [mU,←h.2.2.2.1]);obtain ⟨o,ho⟩:∃o,mU s=o:=⟨_,rfl⟩;rw [ho] at HS ⊢;clear h hf hw ho QN hhd;obtain ⟨qa,ql,qc,aa,al,ac,ma,ml,mc,ca,cl,cc⟩:=x;obtain ⟨qs,cv,ez,ny,sj,aj,ms,cs⟩:=s;simp only at hal GN hcl HR HL VC PV Ry CA CM HS TH;have HB0:=aA (jD w (svc ⟨qa,ql,qc,aa,al,ac,ma,ml,mc,ca,cl,cc⟩ ⟨qs,cv,ez,ny,sj,aj,ms,cs⟩));have P0:=aA (fQ w (svc ⟨qa,ql,qc,aa,al,ac,ma,ml,mc,ca,cl,cc⟩ ⟨qs,cv,ez,ny,sj,aj,ms,cs⟩));obtain ⟨q0,q1,q2,q3,q4,q5,q6,q7⟩:_∧_∧_∧_∧_∧_∧_∧_:=⟨(uH P0).at 0,(uH P0).at 1,(uH P0).at 2,(uH P0).at 3,(uH P0).at 4,(uH P0).at 5,(uH P0).at 6,(uH P0).at 7⟩;simp at q0 q1 q2 q3 q4 q5 q6 q7;by_cases XU:cl≤150;case neg=>
  have hi:(150:Int)<cl:=by omega
  rw [decide_eq_false XU] at HS;go_enter func82,ntmps82;go_wp2;go_ret;exact ⟨yF (by rw [uH HS];simp),uH HB0⟩
 have hi:¬(150:Int)<cl:=by omega
 rw [decide_eq_true XU,Bool.true_and] at HS;obtain ⟨W0,hW0⟩:∃W,rM w (svc ⟨qa,ql,qc,aa,al,ac,ma,ml,mc,ca,cl,cc⟩ ⟨qs,cv,ez,ny,sj,aj,ms,cs⟩)=W:=⟨_,rfl⟩;have Qy:W0.heap.size=w.heap.size+1:=by rw [←hW0,xP]
 go_enter func82,ntmps82
 go_wp2_with fail
 change Code.wp _ _ _ _ (rM w (svc ⟨qa,ql,qc,aa,al,ac,ma,ml,mc,ca,cl,cc⟩ ⟨qs,cv,ez,ny,sj,aj,ms,cs⟩));rw [hW0] at HB0 q0 q1 q2 q3 q4 q5 q6 q7 ⊢;have R:∀wx,Kp W0 wx→wx.cell? ⟨w.heap.size,0,none⟩=some (.slice qa ql qc)∧wx.cell? ⟨w.heap.size,1,none⟩=some (.int .i64 cv)∧wx.cell? ⟨w.heap.size,2,none⟩=some (.int .i64 ez)∧wx.cell? ⟨w.heap.size,3,none⟩=some (.int .i64 ny)∧wx.cell? ⟨w.heap.size,4,none⟩=some (.int .i64 sj)∧wx.cell? ⟨w.heap.size,5,none⟩=some (.slice aa al ac)∧wx.cell? ⟨w.heap.size,6,none⟩=some (.slice ma ml mc)∧wx.cell? ⟨w.heap.size,7,none⟩=some (.slice ca cl cc):=fun wx h=>
  ⟨h.cell q0,h.cell q1,h.cell q2,h.cell q3,h.cell q4,h.cell q5,h.cell q6,h.cell q7⟩
 have A0:=aA (Kp.new W0);have HK:=aA (aL W0);have Q7:=aA q7;clear q0 q1 q2 q3 q4 q5 q6 q7 P0 hW0 XU hi;go_cut [3,4] from 16 to 19 (fun v3 v4 wx=>∃ba bm n,v3=.map (some ba)∧v4=.map (some bm)∧W0.heap.size≤ba∧ba<bm∧Hid (∃D,wx.ownsMap Tryz.prog 124 fJ ba n D∧fT hs aIb D)∧Hid (∃D,wx.ownsMap Tryz.prog 124 jC bm ms.length D∧mD ms D)∧Kp W0 wx)
 case first=>
  go_region_held3 (fun wx=>Kp W0 wx)
   (first | (with_reducible assumption) | exact uH SA | exact (uH HK).drew (uH A0) | exact (uH HK).call (by assumption) (by assumption))
   (first
   | (go_at_call 76;refine (uH CA _ ?_).mono ?_;(exact yB (uH HB0) ((uH HK).below (by assumption)));rintro e wt ⟨ba,rfl,⟨GH,D1,KA,hk1⟩,hb⟩;have Dj:=aA (And.intro KA hk1);have SZ:=(show W0.heap.size≤ba from Nat.le_trans ((uH HK).size (by assumption)) GH);have LT:=KA.lt;have SA:=aA ((uH HK).call (by assumption) hb);clear KA hk1)
   | (go_at_call 140;refine (uH CM _ ?_).mono ?_;(exact yB (uH HB0) ((uH HK).below (by assumption)));rintro e wt2 ⟨bm,rfl,⟨ZU,D2,GX,hk2⟩,hb⟩;have Yk:=aA (And.intro GX hk2);have RJ:=aA (And.intro (dM (uH Dj).1 hb) (uH Dj).2);have SA:=aA ((uH HK).call (by assumption) hb);clear GX hk2))
  all_goals
   (go_wp2_with fail);go_meet;exact ⟨ba,bm,_,rfl,rfl,SZ,by omega,aA ⟨_,uH RJ⟩,aA ⟨_,uH Yk⟩,by first | assumption | exact uH SA⟩
 case rest=>
  obtain ⟨ba,bm,n,rfl,rfl,GH,ZU,Dj,Yk,hA⟩:=hcut;have HB1:=aA (yB (uH HB0) hA);have q7:=hA.cell (uH Q7);clear hA R A0 HK CA CM Q7;go_wp2;go_loopw [5,23] (fun la i wr=>∃(k:Nat) (last:Int) (l:List Mac),k≤cl∧i=.int .i64 k∧la=.int .i64 last∧l.length≤1048576+k∧Hid (o=eD aj l last (cs.drop k))∧Hid (∃D,wr.ownsMap Tryz.prog 124 fJ ba n D∧fT hs aIb D)∧Hid (∃D,wr.ownsMap Tryz.prog 124 jC bm l.length D∧mD l D)∧Hid (Bw w wr)) (fun _ i _=>cl - (intOf i).toNat);case atStart=>exact ⟨0,0,ms,Nat.zero_le _,rfl,rfl,by omega,aA (by rw [uH HS];simp),Dj,Yk,HB1⟩
  case round=>
   obtain ⟨k,last,l,hk,rfl,rfl,hll,HO,HA,HM,HB⟩:=hrel;clear Dj Yk HB1 HS;by_cases hlt:k<cl
   ·obtain ⟨b,off,rfl,hq⟩:=((uH HR).below (uH HB)).at hlt;(have hkl:k<cs.length:=by have:=uH HL;omega);have hfc:=(uH VC).2 _ (yM hkl);have hwc:=uH PV _ (yM hkl);obtain ⟨c0,c1,c2,c3,c4⟩:=hq hkl;obtain ⟨m,hm⟩:∃m,(bL cs[k].node l).getD ⟨[],0,0,0⟩=m:=⟨_,rfl⟩;obtain ⟨th,hth⟩:∃t,(bL cs[k].node l).isSome=t:=⟨_,rfl⟩;have hst:=zM (apps:=aj) (l:=l) (last:=last) hkl hm hth;have ZC:th=true→m.name=cs[k].node:=fun ht=>by
     cases hf:bL cs[k].node l with
     | none=>rw [hf] at hth;subst ht;cases hth
     | some m'=>rw [hf] at hm;subst hm;exact sQ hf
    obtain ⟨q,hs'⟩:∃q,cs[k]=q:=⟨_,rfl⟩;rw [hs'] at c0 c1 c2 c3 c4 hst hfc hwc hm hth ZC;have HST:=aA hst;have KR:=aA ZC;obtain ⟨kl,gy⟩:=xC (nm:=q.node) (k:=0) (by omega) (by decide);have Gv:=aA gy;have CO:=aA (fun wx=>aAk q wx);have CH:=aA (fun (wx:World) (hx:∃D,wx.ownsMap Tryz.prog 124 fJ ba n D∧fT hs aIb D)=>by obtain ⟨D,h1,h2⟩:=hx;have:=aGg ba n D hs (fun _=>true) q wx h1 h2 hwc;rw [uH TH q] at this;exact this);have Nj:=aA (fun (wx:World) (hx:∃D,wx.ownsMap Tryz.prog 124 jC bm l.length D∧mD l D)=>by obtain ⟨D,h1,h2⟩:=hx;have:=aJW h1 h2 gy;rw [hm,hth] at this;exact this);have C1:=aA (fun wx=>qI q.mem q.cpu wx);have CS:=aA (fun wx=>p9 m.mem m.cpu q.mem q.cpu wx);clear hq hs' hkl hfc hwc hst ZC gy hm hth;obtain ⟨id,ap,nd,me,cp⟩:=q;obtain ⟨mn,mm,mp,se⟩:=m;simp only at c0 c1 c2 c3 c4 HST KR CH Nj C1 CS;obtain ⟨sm,hsm⟩:∃r,lT me cp=r:=⟨_,rfl⟩;obtain ⟨ha,MQ⟩:∃r,(bB ap aj).isSome=r:=⟨_,rfl⟩;obtain ⟨lx,ly,ok,hv⟩:∃x' y' ok,jY (-1) mm mp me cp=rv x' y'∧aN (-1) mm mp me cp=ok∧(ok=true→x'=mm + -1*me∧y'=mp + -1*cp):=by
     cases hb:aN (-1) mm mp me cp
     ·exact ⟨0,0,_,kQ hb,rfl,by simp⟩
     ·exact ⟨_,_,_,kW hb,rfl,fun _=>⟨rfl,rfl⟩⟩
    have Qz:=aA hv.2.2;rw [hv.1,hv.2.1] at CS;rw [hsm,MQ,hv.2.1] at HST;rw [hsm] at C1;rw [MQ] at CH;have GJ:=aA ((uH HO).trans (uH HST));clear hsm MQ hv HO HST;have P2:=aA (yD wr #[.int .i64 id,.int .i64 ap,.string (bs nd),.int .i64 me,.int .i64 cp] 35);have b2:=yA (yH _ wr) (.cells #[.int .i64 id,.int .i64 ap,.string (bs nd),.int .i64 me,.int .i64 cp] 35);have HB2:=aA b2;clear b2;(go_wp2_with fail);refine (uH CO _).mono ?_;rintro e w3 ⟨rfl,hb⟩;(have h3:wr.heap.size+1≤w3.heap.size:=by have:=hb.size;rw [yE] at this;exact this);have HB3:=aA (yB (uH HB2) hb);have P3:=aA ((uH P2).below hb);have hlk:=uH Nj w3 (by obtain ⟨D,h1,h2⟩:=uH HM;exact ⟨D,dM h1 (uH HB3),h2⟩);clear hb HB2 P2;have GD:=aA (yA (uH HB3) (uD ⟨mn,mm,mp,se⟩));have P4:=aA ((uH P3).al (uD ⟨mn,mm,mp,se⟩));have M4:=aA (yD w3 #[.string (bs mn),.int .i64 mm,.int .i64 mp,.int .i64 se] 103);have a3:=(uH P4).at 3;have a4:=(uH P4).at 4;simp at a3 a4;(go_wp2_with fail);refine (uH CS _).mono ?_;rintro e w5 ⟨rfl,hb⟩;have GY:=aA (yA (yB (uH GD) hb) (.cells #[.int .i64 lx,.int .i64 ly] 33));have P6:=aA (((uH P4).below hb).al (.cells #[.int .i64 lx,.int .i64 ly] 33));have M6:=aA (((uH M4).below hb).al (.cells #[.int .i64 lx,.int .i64 ly] 33));have V6:=aA (aM w5 33 lx ly);(have h5:w3.heap.size+1≤w5.heap.size:=by have:=hb.size;rw [yE] at this;exact this);have e0:=(uH P6).at 0;have e3:=(uH P6).at 3;have e4:=(uH P6).at 4;simp at e0 e3 e4;have xy:=aA (yB (uH HB) (uH GY));clear hb GD P4 M4 CS a3 a4 hlk c0 c1 c2 c3 c4 Nj;by_cases h1:last<id;case neg=>
     (have h1':id≤last:=by omega);go_wp2;go_ret;exact ⟨yF (by rw [uH GJ,decide_eq_false (show ¬last<id by omega)];simp),uH xy⟩
    (have h1':¬id≤last:=by omega);by_cases h2:id≤1000000000;case neg=>
     (have h2':1000000000<id:=by omega);go_wp2;go_ret;exact ⟨yF (by rw [uH GJ,decide_eq_false (show ¬id≤1000000000 by omega)];simp),uH xy⟩
    (have h2':¬1000000000<id:=by omega);have ZJ:=aA (show o=(sm&&(ha&&(th&&(ok&&eD aj (⟨mn,mm + -1*me,mp + -1*cp,se⟩::l) id (cs.drop (k+1)))))) by rw [uH GJ,decide_eq_true h1,decide_eq_true h2];simp);clear GJ;(go_wp2_with fail);refine (uH C1 _).mono ?_;rintro e w7 ⟨rfl,hb⟩;have Kz:=aA (yB (uH GY) hb);have P7:=aA ((uH P6).below hb);have M7:=aA ((uH M6).below hb);have V7:=aA ((uH V6).below hb);(have h7:w5.heap.size+1≤w7.heap.size:=by have:=hb.size;rw [yE] at this;exact this);have f0:=(uH P7).at 0;have f1:=(uH P7).at 1;have f2:=(uH P7).at 2;have f3:=(uH P7).at 3;have f4:=(uH P7).at 4;simp at f0 f1 f2 f3 f4;have DX:=aA (yB (uH HB) (uH Kz));clear hb GY P6 M6 V6 C1 xy e0 e3 e4;cases sm with
    | false=>go_wp2;go_ret;exact ⟨yF (by rw [uH ZJ];simp),uH DX⟩
    | true=>
    (go_wp2_with fail);refine (uH CH _ ?_).mono ?_
    ·obtain ⟨D,g1,g2⟩:=uH HA;exact ⟨D,dM g1 (uH Kz),g2⟩
    rintro e w9 ⟨rfl,hb⟩;have QD:=aA (yB (uH Kz) hb);have P9:=aA ((uH P7).below hb);have M9:=aA ((uH M7).below hb);have V9:=aA ((uH V7).below hb);have h9:=hb.size;have Kq:=aA (yB (uH HB) (uH QD));clear hb Kz P7 M7 V7 CH DX f0 f1 f2 f3 f4;cases ha with
    | false=>go_wp2;go_ret;exact ⟨yF (by rw [uH ZJ];simp),uH Kq⟩
    | true=>
    cases th with
    | false=>go_wp2;go_ret;exact ⟨yF (by rw [uH ZJ];simp),uH Kq⟩
    | true=>
    cases ok with
    | false=>go_wp2;go_ret;exact ⟨yF (by rw [uH ZJ];simp),uH Kq⟩
    | true=>
    (obtain ⟨hlx,pq⟩:=uH Qz rfl;have Xx:=aA (show o=eD aj (⟨mn,lx,ly,se⟩::l) id (cs.drop (k+1)) by rw [uH ZJ,hlx,pq];simp);have JD:=uH KR rfl;have Bv:=aA (show keyOf Tryz.prog 124 (qE mn 0)=some kl by rw [JD];exact uH Gv);clear ZJ Qz hlx pq KR JD;have v0:=(uH V9).c0;have v1:=(uH V9).c1;have m1:=(uH M9).f 1;have m2:=(uH M9).f 2;have m3:=(uH M9).at 1;have m4:=(uH M9).at 2;simp at m3 m4;(have hbmr:bm<wr.heap.size:=by obtain ⟨D,g1,_⟩:=uH HM;exact g1.lt);(have hbar:ba<wr.heap.size:=by obtain ⟨D,g1,_⟩:=uH HA;exact g1.lt);have hw3:=(uH HB3).size;have RZ:=(uH HB).size;obtain ⟨W10,XN⟩:∃W,(w9.setCell ⟨w3.heap.size,1,none⟩ (.int .i64 lx)).setCell ⟨w3.heap.size,2,none⟩ (.int .i64 ly)=W:=⟨_,rfl⟩;have ZG:Blk W10 w3.heap.size #[.string (bs mn),.int .i64 lx,.int .i64 ly,.int .i64 se] 103:=by rw [←XN];exact heap_setCell_same _ _ 2 _ _ (.int .i64 ly) (heap_setCell_same _ _ 1 _ _ (.int .i64 lx) (uH M9)));(have ZV:Blk W10 wr.heap.size #[.int .i64 id,.int .i64 ap,.string (bs nd),.int .i64 me,.int .i64 cp] 35:=by rw [←XN];exact ((uH P9).other _ _ _ (by omega)).other _ _ _ (by omega));have Dx:=aA (show Bw w W10 by rw [←XN];exact yC (yC (uH Kq) _ _ _ (by omega)) _ _ _ (by omega));have NY:=aA (show ∃D,W10.ownsMap Tryz.prog 124 jC bm l.length D∧mD l D by
     obtain ⟨D,g1,g2⟩:=uH HM;exact ⟨D,by rw [←XN];exact ((dM g1 (uH QD)).setCell (by simp only;omega) _).setCell (by simp only;omega) _,g2⟩)
    have RL:=aA (show ∃D,W10.ownsMap Tryz.prog 124 fJ ba n D∧fT hs aIb D by
     obtain ⟨D,g1,g2⟩:=uH HA;exact ⟨D,by rw [←XN];exact ((dM g1 (uH QD)).setCell (by simp only;omega) _).setCell (by simp only;omega) _,g2⟩)
    have p0:=ZV.at 0;have p1:=ZV.at 1;have p2:=ZV.at 2;have p3:=ZV.at 3;have p4:=ZV.at 4;have z0:=ZG.at 0;have z1:=ZG.at 1;have z2:=ZG.at 2;have z3:=ZG.at 3;simp at p0 p1 p2 p3 p4 z0 z1 z2 z3;have P10:=aA ZV;have M10:=aA ZG;clear ZV ZG P9 M9 V9 QD Kq HM HA HB HB3 P3;(go_wp2_with fail);clear XN v0 v1 m1 m2 m3 m4;go_region_with (first | (go_at_call 141;refine (uH CO _).mono ?_;rintro e wz ⟨rfl,hbc⟩;have HZ:=aA (yB (yH _ W10).drew hbc);have y0:=((uH M10).below (uH HZ)).at 0;have y1:=((uH M10).below (uH HZ)).at 1;have y2:=((uH M10).below (uH HZ)).at 2;have y3:=((uH M10).below (uH HZ)).at 3;simp at y0 y1 y2 y3;obtain ⟨D,g1,g2⟩:=uH NY;obtain ⟨w11,gq,GX,GK⟩:=(dM g1 (uH HZ)).update jU underlying183 (by unfold maxLen;omega) (uH Gv) (sM ⟨mn,lx,ly,se⟩);have QW:=aA (And.intro GX (And.intro GK (mD.put (m:=⟨mn,lx,ly,se⟩) g2 g1.isMap (uH Bv))));clear GX GK g1 g2 hbc))
    all_goals
     obtain ⟨f1,f2,f3⟩:=uH QW;have hpz:=(uH P10).below (uH HZ);have P11:Blk w11 wr.heap.size #[.int .i64 id,.int .i64 ap,.string (bs nd),.int .i64 me,.int .i64 cp] 35:=(f2.block _ hpz.lt (by simp;omega)).trans hpz;have g0:=P11.at 0;simp at g0;have ZM:=aA f1;have Qv:=aA f2;have VD:=aA f3;clear f1 f2 f3 hpz P11;go_wp2;have f1:=uH ZM;have f2:=uH Qv;have f3:=uH VD;go_roundw;case rel=>
      refine ⟨k+1,id,⟨mn,lx,ly,se⟩::l,by omega,by go_num,rfl,by simp;omega,Xx,?_,aA ⟨_,f1,f3⟩,aA ?_⟩
      ·obtain ⟨D2,a1,a2⟩:=uH RL;exact aA ⟨D2,(dM a1 (uH HZ)).kept f2 (by simp;omega),a2⟩
      ·exact (yB (uH Dx) (uH HZ)).grown f2 (by have:=(uH Dx).size;have:=(uH HZ).size;omega) (fun j e=>by cases e;omega)
     case measure=>simp [intOf];omega
   ·go_wp2;go_ret;exact ⟨yF (by rw [uH HO,aBG (by have:=uH HL;omega)]),uH HB⟩
end
section
open Go.RowKit
def qG (s:St):Bool:=aF s.qs&&(aBf s&&(fI s&&(mO s&&mU s)))
theorem aBU (x:Sls) (s:St) (w:World) (h:gW w x s) (hf:dB s) (hc:x.ql≤x.qc) (hw:yQ s) :
  cP 24 #[sv x s] w fun e w'=>e=.returned (.bool (qG s))∧Bw w w':=by
 have Gw:x.ql≤1048576:=by have:=h.len.1;have:=hf.1.1;omega
 have C1:=aA (fun wx (hb:Bw w wx)=>fC x.qa x.ql x.qc s.qs wx (h.1.below hb) Gw (fun q hq=>(hf.1.2 q hq).1) hc);have C2:=aA (fun wx=>aAm x s wx);have C3:=aA (fun wx (hb:Bw w wx)=>aFV x s wx (h.below hb) hf);have C4:=aA (fun wx (hb:Bw w wx)=>zF x s wx (h.below hb) hf);have C5:=aA (fun wx (hb:Bw w wx)=>aDV x s wx (h.below hb) hf hw);obtain ⟨b1,e1⟩:∃b,aF s.qs=b:=⟨_,rfl⟩;obtain ⟨b2,e2⟩:∃b,aBf s=b:=⟨_,rfl⟩;obtain ⟨b3,e3⟩:∃b,fI s=b:=⟨_,rfl⟩;obtain ⟨b4,e4⟩:∃b,mO s=b:=⟨_,rfl⟩;obtain ⟨b5,e5⟩:∃b,mU s=b:=⟨_,rfl⟩;rw [show qG s=(b1&&(b2&&(b3&&(b4&&b5)))) by rw [qG,e1,e2,e3,e4,e5]];rw [e1] at C1;rw [e2] at C2;rw [e3] at C3;rw [e4] at C4;rw [e5] at C5;clear h hf hc hw e1 e2 e3 e4 e5;obtain ⟨qa,ql,qc,aa,al,ac,ma,ml,mc,ca,cl,cc⟩:=x;obtain ⟨qs,cv,ez,ny,sj,aj,ms,cs⟩:=s;simp only at C1 C2 C3 C4 C5 Gw;have HB0:=aA (jD w (svc ⟨qa,ql,qc,aa,al,ac,ma,ml,mc,ca,cl,cc⟩ ⟨qs,cv,ez,ny,sj,aj,ms,cs⟩));have P0:=aA (fQ w (svc ⟨qa,ql,qc,aa,al,ac,ma,ml,mc,ca,cl,cc⟩ ⟨qs,cv,ez,ny,sj,aj,ms,cs⟩));go_enter func24,ntmps24;go_wp2_with fail;refine (uH C1 _ (uH HB0)).mono ?_;rintro e w1 ⟨rfl,hb⟩;have HB1:=aA (yB (uH HB0) hb);have P1:=aA ((uH P0).below hb);clear hb HB0 P0 C1;cases b1 with
 | false=>go_wp2;go_ret;exact ⟨rfl,uH HB1⟩
 | true=>
 obtain ⟨q0,q1,q2,q3,q4,q5,q6,q7⟩:_∧_∧_∧_∧_∧_∧_∧_:=⟨(uH P1).at 0,(uH P1).at 1,(uH P1).at 2,(uH P1).at 3,(uH P1).at 4,(uH P1).at 5,(uH P1).at 6,(uH P1).at 7⟩;simp at q0 q1 q2 q3 q4 q5 q6 q7;go_wp2_with fail;refine (uH C2 _).mono ?_;rintro e w2 ⟨rfl,hb⟩;have HB2:=aA (yB (uH HB1) hb);have P2:=aA ((uH P1).below hb);clear hb HB1 P1 C2 q0 q1 q2 q3 q4 q5 q6 q7;cases b2 with
 | false=>go_wp2;go_ret;exact ⟨rfl,uH HB2⟩
 | true=>
 obtain ⟨q0,q1,q2,q3,q4,q5,q6,q7⟩:_∧_∧_∧_∧_∧_∧_∧_:=⟨(uH P2).at 0,(uH P2).at 1,(uH P2).at 2,(uH P2).at 3,(uH P2).at 4,(uH P2).at 5,(uH P2).at 6,(uH P2).at 7⟩;simp at q0 q1 q2 q3 q4 q5 q6 q7;go_wp2_with fail;refine (uH C3 _ (uH HB2)).mono ?_;rintro e w3 ⟨rfl,hb⟩;have HB3:=aA (yB (uH HB2) hb);have P3:=aA ((uH P2).below hb);clear hb HB2 P2 C3 q0 q1 q2 q3 q4 q5 q6 q7;cases b3 with
 | false=>go_wp2;go_ret;exact ⟨rfl,uH HB3⟩
 | true=>
 obtain ⟨q0,q1,q2,q3,q4,q5,q6,q7⟩:_∧_∧_∧_∧_∧_∧_∧_:=⟨(uH P3).at 0,(uH P3).at 1,(uH P3).at 2,(uH P3).at 3,(uH P3).at 4,(uH P3).at 5,(uH P3).at 6,(uH P3).at 7⟩;simp at q0 q1 q2 q3 q4 q5 q6 q7;go_wp2_with fail;refine (uH C4 _ (uH HB3)).mono ?_;rintro e w4 ⟨rfl,hb⟩;have GD:=aA (yB (uH HB3) hb);have P4:=aA ((uH P3).below hb);clear hb HB3 P3 C4 q0 q1 q2 q3 q4 q5 q6 q7;cases b4 with
 | false=>go_wp2;go_ret;exact ⟨rfl,uH GD⟩
 | true=>
 obtain ⟨q0,q1,q2,q3,q4,q5,q6,q7⟩:_∧_∧_∧_∧_∧_∧_∧_:=⟨(uH P4).at 0,(uH P4).at 1,(uH P4).at 2,(uH P4).at 3,(uH P4).at 4,(uH P4).at 5,(uH P4).at 6,(uH P4).at 7⟩;simp at q0 q1 q2 q3 q4 q5 q6 q7;go_wp2_with fail;refine (uH C5 _ (uH GD)).mono ?_;rintro e w5 ⟨rfl,hb⟩;have Gj:=aA (yB (uH GD) hb);clear hb GD P4 C5 q0 q1 q2 q3 q4 q5 q6 q7;cases b5;all_goals go_wp2;go_ret;exact ⟨rfl,uH Gj⟩
end
end Go.Proofs.YtfndhndlkcijoaaGreat
