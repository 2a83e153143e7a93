/-
  Whether a queue has room for an amount, by the model: Room; a walk over the dump.
-/
import Derived.Test.YtfndhndlkcijoaaGreatTackJ
import Derived.Test.YtfndhndlkcijoaaGreatTackI
set_option maxRecDepth 100000
set_option maxHeartbeats 16000000
set_option linter.unusedVariables false
set_option linter.unusedSimpArgs false
namespace Go.Proofs.YtfndhndlkcijoaaGreat
section
open Go.RowKit Go.Maps
theorem aEX {B:Nat} {w:World} {v:Value} {ps:List (List UInt8)} (h:bZ B w v ps):∃ao cap,v=.slice ao ps.length cap∧∀j (hj:j<ps.length),∃g,ao=some ⟨g,0,none⟩∧w.cell? ⟨g,j,none⟩=some (.string (bs ps[j])):=by
  by_cases hp:ps=[]
  · subst hp;obtain ⟨a,cap,rfl⟩:=kF h;exact ⟨a,cap,rfl,fun j hj=>by simp at hj⟩
  · obtain ⟨g,cap,rfl,hs,_⟩:=kE h hp;exact ⟨_,cap,rfl,fun j hj=>⟨g,rfl,hs.text hj⟩⟩
theorem aEb (s:St) (nm:List UInt8):(path s.qs nm).length≤1048576:=by
  cases ho:aF s.qs with
  | false=>simp [path,ho]
  | true=>have h2:=(sH.1 (by have:=kT s.qs;rw [ho] at this;simp at this;exact this.1)).2.2;have:=vI s.qs nm;omega
theorem tX (x:Sls) (s:St) (nm:List UInt8) (rx ry:Int) (w:World) (h:gW w x s) (hf:dB s) :
    cP 85 #[sv x s,.string (bs nm),rv rx ry] w fun e w'=>e=.returned (.bool (yZ s nm rx ry))∧Bw w w':=by
  have Gw:x.ql≤1048576:=h.ql hf;have GN:x.ml≤1048576:=h.ml hf;have CPath:=aA (fun wx (hb:Bw w wx)=>nK x.qa x.ql x.qc s.qs nm wx (h.1.below hb) Gw (fun q hq=>(hf.1.2 q hq).1));have CT:=aA (fun wx (hb:Bw w wx)=>mH x s wx (h.2.2.1.below hb) GN);have CM:=aA (fun wx (hb:Bw w wx) (n:List UInt8)=>show cP 146 #[.slice x.qa x.ql x.qc,.string (bs n),rv (cZ s).1 (cZ s).2] wx (fun e w'=>e=.returned (rv (eU s n).1 (eU s n).2)∧Bw wx w') from yV x.qa x.ql x.qc s.qs n (cZ s).1 (cZ s).2 wx (h.1.below hb) Gw (fun q hq=>(hf.1.2 q hq).1));have CU:=aA (fun wx (hb:Bw w wx) (n:List UInt8)=>jH x s n wx (h.below hb) hf);have QQ:=aA (aEb s nm);have FK:=aA (fun n:List UInt8=>show o8 s rx ry n=(aN 1 (aJ s n).1 (aJ s n).2 rx ry&&within ((aJ s n).1+1*rx) ((aJ s n).2+1*ry) (eU s n).1 (eU s n).2) from rfl);obtain ⟨⟨tx,ty⟩,ht⟩:∃t,cZ s=t:=⟨_,rfl⟩;rw [show (iC (aX s.ms)).1=tx from congrArg Prod.fst ht,show (iC (aX s.ms)).2.1=ty from congrArg Prod.snd ht] at CT;rw [ht] at CM;obtain ⟨o,ho⟩:∃o,yZ s nm rx ry=o:=⟨_,rfl⟩;have HO:=aA (show (decide (0<(path s.qs nm).length)&&(path s.qs nm).all (o8 s rx ry))=o from ho);rw [ho];obtain ⟨ps,hps⟩:∃p,path s.qs nm=p:=⟨_,rfl⟩;rw [hps] at CPath QQ HO;obtain ⟨rf,hrf⟩:∃f,o8 s rx ry=f:=⟨_,rfl⟩;rw [hrf] at FK HO;obtain ⟨mf,ZE⟩:∃f,eU s=f:=⟨_,rfl⟩;rw [ZE] at CM FK;obtain ⟨uf,jv⟩:∃f,aJ s=f:=⟨_,rfl⟩;rw [jv] at CU FK;clear h hf ht hps ho hrf ZE jv;obtain ⟨qa,ql,qc,aa,al,ac,ma,ml,mc,ca,cl,cc⟩:=x;obtain ⟨qs,cv,ez,ny,sj,aj,ms,cs⟩:=s;simp only at CM CU CT CPath Gw GN;have HB0:=aA (aCk w (svc ⟨qa,ql,qc,aa,al,ac,ma,ml,mc,ca,cl,cc⟩ ⟨qs,cv,ez,ny,sj,aj,ms,cs⟩) rx ry);have V0:=aA (aFx w (svc ⟨qa,ql,qc,aa,al,ac,ma,ml,mc,ca,cl,cc⟩ ⟨qs,cv,ez,ny,sj,aj,ms,cs⟩) rx ry);have P0:=aA (aFy w (svc ⟨qa,ql,qc,aa,al,ac,ma,ml,mc,ca,cl,cc⟩ ⟨qs,cv,ez,ny,sj,aj,ms,cs⟩) rx ry);go_enter Tryz.func85,Tryz.ntmps85;go_wp2_with fail;refine (uH CPath _ (uH HB0)).mono ?_;rintro e w1 ⟨v,rfl,htx,hb⟩;have HB1:=aA (yB (uH HB0) hb);have V1:=aA ((uH V0).below hb);have P1:=aA ((uH P0).below hb);have YX:=aA htx;obtain ⟨q0,q1,q2,q3,q4,q5,q6,q7⟩:_∧_∧_∧_∧_∧_∧_∧_:=⟨(uH P1).at 0,(uH P1).at 1,(uH P1).at 2,(uH P1).at 3,(uH P1).at 4,(uH P1).at 5,(uH P1).at 6,(uH P1).at 7⟩;simp at q0 q1 q2 q3 q4 q5 q6 q7;clear hb HB0 V0 P0 CPath htx;go_wp2_with fail;refine (uH CT _ (uH HB1)).mono ?_;rintro e w2 ⟨rfl,hb⟩;have HB2:=aA (yA (yB (uH HB1) hb) (.cells #[.int .i64 tx,.int .i64 ty] 33));have V2:=aA (((uH V1).below hb).al (.cells #[.int .i64 tx,.int .i64 ty] 33));have P2:=aA (((uH P1).below hb).al (.cells #[.int .i64 tx,.int .i64 ty] 33));have hX2:=((uH YX).below hb).below (yA (yH _ _) (.cells #[.int .i64 tx,.int .i64 ty] 33));have T2:=aA (aM w2 33 tx ty);obtain ⟨po,pc,rfl,Gz⟩:=aEX hX2;have HC:=aA Gz;clear hb q0 q1 q2 q3 q4 q5 q6 q7 V1 P1 YX HB1 CT hX2 Gz;obtain ⟨n,hn⟩:∃n,ps.length=n:=⟨_,rfl⟩;rw [hn] at QQ HO ⊢;have HN:=aA hn;have hn2:n≤1048576:=uH QQ;clear hn QQ;obtain ⟨W2,hW2⟩:∃W,w2.alloc (.cells #[.int .i64 tx,.int .i64 ty] 33)=W:=⟨_,rfl⟩;rw [hW2] at HB2 V2 P2 T2 HC;have HW2:=aA hW2;clear hW2;go_wp2;go_loopw [9] (fun i wr=>∃(k:Nat),k≤n∧i=.int .i64 k∧Hid ((decide (0<n)&&(ps.drop k).all rf)=o)∧Hid (Kp W2 wr)) (fun i _=>n - (intOf i).toNat);case atStart=>obtain rfl:=uH HW2;exact ⟨0,Nat.zero_le _,rfl,HO,aA (Kp.new _)⟩
  case round=>
    obtain ⟨k,hk,rfl,HQ,HK⟩:=hrel;have kq:=uH HK;obtain ⟨q0,q1,q2,q3,q4,q5,q6,q7⟩:_∧_∧_∧_∧_∧_∧_∧_:=⟨kq.cell ((uH P2).at 0),kq.cell ((uH P2).at 1),kq.cell ((uH P2).at 2),kq.cell ((uH P2).at 3),kq.cell ((uH P2).at 4),kq.cell ((uH P2).at 5),kq.cell ((uH P2).at 6),kq.cell ((uH P2).at 7)⟩;have r0:=kq.cell (uH V2).c0;have r1:=kq.cell (uH V2).c1;have t0:=kq.cell (uH T2).c0;have t1:=kq.cell (uH T2).c1;have QG:=aA (yB (uH HB2) kq);clear kq;by_cases hlt:k<n
    · (have hkl:k<ps.length:=by have:=uH HN;omega);obtain ⟨pg,rfl,hc0⟩:=uH HC k hkl;have c0:=(uH HK).cell hc0;(have hst:(ps.drop k).all rf=(rf ps[k]&&(ps.drop (k+1)).all rf):=by rw [List.drop_eq_getElem_cons hkl,List.all_cons]);have HST:=aA hst;obtain ⟨nx,hs⟩:∃s,ps[k]=s:=⟨_,rfl⟩;rw [hs] at c0 HST;have yx:=aA (uH FK nx);have CUk:=aA (fun wx hb=>uH CU wx hb nx);have CMk:=aA (fun wx hb=>uH CM wx hb nx);obtain ⟨⟨ux,uy⟩,hu⟩:∃u,uf nx=u:=⟨_,rfl⟩;obtain ⟨⟨mx,my⟩,hm⟩:∃u,mf nx=u:=⟨_,rfl⟩;rw [hu] at CUk yx;rw [hm] at CMk yx;simp only at CUk CMk yx;(have k0:(0:Int)≤k:=by omega);(have k1:(k:Int)<n:=by omega);have CA:=aA (fun wx=>vY ux uy rx ry wx);obtain ⟨x',y',ok,hv⟩:∃x' y' ok,jY 1 ux uy rx ry=rv x' y'∧aN 1 ux uy rx ry=ok∧(ok=true→x'=ux+1*rx∧y'=uy+1*ry):=by
        cases hb:aN 1 ux uy rx ry
        · exact ⟨0,0,_,kQ hb,rfl,by simp⟩
        · exact ⟨_,_,_,kW hb,rfl,fun _=>⟨rfl,rfl⟩⟩
      have Qz:=aA hv.2.2;rw [hv.1,hv.2.1] at CA;rw [hv.2.1] at yx;have R:∀wx,Kp wr wx→wx.cell? ⟨w.heap.size,0,none⟩=some (.slice qa ql qc)∧wx.cell? ⟨w.heap.size,1,none⟩=some (.int .i64 cv)∧wx.cell? ⟨w.heap.size,2,none⟩=some (.int .i64 ez)∧wx.cell? ⟨w.heap.size,3,none⟩=some (.int .i64 ny)∧wx.cell? ⟨w.heap.size,4,none⟩=some (.int .i64 sj)∧wx.cell? ⟨w.heap.size,5,none⟩=some (.slice aa al ac)∧wx.cell? ⟨w.heap.size,6,none⟩=some (.slice ma ml mc)∧wx.cell? ⟨w.heap.size,7,none⟩=some (.slice ca cl cc)∧wx.cell? ⟨w.heap.size+1,0,none⟩=some (.int .i64 rx)∧wx.cell? ⟨w.heap.size+1,1,none⟩=some (.int .i64 ry)∧wx.cell? ⟨pg,k,none⟩=some (.string (bs nx)):=fun wx h=>
        ⟨h.cell q0,h.cell q1,h.cell q2,h.cell q3,h.cell q4,h.cell q5,h.cell q6,h.cell q7,h.cell r0,h.cell r1,h.cell c0⟩
      have A0:=aA (Kp.new wr);have HS:=aA (aL wr);have hwr:w.heap.size+1<wr.heap.size:=yG r0;clear hc0 hkl hs hu hm hv hst;(go_wp2_with fail);(go_cut [10,11] from 24 to 34 (fun v7 v8 wx=>∃g,v7=.pointer (some ⟨g,0,none⟩)∧v8=.bool ok∧Kp wr wx∧Var wx 33 g x' y'));case first=>
        go_region_held3 (fun wx=>Kp wr wx)
          (first | (with_reducible assumption) | exact uH SA | exact (uH HS).drew (uH A0) | exact (uH HS).al (uH SA) _ | exact (uH HS).al (by assumption) _ | exact (uH HS).al ((uH HS).drew (uH A0)) _ | exact (uH HS).call (by assumption) (by assumption) | exact (uH HS).set2 (uH SA) _ _ _ (by first | omega | (simp<;>omega)) | exact (uH HS).set2 (by assumption) _ _ _ (by first | omega | (simp<;>omega)))
          (first
          | (go_at_call 21;refine (uH CUk _ ?_).mono ?_;(exact yB (uH QG) ((uH HS).below (by assumption)));rintro e wt ⟨rfl,hb⟩;have SA:=aA ((uH HS).call (by assumption) hb);have sz:=(uH HS).size (uH SA)
             first
               | (have V5:=(aM _ 33 0 0).below hb;(try simp at V5);have c50:=V5.c0;have c51:=V5.c1;have f50:=V5.f 0;have f51:=V5.f 1;have V5:=aA V5)
               | (have V5:=(aM _ 33 0 0).drew.below hb;(try simp at V5);have c50:=V5.c0;have c51:=V5.c1;have f50:=V5.f 0;have f51:=V5.f 1;have V5:=aA V5)
               | skip)
          | (go_at_call 128;refine (uH CA _).mono ?_;rintro e wt ⟨rfl,hb⟩;have SA:=aA ((uH HS).call (by assumption) hb);have sz:=(uH HS).size (uH SA)
             first
               | (have V5:=(aM _ 33 0 0).below hb;(try simp at V5);have c50:=V5.c0;have c51:=V5.c1;have f50:=V5.f 0;have f51:=V5.f 1;have V5:=aA V5)
               | (have V5:=(aM _ 33 0 0).drew.below hb;(try simp at V5);have c50:=V5.c0;have c51:=V5.c1;have f50:=V5.f 0;have f51:=V5.f 1;have V5:=aA V5)
               | (have V5:=aA ((uH V5).below hb);have c50:=(uH V5).c0;have c51:=(uH V5).c1;have f50:=(uH V5).f 0;have f51:=(uH V5).f 1)
               | skip))
        all_goals
          (go_wp2_with fail);go_meet;exact ⟨_,rfl,rfl,by first | assumption | exact uH SA | exact (uH HS).al (uH SA) _,by first | exact aM _ _ _ _ | exact (uH V5).set _ _⟩
      case rest=>
        obtain ⟨g,rfl,rfl,hA,hV⟩:=hcut;obtain ⟨w4,rfl⟩:∃w4,w4=wc:=⟨wc,rfl⟩;have ZY:=aA (show Kp W2 w4 from yB (uH HK) hA);have GD:=aA (yB (uH QG) hA);have g0:=hA.cell q0;have e0:=hA.cell t0;have e1:=hA.cell t1;have d0:=hA.cell c0;have s0:=hV.c0;have s1:=hV.c1;clear hA hV A0 HS R CA CUk q0 q1 q2 q3 q4 q5 q6 q7 r0 r1 t0 t1 c0;have A0:=aA (Kp.new w4);have HS:=aA (aL w4);obtain ⟨pv,hpv⟩:∃o,rf nx=o:=⟨_,rfl⟩;rw [hpv] at HST yx;clear hpv;(go_wp2_with fail);(go_cut [49] from 35 to 48 (fun v49 wx=>v49=.bool (!pv)∧Kp w4 wx));case first=>
          cases ok with
          | false=>
            (obtain rfl:pv=false:=by rw [uH yx];rfl);go_quiet (fail)
            all_goals
              (go_wp2_with fail);go_meet;exact ⟨rfl,vN (yH _ _) _⟩
          | true=>
            obtain ⟨rfl,rfl⟩:=uH Qz rfl;have BF:=aA (show pv=within (ux+1*rx) (uy+1*ry) mx my by rw [uH yx];rfl);have CW:=aA (fun wx=>by have:=fE (ux+1*rx) (uy+1*ry) mx my wx;rw [←uH BF] at this;exact this);obtain ⟨sx,hsx⟩:∃a,ux+1*rx=a:=⟨_,rfl⟩;obtain ⟨sy,hsy⟩:∃a,uy+1*ry=a:=⟨_,rfl⟩;rw [hsx] at s0 CW;rw [hsy] at s1 CW;(have R:∀wx,Kp w4 wx→wx.cell? ⟨w.heap.size,0,none⟩=some (.slice qa ql qc)∧wx.cell? ⟨w2.heap.size,0,none⟩=some (.int .i64 tx)∧wx.cell? ⟨w2.heap.size,1,none⟩=some (.int .i64 ty)∧wx.cell? ⟨pg,k,none⟩=some (.string (bs nx))∧wx.cell? ⟨g,0,none⟩=some (.int .i64 sx)∧wx.cell? ⟨g,1,none⟩=some (.int .i64 sy):=fun wx h=>⟨h.cell g0,h.cell e0,h.cell e1,h.cell d0,h.cell s0,h.cell s1⟩);clear hsx hsy yx BF Qz;go_region_held3 (fun wx=>Kp w4 wx)
              (first | (with_reducible assumption) | exact uH SA | exact (uH HS).drew (uH A0) | exact (uH HS).call (by assumption) (by assumption))
              (first
              | (go_at_call 146;refine (uH CMk _ ?_).mono ?_;(exact yB (uH GD) ((uH HS).below (by assumption)));rintro e wt ⟨rfl,hb⟩;have SA:=aA ((uH HS).call (by assumption) hb))
              | (go_at_call 83;refine (uH CW _).mono ?_;rintro e wt2 ⟨rfl,hb⟩;have SA:=aA ((uH HS).call (by assumption) hb)))
            all_goals
              (go_wp2_with fail);go_meet;exact ⟨rfl,by first | assumption | exact uH SA⟩
        case rest=>
          obtain ⟨rfl,hA⟩:=hcut;have VX:=aA (show Kp W2 wc from yB (uH ZY) hA);have Gj:=aA (yB (uH GD) hA);clear hA g0 e0 e1 d0 s0 s1 A0 HS Qz;cases pv with
          | true=>have FN:=aA (show (decide (0<n)&&(ps.drop (k+1)).all rf)=o by have:=uH HQ;rw [uH HST] at this;simpa using this);go_wp2;go_roundw;(case rel=>exact ⟨k+1,by omega,by go_num,FN,VX⟩);case measure=>simp [intOf];omega
          | false=>
            (obtain rfl:o=false:=by have:=uH HQ;rw [uH HST] at this;simpa using this.symm);go_wp2;go_ret;exact ⟨rfl,uH Gj⟩
    · (have ho:o=decide (0<n):=by have:=uH HQ;rw [List.drop_of_length_le (by have:=uH HN;omega)] at this;simpa using this.symm);subst ho;clear q0 q1 q2 q3 q4 q5 q6 q7 r0 r1 t0 t1;go_wp2;go_ret;exact ⟨rfl,uH QG⟩
end
end Go.Proofs.YtfndhndlkcijoaaGreat
