/-
  Texts in one: UsedByS, QueD.
-/
import Derived.Test.YtfndhndlkcijoaaGreatTackE
import Derived.Test.YtfndhndlkcijoaaGreatTackG
set_option maxRecDepth 100000
set_option maxHeartbeats 16000000
set_option linter.unusedVariables false
set_option linter.unusedSimpArgs false
open Go.Proofs.Tryz
namespace Go.Proofs.YtfndhndlkcijoaaGreat
section
open Go.RowKit Go.Maps
theorem aBQ {p:Con→Bool} (l:List Con):(aO p l).length≤l.length:=by simp [aO];exact List.length_filter_le _ _
theorem aE9 (l:List Q) (nm:List UInt8) (h:l.length≤1048575):(path l nm).length≤1048576:=by
 have key:∀(n:Nat) (p:Int),(eH l n p).length≤n:=by
  intro n
  induction n with
  | zero=>intro p;simp [eH]
  | succ n ih=>
   intro p;rw [eH];split
   ·simp;exact ih _
   ·simp
 rw [path];split
 ·exact Nat.le_trans (key _ _) (by omega)
 ·simp
theorem jH (x:Sls) (s:St) (nm:List UInt8) (w:World) (h:gW w x s) (hf:dB s) :
  cP 21 #[sv x s,.string (bs nm)] w fun e w'=>e=.returned (rv (aJ s nm).1 (aJ s nm).2)∧Bw w w':=by
 obtain ⟨i0,hi,hz0,hz1,hz2⟩:=info_parts Tryz.infoR;have Gw:x.ql≤1048576:=by have:=h.len.1;have:=hf.1.1;omega
 have hal:x.al≤1048576:=by have:=h.len.2.1;have:=hf.2.1.1;omega
 have hcl:x.cl≤1048576:=by have:=h.len.2.2.2;have:=hf.2.2.2.1;omega
 have HR:=aA h.2.2.2;have HL:=aA h.2.2.2.1;have FZ:=aA h.2.1;have QP:=aA h.2.1.1;have CA:=aA (fun wx (hb:Bw w wx) (id:Int)=>aAP x s id wx (h.2.1.below hb) hal);have CP:=aA (fun wx (hb:Bw w wx) (qu:List UInt8)=>nK x.qa x.ql x.qc s.qs qu wx (h.1.below hb) Gw (fun q hq=>(hf.1.2 q hq).1));have QQ:=aA (fun qu:List UInt8=>show (path s.qs qu).length≤1048576 by
  cases ho:aF s.qs with
  | false=>simp [path,ho]
  | true=>
   refine aE9 _ _ ?_;have h2:=(sH.1 (by have:=kT s.qs;rw [ho] at this;simp at this;exact this.1)).2.2;omega)
 obtain ⟨⟨⟨sx,sy,so⟩,VI⟩,hlc⟩:(∃y,iC (aO (byQ s nm) s.cs)=y)∧(aO (byQ s nm) s.cs).length≤1048576:=⟨⟨_,rfl⟩,by have:=aBQ (p:=byQ s nm) s.cs;have:=h.len.2.2.2;omega⟩;have CS:=aA (fun ao cap wx (h:aF2 wx ao (aO (byQ s nm) s.cs).length (aO (byQ s nm) s.cs))=>by have:=lZ ao _ cap (aO (byQ s nm) s.cs) wx h hlc;rw [VI] at this;exact this);have RG:=aA (fun q:Con=>show byQ s nm q=match bB q.app s.apps with | none=>false | some a=>(path s.qs a.queue).any (fun x=>decide (x=nm)) from rfl);rw [show (aJ s nm).1=sx by rw [aJ,VI],show (aJ s nm).2=sy by rw [aJ,VI]];have TK:=aA (fun id:Int=>aC2 id s.apps);obtain ⟨p,hp⟩:∃p,byQ s nm=p:=⟨_,rfl⟩;rw [hp] at RG CS;have TB:=aA (fun k=>show (aO p (s.cs.take k)).length≤1048576 by have:=aBQ (p:=p) (s.cs.take k);have:=h.len.2.2.2;simp only [List.length_take] at *;omega);clear h hf VI hp hlc;obtain ⟨qa,ql,qc,aa,al,ac,ma,ml,mc,ca,cl,cc⟩:=x;obtain ⟨qs,cv,ez,ny,sj,aj,ms,cs⟩:=s;simp only at CA CP CS RG HR HL FZ QP TB TK QQ Gw hal hcl;have HB0:=aA (dG w (svc ⟨qa,ql,qc,aa,al,ac,ma,ml,mc,ca,cl,cc⟩ ⟨qs,cv,ez,ny,sj,aj,ms,cs⟩));have V0:=aA (iY w (svc ⟨qa,ql,qc,aa,al,ac,ma,ml,mc,ca,cl,cc⟩ ⟨qs,cv,ez,ny,sj,aj,ms,cs⟩));have P0:=aA ((fQ w (svc ⟨qa,ql,qc,aa,al,ac,ma,ml,mc,ca,cl,cc⟩ ⟨qs,cv,ez,ny,sj,aj,ms,cs⟩)).al (.cells #[.int .i64 0,.int .i64 0] 33));have Xj:=aA (rX (sZ w (svc ⟨qa,ql,qc,aa,al,ac,ma,ml,mc,ca,cl,cc⟩ ⟨qs,cv,ez,ny,sj,aj,ms,cs⟩)));obtain ⟨W0,hW0⟩:∃W,sZ w (svc ⟨qa,ql,qc,aa,al,ac,ma,ml,mc,ca,cl,cc⟩ ⟨qs,cv,ez,ny,sj,aj,ms,cs⟩)=W:=⟨_,rfl⟩;have P0:=aA (show Blk W0 w.heap.size (svc ⟨qa,ql,qc,aa,al,ac,ma,ml,mc,ca,cl,cc⟩ ⟨qs,cv,ez,ny,sj,aj,ms,cs⟩) 29 by rw [←hW0];exact uH P0);have Qy:W0.heap.size=w.heap.size+1+1:=by rw [←hW0];exact rG _ _
 rw [hW0] at HB0 V0 Xj;have HW0:=aA hW0;have HSZ:=aA Qy;clear hW0 Qy;go_enter func21,ntmps21;go_wp2;go_loopw [5,6] (fun v i wr=>∃(k:Nat),k≤cl∧i=.int .i64 k∧Hid (yR W0.heap.size wr v (aO p (cs.take k)))∧Hid (Bw W0 wr)) (fun _ i _=>cl - (intOf i).toNat);case atStart=>obtain rfl:=uH HW0;refine ⟨0,Nat.zero_le _,rfl,aA ?_,aA (yA (yH _ _) _)⟩;have:=uH Xj;rw [uH HSZ] at this ⊢;exact this
 case round=>
  obtain ⟨k,hk,rfl,HO,HB⟩:=hrel;have PB:=(uH P0).below (uH HB);have HPB:=aA PB;obtain ⟨q0,q1,q2,q3,q4,q5,q6,q7⟩:_∧_∧_∧_∧_∧_∧_∧_:=⟨PB.at 0,PB.at 1,PB.at 2,PB.at 3,PB.at 4,PB.at 5,PB.at 6,PB.at 7⟩;simp at q0 q1 q2 q3 q4 q5 q6 q7;have WZ:=aA (yB (uH HB0) (uH HB));clear PB;by_cases hlt:k<cl
  ·obtain ⟨b,off,rfl,hq⟩:=((uH HR).below (uH WZ)).at hlt;(have hkl:k<cs.length:=by have:=uH HL;omega);have hst:=oF (p:=p) hkl;have HQ:=aA (hq hkl);obtain ⟨m,hs⟩:∃q,cs[k]=q:=⟨_,rfl⟩;rw [hs] at HQ hst;have JU:=uH TB k;obtain ⟨acc,Gx⟩:∃a,aO p (cs.take k)=a:=⟨_,rfl⟩;rw [Gx] at hst JU HO;obtain ⟨id,ap,no,me,cp⟩:=m;obtain ⟨c0,c1,c2,c3,c4⟩:=uH HQ;simp only at c0 c1 c2 c3 c4;have hbq:=uH RG ⟨id,ap,no,me,cp⟩;simp only at hbq;have hfp:=uH TK ap;obtain ⟨at0,ha⟩:∃a,aI9 aj ap=a:=⟨_,rfl⟩;have CAk:=aA (fun wx (hb:Bw w wx)=>by have:=uH CA wx hb ap;rw [ha] at this;exact this);rw [ha] at hfp;(have k0:(0:Int)≤k:=by omega);(have k1:(k:Int)<cl:=by omega);have DI:=aA hfp;have Zq:=aA hbq;have HST:=aA hst;have R:∀wx,Kp wr wx→wx.cell? ⟨w.heap.size,0,none⟩=some (.slice qa ql qc)∧wx.cell? ⟨w.heap.size,1,none⟩=some (.int .i64 cv)∧wx.cell? ⟨w.heap.size,2,none⟩=some (.int .i64 ez)∧wx.cell? ⟨w.heap.size,3,none⟩=some (.int .i64 ny)∧wx.cell? ⟨w.heap.size,4,none⟩=some (.int .i64 sj)∧wx.cell? ⟨w.heap.size,5,none⟩=some (.slice aa al ac)∧wx.cell? ⟨w.heap.size,6,none⟩=some (.slice ma ml mc)∧wx.cell? ⟨w.heap.size,7,none⟩=some (.slice (some ⟨b,off,none⟩) cl cc)∧wx.cell? ⟨b,off+k*5+1,none⟩=some (.int .i64 ap):=fun wx h=>
    ⟨h.cell q0,h.cell q1,h.cell q2,h.cell q3,h.cell q4,h.cell q5,h.cell q6,h.cell q7,h.cell c1⟩
   have A0:=aA (Kp.new wr);have HS:=aA (aL wr);clear hq hs hkl Gx ha hfp hbq hst;(go_wp2_with fail);(go_cut [7] from 18 to 25 (fun v7 wx=>v7=.int .i64 at0∧Kp wr wx));case first=>
    go_region_held3 (fun wx=>Kp wr wx)
     (first | (with_reducible assumption) | exact uH SA | exact (uH HS).drew (uH A0) | exact (uH HS).call (by assumption) (by assumption))
     (first
     | (go_at_call 67;refine (uH CAk _ ?_).mono ?_;(exact yB (uH WZ) ((uH HS).below (by assumption)));rintro e wt ⟨rfl,hb⟩;have SA:=aA ((uH HS).call (by assumption) hb)))
    all_goals
     (go_wp2_with fail);go_meet;exact ⟨rfl,by first | assumption | exact uH SA⟩
   case rest=>
    obtain ⟨rfl,hA⟩:=hcut;obtain ⟨w4,rfl⟩:∃w4,w4=wc:=⟨wc,rfl⟩;have RI:=aA (yB (uH WZ) hA);have HAk:=aA hA;have g0:=hA.cell q0;have g5:=hA.cell q5;have g7:=hA.cell q7;have d3:=hA.cell c3;have d4:=hA.cell c4;have Xx:=aA ((uH HO).below hA);have GD:=aA (yB (uH HB) hA);clear A0 R HS CAk q0 q1 q2 q3 q4 q5 q6 q7 c0 c1 c2 c3 c4 hA HO HB HQ;have HS:=aA (aL w4);have A0:=aA (Kp.new w4);obtain ⟨pv,hpv⟩:∃o,p ⟨id,ap,no,me,cp⟩=o:=⟨_,rfl⟩;rw [hpv] at HST Zq;clear hpv;(go_wp2_with fail);(go_cut [40] from 26 to 39 (fun v40 wx=>v40=.bool pv∧Kp w4 wx));case first=>
     rcases uH DI with ⟨hfn,rfl⟩ | ⟨j,hj,hfn,rfl⟩
     ·rw [hfn] at Zq;obtain rfl:pv=false:=uH Zq;clear hfn;go_quiet (fail)
      all_goals
       (go_wp2_with fail);go_meet;exact ⟨rfl,vN (yH _ _) _⟩
     ·rw [hfn] at Zq;(have hjl:j<al:=by have:=uH QP;omega);obtain ⟨ab,ao,rfl,hq⟩:=((uH FZ).below (uH RI)).at hjl;obtain ⟨xo,xl,xc,Vq⟩:=hq hj;have e1:=Vq.2.1;obtain ⟨⟨ai,qu,asks⟩,hs⟩:∃a,aj[j]=a:=⟨_,rfl⟩;rw [hs] at e1 Zq;simp only at e1;have SN:=aA (uH QQ qu);have DZ:=aA (show pv=(path qs qu).any (fun x=>decide (x=nm)) from uH Zq);have CPq:=aA (fun wx hb=>uH CP wx hb qu);obtain ⟨ps,hps⟩:∃ps,path qs qu=ps:=⟨_,rfl⟩;rw [hps] at SN DZ CPq;have CH:=aA (fun (v:Value) (B:Nat) wx (h:bZ B wx v ps)=>by have:=aEw v ps nm B wx h (uH SN);rw [←uH DZ] at this;exact this);(have j0:(0:Int)≤j:=by omega);(have j1:(j:Int)<al:=by omega);(have R:∀wx,Kp w4 wx→wx.cell? ⟨w.heap.size,0,none⟩=some (.slice qa ql qc)∧wx.cell? ⟨w.heap.size,5,none⟩=some (.slice (some ⟨ab,ao,none⟩) al ac)∧wx.cell? ⟨ab,ao+j*3+1,none⟩=some (.string (bs qu)):=fun wx h=>⟨h.cell g0,h.cell g5,h.cell e1⟩);clear hfn hq Vq hs hps e1 hj;go_region_held3 (fun wx=>Kp w4 wx)
       (first | (with_reducible assumption) | exact uH SA | exact (uH HS).drew (uH A0) | exact (uH HS).call (by assumption) (by assumption))
       (first
       | (go_at_call 74;refine (uH CPq _ ?_).mono ?_;(exact yB (uH RI) ((uH HS).below (by assumption)));rintro e wt ⟨v,rfl,htx,hb⟩;have YX:=aA htx;have SA:=aA ((uH HS).call (by assumption) hb))
       | (go_at_call 73;refine (uH CH _ _ _ (uH YX)).mono ?_;rintro e wt2 ⟨rfl,rfl⟩))
      all_goals
       (go_wp2_with fail);go_meet;exact ⟨rfl,by first | assumption | exact uH SA⟩
    case rest=>
     obtain ⟨rfl,hA⟩:=hcut;obtain ⟨w5,rfl⟩:∃w5,w5=wc:=⟨wc,rfl⟩;have z7:=hA.cell g7;have z3:=hA.cell d3;have z4:=hA.cell d4;have WQ:=aA ((uH Xx).below hA);have Gj:=aA (yB (uH GD) hA);clear g0 g5 g7 d3 d4 hA Xx GD HS A0 HAk RI DI Zq;cases pv with
     | true=>
      rw [if_pos rfl] at HST;have hs2:W0.heap.size≤w5.heap.size:=(uH Gj).size;have Hq:w5.ownsRow W0.heap.size 33 2 _ acc.length (iQ acc):=uH WQ;(go_wp2_with (at_builtin;refine wpList_append_own _ rfl _ _ 114 rfl W0.heap.size 33 i0 (.agg #[.int .i64 0,.int .i64 0]) 2 16 underlying114 hi hz0 hz1 hz2 rfl (by decide) _ _ _ rfl (Hq.alloc _) ⟨w5.heap.size,0,none⟩ 1 1 (y7 (me,cp)) rfl rfl ?c1 ?c2 ?c3 ?c4 ?c5 ?_));case c1=>
       intro j x hj
       match j,hj with
       | 0,hj=>simp at hj;subst hj;simp [Addr.add]
       | 1,hj=>simp at hj;subst hj;simp [Addr.add]
       | _+2,hj=>simp at hj
      (case c2=>intro x hx;simp at hx;rcases hx with rfl | rfl<;>rfl);(case c3=>unfold maxLen;omega);(case c4=>omega);(case c5=>simp at hs2 ⊢;omega);intro v' w6 Hy Hw _;have R:=lU (q:=(me,cp)) (uH Gj) (uH WQ) Hy Hw hs2;have HR3:=aA R;clear Hy Hw Hq R z3 z4 z7;go_wp2;go_roundw;(case rel=>exact ⟨k+1,by omega,by go_num,aA (by rw [uH HST];exact (uH HR3).1),aA (uH HR3).2⟩);case measure=>simp [intOf];omega
     | false=>rw [if_neg (by simp)] at HST;go_wp2;go_roundw;(case rel=>exact ⟨k+1,by omega,by go_num,aA (by rw [uH HST];exact uH WQ),Gj⟩);case measure=>simp [intOf];omega
  ·have htk:cs.take k=cs:=List.take_of_length_le (by have:=uH HL;omega);rw [htk] at HO;obtain ⟨so',scp,rfl,Hz,_⟩:=(uH HO).row;have GU:=aA Hz;have GM:=aA ((uH V0).below (uH HB));obtain ⟨n,hn⟩:∃n,(aO p cs).length=n:=⟨_,rfl⟩;rw [hn] at CS GU ⊢;clear Hz hn htk HO HB q0 q1 q2 q3 q4 q5 q6;(go_wp2_with fail);refine (uH CS _ _ _ (uH GU)).mono ?_;rintro e w2 ⟨rfl,hb⟩;have V1:=(uH GM).below hb;have HB2:=aA (yB (uH WZ) hb);have V2:=V1.al (.cells #[.int .i64 sx,.int .i64 sy] 33);have t0:=V2.c0;have t1:=V2.c1;have f0:=V2.f 0;have f1:=V2.f 1;have VG:=V2.set sx sy;have k6:=VG.c0;have k7:=VG.c1;clear hb V1 V2 VG CS GM GU;go_wp2;refine bodyPost_ret (v:=rv sx sy) (by simp [results,results21,go_sem,k6,k7]) rfl ⟨rfl,?_⟩;repeat (first | exact uH HB2 | refine yA ?_ _ | refine yC ?_ _ _ _ (by omega))
end
section
open Go.RowKit
def lenOf:Value→Nat
 | .slice _ n _=>n
 | _=>0
theorem aLN (l:List UInt8):({ data:=#[122] }:ByteArray)++bs l=bs (122::l):=by
 apply ByteArray.ext;simp [bs]
theorem gH.gro {w w':World} {b off len:Nat} {l:List Q} {row:Option Nat} (h:gH w (some ⟨b,off,none⟩) len l) (hb:b<w.heap.size) (hg:w.grownBy w' row) (hr:row≠some b):gH w' (some ⟨b,off,none⟩) len l:=by
 have qx:=hg.block b hb (fun e=>hr e.symm);have hc:∀p,w'.cell? ⟨b,p,none⟩=w.cell? ⟨b,p,none⟩:=fun p=>by unfold World.cell?;rw [qx]
 obtain ⟨h1,h2⟩:=h;refine ⟨h1,?_⟩;rcases h2 with h2 | ⟨b',off',e,h4⟩
 ·exact .inl h2
 ·cases e;exact .inr ⟨b,off,rfl,fun i hi=>by obtain ⟨a0,a1,a2,a3⟩:=h4 i hi;exact ⟨(hc _).trans a0,(hc _).trans a1,(hc _).trans a2,(hc _).trans a3⟩⟩
theorem aGA {w0:World} {B g:Nat} {ao:Option Addr} {len cap:Nat} (w:World) (h:CSt w0 B g ao len cap w) :
  cP 156 #[.pointer (some ⟨g,0,none⟩)] w fun e w'=>∃qb n c' ls,e=.returned (.slice (some ⟨qb,0,none⟩) n c')∧Hid (gH w' (some ⟨qb,0,none⟩) n ls)∧(g<qb∧3≤n)∧n≤c'∧n≤1000∧Hid (aBN ls)∧Hid (CSt w0 B g ao len cap w'):=by
 obtain ⟨i0,hi,hz0,hz1,hz2⟩:=info_parts Tryz.infoQD;have HS:=aA h;have hgl:=h.1.lt;have hw0:=h.2.2.1.size;have hBg:=h.2.2.2;clear h;go_enter func156,ntmps156;go_wp2_with fail;refine (aDj w (uH HS)).mono ?_;rintro e w1 ⟨v,ls,rfl,HQ,XG,hn5,WE,Qx⟩;obtain ⟨qb,qc,cur,rfl,Hz,hqc,hwq,qx⟩:=(uH HQ).row (by intro e;rw [e] at XG;simp at XG);have WI:qb<w1.heap.size:=lt_of_block qx;have GU:=aA Hz;have Dq:=aA qx;obtain ⟨n,hn⟩:∃n,ls.length=n:=⟨_,rfl⟩;have HN:=aA hn;rw [hn] at XG hn5 hqc GU HQ ⊢;clear Hz qx hn HS;go_wp2_with fail;refine (bD (n:Int) _ (uH Qx) (by omega) (by omega)).mono ?_;rintro e w2 ⟨x,rfl,hx0,hx1,hs2,hg2⟩;obtain ⟨X,rfl⟩:=Int.eq_ofNat_of_zero_le hx0;have HS2:=aA hs2;have HR2:=aA ((uH GU).gro WI hg2 (by intro e;cases e;omega));have HB2:=aA ((hg2.block qb WI (by intro e;cases e;omega)).trans (uH Dq));have FN:=aA ((uH HQ).kept hg2 (fun k e=>by cases e;omega));have hs12:=hg2.size;clear hs2 hg2 GU Dq HQ Qx;go_wp2_with fail;refine (bD 16 _ (uH HS2) (by decide) (by decide)).mono ?_;rintro e w3 ⟨k,rfl,hk0,hk1,hs3,hg3⟩;have ZA:=aA hs3;have HR3:=aA ((uH HR2).gro (by omega) hg3 (by intro e;cases e;omega));have HB3:=aA ((hg3.block qb (by omega) (by intro e;cases e;omega)).trans (uH HB2));have HQ3:=aA ((uH FN).kept hg3 (fun k e=>by cases e;omega));have hs23:=hg3.size;clear hs3 hg3 HR2 HB2 FN HS2;have F7:X<n:=by omega
 have KO:X<ls.length:=by have:=uH HN;omega
 have fin:∀(wy:World) (j:Nat) (val:Value) (q:Q),gH wy (some ⟨qb,0,none⟩) n ls→CSt w0 B g ao len cap wy→(q.name.length≤1000∧q.parent.length≤1000)→
   ((j=0∧val=.string (bs q.name)∧q = { ls[X] with name:=q.name })∨(j=1∧val=.string (bs q.parent)∧q = { ls[X] with parent:=q.parent })∨(j=2∧val=.int .i64 q.due∧q = { ls[X] with due:=q.due })∨(j=3∧val=.int .i64 q.most∧q = { ls[X] with most:=q.most }))→
   Hid (gH (wy.setCell ⟨qb,0+X*4+j,none⟩ val) (some ⟨qb,0,none⟩) n (ls.set X q))∧Hid (aBN (ls.set X q))∧Hid (CSt w0 B g ao len cap (wy.setCell ⟨qb,0+X*4+j,none⟩ val)):=fun wy j val q h1 h2 h3 h4=>
  ⟨aA (h1.put X KO q j val h4),aA ((uH WE).set X q h3),aA (h2.set qb _ val (by omega) (by omega) (by omega))⟩
 have FIN:=aA fin;have hnm:=uH WE ls[X] (yM _);obtain ⟨⟨qn,qp,qd,qm⟩,MC⟩:∃q,ls[X]=q:=⟨_,rfl⟩;rw [MC] at hnm;have FM:=aA MC;clear fin MC;simp only at hnm;have X0:(0:Int)≤X:=by omega
 have X1:(X:Int)<n:=by omega
 rcases (show k=0∨k=1∨k=2∨k=3∨k=4∨5≤k by omega) with rfl | rfl | rfl | rfl | rfl | hk5
 ·go_wp2_with fail
  refine (aJU _ (uH ZA).rebase).mono ?_;rintro e w4 ⟨s,rfl,hsz,hs4⟩;have XV:=aA ((uH ZA).step hs4.1 hs4.2.2.1);have HR4:=aA ((uH HR3).gro (by omega) hs4.2.2.1 (by intro e;cases e;omega));have hb4:=(hs4.2.2.1.block qb (by omega) (by intro e;cases e;omega)).trans (uH HB3);have cc:=((uH HR4).at F7);obtain ⟨b',off',e',hat⟩:=cc;cases e';have c0:=(hat KO).1;have f0:w4.frozen? ⟨qb,X*4,none⟩=false:=by simp [World.frozen?,hb4]
  simp only [Nat.zero_add] at c0;obtain ⟨nn,rfl⟩:∃l,s=bs l:=⟨s.data.toList,by simp [bs]⟩;rw [cK] at hsz;obtain ⟨F1,F2,F3⟩:=uH FIN w4 0 (.string (bs nn)) ⟨nn,qp,qd,qm⟩ (uH HR4) (uH XV) ⟨by simp only;omega,hnm.2⟩ (.inl ⟨rfl,rfl,by rw [uH FM]⟩);simp only [Nat.zero_add,Nat.add_zero] at F1 F2 F3;clear hs4 hb4 hat;go_wp2;go_ret;exact ⟨qb,n,qc,_,rfl,F1,⟨by omega,XG⟩,hqc,by omega,F2,F3⟩
 ·have hq:=aA (dH w3 9 [⟨#[]⟩,⟨#[97]⟩,⟨#[110,111,110,101]⟩,⟨#[98,50]⟩] (by decide));go_wp2_with fail;refine (iD w3.heap.size 4 4 _ ((uH ZA).alloc _).rebase (uH hq) (by omega) (by decide) (by decide)).mono ?_;rintro e w4 ⟨s,rfl,hsz,hs4⟩;have hg4:=bW (aH (aD w3 (some g)) (yA (yH _ w3) _)) hs4.2.2.1;have XV:=aA ((uH ZA).step hs4.1 hg4);have HR4:=aA ((uH HR3).gro (by omega) hg4 (by intro e;cases e;omega));have hb4:=(hg4.block qb (by omega) (by intro e;cases e;omega)).trans (uH HB3);obtain ⟨b',off',e',hat⟩:=((uH HR4).at F7);cases e';have c0:=(hat KO).2.1;have f0:w4.frozen? ⟨qb,X*4+1,none⟩=false:=by simp [World.frozen?,hb4]
  simp only [Nat.zero_add] at c0;obtain ⟨nn,rfl⟩:∃l,s=bs l:=⟨s.data.toList,by simp [bs]⟩;rw [cK] at hsz;obtain ⟨F1,F2,F3⟩:=uH FIN w4 1 (.string (bs nn)) ⟨qn,nn,qd,qm⟩ (uH HR4) (uH XV) ⟨hnm.1,by simp only;omega⟩ (.inr (.inl ⟨rfl,rfl,by rw [uH FM]⟩));simp only [Nat.zero_add] at F1 F2 F3;clear hs4 hb4 hat hg4 hq;go_wp2;go_ret;exact ⟨qb,n,qc,_,rfl,F1,⟨by omega,XG⟩,hqc,by omega,F2,F3⟩
 ·have hq:=aA (d9 w3 3 [-1,10001,9999,0] (by decide));go_wp2_with fail;refine (jO w3.heap.size 4 4 _ ((uH ZA).alloc _).rebase (uH hq) (by omega) (by decide) (by decide)).mono ?_;rintro e w4 ⟨s,rfl,_,_,hs4⟩;have hg4:=bW (aH (aD w3 (some g)) (yA (yH _ w3) _)) hs4.2.2.1;have XV:=aA ((uH ZA).step hs4.1 hg4);have HR4:=aA ((uH HR3).gro (by omega) hg4 (by intro e;cases e;omega));have hb4:=(hg4.block qb (by omega) (by intro e;cases e;omega)).trans (uH HB3);obtain ⟨b',off',e',hat⟩:=((uH HR4).at F7);cases e';have c0:=(hat KO).2.2.1;have f0:w4.frozen? ⟨qb,X*4+2,none⟩=false:=by simp [World.frozen?,hb4]
  simp only [Nat.zero_add] at c0;obtain ⟨F1,F2,F3⟩:=uH FIN w4 2 (.int .i64 s) ⟨qn,qp,s,qm⟩ (uH HR4) (uH XV) hnm (.inr (.inr (.inl ⟨rfl,rfl,by rw [uH FM]⟩)));simp only [Nat.zero_add] at F1 F2 F3;clear hs4 hb4 hat hg4 hq;go_wp2;go_ret;exact ⟨qb,n,qc,_,rfl,F1,⟨by omega,XG⟩,hqc,by omega,F2,F3⟩
 ·have hq:=aA (d9 w3 3 [-1,10001,0] (by decide));go_wp2_with fail;refine (jO w3.heap.size 3 3 _ ((uH ZA).alloc _).rebase (uH hq) (by omega) (by decide) (by decide)).mono ?_;rintro e w4 ⟨s,rfl,_,_,hs4⟩;have hg4:=bW (aH (aD w3 (some g)) (yA (yH _ w3) _)) hs4.2.2.1;have XV:=aA ((uH ZA).step hs4.1 hg4);have HR4:=aA ((uH HR3).gro (by omega) hg4 (by intro e;cases e;omega));have hb4:=(hg4.block qb (by omega) (by intro e;cases e;omega)).trans (uH HB3);obtain ⟨b',off',e',hat⟩:=((uH HR4).at F7);cases e';have c0:=(hat KO).2.2.2;have f0:w4.frozen? ⟨qb,X*4+3,none⟩=false:=by simp [World.frozen?,hb4]
  simp only [Nat.zero_add] at c0;obtain ⟨F1,F2,F3⟩:=uH FIN w4 3 (.int .i64 s) ⟨qn,qp,qd,s⟩ (uH HR4) (uH XV) hnm (.inr (.inr (.inr ⟨rfl,rfl,by rw [uH FM]⟩)));simp only [Nat.zero_add] at F1 F2 F3;clear hs4 hb4 hat hg4 hq;go_wp2;go_ret;exact ⟨qb,n,qc,_,rfl,F1,⟨by omega,XG⟩,hqc,by omega,F2,F3⟩
 ·go_wp2;go_loopw [3] (fun v wr=>∃ls',v.ownBlock=v.ownBlock∧Hid (QDr w.heap.size wr v ls')∧3≤ls'.length∧ls'.length≤21∧Hid (aBN ls')∧Hid (CSt w0 B g ao len cap wr)∧w1.heap.size≤wr.heap.size) (fun v _=>21 - lenOf v)
  case atStart=>exact ⟨ls,rfl,HQ3,by have:=uH HN;omega,by have:=uH HN;omega,WE,ZA,by omega⟩
  case round=>
   obtain ⟨ls',_,FL,hl3,MO,DY,Pz,hszr⟩:=hrel;obtain ⟨qb',qc',cur',rfl,Hz,MB,hwq',qx⟩:=(uH FL).row (by intro e;rw [e] at hl3;simp at hl3);obtain ⟨m,hm⟩:∃n,ls'.length=n:=⟨_,rfl⟩;have HM:=aA hm;rw [hm] at hl3 MO MB FL ⊢;clear Hz qx hm;(go_wp2_with fail);refine (bD 2 _ (uH Pz) (by decide) (by decide)).mono ?_;rintro e w5 ⟨y,rfl,hy0,hy1,hs5,hg5⟩;have YY:=aA hs5;have yj:=aA ((uH FL).kept hg5 (fun k e=>by cases e;omega));have hsz5:wr.heap.size≤w5.heap.size:=hg5.size;clear hs5 hg5 Pz FL;by_cases hlt:(m:Int)<20+y
   ·have hit:=Lib.itoa_length_le (100+(m:Int)) (by omega) (by omega);have CD:=aA (fun wx=>(vX (100+(m:Int)) wx (by omega) (by omega)).mono (fun e w' (h:_∧w'=wx)=>(show _∧wx=w' from ⟨h.1,h.2.symm⟩)));have hzz:=aLN (Lib.itoa (100+(m:Int)));(have hsi:(bs (Lib.itoa (100+(m:Int)))).size≤30:=by rw [cK];omega);(have hnl:(122::Lib.itoa (100+(m:Int))).length≤1000:=by simp;omega);obtain ⟨it,JI⟩:∃l,Lib.itoa (100+(m:Int))=l:=⟨_,rfl⟩;rw [JI] at CD hzz hsi hnl;obtain ⟨nz,hnz⟩:∃l,122::it=l:=⟨_,rfl⟩;rw [hnz] at hzz hnl;(have n1:¬9223372036854775807<1+(bs it).size:=by omega);obtain ⟨sb,hsb⟩:∃s,bs it=s:=⟨_,rfl⟩;rw [hsb] at CD hzz hsi n1;have Hq:w5.ownsRow w.heap.size 105 4 _ ls'.length (dK ls'):=uH yj;rw [uH HM] at Hq;(have hs2:w.heap.size≤w5.heap.size:=by omega);clear hit JI hnz hsb;go_wp2_with (first
     | (go_at_call 197;refine (uH CD _).mono ?_;rintro e w6 ⟨rfl,rfl⟩)
     | (at_builtin;refine wpList_append_own _ rfl _ _ 24 rfl w.heap.size 105 i0 (.agg #[.string .empty,.string .empty,.int .i64 0,.int .i64 0]) 4 48 underlying24 hi hz0 hz1 hz2 rfl (by decide) _ _ _ rfl (Hq.alloc _) ⟨w5.heap.size,0,none⟩ 1 1 (aJd ⟨nz,[114,111,111,116],0,5⟩) rfl rfl ?c1 ?c2 ?c3 ?c4 ?c5 ?_))
    case c1=>
     intro j x hj
     match j,hj with
     | 0,hj=>simp at hj;subst hj;simp [Addr.add]
     | 1,hj=>simp at hj;subst hj;simp [Addr.add];rfl
     | 2,hj=>simp at hj;subst hj;simp [Addr.add]
     | 3,hj=>simp at hj;subst hj;simp [Addr.add]
     | _+4,hj=>simp at hj
    (case c2=>intro x hx;simp at hx;rcases hx with rfl | rfl | rfl | rfl<;>rfl);(case c3=>unfold maxLen;omega);(case c4=>omega);(case c5=>simp at hs2 ⊢;omega);intro v' w7 Hy Hw _;have BH:=aA (show QDr w.heap.size w7 v' (ls'++[⟨nz,[114,111,111,116],0,5⟩]) by unfold QDr;rw [aAU,List.length_append,uH HM];exact Hy);have NF:=aA (((uH YY).alloc _).gro Hw (fun k hk=>by
     rcases (uH yj).2 with ⟨e,_⟩ | ⟨q,_,_,e,hq,_⟩
     ·rw [e] at hk;simp [Value.ownBlock] at hk
     ·rw [e] at hk;simp [Value.ownBlock] at hk;omega))
    (have hsz7:w5.heap.size+1≤w7.heap.size:=by have:=Hw.size;rwa [World.size_alloc] at this);have Vk:lenOf v'=m+1:=by
     rcases (uH BH).2 with ⟨_,h0⟩ | ⟨a,b,c,e,_⟩
     ·simp at h0
     ·rw [e];simp [lenOf,uH HM]
    have WU:=aA Vk;clear Hy Hw Hq Vk;go_wp2;go_roundw;case rel=>
     refine ⟨ls'++[⟨nz,[114,111,111,116],0,5⟩],by trivial,BH,by simp;have:=uH HM;omega,by simp;have:=uH HM;omega,aA ?_,NF,by omega⟩;intro q hq;rcases List.mem_append.1 hq with hq | hq
     ·exact uH DY q hq
     ·(have:q=⟨nz,[114,111,111,116],0,5⟩:=by simpa using hq);rw [this];exact ⟨hnl,by simp⟩
    case measure=>rw [uH WU];simp [lenOf];omega
   ·(obtain ⟨HRW,hle⟩:Hid (gH w5 (some ⟨qb',0,none⟩) m ls')∧m≤qc':=by obtain ⟨qb2,qc2,cur2,e2,Vx,J8,_,_⟩:=(uH yj).row (by intro e;have:=uH HM;rw [e] at this;simp at this;omega);rw [uH HM] at e2 Vx J8;cases e2;exact ⟨aA Vx,J8⟩);go_wp2;go_ret;exact ⟨qb',m,qc',ls',rfl,HRW,⟨by omega,hl3⟩,hle,by omega,DY,YY⟩
 ·have e0:(k==0)=false:=by simp;omega
  have e1:(k==1)=false:=by simp;omega
  have e2:(k==2)=false:=by simp;omega
  have e3:(k==3)=false:=by simp;omega
  have e4:(k==4)=false:=by simp;omega
  go_wp2;go_ret;exact ⟨qb,n,qc,ls,rfl,HR3,⟨by omega,XG⟩,hqc,by omega,WE,ZA⟩
end
end Go.Proofs.YtfndhndlkcijoaaGreat
