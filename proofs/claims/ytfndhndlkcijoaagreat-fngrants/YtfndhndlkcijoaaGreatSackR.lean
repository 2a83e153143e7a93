/-
  Texts in one: LvM, OkC, LeavesI, StvM.
-/
import Derived.Test.YtfndhndlkcijoaaGreatSackO
import Derived.Test.YtfndhndlkcijoaaGreatSackF
set_option maxRecDepth 100000
set_option maxHeartbeats 16000000
set_option linter.unusedVariables false
set_option linter.unusedSimpArgs false
open Go.Proofs.Tryz
namespace Go.Proofs.YtfndhndlkcijoaaGreat
section
open Go.RowKit
variable {last nx:Int} {qs:List Q} {k:Nat}
def eO (l:List Q):List (List UInt8):=(l.map Q.name).filter (aBb l)
theorem kI (l:List Q):(eO l).length≤l.length:=by
 have:=List.length_filter_le (aBb l) (l.map Q.name);rw [List.length_map] at this;exact this
theorem uZ {l:List Q} (h:aH l=false):eO l=[]:=by
 rw [eO,List.filter_eq_nil_iff];intro a _;rw [yO,h];simp
def bJ (qs:List Q) (nx:Int):Int→List bW→Bool
 | _,[]=>true
 | last,a::t=>decide (last<a.id)&&(decide (a.id<nx)&&(aHz qs a.queue&&(jP a.asks&&bJ qs nx a.id t)))
def fT (s:St):Bool:=decide (s.apps.length≤40)&&bJ s.qs s.next 0 s.apps
theorem sQ {l:List bW} (h:k<l.length):bJ qs nx last (l.drop k)=(decide (last<l[k].id)&&(decide (l[k].id<nx)&&(aHz qs l[k].queue&&(jP l[k].asks&&bJ qs nx l[k].id (l.drop (k+1)))))):=by
 rw [List.drop_eq_getElem_cons h,bJ]
theorem vN {l:List bW} (h:l.length≤k):bJ qs nx last (l.drop k)=true:=by
 rw [List.drop_of_length_le h];rfl
theorem aGC (x:Sls) (s:St) (w:World) (h:iL w x s) (hf:bH s) :
  cP 80 #[sv x s] w fun e w'=>e=.returned (.bool (fT s))∧Bw w w':=by
 have Gq:x.ql≤1048576:=by have:=h.len.1;have:=hf.1.1;omega
 have hal:x.al≤1048576:=by have:=h.len.2.1;have:=hf.2.1.1;omega
 have HR:=aA h.2.1;have HL:=aA h.2.1.1;have Z9:=aA hf.2.1;have CL:=aA (fun wx (hb:Bw w wx) (nm:List UInt8)=>aEn x.qa x.ql x.qc s.qs nm wx (h.1.below hb) Gq);have HS:=aA (show fT s=(decide (x.al≤40)&&bJ s.qs s.next 0 s.apps) by rw [fT,←h.2.1.1]);obtain ⟨o,ho⟩:∃o,fT s=o:=⟨_,rfl⟩;rw [ho] at HS ⊢;clear h hf ho;have hb0:=yA (yH _ w) (.cells (svc x s) 29);have P0:=aA (yD w (svc x s) 29);obtain ⟨qa,ql,qc,aa,al,ac,ma,ml,mc,ca,cl,cc⟩:=x;obtain ⟨qs,cv,ez,nv,sj,aj,ms,cs⟩:=s;simp only at Gq hal HR HL Z9 CL HS P0 hb0;have HB0:=aA hb0;clear hb0;by_cases KP:al≤40;case neg=>
  have hi:(40:Int)<al:=by omega
  rw [decide_eq_false KP] at HS;go_enter func80,ntmps80;go_wp2;go_ret;exact ⟨yF (by rw [uH HS];simp),uH HB0⟩
 have hi:¬(40:Int)<al:=by omega
 rw [decide_eq_true KP,Bool.true_and] at HS;clear KP;go_enter func80,ntmps80;go_wp2;go_loopw [3,13] (fun la i wr=>∃(k:Nat) (last:Int),k≤al∧i=.int .i64 k∧la=.int .i64 last∧Hid (o=bJ qs nv last (aj.drop k))∧Hid (Blk wr w.heap.size (svc ⟨qa,ql,qc,aa,al,ac,ma,ml,mc,ca,cl,cc⟩ ⟨qs,cv,ez,nv,sj,aj,ms,cs⟩) 29)∧Hid (Bw w wr)) (fun _ i _=>al - (intOf i).toNat);case atStart=>exact ⟨0,0,Nat.zero_le _,rfl,rfl,aA (by rw [uH HS];simp),P0,HB0⟩
 case round=>
  obtain ⟨k,last,hk,rfl,rfl,HO,P1,HB⟩:=hrel;clear P0 HB0 HS;by_cases hlt:k<al
  ·obtain ⟨b,off,rfl,hq⟩:=((uH HR).below (uH HB)).at hlt;(have hkl:k<aj.length:=by have:=uH HL;omega);have hst:=aA (sQ (qs:=qs) (nx:=nv) (last:=last) (l:=aj) (k:=k) hkl);have hfa:=(uH Z9).2 _ (yM hkl);obtain ⟨xo,xl,xc,c0,c1,c2,Hq,_⟩:=hq hkl;obtain ⟨⟨id,qu,asks⟩,hs⟩:∃s,aj[k]=s:=⟨_,rfl⟩;rw [hs] at c0 c1 hst Hq hfa;simp only at c0 c1 hst Hq;(have hxl:xl≤1048576:=by have h1:=Hq.1;have h2:=hfa.2.1;simp only at h2;omega);obtain ⟨lo,hlo⟩:∃b,aHz qs qu=b:=⟨_,rfl⟩;obtain ⟨so,hso⟩:∃b,jP asks=b:=⟨_,rfl⟩;have C1:=aA (fun wx (hb:Bw w wx)=>by have:=uH CL wx hb qu;rw [hlo] at this;exact this);have C2:=aA (fun wx (hb:Bw wr wx)=>by have:=aFz id qu xo xl xc asks wx (Hq.below hb) hxl hfa.2.2;rw [hso] at this;exact this);rw [hlo,hso] at hst;have hb2:=yA (yH _ wr) (.cells #[.int .i64 id,.string (bs qu),.slice xo xl xc] 56);have P2:=aA ((uH P1).below hb2);have V2:=aA (yD wr #[.int .i64 id,.string (bs qu),.slice xo xl xc] 56);have HB2:=aA (yB (uH HB) hb2);have HW2:=aA hb2;have p0:=(uH P2).at 0;have p3:=(uH P2).at 3;have q5:=(uH P1).at 5;simp at p0 p3 q5;clear hq hs hkl Hq hfa hb2 hlo hso CL;by_cases h1:last<id;case neg=>
    (have h1':id≤last:=by omega);go_wp2;go_ret;exact ⟨yF (by rw [uH HO,uH hst,decide_eq_false (show ¬last<id by omega)];simp),uH HB2⟩
   by_cases h2:id<nv;case neg=>
    (have h2':nv≤id:=by omega);(have h1':¬id≤last:=by omega);go_wp2;go_ret;exact ⟨yF (by rw [uH HO,uH hst,decide_eq_false (show ¬id<nv by omega)];simp),uH HB2⟩
   (have h2':¬nv≤id:=by omega);(have h1':¬id≤last:=by omega);have GL:=aA (show o=(lo&&(so&&bJ qs nv id (aj.drop (k+1)))) by rw [uH HO,uH hst,decide_eq_true h1,decide_eq_true h2];simp);clear HO hst;(go_wp2_with fail);refine (uH C1 _ (uH HB2)).mono ?_;rintro e w1 ⟨rfl,hb⟩;have P3:=aA ((uH P2).below hb);have V3:=aA ((uH V2).below hb);have HB3:=aA (yB (uH HB2) hb);have HW3:=aA (yB (uH HW2) hb);have a0:=(uH V3).at 0;have a1:=(uH V3).at 1;have a2:=(uH V3).at 2;simp at a0 a1 a2;clear hb P2 V2 HB2 HW2 C1 p0 p3 q5;cases lo with
   | false=>go_wp2;go_ret;exact ⟨yF (by rw [uH GL];simp),uH HB3⟩
   | true=>
   (go_wp2_with fail);refine (uH C2 _ (uH HW3)).mono ?_;rintro e w2 ⟨rfl,hb⟩;have P4:=aA ((uH P3).below hb);have V4:=aA ((uH V3).below hb);have GD:=aA (yB (uH HB3) hb);have d0:=(uH V4).at 0;simp at d0;clear hb P3 V3 HB3 HW3 C2 a0 a1 a2;cases so with
   | false=>go_wp2;go_ret;exact ⟨yF (by rw [uH GL];simp),uH GD⟩
   | true=>
   go_wp2;go_roundw;(case rel=>exact ⟨k+1,id,by omega,by go_num,rfl,aA (by rw [uH GL];simp),P4,GD⟩);case measure=>simp [intOf];omega
  ·go_wp2;go_ret;exact ⟨yF (by rw [uH HO,vN (by have:=uH HL;omega)]),uH HB⟩
theorem aGT (B:Nat) (w:World):bR B w (.slice none 0 0) []:=World.ownsRow_nil _ _ _ _
theorem bR.open {B:Nat} {w:World} {v:Value} {ps:List (List UInt8)} (h:bR B w v ps):∃ao cap,v=.slice ao ps.length cap∧∀j (hj:j<ps.length),∃g,ao=some ⟨g,0,none⟩∧w.cell? ⟨g,j,none⟩=some (.string (bs ps[j])):=by
 by_cases hp:ps=[]
 ·subst hp;obtain ⟨a,c,rfl⟩:=iN h;exact ⟨a,c,rfl,fun j hj=>by simp at hj⟩
 ·obtain ⟨g,c,rfl,hs,_⟩:=iM h hp;exact ⟨_,c,rfl,fun j hj=>⟨g,rfl,hs.text hj⟩⟩
theorem aAv (ao:Option Addr) (len cap:Nat) (l:List Q) (w:World) (h:gN w ao len l) (hl:len≤1048576) (hn:∀q ∈ l,q.name.length≤1048576) (hc:len≤cap) :
  cP 50 #[.slice ao len cap] w fun e w'=>∃v,e=.returned v∧bR w.heap.size w' v (eO l)∧Bw w w':=by
 obtain ⟨i0,hi,hz0,hz1,hz2⟩:=info_parts Tryz.infoS;have HR:=aA h;have HL:=aA h.1;have HN:=aA hn;have CQ:=aA (fJ ao len cap l w h hl hn hc);have CL:=aA (fun x wx (hb:Bw w wx)=>aEn ao len cap l x wx (h.below hb) hl);have Fq:=aA (fun x=>yO l x);obtain ⟨ok,hok⟩:∃ok,aH l=ok:=⟨_,rfl⟩;rw [hok] at CQ Fq;have Zz:=aA hok;clear h hn hok;go_enter func50,ntmps50;go_wp2_with fail;refine (uH CQ).mono ?_;rintro e w1 ⟨rfl,hb⟩;have HB1:=aA hb;clear hb CQ;cases ok;case false=>go_wp2;go_ret;exact ⟨_,rfl,by rw [uZ (uH Zz)];exact aGT _ _,uH HB1⟩
 go_wp2;go_loopw [3,5,11] (fun v _ i wr=>∃(k:Nat) (o:List ByteArray),k≤len∧i=.int .i64 k∧o.length≤k∧Hid (o=(((l.take k).map Q.name).filter (aBb l)).map bs)∧Hid (wr.ownsRow w.heap.size 9 1 v o.length (gW o))∧Hid (Bw w wr)) (fun _ _ i _=>len - (intOf i).toNat)
 case atStart=>exact ⟨0,[],Nat.zero_le _,rfl,yJ _,aA (by simp),aA (World.ownsRow_nil _ _ _ _),HB1⟩
 case round=>
  obtain ⟨k,o,hk,rfl,hol,HO,HS,HB⟩:=hrel;by_cases hlt:k<len
  ·have HR2:=aA ((uH HR).below (uH HB));obtain ⟨b,off,rfl,hq⟩:=(uH HR2).at hlt;(have hkl:k<l.length:=by have:=uH HL;omega);obtain ⟨c0,c1,c2,c3⟩:=hq hkl;have hz:=uH HN l[k] (yM _);have htk:=List.take_succ_eq_append_getElem hkl;clear hq;obtain ⟨⟨nm,pa,du,mo⟩,hs⟩:∃s,l[k]=s:=⟨_,rfl⟩;rw [hs] at c0 c1 c2 c3 hz htk;simp only at c0 c1 c2 c3 hz;have ZC:=aA htk;have HA:=aA (mZ.new wr ⟨nm,pa,du,mo⟩);have HB2:=aA (yA (uH HB) (aGL ⟨nm,pa,du,mo⟩));have HS2:=aA ((uH HS).alloc (aGL ⟨nm,pa,du,mo⟩));obtain ⟨f,hf⟩:∃f,aHz l nm=f:=⟨_,rfl⟩;have CL1:=aA (fun wx hb=>by have:=uH CL nm wx hb;rw [hf] at this;exact this);have FZ:=aA (show aBb l nm=f by rw [uH Fq,hf];rfl);(have hsz:(bs nm).size≤281474976710656:=by rw [dD];omega);have k0:=(uH HA).c0;simp only at k0;clear hs hkl hf htk hz HR2;(go_wp2_with fail);refine (uH CL1 _ (uH HB2)).mono ?_;rintro e w2 ⟨rfl,hb⟩;have NY:=aA ((uH HA).below hb);have HB3:=aA (yB (uH HB2) hb);have ZM:=aA (gQ (uH HS2) hb);clear hb HA HB2 HS2 k0 HB HS;cases f with
   | false=>go_wp2;go_roundw;(case rel=>exact ⟨k+1,o,by omega,by go_num,by omega,aA (by rw [uH ZC,List.map_append,List.filter_append];simp only [List.map_cons,List.map_nil,List.filter_cons,uH FZ,List.filter_nil];rw [if_neg (by simp),List.append_nil];exact uH HO),ZM,HB3⟩);case measure=>simp [intOf];omega
   | true=>have k0:=(uH NY).c0;simp only at k0;(go_wp2_with fail);refine (jK (bs nm) _ hsz).mono ?_;rintro e w3 ⟨rfl,hb⟩;have Hz:=gQ (uH ZM) hb;have Gy:=yB (uH HB3) hb;have hwz:=Gy.size;clear hb NY HB3 ZM k0;(go_wp2_with (at_builtin;refine wpList_append_own _ rfl _ _ 40 rfl w.heap.size 9 i0 (.string .empty) 1 16 underlying40 hi hz0 hz1 hz2 rfl (by decide) _ _ _ rfl (Hz.alloc _) ⟨w3.heap.size,0,none⟩ 1 1 [.string (bs nm)] rfl rfl ?c1 ?c2 ?c3 ?c4 ?c5 ?_));(case c1=>intro j v hj;match j,hj with | 0,hj=>simp at hj;subst hj;simp [Addr.add]);(case c2=>intro v hv;simp at hv;subst hv;rfl);(case c3=>unfold maxLen;omega);(case c4=>omega);(case c5=>simp;omega);intro v' w4 Hy Hw _;have R:=aA (rE Gy Hz Hy Hw (by omega));clear Hy Hw Hz Gy;go_wp2;go_roundw;(case rel=>exact ⟨k+1,o++[bs nm],by omega,by go_num,by simp;omega,aA (by rw [uH ZC,List.map_append,List.filter_append];simp only [List.map_cons,List.map_nil,List.filter_cons,uH FZ,List.filter_nil];rw [if_pos (by first | rfl | trivial),List.map_append,←uH HO];rfl),aA (uH R).1,aA (uH R).2⟩);case measure=>simp [intOf];omega
  ·(have hkk:k=len:=by omega);subst hkk;go_wp2;go_ret;refine ⟨_,rfl,bR.of (uH HS) ?_,uH HB⟩;rw [uH HO,List.take_of_length_le (by have:=uH HL;omega)];rfl
def nA (s:St) (x:List UInt8):Bool:=kV s x&&(within (aL s x).1 (aL s x).2 (pU s x).1 (pU s x).2&&!decide (aL s x=pU s x))
def aD4 (s:St):List (List UInt8):=(eO s.qs).filter (nA s)
def kL (s:St):List (List UInt8):=(aD4 s).mergeSort fun x y=>decide (x≤y)
def lZ (s:St) (k:Nat):List (List UInt8):=y7 (((s.qs.take k).map Q.name).filter (fun x=>aBb s.qs x&&nA s x)) []
theorem aD6 (s:St) (h:s.qs.length≤k):lZ s k=kL s:=by
 rw [lZ,kL,aHL,List.take_of_length_le h,aD4,eO,List.filter_filter];congr 1;apply List.filter_congr;intro x _;rw [Bool.and_comm]
theorem aCG (s:St) (h:k<s.qs.length):lZ s (k+1)=if (aBb s.qs s.qs[k].name&&nA s s.qs[k].name)=true then OrdM.ins Op.bytesLess s.qs[k].name (lZ s k) else lZ s k:=by
 rw [lZ,List.take_succ_eq_append_getElem h,List.map_append,List.filter_append];cases hb:aBb s.qs s.qs[k].name&&nA s s.qs[k].name with
 | true=>rw [if_pos rfl];simp only [List.map_cons,List.map_nil,List.filter_cons,hb,if_true,List.filter_nil];rw [aEF];rfl
 | false=>rw [if_neg (by simp)];simp only [List.map_cons,List.map_nil,List.filter_cons,hb,List.filter_nil];rw [if_neg (by simp),List.append_nil];rfl
theorem aD5 (s:St) (k:Nat):(lZ s k).length≤k:=by
 rw [lZ,(qU _ _).length_eq,List.append_nil];refine Nat.le_trans (List.length_filter_le _ _) ?_;simp;omega
end
end Go.Proofs.YtfndhndlkcijoaaGreat
