/-
  Texts in one: OkC, OkD.
-/
import Derived.Test.YtfndhndlkcijoaaGreatTackG
import Derived.Test.YtfndhndlkcijoaaGreatTackR
set_option maxRecDepth 100000
set_option maxHeartbeats 16000000
set_option linter.unusedVariables false
set_option linter.unusedSimpArgs false
open Go.Proofs.Tryz
namespace Go.Proofs.YtfndhndlkcijoaaGreat
section
open Go.RowKit
variable {ck last nx:Int} {l:List Mac} {qs:List Q} {k:Nat}
def bQ (qs:List Q) (nx:Int):Int→List dA→Bool
 | _,[]=>true
 | last,a::t=>decide (last<a.id)&&(decide (a.id<nx)&&(aH1 qs a.queue&&(kR a.asks&&bQ qs nx a.id t)))
def fI (s:St):Bool:=decide (s.apps.length≤40)&&bQ s.qs s.next 0 s.apps
theorem rH {l:List dA} (h:k<l.length):bQ qs nx last (l.drop k)=(decide (last<l[k].id)&&(decide (l[k].id<nx)&&(aH1 qs l[k].queue&&(kR l[k].asks&&bQ qs nx l[k].id (l.drop (k+1)))))):=by
 rw [List.drop_eq_getElem_cons h,bQ]
theorem uT {l:List dA} (h:l.length≤k):bQ qs nx last (l.drop k)=true:=by
 rw [List.drop_of_length_le h];rfl
theorem aFV (x:Sls) (s:St) (w:World) (h:gW w x s) (hf:dB s) :
  cP 80 #[sv x s] w fun e w'=>e=.returned (.bool (fI s))∧Bw w w':=by
 have Gw:x.ql≤1048576:=by have:=h.len.1;have:=hf.1.1;omega
 have hal:x.al≤1048576:=by have:=h.len.2.1;have:=hf.2.1.1;omega
 have HR:=aA h.2.1;have HL:=aA h.2.1.1;have QJ:=aA hf.2.1;have CL:=aA (fun wx (hb:Bw w wx) (nm:List UInt8)=>aDz x.qa x.ql x.qc s.qs nm wx (h.1.below hb) Gw);have HS:=aA (show fI s=(decide (x.al≤40)&&bQ s.qs s.next 0 s.apps) by rw [fI,←h.2.1.1]);obtain ⟨o,ho⟩:∃o,fI s=o:=⟨_,rfl⟩;rw [ho] at HS ⊢;clear h hf ho;have hb0:=yA (yH _ w) (.cells (svc x s) 29);have P0:=aA (yD w (svc x s) 29);obtain ⟨qa,ql,qc,aa,al,ac,ma,ml,mc,ca,cl,cc⟩:=x;obtain ⟨qs,cv,ez,ny,sj,aj,ms,cs⟩:=s;simp only at Gw hal HR HL QJ CL HS P0 hb0;have HB0:=aA hb0;clear hb0;by_cases XU:al≤40;case neg=>
  have hi:(40:Int)<al:=by omega
  rw [decide_eq_false XU] at HS;go_enter func80,ntmps80;go_wp2;go_ret;exact ⟨yF (by rw [uH HS];simp),uH HB0⟩
 have hi:¬(40:Int)<al:=by omega
 rw [decide_eq_true XU,Bool.true_and] at HS;clear XU;go_enter func80,ntmps80;go_wp2;go_loopw [3,13] (fun la i wr=>∃(k:Nat) (last:Int),k≤al∧i=.int .i64 k∧la=.int .i64 last∧Hid (o=bQ qs ny last (aj.drop k))∧Hid (Blk wr w.heap.size (svc ⟨qa,ql,qc,aa,al,ac,ma,ml,mc,ca,cl,cc⟩ ⟨qs,cv,ez,ny,sj,aj,ms,cs⟩) 29)∧Hid (Bw w wr)) (fun _ i _=>al - (intOf i).toNat);case atStart=>exact ⟨0,0,Nat.zero_le _,rfl,rfl,aA (by rw [uH HS];simp),P0,HB0⟩
 case round=>
  obtain ⟨k,last,hk,rfl,rfl,HO,P1,HB⟩:=hrel;clear P0 HB0 HS;by_cases hlt:k<al
  ·obtain ⟨b,off,rfl,hq⟩:=((uH HR).below (uH HB)).at hlt;(have hkl:k<aj.length:=by have:=uH HL;omega);have hst:=aA (rH (qs:=qs) (nx:=ny) (last:=last) (l:=aj) (k:=k) hkl);have hfa:=(uH QJ).2 _ (yM hkl);obtain ⟨xo,xl,xc,c0,c1,c2,Hz,_⟩:=hq hkl;obtain ⟨⟨id,qu,asks⟩,hs⟩:∃s,aj[k]=s:=⟨_,rfl⟩;rw [hs] at c0 c1 hst Hz hfa;simp only at c0 c1 hst Hz;(have hxl:xl≤1048576:=by have h1:=Hz.1;have h2:=hfa.2.1;simp only at h2;omega);obtain ⟨lo,hlo⟩:∃b,aH1 qs qu=b:=⟨_,rfl⟩;obtain ⟨so,hso⟩:∃b,kR asks=b:=⟨_,rfl⟩;have C1:=aA (fun wx (hb:Bw w wx)=>by have:=uH CL wx hb qu;rw [hlo] at this;exact this);have C2:=aA (fun wx (hb:Bw wr wx)=>by have:=aFS id qu xo xl xc asks wx (Hz.below hb) hxl hfa.2.2;rw [hso] at this;exact this);rw [hlo,hso] at hst;have hb2:=yA (yH _ wr) (.cells #[.int .i64 id,.string (bs qu),.slice xo xl xc] 56);have P2:=aA ((uH P1).below hb2);have V2:=aA (yD wr #[.int .i64 id,.string (bs qu),.slice xo xl xc] 56);have HB2:=aA (yB (uH HB) hb2);have HW2:=aA hb2;have p0:=(uH P2).at 0;have p3:=(uH P2).at 3;have q5:=(uH P1).at 5;simp at p0 p3 q5;clear hq hs hkl Hz hfa hb2 hlo hso CL;by_cases h1:last<id;case neg=>
    (have h1':id≤last:=by omega);go_wp2;go_ret;exact ⟨yF (by rw [uH HO,uH hst,decide_eq_false (show ¬last<id by omega)];simp),uH HB2⟩
   by_cases h2:id<ny;case neg=>
    (have h2':ny≤id:=by omega);(have h1':¬id≤last:=by omega);go_wp2;go_ret;exact ⟨yF (by rw [uH HO,uH hst,decide_eq_false (show ¬id<ny by omega)];simp),uH HB2⟩
   (have h2':¬ny≤id:=by omega);(have h1':¬id≤last:=by omega);have GJ:=aA (show o=(lo&&(so&&bQ qs ny id (aj.drop (k+1)))) by rw [uH HO,uH hst,decide_eq_true h1,decide_eq_true h2];simp);clear HO hst;(go_wp2_with fail);refine (uH C1 _ (uH HB2)).mono ?_;rintro e w1 ⟨rfl,hb⟩;have P3:=aA ((uH P2).below hb);have V3:=aA ((uH V2).below hb);have HB3:=aA (yB (uH HB2) hb);have HW3:=aA (yB (uH HW2) hb);have a0:=(uH V3).at 0;have a1:=(uH V3).at 1;have a2:=(uH V3).at 2;simp at a0 a1 a2;clear hb P2 V2 HB2 HW2 C1 p0 p3 q5;cases lo with
   | false=>go_wp2;go_ret;exact ⟨yF (by rw [uH GJ];simp),uH HB3⟩
   | true=>
   (go_wp2_with fail);refine (uH C2 _ (uH HW3)).mono ?_;rintro e w2 ⟨rfl,hb⟩;have P4:=aA ((uH P3).below hb);have V4:=aA ((uH V3).below hb);have GD:=aA (yB (uH HB3) hb);have d0:=(uH V4).at 0;simp at d0;clear hb P3 V3 HB3 HW3 C2 a0 a1 a2;cases so with
   | false=>go_wp2;go_ret;exact ⟨yF (by rw [uH GJ];simp),uH GD⟩
   | true=>
   go_wp2;go_roundw;(case rel=>exact ⟨k+1,id,by omega,by go_num,rfl,aA (by rw [uH GJ];simp),P4,GD⟩);case measure=>simp [intOf];omega
  ·go_wp2;go_ret;exact ⟨yF (by rw [uH HO,uT (by have:=uH HL;omega)]),uH HB⟩
def leT (a b:List UInt8):Bool:=Op.bytesLess (bs a).toList (bs b).toList||((bs a).toList==(bs b).toList)
def bO (ck:Int):List UInt8→List Mac→Bool
 | _,[]=>true
 | last,m::t=>!leT m.name last&&(bN m.name&&(decide (0≤m.seen)&&(decide (m.seen≤ck)&&bO ck m.name t)))
def mO (s:St):Bool:=decide (s.ms.length≤20)&&(bO s.clock [] s.ms&&(iC (aX s.ms)).2.2)
theorem zD {last:List UInt8} (h:k<l.length):bO ck last (l.drop k)=(!leT l[k].name last&&(bN l[k].name&&(decide (0≤l[k].seen)&&(decide (l[k].seen≤ck)&&bO ck l[k].name (l.drop (k+1)))))):=by
 rw [List.drop_eq_getElem_cons h,bO]
theorem aAn {last:List UInt8} (h:l.length≤k):bO ck last (l.drop k)=true:=by
 rw [List.drop_of_length_le h];rfl
theorem zF (x:Sls) (s:St) (w:World) (h:gW w x s) (hf:dB s) :
  cP 81 #[sv x s] w fun e w'=>e=.returned (.bool (mO s))∧Bw w w':=by
 have GN:x.ml≤1048576:=by have:=h.len.2.2.1;have:=hf.2.2.1.1;omega
 have HR:=aA h.2.2.1;have HL:=aA h.2.2.1.1;have DJ:=aA hf.2.2.1;obtain ⟨⟨cx,cy,co⟩,hco⟩:∃r,iC (aX s.ms)=r:=⟨_,rfl⟩;have CC:=aA (fun wx (hb:Bw w wx)=>by have:=aEM x s wx (h.2.2.1.below hb) GN;rw [hco] at this;exact this);have HS:=aA (show mO s=(decide (x.ml≤20)&&(bO s.clock [] s.ms&&co)) by rw [mO,←h.2.2.1.1,hco]);obtain ⟨o,ho⟩:∃o,mO s=o:=⟨_,rfl⟩;rw [ho] at HS ⊢;clear h hf ho hco;have hb0:=yA (yH _ w) (.cells (svc x s) 29);have P0:=aA (yD w (svc x s) 29);obtain ⟨qa,ql,qc,aa,al,ac,ma,ml,mc,ca,cl,cc⟩:=x;obtain ⟨qs,clock,epoch,next,serial,apps,ms,cs⟩:=s;simp only at GN HR HL DJ CC HS P0 hb0;have HB0:=aA hb0;clear hb0;by_cases XU:ml≤20;case neg=>
  have hi:(20:Int)<ml:=by omega
  rw [decide_eq_false XU] at HS;go_enter func81,ntmps81;go_wp2;go_ret;exact ⟨yF (by rw [uH HS];simp),uH HB0⟩
 have hi:¬(20:Int)<ml:=by omega
 rw [decide_eq_true XU,Bool.true_and] at HS;clear XU;go_enter func81,ntmps81;go_wp2;go_loopw [3,15] (fun la i wr=>∃(k:Nat) (last:List UInt8),k≤ml∧i=.int .i64 k∧la=.string (bs last)∧Hid (o=(bO clock last (ms.drop k)&&co))∧Hid (Blk wr w.heap.size (svc ⟨qa,ql,qc,aa,al,ac,ma,ml,mc,ca,cl,cc⟩ ⟨qs,clock,epoch,next,serial,apps,ms,cs⟩) 29)∧Hid (Bw w wr)) (fun _ i _=>ml - (intOf i).toNat);case atStart=>exact ⟨0,[],Nat.zero_le _,rfl,rfl,aA (by rw [uH HS];simp),P0,HB0⟩
 case round=>
  obtain ⟨k,last,hk,rfl,rfl,HO,P1,HB⟩:=hrel;clear P0 HB0 HS;by_cases hlt:k<ml
  ·obtain ⟨b,off,rfl,hq⟩:=((uH HR).below (uH HB)).at hlt;(have hkl:k<ms.length:=by have:=uH HL;omega);have hst:=aA (zD (ck:=clock) (last:=last) (l:=ms) (k:=k) hkl);have hfa:=(uH DJ).2 _ (yM hkl);obtain ⟨c0,c1,c2,c3⟩:=hq hkl;obtain ⟨⟨nm,me,cp,se⟩,hs⟩:∃s,ms[k]=s:=⟨_,rfl⟩;rw [hs] at c0 c1 c2 c3 hst hfa;simp only at c0 c1 c2 c3 hst hfa;obtain ⟨no,hno⟩:∃b,bN nm=b:=⟨_,rfl⟩;have C1:=aA (fun wx=>by have:=lK (bs nm) wx (by rw [cK];exact hfa);rw [show bN (bs nm).data.toList=no by rw [←hno];simp [bs]] at this;exact this);obtain ⟨l1,hl1⟩:∃b,Op.bytesLess (bs nm).toList (bs last).toList=b:=⟨_,rfl⟩;obtain ⟨l2,hl2⟩:∃b,((bs nm).toList==(bs last).toList)=b:=⟨_,rfl⟩;have kw:=aA (show bO clock last (ms.drop k)=(!(l1||l2)&&(no&&(decide (0≤se)&&(decide (se≤clock)&&bO clock nm (ms.drop (k+1)))))) by rw [uH hst,leT,hl1,hl2,hno]);have hb2:=yA (yH _ wr) (.cells #[.string (bs nm),.int .i64 me,.int .i64 cp,.int .i64 se] 103);have P2:=aA ((uH P1).below hb2);have HB2:=aA (yB (uH HB) hb2);have p1:=(uH P2).at 1;simp at p1;clear hq hs hkl hfa hb2 hno hst CC;(cases l1<;>cases l2);case false.false=>
    (go_wp2_with fail);refine (uH C1 _).mono ?_;rintro e w1 ⟨rfl,rfl⟩;cases no with
    | false=>go_wp2;go_ret;exact ⟨yF (by rw [uH HO,uH kw];simp),uH HB2⟩
    | true=>
    by_cases h1:0≤se;case neg=>
     (have h1':se<0:=by omega);go_wp2;go_ret;exact ⟨yF (by rw [uH HO,uH kw,decide_eq_false (show ¬0≤se by omega)];simp),uH HB2⟩
    by_cases h2:se≤clock;case neg=>
     (have h1':¬se<0:=by omega);(have h2':clock<se:=by omega);go_wp2;go_ret;exact ⟨yF (by rw [uH HO,uH kw,decide_eq_false (show ¬se≤clock by omega)];simp),uH HB2⟩
    (have h1':¬se<0:=by omega);(have h2':¬clock<se:=by omega);have GJ:=aA (show o=(bO clock nm (ms.drop (k+1))&&co) by rw [uH HO,uH kw,decide_eq_true h1,decide_eq_true h2];simp);go_wp2;go_roundw;(case rel=>exact ⟨k+1,nm,by omega,by go_num,rfl,GJ,P2,HB2⟩);case measure=>simp [intOf];omega
   all_goals go_wp2;go_ret;exact ⟨yF (by rw [uH HO,uH kw];simp),uH HB2⟩
  ·have GJ:=aA (show o=co by rw [uH HO,aAn (by have:=uH HL;omega)];simp);have p0:=(uH P1).at 0;have p1:=(uH P1).at 1;have p2:=(uH P1).at 2;have p3:=(uH P1).at 3;have p4:=(uH P1).at 4;have p5:=(uH P1).at 5;have p6:=(uH P1).at 6;have p7:=(uH P1).at 7;simp at p0 p1 p2 p3 p4 p5 p6 p7;(go_wp2_with fail);refine (uH CC _ (uH HB)).mono ?_;rintro e w1 ⟨rfl,hb⟩;have HB2:=aA (yA (yB (uH HB) hb) (.cells #[.int .i64 cx,.int .i64 cy] 33));clear hb CC;go_wp2;go_ret;exact ⟨yF (by rw [uH GJ]),uH HB2⟩
end
end Go.Proofs.YtfndhndlkcijoaaGreat
