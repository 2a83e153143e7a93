/-
  Texts in one: CapS, CapsS, TotalB, QueuesOkS, LeafS, OverM, AppsI, RoomM, RmL, PathS.
-/
import Derived.Test.YtfndhndlkcijoaaGreatSackD
import Derived.Test.YtfndhndlkcijoaaGreatSackC
import Derived.Test.YtfndhndlkcijoaaGreatSackB
set_option maxRecDepth 100000
set_option maxHeartbeats 16000000
set_option linter.unusedVariables false
set_option linter.unusedSimpArgs false
open Go.Proofs.Tryz
namespace Go.Proofs.YtfndhndlkcijoaaGreat
section
open Go.RowKit
variable {l:List Q} {nm:List UInt8} {k:Nat} {x:Sls} {s:St} {w:World}
theorem yR (x:Sls) (s:St) (w:World) (h:dB w x.ma x.ml s.ms) (hl:x.ml≤1048576) :
  cP 71 #[sv x s] w fun e w'=>∃v,e=.returned v∧aAB w.heap.size w' v (bG s.ms)∧Bw w w':=by
 obtain ⟨i0,hi,hz0,hz1,hz2⟩:=info_parts Tryz.infoR;obtain ⟨qa,ql,qc,aa,al,ac,ma,ml,mc,ca,cl,cc⟩:=x;obtain ⟨qs,cv,ez,nv,sj,aj,ms,cs⟩:=s;simp only at h hl ⊢;have HR:=aA h;have HL:=aA h.1;have HB0:=aA (jX w #[.slice qa ql qc,.int .i64 cv,.int .i64 ez,.int .i64 nv,.int .i64 sj,.slice aa al ac,.slice ma ml mc,.slice ca cl cc]);have P0:=aA (gB w #[.slice qa ql qc,.int .i64 cv,.int .i64 ez,.int .i64 nv,.int .i64 sj,.slice aa al ac,.slice ma ml mc,.slice ca cl cc]);have HW:=aA (zL w #[.slice qa ql qc,.int .i64 cv,.int .i64 ez,.int .i64 nv,.int .i64 sj,.slice aa al ac,.slice ma ml mc,.slice ca cl cc]);have WG:=aA (tJ (sZ w #[.slice qa ql qc,.int .i64 cv,.int .i64 ez,.int .i64 nv,.int .i64 sj,.slice aa al ac,.slice ma ml mc,.slice ca cl cc]));obtain ⟨c,hc⟩:∃c:Array Value,#[.slice qa ql qc,.int .i64 cv,.int .i64 ez,.int .i64 nv,.int .i64 sj,.slice aa al ac,.slice ma ml mc,.slice ca cl cc]=c:=⟨_,rfl⟩;rw [hc] at HB0 HW WG;have P0:=aA (show Blk (sZ w c) w.heap.size #[.slice qa ql qc,.int .i64 cv,.int .i64 ez,.int .i64 nv,.int .i64 sj,.slice aa al ac,.slice ma ml mc,.slice ca cl cc] 29 by rw [hc];exact gB w c);have HC:=aA hc;clear h hc;go_enter func71,ntmps71;go_wp2;go_loopw [3,4] (fun v i wr=>∃(k:Nat),k≤ml∧i=.int .i64 k∧Hid (aAB (sZ w c).heap.size wr v (bG (ms.take k)))∧Hid (Below (sZ w c).heap.size (sZ w c) wr)) (fun _ i _=>ml - (intOf i).toNat);case atStart=>obtain rfl:=uH HC;have h1:=uH HW;refine ⟨0,Nat.zero_le _,rfl,aA ?_,aA (yA (yH _ _) _)⟩;have:=uH WG;rw [h1] at this;rw [h1];exact this
 case round=>
  obtain ⟨k,hk,rfl,HO,HB⟩:=hrel;have hn1:w.heap.size<(sZ w c).heap.size:=by have:=uH HW;omega
  have p6:=Blk.at (show Blk wr w.heap.size _ 29 from ((uH HB).block _ hn1).trans (uH P0)) 6;simp at p6;by_cases hlt:k<ml
  ·obtain ⟨b,off,rfl,hq⟩:=(((uH HR).below (uH HB0)).below (uH HB)).at hlt;(have hkl:k<ms.length:=by have:=uH HL;omega);have hst:=aA (zK hkl);obtain ⟨c0,c1,c2,c3⟩:=hq hkl;obtain ⟨m,hs⟩:∃q,ms[k]=q:=⟨_,rfl⟩;rw [hs] at c0 c1 c2 c3 hst;(have hal:(bG (ms.take k)).length≤1048576:=by simp [bG];omega);obtain ⟨acc,QC⟩:∃a,bG (ms.take k)=a:=⟨_,rfl⟩;rw [QC] at hst hal HO;obtain ⟨nm,me,cp,se⟩:=m;simp only at c0 c1 c2 c3 hst;have hs2:(sZ w c).heap.size≤wr.heap.size:=(uH HB).size;have Hz:wr.ownsRow (sZ w c).heap.size 33 2 _ acc.length (jB acc):=uH HO;clear hq hs hkl QC;(go_wp2_with (at_builtin;refine wpList_append_own _ rfl _ _ 114 rfl (sZ w c).heap.size 33 i0 (.agg #[.int .i64 0,.int .i64 0]) 2 16 underlying114 hi hz0 hz1 hz2 rfl (by decide) _ _ _ rfl (Hz.alloc _) ⟨wr.heap.size,0,none⟩ 1 1 (aAH (me,cp)) rfl rfl ?c1 ?c2 ?c3 ?c4 ?c5 ?_));case c1=>
    intro j x hj
    match j,hj with
    | 0,hj=>simp at hj;subst hj;simp [Addr.add]
    | 1,hj=>simp at hj;subst hj;simp [Addr.add]
    | _+2,hj=>simp at hj
   (case c2=>intro x hx;simp at hx;rcases hx with rfl | rfl<;>rfl);(case c3=>unfold maxLen;omega);(case c4=>omega);(case c5=>simp at hs2 ⊢;omega);intro v' w3 Hy Hw _;have R:=mH (q:=(me,cp)) (uH HB) (uH HO) Hy Hw hs2;have HR3:=aA R;clear Hy Hw Hz c0 c1 c2 c3 R p6;go_wp2;go_roundw;(case rel=>exact ⟨k+1,by omega,by go_num,aA (by rw [uH hst];exact (uH HR3).1),aA (uH HR3).2⟩);case measure=>simp [intOf];omega
  ·have htk:ms.take k=ms:=List.take_of_length_le (by have:=uH HL;omega);rw [htk] at HO;go_wp2;go_ret;exact ⟨_,rfl,(uH HO).base (by omega),yB (uH HB0) (uH HB)⟩
theorem nC (x:Sls) (s:St) (w:World) (h:dB w x.ma x.ml s.ms) (hl:x.ml≤1048576) :
  cP 19 #[sv x s] w fun e w'=>e=.returned (rv (iY (bG s.ms)).1 (iY (bG s.ms)).2.1)∧Bw w w':=by
 have hlc:(bG s.ms).length≤1048576:=by have:=h.1;simp [bG];omega
 have HR:=aA h;clear h;obtain ⟨⟨sx,sy,so⟩,hs⟩:∃y,iY (bG s.ms)=y:=⟨_,rfl⟩;have CC:=aA (fun wx (hb:Bw w wx)=>yR x s wx ((uH HR).below hb) hl);have CS:=aA (fun ao cap wx (h:aGH wx ao (bG s.ms).length (bG s.ms))=>by have:=mM ao _ cap (bG s.ms) wx h hlc;rw [hs] at this;exact this);rw [hs];clear hs;obtain ⟨qa,ql,qc,aa,al,ac,ma,ml,mc,ca,cl,cc⟩:=x;obtain ⟨qs,cv,ez,nv,sj,aj,ms,cs⟩:=s;simp only at CC CS hlc;go_enter func19,ntmps19;go_wp2_with fail;refine (uH CC _ (dM w _)).mono ?_;rintro e w1 ⟨v,rfl,ho,hb⟩;obtain ⟨ao,cp,rfl,Hq,_⟩:=ho.row;have V1:=(jL w _).below hb;have GQ:=aA V1;have HB1:=aA (yB (dM w _) hb);have GX:=aA Hq;obtain ⟨n,hn⟩:∃n,(bG ms).length=n:=⟨_,rfl⟩;rw [hn] at CS GX ⊢;clear hb V1 CC ho Hq hn hlc;go_wp2_with fail;refine (uH CS _ _ _ (uH GX)).mono ?_;rintro e w2 ⟨rfl,hb⟩;have V1:=(uH GQ).below hb;have HB2:=aA (yB (uH HB1) hb);have V2:=V1.al (.cells #[.int .i64 sx,.int .i64 sy] 33);have t0:=V2.c0;have t1:=V2.c1;have f0:=V2.f 0;have f1:=V2.f 1;have VG:=V2.set sx sy;have k6:=VG.c0;have k7:=VG.c1;clear hb V1 V2 VG CS GQ HB1 GX;go_wp2;refine bodyPost_ret (v:=rv sx sy) (by simp [results,results19,go_sem,k6,k7]) rfl ⟨rfl,?_⟩;repeat (first | exact uH HB2 | refine yA ?_ _ | refine yC ?_ _ _ _ (by omega))
def bS (s:St):Int×Int:=((iY (bG s.ms)).1,(iY (bG s.ms)).2.1)
theorem iL.ml (h:iL w x s) (hf:bH s):x.ml≤1048576:=by have:=h.len.2.2.1;have:=hf.2.2.1.1;omega
theorem iL.al (h:iL w x s) (hf:bH s):x.al≤1048576:=by have:=h.len.2.1;have:=hf.2.1.1;omega
theorem iL.ql (h:iL w x s) (hf:bH s):x.ql≤1048576:=by have:=h.len.1;have:=hf.1.1;omega
theorem kM (ao:Option Addr) (len cap:Nat) (l:List Q) (w:World) (h:gN w ao len l) (hl:len≤1048576) (hn:∀q ∈ l,q.name.length≤1048576) :
  cP 63 #[.slice ao len cap] w fun e w'=>e=.returned (.bool (aH l))∧Bw w w':=by
 have HR:=aA h;have HL:=aA h.1;have HN:=aA hn;clear h hn;go_enter func63,ntmps63;go_wp2;go_loopw [3] (fun i wr=>∃k:Nat,k≤len∧i=.int .i64 k∧Hid (iE l l 0=iE l (l.drop k) k)∧Hid (Bw w wr)) (fun i _=>len - (intOf i).toNat);case atStart=>exact ⟨0,Nat.zero_le _,rfl,aA (by simp),aA (yH _ _)⟩
 case round=>
  obtain ⟨k,hk,rfl,hp,HB⟩:=hrel;by_cases hlt:k<len
  ·have HR2:=aA ((uH HR).below (uH HB));obtain ⟨b,off,rfl,hq⟩:=(uH HR2).at hlt;(have hkl:k<l.length:=by have:=uH HL;omega);have hst:=aA (aDl (l:=l) (k:=k) hkl);obtain ⟨c0,c1,c2,c3⟩:=hq hkl;have hz:=uH HN l[k] (yM _);clear hq;obtain ⟨⟨nm,pa,du,mo⟩,hs⟩:∃s,l[k]=s:=⟨_,rfl⟩;rw [hs] at c0 c1 c2 c3 hst hz;simp only at c0 c1 c2 c3 hz;clear hs hkl;obtain ⟨b1,g1⟩:∃b,bP nm=b:=⟨_,rfl⟩;obtain ⟨p1,g2⟩:∃p,place l nm=p:=⟨_,rfl⟩;obtain ⟨p2,g3⟩:∃p,place l pa=p:=⟨_,rfl⟩;have CN:=aA (fun wx=>by have:=l6 (bs nm) wx (by rw [dD];exact hz);rw [show (bs nm).data.toList=nm by simp [bs],g1] at this;exact this);have RR:=(uH HR2).below (yA (yH _ wr) (.cells #[.string (bs nm),.string (bs pa),.int .i64 du,.int .i64 mo] 105));have CP1:=aA (by have:=kJ (some ⟨b,off,none⟩) len cap l nm _ RR hl;rw [g2] at this;exact this);have CP2:=aA (by have:=kJ (some ⟨b,off,none⟩) len cap l pa _ RR hl;rw [g3] at this;exact this);have HB2:=aA (yA (uH HB) (.cells #[.string (bs nm),.string (bs pa),.int .i64 du,.int .i64 mo] 105));have G1:=aA g1;have G2:=aA g2;have G3:=aA g3;clear g1 g2 g3 RR HR2 hz;cases b1 with
   | false=>
    (go_wp2_with (first | (go_at_call 123;refine (uH CN _).mono ?_;rintro e w' ⟨rfl,rfl⟩) | (go_at_call_of 121 nm;refine (uH CP1).mono ?_;rintro e w' ⟨rfl,rfl⟩) | (go_at_call_of 121 pa;refine (uH CP2).mono ?_;rintro e w' ⟨rfl,rfl⟩) | (go_at_call 64;refine (aS _ _ _ _).mono ?_;rintro e w' ⟨rfl,rfl⟩)));go_ret;exact ⟨yF (xU (by rw [uH hp,uH hst];simp [qOk,uH G1])).symm,uH HB2⟩
   | true=>
    by_cases e2:p1=k
    ·subst e2;cases h3:inB mo 0 10000
     ·skip
      (go_wp2_with (first | (go_at_call 123;refine (uH CN _).mono ?_;rintro e w' ⟨rfl,rfl⟩) | (go_at_call_of 121 nm;refine (uH CP1).mono ?_;rintro e w' ⟨rfl,rfl⟩) | (go_at_call_of 121 pa;refine (uH CP2).mono ?_;rintro e w' ⟨rfl,rfl⟩) | (go_at_call 64;refine (aS _ _ _ _).mono ?_;rintro e w' ⟨rfl,rfl⟩)));go_ret;exact ⟨yF (xU (by rw [uH hp,uH hst];simp [qOk,uH G1,uH G2,h3])).symm,uH HB2⟩
     ·cases h4:inB du 0 mo
      ·skip
       (go_wp2_with (first | (go_at_call 123;refine (uH CN _).mono ?_;rintro e w' ⟨rfl,rfl⟩) | (go_at_call_of 121 nm;refine (uH CP1).mono ?_;rintro e w' ⟨rfl,rfl⟩) | (go_at_call_of 121 pa;refine (uH CP2).mono ?_;rintro e w' ⟨rfl,rfl⟩) | (go_at_call 64;refine (aS _ _ _ _).mono ?_;rintro e w' ⟨rfl,rfl⟩)));go_ret;exact ⟨yF (xU (by rw [uH hp,uH hst];simp [qOk,uH G1,uH G2,h3,h4])).symm,uH HB2⟩
      ·by_cases hk0:k=0
       ·(have k1:((k:Int)==0)=true:=by simp [hk0]);(have k2:¬(0:Int)<k:=by omega);(have k3:¬0<k:=by omega);have Zk:=aA hk0;clear hk0;have hbe:=nS pa;by_cases e5:pa=[]
        ·have E5:=aA e5;rw [decide_eq_true e5] at hbe;clear e5;by_cases e6:du=10000
         ·subst e6;(go_wp2_with (first | (go_at_call 123;refine (uH CN _).mono ?_;rintro e w' ⟨rfl,rfl⟩) | (go_at_call_of 121 nm;refine (uH CP1).mono ?_;rintro e w' ⟨rfl,rfl⟩) | (go_at_call_of 121 pa;refine (uH CP2).mono ?_;rintro e w' ⟨rfl,rfl⟩) | (go_at_call 64;refine (aS _ _ _ _).mono ?_;rintro e w' ⟨rfl,rfl⟩)));go_roundw;(case rel=>exact ⟨k+1,by omega,by go_num,aA (by rw [uH hp,uH hst];simp [qOk,uH G1,uH G2,h3,h4,uH Zk,uH E5]),HB2⟩);case measure=>simp [intOf];omega
         ·have E6:=aA e6;(have hd:(du==10000)=false:=by simp [e6]);clear e6;(go_wp2_with (first | (go_at_call 123;refine (uH CN _).mono ?_;rintro e w' ⟨rfl,rfl⟩) | (go_at_call_of 121 nm;refine (uH CP1).mono ?_;rintro e w' ⟨rfl,rfl⟩) | (go_at_call_of 121 pa;refine (uH CP2).mono ?_;rintro e w' ⟨rfl,rfl⟩) | (go_at_call 64;refine (aS _ _ _ _).mono ?_;rintro e w' ⟨rfl,rfl⟩)));go_ret;exact ⟨yF (xU (by rw [uH hp,uH hst];simp [qOk,uH G1,uH G2,h3,h4,uH Zk,uH E5,uH E6])).symm,uH HB2⟩
        ·have E5:=aA e5;rw [decide_eq_false e5] at hbe;clear e5;(go_wp2_with (first | (go_at_call 123;refine (uH CN _).mono ?_;rintro e w' ⟨rfl,rfl⟩) | (go_at_call_of 121 nm;refine (uH CP1).mono ?_;rintro e w' ⟨rfl,rfl⟩) | (go_at_call_of 121 pa;refine (uH CP2).mono ?_;rintro e w' ⟨rfl,rfl⟩) | (go_at_call 64;refine (aS _ _ _ _).mono ?_;rintro e w' ⟨rfl,rfl⟩)));go_ret;exact ⟨yF (xU (by rw [uH hp,uH hst];simp [qOk,uH G1,uH G2,h3,h4,uH Zk,uH E5])).symm,uH HB2⟩
       ·(have k1:((k:Int)==0)=false:=by simp [hk0]);(have k2:(0:Int)<k:=by omega);(have k3:0<k:=by omega);have Zk:=aA hk0;clear hk0;cases h7:inB p2 0 ((k:Int) - 1)
        ·skip
         (go_wp2_with (first | (go_at_call 123;refine (uH CN _).mono ?_;rintro e w' ⟨rfl,rfl⟩) | (go_at_call_of 121 nm;refine (uH CP1).mono ?_;rintro e w' ⟨rfl,rfl⟩) | (go_at_call_of 121 pa;refine (uH CP2).mono ?_;rintro e w' ⟨rfl,rfl⟩) | (go_at_call 64;refine (aS _ _ _ _).mono ?_;rintro e w' ⟨rfl,rfl⟩)));go_ret;exact ⟨yF (xU (by rw [uH hp,uH hst];simp [qOk,uH G1,uH G2,uH G3,h3,h4,h7,uH Zk])).symm,uH HB2⟩
        ·skip
         (go_wp2_with (first | (go_at_call 123;refine (uH CN _).mono ?_;rintro e w' ⟨rfl,rfl⟩) | (go_at_call_of 121 nm;refine (uH CP1).mono ?_;rintro e w' ⟨rfl,rfl⟩) | (go_at_call_of 121 pa;refine (uH CP2).mono ?_;rintro e w' ⟨rfl,rfl⟩) | (go_at_call 64;refine (aS _ _ _ _).mono ?_;rintro e w' ⟨rfl,rfl⟩)));go_roundw;(case rel=>exact ⟨k+1,by omega,by go_num,aA (by rw [uH hp,uH hst];simp [qOk,uH G1,uH G2,uH G3,h3,h4,h7,uH Zk]),HB2⟩);case measure=>simp [intOf];omega
    ·(have h2:(p1==(k:Int))=false:=by simp [e2]);have E2:=aA e2;clear e2;(go_wp2_with (first | (go_at_call 123;refine (uH CN _).mono ?_;rintro e w' ⟨rfl,rfl⟩) | (go_at_call_of 121 nm;refine (uH CP1).mono ?_;rintro e w' ⟨rfl,rfl⟩) | (go_at_call_of 121 pa;refine (uH CP2).mono ?_;rintro e w' ⟨rfl,rfl⟩) | (go_at_call 64;refine (aS _ _ _ _).mono ?_;rintro e w' ⟨rfl,rfl⟩)));go_ret;exact ⟨yF (xU (by rw [uH hp,uH hst];simp [qOk,uH G1,uH G2,uH E2])).symm,uH HB2⟩
  ·have ho:=aA (show iE l l 0=true by rw [uH hp];exact aF3 (by have:=uH HL;omega));have HD:=aA (aAp l 0 (uH ho));have HR2:=aA ((uH HR).below (uH HB));clear hp;go_wp2;(go_loopw [5] (fun i wx=>∃m:Nat,m≤len∧i=.int .i64 m∧Hid (kP l l=kP l (l.drop m))∧wx=wr) (fun i _=>len - (intOf i).toNat));(case atStart=>exact ⟨0,Nat.zero_le _,rfl,aA (by simp),rfl⟩);case round=>
    obtain ⟨m,hm,rfl,hp,rfl⟩:=hrel;by_cases hlm:m<len
    ·obtain ⟨b,off,rfl,hq⟩:=(uH HR2).at hlm;(have GJ:m<l.length:=by have:=uH HL;omega);have hst:=aA (aD2 (l:=l) (k:=m) GJ);have c0:=(hq GJ).1;clear hq;obtain ⟨nm,hs⟩:∃s,l[m].name=s:=⟨_,rfl⟩;rw [hs] at c0 hst;obtain ⟨t,ht⟩:∃t,iK l nm=t:=⟨_,rfl⟩;have CS:=aA (by have:=aFj (some ⟨b,off,none⟩) len cap l nm _ (uH HR2) hl (uH HD);rw [ht] at this;exact this);have UA:=aA ht;clear hs GJ ht;by_cases hgt:10000<t
     ·(go_wp2_with (go_at_call 124;refine (uH CS).mono ?_;rintro e w' ⟨rfl,rfl⟩));go_ret;exact ⟨yF (aK8 (by rw [uH hp,uH hst,uH UA];simp;omega)).symm,uH HB⟩
     ·(go_wp2_with (go_at_call 124;refine (uH CS).mono ?_;rintro e w' ⟨rfl,rfl⟩));go_roundw;(case rel=>exact ⟨m+1,by omega,by go_num,aA (by rw [uH hp,uH hst,uH UA];simp;omega),trivial⟩);case measure=>simp [intOf];omega
    ·have ZG:=aA (aK7 (uH ho) (show kP l l=true by rw [uH hp];exact aFJ (by have:=uH HL;omega)));have YS:=uH HL;have DR:=aA (show inB (len:Int) 1 20=aH l by rw [uH ZG,YS]);clear YS;(go_wp2_with (go_at_call 64;refine (aS _ _ _ _).mono ?_;rintro e w' ⟨rfl,rfl⟩));go_ret;exact ⟨yF (uH DR),uH HB⟩
def aAM (nm:List UInt8):List Q→Bool
 | []=>true
 | q::t=>decide (q.parent≠nm)&&aAM nm t
def aBb (l:List Q) (nm:List UInt8):Bool:=aAM nm l&&(aH l&&decide (0≤place l nm))
theorem aF4 (h:k<l.length):aAM nm (l.drop k)=(decide (l[k].parent≠nm)&&aAM nm (l.drop (k+1))):=by
 rw [List.drop_eq_getElem_cons h,aAM]
theorem aGt (h:l.length≤k):aAM nm (l.drop k)=true:=by
 rw [List.drop_of_length_le h];rfl
theorem lS (ao:Option Addr) (len cap:Nat) (l:List Q) (nm:List UInt8) (w:World) (h:gN w ao len l) (hl:len≤1048576) (hn:∀q ∈ l,q.name.length≤1048576) :
  cP 61 #[.slice ao len cap,.string (bs nm)] w fun e w'=>e=.returned (.bool (aBb l nm))∧Bw w w':=by
 have HR:=aA h;have HL:=aA h.1;have HN:=aA hn;clear h hn;go_enter func61,ntmps61;go_wp2;go_loopw [5] (fun i wr=>∃k:Nat,k≤len∧i=.int .i64 k∧Hid (aAM nm l=aAM nm (l.drop k))∧wr=w) (fun i _=>len - (intOf i).toNat);case atStart=>exact ⟨0,Nat.zero_le _,rfl,aA (by simp),rfl⟩
 case round=>
  obtain ⟨k,hk,rfl,hp,rfl⟩:=hrel;by_cases hlt:k<len
  ·obtain ⟨b,off,rfl,hq⟩:=(uH HR).at hlt;(have hkl:k<l.length:=by have:=uH HL;omega);have hst:=aA (aF4 (nm:=nm) (l:=l) (k:=k) hkl);have hq0:=(hq hkl).2.1;clear hq;obtain ⟨s,hs⟩:∃s,l[k].parent=s:=⟨_,rfl⟩;rw [hs] at hq0 hst;have hbe:=mQ s nm;clear hs hkl;by_cases he:s=nm
   ·have HE:=aA he;rw [decide_eq_true he] at hbe;clear he;go_wp2;go_ret;exact ⟨yF (by rw [aBb,uH hp,uH hst];simp [uH HE]),yH _ _⟩
   ·have HE:=aA he;rw [decide_eq_false he] at hbe;clear he;go_wp2;go_roundw;(case rel=>exact ⟨k+1,by omega,by go_num,aA (by rw [uH hp,uH hst];simp [uH HE]),trivial⟩);case measure=>simp [intOf];omega
  ·have hk2:=aA (show aBb l nm=(aH l&&decide (0≤place l nm)) by rw [aBb,uH hp,aGt (by have:=uH HL;omega)];rfl);have CQ:=aA (kM ao len cap l wr (uH HR) hl (uH HN));obtain ⟨o,ho⟩:∃o,aH l=o:=⟨_,rfl⟩;obtain ⟨p,hp2⟩:∃p,place l nm=p:=⟨_,rfl⟩;rw [ho] at CQ hk2;have CP:=aA (fun wx (hb:Bw wr wx)=>by have:=kJ ao len cap l nm wx ((uH HR).below hb) hl;rw [hp2] at this;exact this);rw [hp2] at hk2;clear ho hp2 hp;(go_wp2_with fail);refine (uH CQ).mono ?_;rintro e w1 ⟨rfl,hb⟩;have HB:=aA hb;clear hb CQ;cases o with
   | false=>go_wp2;go_ret;exact ⟨yF (by rw [uH hk2];rfl),uH HB⟩
   | true=>
    (go_wp2_with fail);refine (uH CP _ (uH HB)).mono ?_;rintro e w2 ⟨rfl,rfl⟩;by_cases h0:0≤p
    ·go_wp2;go_ret;exact ⟨yF (by rw [uH hk2];simp [h0]),uH HB⟩
    ·go_wp2;go_ret;exact ⟨yF (by rw [uH hk2];simp),uH HB⟩
def pU (s:St) (x:List UInt8):Int×Int:=ofR s.qs x (bS s).1 (bS s).2 false
theorem o9:aR 0 0=true:=by decide
theorem aA3:∀(l:List (Int×Int)) (x y:Int),aR x y=true→aR (aZ l x y).1 (aZ l x y).2.1=true
 | [],x,y,h=>h
 | r::t,x,y,h=>by
  rw [aZ];by_cases hb:aN 1 x y r.1 r.2=true
  ·rw [if_pos hb];refine aA3 t _ _ ?_;simp only [aN,yK] at hb;exact hb.2
  ·rw [if_neg hb];exact o9
theorem aJ4 (l:List (Int×Int)):aR (iY l).1 (iY l).2.1=true:=aA3 l 0 0 o9
theorem aJ2 (s:St) (nm:List UInt8):aR (aL s nm).1 (aL s nm).2=true:=aJ4 _
theorem aG3 (a b n:Int):aR (fF a b n) (fG a b n)=true:=by
 by_cases h:iA a b n=true
 ·have e1:fF a b n=a*n / 10000:=by rw [fF,if_pos h]
  have e2:fG a b n=b*n / 10000:=by rw [fG,if_pos h]
  rw [e1,e2];simp only [iA,aR,inB,yK,yL] at h ⊢;obtain ⟨⟨⟨h1,h2⟩,h3,h4⟩,h5,h6⟩:=h;have:=aAr h1 h2 h5 h6;have:=aAr h3 h4 h5 h6;omega
 ·have e1:fF a b n=0:=by rw [fF,if_neg h]
  have e2:fG a b n=0:=by rw [fG,if_neg h]
  rw [e1,e2];exact o9
theorem aKb (l:List Q) (most:Bool) {t:Int×Int} (h:aR t.1 t.2=true):∀p:List (List UInt8),aR (ofP l most t p).1 (ofP l most t p).2=true
 | []=>h
 | [_]=>h
 | n::m::r=>aG3 _ _ _
theorem aKa (l:List Q) (nm:List UInt8) (a b:Int) (most:Bool):aR (ofR l nm a b most).1 (ofR l nm a b most).2=true:=by
 rw [ofR];split
 ·exact o9
 ·rename_i h;refine aKb l most ?_ _;cases hr:aR a b
  ·exact absurd (.inr hr) h
  ·rfl
theorem aKw (s:St) (nm:List UInt8):aR (pU s nm).1 (pU s nm).2=true:=aKa _ _ _ _ _
end
section
open Go.RowKit Go.Shelf Go.Maps
variable {l:List AV} {W W' w:World}
attribute [local go_sem] Oper.semAt_some
def aJC (w:World) (c:Array Value):World:=((w.alloc (.cells c 29)).alloc (.map #[] 0)).alloc (.cells #[.map (some (w.heap.size+1))] 121)
theorem aDP (w:World) (c:Array Value):(aJC w c).heap.size=w.heap.size+1+1+1:=by simp only [aJC,yE]
theorem aGE (w:World) (c:Array Value):Bw w (aJC w c):=yA (yA (yA (yH _ w) _) _) _
theorem aJB (w:World) (c:Array Value):(aJC w c).ownsMap Tryz.prog 124 fU (w.heap.size+1) 0 (.map []):=by
 have:=(World.ownsMap_made (w.alloc (.cells c 29)) Tryz.prog 124 fU).alloc (.cells #[.map (some (w.heap.size+1))] 121);rw [yE] at this;exact this
theorem aJA (w:World) (c:Array Value):Blk (aJC w c) (w.heap.size+1+1) #[.map (some (w.heap.size+1))] 121:=by
 have:=yD ((w.alloc (.cells c 29)).alloc (.map #[] 0)) #[.map (some (w.heap.size+1))] 121;rw [yE,yE] at this;exact this
def o5 (w:World) (l:List AV) (W:World):Prop:=(∃D,W.ownsMap Tryz.prog 124 fU (w.heap.size+1) l.length D∧gD l aJH D)∧Blk W (w.heap.size+1+1) #[.map (some (w.heap.size+1))] 121
theorem o5.grown {row:Option Nat} (h:o5 w l W) (hg:W.grownBy W' row) (hr:∀r,row=some r→w.heap.size+1+1<r):o5 w l W':=by
 obtain ⟨⟨D,h1,h2⟩,h3⟩:=h;exact ⟨⟨D,h1.kept hg (fun e=>by have:=hr _ e.symm;omega),h2⟩,(hg.block _ h3.lt (fun e=>by have:=hr _ e.symm;omega)).trans h3⟩
theorem o5.below (h:o5 w l W) (hb:Bw W W'):o5 w l W':=h.grown (aI (aF W none) hb) (fun r e=>by cases e)
theorem aIy (x:Sls) (s:St) (hs:List AV) (w:World) (h:gM w x.aa x.al hs) (hl:x.al≤1048576) (hn:∀m ∈ hs,(Lit.int .i64 m.id).wf=true) :
  cP 76 #[sv x s] w fun e w'=>e=.returned (.map (some (w.heap.size+1)))∧o5 w hs w'∧Bw w w':=by
 obtain ⟨qa,ql,qc,aa,al,ac,ma,ml,mc,ca,cl,cc⟩:=x;obtain ⟨qs,cv,ez,nv,sj,aj,ms,cs⟩:=s;simp only at h hl;have HR:=aA h;have HL:=aA h.1;have HN:=aA hn;have hmx:Tryz.prog.follows .mixedOrders=true:=by kernel_rfl
 have hmm:=fun (t:TypeId) (wx:World)=>run_makeMap (P:=Tryz.prog) t wx
 clear h hn;refine (callsIn_wide (n:=3)).1 ?_;refine callsIn_of_wp_marks func76 rfl trivial ?_ rfl;simp only [ntmps76,List.size_toArray,List.length_cons,List.length_nil,Nat.reduceAdd,Nat.reduceSub,Array.replicate_succ,Array.replicate_zero,List.push_toArray,List.append_toArray,List.nil_append,List.cons_append]
 gi_wp2_with fail
 first | refine ⟨trivial,?_⟩ | skip
 first | refine ⟨(by intro e;cases e),?_⟩ | skip
 refine (callsIn_wide.2 (aHh (.slice aa al ac) _ rfl)).mono ?_;rintro e w4 ⟨rfl,rfl⟩
 gi_wp2
 have ZF:=yE (aJC w (svc ⟨qa,ql,qc,aa,al,ac,ma,ml,mc,ca,cl,cc⟩ ⟨qs,cv,ez,nv,sj,aj,ms,cs⟩)) (.cells #[.slice aa al ac] 25);rw [aDP] at ZF;have hB0:=yA (aGE w (svc ⟨qa,ql,qc,aa,al,ac,ma,ml,mc,ca,cl,cc⟩ ⟨qs,cv,ez,nv,sj,aj,ms,cs⟩)) (.cells #[.slice aa al ac] 25);have hI0:=o5.below (w:=w) (l:=[]) ⟨⟨_,aJB w (svc ⟨qa,ql,qc,aa,al,ac,ma,ml,mc,ca,cl,cc⟩ ⟨qs,cv,ez,nv,sj,aj,ms,cs⟩),aCn⟩,aJA w _⟩ (yA (yH _ _) (.cells #[.slice aa al ac] 25));have QP:=(yD (aJC w (svc ⟨qa,ql,qc,aa,al,ac,ma,ml,mc,ca,cl,cc⟩ ⟨qs,cv,ez,nv,sj,aj,ms,cs⟩)) #[.slice aa al ac] 25).at 0;rw [aDP] at QP;obtain ⟨W0,hW0⟩:∃W0,(aJC w (svc ⟨qa,ql,qc,aa,al,ac,ma,ml,mc,ca,cl,cc⟩ ⟨qs,cv,ez,nv,sj,aj,ms,cs⟩)).alloc (.cells #[.slice aa al ac] 25)=W0:=⟨_,rfl⟩;rw [hW0] at ZF hB0 hI0 QP;have HC:=aA (aER (3 - 1) (w.heap.size+1+1+1) al ac aa hs W0 QP ((uH HR).below hB0) hl (uH HN));show Code.wpIn _ _ _ _ _ _ ((aJC w (svc ⟨qa,ql,qc,aa,al,ac,ma,ml,mc,ca,cl,cc⟩ ⟨qs,cv,ez,nv,sj,aj,ms,cs⟩)).alloc (.cells #[.slice aa al ac] 25));rw [hW0];clear hW0 QP;refine wpIn_rangeFunc_ownH rfl (by omega) (gf:=180) (lb:=#[.pointer (some ⟨w.heap.size+1+1+1,0,none⟩)]) rfl trivial (enters_of func180 (by kernel_rfl) rfl)
  (uH HC) aIi aKq (yH _ _) (fun _=>rfl)
  (fun pre W=>o5 w ((pre.map (fun x:Int×NAV=>x.2.1)).reverse) W∧Bw w W)
  (fun _ _ _=>False)
  (OwnFrom.and (fun s X Y row hs hg hr=>o5.grown hs hg (fun r e=>by have:=(hr r e).1;omega)) (ownFrom_below (yJ _) (by omega)))
  (fun _ _ _ _ _ hs _ _=>hs)
  ⟨hI0,hB0⟩
  (fun x a' W=>∃Bx,w.heap.size+1+1<Bx∧Blk W Bx #[.int .i64 x.2.1.id,.string (bs x.2.1.queue),.slice x.2.1.ao x.2.1.len x.2.1.cap] 56∧a' = { tmps:=#[sv ⟨qa,ql,qc,aa,al,ac,ma,ml,mc,ca,cl,cc⟩ ⟨qs,cv,ez,nv,sj,aj,ms,cs⟩,.pointer (some ⟨w.heap.size,0,none⟩),.map none,.pointer (some ⟨w.heap.size+1+1,0,none⟩),undef,.pointer (some ⟨Bx,0,none⟩),.map (some (w.heap.size+1)),.pointer (some ⟨w.heap.size,5,none⟩),.slice aa al ac,.func (.func 180) #[] #[.pointer (some ⟨w.heap.size+1+1+1,0,none⟩)],.int .i64 x.1,avv x.2.1,undef,undef,undef,undef,undef],defers:=[] })
  (fun x a' _ X Y row hs hg hr=>by
   obtain ⟨Bx,h1,h2,h3⟩:=hs;refine ⟨Bx,h1,(hg.block Bx h2.lt (fun e=>?_)).trans h2,h3⟩;obtain ⟨_,o,ho,hc⟩:=hr Bx e.symm;rw [show X.heap[Bx]? = _ from h2] at ho;cases ho;cases hc)
  ?assign ?body ?done ?stop
 case assign=>
  rintro lp pre ⟨i,⟨⟨id,qu,zo,zl,zc⟩,hnm⟩⟩ W K ⟨hI,hB⟩ hK;have hlt:=hI.2.lt
  gi_wp2
  exact hK _ _ ((KeepsOthers.alloc _ _).from _) (sD (yA (yH _ W) _)) ⟨hI.below (yA (yH _ W) _),yA hB _⟩ ⟨W.heap.size,hlt,yD W _ _,rfl⟩
 case body=>
  rintro lp pre ⟨i,⟨⟨id,qu,zo,zl,zc⟩,hnm⟩⟩ a' W hlp _ ⟨hI,hB⟩ ⟨Bx,hBx,hX,rfl⟩ hlt;have HI:=aA hI;have HX:=aA hX;have HB:=aA hB;have x0:=hX.at 0;have x1:=hX.at 1;have x2:=hX.at 2;have v0:=hI.2.at 0;simp at x0 x1 x2 v0;have hpl:pre.length<1048576:=by have:=uH HL;omega
  clear hI hX hB;obtain ⟨kl,GG⟩:=aAx (nm:=[]) (k:=id) (by decide) hnm;have QD:=aA GG;clear GG
  gi_wp2_with fail
  gi_region_with_o (first | (first | refine ⟨trivial,?_⟩ | skip);(first | refine ⟨(by intro e;cases e),?_⟩ | skip);refine (CallsIn.inRound lp (callsIn_wide.2 (aGD ⟨id,qu,zo,zl,zc⟩ _))).mono ?_;rintro e wc ⟨rfl,hbc⟩;have HW3:=aA (yB (yH _ W).drew hbc);have y0:=((uH HX).below (uH HW3)).at 0;have y1:=((uH HX).below (uH HW3)).at 1;have y2:=((uH HX).below (uH HW3)).at 2;have u0:=((uH HI).below (uH HW3)).2.at 0;simp at y0 y1 y2 u0;obtain ⟨D,Hz,hk⟩:=((uH HI).below (uH HW3)).1;obtain ⟨w4,gq,Gj,GN⟩:=Hz.update kS underlying121 (by unfold maxLen;simp;omega) (uH QD) (mR ⟨id,qu,zo,zl,zc⟩);have Qk:=aA (And.intro Gj (And.intro GN (gD.put (m:=⟨id,qu,zo,zl,zc⟩) hk Hz.isMap (uH QD))));clear Gj GN hk Hz hbc)
  all_goals gi_wp2
  all_goals
   obtain ⟨f1,f2,f3⟩:=uH Qk;have GK:=(uH HW3);have hv4:=(f2.block _ ((uH HI).below GK).2.lt (by simp)).trans ((uH HI).below GK).2;have WV:o5 w (⟨id,qu,zo,zl,zc⟩::(pre.map (fun x:Int×NAV=>x.2.1)).reverse) w4:=⟨⟨_,f1,f3⟩,hv4⟩;refine ⟨((vF GK).from _).trans (KeepsFrom.of_grownBy f2 (fun j e=>by cases e;omega)),aIi (sD GK) (fun k o ho hc=>(f2.block k (lt_of_block ho) (fun e=>?_)).trans ho),by simpa using WV,?_⟩
   ·obtain ⟨D',hD',_⟩:=((uH HI).below GK).1;obtain ⟨es,ck,hm',_⟩:=hD';(obtain rfl:k=w.heap.size+1:=by simpa using e);rw [hm'] at ho;cases ho;cases hc
   ·exact ((uH HB).trans (GK.mono (uH HB).size)).grown f2 (by have:=(uH HB).size;have:=GK.size;omega) (fun k e=>by cases e;omega)
 case done=>
  rintro D ys W hD hys ⟨hI,hB⟩ hK;rw [uH hys,List.reverse_reverse] at hI;have v0:=hI.2.at 0;simp at v0;have HI:=aA hI;have HB:=aA hB;clear hI hB
  gi_wp2
  refine ⟨by simp,.inl ⟨_,_,rfl,run_takeDeferred hK,?_⟩⟩;exact ⟨_,results_tmp rfl _ _ _,rfl,(uH HI).grown (grownBy_putObj' W D _) (fun r e=>by cases e;omega),(uH HB).trans (belowK_b (w:=w) (yJ _) W D _ _ (by omega) hK rfl rfl)⟩
 case stop=>rintro D c pre W _ _ h _;exact h.elim
theorem aHm (x:Sls) (s:St) (hs:List AV) (w:World) (h:gM w x.aa x.al hs) (hl:x.al≤1048576) (hn:∀m ∈ hs,(Lit.int .i64 m.id).wf=true) :
  cP 76 #[sv x s] w fun e w'=>∃bm,e=.returned (.map (some bm))∧(w.heap.size≤bm∧∃D,w'.ownsMap Tryz.prog 124 fU bm hs.length D∧gD hs aJH D)∧Bw w w':=
 (aIy x s hs w h hl hn).mono fun e w' ⟨h1,h2,h3⟩=>⟨_,h1,⟨by omega,h2.1⟩,h3⟩
end
section
open Go.RowKit
variable {rx ry:Int} {l:List (TypeId×Nat×Option Addr×Nat)} {x:List UInt8} {B k sz:Nat} {ao:Option Addr} {s:St} {t:TypeId} {w w':World}
def kH (s:St) (x:List UInt8):Int×Int:=ofR s.qs x (bS s).1 (bS s).2 true
def rQ (s:St) (rx ry:Int) (x:List UInt8):Bool:=
 aN 1 (aL s x).1 (aL s x).2 rx ry&&within ((aL s x).1+1*rx) ((aL s x).2+1*ry) (kH s x).1 (kH s x).2
def aDa (s:St) (nm:List UInt8) (rx ry:Int):Bool:=decide (0<(path s.qs nm).length)&&(path s.qs nm).all (rQ s rx ry)
def bM (s:St):List (List UInt8)→Int→Int→Int×Int×Bool
 | [],a,b=>(a,b,true)
 | x::t,a,b=>if aN (-1) (kH s x).1 (kH s x).2 (aL s x).1 (aL s x).2=true then bM s t (min a ((kH s x).1 + -1*(aL s x).1)) (min b ((kH s x).2 + -1*(aL s x).2)) else (0,0,false)
theorem aBa {l:List (List UInt8)} (h:k<l.length) (a b:Int):bM s (l.drop k) a b=if aN (-1) (kH s l[k]).1 (kH s l[k]).2 (aL s l[k]).1 (aL s l[k]).2=true then bM s (l.drop (k+1)) (min a ((kH s l[k]).1 + -1*(aL s l[k]).1)) (min b ((kH s l[k]).2 + -1*(aL s l[k]).2)) else (0,0,false):=by
 rw [List.drop_eq_getElem_cons h,bM]
theorem aCg {l:List (List UInt8)} (h:l.length≤k) (a b:Int):bM s (l.drop k) a b=(a,b,true):=by
 rw [List.drop_of_length_le h];rfl
theorem aIQ (m1 m2 u1 u2 rx ry:Int) (hr:aR rx ry=true) (hb:aN (-1) m1 m2 u1 u2=true):(aN 1 u1 u2 rx ry&&within (u1+1*rx) (u2+1*ry) m1 m2)=(decide (rx≤m1 + -1*u1)&&decide (ry≤m2 + -1*u2)):=by
 rw [Bool.eq_iff_iff];simp only [aN,within,aR,inB,yK,yL] at hr hb ⊢;omega
theorem aJ8 (m1 m2 u1 u2 rx ry:Int) (hr:aR rx ry=true) (hb:aN (-1) m1 m2 u1 u2=false):(aN 1 u1 u2 rx ry&&within (u1+1*rx) (u2+1*ry) m1 m2)=false:=by
 rw [Bool.eq_false_iff] at hb ⊢;intro h;apply hb;simp only [aN,within,aR,inB,yK,yL] at hr h ⊢;omega
theorem aFP (hr:aR rx ry=true) (hb:aN (-1) (kH s x).1 (kH s x).2 (aL s x).1 (aL s x).2=true):rQ s rx ry x=(decide (rx≤(kH s x).1 + -1*(aL s x).1)&&decide (ry≤(kH s x).2 + -1*(aL s x).2)):=aIQ _ _ _ _ _ _ hr hb
theorem aGa (hr:aR rx ry=true) (hb:aN (-1) (kH s x).1 (kH s x).2 (aL s x).1 (aL s x).2=false):rQ s rx ry x=false:=aJ8 _ _ _ _ _ _ hr hb
theorem aCM {s:St} {rx ry:Int} (hr:aR rx ry=true):∀(ps:List (List UInt8)) (a b:Int),aR a b=true→((bM s ps a b).2.2&&within rx ry (bM s ps a b).1 (bM s ps a b).2.1)=(decide (rx≤a)&&decide (ry≤b)&&ps.all (rQ s rx ry))
 | [],a,b,h=>by rw [Bool.eq_iff_iff];simp [bM,within,hr,h];exact ⟨fun h=>⟨of_decide_eq_true h.1,of_decide_eq_true h.2⟩,fun h=>⟨decide_eq_true h.1,decide_eq_true h.2⟩⟩
 | x::t,a,b,h=>by
  rw [bM,List.all_cons];cases hb:aN (-1) (kH s x).1 (kH s x).2 (aL s x).1 (aL s x).2 with
  | true=>
   rw [if_pos rfl,aCM hr t _ _ ?_,aFP hr hb]
   ·rw [Bool.eq_iff_iff];simp only [yK,yL];constructor
    ·rintro ⟨⟨h1,h2⟩,h3⟩;exact ⟨⟨by omega,by omega⟩,⟨by omega,by omega⟩,h3⟩
    ·rintro ⟨⟨h1,h2⟩,⟨h3,h4⟩,h5⟩;exact ⟨⟨by omega,by omega⟩,h5⟩
   ·simp only [aN,aR,inB,yK,yL] at h hb ⊢;omega
  | false=>rw [if_neg (by simp),aGa hr hb];simp
theorem aJ9 (s:St) (nm:List UInt8) (rx ry:Int):aDa s nm rx ry=((bM s (path s.qs nm) 1000000000 1000000000).2.2&&decide (0<(path s.qs nm).length)&&within rx ry (bM s (path s.qs nm) 1000000000 1000000000).1 (bM s (path s.qs nm) 1000000000 1000000000).2.1):=by
 rw [aDa];cases hr:aR rx ry with
 | false=>
  have h1:∀a b,within rx ry a b=false:=fun a b=>by rw [within,hr];rfl
  rw [h1,Bool.and_false];cases hp:path s.qs nm with
  | nil=>simp
  | cons x t=>
   (have h2:rQ s rx ry x=false:=by rw [rQ,aN,hr];simp);simp [h2]
 | true=>have e:=aCM (s:=s) hr (path s.qs nm) 1000000000 1000000000 (by decide);have hr':=hr;simp only [aR,inB,yK,yL] at hr';rw [decide_eq_true (show rx≤1000000000 by omega),decide_eq_true (show ry≤1000000000 by omega)] at e;simp only [Bool.true_and] at e;rw [←e];cases (bM s (path s.qs nm) 1000000000 1000000000).2.2<;>simp [Bool.and_comm]
def aJa (w:World) (c:Array Value) (rx ry:Int):World:=(w.alloc (.cells c 29)).alloc (.cells #[.int .i64 rx,.int .i64 ry] 33)
theorem aD9 (w:World) (c:Array Value) (rx ry:Int):Bw w (aJa w c rx ry):=yA (yA (yH _ w) _) _
theorem aG9 (w:World) (c:Array Value) (rx ry:Int):Blk (aJa w c rx ry) w.heap.size c 29:=(yD w c _).al _
theorem aG8 (w:World) (c:Array Value) (rx ry:Int):Var (aJa w c rx ry) 33 (w.heap.size+1) rx ry:=by
 have:=aK (w.alloc (.cells c 29)) 33 rx ry;rwa [yE] at this
def RmL (B:Nat) (w:World) (l:List (TypeId×Nat×Option Addr×Nat)):Prop:=∀p ∈ l,eU B w.heap.size w p.1 p.2.1 p.2.2.1 p.2.2.2
theorem RmL.nil (B:Nat) (w:World):RmL B w []:=fun p hp=>absurd hp (by simp)
theorem RmL.cons {c:Nat} (h:eU B w.heap.size w t sz ao c) (hl:RmL B w l):RmL B w ((t,sz,ao,c)::l):=fun p hp=>by
 rcases List.mem_cons.1 hp with rfl | hp
 ·exact h
 ·exact hl p hp
theorem RmL.sub {l':List (TypeId×Nat×Option Addr×Nat)} (h:RmL B w l) (hs:∀p ∈ l',p ∈ l):RmL B w l':=fun p hp=>h p (hs p hp)
theorem RmL.below (h:RmL B w l) (hb:Bw w w'):RmL B w' l:=fun p hp=>((h p hp).below hb).mono (yJ _) hb.size
theorem nG {n:Nat} (h:eU B w.heap.size w t sz ao n) (k j:Nat) (v:Value):eU B (w.setCell ⟨k,j,none⟩ v).heap.size (w.setCell ⟨k,j,none⟩ v) t sz ao n:=(h.sc k j v).mono (yJ _) (by rw [cK];exact yJ _)
theorem RmL.sc (h:RmL B w l) (k j:Nat) (v:Value):RmL B (w.setCell ⟨k,j,none⟩ v) l:=fun p hp=>nG (h p hp) k j v
theorem RmL.grown {t':TypeId} {r:Option Nat} (h:RmL B w l) (hg:w.grownBy w' r) (hr:∀k,r=some k→∃N,Cel w t' k N) (ht:∀p ∈ l,t'≠p.1):RmL B w' l:=fun p hp=>by
 rcases h p hp with e | ⟨g,M,e,h1,h2,h3,h4⟩
 ·exact .inl e
 ·refine .inr ⟨g,M,e,h1,Nat.lt_of_lt_of_le h2 hg.size,h3.of_block (hg.block g h2 (fun e2=>?_)),h4⟩;obtain ⟨N,hc⟩:=hr g e2.symm;exact ht p hp (hc.type h3)
def RL4 (co:Option Addr) (cd:Nat) (mo:Option Addr) (md:Nat) (qo:Option Addr) (qd:Nat) (ns:List AV):List (TypeId×Nat×Option Addr×Nat):=(35,5,co,cd)::(103,4,mo,md)::(105,4,qo,qd)::ns.map (fun v=>(43,5,v.ao,v.cap))
theorem aIR (co:Option Addr) (cd:Nat) (mo:Option Addr) (md:Nat) (qo:Option Addr) (qd:Nat) (ns:List AV) (v:AV):∀p ∈ RL4 co cd mo md qo qd (ns++[v]),p ∈ (43,5,v.ao,v.cap)::RL4 co cd mo md qo qd ns:=fun p hp=>by
 simp only [RL4,List.map_append,List.map_cons,List.map_nil,List.mem_cons,List.mem_append,List.not_mem_nil,or_false] at hp ⊢;rcases hp with h | h | h | h | h<;>simp [h]
theorem aJb (co:Option Addr) (cd:Nat) (mo:Option Addr) (md:Nat) (qo:Option Addr) (qd:Nat) (ns:List AV):∀p ∈ RL4 co cd mo md qo qd ns,56≠p.1:=fun p hp=>by
 simp only [RL4,List.mem_cons,List.mem_map] at hp;rcases hp with rfl | rfl | rfl | ⟨v,_,rfl⟩<;>(simp only;decide)
theorem aJR {x:Sls} {hs:List AV} (h:RmL B w (RL4 x.ca x.cc x.ma x.mc x.qa x.qc hs)) (ha:eU B w.heap.size w 56 3 x.aa x.ac):RmS B w.heap.size w x hs:=
 ⟨h (105,4,x.qa,x.qc) (by simp [RL4]),ha,h (103,4,x.ma,x.mc) (by simp [RL4]),h (35,5,x.ca,x.cc) (by simp [RL4]),fun v hv=>h (43,5,v.ao,v.cap) (by simp only [RL4,List.mem_cons,List.mem_map];exact .inr (.inr (.inr ⟨v,hv,rfl⟩)))⟩
theorem oH (ao:Option Addr) (len cap:Nat) (l:List Q) (nm:List UInt8) (w:World) (h:gN w ao len l) (hl:len≤1048576) (hn:∀q ∈ l,q.name.length≤1048576) :
  cP 74 #[.slice ao len cap,.string (bs nm)] w fun e w'=>∃v,e=.returned v∧bR w.heap.size w' v (path l nm)∧Bw w w':=by
 obtain ⟨i0,hi,hz0,hz1,hz2⟩:=info_parts Tryz.infoS;have HR:=aA h;have HL:=aA h.1;have hlw:=h.1;have CQ:=aA (fun wx (hb:Bw w wx)=>kM ao len cap l wx (h.below hb) hl hn);have CP:=aA (fun (x:List UInt8) wx (hb:Bw w wx)=>kJ ao len cap l x wx (h.below hb) hl);obtain ⟨p0,hp0⟩:∃p,place l nm=p:=⟨_,rfl⟩;have hpr:p0 = -1∨(0≤p0∧p0<len):=by have:=fE l nm;rw [hp0] at this;omega
 have kz:=aA hp0;have CP0:=aA (by have:=(uH CP) nm (w.alloc (.cells #[] 9)) (yA (yH _ _) _);rw [hp0] at this;exact this);obtain ⟨ok,hok⟩:∃ok,aH l=ok:=⟨_,rfl⟩;rw [hok] at CQ;have Zz:=aA hok;have QQ:=aA (o8 w);clear h hn hp0 hok hlw;go_enter func74,ntmps74;go_wp2_with fail;refine (uH CP0).mono ?_;rintro e w1 ⟨rfl,rfl⟩;clear CP0;go_wp2;go_loopw [5,6] (fun v i wr=>∃(p:Int) (o:List ByteArray),i=.int .i64 p∧(p = -1∨(0≤p∧p<len))∧o.length+p<len+1∧Hid (ok=true→o++(eX l (l.length+1) p).map bs=(path l nm).map bs)∧Hid (ok=false→o=[])∧Hid (wr.ownsRow w.heap.size 9 1 v o.length (gW o))∧Hid (Bw w wr)) (fun _ i _=>(intOf i+1).toNat);case atStart=>refine ⟨p0,[],rfl,hpr,by simp;omega,aA (fun e=>?_),aA (fun _=>rfl),QQ,aA (yA (yH _ _) _)⟩;rw [path,uH Zz,e,if_pos rfl,uH kz];rfl
 case round=>
  obtain ⟨p,o,rfl,hp,ho,HO,HE,HS,HB⟩:=hrel;by_cases h0:0≤p
  ·obtain ⟨k,rfl⟩:∃k:Nat,p=k:=⟨p.toNat,by omega⟩;(have hlt:k<len:=by omega);cases ok with
   | false=>
    (go_wp2_with fail);refine (uH CQ _ (uH HB)).mono ?_;rintro e w2 ⟨rfl,hb⟩;have HB2:=aA (yB (uH HB) hb);have HS2:=aA (gQ (uH HS) hb);clear hb;go_wp2;go_ret;refine ⟨_,rfl,bR.of (uH HS2) ?_,uH HB2⟩;rw [uH HE (by first | rfl | trivial),show path l nm=[] by rw [path,uH Zz];rfl];rfl
   | true=>
    (have hkl:k<l.length:=by have:=uH HL;omega);have VM:=kG (uH Zz) hkl;have XX:=aGg (uH Zz) hkl (n:=l.length+1) (by omega);obtain ⟨b,off,rfl,hq⟩:=(uH HR).at hlt;have hqq:=hq hkl;obtain ⟨q,hs⟩:∃q,l[k]=q:=⟨_,rfl⟩;rw [hs] at hqq VM XX;obtain ⟨pn,hpn⟩:∃p,place l q.parent=p:=⟨_,rfl⟩;(have rq:pn = -1∨(0≤pn∧pn<len):=by have:=fE l q.parent;rw [hpn] at this;have:=uH HL;omega);rw [hpn] at VM XX;have UH:=aA hqq;have HST:=aA XX;have JP:=aA hpn;clear hq hqq hs hkl XX hpn;(go_wp2_with fail);refine (uH CQ _ (uH HB)).mono ?_;rintro e w2 ⟨rfl,hb⟩;have Hz:=gQ (uH HS) hb;have Gy:=yB (uH HB) hb;have HC:=aA ((uH UH).below Gy);have c0:=(uH HC).1;have hsz:=Gy.size;(have hol:o.length≤1048576:=by omega);clear hb HS HB CQ;(go_wp2_with (at_builtin;refine wpList_append_own _ rfl _ _ 40 rfl w.heap.size 9 i0 (.string .empty) 1 16 underlying40 hi hz0 hz1 hz2 rfl (by decide) _ _ _ rfl (Hz.alloc _) ⟨w2.heap.size,0,none⟩ 1 1 [.string (bs q.name)] rfl rfl ?c1 ?c2 ?c3 ?c4 ?c5 ?_));(case c1=>intro j v hj;match j,hj with | 0,hj=>simp at hj;subst hj;simp [Addr.add]);(case c2=>intro v hv;simp at hv;subst hv;rfl);(case c3=>unfold maxLen;omega);(case c4=>omega);(case c5=>simp;omega);intro v' w3 Hy Hw _;have R:=rE Gy Hz Hy Hw (by omega);have HR3:=aA R;have c1:=(show QAt w3 b (off+k*4) q from (uH UH).below R.2).2.1;clear Hy Hw Hz Gy c0 R HC;(go_wp2_with fail);refine (uH CP q.parent _ (uH HR3).2).mono ?_;rintro e w4 ⟨rfl,rfl⟩;rw [uH JP];go_wp2;go_roundw;(case rel=>exact ⟨pn,o++[bs q.name],rfl,rq,by simp;omega,aA (fun _=>by have:=uH HO (by first | rfl | trivial);rw [uH HST] at this;simpa using this),aA (fun e=>by cases e),aA (uH HR3).1,aA (uH HR3).2⟩);case measure=>simp [intOf];omega
  ·(have hp1:p = -1:=by omega);subst hp1;go_wp2;go_ret;refine ⟨_,rfl,bR.of (uH HS) ?_,uH HB⟩;cases ok with
   | true=>have:=uH HO (by first | rfl | trivial);rw [aEf (by omega)] at this;simpa using this
   | false=>rw [uH HE (by first | rfl | trivial),show path l nm=[] by rw [path,uH Zz];rfl];rfl
end
end Go.Proofs.YtfndhndlkcijoaaGreat
