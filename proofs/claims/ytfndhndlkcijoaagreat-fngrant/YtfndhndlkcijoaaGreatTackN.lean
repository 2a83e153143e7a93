/-
  One more queue behind a tree: what the program's pointsOk, dueOfKids and fits answer; walks over the dump.
-/
import Derived.Test.YtfndhndlkcijoaaGreatTackA
set_option maxRecDepth 100000
set_option maxHeartbeats 16000000
set_option linter.unusedVariables false
set_option linter.unusedSimpArgs false
open Go.Proofs.Tryz
namespace Go.Proofs.YtfndhndlkcijoaaGreat
section
open Go.RowKit
variable {l:List Q} {q:Q}
def fO (q:Q):Bool:=decide (0≤q.due∧q.due≤q.most∧q.most≤10000)
theorem aB5 (q:Q) (w:World) :
  cP 181 #[qv q] w fun e w'=>e=.returned (.bool (fO q))∧Bw w w':=by
 obtain ⟨nm,pa,d,m⟩:=q;by_cases h1:0≤d
 ·by_cases h2:d≤m
  ·by_cases h3:m≤10000
   ·(go_enter func181,ntmps181);go_wp2;go_ret;exact ⟨yF (by simp [fO,h1,h2,h3]),yA (yH _ _) _⟩
   ·(go_enter func181,ntmps181);go_wp2;go_ret;exact ⟨yF (by simp [fO];omega),yA (yH _ _) _⟩
  ·(go_enter func181,ntmps181);go_wp2;go_ret;exact ⟨yF (by simp [fO];omega),yA (yH _ _) _⟩
 ·go_enter func181,ntmps181
  go_wp2;go_ret;exact ⟨yF (by simp [fO];omega),yA (yH _ _) _⟩
theorem aBA (ao:Option Addr) (len cap:Nat) (l:List Q) (nm:List UInt8) (w:World) (h:gH w ao len l) (hl:len≤1048576) (hd:∀q ∈ l,0≤q.due∧q.due≤10000) :
  cP 182 #[.slice ao len cap,.string (bs nm)] w fun e w'=>e=.returned (.int .i64 (dE nm l))∧Bw w w':=by
 have HR:=aA h;have HL:=aA h.1;have HD:=aA hd;clear h hd;go_enter func182,ntmps182;go_wp2;go_loopw [5,7,10] (fun s _ i wr=>∃(k:Nat) (a:Int),k≤len∧i=.int .i64 k∧s=.int .i64 a∧0≤a∧a≤10000*k∧Hid (dE nm l=a+dE nm (l.drop k))∧Hid (Bw w wr)) (fun _ _ i _=>len - (intOf i).toNat);case atStart=>exact ⟨0,0,by omega,rfl,rfl,by omega,by omega,aA (by simp),aA (yH _ _)⟩
 case round=>
  obtain ⟨k,a,hk,rfl,rfl,ha0,ha1,hp,HB⟩:=hrel;by_cases hlt:k<len
  ·obtain ⟨b,off,rfl,hq⟩:=((uH HR).below (uH HB)).at hlt;(have hkl:k<l.length:=by have:=uH HL;omega);have hst:=aA (xK (nm:=nm) (l:=l) (k:=k) hkl);obtain ⟨c0,c1,c2,c3⟩:=hq hkl;obtain ⟨d0,d1⟩:=uH HD l[k] (yM _);clear hq;obtain ⟨⟨qn,pa,d,mo⟩,hs⟩:∃s,l[k]=s:=⟨_,rfl⟩;rw [hs] at c0 c1 c2 c3 hst d0 d1;simp only at c0 c1 c2 c3 d0 d1;have hbe:=l6 pa nm;have HB2:=aA (yA (uH HB) (aF6 ⟨qn,pa,d,mo⟩));clear hs hkl;by_cases he:pa=nm
   ·have HE:=aA he;rw [decide_eq_true he] at hbe;clear he;go_wp2;go_roundw;(case rel=>exact ⟨k+1,a+d,by omega,by go_num,by go_num,by omega,by omega,aA (by have e:=uH hst;simp only at e;rw [uH hp,e,if_pos (uH HE)];omega),HB2⟩);case measure=>simp [intOf];omega
   ·have HE:=aA he;rw [decide_eq_false he] at hbe;clear he;go_wp2;go_roundw;(case rel=>exact ⟨k+1,a,by omega,by go_num,rfl,by omega,by omega,aA (by have e:=uH hst;simp only at e;rw [uH hp,e,if_neg (uH HE)];omega),HB2⟩);case measure=>simp [intOf];omega
  ·go_wp2;go_ret;exact ⟨jA (by rw [uH hp,aAS (by have:=uH HL;omega)];omega),uH HB⟩
theorem uP {nm:List UInt8}:∀{l:List Q},(∀q ∈ l,0≤q.due∧q.due≤10000)→0≤dE nm l∧dE nm l≤10000*l.length
 | [],_=>by simp [dE]
 | x::t,h=>by
  have h1:=h x (by simp);have h2:=uP (nm:=nm) (l:=t) (fun q hq=>h q (by simp [hq]));rw [dE];simp only [List.length_cons];split<;>omega
theorem aJa (h:20≤l.length∨bN q.name=false∨0≤place l q.name∨fO q=false):aCH l q=false:=by
 cases e:aCH l q with
 | false=>rfl
 | true=>
  simp only [aCH,yK,yL] at e;simp only [fO] at h;obtain ⟨⟨⟨⟨a,b⟩,c⟩,d⟩,_⟩:=e;rcases h with h | h | h | h
  ·omega
  ·rw [b] at h;cases h
  ·omega
  ·rw [decide_eq_false_iff_not] at h;exact absurd d h
theorem aFG (h0:l.length<20) (h1:bN q.name=true) (h2:place l q.name<0) (h3:fO q=true) (h:l.length=0):aCH l q=decide (q.parent=[]∧q.due=10000∧q.most=10000):=by
 simp only [fO] at h3;rw [aCH,h1,h3,decide_eq_true h0,decide_eq_true h2,if_pos h];rfl
theorem aGm (h0:l.length<20) (h1:bN q.name=true) (h2:place l q.name<0) (h3:fO q=true) (h:l.length≠0):aCH l q=decide (0≤place l q.parent∧dE q.parent l+q.due≤10000):=by
 simp only [fO] at h3;rw [aCH,h1,h3,decide_eq_true h0,decide_eq_true h2,if_neg h];rfl
theorem aIR (ao:Option Addr) (len cap:Nat) (l:List Q) (q:Q) (w:World) (h:gH w ao len l) (hl:len≤1048576) (hn:q.name.length≤1048576) (hd:∀q ∈ l,0≤q.due∧q.due≤10000) :
  cP 135 #[.slice ao len cap,qv q] w fun e w'=>e=.returned (.bool (aCH l q))∧Bw w w':=by
 have hb0:=yA (yH _ w) (aF6 q);have HX:=aA (mF.new w q);have CN:=aA (fun wx=>by have:=lK (bs q.name) wx (by rw [cK];exact hn);rw [show (bs q.name).data.toList=q.name by simp [bs]] at this;exact this);have CP:=aA (fun wx (hb:Bw w wx) (nm:List UInt8)=>qM ao len cap l nm wx (h.below hb) hl);have CK:=aA (fun wx=>aB5 q wx);have CD:=aA (fun wx (hb:Bw w wx)=>aBA ao len cap l q.parent wx (h.below hb) hl hd);have HL:=aA h.1;have HB0:=aA hb0;have VE:=aA (@aJa l q);have ZM:=aA (@aFG l q);have Qv:=aA (@aGm l q);have QC:=aA (show 0≤dE q.parent l∧dE q.parent l≤10000*l.length from uP hd);clear h hn hd hb0;obtain ⟨b1,g1⟩:∃b,bN q.name=b:=⟨_,rfl⟩;obtain ⟨p1,g2⟩:∃p,place l q.name=p:=⟨_,rfl⟩;obtain ⟨b2,g3⟩:∃b,fO q=b:=⟨_,rfl⟩;obtain ⟨p2,g4⟩:∃p,place l q.parent=p:=⟨_,rfl⟩;obtain ⟨s,g5⟩:∃s,dE q.parent l=s:=⟨_,rfl⟩;obtain ⟨r,g6⟩:∃r,aCH l q=r:=⟨_,rfl⟩;rw [g1] at CN VE ZM Qv;rw [g2] at VE ZM Qv;rw [g3] at CK VE ZM Qv;rw [g4] at Qv;rw [g5] at CD Qv QC;rw [g6] at VE ZM Qv ⊢;have CP1:=aA (fun wx hb=>by have:=uH CP wx hb q.name;rw [g2] at this;exact this);have CP2:=aA (fun wx hb=>by have:=uH CP wx hb q.parent;rw [g4] at this;exact this);have hsb:0≤s∧s≤10000*1048576:=by have:=uH QC;have:=uH HL;omega
 have MX:b2=true→0≤q.due∧q.due≤q.most∧q.most≤10000:=fun e=>by rw [←g3,fO,yL] at e;exact e
 have HPR:=aA (show p2 = -1∨0≤p2 by have:=eT l q.parent;rw [g4] at this;omega);clear g1 g2 g3 g4 g5 g6 CP QC;obtain ⟨nm,pa,d,m⟩:=q;simp only at CN CP1 CP2 CD MX ZM Qv;have k0:=(uH HX).c0;have k1:=(uH HX).c1;have k2:=(uH HX).c2;have k3:=(uH HX).c3;simp only [aF6] at k0 k1 k2 k3;by_cases hA:20≤len
 ·go_enter func135,ntmps135
  go_wp2;go_ret;exact ⟨yF (uH VE (.inl (by have:=uH HL;omega))).symm,uH HB0⟩
 ·cases b1 with
  | false=>
   (go_enter func135,ntmps135);(go_wp2_with (go_at_call 139;refine (uH CN _).mono ?_;rintro e w' ⟨rfl,rfl⟩));go_ret;exact ⟨yF (uH VE (by simp)).symm,uH HB0⟩
  | true=>
   (go_enter func135,ntmps135);(go_wp2_with (go_at_call 139;refine (uH CN _).mono ?_;rintro e w' ⟨rfl,rfl⟩));refine (uH CP1 _ (uH HB0)).mono ?_;rintro e w1 ⟨rfl,hb1⟩;have HB1:=aA (yB (uH HB0) hb1);have WL:=aA ((uH HX).below hb1);clear k0 k1 k2 k3 hb1 HX HB0 CP1;have k0:=(uH WL).c0;have k1:=(uH WL).c1;have k2:=(uH WL).c2;have k3:=(uH WL).c3;simp only at k0 k1 k2 k3;by_cases hp:0≤p1
   ·go_wp2;go_ret;exact ⟨yF (uH VE (by simp [hp])).symm,uH HB1⟩
   ·(go_wp2_with fail);refine (uH CK _).mono ?_;rintro e w2 ⟨rfl,hb2⟩;have HB2:=aA (yB (uH HB1) hb2);have Jq:=aA ((uH WL).below hb2);clear k0 k1 k2 k3 hb2 WL HB1 CK;have k0:=(uH Jq).c0;have k1:=(uH Jq).c1;have k2:=(uH Jq).c2;have k3:=(uH Jq).c3;simp only at k0 k1 k2 k3;cases b2 with
    | false=>go_wp2;go_ret;exact ⟨yF (uH VE (by simp)).symm,uH HB2⟩
    | true=>
     obtain ⟨d0,d1,d2⟩:=MX rfl;clear MX;have hbe:=mV pa;by_cases hz:len=0
     ·(have z1:((len:Int)==0)=true:=by simp [hz]);have HZ:=aA (uH ZM (by have:=uH HL;omega) (by simp) (by omega) (by simp) (by have:=uH HL;omega));clear VE ZM Qv hz;by_cases e1:pa=[]
      ·have E1:=aA e1;rw [decide_eq_true e1] at hbe;clear e1;by_cases e2:d=10000
       ·(have f2:(d==10000)=true:=by simp [e2]);have E2:=aA e2;clear e2;by_cases e3:m=10000
        ·(have f3:(m==10000)=true:=by simp [e3]);have E3:=aA e3;clear e3;go_wp2;go_ret;exact ⟨yF (by rw [uH HZ];simp [uH E1,uH E2,uH E3]),uH HB2⟩
        ·(have f3:(m==10000)=false:=by simp [e3]);have E3:=aA e3;clear e3;go_wp2;go_ret;exact ⟨yF (by rw [uH HZ];simp [uH E1,uH E2,uH E3]),uH HB2⟩
       ·(have f2:(d==10000)=false:=by simp [e2]);have E2:=aA e2;clear e2;go_wp2;go_ret;exact ⟨yF (by rw [uH HZ];simp [uH E1,uH E2]),uH HB2⟩
      ·have E1:=aA e1;rw [decide_eq_false e1] at hbe;clear e1;go_wp2;go_ret;exact ⟨yF (by rw [uH HZ];simp [uH E1]),uH HB2⟩
     ·(have z1:((len:Int)==0)=false:=by simp [hz]);have HZ:=aA (uH Qv (by have:=uH HL;omega) (by simp) (by omega) (by simp) (by have:=uH HL;omega));(have hwr:IntKind.i64.wrap (s+d)=s+d:=by rw [IntKind.wrap_i64];omega);have A0:=aA (show QB w w.heap.size ⟨nm,pa,d,m⟩ w2 from ⟨uH Jq,uH HB2⟩);clear VE ZM Qv hbe;by_cases hp2:0≤p2
      ·have R:=QB.read w w.heap.size ⟨nm,pa,d,m⟩;simp only at R;clear k0 k1 k2 k3;(go_wp2_with fail);go_region_held3 (fun wx=>QB w w.heap.size ⟨nm,pa,d,m⟩ wx)
        (first | (with_reducible assumption) | exact (uH A0).drew | exact QB.call (by assumption) (by assumption))
        (first
        | (go_at_call 148;refine (uH CP2 _ (QB.call (w0:=w) (g:=w.heap.size) (q:=⟨nm,pa,d,m⟩) (by assumption) (yH _ _)).2).mono ?_;rintro e wt ⟨rfl,hb⟩;have SA:=QB.call (w0:=w) (g:=w.heap.size) (q:=⟨nm,pa,d,m⟩) (by assumption) hb)
        | (go_at_call 182;refine (uH CD _ (QB.call (w0:=w) (g:=w.heap.size) (q:=⟨nm,pa,d,m⟩) (by assumption) (yH _ _)).2).mono ?_;rintro e wt2 ⟨rfl,hb⟩;have SB:=QB.call (w0:=w) (g:=w.heap.size) (q:=⟨nm,pa,d,m⟩) (by assumption) hb))
       all_goals have HB3:=aA SB.2;clear SA SB R A0;go_wp2;go_ret;exact ⟨yF (by rw [uH HZ];simp [hp2]),uH HB3⟩
      ·(have MF:decide ((0:Int)≤p2)=false:=by simp;omega);have WP:=aA hp2;clear hp2;(go_wp2_with fail);first | (go_region_with (go_at_call 148;refine (uH CP2 _ ?_).mono ?_;(exact (uH HB2).drew);rintro e w3 ⟨rfl,hb⟩)) | fail
       all_goals have HB3:=aA (yB (uH HB2).drew hb);clear hb;go_wp2;go_ret;exact ⟨yF (by rw [uH HZ,decide_eq_false (by have:=uH WP;omega)]),uH HB3⟩
end
end Go.Proofs.YtfndhndlkcijoaaGreat
