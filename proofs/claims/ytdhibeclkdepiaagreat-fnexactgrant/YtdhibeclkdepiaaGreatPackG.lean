/-
  Several texts of this claim in one, made short by program: WithinS, QueuesOkS, LeafS, OverM, FitsM, IdxI, QBox, Digit, Name.
-/
import Derived.Test.YtdhibeclkdepiaaGreatPackF
import Derived.Shelf.Abstract
set_option maxRecDepth 100000
set_option maxHeartbeats 16000000
set_option linter.unusedVariables false
set_option linter.unusedSimpArgs false
namespace Go.Proofs.YtdhibeclkdepiaaGreat
section
open Go.RowKit
theorem specWithin_any (a b c d:Int) (w:World) :
  Calls Tryz.prog 95 #[rv a b,rv c d] w fun e w'=>e=.returned (.bool (within a b c d))∧Below w.heap.size w w':=by
 cases h1:resOk a b
 ·rw [show within a b c d=false by simp [within,h1]]
  go_enter Tryz.func95,Tryz.ntmps95
  go_wp2_with (go_at_call 94;refine (specResOk_any _ _ _).mono ?_;rintro e w' ⟨rfl,rfl⟩)
  go_ret
  refine ⟨rfl,?_⟩
  repeat (first | exact Below.refl _ _ | refine yA ?_ _ | refine Below.drew ?_ | refine yC ?_ _ _ _ (by omega))
 ·cases h2:resOk c d
  ·rw [show within a b c d=false by simp [within,h2]]
   go_enter Tryz.func95,Tryz.ntmps95
   go_wp2_with (go_at_call 94;refine (specResOk_any _ _ _).mono ?_;rintro e w' ⟨rfl,rfl⟩)
   go_ret
   refine ⟨rfl,?_⟩
   repeat (first | exact Below.refl _ _ | refine yA ?_ _ | refine Below.drew ?_ | refine yC ?_ _ _ _ (by omega))
  ·by_cases h3:a≤c
   ·by_cases h4:b≤d
    ·rw [show within a b c d=true by simp [within,h1,h2,h3,h4]]
     go_enter Tryz.func95,Tryz.ntmps95
     go_wp2_with (go_at_call 94;refine (specResOk_any _ _ _).mono ?_;rintro e w' ⟨rfl,rfl⟩)
     go_ret
     refine ⟨rfl,?_⟩
     repeat (first | exact Below.refl _ _ | refine yA ?_ _ | refine Below.drew ?_ | refine yC ?_ _ _ _ (by omega))
    ·rw [show within a b c d=false by simp [within,h4]]
     go_enter Tryz.func95,Tryz.ntmps95
     go_wp2_with (go_at_call 94;refine (specResOk_any _ _ _).mono ?_;rintro e w' ⟨rfl,rfl⟩)
     go_ret
     refine ⟨yF (decide_eq_false (by omega)),?_⟩
     repeat (first | exact Below.refl _ _ | refine yA ?_ _ | refine Below.drew ?_ | refine yC ?_ _ _ _ (by omega))
   ·rw [show within a b c d=false by simp [within,h3]]
    go_enter Tryz.func95,Tryz.ntmps95
    go_wp2_with (go_at_call 94;refine (specResOk_any _ _ _).mono ?_;rintro e w' ⟨rfl,rfl⟩)
    go_ret
    refine ⟨rfl,?_⟩
    repeat (first | exact Below.refl _ _ | refine yA ?_ _ | refine Below.drew ?_ | refine yC ?_ _ _ _ (by omega))
theorem specQueuesOk_any (ao:Option Addr) (len cap:Nat) (l:List Q) (w:World) (h:QRow w ao len l) (hl:len≤1048576) (hn:∀q ∈ l,q.name.length≤1048576) :
  Calls Tryz.prog 52 #[.slice ao len cap] w fun e w'=>e=.returned (.bool (queuesOk l))∧Below w.heap.size w w':=by
 have HR:=hide h
 have HL:=hide h.1
 have HN:=hide hn
 clear h hn
 go_enter Tryz.func52,Tryz.ntmps52
 go_wp2
 go_loopw [3] (fun i wr=>∃k:Nat,k≤len∧i=.int .i64 k∧Hid (okFrom l l 0=okFrom l (l.drop k) k)∧Hid (Below w.heap.size w wr)) (fun i _=>len - (intOf i).toNat)
 case atStart=>exact ⟨0,Nat.zero_le _,rfl,hide (by simp),hide (Below.refl _ _)⟩
 case round=>
  obtain ⟨k,hk,rfl,hp,HB⟩:=hrel
  by_cases hlt:k<len
  ·have HR2:=hide ((uH HR).below (uH HB))
   obtain ⟨b,off,rfl,hq⟩:=(uH HR2).at hlt
   have hkl:k<l.length:=by have:=uH HL;omega
   have hst:=hide (okFrom_step (l:=l) (k:=k) hkl)
   obtain ⟨c0,c1,c2,c3⟩:=hq hkl
   have hz:=uH HN l[k] (List.getElem_mem _)
   clear hq
   obtain ⟨⟨nm,pa,du,mo⟩,hs⟩:∃s,l[k]=s:=⟨_,rfl⟩
   rw [hs] at c0 c1 c2 c3 hst hz
   simp only at c0 c1 c2 c3 hz
   clear hs hkl
   obtain ⟨b1,g1⟩:∃b,nameOk nm=b:=⟨_,rfl⟩
   obtain ⟨p1,g2⟩:∃p,place l nm=p:=⟨_,rfl⟩
   obtain ⟨p2,g3⟩:∃p,place l pa=p:=⟨_,rfl⟩
   have CN:=hide (fun wx=>by have:=specNameOk_any (bs nm) wx (by rw [bs_size];exact hz);rw [show (bs nm).data.toList=nm by simp [bs],g1] at this;exact this)
   have RR:=(uH HR2).below (yA (Below.refl _ wr) (.cells #[.string (bs nm),.string (bs pa),.int .i64 du,.int .i64 mo] 100))
   have CP1:=hide (by have:=l03Place_any (some ⟨b,off,none⟩) len cap l nm _ RR hl;rw [g2] at this;exact this)
   have CP2:=hide (by have:=l03Place_any (some ⟨b,off,none⟩) len cap l pa _ RR hl;rw [g3] at this;exact this)
   have HB2:=hide (yA (uH HB) (.cells #[.string (bs nm),.string (bs pa),.int .i64 du,.int .i64 mo] 100))
   have G1:=hide g1
   have G2:=hide g2
   have G3:=hide g3
   clear g1 g2 g3 RR HR2 hz
   cases b1 with
   | false=>
    go_wp2_with (first | (go_at_call 87;refine (uH CN _).mono ?_;rintro e w' ⟨rfl,rfl⟩) | (go_at_call_of 88 nm;refine (uH CP1).mono ?_;rintro e w' ⟨rfl,rfl⟩) | (go_at_call_of 88 pa;refine (uH CP2).mono ?_;rintro e w' ⟨rfl,rfl⟩) | (go_at_call 42;refine (l01In_any _ _ _ _).mono ?_;rintro e w' ⟨rfl,rfl⟩))
    go_ret
    exact ⟨yF (ok_no1 (by rw [uH hp,uH hst];simp [qOk,uH G1])).symm,uH HB2⟩
   | true=>
    by_cases e2:p1=k
    ·subst e2
     cases h3:inB mo 0 10000
     ·skip
      go_wp2_with (first | (go_at_call 87;refine (uH CN _).mono ?_;rintro e w' ⟨rfl,rfl⟩) | (go_at_call_of 88 nm;refine (uH CP1).mono ?_;rintro e w' ⟨rfl,rfl⟩) | (go_at_call_of 88 pa;refine (uH CP2).mono ?_;rintro e w' ⟨rfl,rfl⟩) | (go_at_call 42;refine (l01In_any _ _ _ _).mono ?_;rintro e w' ⟨rfl,rfl⟩))
      go_ret
      exact ⟨yF (ok_no1 (by rw [uH hp,uH hst];simp [qOk,uH G1,uH G2,h3])).symm,uH HB2⟩
     ·cases h4:inB du 0 mo
      ·skip
       go_wp2_with (first | (go_at_call 87;refine (uH CN _).mono ?_;rintro e w' ⟨rfl,rfl⟩) | (go_at_call_of 88 nm;refine (uH CP1).mono ?_;rintro e w' ⟨rfl,rfl⟩) | (go_at_call_of 88 pa;refine (uH CP2).mono ?_;rintro e w' ⟨rfl,rfl⟩) | (go_at_call 42;refine (l01In_any _ _ _ _).mono ?_;rintro e w' ⟨rfl,rfl⟩))
       go_ret
       exact ⟨yF (ok_no1 (by rw [uH hp,uH hst];simp [qOk,uH G1,uH G2,h3,h4])).symm,uH HB2⟩
      ·by_cases hk0:k=0
       ·have k1:((k:Int)==0)=true:=by simp [hk0]
        have k2:¬(0:Int)<k:=by omega
        have k3:¬0<k:=by omega
        have HK0:=hide hk0
        clear hk0
        have hbe:=bs_empty pa
        by_cases e5:pa=[]
        ·have E5:=hide e5
         rw [decide_eq_true e5] at hbe
         clear e5
         by_cases e6:du=10000
         ·subst e6
          go_wp2_with (first | (go_at_call 87;refine (uH CN _).mono ?_;rintro e w' ⟨rfl,rfl⟩) | (go_at_call_of 88 nm;refine (uH CP1).mono ?_;rintro e w' ⟨rfl,rfl⟩) | (go_at_call_of 88 pa;refine (uH CP2).mono ?_;rintro e w' ⟨rfl,rfl⟩) | (go_at_call 42;refine (l01In_any _ _ _ _).mono ?_;rintro e w' ⟨rfl,rfl⟩))
          go_roundw
          case rel=>exact ⟨k+1,by omega,by go_num,hide (by rw [uH hp,uH hst];simp [qOk,uH G1,uH G2,h3,h4,uH HK0,uH E5]),HB2⟩
          case measure=>simp [intOf];omega
         ·have E6:=hide e6
          have hd:(du==10000)=false:=by simp [e6]
          clear e6
          go_wp2_with (first | (go_at_call 87;refine (uH CN _).mono ?_;rintro e w' ⟨rfl,rfl⟩) | (go_at_call_of 88 nm;refine (uH CP1).mono ?_;rintro e w' ⟨rfl,rfl⟩) | (go_at_call_of 88 pa;refine (uH CP2).mono ?_;rintro e w' ⟨rfl,rfl⟩) | (go_at_call 42;refine (l01In_any _ _ _ _).mono ?_;rintro e w' ⟨rfl,rfl⟩))
          go_ret
          exact ⟨yF (ok_no1 (by rw [uH hp,uH hst];simp [qOk,uH G1,uH G2,h3,h4,uH HK0,uH E5,uH E6])).symm,uH HB2⟩
        ·have E5:=hide e5
         rw [decide_eq_false e5] at hbe
         clear e5
         go_wp2_with (first | (go_at_call 87;refine (uH CN _).mono ?_;rintro e w' ⟨rfl,rfl⟩) | (go_at_call_of 88 nm;refine (uH CP1).mono ?_;rintro e w' ⟨rfl,rfl⟩) | (go_at_call_of 88 pa;refine (uH CP2).mono ?_;rintro e w' ⟨rfl,rfl⟩) | (go_at_call 42;refine (l01In_any _ _ _ _).mono ?_;rintro e w' ⟨rfl,rfl⟩))
         go_ret
         exact ⟨yF (ok_no1 (by rw [uH hp,uH hst];simp [qOk,uH G1,uH G2,h3,h4,uH HK0,uH E5])).symm,uH HB2⟩
       ·have k1:((k:Int)==0)=false:=by simp [hk0]
        have k2:(0:Int)<k:=by omega
        have k3:0<k:=by omega
        have HK0:=hide hk0
        clear hk0
        cases h7:inB p2 0 ((k:Int) - 1)
        ·skip
         go_wp2_with (first | (go_at_call 87;refine (uH CN _).mono ?_;rintro e w' ⟨rfl,rfl⟩) | (go_at_call_of 88 nm;refine (uH CP1).mono ?_;rintro e w' ⟨rfl,rfl⟩) | (go_at_call_of 88 pa;refine (uH CP2).mono ?_;rintro e w' ⟨rfl,rfl⟩) | (go_at_call 42;refine (l01In_any _ _ _ _).mono ?_;rintro e w' ⟨rfl,rfl⟩))
         go_ret
         exact ⟨yF (ok_no1 (by rw [uH hp,uH hst];simp [qOk,uH G1,uH G2,uH G3,h3,h4,h7,uH HK0])).symm,uH HB2⟩
        ·skip
         go_wp2_with (first | (go_at_call 87;refine (uH CN _).mono ?_;rintro e w' ⟨rfl,rfl⟩) | (go_at_call_of 88 nm;refine (uH CP1).mono ?_;rintro e w' ⟨rfl,rfl⟩) | (go_at_call_of 88 pa;refine (uH CP2).mono ?_;rintro e w' ⟨rfl,rfl⟩) | (go_at_call 42;refine (l01In_any _ _ _ _).mono ?_;rintro e w' ⟨rfl,rfl⟩))
         go_roundw
         case rel=>exact ⟨k+1,by omega,by go_num,hide (by rw [uH hp,uH hst];simp [qOk,uH G1,uH G2,uH G3,h3,h4,h7,uH HK0]),HB2⟩
         case measure=>simp [intOf];omega
    ·have h2:(p1==(k:Int))=false:=by simp [e2]
     have E2:=hide e2
     clear e2
     go_wp2_with (first | (go_at_call 87;refine (uH CN _).mono ?_;rintro e w' ⟨rfl,rfl⟩) | (go_at_call_of 88 nm;refine (uH CP1).mono ?_;rintro e w' ⟨rfl,rfl⟩) | (go_at_call_of 88 pa;refine (uH CP2).mono ?_;rintro e w' ⟨rfl,rfl⟩) | (go_at_call 42;refine (l01In_any _ _ _ _).mono ?_;rintro e w' ⟨rfl,rfl⟩))
     go_ret
     exact ⟨yF (ok_no1 (by rw [uH hp,uH hst];simp [qOk,uH G1,uH G2,uH E2])).symm,uH HB2⟩
  ·have ho:=hide (show okFrom l l 0=true by rw [uH hp];exact okFrom_end (by have:=uH HL;omega))
   have HD:=hide (okFrom_due l 0 (uH ho))
   have HR2:=hide ((uH HR).below (uH HB))
   clear hp
   go_wp2
   go_loopw [5] (fun i wx=>∃m:Nat,m≤len∧i=.int .i64 m∧Hid (sumsOk l l=sumsOk l (l.drop m))∧wx=wr) (fun i _=>len - (intOf i).toNat)
   case atStart=>exact ⟨0,Nat.zero_le _,rfl,hide (by simp),rfl⟩
   case round=>
    obtain ⟨m,hm,rfl,hp,rfl⟩:=hrel
    by_cases hlm:m<len
    ·obtain ⟨b,off,rfl,hq⟩:=(uH HR2).at hlm
     have hml:m<l.length:=by have:=uH HL;omega
     have hst:=hide (sumsOk_step (l:=l) (k:=m) hml)
     have c0:=(hq hml).1
     clear hq
     obtain ⟨nm,hs⟩:∃s,l[m].name=s:=⟨_,rfl⟩
     rw [hs] at c0 hst
     obtain ⟨t,ht⟩:∃t,kidsSum l nm=t:=⟨_,rfl⟩
     have CS:=hide (by have:=l03Sum_any (some ⟨b,off,none⟩) len cap l nm _ (uH HR2) hl (uH HD);rw [ht] at this;exact this)
     have HTT:=hide ht
     clear hs hml ht
     by_cases hgt:10000<t
     ·go_wp2_with (go_at_call 89;refine (uH CS).mono ?_;rintro e w' ⟨rfl,rfl⟩)
      go_ret
      exact ⟨yF (ok_no2 (by rw [uH hp,uH hst,uH HTT];simp;omega)).symm,uH HB⟩
     ·go_wp2_with (go_at_call 89;refine (uH CS).mono ?_;rintro e w' ⟨rfl,rfl⟩)
      go_roundw
      case rel=>exact ⟨m+1,by omega,by go_num,hide (by rw [uH hp,uH hst,uH HTT];simp;omega),trivial⟩
      case measure=>simp [intOf];omega
    ·have hfin:=hide (ok_yes (uH ho) (show sumsOk l l=true by rw [uH hp];exact sumsOk_end (by have:=uH HL;omega)))
     have HLL:=uH HL
     have hfin2:=hide (show inB (len:Int) 1 20=queuesOk l by rw [uH hfin,HLL])
     clear HLL
     go_wp2_with (go_at_call 42;refine (l01In_any _ _ _ _).mono ?_;rintro e w' ⟨rfl,rfl⟩)
     go_ret
     exact ⟨yF (uH hfin2),uH HB⟩
def noKid (nm:List UInt8):List Q→Bool
 | []=>true
 | q::t=>decide (q.parent≠nm)&&noKid nm t
def leaf (l:List Q) (nm:List UInt8):Bool:=noKid nm l&&(queuesOk l&&decide (0≤place l nm))
theorem noKid_step {nm:List UInt8} {l:List Q} {k:Nat} (h:k<l.length):noKid nm (l.drop k)=(decide (l[k].parent≠nm)&&noKid nm (l.drop (k+1))):=by
 rw [List.drop_eq_getElem_cons h,noKid]
theorem noKid_end {nm:List UInt8} {l:List Q} {k:Nat} (h:l.length≤k):noKid nm (l.drop k)=true:=by
 rw [List.drop_of_length_le h];rfl
theorem specLeaf_any (ao:Option Addr) (len cap:Nat) (l:List Q) (nm:List UInt8) (w:World) (h:QRow w ao len l) (hl:len≤1048576) (hn:∀q ∈ l,q.name.length≤1048576) :
  Calls Tryz.prog 90 #[.slice ao len cap,.string (bs nm)] w fun e w'=>e=.returned (.bool (leaf l nm))∧Below w.heap.size w w':=by
 have HR:=hide h
 have HL:=hide h.1
 have HN:=hide hn
 clear h hn
 go_enter Tryz.func90,Tryz.ntmps90
 go_wp2
 go_loopw [5] (fun i wr=>∃k:Nat,k≤len∧i=.int .i64 k∧Hid (noKid nm l=noKid nm (l.drop k))∧wr=w) (fun i _=>len - (intOf i).toNat)
 case atStart=>exact ⟨0,Nat.zero_le _,rfl,hide (by simp),rfl⟩
 case round=>
  obtain ⟨k,hk,rfl,hp,rfl⟩:=hrel
  by_cases hlt:k<len
  ·obtain ⟨b,off,rfl,hq⟩:=(uH HR).at hlt
   have hkl:k<l.length:=by have:=uH HL;omega
   have hst:=hide (noKid_step (nm:=nm) (l:=l) (k:=k) hkl)
   have hq0:=(hq hkl).2.1
   clear hq
   obtain ⟨s,hs⟩:∃s,l[k].parent=s:=⟨_,rfl⟩
   rw [hs] at hq0 hst
   have hbe:=bs_eq s nm
   clear hs hkl
   by_cases he:s=nm
   ·have HE:=hide he
    rw [decide_eq_true he] at hbe
    clear he
    go_wp2
    go_ret
    exact ⟨yF (by rw [leaf,uH hp,uH hst];simp [uH HE]),Below.refl _ _⟩
   ·have HE:=hide he
    rw [decide_eq_false he] at hbe
    clear he
    go_wp2
    go_roundw
    case rel=>exact ⟨k+1,by omega,by go_num,hide (by rw [uH hp,uH hst];simp [uH HE]),trivial⟩
    case measure=>simp [intOf];omega
  ·have hk2:=hide (show leaf l nm=(queuesOk l&&decide (0≤place l nm)) by rw [leaf,uH hp,noKid_end (by have:=uH HL;omega)];rfl)
   have CQ:=hide (specQueuesOk_any ao len cap l wr (uH HR) hl (uH HN))
   obtain ⟨o,ho⟩:∃o,queuesOk l=o:=⟨_,rfl⟩
   obtain ⟨p,hp2⟩:∃p,place l nm=p:=⟨_,rfl⟩
   rw [ho] at CQ hk2
   have CP:=hide (fun wx (hb:Below wr.heap.size wr wx)=>by have:=l03Place_any ao len cap l nm wx ((uH HR).below hb) hl;rw [hp2] at this;exact this)
   rw [hp2] at hk2
   clear ho hp2 hp
   go_wp2_with fail
   refine (uH CQ).mono ?_
   rintro e w1 ⟨rfl,hb⟩
   have HB:=hide hb
   clear hb CQ
   cases o with
   | false=>
    go_wp2
    go_ret
    exact ⟨yF (by rw [uH hk2];rfl),uH HB⟩
   | true=>
    go_wp2_with fail
    refine (uH CP _ (uH HB)).mono ?_
    rintro e w2 ⟨rfl,rfl⟩
    by_cases h0:0≤p
    ·go_wp2
     go_ret
     exact ⟨yF (by rw [uH hk2];simp [h0]),uH HB⟩
    ·go_wp2
     go_ret
     exact ⟨yF (by rw [uH hk2];simp),uH HB⟩
def dueV (s:St) (x:List UInt8):Int×Int:=ofR s.qs x (totalV s).1 (totalV s).2 false
theorem resOk_zero:resOk 0 0=true:=by decide
theorem sumFrom_ok:∀(l:List (Int×Int)) (x y:Int),resOk x y=true→resOk (sumFrom l x y).1 (sumFrom l x y).2.1=true
 | [],x,y,h=>h
 | r::t,x,y,h=>by
  rw [sumFrom]
  by_cases hb:bothOk 1 x y r.1 r.2=true
  ·rw [if_pos hb]
   refine sumFrom_ok t _ _ ?_
   simp only [bothOk,Bool.and_eq_true] at hb
   exact hb.2
  ·rw [if_neg hb];exact resOk_zero
theorem sumR_ok (l:List (Int×Int)):resOk (sumR l).1 (sumR l).2.1=true:=sumFrom_ok l 0 0 resOk_zero
theorem used_ok (s:St) (nm:List UInt8):resOk (usedByV s nm).1 (usedByV s nm).2=true:=sumR_ok _
theorem shares_ok (a b n:Int):resOk (shareM a b n) (shareC a b n)=true:=by
 by_cases h:shareOk a b n=true
 ·have e1:shareM a b n=a*n / 10000:=by rw [shareM,if_pos h]
  have e2:shareC a b n=b*n / 10000:=by rw [shareC,if_pos h]
  rw [e1,e2]
  simp only [shareOk,resOk,inB,Bool.and_eq_true,decide_eq_true_eq] at h ⊢
  obtain ⟨⟨⟨h1,h2⟩,h3,h4⟩,h5,h6⟩:=h
  have:=mul_bd h1 h2 h5 h6
  have:=mul_bd h3 h4 h5 h6
  omega
 ·have e1:shareM a b n=0:=by rw [shareM,if_neg h]
  have e2:shareC a b n=0:=by rw [shareC,if_neg h]
  rw [e1,e2];exact resOk_zero
theorem ofP_ok (l:List Q) (most:Bool) {t:Int×Int} (h:resOk t.1 t.2=true):∀p:List (List UInt8),resOk (ofP l most t p).1 (ofP l most t p).2=true
 | []=>h
 | [_]=>h
 | n::m::r=>shares_ok _ _ _
theorem ofR_ok (l:List Q) (nm:List UInt8) (a b:Int) (most:Bool):resOk (ofR l nm a b most).1 (ofR l nm a b most).2=true:=by
 rw [ofR]
 split
 ·exact resOk_zero
 ·rename_i h
  refine ofP_ok l most ?_ _
  cases hr:resOk a b
  ·exact absurd (.inr hr) h
  ·rfl
theorem due_ok (s:St) (nm:List UInt8):resOk (dueV s nm).1 (dueV s nm).2=true:=ofR_ok _ _ _ _ _
/-- a tree of queues, or nothing, is one with this one behind it -/
def fits (l : List Q) (q : Q) : Bool :=
  decide (l.length < 20) && nameOk q.name && decide (place l q.name < 0) && decide (0 ≤ q.due ∧ q.due ≤ q.most ∧ q.most ≤ 10000)
    && (if l.length = 0 then decide (q.parent = [] ∧ q.due = 10000 ∧ q.most = 10000) else decide (0 ≤ place l q.parent ∧ dueSum q.parent l + q.due ≤ 10000))
/-- a tree of queues, or nothing -/
def okT (l : List Q) : Bool := okFrom l l 0 && sumsOk l l && decide (l.length ≤ 20)
theorem placeFrom_snoc (nm : List UInt8) (q : Q) : ∀ (l : List Q) (k : Nat), placeFrom nm (l ++ [q]) k = if placeFrom nm l k < 0 then (if q.name = nm then ((k + l.length : Nat) : Int) else -1) else placeFrom nm l k
  | [], k => by simp [placeFrom]
  | x :: t, k => by
    rw [List.cons_append, placeFrom, placeFrom]
    by_cases h : x.name = nm
    · rw [if_pos h, if_pos h, if_neg (by omega)]
    · rw [if_neg h, if_neg h, placeFrom_snoc nm q t (k + 1)]
      simp only [List.length_cons, show k + 1 + t.length = k + (t.length + 1) by omega]
theorem place_snoc (l : List Q) (q : Q) (nm : List UInt8) : place (l ++ [q]) nm = if place l nm < 0 then (if q.name = nm then (l.length : Int) else -1) else place l nm := by
  unfold place
  rw [placeFrom_snoc, Nat.zero_add]
theorem placeFrom_mem {nm : List UInt8} : ∀ {l : List Q} {k : Nat}, (∃ q ∈ l, q.name = nm) → 0 ≤ placeFrom nm l k
  | [], _, h => by obtain ⟨q, hq, _⟩ := h; simp at hq
  | x :: t, k, h => by
    rw [placeFrom]
    by_cases e : x.name = nm
    · rw [if_pos e]; omega
    · rw [if_neg e]
      obtain ⟨q, hq, hn⟩ := h
      rcases List.mem_cons.1 hq with rfl | hq
      · exact absurd hn e
      · exact placeFrom_mem ⟨q, hq, hn⟩
theorem place_mem {l : List Q} {nm : List UInt8} (h : ∃ q ∈ l, q.name = nm) : 0 ≤ place l nm := placeFrom_mem h
theorem place_has {l : List Q} {nm : List UInt8} (h : 0 ≤ place l nm) : ∃ q ∈ l, q.name = nm := by
  refine Classical.byContradiction fun hc => ?_
  have : place l nm = -1 := placeFrom_none (fun q hq e => hc ⟨q, hq, e⟩)
  omega
theorem place_not {l : List Q} {nm : List UInt8} (h : place l nm < 0) : ∀ q ∈ l, q.name ≠ nm := fun q hq e => by
  have := place_mem (l := l) (nm := nm) ⟨q, hq, e⟩
  omega
theorem dueSum_append (nm : List UInt8) (q : Q) : ∀ l : List Q, dueSum nm (l ++ [q]) = dueSum nm l + (if q.parent = nm then q.due else 0)
  | [] => by simp [dueSum]
  | x :: t => by rw [List.cons_append, dueSum, dueSum, dueSum_append nm q t]; omega
theorem kidsSum_snoc (l : List Q) (q : Q) (nm : List UInt8) (h : 0 < l.length) : kidsSum (l ++ [q]) nm = kidsSum l nm + (if q.parent = nm then q.due else 0) := by
  cases l with
  | nil => simp at h
  | cons x t => exact dueSum_append nm q t
theorem dueSum_zero {nm : List UInt8} : ∀ {l : List Q}, (∀ q ∈ l, q.parent ≠ nm) → dueSum nm l = 0
  | [], _ => rfl
  | x :: t, h => by rw [dueSum, if_neg (h x (by simp)), dueSum_zero (fun q hq => h q (by simp [hq]))]; omega
theorem okFrom_iff {l : List Q} : ∀ (m : List Q) (k : Nat), okFrom l m k = true ↔ ∀ i (h : i < m.length), qOk l (k + i) m[i] = true
  | [], k => by simp [okFrom]
  | x :: t, k => by
    constructor
    · exact okFrom_at (x :: t) k
    · intro h
      rw [okFrom, Bool.and_eq_true]
      refine ⟨by have := h 0 (by simp); rw [Nat.add_zero] at this; exact this, (okFrom_iff t (k + 1)).2 fun i hi => ?_⟩
      have := h (i + 1) (by simpa using hi)
      rw [show k + 1 + i = k + (i + 1) by omega]
      simpa using this
theorem sumsOk_iff {l : List Q} : ∀ (m : List Q), sumsOk l m = true ↔ ∀ q ∈ m, kidsSum l q.name ≤ 10000
  | [] => by simp [sumsOk]
  | x :: t => by rw [sumsOk, Bool.and_eq_true, sumsOk_iff t]; simp
theorem okT_iff {l : List Q} : okT l = true ↔ (∀ i (h : i < l.length), qOk l i l[i] = true) ∧ (∀ q ∈ l, kidsSum l q.name ≤ 10000) ∧ l.length ≤ 20 := by
  rw [okT, Bool.and_eq_true, Bool.and_eq_true, okFrom_iff l 0, sumsOk_iff l, and_assoc]
  simp
theorem queuesOk_okT (l : List Q) : queuesOk l = (okT l && decide (0 < l.length)) := by
  rw [queuesOk, okT]
  cases okFrom l l 0 <;> cases sumsOk l l <;> simp [inB]
  rw [Bool.eq_iff_iff]; simp; omega
theorem qOk_snoc {l : List Q} {q : Q} {i : Nat} (hi : i < l.length) : qOk (l ++ [q]) i l[i] = qOk l i l[i] := by
  have h1 : 0 ≤ place l l[i].name := place_mem ⟨l[i], List.getElem_mem _, rfl⟩
  have h2 : place (l ++ [q]) l[i].name = place l l[i].name := by rw [place_snoc, if_neg (by omega)]
  have h3 : inB (place (l ++ [q]) l[i].parent) 0 ((i : Int) - 1) = inB (place l l[i].parent) 0 ((i : Int) - 1) := by
    rw [place_snoc]
    by_cases h : place l l[i].parent < 0
    · rw [if_pos h]
      simp only [inB]
      rw [decide_eq_false (p := 0 ≤ place l l[i].parent ∧ _) (by omega)]
      refine decide_eq_false ?_
      split <;> omega
    · rw [if_neg h]
  simp only [qOk, h2, h3]
theorem kid_due {l : List Q} (h : ∀ i (h : i < l.length), qOk l i l[i] = true) : ∀ q ∈ l, nameOk q.name = true ∧ 0 ≤ q.due ∧ q.due ≤ 10000 ∧ (q.parent = [] ∨ ∃ x ∈ l, x.name = q.parent) := fun q hq => by
  obtain ⟨i, hi, rfl⟩ := List.mem_iff_getElem.1 hq
  have := h i hi
  simp only [qOk, Bool.and_eq_true, decide_eq_true_eq, inB] at this
  obtain ⟨⟨⟨⟨a1, a2⟩, a3⟩, a4⟩, a5⟩ := this
  refine ⟨a1, a4.1, by omega, ?_⟩
  by_cases e : i = 0
  · rw [if_pos e] at a5
    simp only [Bool.and_eq_true, decide_eq_true_eq] at a5
    exact .inl a5.1
  · rw [if_neg e] at a5
    simp only [decide_eq_true_eq] at a5
    exact .inr (place_has a5.1)
theorem nameOk_ne {n : List UInt8} (h : nameOk n = true) : n ≠ [] := fun e => by simp [nameOk, e, inB] at h
theorem okT_snoc (l : List Q) (q : Q) : okT (l ++ [q]) = (okT l && fits l q) := by
  rw [Bool.eq_iff_iff, Bool.and_eq_true, okT_iff, okT_iff]
  have hA : (∀ i (h : i < (l ++ [q]).length), qOk (l ++ [q]) i (l ++ [q])[i] = true) ↔ (∀ i (h : i < l.length), qOk l i l[i] = true) ∧ qOk (l ++ [q]) l.length q = true := by
    constructor
    · intro h
      refine ⟨fun i hi => ?_, ?_⟩
      · have := h i (by simp; omega)
        rw [List.getElem_append_left hi, qOk_snoc hi] at this
        exact this
      · have := h l.length (by simp)
        simpa using this
    · rintro ⟨h1, h2⟩ i hi
      by_cases e : i < l.length
      · rw [List.getElem_append_left e, qOk_snoc e]; exact h1 i e
      · have : i = l.length := by simp at hi; omega
        subst this
        simpa using h2
  rw [hA]
  have hP : qOk (l ++ [q]) l.length q = true ↔ nameOk q.name = true ∧ place l q.name < 0 ∧ (0 ≤ q.due ∧ q.due ≤ q.most ∧ q.most ≤ 10000) ∧ (if l.length = 0 then q.parent = [] ∧ q.due = 10000 else 0 ≤ place l q.parent) := by
    simp only [qOk, Bool.and_eq_true, decide_eq_true_eq, inB]
    have e1 : place (l ++ [q]) q.name = (l.length : Int) ↔ place l q.name < 0 := by
      rw [place_snoc]
      have := place_range l q.name
      by_cases h : place l q.name < 0
      · simp [h]
      · rw [if_neg h]; constructor <;> intro _ <;> omega
    rw [e1]
    by_cases h0 : l.length = 0
    · rw [if_pos h0, if_pos h0]
      simp only [Bool.and_eq_true, decide_eq_true_eq]
      constructor
      · rintro ⟨⟨⟨⟨a, b⟩, c⟩, d⟩, e⟩; exact ⟨a, b, by omega, e⟩
      · rintro ⟨a, b, c, e⟩; exact ⟨⟨⟨⟨a, b⟩, by omega⟩, by omega⟩, e⟩
    · rw [if_neg h0, if_neg h0]
      simp only [decide_eq_true_eq]
      have e2 : (0 ≤ place (l ++ [q]) q.parent ∧ place (l ++ [q]) q.parent ≤ (l.length : Int) - 1) ↔ 0 ≤ place l q.parent := by
        rw [place_snoc]
        have := place_range l q.parent
        by_cases h : place l q.parent < 0
        · rw [if_pos h]; constructor
          · intro h'; split at h' <;> omega
          · intro h'; omega
        · rw [if_neg h]; constructor <;> intro _ <;> omega
      rw [e2]
      constructor
      · rintro ⟨⟨⟨⟨a, b⟩, c⟩, d⟩, e⟩; exact ⟨a, b, by omega, e⟩
      · rintro ⟨a, b, c, e⟩; exact ⟨⟨⟨⟨a, b⟩, by omega⟩, by omega⟩, e⟩
  have hF : fits l q = true ↔ l.length < 20 ∧ nameOk q.name = true ∧ place l q.name < 0 ∧ (0 ≤ q.due ∧ q.due ≤ q.most ∧ q.most ≤ 10000) ∧ (if l.length = 0 then q.parent = [] ∧ q.due = 10000 ∧ q.most = 10000 else 0 ≤ place l q.parent ∧ dueSum q.parent l + q.due ≤ 10000) := by
    by_cases h0 : l.length = 0 <;> simp only [fits, h0, if_true, if_false, Bool.and_eq_true, decide_eq_true_eq, and_assoc]
  rw [hP, hF]
  by_cases h0 : l.length = 0
  · have hl : l = [] := List.eq_nil_of_length_eq_zero h0
    subst hl
    simp only [List.length_nil, if_true, List.nil_append, List.length_cons, List.mem_singleton, forall_eq]
    have hk : kidsSum [q] q.name = 0 := rfl
    rw [hk]
    constructor
    · rintro ⟨⟨_, a, b, c, d, e⟩, _⟩
      exact ⟨⟨fun i hi => by simp at hi, fun x hx => by simp at hx, by omega⟩, by omega, a, b, c, d, e, by omega⟩
    · rintro ⟨_, _, a, b, c, d, e, f⟩
      exact ⟨⟨fun i hi => by simp at hi, a, b, c, d, e⟩, by omega, by omega⟩
  · rw [if_neg h0, if_neg h0]
    have hlp : 0 < l.length := by omega
    constructor
    · rintro ⟨⟨h1, a, b, c, d⟩, h2, h3⟩
      have hk := kid_due h1
      have h4 : ∀ x ∈ l, kidsSum l x.name + (if q.parent = x.name then q.due else 0) ≤ 10000 := fun x hx => by
        have := h2 x (by simp [hx])
        rwa [kidsSum_snoc l q x.name hlp] at this
      refine ⟨⟨h1, fun x hx => ?_, by simp at h3; omega⟩, by simp at h3; omega, a, b, c, d, ?_⟩
      · have := h4 x hx
        split at this <;> omega
      · obtain ⟨x, hx, hn⟩ := place_has d
        have := h4 x hx
        rw [hn, if_pos rfl] at this
        have hd : dueSum q.parent l = kidsSum l q.parent := by
          cases l with
          | nil => simp at hlp
          | cons y t =>
            show dueSum q.parent (y :: t) = dueSum q.parent t
            rw [dueSum, if_neg, Int.zero_add]
            intro e
            have hy := h1 0 (by simp)
            simp only [qOk, List.getElem_cons_zero, if_true, Bool.and_eq_true, decide_eq_true_eq] at hy
            exact nameOk_ne (hk x hx).1 (by rw [hn, ← e, hy.2.1])
        omega
    · rintro ⟨⟨h1, h2, h3⟩, h4, a, b, c, d, e⟩
      have hk := kid_due h1
      have hd : kidsSum l q.parent ≤ dueSum q.parent l := by
        cases l with
        | nil => simp at hlp
        | cons y t =>
          show dueSum q.parent t ≤ dueSum q.parent (y :: t)
          rw [dueSum]
          have := (hk y (by simp)).2.1
          split <;> omega
      refine ⟨⟨h1, a, b, c, d⟩, fun x hx => ?_, by simp; omega⟩
      rw [kidsSum_snoc l q x.name hlp]
      rcases List.mem_append.1 hx with hx | hx
      · have := h2 x hx
        split
        · rename_i hq
          rw [hq] at hd e
          omega
        · omega
      · have : x = q := by simpa using hx
        subst this
        have hz : kidsSum l x.name = 0 := by
          cases l with
          | nil => simp at hlp
          | cons y t =>
            refine dueSum_zero (l := t) fun z hz hp => ?_
            rcases (hk z (by simp [hz])).2.2.2 with hn | ⟨u, hu, hn⟩
            · exact nameOk_ne a (by rw [← hp, hn])
            · exact place_not b u hu (by rw [hn, hp])
        have : x.parent ≠ x.name := fun hp => by rw [hp] at d; omega
        rw [if_neg this, hz]
        omega
theorem okT_take_succ {l : List Q} {k : Nat} (h : k < l.length) : okT (l.take (k + 1)) = (okT (l.take k) && fits (l.take k) l[k]) := by
  rw [List.take_succ_eq_append_getElem h, okT_snoc]
/-- where a beginning is none, the whole is none -/
theorem okT_take_false {l : List Q} {k : Nat} (h : okT (l.take k) = false) : okT l = false := by
  by_cases hk : k < l.length
  · have : ∀ n, k ≤ n → n ≤ l.length → okT (l.take n) = false := by
      intro n hn
      induction n with
      | zero => intro _; have : k = 0 := by omega
                subst this; exact h
      | succ m ih =>
        intro hm
        by_cases e : k = m + 1
        · subst e; exact h
        · rw [okT_take_succ (by omega), ih (by omega) (by omega)]; rfl
    have := this l.length (by omega) (Nat.le_refl _)
    rwa [List.take_length] at this
  · rwa [List.take_of_length_le (by omega)] at h
theorem okT_due {l : List Q} (h : okT l = true) : ∀ q ∈ l, 0 ≤ q.due ∧ q.due ≤ 10000 := fun q hq => by
  have := kid_due (okT_iff.1 h).1 q hq
  exact ⟨this.2.1, this.2.2.1⟩
def idxFrom (p:Q→Bool):List Q→Nat→Int
 | [],_=>-1
 | q::t,k=>if p q=true then (k:Int) else idxFrom p t (k+1)
theorem idxFrom_step {p:Q→Bool} {l:List Q} {k:Nat} (h:k<l.length):idxFrom p (l.drop k) k=if p l[k]=true then (k:Int) else idxFrom p (l.drop (k+1)) (k+1):=by
 rw [List.drop_eq_getElem_cons h,idxFrom]
theorem idxFrom_end {p:Q→Bool} {l:List Q} {k:Nat} (h:l.length≤k):idxFrom p (l.drop k) k = -1:=by
 rw [List.drop_of_length_le h];rfl
theorem idx_place (nm:List UInt8):∀(l:List Q) (k:Nat),idxFrom (fun q=>decide (q.name=nm)) l k=placeFrom nm l k
 | [],_=>rfl
 | q::t,k=>by
  rw [idxFrom,placeFrom,idx_place nm t (k+1)]
  by_cases h:q.name=nm<;>simp [h]
theorem idx_has (p:Q→Bool):∀(l:List Q) (k:Nat),decide (0≤idxFrom p l k)=l.any p
 | [],_=>by simp [idxFrom]
 | q::t,k=>by
  rw [idxFrom,List.any_cons]
  by_cases h:p q=true
  ·rw [if_pos h,h];simp
  ·rw [if_neg h,idx_has p t (k+1)];simp [h]
theorem indexFunc_any (g:Nat) (lb:Array Value) (eg:∀args w,(callFunc g args).run Tryz.prog w=.ok (.enter g args) w) (p:Q→Bool) (ao:Option Addr) (len cap:Nat) (l:List Q) (w:World) (h:QRow w ao len l) (hl:len≤1048576)
  (hp:∀wx q,Below w.heap.size w wx→Calls Tryz.prog g (#[qv q]++lb) wx fun e w'=>e=.returned (.bool (p q))∧Below wx.heap.size wx w') :
  Calls Tryz.prog 178 #[.slice ao len cap,.func (.func g) #[] lb] w fun e w'=>e=.returned (.int .i64 (idxFrom p l 0))∧Below w.heap.size w w':=by
 have HR:=hide h
 have HL:=hide h.1
 have HP:=hide hp
 clear h hp
 go_enter Tryz.func178,Tryz.ntmps178
 go_wp2
 go_loopw [5,8] (fun _ i wr=>∃k:Nat,k≤len∧i=.int .i64 k∧Hid (idxFrom p l 0=idxFrom p (l.drop k) k)∧Hid (Below w.heap.size w wr)) (fun _ i _=>len - (intOf i).toNat)
 case atStart=>exact ⟨0,Nat.zero_le _,rfl,hide (by simp),hide (Below.refl _ _)⟩
 case round=>
  obtain ⟨k,hk,rfl,hq,HB⟩:=hrel
  by_cases hlt:k<len
  ·obtain ⟨b,off,rfl,hx⟩:=((uH HR).below (uH HB)).at hlt
   have hkl:k<l.length:=by have:=uH HL;omega
   have hst:=hide (idxFrom_step (p:=p) (l:=l) (k:=k) hkl)
   obtain ⟨c0,c1,c2,c3⟩:=hx hkl
   clear hx
   obtain ⟨⟨nm,pa,du,mo⟩,hs⟩:∃s,l[k]=s:=⟨_,rfl⟩
   rw [hs] at c0 c1 c2 c3 hst
   simp only at c0 c1 c2 c3
   have HC:=hide (uH HP wr ⟨nm,pa,du,mo⟩ (uH HB))
   clear hs hkl HP
   cases hpq:p ⟨nm,pa,du,mo⟩ with
   | true=>
    rw [hpq] at HC
    have HQ:=hide hpq
    clear hpq
    go_wp2_with (go_at_fn g;refine (uH HC).mono ?_;rintro e w' ⟨rfl,hb⟩)
    go_ret
    exact ⟨ret_int (by rw [uH hq,uH hst,if_pos (uH HQ)]),yB (uH HB) hb⟩
   | false=>
    rw [hpq] at HC
    have HQ:=hide hpq
    clear hpq
    go_wp2_with (go_at_fn g;refine (uH HC).mono ?_;rintro e w' ⟨rfl,hb⟩)
    go_roundw
    case rel=>exact ⟨k+1,by omega,by go_num,hide (by rw [uH hq,uH hst,if_neg (by rw [uH HQ];simp)]),hide (yB (uH HB) hb)⟩
    case measure=>simp [intOf];omega
  ·go_wp2
   go_ret
   exact ⟨ret_int (by rw [uH hq,idxFrom_end (by have:=uH HL;omega)]),uH HB⟩
theorem placeFn_any (B:Nat) (nm:List UInt8) (q:Q) (w:World) (hc:w.cell? ⟨B,0,none⟩=some (.string (bs nm))) :
  Calls Tryz.prog 179 #[qv q,.pointer (some ⟨B,0,none⟩)] w fun e w'=>e=.returned (.bool (decide (q.name=nm)))∧Below w.heap.size w w':=by
 have hlt:=yG hc
 have hc2:(w.alloc (.cells #[.string (bs q.name),.string (bs q.parent),.int .i64 q.due,.int .i64 q.most] 100)).cell? ⟨B,0,none⟩=some (.string (bs nm)):=by rw [World.cell?_alloc_lt _ _ ⟨B,0,none⟩ hlt];exact hc
 have hbe:=bs_eq q.name nm
 clear hc hlt
 go_enter Tryz.func179,Tryz.ntmps179
 go_wp2
 go_ret
 exact ⟨rfl,yA (Below.refl _ _) _⟩
theorem place_any (ao:Option Addr) (len cap:Nat) (l:List Q) (nm:List UInt8) (w:World) (h:QRow w ao len l) (hl:len≤1048576) :
  Calls Tryz.prog 141 #[.slice ao len cap,.string (bs nm)] w fun e w'=>e=.returned (.int .i64 (place l nm))∧Below w.heap.size w w':=by
 have hmf:∀(fn:Fn) (first cap:Array Value) (w:World),(Instr.makeFunc fn first cap).run Tryz.prog w=.ok (.func fn first cap) w:=fun _ _ _ _=>rfl
 have hb0:=yA (Below.refl _ w) (.cells #[.string (bs nm)] 9)
 have C:=hide (indexFunc_any 179 #[.pointer (some ⟨w.heap.size,0,none⟩)] (enters_of Tryz.func179 (by kernel_rfl) rfl) (fun q=>decide (q.name=nm)) ao len cap l _ (h.below hb0) hl
  (fun wx q hb=>placeFn_any w.heap.size nm q wx ((hb.cell (p:=⟨w.heap.size,0,none⟩) (by simp)).trans (by simp))))
 rw [idx_place] at C
 obtain ⟨p,hp⟩:∃p,placeFrom nm l 0=p:=⟨_,rfl⟩
 rw [show place l nm=p from hp]
 rw [hp] at C
 have HB0:=hide hb0
 clear h hb0 hp
 go_enter Tryz.func141,Tryz.ntmps141
 go_wp2_with fail
 refine (uH C).mono ?_
 rintro e w1 ⟨rfl,hb⟩
 have HB:=hide (yB (uH HB0) hb)
 clear hb
 go_wp2
 go_ret
 exact ⟨rfl,uH HB⟩
abbrev qobj (q:Q):Obj:=.cells #[.string (bs q.name),.string (bs q.parent),.int .i64 q.due,.int .i64 q.most] 100
def QBox (w:World) (g:Nat) (q:Q):Prop:=w.heap[g]? = some (qobj q)
theorem QBox.new (w:World) (q:Q):QBox (w.alloc (qobj q)) w.heap.size q:=by show (w.heap.push _)[w.heap.size]? = _;simp
theorem QBox.lt {w:World} {g:Nat} {q:Q} (h:QBox w g q):g<w.heap.size:=lt_of_block h
theorem QBox.below {w w':World} {g:Nat} {q:Q} (h:QBox w g q) (hb:Below w.heap.size w w'):QBox w' g q:=(hb.block g h.lt).trans h
theorem QBox.c0 {w:World} {g:Nat} {q:Q} (h:QBox w g q):w.cell? ⟨g,0,none⟩=some (.string (bs q.name)):=by unfold QBox at h;simp [World.cell?,h]
theorem QBox.c1 {w:World} {g:Nat} {q:Q} (h:QBox w g q):w.cell? ⟨g,1,none⟩=some (.string (bs q.parent)):=by unfold QBox at h;simp [World.cell?,h]
theorem QBox.c2 {w:World} {g:Nat} {q:Q} (h:QBox w g q):w.cell? ⟨g,2,none⟩=some (.int .i64 q.due):=by unfold QBox at h;simp [World.cell?,h]
theorem QBox.c3 {w:World} {g:Nat} {q:Q} (h:QBox w g q):w.cell? ⟨g,3,none⟩=some (.int .i64 q.most):=by unfold QBox at h;simp [World.cell?,h]
def QB (w0:World) (g:Nat) (q:Q) (w:World):Prop:=QBox w g q∧Below w0.heap.size w0 w
theorem QB.call {w0 w w':World} {g:Nat} {q:Q} (h:QB w0 g q w) (hb:Below w.heap.size w w'):QB w0 g q w':=⟨h.1.below hb,yB h.2 hb⟩
theorem QB.drew {w0 w:World} {g:Nat} {q:Q} (h:QB w0 g q w):QB w0 g q w.drew:=h.call (Below.refl _ _).drew
theorem QB.read (w0:World) (g:Nat) (q:Q):∀wx,QB w0 g q wx→wx.cell? ⟨g,0,none⟩=some (.string (bs q.name))∧wx.cell? ⟨g,1,none⟩=some (.string (bs q.parent))∧wx.cell? ⟨g,2,none⟩=some (.int .i64 q.due)∧wx.cell? ⟨g,3,none⟩=some (.int .i64 q.most):=fun wx h=>⟨h.1.c0,h.1.c1,h.1.c2,h.1.c3⟩
theorem isDigit_any (x:Int) (w:World) :
  Calls Tryz.prog 149 #[.int .u8 x] w fun e w'=>e=.returned (.bool (inB x 48 57))∧w'=w:=by
 by_cases h1:48≤x
 ·by_cases h2:x≤57
  ·go_enter Tryz.func149,Tryz.ntmps149
   go_wp2
   go_ret
   exact ⟨yF (inB_true h1 h2).symm,rfl⟩
  ·go_enter Tryz.func149,Tryz.ntmps149
   go_wp2
   go_ret
   exact ⟨yF (inB_false (by omega)).symm,rfl⟩
 ·go_enter Tryz.func149,Tryz.ntmps149
  go_wp2
  go_ret
  exact ⟨yF (inB_false (by omega)).symm,rfl⟩
theorem implNameOk_any (s:ByteArray) (w:World) (hs:s.size≤1048576) :
  Calls Tryz.prog 119 #[.string s] w fun e w'=>e=.returned (.bool (nameOk s.data.toList))∧w'=w:=by
 by_cases h0:1≤s.size
 ·by_cases h1:s.size≤10
  ·have hin:Hid (inB (s.data.toList.length:Int) 1 10=true):=hide (by rw [len_eq];exact inB_true (by omega) (by omega))
   go_enter Tryz.func119,Tryz.ntmps119
   go_wp2
   go_loop [14] (fun i=>∃k:Nat,k≤s.size∧i=.int .i64 k∧(s.data.toList.take k).all nameB=true) (fun i=>s.size - (intOf i).toNat)
   case atStart=>exact ⟨0,Nat.zero_le _,rfl,by simp⟩
   case round=>
    obtain ⟨k,hk,rfl,hall⟩:=hrel
    have HA:=hide hall
    clear hall
    by_cases hlt:k<s.size
    ·have hb:(s[k].toNat:Int)≤255:=byte_le _
     by_cases h3:48≤(s[k].toNat:Int)∧(s[k].toNat:Int)≤57
     ·have e1:inB (s[k].toNat:Int) 48 57=true:=inB_true h3.1 h3.2
      clear h3
      go_wp2_with (go_at_call 149;refine (isDigit_any _ _).mono ?_;rintro e w' ⟨rfl,rfl⟩)
      go_round
      case rel=>exact ⟨k+1,by omega,by go_num,all_snoc s k hlt _ (uH HA) (by simp [nameB,e1])⟩
      case measure=>simp [intOf];omega
     ·have e1:inB (s[k].toNat:Int) 48 57=false:=inB_false h3
      clear h3
      by_cases h4:97≤(s[k].toNat:Int)
      ·by_cases h5:(s[k].toNat:Int)≤122
       ·have HN:Hid (nameB s[k]=true):=hide (by simp [nameB,e1,inB_true h4 h5])
        go_wp2_with (go_at_call 149;refine (isDigit_any _ _).mono ?_;rintro e w' ⟨rfl,rfl⟩)
        go_round
        case rel=>exact ⟨k+1,by omega,by go_num,all_snoc s k hlt _ (uH HA) (uH HN)⟩
        case measure=>simp [intOf];omega
       ·have hf:Hid (nameOk s.data.toList=false):=hide (by rw [nameOk,not_all s k hlt nameB (by simp [nameB,e1,inB_false (x:=(s[k].toNat:Int)) (a:=97) (b:=122) (by omega)])];simp)
        go_wp2_with (go_at_call 149;refine (isDigit_any _ _).mono ?_;rintro e w' ⟨rfl,rfl⟩)
        go_ret
        exact ⟨yF (uH hf).symm,rfl⟩
      ·have hf:Hid (nameOk s.data.toList=false):=hide (by rw [nameOk,not_all s k hlt nameB (by simp [nameB,e1,inB_false (x:=(s[k].toNat:Int)) (a:=97) (b:=122) (by omega)])];simp)
       go_wp2_with (go_at_call 149;refine (isDigit_any _ _).mono ?_;rintro e w' ⟨rfl,rfl⟩)
       go_ret
       exact ⟨yF (uH hf).symm,rfl⟩
    ·have hf:Hid (nameOk s.data.toList=true):=hide (by rw [nameOk,uH hin,←take_all s k (by omega),uH HA];rfl)
     go_wp2
     go_ret
     exact ⟨yF (uH hf).symm,rfl⟩
  ·have hf:Hid (nameOk s.data.toList=false):=hide (by rw [nameOk,len_eq,inB_false (by omega)];simp)
   go_enter Tryz.func119,Tryz.ntmps119
   go_wp2
   go_ret
   exact ⟨yF (uH hf).symm,rfl⟩
 ·have hf:Hid (nameOk s.data.toList=false):=hide (by rw [nameOk,len_eq,inB_false (by omega)];simp)
  go_enter Tryz.func119,Tryz.ntmps119
  go_wp2
  go_ret
  exact ⟨yF (uH hf).symm,rfl⟩
end
end Go.Proofs.YtdhibeclkdepiaaGreat
