/-
  Texts in one: QueuesOkS, LeafS.
-/
import Derived.Test.YtjkfappkpopbdaaGreatSackA
set_option maxRecDepth 100000
set_option maxHeartbeats 16000000
set_option linter.unusedVariables false
set_option linter.unusedSimpArgs false
namespace Go.Proofs.YtjkfappkpopbdaaGreat
section
open Go.RowKit
theorem specQueuesOk_any (ao:Option Addr) (len cap:Nat) (l:List Q) (w:World) (h:QRow w ao len l) (hl:len≤1048576) (hn:∀q ∈ l,q.name.length≤1048576) :
  Calls Tryz.prog 114 #[.slice ao len cap] w fun e w'=>e=.returned (.bool (queuesOk l))∧Below w.heap.size w w':=by
 have HR:=hide h
 have HL:=hide h.1
 have HN:=hide hn
 clear h hn
 go_enter Tryz.func114,Tryz.ntmps114
 go_wp2
 go_loopw [3] (fun i wr=>∃k:Nat,k≤len∧i=.int .i64 k∧Hid (okFrom l l 0=okFrom l (l.drop k) k)∧Hid (Below w.heap.size w wr)) (fun i _=>len - (intOf i).toNat)
 case atStart=>exact ⟨0,Nat.zero_le _,rfl,hide (by simp),hide (yH _ _)⟩
 case round=>
  obtain ⟨k,hk,rfl,hp,HB⟩:=hrel
  by_cases hlt:k<len
  ·have HR2:=hide ((uH HR).below (uH HB))
   obtain ⟨b,off,rfl,hq⟩:=(uH HR2).at hlt
   have hkl:k<l.length:=by have:=uH HL;omega
   have hst:=hide (okFrom_step (l:=l) (k:=k) hkl)
   obtain ⟨c0,c1,c2,c3⟩:=hq hkl
   have hz:=uH HN l[k] (yM _)
   clear hq
   obtain ⟨⟨nm,pa,du,mo⟩,hs⟩:∃s,l[k]=s:=⟨_,rfl⟩
   rw [hs] at c0 c1 c2 c3 hst hz
   simp only at c0 c1 c2 c3 hz
   clear hs hkl
   obtain ⟨b1,g1⟩:∃b,nameOk nm=b:=⟨_,rfl⟩
   obtain ⟨p1,g2⟩:∃p,place l nm=p:=⟨_,rfl⟩
   obtain ⟨p2,g3⟩:∃p,place l pa=p:=⟨_,rfl⟩
   have CN:=hide (fun wx=>by have:=specNameOk_any (bs nm) wx (by rw [bs_size];exact hz);rw [show (bs nm).data.toList=nm by simp [bs],g1] at this;exact this)
   have RR:=(uH HR2).below (yA (yH _ wr) (.cells #[.string (bs nm),.string (bs pa),.int .i64 du,.int .i64 mo] 142))
   have CP1:=hide (by have:=l03Place_any (some ⟨b,off,none⟩) len cap l nm _ RR hl;rw [g2] at this;exact this)
   have CP2:=hide (by have:=l03Place_any (some ⟨b,off,none⟩) len cap l pa _ RR hl;rw [g3] at this;exact this)
   have HB2:=hide (yA (uH HB) (.cells #[.string (bs nm),.string (bs pa),.int .i64 du,.int .i64 mo] 142))
   have G1:=hide g1
   have G2:=hide g2
   have G3:=hide g3
   clear g1 g2 g3 RR HR2 hz
   cases b1 with
   | false=>
    go_wp2_with (first | (go_at_call 113;refine (uH CN _).mono ?_;rintro e w' ⟨rfl,rfl⟩) | (go_at_call_of 120 nm;refine (uH CP1).mono ?_;rintro e w' ⟨rfl,rfl⟩) | (go_at_call_of 120 pa;refine (uH CP2).mono ?_;rintro e w' ⟨rfl,rfl⟩) | (go_at_call 79;refine (l01In_any _ _ _ _).mono ?_;rintro e w' ⟨rfl,rfl⟩))
    go_ret
    exact ⟨yF (ok_no1 (by rw [uH hp,uH hst];simp [qOk,uH G1])).symm,uH HB2⟩
   | true=>
    by_cases e2:p1=k
    ·subst e2
     cases h3:inB mo 0 10000
     ·skip
      go_wp2_with (first | (go_at_call 113;refine (uH CN _).mono ?_;rintro e w' ⟨rfl,rfl⟩) | (go_at_call_of 120 nm;refine (uH CP1).mono ?_;rintro e w' ⟨rfl,rfl⟩) | (go_at_call_of 120 pa;refine (uH CP2).mono ?_;rintro e w' ⟨rfl,rfl⟩) | (go_at_call 79;refine (l01In_any _ _ _ _).mono ?_;rintro e w' ⟨rfl,rfl⟩))
      go_ret
      exact ⟨yF (ok_no1 (by rw [uH hp,uH hst];simp [qOk,uH G1,uH G2,h3])).symm,uH HB2⟩
     ·cases h4:inB du 0 mo
      ·skip
       go_wp2_with (first | (go_at_call 113;refine (uH CN _).mono ?_;rintro e w' ⟨rfl,rfl⟩) | (go_at_call_of 120 nm;refine (uH CP1).mono ?_;rintro e w' ⟨rfl,rfl⟩) | (go_at_call_of 120 pa;refine (uH CP2).mono ?_;rintro e w' ⟨rfl,rfl⟩) | (go_at_call 79;refine (l01In_any _ _ _ _).mono ?_;rintro e w' ⟨rfl,rfl⟩))
       go_ret
       exact ⟨yF (ok_no1 (by rw [uH hp,uH hst];simp [qOk,uH G1,uH G2,h3,h4])).symm,uH HB2⟩
      ·by_cases hk0:k=0
       ·have k1:((k:Int)==0)=true:=by simp [hk0]
        have k2:¬(0:Int)<k:=by omega
        have k3:¬0<k:=by omega
        have HK0:=hide hk0
        clear hk0
        have hbe:=bs_empty pa
        by_cases e5:pa=[]
        ·have E5:=hide e5
         rw [decide_eq_true e5] at hbe
         clear e5
         by_cases e6:du=10000
         ·subst e6
          go_wp2_with (first | (go_at_call 113;refine (uH CN _).mono ?_;rintro e w' ⟨rfl,rfl⟩) | (go_at_call_of 120 nm;refine (uH CP1).mono ?_;rintro e w' ⟨rfl,rfl⟩) | (go_at_call_of 120 pa;refine (uH CP2).mono ?_;rintro e w' ⟨rfl,rfl⟩) | (go_at_call 79;refine (l01In_any _ _ _ _).mono ?_;rintro e w' ⟨rfl,rfl⟩))
          go_roundw
          case rel=>exact ⟨k+1,by omega,by go_num,hide (by rw [uH hp,uH hst];simp [qOk,uH G1,uH G2,h3,h4,uH HK0,uH E5]),HB2⟩
          case measure=>simp [intOf];omega
         ·have E6:=hide e6
          have hd:(du==10000)=false:=by simp [e6]
          clear e6
          go_wp2_with (first | (go_at_call 113;refine (uH CN _).mono ?_;rintro e w' ⟨rfl,rfl⟩) | (go_at_call_of 120 nm;refine (uH CP1).mono ?_;rintro e w' ⟨rfl,rfl⟩) | (go_at_call_of 120 pa;refine (uH CP2).mono ?_;rintro e w' ⟨rfl,rfl⟩) | (go_at_call 79;refine (l01In_any _ _ _ _).mono ?_;rintro e w' ⟨rfl,rfl⟩))
          go_ret
          exact ⟨yF (ok_no1 (by rw [uH hp,uH hst];simp [qOk,uH G1,uH G2,h3,h4,uH HK0,uH E5,uH E6])).symm,uH HB2⟩
        ·have E5:=hide e5
         rw [decide_eq_false e5] at hbe
         clear e5
         go_wp2_with (first | (go_at_call 113;refine (uH CN _).mono ?_;rintro e w' ⟨rfl,rfl⟩) | (go_at_call_of 120 nm;refine (uH CP1).mono ?_;rintro e w' ⟨rfl,rfl⟩) | (go_at_call_of 120 pa;refine (uH CP2).mono ?_;rintro e w' ⟨rfl,rfl⟩) | (go_at_call 79;refine (l01In_any _ _ _ _).mono ?_;rintro e w' ⟨rfl,rfl⟩))
         go_ret
         exact ⟨yF (ok_no1 (by rw [uH hp,uH hst];simp [qOk,uH G1,uH G2,h3,h4,uH HK0,uH E5])).symm,uH HB2⟩
       ·have k1:((k:Int)==0)=false:=by simp [hk0]
        have k2:(0:Int)<k:=by omega
        have k3:0<k:=by omega
        have HK0:=hide hk0
        clear hk0
        cases h7:inB p2 0 ((k:Int) - 1)
        ·skip
         go_wp2_with (first | (go_at_call 113;refine (uH CN _).mono ?_;rintro e w' ⟨rfl,rfl⟩) | (go_at_call_of 120 nm;refine (uH CP1).mono ?_;rintro e w' ⟨rfl,rfl⟩) | (go_at_call_of 120 pa;refine (uH CP2).mono ?_;rintro e w' ⟨rfl,rfl⟩) | (go_at_call 79;refine (l01In_any _ _ _ _).mono ?_;rintro e w' ⟨rfl,rfl⟩))
         go_ret
         exact ⟨yF (ok_no1 (by rw [uH hp,uH hst];simp [qOk,uH G1,uH G2,uH G3,h3,h4,h7,uH HK0])).symm,uH HB2⟩
        ·skip
         go_wp2_with (first | (go_at_call 113;refine (uH CN _).mono ?_;rintro e w' ⟨rfl,rfl⟩) | (go_at_call_of 120 nm;refine (uH CP1).mono ?_;rintro e w' ⟨rfl,rfl⟩) | (go_at_call_of 120 pa;refine (uH CP2).mono ?_;rintro e w' ⟨rfl,rfl⟩) | (go_at_call 79;refine (l01In_any _ _ _ _).mono ?_;rintro e w' ⟨rfl,rfl⟩))
         go_roundw
         case rel=>exact ⟨k+1,by omega,by go_num,hide (by rw [uH hp,uH hst];simp [qOk,uH G1,uH G2,uH G3,h3,h4,h7,uH HK0]),HB2⟩
         case measure=>simp [intOf];omega
    ·have h2:(p1==(k:Int))=false:=by simp [e2]
     have E2:=hide e2
     clear e2
     go_wp2_with (first | (go_at_call 113;refine (uH CN _).mono ?_;rintro e w' ⟨rfl,rfl⟩) | (go_at_call_of 120 nm;refine (uH CP1).mono ?_;rintro e w' ⟨rfl,rfl⟩) | (go_at_call_of 120 pa;refine (uH CP2).mono ?_;rintro e w' ⟨rfl,rfl⟩) | (go_at_call 79;refine (l01In_any _ _ _ _).mono ?_;rintro e w' ⟨rfl,rfl⟩))
     go_ret
     exact ⟨yF (ok_no1 (by rw [uH hp,uH hst];simp [qOk,uH G1,uH G2,uH E2])).symm,uH HB2⟩
  ·have ho:=hide (show okFrom l l 0=true by rw [uH hp];exact okFrom_end (by have:=uH HL;omega))
   have HD:=hide (okFrom_due l 0 (uH ho))
   have HR2:=hide ((uH HR).below (uH HB))
   clear hp
   go_wp2
   go_loopw [5] (fun i wx=>∃m:Nat,m≤len∧i=.int .i64 m∧Hid (sumsOk l l=sumsOk l (l.drop m))∧wx=wr) (fun i _=>len - (intOf i).toNat)
   case atStart=>exact ⟨0,Nat.zero_le _,rfl,hide (by simp),rfl⟩
   case round=>
    obtain ⟨m,hm,rfl,hp,rfl⟩:=hrel
    by_cases hlm:m<len
    ·obtain ⟨b,off,rfl,hq⟩:=(uH HR2).at hlm
     have hml:m<l.length:=by have:=uH HL;omega
     have hst:=hide (sumsOk_step (l:=l) (k:=m) hml)
     have c0:=(hq hml).1
     clear hq
     obtain ⟨nm,hs⟩:∃s,l[m].name=s:=⟨_,rfl⟩
     rw [hs] at c0 hst
     obtain ⟨t,ht⟩:∃t,kidsSum l nm=t:=⟨_,rfl⟩
     have CS:=hide (by have:=l03Sum_any (some ⟨b,off,none⟩) len cap l nm _ (uH HR2) hl (uH HD);rw [ht] at this;exact this)
     have HTT:=hide ht
     clear hs hml ht
     by_cases hgt:10000<t
     ·go_wp2_with (go_at_call 150;refine (uH CS).mono ?_;rintro e w' ⟨rfl,rfl⟩)
      go_ret
      exact ⟨yF (ok_no2 (by rw [uH hp,uH hst,uH HTT];simp;omega)).symm,uH HB⟩
     ·go_wp2_with (go_at_call 150;refine (uH CS).mono ?_;rintro e w' ⟨rfl,rfl⟩)
      go_roundw
      case rel=>exact ⟨m+1,by omega,by go_num,hide (by rw [uH hp,uH hst,uH HTT];simp;omega),trivial⟩
      case measure=>simp [intOf];omega
    ·have hfin:=hide (ok_yes (uH ho) (show sumsOk l l=true by rw [uH hp];exact sumsOk_end (by have:=uH HL;omega)))
     have HLL:=uH HL
     have hfin2:=hide (show inB (len:Int) 1 20=queuesOk l by rw [uH hfin,HLL])
     clear HLL
     go_wp2_with (go_at_call 79;refine (l01In_any _ _ _ _).mono ?_;rintro e w' ⟨rfl,rfl⟩)
     go_ret
     exact ⟨yF (uH hfin2),uH HB⟩
def noKid (nm:List UInt8):List Q→Bool
 | []=>true
 | q::t=>decide (q.parent≠nm)&&noKid nm t
def leaf (l:List Q) (nm:List UInt8):Bool:=noKid nm l&&(queuesOk l&&decide (0≤place l nm))
theorem noKid_step {nm:List UInt8} {l:List Q} {k:Nat} (h:k<l.length):noKid nm (l.drop k)=(decide (l[k].parent≠nm)&&noKid nm (l.drop (k+1))):=by
 rw [List.drop_eq_getElem_cons h,noKid]
theorem noKid_end {nm:List UInt8} {l:List Q} {k:Nat} (h:l.length≤k):noKid nm (l.drop k)=true:=by
 rw [List.drop_of_length_le h];rfl
theorem specLeaf_any (ao:Option Addr) (len cap:Nat) (l:List Q) (nm:List UInt8) (w:World) (h:QRow w ao len l) (hl:len≤1048576) (hn:∀q ∈ l,q.name.length≤1048576) :
  Calls Tryz.prog 78 #[.slice ao len cap,.string (bs nm)] w fun e w'=>e=.returned (.bool (leaf l nm))∧Below w.heap.size w w':=by
 have HR:=hide h
 have HL:=hide h.1
 have HN:=hide hn
 clear h hn
 go_enter Tryz.func78,Tryz.ntmps78
 go_wp2
 go_loopw [5] (fun i wr=>∃k:Nat,k≤len∧i=.int .i64 k∧Hid (noKid nm l=noKid nm (l.drop k))∧wr=w) (fun i _=>len - (intOf i).toNat)
 case atStart=>exact ⟨0,Nat.zero_le _,rfl,hide (by simp),rfl⟩
 case round=>
  obtain ⟨k,hk,rfl,hp,rfl⟩:=hrel
  by_cases hlt:k<len
  ·obtain ⟨b,off,rfl,hq⟩:=(uH HR).at hlt
   have hkl:k<l.length:=by have:=uH HL;omega
   have hst:=hide (noKid_step (nm:=nm) (l:=l) (k:=k) hkl)
   have hq0:=(hq hkl).2.1
   clear hq
   obtain ⟨s,hs⟩:∃s,l[k].parent=s:=⟨_,rfl⟩
   rw [hs] at hq0 hst
   have hbe:=bs_eq s nm
   clear hs hkl
   by_cases he:s=nm
   ·have HE:=hide he
    rw [decide_eq_true he] at hbe
    clear he
    go_wp2
    go_ret
    exact ⟨yF (by rw [leaf,uH hp,uH hst];simp [uH HE]),yH _ _⟩
   ·have HE:=hide he
    rw [decide_eq_false he] at hbe
    clear he
    go_wp2
    go_roundw
    case rel=>exact ⟨k+1,by omega,by go_num,hide (by rw [uH hp,uH hst];simp [uH HE]),trivial⟩
    case measure=>simp [intOf];omega
  ·have hk2:=hide (show leaf l nm=(queuesOk l&&decide (0≤place l nm)) by rw [leaf,uH hp,noKid_end (by have:=uH HL;omega)];rfl)
   have CQ:=hide (specQueuesOk_any ao len cap l wr (uH HR) hl (uH HN))
   obtain ⟨o,ho⟩:∃o,queuesOk l=o:=⟨_,rfl⟩
   obtain ⟨p,hp2⟩:∃p,place l nm=p:=⟨_,rfl⟩
   rw [ho] at CQ hk2
   have CP:=hide (fun wx (hb:Below wr.heap.size wr wx)=>by have:=l03Place_any ao len cap l nm wx ((uH HR).below hb) hl;rw [hp2] at this;exact this)
   rw [hp2] at hk2
   clear ho hp2 hp
   go_wp2_with fail
   refine (uH CQ).mono ?_
   rintro e w1 ⟨rfl,hb⟩
   have HB:=hide hb
   clear hb CQ
   cases o with
   | false=>
    go_wp2
    go_ret
    exact ⟨yF (by rw [uH hk2];rfl),uH HB⟩
   | true=>
    go_wp2_with fail
    refine (uH CP _ (uH HB)).mono ?_
    rintro e w2 ⟨rfl,rfl⟩
    by_cases h0:0≤p
    ·go_wp2
     go_ret
     exact ⟨yF (by rw [uH hk2];simp [h0]),uH HB⟩
    ·go_wp2
     go_ret
     exact ⟨yF (by rw [uH hk2];simp),uH HB⟩
end
end Go.Proofs.YtjkfappkpopbdaaGreat
