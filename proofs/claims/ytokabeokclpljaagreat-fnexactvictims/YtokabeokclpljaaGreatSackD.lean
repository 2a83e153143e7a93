/-
  Texts in one: QueuesOkS, LeafS, FracI, RatioP, KnownI, OfK, LessK, StdM, StdC, PathS, OfSL, OfSD.
-/
import Derived.Test.YtokabeokclpljaaGreatSackA
import Derived.Maps.OwnSet
import Derived.Maps.Views
import Derived.DeepKeys4
import Derived.Laws.OwnMore
set_option maxRecDepth 100000
set_option maxHeartbeats 16000000
set_option linter.unusedVariables false
set_option linter.unusedSimpArgs false
namespace Go.Proofs.YtokabeokclpljaaGreat
section
open Go.RowKit
theorem specQueuesOk_any (ao:Option Addr) (len cap:Nat) (l:List Q) (w:World) (h:QRow w ao len l) (hl:len≤1048576) (hn:∀q ∈ l,q.name.length≤1048576) :
  Calls Tryz.prog 51 #[.slice ao len cap] w fun e w'=>e=.returned (.bool (queuesOk l))∧Below w.heap.size w w':=by
 have HR:=hide h
 have HL:=hide h.1
 have HN:=hide hn
 clear h hn
 go_enter Tryz.func51,Tryz.ntmps51
 go_wp2
 go_loopw [3] (fun i wr=>∃k:Nat,k≤len∧i=.int .i64 k∧Hid (okFrom l l 0=okFrom l (l.drop k) k)∧Hid (Below w.heap.size w wr)) (fun i _=>len - (intOf i).toNat)
 case atStart=>exact ⟨0,Nat.zero_le _,rfl,hide (by simp),hide (yH _ _)⟩
 case round=>
  obtain ⟨k,hk,rfl,hp,HB⟩:=hrel
  by_cases hlt:k<len
  ·have HR2:=hide ((uH HR).below (uH HB))
   obtain ⟨b,off,rfl,hq⟩:=(uH HR2).at hlt
   have hkl:k<l.length:=by have:=uH HL;omega
   have hst:=hide (okFrom_step (l:=l) (k:=k) hkl)
   obtain ⟨c0,c1,c2,c3⟩:=hq hkl
   have hz:=uH HN l[k] (yM _)
   clear hq
   obtain ⟨⟨nm,pa,du,mo⟩,hs⟩:∃s,l[k]=s:=⟨_,rfl⟩
   rw [hs] at c0 c1 c2 c3 hst hz
   simp only at c0 c1 c2 c3 hz
   clear hs hkl
   obtain ⟨b1,g1⟩:∃b,nameOk nm=b:=⟨_,rfl⟩
   obtain ⟨p1,g2⟩:∃p,place l nm=p:=⟨_,rfl⟩
   obtain ⟨p2,g3⟩:∃p,place l pa=p:=⟨_,rfl⟩
   have CN:=hide (fun wx=>by have:=specNameOk_any (bs nm) wx (by rw [bs_size];exact hz);rw [show (bs nm).data.toList=nm by simp [bs],g1] at this;exact this)
   have RR:=(uH HR2).below (yA (yH _ wr) (.cells #[.string (bs nm),.string (bs pa),.int .i64 du,.int .i64 mo] 99))
   have CP1:=hide (by have:=l03Place_any (some ⟨b,off,none⟩) len cap l nm _ RR hl;rw [g2] at this;exact this)
   have CP2:=hide (by have:=l03Place_any (some ⟨b,off,none⟩) len cap l pa _ RR hl;rw [g3] at this;exact this)
   have HB2:=hide (yA (uH HB) (.cells #[.string (bs nm),.string (bs pa),.int .i64 du,.int .i64 mo] 99))
   have G1:=hide g1
   have G2:=hide g2
   have G3:=hide g3
   clear g1 g2 g3 RR HR2 hz
   cases b1 with
   | false=>
    go_wp2_with (first | (go_at_call 102;refine (uH CN _).mono ?_;rintro e w' ⟨rfl,rfl⟩) | (go_at_call_of 103 nm;refine (uH CP1).mono ?_;rintro e w' ⟨rfl,rfl⟩) | (go_at_call_of 103 pa;refine (uH CP2).mono ?_;rintro e w' ⟨rfl,rfl⟩) | (go_at_call 52;refine (l01In_any _ _ _ _).mono ?_;rintro e w' ⟨rfl,rfl⟩))
    go_ret
    exact ⟨yF (ok_no1 (by rw [uH hp,uH hst];simp [qOk,uH G1])).symm,uH HB2⟩
   | true=>
    by_cases e2:p1=k
    ·subst e2
     cases h3:inB mo 0 10000
     ·skip
      go_wp2_with (first | (go_at_call 102;refine (uH CN _).mono ?_;rintro e w' ⟨rfl,rfl⟩) | (go_at_call_of 103 nm;refine (uH CP1).mono ?_;rintro e w' ⟨rfl,rfl⟩) | (go_at_call_of 103 pa;refine (uH CP2).mono ?_;rintro e w' ⟨rfl,rfl⟩) | (go_at_call 52;refine (l01In_any _ _ _ _).mono ?_;rintro e w' ⟨rfl,rfl⟩))
      go_ret
      exact ⟨yF (ok_no1 (by rw [uH hp,uH hst];simp [qOk,uH G1,uH G2,h3])).symm,uH HB2⟩
     ·cases h4:inB du 0 mo
      ·skip
       go_wp2_with (first | (go_at_call 102;refine (uH CN _).mono ?_;rintro e w' ⟨rfl,rfl⟩) | (go_at_call_of 103 nm;refine (uH CP1).mono ?_;rintro e w' ⟨rfl,rfl⟩) | (go_at_call_of 103 pa;refine (uH CP2).mono ?_;rintro e w' ⟨rfl,rfl⟩) | (go_at_call 52;refine (l01In_any _ _ _ _).mono ?_;rintro e w' ⟨rfl,rfl⟩))
       go_ret
       exact ⟨yF (ok_no1 (by rw [uH hp,uH hst];simp [qOk,uH G1,uH G2,h3,h4])).symm,uH HB2⟩
      ·by_cases hk0:k=0
       ·have k1:((k:Int)==0)=true:=by simp [hk0]
        have k2:¬(0:Int)<k:=by omega
        have k3:¬0<k:=by omega
        have HK0:=hide hk0
        clear hk0
        have hbe:=bs_empty pa
        by_cases e5:pa=[]
        ·have E5:=hide e5
         rw [decide_eq_true e5] at hbe
         clear e5
         by_cases e6:du=10000
         ·subst e6
          go_wp2_with (first | (go_at_call 102;refine (uH CN _).mono ?_;rintro e w' ⟨rfl,rfl⟩) | (go_at_call_of 103 nm;refine (uH CP1).mono ?_;rintro e w' ⟨rfl,rfl⟩) | (go_at_call_of 103 pa;refine (uH CP2).mono ?_;rintro e w' ⟨rfl,rfl⟩) | (go_at_call 52;refine (l01In_any _ _ _ _).mono ?_;rintro e w' ⟨rfl,rfl⟩))
          go_roundw
          case rel=>exact ⟨k+1,by omega,by go_num,hide (by rw [uH hp,uH hst];simp [qOk,uH G1,uH G2,h3,h4,uH HK0,uH E5]),HB2⟩
          case measure=>simp [intOf];omega
         ·have E6:=hide e6
          have hd:(du==10000)=false:=by simp [e6]
          clear e6
          go_wp2_with (first | (go_at_call 102;refine (uH CN _).mono ?_;rintro e w' ⟨rfl,rfl⟩) | (go_at_call_of 103 nm;refine (uH CP1).mono ?_;rintro e w' ⟨rfl,rfl⟩) | (go_at_call_of 103 pa;refine (uH CP2).mono ?_;rintro e w' ⟨rfl,rfl⟩) | (go_at_call 52;refine (l01In_any _ _ _ _).mono ?_;rintro e w' ⟨rfl,rfl⟩))
          go_ret
          exact ⟨yF (ok_no1 (by rw [uH hp,uH hst];simp [qOk,uH G1,uH G2,h3,h4,uH HK0,uH E5,uH E6])).symm,uH HB2⟩
        ·have E5:=hide e5
         rw [decide_eq_false e5] at hbe
         clear e5
         go_wp2_with (first | (go_at_call 102;refine (uH CN _).mono ?_;rintro e w' ⟨rfl,rfl⟩) | (go_at_call_of 103 nm;refine (uH CP1).mono ?_;rintro e w' ⟨rfl,rfl⟩) | (go_at_call_of 103 pa;refine (uH CP2).mono ?_;rintro e w' ⟨rfl,rfl⟩) | (go_at_call 52;refine (l01In_any _ _ _ _).mono ?_;rintro e w' ⟨rfl,rfl⟩))
         go_ret
         exact ⟨yF (ok_no1 (by rw [uH hp,uH hst];simp [qOk,uH G1,uH G2,h3,h4,uH HK0,uH E5])).symm,uH HB2⟩
       ·have k1:((k:Int)==0)=false:=by simp [hk0]
        have k2:(0:Int)<k:=by omega
        have k3:0<k:=by omega
        have HK0:=hide hk0
        clear hk0
        cases h7:inB p2 0 ((k:Int) - 1)
        ·skip
         go_wp2_with (first | (go_at_call 102;refine (uH CN _).mono ?_;rintro e w' ⟨rfl,rfl⟩) | (go_at_call_of 103 nm;refine (uH CP1).mono ?_;rintro e w' ⟨rfl,rfl⟩) | (go_at_call_of 103 pa;refine (uH CP2).mono ?_;rintro e w' ⟨rfl,rfl⟩) | (go_at_call 52;refine (l01In_any _ _ _ _).mono ?_;rintro e w' ⟨rfl,rfl⟩))
         go_ret
         exact ⟨yF (ok_no1 (by rw [uH hp,uH hst];simp [qOk,uH G1,uH G2,uH G3,h3,h4,h7,uH HK0])).symm,uH HB2⟩
        ·skip
         go_wp2_with (first | (go_at_call 102;refine (uH CN _).mono ?_;rintro e w' ⟨rfl,rfl⟩) | (go_at_call_of 103 nm;refine (uH CP1).mono ?_;rintro e w' ⟨rfl,rfl⟩) | (go_at_call_of 103 pa;refine (uH CP2).mono ?_;rintro e w' ⟨rfl,rfl⟩) | (go_at_call 52;refine (l01In_any _ _ _ _).mono ?_;rintro e w' ⟨rfl,rfl⟩))
         go_roundw
         case rel=>exact ⟨k+1,by omega,by go_num,hide (by rw [uH hp,uH hst];simp [qOk,uH G1,uH G2,uH G3,h3,h4,h7,uH HK0]),HB2⟩
         case measure=>simp [intOf];omega
    ·have h2:(p1==(k:Int))=false:=by simp [e2]
     have E2:=hide e2
     clear e2
     go_wp2_with (first | (go_at_call 102;refine (uH CN _).mono ?_;rintro e w' ⟨rfl,rfl⟩) | (go_at_call_of 103 nm;refine (uH CP1).mono ?_;rintro e w' ⟨rfl,rfl⟩) | (go_at_call_of 103 pa;refine (uH CP2).mono ?_;rintro e w' ⟨rfl,rfl⟩) | (go_at_call 52;refine (l01In_any _ _ _ _).mono ?_;rintro e w' ⟨rfl,rfl⟩))
     go_ret
     exact ⟨yF (ok_no1 (by rw [uH hp,uH hst];simp [qOk,uH G1,uH G2,uH E2])).symm,uH HB2⟩
  ·have ho:=hide (show okFrom l l 0=true by rw [uH hp];exact okFrom_end (by have:=uH HL;omega))
   have HD:=hide (okFrom_due l 0 (uH ho))
   have HR2:=hide ((uH HR).below (uH HB))
   clear hp
   go_wp2
   go_loopw [5] (fun i wx=>∃m:Nat,m≤len∧i=.int .i64 m∧Hid (sumsOk l l=sumsOk l (l.drop m))∧wx=wr) (fun i _=>len - (intOf i).toNat)
   case atStart=>exact ⟨0,Nat.zero_le _,rfl,hide (by simp),rfl⟩
   case round=>
    obtain ⟨m,hm,rfl,hp,rfl⟩:=hrel
    by_cases hlm:m<len
    ·obtain ⟨b,off,rfl,hq⟩:=(uH HR2).at hlm
     have hml:m<l.length:=by have:=uH HL;omega
     have hst:=hide (sumsOk_step (l:=l) (k:=m) hml)
     have c0:=(hq hml).1
     clear hq
     obtain ⟨nm,hs⟩:∃s,l[m].name=s:=⟨_,rfl⟩
     rw [hs] at c0 hst
     obtain ⟨t,ht⟩:∃t,kidsSum l nm=t:=⟨_,rfl⟩
     have CS:=hide (by have:=l03Sum_any (some ⟨b,off,none⟩) len cap l nm _ (uH HR2) hl (uH HD);rw [ht] at this;exact this)
     have HTT:=hide ht
     clear hs hml ht
     by_cases hgt:10000<t
     ·go_wp2_with (go_at_call 104;refine (uH CS).mono ?_;rintro e w' ⟨rfl,rfl⟩)
      go_ret
      exact ⟨yF (ok_no2 (by rw [uH hp,uH hst,uH HTT];simp;omega)).symm,uH HB⟩
     ·go_wp2_with (go_at_call 104;refine (uH CS).mono ?_;rintro e w' ⟨rfl,rfl⟩)
      go_roundw
      case rel=>exact ⟨m+1,by omega,by go_num,hide (by rw [uH hp,uH hst,uH HTT];simp;omega),trivial⟩
      case measure=>simp [intOf];omega
    ·have hfin:=hide (ok_yes (uH ho) (show sumsOk l l=true by rw [uH hp];exact sumsOk_end (by have:=uH HL;omega)))
     have HLL:=uH HL
     have hfin2:=hide (show inB (len:Int) 1 20=queuesOk l by rw [uH hfin,HLL])
     clear HLL
     go_wp2_with (go_at_call 52;refine (l01In_any _ _ _ _).mono ?_;rintro e w' ⟨rfl,rfl⟩)
     go_ret
     exact ⟨yF (uH hfin2),uH HB⟩
def noKid (nm:List UInt8):List Q→Bool
 | []=>true
 | q::t=>decide (q.parent≠nm)&&noKid nm t
def leaf (l:List Q) (nm:List UInt8):Bool:=noKid nm l&&(queuesOk l&&decide (0≤place l nm))
theorem noKid_step {nm:List UInt8} {l:List Q} {k:Nat} (h:k<l.length):noKid nm (l.drop k)=(decide (l[k].parent≠nm)&&noKid nm (l.drop (k+1))):=by
 rw [List.drop_eq_getElem_cons h,noKid]
theorem noKid_end {nm:List UInt8} {l:List Q} {k:Nat} (h:l.length≤k):noKid nm (l.drop k)=true:=by
 rw [List.drop_of_length_le h];rfl
theorem specLeaf_any (ao:Option Addr) (len cap:Nat) (l:List Q) (nm:List UInt8) (w:World) (h:QRow w ao len l) (hl:len≤1048576) (hn:∀q ∈ l,q.name.length≤1048576) :
  Calls Tryz.prog 61 #[.slice ao len cap,.string (bs nm)] w fun e w'=>e=.returned (.bool (leaf l nm))∧Below w.heap.size w w':=by
 have HR:=hide h
 have HL:=hide h.1
 have HN:=hide hn
 clear h hn
 go_enter Tryz.func61,Tryz.ntmps61
 go_wp2
 go_loopw [5] (fun i wr=>∃k:Nat,k≤len∧i=.int .i64 k∧Hid (noKid nm l=noKid nm (l.drop k))∧wr=w) (fun i _=>len - (intOf i).toNat)
 case atStart=>exact ⟨0,Nat.zero_le _,rfl,hide (by simp),rfl⟩
 case round=>
  obtain ⟨k,hk,rfl,hp,rfl⟩:=hrel
  by_cases hlt:k<len
  ·obtain ⟨b,off,rfl,hq⟩:=(uH HR).at hlt
   have hkl:k<l.length:=by have:=uH HL;omega
   have hst:=hide (noKid_step (nm:=nm) (l:=l) (k:=k) hkl)
   have hq0:=(hq hkl).2.1
   clear hq
   obtain ⟨s,hs⟩:∃s,l[k].parent=s:=⟨_,rfl⟩
   rw [hs] at hq0 hst
   have hbe:=bs_eq s nm
   clear hs hkl
   by_cases he:s=nm
   ·have HE:=hide he
    rw [decide_eq_true he] at hbe
    clear he
    go_wp2
    go_ret
    exact ⟨yF (by rw [leaf,uH hp,uH hst];simp [uH HE]),yH _ _⟩
   ·have HE:=hide he
    rw [decide_eq_false he] at hbe
    clear he
    go_wp2
    go_roundw
    case rel=>exact ⟨k+1,by omega,by go_num,hide (by rw [uH hp,uH hst];simp [uH HE]),trivial⟩
    case measure=>simp [intOf];omega
  ·have hk2:=hide (show leaf l nm=(queuesOk l&&decide (0≤place l nm)) by rw [leaf,uH hp,noKid_end (by have:=uH HL;omega)];rfl)
   have CQ:=hide (specQueuesOk_any ao len cap l wr (uH HR) hl (uH HN))
   obtain ⟨o,ho⟩:∃o,queuesOk l=o:=⟨_,rfl⟩
   obtain ⟨p,hp2⟩:∃p,place l nm=p:=⟨_,rfl⟩
   rw [ho] at CQ hk2
   have CP:=hide (fun wx (hb:Below wr.heap.size wr wx)=>by have:=l03Place_any ao len cap l nm wx ((uH HR).below hb) hl;rw [hp2] at this;exact this)
   rw [hp2] at hk2
   clear ho hp2 hp
   go_wp2_with fail
   refine (uH CQ).mono ?_
   rintro e w1 ⟨rfl,hb⟩
   have HB:=hide hb
   clear hb CQ
   cases o with
   | false=>
    go_wp2
    go_ret
    exact ⟨yF (by rw [uH hk2];rfl),uH HB⟩
   | true=>
    go_wp2_with fail
    refine (uH CP _ (uH HB)).mono ?_
    rintro e w2 ⟨rfl,rfl⟩
    by_cases h0:0≤p
    ·go_wp2
     go_ret
     exact ⟨yF (by rw [uH hk2];simp [h0]),uH HB⟩
    ·go_wp2
     go_ret
     exact ⟨yF (by rw [uH hk2];simp),uH HB⟩
abbrev fv (p:Int×Int):Value:=rv p.1 p.2
def Frac (x y:Int):Prop:=Small x∧Small y∧(y=0→x=1)
theorem part_frac {u d:Int} (hu:Small u) (hd:Small d):Frac (part u d).1 (part u d).2:=by
 refine ⟨(part_small hu hd).1,(part_small hu hd).2,?_⟩
 unfold part
 split
 ·intro h;simp at h;omega
 ·split<;>simp
theorem ratio_frac (a b c d:Int):Frac (ratio a b c d).1 (ratio a b c d).2:=by
 unfold ratio
 split
 ·rename_i h
  simp only [yK] at h
  obtain ⟨s1,s2⟩:=resOk_small h.1
  obtain ⟨s3,s4⟩:=resOk_small h.2
  split
  ·exact part_frac s2 s4
  ·exact part_frac s1 s3
 ·exact ⟨by unfold Small;simp,by unfold Small;simp,by simp⟩
theorem less_cross {a b c d:Int} (h1:Frac a b) (h2:Frac c d):less a b c d=decide (a*d<c*b):=by
 obtain ⟨⟨a0,a1⟩,⟨b0,b1⟩,k1⟩:=h1
 obtain ⟨⟨c0,c1⟩,⟨d0,d1⟩,k2⟩:=h2
 unfold less
 split
 ·rename_i hb
  subst hb
  rw [k1 rfl]
  simp;omega
 ·split
  ·rename_i hb hd
   subst hd
   rw [k2 rfl]
   simp;omega
  ·rfl
theorem fractionOf_any (u d:Int) (w:World) :
  Calls Tryz.prog 210 #[.int .i64 u,.int .i64 d] w fun e w'=>e=.returned (fv (part u d))∧Below w.heap.size w w':=by
 by_cases h1:0<d
 ·rw [show part u d=(u,d) from if_pos h1]
  go_enter Tryz.func210,Tryz.ntmps210
  go_wp2
  refine bodyPost_ret (v:=rv u d) (by simp [results,Tryz.results210,go_sem]) rfl ⟨rfl,?_⟩
  repeat (first | exact yH _ _ | refine yA ?_ _ | refine Below.drew ?_ | refine yC ?_ _ _ _ (by omega))
 ·by_cases h2:0<u
  ·rw [show part u d=(1,0) by simp [part,h1,h2]]
   go_enter Tryz.func210,Tryz.ntmps210
   go_wp2
   refine bodyPost_ret (v:=rv 1 0) (by simp [results,Tryz.results210,go_sem]) rfl ⟨rfl,?_⟩
   repeat (first | exact yH _ _ | refine yA ?_ _ | refine Below.drew ?_ | refine yC ?_ _ _ _ (by omega))
  ·rw [show part u d=(0,1) by simp [part,h1,h2]]
   go_enter Tryz.func210,Tryz.ntmps210
   go_wp2
   refine bodyPost_ret (v:=rv 0 1) (by simp [results,Tryz.results210,go_sem]) rfl ⟨rfl,?_⟩
   repeat (first | exact yH _ _ | refine yA ?_ _ | refine Below.drew ?_ | refine yC ?_ _ _ _ (by omega))
theorem fracLess_any (a b c d:Int) (w:World) (h1:Frac a b) (h2:Frac c d) :
  Calls Tryz.prog 204 #[rv a b,rv c d] w fun e w'=>e=.returned (.bool (less a b c d))∧Below w.heap.size w w':=by
 obtain ⟨m1,m2⟩:=small_mul h1.1 h2.2.1
 obtain ⟨m3,m4⟩:=small_mul h2.1 h1.2.1
 rw [less_cross h1 h2]
 clear h1 h2
 go_enter Tryz.func204,Tryz.ntmps204
 go_wp2
 go_ret
 refine ⟨rfl,?_⟩
 repeat (first | exact yH _ _ | refine yA ?_ _ | refine Below.drew ?_ | refine yC ?_ _ _ _ (by omega))
theorem pairRatio_any (a b c d:Int) (w:World) :
  Calls Tryz.prog 209 #[pv a b c d] w fun e w'=>e=.returned (fv (ratio a b c d))∧Below w.heap.size w w':=by
 have HV1:=hide ((var4_new w 123 a b c d).al (.cells #[.int .i64 0,.int .i64 0] 250))
 have HV2:=hide (show Var ((w.alloc (.cells #[.int .i64 a,.int .i64 b,.int .i64 c,.int .i64 d] 123)).alloc (.cells #[.int .i64 0,.int .i64 0] 250)) 250 (w.heap.size+1) 0 0 by have:=var_new (w.alloc (.cells #[.int .i64 a,.int .i64 b,.int .i64 c,.int .i64 d] 123)) 250 0 0;simpa using this)
 have HB0:=hide (yA (yA (yH _ w) (.cells #[.int .i64 a,.int .i64 b,.int .i64 c,.int .i64 d] 123)) (.cells #[.int .i64 0,.int .i64 0] 250))
 have hc:=hide (pairOk_any a b c d)
 cases h0:resOk a b&&resOk c d
 ·rw [show ratio a b c d=(0,1) by rw [ratio,h0];rfl]
  go_enter Tryz.func209,Tryz.ntmps209
  go_wp2_with fail
  refine (uH hc _).mono ?_
  rw [h0]
  rintro e w1 ⟨rfl,hb⟩
  have V2:=(uH HV2).below hb
  have k0:=V2.c0
  have k1:=V2.c1
  have k2:=V2.f 0
  have k3:=V2.f 1
  have k4:=V2.s0 (.int .i64 0)
  have k5:=V2.s1 (.int .i64 0) (.int .i64 1)
  have HB:=hide (yB (uH HB0) hb)
  clear hb HV1 HV2 HB0 V2 hc
  go_wp2
  refine bodyPost_ret (v:=rv 0 1) (by simp [results,Tryz.results209,go_sem,k4,k5]) rfl ⟨rfl,?_⟩
  repeat (first | exact uH HB | refine yA ?_ _ | refine Below.drew ?_ | refine yC ?_ _ _ _ (by omega))
 ·have h0':=h0
  simp only [yK] at h0'
  obtain ⟨s1,s2⟩:=resOk_small h0'.1
  obtain ⟨s3,s4⟩:=resOk_small h0'.2
  have F1:=part_frac s1 s3
  have F2:=part_frac s2 s4
  have hr:ratio a b c d=if less (part a c).1 (part a c).2 (part b d).1 (part b d).2 then part b d else part a c:=by rw [ratio,h0];rfl
  rw [hr]
  have hp1:=hide (fractionOf_any a c)
  have hp2:=hide (fractionOf_any b d)
  obtain ⟨⟨x1,y1⟩,e1⟩:∃p,part a c=p:=⟨_,rfl⟩
  obtain ⟨⟨x2,y2⟩,e2⟩:∃p,part b d=p:=⟨_,rfl⟩
  rw [e1] at hp1 F1 ⊢
  rw [e2] at hp2 F2 ⊢
  obtain ⟨l,hl⟩:∃l,less x1 y1 x2 y2=l:=⟨_,rfl⟩
  have hL:∀wx,Calls Tryz.prog 204 #[rv x1 y1,rv x2 y2] wx fun e w'=>e=.returned (.bool l)∧Below wx.heap.size wx w':=fun wx=>by have:=fracLess_any x1 y1 x2 y2 wx F1 F2;rw [hl] at this;exact this
  have HL:=hide hL
  rw [show less (x1,y1).1 (x1,y1).2 (x2,y2).1 (x2,y2).2=l from hl]
  clear hL hl F1 F2 e1 e2 hr s1 s2 s3 s4 h0'
  go_enter Tryz.func209,Tryz.ntmps209
  go_wp2_with fail
  refine (uH hc _).mono ?_
  rw [h0]
  rintro e w1 ⟨rfl,hb⟩
  have V1:=(uH HV1).below hb
  have HV1':=hide V1
  have V2:=hide ((uH HV2).below hb)
  have a1:=V1.c0
  have a2:=V1.c1
  have a3:=V1.c2
  have a4:=V1.c3
  have HB:=hide (yB (uH HB0) hb)
  clear hb HV1 HV2 HB0 V1 hc
  go_wp2_with fail
  refine (uH hp1 _).mono ?_
  rintro e w2 ⟨rfl,hb⟩
  have V3:=hide (((uH HV1').below hb).al (.cells #[.int .i64 x1,.int .i64 y1] 250))
  have V4:=hide (((uH V2).below hb).al (.cells #[.int .i64 x1,.int .i64 y1] 250))
  have V5:=hide (var_new w2 250 x1 y1)
  have HB2:=hide (yA (yB (uH HB) hb) (.cells #[.int .i64 x1,.int .i64 y1] 250))
  clear hb HV1' V2 HB hp1 a1 a2 a3 a4
  have a1:=(uH V3).c0
  have a2:=(uH V3).c1
  have a3:=(uH V3).c2
  have a4:=(uH V3).c3
  go_wp2_with fail
  refine (uH hp2 _).mono ?_
  rintro e w3 ⟨rfl,hb⟩
  have V6:=hide (((uH V4).below hb).al (.cells #[.int .i64 x2,.int .i64 y2] 250))
  have V7:=hide (((uH V5).below hb).al (.cells #[.int .i64 x2,.int .i64 y2] 250))
  have V8:=hide (var_new w3 250 x2 y2)
  have HB3:=hide (yA (yB (uH HB2) hb) (.cells #[.int .i64 x2,.int .i64 y2] 250))
  clear hb V3 V4 V5 HB2 hp2 a1 a2 a3 a4
  have a1:=(uH V7).c0
  have a2:=(uH V7).c1
  have a3:=(uH V8).c0
  have a4:=(uH V8).c1
  go_wp2_with fail
  refine (uH HL _).mono ?_
  rintro e w4 ⟨rfl,hb⟩
  have V9:=(uH V6).below hb
  have V10:=(uH V7).below hb
  have V11:=(uH V8).below hb
  have HB4:=hide (yB (uH HB3) hb)
  clear hb V6 V7 V8 HB3 HL a1 a2 a3 a4
  have a1:=V10.c0
  have a2:=V10.c1
  have a3:=V11.c0
  have a4:=V11.c1
  have k0:=V9.c0
  have k1:=V9.c1
  have k2:=V9.f 0
  have k3:=V9.f 1
  have k4:=V9.s0 (.int .i64 x1)
  have k5:=V9.s1 (.int .i64 x1) (.int .i64 y1)
  have k6:=V9.s0 (.int .i64 x2)
  have k7:=V9.s1 (.int .i64 x2) (.int .i64 y2)
  clear V9 V10 V11
  cases l with
  | true=>
   go_wp2
   refine bodyPost_ret (v:=rv x2 y2) (by simp [results,Tryz.results209,go_sem,k6,k7]) rfl ⟨rfl,?_⟩
   repeat (first | exact uH HB4 | refine yA ?_ _ | refine Below.drew ?_ | refine yC ?_ _ _ _ (by omega))
  | false=>
   go_wp2
   refine bodyPost_ret (v:=rv x1 y1) (by simp [results,Tryz.results209,go_sem,k4,k5]) rfl ⟨rfl,?_⟩
   repeat (first | exact uH HB4 | refine yA ?_ _ | refine Below.drew ?_ | refine yC ?_ _ _ _ (by omega))
end
section
open Go.RowKit Go.Maps
theorem mapLaidOut:laidOutB Tryz.prog=true:=by kernel_rfl
theorem pairRow:(123:TypeId)<Tryz.prog.types.size:=of_decide_eq_true (by kernel_rfl)
theorem pairWide:(match Tryz.prog.underlying 123 with | some (.array _ _) | some (.struct _)=>true | _=>false)=true:=by kernel_rfl
theorem pairLaw:Keyed Tryz.prog 123:=Keyed.of_law (deep_law_laid mapLaidOut (m:=3) (by omega) pairRow (by kernel_rfl) pairWide)
theorem pairKeyType:Tryz.prog.keyType 123=true:=by kernel_rfl
theorem pairCells:Tryz.prog.cellsOf 123=4:=by kernel_rfl
theorem resCells:Tryz.prog.cellsOf 52=2:=by kernel_rfl
theorem intCells:Tryz.prog.cellsOf 3=1:=by kernel_rfl
theorem typesMany:∃m,Tryz.prog.types.size+1=m+3:=⟨Tryz.prog.types.size - 2,by have:3≤Tryz.prog.types.size:=of_decide_eq_true (by kernel_rfl);omega⟩
theorem lits_int (n:Nat) {a:Int} (h:(Lit.int .i64 a).wf=true):Tryz.prog.keyLits (n+1) 3 [.int .i64 a]=some [.int .i64 a]:=by
 simp [Program.keyLits,Tryz.underlying3,h]
theorem lits_res (n:Nat) {a b:Int} (ha:(Lit.int .i64 a).wf=true) (hb:(Lit.int .i64 b).wf=true):Tryz.prog.keyLits (n+2) 52 [.int .i64 a,.int .i64 b]=some [.int .i64 a,.int .i64 b]:=by
 have h:=Tryz.underlying52
 unfold Program.keyLits
 simp [h,resCells,intCells,lits_int n ha,lits_int n hb]
theorem pairKey {a b c d:Int} (ha:(Lit.int .i64 a).wf=true) (hb:(Lit.int .i64 b).wf=true) (hc:(Lit.int .i64 c).wf=true) (hd:(Lit.int .i64 d).wf=true):∃kl,keyOf Tryz.prog 123 (pv a b c d)=some kl:=by
 obtain ⟨m,hm⟩:=typesMany
 have h:Tryz.prog.keyLits (m+3) 123 [.int .i64 a,.int .i64 b,.int .i64 c,.int .i64 d]=some [.int .i64 a,.int .i64 b,.int .i64 c,.int .i64 d]:=by
  have h:=Tryz.underlying123
  unfold Program.keyLits
  simp [h,pairCells,resCells,lits_res m ha hb,lits_res m hc hd,List.range_succ]
 have hu:=Tryz.underlying123
 have hk:keyOf Tryz.prog 123 (pv a b c d)=if Tryz.prog.keyType 123&&(pv a b c d).formed Tryz.prog 123 then (Tryz.prog.keyLits (Tryz.prog.types.size+1) 123 (pv a b c d).cells.toList).map (fun ls=>.string (keyBytes ls)) else none:=by
  unfold keyOf
  rw [hu]
 rw [hk,if_pos (by simp [pairKeyType,Value.formed,hu,pairCells]),hm,show (pv a b c d).cells.toList=[.int .i64 a,.int .i64 b,.int .i64 c,.int .i64 d] from rfl,h]
 exact ⟨_,rfl⟩
def fd (p:Int×Int):DataW Unit:=.agg [.lit (.int .i64 p.1),.lit (.int .i64 p.2)]
def fracElem:Value→Option (DataW Unit×List MemPlace)
 | .agg cs=>match cs.toList with
  | [.int .i64 x,.int .i64 y]=>some (fd (x,y),[])
  | _=>none
 | _=>none
theorem fracElem_mk (x y:Int):fracElem (rv x y)=some (fd (x,y),[]):=rfl
theorem fracElem_inv {v:Value} {x y:Int} {ps:List MemPlace} (h:fracElem v=some (fd (x,y),ps)):v=rv x y:=by
 unfold fracElem at h
 split at h
 ·rename_i cs
  split at h
  ·rename_i x' y' e
   have e2:cs=#[.int .i64 x',.int .i64 y']:=by cases cs;simpa using e
   simp [fd] at h
   rw [e2,h.1.1,h.1.2]
  ·cases h
 ·cases h
def Known (D:DataW Unit):Prop:=∀a b c d kl,keyOf Tryz.prog 123 (pv a b c d)=some kl→Maps.has D kl=true→∀zd,D.atKey kl zd=fd (ratio a b c d)
theorem known_empty:Known (.map []):=fun a b c d kl _ h=>by simp [Maps.has] at h
theorem Known.put {D:DataW Unit} (h:Known D) (hD:IsMap D) {a b c d:Int} {kl:Lit} (hk:keyOf Tryz.prog 123 (pv a b c d)=some kl):Known (D.put kl (fd (ratio a b c d))):=fun a' b' c' d' kl' hk' hh zd=>by
 by_cases e:kl'=kl
 ·subst e
  have:=pairLaw.inj hk hk'
  simp [pv] at this
  obtain ⟨rfl,rfl,rfl,rfl⟩:=this
  exact atKey_put_same hD (pairLaw.key hk) _ _
 ·rw [atKey_put_other e]
  rw [has_put_other e] at hh
  exact h a' b' c' d' kl' hk' hh zd
theorem fracZero (w:World):(zeroValue 250).run Tryz.prog w=.ok (rv 0 0) w:=by kernel_rfl
theorem look {w:World} {bm n:Nat} {D:DataW Unit} (hown:w.ownsMap Tryz.prog 123 fracElem bm n D) (hk:Known D) {a b c d:Int} {kl:Lit} (hkey:keyOf Tryz.prog 123 (pv a b c d)=some kl) :
  (Instr.lookup 228 (.map (some bm)) (pv a b c d) true).run Tryz.prog w=.ok (.tuple #[if Maps.has D kl then fv (ratio a b c d) else rv 0 0,.bool (Maps.has D kl)]) w:=by
 obtain ⟨v,ps,hrun,hv⟩:=hown.look_ok pairLaw Tryz.underlying228 (fracZero w) (fracElem_mk 0 0) hkey
 rw [hrun]
 cases hh:Maps.has D kl
 ·rw [atKey_of_not_has hh] at hv
  rw [fracElem_inv hv]
  rfl
 ·rw [hk a b c d kl hkey hh] at hv
  rw [fracElem_inv hv]
  rfl
abbrev P4:=Int×Int×Int×Int
theorem nodup_len {α:Type}:∀(ps K:List α),ps.Nodup→(∀p ∈ ps,p ∈ K)→ps.length≤K.length
 | [],_,_,_=>Nat.zero_le _
 | p::t,K,h,s=>by
  obtain ⟨h1,h2⟩:=List.nodup_cons.1 h
  obtain ⟨a,b,rfl⟩:=List.append_of_mem (s p (List.mem_cons_self ..))
  have:=nodup_len t (a++b) h2 (fun q hq=>by
   have h3:=s q (List.mem_cons_of_mem _ hq)
   rcases List.mem_append.1 h3 with h3 | h3
   ·exact List.mem_append.2 (.inl h3)
   ·rcases List.mem_cons.1 h3 with rfl | h3
    ·exact absurd hq h1
    ·exact List.mem_append.2 (.inr h3))
  simp at this ⊢
  omega
def HoldsK (K:List P4) (bm:Nat) (w:World):Prop:=∃(ps:List P4) (D:DataW Unit),ps.Nodup∧(∀p ∈ ps,p ∈ K)∧w.ownsMap Tryz.prog 123 fracElem bm ps.length D∧Known D∧∀p ∈ ps,∀kl,keyOf Tryz.prog 123 (pv p.1 p.2.1 p.2.2.1 p.2.2.2)=some kl→Maps.has D kl=true
theorem HoldsK.lt {K:List P4} {bm:Nat} {w:World} (h:HoldsK K bm w):bm<w.heap.size:=let ⟨_,_,_,_,h,_⟩:=h;h.lt
theorem HoldsK.grown {K:List P4} {bm:Nat} {w w':World} {row:Option Nat} (h:HoldsK K bm w) (hg:w.grownBy w' row) (hne:some bm≠row):HoldsK K bm w':=let ⟨ps,D,a,b,h,k⟩:=h;⟨ps,D,a,b,h.kept hg hne,k⟩
theorem HoldsK.below {K:List P4} {bm:Nat} {w w':World} (h:HoldsK K bm w) (hb:Below w.heap.size w w'):HoldsK K bm w':=h.grown (grownBy_below (grownBy_refl w none) hb) (by simp)
theorem holdsK_made (K:List P4) {bm:Nat} {w:World} (h:w.ownsMap Tryz.prog 123 fracElem bm 0 (.map [])):HoldsK K bm w:=⟨[],.map [],List.nodup_nil,(fun _ h=>absurd h (by simp)),h,known_empty,(fun _ h=>absurd h (by simp))⟩
theorem pairLit_ex {a b c d:Int} (ha:(Lit.int .i64 a).wf=true) (hb:(Lit.int .i64 b).wf=true) (hc:(Lit.int .i64 c).wf=true) (hd:(Lit.int .i64 d).wf=true):∃kl,keyOf Tryz.prog 123 (pv a b c d)=some kl:=pairKey ha hb hc hd
theorem ofK_any (K:List P4) (hK:K.length≤1000000000) (a b c d:Int) (ha:(Lit.int .i64 a).wf=true) (hb:(Lit.int .i64 b).wf=true) (hc:(Lit.int .i64 c).wf=true) (hd:(Lit.int .i64 d).wf=true) (hin:(a,b,c,d) ∈ K) (bm:Nat) (w:World) (hm:HoldsK K bm w) :
  Calls Tryz.prog 203 #[.map (some bm),pv a b c d] w fun e w'=>e=.returned (fv (ratio a b c d))∧HoldsK K bm w'∧w.grownBy w' (some bm):=by
 obtain ⟨ps,D,nd,sub,hown,hk,hps⟩:=hm
 obtain ⟨kl,hkey⟩:=pairLit_ex ha hb hc hd
 have hpl:=nodup_len ps K nd sub
 have HPS:=hide (fun (h:Maps.has D kl=false)=>show (a,b,c,d) ∉ ps from fun hp=>by have:=hps _ hp _ hkey;rw [h] at this;exact absurd this (by simp))
 have HND:=hide nd
 have HSUB:=hide sub
 have HPP:=hide hps
 have hlt:=hown.lt
 have hl:=look ((hown.alloc (.cells #[.int .i64 a,.int .i64 b,.int .i64 c,.int .i64 d] 123)).alloc (.cells #[.int .i64 0,.int .i64 0] 250)) hk hkey
 have hpr:=hide (pairRatio_any a b c d)
 have HK:=hide hk
 have HKEY:=hide hkey
 have HOWN:=hide hown
 have HIN:=hide hin
 clear ha hb hc hd hk hkey hown nd sub hps hin
 obtain ⟨f,hf⟩:∃f,Maps.has D kl=f:=⟨_,rfl⟩
 rw [hf] at hl HPS
 obtain ⟨⟨x,y⟩,hr⟩:∃p,ratio a b c d=p:=⟨_,rfl⟩
 rw [hr] at hl hpr ⊢
 have HR:=hide hr
 clear hf hr
 cases f with
 | true=>
  replace hl:(Instr.lookup 228 (.map (some bm)) (pv a b c d) true).run Tryz.prog ((w.alloc (.cells #[.int .i64 a,.int .i64 b,.int .i64 c,.int .i64 d] 123)).alloc (.cells #[.int .i64 0,.int .i64 0] 250))=.ok (.tuple #[rv x y,.bool true]) ((w.alloc (.cells #[.int .i64 a,.int .i64 b,.int .i64 c,.int .i64 d] 123)).alloc (.cells #[.int .i64 0,.int .i64 0] 250)):=hl
  go_enter Tryz.func203,Tryz.ntmps203
  go_wp2
  have HG:∀wx:World,Below w.heap.size w wx→wx=wx→HoldsK K bm wx∧w.grownBy wx (some bm):=fun wx hb _=>
   have hg:w.grownBy wx none:=grownBy_below (grownBy_refl w none) hb
   ⟨⟨ps,D,uH HND,uH HSUB,(uH HOWN).kept hg (by simp),uH HK,uH HPP⟩,grownBy_below (grownBy_refl w (some bm)) hb⟩
  refine bodyPost_ret (v:=rv x y) (by simp [results,Tryz.results203,go_sem]) rfl ⟨rfl,HG _ ?_ rfl⟩
  repeat (first | exact yH _ _ | refine yA ?_ _ | refine Below.drew ?_ | refine yC ?_ _ _ _ (by omega))
 | false=>
  replace hl:(Instr.lookup 228 (.map (some bm)) (pv a b c d) true).run Tryz.prog ((w.alloc (.cells #[.int .i64 a,.int .i64 b,.int .i64 c,.int .i64 d] 123)).alloc (.cells #[.int .i64 0,.int .i64 0] 250))=.ok (.tuple #[rv 0 0,.bool false]) ((w.alloc (.cells #[.int .i64 a,.int .i64 b,.int .i64 c,.int .i64 d] 123)).alloc (.cells #[.int .i64 0,.int .i64 0] 250)):=hl
  have HV1:=hide (((var4_new w 123 a b c d).al (.cells #[.int .i64 0,.int .i64 0] 250)).al (.cells #[.int .i64 0,.int .i64 0] 250))
  have HV2:=hide (show Var (((w.alloc (.cells #[.int .i64 a,.int .i64 b,.int .i64 c,.int .i64 d] 123)).alloc (.cells #[.int .i64 0,.int .i64 0] 250)).alloc (.cells #[.int .i64 0,.int .i64 0] 250)) 250 (w.heap.size+1) 0 0 by
   have:=(var_new (w.alloc (.cells #[.int .i64 a,.int .i64 b,.int .i64 c,.int .i64 d] 123)) 250 0 0).al (.cells #[.int .i64 0,.int .i64 0] 250);simpa using this)
  have HV3:=hide (show Var (((w.alloc (.cells #[.int .i64 a,.int .i64 b,.int .i64 c,.int .i64 d] 123)).alloc (.cells #[.int .i64 0,.int .i64 0] 250)).alloc (.cells #[.int .i64 0,.int .i64 0] 250)) 250 (w.heap.size+1+1) 0 0 by
   have:=var_new ((w.alloc (.cells #[.int .i64 a,.int .i64 b,.int .i64 c,.int .i64 d] 123)).alloc (.cells #[.int .i64 0,.int .i64 0] 250)) 250 0 0;simpa using this)
  have HB0:=hide (yA (yA (yA (yH _ w) (.cells #[.int .i64 a,.int .i64 b,.int .i64 c,.int .i64 d] 123)) (.cells #[.int .i64 0,.int .i64 0] 250)) (.cells #[.int .i64 0,.int .i64 0] 250))
  go_enter Tryz.func203,Tryz.ntmps203
  go_wp2_with fail
  refine (uH hpr _).mono ?_
  rintro e w1 ⟨rfl,hb⟩
  have V1:=hide ((uH HV1).below hb)
  have V2:=hide ((uH HV2).below hb)
  have V3:=hide ((uH HV3).below hb)
  have HB:=hide (yB (uH HB0) hb)
  clear hb hl hpr HV1 HV2 HV3 HB0
  have a1:=(uH V1).c0
  have a2:=(uH V1).c1
  have a3:=(uH V1).c2
  have a4:=(uH V1).c3
  have k0:=(uH V3).c0
  have k1:=(uH V3).c1
  have k2:=(uH V3).f 0
  have k3:=(uH V3).f 1
  have k4:=(uH V3).s0 (.int .i64 x)
  have k5:=(uH V3).s1 (.int .i64 x) (.int .i64 y)
  have ho1:=(((uH HOWN).kept (grownBy_below (grownBy_refl w none) (uH HB)) (by simp)).setCell (a:=⟨w.heap.size+1+1,0,none⟩) (by simp;omega) (.int .i64 x)).setCell (a:=⟨w.heap.size+1+1,1,none⟩) (by simp;omega) (.int .i64 y)
  obtain ⟨w2,hrun,hown2,hgrow2⟩:=ho1.update pairLaw Tryz.underlying228 (by unfold maxLen;omega) (uH HKEY) (fracElem_mk x y)
  have V4:=hide (((uH V3).set x y).grown' hgrow2 (by simp;omega))
  have V5:=hide ((((uH V2).other (w.heap.size+1+1) 0 (.int .i64 x) (by omega)).other (w.heap.size+1+1) 1 (.int .i64 y) (by omega)).grown' hgrow2 (by simp;omega))
  have b0:=(uH V4).c0
  have b1:=(uH V4).c1
  have b2:=(uH V5).c0
  have b3:=(uH V5).c1
  have b4:=(uH V5).f 0
  have b5:=(uH V5).f 1
  have b6:=(uH V5).s0 (.int .i64 x)
  have b7:=(uH V5).s1 (.int .i64 x) (.int .i64 y)
  have hm2:HoldsK K bm w2:=⟨(a,b,c,d)::ps,_,List.nodup_cons.2 ⟨uH HPS (by first | rfl | trivial),uH HND⟩,fun p hp=>by
   rcases List.mem_cons.1 hp with rfl | hp
   ·exact uH HIN
   ·exact uH HSUB p hp,hown2,by rw [←uH HR];exact (uH HK).put (uH HOWN).isMap (uH HKEY),fun p hp kl' hk'=>by
   by_cases e:kl'=kl
   ·subst e;exact has_put_same (uH HOWN).isMap (pairLaw.key (uH HKEY)) _
   ·rcases List.mem_cons.1 hp with rfl | hp
    ·have:=hk'.symm.trans (uH HKEY);cases this;exact absurd rfl e
    ·rw [has_put_other e];exact uH HPP p hp kl' hk'⟩
  have hg1:w.grownBy w2 (some bm):=by
   have g1:w.grownBy ((w1.setCell ⟨w.heap.size+1+1,0,none⟩ (.int .i64 x)).setCell ⟨w.heap.size+1+1,1,none⟩ (.int .i64 y)) (some bm):=grownBy_below (grownBy_refl w (some bm)) (yC (yC (uH HB) _ _ _ (by omega)) _ _ _ (by omega))
   exact grownBy_trans g1 hgrow2
  have HM2:=hide hm2
  have HG1:=hide hg1
  clear ho1 hown2 hgrow2 hm2 hg1 V1 V2 V3 V4 V5 HB
  go_wp2
  have hsz:=(uH HG1).size
  refine bodyPost_ret (v:=rv x y) (by simp [results,Tryz.results203,go_sem,b6,b7]) rfl ⟨rfl,?_,?_⟩
  ·have hg:w2.grownBy ((w2.setCell ⟨w.heap.size+1,0,none⟩ (.int .i64 x)).setCell ⟨w.heap.size+1,1,none⟩ (.int .i64 y)) (some (w.heap.size+1)):=grownBy_set (grownBy_set (grownBy_refl _ _) _ _) _ _
   exact (uH HM2).grown hg (by simp;omega)
  ·exact ⟨(uH HG1).os,(uH HG1).tape,(uH HG1).output,by simpa using hsz,fun k hk hne=>by
    rw [heap_setCell_other _ ⟨w.heap.size+1,1,none⟩ k _ (by simp;omega),heap_setCell_other _ ⟨w.heap.size+1,0,none⟩ k _ (by simp;omega)]
    exact (uH HG1).block k hk hne⟩
def PairsK (K:List P4) (w0:World) (bm:Nat) (a b c d e f g h:Int) (wx:World):Prop:=
 Var4 wx 123 w0.heap.size a b c d∧Var4 wx 123 (w0.heap.size+1) e f g h∧w0.grownBy wx (some bm)∧bm<w0.heap.size∧HoldsK K bm wx
theorem PairsK.call {K:List P4} {w0 w1 w2:World} {bm:Nat} {a b c d e f g h:Int} (p:PairsK K w0 bm a b c d e f g h w1) (hk:HoldsK K bm w2) (hg:w1.grownBy w2 (some bm)):PairsK K w0 bm a b c d e f g h w2:=by
 obtain ⟨p1,p2,p3,p4,_⟩:=p
 exact ⟨p1.grown hg (by simp;omega),p2.grown hg (by simp;omega),grownBy_trans p3 hg,p4,hk⟩
theorem PairsK.below {K:List P4} {w0 w1 w2:World} {bm:Nat} {a b c d e f g h:Int} (p:PairsK K w0 bm a b c d e f g h w1) (hb:Below w1.heap.size w1 w2):PairsK K w0 bm a b c d e f g h w2:=p.call (p.2.2.2.2.below hb) (grownBy_below (grownBy_refl _ _) hb)
theorem PairsK.drew {K:List P4} {w0 w1:World} {bm:Nat} {a b c d e f g h:Int} (p:PairsK K w0 bm a b c d e f g h w1):PairsK K w0 bm a b c d e f g h w1.drew:=p.below (yH _ _).drew
theorem PairsK.read (K:List P4) (w0:World) (bm:Nat) (a b c d e f g h:Int):∀wx,PairsK K w0 bm a b c d e f g h wx→wx.cell? ⟨w0.heap.size,0,none⟩=some (.int .i64 a)∧wx.cell? ⟨w0.heap.size,1,none⟩=some (.int .i64 b)∧wx.cell? ⟨w0.heap.size,2,none⟩=some (.int .i64 c)∧wx.cell? ⟨w0.heap.size,3,none⟩=some (.int .i64 d)
  ∧wx.cell? ⟨w0.heap.size+1,0,none⟩=some (.int .i64 e)∧wx.cell? ⟨w0.heap.size+1,1,none⟩=some (.int .i64 f)∧wx.cell? ⟨w0.heap.size+1,2,none⟩=some (.int .i64 g)∧wx.cell? ⟨w0.heap.size+1,3,none⟩=some (.int .i64 h):=
 fun wx p=>⟨p.1.c0,p.1.c1,p.1.c2,p.1.c3,p.2.1.c0,p.2.1.c1,p.2.1.c2,p.2.1.c3⟩
def Wf4 (a b c d:Int):Prop:=(Lit.int .i64 a).wf=true∧(Lit.int .i64 b).wf=true∧(Lit.int .i64 c).wf=true∧(Lit.int .i64 d).wf=true
theorem lessK_any (K:List P4) (hK:K.length≤1000000000) (a b c d e f g h:Int) (h1:Wf4 a b c d) (h2:Wf4 e f g h) (i1:(a,b,c,d) ∈ K) (i2:(e,f,g,h) ∈ K) (bm:Nat) (w:World) (hm:HoldsK K bm w) :
  Calls Tryz.prog 183 #[.map (some bm),pv a b c d,pv e f g h] w fun o w'=>o=.returned (.bool (lessR a b c d e f g h))∧HoldsK K bm w'∧w.grownBy w' (some bm):=by
 have C1:=hide (fun wx (hx:HoldsK K bm wx)=>ofK_any K hK a b c d h1.1 h1.2.1 h1.2.2.1 h1.2.2.2 i1 bm wx hx)
 have C2:=hide (fun wx (hx:HoldsK K bm wx)=>ofK_any K hK e f g h h2.1 h2.2.1 h2.2.2.1 h2.2.2.2 i2 bm wx hx)
 have C3:=hide (fun wx=>fracLess_any _ _ _ _ wx (ratio_frac a b c d) (ratio_frac e f g h))
 have hlt:=hm.lt
 have A0:=hide (show PairsK K w bm a b c d e f g h ((w.alloc (.cells #[.int .i64 a,.int .i64 b,.int .i64 c,.int .i64 d] 123)).alloc (.cells #[.int .i64 e,.int .i64 f,.int .i64 g,.int .i64 h] 123)) from
  ⟨(var4_new w 123 a b c d).al _,by have:=var4_new (w.alloc (.cells #[.int .i64 a,.int .i64 b,.int .i64 c,.int .i64 d] 123)) 123 e f g h;simpa using this,grownBy_below (grownBy_refl _ _) (yA (yA (yH _ _) _) _),hlt,hm.below (yA (yA (yH _ w) _) _)⟩)
 have R:=PairsK.read K w bm a b c d e f g h
 unfold lessR
 obtain ⟨l,hl⟩:∃l,less (ratio a b c d).1 (ratio a b c d).2 (ratio e f g h).1 (ratio e f g h).2=l:=⟨_,rfl⟩
 rw [hl] at C3 ⊢
 obtain ⟨⟨x1,y1⟩,e1⟩:∃p,ratio a b c d=p:=⟨_,rfl⟩
 obtain ⟨⟨x2,y2⟩,e2⟩:∃p,ratio e f g h=p:=⟨_,rfl⟩
 rw [e1] at C1 C3
 rw [e2] at C2 C3
 clear hl e1 e2 h1 h2 hm i1 i2
 go_enter Tryz.func183,Tryz.ntmps183
 go_wp2_with fail
 go_region_held3 (fun wx=>PairsK K w bm a b c d e f g h wx)
  (first | (with_reducible assumption) | exact (uH A0).drew | exact PairsK.drew (by assumption))
  (first
  | (go_at_call_of 203 a;refine (uH C1 _ ?_).mono ?_;(exact (show PairsK K w bm a b c d e f g h _ by assumption).2.2.2.2);rintro o wt ⟨rfl,hh,hg⟩;have SA:=PairsK.call (K:=K) (w0:=w) (bm:=bm) (a:=a) (b:=b) (c:=c) (d:=d) (e:=e) (f:=f) (g:=g) (h:=h) (by assumption) hh hg)
  | (go_at_call_of 203 e;refine (uH C2 _ ?_).mono ?_;(exact (show PairsK K w bm a b c d e f g h _ by assumption).2.2.2.2);rintro o wt ⟨rfl,hh,hg⟩;have SA:=PairsK.call (K:=K) (w0:=w) (bm:=bm) (a:=a) (b:=b) (c:=c) (d:=d) (e:=e) (f:=f) (g:=g) (h:=h) (by assumption) hh hg)
  | (go_at_call 204;refine (uH C3 _).mono ?_;rintro o wt ⟨rfl,hb⟩;have SA:=PairsK.below (K:=K) (w0:=w) (bm:=bm) (a:=a) (b:=b) (c:=c) (d:=d) (e:=e) (f:=f) (g:=g) (h:=h) (by assumption) hb))
 all_goals
  have HG:=hide SA.2.2
  go_wp2
  go_ret
  exact ⟨rfl,(uH HG).2.2,(uH HG).1⟩
abbrev SE:=List UInt8×P4
def stc (x:SE):List Value:=[.string (bs x.1),.int .i64 x.2.1,.int .i64 x.2.2.1,.int .i64 x.2.2.2.1,.int .i64 x.2.2.2.2]
abbrev stv (x:SE):Value:=.agg #[.string (bs x.1),.int .i64 x.2.1,.int .i64 x.2.2.1,.int .i64 x.2.2.2.1,.int .i64 x.2.2.2.2]
def stcs:List SE→List Value
 | []=>[]
 | x::t=>stc x++stcs t
theorem stcs_len:∀l:List SE,(stcs l).length=l.length*5
 | []=>rfl
 | x::t=>by rw [stcs,List.length_append,stcs_len t];simp [stc];omega
theorem stcs_app:∀a b:List SE,stcs (a++b)=stcs a++stcs b
 | [],b=>rfl
 | x::t,b=>by rw [List.cons_append,stcs,stcs_app t b,stcs,List.append_assoc]
theorem stcs_take:∀(l:List SE) (k:Nat),stcs (l.take k)=(stcs l).take (k*5)
 | l,0=>by simp [stcs]
 | [],k+1=>by simp [stcs]
 | x::t,k+1=>by
  rw [List.take_succ_cons,stcs,stcs,stcs_take t k,show (k+1)*5=(stc x).length+k*5 by simp [stc];omega,List.take_length_add_append]
theorem stcs_at:∀(l:List SE) (i:Nat) (h:i<l.length),(stcs l)[i*5]? = some (.string (bs l[i].1))∧(stcs l)[i*5+1]? = some (.int .i64 l[i].2.1)∧(stcs l)[i*5+2]? = some (.int .i64 l[i].2.2.1)∧(stcs l)[i*5+3]? = some (.int .i64 l[i].2.2.2.1)∧(stcs l)[i*5+4]? = some (.int .i64 l[i].2.2.2.2)
 | x::t,0,_=>by simp [stcs,stc]
 | x::t,i+1,h=>by
  have ih:=stcs_at t i (by simpa using h)
  have e:∀r,(stcs (x::t))[(i+1)*5+r]? = (stcs t)[i*5+r]?:=fun r=>by
   rw [stcs,List.getElem?_append_right (by simp [stc];omega)]
   congr 1
   simp [stc];omega
  have e0:=e 0
  simp only [Nat.add_zero] at e0
  rw [e0,e 1,e 2,e 3,e 4]
  simpa using ih
def stset (xs:List Value) (i:Nat) (x:SE):List Value:=((((xs.set (i*5) (.string (bs x.1))).set (i*5+1) (.int .i64 x.2.1)).set (i*5+2) (.int .i64 x.2.2.1)).set (i*5+3) (.int .i64 x.2.2.2.1)).set (i*5+4) (.int .i64 x.2.2.2.2)
theorem stcs_set:∀(l:List SE) (i:Nat) (x:SE),stset (stcs l) i x=stcs (l.set i x)
 | [],i,x=>by simp [stcs,stset]
 | y::t,0,x=>by simp [stcs,stc,stset]
 | y::t,i+1,x=>by
  have ih:=stcs_set t i x
  have e:∀(s:List Value) r v,(stc y++s).set ((i+1)*5+r) v=stc y++s.set (i*5+r) v:=fun s r v=>by
   rw [List.set_append,if_neg (by simp [stc];omega)]
   congr 2
   simp [stc];omega
  rw [sC,stcs,stcs,←ih,stset,stset]
  have e0:=fun s v=>e s 0 v
  simp only [Nat.add_zero] at e0
  rw [e0,e,e,e,e]
theorem own_set {w:World} {B g cap n j sz:Nat} {e:TypeId} {xs:List Value} (h:w.ownsRow B e sz (.slice (some ⟨g,0,none⟩) n cap) n xs) (hj:j<n*sz) (v:Value):(w.setCell ⟨g,j,none⟩ v).ownsRow B e sz (.slice (some ⟨g,0,none⟩) n cap) n (xs.set j v):=by
 obtain ⟨h1,h2⟩:=h
 refine ⟨by simpa using h1,?_⟩
 rcases h2 with ⟨e,_⟩ | ⟨g',cap',cur,e,hb,hc,k1,k2,k3,k4⟩
 ·cases e
 ·cases e
  refine .inr ⟨g,cap,_,rfl,hb,heap_setCell_same w g j cur _ _ hc,k1,k2,by simpa using k3,?_⟩
  rw [Array.toList_setIfInBounds,List.take_set,k4]
def stW (w:World) (g i:Nat) (x:SE):World:=((((w.setCell ⟨g,i*5,none⟩ (.string (bs x.1))).setCell ⟨g,i*5+1,none⟩ (.int .i64 x.2.1)).setCell ⟨g,i*5+2,none⟩ (.int .i64 x.2.2.1)).setCell ⟨g,i*5+3,none⟩ (.int .i64 x.2.2.2.1)).setCell ⟨g,i*5+4,none⟩ (.int .i64 x.2.2.2.2)
theorem own_stset {w:World} {B g cap i:Nat} {l:List SE} (h:w.ownsRow B 183 5 (.slice (some ⟨g,0,none⟩) l.length cap) l.length (stcs l)) (hi:i<l.length) (x:SE):(stW w g i x).ownsRow B 183 5 (.slice (some ⟨g,0,none⟩) l.length cap) l.length (stcs (l.set i x)):=by
 rw [←stcs_set]
 exact own_set (own_set (own_set (own_set (own_set h (by omega) _) (by omega) _) (by omega) _) (by omega) _) (by omega) _
def lessP (p q:P4):Bool:=lessR p.1 p.2.1 p.2.2.1 p.2.2.2 q.1 q.2.1 q.2.2.1 q.2.2.2
def aheadS (x y:SE):Bool:=OrdM.ahead lessP Op.bytesLess x y
theorem Blk.gby1 {w w':World} {g k:Nat} {arr:Array Value} {t:TypeId} (h:Blk w k arr t) (hg:w.grownBy w' (some g)) (hn:k≠g):Blk w' k arr t:=(hg.block k h.lt (fun e=>hn (by simpa using e))).trans h
abbrev cloV (bk:Nat):Value:=.func (.func 182) #[] #[.pointer (some ⟨bk,0,none⟩)]
theorem leastFn_any (K:List P4) (hK:K.length≤1000000000) (KW:∀p ∈ K,Wf4 p.1 p.2.1 p.2.2.1 p.2.2.2) (x y:SE) (hx:x.2 ∈ K) (hy:y.2 ∈ K) (bm bk:Nat) (w:World) (hc:Blk w bk #[.map (some bm)] 228) (hm:HoldsK K bm w) (hne:bk≠bm) :
  Calls Tryz.prog 182 #[stv x,stv y,.pointer (some ⟨bk,0,none⟩)] w fun e w'=>e=.returned (.bool (aheadS x y))∧HoldsK K bm w'∧w.grownBy w' (some bm):=by
 obtain ⟨n1,a,b,c,d⟩:=x
 obtain ⟨n2,e,f,g,h⟩:=y
 have C1:=hide (fun wx hm=>lessK_any K hK a b c d e f g h (KW _ hx) (KW _ hy) hx hy bm wx hm)
 have C2:=hide (fun wx hm=>lessK_any K hK e f g h a b c d (KW _ hy) (KW _ hx) hy hx bm wx hm)
 have HA:=hide (show aheadS (n1,a,b,c,d) (n2,e,f,g,h)=(lessR a b c d e f g h||(!lessR e f g h a b c d&&Op.bytesLess n1 n2)) from rfl)
 obtain ⟨l1,hl1⟩:∃z,lessR a b c d e f g h=z:=⟨_,rfl⟩
 obtain ⟨l2,hl2⟩:∃b',lessR e f g h a b c d=b':=⟨_,rfl⟩
 obtain ⟨o,ho⟩:∃b',aheadS (n1,a,b,c,d) (n2,e,f,g,h)=b':=⟨_,rfl⟩
 rw [hl1] at C1 HA
 rw [hl2] at C2 HA
 rw [ho] at HA ⊢
 have X0:=hide ((yD w #[.string (bs n1),.int .i64 a,.int .i64 b,.int .i64 c,.int .i64 d] 183).al (.cells #[.string (bs n2),.int .i64 e,.int .i64 f,.int .i64 g,.int .i64 h] 183))
 have Y0:=hide (show Blk ((w.alloc (.cells #[.string (bs n1),.int .i64 a,.int .i64 b,.int .i64 c,.int .i64 d] 183)).alloc (.cells #[.string (bs n2),.int .i64 e,.int .i64 f,.int .i64 g,.int .i64 h] 183)) (w.heap.size+1) #[.string (bs n2),.int .i64 e,.int .i64 f,.int .i64 g,.int .i64 h] 183 from by have:=yD (w.alloc (.cells #[.string (bs n1),.int .i64 a,.int .i64 b,.int .i64 c,.int .i64 d] 183)) #[.string (bs n2),.int .i64 e,.int .i64 f,.int .i64 g,.int .i64 h] 183;rw [yE] at this;exact this)
 have M0:=hide ((hc.al (.cells #[.string (bs n1),.int .i64 a,.int .i64 b,.int .i64 c,.int .i64 d] 183)).al (.cells #[.string (bs n2),.int .i64 e,.int .i64 f,.int .i64 g,.int .i64 h] 183))
 have hb0:=yA (yA (yH _ w) (.cells #[.string (bs n1),.int .i64 a,.int .i64 b,.int .i64 c,.int .i64 d] 183)) (.cells #[.string (bs n2),.int .i64 e,.int .i64 f,.int .i64 g,.int .i64 h] 183)
 have H0:=hide (hm.below hb0)
 have G0:=hide (grownBy_below (grownBy_refl w (some bm)) hb0)
 have hlm:bm<w.heap.size:=hm.lt
 clear hl1 hl2 ho hc hm hb0 hx hy
 have c0:=(uH M0).at 0
 have x1:=(uH X0).at 1;have x2:=(uH X0).at 2;have x3:=(uH X0).at 3;have x4:=(uH X0).at 4
 have y1:=(uH Y0).at 1;have y2:=(uH Y0).at 2;have y3:=(uH Y0).at 3;have y4:=(uH Y0).at 4
 simp at c0 x1 x2 x3 x4 y1 y2 y3 y4
 go_enter Tryz.func182,Tryz.ntmps182
 go_wp2_with fail
 refine (uH C1 _ (uH H0)).mono ?_
 rintro e1 w1 ⟨rfl,hh,hg⟩
 have H1:=hide hh
 have G1:=hide (grownBy_trans (uH G0) hg)
 have X1:=hide ((uH X0).gby1 hg (by omega))
 have Y1:=hide ((uH Y0).gby1 hg (by omega))
 have M1:=hide ((uH M0).gby1 hg hne)
 clear hh hg H0 G0 X0 Y0 M0 C1 c0 x1 x2 x3 x4 y1 y2 y3 y4
 cases l1
 case true=>
  go_wp2
  go_ret
  exact ⟨yF (by rw [uH HA];rfl),uH H1,uH G1⟩
 have c0:=(uH M1).at 0
 have x1:=(uH X1).at 1;have x2:=(uH X1).at 2;have x3:=(uH X1).at 3;have x4:=(uH X1).at 4
 have y1:=(uH Y1).at 1;have y2:=(uH Y1).at 2;have y3:=(uH Y1).at 3;have y4:=(uH Y1).at 4
 simp at c0 x1 x2 x3 x4 y1 y2 y3 y4
 go_wp2_with fail
 refine (uH C2 _ (uH H1)).mono ?_
 rintro e2 w2 ⟨rfl,hh,hg⟩
 have H2:=hide hh
 have G2:=hide (grownBy_trans (uH G1) hg)
 have X2:=hide ((uH X1).gby1 hg (by omega))
 have Y2:=hide ((uH Y1).gby1 hg (by omega))
 clear hh hg H1 G1 X1 Y1 M1 C2 c0 x1 x2 x3 x4 y1 y2 y3 y4
 cases l2
 case true=>
  go_wp2
  go_ret
  exact ⟨yF (by rw [uH HA];rfl),uH H2,uH G2⟩
 have x0:=(uH X2).at 0
 have y0:=(uH Y2).at 0
 simp at x0 y0
 obtain ⟨bl,hbl⟩:∃z,Op.bytesLess (bs n1).toList (bs n2).toList=z:=⟨_,rfl⟩
 have HBL:=hide (show Op.bytesLess n1 n2=bl by rw [←hbl];simp [bs])
 go_wp2
 go_ret
 exact ⟨yF (by rw [uH HA,uH HBL];rfl),uH H2,uH G2⟩
end
section
open Go.RowKit
theorem specPath_any (ao:Option Addr) (len cap:Nat) (l:List Q) (nm:List UInt8) (w:World) (h:QRow w ao len l) (hl:len≤1048576) (hn:∀q ∈ l,q.name.length≤1048576) :
  Calls Tryz.prog 109 #[.slice ao len cap,.string (bs nm)] w fun e w'=>∃v,e=.returned v∧Texts w.heap.size w' v (path l nm)∧Below w.heap.size w w':=by
 obtain ⟨i0,hi,hz0,hz1,hz2⟩:=info_parts Tryz.infoS
 have HR:=hide h
 have HL:=hide h.1
 have hlw:=h.1
 have CQ:=hide (fun wx (hb:Below w.heap.size w wx)=>specQueuesOk_any ao len cap l wx (h.below hb) hl hn)
 have CP:=hide (fun (x:List UInt8) wx (hb:Below w.heap.size w wx)=>l03Place_any ao len cap l x wx (h.below hb) hl)
 obtain ⟨p0,hp0⟩:∃p,place l nm=p:=⟨_,rfl⟩
 have hpr:p0 = -1∨(0≤p0∧p0<len):=by have:=place_range l nm;rw [hp0] at this;omega
 have HP0:=hide hp0
 have CP0:=hide (by have:=(uH CP) nm (w.alloc (.cells #[] 9)) (yA (yH _ _) _);rw [hp0] at this;exact this)
 obtain ⟨ok,hok⟩:∃ok,queuesOk l=ok:=⟨_,rfl⟩
 rw [hok] at CQ
 have HOK:=hide hok
 have HS0:=hide (sown_empty w)
 clear h hn hp0 hok hlw
 go_enter Tryz.func109,Tryz.ntmps109
 go_wp2_with fail
 refine (uH CP0).mono ?_
 rintro e w1 ⟨rfl,rfl⟩
 clear CP0
 go_wp2
 go_loopw [5,6] (fun v i wr=>∃(p:Int) (o:List ByteArray),i=.int .i64 p∧(p = -1∨(0≤p∧p<len))∧o.length+p<len+1∧Hid (ok=true→o++(pathAt l (l.length+1) p).map bs=(path l nm).map bs)∧Hid (ok=false→o=[])∧Hid (wr.ownsRow w.heap.size 9 1 v o.length (scells o))∧Hid (Below w.heap.size w wr)) (fun _ i _=>(intOf i+1).toNat)
 case atStart=>
  refine ⟨p0,[],rfl,hpr,by simp;omega,hide (fun e=>?_),hide (fun _=>rfl),HS0,hide (yA (yH _ _) _)⟩
  rw [path,uH HOK,e,if_pos rfl,uH HP0];rfl
 case round=>
  obtain ⟨p,o,rfl,hp,ho,HO,HE,HS,HB⟩:=hrel
  by_cases h0:0≤p
  ·obtain ⟨k,rfl⟩:∃k:Nat,p=k:=⟨p.toNat,by omega⟩
   have hlt:k<len:=by omega
   cases ok with
   | false=>
    go_wp2_with fail
    refine (uH CQ _ (uH HB)).mono ?_
    rintro e w2 ⟨rfl,hb⟩
    have HB2:=hide (yB (uH HB) hb)
    have HS2:=hide (sown_below (uH HS) hb)
    clear hb
    go_wp2
    go_ret
    refine ⟨_,rfl,Texts.of (uH HS2) ?_,uH HB2⟩
    rw [uH HE (by first | rfl | trivial),show path l nm=[] by rw [path,uH HOK];rfl]
    rfl
   | true=>
    have hkl:k<l.length:=by have:=uH HL;omega
    have hahead:=parent_ahead (uH HOK) hkl
    have hstep:=path_step (uH HOK) hkl (n:=l.length+1) (by omega)
    obtain ⟨b,off,rfl,hq⟩:=(uH HR).at hlt
    have hqq:=hq hkl
    obtain ⟨q,hs⟩:∃q,l[k]=q:=⟨_,rfl⟩
    rw [hs] at hqq hahead hstep
    obtain ⟨pn,hpn⟩:∃p,place l q.parent=p:=⟨_,rfl⟩
    have hpr2:pn = -1∨(0≤pn∧pn<len):=by have:=place_range l q.parent;rw [hpn] at this;have:=uH HL;omega
    rw [hpn] at hahead hstep
    have HQQ:=hide hqq
    have HST:=hide hstep
    have HPN:=hide hpn
    clear hq hqq hs hkl hstep hpn
    go_wp2_with fail
    refine (uH CQ _ (uH HB)).mono ?_
    rintro e w2 ⟨rfl,hb⟩
    have hown:=sown_below (uH HS) hb
    have hbel:=yB (uH HB) hb
    have HC:=hide ((uH HQQ).below hbel)
    have c0:=(uH HC).1
    have hsz:=hbel.size
    have hol:o.length≤1048576:=by omega
    clear hb HS HB CQ
    go_wp2_with (at_builtin;refine wpList_append_own _ rfl _ _ 49 rfl w.heap.size 9 i0 (.string ByteArray.empty) 1 16 Tryz.underlying49 hi hz0 hz1 hz2 rfl (by decide) _ _ _ rfl (hown.alloc _) ⟨w2.heap.size,0,none⟩ 1 1 [.string (bs q.name)] rfl rfl ?c1 ?c2 ?c3 ?c4 ?c5 ?_)
    case c1=>intro j v hj;match j,hj with | 0,hj=>simp at hj;subst hj;simp [Addr.add]
    case c2=>intro v hv;simp at hv;subst hv;rfl
    case c3=>unfold maxLen;omega
    case c4=>omega
    case c5=>simp;omega
    intro v' w3 hown' hgrow _
    have R:=srow_step hbel hown hown' hgrow (by omega)
    have HR3:=hide R
    have c1:=(show QAt w3 b (off+k*4) q from (uH HQQ).below R.2).2.1
    clear hown' hgrow hown hbel c0 R HC
    go_wp2_with fail
    refine (uH CP q.parent _ (uH HR3).2).mono ?_
    rintro e w4 ⟨rfl,rfl⟩
    rw [uH HPN]
    go_wp2
    go_roundw
    case rel=>exact ⟨pn,o++[bs q.name],rfl,hpr2,by simp;omega,hide (fun _=>by have:=uH HO (by first | rfl | trivial);rw [uH HST] at this;simpa using this),hide (fun e=>by cases e),hide (uH HR3).1,hide (uH HR3).2⟩
    case measure=>simp [intOf];omega
  ·have hp1:p = -1:=by omega
   subst hp1
   go_wp2
   go_ret
   refine ⟨_,rfl,Texts.of (uH HS) ?_,uH HB⟩
   cases ok with
   | true=>
    have:=uH HO (by first | rfl | trivial)
    rw [path_end (by omega)] at this
    simpa using this
   | false=>
    rw [uH HE (by first | rfl | trivial),show path l nm=[] by rw [path,uH HOK];rfl]
    rfl
theorem l03Of_any (ao:Option Addr) (len cap:Nat) (l:List Q) (nm:List UInt8) (a b:Int) (most:Bool) (w:World) (h:QRow w ao len l) (hl:len≤1048576) (hn:∀q ∈ l,q.name.length≤1048576) :
  Calls Tryz.prog 110 #[.slice ao len cap,.string (bs nm),rv a b,.bool most] w fun e w'=>e=.returned (rv (ofR l nm a b most).1 (ofR l nm a b most).2)∧Below w.heap.size w w':=by
 have HR:=hide h
 have HV1:=hide ((var_new w 52 a b).al (.cells #[.int .i64 0,.int .i64 0] 52))
 have HV2:=hide (var_new2 w 52 52 a b 0 0)
 have HB0:=hide (yA (yA (yH _ w) (.cells #[.int .i64 a,.int .i64 b] 52)) (.cells #[.int .i64 0,.int .i64 0] 52))
 have CPath:=hide (specPath_any ao len cap l nm _ (h.below (uH HB0)) hl hn)
 have CP:=hide (fun (x:List UInt8) wx (hb:Below w.heap.size w wx)=>l03Place_any ao len cap l x wx (h.below hb) hl)
 have CK:=hide (specResOk_bel a b)
 have hpl:=path_len l nm
 have HPL:=hide (show (path l nm).length≤len+1 by have:=h.1;omega)
 have HNM:=hide (path_names (l:=l) (nm:=nm))
 obtain ⟨ps,hps⟩:∃ps,path l nm=ps:=⟨_,rfl⟩
 obtain ⟨ok,hok⟩:∃ok,resOk a b=ok:=⟨_,rfl⟩
 rw [hps] at CPath HPL HNM
 rw [hok] at CK
 obtain ⟨⟨x,y⟩,hxy⟩:∃p,ofR l nm a b most=p:=⟨_,rfl⟩
 rw [hxy]
 have HXY:=hide (show (if ps=[]∨ok=false then ((0:Int),(0:Int)) else ofP l most (a,b) ps)=(x,y) by rw [←hxy,ofR,hps,hok])
 have HLL:=hide h.1
 clear h hn hps hok hxy hpl
 go_enter Tryz.func110,Tryz.ntmps110
 go_wp2_with fail
 refine (uH CPath).mono ?_
 rintro e w1 ⟨v,rfl,ht,hb⟩
 have V1:=hide ((uH HV1).below hb)
 have V2:=hide ((uH HV2).below hb)
 have HB1:=hide (yB (uH HB0) hb)
 have HT:=hide ht
 clear ht hb HV1 HV2 HB0 CPath
 by_cases hp:ps=[]
 ·subst hp
  obtain ⟨va,vc,rfl⟩:=texts_none (uH HT)
  have hz:(x,y)=((0:Int),(0:Int)):=by rw [←uH HXY,if_pos (.inl rfl)]
  simp only [Prod.mk.injEq] at hz
  obtain ⟨rfl,rfl⟩:=hz
  have k0:=(uH V2).c0
  have k1:=(uH V2).c1
  have k2:=(uH V2).f 0
  have k3:=(uH V2).f 1
  have k4:=(uH V2).s0 (.int .i64 0)
  have k5:=(uH V2).s1 (.int .i64 0) (.int .i64 0)
  go_wp2
  refine bodyPost_ret (v:=rv 0 0) (by simp [results,Tryz.results110,go_sem,k4,k5]) rfl ⟨rfl,?_⟩
  repeat (first | exact uH HB1 | refine yA ?_ _ | refine Below.drew ?_ | refine yC ?_ _ _ _ (by omega))
 ·obtain ⟨g,gc,rfl,hss,hg⟩:=texts_some (uH HT) hp
  have HSS:=hide hss
  have hlp:0<ps.length:=List.length_pos_iff.2 hp
  have HPN:=hide hp
  have hln:((ps.length:Int)==0)=false:=by simp;exact hp
  have a0:=(uH V1).c0
  have a1:=(uH V1).c1
  have hpl2:ps.length≤1048577:=by have:=uH HPL;omega
  clear hss hp HT
  go_wp2_with fail
  refine (uH CK _).mono ?_
  rintro e w2 ⟨rfl,hb⟩
  have HSS2:=hide ((uH HSS).below hb (uH HSS).lt)
  have W1:=hide ((uH V1).below hb)
  have W2:=hide ((uH V2).below hb)
  have HB2:=hide (yB (uH HB1) hb)
  have hs1:w.heap.size+1<w2.heap.size:=(uH W2).lt
  clear hb a0 a1 HSS V1 V2 HB1 CK
  have hgl:g<w2.heap.size:=(uH HSS2).lt
  cases ok with
  | false=>
   have hz:(x,y)=((0:Int),(0:Int)):=by rw [←uH HXY,if_pos (.inr rfl)]
   simp only [Prod.mk.injEq] at hz
   obtain ⟨rfl,rfl⟩:=hz
   have k0:=(uH W2).c0
   have k1:=(uH W2).c1
   have k2:=(uH W2).f 0
   have k3:=(uH W2).f 1
   have k4:=(uH W2).s0 (.int .i64 0)
   have k5:=(uH W2).s1 (.int .i64 0) (.int .i64 0)
   go_wp2
   refine bodyPost_ret (v:=rv 0 0) (by simp [results,Tryz.results110,go_sem,k4,k5]) rfl ⟨rfl,?_⟩
   repeat (first | exact uH HB2 | refine yA ?_ _ | refine Below.drew ?_ | refine yC ?_ _ _ _ (by omega))
  | true=>
   have HF:=hide (show ofP l most (a,b) ps=(x,y) by have:=uH HXY;rw [if_neg (by simp;exact uH HPN)] at this;exact this)
   have a0:=(uH W1).c0
   have a1:=(uH W1).c1
   have hw2:=(uH HB2).size
   clear HXY
   go_wp2
   clear a0 a1
   go_loopw [11] (fun i wr=>∃(j u v:Int),i=.int .i64 j∧-1≤j∧j+2≤ps.length∧Hid (ofP l most (a,b) (ps.drop (j+1).toNat)=(u,v))∧Hid (Var wr 52 w2.heap.size u v)∧Hid (SS wr g gc (ps.map bs))∧Hid (Var wr 52 (w.heap.size+1) 0 0)∧Hid (Below w.heap.size w wr)) (fun i _=>(intOf i+1).toNat)
   case atStart=>
    refine ⟨(ps.length:Int) - 2,a,b,by go_num,by omega,by omega,hide ?_,hide (var_new _ _ _ _),hide ((uH HSS2).below (yA (yH _ _) _) hgl),hide ((uH W2).al _),hide (yA (uH HB2) _)⟩
    rw [show ((ps.length:Int) - 2+1).toNat=ps.length - 1 by omega]
    exact ofP_last l most (a,b) (uH HPN)
   case round=>
    obtain ⟨j,u,v,rfl,hj1,hj2,HO,HU,HS,HT,HB⟩:=hrel
    by_cases h0:0≤j
    ·obtain ⟨k,rfl⟩:∃k:Nat,j=k:=⟨j.toNat,by omega⟩
     have hk1:k+1<ps.length:=by omega
     obtain ⟨kk,hkk,hpk,hbn⟩:=uH HNM ps[k] (yM _)
     have hkl:kk<len:=by have:=uH HLL;omega
     obtain ⟨rb,off,rfl,hq⟩:=((uH HR).below (uH HB)).at hkl
     have hqq:=hq hkk
     have hst:=ofP_step l most (a,b) hk1
     rw [hbn] at hst
     obtain ⟨q,hs⟩:∃q,l[kk]=q:=⟨_,rfl⟩
     rw [hs] at hqq hst
     have e0:ofP l most (a,b) (ps.drop (k+1))=(u,v):=by have:=uH HO;rw [show ((k:Int)+1).toNat=k+1 by omega] at this;exact this
     rw [e0] at hst
     simp only at hst
     obtain ⟨c0,c1,c2,c3⟩:=hqq
     have ct:=(uH HS).text (show k<ps.length by omega)
     have u0:=((uH HU).al (.cells #[.string (bs q.name),.string (bs q.parent),.int .i64 q.due,.int .i64 q.most] 99)).c0
     have u1:=((uH HU).al (.cells #[.string (bs q.name),.string (bs q.parent),.int .i64 q.due,.int .i64 q.most] 99)).c1
     obtain ⟨u',hu'⟩:∃z,shareM u v (fieldOf most q)=z:=⟨_,rfl⟩
     obtain ⟨v',hv'⟩:∃z,shareC u v (fieldOf most q)=z:=⟨_,rfl⟩
     rw [hu',hv'] at hst
     have HNEW:=hide (show ofP l most (a,b) (ps.drop ((k:Int) - 1+1).toNat)=(u',v') by rw [show ((k:Int) - 1+1).toNat=k by omega];exact hst)
     have hsh:∀wx,Calls Tryz.prog 150 #[rv u v,.int .i64 (fieldOf most q)] wx fun e w'=>e=.returned (rv u' v')∧Below wx.heap.size wx w':=fun wx=>by have:=specShare_any u v (fieldOf most q) wx;rw [hu',hv'] at this;exact this
     have k00:(0:Int)≤kk:=by omega
     have k01:(kk:Int)<len:=by omega
     have p00:(0:Int)≤k:=by omega
     have p01:(k:Int)<ps.length:=by omega
     clear hq hbn hs hst e0 hu' hv' hkk HO
     cases most with
     | true=>
      have CSh:=hide (show ∀wx,Calls Tryz.prog 150 #[rv u v,.int .i64 q.most] wx fun e w'=>e=.returned (rv u' v')∧Below wx.heap.size wx w' from hsh)
      clear hsh
      go_wp2_with fail
      refine (uH CP ps[k] _ (uH HB)).mono ?_
      rintro e w4 ⟨rfl,rfl⟩
      rw [hpk]
      go_wp2_with fail
      refine (uH CSh _).mono ?_
      rintro e w5 ⟨rfl,hb⟩
      have U:=((uH HU).al (.cells #[.string (bs q.name),.string (bs q.parent),.int .i64 q.due,.int .i64 q.most] 99)).below hb
      have HU5:=hide U
      have T:=hide (((uH HT).al (.cells #[.string (bs q.name),.string (bs q.parent),.int .i64 q.due,.int .i64 q.most] 99)).below hb)
      have S5:=hide (((uH HS).below (yA (yH _ _) (.cells #[.string (bs q.name),.string (bs q.parent),.int .i64 q.due,.int .i64 q.most] 99)) (uH HS).lt).below hb (by have:=(uH HS).lt;simp;omega))
      have HB5:=hide (yB (yA (uH HB) (.cells #[.string (bs q.name),.string (bs q.parent),.int .i64 q.due,.int .i64 q.most] 99)) hb)
      have k0:=U.c0
      have k1:=U.c1
      have k2:=U.f 0
      have k3:=U.f 1
      clear hb U c0 c1 c2 c3 ct u0 u1
      go_wp2
      go_roundw
      case rel=>exact ⟨(k:Int) - 1,u',v',by go_num,by omega,by omega,HNEW,hide ((uH HU5).set u' v'),hide (((uH S5).same (heap_setCell_other _ ⟨w2.heap.size,0,none⟩ g _ (by simp;omega))).same (heap_setCell_other _ ⟨w2.heap.size,1,none⟩ g _ (by simp;omega))),hide (((uH T).other w2.heap.size 0 _ (by omega)).other w2.heap.size 1 _ (by omega)),hide (yC (yC (uH HB5) _ _ _ (by omega)) _ _ _ (by omega))⟩
      case measure=>simp [intOf]
     | false=>
      have CSh:=hide (show ∀wx,Calls Tryz.prog 150 #[rv u v,.int .i64 q.due] wx fun e w'=>e=.returned (rv u' v')∧Below wx.heap.size wx w' from hsh)
      clear hsh
      go_wp2_with fail
      refine (uH CP ps[k] _ (uH HB)).mono ?_
      rintro e w4 ⟨rfl,rfl⟩
      rw [hpk]
      go_wp2_with fail
      refine (uH CSh _).mono ?_
      rintro e w5 ⟨rfl,hb⟩
      have U:=((uH HU).al (.cells #[.string (bs q.name),.string (bs q.parent),.int .i64 q.due,.int .i64 q.most] 99)).below hb
      have HU5:=hide U
      have T:=hide (((uH HT).al (.cells #[.string (bs q.name),.string (bs q.parent),.int .i64 q.due,.int .i64 q.most] 99)).below hb)
      have S5:=hide (((uH HS).below (yA (yH _ _) (.cells #[.string (bs q.name),.string (bs q.parent),.int .i64 q.due,.int .i64 q.most] 99)) (uH HS).lt).below hb (by have:=(uH HS).lt;simp;omega))
      have HB5:=hide (yB (yA (uH HB) (.cells #[.string (bs q.name),.string (bs q.parent),.int .i64 q.due,.int .i64 q.most] 99)) hb)
      have k0:=U.c0
      have k1:=U.c1
      have k2:=U.f 0
      have k3:=U.f 1
      clear hb U c0 c1 c2 c3 ct u0 u1
      go_wp2
      go_roundw
      case rel=>exact ⟨(k:Int) - 1,u',v',by go_num,by omega,by omega,HNEW,hide ((uH HU5).set u' v'),hide (((uH S5).same (heap_setCell_other _ ⟨w2.heap.size,0,none⟩ g _ (by simp;omega))).same (heap_setCell_other _ ⟨w2.heap.size,1,none⟩ g _ (by simp;omega))),hide (((uH T).other w2.heap.size 0 _ (by omega)).other w2.heap.size 1 _ (by omega)),hide (yC (yC (uH HB5) _ _ _ (by omega)) _ _ _ (by omega))⟩
      case measure=>simp [intOf]
    ·have hjm:j = -1:=by omega
     subst hjm
     have hxx:(u,v)=(x,y):=by rw [←uH HO,←uH HF];simp
     simp only [Prod.mk.injEq] at hxx
     obtain ⟨rfl,rfl⟩:=hxx
     have u0:=(uH HU).c0
     have u1:=(uH HU).c1
     have k0:=(uH HT).c0
     have k1:=(uH HT).c1
     have k2:=(uH HT).f 0
     have k3:=(uH HT).f 1
     have k4:=(uH HT).s0 (.int .i64 u)
     have k5:=(uH HT).s1 (.int .i64 u) (.int .i64 v)
     go_wp2
     refine bodyPost_ret (v:=rv u v) (by simp [results,Tryz.results110,go_sem,k4,k5]) rfl ⟨rfl,?_⟩
     repeat (first | exact uH HB | refine yA ?_ _ | refine Below.drew ?_ | refine yC ?_ _ _ _ (by omega))
theorem specDueOf_any (ao:Option Addr) (len cap:Nat) (l:List Q) (nm:List UInt8) (a b:Int) (w:World) (h:QRow w ao len l) (hl:len≤1048576) (hn:∀q ∈ l,q.name.length≤1048576) :
  Calls Tryz.prog 60 #[.slice ao len cap,.string (bs nm),rv a b] w fun e w'=>e=.returned (rv (ofR l nm a b false).1 (ofR l nm a b false).2)∧Below w.heap.size w w':=by
 have HB0:=hide (yA (yA (yH _ w) (.cells #[.int .i64 a,.int .i64 b] 52)) (.cells #[.int .i64 0,.int .i64 0] 52))
 have HV2:=hide (var_new2 w 52 52 a b 0 0)
 have C:=hide (l03Of_any ao len cap l nm a b false _ (h.below (uH HB0)) hl hn)
 obtain ⟨⟨x,y⟩,hxy⟩:∃p,ofR l nm a b false=p:=⟨_,rfl⟩
 rw [hxy] at C ⊢
 clear hxy h hn
 go_enter Tryz.func60,Tryz.ntmps60
 go_wp2_with fail
 refine (uH C).mono ?_
 rintro e w1 ⟨rfl,hb⟩
 have V2:=(uH HV2).below hb
 have k0:=V2.c0
 have k1:=V2.c1
 have k2:=V2.f 0
 have k3:=V2.f 1
 have k4:=V2.s0 (.int .i64 x)
 have k5:=V2.s1 (.int .i64 x) (.int .i64 y)
 have HB:=hide (yB (uH HB0) hb)
 clear hb V2 HV2 HB0 C
 go_wp2
 refine bodyPost_ret (v:=rv x y) (by simp [results,Tryz.results60,go_sem,k4,k5]) rfl ⟨rfl,?_⟩
 repeat (first | exact uH HB | refine yA ?_ _ | refine Below.drew ?_ | refine yC ?_ _ _ _ (by omega))
end
end Go.Proofs.YtokabeokclpljaaGreat
