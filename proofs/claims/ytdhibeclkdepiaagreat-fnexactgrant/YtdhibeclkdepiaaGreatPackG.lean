/-
  bI in one: QueuesOkS, LeafS, PathS, OfSL, OfSD, OfSM.
-/
import Derived.Test.YtdhibeclkdepiaaGreatPackE
set_option maxRecDepth 100000
set_option maxHeartbeats 16000000
set_option linter.unusedVariables false
set_option linter.unusedSimpArgs false
namespace Go.Proofs.YtdhibeclkdepiaaGreat
section
open Go.RowKit
theorem iM (ao:Option Addr) (len cap:Nat) (l:List Q) (w:World) (h:gM w ao len l) (hl:len≤1048576) (hn:∀q ∈ l,q.name.length≤1048576) :
  Calls Tryz.prog 52 #[.slice ao len cap] w fun e w'=>e=.returned (.bool (aG l))∧Below w.heap.size w w':=by
 have HR:=aA h
 have HL:=aA h.1
 have HN:=aA hn
 clear h hn
 go_enter Tryz.func52,Tryz.ntmps52
 go_wp2
 go_loopw [3] (fun i wr=>∃k:Nat,k≤len∧i=.int .i64 k∧Hid (fF l l 0=fF l (l.drop k) k)∧Hid (Below w.heap.size w wr)) (fun i _=>len - (intOf i).toNat)
 case atStart=>exact ⟨0,Nat.zero_le _,rfl,aA (by simp),aA (Below.refl _ _)⟩
 case round=>
  obtain ⟨k,hk,rfl,hp,HB⟩:=hrel
  by_cases hlt:k<len
  ·have HR2:=aA ((uH HR).below (uH HB))
   obtain ⟨b,off,rfl,hq⟩:=(uH HR2).at hlt
   have hkl:k<l.length:=by have:=uH HL;omega
   have hst:=aA (aCu (l:=l) (k:=k) hkl)
   obtain ⟨c0,c1,c2,c3⟩:=hq hkl
   have hz:=uH HN l[k] (List.getElem_mem _)
   clear hq
   obtain ⟨⟨nm,pa,du,mo⟩,hs⟩:∃s,l[k]=s:=⟨_,rfl⟩
   rw [hs] at c0 c1 c2 c3 hst hz
   simp only at c0 c1 c2 c3 hz
   clear hs hkl
   obtain ⟨b1,g1⟩:∃b,bC nm=b:=⟨_,rfl⟩
   obtain ⟨p1,g2⟩:∃p,place l nm=p:=⟨_,rfl⟩
   obtain ⟨p2,g3⟩:∃p,place l pa=p:=⟨_,rfl⟩
   have CN:=aA (fun wx=>by have:=kG (bs nm) wx (by rw [dA];exact hz);rw [show (bs nm).data.toList=nm by simp [bs],g1] at this;exact this)
   have RR:=(uH HR2).below (yA (Below.refl _ wr) (.cells #[.string (bs nm),.string (bs pa),.int .i64 du,.int .i64 mo] 100))
   have CP1:=aA (by have:=iH (some ⟨b,off,none⟩) len cap l nm _ RR hl;rw [g2] at this;exact this)
   have CP2:=aA (by have:=iH (some ⟨b,off,none⟩) len cap l pa _ RR hl;rw [g3] at this;exact this)
   have HB2:=aA (yA (uH HB) (.cells #[.string (bs nm),.string (bs pa),.int .i64 du,.int .i64 mo] 100))
   have G1:=aA g1
   have G2:=aA g2
   have G3:=aA g3
   clear g1 g2 g3 RR HR2 hz
   cases b1 with
   | false=>
    go_wp2_with (first | (go_at_call 87;refine (uH CN _).mono ?_;rintro e w' ⟨rfl,rfl⟩) | (go_at_call_of 88 nm;refine (uH CP1).mono ?_;rintro e w' ⟨rfl,rfl⟩) | (go_at_call_of 88 pa;refine (uH CP2).mono ?_;rintro e w' ⟨rfl,rfl⟩) | (go_at_call 42;refine (aM _ _ _ _).mono ?_;rintro e w' ⟨rfl,rfl⟩))
    go_ret
    exact ⟨yF (uY (by rw [uH hp,uH hst];simp [qOk,uH G1])).symm,uH HB2⟩
   | true=>
    by_cases e2:p1=k
    ·subst e2
     cases h3:inB mo 0 10000
     ·skip
      go_wp2_with (first | (go_at_call 87;refine (uH CN _).mono ?_;rintro e w' ⟨rfl,rfl⟩) | (go_at_call_of 88 nm;refine (uH CP1).mono ?_;rintro e w' ⟨rfl,rfl⟩) | (go_at_call_of 88 pa;refine (uH CP2).mono ?_;rintro e w' ⟨rfl,rfl⟩) | (go_at_call 42;refine (aM _ _ _ _).mono ?_;rintro e w' ⟨rfl,rfl⟩))
      go_ret
      exact ⟨yF (uY (by rw [uH hp,uH hst];simp [qOk,uH G1,uH G2,h3])).symm,uH HB2⟩
     ·cases h4:inB du 0 mo
      ·skip
       go_wp2_with (first | (go_at_call 87;refine (uH CN _).mono ?_;rintro e w' ⟨rfl,rfl⟩) | (go_at_call_of 88 nm;refine (uH CP1).mono ?_;rintro e w' ⟨rfl,rfl⟩) | (go_at_call_of 88 pa;refine (uH CP2).mono ?_;rintro e w' ⟨rfl,rfl⟩) | (go_at_call 42;refine (aM _ _ _ _).mono ?_;rintro e w' ⟨rfl,rfl⟩))
       go_ret
       exact ⟨yF (uY (by rw [uH hp,uH hst];simp [qOk,uH G1,uH G2,h3,h4])).symm,uH HB2⟩
      ·by_cases hk0:k=0
       ·have k1:((k:Int)==0)=true:=by simp [hk0]
        have k2:¬(0:Int)<k:=by omega
        have k3:¬0<k:=by omega
        have HK0:=aA hk0
        clear hk0
        have hbe:=l7 pa
        by_cases e5:pa=[]
        ·have E5:=aA e5
         rw [decide_eq_true e5] at hbe
         clear e5
         by_cases e6:du=10000
         ·subst e6
          go_wp2_with (first | (go_at_call 87;refine (uH CN _).mono ?_;rintro e w' ⟨rfl,rfl⟩) | (go_at_call_of 88 nm;refine (uH CP1).mono ?_;rintro e w' ⟨rfl,rfl⟩) | (go_at_call_of 88 pa;refine (uH CP2).mono ?_;rintro e w' ⟨rfl,rfl⟩) | (go_at_call 42;refine (aM _ _ _ _).mono ?_;rintro e w' ⟨rfl,rfl⟩))
          go_roundw
          case rel=>exact ⟨k+1,by omega,by go_num,aA (by rw [uH hp,uH hst];simp [qOk,uH G1,uH G2,h3,h4,uH HK0,uH E5]),HB2⟩
          case measure=>simp [intOf];omega
         ·have E6:=aA e6
          have hd:(du==10000)=false:=by simp [e6]
          clear e6
          go_wp2_with (first | (go_at_call 87;refine (uH CN _).mono ?_;rintro e w' ⟨rfl,rfl⟩) | (go_at_call_of 88 nm;refine (uH CP1).mono ?_;rintro e w' ⟨rfl,rfl⟩) | (go_at_call_of 88 pa;refine (uH CP2).mono ?_;rintro e w' ⟨rfl,rfl⟩) | (go_at_call 42;refine (aM _ _ _ _).mono ?_;rintro e w' ⟨rfl,rfl⟩))
          go_ret
          exact ⟨yF (uY (by rw [uH hp,uH hst];simp [qOk,uH G1,uH G2,h3,h4,uH HK0,uH E5,uH E6])).symm,uH HB2⟩
        ·have E5:=aA e5
         rw [decide_eq_false e5] at hbe
         clear e5
         go_wp2_with (first | (go_at_call 87;refine (uH CN _).mono ?_;rintro e w' ⟨rfl,rfl⟩) | (go_at_call_of 88 nm;refine (uH CP1).mono ?_;rintro e w' ⟨rfl,rfl⟩) | (go_at_call_of 88 pa;refine (uH CP2).mono ?_;rintro e w' ⟨rfl,rfl⟩) | (go_at_call 42;refine (aM _ _ _ _).mono ?_;rintro e w' ⟨rfl,rfl⟩))
         go_ret
         exact ⟨yF (uY (by rw [uH hp,uH hst];simp [qOk,uH G1,uH G2,h3,h4,uH HK0,uH E5])).symm,uH HB2⟩
       ·have k1:((k:Int)==0)=false:=by simp [hk0]
        have k2:(0:Int)<k:=by omega
        have k3:0<k:=by omega
        have HK0:=aA hk0
        clear hk0
        cases h7:inB p2 0 ((k:Int) - 1)
        ·skip
         go_wp2_with (first | (go_at_call 87;refine (uH CN _).mono ?_;rintro e w' ⟨rfl,rfl⟩) | (go_at_call_of 88 nm;refine (uH CP1).mono ?_;rintro e w' ⟨rfl,rfl⟩) | (go_at_call_of 88 pa;refine (uH CP2).mono ?_;rintro e w' ⟨rfl,rfl⟩) | (go_at_call 42;refine (aM _ _ _ _).mono ?_;rintro e w' ⟨rfl,rfl⟩))
         go_ret
         exact ⟨yF (uY (by rw [uH hp,uH hst];simp [qOk,uH G1,uH G2,uH G3,h3,h4,h7,uH HK0])).symm,uH HB2⟩
        ·skip
         go_wp2_with (first | (go_at_call 87;refine (uH CN _).mono ?_;rintro e w' ⟨rfl,rfl⟩) | (go_at_call_of 88 nm;refine (uH CP1).mono ?_;rintro e w' ⟨rfl,rfl⟩) | (go_at_call_of 88 pa;refine (uH CP2).mono ?_;rintro e w' ⟨rfl,rfl⟩) | (go_at_call 42;refine (aM _ _ _ _).mono ?_;rintro e w' ⟨rfl,rfl⟩))
         go_roundw
         case rel=>exact ⟨k+1,by omega,by go_num,aA (by rw [uH hp,uH hst];simp [qOk,uH G1,uH G2,uH G3,h3,h4,h7,uH HK0]),HB2⟩
         case measure=>simp [intOf];omega
    ·have h2:(p1==(k:Int))=false:=by simp [e2]
     have E2:=aA e2
     clear e2
     go_wp2_with (first | (go_at_call 87;refine (uH CN _).mono ?_;rintro e w' ⟨rfl,rfl⟩) | (go_at_call_of 88 nm;refine (uH CP1).mono ?_;rintro e w' ⟨rfl,rfl⟩) | (go_at_call_of 88 pa;refine (uH CP2).mono ?_;rintro e w' ⟨rfl,rfl⟩) | (go_at_call 42;refine (aM _ _ _ _).mono ?_;rintro e w' ⟨rfl,rfl⟩))
     go_ret
     exact ⟨yF (uY (by rw [uH hp,uH hst];simp [qOk,uH G1,uH G2,uH E2])).symm,uH HB2⟩
  ·have ho:=aA (show fF l l 0=true by rw [uH hp];exact aEt (by have:=uH HL;omega))
   have HD:=aA (y9 l 0 (uH ho))
   have HR2:=aA ((uH HR).below (uH HB))
   clear hp
   go_wp2
   go_loopw [5] (fun i wx=>∃m:Nat,m≤len∧i=.int .i64 m∧Hid (iQ l l=iQ l (l.drop m))∧wx=wr) (fun i _=>len - (intOf i).toNat)
   case atStart=>exact ⟨0,Nat.zero_le _,rfl,aA (by simp),rfl⟩
   case round=>
    obtain ⟨m,hm,rfl,hp,rfl⟩:=hrel
    by_cases hlm:m<len
    ·obtain ⟨b,off,rfl,hq⟩:=(uH HR2).at hlm
     have hml:m<l.length:=by have:=uH HL;omega
     have hst:=aA (aCe (l:=l) (k:=m) hml)
     have c0:=(hq hml).1
     clear hq
     obtain ⟨nm,hs⟩:∃s,l[m].name=s:=⟨_,rfl⟩
     rw [hs] at c0 hst
     obtain ⟨t,ht⟩:∃t,fO l nm=t:=⟨_,rfl⟩
     have CS:=aA (by have:=aFI (some ⟨b,off,none⟩) len cap l nm _ (uH HR2) hl (uH HD);rw [ht] at this;exact this)
     have HTT:=aA ht
     clear hs hml ht
     by_cases hgt:10000<t
     ·go_wp2_with (go_at_call 89;refine (uH CS).mono ?_;rintro e w' ⟨rfl,rfl⟩)
      go_ret
      exact ⟨yF (aJm (by rw [uH hp,uH hst,uH HTT];simp;omega)).symm,uH HB⟩
     ·go_wp2_with (go_at_call 89;refine (uH CS).mono ?_;rintro e w' ⟨rfl,rfl⟩)
      go_roundw
      case rel=>exact ⟨m+1,by omega,by go_num,aA (by rw [uH hp,uH hst,uH HTT];simp;omega),trivial⟩
      case measure=>simp [intOf];omega
    ·have hfin:=aA (aJl (uH ho) (show iQ l l=true by rw [uH hp];exact aE6 (by have:=uH HL;omega)))
     have HLL:=uH HL
     have hfin2:=aA (show inB (len:Int) 1 20=aG l by rw [uH hfin,HLL])
     clear HLL
     go_wp2_with (go_at_call 42;refine (aM _ _ _ _).mono ?_;rintro e w' ⟨rfl,rfl⟩)
     go_ret
     exact ⟨yF (uH hfin2),uH HB⟩
def xE (nm:List UInt8):List Q→Bool
 | []=>true
 | q::t=>decide (q.parent≠nm)&&xE nm t
def aDy (l:List Q) (nm:List UInt8):Bool:=xE nm l&&(aG l&&decide (0≤place l nm))
theorem aEu {nm:List UInt8} {l:List Q} {k:Nat} (h:k<l.length):xE nm (l.drop k)=(decide (l[k].parent≠nm)&&xE nm (l.drop (k+1))):=by
 rw [List.drop_eq_getElem_cons h,xE]
theorem aG4 {nm:List UInt8} {l:List Q} {k:Nat} (h:l.length≤k):xE nm (l.drop k)=true:=by
 rw [List.drop_of_length_le h];rfl
theorem rV (ao:Option Addr) (len cap:Nat) (l:List Q) (nm:List UInt8) (w:World) (h:gM w ao len l) (hl:len≤1048576) (hn:∀q ∈ l,q.name.length≤1048576) :
  Calls Tryz.prog 90 #[.slice ao len cap,.string (bs nm)] w fun e w'=>e=.returned (.bool (aDy l nm))∧Below w.heap.size w w':=by
 have HR:=aA h
 have HL:=aA h.1
 have HN:=aA hn
 clear h hn
 go_enter Tryz.func90,Tryz.ntmps90
 go_wp2
 go_loopw [5] (fun i wr=>∃k:Nat,k≤len∧i=.int .i64 k∧Hid (xE nm l=xE nm (l.drop k))∧wr=w) (fun i _=>len - (intOf i).toNat)
 case atStart=>exact ⟨0,Nat.zero_le _,rfl,aA (by simp),rfl⟩
 case round=>
  obtain ⟨k,hk,rfl,hp,rfl⟩:=hrel
  by_cases hlt:k<len
  ·obtain ⟨b,off,rfl,hq⟩:=(uH HR).at hlt
   have hkl:k<l.length:=by have:=uH HL;omega
   have hst:=aA (aEu (nm:=nm) (l:=l) (k:=k) hkl)
   have hq0:=(hq hkl).2.1
   clear hq
   obtain ⟨s,hs⟩:∃s,l[k].parent=s:=⟨_,rfl⟩
   rw [hs] at hq0 hst
   have hbe:=mV s nm
   clear hs hkl
   by_cases he:s=nm
   ·have HE:=aA he
    rw [decide_eq_true he] at hbe
    clear he
    go_wp2
    go_ret
    exact ⟨yF (by rw [aDy,uH hp,uH hst];simp [uH HE]),Below.refl _ _⟩
   ·have HE:=aA he
    rw [decide_eq_false he] at hbe
    clear he
    go_wp2
    go_roundw
    case rel=>exact ⟨k+1,by omega,by go_num,aA (by rw [uH hp,uH hst];simp [uH HE]),trivial⟩
    case measure=>simp [intOf];omega
  ·have hk2:=aA (show aDy l nm=(aG l&&decide (0≤place l nm)) by rw [aDy,uH hp,aG4 (by have:=uH HL;omega)];rfl)
   have CQ:=aA (iM ao len cap l wr (uH HR) hl (uH HN))
   obtain ⟨o,ho⟩:∃o,aG l=o:=⟨_,rfl⟩
   obtain ⟨p,hp2⟩:∃p,place l nm=p:=⟨_,rfl⟩
   rw [ho] at CQ hk2
   have CP:=aA (fun wx (hb:Below wr.heap.size wr wx)=>by have:=iH ao len cap l nm wx ((uH HR).below hb) hl;rw [hp2] at this;exact this)
   rw [hp2] at hk2
   clear ho hp2 hp
   go_wp2_with fail
   refine (uH CQ).mono ?_
   rintro e w1 ⟨rfl,hb⟩
   have HB:=aA hb
   clear hb CQ
   cases o with
   | false=>
    go_wp2
    go_ret
    exact ⟨yF (by rw [uH hk2];rfl),uH HB⟩
   | true=>
    go_wp2_with fail
    refine (uH CP _ (uH HB)).mono ?_
    rintro e w2 ⟨rfl,rfl⟩
    by_cases h0:0≤p
    ·go_wp2
     go_ret
     exact ⟨yF (by rw [uH hk2];simp [h0]),uH HB⟩
    ·go_wp2
     go_ret
     exact ⟨yF (by rw [uH hk2];simp),uH HB⟩
theorem mI (ao:Option Addr) (len cap:Nat) (l:List Q) (nm:List UInt8) (w:World) (h:gM w ao len l) (hl:len≤1048576) (hn:∀q ∈ l,q.name.length≤1048576) :
  Calls Tryz.prog 162 #[.slice ao len cap,.string (bs nm)] w fun e w'=>∃v,e=.returned v∧bI w.heap.size w' v (path l nm)∧Below w.heap.size w w':=by
 obtain ⟨i0,hi,hz0,hz1,hz2⟩:=info_parts Tryz.infoS
 have HR:=aA h
 have HL:=aA h.1
 have hlw:=h.1
 have CQ:=aA (fun wx (hb:Below w.heap.size w wx)=>iM ao len cap l wx (h.below hb) hl hn)
 have CP:=aA (fun (x:List UInt8) wx (hb:Below w.heap.size w wx)=>iH ao len cap l x wx (h.below hb) hl)
 obtain ⟨p0,hp0⟩:∃p,place l nm=p:=⟨_,rfl⟩
 have hpr:p0 = -1∨(0≤p0∧p0<len):=by have:=dS l nm;rw [hp0] at this;omega
 have HP0:=aA hp0
 have CP0:=aA (by have:=(uH CP) nm (w.alloc (.cells #[] 9)) (yA (Below.refl _ _) _);rw [hp0] at this;exact this)
 obtain ⟨ok,hok⟩:∃ok,aG l=ok:=⟨_,rfl⟩
 rw [hok] at CQ
 have HOK:=aA hok
 have HS0:=aA (yJ w)
 clear h hn hp0 hok hlw
 go_enter Tryz.func162,Tryz.ntmps162
 go_wp2_with fail
 refine (uH CP0).mono ?_
 rintro e w1 ⟨rfl,rfl⟩
 clear CP0
 go_wp2
 go_loopw [5,6] (fun v i wr=>∃(p:Int) (o:List ByteArray),i=.int .i64 p∧(p = -1∨(0≤p∧p<len))∧o.length+p<len+1∧Hid (ok=true→o++(dQ l (l.length+1) p).map bs=(path l nm).map bs)∧Hid (ok=false→o=[])∧Hid (wr.ownsRow w.heap.size 9 1 v o.length (gG o))∧Hid (Below w.heap.size w wr)) (fun _ i _=>(intOf i+1).toNat)
 case atStart=>
  refine ⟨p0,[],rfl,hpr,by simp;omega,aA (fun e=>?_),aA (fun _=>rfl),HS0,aA (yA (Below.refl _ _) _)⟩
  rw [path,uH HOK,e,if_pos rfl,uH HP0];rfl
 case round=>
  obtain ⟨p,o,rfl,hp,ho,HO,HE,HS,HB⟩:=hrel
  by_cases h0:0≤p
  ·obtain ⟨k,rfl⟩:∃k:Nat,p=k:=⟨p.toNat,by omega⟩
   have hlt:k<len:=by omega
   cases ok with
   | false=>
    go_wp2_with fail
    refine (uH CQ _ (uH HB)).mono ?_
    rintro e w2 ⟨rfl,hb⟩
    have HB2:=aA (yB (uH HB) hb)
    have HS2:=aA (kQ (uH HS) hb)
    clear hb
    go_wp2
    go_ret
    refine ⟨_,rfl,bI.of (uH HS2) ?_,uH HB2⟩
    rw [uH HE (by first | rfl | trivial),show path l nm=[] by rw [path,uH HOK];rfl]
    rfl
   | true=>
    have hkl:k<l.length:=by have:=uH HL;omega
    have hahead:=iF (uH HOK) hkl
    have hstep:=aGO (uH HOK) hkl (n:=l.length+1) (by omega)
    obtain ⟨b,off,rfl,hq⟩:=(uH HR).at hlt
    have hqq:=hq hkl
    obtain ⟨q,hs⟩:∃q,l[k]=q:=⟨_,rfl⟩
    rw [hs] at hqq hahead hstep
    obtain ⟨pn,hpn⟩:∃p,place l q.parent=p:=⟨_,rfl⟩
    have hpr2:pn = -1∨(0≤pn∧pn<len):=by have:=dS l q.parent;rw [hpn] at this;have:=uH HL;omega
    rw [hpn] at hahead hstep
    have HQQ:=aA hqq
    have HST:=aA hstep
    have HPN:=aA hpn
    clear hq hqq hs hkl hstep hpn
    go_wp2_with fail
    refine (uH CQ _ (uH HB)).mono ?_
    rintro e w2 ⟨rfl,hb⟩
    have hown:=kQ (uH HS) hb
    have hbel:=yB (uH HB) hb
    have HC:=aA ((uH HQQ).below hbel)
    have c0:=(uH HC).1
    have hsz:=hbel.size
    have hol:o.length≤1048576:=by omega
    clear hb HS HB CQ
    go_wp2_with (at_builtin;refine wpList_append_own _ rfl _ _ 175 rfl w.heap.size 9 i0 (.string ByteArray.empty) 1 16 Tryz.underlying175 hi hz0 hz1 hz2 rfl (by decide) _ _ _ rfl (hown.alloc _) ⟨w2.heap.size,0,none⟩ 1 1 [.string (bs q.name)] rfl rfl ?c1 ?c2 ?c3 ?c4 ?c5 ?_)
    case c1=>intro j v hj;match j,hj with | 0,hj=>simp at hj;subst hj;simp [Addr.add]
    case c2=>intro v hv;simp at hv;subst hv;rfl
    case c3=>unfold maxLen;omega
    case c4=>omega
    case c5=>simp;omega
    intro v' w3 hown' hgrow _
    have R:=aBD hbel hown hown' hgrow (by omega)
    have HR3:=aA R
    have c1:=(show QAt w3 b (off+k*4) q from (uH HQQ).below R.2).2.1
    clear hown' hgrow hown hbel c0 R HC
    go_wp2_with fail
    refine (uH CP q.parent _ (uH HR3).2).mono ?_
    rintro e w4 ⟨rfl,rfl⟩
    rw [uH HPN]
    go_wp2
    go_roundw
    case rel=>exact ⟨pn,o++[bs q.name],rfl,hpr2,by simp;omega,aA (fun _=>by have:=uH HO (by first | rfl | trivial);rw [uH HST] at this;simpa using this),aA (fun e=>by cases e),aA (uH HR3).1,aA (uH HR3).2⟩
    case measure=>simp [intOf];omega
  ·have hp1:p = -1:=by omega
   subst hp1
   go_wp2
   go_ret
   refine ⟨_,rfl,bI.of (uH HS) ?_,uH HB⟩
   cases ok with
   | true=>
    have:=uH HO (by first | rfl | trivial)
    rw [aDn (by omega)] at this
    simpa using this
   | false=>
    rw [uH HE (by first | rfl | trivial),show path l nm=[] by rw [path,uH HOK];rfl]
    rfl
theorem aBl (ao:Option Addr) (len cap:Nat) (l:List Q) (nm:List UInt8) (a b:Int) (most:Bool) (w:World) (h:gM w ao len l) (hl:len≤1048576) (hn:∀q ∈ l,q.name.length≤1048576) :
  Calls Tryz.prog 186 #[.slice ao len cap,.string (bs nm),rv a b,.bool most] w fun e w'=>e=.returned (rv (ofR l nm a b most).1 (ofR l nm a b most).2)∧Below w.heap.size w w':=by
 have HR:=aA h
 have HV1:=aA ((aJ w 36 a b).al (.cells #[.int .i64 0,.int .i64 0] 36))
 have HV2:=aA (fJ w 36 36 a b 0 0)
 have HB0:=aA (yA (yA (Below.refl _ w) (.cells #[.int .i64 a,.int .i64 b] 36)) (.cells #[.int .i64 0,.int .i64 0] 36))
 have CPath:=aA (mI ao len cap l nm _ (h.below (uH HB0)) hl hn)
 have CP:=aA (fun (x:List UInt8) wx (hb:Below w.heap.size w wx)=>iH ao len cap l x wx (h.below hb) hl)
 have CK:=aA (aAN a b)
 have hpl:=aAT l nm
 have HPL:=aA (show (path l nm).length≤len+1 by have:=h.1;omega)
 have HNM:=aA (aEk (l:=l) (nm:=nm))
 obtain ⟨ps,hps⟩:∃ps,path l nm=ps:=⟨_,rfl⟩
 obtain ⟨ok,hok⟩:∃ok,aR a b=ok:=⟨_,rfl⟩
 rw [hps] at CPath HPL HNM
 rw [hok] at CK
 obtain ⟨⟨x,y⟩,hxy⟩:∃p,ofR l nm a b most=p:=⟨_,rfl⟩
 rw [hxy]
 have HXY:=aA (show (if ps=[]∨ok=false then ((0:Int),(0:Int)) else ofP l most (a,b) ps)=(x,y) by rw [←hxy,ofR,hps,hok])
 have HLL:=aA h.1
 clear h hn hps hok hxy hpl
 go_enter Tryz.func186,Tryz.ntmps186
 go_wp2_with fail
 refine (uH CPath).mono ?_
 rintro e w1 ⟨v,rfl,ht,hb⟩
 have V1:=aA ((uH HV1).below hb)
 have V2:=aA ((uH HV2).below hb)
 have HB1:=aA (yB (uH HB0) hb)
 have HT:=aA ht
 clear ht hb HV1 HV2 HB0 CPath
 by_cases hp:ps=[]
 ·subst hp
  obtain ⟨va,vc,rfl⟩:=jD (uH HT)
  have hz:(x,y)=((0:Int),(0:Int)):=by rw [←uH HXY,if_pos (.inl rfl)]
  simp only [Prod.mk.injEq] at hz
  obtain ⟨rfl,rfl⟩:=hz
  have k0:=(uH V2).c0
  have k1:=(uH V2).c1
  have k2:=(uH V2).f 0
  have k3:=(uH V2).f 1
  have k4:=(uH V2).s0 (.int .i64 0)
  have k5:=(uH V2).s1 (.int .i64 0) (.int .i64 0)
  go_wp2
  refine bodyPost_ret (v:=rv 0 0) (by simp [results,Tryz.results186,go_sem,k4,k5]) rfl ⟨rfl,?_⟩
  repeat (first | exact uH HB1 | refine yA ?_ _ | refine Below.drew ?_ | refine yC ?_ _ _ _ (by omega))
 ·obtain ⟨g,gc,rfl,hss,hg⟩:=jC (uH HT) hp
  have HSS:=aA hss
  have hlp:0<ps.length:=List.length_pos_iff.2 hp
  have HPN:=aA hp
  have hln:((ps.length:Int)==0)=false:=by simp;exact hp
  have a0:=(uH V1).c0
  have a1:=(uH V1).c1
  have hpl2:ps.length≤1048577:=by have:=uH HPL;omega
  clear hss hp HT
  go_wp2_with fail
  refine (uH CK _).mono ?_
  rintro e w2 ⟨rfl,hb⟩
  have HSS2:=aA ((uH HSS).below hb (uH HSS).lt)
  have W1:=aA ((uH V1).below hb)
  have W2:=aA ((uH V2).below hb)
  have HB2:=aA (yB (uH HB1) hb)
  have hs1:w.heap.size+1<w2.heap.size:=(uH W2).lt
  clear hb a0 a1 HSS V1 V2 HB1 CK
  have hgl:g<w2.heap.size:=(uH HSS2).lt
  cases ok with
  | false=>
   have hz:(x,y)=((0:Int),(0:Int)):=by rw [←uH HXY,if_pos (.inr rfl)]
   simp only [Prod.mk.injEq] at hz
   obtain ⟨rfl,rfl⟩:=hz
   have k0:=(uH W2).c0
   have k1:=(uH W2).c1
   have k2:=(uH W2).f 0
   have k3:=(uH W2).f 1
   have k4:=(uH W2).s0 (.int .i64 0)
   have k5:=(uH W2).s1 (.int .i64 0) (.int .i64 0)
   go_wp2
   refine bodyPost_ret (v:=rv 0 0) (by simp [results,Tryz.results186,go_sem,k4,k5]) rfl ⟨rfl,?_⟩
   repeat (first | exact uH HB2 | refine yA ?_ _ | refine Below.drew ?_ | refine yC ?_ _ _ _ (by omega))
  | true=>
   have HF:=aA (show ofP l most (a,b) ps=(x,y) by have:=uH HXY;rw [if_neg (by simp;exact uH HPN)] at this;exact this)
   have a0:=(uH W1).c0
   have a1:=(uH W1).c1
   have hw2:=(uH HB2).size
   clear HXY
   go_wp2
   clear a0 a1
   go_loopw [11] (fun i wr=>∃(j u v:Int),i=.int .i64 j∧-1≤j∧j+2≤ps.length∧Hid (ofP l most (a,b) (ps.drop (j+1).toNat)=(u,v))∧Hid (Var wr 36 w2.heap.size u v)∧Hid (SS wr g gc (ps.map bs))∧Hid (Var wr 36 (w.heap.size+1) 0 0)∧Hid (Below w.heap.size w wr)) (fun i _=>(intOf i+1).toNat)
   case atStart=>
    refine ⟨(ps.length:Int) - 2,a,b,by go_num,by omega,by omega,aA ?_,aA (aJ _ _ _ _),aA ((uH HSS2).below (yA (Below.refl _ _) _) hgl),aA ((uH W2).al _),aA (yA (uH HB2) _)⟩
    rw [show ((ps.length:Int) - 2+1).toNat=ps.length - 1 by omega]
    exact aHx l most (a,b) (uH HPN)
   case round=>
    obtain ⟨j,u,v,rfl,hj1,hj2,HO,HU,HS,HT,HB⟩:=hrel
    by_cases h0:0≤j
    ·obtain ⟨k,rfl⟩:∃k:Nat,j=k:=⟨j.toNat,by omega⟩
     have hk1:k+1<ps.length:=by omega
     obtain ⟨kk,hkk,hpk,hbn⟩:=uH HNM ps[k] (List.getElem_mem _)
     have hkl:kk<len:=by have:=uH HLL;omega
     obtain ⟨rb,off,rfl,hq⟩:=((uH HR).below (uH HB)).at hkl
     have hqq:=hq hkk
     have hst:=aHw l most (a,b) hk1
     rw [hbn] at hst
     obtain ⟨q,hs⟩:∃q,l[kk]=q:=⟨_,rfl⟩
     rw [hs] at hqq hst
     have e0:ofP l most (a,b) (ps.drop (k+1))=(u,v):=by have:=uH HO;rw [show ((k:Int)+1).toNat=k+1 by omega] at this;exact this
     rw [e0] at hst
     simp only at hst
     obtain ⟨c0,c1,c2,c3⟩:=hqq
     have ct:=(uH HS).text (show k<ps.length by omega)
     have u0:=((uH HU).al (.cells #[.string (bs q.name),.string (bs q.parent),.int .i64 q.due,.int .i64 q.most] 100)).c0
     have u1:=((uH HU).al (.cells #[.string (bs q.name),.string (bs q.parent),.int .i64 q.due,.int .i64 q.most] 100)).c1
     obtain ⟨u',hu'⟩:∃z,dO u v (cK most q)=z:=⟨_,rfl⟩
     obtain ⟨v',hv'⟩:∃z,dP u v (cK most q)=z:=⟨_,rfl⟩
     rw [hu',hv'] at hst
     have HNEW:=aA (show ofP l most (a,b) (ps.drop ((k:Int) - 1+1).toNat)=(u',v') by rw [show ((k:Int) - 1+1).toNat=k by omega];exact hst)
     have hsh:∀wx,Calls Tryz.prog 200 #[rv u v,.int .i64 (cK most q)] wx fun e w'=>e=.returned (rv u' v')∧Below wx.heap.size wx w':=fun wx=>by have:=aAM u v (cK most q) wx;rw [hu',hv'] at this;exact this
     have k00:(0:Int)≤kk:=by omega
     have k01:(kk:Int)<len:=by omega
     have p00:(0:Int)≤k:=by omega
     have p01:(k:Int)<ps.length:=by omega
     clear hq hbn hs hst e0 hu' hv' hkk HO
     cases most with
     | true=>
      have CSh:=aA (show ∀wx,Calls Tryz.prog 200 #[rv u v,.int .i64 q.most] wx fun e w'=>e=.returned (rv u' v')∧Below wx.heap.size wx w' from hsh)
      clear hsh
      go_wp2_with fail
      refine (uH CP ps[k] _ (uH HB)).mono ?_
      rintro e w4 ⟨rfl,rfl⟩
      rw [hpk]
      go_wp2_with fail
      refine (uH CSh _).mono ?_
      rintro e w5 ⟨rfl,hb⟩
      have U:=((uH HU).al (.cells #[.string (bs q.name),.string (bs q.parent),.int .i64 q.due,.int .i64 q.most] 100)).below hb
      have HU5:=aA U
      have T:=aA (((uH HT).al (.cells #[.string (bs q.name),.string (bs q.parent),.int .i64 q.due,.int .i64 q.most] 100)).below hb)
      have S5:=aA (((uH HS).below (yA (Below.refl _ _) (.cells #[.string (bs q.name),.string (bs q.parent),.int .i64 q.due,.int .i64 q.most] 100)) (uH HS).lt).below hb (by have:=(uH HS).lt;simp;omega))
      have HB5:=aA (yB (yA (uH HB) (.cells #[.string (bs q.name),.string (bs q.parent),.int .i64 q.due,.int .i64 q.most] 100)) hb)
      have k0:=U.c0
      have k1:=U.c1
      have k2:=U.f 0
      have k3:=U.f 1
      clear hb U c0 c1 c2 c3 ct u0 u1
      go_wp2
      go_roundw
      case rel=>exact ⟨(k:Int) - 1,u',v',by go_num,by omega,by omega,HNEW,aA ((uH HU5).set u' v'),aA (((uH S5).same (heap_setCell_other _ ⟨w2.heap.size,0,none⟩ g _ (by simp;omega))).same (heap_setCell_other _ ⟨w2.heap.size,1,none⟩ g _ (by simp;omega))),aA (((uH T).other w2.heap.size 0 _ (by omega)).other w2.heap.size 1 _ (by omega)),aA (yC (yC (uH HB5) _ _ _ (by omega)) _ _ _ (by omega))⟩
      case measure=>simp [intOf]
     | false=>
      have CSh:=aA (show ∀wx,Calls Tryz.prog 200 #[rv u v,.int .i64 q.due] wx fun e w'=>e=.returned (rv u' v')∧Below wx.heap.size wx w' from hsh)
      clear hsh
      go_wp2_with fail
      refine (uH CP ps[k] _ (uH HB)).mono ?_
      rintro e w4 ⟨rfl,rfl⟩
      rw [hpk]
      go_wp2_with fail
      refine (uH CSh _).mono ?_
      rintro e w5 ⟨rfl,hb⟩
      have U:=((uH HU).al (.cells #[.string (bs q.name),.string (bs q.parent),.int .i64 q.due,.int .i64 q.most] 100)).below hb
      have HU5:=aA U
      have T:=aA (((uH HT).al (.cells #[.string (bs q.name),.string (bs q.parent),.int .i64 q.due,.int .i64 q.most] 100)).below hb)
      have S5:=aA (((uH HS).below (yA (Below.refl _ _) (.cells #[.string (bs q.name),.string (bs q.parent),.int .i64 q.due,.int .i64 q.most] 100)) (uH HS).lt).below hb (by have:=(uH HS).lt;simp;omega))
      have HB5:=aA (yB (yA (uH HB) (.cells #[.string (bs q.name),.string (bs q.parent),.int .i64 q.due,.int .i64 q.most] 100)) hb)
      have k0:=U.c0
      have k1:=U.c1
      have k2:=U.f 0
      have k3:=U.f 1
      clear hb U c0 c1 c2 c3 ct u0 u1
      go_wp2
      go_roundw
      case rel=>exact ⟨(k:Int) - 1,u',v',by go_num,by omega,by omega,HNEW,aA ((uH HU5).set u' v'),aA (((uH S5).same (heap_setCell_other _ ⟨w2.heap.size,0,none⟩ g _ (by simp;omega))).same (heap_setCell_other _ ⟨w2.heap.size,1,none⟩ g _ (by simp;omega))),aA (((uH T).other w2.heap.size 0 _ (by omega)).other w2.heap.size 1 _ (by omega)),aA (yC (yC (uH HB5) _ _ _ (by omega)) _ _ _ (by omega))⟩
      case measure=>simp [intOf]
    ·have hjm:j = -1:=by omega
     subst hjm
     have hxx:(u,v)=(x,y):=by rw [←uH HO,←uH HF];simp
     simp only [Prod.mk.injEq] at hxx
     obtain ⟨rfl,rfl⟩:=hxx
     have u0:=(uH HU).c0
     have u1:=(uH HU).c1
     have k0:=(uH HT).c0
     have k1:=(uH HT).c1
     have k2:=(uH HT).f 0
     have k3:=(uH HT).f 1
     have k4:=(uH HT).s0 (.int .i64 u)
     have k5:=(uH HT).s1 (.int .i64 u) (.int .i64 v)
     go_wp2
     refine bodyPost_ret (v:=rv u v) (by simp [results,Tryz.results186,go_sem,k4,k5]) rfl ⟨rfl,?_⟩
     repeat (first | exact uH HB | refine yA ?_ _ | refine Below.drew ?_ | refine yC ?_ _ _ _ (by omega))
theorem aAP (ao:Option Addr) (len cap:Nat) (l:List Q) (nm:List UInt8) (a b:Int) (w:World) (h:gM w ao len l) (hl:len≤1048576) (hn:∀q ∈ l,q.name.length≤1048576) :
  Calls Tryz.prog 183 #[.slice ao len cap,.string (bs nm),rv a b] w fun e w'=>e=.returned (rv (ofR l nm a b false).1 (ofR l nm a b false).2)∧Below w.heap.size w w':=by
 have HB0:=aA (yA (yA (Below.refl _ w) (.cells #[.int .i64 a,.int .i64 b] 36)) (.cells #[.int .i64 0,.int .i64 0] 36))
 have HV2:=aA (fJ w 36 36 a b 0 0)
 have C:=aA (aBl ao len cap l nm a b false _ (h.below (uH HB0)) hl hn)
 obtain ⟨⟨x,y⟩,hxy⟩:∃p,ofR l nm a b false=p:=⟨_,rfl⟩
 rw [hxy] at C ⊢
 clear hxy h hn
 go_enter Tryz.func183,Tryz.ntmps183
 go_wp2_with fail
 refine (uH C).mono ?_
 rintro e w1 ⟨rfl,hb⟩
 have V2:=(uH HV2).below hb
 have k0:=V2.c0
 have k1:=V2.c1
 have k2:=V2.f 0
 have k3:=V2.f 1
 have k4:=V2.s0 (.int .i64 x)
 have k5:=V2.s1 (.int .i64 x) (.int .i64 y)
 have HB:=aA (yB (uH HB0) hb)
 clear hb V2 HV2 HB0 C
 go_wp2
 refine bodyPost_ret (v:=rv x y) (by simp [results,Tryz.results183,go_sem,k4,k5]) rfl ⟨rfl,?_⟩
 repeat (first | exact uH HB | refine yA ?_ _ | refine Below.drew ?_ | refine yC ?_ _ _ _ (by omega))
theorem wZ (ao:Option Addr) (len cap:Nat) (l:List Q) (nm:List UInt8) (a b:Int) (w:World) (h:gM w ao len l) (hl:len≤1048576) (hn:∀q ∈ l,q.name.length≤1048576) :
  Calls Tryz.prog 165 #[.slice ao len cap,.string (bs nm),rv a b] w fun e w'=>e=.returned (rv (ofR l nm a b true).1 (ofR l nm a b true).2)∧Below w.heap.size w w':=by
 have HB0:=aA (yA (yA (Below.refl _ w) (.cells #[.int .i64 a,.int .i64 b] 36)) (.cells #[.int .i64 0,.int .i64 0] 36))
 have HV2:=aA (fJ w 36 36 a b 0 0)
 have C:=aA (aBl ao len cap l nm a b true _ (h.below (uH HB0)) hl hn)
 obtain ⟨⟨x,y⟩,hxy⟩:∃p,ofR l nm a b true=p:=⟨_,rfl⟩
 rw [hxy] at C ⊢
 clear hxy h hn
 go_enter Tryz.func165,Tryz.ntmps165
 go_wp2_with fail
 refine (uH C).mono ?_
 rintro e w1 ⟨rfl,hb⟩
 have V2:=(uH HV2).below hb
 have k0:=V2.c0
 have k1:=V2.c1
 have k2:=V2.f 0
 have k3:=V2.f 1
 have k4:=V2.s0 (.int .i64 x)
 have k5:=V2.s1 (.int .i64 x) (.int .i64 y)
 have HB:=aA (yB (uH HB0) hb)
 clear hb V2 HV2 HB0 C
 go_wp2
 refine bodyPost_ret (v:=rv x y) (by simp [results,Tryz.results165,go_sem,k4,k5]) rfl ⟨rfl,?_⟩
 repeat (first | exact uH HB | refine yA ?_ _ | refine Below.drew ?_ | refine yC ?_ _ _ _ (by omega))
end
end Go.Proofs.YtdhibeclkdepiaaGreat
