/-
  Texts in one: QueuesOkS, QueD.
-/
import Derived.Test.YtngkddhcmfbjnaaGreatSackG
set_option maxRecDepth 100000
set_option maxHeartbeats 16000000
set_option linter.unusedVariables false
set_option linter.unusedSimpArgs false
namespace Go.Proofs.YtngkddhcmfbjnaaGreat
section
open Go.RowKit
theorem jV (ao:Option Addr) (len cap:Nat) (l:List Q) (w:World) (h:gJ w ao len l) (hl:len≤1048576) (hn:∀q ∈ l,q.name.length≤1048576) :
  cP 50 #[.slice ao len cap] w fun e w'=>e=.returned (.bool (aH l))∧Bw w w':=by
 have HR:=aA h
 have HL:=aA h.1
 have HN:=aA hn
 clear h hn
 go_enter Tryz.func50,Tryz.ntmps50
 go_wp2
 go_loopw [3] (fun i wr=>∃k:Nat,k≤len∧i=.int .i64 k∧Hid (gN l l 0=gN l (l.drop k) k)∧Hid (Bw w wr)) (fun i _=>len - (intOf i).toNat)
 case atStart=>exact ⟨0,Nat.zero_le _,rfl,aA (by simp),aA (yH _ _)⟩
 case round=>
  obtain ⟨k,hk,rfl,hp,HB⟩:=hrel
  by_cases hlt:k<len
  ·have HR2:=aA ((uH HR).below (uH HB))
   obtain ⟨b,off,rfl,hq⟩:=(uH HR2).at hlt
   have hkl:k<l.length:=by have:=uH HL;omega
   have hst:=aA (aD3 (l:=l) (k:=k) hkl)
   obtain ⟨c0,c1,c2,c3⟩:=hq hkl
   have hz:=uH HN l[k] (yM _)
   clear hq
   obtain ⟨⟨nm,pa,du,mo⟩,hs⟩:∃s,l[k]=s:=⟨_,rfl⟩
   rw [hs] at c0 c1 c2 c3 hst hz
   simp only at c0 c1 c2 c3 hz
   clear hs hkl
   obtain ⟨b1,g1⟩:∃b,bJ nm=b:=⟨_,rfl⟩
   obtain ⟨p1,g2⟩:∃p,place l nm=p:=⟨_,rfl⟩
   obtain ⟨p2,g3⟩:∃p,place l pa=p:=⟨_,rfl⟩
   have CN:=aA (fun wx=>by have:=lF (bs nm) wx (by rw [dD];exact hz);rw [show (bs nm).data.toList=nm by simp [bs],g1] at this;exact this)
   have RR:=(uH HR2).below (yA (yH _ wr) (.cells #[.string (bs nm),.string (bs pa),.int .i64 du,.int .i64 mo] 56))
   have CP1:=aA (by have:=jQ (some ⟨b,off,none⟩) len cap l nm _ RR hl;rw [g2] at this;exact this)
   have CP2:=aA (by have:=jQ (some ⟨b,off,none⟩) len cap l pa _ RR hl;rw [g3] at this;exact this)
   have HB2:=aA (yA (uH HB) (.cells #[.string (bs nm),.string (bs pa),.int .i64 du,.int .i64 mo] 56))
   have G1:=aA g1
   have G2:=aA g2
   have G3:=aA g3
   clear g1 g2 g3 RR HR2 hz
   cases b1 with
   | false=>
    go_wp2_with (first | (go_at_call 105;refine (uH CN _).mono ?_;rintro e w' ⟨rfl,rfl⟩) | (go_at_call_of 97 nm;refine (uH CP1).mono ?_;rintro e w' ⟨rfl,rfl⟩) | (go_at_call_of 97 pa;refine (uH CP2).mono ?_;rintro e w' ⟨rfl,rfl⟩) | (go_at_call 51;refine (aQ _ _ _ _).mono ?_;rintro e w' ⟨rfl,rfl⟩))
    go_ret
    exact ⟨yF (xE (by rw [uH hp,uH hst];simp [qOk,uH G1])).symm,uH HB2⟩
   | true=>
    by_cases e2:p1=k
    ·subst e2
     cases h3:inB mo 0 10000
     ·skip
      go_wp2_with (first | (go_at_call 105;refine (uH CN _).mono ?_;rintro e w' ⟨rfl,rfl⟩) | (go_at_call_of 97 nm;refine (uH CP1).mono ?_;rintro e w' ⟨rfl,rfl⟩) | (go_at_call_of 97 pa;refine (uH CP2).mono ?_;rintro e w' ⟨rfl,rfl⟩) | (go_at_call 51;refine (aQ _ _ _ _).mono ?_;rintro e w' ⟨rfl,rfl⟩))
      go_ret
      exact ⟨yF (xE (by rw [uH hp,uH hst];simp [qOk,uH G1,uH G2,h3])).symm,uH HB2⟩
     ·cases h4:inB du 0 mo
      ·skip
       go_wp2_with (first | (go_at_call 105;refine (uH CN _).mono ?_;rintro e w' ⟨rfl,rfl⟩) | (go_at_call_of 97 nm;refine (uH CP1).mono ?_;rintro e w' ⟨rfl,rfl⟩) | (go_at_call_of 97 pa;refine (uH CP2).mono ?_;rintro e w' ⟨rfl,rfl⟩) | (go_at_call 51;refine (aQ _ _ _ _).mono ?_;rintro e w' ⟨rfl,rfl⟩))
       go_ret
       exact ⟨yF (xE (by rw [uH hp,uH hst];simp [qOk,uH G1,uH G2,h3,h4])).symm,uH HB2⟩
      ·by_cases hk0:k=0
       ·have k1:((k:Int)==0)=true:=by simp [hk0]
        have k2:¬(0:Int)<k:=by omega
        have k3:¬0<k:=by omega
        have QR:=aA hk0
        clear hk0
        have hbe:=qW pa
        by_cases e5:pa=[]
        ·have E5:=aA e5
         rw [decide_eq_true e5] at hbe
         clear e5
         by_cases e6:du=10000
         ·subst e6
          go_wp2_with (first | (go_at_call 105;refine (uH CN _).mono ?_;rintro e w' ⟨rfl,rfl⟩) | (go_at_call_of 97 nm;refine (uH CP1).mono ?_;rintro e w' ⟨rfl,rfl⟩) | (go_at_call_of 97 pa;refine (uH CP2).mono ?_;rintro e w' ⟨rfl,rfl⟩) | (go_at_call 51;refine (aQ _ _ _ _).mono ?_;rintro e w' ⟨rfl,rfl⟩))
          go_roundw
          case rel=>exact ⟨k+1,by omega,by go_num,aA (by rw [uH hp,uH hst];simp [qOk,uH G1,uH G2,h3,h4,uH QR,uH E5]),HB2⟩
          case measure=>simp [intOf];omega
         ·have E6:=aA e6
          have hd:(du==10000)=false:=by simp [e6]
          clear e6
          go_wp2_with (first | (go_at_call 105;refine (uH CN _).mono ?_;rintro e w' ⟨rfl,rfl⟩) | (go_at_call_of 97 nm;refine (uH CP1).mono ?_;rintro e w' ⟨rfl,rfl⟩) | (go_at_call_of 97 pa;refine (uH CP2).mono ?_;rintro e w' ⟨rfl,rfl⟩) | (go_at_call 51;refine (aQ _ _ _ _).mono ?_;rintro e w' ⟨rfl,rfl⟩))
          go_ret
          exact ⟨yF (xE (by rw [uH hp,uH hst];simp [qOk,uH G1,uH G2,h3,h4,uH QR,uH E5,uH E6])).symm,uH HB2⟩
        ·have E5:=aA e5
         rw [decide_eq_false e5] at hbe
         clear e5
         go_wp2_with (first | (go_at_call 105;refine (uH CN _).mono ?_;rintro e w' ⟨rfl,rfl⟩) | (go_at_call_of 97 nm;refine (uH CP1).mono ?_;rintro e w' ⟨rfl,rfl⟩) | (go_at_call_of 97 pa;refine (uH CP2).mono ?_;rintro e w' ⟨rfl,rfl⟩) | (go_at_call 51;refine (aQ _ _ _ _).mono ?_;rintro e w' ⟨rfl,rfl⟩))
         go_ret
         exact ⟨yF (xE (by rw [uH hp,uH hst];simp [qOk,uH G1,uH G2,h3,h4,uH QR,uH E5])).symm,uH HB2⟩
       ·have k1:((k:Int)==0)=false:=by simp [hk0]
        have k2:(0:Int)<k:=by omega
        have k3:0<k:=by omega
        have QR:=aA hk0
        clear hk0
        cases h7:inB p2 0 ((k:Int) - 1)
        ·skip
         go_wp2_with (first | (go_at_call 105;refine (uH CN _).mono ?_;rintro e w' ⟨rfl,rfl⟩) | (go_at_call_of 97 nm;refine (uH CP1).mono ?_;rintro e w' ⟨rfl,rfl⟩) | (go_at_call_of 97 pa;refine (uH CP2).mono ?_;rintro e w' ⟨rfl,rfl⟩) | (go_at_call 51;refine (aQ _ _ _ _).mono ?_;rintro e w' ⟨rfl,rfl⟩))
         go_ret
         exact ⟨yF (xE (by rw [uH hp,uH hst];simp [qOk,uH G1,uH G2,uH G3,h3,h4,h7,uH QR])).symm,uH HB2⟩
        ·skip
         go_wp2_with (first | (go_at_call 105;refine (uH CN _).mono ?_;rintro e w' ⟨rfl,rfl⟩) | (go_at_call_of 97 nm;refine (uH CP1).mono ?_;rintro e w' ⟨rfl,rfl⟩) | (go_at_call_of 97 pa;refine (uH CP2).mono ?_;rintro e w' ⟨rfl,rfl⟩) | (go_at_call 51;refine (aQ _ _ _ _).mono ?_;rintro e w' ⟨rfl,rfl⟩))
         go_roundw
         case rel=>exact ⟨k+1,by omega,by go_num,aA (by rw [uH hp,uH hst];simp [qOk,uH G1,uH G2,uH G3,h3,h4,h7,uH QR]),HB2⟩
         case measure=>simp [intOf];omega
    ·have h2:(p1==(k:Int))=false:=by simp [e2]
     have E2:=aA e2
     clear e2
     go_wp2_with (first | (go_at_call 105;refine (uH CN _).mono ?_;rintro e w' ⟨rfl,rfl⟩) | (go_at_call_of 97 nm;refine (uH CP1).mono ?_;rintro e w' ⟨rfl,rfl⟩) | (go_at_call_of 97 pa;refine (uH CP2).mono ?_;rintro e w' ⟨rfl,rfl⟩) | (go_at_call 51;refine (aQ _ _ _ _).mono ?_;rintro e w' ⟨rfl,rfl⟩))
     go_ret
     exact ⟨yF (xE (by rw [uH hp,uH hst];simp [qOk,uH G1,uH G2,uH E2])).symm,uH HB2⟩
  ·have ho:=aA (show gN l l 0=true by rw [uH hp];exact aFY (by have:=uH HL;omega))
   have HD:=aA (aAY l 0 (uH ho))
   have HR2:=aA ((uH HR).below (uH HB))
   clear hp
   go_wp2
   go_loopw [5] (fun i wx=>∃m:Nat,m≤len∧i=.int .i64 m∧Hid (jY l l=jY l (l.drop m))∧wx=wr) (fun i _=>len - (intOf i).toNat)
   case atStart=>exact ⟨0,Nat.zero_le _,rfl,aA (by simp),rfl⟩
   case round=>
    obtain ⟨m,hm,rfl,hp,rfl⟩:=hrel
    by_cases hlm:m<len
    ·obtain ⟨b,off,rfl,hq⟩:=(uH HR2).at hlm
     have GN:m<l.length:=by have:=uH HL;omega
     have hst:=aA (aDN (l:=l) (k:=m) GN)
     have c0:=(hq GN).1
     clear hq
     obtain ⟨nm,hs⟩:∃s,l[m].name=s:=⟨_,rfl⟩
     rw [hs] at c0 hst
     obtain ⟨t,ht⟩:∃t,iA l nm=t:=⟨_,rfl⟩
     have CS:=aA (by have:=aFa (some ⟨b,off,none⟩) len cap l nm _ (uH HR2) hl (uH HD);rw [ht] at this;exact this)
     have TZ:=aA ht
     clear hs GN ht
     by_cases hgt:10000<t
     ·go_wp2_with (go_at_call 106;refine (uH CS).mono ?_;rintro e w' ⟨rfl,rfl⟩)
      go_ret
      exact ⟨yF (aKY (by rw [uH hp,uH hst,uH TZ];simp;omega)).symm,uH HB⟩
     ·go_wp2_with (go_at_call 106;refine (uH CS).mono ?_;rintro e w' ⟨rfl,rfl⟩)
      go_roundw
      case rel=>exact ⟨m+1,by omega,by go_num,aA (by rw [uH hp,uH hst,uH TZ];simp;omega),trivial⟩
      case measure=>simp [intOf];omega
    ·have Gw:=aA (aKX (uH ho) (show jY l l=true by rw [uH hp];exact aFF (by have:=uH HL;omega)))
     have Xz:=uH HL
     have BF:=aA (show inB (len:Int) 1 20=aH l by rw [uH Gw,Xz])
     clear Xz
     go_wp2_with (go_at_call 51;refine (aQ _ _ _ _).mono ?_;rintro e w' ⟨rfl,rfl⟩)
     go_ret
     exact ⟨yF (uH BF),uH HB⟩
def lenOf:Value→Nat
 | .slice _ n _=>n
 | _=>0
theorem aLd (l:List UInt8):({ data:=#[122] }:ByteArray)++bs l=bs (122::l):=by
 apply ByteArray.ext
 simp [bs]
theorem gJ.gro {w w':World} {b off len:Nat} {l:List Q} {row:Option Nat} (h:gJ w (some ⟨b,off,none⟩) len l) (hb:b<w.heap.size) (hg:w.grownBy w' row) (hr:row≠some b):gJ w' (some ⟨b,off,none⟩) len l:=by
 have qx:=hg.block b hb (fun e=>hr e.symm)
 have hc:∀p,w'.cell? ⟨b,p,none⟩=w.cell? ⟨b,p,none⟩:=fun p=>by unfold World.cell?;rw [qx]
 obtain ⟨h1,h2⟩:=h
 refine ⟨h1,?_⟩
 rcases h2 with h2 | ⟨b',off',e,h4⟩
 ·exact .inl h2
 ·cases e
  exact .inr ⟨b,off,rfl,fun i hi=>by obtain ⟨a0,a1,a2,a3⟩:=h4 i hi;exact ⟨(hc _).trans a0,(hc _).trans a1,(hc _).trans a2,(hc _).trans a3⟩⟩
theorem aG6 {w0:World} {B g:Nat} {ao:Option Addr} {len cap:Nat} (w:World) (h:CSt w0 B g ao len cap w) :
  cP 72 #[.pointer (some ⟨g,0,none⟩)] w fun e w'=>∃qb n c' ls,e=.returned (.slice (some ⟨qb,0,none⟩) n c')∧Hid (gJ w' (some ⟨qb,0,none⟩) n ls)∧(g<qb∧3≤n)∧n≤c'∧n≤1000∧Hid (aBh ls)∧Hid (CSt w0 B g ao len cap w'):=by
 obtain ⟨i0,hi,hz0,hz1,hz2⟩:=info_parts Tryz.infoQD
 have HS:=aA h
 have hgl:=h.1.lt
 have hw0:=h.2.2.1.size
 have hBg:=h.2.2.2
 clear h
 go_enter Tryz.func72,Tryz.ntmps72
 go_wp2_with fail
 refine (aBD w (uH HS)).mono ?_
 rintro e w1 ⟨v,ls,rfl,HQ,XN,hn5,WZ,ZP⟩
 obtain ⟨qb,qc,cur,rfl,Hw,hqc,hwq,qx⟩:=(uH HQ).row (by intro e;rw [e] at XN;simp at XN)
 have Fj:qb<w1.heap.size:=lt_of_block qx
 have GX:=aA Hw
 have FQ:=aA qx
 obtain ⟨n,hn⟩:∃n,ls.length=n:=⟨_,rfl⟩
 have HN:=aA hn
 rw [hn] at XN hn5 hqc GX HQ ⊢
 clear Hw qx hn HS
 go_wp2_with fail
 refine (aU (n:Int) _ (uH ZP) (by omega) (by omega)).mono ?_
 rintro e w2 ⟨x,rfl,hx0,hx1,hs2,hg2⟩
 obtain ⟨X,rfl⟩:=Int.eq_ofNat_of_zero_le hx0
 have HS2:=aA hs2
 have HR2:=aA ((uH GX).gro Fj hg2 (by intro e;cases e;omega))
 have HB2:=aA ((hg2.block qb Fj (by intro e;cases e;omega)).trans (uH FQ))
 have DD:=aA ((uH HQ).kept hg2 (fun k e=>by cases e;omega))
 have hs12:=hg2.size
 clear hs2 hg2 GX FQ HQ ZP
 go_wp2_with fail
 refine (aU 16 _ (uH HS2) (by decide) (by decide)).mono ?_
 rintro e w3 ⟨k,rfl,hk0,hk1,hs3,hg3⟩
 have ZB:=aA hs3
 have HR3:=aA ((uH HR2).gro (by omega) hg3 (by intro e;cases e;omega))
 have HB3:=aA ((hg3.block qb (by omega) (by intro e;cases e;omega)).trans (uH HB2))
 have HQ3:=aA ((uH DD).kept hg3 (fun k e=>by cases e;omega))
 have hs23:=hg3.size
 clear hs3 hg3 HR2 HB2 DD HS2
 have Fy:X<n:=by omega
 have KX:X<ls.length:=by have:=uH HN;omega
 have fin:∀(wy:World) (j:Nat) (val:Value) (q:Q),gJ wy (some ⟨qb,0,none⟩) n ls→CSt w0 B g ao len cap wy→(q.name.length≤1000∧q.parent.length≤1000)→
   ((j=0∧val=.string (bs q.name)∧q = { ls[X] with name:=q.name })∨(j=1∧val=.string (bs q.parent)∧q = { ls[X] with parent:=q.parent })∨(j=2∧val=.int .i64 q.due∧q = { ls[X] with due:=q.due })∨(j=3∧val=.int .i64 q.most∧q = { ls[X] with most:=q.most }))→
   Hid (gJ (wy.setCell ⟨qb,0+X*4+j,none⟩ val) (some ⟨qb,0,none⟩) n (ls.set X q))∧Hid (aBh (ls.set X q))∧Hid (CSt w0 B g ao len cap (wy.setCell ⟨qb,0+X*4+j,none⟩ val)):=fun wy j val q h1 h2 h3 h4=>
  ⟨aA (h1.put X KX q j val h4),aA ((uH WZ).set X q h3),aA (h2.set qb _ val (by omega) (by omega) (by omega))⟩
 have FIN:=aA fin
 have hnm:=uH WZ ls[X] (yM _)
 obtain ⟨⟨qn,qp,qd,qm⟩,NI⟩:∃q,ls[X]=q:=⟨_,rfl⟩
 rw [NI] at hnm
 have ML:=aA NI
 clear fin NI
 simp only at hnm
 have X0:(0:Int)≤X:=by omega
 have X1:(X:Int)<n:=by omega
 rcases (show k=0∨k=1∨k=2∨k=3∨k=4∨5≤k by omega) with rfl | rfl | rfl | rfl | rfl | hk5
 ·go_wp2_with fail
  refine (aJh _ (uH ZB).rebase).mono ?_
  rintro e w4 ⟨s,rfl,hsz,hs4⟩
  have Xq:=aA ((uH ZB).step hs4.1 hs4.2.2.1)
  have HR4:=aA ((uH HR3).gro (by omega) hs4.2.2.1 (by intro e;cases e;omega))
  have hb4:=(hs4.2.2.1.block qb (by omega) (by intro e;cases e;omega)).trans (uH HB3)
  have cc:=((uH HR4).at Fy)
  obtain ⟨b',off',e',hat⟩:=cc
  cases e'
  have c0:=(hat KX).1
  have f0:w4.frozen? ⟨qb,X*4,none⟩=false:=by simp [World.frozen?,hb4]
  simp only [Nat.zero_add] at c0
  obtain ⟨nn,rfl⟩:∃l,s=bs l:=⟨s.data.toList,by simp [bs]⟩
  rw [dD] at hsz
  obtain ⟨F1,F2,F3⟩:=uH FIN w4 0 (.string (bs nn)) ⟨nn,qp,qd,qm⟩ (uH HR4) (uH Xq) ⟨by simp only;omega,hnm.2⟩ (.inl ⟨rfl,rfl,by rw [uH ML]⟩)
  simp only [Nat.zero_add,Nat.add_zero] at F1 F2 F3
  clear hs4 hb4 hat
  go_wp2
  go_ret
  exact ⟨qb,n,qc,_,rfl,F1,⟨by omega,XN⟩,hqc,by omega,F2,F3⟩
 ·have hq:=aA (dK w3 9 [⟨#[]⟩,⟨#[97]⟩,⟨#[110,111,110,101]⟩,⟨#[98,50]⟩] (by decide))
  go_wp2_with fail
  refine (iT w3.heap.size 4 4 _ ((uH ZB).alloc _).rebase (uH hq) (by omega) (by decide) (by decide)).mono ?_
  rintro e w4 ⟨s,rfl,hsz,hs4⟩
  have hg4:=bR (aG (aF w3 (some g)) (yA (yH _ w3) _)) hs4.2.2.1
  have Xq:=aA ((uH ZB).step hs4.1 hg4)
  have HR4:=aA ((uH HR3).gro (by omega) hg4 (by intro e;cases e;omega))
  have hb4:=(hg4.block qb (by omega) (by intro e;cases e;omega)).trans (uH HB3)
  obtain ⟨b',off',e',hat⟩:=((uH HR4).at Fy)
  cases e'
  have c0:=(hat KX).2.1
  have f0:w4.frozen? ⟨qb,X*4+1,none⟩=false:=by simp [World.frozen?,hb4]
  simp only [Nat.zero_add] at c0
  obtain ⟨nn,rfl⟩:∃l,s=bs l:=⟨s.data.toList,by simp [bs]⟩
  rw [dD] at hsz
  obtain ⟨F1,F2,F3⟩:=uH FIN w4 1 (.string (bs nn)) ⟨qn,nn,qd,qm⟩ (uH HR4) (uH Xq) ⟨hnm.1,by simp only;omega⟩ (.inr (.inl ⟨rfl,rfl,by rw [uH ML]⟩))
  simp only [Nat.zero_add] at F1 F2 F3
  clear hs4 hb4 hat hg4 hq
  go_wp2
  go_ret
  exact ⟨qb,n,qc,_,rfl,F1,⟨by omega,XN⟩,hqc,by omega,F2,F3⟩
 ·have hq:=aA (fG w3 3 [-1,10001,9999,0] (by decide))
  go_wp2_with fail
  refine (lG w3.heap.size 4 4 _ ((uH ZB).alloc _).rebase (uH hq) (by omega) (by decide) (by decide)).mono ?_
  rintro e w4 ⟨s,rfl,_,_,hs4⟩
  have hg4:=bR (aG (aF w3 (some g)) (yA (yH _ w3) _)) hs4.2.2.1
  have Xq:=aA ((uH ZB).step hs4.1 hg4)
  have HR4:=aA ((uH HR3).gro (by omega) hg4 (by intro e;cases e;omega))
  have hb4:=(hg4.block qb (by omega) (by intro e;cases e;omega)).trans (uH HB3)
  obtain ⟨b',off',e',hat⟩:=((uH HR4).at Fy)
  cases e'
  have c0:=(hat KX).2.2.1
  have f0:w4.frozen? ⟨qb,X*4+2,none⟩=false:=by simp [World.frozen?,hb4]
  simp only [Nat.zero_add] at c0
  obtain ⟨F1,F2,F3⟩:=uH FIN w4 2 (.int .i64 s) ⟨qn,qp,s,qm⟩ (uH HR4) (uH Xq) hnm (.inr (.inr (.inl ⟨rfl,rfl,by rw [uH ML]⟩)))
  simp only [Nat.zero_add] at F1 F2 F3
  clear hs4 hb4 hat hg4 hq
  go_wp2
  go_ret
  exact ⟨qb,n,qc,_,rfl,F1,⟨by omega,XN⟩,hqc,by omega,F2,F3⟩
 ·have hq:=aA (fG w3 3 [-1,10001,0] (by decide))
  go_wp2_with fail
  refine (lG w3.heap.size 3 3 _ ((uH ZB).alloc _).rebase (uH hq) (by omega) (by decide) (by decide)).mono ?_
  rintro e w4 ⟨s,rfl,_,_,hs4⟩
  have hg4:=bR (aG (aF w3 (some g)) (yA (yH _ w3) _)) hs4.2.2.1
  have Xq:=aA ((uH ZB).step hs4.1 hg4)
  have HR4:=aA ((uH HR3).gro (by omega) hg4 (by intro e;cases e;omega))
  have hb4:=(hg4.block qb (by omega) (by intro e;cases e;omega)).trans (uH HB3)
  obtain ⟨b',off',e',hat⟩:=((uH HR4).at Fy)
  cases e'
  have c0:=(hat KX).2.2.2
  have f0:w4.frozen? ⟨qb,X*4+3,none⟩=false:=by simp [World.frozen?,hb4]
  simp only [Nat.zero_add] at c0
  obtain ⟨F1,F2,F3⟩:=uH FIN w4 3 (.int .i64 s) ⟨qn,qp,qd,s⟩ (uH HR4) (uH Xq) hnm (.inr (.inr (.inr ⟨rfl,rfl,by rw [uH ML]⟩)))
  simp only [Nat.zero_add] at F1 F2 F3
  clear hs4 hb4 hat hg4 hq
  go_wp2
  go_ret
  exact ⟨qb,n,qc,_,rfl,F1,⟨by omega,XN⟩,hqc,by omega,F2,F3⟩
 ·go_wp2
  go_loopw [3] (fun v wr=>∃ls',v.ownBlock=v.ownBlock∧Hid (QDr w.heap.size wr v ls')∧3≤ls'.length∧ls'.length≤21∧Hid (aBh ls')∧Hid (CSt w0 B g ao len cap wr)∧w1.heap.size≤wr.heap.size) (fun v _=>21 - lenOf v)
  case atStart=>exact ⟨ls,rfl,HQ3,by have:=uH HN;omega,by have:=uH HN;omega,WZ,ZB,by omega⟩
  case round=>
   obtain ⟨ls',_,MK,hl3,NR,FO,Tz,hszr⟩:=hrel
   obtain ⟨qb',qc',cur',rfl,Hw,NH,hwq',qx⟩:=(uH MK).row (by intro e;rw [e] at hl3;simp at hl3)
   obtain ⟨m,hm⟩:∃n,ls'.length=n:=⟨_,rfl⟩
   have HM:=aA hm
   rw [hm] at hl3 NR NH MK ⊢
   clear Hw qx hm
   go_wp2_with fail
   refine (aU 2 _ (uH Tz) (by decide) (by decide)).mono ?_
   rintro e w5 ⟨y,rfl,hy0,hy1,hs5,hg5⟩
   have WG:=aA hs5
   have YG:=aA ((uH MK).kept hg5 (fun k e=>by cases e;omega))
   have hsz5:wr.heap.size≤w5.heap.size:=hg5.size
   clear hs5 hg5 Tz MK
   by_cases hlt:(m:Int)<20+y
   ·have hit:=Lib.itoa_length_le (100+(m:Int)) (by omega) (by omega)
    have CD:=aA (fun wx=>(wT (100+(m:Int)) wx (by omega) (by omega)).mono (fun e w' (h:_∧w'=wx)=>(show _∧wx=w' from ⟨h.1,h.2.symm⟩)))
    have hzz:=aLd (Lib.itoa (100+(m:Int)))
    have hsi:(bs (Lib.itoa (100+(m:Int)))).size≤30:=by rw [dD];omega
    have hnl:(122::Lib.itoa (100+(m:Int))).length≤1000:=by simp;omega
    obtain ⟨it,BC⟩:∃l,Lib.itoa (100+(m:Int))=l:=⟨_,rfl⟩
    rw [BC] at CD hzz hsi hnl
    obtain ⟨nz,hnz⟩:∃l,122::it=l:=⟨_,rfl⟩
    rw [hnz] at hzz hnl
    have n1:¬9223372036854775807<1+(bs it).size:=by omega
    obtain ⟨sb,hsb⟩:∃s,bs it=s:=⟨_,rfl⟩
    rw [hsb] at CD hzz hsi n1
    have Hq:w5.ownsRow w.heap.size 56 4 _ ls'.length (dF ls'):=uH YG
    rw [uH HM] at Hq
    have hs2:w.heap.size≤w5.heap.size:=by omega
    clear hit BC hnz hsb
    go_wp2_with (first
     | (go_at_call 123;refine (uH CD _).mono ?_;rintro e w6 ⟨rfl,rfl⟩)
     | (at_builtin;refine wpList_append_own _ rfl _ _ 24 rfl w.heap.size 56 i0 (.agg #[.string ByteArray.empty,.string ByteArray.empty,.int .i64 0,.int .i64 0]) 4 48 Tryz.underlying24 hi hz0 hz1 hz2 rfl (by decide) _ _ _ rfl (Hq.alloc _) ⟨w5.heap.size,0,none⟩ 1 1 (aJw ⟨nz,[114,111,111,116],0,5⟩) rfl rfl ?c1 ?c2 ?c3 ?c4 ?c5 ?_))
    case c1=>
     intro j x hj
     match j,hj with
     | 0,hj=>simp at hj;subst hj;simp [Addr.add]
     | 1,hj=>simp at hj;subst hj;simp [Addr.add];rfl
     | 2,hj=>simp at hj;subst hj;simp [Addr.add]
     | 3,hj=>simp at hj;subst hj;simp [Addr.add]
     | _+4,hj=>simp at hj
    case c2=>intro x hx;simp at hx;rcases hx with rfl | rfl | rfl | rfl<;>rfl
    case c3=>unfold maxLen;omega
    case c4=>omega
    case c5=>simp at hs2 ⊢;omega
    intro v' w7 Hy Hz _
    have DC:=aA (show QDr w.heap.size w7 v' (ls'++[⟨nz,[114,111,111,116],0,5⟩]) by unfold QDr;rw [aAe,List.length_append,uH HM];exact Hy)
    have RO:=aA (((uH WG).alloc _).gro Hz (fun k hk=>by
     rcases (uH YG).2 with ⟨e,_⟩ | ⟨q,_,_,e,hq,_⟩
     ·rw [e] at hk;simp [Value.ownBlock] at hk
     ·rw [e] at hk;simp [Value.ownBlock] at hk;omega))
    have hsz7:w5.heap.size+1≤w7.heap.size:=by have:=Hz.size;rwa [World.size_alloc] at this
    have Y5:lenOf v'=m+1:=by
     rcases (uH DC).2 with ⟨_,h0⟩ | ⟨a,b,c,e,_⟩
     ·simp at h0
     ·rw [e];simp [lenOf,uH HM]
    have ZT:=aA Y5
    clear Hy Hz Hq Y5
    go_wp2
    go_roundw
    case rel=>
     refine ⟨ls'++[⟨nz,[114,111,111,116],0,5⟩],by trivial,DC,by simp;have:=uH HM;omega,by simp;have:=uH HM;omega,aA ?_,RO,by omega⟩
     intro q hq
     rcases List.mem_append.1 hq with hq | hq
     ·exact uH FO q hq
     ·have:q=⟨nz,[114,111,111,116],0,5⟩:=by simpa using hq
      rw [this];exact ⟨hnl,by simp⟩
    case measure=>rw [uH ZT];simp [lenOf];omega
   ·obtain ⟨HRW,hle⟩:Hid (gJ w5 (some ⟨qb',0,none⟩) m ls')∧m≤qc':=by
     obtain ⟨qb2,qc2,cur2,e2,ZG,Jq,_,_⟩:=(uH YG).row (by intro e;have:=uH HM;rw [e] at this;simp at this;omega)
     rw [uH HM] at e2 ZG Jq
     cases e2
     exact ⟨aA ZG,Jq⟩
    go_wp2
    go_ret
    exact ⟨qb',m,qc',ls',rfl,HRW,⟨by omega,hl3⟩,hle,by omega,FO,WG⟩
 ·have e0:(k==0)=false:=by simp;omega
  have e1:(k==1)=false:=by simp;omega
  have e2:(k==2)=false:=by simp;omega
  have e3:(k==3)=false:=by simp;omega
  have e4:(k==4)=false:=by simp;omega
  go_wp2
  go_ret
  exact ⟨qb,n,qc,ls,rfl,HR3,⟨by omega,XN⟩,hqc,by omega,WZ,ZB⟩
end
end Go.Proofs.YtngkddhcmfbjnaaGreat
