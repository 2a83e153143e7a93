/-
  The program's generic list from which some are taken, of containers: takeAll (mktak.py wrote this); a walk over the dump.
-/
import Derived.Test.YtjkfappkpopbdaaGreatSackX
set_option maxRecDepth 100000
set_option maxHeartbeats 16000000
set_option linter.unusedVariables false
set_option linter.unusedSimpArgs false
namespace Go.Proofs.YtjkfappkpopbdaaGreat
section
open Go.RowKit
def stLenC (w:World) (p:Nat):Nat:=match w.cell? ⟨p,0,none⟩ with | some (.slice _ n _)=>n | _=>0
theorem stLenC_of {w:World} {p n c:Nat} {ao:Option Addr} (h:w.cell? ⟨p,0,none⟩=some (.slice ao n c)):stLenC w p=n:=by simp [stLenC,h]
theorem TakC.len {w:World} {g M:Nat} {l gl:List Con} (h:TakC w g M l gl):stLenC w (g+1)=l.length:=by
 obtain ⟨v,hb,_⟩:=h
 have:=hb.at 0
 simp at this
 exact stLenC_of this
theorem takeAllC_any (gf:Nat) (lb:Array Value) (eg:∀args w,(callFunc gf args).run Tryz.prog w=.ok (.enter gf args) w) (p:Con→Bool) (g M:Nat) (l gl:List Con) (w:World) (h:TakC w g M l gl) (hl:gl.length+l.length≤1048576)
  (hp:∀wx q,q ∈ l→Below g w wx→Calls Tryz.prog gf (#[conv q]++lb) wx fun e w'=>e=.returned (.bool (p q))∧Below wx.heap.size wx w') :
  Calls Tryz.prog 216 #[.pointer (some ⟨g+1,0,none⟩),.func (.func gf) #[] lb] w fun e w'=>e=.returned (.tuple #[])∧TakC w' g M (l.filter (fun q=>!p q)) (gl++l.filter p)∧Below g w w':=by
 have HT:=hide h
 have HP:=hide hp
 clear h hp
 go_enter Tryz.func216,Tryz.ntmps216
 go_wp2
 go_loopw [4] (fun i wr=>∃(k:Nat),i=.int .i64 (k:Int)∧Hid (∃d,d≤l.length∧k=((l.take d).filter (fun q=>!p q)).length∧TakC wr g M ((l.take d).filter (fun q=>!p q)++l.drop d) (gl++(l.take d).filter p))∧Hid (Below g w wr)) (fun i wr=>stLenC wr (g+1) - (intOf i).toNat)
 case atStart=>exact ⟨0,rfl,hide ⟨0,Nat.zero_le _,by simp,by simpa using uH HT⟩,hide (yH _ _)⟩
 case round=>
  obtain ⟨k,rfl,HK,HB⟩:=hrel
  obtain ⟨d,hd,hk,ht⟩:=uH HK
  have hkd:k≤d:=by rw [hk];refine Nat.le_trans (List.length_filter_le _ _) ?_;rw [List.length_take];omega
  have hk2:k≤1048576:=by omega
  obtain ⟨v,hbk,hly,how⟩:=ht
  have c0:=(hbk.at 0).trans (show _=some (Value.slice (some ⟨g,0,none⟩) ((l.take d).filter (fun q=>!p q)++l.drop d).length ((l.take d).filter (fun q=>!p q)++l.drop d).length) from rfl)
  have hlen:((l.take d).filter (fun q=>!p q)++l.drop d).length=k+(l.length - d):=by rw [List.length_append,List.length_drop,←hk]
  rw [hlen] at c0
  obtain ⟨n,hn⟩:∃n,k+(l.length - d)=n:=⟨_,rfl⟩
  rw [hn] at c0
  have hm:=stLenC_of c0
  by_cases hlt:d<l.length
  ·have hkn:(k:Int)<n:=by omega
   have hel:k<((l.take d).filter (fun q=>!p q)++l.drop d).length:=by omega
   have hq:((l.take d).filter (fun q=>!p q)++l.drop d)[k]=l[d]:=by
    rw [List.getElem_append_right (by omega)]
    simp [←hk]
   obtain ⟨x0,x1,x2,x3,x4⟩:=ccells_at _ k hel
   rw [hq] at x0 x1 x2 x3 x4
   have e0:=hly.cell x0;have e1:=hly.cell x1;have e2:=hly.cell x2;have e3:=hly.cell x3;have e4:=hly.cell x4
   have CL:=hide (uH HP wr l[d] (yM hlt) (uH HB))
   have hsp:l.take (d+1)=l.take d++[l[d]]:=by rw [List.take_succ_eq_append_getElem hlt]
   have hdr:l.drop d=l[d]::l.drop (d+1):=List.drop_eq_getElem_cons hlt
   have hgk:(gl++(l.take d).filter p).length≤1048576:=by
    have:=List.length_filter_le p (l.take d)
    rw [List.length_take] at this
    rw [List.length_append]
    omega
   have CT:=hide (fun wx (hb:Below wr.heap.size wr wx)=>takeC_any g M k _ _ wx (TakC.below ⟨v,hbk,hly,how⟩ hb) hel (by omega) hgk)
   rw [hq] at CT
   have HTK:=hide (show TakC wr g M _ _ from ⟨v,hbk,hly,how⟩)
   obtain ⟨q,hqe⟩:∃q,l[d]=q:=⟨_,rfl⟩
   rw [hqe] at e0 e1 e2 e3 e4 CL CT hsp hdr
   have HSP:=hide hsp
   have HDR:=hide hdr
   have HKK:=hide hk
   have HLN:=hide hlen
   have HNN:=hide hn
   have HM:=hide hm
   have hd':d+1≤l.length:=hlt
   obtain ⟨id,ap,nd,me,cp⟩:=q
   simp only at e0 e1 e2 e3 e4
   have k0:(0:Int)≤k:=by omega
   clear hbk hly how x0 x1 x2 x3 x4 hq hqe hsp hdr hk hlen hn hm hgk HK hel
   cases hpq:p ⟨id,ap,nd,me,cp⟩ with
   | true=>
    rw [hpq] at CL
    have HPQ:=hide hpq
    clear hpq
    go_wp2_with (go_at_fn gf;refine (uH CL).mono ?_;rintro e w1 ⟨rfl,hb⟩;have HB1:=hide hb;clear hb CL)
    go_wp2_with fail
    refine (uH CT _ (uH HB1)).mono ?_
    rintro e w2 ⟨rfl,ht,hb⟩
    have HT2:=hide ht
    have hz:g≤wr.heap.size:=by obtain ⟨v,hbk,_⟩:=uH HTK;have:=hbk.lt;omega
    have HB2:=hide (((uH HB).trans ((uH HB1).mono hz)).trans hb)
    clear ht hb CT
    go_wp2
    go_roundw
    case rel=>
     refine ⟨k,rfl,hide ⟨d+1,hd',?_,?_⟩,HB2⟩
     ·rw [uH HSP,List.filter_append,uH HKK]
      simp [uH HPQ]
     ·have:=uH HT2
      rw [uH HDR,List.eraseIdx_append_of_length_le (by have:=uH HKK;omega)] at this
      rw [show k - ((l.take d).filter (fun q=>!p q)).length=0 by have:=uH HKK;omega,List.eraseIdx_cons_zero] at this
      rw [uH HSP,List.filter_append,List.filter_append]
      simpa [uH HPQ] using this
    case measure=>
     rw [(uH HT2).len,uH HM]
     have hh:=uH HLN
     have hnn:=uH HNN
     rw [List.length_eraseIdx_of_lt (by omega),hh]
     simp [intOf]
     omega
   | false=>
    rw [hpq] at CL
    have HPQ:=hide hpq
    clear hpq
    go_wp2_with (go_at_fn gf;refine (uH CL).mono ?_;rintro e w1 ⟨rfl,hb⟩;have HB1:=hide hb;clear hb CL)
    have hz:g≤wr.heap.size:=by obtain ⟨v,hbk,_⟩:=uH HTK;have:=hbk.lt;omega
    go_wp2
    go_roundw
    case rel=>
     refine ⟨k+1,by go_num,hide ⟨d+1,hd',?_,?_⟩,hide ((uH HB).trans ((uH HB1).mono hz))⟩
     ·rw [uH HSP,List.filter_append,List.length_append,←uH HKK]
      simp [uH HPQ]
     ·have:=(uH HTK).below (uH HB1)
      rw [uH HDR] at this
      rw [uH HSP,List.filter_append,List.filter_append]
      simpa [uH HPQ] using this
    case measure=>
     rw [((uH HTK).below (uH HB1)).len,uH HM,uH HLN]
     have hnn:=uH HNN
     simp [intOf]
     omega
  ·have hkn:¬(k:Int)<n:=by omega
   have HTK:=hide (show TakC wr g M _ _ from ⟨v,hbk,hly,how⟩)
   have htk:l.take d=l:=List.take_of_length_le (by omega)
   have hdr:l.drop d=[]:=List.drop_of_length_le (by omega)
   rw [htk,hdr,List.append_nil] at HTK
   clear hbk hly how HK hk hlen htk hdr
   go_wp2
   go_end0
   exact ⟨rfl,uH HTK,uH HB⟩
end
end Go.Proofs.YtjkfappkpopbdaaGreat
