/-
  The program's reader: a whole record; a walk over the dump.
-/
import Derived.Test.YtjkfappkpopbdaaGreatSackC
set_option maxRecDepth 100000
set_option maxHeartbeats 16000000
set_option linter.unusedVariables false
set_option linter.unusedSimpArgs false
namespace Go.Proofs.YtjkfappkpopbdaaGreat
section
open Go.RowKit
def readRec (l:List UInt8):Option (Rc×Int):=
 match l with
 | []=>none
 | b::_=>
  if (getNum l 1).2<0 then none
  else if (getText l (getNum l 1).2).2<0 then none
  else if recOk ⟨b.toNat,(getNum l 1).1,(getText l (getNum l 1).2).1⟩=false then none
  else some (⟨b.toNat,(getNum l 1).1,(getText l (getNum l 1).2).1⟩,(getText l (getNum l 1).2).2)
theorem getNum_pos_le (s:ByteArray) (i:Int) (h:¬(getNum s.data.toList i).2<0):0≤(getNum s.data.toList i).2∧(getNum s.data.toList i).2≤s.size:=by
 have:=getNum_le s i (by omega)
 omega
theorem getText_pos_le (s:ByteArray) (i:Int) (h:¬(getText s.data.toList i).2<0):0≤(getText s.data.toList i).2∧(getText s.data.toList i).2≤s.size:=by
 have h0:=getText_of (s:=s) (i:=i) (a:=(getNum s.data.toList i).1) (b:=(getNum s.data.toList i).2) rfl
 have hl:=getNum_le s i
 rw [h0] at h ⊢
 split at h
 ·simp at h
 ·rename_i hn
  rw [if_neg hn]
  simp only at h ⊢
  omega
theorem getText_len (s:ByteArray) (i:Int):(getText s.data.toList i).1.length≤1048576:=by
 have h0:=getText_of (s:=s) (i:=i) (a:=(getNum s.data.toList i).1) (b:=(getNum s.data.toList i).2) rfl
 rw [h0]
 split
 ·simp
 ·rename_i hn
  simp only [List.length_take]
  have:=getNum_le s i
  omega
theorem grownBy_new {w w1:World} {r:Option Nat} (h:w.grownBy w1 r) (b j:Nat) (v:Value) (hb:w.heap.size≤b):w.grownBy (w1.setCell ⟨b,j,none⟩ v) r:=
 ⟨h.os,h.tape,h.output,by simpa using h.size,fun k hk hn=>by
  rw [heap_setCell_other w1 ⟨b,j,none⟩ k v (by simp;omega)]
  exact h.block k hk hn⟩
theorem Blk.gby {w w':World} {g k:Nat} {arr:Array Value} {t:TypeId} (h:Blk w k arr t) (hg:w.grownBy w' (some g)) (hn:k≠g):Blk w' k arr t:=(hg.block k h.lt (fun e=>hn (by simpa using e))).trans h
theorem nextRec_any (g:Nat) (s:ByteArray) (bg:Int) (w:World) (h:Rd w g s 0 bg) (hs:s.size≤1048576) :
  Calls Tryz.prog 170 #[rdp g] w fun e w'=>Reads w g s bg ((readRec s.data.toList).map (fun x=>(rcv x.1,x.2))) e w':=by
 have hgl:g<w.heap.size:=Rd.lt h
 have CB:=hide (fun wx (hr:Rd wx g s 0 bg)=>nextByte_any g s 0 bg wx hr hs (Nat.zero_le _))
 have CN:=hide (fun wx (hr:Rd wx g s 1 bg)=>nextNum_any g s 1 bg wx hr hs (by omega) (by omega))
 have HR0:=hide (Rd.al h (.cells #[.int .i64 0,.int .i64 0,.string ⟨#[]⟩] 54))
 have V0:=hide (yD w #[.int .i64 0,.int .i64 0,.string ⟨#[]⟩] 54)
 have G0:=hide (gby_below (r:=some g) (yA (yH _ w) (.cells #[.int .i64 0,.int .i64 0,.string ⟨#[]⟩] 54)))
 have hBg:w.heap.size≠g:=by omega
 clear h
 by_cases h0:0<s.size
 case neg=>
  have he:s.data.toList=[]:=by
   have:=len_eq s
   exact List.eq_nil_of_length_eq_zero (by omega)
  rw [he]
  simp only [readRec,Option.map_none]
  have CB':=hide (fun wx hr=>by have:=uH CB wx hr;rw [dif_neg h0] at this;exact this)
  clear CB he
  go_enter Tryz.func170,Tryz.ntmps170
  go_wp2_with fail
  refine (uH CB' _ (uH HR0)).mono ?_
  rintro e w1 ⟨hg,rfl,hr⟩
  have HG:=hide (grownBy_trans (uH G0) hg)
  have HR:=hide hr
  clear hg hr
  go_wp2
  exact ⟨rfl,uH HG,rfl,uH HR⟩
 have hcons:∃t,s.data.toList=s[0]::t:=⟨s.data.toList.tail,by
  have hlen:=len_eq s
  match hl:s.data.toList with
  | []=>rw [hl] at hlen;simp at hlen;omega
  | a::t=>
   simp only [List.tail_cons,List.cons.injEq,and_true]
   have:s.data.toList[0]? = some a:=by rw [hl];rfl
   have h2:s.data.toList[0]? = some s[0]:=by
    rw [List.getElem?_eq_getElem (by omega)];rfl
   rw [h2] at this
   simpa using this.symm⟩
 have CB':=hide (fun wx hr=>by have:=uH CB wx hr;rw [dif_pos h0] at this;exact this)
 clear CB
 have hby:=byte_le s[0]
 have HX:readRec s.data.toList=if (getNum s.data.toList 1).2<0 then none
  else if (getText s.data.toList (getNum s.data.toList 1).2).2<0 then none
  else if recOk ⟨s[0].toNat,(getNum s.data.toList 1).1,(getText s.data.toList (getNum s.data.toList 1).2).1⟩=false then none
  else some (⟨s[0].toNat,(getNum s.data.toList 1).1,(getText s.data.toList (getNum s.data.toList 1).2).1⟩,(getText s.data.toList (getNum s.data.toList 1).2).2):=by
  obtain ⟨t,ht⟩:=hcons
  conv=>lhs;unfold readRec
  rw [ht]
 rw [HX]
 clear HX hcons
 have hnl:=getNum_pos_le s 1
 obtain ⟨⟨n,j⟩,hnj⟩:∃x,getNum s.data.toList 1=x:=⟨_,rfl⟩
 rw [hnj] at CN hnl ⊢
 simp only at CN hnl ⊢
 clear hnj
 obtain ⟨b,hb⟩:∃b,s[0].toNat=b:=⟨_,rfl⟩
 rw [hb] at CB' hby ⊢
 clear hb
 have hz1:(((0:Nat):Int)+1)=1:=rfl
 by_cases hj:j<0
 ·rw [if_pos hj]
  have CN':=hide (fun wx hr=>by have:=uH CN wx hr;rw [if_pos hj] at this;exact this)
  clear CN
  go_enter Tryz.func170,Tryz.ntmps170
  go_wp2_with fail
  refine (uH CB' _ (uH HR0)).mono ?_
  rintro e w1 ⟨hg,rfl,hr⟩
  have HG:=hide (grownBy_trans (uH G0) hg)
  have HR:=hide (show Rd w1 g s 1 bg from hr)
  clear hg hr
  go_wp2_with fail
  refine (uH CN' _ (uH HR)).mono ?_
  rintro e w2 ⟨hg,rfl,hr⟩
  have HG2:=hide (grownBy_trans (uH HG) hg)
  have HR2:=hide hr
  clear hg hr
  go_wp2
  exact ⟨rfl,uH HG2,rfl,uH HR2⟩
 rw [if_neg hj]
 have CN':=hide (fun wx hr=>by have:=uH CN wx hr;rw [if_neg hj] at this;exact this)
 clear CN
 have hj2:=hnl hj
 have CT:=hide (fun wx (hr:Rd wx g s j bg)=>nextText_any g s j bg wx hr hs (by omega) (by omega))
 have hql:=getText_len s j
 obtain ⟨⟨q,k⟩,hqk⟩:∃x,getText s.data.toList j=x:=⟨_,rfl⟩
 rw [hqk] at CT hql ⊢
 simp only at CT hql ⊢
 clear hqk
 by_cases hk:k<0
 ·rw [if_pos hk]
  have CT':=hide (fun wx hr=>by have:=uH CT wx hr;rw [if_pos hk] at this;exact this)
  clear CT
  go_enter Tryz.func170,Tryz.ntmps170
  go_wp2_with fail
  refine (uH CB' _ (uH HR0)).mono ?_
  rintro e w1 ⟨hg,rfl,hr⟩
  have HG:=hide (grownBy_trans (uH G0) hg)
  have HR:=hide (show Rd w1 g s 1 bg from hr)
  clear hg hr
  go_wp2_with fail
  refine (uH CN' _ (uH HR)).mono ?_
  rintro e w2 ⟨hg,rfl,hr⟩
  have HG2:=hide (grownBy_trans (uH HG) hg)
  have HR2:=hide hr
  clear hg hr
  go_wp2_with fail
  refine (uH CT' _ (uH HR2)).mono ?_
  rintro e w3 ⟨hg,rfl,hr⟩
  have HG3:=hide (grownBy_trans (uH HG2) hg)
  have HR3:=hide hr
  clear hg hr
  go_wp2
  exact ⟨rfl,uH HG3,rfl,uH HR3⟩
 rw [if_neg hk]
 have CT':=hide (fun wx hr=>by have:=uH CT wx hr;rw [if_neg hk] at this;exact this)
 clear CT
 have CO:=hide (fun wx=>implRecOk_any ⟨b,n,q⟩ wx hql)
 have CF:=hide (fun wx (hr:Rd wx g s k bg)=>fail_any g s k bg wx hr)
 obtain ⟨o,ho⟩:∃o,recOk ⟨b,n,q⟩=o:=⟨_,rfl⟩
 rw [ho] at CO ⊢
 clear ho
 cases o
 ·rw [if_pos rfl]
  go_enter Tryz.func170,Tryz.ntmps170
  go_wp2_with fail
  refine (uH CB' _ (uH HR0)).mono ?_
  rintro e w1 ⟨hg,rfl,hr⟩
  have HG:=hide (grownBy_trans (uH G0) hg)
  have HR:=hide (show Rd w1 g s 1 bg from hr)
  clear hg hr
  go_wp2_with fail
  refine (uH CN' _ (uH HR)).mono ?_
  rintro e w2 ⟨hg,rfl,hr⟩
  have HG2:=hide (grownBy_trans (uH HG) hg)
  have HR2:=hide hr
  clear hg hr
  go_wp2_with fail
  refine (uH CT' _ (uH HR2)).mono ?_
  rintro e w3 ⟨hg,rfl,hr⟩
  have HG3:=hide (grownBy_below (grownBy_trans (uH HG2) hg) (yA (yH _ _) (.cells #[.int .i64 b,.int .i64 n,.string (bs q)] 54)))
  have HR3:=hide (Rd.al hr (.cells #[.int .i64 b,.int .i64 n,.string (bs q)] 54))
  clear hg hr
  go_wp2_with fail
  refine (uH CO _).mono ?_
  rintro e w4 ⟨rfl,hb⟩
  have HG4:=hide (grownBy_below (uH HG3) hb)
  have HR4:=hide (Rd.below (uH HR3) hb)
  clear hb
  go_wp2_with fail
  refine (uH CF _ (uH HR4)).mono ?_
  rintro e w5 ⟨rfl,rfl⟩
  go_wp2
  exact ⟨rfl,uH HG4,rfl,_,uH HR4⟩
 ·rw [if_neg (by simp)]
  go_enter Tryz.func170,Tryz.ntmps170
  go_wp2_with fail
  refine (uH CB' _ (uH HR0)).mono ?_
  rintro e w1 ⟨hg,rfl,hr⟩
  have HG:=hide (grownBy_trans (uH G0) hg)
  have HR:=hide (show Rd w1 g s 1 bg from hr)
  have V1:=hide ((uH V0).gby hg hBg)
  clear hg hr
  go_wp2_with fail
  refine (uH CN' _ (uH HR)).mono ?_
  rintro e w2 ⟨hg,rfl,hr⟩
  have HG2:=hide (grownBy_trans (uH HG) hg)
  have HR2:=hide hr
  have V2:=hide ((uH V1).gby hg hBg)
  clear hg hr
  go_wp2_with fail
  refine (uH CT' _ (uH HR2)).mono ?_
  rintro e w3 ⟨hg,rfl,hr⟩
  have HG3:=hide (grownBy_below (grownBy_trans (uH HG2) hg) (yA (yH _ _) (.cells #[.int .i64 b,.int .i64 n,.string (bs q)] 54)))
  have HR3:=hide (Rd.al hr (.cells #[.int .i64 b,.int .i64 n,.string (bs q)] 54))
  have V3:=hide (((uH V2).gby hg hBg).al (.cells #[.int .i64 b,.int .i64 n,.string (bs q)] 54))
  have U3:=hide (yD w3 #[.int .i64 b,.int .i64 n,.string (bs q)] 54)
  clear hg hr
  go_wp2_with fail
  refine (uH CO _).mono ?_
  rintro e w4 ⟨rfl,hb⟩
  have HG4:=hide (grownBy_below (uH HG3) hb)
  have HR4:=hide (Rd.below (uH HR3) hb)
  have V4:=hide ((uH V3).below hb)
  have U4:=hide ((uH U3).below hb)
  have u0:=(uH U4).at 0
  have u1:=(uH U4).at 1
  have u2:=(uH U4).at 2
  have v0:=(uH V4).at 0
  have v1:=(uH V4).at 1
  have v2:=(uH V4).at 2
  have f0:=(uH V4).f 0
  have f1:=(uH V4).f 1
  have f2:=(uH V4).f 2
  simp at u0 u1 u2 v0 v1 v2
  clear hb
  have hV:=((uH V4).set 0 (.int .i64 b)).set 1 (.int .i64 n)
  have hV2:=hV.set 2 (.string (bs q))
  simp at hV2
  have x0:=hV2.at 0
  have x1:=hV2.at 1
  have x2:=hV2.at 2
  simp at x0 x1 x2
  have HF:=hide (show Rd _ g s k bg from Rd.other (Rd.other (Rd.other (uH HR4) w.heap.size 0 (.int .i64 b) (Ne.symm hBg)) w.heap.size 1 (.int .i64 n) (Ne.symm hBg)) w.heap.size 2 (.string (bs q)) (Ne.symm hBg))
  clear hV hV2
  go_wp2
  refine bodyPost_ret (v:=rcv ⟨b,n,q⟩) (by simp [results,Tryz.results170,go_sem,x0,x1,x2]) rfl ⟨?_,rfl,uH HF⟩
  exact grownBy_new (grownBy_new (grownBy_new (uH HG4) _ _ _ (yJ _)) _ _ _ (yJ _)) _ _ _ (yJ _)
end
end Go.Proofs.YtjkfappkpopbdaaGreat
