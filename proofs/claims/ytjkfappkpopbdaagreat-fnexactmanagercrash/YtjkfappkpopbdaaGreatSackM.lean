/-
  Texts in one: GRecI, GRecM, RdL, OkB, MachI, BackA, AppsI.
-/
import Derived.Test.YtjkfappkpopbdaaGreatSackH
import Derived.Test.YtjkfappkpopbdaaGreatSackI
set_option maxRecDepth 100000
set_option maxHeartbeats 16000000
set_option linter.unusedVariables false
set_option linter.unusedSimpArgs false
namespace Go.Proofs.YtjkfappkpopbdaaGreat
section
open Go.RowKit
def gotOf (n:Nat):Option (Rc×Int)→Option Rc
 | none=>none
 | some (r,k)=>if (n:Int)≤k then some r else none
def gotRec (l:List UInt8):Option Rc:=
 gotOf l.length (readRec l)
def recAns (o:Option Rc):Value:=match o with | some r=>.tuple #[rcv r,.bool true] | none=>.tuple #[rcv ⟨0,0,[]⟩,.bool false]
theorem bs_nil:bs []=(⟨#[]⟩:ByteArray):=rfl
theorem implGetRec_any (s:ByteArray) (w:World) (hs:s.size≤1048576) :
  Calls Tryz.prog 139 #[.string s] w fun e w'=>e=.returned (recAns (gotRec s.data.toList))∧Below w.heap.size w w':=by
 have hmf:∀(fn:Fn) (first cap:Array Value) (w:World),(Instr.makeFunc fn first cap).run Tryz.prog w=.ok (.func fn first cap) w:=fun _ _ _ _=>rfl
 have CR:=hide (fun wx (hr:Rd wx (w.heap.size+2) s 0 0)=>nextRec_any (w.heap.size+2) s 0 wx hr hs)
 have CD:=hide (fun k wx (hr:Rd wx (w.heap.size+2) s k 0)=>done_any (w.heap.size+2) s k 0 wx hr hs)
 have CF:=hide (fun k wx (hr:Rd wx (w.heap.size+2) s k 0)=>fail_any (w.heap.size+2) s k 0 wx hr)
 have V0:=hide (((yD w #[.int .i64 0,.int .i64 0,.string ⟨#[]⟩] 54).al (.cells #[.bool false] 4)).al (.cells (rdA s) 172))
 have U0:=hide ((yD (w.alloc (.cells #[.int .i64 0,.int .i64 0,.string ⟨#[]⟩] 54)) #[.bool false] 4).al (.cells (rdA s) 172))
 have R0:=hide (Rd.newA ((w.alloc (.cells #[.int .i64 0,.int .i64 0,.string ⟨#[]⟩] 54)).alloc (.cells #[.bool false] 4)) s)
 have HB0:=hide (yA (yA (yA (yH _ w) (.cells #[.int .i64 0,.int .i64 0,.string ⟨#[]⟩] 54)) (.cells #[.bool false] 4)) (.cells (rdA s) 172))
 simp only [yE] at U0 R0
 have HL:=hide (len_eq s)
 obtain ⟨x,hx⟩:∃x,readRec s.data.toList=x:=⟨_,rfl⟩
 have HG:gotRec s.data.toList=gotOf s.data.toList.length x:=by unfold gotRec;rw [hx]
 rw [HG]
 rw [hx] at CR
 clear HG hx
 cases x with
 | none=>
  simp only [Option.map_none] at CR
  simp only [gotOf]
  go_enter_defers Tryz.func139,Tryz.ntmps139
  go_upto_region 2 with fail
  refine wp_region_lit ?_
  refine wpList_val (v:=.string s) (d:=some 6) rfl rfl rfl ?_
  simp only [zW]
  refine wpList_same (v:=.agg (rdA s)) (d:=some 7) rfl rfl (by refine run_v ?_;simp only [List.map_toArray,List.map_cons,List.map_nil];exact rd_build s _) ?_
  simp only [zW]
  refine wpList_val (d:=some 4) rfl rfl (run_v (rd_alloc _ _)) ?_
  simp only [zW]
  refine wpList_none (d:=none) rfl rfl (run_u (rd_store s _)) ?_
  simp only [Act.put]
  refine wpList_nil ?_
  go_wp2_with fail
  refine (uH CR _ (uH R0)).mono ?_
  rintro e w1 ⟨hg,rfl,hr⟩
  have V1:=hide ((uH V0).gby hg (by omega))
  have U1:=hide ((uH U0).gby hg (by omega))
  have HB1:=hide ((uH HB0).grown hg (uH HB0).size (fun k hk=>by cases hk;omega))
  clear hg hr
  go_wp2
  refine leaves_cons (f:=169) (args:=#[.pointer (some ⟨w.heap.size,0,none⟩),.pointer (some ⟨w.heap.size+1,0,none⟩)]) (by simp) (by simp [go_sem]) ?_
  refine (catch_panicking w.heap.size ⟨0,0,[]⟩ false 0 [] w1 (uH V1) (uH U1)).mono ?_
  rintro e u' w2 ⟨rfl,rfl,h1,h2,hb⟩
  have HB2:=hide (Below.trans (uH HB1) hb)
  have k0:=h1.at 0
  have k1:=h1.at 1
  have k2:=h1.at 2
  have k3:=h2.at 0
  simp at k0 k1 k2 k3
  clear hb h1 h2
  refine ⟨recAns none,?_,rfl,uH HB2⟩
  simp [results,Tryz.results139,go_sem,k0,k1,k2,k3,recAns,bs_nil]
 | some y=>
  obtain ⟨r,k⟩:=y
  simp only [Option.map_some] at CR
  simp only [gotOf]
  obtain ⟨rk,ra,rq⟩:=r
  by_cases hk:(s.data.toList.length:Int)≤k
  ·rw [if_pos hk]
   have hd:decide ((s.size:Int)≤k)=true:=by rw [uH HL] at hk;simpa using hk
   have CD':=hide (fun wx hr=>by have:=uH CD k wx hr;rw [hd] at this;exact this)
   clear hd CD hk
   go_enter_defers Tryz.func139,Tryz.ntmps139
   go_upto_region 2 with fail
   refine wp_region_lit ?_
   refine wpList_val (v:=.string s) (d:=some 6) rfl rfl rfl ?_
   simp only [zW]
   refine wpList_same (v:=.agg (rdA s)) (d:=some 7) rfl rfl (by refine run_v ?_;simp only [List.map_toArray,List.map_cons,List.map_nil];exact rd_build s _) ?_
   simp only [zW]
   refine wpList_val (d:=some 4) rfl rfl (run_v (rd_alloc _ _)) ?_
   simp only [zW]
   refine wpList_none (d:=none) rfl rfl (run_u (rd_store s _)) ?_
   simp only [Act.put]
   refine wpList_nil ?_
   go_wp2_with fail
   refine (uH CR _ (uH R0)).mono ?_
   rintro e w1 ⟨hg,rfl,hr⟩
   have V1:=hide ((uH V0).gby hg (by omega))
   have U1:=hide ((uH U0).gby hg (by omega))
   have R1:=hide hr
   have HB1:=hide ((uH HB0).grown hg (uH HB0).size (fun k hk=>by cases hk;omega))
   have v0:=(uH V1).at 0
   have v1:=(uH V1).at 1
   have v2:=(uH V1).at 2
   have f0:=(uH V1).f 0
   have f1:=(uH V1).f 1
   have f2:=(uH V1).f 2
   simp at v0 v1 v2
   have V2:=hide ((((uH V1).set 0 (.int .i64 rk)).set 1 (.int .i64 ra)).set 2 (.string (bs rq)))
   have U2:=hide ((((uH U1).other w.heap.size 0 (.int .i64 rk) (by omega)).other w.heap.size 1 (.int .i64 ra) (by omega)).other w.heap.size 2 (.string (bs rq)) (by omega))
   have R2:=hide (show Rd _ (w.heap.size+2) s k 0 from Rd.other (Rd.other (Rd.other (uH R1) w.heap.size 0 (.int .i64 rk) (by omega)) w.heap.size 1 (.int .i64 ra) (by omega)) w.heap.size 2 (.string (bs rq)) (by omega))
   have HB2:=hide (yC (yC (yC (uH HB1) w.heap.size 0 (.int .i64 rk) (yJ _)) w.heap.size 1 (.int .i64 ra) (yJ _)) w.heap.size 2 (.string (bs rq)) (yJ _))
   clear hg hr
   go_wp2_with fail
   refine (uH CD' _ (uH R2)).mono ?_
   rintro e w2 ⟨rfl,hb⟩
   have HB3:=hide (yB (uH HB2) hb)
   have V3:=hide ((uH V2).below hb)
   have U3:=hide ((uH U2).below hb)
   have y0:=(uH V3).at 0
   have y1:=(uH V3).at 1
   have y2:=(uH V3).at 2
   have z0:=(uH V3).f 0
   have z1:=(uH V3).f 1
   have z2:=(uH V3).f 2
   have y3:=(uH U3).at 0
   have z3:=(uH U3).f 0
   simp at y0 y1 y2 y3
   clear hb
   have sc0:=sc_same y0
   have sc1:=sc_same y1
   have sc2:=sc_same y2
   go_wp2
   have VF:=hide (show Blk (w2.setCell ⟨w.heap.size+1,0,none⟩ (.bool true)) w.heap.size #[.int .i64 rk,.int .i64 ra,.string (bs rq)] 54 from Blk.other (by have:=uH V3;simpa using this) _ _ _ (by omega))
   have UF:=hide (show Blk (w2.setCell ⟨w.heap.size+1,0,none⟩ (.bool true)) (w.heap.size+1) #[.bool true] 4 from by have:=(uH U3).set 0 (.bool true);simpa using this)
   have HBF:=hide (yC (uH HB3) (w.heap.size+1) 0 (.bool true) (by omega))
   clear V0 U0 R0 HB0 V1 U1 R1 HB1 V2 U2 R2 HB2 V3 U3 HB3
   refine leaves_cons (f:=169) (args:=#[.pointer (some ⟨w.heap.size,0,none⟩),.pointer (some ⟨w.heap.size+1,0,none⟩)]) (by simp) (by simp [go_sem]) ?_
   refine (catch_idle w.heap.size ⟨rk,ra,rq⟩ true _ (uH VF) (uH UF)).mono ?_
   rintro e u' w3 ⟨rfl,rfl,hb⟩
   have HB4:=hide (yB (uH HBF) hb)
   have h1:=(uH VF).below hb
   have h2:=(uH UF).below hb
   have k0:=h1.at 0
   have k1:=h1.at 1
   have k2:=h1.at 2
   have k3:=h2.at 0
   simp at k0 k1 k2 k3
   clear hb h1 h2
   refine ⟨recAns (some ⟨rk,ra,rq⟩),?_,rfl,uH HB4⟩
   simp [results,Tryz.results139,go_sem,k0,k1,k2,k3,recAns]
  ·rw [if_neg hk]
   have hd:decide ((s.size:Int)≤k)=false:=by rw [uH HL] at hk;simpa using hk
   have CD':=hide (fun wx hr=>by have:=uH CD k wx hr;rw [hd] at this;exact this)
   clear hd CD hk
   go_enter_defers Tryz.func139,Tryz.ntmps139
   go_upto_region 2 with fail
   refine wp_region_lit ?_
   refine wpList_val (v:=.string s) (d:=some 6) rfl rfl rfl ?_
   simp only [zW]
   refine wpList_same (v:=.agg (rdA s)) (d:=some 7) rfl rfl (by refine run_v ?_;simp only [List.map_toArray,List.map_cons,List.map_nil];exact rd_build s _) ?_
   simp only [zW]
   refine wpList_val (d:=some 4) rfl rfl (run_v (rd_alloc _ _)) ?_
   simp only [zW]
   refine wpList_none (d:=none) rfl rfl (run_u (rd_store s _)) ?_
   simp only [Act.put]
   refine wpList_nil ?_
   go_wp2_with fail
   refine (uH CR _ (uH R0)).mono ?_
   rintro e w1 ⟨hg,rfl,hr⟩
   have V1:=hide ((uH V0).gby hg (by omega))
   have U1:=hide ((uH U0).gby hg (by omega))
   have R1:=hide hr
   have HB1:=hide ((uH HB0).grown hg (uH HB0).size (fun k hk=>by cases hk;omega))
   have v0:=(uH V1).at 0
   have v1:=(uH V1).at 1
   have v2:=(uH V1).at 2
   have f0:=(uH V1).f 0
   have f1:=(uH V1).f 1
   have f2:=(uH V1).f 2
   simp at v0 v1 v2
   have V2:=hide ((((uH V1).set 0 (.int .i64 rk)).set 1 (.int .i64 ra)).set 2 (.string (bs rq)))
   have U2:=hide ((((uH U1).other w.heap.size 0 (.int .i64 rk) (by omega)).other w.heap.size 1 (.int .i64 ra) (by omega)).other w.heap.size 2 (.string (bs rq)) (by omega))
   have R2:=hide (show Rd _ (w.heap.size+2) s k 0 from Rd.other (Rd.other (Rd.other (uH R1) w.heap.size 0 (.int .i64 rk) (by omega)) w.heap.size 1 (.int .i64 ra) (by omega)) w.heap.size 2 (.string (bs rq)) (by omega))
   have HB2:=hide (yC (yC (yC (uH HB1) w.heap.size 0 (.int .i64 rk) (yJ _)) w.heap.size 1 (.int .i64 ra) (yJ _)) w.heap.size 2 (.string (bs rq)) (yJ _))
   clear hg hr
   go_wp2_with fail
   refine (uH CD' _ (uH R2)).mono ?_
   rintro e w2 ⟨rfl,hb⟩
   have HB3:=hide (yB (uH HB2) hb)
   have V3:=hide ((uH V2).below hb)
   have U3:=hide ((uH U2).below hb)
   have R3:=hide (Rd.below (uH R2) hb)
   clear hb
   go_wp2_with fail
   refine (uH CF k _ (uH R3)).mono ?_
   rintro e w4 ⟨rfl,rfl⟩
   have VF:=hide (show Blk w2 w.heap.size #[.int .i64 rk,.int .i64 ra,.string (bs rq)] 54 from (by have:=uH V3;simpa using this))
   clear V0 U0 R0 HB0 V1 U1 R1 HB1 V2 U2 R2 HB2 V3 R3
   go_wp2
   refine leaves_cons (f:=169) (args:=#[.pointer (some ⟨w.heap.size,0,none⟩),.pointer (some ⟨w.heap.size+1,0,none⟩)]) (by simp) (by simp [go_sem]) ?_
   refine (catch_panicking w.heap.size ⟨rk,ra,rq⟩ false 0 [] w2 (uH VF) (uH U3)).mono ?_
   rintro e u' w3 ⟨rfl,rfl,h1,h2,hb⟩
   have HB4:=hide (Below.trans (uH HB3) hb)
   have k0:=h1.at 0
   have k1:=h1.at 1
   have k2:=h1.at 2
   have k3:=h2.at 0
   simp at k0 k1 k2 k3
   clear hb h1 h2
   refine ⟨recAns none,?_,rfl,uH HB4⟩
   simp [results,Tryz.results139,go_sem,k0,k1,k2,k3,recAns,bs_nil]
def specGot (l:List UInt8):Option Rc:=
 match l with
 | []=>none
 | b::_=>
  if (getText l (getNum l 1).2).2<0∨putRec ⟨b.toNat,(getNum l 1).1,(getText l (getNum l 1).2).1⟩≠l then none
  else some ⟨b.toNat,(getNum l 1).1,(getText l (getNum l 1).2).1⟩
theorem getNum_split (l:List UInt8) (i:Int) (h:¬(getNum l i).2<0):0≤i∧0≤(getNum l i).1∧(getNum l i).1≤4000000000∧l.drop i.toNat=putNum (getNum l i).1++l.drop (getNum l i).2.toNat:=by
 unfold getNum at h ⊢
 by_cases hi:i<0
 ·simp [hi] at h
 ·simp only [hi,if_false] at h ⊢
  cases hs:stop 5 (l.drop i.toNat) with
  | none=>simp [hs] at h
  | some j=>
   simp only [hs] at h ⊢
   by_cases hp:putNum ((dv ((l.drop i.toNat).take (j+1)):Nat):Int)=(l.drop i.toNat).take (j+1)
   ·rw [if_pos hp] at h ⊢
    have hj:=stop_lt 5 _ j hs
    have hle:(dv ((l.drop i.toNat).take (j+1)):Int)≤4000000000:=by
     apply Int.not_lt.1
     intro hlt
     have:putNum ((dv ((l.drop i.toNat).take (j+1)):Nat):Int)=[]:=by unfold putNum;rw [if_neg (by omega)]
     rw [this] at hp
     have h2:=congrArg List.length hp
     simp at h2 hj
     omega
    refine ⟨by omega,by simp,hle,?_⟩
    rw [hp]
    simp only
    have e:(i+(j:Int)+1).toNat=i.toNat+(j+1):=by omega
    rw [e,←List.drop_drop,List.take_append_drop]
   ·rw [if_neg hp] at h
    simp at h
theorem getText_split (l:List UInt8) (i:Int) (h:¬(getText l i).2<0):¬(getNum l i).2<0∧(getText l i).1.length≤2000∧l.drop i.toNat=putText (getText l i).1++l.drop (getText l i).2.toNat∧(getText l i).2≤l.length:=by
 unfold getText at h ⊢
 simp only at h ⊢
 by_cases hc:(getNum l i).2<0∨2000<(getNum l i).1∨(l.length:Int) - (getNum l i).2<(getNum l i).1
 ·rw [if_pos hc] at h;simp at h
 ·rw [if_neg hc]
  have h1:¬(getNum l i).2<0:=fun e=>hc (.inl e)
  have h2:¬2000<(getNum l i).1:=fun e=>hc (.inr (.inl e))
  have h3:¬(l.length:Int) - (getNum l i).2<(getNum l i).1:=fun e=>hc (.inr (.inr e))
  obtain ⟨h0,hn,hm,hsp⟩:=getNum_split l i h1
  clear hc h
  obtain ⟨⟨n,k⟩,hg⟩:∃x,getNum l i=x:=⟨_,rfl⟩
  rw [hg] at h1 h2 h3 hn hm hsp ⊢
  simp only at h1 h2 h3 hn hm hsp ⊢
  have hlen:((l.drop k.toNat).take n.toNat).length=n.toNat:=by simp;omega
  refine ⟨h1,by omega,?_,by omega⟩
  rw [hsp]
  unfold putText
  rw [hlen,if_pos (by omega)]
  have e1:putNum n=put n.toNat:=by unfold putNum;rw [if_pos (by omega)]
  have e2:(k+n).toNat=k.toNat+n.toNat:=by omega
  rw [e1,e2,←List.drop_drop,List.append_assoc,List.take_append_drop]
theorem got_same (l:List UInt8):specGot l=gotRec l:=by
 unfold gotRec
 match l with
 | []=>rfl
 | b::t=>
  unfold specGot readRec
  simp only
  by_cases h1:(getNum (b::t) 1).2<0
  ·have hg:getText (b::t) (getNum (b::t) 1).2=([],-1):=by
    unfold getText
    simp only
    rw [getNum_neg h1]
    simp
   rw [hg,if_pos h1]
   simp [gotOf]
  ·rw [if_neg h1]
   by_cases h2:(getText (b::t) (getNum (b::t) 1).2).2<0
   ·rw [if_pos (.inl h2),if_pos h2];rfl
   ·rw [if_neg h2]
    obtain ⟨_,_,_,hs1⟩:=getNum_split _ _ h1
    obtain ⟨_,_,hs2,hle⟩:=getText_split _ _ h2
    obtain ⟨⟨n,k⟩,hg⟩:∃x,getNum (b::t) 1=x:=⟨_,rfl⟩
    rw [hg] at h1 h2 hs1 hs2 hle ⊢
    simp only at h1 h2 hs1 hs2 hle ⊢
    obtain ⟨⟨q,m⟩,hg2⟩:∃x,getText (b::t) k=x:=⟨_,rfl⟩
    rw [hg2] at h2 hs2 hle ⊢
    simp only at h2 hs2 hle ⊢
    cases ho:recOk ⟨b.toNat,n,q⟩ with
    | false=>
     have hp:putRec ⟨b.toNat,n,q⟩=[]:=by simp [putRec,ho]
     rw [if_pos (.inr (by rw [hp];simp)),if_pos rfl];rfl
    | true=>
     have hp:putRec ⟨b.toNat,n,q⟩=b::(putNum n++putText q):=by
      simp [putRec,ho]
     have hl:b::t=putRec ⟨b.toNat,n,q⟩++(b::t).drop m.toNat:=by
      rw [hp]
      have:t=putNum n++(putText q++(b::t).drop m.toNat):=by rw [←hs2,←hs1];rfl
      rw [List.cons_append,List.append_assoc,←this]
     rw [if_neg (show ¬(true=false) by simp)]
     simp only [gotOf]
     by_cases hm:((b::t).length:Int)≤m
     ·rw [if_pos hm,if_neg]
      rintro (h | h)
      ·exact h2 h
      ·apply h
       have hd:(b::t).drop m.toNat=[]:=List.drop_of_length_le (by omega)
       rw [hd,List.append_nil] at hl
       exact hl.symm
     ·rw [if_neg hm,if_pos]
      right
      intro h
      rw [h] at hl
      have:=congrArg List.length hl
      rw [List.length_append,List.length_drop] at this
      omega
theorem specGetRec_any (s:ByteArray) (w:World) (hs:s.size≤1048576) :
  Calls Tryz.prog 33 #[.string s] w fun e w'=>e=.returned (recAns (gotRec s.data.toList))∧Below w.heap.size w w':=by
 rw [←got_same]
 have V0:=hide (yD w #[.int .i64 0,.int .i64 0,.string ⟨#[]⟩] 54)
 have HB0:=hide (yA (yH _ w) (.cells #[.int .i64 0,.int .i64 0,.string ⟨#[]⟩] 54))
 by_cases h0:s.size=0
 ·have he:s.data.toList=[]:=List.eq_nil_of_length_eq_zero (by rw [len_eq];exact h0)
  have hem:=str_empty h0
  rw [he]
  simp only [specGot]
  clear he h0
  go_enter Tryz.func33,Tryz.ntmps33
  go_wp2
  refine bodyPost_ret (v:=recAns none) (by simp [results,Tryz.results33,go_sem,recAns,bs_nil]) rfl ⟨rfl,?_⟩
  repeat (first | exact uH HB0 | refine yA ?_ _ | refine Below.drew ?_ | refine yC ?_ _ _ _ (by omega))
 have hem:=str_full h0
 have hcons:∃t,s.data.toList=s[0]::t:=⟨s.data.toList.tail,by
  have hlen:=len_eq s
  match hl:s.data.toList with
  | []=>rw [hl] at hlen;simp at hlen;omega
  | a::t=>
   simp only [List.tail_cons,List.cons.injEq,and_true]
   have:s.data.toList[0]? = some a:=by rw [hl];rfl
   have h2:s.data.toList[0]? = some s[0]:=by
    rw [List.getElem?_eq_getElem (by omega)];rfl
   rw [h2] at this
   simpa using this.symm⟩
 have hby:=byte_le s[0]
 have HX:specGot s.data.toList=if (getText s.data.toList (getNum s.data.toList 1).2).2<0∨putRec ⟨s[0].toNat,(getNum s.data.toList 1).1,(getText s.data.toList (getNum s.data.toList 1).2).1⟩≠s.data.toList then none
  else some ⟨s[0].toNat,(getNum s.data.toList 1).1,(getText s.data.toList (getNum s.data.toList 1).2).1⟩:=by
  obtain ⟨t,ht⟩:=hcons
  conv=>lhs;unfold specGot
  rw [ht]
 rw [HX]
 clear HX hcons
 have CN:=hide (fun wx=>specGetNum_any s 1 wx hs (by omega) (by omega))
 have hnl:=getNum_le s 1
 have hnn:(getNum s.data.toList 1).2<0→(getNum s.data.toList 1).2 = -1:=by
  intro h
  rcases getNum_cases s.data.toList 1 with e | ⟨I,k,_,_,_,e⟩
  ·rw [e]
  ·rw [e] at h;simp only at h;omega
 have hjb : -1≤(getNum s.data.toList 1).2∧(getNum s.data.toList 1).2≤1048576:=by omega
 obtain ⟨⟨n,j⟩,hnj⟩:∃x,getNum s.data.toList 1=x:=⟨_,rfl⟩
 rw [hnj] at CN hjb ⊢
 simp only at CN hjb ⊢
 clear hnl hnn hnj
 have CT:=hide (fun wx=>specGetText_any s j wx hs (by omega) (by omega))
 have hql:=getText_len s j
 obtain ⟨⟨q,k⟩,hqk⟩:∃x,getText s.data.toList j=x:=⟨_,rfl⟩
 rw [hqk] at CT hql ⊢
 simp only at CT hql ⊢
 clear hqk
 obtain ⟨b,hb⟩:∃b,s[0].toNat=b:=⟨_,rfl⟩
 have hidx:s[0].toNat=b:=hb
 rw [hb] at hby ⊢
 have CP:=hide (fun wx=>specPutRec_any ⟨b,n,q⟩ wx hql)
 have hpos:(0:Int)<(s.size:Int):=by omega
 by_cases hk:k<0
 ·rw [if_pos (.inl hk)]
  go_enter Tryz.func33,Tryz.ntmps33
  go_wp2_with fail
  refine (uH CN _).mono ?_
  rintro e w1 ⟨rfl,hb⟩
  have HB1:=hide (yB (uH HB0) hb)
  have V1:=hide ((uH V0).below hb)
  clear hb
  go_wp2_with fail
  refine (uH CT _).mono ?_
  rintro e w2 ⟨rfl,hb⟩
  have HB2:=hide (yB (uH HB1) hb)
  have V2:=hide ((uH V1).below hb)
  have V3:=hide ((uH V2).al (.cells #[.int .i64 b,.int .i64 n,.string (bs q)] 54))
  clear hb
  have v0:=(uH V3).at 0
  have v1:=(uH V3).at 1
  have v2:=(uH V3).at 2
  have f0:=(uH V3).f 0
  have f1:=(uH V3).f 1
  have f2:=(uH V3).f 2
  simp only [List.getElem?_toArray,List.getElem?_cons_succ,List.getElem?_cons_zero] at v0 v1 v2
  have s0:=sc_same v0
  have s1:=sc_same v1
  have s2:=sc_same v2
  go_wp2
  refine bodyPost_ret (v:=recAns none) (by simp [results,Tryz.results33,go_sem,recAns,bs_nil,v0,v1,v2]) rfl ⟨rfl,yA (uH HB2) _⟩
 ·by_cases hp:putRec ⟨b,n,q⟩=s.data.toList
  ·rw [if_neg (by rintro (h | h);exact hk h;exact h hp)]
   have hcmp:=str_same hp
   clear hp
   go_enter Tryz.func33,Tryz.ntmps33
   go_wp2_with fail
   refine (uH CN _).mono ?_
   rintro e w1 ⟨rfl,hb⟩
   have HB1:=hide (yB (uH HB0) hb)
   have V1:=hide ((uH V0).below hb)
   clear hb
   go_wp2_with fail
   refine (uH CT _).mono ?_
   rintro e w2 ⟨rfl,hb⟩
   have HB2:=hide (yB (uH HB1) hb)
   have V2:=hide ((uH V1).below hb)
   have V3:=hide ((uH V2).al (.cells #[.int .i64 b,.int .i64 n,.string (bs q)] 54))
   clear hb
   have HB3:=hide (yA (uH HB2) (.cells #[.int .i64 b,.int .i64 n,.string (bs q)] 54))
   have U3:=hide (yD w2 #[.int .i64 b,.int .i64 n,.string (bs q)] 54)
   go_wp2_with fail
   refine (uH CP _).mono ?_
   rintro e w3 ⟨rfl,hb⟩
   have HB4:=hide (yB (uH HB3) hb)
   have V4:=hide ((uH V3).below hb)
   have U4:=hide ((uH U3).below hb)
   clear hb
   have v0:=(uH V4).at 0
   have v1:=(uH V4).at 1
   have v2:=(uH V4).at 2
   have f0:=(uH V4).f 0
   have f1:=(uH V4).f 1
   have f2:=(uH V4).f 2
   have u0:=(uH U4).at 0
   have u1:=(uH U4).at 1
   have u2:=(uH U4).at 2
   simp at v0 v1 v2 u0 u1 u2
   have hV:=((uH V4).set 0 (.int .i64 b)).set 1 (.int .i64 n)
   have hV2:=hV.set 2 (.string (bs q))
   simp at hV2
   have x0:=hV2.at 0
   have x1:=hV2.at 1
   have x2:=hV2.at 2
   simp at x0 x1 x2
   clear hV hV2
   go_wp2
   refine bodyPost_ret (v:=recAns (some ⟨b,n,q⟩)) (by simp [results,Tryz.results33,go_sem,recAns,x0,x1,x2]) rfl ⟨rfl,?_⟩
   exact yC (yC (yC (uH HB4) _ _ _ (yJ _)) _ _ _ (yJ _)) _ _ _ (yJ _)
  ·rw [if_pos (.inr hp)]
   have hcmp:=str_other hp
   clear hp
   go_enter Tryz.func33,Tryz.ntmps33
   go_wp2_with fail
   refine (uH CN _).mono ?_
   rintro e w1 ⟨rfl,hb⟩
   have HB1:=hide (yB (uH HB0) hb)
   have V1:=hide ((uH V0).below hb)
   clear hb
   go_wp2_with fail
   refine (uH CT _).mono ?_
   rintro e w2 ⟨rfl,hb⟩
   have HB2:=hide (yB (uH HB1) hb)
   have V2:=hide ((uH V1).below hb)
   have V3:=hide ((uH V2).al (.cells #[.int .i64 b,.int .i64 n,.string (bs q)] 54))
   clear hb
   have HB3:=hide (yA (uH HB2) (.cells #[.int .i64 b,.int .i64 n,.string (bs q)] 54))
   have U3:=hide (yD w2 #[.int .i64 b,.int .i64 n,.string (bs q)] 54)
   go_wp2_with fail
   refine (uH CP _).mono ?_
   rintro e w3 ⟨rfl,hb⟩
   have HB4:=hide (yB (uH HB3) hb)
   have V4:=hide ((uH V3).below hb)
   have U4:=hide ((uH U3).below hb)
   clear hb
   have v0:=(uH V4).at 0
   have v1:=(uH V4).at 1
   have v2:=(uH V4).at 2
   have f0:=(uH V4).f 0
   have f1:=(uH V4).f 1
   have f2:=(uH V4).f 2
   have u0:=(uH U4).at 0
   have u1:=(uH U4).at 1
   have u2:=(uH U4).at 2
   simp at v0 v1 v2 u0 u1 u2
   have s0:=sc_same v0
   have s1:=sc_same v1
   have s2:=sc_same v2
   go_wp2
   refine bodyPost_ret (v:=recAns none) (by simp [results,Tryz.results33,go_sem,recAns,bs_nil,v0,v1,v2]) rfl ⟨rfl,uH HB4⟩
def svN (s:ByteArray) (i:Nat):Nat→Nat
 | 0=>0
 | k+1=>svN s i k*256+(s.data.toList[i+k]?.getD 0).toNat
theorem svN_lt (s:ByteArray) (i:Nat):∀k,svN s i k<256 ^ k
 | 0=>by simp [svN]
 | k+1=>by
  have:=svN_lt s i k
  have hb:=(s.data.toList[i+k]?.getD 0).toNat_lt
  rw [svN,Nat.pow_succ]
  omega
theorem shl8_or (x b:Nat) (hx:x<16777216) (hb:b<256):bits .or .u32 ((x*256:Nat):Int) (b:Int)=((x*256+b:Nat):Int):=by
 have h:=u32_or_nat (x*256) b (by omega) (by omega)
 rw [h]
 congr 1
 rw [Nat.mul_comm x 256]
 exact (Nat.two_pow_add_eq_or_of_lt (i:=8) hb x).symm
theorem nextSum_any (g:Nat) (s:ByteArray) (i:Nat) (bg:Int) (w:World) (h:Rd w g s i bg) (hs:s.size≤1048576) (hi:i≤s.size) :
  Calls Tryz.prog 137 #[rdp g] w fun e w'=>Reads w g s bg (if i+4≤s.size then some (.int .u32 (svN s i 4:Int),((i+4:Nat):Int)) else none) e w':=by
 have CB:=hide (fun k wx (hr:Rd wx g s ((i+k:Nat):Int) bg) (hk:i+k≤s.size)=>nextByte_any g s (i+k) bg wx hr hs hk)
 have HR0:=hide h
 clear h
 go_enter Tryz.func137,Tryz.ntmps137
 go_wp2
 go_loopw [3,4] (fun x j wr=>∃k:Nat,k≤4∧i+k≤s.size∧j=.int .i64 k∧x=.int .u32 (svN s i k:Int)∧Hid (Rd wr g s ((i+k:Nat):Int) bg)∧Hid (w.grownBy wr (some g))) (fun _ j _=>4 - (intOf j).toNat)
 case atStart=>exact ⟨0,by omega,by omega,rfl,rfl,HR0,hide (grownBy_refl _ _)⟩
 case round=>
  obtain ⟨k,hk,hik,rfl,rfl,HR,HG⟩:=hrel
  by_cases hlt:k<4
  ·have C:=hide (uH CB k wr (uH HR) hik)
   by_cases hb:i+k<s.size
   ·have hx4:svN s i k<16777216:=by
     have h1:=svN_lt s i k
     have h2:256 ^ k≤256 ^ 3:=Nat.pow_le_pow_right (by decide) (by omega)
     omega
    have hv:s.data.toList[i+k]?.getD 0=s[i+k]:=by
     rw [List.getElem?_eq_getElem (by rw [len_eq];exact hb)];rfl
    have hst:svN s i (k+1)=svN s i k*256+s[i+k].toNat:=by rw [svN,hv]
    have C':=hide (by have:=uH C;rw [dif_pos hb] at this;exact this)
    have hby:=s[i+k].toNat_lt
    obtain ⟨b,hbe⟩:∃b,s[i+k].toNat=b:=⟨_,rfl⟩
    rw [hbe] at C' hst hby
    have HST:=hide hst
    obtain ⟨x,hx⟩:∃x,svN s i k=x:=⟨_,rfl⟩
    rw [hx] at hx4 HST ⊢
    have hor:bits .or .u32 ((x:Int)*256) (b:Int)=(x:Int)*256+(b:Int):=by have:=shl8_or x b hx4 hby;push_cast at this;exact this
    have hb2:(b:Int)≤255:=by omega
    have hw5:(x:Int)*256 % 4294967296=(x:Int)*256:=by omega
    clear hv hst hbe hx C hx4 hby
    go_wp2_with fail
    refine (uH C').mono ?_
    rintro e w1 ⟨hg,rfl,hr⟩
    have HG1:=hide (grownBy_trans (uH HG) hg)
    have e1:((i+(k+1):Nat):Int)=((i+k:Nat):Int)+1:=by omega
    have HR1:=hide (show Rd w1 g s ((i+(k+1):Nat):Int) bg by rw [e1];exact hr)
    clear e1
    clear hg hr
    go_wp2
    go_roundw
    case rel=>exact ⟨k+1,by omega,by omega,by go_num,by rw [uH HST];push_cast;rfl,HR1,HG1⟩
    case measure=>simp [intOf];omega
   ·have C':=hide (by have:=uH C;rw [dif_neg hb] at this;exact this)
    clear C
    go_wp2_with fail
    refine (uH C').mono ?_
    rintro e w1 ⟨hg,rfl,hr⟩
    have HG1:=hide (grownBy_trans (uH HG) hg)
    have HR1:=hide hr
    clear hg hr
    go_wp2
    try rw [if_neg (by omega)]
    exact ⟨rfl,uH HG1,rfl,uH HR1⟩
  ·have hk4:k=4:=by omega
   subst hk4
   go_wp2
   go_ret
   try rw [if_pos hik]
   exact ⟨uH HG,rfl,uH HR⟩
def idxK (p:Ask→Bool):List Ask→Nat→Int
 | [],_=>-1
 | q::t,k=>if p q=true then (k:Int) else idxK p t (k+1)
theorem idxK_step {p:Ask→Bool} {l:List Ask} {k:Nat} (h:k<l.length):idxK p (l.drop k) k=if p l[k]=true then (k:Int) else idxK p (l.drop (k+1)) (k+1):=by
 rw [List.drop_eq_getElem_cons h,idxK]
theorem idxK_end {p:Ask→Bool} {l:List Ask} {k:Nat} (h:l.length≤k):idxK p (l.drop k) k = -1:=by
 rw [List.drop_of_length_le h];rfl
theorem idxK_has (p:Ask→Bool):∀(l:List Ask) (k:Nat),decide (0≤idxK p l k)=l.any p
 | [],_=>by simp [idxK]
 | q::t,k=>by
  rw [idxK,List.any_cons]
  by_cases h:p q=true
  ·rw [if_pos h,h];simp
  ·rw [if_neg h,idxK_has p t (k+1)];simp [h]
theorem indexFuncK_any (g:Nat) (lb:Array Value) (eg:∀args w,(callFunc g args).run Tryz.prog w=.ok (.enter g args) w) (p:Ask→Bool) (ao:Option Addr) (len cap:Nat) (l:List Ask) (w:World) (h:AskRow w ao len l) (hl:len≤1048576)
  (hp:∀wx (q:Ask),q ∈ l→Below w.heap.size w wx→Calls Tryz.prog g (#[askv q]++lb) wx fun e w'=>e=.returned (.bool (p q))∧Below wx.heap.size wx w') :
  Calls Tryz.prog 238 #[.slice ao len cap,.func (.func g) #[] lb] w fun e w'=>e=.returned (.int .i64 (idxK p l 0))∧Below w.heap.size w w':=by
 have HR:=hide h
 have HL:=hide h.1
 have HP:=hide hp
 clear h hp
 go_enter Tryz.func238,Tryz.ntmps238
 go_wp2
 go_loopw [5,8] (fun _ i wr=>∃k:Nat,k≤len∧i=.int .i64 k∧Hid (idxK p l 0=idxK p (l.drop k) k)∧Hid (Below w.heap.size w wr)) (fun _ i _=>len - (intOf i).toNat)
 case atStart=>exact ⟨0,Nat.zero_le _,rfl,hide (by simp),hide (yH _ _)⟩
 case round=>
  obtain ⟨k,hk,rfl,hq,HB⟩:=hrel
  by_cases hlt:k<len
  ·obtain ⟨b,off,rfl,hx⟩:=((uH HR).below (uH HB)).at hlt
   have hkl:k<l.length:=by have:=uH HL;omega
   have hst:=hide (idxK_step (p:=p) (l:=l) (k:=k) hkl)
   obtain ⟨c0,c1,c2,c3,c4⟩:=hx hkl
   clear hx
   have HC:=hide (uH HP wr l[k] (yM _) (uH HB))
   obtain ⟨⟨y0,y1,y2,nd,y4⟩,hs⟩:∃s,l[k]=s:=⟨_,rfl⟩
   rw [hs] at c0 c1 c2 c3 c4 hst HC
   simp only at c0 c1 c2 c3 c4
   clear hs hkl HP
   cases hpq:p ⟨y0,y1,y2,nd,y4⟩ with
   | true=>
    rw [hpq] at HC
    have HQ:=hide hpq
    clear hpq
    go_wp2_with (go_at_fn g;refine (uH HC).mono ?_;rintro e w' ⟨rfl,hb⟩)
    go_ret
    exact ⟨ret_int (by rw [uH hq,uH hst,if_pos (uH HQ)]),yB (uH HB) hb⟩
   | false=>
    rw [hpq] at HC
    have HQ:=hide hpq
    clear hpq
    go_wp2_with (go_at_fn g;refine (uH HC).mono ?_;rintro e w' ⟨rfl,hb⟩)
    go_roundw
    case rel=>exact ⟨k+1,by omega,by go_num,hide (by rw [uH hq,uH hst,if_neg (by rw [uH HQ];simp)]),hide (yB (uH HB) hb)⟩
    case measure=>simp [intOf];omega
  ·go_wp2
   go_ret
   exact ⟨ret_int (by rw [uH hq,idxK_end (by have:=uH HL;omega)]),uH HB⟩
theorem containsFuncK_any (g:Nat) (lb:Array Value) (eg:∀args w,(callFunc g args).run Tryz.prog w=.ok (.enter g args) w) (p:Ask→Bool) (ao:Option Addr) (len cap:Nat) (l:List Ask) (w:World) (h:AskRow w ao len l) (hl:len≤1048576)
  (hp:∀wx (q:Ask),q ∈ l→Below w.heap.size w wx→Calls Tryz.prog g (#[askv q]++lb) wx fun e w'=>e=.returned (.bool (p q))∧Below wx.heap.size wx w') :
  Calls Tryz.prog 221 #[.slice ao len cap,.func (.func g) #[] lb] w fun e w'=>e=.returned (.bool (l.any p))∧Below w.heap.size w w':=by
 have C:=hide (indexFuncK_any g lb eg p ao len cap l w h hl hp)
 have HS:=hide (idxK_has p l 0)
 obtain ⟨i,hi⟩:∃i,idxK p l 0=i:=⟨_,rfl⟩
 obtain ⟨b,hb⟩:∃b,l.any p=b:=⟨_,rfl⟩
 rw [hi] at C HS
 rw [hb] at HS ⊢
 clear h hp hi hb
 go_enter Tryz.func221,Tryz.ntmps221
 go_wp2_with fail
 refine (uH C).mono ?_
 rintro e w1 ⟨rfl,hb⟩
 have HB:=hide hb
 clear hb
 by_cases h0:0≤i
 ·go_wp2
  go_ret
  exact ⟨yF (by first | exact uH HS | (rw [←uH HS];simp [h0])),uH HB⟩
 ·go_wp2
  go_ret
  exact ⟨yF (by first | exact uH HS | (rw [←uH HS];simp [h0])),uH HB⟩
theorem askNot_any (q:Ask) (w:World) (hn:q.node.length≤1048576) :
  Calls Tryz.prog 222 #[askv q] w fun e w'=>e=.returned (.bool (!askOk q))∧Below w.heap.size w w':=by
 have C:=hide (askOk_any q (w.alloc (.cells #[.int .i64 q.mem,.int .i64 q.cpu,.int .i64 q.count,.string (bs q.node),.int .i64 q.missed] 193)) hn)
 obtain ⟨o,ho⟩:∃o,askOk q=o:=⟨_,rfl⟩
 rw [ho] at C ⊢
 obtain ⟨y0,y1,y2,nd,y4⟩:=q
 clear ho
 go_enter Tryz.func222,Tryz.ntmps222
 go_wp2_with fail
 refine (uH C).mono ?_
 rintro e w1 ⟨rfl,hb⟩
 have HB:=hide (yB (yA (yH _ w) _) hb)
 clear hb C
 cases o
 ·go_wp2
  go_ret
  exact ⟨rfl,uH HB⟩
 ·go_wp2
  go_ret
  exact ⟨rfl,uH HB⟩
def asksOk (l:List Ask):Bool:=decide (l.length≤10)&&l.all askOk
theorem asksOk_any (id:Int) (qu:List UInt8) (ao:Option Addr) (len cap:Nat) (l:List Ask) (w:World) (h:AskRow w ao len l) (hl:len≤1048576) (hn:∀q ∈ l,q.node.length≤1048576) :
  Calls Tryz.prog 203 #[applv id qu ao len cap] w fun e w'=>e=.returned (.bool (asksOk l))∧Below w.heap.size w w':=by
 have hb0:=yA (yH _ w) (.cells #[.int .i64 id,.string (bs qu),.slice ao len cap] 139)
 have C:=hide (containsFuncK_any 222 #[] (enters_of Tryz.func222 (by kernel_rfl) rfl) (fun q=>!askOk q) ao len cap l _ (h.below hb0) hl (fun wx q hq _=>askNot_any q wx (hn q hq)))
 have HS:=hide (show asksOk l=(decide (len≤10)&&!(l.any fun q=>!askOk q)) by rw [asksOk,←h.1];congr 1;rw [List.not_any_eq_all_not];simp)
 obtain ⟨o,ho⟩:∃o,asksOk l=o:=⟨_,rfl⟩
 obtain ⟨b,hb⟩:∃o,(l.any fun q=>!askOk q)=o:=⟨_,rfl⟩
 rw [ho] at HS ⊢
 rw [hb] at HS C
 have HB0:=hide hb0
 clear ho hb h hn hb0
 by_cases h10:len≤10
 ·have hi:(len:Int)≤10:=by omega
  rw [decide_eq_true h10] at HS
  clear h10
  go_enter Tryz.func203,Tryz.ntmps203
  go_wp2_with fail
  refine (uH C).mono ?_
  rintro e w1 ⟨rfl,hb⟩
  have HB:=hide (yB (uH HB0) hb)
  clear hb C HB0
  go_wp2
  go_ret
  exact ⟨yF (by rw [uH HS];simp),uH HB⟩
 ·have hi:¬(len:Int)≤10:=by omega
  rw [decide_eq_false h10] at HS
  clear h10 C
  go_enter Tryz.func203,Tryz.ntmps203
  go_wp2
  go_ret
  exact ⟨yF (by rw [uH HS];simp),uH HB0⟩
def numsOk (s:St):Bool:=inB s.clock 0 1000000000&&(inB s.epoch 1 1000000000&&(inB s.next 1 1000000000&&inB s.serial 1 1000000000))
theorem numbersOk_any (x:Sls) (s:St) (w:World) :
  Calls Tryz.prog 186 #[sv x s] w fun e w'=>e=.returned (.bool (numsOk s))∧Below w.heap.size w w':=by
 obtain ⟨qa,ql,qc,aa,al,ac,ma,ml,mc,ca,cl,cc⟩:=x
 obtain ⟨qs,clock,epoch,next,serial,apps,ms,cs⟩:=s
 have HB0:=hide (yA (yH _ w) (.cells (svc ⟨qa,ql,qc,aa,al,ac,ma,ml,mc,ca,cl,cc⟩ ⟨qs,clock,epoch,next,serial,apps,ms,cs⟩) 37))
 simp only [numsOk]
 obtain ⟨b0,h0⟩:∃b,inB clock 0 1000000000=b:=⟨_,rfl⟩
 obtain ⟨b1,h1⟩:∃b,inB epoch 1 1000000000=b:=⟨_,rfl⟩
 obtain ⟨b2,h2⟩:∃b,inB next 1 1000000000=b:=⟨_,rfl⟩
 obtain ⟨b3,h3⟩:∃b,inB serial 1 1000000000=b:=⟨_,rfl⟩
 have C0:=hide (fun wx=>by have:=numberOk_any clock wx;rw [h0] at this;exact this)
 have C1:=hide (fun wx=>by have:=countOk_any epoch wx;rw [h1] at this;exact this)
 have C2:=hide (fun wx=>by have:=countOk_any next wx;rw [h2] at this;exact this)
 have C3:=hide (fun wx=>by have:=countOk_any serial wx;rw [h3] at this;exact this)
 rw [h0,h1,h2,h3]
 clear h0 h1 h2 h3
 go_enter Tryz.func186,Tryz.ntmps186
 go_wp2_with fail
 refine (uH C0 _).mono ?_
 rintro e w1 ⟨rfl,rfl⟩
 cases b0 with
 | false=>
  go_wp2
  go_ret
  exact ⟨rfl,uH HB0⟩
 | true=>
 go_wp2_with fail
 refine (uH C1 _).mono ?_
 rintro e w1 ⟨rfl,rfl⟩
 cases b1 with
 | false=>
  go_wp2
  go_ret
  exact ⟨rfl,uH HB0⟩
 | true=>
 go_wp2_with fail
 refine (uH C2 _).mono ?_
 rintro e w1 ⟨rfl,rfl⟩
 cases b2 with
 | false=>
  go_wp2
  go_ret
  exact ⟨rfl,uH HB0⟩
 | true=>
 go_wp2_with fail
 refine (uH C3 _).mono ?_
 rintro e w1 ⟨rfl,rfl⟩
 go_wp2
 go_ret
 exact ⟨yF (by simp),uH HB0⟩
end
section
open Go.RowKit Go.Shelf Go.Maps
attribute [local go_sem] Oper.semAt_some
def mapW (w:World) (c:Array Value):World:=((w.alloc (.cells c 37)).alloc (.map #[] 0)).alloc (.cells #[.map (some (w.heap.size+1))] 255)
theorem mapW_size (w:World) (c:Array Value):(mapW w c).heap.size=w.heap.size+1+1+1:=by simp only [mapW,yE]
theorem mapW_below (w:World) (c:Array Value):Below w.heap.size w (mapW w c):=yA (yA (yA (yH _ w) _) _) _
theorem mapW_own (w:World) (c:Array Value):(mapW w c).ownsMap Tryz.prog 259 macElem (w.heap.size+1) 0 (.map []):=by
 have:=(World.ownsMap_made (w.alloc (.cells c 37)) Tryz.prog 259 macElem).alloc (.cells #[.map (some (w.heap.size+1))] 255)
 rw [yE] at this
 exact this
theorem mapW_var (w:World) (c:Array Value):Blk (mapW w c) (w.heap.size+1+1) #[.map (some (w.heap.size+1))] 255:=by
 have:=yD ((w.alloc (.cells c 37)).alloc (.map #[] 0)) #[.map (some (w.heap.size+1))] 255
 rw [yE,yE] at this
 exact this
def MapInv (w:World) (l:List Mac) (W:World):Prop:=(∃D,W.ownsMap Tryz.prog 259 macElem (w.heap.size+1) l.length D∧KnownM l D)∧Blk W (w.heap.size+1+1) #[.map (some (w.heap.size+1))] 255
theorem MapInv.grown {w W W':World} {l:List Mac} {row:Option Nat} (h:MapInv w l W) (hg:W.grownBy W' row) (hr:∀r,row=some r→w.heap.size+1+1<r):MapInv w l W':=by
 obtain ⟨⟨D,h1,h2⟩,h3⟩:=h
 exact ⟨⟨D,h1.kept hg (fun e=>by have:=hr _ e.symm;omega),h2⟩,(hg.block _ h3.lt (fun e=>by have:=hr _ e.symm;omega)).trans h3⟩
theorem MapInv.below {w W W':World} {l:List Mac} (h:MapInv w l W) (hb:Below W.heap.size W W'):MapInv w l W':=h.grown (grownBy_below (grownBy_refl W none) hb) (fun r e=>by cases e)
theorem machines_any (x:Sls) (s:St) (w:World) (h:MacRow w x.ma x.ml s.ms) (hl:x.ml≤1048576) (hn:∀m ∈ s.ms,m.name.length≤1048576) :
  Calls Tryz.prog 206 #[sv x s] w fun e w'=>e=.returned (.map (some (w.heap.size+1)))∧MapInv w s.ms w'∧Below w.heap.size w w':=by
 obtain ⟨qa,ql,qc,aa,al,ac,ma,ml,mc,ca,cl,cc⟩:=x
 obtain ⟨qs,clock,epoch,next,serial,apps,ms,cs⟩:=s
 simp only at h hl hn ⊢
 have HR:=hide h
 have HL:=hide h.1
 have HN:=hide hn
 have hmx:Tryz.prog.follows .mixedOrders=true:=by kernel_rfl
 have hmm:=fun (t:TypeId) (wx:World)=>run_makeMap (P:=Tryz.prog) t wx
 clear h hn
 refine (callsIn_wide (n:=3)).1 ?_
 refine callsIn_of_wp_marks Tryz.func206 rfl trivial ?_ rfl
 simp only [Tryz.ntmps206,List.size_toArray,List.length_cons,List.length_nil,Nat.reduceAdd,Nat.reduceSub,Array.replicate_succ,Array.replicate_zero,List.push_toArray,List.append_toArray,List.nil_append,List.cons_append]
 gi_wp2_with fail
 first | refine ⟨trivial,?_⟩ | skip
 first | refine ⟨(by intro e;cases e),?_⟩ | skip
 refine (callsIn_wide.2 (backM_any (.slice ma ml mc) _ rfl)).mono ?_
 rintro e w4 ⟨rfl,rfl⟩
 gi_wp2
 have hsz0:=yE (mapW w (svc ⟨qa,ql,qc,aa,al,ac,ma,ml,mc,ca,cl,cc⟩ ⟨qs,clock,epoch,next,serial,apps,ms,cs⟩)) (.cells #[.slice ma ml mc] 34)
 rw [mapW_size] at hsz0
 have hB0:=yA (mapW_below w (svc ⟨qa,ql,qc,aa,al,ac,ma,ml,mc,ca,cl,cc⟩ ⟨qs,clock,epoch,next,serial,apps,ms,cs⟩)) (.cells #[.slice ma ml mc] 34)
 have hI0:=MapInv.below (w:=w) (l:=[]) ⟨⟨_,mapW_own w (svc ⟨qa,ql,qc,aa,al,ac,ma,ml,mc,ca,cl,cc⟩ ⟨qs,clock,epoch,next,serial,apps,ms,cs⟩),knownM_empty⟩,mapW_var w _⟩ (yA (yH _ _) (.cells #[.slice ma ml mc] 34))
 have hBs:=(yD (mapW w (svc ⟨qa,ql,qc,aa,al,ac,ma,ml,mc,ca,cl,cc⟩ ⟨qs,clock,epoch,next,serial,apps,ms,cs⟩)) #[.slice ma ml mc] 34).at 0
 rw [mapW_size] at hBs
 obtain ⟨W0,hW0⟩:∃W0,(mapW w (svc ⟨qa,ql,qc,aa,al,ac,ma,ml,mc,ca,cl,cc⟩ ⟨qs,clock,epoch,next,serial,apps,ms,cs⟩)).alloc (.cells #[.slice ma ml mc] 34)=W0:=⟨_,rfl⟩
 rw [hW0] at hsz0 hB0 hI0 hBs
 have HC:=hide (backM_stops (3 - 1) (w.heap.size+1+1+1) ml mc ma ms W0 hBs ((uH HR).below hB0) hl (uH HN))
 show Code.wpIn _ _ _ _ _ _ ((mapW w (svc ⟨qa,ql,qc,aa,al,ac,ma,ml,mc,ca,cl,cc⟩ ⟨qs,clock,epoch,next,serial,apps,ms,cs⟩)).alloc (.cells #[.slice ma ml mc] 34))
 rw [hW0]
 clear hW0 hBs
 refine wpIn_rangeFunc_ownH rfl (by omega) (gf:=241) (lb:=#[.pointer (some ⟨w.heap.size+1+1+1,0,none⟩)]) rfl trivial (enters_of Tryz.func241 (by kernel_rfl) rfl)
  (uH HC) kpa_t kpa_b (yH _ _) (fun _=>rfl)
  (fun pre W=>MapInv w ((pre.map (fun x:Int×NMac=>x.2.1)).reverse) W∧Below w.heap.size w W)
  (fun _ _ _=>False)
  (OwnFrom.and (fun s X Y row hs hg hr=>MapInv.grown hs hg (fun r e=>by have:=(hr r e).1;omega)) (ownFrom_below (yJ _) (by omega)))
  (fun _ _ _ _ _ hs _ _=>hs)
  ⟨hI0,hB0⟩
  (fun x a' W=>∃Bx,w.heap.size+1+1<Bx∧Blk W Bx #[.string (bs x.2.1.name),.int .i64 x.2.1.mem,.int .i64 x.2.1.cpu,.int .i64 x.2.1.seen] 147∧a' = { tmps:=#[sv ⟨qa,ql,qc,aa,al,ac,ma,ml,mc,ca,cl,cc⟩ ⟨qs,clock,epoch,next,serial,apps,ms,cs⟩,.pointer (some ⟨w.heap.size,0,none⟩),.map none,.pointer (some ⟨w.heap.size+1+1,0,none⟩),undef,.pointer (some ⟨Bx,0,none⟩),.map (some (w.heap.size+1)),.pointer (some ⟨w.heap.size,6,none⟩),.slice ma ml mc,.func (.func 241) #[] #[.pointer (some ⟨w.heap.size+1+1+1,0,none⟩)],.int .i64 x.1,macv x.2.1,undef,undef,undef,undef,undef],defers:=[] })
  (fun x a' _ X Y row hs hg hr=>by
   obtain ⟨Bx,h1,h2,h3⟩:=hs
   refine ⟨Bx,h1,(hg.block Bx h2.lt (fun e=>?_)).trans h2,h3⟩
   obtain ⟨_,o,ho,hc⟩:=hr Bx e.symm
   rw [show X.heap[Bx]? = _ from h2] at ho
   cases ho
   cases hc)
  ?assign ?body ?done ?stop
 case assign=>
  rintro lp pre ⟨i,⟨⟨nm,me,cp,se⟩,hnm⟩⟩ W K ⟨hI,hB⟩ hK
  have hlt:=hI.2.lt
  gi_wp2
  exact hK _ _ ((KeepsOthers.alloc _ _).from _) (kpa_below (yA (yH _ W) _)) ⟨hI.below (yA (yH _ W) _),yA hB _⟩ ⟨W.heap.size,hlt,yD W _ _,rfl⟩
 case body=>
  rintro lp pre ⟨i,⟨⟨nm,me,cp,se⟩,hnm⟩⟩ a' W hlp _ ⟨hI,hB⟩ ⟨Bx,hBx,hX,rfl⟩ hlt
  have HI:=hide hI
  have HX:=hide hX
  have HB:=hide hB
  have x0:=hX.at 0
  have x1:=hX.at 1
  have x2:=hX.at 2
  have x3:=hX.at 3
  have v0:=hI.2.at 0
  simp at x0 x1 x2 x3 v0
  have hpl:pre.length<1048576:=by have:=uH HL;omega
  clear hI hX hB
  have hnm':nm.length≤1048576:=hnm
  obtain ⟨kl,hkey⟩:=keyKey (nm:=nm) (k:=0) (by omega) (by decide)
  have HKEY:=hide hkey
  clear hkey
  gi_wp2_with fail
  gi_region_with_o (first | (first | refine ⟨trivial,?_⟩ | skip);(first | refine ⟨(by intro e;cases e),?_⟩ | skip);refine (CallsIn.inRound lp (callsIn_wide.2 (macKey_any ⟨nm,me,cp,se⟩ _))).mono ?_;rintro e wc ⟨rfl,hbc⟩;have HW3:=hide (yB (yH _ W).drew hbc);have y0:=((uH HX).below (uH HW3)).at 0;have y1:=((uH HX).below (uH HW3)).at 1;have y2:=((uH HX).below (uH HW3)).at 2;have y3:=((uH HX).below (uH HW3)).at 3;have u0:=((uH HI).below (uH HW3)).2.at 0;simp at y0 y1 y2 y3 u0;obtain ⟨D,hown,hk⟩:=((uH HI).below (uH HW3)).1;obtain ⟨w4,hrun,hown2,hgrow2⟩:=hown.update keyLaw Tryz.underlying255 (by unfold maxLen;simp;omega) (uH HKEY) (macElem_mk ⟨nm,me,cp,se⟩);have HFIN:=hide (And.intro hown2 (And.intro hgrow2 (KnownM.put (m:=⟨nm,me,cp,se⟩) hk hown.isMap (uH HKEY))));clear hown2 hgrow2 hk hown hbc)
  all_goals gi_wp2
  all_goals
   obtain ⟨f1,f2,f3⟩:=uH HFIN
   have hbelow:=(uH HW3)
   have hv4:=(f2.block _ ((uH HI).below hbelow).2.lt (by simp)).trans ((uH HI).below hbelow).2
   have hmi:MapInv w (⟨nm,me,cp,se⟩::(pre.map (fun x:Int×NMac=>x.2.1)).reverse) w4:=⟨⟨_,f1,f3⟩,hv4⟩
   refine ⟨((keepsO_below hbelow).from _).trans (KeepsFrom.of_grownBy f2 (fun j e=>by cases e;omega)),kpa_t (kpa_below hbelow) (fun k o ho hc=>(f2.block k (lt_of_block ho) (fun e=>?_)).trans ho),by simpa using hmi,?_⟩
   ·obtain ⟨D',hD',_⟩:=((uH HI).below hbelow).1
    obtain ⟨es,ck,hm',_⟩:=hD'
    obtain rfl:k=w.heap.size+1:=by simpa using e
    rw [hm'] at ho
    cases ho
    cases hc
   ·exact ((uH HB).trans (hbelow.mono (uH HB).size)).grown f2 (by have:=(uH HB).size;have:=hbelow.size;omega) (fun k e=>by cases e;omega)
 case done=>
  rintro D ys W hD hys ⟨hI,hB⟩ hK
  rw [uH hys,List.reverse_reverse] at hI
  have v0:=hI.2.at 0
  simp at v0
  have HI:=hide hI
  have HB:=hide hB
  clear hI hB
  gi_wp2
  refine ⟨by simp,.inl ⟨_,_,rfl,run_takeDeferred hK,?_⟩⟩
  exact ⟨_,results_tmp rfl _ _ _,rfl,(uH HI).grown (grownBy_putObj' W D _) (fun r e=>by cases e;omega),(uH HB).trans (belowK_b (w:=w) (yJ _) W D _ _ (by omega) hK rfl rfl)⟩
 case stop=>
  rintro D c pre W _ _ h _
  exact h.elim
theorem machines_ex (x:Sls) (s:St) (w:World) (h:MacRow w x.ma x.ml s.ms) (hl:x.ml≤1048576) (hn:∀m ∈ s.ms,m.name.length≤1048576) :
  Calls Tryz.prog 206 #[sv x s] w fun e w'=>∃bm,e=.returned (.map (some bm))∧(w.heap.size≤bm∧∃D,w'.ownsMap Tryz.prog 259 macElem bm s.ms.length D∧KnownM s.ms D)∧Below w.heap.size w w':=
 (machines_any x s w h hl hn).mono fun e w' ⟨h1,h2,h3⟩=>⟨_,h1,⟨by omega,h2.1⟩,h3⟩
end
section
open Go.RowKit Go.Shelf
attribute [local go_sem] Oper.semAt_some
abbrev NAV:={ m:AV // (Lit.int .i64 m.id).wf=true }
theorem AVRow.kpa {W W':World} {ao:Option Addr} {len:Nat} {l:List AV} (h:AVRow W ao len l) (k:KpA W W'):AVRow W' ao len l:=by
 obtain ⟨h1,h2⟩:=h
 refine ⟨h1,?_⟩
 rcases h2 with h2 | ⟨b,off,h3,h4⟩
 ·exact .inl h2
 ·exact .inr ⟨b,off,h3,fun i hi=>let ⟨a,b,c⟩:=h4 i hi;⟨k.cell a,k.cell b,k.cell c⟩⟩
theorem backA_some (n l Bs len cap:Nat) (ao:Option Addr) (ms:List AV) (J Jx:List (Int×NAV)→World→Prop)
  (hY:∀pre x W1,J pre W1→pre.length<ms.length→YieldAt Fence.wide (n - 1) Tryz.prog l #[.int .i64 x.1,avv x.2.1] W1 fun e W'=>
   (e=.returned (.bool true)∧J (pre++[x]) W'∧KpA W1 W')∨(e=.returned (.bool false)∧Jx (pre++[x]) W'))
  (W:World) (hBs:W.cell? ⟨Bs,0,none⟩=some (.slice ao len cap)) (hg:AVRow W ao len ms) (hl:len≤1048576) (hN:∀m ∈ ms,(Lit.int .i64 m.id).wf=true) (h0:J [] W) :
  CallsIn Fence.wide n Tryz.prog 240 #[.func (.yield l) #[] #[],.pointer (some ⟨Bs,0,none⟩)] W fun e W'=>(∃v,e=.returned v)∧
   ((∃ys:List (Int×NAV),Hid (ys.map (fun x:Int×NAV=>x.2.1)=ms.reverse)∧J ys W')∨(∃pre,Jx pre W')):=by
 have HY:=hide hY
 have HBs:=hide hBs
 have HG:=hide hg
 have HLEN:=hide hg.1
 have H0:=hide h0
 have HNN:=hide hN
 clear hY hg h0 hN
 refine callsIn_of_wp Tryz.func240 rfl trivial ?_ rfl
 simp only [Tryz.ntmps240,List.size_toArray,List.length_cons,List.length_nil,Nat.reduceAdd,Nat.reduceSub,Array.replicate_succ,Array.replicate_zero,List.push_toArray,List.append_toArray,List.nil_append,List.cons_append]
 gi_wp2
 clear hBs
 gi_loopw [3] (fun i wr=>∃(k:Nat) (pre:List (Int×NAV)),k≤len∧i=.int .i64 ((k:Int) - 1)∧Hid (pre.length+k=ms.length)∧Hid (pre.map (fun x:Int×NAV=>x.2.1)=(ms.drop k).reverse)∧Hid (J pre wr)∧Hid (wr.cell? ⟨Bs,0,none⟩=some (.slice ao len cap))∧Hid (AVRow wr ao len ms)) (fun i _=>(intOf i+1).toNat)
 case atStart=>exact ⟨len,[],yJ _,by go_num,hide (by have:=uH HLEN;simp;omega),hide (by rw [List.drop_of_length_le (by have:=uH HLEN;omega)];rfl),H0,HBs,HG⟩
 case round=>
  obtain ⟨k,pre,hk,rfl,HL,HM,HJ,HB,HGr⟩:=hrel
  cases k with
  | zero=>
   gi_wp2
   go_end0
   exact ⟨⟨_,rfl⟩,.inl ⟨pre,hide (by rw [uH HM];rfl),uH HJ⟩⟩
  | succ j=>
   have hj:j<len:=by omega
   obtain ⟨b,off,rfl,hq⟩:=(uH HGr).at hj
   have hjm:j<ms.length:=by have:=uH HLEN;omega
   obtain ⟨c0,c1,c2⟩:=hq hjm
   have hbox:=uH HB
   have hel:=uH HNN ms[j] (yM _)
   obtain ⟨fn,tmps,assign,body,hy,hR⟩:=uH HY pre ((j:Int),⟨ms[j],hel⟩) wr (uH HJ) (by have:=uH HL;omega)
   have HRR:=hide hR
   have HM2:=hide (show (pre++[((j:Int),(⟨ms[j],hel⟩:NAV))]).map (fun x:Int×NAV=>x.2.1)=(ms.drop j).reverse by rw [List.map_append,uH HM,List.drop_eq_getElem_cons hjm,List.reverse_cons];rfl)
   have hij:((j+1:Nat):Int) - 1=(j:Int):=by omega
   obtain ⟨y,hyy⟩:∃y:NAV,(⟨ms[j],hel⟩:NAV)=y:=⟨_,rfl⟩
   have hy1:ms[j]=y.1:=by rw [←hyy]
   rw [hyy] at hy HRR HM2
   rw [hy1] at c0 c1 c2
   obtain ⟨⟨id,qu,zo,zl,zc⟩,hyn⟩:=y
   simp only at hy c0 c1 c2
   rw [hij]
   have j0:(0:Int)≤j:=by omega
   have j1:(j:Int)<len:=by omega
   clear hR hyy hy1 hij HM hq hjm hel
   gi_wp2
   refine ⟨(by intro e;cases e),?_⟩
   refine (uH HRR).mono ?_
   rintro e W3 (⟨rfl,hJ3,hk3⟩ | ⟨rfl,hJx3⟩)
   ·have HB3:=hide (hk3.cell (uH HB))
    have HG3:=hide ((uH HGr).kpa hk3)
    have HJ3:=hide hJ3
    clear hk3 hJ3 hbox hy HRR c0 c1 c2
    gi_wp2
    go_roundw
    case rel=>exact ⟨j,pre++[((j:Int),⟨⟨id,qu,zo,zl,zc⟩,hyn⟩)],by omega,by go_num,hide (by have:=uH HL;simp;omega),HM2,HJ3,HB3,HG3⟩
    case measure=>simp [intOf]
   ·gi_wp2
    refine bodyPost_ret (results_none rfl _ _ _) rfl ?_
    exact ⟨⟨_,rfl⟩,.inr ⟨_,hJx3⟩⟩
theorem backA_stops (n Bs len cap:Nat) (ao:Option Addr) (ms:List AV) (w:World) (hBs:w.cell? ⟨Bs,0,none⟩=some (.slice ao len cap)) (hrow:AVRow w ao len ms) (hl:len≤1048576) (hN:∀m ∈ ms,(Lit.int .i64 m.id).wf=true) :
  SeqStopsK Fence.wide n Tryz.prog 240 #[.pointer (some ⟨Bs,0,none⟩)] (fun x:Int×NAV=>#[.int .i64 x.1,avv x.2.1]) KpA (fun ys=>Hid (ys.map (fun x:Int×NAV=>x.2.1)=ms.reverse)) (fun _=>True) ms.length w:=by
 intro l J Jx W hW hJ hJx hY h0
 refine (backA_some n l Bs len cap ao ms J Jx hY W ((hW.cell (yG hBs)).trans hBs) (hrow.below hW) hl hN h0).mono ?_
 rintro e W' ⟨he,⟨ys,h1,h2⟩ | ⟨pre,h2⟩⟩
 ·exact ⟨he,.inl ⟨ys,h1,h2⟩⟩
 ·exact ⟨he,.inr ⟨pre,trivial,h2⟩⟩
theorem backA_any (v:Value) (w:World) (hv:v.oneCell'=true) :
  Calls Tryz.prog 225 #[v] w fun e w'=>e=.returned (.func (.func 240) #[] #[.pointer (some ⟨w.heap.size,0,none⟩)])∧w.alloc (.cells #[v] 33)=w':=by
 have hmf:∀(fn:Fn) (first cap:Array Value) (w:World),(Instr.makeFunc fn first cap).run Tryz.prog w=.ok (.func fn first cap) w:=fun _ _ _ _=>rfl
 go_enter Tryz.func225,Tryz.ntmps225
 go_wp2
 go_ret
 exact ⟨rfl,rfl⟩
theorem appKey_any (m:AV) (w:World) :
  Calls Tryz.prog 226 #[avv m] w fun e w'=>e=.returned (.agg #[.string (bs []),.int .i64 m.id])∧Below w.heap.size w w':=by
 obtain ⟨id,qu,zo,zl,zc⟩:=m
 go_enter Tryz.func226,Tryz.ntmps226
 go_wp2
 refine bodyPost_ret (v:=.agg #[.string (bs []),.int .i64 id]) (by simp [results,Tryz.results226,go_sem];rfl) rfl ⟨rfl,?_⟩
 repeat (first | exact yH _ _ | refine yA ?_ _ | refine Below.drew ?_ | refine yC ?_ _ _ _ (by omega))
end
section
open Go.RowKit Go.Shelf Go.Maps
attribute [local go_sem] Oper.semAt_some
def apmW (w:World) (c:Array Value):World:=((w.alloc (.cells c 37)).alloc (.map #[] 0)).alloc (.cells #[.map (some (w.heap.size+1))] 252)
theorem apmW_size (w:World) (c:Array Value):(apmW w c).heap.size=w.heap.size+1+1+1:=by simp only [apmW,yE]
theorem apmW_below (w:World) (c:Array Value):Below w.heap.size w (apmW w c):=yA (yA (yA (yH _ w) _) _) _
theorem apmW_own (w:World) (c:Array Value):(apmW w c).ownsMap Tryz.prog 259 appElem (w.heap.size+1) 0 (.map []):=by
 have:=(World.ownsMap_made (w.alloc (.cells c 37)) Tryz.prog 259 appElem).alloc (.cells #[.map (some (w.heap.size+1))] 252)
 rw [yE] at this
 exact this
theorem apmW_var (w:World) (c:Array Value):Blk (apmW w c) (w.heap.size+1+1) #[.map (some (w.heap.size+1))] 252:=by
 have:=yD ((w.alloc (.cells c 37)).alloc (.map #[] 0)) #[.map (some (w.heap.size+1))] 252
 rw [yE,yE] at this
 exact this
def ApmInv (w:World) (l:List AV) (W:World):Prop:=(∃D,W.ownsMap Tryz.prog 259 appElem (w.heap.size+1) l.length D∧KnownA l allA D)∧Blk W (w.heap.size+1+1) #[.map (some (w.heap.size+1))] 252
theorem ApmInv.grown {w W W':World} {l:List AV} {row:Option Nat} (h:ApmInv w l W) (hg:W.grownBy W' row) (hr:∀r,row=some r→w.heap.size+1+1<r):ApmInv w l W':=by
 obtain ⟨⟨D,h1,h2⟩,h3⟩:=h
 exact ⟨⟨D,h1.kept hg (fun e=>by have:=hr _ e.symm;omega),h2⟩,(hg.block _ h3.lt (fun e=>by have:=hr _ e.symm;omega)).trans h3⟩
theorem ApmInv.below {w W W':World} {l:List AV} (h:ApmInv w l W) (hb:Below W.heap.size W W'):ApmInv w l W':=h.grown (grownBy_below (grownBy_refl W none) hb) (fun r e=>by cases e)
theorem apps_any (x:Sls) (s:St) (hs:List AV) (w:World) (h:AVRow w x.aa x.al hs) (hl:x.al≤1048576) (hn:∀m ∈ hs,(Lit.int .i64 m.id).wf=true) :
  Calls Tryz.prog 205 #[sv x s] w fun e w'=>e=.returned (.map (some (w.heap.size+1)))∧ApmInv w hs w'∧Below w.heap.size w w':=by
 obtain ⟨qa,ql,qc,aa,al,ac,ma,ml,mc,ca,cl,cc⟩:=x
 obtain ⟨qs,clock,epoch,next,serial,apps,ms,cs⟩:=s
 simp only at h hl
 have HR:=hide h
 have HL:=hide h.1
 have HN:=hide hn
 have hmx:Tryz.prog.follows .mixedOrders=true:=by kernel_rfl
 have hmm:=fun (t:TypeId) (wx:World)=>run_makeMap (P:=Tryz.prog) t wx
 clear h hn
 refine (callsIn_wide (n:=3)).1 ?_
 refine callsIn_of_wp_marks Tryz.func205 rfl trivial ?_ rfl
 simp only [Tryz.ntmps205,List.size_toArray,List.length_cons,List.length_nil,Nat.reduceAdd,Nat.reduceSub,Array.replicate_succ,Array.replicate_zero,List.push_toArray,List.append_toArray,List.nil_append,List.cons_append]
 gi_wp2_with fail
 first | refine ⟨trivial,?_⟩ | skip
 first | refine ⟨(by intro e;cases e),?_⟩ | skip
 refine (callsIn_wide.2 (backA_any (.slice aa al ac) _ rfl)).mono ?_
 rintro e w4 ⟨rfl,rfl⟩
 gi_wp2
 have hsz0:=yE (apmW w (svc ⟨qa,ql,qc,aa,al,ac,ma,ml,mc,ca,cl,cc⟩ ⟨qs,clock,epoch,next,serial,apps,ms,cs⟩)) (.cells #[.slice aa al ac] 33)
 rw [apmW_size] at hsz0
 have hB0:=yA (apmW_below w (svc ⟨qa,ql,qc,aa,al,ac,ma,ml,mc,ca,cl,cc⟩ ⟨qs,clock,epoch,next,serial,apps,ms,cs⟩)) (.cells #[.slice aa al ac] 33)
 have hI0:=ApmInv.below (w:=w) (l:=[]) ⟨⟨_,apmW_own w (svc ⟨qa,ql,qc,aa,al,ac,ma,ml,mc,ca,cl,cc⟩ ⟨qs,clock,epoch,next,serial,apps,ms,cs⟩),knownA_empty⟩,apmW_var w _⟩ (yA (yH _ _) (.cells #[.slice aa al ac] 33))
 have hBs:=(yD (apmW w (svc ⟨qa,ql,qc,aa,al,ac,ma,ml,mc,ca,cl,cc⟩ ⟨qs,clock,epoch,next,serial,apps,ms,cs⟩)) #[.slice aa al ac] 33).at 0
 rw [apmW_size] at hBs
 obtain ⟨W0,hW0⟩:∃W0,(apmW w (svc ⟨qa,ql,qc,aa,al,ac,ma,ml,mc,ca,cl,cc⟩ ⟨qs,clock,epoch,next,serial,apps,ms,cs⟩)).alloc (.cells #[.slice aa al ac] 33)=W0:=⟨_,rfl⟩
 rw [hW0] at hsz0 hB0 hI0 hBs
 have HC:=hide (backA_stops (3 - 1) (w.heap.size+1+1+1) al ac aa hs W0 hBs ((uH HR).below hB0) hl (uH HN))
 show Code.wpIn _ _ _ _ _ _ ((apmW w (svc ⟨qa,ql,qc,aa,al,ac,ma,ml,mc,ca,cl,cc⟩ ⟨qs,clock,epoch,next,serial,apps,ms,cs⟩)).alloc (.cells #[.slice aa al ac] 33))
 rw [hW0]
 clear hW0 hBs
 refine wpIn_rangeFunc_ownH rfl (by omega) (gf:=240) (lb:=#[.pointer (some ⟨w.heap.size+1+1+1,0,none⟩)]) rfl trivial (enters_of Tryz.func240 (by kernel_rfl) rfl)
  (uH HC) kpa_t kpa_b (yH _ _) (fun _=>rfl)
  (fun pre W=>ApmInv w ((pre.map (fun x:Int×NAV=>x.2.1)).reverse) W∧Below w.heap.size w W)
  (fun _ _ _=>False)
  (OwnFrom.and (fun s X Y row hs hg hr=>ApmInv.grown hs hg (fun r e=>by have:=(hr r e).1;omega)) (ownFrom_below (yJ _) (by omega)))
  (fun _ _ _ _ _ hs _ _=>hs)
  ⟨hI0,hB0⟩
  (fun x a' W=>∃Bx,w.heap.size+1+1<Bx∧Blk W Bx #[.int .i64 x.2.1.id,.string (bs x.2.1.queue),.slice x.2.1.ao x.2.1.len x.2.1.cap] 139∧a' = { tmps:=#[sv ⟨qa,ql,qc,aa,al,ac,ma,ml,mc,ca,cl,cc⟩ ⟨qs,clock,epoch,next,serial,apps,ms,cs⟩,.pointer (some ⟨w.heap.size,0,none⟩),.map none,.pointer (some ⟨w.heap.size+1+1,0,none⟩),undef,.pointer (some ⟨Bx,0,none⟩),.map (some (w.heap.size+1)),.pointer (some ⟨w.heap.size,5,none⟩),.slice aa al ac,.func (.func 240) #[] #[.pointer (some ⟨w.heap.size+1+1+1,0,none⟩)],.int .i64 x.1,avv x.2.1,undef,undef,undef,undef,undef],defers:=[] })
  (fun x a' _ X Y row hs hg hr=>by
   obtain ⟨Bx,h1,h2,h3⟩:=hs
   refine ⟨Bx,h1,(hg.block Bx h2.lt (fun e=>?_)).trans h2,h3⟩
   obtain ⟨_,o,ho,hc⟩:=hr Bx e.symm
   rw [show X.heap[Bx]? = _ from h2] at ho
   cases ho
   cases hc)
  ?assign ?body ?done ?stop
 case assign=>
  rintro lp pre ⟨i,⟨⟨id,qu,zo,zl,zc⟩,hnm⟩⟩ W K ⟨hI,hB⟩ hK
  have hlt:=hI.2.lt
  gi_wp2
  exact hK _ _ ((KeepsOthers.alloc _ _).from _) (kpa_below (yA (yH _ W) _)) ⟨hI.below (yA (yH _ W) _),yA hB _⟩ ⟨W.heap.size,hlt,yD W _ _,rfl⟩
 case body=>
  rintro lp pre ⟨i,⟨⟨id,qu,zo,zl,zc⟩,hnm⟩⟩ a' W hlp _ ⟨hI,hB⟩ ⟨Bx,hBx,hX,rfl⟩ hlt
  have HI:=hide hI
  have HX:=hide hX
  have HB:=hide hB
  have x0:=hX.at 0
  have x1:=hX.at 1
  have x2:=hX.at 2
  have v0:=hI.2.at 0
  simp at x0 x1 x2 v0
  have hpl:pre.length<1048576:=by have:=uH HL;omega
  clear hI hX hB
  obtain ⟨kl,hkey⟩:=keyKey (nm:=[]) (k:=id) (by decide) hnm
  have HKEY:=hide hkey
  clear hkey
  gi_wp2_with fail
  gi_region_with_o (first | (first | refine ⟨trivial,?_⟩ | skip);(first | refine ⟨(by intro e;cases e),?_⟩ | skip);refine (CallsIn.inRound lp (callsIn_wide.2 (appKey_any ⟨id,qu,zo,zl,zc⟩ _))).mono ?_;rintro e wc ⟨rfl,hbc⟩;have HW3:=hide (yB (yH _ W).drew hbc);have y0:=((uH HX).below (uH HW3)).at 0;have y1:=((uH HX).below (uH HW3)).at 1;have y2:=((uH HX).below (uH HW3)).at 2;have u0:=((uH HI).below (uH HW3)).2.at 0;simp at y0 y1 y2 u0;obtain ⟨D,hown,hk⟩:=((uH HI).below (uH HW3)).1;obtain ⟨w4,hrun,hown2,hgrow2⟩:=hown.update keyLaw Tryz.underlying252 (by unfold maxLen;simp;omega) (uH HKEY) (appElem_mk ⟨id,qu,zo,zl,zc⟩);have HFIN:=hide (And.intro hown2 (And.intro hgrow2 (KnownA.put (m:=⟨id,qu,zo,zl,zc⟩) hk hown.isMap (uH HKEY))));clear hown2 hgrow2 hk hown hbc)
  all_goals gi_wp2
  all_goals
   obtain ⟨f1,f2,f3⟩:=uH HFIN
   have hbelow:=(uH HW3)
   have hv4:=(f2.block _ ((uH HI).below hbelow).2.lt (by simp)).trans ((uH HI).below hbelow).2
   have hmi:ApmInv w (⟨id,qu,zo,zl,zc⟩::(pre.map (fun x:Int×NAV=>x.2.1)).reverse) w4:=⟨⟨_,f1,f3⟩,hv4⟩
   refine ⟨((keepsO_below hbelow).from _).trans (KeepsFrom.of_grownBy f2 (fun j e=>by cases e;omega)),kpa_t (kpa_below hbelow) (fun k o ho hc=>(f2.block k (lt_of_block ho) (fun e=>?_)).trans ho),by simpa using hmi,?_⟩
   ·obtain ⟨D',hD',_⟩:=((uH HI).below hbelow).1
    obtain ⟨es,ck,hm',_⟩:=hD'
    obtain rfl:k=w.heap.size+1:=by simpa using e
    rw [hm'] at ho
    cases ho
    cases hc
   ·exact ((uH HB).trans (hbelow.mono (uH HB).size)).grown f2 (by have:=(uH HB).size;have:=hbelow.size;omega) (fun k e=>by cases e;omega)
 case done=>
  rintro D ys W hD hys ⟨hI,hB⟩ hK
  rw [uH hys,List.reverse_reverse] at hI
  have v0:=hI.2.at 0
  simp at v0
  have HI:=hide hI
  have HB:=hide hB
  clear hI hB
  gi_wp2
  refine ⟨by simp,.inl ⟨_,_,rfl,run_takeDeferred hK,?_⟩⟩
  exact ⟨_,results_tmp rfl _ _ _,rfl,(uH HI).grown (grownBy_putObj' W D _) (fun r e=>by cases e;omega),(uH HB).trans (belowK_b (w:=w) (yJ _) W D _ _ (by omega) hK rfl rfl)⟩
 case stop=>
  rintro D c pre W _ _ h _
  exact h.elim
theorem apps_ex (x:Sls) (s:St) (hs:List AV) (w:World) (h:AVRow w x.aa x.al hs) (hl:x.al≤1048576) (hn:∀m ∈ hs,(Lit.int .i64 m.id).wf=true) :
  Calls Tryz.prog 205 #[sv x s] w fun e w'=>∃bm,e=.returned (.map (some bm))∧(w.heap.size≤bm∧∃D,w'.ownsMap Tryz.prog 259 appElem bm hs.length D∧KnownA hs allA D)∧Below w.heap.size w w':=
 (apps_any x s hs w h hl hn).mono fun e w' ⟨h1,h2,h3⟩=>⟨_,h1,⟨by omega,h2.1⟩,h3⟩
end
end Go.Proofs.YtjkfappkpopbdaaGreat
