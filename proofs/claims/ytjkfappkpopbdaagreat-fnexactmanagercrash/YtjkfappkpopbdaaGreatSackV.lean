/-
  Texts in one: ReadF, ReadG, ReadN, CrM.
-/
import Derived.Test.YtjkfappkpopbdaaGreatSackP
import Derived.Test.YtjkfappkpopbdaaGreatSackR
import Derived.Test.YtjkfappkpopbdaaGreatSackE
set_option maxRecDepth 100000
set_option maxHeartbeats 16000000
set_option linter.unusedVariables false
set_option linter.unusedSimpArgs false
namespace Go.Proofs.YtjkfappkpopbdaaGreat
section
open Go.RowKit
def readF (s:ByteArray):Nat→Nat→List Rc→List Rc×Int
 | 0,i,acc=>(acc,i)
 | n+1,i,acc=>
  if s.size≤i then (acc,i)
  else match readEntry s i with
   | none=>(acc,i)
   | some (r,j)=>readF s n j.toNat (acc++[r])
def readV (s:ByteArray):List Rc×Int:=if 60000<s.size then ([],0) else readF s (s.size+1) 0 []
theorem readF_done {s:ByteArray} {n i:Nat} {acc:List Rc} (h:s.size≤i):readF s (n+1) i acc=(acc,(i:Int)):=by rw [readF,if_pos h]
theorem readF_none {s:ByteArray} {n i:Nat} {acc:List Rc} (h:readEntry s i=none):readF s (n+1) i acc=(acc,(i:Int)):=by
 rw [readF]
 split
 ·rfl
 ·rw [h]
theorem readF_some {s:ByteArray} {n i:Nat} {acc:List Rc} {r:Rc} {j:Int} (h0:i<s.size) (h:readEntry s i=some (r,j)):readF s (n+1) i acc=readF s n j.toNat (acc++[r]):=by
 rw [readF,if_neg (by omega),h]
theorem entry_on {s:ByteArray} {i:Nat} {r:Rc} {j:Int} (h:readEntry s i=some (r,j)):(i:Int)+5≤j∧j≤s.size:=by
 unfold readEntry at h
 split at h
 ·exact absurd h (by simp)
 ·split at h
  ·exact absurd h (by simp)
  ·rename_i h4 h2
   split at h
   ·exact absurd h (by simp)
   ·rename_i r' hr
    split at h
    ·simp only [Option.some.injEq,Prod.mk.injEq] at h
     obtain ⟨rfl,rfl⟩:=h
     have hsp:=getText_split _ _ h2
     have hle:=getText_pos_le s _ h2
     refine ⟨?_,hle.2⟩
     have h3:=hsp.2.2.1
     have h5:=congrArg List.length h3
     have hpt:1≤(putText (getText s.data.toList ((i+4:Nat):Int)).1).length:=by
      unfold putText
      rw [if_pos hsp.2.1,List.length_append]
      have:=put_pos (getText s.data.toList ((i+4:Nat):Int)).1.length
      omega
     rw [List.length_append,List.length_drop,List.length_drop,len_eq] at h5
     omega
    ·exact absurd h (by simp)
theorem jown_step {w wr w1:World} {B:Nat} {v v':Value} {l:List Rc} {q:Rc} {ob:Obj} (hb:Below B w wr) (hown:JOwn B wr v l)
  (h1:w1.ownsRow B 54 3 v' (l.length+1) (jcells l++jcell q)) (hg:(wr.alloc ob).grownBy w1 v.ownBlock) (hB:B≤wr.heap.size) :
  JOwn B w1 v' (l++[q])∧Below B w w1:=by
 refine ⟨?_,(hb.alloc hB ob).grown hg (by simp;omega) ?_⟩
 ·unfold JOwn
  rw [jcells_app,List.length_append]
  exact h1
 ·intro k hk
  rcases hown.2 with ⟨rfl,_⟩ | ⟨g,cap,cur,rfl,hg',_⟩
  ·simp [Value.ownBlock] at hk
  ·simp [Value.ownBlock] at hk;omega
def atOf (w:World) (g:Nat):Nat:=(intOf ((w.cell? ⟨g,1,none⟩).getD undef)).toNat
theorem Rd.atOf {w:World} {g i:Nat} {s:ByteArray} {bg:Int} (h:Rd w g s i bg):atOf w g=i:=by
 have:=Rd.at h 1
 simp at this
 unfold Go.Proofs.YtjkfappkpopbdaaGreat.atOf
 rw [this]
 simp [intOf]
theorem jown_gby {w w':World} {B g:Nat} {v:Value} {l:List Rc} (h:JOwn B w v l) (hg:w.grownBy w' (some g)) (hlt:g<B):JOwn B w' v l:=by
 refine World.ownsRow.kept h hg ?_
 rcases h.2 with ⟨rfl,_⟩ | ⟨g',cap,cur,rfl,hg',_⟩
 ·exact .inl rfl
 ·right
  simp [Value.ownBlock]
  omega
theorem implRead_any (s:ByteArray) (w:World) (hs:s.size≤1048576) :
  Calls Tryz.prog 51 #[.string s] w fun e w'=>∃v,e=.returned (.tuple #[v,.int .i64 (readV s).2])∧JOwn w.heap.size w' v (readV s).1∧Below w.heap.size w w':=by
 have hmf:∀(fn:Fn) (first cap:Array Value) (w:World),(Instr.makeFunc fn first cap).run Tryz.prog w=.ok (.func fn first cap) w:=fun _ _ _ _=>rfl
 obtain ⟨i0,hi,hz0,hz1,hz2⟩:=info_parts Tryz.infoRec
 have E0:=hide (yD w #[.int .i64 0] 3)
 have HB0:=hide (yA (yH _ w) (.cells #[.int .i64 0] 3))
 by_cases hbig:60000<s.size
 ·have hv:readV s=([],0):=by unfold readV;rw [if_pos hbig]
  rw [hv]
  clear hv
  go_enter_defers Tryz.func51,Tryz.ntmps51
  go_wp2
  refine ⟨.tuple #[.slice none 0 0,.int .i64 0],by simp [results,Tryz.results51,go_sem],.slice none 0 0,rfl,jown_nil _ _,?_⟩
  repeat (first | exact uH HB0 | refine yA ?_ _ | refine Below.drew ?_ | refine yC ?_ _ _ _ (by omega))
 have hv:readV s=readF s (s.size+1) 0 []:=by unfold readV;rw [if_neg hbig]
 rw [hv]
 clear hv
 obtain ⟨X,hX⟩:∃X,readF s (s.size+1) 0 []=X:=⟨_,rfl⟩
 rw [hX]
 have HX:=hide hX
 clear hX
 have CD:=hide (fun (i:Nat) bg wx (hr:Rd wx (w.heap.size+1) s i bg)=>done_any (w.heap.size+1) s i bg wx hr hs)
 have CE:=hide (fun (i:Nat) bg wx (hr:Rd wx (w.heap.size+1) s i bg) (hi:i≤s.size)=>nextEntry_any (w.heap.size+1) s i bg wx hr hs hi)
 have E1:=hide ((uH E0).al (.cells (rdA s) 172))
 have R1:=hide (Rd.newA (w.alloc (.cells #[.int .i64 0] 3)) s)
 have HB1:=hide (yA (uH HB0) (.cells (rdA s) 172))
 simp only [yE] at R1
 go_enter_defers Tryz.func51,Tryz.ntmps51
 go_upto_region 4 with fail
 refine wp_region_lit ?_
 refine wpList_val (v:=.string s) (d:=some 9) rfl rfl rfl ?_
 simp only [zW]
 refine wpList_same (v:=.agg (rdA s)) (d:=some 10) rfl rfl (by refine run_v ?_;simp only [List.map_toArray,List.map_cons,List.map_nil];exact rd_build s _) ?_
 simp only [zW]
 refine wpList_val (d:=some 4) rfl rfl (run_v (rd_alloc _ _)) ?_
 simp only [zW]
 refine wpList_none (d:=none) rfl rfl (run_u (rd_store s _)) ?_
 simp only [Act.put,yE]
 refine wpList_nil ?_
 go_wp2
 go_loopw [2] (fun v wr=>∃(i n:Nat) (acc:List Rc) (bg:Int),i≤s.size∧s.size - i<n∧acc.length≤i∧Hid (readF s n i acc=X)∧Hid (JOwn (w.heap.size+2) wr v acc)∧Hid (Rd wr (w.heap.size+1) s i bg)∧Hid (Blk wr w.heap.size #[.int .i64 0] 3)∧Hid (Below w.heap.size w wr)∧w.heap.size+2≤wr.heap.size) (fun _ wr=>s.size - atOf wr (w.heap.size+1))
 case atStart=>exact ⟨0,s.size+1,[],0,by omega,by omega,by simp,HX,hide (jown_nil _ _),R1,E1,HB1,by simp⟩
 case round=>
  obtain ⟨i,n,acc,bg,hi1,hn,hac,HF,HO,HR,HE,HB,hsz⟩:=hrel
  obtain ⟨m,rfl⟩:∃m,n=m+1:=⟨n - 1,by omega⟩
  have hat:=(uH HR).atOf
  have C1:=hide (uH CD i bg wr (uH HR))
  by_cases hd:s.size≤i
  ·have hdd:decide ((s.size:Int)≤(i:Int))=true:=by simp;omega
   rw [hdd] at C1
   have HF2:=hide (show (acc,(i:Int))=X by rw [←uH HF,readF_done hd])
   go_wp2_with fail
   refine (uH C1).mono ?_
   rintro e w1 ⟨rfl,hb⟩
   have HO1:=hide (jown_below (uH HO) hb)
   have HE1:=hide ((uH HE).below hb)
   have HB1:=hide (yB (uH HB) hb)
   have k1:=(Rd.below (uH HR) hb).at 1
   have e0:=(uH HE1).at 0
   have ef:=(uH HE1).f 0
   simp at k1 e0
   clear hb
   go_wp2_with fail
   refine wp_region_noPanic ?_
   go_region_with (fail)
   refine NoPanic.normal ?_
   go_wp2
   have VF:=hide (show Blk (w1.setCell ⟨w.heap.size,0,none⟩ (.int .i64 (i:Int))).drew w.heap.size #[.int .i64 (i:Int)] 3 from Blk.drew (by simpa using (uH HE1).set 0 (.int .i64 (i:Int))))
   have OF:=hide (show JOwn (w.heap.size+2) (w1.setCell ⟨w.heap.size,0,none⟩ (.int .i64 (i:Int))).drew u2 acc from jown_below (jown_other (uH HO1) _ _ _ (by omega)) (yH _ _).drew)
   have HBF:=hide (yC (uH HB1) w.heap.size 0 (.int .i64 (i:Int)) (yJ _)).drew
   refine leaves_cons (f:=96) (args:=#[.pointer (some ⟨w.heap.size,0,none⟩)]) (by simp) (by simp [go_sem]) ?_
   refine (catchR_idle w.heap.size (i:Int) _ (uH VF)).mono ?_
   rintro e u' w3 ⟨rfl,rfl,hb⟩
   have h1:=(uH VF).below hb
   have k0:=h1.at 0
   simp at k0
   have HO3:=hide (jown_below (uH OF) hb)
   have HB3:=hide (yB (uH HBF) hb)
   clear hb h1
   rw [←uH HF2]
   refine ⟨.tuple #[u2,.int .i64 (i:Int)],?_,u2,rfl,jown_base (uH HO3) (by omega),uH HB3⟩
   simp [results,Tryz.results51,go_sem,k0]
  ·have hdd:decide ((s.size:Int)≤(i:Int))=false:=by simp;omega
   rw [hdd] at C1
   have C2:=hide (fun wx hr=>uH CE i bg wx hr hi1)
   obtain ⟨x,hx⟩:∃x,readEntry s i=x:=⟨_,rfl⟩
   have C3:=hide (by have:=uH C2;rw [hx] at this;exact this)
   clear C2
   cases x with
   | none=>
    have HF2:=hide (show (acc,(i:Int))=X by rw [←uH HF,readF_none hx])
    simp only [Option.map_none] at C3
    clear hx
    go_wp2_with fail
    refine (uH C1).mono ?_
    rintro e w1 ⟨rfl,hb⟩
    have HR1:=hide (Rd.below (uH HR) hb)
    have HO1:=hide (jown_below (uH HO) hb)
    have HE1:=hide ((uH HE).below hb)
    have HB1:=hide (yB (uH HB) hb)
    clear hb
    go_wp2_with fail
    refine (uH C3 _ (uH HR1)).mono ?_
    rintro e w2 ⟨hg,rfl,hr⟩
    have HO2:=hide (jown_gby (uH HO1) hg (by omega))
    have HE2:=hide ((uH HE1).gby hg (by omega))
    have HB2:=hide ((uH HB1).grown hg (uH HB1).size (fun k hk=>by cases hk;omega))
    clear hg hr
    go_wp2
    refine leaves_cons (f:=96) (args:=#[.pointer (some ⟨w.heap.size,0,none⟩)]) (by simp) (by simp [go_sem]) ?_
    refine (catchR_panicking w.heap.size 0 (i:Int) [] w2 (uH HE2)).mono ?_
    rintro e u' w3 ⟨rfl,rfl,h1,hg⟩
    have k0:=h1.at 0
    simp at k0
    have HO3:=hide (jown_gby (uH HO2) hg (by omega))
    have HB3:=hide ((uH HB2).grown hg (uH HB2).size (fun k hk=>by cases hk;omega))
    clear hg h1
    rw [←uH HF2]
    refine ⟨.tuple #[u2,.int .i64 (i:Int)],?_,u2,rfl,jown_base (uH HO3) (by omega),uH HB3⟩
    simp [results,Tryz.results51,go_sem,k0]
   | some y=>
    obtain ⟨⟨rk,ra,rq⟩,j⟩:=y
    obtain ⟨hj1,hj2⟩:=entry_on hx
    have HF2:=hide (show readF s m j.toNat (acc++[⟨rk,ra,rq⟩])=X by rw [←uH HF,readF_some (by omega) hx])
    simp only [Option.map_some] at C3
    have hjn:(j.toNat:Int)=j:=by omega
    clear hx
    go_wp2_with fail
    refine (uH C1).mono ?_
    rintro e w1 ⟨rfl,hb⟩
    have HR1:=hide (Rd.below (uH HR) hb)
    have HO1:=hide (jown_below (uH HO) hb)
    have HE1:=hide ((uH HE).below hb)
    have HB1:=hide (yB (uH HB) hb)
    have hsz1:w.heap.size+2≤w1.heap.size:=Nat.le_trans hsz hb.size
    clear hb
    go_wp2_with fail
    refine (uH C3 _ (uH HR1)).mono ?_
    rintro e w2 ⟨hg,rfl,hr⟩
    have HR2:=hide hr
    have HO2:=hide (jown_gby (uH HO1) hg (by omega))
    have HE2:=hide ((uH HE1).gby hg (by omega))
    have HB2:=hide ((uH HB1).grown hg (uH HB1).size (fun k hk=>by cases hk;omega))
    have hsz2:w.heap.size+2≤w2.heap.size:=Nat.le_trans hsz1 hg.size
    clear hg hr
    have hown:w2.ownsRow (w.heap.size+2) 54 3 _ acc.length (jcells acc):=uH HO2
    go_wp2_with (at_builtin;refine wpList_append_own _ rfl _ _ 48 rfl (w.heap.size+2) 54 i0 (.agg #[.int .i64 0,.int .i64 0,.string ByteArray.empty]) 3 32 Tryz.underlying48 hi hz0 hz1 hz2 rfl (by decide) _ _ _ rfl (hown.alloc _) ⟨w2.heap.size,0,none⟩ 1 1 (jcell ⟨rk,ra,rq⟩) rfl rfl ?c1 ?c2 ?c3 ?c4 ?c5 ?_)
    case c1=>
     intro j x hj
     match j,hj with
     | 0,hj=>simp at hj;subst hj;simp [Addr.add]
     | 1,hj=>simp at hj;subst hj;simp [Addr.add]
     | 2,hj=>simp at hj;subst hj;simp [Addr.add]
     | _+3,hj=>simp at hj
    case c2=>intro x hx;simp at hx;rcases hx with rfl | rfl | rfl<;>rfl
    case c3=>unfold maxLen;omega
    case c4=>omega
    case c5=>simp at hsz2 ⊢;omega
    intro v' w3 hown' hgrow _
    have R:=jown_step (yH (w.heap.size+2) w2) (uH HO2) hown' hgrow hsz2
    have HR3:=hide (show Rd w3 (w.heap.size+1) s j i from (uH HR2).move (R.2.block _ (by omega)))
    have HE3:=hide (show Blk w3 w.heap.size #[.int .i64 0] 3 from (R.2.block _ (by omega)).trans (uH HE2))
    have HB3:=hide (Below.trans (uH HB2) (R.2.mono (by omega)))
    have HO3:=hide R.1
    have hsz3:w.heap.size+2≤w3.heap.size:=Nat.le_trans hsz2 R.2.size
    have hat3:atOf w3 (w.heap.size+1)=j.toNat:=by have h:=uH HR3;rw [←hjn] at h;exact h.atOf
    clear hown' hgrow hown R
    go_wp2
    go_roundw
    case rel=>exact ⟨j.toNat,m,acc++[⟨rk,ra,rq⟩],(i:Int),by omega,by omega,by simp;omega,HF2,HO3,hide (by rw [hjn];exact uH HR3),HE3,HB3,hsz3⟩
    case measure=>rw [hat3,hat];omega
def BelS (w wx:World):Prop:=Below w.heap.size w wx
theorem word_sv (s:ByteArray) (i:Nat) (h:i+4≤s.size) (c:Nat) (hc:c<4294967296):(s.extract i (i+4)=bs (word c))↔c=svN s i 4:=by
 have hg:∀k,k<4→s.data.toList[i+k]? = some s.data.toList[i+k]!:=by
  intro k hk
  rw [List.getElem!_eq_getElem?_getD,List.getElem?_eq_getElem (by rw [len_eq];omega)]
  rfl
 obtain ⟨b0,h0⟩:∃b,s.data.toList[i]? = some b:=⟨_,by simpa using hg 0 (by omega)⟩
 obtain ⟨b1,h1⟩:∃b,s.data.toList[i+1]? = some b:=⟨_,hg 1 (by omega)⟩
 obtain ⟨b2,h2⟩:∃b,s.data.toList[i+2]? = some b:=⟨_,hg 2 (by omega)⟩
 obtain ⟨b3,h3⟩:∃b,s.data.toList[i+3]? = some b:=⟨_,hg 3 (by omega)⟩
 have hx:s.extract i (i+4)=bs [b0,b1,b2,b3]:=by
  have h5:=extract_pre s i 4
  rw [h5]
  congr 1
  unfold pre
  apply List.ext_getElem?
  intro k
  by_cases hk:k<4
  ·rw [List.getElem?_take_of_lt hk,List.getElem?_drop]
   match k,hk with
   | 0,_=>simpa using h0
   | 1,_=>simpa using h1
   | 2,_=>simpa using h2
   | 3,_=>simpa using h3
  ·rw [List.getElem?_eq_none (by simp;omega),List.getElem?_eq_none (by simp;omega)]
 have hv:svN s i 4=((b0.toNat*256+b1.toNat)*256+b2.toNat)*256+b3.toNat:=by
  simp only [svN,Nat.add_zero,h0,h1,h2,h3,Option.getD_some]
  omega
 have l0:=b0.toNat_lt
 have l1:=b1.toNat_lt
 have l2:=b2.toNat_lt
 have l3:=b3.toNat_lt
 have n0:b0=UInt8.ofNat b0.toNat:=by simp
 have n1:b1=UInt8.ofNat b1.toNat:=by simp
 have n2:b2=UInt8.ofNat b2.toNat:=by simp
 have n3:b3=UInt8.ofNat b3.toNat:=by simp
 rw [hx,hv]
 constructor
 ·intro h
  have hl : [b0,b1,b2,b3]=word c:=by
   have:=congrArg (fun x:ByteArray=>x.data.toList) h
   simpa [bs] using this
  simp only [word,List.cons.injEq,and_true] at hl
  obtain ⟨e0,e1,e2,e3⟩:=hl
  have t0:=congrArg UInt8.toNat e0
  have t1:=congrArg UInt8.toNat e1
  have t2:=congrArg UInt8.toNat e2
  have t3:=congrArg UInt8.toNat e3
  rw [UInt8.toNat_ofNat'] at t0 t1 t2 t3
  omega
 ·intro h
  subst h
  congr 1
  simp only [word,List.cons.injEq,and_true]
  refine ⟨?_,?_,?_,?_⟩
  ·rw [show (((b0.toNat*256+b1.toNat)*256+b2.toNat)*256+b3.toNat) / 16777216=b0.toNat by omega];exact n0
  ·rw [show (((b0.toNat*256+b1.toNat)*256+b2.toNat)*256+b3.toNat) / 65536 % 256=b1.toNat by omega];exact n1
  ·rw [show (((b0.toNat*256+b1.toNat)*256+b2.toNat)*256+b3.toNat) / 256 % 256=b2.toNat by omega];exact n2
  ·rw [show (((b0.toNat*256+b1.toNat)*256+b2.toNat)*256+b3.toNat) % 256=b3.toNat by omega];exact n3
theorem entry_short {s:ByteArray} {i:Nat} (h:s.size≤i+4):readEntry s i=none:=by
 unfold readEntry
 by_cases h4:s.size<i+4
 ·rw [if_pos h4]
 ·rw [if_neg h4,if_pos]
  have hd:s.data.toList.drop (((i+4:Nat):Int)).toNat=[]:=List.drop_of_length_le (by rw [len_eq];omega)
  have hn:getNum s.data.toList ((i+4:Nat):Int)=(0,-1):=by
   unfold getNum
   rw [if_neg (by omega),hd]
   rfl
  unfold getText
  rw [hn]
  simp
theorem entry_of {s:ByteArray} {i:Nat} (h:i+4≤s.size):readEntry s i=if (getText s.data.toList ((i+4:Nat):Int)).2<0 then none
  else match gotRec (getText s.data.toList ((i+4:Nat):Int)).1 with
  | none=>none
  | some r=>if crc (getText s.data.toList ((i+4:Nat):Int)).1=svN s i 4 then some (r,(getText s.data.toList ((i+4:Nat):Int)).2) else none:=by
 conv=>lhs;unfold readEntry
 rw [if_neg (by omega)]
 rfl
theorem specRead_any (s:ByteArray) (w:World) (hs:s.size≤1048576) :
  Calls Tryz.prog 13 #[.string s] w fun e w'=>∃v,e=.returned (.tuple #[v,.int .i64 (readV s).2])∧JOwn w.heap.size w' v (readV s).1∧Below w.heap.size w w':=by
 obtain ⟨i0,hi,hz0,hz1,hz2⟩:=info_parts Tryz.infoRec
 have hem:=jown_empty w
 have HO0:=hide (show JOwn w.heap.size (w.alloc (.cells #[] 54)) (.slice (some ⟨w.heap.size,0,none⟩) 0 0) [] from hem)
 have HB0:=hide (yA (yH _ w) (.cells #[] 54))
 clear hem
 by_cases hbig:60000<s.size
 ·have hv:readV s=([],0):=by unfold readV;rw [if_pos hbig]
  rw [hv]
  clear hv
  go_enter Tryz.func13,Tryz.ntmps13
  go_wp2
  go_loopw [4,5] (fun v a wr=>v=.slice (some ⟨w.heap.size,0,none⟩) 0 0∧a=.int .i64 0∧wr=w.alloc (.cells #[] 54)) (fun _ _ _=>0)
  case atStart=>exact ⟨rfl,rfl,rfl⟩
  case round=>
   obtain ⟨rfl,rfl,rfl⟩:=hrel
   have hd:decide ((s.size:Int)≤60000)=false:=by simp;omega
   go_wp2
   go_ret2
   exact ⟨_,rfl,uH HO0,uH HB0⟩
 have hv:readV s=readF s (s.size+1) 0 []:=by unfold readV;rw [if_neg hbig]
 rw [hv]
 clear hv
 obtain ⟨X,hX⟩:∃X,readF s (s.size+1) 0 []=X:=⟨_,rfl⟩
 rw [hX]
 have HX:=hide hX
 clear hX
 go_enter Tryz.func13,Tryz.ntmps13
 go_wp2
 go_loopw [4,5] (fun v a wr=>∃(i n:Nat) (acc:List Rc),a=.int .i64 (i:Int)∧i≤s.size∧s.size - i<n∧acc.length≤i∧Hid (readF s n i acc=X)∧Hid (JOwn w.heap.size wr v acc)∧Hid (Below w.heap.size w wr)) (fun _ a _=>s.size - (intOf a).toNat)
 case atStart=>exact ⟨0,s.size+1,[],rfl,by omega,by omega,by simp,HX,HO0,HB0⟩
 case round=>
  obtain ⟨i,n,acc,rfl,hi1,hn,hac,HF,HO,HB⟩:=hrel
  obtain ⟨m,rfl⟩:∃m,n=m+1:=⟨n - 1,by omega⟩
  have hle:(s.size:Int)≤60000:=by omega
  by_cases h4:s.size≤i+4
  ·have HF2:=hide (show (acc,(i:Int))=X by rw [←uH HF,readF_none (entry_short h4)])
   have hgt:¬(4:Int)<(s.size:Int) - (i:Int):=by omega
   go_wp2
   go_ret2
   rw [←uH HF2]
   exact ⟨_,rfl,uH HO,uH HB⟩
  ·have hgt:(4:Int)<(s.size:Int) - (i:Int):=by omega
   have hex:=entry_of (s:=s) (i:=i) (by omega)
   have hws:=fun c hc=>word_sv s i (by omega) c hc
   have CT:=hide (fun wx=>specGetText_any s ((i+4:Nat):Int) wx hs (by omega) (by omega))
   have htl:=getText_len2 s.data.toList ((i+4:Nat):Int)
   obtain ⟨⟨t,j⟩,htj⟩:∃x,getText s.data.toList ((i+4:Nat):Int)=x:=⟨_,rfl⟩
   rw [htj] at CT htl hex
   simp only at CT htl hex
   clear htj
   have hi4:((i+4:Nat):Int)=(i:Int)+4:=by omega
   rw [hi4] at CT
   have CG:=hide (fun wx=>by have:=specGetRec_any (bs t) wx (by rw [bs_size];omega);rw [show gotRec (bs t).data.toList=gotRec t from rfl] at this;exact this)
   have CC:=hide (fun wx=>by have:=specCheckSum_any (bs t) wx (by rw [bs_size];omega);rw [show crc (bs t).data.toList=crc t from rfl] at this;exact this)
   have hcl:crc t<4294967296:=xor_lt32 (crcTo_lt _) (by decide)
   have CW:=hide (fun wx=>l08Word_any (crc t) wx hcl)
   have hws1:=hws (crc t) hcl
   clear hws
   obtain ⟨c,hc⟩:∃c,crc t=c:=⟨_,rfl⟩
   rw [hc] at CC hcl CW hex hws1
   clear hc
   obtain ⟨o,ho⟩:∃o,gotRec t=o:=⟨_,rfl⟩
   rw [ho] at CG hex
   clear ho
   by_cases hj:j<0
   ·have HF2:=hide (show (acc,(i:Int))=X by rw [←uH HF,readF_none (by rw [hex,if_pos hj])])
    have HV:∃(r:Rc) (b:Bool),recAns o=.tuple #[rcv r,.bool b]:=by
     cases o with
     | none=>exact ⟨⟨0,0,[]⟩,false,rfl⟩
     | some r=>exact ⟨r,true,rfl⟩
    obtain ⟨⟨rk,ra,rq⟩,b,hrb⟩:=HV
    rw [hrb] at CG
    have hjd:decide (j<0)=true:=by simp;exact hj
    clear hex hws1 hrb CC CW
    go_wp2_with fail
    refine (uH CT _).mono ?_
    rintro e w1 ⟨rfl,hb⟩
    have HO1:=hide (jown_below (uH HO) hb)
    have HB1:=hide (yB (uH HB) hb)
    clear hb CT
    go_wp2_with fail
    refine (uH CG _).mono ?_
    rintro e w2 ⟨rfl,hb⟩
    have HO2:=hide (jown_below (jown_below (uH HO1) hb) (yA (yH _ _) (.cells #[.int .i64 rk,.int .i64 ra,.string (bs rq)] 54)))
    have HB2:=hide (yA (yB (uH HB1) hb) (.cells #[.int .i64 rk,.int .i64 ra,.string (bs rq)] 54))
    have V2:=hide (yD w2 #[.int .i64 rk,.int .i64 ra,.string (bs rq)] 54)
    clear hb CG HO1 HB1 HO HB
    go_wp2_with fail
    go_quiet (fail)
    go_wp2
    go_ret2
    rw [←uH HF2]
    exact ⟨_,rfl,jown_below (uH HO2) (below_drewN (yH _ _) _),below_drewN (uH HB2) _⟩
   ·rw [if_neg hj] at hex
    have hjd:decide (j<0)=false:=by simp;omega
    cases o with
    | none=>
     have HF2:=hide (show (acc,(i:Int))=X by rw [←uH HF,readF_none hex])
     simp only [recAns] at CG
     clear hex hws1 CC CW
     go_wp2_with fail
     refine (uH CT _).mono ?_
     rintro e w1 ⟨rfl,hb⟩
     have HO1:=hide (jown_below (uH HO) hb)
     have HB1:=hide (yB (uH HB) hb)
     clear hb CT
     go_wp2_with fail
     refine (uH CG _).mono ?_
     rintro e w2 ⟨rfl,hb⟩
     have HO2:=hide (jown_below (jown_below (uH HO1) hb) (yA (yH _ _) (.cells #[.int .i64 0,.int .i64 0,.string (bs [])] 54)))
     have HB2:=hide (yA (yB (uH HB1) hb) (.cells #[.int .i64 0,.int .i64 0,.string (bs [])] 54))
     have V2:=hide (yD w2 #[.int .i64 0,.int .i64 0,.string (bs [])] 54)
     clear hb CG HO1 HB1 HO HB
     go_wp2_with fail
     go_quiet (fail)
     go_wp2
     go_ret2
     rw [←uH HF2]
     exact ⟨_,rfl,jown_below (uH HO2) (below_drewN (yH _ _) _),below_drewN (uH HB2) _⟩
    | some r=>
     obtain ⟨rk,ra,rq⟩:=r
     simp only [recAns] at CG
     simp only at hex
     have b1:(0:Int)≤(i:Int):=by omega
     have b2:(i:Int)+4≤(s.size:Int):=by omega
     have b3:(i:Int)≤(i:Int)+4:=by omega
     have hw4:IntKind.i64.wrap ((i:Int)+4)=(i:Int)+4:=by rw [IntKind.wrap_i64];omega
     have ht4:((i:Int)+4).toNat=i+4:=by omega
     have b4:(0:Int)≤(i:Int)+4:=by omega
     by_cases hcx:c=svN s i 4
     case neg=>
      rw [if_neg hcx] at hex
      have HF2:=hide (show (acc,(i:Int))=X by rw [←uH HF,readF_none hex])
      have hcmp:((s.extract i (i+4)).toList==(bs (word c)).toList)=false:=by
       rw [beq_eq_false_iff_ne,ne_eq,ByteArray.toList_eq,ByteArray.toList_eq]
       intro h
       apply hcx
       apply hws1.1
       apply ByteArray.ext
       exact Array.ext' h
      clear hex hws1 hcx
      go_wp2_with fail
      refine (uH CT _).mono ?_
      rintro e w1 ⟨rfl,hb⟩
      have HO1:=hide (jown_below (uH HO) hb)
      have HB1:=hide (yB (uH HB) hb)
      clear hb CT
      go_wp2_with fail
      refine (uH CG _).mono ?_
      rintro e w2 ⟨rfl,hb⟩
      have HO2:=hide (jown_below (jown_below (uH HO1) hb) (yA (yH _ _) (.cells #[.int .i64 rk,.int .i64 ra,.string (bs rq)] 54)))
      have HB2:=hide (yA (yB (uH HB1) hb) (.cells #[.int .i64 rk,.int .i64 ra,.string (bs rq)] 54))
      have V2:=hide (yD w2 #[.int .i64 rk,.int .i64 ra,.string (bs rq)] 54)
      clear hb CG HO1 HB1 HO HB
      go_wp2_with fail
      obtain ⟨W,hW⟩:∃W,w2.alloc (.cells #[.int .i64 rk,.int .i64 ra,.string (bs rq)] 54)=W:=⟨_,rfl⟩
      rw [hW] at HO2 HB2 V2 ⊢
      have A0:=hide (show BelS W W from yH _ _)
      go_region_held3 (fun wx=>BelS W wx)
       (first | (with_reducible assumption) | exact Below.drew (uH A0) | exact yB (by assumption) (by assumption))
       (first
       | (go_at_call 35;refine (uH CC _).mono ?_;rintro e wt ⟨rfl,rfl⟩)
       | (go_at_call 34;refine (uH CW _).mono ?_;rintro e wt ⟨rfl,hb⟩;have SA:BelS W wt:=yB (w:=W) (by assumption) hb))
      have HBS:=hide (show Below W.heap.size W wt from SA)
      clear SA A0
      go_wp2
      go_ret2
      rw [←uH HF2]
      exact ⟨_,rfl,jown_below (uH HO2) (uH HBS),yB (uH HB2) (uH HBS)⟩
     ·rw [if_pos hcx] at hex
      obtain ⟨hj1,hj2⟩:=entry_on hex
      have HF2:=hide (show readF s m j.toNat (acc++[⟨rk,ra,rq⟩])=X by rw [←uH HF,readF_some (by omega) hex])
      have hcmp:((s.extract i (i+4)).toList==(bs (word c)).toList)=true:=by
       rw [beq_iff_eq,hws1.2 hcx]
      have hjn:(j.toNat:Int)=j:=by omega
      clear hex hws1 hcx
      go_wp2_with fail
      refine (uH CT _).mono ?_
      rintro e w1 ⟨rfl,hb⟩
      have HO1:=hide (jown_below (uH HO) hb)
      have HB1:=hide (yB (uH HB) hb)
      clear hb CT
      go_wp2_with fail
      refine (uH CG _).mono ?_
      rintro e w2 ⟨rfl,hb⟩
      have HO2:=hide (jown_below (jown_below (uH HO1) hb) (yA (yH _ _) (.cells #[.int .i64 rk,.int .i64 ra,.string (bs rq)] 54)))
      have HB2:=hide (yA (yB (uH HB1) hb) (.cells #[.int .i64 rk,.int .i64 ra,.string (bs rq)] 54))
      have V2:=hide (yD w2 #[.int .i64 rk,.int .i64 ra,.string (bs rq)] 54)
      clear hb CG HO1 HB1 HO HB
      go_wp2_with fail
      obtain ⟨W,hW⟩:∃W,w2.alloc (.cells #[.int .i64 rk,.int .i64 ra,.string (bs rq)] 54)=W:=⟨_,rfl⟩
      rw [hW] at HO2 HB2 V2 ⊢
      have A0:=hide (show BelS W W from yH _ _)
      go_region_held3 (fun wx=>BelS W wx)
       (first | (with_reducible assumption) | exact Below.drew (uH A0) | exact yB (by assumption) (by assumption))
       (first
       | (go_at_call 35;refine (uH CC _).mono ?_;rintro e wt ⟨rfl,rfl⟩)
       | (go_at_call 34;refine (uH CW _).mono ?_;rintro e wt ⟨rfl,hb⟩;have SA:BelS W wt:=yB (w:=W) (by assumption) hb))
      have HBS:=hide (show Below W.heap.size W wt from SA)
      have HO3:=hide (jown_below (uH HO2) (uH HBS))
      have HB3:=hide (yB (uH HB2) (uH HBS))
      have V3:=hide ((uH V2).below (uH HBS))
      have k0:=(uH V3).at 0
      have k1:=(uH V3).at 1
      have k2:=(uH V3).at 2
      simp at k0 k1 k2
      have hsz3:w.heap.size≤wt.heap.size:=(uH HB3).size
      clear SA A0 HO2 HB2 V2
      have hown:wt.ownsRow w.heap.size 54 3 _ acc.length (jcells acc):=uH HO3
      go_wp2_with (at_builtin;refine wpList_append_own _ rfl _ _ 48 rfl w.heap.size 54 i0 (.agg #[.int .i64 0,.int .i64 0,.string ByteArray.empty]) 3 32 Tryz.underlying48 hi hz0 hz1 hz2 rfl (by decide) _ _ _ rfl (hown.alloc _) ⟨wt.heap.size,0,none⟩ 1 1 (jcell ⟨rk,ra,rq⟩) rfl rfl ?c1 ?c2 ?c3 ?c4 ?c5 ?_)
      case c1=>
       intro j x hj
       match j,hj with
       | 0,hj=>simp at hj;subst hj;simp [Addr.add]
       | 1,hj=>simp at hj;subst hj;simp [Addr.add]
       | 2,hj=>simp at hj;subst hj;simp [Addr.add]
       | _+3,hj=>simp at hj
      case c2=>intro x hx;simp at hx;rcases hx with rfl | rfl | rfl<;>rfl
      case c3=>unfold maxLen;omega
      case c4=>omega
      case c5=>simp at hsz3 ⊢;omega
      intro v' w3 hown' hgrow _
      have R:=jown_step (uH HB3) (uH HO3) hown' hgrow hsz3
      have HO4:=hide R.1
      have HB4:=hide R.2
      clear hown' hgrow hown R
      go_wp2
      go_roundw
      case rel=>exact ⟨j.toNat,m,acc++[⟨rk,ra,rq⟩],by rw [hjn],by omega,by omega,by simp;omega,HF2,HO4,HB4⟩
      case measure=>simp [intOf];omega
theorem readF_len (s:ByteArray):∀(n i:Nat) (acc:List Rc),acc.length≤i→i≤s.size→(readF s n i acc).1.length≤s.size
 | 0,i,acc,h1,h2=>by rw [readF];simp only;omega
 | n+1,i,acc,h1,h2=>by
  by_cases hd:s.size≤i
  ·rw [readF_done hd];simp only;omega
  ·cases hx:readEntry s i with
   | none=>rw [readF_none hx];simp only;omega
   | some y=>
    obtain ⟨r,j⟩:=y
    have he:=entry_on hx
    rw [readF_some (by omega) hx]
    exact readF_len s n j.toNat _ (by simp;omega) (by omega)
theorem readV_len (s:ByteArray):(readV s).1.length≤60000:=by
 unfold readV
 split
 ·simp
 ·have:=readF_len s (s.size+1) 0 [] (by simp) (by omega)
  omega
theorem readF_end (s:ByteArray):∀(n i:Nat) (acc:List Rc),i≤s.size→∃E:Nat,(readF s n i acc).2=(E:Int)∧E≤s.size
 | 0,i,acc,h=>⟨i,rfl,h⟩
 | n+1,i,acc,h=>by
  by_cases h0:s.size≤i
  ·rw [readF_done h0];exact ⟨i,rfl,h⟩
  ·cases h1:readEntry s i with
   | none=>rw [readF_none h1];exact ⟨i,rfl,h⟩
   | some p=>
    obtain ⟨r,j⟩:=p
    rw [readF_some (by omega) h1]
    have:=entry_on h1
    exact readF_end s n j.toNat _ (by omega)
theorem readV_end (s:ByteArray):∃E:Nat,(readV s).2=(E:Int)∧E≤s.size:=by
 unfold readV
 split
 ·exact ⟨0,rfl,Nat.zero_le _⟩
 ·exact readF_end s _ 0 [] (Nat.zero_le _)
theorem bs_cut (l:List UInt8) (k:Nat):(bs l).extract 0 k=bs (l.take k):=by
 apply WideShapes.bytes_inj
 rw [Lib.extract_data]
 simp [bs]
theorem bs_rest (l:List UInt8) (k:Nat) (h:k≤l.length):(bs l).extract (l.take k).length l.length=bs (l.drop k):=by
 apply WideShapes.bytes_inj
 rw [Lib.extract_data]
 simp [bs,List.length_take,Nat.min_eq_left h]
 rw [List.take_of_length_le (by simp)]
theorem wrote_le (l:List UInt8) (r:Rc) (h:l.length≤1048576):(wrote l r).1.length≤1048576:=by
 unfold wrote
 split
 ·exact h
 ·rename_i h1
  rw [List.length_append]
  omega
def fbN (m:Nat) (n:Int):Nat:=min n.toNat m
def crLog (log:List UInt8) (safe keep:Int):List UInt8:=
 (wrote ((log.take (fbN log.length safe)++(log.drop (fbN log.length safe)).take (fbN (log.drop (fbN log.length safe)).length keep)).take (readV (bs (log.take (fbN log.length safe)++(log.drop (fbN log.length safe)).take (fbN (log.drop (fbN log.length safe)).length keep)))).2.toNat) ⟨2,0,[]⟩).1
theorem cr_log (log:List UInt8) (safe keep:Int) (E:Nat) (h:(readV (bs (log.take (fbN log.length safe)++(log.drop (fbN log.length safe)).take (fbN (log.drop (fbN log.length safe)).length keep)))).2=(E:Int)) :
  crLog log safe keep=(wrote ((log.take (fbN log.length safe)++(log.drop (fbN log.length safe)).take (fbN (log.drop (fbN log.length safe)).length keep)).take E) ⟨2,0,[]⟩).1:=by
 unfold crLog
 rw [h]
 rfl
theorem cr_len (log:List UInt8) (safe keep:Int):(log.take (fbN log.length safe)++(log.drop (fbN log.length safe)).take (fbN (log.drop (fbN log.length safe)).length keep)).length≤log.length:=by
 rw [List.length_append,List.length_take,List.length_take,List.length_drop]
 omega
theorem cr_take (log:List UInt8) (a k:Nat) (ha:a≤log.length):log.take a++(log.drop a).take k=log.take (a+k):=by
 rw [List.take_add]
theorem cr_le (log:List UInt8) (safe keep:Int) (h:log.length≤1048576):(crLog log safe keep).length≤1048576:=by
 unfold crLog
 refine wrote_le _ _ ?_
 have:=cr_len log safe keep
 rw [List.length_take]
 omega
end
end Go.Proofs.YtjkfappkpopbdaaGreat
