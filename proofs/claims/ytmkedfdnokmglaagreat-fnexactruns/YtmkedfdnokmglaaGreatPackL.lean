/-
  Texts in one: ClV, RunS, RunI, ClM, ClW, RpO, AgO, ClO, ClK, AgE, ClE.
-/
import Derived.Test.YtmkedfdnokmglaaGreatPackI
import Derived.Test.YtmkedfdnokmglaaGreatPackJ
import Derived.Test.YtmkedfdnokmglaaGreatShelf
import Derived.Sort.OwnSortedInts
import Derived.Test.YtmkedfdnokmglaaGreatPackH
import Derived.Test.YtmkedfdnokmglaaGreatPackK
set_option maxRecDepth 100000
set_option maxHeartbeats 16000000
set_option linter.unusedVariables false
set_option linter.unusedSimpArgs false
namespace Go.Proofs.YtmkedfdnokmglaaGreat
section
open Go.RowKit
structure Mgr where
 s:St
 log:List UInt8
 safe:Int
 wait:List Rpl
structure Mgs where
 x:Sls
 wo:Option Addr
 wl:Nat
 wc:Nat
structure Clu where
 m:Mgr
 ags:List Agt
 told:List Rpl
structure Cls where
 y:Mgs
 go:Option Addr
 gl:Nat
 gc:Nat
 eo:Option Addr
 tl:Nat
 tc:Nat
abbrev mgrc (y:Mgs) (m:Mgr):Array Value:=#[.slice y.x.qa y.x.ql y.x.qc,.int .i64 m.s.clock,.int .i64 m.s.epoch,.int .i64 m.s.next,.int .i64 m.s.serial,.slice y.x.aa y.x.al y.x.ac,.slice y.x.ma y.x.ml y.x.mc,.slice y.x.ca y.x.cl y.x.cc,.string (bs m.log),.int .i64 m.safe,.slice y.wo y.wl y.wc]
abbrev mgrv (y:Mgs) (m:Mgr):Value:=.agg (mgrc y m)
abbrev cluc (z:Cls) (c:Clu):Array Value:=#[.slice z.y.x.qa z.y.x.ql z.y.x.qc,.int .i64 c.m.s.clock,.int .i64 c.m.s.epoch,.int .i64 c.m.s.next,.int .i64 c.m.s.serial,.slice z.y.x.aa z.y.x.al z.y.x.ac,.slice z.y.x.ma z.y.x.ml z.y.x.mc,.slice z.y.x.ca z.y.x.cl z.y.x.cc,.string (bs c.m.log),.int .i64 c.m.safe,.slice z.y.wo z.y.wl z.y.wc,.slice z.go z.gl z.gc,.slice z.eo z.tl z.tc]
abbrev cluv (z:Cls) (c:Clu):Value:=.agg (cluc z c)
def MRow (w:World) (y:Mgs) (m:Mgr):Prop:=SRow w y.x m.s∧RplRow w y.wo y.wl m.wait
def CRow (w:World) (z:Cls) (c:Clu):Prop:=MRow w z.y c.m∧AgtRow w z.go z.gl c.ags∧RplRow w z.eo z.tl c.told
theorem MRow.below {w w':World} {y:Mgs} {m:Mgr} (h:MRow w y m) (hb:Below w.heap.size w w'):MRow w' y m:=⟨h.1.below hb,h.2.below hb⟩
theorem CRow.below {w w':World} {z:Cls} {c:Clu} (h:CRow w z c) (hb:Below w.heap.size w w'):CRow w' z c:=⟨h.1.below hb,h.2.1.below hb,h.2.2.below hb⟩
def FitMgr (m:Mgr):Prop:=FitSt m.s∧m.log.length≤1048576∧FitRpl m.wait
def FitClu (c:Clu):Prop:=FitMgr c.m∧FitAgt c.ags∧FitRpl c.told
theorem FitRpl.two {l:List Rpl} (h:FitRpl l):∀q ∈ l,q.cs.length≤1048576∧q.kill.length≤1048576:=fun q hq=>⟨(h.2 q hq).1.1,(h.2 q hq).2⟩
theorem FitAgt.one {l:List Agt} (h:FitAgt l):∀q ∈ l,q.cs.length≤1048576:=fun q hq=>(h.2 q hq).2.1
def MgrBig (y:Mgs) (m:Mgr):Prop:=StBig y.x m.s∧m.log.length≤9223372036854775807∧y.wl≤9223372036854775807∧∀q ∈ m.wait,RplBig q
def CluBig (z:Cls) (c:Clu):Prop:=MgrBig z.y c.m∧(z.gl≤9223372036854775807∧∀q ∈ c.ags,AgtBig q)∧z.tl≤9223372036854775807∧∀q ∈ c.told,RplBig q
theorem l07Ids_any (ao:Option Addr) (len cap:Nat) (l:List Con) (w:World) (h:ConRow w ao len l) (hl:len≤2000000000000) :
  Calls Tryz.prog 28 #[.slice ao len cap] w fun e w'=>∃v,e=.returned v∧Hid (IOwn w.heap.size w' v (l.map (·.id))∧Below w.heap.size w w'):=by
 obtain ⟨i0,hi,hz0,hz1,hz2⟩:=info_parts Tryz.infoI
 have HR:=hide h
 have HL:=hide h.1
 clear h
 have HB0:=hide (yA (yH _ w) (.cells #[] 3))
 have HO0:=hide (iown_empty w)
 go_enter Tryz.func28,Tryz.ntmps28
 go_wp2
 go_loopw [3,4] (fun v i wr=>∃(k:Nat),k≤len∧i=.int .i64 k∧Hid (IOwn w.heap.size wr v ((l.take k).map (·.id)))∧Hid (Below w.heap.size w wr)) (fun _ i _=>len - (intOf i).toNat)
 case atStart=>exact ⟨0,Nat.zero_le _,rfl,hide (by simpa using uH HO0),HB0⟩
 case round=>
  obtain ⟨k,hk,rfl,HO,HB⟩:=hrel
  by_cases hlt:k<len
  ·obtain ⟨b,off,rfl,hq⟩:=((uH HR).below (uH HB)).at hlt
   have hkl:k<l.length:=by have:=uH HL;omega
   have hst:=ids_step hkl
   obtain ⟨c0,c1,c2,c3,c4⟩:=hq hkl
   obtain ⟨m,hs⟩:∃q,l[k]=q:=⟨_,rfl⟩
   rw [hs] at c0 hst
   have hal:((l.take k).map (·.id)).length≤2000000000000:=by have:=uH HL;simp;omega
   obtain ⟨acc,hacc⟩:∃a,(l.take k).map (·.id)=a:=⟨_,rfl⟩
   rw [hacc] at hst hal HO
   obtain ⟨id,ap,nd,me,cp⟩:=m
   simp only at c0 hst
   have HST:=hide hst
   have hw1:w.heap.size≤wr.heap.size:=(uH HB).size
   have hown:wr.ownsRow w.heap.size 3 1 _ acc.length (icells acc):=uH HO
   clear hq hs hkl hacc hst c1 c2 c3 c4
   go_wp2_with (at_builtin;refine wpList_append_own _ rfl _ _ 35 rfl w.heap.size 3 i0 (.int .i64 0) 1 8 Tryz.underlying35 hi hz0 hz1 hz2 rfl (by decide) _ _ _ rfl (hown.alloc _) ⟨wr.heap.size,0,none⟩ 1 1 [.int .i64 id] (by first | rfl | simp) rfl ?c1 ?c2 ?c3 ?c4 ?c5 ?_)
   case c1=>exact World.news_of_block (yD wr #[.int .i64 id] 3)
   case c2=>first | rfl | (intro u hu;simp at hu;subst hu;rfl)
   case c3=>unfold maxLen;omega
   case c4=>omega
   case c5=>rw [yE];omega
   intro v' w3 hown' hgrow _
   have R:=hide (iown_step (q:=id) (uH HB) (uH HO) hown' hgrow hw1)
   clear hown' hgrow hown c0
   go_wp2
   go_roundw
   case rel=>exact ⟨k+1,by omega,by go_num,hide (by rw [uH HST];exact (uH R).1),hide (uH R).2⟩
   case measure=>simp [intOf];omega
  ·have htk:l.take k=l:=List.take_of_length_le (by have:=uH HL;omega)
   rw [htk] at HO
   go_wp2
   go_ret
   exact ⟨_,rfl,hide ⟨uH HO,uH HB⟩⟩
theorem specRuns_any (z:Cls) (c:Clu) (w:World) (h:CRow w z c) (hf:FitClu c) :
  Calls Tryz.prog 6 #[cluv z c] w fun e w'=>∃v,e=.returned v∧Hid (IOwn w.heap.size w' v (runsV c.ags)∧Below w.heap.size w w'):=by
 have hb0:=yA (yA (yH _ w) (.cells (cluc z c) 48)) (.cells #[] 74)
 have HB0:=hide hb0
 have P0:=hide ((yD w (cluc z c) 48).al (.cells #[] 74))
 have HR:=hide h.2.1
 have HGL:=hide h.2.1.1
 have hgl:z.gl≤1048576:=by have:=hf.2.1.1;have:=h.2.1.1;omega
 have HONE:=hide hf.2.1.one
 have HFL:=hide (flat_len hf.2.1.one)
 have HEND:=hide (ids_fold c.ags)
 have HFS:=hide (fun i (hi:i<c.ags.length)=>flat_step hi)
 obtain ⟨rv,hrv⟩:∃r,runsV c.ags=r:=⟨_,rfl⟩
 rw [hrv] at HEND ⊢
 clear h hf hb0 hrv
 obtain ⟨⟨⟨qa,ql,qc,aa,al,ac,ma,ml,mc,ca,cl,cc⟩,wo,wl,wc⟩,go,gl,gc,eo,tl,tc⟩:=z
 obtain ⟨⟨⟨qs,clock,epoch,next,serial,apps,ms,cs⟩,log,safe,wait⟩,ags,told⟩:=c
 simp only at HR HGL hgl HONE HFL HEND HFS
 go_enter Tryz.func6,Tryz.ntmps6
 go_wp2_with fail
 go_loopw [3,4] (fun v i wr=>∃(k g cap:Nat) (acc:List Con),k≤gl∧i=.int .i64 k∧v=.slice (some ⟨g,0,none⟩) acc.length cap∧acc.length≤cap∧acc.length≤1048576*k∧Hid (acc=(flatC (ags.take k)).foldl insC [])∧Hid (ConRow wr (some ⟨g,0,none⟩) acc.length acc)∧Hid (Blk wr w.heap.size (cluc ⟨⟨⟨qa,ql,qc,aa,al,ac,ma,ml,mc,ca,cl,cc⟩,wo,wl,wc⟩,go,gl,gc,eo,tl,tc⟩ ⟨⟨⟨qs,clock,epoch,next,serial,apps,ms,cs⟩,log,safe,wait⟩,ags,told⟩) 48)∧Hid (Below w.heap.size w wr)) (fun _ i _=>gl - (intOf i).toNat)
 case atStart=>exact ⟨0,w.heap.size+1,0,[],Nat.zero_le _,rfl,rfl,yJ _,by simp,hide (by simp [flatC]),hide ⟨rfl,.inl rfl⟩,P0,HB0⟩
 case round=>
  obtain ⟨k,g,cap,acc,hk,rfl,rfl,hac,hal,HA,HC,HP,HB⟩:=hrel
  obtain ⟨wo1,rfl⟩:∃wo:World,wo=wr:=⟨_,rfl⟩
  clear P0 HB0
  have p11:=(uH HP).at 11
  simp at p11
  by_cases hlt:k<gl
  ·obtain ⟨b,off,rfl,hq⟩:=(uH HR).at hlt
   have hkl:k<ags.length:=by have:=uH HGL;omega
   have hone:=uH HONE _ (yM hkl)
   have hfs:=uH HFS k hkl
   obtain ⟨xo,xl,xc,hat⟩:=hq hkl
   obtain ⟨q,hs⟩:∃q,ags[k]=q:=⟨_,rfl⟩
   rw [hs] at hat hone hfs
   have HAT:=hide hat
   have HXL:=hide hat.2.2.2.2.1
   have hxl:xl≤1048576:=by have:=hat.2.2.2.2.1;omega
   have HFK:=hide hfs
   clear hq hs hkl hat hone hfs
   go_wp2_with fail
   go_loopw [3,5] (fun v i wr=>∃(j g cap:Nat) (a2:List Con),j≤xl∧i=.int .i64 j∧v=.slice (some ⟨g,0,none⟩) a2.length cap∧a2.length≤cap∧a2.length≤1048576*k+j∧Hid (a2=(q.cs.take j).foldl insC acc)∧Hid (ConRow wr (some ⟨g,0,none⟩) a2.length a2)∧Hid (Blk wr w.heap.size (cluc ⟨⟨⟨qa,ql,qc,aa,al,ac,ma,ml,mc,ca,cl,cc⟩,wo,wl,wc⟩,some ⟨b,off,none⟩,gl,gc,eo,tl,tc⟩ ⟨⟨⟨qs,clock,epoch,next,serial,apps,ms,cs⟩,log,safe,wait⟩,ags,told⟩) 48)∧Hid (Below w.heap.size w wr)) (fun _ i _=>xl - (intOf i).toNat)
   case atStart=>exact ⟨0,g,cap,acc,Nat.zero_le _,rfl,rfl,hac,by omega,hide (by simp),HC,HP,HB⟩
   case round=>
    obtain ⟨j,g2,cap2,a2,hj,rfl,rfl,hac2,hal2,HA2,HC2,HP2,HB2⟩:=hrel
    obtain ⟨wi,rfl⟩:∃wo:World,wo=wr:=⟨_,rfl⟩
    clear HC HP HB p11
    have p11:=(uH HP2).at 11
    simp at p11
    obtain ⟨k0,k1,k2,k3,hrow⟩:=(uH HAT).below (uH HB2)
    by_cases hjl:j<xl
    ·obtain ⟨b2,off2,rfl,hq2⟩:=hrow.at hjl
     have hjc:j<q.cs.length:=by have:=uH HXL;omega
     have hst:=cfold_step acc hjc
     obtain ⟨c0,c1,c2,c3,c4⟩:=hq2 hjc
     obtain ⟨x,hx⟩:∃x,q.cs[j]=x:=⟨_,rfl⟩
     rw [hx] at c0 c1 c2 c3 c4 hst
     rw [←uH HA2] at hst
     obtain ⟨d0,d1,dn,d3,d4⟩:=x
     simp only at c0 c1 c2 c3 c4
     have HST:=hide hst
     have CA:=hide (l05Add_any g2 a2.length cap2 a2 ⟨d0,d1,dn,d3,d4⟩ wi (uH HC2) hac2 (by omega))
     have HLN:=hide (insC_len a2 ⟨d0,d1,dn,d3,d4⟩)
     clear hq2 hx hjc hst hrow k0 k1 k2
     go_wp2_with fail
     refine (uH CA).mono ?_
     rintro e w2 ⟨v,rfl,ho,hn,hb⟩
     obtain ⟨ao,cp,rfl,hr,hcp,hg⟩:=cown_row (uH ho)
     obtain ⟨g3,hg3⟩:∃g,ao=some ⟨g,0,none⟩:=by
      obtain ⟨g,cur,e,_⟩:=hg (fun e=>by have:=uH HLN;rw [e] at this;simp at this)
      exact ⟨g,e⟩
     subst hg3
     have HC3:=hide hr
     have HP3:=hide ((uH HP2).below (uH hb))
     have HB3:=hide (yB (uH HB2) (uH hb))
     obtain ⟨a3,ha3⟩:∃a,insC a2 ⟨d0,d1,dn,d3,d4⟩=a:=⟨_,rfl⟩
     rw [ha3] at HC3 HST HLN hcp ⊢
     have hln:=uH HLN
     clear ho hn hb hg hr ha3 CA HC2 HP2 HB2 c0 c1 c2 c3 c4 k3 p11 HLN HA2
     obtain ⟨n3,hn3⟩:∃n,a3.length=n:=⟨_,rfl⟩
     have HN3:=hide hn3
     have hbd:n3≤1048576*k+(j+1):=by omega
     have hcp3:n3≤cp:=by omega
     rw [hn3] at HC3 ⊢
     clear hln hcp hn3
     go_wp2
     go_roundw
     case rel=>exact ⟨j+1,g3,cp,a3,by omega,by go_num,by rw [uH HN3],by rw [uH HN3];exact hcp3,by rw [uH HN3];exact hbd,hide (uH HST).symm,hide (by rw [uH HN3];exact uH HC3),HP3,HB3⟩
     case measure=>simp [intOf];omega
    ·have hje:q.cs.take j=q.cs:=List.take_of_length_le (by have:=uH HXL;omega)
     have HN:=hide (show a2=(flatC (ags.take (k+1))).foldl insC [] from by rw [uH HFK,List.foldl_append,←uH HA,uH HA2,hje])
     have hbd:a2.length≤1048576*(k+1):=by omega
     clear hje hrow k0 k1 k2
     go_wp2
     go_roundw
     case rel=>exact ⟨k+1,g2,cap2,a2,by omega,by go_num,rfl,hac2,hbd,HN,HC2,HP2,HB2⟩
     case measure=>simp [intOf];omega
  ·have hke:ags.take k=ags:=List.take_of_length_le (by have:=uH HGL;omega)
   have HE:=hide (show acc.map (·.id)=rv from by rw [uH HA,hke];exact uH HEND)
   have CI:=hide (l07Ids_any (some ⟨g,0,none⟩) acc.length cap acc wo1 (uH HC) (by omega))
   rw [uH HE] at CI
   clear hke HA HEND
   go_wp2_with fail
   refine (uH CI).mono ?_
   rintro e w2 ⟨v,rfl,hv⟩
   have HV:=hide hv
   clear hv
   go_wp2
   go_ret
   exact ⟨_,rfl,hide ⟨iown_base (uH (uH HV)).1 (uH HB).size,yB (uH HB) (uH (uH HV)).2⟩⟩
end
section
open Go.RowKit Go.Sort
theorem sortI_any {B:Nat} {v:Value} {l:List Int} {w:World} (h:IOwn B w v l) (hl:l.length≤2000000000000) :
  Calls Tryz.prog 32 #[v] w fun e w'=>e=.returned (.tuple #[])∧IOwn B w' v (l.mergeSort fun x y=>decide (x≤y))∧w.grownBy w' v.ownBlock:=by
 rcases h.2 with ⟨rfl,h0⟩ | ⟨g,cap,cur,rfl,hB,h1,h2,h3,h4,h5⟩
 ·obtain rfl:l=[]:=List.eq_nil_of_length_eq_zero h0
  refine (Tryz.slices_Sort_int_none none 0 w).mono ?_
  rintro e w' ⟨rfl,rfl⟩
  exact ⟨rfl,by rw [List.mergeSort_nil];exact h,⟨rfl,rfl,rfl,yJ _,fun _ _ _=>rfl⟩⟩
 ·have h5':cur.toList.take l.length=l.map (Value.int .i64):=by
   have:=h5
   rw [Nat.mul_one] at this
   exact this
  refine (Tryz.slices_Sort_int g 0 cap l w (holds_of_blockI h1 h5') (lt_of_block h1) (by omega)).mono ?_
  rintro e w' ⟨rfl,n,os,rfl⟩
  have hlen:(l.mergeSort fun x y=>decide (x≤y)).length=l.length:=List.length_mergeSort _
  refine ⟨rfl,?_,grownBy_sortedI _⟩
  have:=ownsRow_sortedI (n:=n) (os:=os) (ts:=l.mergeSort fun x y=>decide (x≤y)) hlen hB h1 h2 h3 (by omega)
  unfold IOwn
  rw [hlen]
  exact this
theorem implRuns_any (z:Cls) (c:Clu) (w:World) (h:CRow w z c) (hf:FitClu c) :
  Calls Tryz.prog 8 #[cluv z c] w fun e w'=>∃v,e=.returned v∧Hid (IOwn w.heap.size w' v (runsV c.ags)∧Below w.heap.size w w'):=by
 obtain ⟨i0,hi,hz0,hz1,hz2⟩:=info_parts Tryz.infoI
 have HB0:=hide (yA (yH _ w) (.cells (cluc z c) 48))
 have P0:=hide (yD w (cluc z c) 48)
 have HR:=hide h.2.1
 have HGL:=hide h.2.1.1
 have hgl:z.gl≤1048576:=by have:=hf.2.1.1;have:=h.2.1.1;omega
 have HONE:=hide hf.2.1.one
 have HFL:=hide (flat_len hf.2.1.one)
 have HFS:=hide (fun i (hi:i<c.ags.length)=>flat_step hi)
 have HEND:=hide (show ((flatC c.ags).map (·.id)).mergeSort (fun x y=>decide (x≤y))=runsV c.ags from rfl)
 obtain ⟨rv,hrv⟩:∃r,runsV c.ags=r:=⟨_,rfl⟩
 rw [hrv] at HEND ⊢
 clear h hf hrv
 obtain ⟨⟨⟨qa,ql,qc,aa,al,ac,ma,ml,mc,ca,cl,cc⟩,wo,wl,wc⟩,go,gl,gc,eo,tl,tc⟩:=z
 obtain ⟨⟨⟨qs,clock,epoch,next,serial,apps,ms,cs⟩,log,safe,wait⟩,ags,told⟩:=c
 simp only at HR HGL hgl HONE HFL HEND HFS
 have p11:=(uH P0).at 11
 simp at p11
 go_enter Tryz.func8,Tryz.ntmps8
 go_wp2_with fail
 clear p11 P0
 go_loopw [3,9] (fun v i wr=>∃(k:Nat),k≤gl∧i=.int .i64 k∧Hid (IOwn w.heap.size wr v ((flatC (ags.take k)).map (·.id)))∧Hid (Below w.heap.size w wr)) (fun _ i _=>gl - (intOf i).toNat)
 case atStart=>exact ⟨0,Nat.zero_le _,rfl,hide (by simpa [flatC] using iown_nil _ _),HB0⟩
 case round=>
  obtain ⟨k,hk,rfl,HO,HB⟩:=hrel
  clear HB0
  by_cases hlt:k<gl
  ·obtain ⟨b,off,rfl,hq⟩:=((uH HR).below (uH HB)).at hlt
   have hkl:k<ags.length:=by have:=uH HGL;omega
   have hone:=uH HONE _ (yM hkl)
   have hfs:=congrArg (List.map (·.id)) (uH HFS k hkl)
   rw [List.map_append] at hfs
   obtain ⟨xo,xl,xc,hat⟩:=hq hkl
   obtain ⟨q,hs⟩:∃q,ags[k]=q:=⟨_,rfl⟩
   rw [hs] at hat hone hfs
   have hal:((flatC (ags.take k)).map (·.id)).length≤1099511627776:=by rw [List.length_map];have:=uH HFL k;omega
   obtain ⟨acc,hacc⟩:∃a,(flatC (ags.take k)).map (·.id)=a:=⟨_,rfl⟩
   rw [hacc] at hfs hal HO
   obtain ⟨nm,mem,cpu,xs⟩:=q
   simp only at hfs hone
   obtain ⟨k0,k1,k2,k3,hrow⟩:=hat
   simp only at k0 k1 k2 k3 hrow
   have hx:=yA (yH _ wr) (.cells #[.string (bs nm),.int .i64 mem,.int .i64 cpu,.slice xo xl xc] 71)
   have HB1:=hide (yB (uH HB) hx)
   have HO1:=hide (iown_below (uH HO) hx)
   have q3:=(yD wr #[.string (bs nm),.int .i64 mem,.int .i64 cpu,.slice xo xl xc] 71).at 3
   simp at q3
   have CI:=hide (idsOf_any xo xl xc xs _ (hrow.below hx) (by have:=hrow.1;omega))
   have HFK:=hide hfs
   have hxs:(xs.map (·.id)).length≤1048576:=by rw [List.length_map];exact hone
   clear hq hs hkl hrow hone hfs hacc HO HB hx
   go_wp2_with fail
   refine (uH CI).mono ?_
   rintro e w2 ⟨v2,rfl,hv⟩
   obtain ⟨ho2,hb2⟩:=uH hv
   have HB2:=hide (yB (uH HB1) hb2)
   have HO2:=hide (iown_below (uH HO1) hb2)
   obtain ⟨m2,hm2⟩:∃m,xs.map (·.id)=m:=⟨_,rfl⟩
   rw [hm2] at ho2 HFK hxs
   obtain ⟨ao,cp,rfl,hn,hsrc⟩:=iown_src ho2
   have hone2:∀u ∈ icells m2,u.oneCell'=true:=fun u hu=>by
    obtain ⟨x,_,rfl⟩:=List.mem_map.1 hu
    rfl
   have hw2:w.heap.size≤w2.heap.size:=(uH HB2).size
   have hown:w2.ownsRow w.heap.size 3 1 _ acc.length (icells acc):=uH HO2
   have HN:=hide hn
   have HSRC:=hide hsrc
   have HL2:=hide (show (icells m2).length=m2.length*1 by rw [icl,Nat.mul_one])
   have HONE2:=hide hone2
   clear hv ho2 hb2 hm2 CI HB1 HO1 k0 k1 k2 k3 q3 hn hsrc hone2
   go_wp2_with (at_builtin;refine wpList_append_opt _ rfl _ _ 35 rfl w.heap.size 3 i0 (.int .i64 0) 1 8 Tryz.underlying35 hi hz0 hz1 hz2 rfl (by decide) _ _ _ rfl hown ao m2.length cp (icells m2) (by first | rfl | simp) (uH HN) (uH HL2) (uH HSRC) (uH HONE2) ?c3 ?c4 hw2 ?_)
   case c3=>unfold maxLen;omega
   case c4=>omega
   intro v' w3 hown' hgrow _
   have R:=hide (iown_more (m:=m2) (uH HB2) (uH HO2) hown' hgrow hw2)
   clear hown' hgrow hown HN HSRC HL2 HONE2
   go_wp2
   go_roundw
   case rel=>exact ⟨k+1,by omega,by go_num,hide (by rw [uH HFK];exact (uH R).1),hide (uH R).2⟩
   case measure=>simp [intOf];omega
  ·have hke:ags.take k=ags:=List.take_of_length_le (by have:=uH HGL;omega)
   have hbd:((flatC (ags.take k)).map (·.id)).length≤2000000000000:=by rw [List.length_map];have:=uH HFL k;omega
   have CS:=hide (sortI_any (uH HO) hbd)
   rw [hke,uH HEND] at CS
   clear hke hbd
   go_wp2_with fail
   refine (uH CS).mono ?_
   rintro e w2 ⟨rfl,ho,hg⟩
   have HO2:=hide ho
   have HB2:=hide (show Below w.heap.size w w2 from (uH HB).grown hg (uH HB).size (fun g hg2=>by
    rcases (uH HO).2 with ⟨rfl,_⟩ | ⟨g',cap,cur,rfl,hB,_⟩
    ·simp [Value.ownBlock] at hg2
    ·simp [Value.ownBlock] at hg2;omega))
   clear ho hg CS HO HB
   go_wp2
   go_ret
   exact ⟨_,rfl,hide ⟨uH HO2,uH HB2⟩⟩
end
section
open Go.RowKit
theorem blk_part {g t:Nat}:∀(vs:List Value) (i:Nat) (w:World) (arr:Array Value),Blk w g arr t→i+vs.length≤arr.size→Blk (setsW w g i vs) g (arr.toList.take i++vs++arr.toList.drop (i+vs.length)).toArray t
 | [],i,w,arr,h,hn=>by
  have e:(arr.toList.take i++[]++arr.toList.drop (i+([]:List Value).length)).toArray=arr:=by simp
  rw [e];exact h
 | v::vs,i,w,arr,h,hn=>by
  have h1:=h.set i v
  have h2:=blk_part vs (i+1) _ _ h1 (by simp at hn ⊢;omega)
  have hi:i<arr.toList.length:=by simp at hn ⊢;omega
  have e:((arr.setIfInBounds i v).toList.take (i+1)++vs++(arr.setIfInBounds i v).toList.drop (i+1+vs.length))=arr.toList.take i++v::vs++arr.toList.drop (i+(v::vs).length):=by
   rw [Array.toList_setIfInBounds,List.take_succ_eq_append_getElem (by simpa using hi),List.take_set_of_le (yJ _),List.drop_set_of_lt (by omega)]
   simp [Nat.add_assoc,Nat.add_comm 1]
  rw [e] at h2
  exact h2
def Hi (b:Nat) (w w':World):Prop:=w.heap.size≤w'.heap.size∧∀k,b<k→k<w.heap.size→w'.heap[k]? = w.heap[k]?
theorem hi_sets (w:World) (b i:Nat) (vs:List Value):Hi b w (setsW w b i vs):=by
 refine sets_keep (P:=fun wx=>Hi b w wx) (fun wx j v hx=>⟨by rw [set_size];exact hx.1,fun k h1 h2=>?_⟩) vs i w ⟨yJ _,fun _ _ _=>rfl⟩
 rw [heap_setCell_other wx ⟨b,j,none⟩ k v (by show k≠b;omega)]
 exact hx.2 k h1 h2
theorem hi_row (w:World) (b:Nat) (arr:Array Value):Hi b w (w.setRow b arr):=⟨by rw [setRow_size];exact yJ _,fun k h1 _=>setRow_other w b k arr (by omega)⟩
theorem hi_cell {b:Nat} {w w':World} (h:Hi b w w') {k j:Nat} (hk:b<k) {v:Value} (hc:w.cell? ⟨k,j,none⟩=some v):w'.cell? ⟨k,j,none⟩=some v:=(World.cell?_of_block (w:=w) (h.2 k hk (yG hc))).trans hc
theorem Cel.hi {b:Nat} {w w':World} (h:Hi b w w') {t:TypeId} {g N:Nat} (hg:b<g) (hc:Cel w t g N):Cel w' t g N:=let ⟨arr,h1,h2⟩:=hc;⟨arr,(h.2 g hg (lt_of_block h1)).trans h1,h2⟩
theorem ConRow.hi {b:Nat} {w w':World} (h:Hi b w w') {ao:Option Addr} {len:Nat} {l:List Con} (hr:ConRow w ao len l) (hg:∀c o,ao=some ⟨c,o,none⟩→b<c):ConRow w' ao len l:=by
 obtain ⟨h1,h2⟩:=hr
 refine ⟨h1,?_⟩
 rcases h2 with h2 | ⟨c,off,h3,h4⟩
 ·exact .inl h2
 ·have hc:=hg c off h3
  exact .inr ⟨c,off,h3,fun i hi=>let ⟨a,b,c,d,e⟩:=h4 i hi;⟨hi_cell h hc a,hi_cell h hc b,hi_cell h hc c,hi_cell h hc d,hi_cell h hc e⟩⟩
theorem NRow.hi {b:Nat} {w w':World} (h:Hi b w w') {ao:Option Addr} {len:Nat} {l:List Int} (hr:NRow w ao len l) (hg:∀c o,ao=some ⟨c,o,none⟩→b<c):NRow w' ao len l:=by
 obtain ⟨h1,h2⟩:=hr
 refine ⟨h1,?_⟩
 rcases h2 with h2 | ⟨c,off,h3,h4⟩
 ·exact .inl h2
 ·exact .inr ⟨c,off,h3,fun i hi=>hi_cell h (hg c off h3) (h4 i hi)⟩
theorem AskRow.hi {b:Nat} {w w':World} (h:Hi b w w') {ao:Option Addr} {len:Nat} {l:List Ask} (hr:AskRow w ao len l) (hg:∀c o,ao=some ⟨c,o,none⟩→b<c):AskRow w' ao len l:=by
 obtain ⟨h1,h2⟩:=hr
 refine ⟨h1,?_⟩
 rcases h2 with h2 | ⟨c,off,h3,h4⟩
 ·exact .inl h2
 ·have hc:=hg c off h3
  exact .inr ⟨c,off,h3,fun i hi=>let ⟨a,b,c,d,e⟩:=h4 i hi;⟨hi_cell h hc a,hi_cell h hc b,hi_cell h hc c,hi_cell h hc d,hi_cell h hc e⟩⟩
theorem blk0_hi {b:Nat} {w w':World} (h:Hi b w w') {t:TypeId} {g n:Nat} (hg:b<g) (hc:ConBlk w t g n 0 []):ConBlk w' t g n 0 []:=let ⟨arr,h1,h2⟩:=hc;⟨arr,(h.2 g hg (lt_of_block h1)).trans h1,h2⟩
theorem iblk0_hi {b:Nat} {w w':World} (h:Hi b w w') {t:TypeId} {g n:Nat} (hg:b<g) (hc:IBlk w t g n 0 []):IBlk w' t g n 0 []:=let ⟨arr,h1,h2⟩:=hc;⟨arr,(h.2 g hg (lt_of_block h1)).trans h1,h2⟩
theorem CsOwn.hi {b g:Nat} {w w':World} (h:Hi b w w') {ao:Option Addr} {len cap:Nat} {l:List Con} (hg:b<g) (ho:CsOwn w g ao len cap l):CsOwn w' g ao len cap l:=by
 obtain ⟨h1,h2,c,rfl,h3,h4⟩:=ho
 exact ⟨h1.hi h (fun c' o e=>by cases e;omega),h2,c,rfl,h3,blk0_hi h (by omega) h4⟩
theorem KlOwn.hi {b g:Nat} {w w':World} (h:Hi b w w') {ao:Option Addr} {len cap:Nat} {l:List Int} (hg:b<g) (ho:KlOwn w g ao len cap l):KlOwn w' g ao len cap l:=by
 obtain ⟨h1,h2,c,rfl,h3,h4⟩:=ho
 exact ⟨h1.hi h (fun c' o e=>by cases e;omega),h2,c,rfl,h3,iblk0_hi h (by omega) h4⟩
theorem RplBlk.hi {b:Nat} {w w':World} (hh:Hi b w w') {t:TypeId} {g n k:Nat} {l:List Rpl} (hb:b<g) (h:RplBlk w t g n k l):RplBlk w' t g n k l:=by
 obtain ⟨arr,h1,h2,h3⟩:=h
 exact ⟨arr,(hh.2 g hb (lt_of_block h1)).trans h1,h2,fun i hi hk=>let ⟨s0,s1,xo,xl,xc,yo,yl,yc,t0,t1,o0,o1⟩:=h3 i hi hk;⟨s0,s1,xo,xl,xc,yo,yl,yc,t0,t1,o0.hi hh hb,o1.hi hh hb⟩⟩
theorem AgtBlk.hi {b:Nat} {w w':World} (hh:Hi b w w') {t:TypeId} {g n k:Nat} {l:List Agt} (hb:b<g) (h:AgtBlk w t g n k l):AgtBlk w' t g n k l:=by
 obtain ⟨arr,h1,h2,h3⟩:=h
 exact ⟨arr,(hh.2 g hb (lt_of_block h1)).trans h1,h2,fun i hi hk=>let ⟨s0,s1,s2,xo,xl,xc,t0,o0⟩:=h3 i hi hk;⟨s0,s1,s2,xo,xl,xc,t0,o0.hi hh hb⟩⟩
theorem askblk0_hi {b:Nat} {w w':World} (h:Hi b w w') {t:TypeId} {g n:Nat} (hg:b<g) (hc:AskBlk w t g n 0 []):AskBlk w' t g n 0 []:=let ⟨arr,h1,h2⟩:=hc;⟨arr,(h.2 g hg (lt_of_block h1)).trans h1,h2⟩
theorem AskOwn.hi {b g:Nat} {w w':World} (h:Hi b w w') {ao:Option Addr} {len cap:Nat} {l:List Ask} (hg:b<g) (ho:AskOwn w g ao len cap l):AskOwn w' g ao len cap l:=
 ⟨ho.1.hi h (fun c o e=>by have:=ho.2.2.1 c o e;omega),ho.2.1,ho.2.2.1,let ⟨c,e,d,f⟩:=ho.2.2.2;⟨c,e,d,askblk0_hi h (by have:=ho.2.2.1 c 0 e;omega) f⟩⟩
theorem SOwn4.hi {b:Nat} {w w':World} (hh:Hi b w w') {g1 g2 g3 g4 ql al ml cl:Nat} {s:St} (hb:b<g1∧b<g2∧b<g3∧b<g4) (h:SOwn4 w g1 g2 g3 g4 ql al ml cl s):SOwn4 w' g1 g2 g3 g4 ql al ml cl s:=by
 obtain ⟨⟨q1,q2,q3⟩,⟨a1,a2,a3,a4⟩,⟨m1,m2,m3⟩,⟨c1,c2,c3⟩⟩:=h
 exact ⟨⟨q1,(hh.2 _ hb.1 (lt_of_block q2)).trans q2,q3⟩,⟨a1,(hh.2 _ hb.2.1 (lt_of_block a2)).trans a2,a3,fun i hi hk=>let ⟨x,y,ao,len,cap,e,o⟩:=a4 i hi hk;⟨x,y,ao,len,cap,e,o.hi hh hb.2.1⟩⟩,⟨m1,(hh.2 _ hb.2.2.1 (lt_of_block m2)).trans m2,m3⟩,⟨c1,(hh.2 _ hb.2.2.2 (lt_of_block c2)).trans c2,c3⟩⟩
theorem AWh.hi {b:Nat} {w w':World} (hh:Hi b w w') {B E g n:Nat} (hb:b<g∧b<B) (h:AWh w B E g n):AWh w' B E g n:=
 ⟨h.1.hi hh hb.1,fun i hi=>let ⟨c,len,a,k,d⟩:=h.2 i hi;⟨c,len,hi_cell hh hb.1 a,k.hi hh (by omega),d⟩⟩
theorem RWh.hi {b:Nat} {w w':World} (hh:Hi b w w') {B E g n:Nat} (hb:b<g∧b<B) (h:RWh w B E g n):RWh w' B E g n:=
 ⟨h.1.hi hh hb.1,fun i hi=>let ⟨c,xl,d,yl,a1,a2,k1,k2,e⟩:=h.2 i hi;⟨c,xl,d,yl,hi_cell hh hb.1 a1,hi_cell hh hb.1 a2,k1.hi hh (by omega),k2.hi hh (by omega),e⟩⟩
theorem GWh.hi {b:Nat} {w w':World} (hh:Hi b w w') {B E g n:Nat} (hb:b<g∧b<B) (h:GWh w B E g n):GWh w' B E g n:=
 ⟨h.1.hi hh hb.1,fun i hi=>let ⟨c,xl,a1,k1,e⟩:=h.2 i hi;⟨c,xl,hi_cell hh hb.1 a1,k1.hi hh (by omega),e⟩⟩
def MMd (w:World) (B E:Nat) (y:Mgs) (m:Mgr):Prop:=∃M g1 g2 g3 g4 gw,y.x=own4 g1 g2 g3 g4 y.x.ql y.x.al y.x.ml y.x.cl∧y.wo=some ⟨gw,0,none⟩∧y.wc=y.wl∧SLen y.x m.s∧y.wl=m.wait.length∧SOwn4 w g1 g2 g3 g4 y.x.ql y.x.al y.x.ml y.x.cl m.s∧AWh w B M g2 y.x.al∧(B≤g1∧g1<g2∧g2<g3∧g3<g4∧g4<M)∧RplBlk w 110 gw y.wl y.wl m.wait∧RWh w M E gw y.wl∧M≤gw∧gw<E
theorem MMd.hi {b:Nat} {w w':World} (hh:Hi b w w') {B E:Nat} {y:Mgs} {m:Mgr} (hb:b<B) (h:MMd w B E y m):MMd w' B E y m:=by
 obtain ⟨M,g1,g2,g3,g4,gw,e1,e2,e3,e4,e5,h1,h2,h3,h4,h5,h6,h7⟩:=h
 exact ⟨M,g1,g2,g3,g4,gw,e1,e2,e3,e4,e5,h1.hi hh ⟨by omega,by omega,by omega,by omega⟩,h2.hi hh ⟨by omega,by omega⟩,h3,h4.hi hh (by omega),h5.hi hh ⟨by omega,by omega⟩,h6,h7⟩
theorem MMd.below {w w':World} {B E:Nat} {y:Mgs} {m:Mgr} (h:MMd w B E y m) (hb:Below w.heap.size w w'):MMd w' B E y m:=by
 obtain ⟨M,g1,g2,g3,g4,gw,e1,e2,e3,e4,e5,h1,h2,h3,h4,h5,h6,h7⟩:=h
 exact ⟨M,g1,g2,g3,g4,gw,e1,e2,e3,e4,e5,h1.below hb,h2.below hb,h3,h4.below hb,h5.below hb,h6,h7⟩
theorem MMd.row {w:World} {B E:Nat} {y:Mgs} {m:Mgr} (h:MMd w B E y m):MRow w y m:=by
 obtain ⟨M,g1,g2,g3,g4,gw,e1,e2,e3,e4,e5,h1,h2,h3,h4,h5,h6,h7⟩:=h
 refine ⟨by rw [e1];exact h1.row e4,?_⟩
 rw [e2]
 exact h4.row e5
theorem MMd.base {w:World} {B B' E:Nat} {y:Mgs} {m:Mgr} (h:MMd w B E y m) (hb:B'≤B):MMd w B' E y m:=by
 obtain ⟨M,g1,g2,g3,g4,gw,e1,e2,e3,e4,e5,h1,h2,h3,h4,h5,h6,h7⟩:=h
 exact ⟨M,g1,g2,g3,g4,gw,e1,e2,e3,e4,e5,h1,h2.mono hb (yJ _),⟨by omega,h3.2⟩,h4,h5,h6,h7⟩
def CMd (w:World) (B E:Nat) (z:Cls) (c:Clu):Prop:=∃M1 M2 ga gt,MMd w B M1 z.y c.m∧z.go=some ⟨ga,0,none⟩∧z.gc=z.gl∧z.gl=c.ags.length∧AgtBlk w 71 ga z.gl z.gl c.ags∧GWh w M1 M2 ga z.gl∧M1≤ga∧ga<M2∧z.eo=some ⟨gt,0,none⟩∧z.tc=z.tl∧z.tl=c.told.length∧RplBlk w 110 gt z.tl z.tl c.told∧RWh w M2 E gt z.tl∧M2≤gt∧gt<E∧B≤M1
theorem CMd.below {w w':World} {B E:Nat} {z:Cls} {c:Clu} (h:CMd w B E z c) (hb:Below w.heap.size w w'):CMd w' B E z c:=by
 obtain ⟨M1,M2,ga,gt,h1,e1,e2,e3,h2,h3,h4,h5,e4,e5,e6,h6,h7,h8⟩:=h
 exact ⟨M1,M2,ga,gt,h1.below hb,e1,e2,e3,h2.below hb,h3.below hb,h4,h5,e4,e5,e6,h6.below hb,h7.below hb,h8⟩
theorem CMd.hi {b:Nat} {w w':World} (hh:Hi b w w') {B E:Nat} {z:Cls} {c:Clu} (hb:b<B) (h:CMd w B E z c):CMd w' B E z c:=by
 obtain ⟨M1,M2,ga,gt,h1,e1,e2,e3,h2,h3,h4,h5,e4,e5,e6,h6,h7,h8⟩:=h
 exact ⟨M1,M2,ga,gt,h1.hi hh hb,e1,e2,e3,h2.hi hh (by omega),h3.hi hh ⟨by omega,by omega⟩,h4,h5,e4,e5,e6,h6.hi hh (by omega),h7.hi hh ⟨by omega,by omega⟩,h8⟩
theorem CMd.row {w:World} {B E:Nat} {z:Cls} {c:Clu} (h:CMd w B E z c):CRow w z c:=by
 obtain ⟨M1,M2,ga,gt,h1,e1,e2,e3,h2,h3,h4,h5,e4,e5,e6,h6,h7,h8⟩:=h
 refine ⟨h1.row,?_,?_⟩
 ·rw [e1];exact h2.row e3
 ·rw [e4];exact h6.row e6
def OneC (w:World) (a:Cls) (b:Clu) (wx:World):Prop:=Blk wx w.heap.size (cluc a b) 33∧Below w.heap.size w wx
theorem OneC.new (w:World) (a:Cls) (b:Clu):OneC w a b (w.alloc (.cells (cluc a b) 33)):=⟨yD _ _ _,yA (yH _ _) _⟩
theorem OneC.call {w wx wy:World} {a:Cls} {b:Clu} (h:OneC w a b wx) (hb:Below wx.heap.size wx wy):OneC w a b wy:=⟨h.1.below hb,yB h.2 hb⟩
theorem OneC.mkd {w wx wy:World} {a:Cls} {b:Clu} {B E:Nat} (h:OneC w a b wx) (hm:Mkd B E wx wy) (h1:w.heap.size<B) (h2:B≤wx.heap.size):OneC w a b wy:=⟨hm.blk h.1 (.inl h1),h.2.trans ((hm.below h2).mono (by omega))⟩
theorem OneC.low {w wx wy:World} {a:Cls} {b:Clu} {B:Nat} (h:OneC w a b wx) (hm:Below B wx wy) (h1:w.heap.size<B):OneC w a b wy:=⟨(hm.block _ h1).trans h.1,h.2.trans (hm.mono (by omega))⟩
theorem OneC.read (w:World) (a:Cls) (b:Clu):∀wx,OneC w a b wx→wx.cell? ⟨w.heap.size,0,none⟩=some (.slice a.y.x.qa a.y.x.ql a.y.x.qc)∧wx.cell? ⟨w.heap.size,1,none⟩=some (.int .i64 b.m.s.clock)∧wx.cell? ⟨w.heap.size,2,none⟩=some (.int .i64 b.m.s.epoch)∧wx.cell? ⟨w.heap.size,3,none⟩=some (.int .i64 b.m.s.next)∧wx.cell? ⟨w.heap.size,4,none⟩=some (.int .i64 b.m.s.serial)∧wx.cell? ⟨w.heap.size,5,none⟩=some (.slice a.y.x.aa a.y.x.al a.y.x.ac)∧wx.cell? ⟨w.heap.size,6,none⟩=some (.slice a.y.x.ma a.y.x.ml a.y.x.mc)∧wx.cell? ⟨w.heap.size,7,none⟩=some (.slice a.y.x.ca a.y.x.cl a.y.x.cc)∧wx.cell? ⟨w.heap.size,8,none⟩=some (.string (bs b.m.log))∧wx.cell? ⟨w.heap.size,9,none⟩=some (.int .i64 b.m.safe)∧wx.cell? ⟨w.heap.size,10,none⟩=some (.slice a.y.wo a.y.wl a.y.wc)∧wx.cell? ⟨w.heap.size,11,none⟩=some (.slice a.go a.gl a.gc)∧wx.cell? ⟨w.heap.size,12,none⟩=some (.slice a.eo a.tl a.tc):=
 fun wx h=>⟨h.1.at 0,h.1.at 1,h.1.at 2,h.1.at 3,h.1.at 4,h.1.at 5,h.1.at 6,h.1.at 7,h.1.at 8,h.1.at 9,h.1.at 10,h.1.at 11,h.1.at 12⟩
def TwoC (w9 w:World) (a:Cls) (b:Clu) (g:Nat) (z:Cls) (B E:Nat) (wx:World):Prop:=OneC w a b wx∧Blk wx g (cluc z b) 48∧CMd wx B E z b∧Below w9.heap.size w9 wx
theorem TwoC.call {w9 w wx wy:World} {a:Cls} {b:Clu} {g:Nat} {z:Cls} {B E:Nat} (h:TwoC w9 w a b g z B E wx) (hb:Below wx.heap.size wx wy):TwoC w9 w a b g z B E wy:=⟨h.1.call hb,h.2.1.below hb,h.2.2.1.below hb,yB h.2.2.2 hb⟩
theorem TwoC.drew {w9 w wx:World} {a:Cls} {b:Clu} {g:Nat} {z:Cls} {B E:Nat} (h:TwoC w9 w a b g z B E wx):TwoC w9 w a b g z B E wx.drew:=h.call (yH _ _).drew
theorem TwoC.read (w9 w:World) (a:Cls) (b:Clu) (g:Nat) (z:Cls) (B E:Nat):∀wx,TwoC w9 w a b g z B E wx→(wx.cell? ⟨w.heap.size,0,none⟩=some (.slice a.y.x.qa a.y.x.ql a.y.x.qc)∧wx.cell? ⟨w.heap.size,1,none⟩=some (.int .i64 b.m.s.clock)∧wx.cell? ⟨w.heap.size,2,none⟩=some (.int .i64 b.m.s.epoch)∧wx.cell? ⟨w.heap.size,3,none⟩=some (.int .i64 b.m.s.next)∧wx.cell? ⟨w.heap.size,4,none⟩=some (.int .i64 b.m.s.serial)∧wx.cell? ⟨w.heap.size,5,none⟩=some (.slice a.y.x.aa a.y.x.al a.y.x.ac)∧wx.cell? ⟨w.heap.size,6,none⟩=some (.slice a.y.x.ma a.y.x.ml a.y.x.mc)∧wx.cell? ⟨w.heap.size,7,none⟩=some (.slice a.y.x.ca a.y.x.cl a.y.x.cc)∧wx.cell? ⟨w.heap.size,8,none⟩=some (.string (bs b.m.log))∧wx.cell? ⟨w.heap.size,9,none⟩=some (.int .i64 b.m.safe)∧wx.cell? ⟨w.heap.size,10,none⟩=some (.slice a.y.wo a.y.wl a.y.wc)∧wx.cell? ⟨w.heap.size,11,none⟩=some (.slice a.go a.gl a.gc)∧wx.cell? ⟨w.heap.size,12,none⟩=some (.slice a.eo a.tl a.tc))∧wx.cell? ⟨g,0,none⟩=some (.slice z.y.x.qa z.y.x.ql z.y.x.qc)∧wx.cell? ⟨g,1,none⟩=some (.int .i64 b.m.s.clock)∧wx.cell? ⟨g,2,none⟩=some (.int .i64 b.m.s.epoch)∧wx.cell? ⟨g,3,none⟩=some (.int .i64 b.m.s.next)∧wx.cell? ⟨g,4,none⟩=some (.int .i64 b.m.s.serial)∧wx.cell? ⟨g,5,none⟩=some (.slice z.y.x.aa z.y.x.al z.y.x.ac)∧wx.cell? ⟨g,6,none⟩=some (.slice z.y.x.ma z.y.x.ml z.y.x.mc)∧wx.cell? ⟨g,7,none⟩=some (.slice z.y.x.ca z.y.x.cl z.y.x.cc)∧wx.cell? ⟨g,8,none⟩=some (.string (bs b.m.log))∧wx.cell? ⟨g,9,none⟩=some (.int .i64 b.m.safe)∧wx.cell? ⟨g,10,none⟩=some (.slice z.y.wo z.y.wl z.y.wc)∧wx.cell? ⟨g,11,none⟩=some (.slice z.go z.gl z.gc)∧wx.cell? ⟨g,12,none⟩=some (.slice z.eo z.tl z.tc):=
 fun wx h=>⟨⟨h.1.1.at 0,h.1.1.at 1,h.1.1.at 2,h.1.1.at 3,h.1.1.at 4,h.1.1.at 5,h.1.1.at 6,h.1.1.at 7,h.1.1.at 8,h.1.1.at 9,h.1.1.at 10,h.1.1.at 11,h.1.1.at 12⟩,h.2.1.at 0,h.2.1.at 1,h.2.1.at 2,h.2.1.at 3,h.2.1.at 4,h.2.1.at 5,h.2.1.at 6,h.2.1.at 7,h.2.1.at 8,h.2.1.at 9,h.2.1.at 10,h.2.1.at 11,h.2.1.at 12⟩
end
section
open Go.ChangeShapes Go.WideShapes Go.ChangeAt Go.RowKit Go.Deep
theorem cells_lRep:Tryz.prog.cellsOf 107=4:=by kernel_rfl
theorem cells_lIS:Tryz.prog.cellsOf 35=1:=by kernel_rfl
def RplFit (q:Rpl):Prop:=((Lit.int .i64 q.code).wf=true∧(Lit.int .i64 q.app).wf=true)∧(q.cs.length≤9223372036854775807∧∀a ∈ q.cs,ConFit a)∧q.kill.length≤9223372036854775807
theorem RplFit.big {q:Rpl} (h:RplFit q):RplBig q:=⟨⟨h.2.1.1,fun a ha=>(h.2.1.2 a ha).1⟩,h.2.2⟩
theorem open_rpl1 {H:Type} {enc:TypeId×Value→H} {W:World} {base:Nat} {held:Bool} {fuel:Nat} {cs:List Value} {x:DataW H×List MemPlace}
  (h:DataW.trod enc Tryz.prog W base (fun _=>true) held fuel 107 cs=some x) :
  ∃(q:Rpl) (xo:Option Addr) (xl xc:Nat) (yo:Option Addr) (yl yc:Nat),cs=[.int .i64 q.code,.int .i64 q.app,.slice xo xl xc,.slice yo yl yc]∧ConRow W xo xl q.cs∧NRow W yo yl q.kill∧RplFit q:=by
 obtain ⟨xs,n,rfl,rfl,hlen,hxs,hf⟩:=DataW.trod_struct Tryz.underlying107 h
 rw [cells_lRep] at hlen
 have hxs:xs.length=4:=hxs
 match cs,hlen,xs,hxs with
 | [c0,c1,c2,c3],_,[x0,x1,x2,x3],_=>
  have h0:=hf 0 _ rfl
  have h1:=hf 1 _ rfl
  have h2:=hf 2 _ rfl
  have h3:=hf 3 _ rfl
  obtain ⟨s0,e0,_,b0⟩:=DataW.trod_int Tryz.underlying3 h0
  obtain ⟨s1,e1,_,b1⟩:=DataW.trod_int Tryz.underlying3 h1
  simp [cells_qi,cells_lCS,cells_lIS] at e0 e1 h2 h3
  obtain ⟨xo,xl,xc,rfl⟩:=slice_cells Tryz.underlying25 h2
  obtain ⟨yo,yl,yc,rfl⟩:=slice_cells Tryz.underlying35 h3
  subst e0 e1
  obtain ⟨l,hr,hle,hfit⟩:=open_cons h2
  obtain ⟨m,hm,hme⟩:=open_introw (ao:=yo) (len:=yl) (cap:=yc) ⟨_,by simpa [Value.cells] using h3⟩
  refine ⟨⟨s0,s1,l,m⟩,xo,xl,xc,yo,yl,yc,rfl,hr,hm,⟨b0,b1⟩,⟨?_,hfit⟩,?_⟩
  ·have:=hr.1
   show l.length≤_
   omega
  ·have:=hm.1
   show m.length≤_
   omega
theorem open_rpls {H:Type} {enc:TypeId×Value→H} {W:World} {base:Nat} {held:Bool} {ao:Option Addr} {len cap fuel:Nat} {x:DataW H×List MemPlace}
  (hf:DataW.trod enc Tryz.prog W base (fun _=>true) held fuel 28 [.slice ao len cap]=some x) :
  ∃l:List Rpl,RplRow W ao len l∧len≤9223372036854775807∧∀q ∈ l,RplFit q:=by
 rcases open_slice Tryz.underlying28 hf with ⟨hcs,_⟩ | ⟨a,len',cap',m,n,D,Pl,hcs,hb,hl,hm,hmm,hx,hel⟩
 ·simp at hcs
  obtain ⟨rfl,rfl,rfl⟩:=hcs
  exact ⟨[],RplRow.nil _ _,by omega,by simp⟩
 ·simp at hcs
  obtain ⟨rfl,rfl,rfl⟩:=hcs
  simp only [if_true] at hmm
  subst hmm
  rw [cells_lRep] at hel
  have inh:Inhabited Rpl:=⟨⟨0,0,[],[]⟩⟩
  obtain ⟨F,hF⟩:=choose_lt (α:=Rpl) (n:=len) (p:=fun i q=>∃(xo:Option Addr) (xl xc:Nat) (yo:Option Addr) (yl yc:Nat),W.cells? base (a.add (i*4)) 4=some [.int .i64 q.code,.int .i64 q.app,.slice xo xl xc,.slice yo yl yc]∧ConRow W xo xl q.cs∧NRow W yo yl q.kill∧RplFit q) (fun i hi=>by
   obtain ⟨cs',h1,h2⟩:=hel i (by omega)
   obtain ⟨q,xo,xl,xc,yo,yl,yc,rfl,h3⟩:=open_rpl1 h2
   exact ⟨q,xo,xl,xc,yo,yl,yc,h1,h3⟩)
  refine ⟨(List.range len).map F,?_,by have:maxLen=9223372036854775807:=rfl;omega,?_⟩
  ·refine ⟨by simp,?_⟩
   by_cases h0:len=0
   ·exact .inl h0
   ·right
    obtain ⟨b,off,spot⟩:=a
    obtain ⟨_,_,_,_,_,_,hF0,_⟩:=hF 0 (by omega)
    have hc0:=(World.cells?_some hF0).2.2 0 (by omega)
    have hspot:spot=none:=by simpa [Addr.add] using World.cell?_spot hc0
    subst hspot
    refine ⟨b,off,rfl,fun i hi=>?_⟩
    have hi':i<len:=by simpa using hi
    obtain ⟨xo,xl,xc,yo,yl,yc,hFi,hrow,hrow2,_⟩:=hF i hi'
    obtain ⟨_,_,hc⟩:=World.cells?_some hFi
    rw [Lib.add_plain] at hc
    have k0:=hc 0 (by omega)
    have k1:=hc 1 (by omega)
    have k2:=hc 2 (by omega)
    have k3:=hc 3 (by omega)
    rw [Lib.add_plain] at k0 k1 k2 k3
    simp only [List.getElem_map,List.getElem_range]
    exact ⟨xo,xl,xc,yo,yl,yc,k0,k1,k2,k3,hrow,hrow2⟩
  ·intro q hq
   obtain ⟨i,hi,rfl⟩:=List.mem_map.1 hq
   obtain ⟨_,_,_,_,_,_,_,_,_,h⟩:=hF i (by simpa using hi)
   exact h
theorem cells_lAgt:Tryz.prog.cellsOf 89=4:=by kernel_rfl
def AgtFit (q:Agt):Prop:=(q.name.length≤9223372036854775807∧(Lit.int .i64 q.mem).wf=true∧(Lit.int .i64 q.cpu).wf=true)∧q.cs.length≤9223372036854775807∧∀a ∈ q.cs,ConFit a
theorem AgtFit.big {q:Agt} (h:AgtFit q):AgtBig q:=⟨h.1.1,h.2.1,fun a ha=>(h.2.2 a ha).1⟩
theorem open_agt1 {H:Type} {enc:TypeId×Value→H} {W:World} {base:Nat} {held:Bool} {fuel:Nat} {cs:List Value} {x:DataW H×List MemPlace}
  (h:DataW.trod enc Tryz.prog W base (fun _=>true) held fuel 89 cs=some x) :
  ∃(q:Agt) (xo:Option Addr) (xl xc:Nat),cs=[.string (bs q.name),.int .i64 q.mem,.int .i64 q.cpu,.slice xo xl xc]∧ConRow W xo xl q.cs∧AgtFit q:=by
 obtain ⟨xs,n,rfl,rfl,hlen,hxs,hf⟩:=DataW.trod_struct Tryz.underlying89 h
 rw [cells_lAgt] at hlen
 have hxs:xs.length=3:=hxs
 match cs,hlen,xs,hxs with
 | [c0,c1,c2,c3],_,[x0,x1,x2],_=>
  have h0:=hf 0 _ rfl
  have h1:=hf 1 _ rfl
  have h2:=hf 2 _ rfl
  obtain ⟨s0,e0,_,b0⟩:=DataW.trod_string Tryz.underlying9 h0
  obtain ⟨s1,s2,e1,b1,b2⟩:=open_rescells h1
  simp [cells_qs,cells_qi,cells_lr1,cells_lCS] at e0 e1 h2
  obtain ⟨q1,q2⟩:=e1
  obtain ⟨xo,xl,xc,rfl⟩:=slice_cells Tryz.underlying25 h2
  subst e0 q1 q2
  obtain ⟨l,hr,hle,hfit⟩:=open_cons h2
  refine ⟨⟨s0.data.toList,s1,s2,l⟩,xo,xl,xc,by simp only [bs_back],hr,⟨by simpa [maxLen] using b0,b1,b2⟩,?_,hfit⟩
  have:=hr.1
  show l.length≤_
  omega
theorem open_agts {H:Type} {enc:TypeId×Value→H} {W:World} {base:Nat} {held:Bool} {ao:Option Addr} {len cap fuel:Nat} {x:DataW H×List MemPlace}
  (hf:DataW.trod enc Tryz.prog W base (fun _=>true) held fuel 31 [.slice ao len cap]=some x) :
  ∃l:List Agt,AgtRow W ao len l∧len≤9223372036854775807∧∀q ∈ l,AgtFit q:=by
 rcases open_slice Tryz.underlying31 hf with ⟨hcs,_⟩ | ⟨a,len',cap',m,n,D,Pl,hcs,hb,hl,hm,hmm,hx,hel⟩
 ·simp at hcs
  obtain ⟨rfl,rfl,rfl⟩:=hcs
  exact ⟨[],AgtRow.nil _ _,by omega,by simp⟩
 ·simp at hcs
  obtain ⟨rfl,rfl,rfl⟩:=hcs
  simp only [if_true] at hmm
  subst hmm
  rw [cells_lAgt] at hel
  have inh:Inhabited Agt:=⟨⟨[],0,0,[]⟩⟩
  obtain ⟨F,hF⟩:=choose_lt (α:=Agt) (n:=len) (p:=fun i q=>∃(xo:Option Addr) (xl xc:Nat),W.cells? base (a.add (i*4)) 4=some [.string (bs q.name),.int .i64 q.mem,.int .i64 q.cpu,.slice xo xl xc]∧ConRow W xo xl q.cs∧AgtFit q) (fun i hi=>by
   obtain ⟨cs',h1,h2⟩:=hel i (by omega)
   obtain ⟨q,xo,xl,xc,rfl,h3⟩:=open_agt1 h2
   exact ⟨q,xo,xl,xc,h1,h3⟩)
  refine ⟨(List.range len).map F,?_,by have:maxLen=9223372036854775807:=rfl;omega,?_⟩
  ·refine ⟨by simp,?_⟩
   by_cases h0:len=0
   ·exact .inl h0
   ·right
    obtain ⟨b,off,spot⟩:=a
    obtain ⟨_,_,_,hF0,_⟩:=hF 0 (by omega)
    have hc0:=(World.cells?_some hF0).2.2 0 (by omega)
    have hspot:spot=none:=by simpa [Addr.add] using World.cell?_spot hc0
    subst hspot
    refine ⟨b,off,rfl,fun i hi=>?_⟩
    have hi':i<len:=by simpa using hi
    obtain ⟨xo,xl,xc,hFi,hrow,_⟩:=hF i hi'
    obtain ⟨_,_,hc⟩:=World.cells?_some hFi
    rw [Lib.add_plain] at hc
    have k0:=hc 0 (by omega)
    have k1:=hc 1 (by omega)
    have k2:=hc 2 (by omega)
    have k3:=hc 3 (by omega)
    rw [Lib.add_plain] at k0 k1 k2 k3
    simp only [List.getElem_map,List.getElem_range]
    exact ⟨xo,xl,xc,k0,k1,k2,k3,hrow⟩
  ·intro q hq
   obtain ⟨i,hi,rfl⟩:=List.mem_map.1 hq
   obtain ⟨_,_,_,_,_,h⟩:=hF i (by simpa using hi)
   exact h
theorem cells_lMg:Tryz.prog.cellsOf 30=11:=by kernel_rfl
theorem cells_lCl:Tryz.prog.cellsOf 33=13:=by kernel_rfl
theorem cells_lRS:Tryz.prog.cellsOf 28=1:=by kernel_rfl
theorem cells_lGS:Tryz.prog.cellsOf 31=1:=by kernel_rfl
theorem open_statecells {H:Type} {enc:TypeId×Value→H} {W:World} {base:Nat} {held:Bool} {fuel:Nat} {cs:List Value} {x:DataW H×List MemPlace}
  (hf0:DataW.trod enc Tryz.prog W base (fun _=>true) held fuel 27 cs=some x) :
  ∃(x:Sls) (s:St),cs=(svc x s).toList∧SRow W x s∧StFit x s:=by
 obtain ⟨xs,n,rfl,_,hlen,hxs,hf⟩:=DataW.trod_struct Tryz.underlying27 hf0
 rw [cells_lSt] at hlen
 have hxs:xs.length=8:=hxs
 match cs,hlen,xs,hxs with
 | [c0,c1,c2,c3,c4,c5,c6,c7],_,[x0,x1,x2,x3,x4,x5,x6,x7],_=>
  have h0:=hf 0 _ rfl
  have h1:=hf 1 _ rfl
  have h2:=hf 2 _ rfl
  have h3:=hf 3 _ rfl
  have h4:=hf 4 _ rfl
  have h5:=hf 5 _ rfl
  have h6:=hf 6 _ rfl
  have h7:=hf 7 _ rfl
  obtain ⟨s1,e1,_,b1⟩:=DataW.trod_int Tryz.underlying3 h1
  obtain ⟨s2,e2,_,b2⟩:=DataW.trod_int Tryz.underlying3 h2
  obtain ⟨s3,e3,_,b3⟩:=DataW.trod_int Tryz.underlying3 h3
  obtain ⟨s4,e4,_,b4⟩:=DataW.trod_int Tryz.underlying3 h4
  simp [cells_qi,cells_lQS,cells_lAS,cells_lMS,cells_lCS] at e1 e2 e3 e4 h0 h5 h6 h7
  obtain ⟨qa,ql,qc,rfl⟩:=slice_cells Tryz.underlying22 h0
  obtain ⟨aa,al,ac,rfl⟩:=slice_cells Tryz.underlying23 h5
  obtain ⟨ma,ml,mc,rfl⟩:=slice_cells Tryz.underlying24 h6
  obtain ⟨ca,cl,cc,rfl⟩:=slice_cells Tryz.underlying25 h7
  subst e1 e2 e3 e4
  obtain ⟨lq,hq,q1,q2⟩:=open_queues (ao:=qa) (len:=ql) (cap:=qc) ⟨_,by simpa [Value.cells] using h0⟩
  obtain ⟨la,ha,a1,a2⟩:=open_appls h5
  obtain ⟨lm,hm,m1,m2⟩:=open_macs h6
  obtain ⟨lc,hc,k1,k2⟩:=open_cons h7
  exact ⟨⟨qa,ql,qc,aa,al,ac,ma,ml,mc,ca,cl,cc⟩,⟨lq,s1,s2,s3,s4,la,lm,lc⟩,rfl,⟨hq,ha,hm,hc⟩,⟨q1,q2⟩,⟨a1,a2⟩,⟨m1,m2⟩,⟨k1,k2⟩,b1,b2,b3,b4⟩
def MgrFit (y:Mgs) (m:Mgr):Prop:=StFit y.x m.s∧m.log.length≤9223372036854775807∧y.wl≤9223372036854775807∧∀q ∈ m.wait,RplFit q
def CluFit (z:Cls) (c:Clu):Prop:=MgrFit z.y c.m∧(z.gl≤9223372036854775807∧∀q ∈ c.ags,AgtFit q)∧z.tl≤9223372036854775807∧∀q ∈ c.told,RplFit q
theorem MgrFit.big {y:Mgs} {m:Mgr} (h:MgrFit y m):MgrBig y m:=⟨h.1.big,h.2.1,h.2.2.1,fun q hq=>(h.2.2.2 q hq).big⟩
theorem CluFit.big {z:Cls} {c:Clu} (h:CluFit z c):CluBig z c:=⟨h.1.big,⟨h.2.1.1,fun q hq=>(h.2.1.2 q hq).big⟩,h.2.2.1,fun q hq=>(h.2.2.2 q hq).big⟩
theorem open_mgrcells {H:Type} {enc:TypeId×Value→H} {W:World} {base:Nat} {held:Bool} {fuel:Nat} {cs:List Value} {x:DataW H×List MemPlace}
  (h:DataW.trod enc Tryz.prog W base (fun _=>true) held fuel 30 cs=some x) :
  ∃(y:Mgs) (m:Mgr),cs=(mgrc y m).toList∧MRow W y m∧MgrFit y m:=by
 obtain ⟨xs,n,rfl,_,hlen,hxs,hf⟩:=DataW.trod_struct Tryz.underlying30 h
 rw [cells_lMg] at hlen
 have hxs:xs.length=4:=hxs
 match cs,hlen,xs,hxs with
 | [c0,c1,c2,c3,c4,c5,c6,c7,c8,c9,c10],_,[x0,x1,x2,x3],_=>
  have h0:=hf 0 _ rfl
  have h1:=hf 1 _ rfl
  have h2:=hf 2 _ rfl
  have h3:=hf 3 _ rfl
  obtain ⟨y,s,e0,r0,f0⟩:=open_statecells h0
  obtain ⟨s1,e1,_,b1⟩:=DataW.trod_string Tryz.underlying9 h1
  obtain ⟨s2,e2,_,b2⟩:=DataW.trod_int Tryz.underlying3 h2
  simp [cells_lSt,cells_qs,cells_qi,cells_lRS] at e0 e1 e2 h3
  obtain ⟨wo,wl,wc,rfl⟩:=slice_cells Tryz.underlying28 h3
  obtain ⟨i0,i1,i2,i3,i4,i5,i6,i7⟩:=e0
  subst i0 i1 i2 i3 i4 i5 i6 i7 e1 e2
  obtain ⟨l,hr,hle,hfit⟩:=open_rpls h3
  exact ⟨⟨y,wo,wl,wc⟩,⟨s,s1.data.toList,s2,l⟩,by simp only [bs_back],⟨r0,hr⟩,f0,by simpa [maxLen] using b1,hle,hfit⟩
theorem open_cluster {H:Type} {enc:TypeId×Value→H} {W:World} {base b0:Nat} {r:Reach} {held:Bool} {v:Value} {d:DataW H} {p:List MemPlace}
  (hv:Value.okWide Tryz.prog W r b0 33 v) (h:DataW.Trod enc Tryz.prog W base (fun _=>true) held 33 v d p) :
  ∃(z:Cls) (c:Clu),v=cluv z c∧CRow W z c∧CluFit z c:=by
 obtain ⟨cs,rfl,hsz⟩:=okWide_struct Tryz.underlying33 hv
 obtain ⟨fuel,hf0⟩:=h
 obtain ⟨cs⟩:=cs
 have hcells:(Value.agg ⟨cs⟩).cells.toList=cs:=by simp [Value.cells]
 rw [hcells] at hf0
 obtain ⟨xs,n,rfl,_,hlen,hxs,hf⟩:=DataW.trod_struct Tryz.underlying33 hf0
 rw [cells_lCl] at hlen
 have hxs:xs.length=3:=hxs
 match cs,hlen,xs,hxs with
 | [c0,c1,c2,c3,c4,c5,c6,c7,c8,c9,c10,c11,c12],_,[x0,x1,x2],_=>
  have h0:=hf 0 _ rfl
  have h1:=hf 1 _ rfl
  have h2:=hf 2 _ rfl
  obtain ⟨y,m,e0,r0,f0⟩:=open_mgrcells h0
  simp [cells_lMg,cells_lGS,cells_lRS] at e0 h1 h2
  obtain ⟨go,gl,gc,rfl⟩:=slice_cells Tryz.underlying31 h1
  obtain ⟨eo,tl,tc,rfl⟩:=slice_cells Tryz.underlying28 h2
  obtain ⟨i0,i1,i2,i3,i4,i5,i6,i7,i8,i9,i10⟩:=e0
  subst i0 i1 i2 i3 i4 i5 i6 i7 i8 i9 i10
  obtain ⟨l,hr,hle,hfit⟩:=open_agts h1
  obtain ⟨l2,hr2,hle2,hfit2⟩:=open_rpls h2
  exact ⟨⟨y,go,gl,gc,eo,tl,tc⟩,⟨m,l,l2⟩,rfl,⟨r0,hr,hr2⟩,f0,⟨hle,hfit⟩,hle2,hfit2⟩
end
section
open Go.RowKit
theorem markManager_made (B E:Nat) (y:Mgs) (m:Mgr) (w:World) (h:MMd w B E y m) (hE:E≤w.heap.size) (hf:FitMgr m) :
  Calls Tryz.prog 35 #[mgrv y m,.int .i64 1] w fun e w'=>∃k,e=.returned (.int .i64 k)∧(0<k∧k≤30000000000000)∧Mkd B E w w':=by
 obtain ⟨M,g1,g2,g3,g4,gw,e1,e2,e3,e4,e5,h1,h2,h3,h4,h5,h6,h7⟩:=h
 obtain ⟨x,wo,wl,wc⟩:=y
 simp only at e1 e2 e3 e4 e5 h1 h2 h4 h5
 obtain ⟨l1,l2,l3,l4⟩:=e4
 obtain ⟨ql,hql⟩:∃n,x.ql=n:=⟨_,rfl⟩
 obtain ⟨al,hal⟩:∃n,x.al=n:=⟨_,rfl⟩
 obtain ⟨ml,hml⟩:∃n,x.ml=n:=⟨_,rfl⟩
 obtain ⟨cl,hcl⟩:∃n,x.cl=n:=⟨_,rfl⟩
 rw [hql,hal,hml,hcl] at e1 h1
 rw [hql] at l1
 rw [hal] at l2 h2
 rw [hml] at l3
 rw [hcl] at l4
 clear hql hal hml hcl
 subst e1 e2 e3
 have kq:ql≤1048576:=by have:=hf.1.1.1;omega
 have ka:al≤1048576:=by have:=hf.1.2.1.1;omega
 have km:ml≤1048576:=by have:=hf.1.2.2.1.1;omega
 have kc:cl≤1048576:=by have:=hf.1.2.2.2.1;omega
 have kw:wc≤1048576:=by have:=hf.2.2.1;omega
 have hb0:=yA (yH _ w) (.cells (mgrc ⟨own4 g1 g2 g3 g4 ql al ml cl,some ⟨gw,0,none⟩,wc,wc⟩ m) 45)
 have P0:=hide (yD w (mgrc ⟨own4 g1 g2 g3 g4 ql al ml cl,some ⟨gw,0,none⟩,wc,wc⟩ m) 45)
 have HG0:=hide (show Mkd B E w _ from .of_below hb0)
 have hM:M≤w.heap.size:=by have:=h5.1.lt;omega
 have CS:=hide (markState_le B M g1 g2 g3 g4 ql al ml cl m.s _ (h1.1.cel.below hb0) (h2.below hb0) (h1.2.2.1.cel.below hb0) (h1.2.2.2.cel.below hb0) h3 (by rw [yE];omega) kq ka km kc)
 have RW0:=hide (h5.below hb0)
 obtain ⟨⟨qs,clock,epoch,next,serial,apps,ms,cs⟩,log,safe,wait⟩:=m
 have hBM:B≤M:=by omega
 have hMg:M≤gw:=h6
 have hgE:gw<E:=h7
 clear h1 h2 h3 h4 h5 h6 h7 hf hb0 e5 l1 l2 l3 l4 kq ka km kc
 have p0:=(uH P0).at 0;have p1:=(uH P0).at 1;have p2:=(uH P0).at 2;have p3:=(uH P0).at 3;have p4:=(uH P0).at 4;have p5:=(uH P0).at 5;have p6:=(uH P0).at 6;have p7:=(uH P0).at 7
 simp at p0 p1 p2 p3 p4 p5 p6 p7
 go_enter Tryz.func35,Tryz.ntmps35
 go_wp2_with fail
 refine (uH CS).mono ?_
 rintro e w1 ⟨k,rfl,⟨k0,k1⟩,hm⟩
 have P1:=hide (hm.blk (uH P0) (.inr (by omega)))
 have RW1:=hide ((uH RW0).mkdo hm (.inr hMg))
 have HG1:=hide ((uH HG0).trans (hm.mono (yJ _) (by omega)))
 clear hm CS P0 RW0 HG0 p0 p1 p2 p3 p4 p5 p6 p7
 have p10:=(uH P1).at 10
 simp at p10
 go_wp2_with fail
 refine (markReplyS_from M E gw wc k _ (uH RW1) hMg hgE kw k0 (by omega)).mono ?_
 rintro e w2 ⟨k2,rfl,j0,j1,hm⟩
 have HG2:=hide ((uH HG1).trans (hm.mono hBM (yJ _)))
 clear hm P1 RW1 HG1 p10
 go_wp2
 go_ret
 exact ⟨_,rfl,⟨by omega,by omega⟩,uH HG2⟩
theorem markCluster_made (B E:Nat) (z:Cls) (c:Clu) (w:World) (h:CMd w B E z c) (hE:E≤w.heap.size) (hf:FitClu c) :
  Calls Tryz.prog 11 #[cluv z c,.int .i64 1] w fun e w'=>∃k,e=.returned (.int .i64 k)∧0<k∧Mkd B E w w':=by
 obtain ⟨M1,M2,ga,gt,h1,e1,e2,e3,h2,h3,h4,h5,e4,e5,e6,h6,h7,h8,h9,h10⟩:=h
 have kg:z.gl≤1048576:=by have:=hf.2.1.1;omega
 have kt:z.tl≤1048576:=by have:=hf.2.2.1;omega
 have hb0:=yA (yH _ w) (.cells (cluc z c) 48)
 have P0:=hide (yD w (cluc z c) 48)
 have HG0:=hide (show Mkd B E w _ from .of_below hb0)
 have hM:M1≤w.heap.size:=by have:=h3.1.lt;omega
 have hM2:M2≤w.heap.size:=by have:=h7.1.lt;omega
 have CS:=hide (markManager_made B M1 z.y c.m _ (h1.below hb0) (by rw [yE];omega) hf.1)
 have GW0:=hide (h3.below hb0)
 have RW0:=hide (h7.below hb0)
 obtain ⟨⟨⟨qa,ql,qc,aa,al,ac,ma,ml,mc,ca,cl,cc⟩,wo,wl,wc⟩,go,gl,gc,eo,tl,tc⟩:=z
 obtain ⟨⟨⟨qs,clock,epoch,next,serial,apps,ms,cs⟩,log,safe,wait⟩,ags,told⟩:=c
 simp only at e1 e2 e3 e4 e5 e6 CS GW0 RW0 P0 HG0 kg kt
 subst e1 e2 e4 e5
 clear h1 h2 h3 h6 h7 hf hb0 e3 e6
 have p0:=(uH P0).at 0;have p1:=(uH P0).at 1;have p2:=(uH P0).at 2;have p3:=(uH P0).at 3;have p4:=(uH P0).at 4;have p5:=(uH P0).at 5;have p6:=(uH P0).at 6;have p7:=(uH P0).at 7;have p8:=(uH P0).at 8;have p9:=(uH P0).at 9;have p10:=(uH P0).at 10
 simp at p0 p1 p2 p3 p4 p5 p6 p7 p8 p9 p10
 go_enter Tryz.func11,Tryz.ntmps11
 go_wp2_with fail
 refine (uH CS).mono ?_
 rintro e w1 ⟨k,rfl,⟨k0,k1⟩,hm⟩
 have P1:=hide (hm.blk (uH P0) (.inr (by omega)))
 have GW1:=hide ((uH GW0).mkdo hm (.inr (by omega)))
 have RW1:=hide ((uH RW0).mkdo hm (.inr (by omega)))
 have HG1:=hide ((uH HG0).trans (hm.mono (yJ _) (by omega)))
 clear hm CS P0 GW0 RW0 HG0 p0 p1 p2 p3 p4 p5 p6 p7 p8 p9 p10
 have p11:=(uH P1).at 11
 simp at p11
 go_wp2_with fail
 refine (markAgentS_from M1 M2 ga gc k _ (uH GW1) h4 h5 kg k0 (by omega)).mono ?_
 rintro e w2 ⟨k2,rfl,j0,j1,hm⟩
 have P2:=hide (hm.blk (uH P1) (.inr (by omega)))
 have RW2:=hide ((uH RW1).mkdo hm (.inr (by omega)))
 have HG2:=hide ((uH HG1).trans (hm.mono (by omega) (by omega)))
 clear hm P1 GW1 RW1 HG1 p11
 have p12:=(uH P2).at 12
 simp at p12
 go_wp2_with fail
 refine (markReplyS_from M2 E gt tc k2 _ (uH RW2) h8 h9 kt (by omega) (by omega)).mono ?_
 rintro e w3 ⟨k3,rfl,i0,i1,hm⟩
 have HG3:=hide ((uH HG2).trans (hm.mono (by omega) (yJ _)))
 clear hm P2 RW2 HG2 p12
 go_wp2
 go_ret
 exact ⟨_,rfl,by omega,uH HG3⟩
theorem eqAgent_same (name:List UInt8) (mem cpu:Int) (xo xo':Option Addr) (xl xc xc':Nat) (cs:List Con) (w:World) (h:ConRow w xo xl cs) (h':ConRow w xo' xl cs) (hl:xl≤1048576) :
  Calls Tryz.prog 49 #[agtv name mem cpu xo xl xc,agtv name mem cpu xo' xl xc'] w fun e w'=>e=.returned (.bool true)∧Below w.heap.size w w':=by
 have HB0:=hide (yA (yA (yH _ w) (.cells #[.string (bs name),.int .i64 mem,.int .i64 cpu,.slice xo xl xc] 71)) (.cells #[.string (bs name),.int .i64 mem,.int .i64 cpu,.slice xo' xl xc'] 71))
 have P0:=hide ((yD w #[.string (bs name),.int .i64 mem,.int .i64 cpu,.slice xo xl xc] 71).al (.cells #[.string (bs name),.int .i64 mem,.int .i64 cpu,.slice xo' xl xc'] 71))
 have P1:=hide (show Blk _ (w.heap.size+1) #[.string (bs name),.int .i64 mem,.int .i64 cpu,.slice xo' xl xc'] 71 by have:=yD (w.alloc (.cells #[.string (bs name),.int .i64 mem,.int .i64 cpu,.slice xo xl xc] 71)) #[.string (bs name),.int .i64 mem,.int .i64 cpu,.slice xo' xl xc'] 71;rwa [yE] at this)
 have C:=hide (fun wx (hb:Below w.heap.size w wx)=>eqContS_same xo xo' xl xc xc' cs wx (h.below hb) (h'.below hb) hl)
 clear h h'
 go_enter Tryz.func49,Tryz.ntmps49
 go_wp2_with fail
 refine (eqRes_ex _ _ _).mono ?_
 rintro e w1 ⟨rfl,o1,o2,n,rfl⟩
 have HB1:=hide (below_dn (yA (yA (uH HB0) o1) o2) n)
 have hbn:=below_dn (yA (yA (yH _ ((w.alloc (.cells #[.string (bs name),.int .i64 mem,.int .i64 cpu,.slice xo xl xc] 71)).alloc (.cells #[.string (bs name),.int .i64 mem,.int .i64 cpu,.slice xo' xl xc'] 71))) o1) o2) n
 have Q0:=hide ((uH P0).below hbn)
 have Q1:=hide ((uH P1).below hbn)
 generalize ((((w.alloc (.cells #[.string (bs name),.int .i64 mem,.int .i64 cpu,.slice xo xl xc] 71)).alloc (.cells #[.string (bs name),.int .i64 mem,.int .i64 cpu,.slice xo' xl xc'] 71)).alloc o1).alloc o2).drewN n=w1 at HB1 Q0 Q1 ⊢
 clear HB0 P0 P1 hbn o1 o2 n
 have a3:=(uH Q0).at 3
 have b3:=(uH Q1).at 3
 simp at a3 b3
 go_wp2_with fail
 refine (uH C _ (uH HB1)).mono ?_
 rintro e w2 ⟨rfl,hb⟩
 have HB2:=hide (yB (uH HB1) hb)
 clear hb C HB1 Q0 Q1 a3 b3
 go_wp2
 go_ret
 exact ⟨rfl,uH HB2⟩
def AgtTwo (w0:World) (b p c r:Nat) (q:Agt) (xo:Option Addr) (xl xc:Nat) (xo':Option Addr) (xc':Nat) (w:World):Prop:=AgtAt w b p q xo xl xc∧AgtAt w c r q xo' xl xc'∧Below w0.heap.size w0 w
theorem AgtTwo.call {w0 w w':World} {b p c r:Nat} {q:Agt} {xo:Option Addr} {xl xc:Nat} {xo':Option Addr} {xc':Nat} (h:AgtTwo w0 b p c r q xo xl xc xo' xc' w) (hb:Below w.heap.size w w'):AgtTwo w0 b p c r q xo xl xc xo' xc' w':=⟨h.1.below hb,h.2.1.below hb,yB h.2.2 hb⟩
theorem AgtTwo.drew {w0 w:World} {b p c r:Nat} {q:Agt} {xo:Option Addr} {xl xc:Nat} {xo':Option Addr} {xc':Nat} (h:AgtTwo w0 b p c r q xo xl xc xo' xc' w):AgtTwo w0 b p c r q xo xl xc xo' xc' w.drew:=h.call (yH _ _).drew
theorem AgtTwo.read (w0:World) (b p c r:Nat) (q:Agt) (xo:Option Addr) (xl xc:Nat) (xo':Option Addr) (xc':Nat):∀wx,AgtTwo w0 b p c r q xo xl xc xo' xc' wx→wx.cell? ⟨b,p,none⟩=some (.string (bs q.name))∧wx.cell? ⟨b,p+1,none⟩=some (.int .i64 q.mem)∧wx.cell? ⟨b,p+2,none⟩=some (.int .i64 q.cpu)∧wx.cell? ⟨b,p+3,none⟩=some (.slice xo xl xc)∧wx.cell? ⟨c,r,none⟩=some (.string (bs q.name))∧wx.cell? ⟨c,r+1,none⟩=some (.int .i64 q.mem)∧wx.cell? ⟨c,r+2,none⟩=some (.int .i64 q.cpu)∧wx.cell? ⟨c,r+3,none⟩=some (.slice xo' xl xc'):=
 fun wx h=>⟨h.1.1,h.1.2.1,h.1.2.2.1,h.1.2.2.2.1,h.2.1.1,h.2.1.2.1,h.2.1.2.2.1,h.2.1.2.2.2.1⟩
theorem eqAgentS_same (ao bo:Option Addr) (len cap ccap:Nat) (l:List Agt) (w:World) (h:AgtRow w ao len l) (h':AgtRow w bo len l) (hl:len≤1048576) (hk:∀q ∈ l,q.cs.length≤1048576) :
  Calls Tryz.prog 21 #[.slice ao len cap,.slice bo len ccap] w fun e w'=>e=.returned (.bool true)∧Below w.heap.size w w':=by
 have HR:=hide h
 have HR':=hide h'
 have HL:=hide h.1
 have HK:=hide hk
 clear h h' hk
 go_enter Tryz.func21,Tryz.ntmps21
 go_wp2
 go_loopw [5] (fun i wr=>∃k:Nat,k≤len∧i=.int .i64 k∧Hid (Below w.heap.size w wr)) (fun i _=>len - (intOf i).toNat)
 case atStart=>exact ⟨0,Nat.zero_le _,rfl,hide (yH _ _)⟩
 case round=>
  obtain ⟨k,hk,rfl,HB⟩:=hrel
  by_cases hlt:k<len
  ·obtain ⟨b,off,rfl,hq⟩:=((uH HR).below (uH HB)).at hlt
   obtain ⟨c,coff,rfl,hq'⟩:=((uH HR').below (uH HB)).at hlt
   have hkl:k<l.length:=by have:=uH HL;omega
   obtain ⟨xo,xl,xc,hx⟩:=hq hkl
   obtain ⟨xo',xl',xc',hy⟩:=hq' hkl
   obtain rfl:xl=xl':=hx.2.2.2.2.1.trans hy.2.2.2.2.1.symm
   have hxl:xl≤1048576:=by have:=uH HK l[k] (yM _);have:=hx.2.2.2.2.1;omega
   have A0:=hide (show AgtTwo w b (off+k*4) c (coff+k*4) l[k] xo xl xc xo' xc' wr from ⟨hx,hy,uH HB⟩)
   obtain ⟨q,hs⟩:∃q,l[k]=q:=⟨_,rfl⟩
   rw [hs] at A0
   have R:=AgtTwo.read w b (off+k*4) c (coff+k*4) q xo xl xc xo' xc'
   have k0:(0:Int)≤k:=by omega
   have k1:(k:Int)<len:=by omega
   clear hq hq' hs hkl hx hy
   go_wp2_with fail
   go_region_held3 (fun wx=>AgtTwo w b (off+k*4) c (coff+k*4) q xo xl xc xo' xc' wx)
    (first | (with_reducible assumption) | exact (uH A0).drew | exact AgtTwo.call (by assumption) (by assumption))
    (first
    | (go_at_call 49;refine (eqAgent_same _ _ _ xo xo' xl xc xc' q.cs _ ?_ ?_ hxl).mono ?_;(exact (show AgtTwo w b (off+k*4) c (coff+k*4) q xo xl xc xo' xc' _ by assumption).1.2.2.2.2);(exact (show AgtTwo w b (off+k*4) c (coff+k*4) q xo xl xc xo' xc' _ by assumption).2.1.2.2.2.2);rintro e wt ⟨rfl,hb⟩;have SA:=AgtTwo.call (w0:=w) (b:=b) (p:=off+k*4) (c:=c) (r:=coff+k*4) (q:=q) (xo:=xo) (xl:=xl) (xc:=xc) (xo':=xo') (xc':=xc') (by assumption) hb))
   all_goals
    have HB2:=hide SA.2.2
    clear SA R A0
    go_wp2
    go_roundw
    case rel=>exact ⟨k+1,by omega,by go_num,HB2⟩
    case measure=>simp [intOf];omega
  ·go_wp2
   go_ret
   exact ⟨rfl,uH HB⟩
theorem eqManager_two (y y':Mgs) (m:Mgr) (w:World) (h:MRow w y m) (h':MRow w y' m) (hf:FitMgr m) :
  Calls Tryz.prog 33 #[mgrv y m,mgrv y' m] w fun e w'=>e=.returned (.bool true)∧Below w.heap.size w w':=by
 obtain ⟨k1,k2,k3,k4⟩:=h.1.len
 obtain ⟨l1,l2,l3,l4⟩:=h'.1.len
 have k5:=h.2.1
 have l5:=h'.2.1
 obtain ⟨⟨qa,ql,qc,aa,al,ac,ma,ml,mc,ca,cl,cc⟩,wo,wl,wc⟩:=y
 obtain ⟨⟨qs,clock,epoch,next,serial,apps,ms,cs⟩,log,safe,wait⟩:=m
 obtain ⟨⟨ra,rl,rc,ba,bl,bc,na,nl,nc,da,dl,dc⟩,vo,vl,vc⟩:=y'
 simp only at k1 k2 k3 k4 k5 l1 l2 l3 l4 l5
 obtain rfl:ql=rl:=k1.trans l1.symm
 obtain rfl:al=bl:=k2.trans l2.symm
 obtain rfl:ml=nl:=k3.trans l3.symm
 obtain rfl:cl=dl:=k4.trans l4.symm
 obtain rfl:wl=vl:=k5.trans l5.symm
 obtain ⟨a1,a2⟩:=h
 obtain ⟨b1,b2⟩:=h'
 simp only at a1 a2 b1 b2
 have hwl:wl≤1048576:=by have:=hf.2.2.1;simp only at this k5;omega
 have CS:=hide (fun wx (hb:Below w.heap.size w wx)=>eqState_same ⟨qa,ql,qc,aa,al,ac,ma,ml,mc,ca,cl,cc⟩ ⟨ra,ql,rc,ba,al,bc,na,ml,nc,da,cl,dc⟩ ⟨qs,clock,epoch,next,serial,apps,ms,cs⟩ wx (a1.below hb) (b1.below hb) hf.1)
 have CR:=hide (fun wx (hb:Below w.heap.size w wx)=>eqReplyS_same wo vo wl wc vc wait wx (a2.below hb) (b2.below hb) hwl hf.2.2.two)
 clear a1 a2 b1 b2 hf k1 k2 k3 k4 k5 l1 l2 l3 l4 l5 hwl
 have HB0:=hide (yA (yA (yH _ w) (.cells #[.slice qa ql qc,.int .i64 clock,.int .i64 epoch,.int .i64 next,.int .i64 serial,.slice aa al ac,.slice ma ml mc,.slice ca cl cc,.string (bs log),.int .i64 safe,.slice wo wl wc] 45)) (.cells #[.slice ra ql rc,.int .i64 clock,.int .i64 epoch,.int .i64 next,.int .i64 serial,.slice ba al bc,.slice na ml nc,.slice da cl dc,.string (bs log),.int .i64 safe,.slice vo wl vc] 45))
 have P0:=hide ((yD w #[.slice qa ql qc,.int .i64 clock,.int .i64 epoch,.int .i64 next,.int .i64 serial,.slice aa al ac,.slice ma ml mc,.slice ca cl cc,.string (bs log),.int .i64 safe,.slice wo wl wc] 45).al (.cells #[.slice ra ql rc,.int .i64 clock,.int .i64 epoch,.int .i64 next,.int .i64 serial,.slice ba al bc,.slice na ml nc,.slice da cl dc,.string (bs log),.int .i64 safe,.slice vo wl vc] 45))
 have Q0:=hide (show Blk _ (w.heap.size+1) #[.slice ra ql rc,.int .i64 clock,.int .i64 epoch,.int .i64 next,.int .i64 serial,.slice ba al bc,.slice na ml nc,.slice da cl dc,.string (bs log),.int .i64 safe,.slice vo wl vc] 45 by have:=yD (w.alloc (.cells #[.slice qa ql qc,.int .i64 clock,.int .i64 epoch,.int .i64 next,.int .i64 serial,.slice aa al ac,.slice ma ml mc,.slice ca cl cc,.string (bs log),.int .i64 safe,.slice wo wl wc] 45)) #[.slice ra ql rc,.int .i64 clock,.int .i64 epoch,.int .i64 next,.int .i64 serial,.slice ba al bc,.slice na ml nc,.slice da cl dc,.string (bs log),.int .i64 safe,.slice vo wl vc] 45;rwa [yE] at this)
 have p0:=(uH P0).at 0;have p1:=(uH P0).at 1;have p2:=(uH P0).at 2;have p3:=(uH P0).at 3;have p4:=(uH P0).at 4;have p5:=(uH P0).at 5;have p6:=(uH P0).at 6;have p7:=(uH P0).at 7
 simp at p0 p1 p2 p3 p4 p5 p6 p7
 have q0:=(uH Q0).at 0;have q1:=(uH Q0).at 1;have q2:=(uH Q0).at 2;have q3:=(uH Q0).at 3;have q4:=(uH Q0).at 4;have q5:=(uH Q0).at 5;have q6:=(uH Q0).at 6;have q7:=(uH Q0).at 7
 simp at q0 q1 q2 q3 q4 q5 q6 q7
 go_enter Tryz.func33,Tryz.ntmps33
 go_wp2_with fail
 refine (uH CS _ (uH HB0)).mono ?_
 rintro e w1 ⟨rfl,hb⟩
 have HB1:=hide (yB (uH HB0) hb)
 have P1:=hide ((uH P0).below hb)
 have Q1:=hide ((uH Q0).below hb)
 clear hb CS P0 Q0 HB0 p0 p1 p2 p3 p4 p5 p6 p7 q0 q1 q2 q3 q4 q5 q6 q7
 have p8:=(uH P1).at 8;have p9:=(uH P1).at 9;have p10:=(uH P1).at 10
 simp at p8 p9 p10
 have q8:=(uH Q1).at 8;have q9:=(uH Q1).at 9;have q10:=(uH Q1).at 10
 simp at q8 q9 q10
 go_wp2_with fail
 refine (uH CR _ (uH HB1)).mono ?_
 rintro e w2 ⟨rfl,hb⟩
 have HB2:=hide (yB (uH HB1) hb)
 clear hb CR P1 Q1 HB1 p8 p9 p10 q8 q9 q10
 go_wp2
 go_ret
 exact ⟨rfl,uH HB2⟩
theorem eqCluster_same (z z':Cls) (c:Clu) (w:World) (h:CRow w z c) (h':CRow w z' c) (hf:FitClu c) :
  Calls Tryz.prog 10 #[cluv z c,cluv z' c] w fun e w'=>e=.returned (.bool true)∧Below w.heap.size w w':=by
 obtain ⟨k1,k2,k3,k4⟩:=h.1.1.len
 obtain ⟨l1,l2,l3,l4⟩:=h'.1.1.len
 have k5:=h.1.2.1
 have l5:=h'.1.2.1
 have k6:=h.2.1.1
 have l6:=h'.2.1.1
 have k7:=h.2.2.1
 have l7:=h'.2.2.1
 obtain ⟨⟨⟨qa,ql,qc,aa,al,ac,ma,ml,mc,ca,cl,cc⟩,wo,wl,wc⟩,go,gl,gc,eo,tl,tc⟩:=z
 obtain ⟨⟨⟨qs,clock,epoch,next,serial,apps,ms,cs⟩,log,safe,wait⟩,ags,told⟩:=c
 obtain ⟨⟨⟨ra,rl,rc,ba,bl,bc,na,nl,nc,da,dl,dc⟩,vo,vl,vc⟩,ho,hl,hc,uo,ul,uc⟩:=z'
 simp only at k1 k2 k3 k4 k5 k6 k7 l1 l2 l3 l4 l5 l6 l7
 obtain rfl:ql=rl:=k1.trans l1.symm
 obtain rfl:al=bl:=k2.trans l2.symm
 obtain rfl:ml=nl:=k3.trans l3.symm
 obtain rfl:cl=dl:=k4.trans l4.symm
 obtain rfl:wl=vl:=k5.trans l5.symm
 obtain rfl:gl=hl:=k6.trans l6.symm
 obtain rfl:tl=ul:=k7.trans l7.symm
 obtain ⟨a1,a2,a3⟩:=h
 obtain ⟨b1,b2,b3⟩:=h'
 simp only at a1 a2 a3 b1 b2 b3
 have hgl:gl≤1048576:=by have:=hf.2.1.1;simp only at this k6;omega
 have htl:tl≤1048576:=by have:=hf.2.2.1;simp only at this k7;omega
 have CS:=hide (fun wx (hb:Below w.heap.size w wx)=>eqManager_two ⟨⟨qa,ql,qc,aa,al,ac,ma,ml,mc,ca,cl,cc⟩,wo,wl,wc⟩ ⟨⟨ra,ql,rc,ba,al,bc,na,ml,nc,da,cl,dc⟩,vo,wl,vc⟩ ⟨⟨qs,clock,epoch,next,serial,apps,ms,cs⟩,log,safe,wait⟩ wx (a1.below hb) (b1.below hb) hf.1)
 have CA:=hide (fun wx (hb:Below w.heap.size w wx)=>eqAgentS_same go ho gl gc hc ags wx (a2.below hb) (b2.below hb) hgl hf.2.1.one)
 have CR:=hide (fun wx (hb:Below w.heap.size w wx)=>eqReplyS_same eo uo tl tc uc told wx (a3.below hb) (b3.below hb) htl hf.2.2.two)
 clear a1 a2 a3 b1 b2 b3 hf k1 k2 k3 k4 k5 k6 k7 l1 l2 l3 l4 l5 l6 l7 hgl htl
 have HB0:=hide (yA (yA (yH _ w) (.cells #[.slice qa ql qc,.int .i64 clock,.int .i64 epoch,.int .i64 next,.int .i64 serial,.slice aa al ac,.slice ma ml mc,.slice ca cl cc,.string (bs log),.int .i64 safe,.slice wo wl wc,.slice go gl gc,.slice eo tl tc] 48)) (.cells #[.slice ra ql rc,.int .i64 clock,.int .i64 epoch,.int .i64 next,.int .i64 serial,.slice ba al bc,.slice na ml nc,.slice da cl dc,.string (bs log),.int .i64 safe,.slice vo wl vc,.slice ho gl hc,.slice uo tl uc] 48))
 have P0:=hide ((yD w #[.slice qa ql qc,.int .i64 clock,.int .i64 epoch,.int .i64 next,.int .i64 serial,.slice aa al ac,.slice ma ml mc,.slice ca cl cc,.string (bs log),.int .i64 safe,.slice wo wl wc,.slice go gl gc,.slice eo tl tc] 48).al (.cells #[.slice ra ql rc,.int .i64 clock,.int .i64 epoch,.int .i64 next,.int .i64 serial,.slice ba al bc,.slice na ml nc,.slice da cl dc,.string (bs log),.int .i64 safe,.slice vo wl vc,.slice ho gl hc,.slice uo tl uc] 48))
 have Q0:=hide (show Blk _ (w.heap.size+1) #[.slice ra ql rc,.int .i64 clock,.int .i64 epoch,.int .i64 next,.int .i64 serial,.slice ba al bc,.slice na ml nc,.slice da cl dc,.string (bs log),.int .i64 safe,.slice vo wl vc,.slice ho gl hc,.slice uo tl uc] 48 by have:=yD (w.alloc (.cells #[.slice qa ql qc,.int .i64 clock,.int .i64 epoch,.int .i64 next,.int .i64 serial,.slice aa al ac,.slice ma ml mc,.slice ca cl cc,.string (bs log),.int .i64 safe,.slice wo wl wc,.slice go gl gc,.slice eo tl tc] 48)) #[.slice ra ql rc,.int .i64 clock,.int .i64 epoch,.int .i64 next,.int .i64 serial,.slice ba al bc,.slice na ml nc,.slice da cl dc,.string (bs log),.int .i64 safe,.slice vo wl vc,.slice ho gl hc,.slice uo tl uc] 48;rwa [yE] at this)
 have p0:=(uH P0).at 0;have p1:=(uH P0).at 1;have p2:=(uH P0).at 2;have p3:=(uH P0).at 3;have p4:=(uH P0).at 4;have p5:=(uH P0).at 5;have p6:=(uH P0).at 6;have p7:=(uH P0).at 7;have p8:=(uH P0).at 8;have p9:=(uH P0).at 9;have p10:=(uH P0).at 10
 simp at p0 p1 p2 p3 p4 p5 p6 p7 p8 p9 p10
 have q0:=(uH Q0).at 0;have q1:=(uH Q0).at 1;have q2:=(uH Q0).at 2;have q3:=(uH Q0).at 3;have q4:=(uH Q0).at 4;have q5:=(uH Q0).at 5;have q6:=(uH Q0).at 6;have q7:=(uH Q0).at 7;have q8:=(uH Q0).at 8;have q9:=(uH Q0).at 9;have q10:=(uH Q0).at 10
 simp at q0 q1 q2 q3 q4 q5 q6 q7 q8 q9 q10
 go_enter Tryz.func10,Tryz.ntmps10
 go_wp2_with fail
 refine (uH CS _ (uH HB0)).mono ?_
 rintro e w1 ⟨rfl,hb⟩
 have HB1:=hide (yB (uH HB0) hb)
 have P1:=hide ((uH P0).below hb)
 have Q1:=hide ((uH Q0).below hb)
 clear hb CS P0 Q0 HB0 p0 p1 p2 p3 p4 p5 p6 p7 p8 p9 p10 q0 q1 q2 q3 q4 q5 q6 q7 q8 q9 q10
 have p11:=(uH P1).at 11
 simp at p11
 have q11:=(uH Q1).at 11
 simp at q11
 go_wp2_with fail
 refine (uH CA _ (uH HB1)).mono ?_
 rintro e w2 ⟨rfl,hb⟩
 have HB2:=hide (yB (uH HB1) hb)
 have P2:=hide ((uH P1).below hb)
 have Q2:=hide ((uH Q1).below hb)
 clear hb CA P1 Q1 HB1 p11 q11
 have p12:=(uH P2).at 12
 simp at p12
 have q12:=(uH Q2).at 12
 simp at q12
 go_wp2_with fail
 refine (uH CR _ (uH HB2)).mono ?_
 rintro e w3 ⟨rfl,hb⟩
 have HB3:=hide (yB (uH HB2) hb)
 clear hb CR P2 Q2 HB2 p12 q12
 go_wp2
 go_ret
 exact ⟨rfl,uH HB3⟩
end
end Go.Proofs.YtmkedfdnokmglaaGreat
