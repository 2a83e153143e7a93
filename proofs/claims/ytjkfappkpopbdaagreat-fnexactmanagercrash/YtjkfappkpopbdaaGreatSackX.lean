/-
  The program's generic list from which some are taken, of containers: takingFrom, take, takeAll (mktak.py wrote this); walks over the dump.
-/
import Derived.Test.YtjkfappkpopbdaaGreatSackT
import Derived.OneCell
set_option maxRecDepth 100000
set_option maxHeartbeats 16000000
set_option linter.unusedVariables false
set_option linter.unusedSimpArgs false
namespace Go.Proofs.YtjkfappkpopbdaaGreat
section
open Go.RowKit
theorem ccells_append:∀a b:List Con,ccells (a++b)=ccells a++ccells b
 | [],b=>rfl
 | q::t,b=>by rw [List.cons_append,ccells,ccells,ccells_append t b,List.append_assoc]
theorem ccells_take (l:List Con) (i:Nat) (h:i≤l.length):(ccells l).take (i*5)=ccells (l.take i):=by
 have e:ccells l=ccells (l.take i)++ccells (l.drop i):=by rw [←ccells_append,List.take_append_drop]
 have hl:(ccells (l.take i)).length=i*5:=by rw [ccells_len,List.length_take,Nat.min_eq_left h]
 rw [e,←hl,List.take_left]
theorem ccells_drop (l:List Con) (i:Nat) (h:i≤l.length):(ccells l).drop (i*5)=ccells (l.drop i):=by
 have e:ccells l=ccells (l.take i)++ccells (l.drop i):=by rw [←ccells_append,List.take_append_drop]
 have hl:(ccells (l.take i)).length=i*5:=by rw [ccells_len,List.length_take,Nat.min_eq_left h]
 rw [e,←hl,List.drop_left]
theorem csplice (l:List Con) (R:List Value) (i:Nat) (h:i<l.length):∃R',splice (ccells l++R) (i*5) (ccells (l.drop (i+1)))=ccells (l.eraseIdx i)++R'∧(ccells (l.eraseIdx i)++R').length=(ccells l++R).length:=by
 have hl:=ccells_len l
 have hd:=ccells_len (l.drop (i+1))
 rw [List.length_drop] at hd
 refine ⟨(ccells l++R).drop (i*5+(ccells (l.drop (i+1))).length),?_,?_⟩
 ·rw [splice,List.take_append_of_le_length (by omega),ccells_take l i (by omega),←List.append_assoc,←ccells_append,List.eraseIdx_eq_take_drop_succ]
 ·rw [List.length_append,List.length_drop,ccells_len,List.length_append,List.length_eraseIdx_of_lt h]
  have:(l.length - (i+1))*5=l.length*5 - (i+1)*5:=Nat.sub_mul _ _ _
  omega
theorem Lay.rowC {w:World} {g M:Nat} {l:List Con} (h:Lay w 150 g M (ccells l)):ConRow w (some ⟨g,0,none⟩) l.length l:=by
 refine ⟨rfl,.inr ⟨g,0,rfl,fun i hi=>?_⟩⟩
 obtain ⟨a,b,c,d,e⟩:=ccells_at l i hi
 unfold ConAt
 simp only [Nat.zero_add]
 exact ⟨h.cell a,h.cell b,h.cell c,h.cell d,h.cell e⟩
def TakC (w:World) (g M:Nat) (l gl:List Con):Prop:=∃v,Blk w (g+1) #[.slice (some ⟨g,0,none⟩) l.length l.length,v] 268∧Lay w 150 g M (ccells l)∧COwn (g+2) w v gl
theorem TakC.below {w w':World} {g M:Nat} {l gl:List Con} (h:TakC w g M l gl) (hb:Below w.heap.size w w'):TakC w' g M l gl:=let ⟨v,a,b,c⟩:=h;⟨v,a.below hb,b.below hb,cown_below c hb⟩
theorem takingFromC_any (ao:Option Addr) (n c:Nat) (l:List Con) (w:World) (h:ConRow w ao n l) (hn:n≤1048576) :
  Calls Tryz.prog 215 #[.slice ao n c] w fun e w'=>e=.returned (.pointer (some ⟨w.heap.size+1,0,none⟩))∧TakC w' w.heap.size (n*5) l []∧w'.heap.size=w.heap.size+2∧Below w.heap.size w w':=by
 obtain ⟨i0,hi,hz0,hz1,hz2⟩:=info_parts Tryz.infoCont
 have hsz:(Tryz.prog.info? 150).map (·.size)=some 5:=by rw [hi];exact congrArg some hz1
 have hmk:=make_cons n hn w
 obtain ⟨A,hA⟩:∃A:Array Value,madeCells (conv ⟨0,0,[],0,0⟩).cells (n*5)=A:=⟨_,rfl⟩
 have hAs:A.size=n*5:=by rw [←hA];simp [madeCells]
 rw [hA] at hmk
 have hb0:=yA (yH _ w) (.cells A 150)
 have HB0:=hide hb0
 have hg0:(w.alloc (.cells A 150)).heap[w.heap.size]? = some (.cells A.toList.toArray 150 (0,0)):=by
  show (w.heap.push _)[w.heap.size]? = _
  simp
 have hcl:(ccells l).length=n*5:=by rw [ccells_len,h.1]
 have HPS:=hide (show n≠0→∃ad,ao=some ad∧∀j v,(ccells l)[j]? = some v→(w.alloc (.cells A 150)).cell? (ad.add j)=some v from fun hz=>by
  rcases h.2 with e | ⟨b,off,e,_⟩
  ·exact absurd e hz
  ·subst e
   refine ⟨_,rfl,fun j v hv=>?_⟩
   rw [Lib.add_plain]
   exact ccells_row (h.below hb0) j v hv)
 have HLN:=hide h.1
 have HG0:=hide hg0
 have HONE:=hide (ccells_one l)
 have HCL:=hide hcl
 have HAS:=hide hAs
 clear h hA hb0 hg0 hcl hAs
 go_enter Tryz.func215,Tryz.ntmps215
 go_upto_region 2 with fail
 go_wp2_with (refine wpList_copy_many rfl (.tmp 7) (.tmp 8) 35 35 rfl 150 5 Tryz.underlying35 hsz _ _ _ _ _ _ rfl rfl w.heap.size 0 A.toList 150 (uH HG0) (ccells l) n (Nat.min_self n).symm (uH HCL) (fun hz=>⟨rfl,uH HPS hz⟩) (by have:=uH HCL;have:=uH HAS;simp;omega) (uH HONE) ?_)
 intro w1 HG1 HM1 hw1
 have hs1:w1.heap.size=w.heap.size+1:=by simpa using hw1
 have HL1:=hide (show Lay w1 150 w.heap.size (n*5) (ccells l) from ⟨[],by
  have:=uH HG1
  rw [splice,List.take_zero,List.nil_append,Nat.zero_add] at this
  rw [List.drop_of_length_le (by have:=uH HCL;have:=uH HAS;simp;omega)] at this
  exact this,by have:=uH HCL;simpa using this⟩)
 have HB1:=hide (show Below w.heap.size w w1 from (uH HB0).trans ((uH HM1).below (fun k hk=>by omega) (by rw [yE];omega)))
 clear HG1 HM1 hw1 HB0 HG0 HPS hmk
 go_wp2
 go_ret
 refine ⟨rfl,⟨_,?_,(uH HL1).below (yA (yH _ w1) _),cown_nil _ _⟩,by rw [yE,hs1],yA (uH HB1) _⟩
 have:=yD w1 #[.slice (some ⟨w.heap.size,0,none⟩) l.length l.length,.slice none 0 0] 268
 rw [hs1] at this
 rw [←uH HLN] at this ⊢
 exact this
theorem Mks.grown {g:Nat} {w w':World} (h:Mks (fun k=>k=g) w w'):w.grownBy w' (some g):=⟨h.os,h.tape,h.output,h.size,fun k hk hne=>h.block k hk (fun e=>hne (by rw [e]))⟩
theorem Mks.blk1 {g k:Nat} {a w:World} {arr:Array Value} {t:TypeId} (h:Mks (fun k=>k=g) a w) (hb:Blk a k arr t) (hk:k≠g):Blk w k arr t:=h.blk hb hk
theorem cown_mks {B g:Nat} {w w':World} {v:Value} {l:List Con} (hm:Mks (fun k=>k=g) w w') (h:COwn B w v l) (hg:g<B):COwn B w' v l:=
 World.ownsRow.kept h hm.grown (.inr (fun e=>by have:=(World.ownsRow.lt h g e).1;omega))
def KpSt (w w':World):Prop:=∀k arr,Blk w k arr 37→Blk w' k arr 37
theorem KpSt.trans {a b c:World} (h:KpSt a b) (h':KpSt b c):KpSt a c:=fun k arr x=>h' k arr (h k arr x)
theorem kpst_set {w:World} {b:Nat} {arr:Array Value} {t:TypeId} (h:Blk w b arr t) (j:Nat) (v:Value) (ht:t≠37):KpSt w (w.setCell ⟨b,j,none⟩ v):=fun k a x=>x.other b j v (fun e=>by
 subst e
 have x':w.heap[k]? = some (.cells a 37 (0,0)):=x
 rw [show w.heap[k]? = _ from h] at x'
 cases x'
 exact ht rfl)
theorem kpst_mks {w w':World} {g M:Nat} {xs:List Value} (h:Mks (fun k=>k=g) w w') (hl:Lay w 150 g M xs):KpSt w w':=fun k a x=>h.blk1 x (fun e=>by
 subst e
 obtain ⟨R,h1,h2⟩:=hl
 have x':w.heap[k]? = some (.cells a 37 (0,0)):=x
 rw [h1] at x'
 cases x')
theorem kpst_al (w:World) (o:Obj):KpSt w (w.alloc o):=fun k a x=>x.al o
theorem kpst_grown {w w':World} {B sz n:Nat} {v:Value} {xs:List Value} {ob:Obj} (h:w.ownsRow B 150 sz v n xs) (hg:(w.alloc ob).drew.grownBy w' v.ownBlock):KpSt w w':=fun k a x=>(show Blk (w.alloc ob).drew k a 37 from x.al ob).grown hg (fun k e=>let ⟨N,hc⟩:=owns_cel (World.ownsRow.alloc h ob) k e;⟨N,hc⟩) (by decide)
theorem takeC_ex (g M a:Nat) (l gl:List Con) (w:World) (h:TakC w g M l gl) (ha:a<l.length) (hl:l.length≤1048576) (hgl:gl.length≤1048576) :
  Calls Tryz.prog 235 #[.pointer (some ⟨g+1,0,none⟩),.int .i64 (a:Int)] w fun e w'=>e=.returned (conv l[a])∧TakC w' g M (l.eraseIdx a) (gl++[l[a]])∧Below g w w'∧KpSt w w':=by
 obtain ⟨i0,hi,hz0,hz1,hz2⟩:=info_parts Tryz.infoCont
 have hsz:(Tryz.prog.info? 150).map (·.size)=some 5:=by rw [hi];exact congrArg some hz1
 obtain ⟨v,hbk,hly,how⟩:=h
 obtain ⟨n,hn⟩:∃n,l.length=n:=⟨_,rfl⟩
 have c0:=hly.cell (ccells_at l a ha).1
 have c1:=hly.cell (ccells_at l a ha).2.1
 have c2:=hly.cell (ccells_at l a ha).2.2.1
 have c3:=hly.cell (ccells_at l a ha).2.2.2.1
 have c4:=hly.cell (ccells_at l a ha).2.2.2.2
 obtain ⟨vo,vc,rfl,hvr,hvc,hvg⟩:=cown_row how
 obtain ⟨m,hm⟩:∃m,gl.length=m:=⟨_,rfl⟩
 obtain ⟨⟨id,ap,nd,me,cp⟩,hq⟩:∃q,l[a]=q:=⟨_,rfl⟩
 have HQ:=hide hq
 have HM:=hide hm
 have HN:=hide hn
 rw [hq] at c0 c1 c2 c3 c4 ⊢
 rw [hm] at hbk how hgl hvc
 rw [hn] at hbk hl ha
 simp only at c0 c1 c2 c3 c4
 have hb0:=yA (yA (yH _ w) (.cells #[.int .i64 0,.int .i64 0,.string { data:=#[] },.int .i64 0,.int .i64 0] 150)) (.cells #[.int .i64 id,.int .i64 ap,.string (bs nd),.int .i64 me,.int .i64 cp] 150)
 have HB0:=hide hb0
 have Z0:=hide ((yD w #[.int .i64 0,.int .i64 0,.string { data:=#[] },.int .i64 0,.int .i64 0] 150).al (.cells #[.int .i64 id,.int .i64 ap,.string (bs nd),.int .i64 me,.int .i64 cp] 150))
 have Z1:=hide (show Blk _ (w.heap.size+1) #[.int .i64 id,.int .i64 ap,.string (bs nd),.int .i64 me,.int .i64 cp] 150 by have:=yD (w.alloc (.cells #[.int .i64 0,.int .i64 0,.string { data:=#[] },.int .i64 0,.int .i64 0] 150)) #[.int .i64 id,.int .i64 ap,.string (bs nd),.int .i64 me,.int .i64 cp] 150;rwa [yE] at this)
 have d0:=hbk.at 0
 have d1:=hbk.at 1
 simp at d0 d1
 have K0:=hide (hbk.below hb0)
 have U0:=hide ((kpst_al w (.cells #[.int .i64 0,.int .i64 0,.string { data:=#[] },.int .i64 0,.int .i64 0] 150)).trans (kpst_al _ (.cells #[.int .i64 id,.int .i64 ap,.string (bs nd),.int .i64 me,.int .i64 cp] 150)))
 have L0:=hide (hly.below hb0)
 have O0:=hide (cown_below how hb0)
 have hgs:g+1<w.heap.size:=hbk.lt
 have HVO:=hide (fun k hk=>World.ownsRow.lt how k hk)
 have hgs0:g<w.heap.size:=by omega
 have a0:(0:Int)≤a:=by omega
 have a1:(a:Int)<n:=by omega
 clear hb0 hbk hly how hvr hvg hq hm hn
 go_enter Tryz.func235,Tryz.ntmps235
 go_upto_region 2 with fail
 obtain ⟨W,hW⟩:∃W,(w.alloc (.cells #[.int .i64 0,.int .i64 0,.string { data:=#[] },.int .i64 0,.int .i64 0] 150)).alloc (.cells #[.int .i64 id,.int .i64 ap,.string (bs nd),.int .i64 me,.int .i64 cp] 150)=W:=⟨_,rfl⟩
 rw [hW] at HB0 Z0 Z1 K0 L0 O0 U0 ⊢
 clear hW d0 d1 c0 c1 c2 c3 c4
 have d0:=(uH K0).at 0
 simp at d0
 obtain ⟨R,hR1,hR2⟩:=uH L0
 have HR1:=hide hR1
 have HR2:=hide hR2
 have hcl:=ccells_len l
 have hdl:=ccells_len (l.drop (a+1))
 rw [List.length_drop] at hdl
 rw [uH HN] at hcl hdl
 have hRl:(ccells l++R).length=n*5+R.length:=by rw [List.length_append,hcl]
 obtain ⟨CS,hCS⟩:∃c,ccells (l.drop (a+1))=c:=⟨_,rfl⟩
 have HCS:=hide hCS
 rw [hCS] at hdl
 have HDL:=hide hdl
 have HRL:=hide hRl
 have H1C:=hide (show ∀v ∈ CS,v.oneCell'=true by rw [←hCS];exact ccells_one _)
 have HSRC:=hide (show ∀j v,CS[j]? = some v→∀wx:World,wx.heap[g]? = W.heap[g]?→wx.cell? ⟨g,(a+1)*5+j,none⟩=some v from fun j v hv wx hx=>by
  have e:(ccells l)[(a+1)*5+j]? = some v:=by rw [←hCS,←ccells_drop l (a+1) (by have:=uH HN;omega),List.getElem?_drop] at hv;exact hv
  have:=(uH L0).cell e
  rw [←this]
  exact World.cell?_of_block (w:=W) (a:=⟨g,(a+1)*5+j,none⟩) hx)
 obtain ⟨LL,hLL⟩:∃L,ccells l++R=L:=⟨_,rfl⟩
 have HLL:=hide hLL
 rw [hLL] at HR1 HRL
 clear hR1 hR2 hcl hdl hRl hCS hLL
 have hle:a≤n:=by omega
 have hne:¬n=a:=by omega
 by_cases hlast:a+1=n
 ·have hlast':(a:Int)+1=n:=by omega
  have hw1:IntKind.i64.wrap (n:Int)=n:=by rw [IntKind.wrap_i64];omega
  go_region_law (refine step_copy_many rfl (.tmp 19) (.tmp 26) 35 35 rfl 150 5 Tryz.underlying35 hsz _ _ _ _ _ _ rfl rfl g (a*5) LL 150 (uH HR1) CS (n - (a+1)) (by show _=min _ _;omega) (by have:=uH HDL;omega) (fun hz=>absurd hlast (by omega)) (by have:=uH HRL;have:=uH HDL;omega) (uH H1C) ?_;intro w2 HG2 HM2 hs2)
  all_goals
   have L2:=hide (show Lay w2 150 g M (ccells (l.eraseIdx a)) from by
    obtain ⟨R',e1,e2⟩:=csplice l R a (by have:=uH HN;omega)
    refine ⟨R',?_,by rw [e2];exact uH HR2⟩
    have:=uH HG2
    rw [←uH HLL,←uH HCS,e1] at this
    exact this)
   have K2:=hide ((uH HM2).blk1 (uH K0) (by omega))
   have U2:=hide ((uH U0).trans ((show KpSt W W.drew from fun k a x=>x).trans (kpst_mks (uH HM2) (uH L0))))
   have Z02:=hide ((uH HM2).blk1 (uH Z0) (by omega))
   have Z12:=hide ((uH HM2).blk1 (uH Z1) (by omega))
   have O2:=hide (cown_mks (B:=g+2) (g:=g) (uH HM2) (uH O0) (by omega))
   have hgW:g≤W.heap.size:=Nat.le_of_lt (uH L0).lt
   have B2:=hide (show Below g w w2 from (((uH HB0).mono (by omega)).drew).trans ((uH HM2).below (B:=g) (fun k (hk:k=g)=>by omega) hgW))
   clear hgW
   have hz2:w.heap.size+1<w2.heap.size:=(uH Z12).lt
   have k0:=(uH K2).at 0
   have kf:=(uH K2).f 0
   simp at k0
   have hn1:((n:Int) - 1).toNat=n - 1:=by omega
   have hn2:(0:Int)≤(n:Int) - 1:=by omega
   clear HG2 HM2 hs2 K0 Z0 Z1 O0 HB0 d0
   go_upto_region 5 with fail
   have L3:=hide ((uH L2).other (g+1) 0 (.slice (some ⟨g,0,none⟩) (n - 1) (n - 1)) (by omega))
   have K3:=hide (show Blk (w2.setCell ⟨g+1,0,none⟩ (.slice (some ⟨g,0,none⟩) (n - 1) (n - 1))) (g+1) #[.slice (some ⟨g,0,none⟩) (n - 1) (n - 1),.slice vo m vc] 268 from (uH K2).set 0 _)
   have Z03:=hide ((uH Z02).other (g+1) 0 (.slice (some ⟨g,0,none⟩) (n - 1) (n - 1)) (by omega))
   have Z13:=hide ((uH Z12).other (g+1) 0 (.slice (some ⟨g,0,none⟩) (n - 1) (n - 1)) (by omega))
   have O3:=hide (cown_other (uH O2) (g+1) 0 (.slice (some ⟨g,0,none⟩) (n - 1) (n - 1)) (by omega))
   have B3:=hide ((uH B2).setCell (p:=⟨g+1,0,none⟩) (by simp) (.slice (some ⟨g,0,none⟩) (n - 1) (n - 1)))
   have U3:=hide ((uH U2).trans (kpst_set (uH K2) 0 (.slice (some ⟨g,0,none⟩) (n - 1) (n - 1)) (by decide)))
   generalize w2.setCell ⟨g+1,0,none⟩ (.slice (some ⟨g,0,none⟩) (n - 1) (n - 1))=w3 at L3 K3 Z03 Z13 O3 B3 U3 ⊢
   have O3':=hide (show w3.ownsRow (g+2) 150 5 (.slice vo m vc) m (ccells gl) by have:=uH O3;unfold COwn at this;rwa [uH HM] at this)
   have hz3:w.heap.size+1<w3.heap.size:=(uH Z13).lt
   have hgz:g+1<w3.heap.size:=by omega
   have k1:=(uH K3).at 1
   have q0:=(uH Z13).at 0
   have q1:=(uH Z13).at 1
   have q2:=(uH Z13).at 2
   have q3:=(uH Z13).at 3
   have q4:=(uH Z13).at 4
   simp at k1 q0 q1 q2 q3 q4
   clear k0 kf K2 Z02 Z12 O2 B2 L2 hz2
   go_region_law (refine step_append_lies _ rfl (.tmp 48) (.tmp 50) 35 rfl (g+2) 150 i0 (.agg #[.int .i64 0,.int .i64 0,.string ByteArray.empty,.int .i64 0,.int .i64 0]) 5 48 Tryz.underlying35 hi hz0 hz1 hz2 rfl (by decide) (.slice vo m vc) m (ccells gl) rfl (World.ownsRow.alloc (uH O3') _) ⟨w3.heap.size,0,none⟩ 1 1 (ccell ⟨id,ap,nd,me,cp⟩) rfl rfl (World.news_of_block (yD _ _ _)) (by intro u hu;simp at hu;rcases hu with rfl | rfl | rfl | rfl | rfl<;>rfl) (by decide) (by unfold maxLen;omega) (by omega) (by simp;omega) _ rfl ?_;intro go gc w4 hown hgrow hgo _;have HGO:=hide hgo;have O4:=hide hown;have G4:=hide hgrow;have K4:=hide (show Blk w4 (g+1) _ 268 from (hgrow.block (g+1) (by simp;omega) (fun e=>by have:=(World.ownsRow.lt (uH O3') (g+1) e.symm).1;omega)).trans ((uH K3).al _));have k4:=(uH K4).at 1;have f4:=(uH K4).f 1;simp at k4;clear hown hgrow hgo)
   all_goals
    have hgo:go<w.heap.size∨w.heap.size+1<go:=by
     rcases uH HGO with e | e
     ·exact .inl (uH HVO go e).2
     ·right
      rw [e]
      simp
      omega
    have K5:=hide (show Blk (w4.setCell ⟨g+1,1,none⟩ (.slice (some ⟨go,0,none⟩) (m+1) gc)) (g+1) #[.slice (some ⟨g,0,none⟩) (n - 1) (n - 1),.slice (some ⟨go,0,none⟩) (m+1) gc] 268 from (uH K4).set 1 _)
    have far:∀(k:Nat) (arr:Array Value) (t:TypeId),Blk w3 k arr t→(k<g+2∨w.heap.size≤k)→Blk w4 k arr t:=fun k arr t hk hn=>((uH G4).block k (by have:=hk.lt;simp;omega) (fun e=>by have:=uH HVO k e.symm;omega)).trans (hk.al _)
    have Z05:=hide ((far _ _ _ (uH Z03) (.inr (yJ _))).other (g+1) 1 (.slice (some ⟨go,0,none⟩) (m+1) gc) (by omega))
    have Z15:=hide ((far _ _ _ (uH Z13) (.inr (by omega))).other (g+1) 1 (.slice (some ⟨go,0,none⟩) (m+1) gc) (by omega))
    have L5:=hide ((show Lay w4 150 g M (ccells (l.eraseIdx a)) from ((uH L3).below (yA (yH _ w3) (.cells #[.int .i64 id,.int .i64 ap,.string (bs nd),.int .i64 me,.int .i64 cp] 150))).of_block ((uH G4).block g (by have:=(uH L3).lt;simp;omega) (fun e=>by have:=(uH HVO g e.symm).1;omega))).other (g+1) 1 (.slice (some ⟨go,0,none⟩) (m+1) gc) (by omega))
    have O5:=hide (show COwn (g+2) (w4.setCell ⟨g+1,1,none⟩ (.slice (some ⟨go,0,none⟩) (m+1) gc)) (.slice (some ⟨go,0,none⟩) (m+1) gc) (gl++[⟨id,ap,nd,me,cp⟩]) from cown_other (by unfold COwn;rw [ccells_app,List.length_append,uH HM];exact uH O4) (g+1) 1 _ (by omega))
    have B5:=hide (show Below g w (w4.setCell ⟨g+1,1,none⟩ (.slice (some ⟨go,0,none⟩) (m+1) gc)) from ((((uH B3).trans ((yA (yH _ w3) (.cells #[.int .i64 id,.int .i64 ap,.string (bs nd),.int .i64 me,.int .i64 cp] 150)).mono (by omega))).drew).grown (uH G4) (by simp;omega) (fun k e=>by have:=(uH HVO k e).1;omega)).setCell (p:=⟨g+1,1,none⟩) (by simp) _)
    have U5:=hide (((uH U3).trans (kpst_grown (uH O3') (uH G4))).trans (kpst_set (uH K4) 1 (.slice (some ⟨go,0,none⟩) (m+1) gc) (by decide)))
    clear far
    generalize w4.setCell ⟨g+1,1,none⟩ (.slice (some ⟨go,0,none⟩) (m+1) gc)=w5 at K5 Z05 Z15 L5 O5 B5 U5 ⊢
    obtain ⟨s0,s1,s2,s3,s4⟩:=zp (uH Z15)
    obtain ⟨r0,r1,r2,r3,r4⟩:=zp (uH Z05)
    have u0:=(uH Z05).f 0;have u1:=(uH Z05).f 1;have u2:=(uH Z05).f 2;have u3:=(uH Z05).f 3;have u4:=(uH Z05).f 4
    clear K3 Z03 Z13 O3 O3' B3 L3 k1 q0 q1 q2 q3 q4 k4 f4 K4 G4 O4 HGO
    go_wp2
    have R9:=hide (show Blk (((((w5.setCell ⟨w.heap.size,0,none⟩ (.int .i64 id)).setCell ⟨w.heap.size,1,none⟩ (.int .i64 ap)).setCell ⟨w.heap.size,2,none⟩ (.string (bs nd))).setCell ⟨w.heap.size,3,none⟩ (.int .i64 me)).setCell ⟨w.heap.size,4,none⟩ (.int .i64 cp)) w.heap.size #[.int .i64 id,.int .i64 ap,.string (bs nd),.int .i64 me,.int .i64 cp] 150 from ((((((uH Z05).set 0 (.int .i64 id)).set 1 (.int .i64 ap)).set 2 (.string (bs nd))).set 3 (.int .i64 me)).set 4 (.int .i64 cp)))
    have K9:=hide (((((((uH K5).other w.heap.size 0 (.int .i64 id) (by omega)).other w.heap.size 1 (.int .i64 ap) (by omega)).other w.heap.size 2 (.string (bs nd)) (by omega)).other w.heap.size 3 (.int .i64 me) (by omega)).other w.heap.size 4 (.int .i64 cp) (by omega)))
    have L9:=hide (((((((uH L5).other w.heap.size 0 (.int .i64 id) (by omega)).other w.heap.size 1 (.int .i64 ap) (by omega)).other w.heap.size 2 (.string (bs nd)) (by omega)).other w.heap.size 3 (.int .i64 me) (by omega)).other w.heap.size 4 (.int .i64 cp) (by omega)))
    have O9:=hide (show COwn (g+2) (((((w5.setCell ⟨w.heap.size,0,none⟩ (.int .i64 id)).setCell ⟨w.heap.size,1,none⟩ (.int .i64 ap)).setCell ⟨w.heap.size,2,none⟩ (.string (bs nd))).setCell ⟨w.heap.size,3,none⟩ (.int .i64 me)).setCell ⟨w.heap.size,4,none⟩ (.int .i64 cp)) (.slice (some ⟨go,0,none⟩) (m+1) gc) (gl++[⟨id,ap,nd,me,cp⟩]) from (ownsRow_setCell_other (ownsRow_setCell_other (ownsRow_setCell_other (ownsRow_setCell_other (ownsRow_setCell_other (uH O5) (a:=⟨w.heap.size,0,none⟩) (by simp [Value.ownBlock];omega) (.int .i64 id)) (a:=⟨w.heap.size,1,none⟩) (by simp [Value.ownBlock];omega) (.int .i64 ap)) (a:=⟨w.heap.size,2,none⟩) (by simp [Value.ownBlock];omega) (.string (bs nd))) (a:=⟨w.heap.size,3,none⟩) (by simp [Value.ownBlock];omega) (.int .i64 me)) (a:=⟨w.heap.size,4,none⟩) (by simp [Value.ownBlock];omega) (.int .i64 cp)))
    have B9:=hide (((((((uH B5).setCell (p:=⟨w.heap.size,0,none⟩) (by show g≤w.heap.size;omega) (.int .i64 id)).setCell (p:=⟨w.heap.size,1,none⟩) (by show g≤w.heap.size;omega) (.int .i64 ap)).setCell (p:=⟨w.heap.size,2,none⟩) (by show g≤w.heap.size;omega) (.string (bs nd))).setCell (p:=⟨w.heap.size,3,none⟩) (by show g≤w.heap.size;omega) (.int .i64 me)).setCell (p:=⟨w.heap.size,4,none⟩) (by show g≤w.heap.size;omega) (.int .i64 cp)))
    have U9:=hide ((((((uH U5).trans (kpst_set (uH Z05) 0 (.int .i64 id) (by decide))).trans (kpst_set ((uH Z05).set 0 (.int .i64 id)) 1 (.int .i64 ap) (by decide))).trans (kpst_set (((uH Z05).set 0 (.int .i64 id)).set 1 (.int .i64 ap)) 2 (.string (bs nd)) (by decide))).trans (kpst_set ((((uH Z05).set 0 (.int .i64 id)).set 1 (.int .i64 ap)).set 2 (.string (bs nd))) 3 (.int .i64 me) (by decide))).trans (kpst_set (((((uH Z05).set 0 (.int .i64 id)).set 1 (.int .i64 ap)).set 2 (.string (bs nd))).set 3 (.int .i64 me)) 4 (.int .i64 cp) (by decide)))
    generalize (((((w5.setCell ⟨w.heap.size,0,none⟩ (.int .i64 id)).setCell ⟨w.heap.size,1,none⟩ (.int .i64 ap)).setCell ⟨w.heap.size,2,none⟩ (.string (bs nd))).setCell ⟨w.heap.size,3,none⟩ (.int .i64 me)).setCell ⟨w.heap.size,4,none⟩ (.int .i64 cp))=W9 at R9 K9 L9 O9 B9 U9 ⊢
    obtain ⟨z0,z1,z2,z3,z4⟩:=zp (uH R9)
    refine bodyPost_ret (v:=.agg #[.int .i64 id,.int .i64 ap,.string (bs nd),.int .i64 me,.int .i64 cp]) (by simp [results,Tryz.results235,go_sem,z0,z1,z2,z3,z4]) rfl ⟨rfl,⟨_,?_,uH L9,uH O9⟩,uH B9,uH U9⟩
    rw [List.length_eraseIdx_of_lt (by have:=uH HN;omega),uH HN]
    exact uH K9
 ·have hw1:IntKind.i64.wrap ((a:Int)+1)=(a:Int)+1:=by rw [IntKind.wrap_i64];omega
  have hle2:(a:Int)+1≤n:=by omega
  have hle3:a+1≤n:=by omega
  have hne2:¬n=a+1:=by omega
  have htn:((a:Int)+1).toNat=a+1:=by omega
  have ha2:(0:Int)≤(a:Int)+1:=by omega
  go_region_law (refine step_copy_many rfl (.tmp 19) (.tmp 26) 35 35 rfl 150 5 Tryz.underlying35 hsz _ _ _ _ _ _ rfl rfl g (a*5) LL 150 (uH HR1) CS (n - (a+1)) (by show _=min _ _;omega) (by have:=uH HDL;omega) (fun hz=>⟨rfl,_,rfl,fun j v hv=>by rw [Lib.add_plain];exact uH HSRC j v hv _ rfl⟩) (by have:=uH HRL;have:=uH HDL;omega) (uH H1C) ?_;intro w2 HG2 HM2 hs2)
  all_goals
   have L2:=hide (show Lay w2 150 g M (ccells (l.eraseIdx a)) from by
    obtain ⟨R',e1,e2⟩:=csplice l R a (by have:=uH HN;omega)
    refine ⟨R',?_,by rw [e2];exact uH HR2⟩
    have:=uH HG2
    rw [←uH HLL,←uH HCS,e1] at this
    exact this)
   have K2:=hide ((uH HM2).blk1 (uH K0) (by omega))
   have U2:=hide ((uH U0).trans ((show KpSt W W.drew from fun k a x=>x).trans (kpst_mks (uH HM2) (uH L0))))
   have Z02:=hide ((uH HM2).blk1 (uH Z0) (by omega))
   have Z12:=hide ((uH HM2).blk1 (uH Z1) (by omega))
   have O2:=hide (cown_mks (B:=g+2) (g:=g) (uH HM2) (uH O0) (by omega))
   have hgW:g≤W.heap.size:=Nat.le_of_lt (uH L0).lt
   have B2:=hide (show Below g w w2 from (((uH HB0).mono (by omega)).drew).trans ((uH HM2).below (B:=g) (fun k (hk:k=g)=>by omega) hgW))
   clear hgW
   have hz2:w.heap.size+1<w2.heap.size:=(uH Z12).lt
   have k0:=(uH K2).at 0
   have kf:=(uH K2).f 0
   simp at k0
   have hn1:((n:Int) - 1).toNat=n - 1:=by omega
   have hn2:(0:Int)≤(n:Int) - 1:=by omega
   clear HG2 HM2 hs2 K0 Z0 Z1 O0 HB0 d0
   go_upto_region 5 with fail
   have L3:=hide ((uH L2).other (g+1) 0 (.slice (some ⟨g,0,none⟩) (n - 1) (n - 1)) (by omega))
   have K3:=hide (show Blk (w2.setCell ⟨g+1,0,none⟩ (.slice (some ⟨g,0,none⟩) (n - 1) (n - 1))) (g+1) #[.slice (some ⟨g,0,none⟩) (n - 1) (n - 1),.slice vo m vc] 268 from (uH K2).set 0 _)
   have Z03:=hide ((uH Z02).other (g+1) 0 (.slice (some ⟨g,0,none⟩) (n - 1) (n - 1)) (by omega))
   have Z13:=hide ((uH Z12).other (g+1) 0 (.slice (some ⟨g,0,none⟩) (n - 1) (n - 1)) (by omega))
   have O3:=hide (cown_other (uH O2) (g+1) 0 (.slice (some ⟨g,0,none⟩) (n - 1) (n - 1)) (by omega))
   have B3:=hide ((uH B2).setCell (p:=⟨g+1,0,none⟩) (by simp) (.slice (some ⟨g,0,none⟩) (n - 1) (n - 1)))
   have U3:=hide ((uH U2).trans (kpst_set (uH K2) 0 (.slice (some ⟨g,0,none⟩) (n - 1) (n - 1)) (by decide)))
   generalize w2.setCell ⟨g+1,0,none⟩ (.slice (some ⟨g,0,none⟩) (n - 1) (n - 1))=w3 at L3 K3 Z03 Z13 O3 B3 U3 ⊢
   have O3':=hide (show w3.ownsRow (g+2) 150 5 (.slice vo m vc) m (ccells gl) by have:=uH O3;unfold COwn at this;rwa [uH HM] at this)
   have hz3:w.heap.size+1<w3.heap.size:=(uH Z13).lt
   have hgz:g+1<w3.heap.size:=by omega
   have k1:=(uH K3).at 1
   have q0:=(uH Z13).at 0
   have q1:=(uH Z13).at 1
   have q2:=(uH Z13).at 2
   have q3:=(uH Z13).at 3
   have q4:=(uH Z13).at 4
   simp at k1 q0 q1 q2 q3 q4
   clear k0 kf K2 Z02 Z12 O2 B2 L2 hz2
   go_region_law (refine step_append_lies _ rfl (.tmp 48) (.tmp 50) 35 rfl (g+2) 150 i0 (.agg #[.int .i64 0,.int .i64 0,.string ByteArray.empty,.int .i64 0,.int .i64 0]) 5 48 Tryz.underlying35 hi hz0 hz1 hz2 rfl (by decide) (.slice vo m vc) m (ccells gl) rfl (World.ownsRow.alloc (uH O3') _) ⟨w3.heap.size,0,none⟩ 1 1 (ccell ⟨id,ap,nd,me,cp⟩) rfl rfl (World.news_of_block (yD _ _ _)) (by intro u hu;simp at hu;rcases hu with rfl | rfl | rfl | rfl | rfl<;>rfl) (by decide) (by unfold maxLen;omega) (by omega) (by simp;omega) _ rfl ?_;intro go gc w4 hown hgrow hgo _;have HGO:=hide hgo;have O4:=hide hown;have G4:=hide hgrow;have K4:=hide (show Blk w4 (g+1) _ 268 from (hgrow.block (g+1) (by simp;omega) (fun e=>by have:=(World.ownsRow.lt (uH O3') (g+1) e.symm).1;omega)).trans ((uH K3).al _));have k4:=(uH K4).at 1;have f4:=(uH K4).f 1;simp at k4;clear hown hgrow hgo)
   all_goals
    have hgo:go<w.heap.size∨w.heap.size+1<go:=by
     rcases uH HGO with e | e
     ·exact .inl (uH HVO go e).2
     ·right
      rw [e]
      simp
      omega
    have K5:=hide (show Blk (w4.setCell ⟨g+1,1,none⟩ (.slice (some ⟨go,0,none⟩) (m+1) gc)) (g+1) #[.slice (some ⟨g,0,none⟩) (n - 1) (n - 1),.slice (some ⟨go,0,none⟩) (m+1) gc] 268 from (uH K4).set 1 _)
    have far:∀(k:Nat) (arr:Array Value) (t:TypeId),Blk w3 k arr t→(k<g+2∨w.heap.size≤k)→Blk w4 k arr t:=fun k arr t hk hn=>((uH G4).block k (by have:=hk.lt;simp;omega) (fun e=>by have:=uH HVO k e.symm;omega)).trans (hk.al _)
    have Z05:=hide ((far _ _ _ (uH Z03) (.inr (yJ _))).other (g+1) 1 (.slice (some ⟨go,0,none⟩) (m+1) gc) (by omega))
    have Z15:=hide ((far _ _ _ (uH Z13) (.inr (by omega))).other (g+1) 1 (.slice (some ⟨go,0,none⟩) (m+1) gc) (by omega))
    have L5:=hide ((show Lay w4 150 g M (ccells (l.eraseIdx a)) from ((uH L3).below (yA (yH _ w3) (.cells #[.int .i64 id,.int .i64 ap,.string (bs nd),.int .i64 me,.int .i64 cp] 150))).of_block ((uH G4).block g (by have:=(uH L3).lt;simp;omega) (fun e=>by have:=(uH HVO g e.symm).1;omega))).other (g+1) 1 (.slice (some ⟨go,0,none⟩) (m+1) gc) (by omega))
    have O5:=hide (show COwn (g+2) (w4.setCell ⟨g+1,1,none⟩ (.slice (some ⟨go,0,none⟩) (m+1) gc)) (.slice (some ⟨go,0,none⟩) (m+1) gc) (gl++[⟨id,ap,nd,me,cp⟩]) from cown_other (by unfold COwn;rw [ccells_app,List.length_append,uH HM];exact uH O4) (g+1) 1 _ (by omega))
    have B5:=hide (show Below g w (w4.setCell ⟨g+1,1,none⟩ (.slice (some ⟨go,0,none⟩) (m+1) gc)) from ((((uH B3).trans ((yA (yH _ w3) (.cells #[.int .i64 id,.int .i64 ap,.string (bs nd),.int .i64 me,.int .i64 cp] 150)).mono (by omega))).drew).grown (uH G4) (by simp;omega) (fun k e=>by have:=(uH HVO k e).1;omega)).setCell (p:=⟨g+1,1,none⟩) (by simp) _)
    have U5:=hide (((uH U3).trans (kpst_grown (uH O3') (uH G4))).trans (kpst_set (uH K4) 1 (.slice (some ⟨go,0,none⟩) (m+1) gc) (by decide)))
    clear far
    generalize w4.setCell ⟨g+1,1,none⟩ (.slice (some ⟨go,0,none⟩) (m+1) gc)=w5 at K5 Z05 Z15 L5 O5 B5 U5 ⊢
    obtain ⟨s0,s1,s2,s3,s4⟩:=zp (uH Z15)
    obtain ⟨r0,r1,r2,r3,r4⟩:=zp (uH Z05)
    have u0:=(uH Z05).f 0;have u1:=(uH Z05).f 1;have u2:=(uH Z05).f 2;have u3:=(uH Z05).f 3;have u4:=(uH Z05).f 4
    clear K3 Z03 Z13 O3 O3' B3 L3 k1 q0 q1 q2 q3 q4 k4 f4 K4 G4 O4 HGO
    go_wp2
    have R9:=hide (show Blk (((((w5.setCell ⟨w.heap.size,0,none⟩ (.int .i64 id)).setCell ⟨w.heap.size,1,none⟩ (.int .i64 ap)).setCell ⟨w.heap.size,2,none⟩ (.string (bs nd))).setCell ⟨w.heap.size,3,none⟩ (.int .i64 me)).setCell ⟨w.heap.size,4,none⟩ (.int .i64 cp)) w.heap.size #[.int .i64 id,.int .i64 ap,.string (bs nd),.int .i64 me,.int .i64 cp] 150 from ((((((uH Z05).set 0 (.int .i64 id)).set 1 (.int .i64 ap)).set 2 (.string (bs nd))).set 3 (.int .i64 me)).set 4 (.int .i64 cp)))
    have K9:=hide (((((((uH K5).other w.heap.size 0 (.int .i64 id) (by omega)).other w.heap.size 1 (.int .i64 ap) (by omega)).other w.heap.size 2 (.string (bs nd)) (by omega)).other w.heap.size 3 (.int .i64 me) (by omega)).other w.heap.size 4 (.int .i64 cp) (by omega)))
    have L9:=hide (((((((uH L5).other w.heap.size 0 (.int .i64 id) (by omega)).other w.heap.size 1 (.int .i64 ap) (by omega)).other w.heap.size 2 (.string (bs nd)) (by omega)).other w.heap.size 3 (.int .i64 me) (by omega)).other w.heap.size 4 (.int .i64 cp) (by omega)))
    have O9:=hide (show COwn (g+2) (((((w5.setCell ⟨w.heap.size,0,none⟩ (.int .i64 id)).setCell ⟨w.heap.size,1,none⟩ (.int .i64 ap)).setCell ⟨w.heap.size,2,none⟩ (.string (bs nd))).setCell ⟨w.heap.size,3,none⟩ (.int .i64 me)).setCell ⟨w.heap.size,4,none⟩ (.int .i64 cp)) (.slice (some ⟨go,0,none⟩) (m+1) gc) (gl++[⟨id,ap,nd,me,cp⟩]) from (ownsRow_setCell_other (ownsRow_setCell_other (ownsRow_setCell_other (ownsRow_setCell_other (ownsRow_setCell_other (uH O5) (a:=⟨w.heap.size,0,none⟩) (by simp [Value.ownBlock];omega) (.int .i64 id)) (a:=⟨w.heap.size,1,none⟩) (by simp [Value.ownBlock];omega) (.int .i64 ap)) (a:=⟨w.heap.size,2,none⟩) (by simp [Value.ownBlock];omega) (.string (bs nd))) (a:=⟨w.heap.size,3,none⟩) (by simp [Value.ownBlock];omega) (.int .i64 me)) (a:=⟨w.heap.size,4,none⟩) (by simp [Value.ownBlock];omega) (.int .i64 cp)))
    have B9:=hide (((((((uH B5).setCell (p:=⟨w.heap.size,0,none⟩) (by show g≤w.heap.size;omega) (.int .i64 id)).setCell (p:=⟨w.heap.size,1,none⟩) (by show g≤w.heap.size;omega) (.int .i64 ap)).setCell (p:=⟨w.heap.size,2,none⟩) (by show g≤w.heap.size;omega) (.string (bs nd))).setCell (p:=⟨w.heap.size,3,none⟩) (by show g≤w.heap.size;omega) (.int .i64 me)).setCell (p:=⟨w.heap.size,4,none⟩) (by show g≤w.heap.size;omega) (.int .i64 cp)))
    have U9:=hide ((((((uH U5).trans (kpst_set (uH Z05) 0 (.int .i64 id) (by decide))).trans (kpst_set ((uH Z05).set 0 (.int .i64 id)) 1 (.int .i64 ap) (by decide))).trans (kpst_set (((uH Z05).set 0 (.int .i64 id)).set 1 (.int .i64 ap)) 2 (.string (bs nd)) (by decide))).trans (kpst_set ((((uH Z05).set 0 (.int .i64 id)).set 1 (.int .i64 ap)).set 2 (.string (bs nd))) 3 (.int .i64 me) (by decide))).trans (kpst_set (((((uH Z05).set 0 (.int .i64 id)).set 1 (.int .i64 ap)).set 2 (.string (bs nd))).set 3 (.int .i64 me)) 4 (.int .i64 cp) (by decide)))
    generalize (((((w5.setCell ⟨w.heap.size,0,none⟩ (.int .i64 id)).setCell ⟨w.heap.size,1,none⟩ (.int .i64 ap)).setCell ⟨w.heap.size,2,none⟩ (.string (bs nd))).setCell ⟨w.heap.size,3,none⟩ (.int .i64 me)).setCell ⟨w.heap.size,4,none⟩ (.int .i64 cp))=W9 at R9 K9 L9 O9 B9 U9 ⊢
    obtain ⟨z0,z1,z2,z3,z4⟩:=zp (uH R9)
    refine bodyPost_ret (v:=.agg #[.int .i64 id,.int .i64 ap,.string (bs nd),.int .i64 me,.int .i64 cp]) (by simp [results,Tryz.results235,go_sem,z0,z1,z2,z3,z4]) rfl ⟨rfl,⟨_,?_,uH L9,uH O9⟩,uH B9,uH U9⟩
    rw [List.length_eraseIdx_of_lt (by have:=uH HN;omega),uH HN]
    exact uH K9
theorem takeC_any (g M a:Nat) (l gl:List Con) (w:World) (h:TakC w g M l gl) (ha:a<l.length) (hl:l.length≤1048576) (hgl:gl.length≤1048576) :
  Calls Tryz.prog 235 #[.pointer (some ⟨g+1,0,none⟩),.int .i64 (a:Int)] w fun e w'=>e=.returned (conv l[a])∧TakC w' g M (l.eraseIdx a) (gl++[l[a]])∧Below g w w':=
 (takeC_ex g M a l gl w h ha hl hgl).mono fun e w' ⟨a,b,c,_⟩=>⟨a,b,c⟩
end
end Go.Proofs.YtjkfappkpopbdaaGreat
