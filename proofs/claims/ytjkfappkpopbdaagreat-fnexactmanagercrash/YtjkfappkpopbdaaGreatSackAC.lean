/-
  Texts in one: TakP, TkaP, TakB, KepV, StEnd, TakD2, KepI.
-/
import Derived.Test.YtjkfappkpopbdaaGreatSackAA
import Derived.Test.YtjkfappkpopbdaaGreatSackP
set_option maxRecDepth 100000
set_option maxHeartbeats 16000000
set_option linter.unusedVariables false
set_option linter.unusedSimpArgs false
namespace Go.Proofs.YtjkfappkpopbdaaGreat
section
open Go.RowKit
theorem pcells_append:∀a b:List AV,pcells (a++b)=pcells a++pcells b
 | [],b=>rfl
 | q::t,b=>by rw [List.cons_append,pcells,pcells,pcells_append t b,List.append_assoc]
theorem pcells_take (l:List AV) (i:Nat) (h:i≤l.length):(pcells l).take (i*3)=pcells (l.take i):=by
 have e:pcells l=pcells (l.take i)++pcells (l.drop i):=by rw [←pcells_append,List.take_append_drop]
 have hl:(pcells (l.take i)).length=i*3:=by rw [pcells_len,List.length_take,Nat.min_eq_left h]
 rw [e,←hl,List.take_left]
theorem pcells_drop (l:List AV) (i:Nat) (h:i≤l.length):(pcells l).drop (i*3)=pcells (l.drop i):=by
 have e:pcells l=pcells (l.take i)++pcells (l.drop i):=by rw [←pcells_append,List.take_append_drop]
 have hl:(pcells (l.take i)).length=i*3:=by rw [pcells_len,List.length_take,Nat.min_eq_left h]
 rw [e,←hl,List.drop_left]
theorem psplice (l:List AV) (R:List Value) (i:Nat) (h:i<l.length):∃R',splice (pcells l++R) (i*3) (pcells (l.drop (i+1)))=pcells (l.eraseIdx i)++R'∧(pcells (l.eraseIdx i)++R').length=(pcells l++R).length:=by
 have hl:=pcells_len l
 have hd:=pcells_len (l.drop (i+1))
 rw [List.length_drop] at hd
 refine ⟨(pcells l++R).drop (i*3+(pcells (l.drop (i+1))).length),?_,?_⟩
 ·rw [splice,List.take_append_of_le_length (by omega),pcells_take l i (by omega),←List.append_assoc,←pcells_append,List.eraseIdx_eq_take_drop_succ]
 ·rw [List.length_append,List.length_drop,pcells_len,List.length_append,List.length_eraseIdx_of_lt h]
  have:(l.length - (i+1))*3=l.length*3 - (i+1)*3:=Nat.sub_mul _ _ _
  omega
theorem Lay.rowP {w:World} {g M:Nat} {l:List AV} (h:Lay w 139 g M (pcells l)):AVRow w (some ⟨g,0,none⟩) l.length l:=by
 refine ⟨rfl,.inr ⟨g,0,rfl,fun i hi=>?_⟩⟩
 obtain ⟨a,b,c⟩:=pcells_at l i hi
 unfold AVAt
 simp only [Nat.zero_add]
 exact ⟨h.cell a,h.cell b,h.cell c⟩
def TakP (w:World) (g M:Nat) (l gl:List AV):Prop:=∃v,Blk w (g+1) #[.slice (some ⟨g,0,none⟩) l.length l.length,v] 243∧Lay w 139 g M (pcells l)∧POwn (g+2) w v gl
theorem TakP.below {w w':World} {g M:Nat} {l gl:List AV} (h:TakP w g M l gl) (hb:Below w.heap.size w w'):TakP w' g M l gl:=let ⟨v,a,b,c⟩:=h;⟨v,a.below hb,b.below hb,pown_below c hb⟩
theorem takingFromP_any (ao:Option Addr) (n c:Nat) (l:List AV) (w:World) (h:AVRow w ao n l) (hn:n≤1048576) :
  Calls Tryz.prog 192 #[.slice ao n c] w fun e w'=>e=.returned (.pointer (some ⟨w.heap.size+1,0,none⟩))∧TakP w' w.heap.size (n*3) l []∧w'.heap.size=w.heap.size+2∧Below w.heap.size w w':=by
 obtain ⟨i0,hi,hz0,hz1,hz2⟩:=info_parts Tryz.infoApp
 have hsz:(Tryz.prog.info? 139).map (·.size)=some 3:=by rw [hi];exact congrArg some hz1
 have hmk:=make_appls n hn w
 obtain ⟨A,hA⟩:∃A:Array Value,madeCells (applv 0 [] none 0 0).cells (n*3)=A:=⟨_,rfl⟩
 have hAs:A.size=n*3:=by rw [←hA];simp [madeCells]
 rw [hA] at hmk
 have hb0:=yA (yH _ w) (.cells A 139)
 have HB0:=hide hb0
 have hg0:(w.alloc (.cells A 139)).heap[w.heap.size]? = some (.cells A.toList.toArray 139 (0,0)):=by
  show (w.heap.push _)[w.heap.size]? = _
  simp
 have hcl:(pcells l).length=n*3:=by rw [pcells_len,h.1]
 have HPS:=hide (show n≠0→∃ad,ao=some ad∧∀j v,(pcells l)[j]? = some v→(w.alloc (.cells A 139)).cell? (ad.add j)=some v from fun hz=>by
  rcases h.2 with e | ⟨b,off,e,_⟩
  ·exact absurd e hz
  ·subst e
   refine ⟨_,rfl,fun j v hv=>?_⟩
   rw [Lib.add_plain]
   exact pcells_row (h.below hb0) j v hv)
 have HLN:=hide h.1
 have HG0:=hide hg0
 have HONE:=hide (pcells_one l)
 have HCL:=hide hcl
 have HAS:=hide hAs
 clear h hA hb0 hg0 hcl hAs
 go_enter Tryz.func192,Tryz.ntmps192
 go_upto_region 2 with fail
 go_wp2_with (refine wpList_copy_many rfl (.tmp 7) (.tmp 8) 33 33 rfl 139 3 Tryz.underlying33 hsz _ _ _ _ _ _ rfl rfl w.heap.size 0 A.toList 139 (uH HG0) (pcells l) n (Nat.min_self n).symm (uH HCL) (fun hz=>⟨rfl,uH HPS hz⟩) (by have:=uH HCL;have:=uH HAS;simp;omega) (uH HONE) ?_)
 intro w1 HG1 HM1 hw1
 have hs1:w1.heap.size=w.heap.size+1:=by simpa using hw1
 have HL1:=hide (show Lay w1 139 w.heap.size (n*3) (pcells l) from ⟨[],by
  have:=uH HG1
  rw [splice,List.take_zero,List.nil_append,Nat.zero_add] at this
  rw [List.drop_of_length_le (by have:=uH HCL;have:=uH HAS;simp;omega)] at this
  exact this,by have:=uH HCL;simpa using this⟩)
 have HB1:=hide (show Below w.heap.size w w1 from (uH HB0).trans ((uH HM1).below (fun k hk=>by omega) (by rw [yE];omega)))
 clear HG1 HM1 hw1 HB0 HG0 HPS hmk
 go_wp2
 go_ret
 refine ⟨rfl,⟨_,?_,(uH HL1).below (yA (yH _ w1) _),pown_nil _ _⟩,by rw [yE,hs1],yA (uH HB1) _⟩
 have:=yD w1 #[.slice (some ⟨w.heap.size,0,none⟩) l.length l.length,.slice none 0 0] 243
 rw [hs1] at this
 rw [←uH HLN] at this ⊢
 exact this
theorem pown_mks {B g:Nat} {w w':World} {v:Value} {l:List AV} (hm:Mks (fun k=>k=g) w w') (h:POwn B w v l) (hg:g<B):POwn B w' v l:=
 World.ownsRow.kept h hm.grown (.inr (fun e=>by have:=(World.ownsRow.lt h g e).1;omega))
theorem takeP_any (g M a:Nat) (l gl:List AV) (w:World) (h:TakP w g M l gl) (ha:a<l.length) (hl:l.length≤1048576) (hgl:gl.length≤1048576) :
  Calls Tryz.prog 214 #[.pointer (some ⟨g+1,0,none⟩),.int .i64 (a:Int)] w fun e w'=>e=.returned (avv l[a])∧TakP w' g M (l.eraseIdx a) (gl++[l[a]])∧Below g w w':=by
 obtain ⟨i0,hi,hz0,hz1,hz2⟩:=info_parts Tryz.infoApp
 have hsz:(Tryz.prog.info? 139).map (·.size)=some 3:=by rw [hi];exact congrArg some hz1
 obtain ⟨v,hbk,hly,how⟩:=h
 obtain ⟨n,hn⟩:∃n,l.length=n:=⟨_,rfl⟩
 have c0:=hly.cell (pcells_at l a ha).1
 have c1:=hly.cell (pcells_at l a ha).2.1
 have c2:=hly.cell (pcells_at l a ha).2.2
 obtain ⟨vo,vc,rfl,hvr,hvc,hvg⟩:=pown_row how
 obtain ⟨m,hm⟩:∃m,gl.length=m:=⟨_,rfl⟩
 obtain ⟨⟨id,nd,sa,sl,sc⟩,hq⟩:∃q,l[a]=q:=⟨_,rfl⟩
 have HQ:=hide hq
 have HM:=hide hm
 have HN:=hide hn
 rw [hq] at c0 c1 c2 ⊢
 rw [hm] at hbk how hgl hvc
 rw [hn] at hbk hl ha
 simp only at c0 c1 c2
 have hb0:=yA (yA (yH _ w) (.cells #[.int .i64 0,.string { data:=#[] },.slice none 0 0] 139)) (.cells #[.int .i64 id,.string (bs nd),.slice sa sl sc] 139)
 have HB0:=hide hb0
 have Z0:=hide ((yD w #[.int .i64 0,.string { data:=#[] },.slice none 0 0] 139).al (.cells #[.int .i64 id,.string (bs nd),.slice sa sl sc] 139))
 have Z1:=hide (show Blk _ (w.heap.size+1) #[.int .i64 id,.string (bs nd),.slice sa sl sc] 139 by have:=yD (w.alloc (.cells #[.int .i64 0,.string { data:=#[] },.slice none 0 0] 139)) #[.int .i64 id,.string (bs nd),.slice sa sl sc] 139;rwa [yE] at this)
 have d0:=hbk.at 0
 have d1:=hbk.at 1
 simp at d0 d1
 have K0:=hide (hbk.below hb0)
 have L0:=hide (hly.below hb0)
 have O0:=hide (pown_below how hb0)
 have hgs:g+1<w.heap.size:=hbk.lt
 have HVO:=hide (fun k hk=>World.ownsRow.lt how k hk)
 have hgs0:g<w.heap.size:=by omega
 have a0:(0:Int)≤a:=by omega
 have a1:(a:Int)<n:=by omega
 clear hb0 hbk hly how hvr hvg hq hm hn
 go_enter Tryz.func214,Tryz.ntmps214
 go_upto_region 2 with fail
 obtain ⟨W,hW⟩:∃W,(w.alloc (.cells #[.int .i64 0,.string { data:=#[] },.slice none 0 0] 139)).alloc (.cells #[.int .i64 id,.string (bs nd),.slice sa sl sc] 139)=W:=⟨_,rfl⟩
 rw [hW] at HB0 Z0 Z1 K0 L0 O0 ⊢
 clear hW d0 d1 c0 c1 c2
 have d0:=(uH K0).at 0
 simp at d0
 obtain ⟨R,hR1,hR2⟩:=uH L0
 have HR1:=hide hR1
 have HR2:=hide hR2
 have hcl:=pcells_len l
 have hdl:=pcells_len (l.drop (a+1))
 rw [List.length_drop] at hdl
 rw [uH HN] at hcl hdl
 have hRl:(pcells l++R).length=n*3+R.length:=by rw [List.length_append,hcl]
 obtain ⟨CS,hCS⟩:∃c,pcells (l.drop (a+1))=c:=⟨_,rfl⟩
 have HCS:=hide hCS
 rw [hCS] at hdl
 have HDL:=hide hdl
 have HRL:=hide hRl
 have H1C:=hide (show ∀v ∈ CS,v.oneCell'=true by rw [←hCS];exact pcells_one _)
 have HSRC:=hide (show ∀j v,CS[j]? = some v→∀wx:World,wx.heap[g]? = W.heap[g]?→wx.cell? ⟨g,(a+1)*3+j,none⟩=some v from fun j v hv wx hx=>by
  have e:(pcells l)[(a+1)*3+j]? = some v:=by rw [←hCS,←pcells_drop l (a+1) (by have:=uH HN;omega),List.getElem?_drop] at hv;exact hv
  have:=(uH L0).cell e
  rw [←this]
  exact World.cell?_of_block (w:=W) (a:=⟨g,(a+1)*3+j,none⟩) hx)
 obtain ⟨LL,hLL⟩:∃L,pcells l++R=L:=⟨_,rfl⟩
 have HLL:=hide hLL
 rw [hLL] at HR1 HRL
 clear hR1 hR2 hcl hdl hRl hCS hLL
 have hle:a≤n:=by omega
 have hne:¬n=a:=by omega
 by_cases hlast:a+1=n
 ·have hlast':(a:Int)+1=n:=by omega
  have hw1:IntKind.i64.wrap (n:Int)=n:=by rw [IntKind.wrap_i64];omega
  go_region_law (refine step_copy_many rfl (.tmp 19) (.tmp 26) 33 33 rfl 139 3 Tryz.underlying33 hsz _ _ _ _ _ _ rfl rfl g (a*3) LL 139 (uH HR1) CS (n - (a+1)) (by show _=min _ _;omega) (by have:=uH HDL;omega) (fun hz=>absurd hlast (by omega)) (by have:=uH HRL;have:=uH HDL;omega) (uH H1C) ?_;intro w2 HG2 HM2 hs2)
  all_goals
   have L2:=hide (show Lay w2 139 g M (pcells (l.eraseIdx a)) from by
    obtain ⟨R',e1,e2⟩:=psplice l R a (by have:=uH HN;omega)
    refine ⟨R',?_,by rw [e2];exact uH HR2⟩
    have:=uH HG2
    rw [←uH HLL,←uH HCS,e1] at this
    exact this)
   have K2:=hide ((uH HM2).blk1 (uH K0) (by omega))
   have Z02:=hide ((uH HM2).blk1 (uH Z0) (by omega))
   have Z12:=hide ((uH HM2).blk1 (uH Z1) (by omega))
   have O2:=hide (pown_mks (B:=g+2) (g:=g) (uH HM2) (uH O0) (by omega))
   have hgW:g≤W.heap.size:=Nat.le_of_lt (uH L0).lt
   have B2:=hide (show Below g w w2 from (((uH HB0).mono (by omega)).drew).trans ((uH HM2).below (B:=g) (fun k (hk:k=g)=>by omega) hgW))
   clear hgW
   have hz2:w.heap.size+1<w2.heap.size:=(uH Z12).lt
   have k0:=(uH K2).at 0
   have kf:=(uH K2).f 0
   simp at k0
   have hn1:((n:Int) - 1).toNat=n - 1:=by omega
   have hn2:(0:Int)≤(n:Int) - 1:=by omega
   clear HG2 HM2 hs2 K0 Z0 Z1 O0 HB0 d0
   go_upto_region 5 with fail
   have L3:=hide ((uH L2).other (g+1) 0 (.slice (some ⟨g,0,none⟩) (n - 1) (n - 1)) (by omega))
   have K3:=hide (show Blk (w2.setCell ⟨g+1,0,none⟩ (.slice (some ⟨g,0,none⟩) (n - 1) (n - 1))) (g+1) #[.slice (some ⟨g,0,none⟩) (n - 1) (n - 1),.slice vo m vc] 243 from (uH K2).set 0 _)
   have Z03:=hide ((uH Z02).other (g+1) 0 (.slice (some ⟨g,0,none⟩) (n - 1) (n - 1)) (by omega))
   have Z13:=hide ((uH Z12).other (g+1) 0 (.slice (some ⟨g,0,none⟩) (n - 1) (n - 1)) (by omega))
   have O3:=hide (pown_other (uH O2) (g+1) 0 (.slice (some ⟨g,0,none⟩) (n - 1) (n - 1)) (by omega))
   have B3:=hide ((uH B2).setCell (p:=⟨g+1,0,none⟩) (by simp) (.slice (some ⟨g,0,none⟩) (n - 1) (n - 1)))
   generalize w2.setCell ⟨g+1,0,none⟩ (.slice (some ⟨g,0,none⟩) (n - 1) (n - 1))=w3 at L3 K3 Z03 Z13 O3 B3 ⊢
   have O3':=hide (show w3.ownsRow (g+2) 139 3 (.slice vo m vc) m (pcells gl) by have:=uH O3;unfold POwn at this;rwa [uH HM] at this)
   have hz3:w.heap.size+1<w3.heap.size:=(uH Z13).lt
   have hgz:g+1<w3.heap.size:=by omega
   have k1:=(uH K3).at 1
   have q0:=(uH Z13).at 0
   have q1:=(uH Z13).at 1
   have q2:=(uH Z13).at 2
   simp at k1 q0 q1 q2
   clear k0 kf K2 Z02 Z12 O2 B2 L2 hz2
   go_region_law (refine step_append_lies _ rfl (.tmp 48) (.tmp 50) 33 rfl (g+2) 139 i0 (.agg #[.int .i64 0,.string ByteArray.empty,.slice none 0 0]) 3 48 Tryz.underlying33 hi hz0 hz1 hz2 rfl (by decide) (.slice vo m vc) m (pcells gl) rfl (World.ownsRow.alloc (uH O3') _) ⟨w3.heap.size,0,none⟩ 1 1 (pcell ⟨id,nd,sa,sl,sc⟩) rfl rfl (World.news_of_block (yD _ _ _)) (by intro u hu;simp at hu;rcases hu with rfl | rfl | rfl<;>rfl) (by decide) (by unfold maxLen;omega) (by omega) (by simp;omega) _ rfl ?_;intro go gc w4 hown hgrow hgo _;have HGO:=hide hgo;have O4:=hide hown;have G4:=hide hgrow;have K4:=hide (show Blk w4 (g+1) _ 243 from (hgrow.block (g+1) (by simp;omega) (fun e=>by have:=(World.ownsRow.lt (uH O3') (g+1) e.symm).1;omega)).trans ((uH K3).al _));have k4:=(uH K4).at 1;have f4:=(uH K4).f 1;simp at k4;clear hown hgrow hgo)
   all_goals
    have hgo:go<w.heap.size∨w.heap.size+1<go:=by
     rcases uH HGO with e | e
     ·exact .inl (uH HVO go e).2
     ·right
      rw [e]
      simp
      omega
    have K5:=hide (show Blk (w4.setCell ⟨g+1,1,none⟩ (.slice (some ⟨go,0,none⟩) (m+1) gc)) (g+1) #[.slice (some ⟨g,0,none⟩) (n - 1) (n - 1),.slice (some ⟨go,0,none⟩) (m+1) gc] 243 from (uH K4).set 1 _)
    have far:∀(k:Nat) (arr:Array Value) (t:TypeId),Blk w3 k arr t→(k<g+2∨w.heap.size≤k)→Blk w4 k arr t:=fun k arr t hk hn=>((uH G4).block k (by have:=hk.lt;simp;omega) (fun e=>by have:=uH HVO k e.symm;omega)).trans (hk.al _)
    have Z05:=hide ((far _ _ _ (uH Z03) (.inr (yJ _))).other (g+1) 1 (.slice (some ⟨go,0,none⟩) (m+1) gc) (by omega))
    have Z15:=hide ((far _ _ _ (uH Z13) (.inr (by omega))).other (g+1) 1 (.slice (some ⟨go,0,none⟩) (m+1) gc) (by omega))
    have L5:=hide ((show Lay w4 139 g M (pcells (l.eraseIdx a)) from ((uH L3).below (yA (yH _ w3) (.cells #[.int .i64 id,.string (bs nd),.slice sa sl sc] 139))).of_block ((uH G4).block g (by have:=(uH L3).lt;simp;omega) (fun e=>by have:=(uH HVO g e.symm).1;omega))).other (g+1) 1 (.slice (some ⟨go,0,none⟩) (m+1) gc) (by omega))
    have O5:=hide (show POwn (g+2) (w4.setCell ⟨g+1,1,none⟩ (.slice (some ⟨go,0,none⟩) (m+1) gc)) (.slice (some ⟨go,0,none⟩) (m+1) gc) (gl++[⟨id,nd,sa,sl,sc⟩]) from pown_other (by unfold POwn;rw [pcells_app,List.length_append,uH HM];exact uH O4) (g+1) 1 _ (by omega))
    have B5:=hide (show Below g w (w4.setCell ⟨g+1,1,none⟩ (.slice (some ⟨go,0,none⟩) (m+1) gc)) from ((((uH B3).trans ((yA (yH _ w3) (.cells #[.int .i64 id,.string (bs nd),.slice sa sl sc] 139)).mono (by omega))).drew).grown (uH G4) (by simp;omega) (fun k e=>by have:=(uH HVO k e).1;omega)).setCell (p:=⟨g+1,1,none⟩) (by simp) _)
    clear far
    generalize w4.setCell ⟨g+1,1,none⟩ (.slice (some ⟨go,0,none⟩) (m+1) gc)=w5 at K5 Z05 Z15 L5 O5 B5 ⊢
    have s0:=(uH Z15).at 0;have s1:=(uH Z15).at 1;have s2:=(uH Z15).at 2
    have r0:=(uH Z05).at 0;have r1:=(uH Z05).at 1;have r2:=(uH Z05).at 2
    have u0:=(uH Z05).f 0;have u1:=(uH Z05).f 1;have u2:=(uH Z05).f 2
    simp at s0 s1 s2 r0 r1 r2
    clear K3 Z03 Z13 O3 O3' B3 L3 k1 q0 q1 q2 k4 f4 K4 G4 O4 HGO
    go_wp2
    have R9:=hide (show Blk (((w5.setCell ⟨w.heap.size,0,none⟩ (.int .i64 id)).setCell ⟨w.heap.size,1,none⟩ (.string (bs nd))).setCell ⟨w.heap.size,2,none⟩ (.slice sa sl sc)) w.heap.size #[.int .i64 id,.string (bs nd),.slice sa sl sc] 139 from ((((uH Z05).set 0 (.int .i64 id)).set 1 (.string (bs nd))).set 2 (.slice sa sl sc)))
    have K9:=hide (((((uH K5).other w.heap.size 0 (.int .i64 id) (by omega)).other w.heap.size 1 (.string (bs nd)) (by omega)).other w.heap.size 2 (.slice sa sl sc) (by omega)))
    have L9:=hide (((((uH L5).other w.heap.size 0 (.int .i64 id) (by omega)).other w.heap.size 1 (.string (bs nd)) (by omega)).other w.heap.size 2 (.slice sa sl sc) (by omega)))
    have O9:=hide (show POwn (g+2) (((w5.setCell ⟨w.heap.size,0,none⟩ (.int .i64 id)).setCell ⟨w.heap.size,1,none⟩ (.string (bs nd))).setCell ⟨w.heap.size,2,none⟩ (.slice sa sl sc)) (.slice (some ⟨go,0,none⟩) (m+1) gc) (gl++[⟨id,nd,sa,sl,sc⟩]) from (ownsRow_setCell_other (ownsRow_setCell_other (ownsRow_setCell_other (uH O5) (a:=⟨w.heap.size,0,none⟩) (by simp [Value.ownBlock];omega) (.int .i64 id)) (a:=⟨w.heap.size,1,none⟩) (by simp [Value.ownBlock];omega) (.string (bs nd))) (a:=⟨w.heap.size,2,none⟩) (by simp [Value.ownBlock];omega) (.slice sa sl sc)))
    have B9:=hide (((((uH B5).setCell (p:=⟨w.heap.size,0,none⟩) (by show g≤w.heap.size;omega) (.int .i64 id)).setCell (p:=⟨w.heap.size,1,none⟩) (by show g≤w.heap.size;omega) (.string (bs nd))).setCell (p:=⟨w.heap.size,2,none⟩) (by show g≤w.heap.size;omega) (.slice sa sl sc)))
    generalize (((w5.setCell ⟨w.heap.size,0,none⟩ (.int .i64 id)).setCell ⟨w.heap.size,1,none⟩ (.string (bs nd))).setCell ⟨w.heap.size,2,none⟩ (.slice sa sl sc))=W9 at R9 K9 L9 O9 B9 ⊢
    have z0:=(uH R9).at 0;have z1:=(uH R9).at 1;have z2:=(uH R9).at 2
    simp at z0 z1 z2
    refine bodyPost_ret (v:=.agg #[.int .i64 id,.string (bs nd),.slice sa sl sc]) (by simp [results,Tryz.results214,go_sem,z0,z1,z2]) rfl ⟨rfl,⟨_,?_,uH L9,uH O9⟩,uH B9⟩
    rw [List.length_eraseIdx_of_lt (by have:=uH HN;omega),uH HN]
    exact uH K9
 ·have hw1:IntKind.i64.wrap ((a:Int)+1)=(a:Int)+1:=by rw [IntKind.wrap_i64];omega
  have hle2:(a:Int)+1≤n:=by omega
  have hle3:a+1≤n:=by omega
  have hne2:¬n=a+1:=by omega
  have htn:((a:Int)+1).toNat=a+1:=by omega
  have ha2:(0:Int)≤(a:Int)+1:=by omega
  go_region_law (refine step_copy_many rfl (.tmp 19) (.tmp 26) 33 33 rfl 139 3 Tryz.underlying33 hsz _ _ _ _ _ _ rfl rfl g (a*3) LL 139 (uH HR1) CS (n - (a+1)) (by show _=min _ _;omega) (by have:=uH HDL;omega) (fun hz=>⟨rfl,_,rfl,fun j v hv=>by rw [Lib.add_plain];exact uH HSRC j v hv _ rfl⟩) (by have:=uH HRL;have:=uH HDL;omega) (uH H1C) ?_;intro w2 HG2 HM2 hs2)
  all_goals
   have L2:=hide (show Lay w2 139 g M (pcells (l.eraseIdx a)) from by
    obtain ⟨R',e1,e2⟩:=psplice l R a (by have:=uH HN;omega)
    refine ⟨R',?_,by rw [e2];exact uH HR2⟩
    have:=uH HG2
    rw [←uH HLL,←uH HCS,e1] at this
    exact this)
   have K2:=hide ((uH HM2).blk1 (uH K0) (by omega))
   have Z02:=hide ((uH HM2).blk1 (uH Z0) (by omega))
   have Z12:=hide ((uH HM2).blk1 (uH Z1) (by omega))
   have O2:=hide (pown_mks (B:=g+2) (g:=g) (uH HM2) (uH O0) (by omega))
   have hgW:g≤W.heap.size:=Nat.le_of_lt (uH L0).lt
   have B2:=hide (show Below g w w2 from (((uH HB0).mono (by omega)).drew).trans ((uH HM2).below (B:=g) (fun k (hk:k=g)=>by omega) hgW))
   clear hgW
   have hz2:w.heap.size+1<w2.heap.size:=(uH Z12).lt
   have k0:=(uH K2).at 0
   have kf:=(uH K2).f 0
   simp at k0
   have hn1:((n:Int) - 1).toNat=n - 1:=by omega
   have hn2:(0:Int)≤(n:Int) - 1:=by omega
   clear HG2 HM2 hs2 K0 Z0 Z1 O0 HB0 d0
   go_upto_region 5 with fail
   have L3:=hide ((uH L2).other (g+1) 0 (.slice (some ⟨g,0,none⟩) (n - 1) (n - 1)) (by omega))
   have K3:=hide (show Blk (w2.setCell ⟨g+1,0,none⟩ (.slice (some ⟨g,0,none⟩) (n - 1) (n - 1))) (g+1) #[.slice (some ⟨g,0,none⟩) (n - 1) (n - 1),.slice vo m vc] 243 from (uH K2).set 0 _)
   have Z03:=hide ((uH Z02).other (g+1) 0 (.slice (some ⟨g,0,none⟩) (n - 1) (n - 1)) (by omega))
   have Z13:=hide ((uH Z12).other (g+1) 0 (.slice (some ⟨g,0,none⟩) (n - 1) (n - 1)) (by omega))
   have O3:=hide (pown_other (uH O2) (g+1) 0 (.slice (some ⟨g,0,none⟩) (n - 1) (n - 1)) (by omega))
   have B3:=hide ((uH B2).setCell (p:=⟨g+1,0,none⟩) (by simp) (.slice (some ⟨g,0,none⟩) (n - 1) (n - 1)))
   generalize w2.setCell ⟨g+1,0,none⟩ (.slice (some ⟨g,0,none⟩) (n - 1) (n - 1))=w3 at L3 K3 Z03 Z13 O3 B3 ⊢
   have O3':=hide (show w3.ownsRow (g+2) 139 3 (.slice vo m vc) m (pcells gl) by have:=uH O3;unfold POwn at this;rwa [uH HM] at this)
   have hz3:w.heap.size+1<w3.heap.size:=(uH Z13).lt
   have hgz:g+1<w3.heap.size:=by omega
   have k1:=(uH K3).at 1
   have q0:=(uH Z13).at 0
   have q1:=(uH Z13).at 1
   have q2:=(uH Z13).at 2
   simp at k1 q0 q1 q2
   clear k0 kf K2 Z02 Z12 O2 B2 L2 hz2
   go_region_law (refine step_append_lies _ rfl (.tmp 48) (.tmp 50) 33 rfl (g+2) 139 i0 (.agg #[.int .i64 0,.string ByteArray.empty,.slice none 0 0]) 3 48 Tryz.underlying33 hi hz0 hz1 hz2 rfl (by decide) (.slice vo m vc) m (pcells gl) rfl (World.ownsRow.alloc (uH O3') _) ⟨w3.heap.size,0,none⟩ 1 1 (pcell ⟨id,nd,sa,sl,sc⟩) rfl rfl (World.news_of_block (yD _ _ _)) (by intro u hu;simp at hu;rcases hu with rfl | rfl | rfl<;>rfl) (by decide) (by unfold maxLen;omega) (by omega) (by simp;omega) _ rfl ?_;intro go gc w4 hown hgrow hgo _;have HGO:=hide hgo;have O4:=hide hown;have G4:=hide hgrow;have K4:=hide (show Blk w4 (g+1) _ 243 from (hgrow.block (g+1) (by simp;omega) (fun e=>by have:=(World.ownsRow.lt (uH O3') (g+1) e.symm).1;omega)).trans ((uH K3).al _));have k4:=(uH K4).at 1;have f4:=(uH K4).f 1;simp at k4;clear hown hgrow hgo)
   all_goals
    have hgo:go<w.heap.size∨w.heap.size+1<go:=by
     rcases uH HGO with e | e
     ·exact .inl (uH HVO go e).2
     ·right
      rw [e]
      simp
      omega
    have K5:=hide (show Blk (w4.setCell ⟨g+1,1,none⟩ (.slice (some ⟨go,0,none⟩) (m+1) gc)) (g+1) #[.slice (some ⟨g,0,none⟩) (n - 1) (n - 1),.slice (some ⟨go,0,none⟩) (m+1) gc] 243 from (uH K4).set 1 _)
    have far:∀(k:Nat) (arr:Array Value) (t:TypeId),Blk w3 k arr t→(k<g+2∨w.heap.size≤k)→Blk w4 k arr t:=fun k arr t hk hn=>((uH G4).block k (by have:=hk.lt;simp;omega) (fun e=>by have:=uH HVO k e.symm;omega)).trans (hk.al _)
    have Z05:=hide ((far _ _ _ (uH Z03) (.inr (yJ _))).other (g+1) 1 (.slice (some ⟨go,0,none⟩) (m+1) gc) (by omega))
    have Z15:=hide ((far _ _ _ (uH Z13) (.inr (by omega))).other (g+1) 1 (.slice (some ⟨go,0,none⟩) (m+1) gc) (by omega))
    have L5:=hide ((show Lay w4 139 g M (pcells (l.eraseIdx a)) from ((uH L3).below (yA (yH _ w3) (.cells #[.int .i64 id,.string (bs nd),.slice sa sl sc] 139))).of_block ((uH G4).block g (by have:=(uH L3).lt;simp;omega) (fun e=>by have:=(uH HVO g e.symm).1;omega))).other (g+1) 1 (.slice (some ⟨go,0,none⟩) (m+1) gc) (by omega))
    have O5:=hide (show POwn (g+2) (w4.setCell ⟨g+1,1,none⟩ (.slice (some ⟨go,0,none⟩) (m+1) gc)) (.slice (some ⟨go,0,none⟩) (m+1) gc) (gl++[⟨id,nd,sa,sl,sc⟩]) from pown_other (by unfold POwn;rw [pcells_app,List.length_append,uH HM];exact uH O4) (g+1) 1 _ (by omega))
    have B5:=hide (show Below g w (w4.setCell ⟨g+1,1,none⟩ (.slice (some ⟨go,0,none⟩) (m+1) gc)) from ((((uH B3).trans ((yA (yH _ w3) (.cells #[.int .i64 id,.string (bs nd),.slice sa sl sc] 139)).mono (by omega))).drew).grown (uH G4) (by simp;omega) (fun k e=>by have:=(uH HVO k e).1;omega)).setCell (p:=⟨g+1,1,none⟩) (by simp) _)
    clear far
    generalize w4.setCell ⟨g+1,1,none⟩ (.slice (some ⟨go,0,none⟩) (m+1) gc)=w5 at K5 Z05 Z15 L5 O5 B5 ⊢
    have s0:=(uH Z15).at 0;have s1:=(uH Z15).at 1;have s2:=(uH Z15).at 2
    have r0:=(uH Z05).at 0;have r1:=(uH Z05).at 1;have r2:=(uH Z05).at 2
    have u0:=(uH Z05).f 0;have u1:=(uH Z05).f 1;have u2:=(uH Z05).f 2
    simp at s0 s1 s2 r0 r1 r2
    clear K3 Z03 Z13 O3 O3' B3 L3 k1 q0 q1 q2 k4 f4 K4 G4 O4 HGO
    go_wp2
    have R9:=hide (show Blk (((w5.setCell ⟨w.heap.size,0,none⟩ (.int .i64 id)).setCell ⟨w.heap.size,1,none⟩ (.string (bs nd))).setCell ⟨w.heap.size,2,none⟩ (.slice sa sl sc)) w.heap.size #[.int .i64 id,.string (bs nd),.slice sa sl sc] 139 from ((((uH Z05).set 0 (.int .i64 id)).set 1 (.string (bs nd))).set 2 (.slice sa sl sc)))
    have K9:=hide (((((uH K5).other w.heap.size 0 (.int .i64 id) (by omega)).other w.heap.size 1 (.string (bs nd)) (by omega)).other w.heap.size 2 (.slice sa sl sc) (by omega)))
    have L9:=hide (((((uH L5).other w.heap.size 0 (.int .i64 id) (by omega)).other w.heap.size 1 (.string (bs nd)) (by omega)).other w.heap.size 2 (.slice sa sl sc) (by omega)))
    have O9:=hide (show POwn (g+2) (((w5.setCell ⟨w.heap.size,0,none⟩ (.int .i64 id)).setCell ⟨w.heap.size,1,none⟩ (.string (bs nd))).setCell ⟨w.heap.size,2,none⟩ (.slice sa sl sc)) (.slice (some ⟨go,0,none⟩) (m+1) gc) (gl++[⟨id,nd,sa,sl,sc⟩]) from (ownsRow_setCell_other (ownsRow_setCell_other (ownsRow_setCell_other (uH O5) (a:=⟨w.heap.size,0,none⟩) (by simp [Value.ownBlock];omega) (.int .i64 id)) (a:=⟨w.heap.size,1,none⟩) (by simp [Value.ownBlock];omega) (.string (bs nd))) (a:=⟨w.heap.size,2,none⟩) (by simp [Value.ownBlock];omega) (.slice sa sl sc)))
    have B9:=hide (((((uH B5).setCell (p:=⟨w.heap.size,0,none⟩) (by show g≤w.heap.size;omega) (.int .i64 id)).setCell (p:=⟨w.heap.size,1,none⟩) (by show g≤w.heap.size;omega) (.string (bs nd))).setCell (p:=⟨w.heap.size,2,none⟩) (by show g≤w.heap.size;omega) (.slice sa sl sc)))
    generalize (((w5.setCell ⟨w.heap.size,0,none⟩ (.int .i64 id)).setCell ⟨w.heap.size,1,none⟩ (.string (bs nd))).setCell ⟨w.heap.size,2,none⟩ (.slice sa sl sc))=W9 at R9 K9 L9 O9 B9 ⊢
    have z0:=(uH R9).at 0;have z1:=(uH R9).at 1;have z2:=(uH R9).at 2
    simp at z0 z1 z2
    refine bodyPost_ret (v:=.agg #[.int .i64 id,.string (bs nd),.slice sa sl sc]) (by simp [results,Tryz.results214,go_sem,z0,z1,z2]) rfl ⟨rfl,⟨_,?_,uH L9,uH O9⟩,uH B9⟩
    rw [List.length_eraseIdx_of_lt (by have:=uH HN;omega),uH HN]
    exact uH K9
def stLenP (w:World) (p:Nat):Nat:=match w.cell? ⟨p,0,none⟩ with | some (.slice _ n _)=>n | _=>0
theorem stLenP_of {w:World} {p n c:Nat} {ao:Option Addr} (h:w.cell? ⟨p,0,none⟩=some (.slice ao n c)):stLenP w p=n:=by simp [stLenP,h]
theorem TakP.len {w:World} {g M:Nat} {l gl:List AV} (h:TakP w g M l gl):stLenP w (g+1)=l.length:=by
 obtain ⟨v,hb,_⟩:=h
 have:=hb.at 0
 simp at this
 exact stLenP_of this
theorem takeAllP_any (gf:Nat) (lb:Array Value) (eg:∀args w,(callFunc gf args).run Tryz.prog w=.ok (.enter gf args) w) (p:AV→Bool) (g M:Nat) (l gl:List AV) (w:World) (h:TakP w g M l gl) (hl:gl.length+l.length≤1048576)
  (hp:∀wx q,q ∈ l→Below g w wx→Calls Tryz.prog gf (#[avv q]++lb) wx fun e w'=>e=.returned (.bool (p q))∧Below wx.heap.size wx w') :
  Calls Tryz.prog 193 #[.pointer (some ⟨g+1,0,none⟩),.func (.func gf) #[] lb] w fun e w'=>e=.returned (.tuple #[])∧TakP w' g M (l.filter (fun q=>!p q)) (gl++l.filter p)∧Below g w w':=by
 have HT:=hide h
 have HP:=hide hp
 clear h hp
 go_enter Tryz.func193,Tryz.ntmps193
 go_wp2
 go_loopw [4] (fun i wr=>∃(k:Nat),i=.int .i64 (k:Int)∧Hid (∃d,d≤l.length∧k=((l.take d).filter (fun q=>!p q)).length∧TakP wr g M ((l.take d).filter (fun q=>!p q)++l.drop d) (gl++(l.take d).filter p))∧Hid (Below g w wr)) (fun i wr=>stLenP wr (g+1) - (intOf i).toNat)
 case atStart=>exact ⟨0,rfl,hide ⟨0,Nat.zero_le _,by simp,by simpa using uH HT⟩,hide (yH _ _)⟩
 case round=>
  obtain ⟨k,rfl,HK,HB⟩:=hrel
  obtain ⟨d,hd,hk,ht⟩:=uH HK
  have hkd:k≤d:=by rw [hk];refine Nat.le_trans (List.length_filter_le _ _) ?_;rw [List.length_take];omega
  have hk2:k≤1048576:=by omega
  obtain ⟨v,hbk,hly,how⟩:=ht
  have c0:=(hbk.at 0).trans (show _=some (Value.slice (some ⟨g,0,none⟩) ((l.take d).filter (fun q=>!p q)++l.drop d).length ((l.take d).filter (fun q=>!p q)++l.drop d).length) from rfl)
  have hlen:((l.take d).filter (fun q=>!p q)++l.drop d).length=k+(l.length - d):=by rw [List.length_append,List.length_drop,←hk]
  rw [hlen] at c0
  obtain ⟨n,hn⟩:∃n,k+(l.length - d)=n:=⟨_,rfl⟩
  rw [hn] at c0
  have hm:=stLenP_of c0
  by_cases hlt:d<l.length
  ·have hkn:(k:Int)<n:=by omega
   have hel:k<((l.take d).filter (fun q=>!p q)++l.drop d).length:=by omega
   have hq:((l.take d).filter (fun q=>!p q)++l.drop d)[k]=l[d]:=by
    rw [List.getElem_append_right (by omega)]
    simp [←hk]
   obtain ⟨x0,x1,x2⟩:=pcells_at _ k hel
   rw [hq] at x0 x1 x2
   have e0:=hly.cell x0;have e1:=hly.cell x1;have e2:=hly.cell x2
   have CL:=hide (uH HP wr l[d] (yM hlt) (uH HB))
   have hsp:l.take (d+1)=l.take d++[l[d]]:=by rw [List.take_succ_eq_append_getElem hlt]
   have hdr:l.drop d=l[d]::l.drop (d+1):=List.drop_eq_getElem_cons hlt
   have hgk:(gl++(l.take d).filter p).length≤1048576:=by
    have:=List.length_filter_le p (l.take d)
    rw [List.length_take] at this
    rw [List.length_append]
    omega
   have CT:=hide (fun wx (hb:Below wr.heap.size wr wx)=>takeP_any g M k _ _ wx (TakP.below ⟨v,hbk,hly,how⟩ hb) hel (by omega) hgk)
   rw [hq] at CT
   have HTK:=hide (show TakP wr g M _ _ from ⟨v,hbk,hly,how⟩)
   obtain ⟨q,hqe⟩:∃q,l[d]=q:=⟨_,rfl⟩
   rw [hqe] at e0 e1 e2 CL CT hsp hdr
   have HSP:=hide hsp
   have HDR:=hide hdr
   have HKK:=hide hk
   have HLN:=hide hlen
   have HNN:=hide hn
   have HM:=hide hm
   have hd':d+1≤l.length:=hlt
   obtain ⟨id,nd,sa,sl,sc⟩:=q
   simp only at e0 e1 e2
   have k0:(0:Int)≤k:=by omega
   clear hbk hly how x0 x1 x2 hq hqe hsp hdr hk hlen hn hm hgk HK hel
   cases hpq:p ⟨id,nd,sa,sl,sc⟩ with
   | true=>
    rw [hpq] at CL
    have HPQ:=hide hpq
    clear hpq
    go_wp2_with (go_at_fn gf;refine (uH CL).mono ?_;rintro e w1 ⟨rfl,hb⟩;have HB1:=hide hb;clear hb CL)
    go_wp2_with fail
    refine (uH CT _ (uH HB1)).mono ?_
    rintro e w2 ⟨rfl,ht,hb⟩
    have HT2:=hide ht
    have hz:g≤wr.heap.size:=by obtain ⟨v,hbk,_⟩:=uH HTK;have:=hbk.lt;omega
    have HB2:=hide (((uH HB).trans ((uH HB1).mono hz)).trans hb)
    clear ht hb CT
    go_wp2
    go_roundw
    case rel=>
     refine ⟨k,rfl,hide ⟨d+1,hd',?_,?_⟩,HB2⟩
     ·rw [uH HSP,List.filter_append,uH HKK]
      simp [uH HPQ]
     ·have:=uH HT2
      rw [uH HDR,List.eraseIdx_append_of_length_le (by have:=uH HKK;omega)] at this
      rw [show k - ((l.take d).filter (fun q=>!p q)).length=0 by have:=uH HKK;omega,List.eraseIdx_cons_zero] at this
      rw [uH HSP,List.filter_append,List.filter_append]
      simpa [uH HPQ] using this
    case measure=>
     rw [(uH HT2).len,uH HM]
     have hh:=uH HLN
     have hnn:=uH HNN
     rw [List.length_eraseIdx_of_lt (by omega),hh]
     simp [intOf]
     omega
   | false=>
    rw [hpq] at CL
    have HPQ:=hide hpq
    clear hpq
    go_wp2_with (go_at_fn gf;refine (uH CL).mono ?_;rintro e w1 ⟨rfl,hb⟩;have HB1:=hide hb;clear hb CL)
    have hz:g≤wr.heap.size:=by obtain ⟨v,hbk,_⟩:=uH HTK;have:=hbk.lt;omega
    go_wp2
    go_roundw
    case rel=>
     refine ⟨k+1,by go_num,hide ⟨d+1,hd',?_,?_⟩,hide ((uH HB).trans ((uH HB1).mono hz))⟩
     ·rw [uH HSP,List.filter_append,List.length_append,←uH HKK]
      simp [uH HPQ]
     ·have:=(uH HTK).below (uH HB1)
      rw [uH HDR] at this
      rw [uH HSP,List.filter_append,List.filter_append]
      simpa [uH HPQ] using this
    case measure=>
     rw [((uH HTK).below (uH HB1)).len,uH HM,uH HLN]
     have hnn:=uH HNN
     simp [intOf]
     omega
  ·have hkn:¬(k:Int)<n:=by omega
   have HTK:=hide (show TakP wr g M _ _ from ⟨v,hbk,hly,how⟩)
   have htk:l.take d=l:=List.take_of_length_le (by omega)
   have hdr:l.drop d=[]:=List.drop_of_length_le (by omega)
   rw [htk,hdr,List.append_nil] at HTK
   clear hbk hly how HK hk hlen htk hdr
   go_wp2
   go_end0
   exact ⟨rfl,uH HTK,uH HB⟩
theorem own_mkt {B b N:Nat} {w w':World} {t t':TypeId} {sz n:Nat} {ao:Option Addr} (h:Own1 B w.heap.size w t sz ao n) (hm:Mks (fun k=>k=b) w w') (hc:Cel w t' b N) (ht:t'≠t):(∀k,inR ao n k→¬(k=b))∧Own1 B w'.heap.size w' t sz ao n:=by
 refine ⟨fun k hk e=>?_,(h.mks hm).mono (yJ _) hm.size⟩
 obtain ⟨_,_,N',h2⟩:=h.lies k hk
 subst e
 exact ht (hc.type h2)
theorem QHas.mkt {B b n:Nat} {w w':World} {ao:Option Addr} {l:List Q} {arr:Array Value} (h:QHas B w ao n l) (hm:Mks (fun k=>k=b) w w') (hc:Blk w b arr 37):QHas B w' ao n l:=
 ⟨h.1.mks hm (own_mkt h.2 hm ⟨_,hc,rfl⟩ (by decide)).1,(own_mkt h.2 hm ⟨_,hc,rfl⟩ (by decide)).2⟩
theorem MHas.mkt {B b n:Nat} {w w':World} {ao:Option Addr} {l:List Mac} {arr:Array Value} (h:MHas B w ao n l) (hm:Mks (fun k=>k=b) w w') (hc:Blk w b arr 37):MHas B w' ao n l:=
 ⟨h.1.mks hm (own_mkt h.2 hm ⟨_,hc,rfl⟩ (by decide)).1,(own_mkt h.2 hm ⟨_,hc,rfl⟩ (by decide)).2⟩
theorem CHas.mkt {B b n:Nat} {w w':World} {ao:Option Addr} {l:List Con} {arr:Array Value} (h:CHas B w ao n l) (hm:Mks (fun k=>k=b) w w') (hc:Blk w b arr 37):CHas B w' ao n l:=
 ⟨h.1.mks hm (own_mkt h.2 hm ⟨_,hc,rfl⟩ (by decide)).1,(own_mkt h.2 hm ⟨_,hc,rfl⟩ (by decide)).2⟩
theorem PHas.mkt {B b n:Nat} {w w':World} {ao:Option Addr} {l:List AV} {arr:Array Value} (h:PHas B w ao n l) (hm:Mks (fun k=>k=b) w w') (hc:Blk w b arr 37):PHas B w' ao n l:=
 ⟨h.1.mks hm (own_mkt h.2 hm ⟨_,hc,rfl⟩ (by decide)).1,(own_mkt h.2 hm ⟨_,hc,rfl⟩ (by decide)).2⟩
theorem KHas.mkt {B b:Nat} {w w':World} {hs:List AV} {l:List Appl} {arr:Array Value} (h:KHas B w hs l) (hm:Mks (fun k=>k=b) w w') (hc:Blk w b arr 37):KHas B w' hs l:=
 ⟨⟨h.heads.1,fun i h1 h2=>let ⟨a,b',c,d⟩:=h.heads.2 i h1 h2;⟨a,b',c.mks hm (own_mkt (h.own _ (yM h1)) hm ⟨_,hc,rfl⟩ (by decide)).1,d⟩⟩,fun v hv=>(own_mkt (h.own v hv) hm ⟨_,hc,rfl⟩ (by decide)).2,h.apart⟩
theorem QHas.base {B B' n:Nat} {w:World} {ao:Option Addr} {l:List Q} (h:QHas B w ao n l) (hb:B'≤B):QHas B' w ao n l:=⟨h.1,h.2.mono hb (yJ _)⟩
theorem MHas.base {B B' n:Nat} {w:World} {ao:Option Addr} {l:List Mac} (h:MHas B w ao n l) (hb:B'≤B):MHas B' w ao n l:=⟨h.1,h.2.mono hb (yJ _)⟩
theorem PHas.base {B B' n:Nat} {w:World} {ao:Option Addr} {l:List AV} (h:PHas B w ao n l) (hb:B'≤B):PHas B' w ao n l:=⟨h.1,h.2.mono hb (yJ _)⟩
theorem KHas.base {B B':Nat} {w:World} {hs:List AV} {l:List Appl} (h:KHas B w hs l) (hb:B'≤B):KHas B' w hs l:=⟨h.heads,fun v hv=>(h.own v hv).mono hb (yJ _),h.apart⟩
theorem heads_nil (w:World):Heads w [] []:=⟨rfl,fun i h=>absurd h (by simp)⟩
theorem heads_cons {w:World} {v:AV} {t:List AV} {a:Appl} {s:List Appl} (h:Heads w (v::t) (a::s)):(v.id=a.id∧v.queue=a.queue∧AskRow w v.ao v.len a.asks∧v.len≤v.cap)∧Heads w t s:=
 ⟨h.2 0 (by simp) (by simp),by simpa using h.1,fun i h1 h2=>by have:=h.2 (i+1) (by simpa using h1) (by simpa using h2);simpa using this⟩
theorem heads_put {w:World} {v:AV} {t:List AV} {a:Appl} {s:List Appl} (h:v.id=a.id∧v.queue=a.queue∧AskRow w v.ao v.len a.asks∧v.len≤v.cap) (h':Heads w t s):Heads w (v::t) (a::s):=
 ⟨by simp [h'.1],fun i h1 h2=>by
  cases i with
  | zero=>exact h
  | succ i=>exact h'.2 i (by simpa using h1) (by simpa using h2)⟩
theorem heads_filter {w:World} (f:Int→Bool):∀(hs:List AV) (l:List Appl),Heads w hs l→Heads w (hs.filter (fun v=>f v.id)) (l.filter (fun a=>f a.id))
 | [],[],_=>heads_nil w
 | [],a::s,h=>absurd h.1 (by simp)
 | v::t,[],h=>absurd h.1 (by simp)
 | v::t,a::s,h=>by
  obtain ⟨h1,h2⟩:=heads_cons h
  have ih:=heads_filter f t s h2
  cases hf:f a.id with
  | true=>rw [List.filter_cons_of_pos (by simpa [h1.1] using hf),List.filter_cons_of_pos (by simpa using hf)];exact heads_put h1 ih
  | false=>rw [List.filter_cons_of_neg (by simp [h1.1,hf]),List.filter_cons_of_neg (by simp [hf])];exact ih
theorem KHas.filter {B:Nat} {w:World} {hs:List AV} {l:List Appl} (h:KHas B w hs l) (f:Int→Bool):KHas B w (hs.filter (fun v=>f v.id)) (l.filter (fun a=>f a.id)):=
 ⟨heads_filter f hs l h.heads,fun v hv=>h.own v (List.mem_filter.1 hv).1,h.apart.filter _⟩
theorem TakC.stays {w:World} {g N:Nat} {l gl:List Con} (h:TakC w g (N*5) l gl) (hl:l.length≤N):CHas g w (some ⟨g,0,none⟩) l.length l:=by
 obtain ⟨v,_,hly,_⟩:=h
 exact ⟨hly.rowC,.inr ⟨g,N,rfl,yJ _,hly.lt,hly.cel,hl⟩⟩
theorem TakP.stays {w:World} {g N:Nat} {l gl:List AV} (h:TakP w g (N*3) l gl) (hl:l.length≤N):PHas g w (some ⟨g,0,none⟩) l.length l:=by
 obtain ⟨v,_,hly,_⟩:=h
 exact ⟨hly.rowP,.inr ⟨g,N,rfl,yJ _,hly.lt,hly.cel,hl⟩⟩
def TkAns (w:World) (b:Nat) (x:Sls) (s:St) (p:Con→Bool) (e:Ending) (w':World):Prop:=
 ∃go gn gc,e=.returned (.slice go gn gc)∧Blk w' b (svc ⟨x.qa,x.ql,x.qc,x.aa,x.al,x.ac,x.ma,x.ml,x.mc,some ⟨w.heap.size,0,none⟩,(s.cs.filter (fun q=>!p q)).length,(s.cs.filter (fun q=>!p q)).length⟩ s) 37
  ∧CHas w.heap.size w' (some ⟨w.heap.size,0,none⟩) (s.cs.filter (fun q=>!p q)).length (s.cs.filter (fun q=>!p q))∧CHas (w.heap.size+2) w' go gn (s.cs.filter p)∧Mks (fun k=>k=b) w w'
theorem mks_of {b N:Nat} {w w':World} {t:TypeId} {arr:Array Value} (hb:Below w.heap.size w w') (hk:Blk w b arr t) (v:Value) (j:Nat):Mks (fun k=>k=b) w (w'.setCell ⟨b,j,none⟩ v):=(Mks.of_below hb).sc b j v rfl
theorem takeConts_any (gf:Nat) (lb:Array Value) (eg:∀args w,(callFunc gf args).run Tryz.prog w=.ok (.enter gf args) w) (p:Con→Bool) (b:Nat) (x:Sls) (s:St) (w:World) (hk:Blk w b (svc x s) 37) (h:ConRow w x.ca x.cl s.cs) (hl:x.cl≤1048576)
  (hp:∀wx q,q ∈ s.cs→Below w.heap.size w wx→Calls Tryz.prog gf (#[conv q]++lb) wx fun e w'=>e=.returned (.bool (p q))∧Below wx.heap.size wx w') :
  Calls Tryz.prog 195 #[.pointer (some ⟨b,0,none⟩),.func (.func gf) #[] lb] w (TkAns w b x s p):=by
 obtain ⟨qa,ql,qc,aa,al,ac,ma,ml,mc,ca,cl,cc⟩:=x
 obtain ⟨qs,clock,epoch,next,serial,apps,ms,cs⟩:=s
 simp only at *
 have CT:=hide (takingFromC_any ca cl cc cs w h hl)
 have HLN:=hide h.1
 have HK:=hide hk
 have HP:=hide hp
 have d7:=hk.at 7
 have hbs:=hk.lt
 simp at d7
 clear h hk hp
 go_enter Tryz.func195,Tryz.ntmps195
 go_wp2_with fail
 refine (uH CT).mono ?_
 rintro e w1 ⟨rfl,ht,hs1,hb⟩
 have CA:=hide (takeAllC_any gf lb eg p w.heap.size (cl*5) cs [] w1 ht (by have:=uH HLN;simp;omega) (fun wx q hq hbx=>uH HP wx q hq (hb.trans hbx)))
 have HB1:=hide hb
 clear ht hb CT hs1
 go_wp2_with fail
 refine (uH CA).mono ?_
 rintro e w2 ⟨rfl,ht,hb⟩
 have HB2:=hide ((uH HB1).trans hb)
 have HST:=hide (ht.stays (by have:=uH HLN;have:=List.length_filter_le (fun q=>!p q) cs;omega))
 obtain ⟨v,hbk,hly,how⟩:=ht
 obtain ⟨go,gc,rfl,hgc,hgo⟩:=cown_has how
 rw [List.nil_append] at hgo hbk
 have HGO:=hide hgo
 have k0:=hbk.at 0
 have k1:=hbk.at 1
 obtain ⟨n1,hn1⟩:∃n,(cs.filter (fun q=>!p q)).length=n:=⟨_,rfl⟩
 obtain ⟨n2,hn2⟩:∃n,(cs.filter p).length=n:=⟨_,rfl⟩
 rw [hn1] at k0 k1
 rw [hn2] at k0 k1
 simp at k0 k1
 have K2:=hide (show Blk w2 b _ 37 from ((uH HB2).block b hbs).trans (uH HK))
 have e7:=(uH K2).at 7
 have f7:=(uH K2).f 7
 simp at e7
 have hz2:w.heap.size+1<w2.heap.size:=hbk.lt
 have HN1:=hide hn1
 have HN2:=hide hn2
 have hne:¬(b=w.heap.size+1):=by omega
 have hne2:¬(w.heap.size+1=b):=by omega
 clear hbk hly how hb HB1 CA d7 hgo hgc hn1 hn2
 go_wp2
 go_ret
 refine ⟨go,n2,gc,rfl,?_,?_,?_,?_⟩
 ·show Blk _ b #[.slice qa ql qc,.int .i64 clock,.int .i64 epoch,.int .i64 next,.int .i64 serial,.slice aa al ac,.slice ma ml mc,.slice _ (cs.filter (fun q=>!p q)).length (cs.filter (fun q=>!p q)).length] _
  rw [uH HN1]
  exact (uH K2).set 7 _
 ·have hm:Mks (fun k=>k=b) w2 (w2.setCell ⟨b,7,none⟩ (.slice (some ⟨w.heap.size,0,none⟩) n1 n1)):=Mks.one _ _ _ _ _ rfl
  exact (uH HST).mkt hm (uH K2)
 ·have hm:Mks (fun k=>k=b) w2 (w2.setCell ⟨b,7,none⟩ (.slice (some ⟨w.heap.size,0,none⟩) n1 n1)):=Mks.one _ _ _ _ _ rfl
  have:=(uH HGO).mkt hm (uH K2)
  rw [uH HN2] at this
  exact this
 ·exact mks_of (N:=0) (uH HB2) (uH HK) _ 7
structure SHas (B:Nat) (w:World) (x:Sls) (s:St) (hs:List AV):Prop where
 q:QHas B w x.qa x.ql s.qs
 p:PHas B w x.aa x.al hs
 k:KHas B w hs s.apps
 m:MHas B w x.ma x.ml s.ms
 c:CHas B w x.ca x.cl s.cs
 cap:SCap x
 rm:RmS B w.heap.size w x hs
theorem SHas.below {B:Nat} {w w':World} {x:Sls} {s:St} {hs:List AV} (h:SHas B w x s hs) (hb:Below w.heap.size w w'):SHas B w' x s hs:=⟨h.q.below hb,h.p.below hb,h.k.below hb,h.m.below hb,h.c.below hb,h.cap,(h.rm.below hb).mono (yJ _) hb.size⟩
theorem SHas.mkt {B b:Nat} {w w':World} {x:Sls} {s:St} {hs:List AV} {arr:Array Value} (h:SHas B w x s hs) (hm:Mks (fun k=>k=b) w w') (hc:Blk w b arr 37):SHas B w' x s hs:=⟨h.q.mkt hm hc,h.p.mkt hm hc,h.k.mkt hm hc,h.m.mkt hm hc,h.c.mkt hm hc,h.cap,(h.rm.mks hm).mono (yJ _) hm.size⟩
theorem SHas.base {B B':Nat} {w:World} {x:Sls} {s:St} {hs:List AV} (h:SHas B w x s hs) (hb:B'≤B):SHas B' w x s hs:=⟨h.q.base hb,h.p.base hb,h.k.base hb,h.m.base hb,h.c.base hb,h.cap,h.rm.mono hb (yJ _)⟩
theorem SHas.ans {B:Nat} {w:World} {x:Sls} {s:St} {hs:List AV} (h:SHas B w x s hs):SAns B w.heap.size w x s hs:=sans_of h.q h.p h.k h.m h.c h.cap h.rm
theorem SAns.has {B E:Nat} {w:World} {x:Sls} {s:St} {hs:List AV} (h:SAns B E w x s hs) (hE:E≤w.heap.size):SHas B w x s hs:=
 ⟨⟨h.row.1,h.q.mono (yJ _) hE⟩,⟨h.av,h.a.mono (yJ _) hE⟩,⟨h.heads,fun v hv=>(h.asks v hv).mono (yJ _) hE,h.apart⟩,⟨h.row.2.2.1,h.m.mono (yJ _) hE⟩,⟨h.row.2.2.2,h.c.mono (yJ _) hE⟩,h.cap,h.rm.mono (yJ _) hE⟩
def TkSt (B:Nat) (w:World) (b:Nat) (s:St) (hs:List AV) (gone:List Con) (e:Ending) (w':World):Prop:=
 ∃y go gn gc,e=.returned (.slice go gn gc)∧Blk w' b (svc y s) 37∧SHas B w' y s hs∧CHas w.heap.size w' go gn gone∧(∀k,inR go gn k→¬inR y.ca y.cl k)∧Mks (fun k=>k=b) w w'
theorem takeConts_st {B:Nat} (gf:Nat) (lb:Array Value) (eg:∀args w,(callFunc gf args).run Tryz.prog w=.ok (.enter gf args) w) (p:Con→Bool) (b:Nat) (x:Sls) (s:St) (hs:List AV) (w:World) (hk:Blk w b (svc x s) 37) (h:SHas B w x s hs) (hB:B≤w.heap.size) (hl:x.cl≤1048576)
  (hp:∀wx q,q ∈ s.cs→Below w.heap.size w wx→Calls Tryz.prog gf (#[conv q]++lb) wx fun e w'=>e=.returned (.bool (p q))∧Below wx.heap.size wx w') :
  Calls Tryz.prog 195 #[.pointer (some ⟨b,0,none⟩),.func (.func gf) #[] lb] w (TkSt B w b ⟨s.qs,s.clock,s.epoch,s.next,s.serial,s.apps,s.ms,s.cs.filter (fun q=>!p q)⟩ hs (s.cs.filter p)):=by
 refine (takeConts_any gf lb eg p b x s w hk h.c.1 hl hp).mono ?_
 rintro e w' ⟨go,gn,gc,rfl,h1,h2,h3,hm⟩
 refine ⟨_,go,gn,gc,rfl,h1,⟨h.q.mkt hm hk,h.p.mkt hm hk,h.k.mkt hm hk,h.m.mkt hm hk,h2.base hB,⟨h.cap.q,h.cap.a,h.cap.m,yJ _⟩,(fun r=>⟨r.1,r.2.1,r.2.2.1,(h2.base hB).2,r.2.2.2.2⟩) ((h.rm.mks hm).mono (yJ _) hm.size)⟩,h3.base (by omega),fun k hk1 hk2=>?_,hm⟩
 obtain ⟨a1,_⟩:=h3.2.lies k hk1
 obtain ⟨_,o,e⟩:=hk2
 cases e
 omega
theorem dropP_clo (k:Nat) (app:Int) (v:AV) (w:World) (h:w.cell? ⟨k,0,none⟩=some (.int .i64 app)) :
  Calls Tryz.prog 194 #[avv v,.pointer (some ⟨k,0,none⟩)] w fun e w'=>e=.returned (.bool (decide (v.id=app)))∧Below w.heap.size w w':=by
 obtain ⟨vi,vq,va,vl,vc⟩:=v
 have hks:=yG h
 have HB:=hide (yA (yH _ w) (.cells #[.int .i64 vi,.string (bs vq),.slice va vl vc] 139))
 go_enter Tryz.func194,Tryz.ntmps194
 go_wp2
 go_ret
 exact ⟨rfl,uH HB⟩
theorem dropC_clo (k:Nat) (app:Int) (q:Con) (w:World) (h:w.cell? ⟨k,0,none⟩=some (.int .i64 app)) :
  Calls Tryz.prog 196 #[conv q,.pointer (some ⟨k,0,none⟩)] w fun e w'=>e=.returned (.bool (decide (q.app=app)))∧Below w.heap.size w w':=by
 obtain ⟨id,ap,nd,me,cp⟩:=q
 have hks:=yG h
 have HB:=hide (yA (yH _ w) (.cells #[.int .i64 id,.int .i64 ap,.string (bs nd),.int .i64 me,.int .i64 cp] 150))
 go_enter Tryz.func196,Tryz.ntmps196
 go_wp2
 go_ret
 exact ⟨rfl,uH HB⟩
abbrev kpc (x:Sls) (s:St) (lk:Int) (log:List UInt8) (safe:Int) (wo:Option Addr) (wl wc:Nat):Array Value:=#[.int .i32 lk,.int .u32 0,.slice x.qa x.ql x.qc,.int .i64 s.clock,.int .i64 s.epoch,.int .i64 s.next,.int .i64 s.serial,.slice x.aa x.al x.ac,.slice x.ma x.ml x.mc,.slice x.ca x.cl x.cc,.string (bs log),.int .i64 safe,.slice wo wl wc]
structure WtAns (B E:Nat) (w:World) (wo:Option Addr) (wl wc:Nat) (rs:List RH) (l:List Rpl):Prop where
 has:YHas B w wo wl wc rs
 says:∀i (h:i<rs.length) (h':i<l.length),NSays B w rs[i] l[i]
 size:w.heap.size=E
theorem WtAns.step {B E:Nat} {w w':World} {wo:Option Addr} {wl wc:Nat} {rs:List RH} {l:List Rpl} (h:WtAns B E w wo wl wc rs l) (hb:Below w.heap.size w w'):WtAns B w'.heap.size w' wo wl wc rs l:=by
 refine ⟨⟨h.has.1.below hb,h.has.2.1,h.has.2.2.elim .inl fun ⟨g,a,b,c⟩=>.inr ⟨g,a,b,c.below hb⟩⟩,fun i h1 h2=>(h.says i h1 h2).below hb,rfl⟩
theorem SAns.step {B:Nat} {w w':World} {x:Sls} {s:St} {hs:List AV} (h:SAns B w.heap.size w x s hs) (hb:Below w.heap.size w w'):SAns B w'.heap.size w' x s hs:=(h.below hb).mono (yJ _) hb.size
def KpAns (w:World) (m:Mgr) (e:Ending) (w':World):Prop:=∃k x hs wo wc,e=.returned (.pointer (some ⟨k,0,none⟩))∧Blk w' k (kpc x m.s 0 m.log m.safe wo m.wait.length wc) 102∧SAns w.heap.size k w' x m.s hs∧w.heap.size≤k∧Below w.heap.size w w'
theorem kp_ans {w W wt:World} {B:Nat} {x:Sls} {m:Mgr} {hs:List AV} {wo:Option Addr} {wc:Nat} (h0:Below w.heap.size w W) (hk:Kp W (wt.alloc (.cells (kpc x m.s 0 m.log m.safe wo m.wait.length wc) 102))) (hz:W.heap.size≤wt.heap.size) (hA:SAns B wt.heap.size wt x m.s hs) (hB:W.heap.size≤B) :
  KpAns w m (.returned (.pointer (some ⟨wt.heap.size,0,none⟩))) (wt.alloc (.cells (kpc x m.s 0 m.log m.safe wo m.wait.length wc) 102)):=
 ⟨_,x,hs,wo,wc,rfl,yD _ _ _,(hA.below (yA (yH _ _) _)).mono (Nat.le_trans h0.size hB) (yJ _),Nat.le_trans h0.size hz,yB h0 hk⟩
theorem shas_low {B:Nat} {S:Nat→Prop} {w w':World} {x:Sls} {s:St} {hs:List AV} (h:SHas B w x s hs) (hm:Mks S w w') (hS:∀k,S k→k<B):SHas B w' x s hs:=
 ((h.ans.mks hm (fun k hk=>.inl (hS k hk))).mono (yJ _) hm.size).has (yJ _)
theorem st_info:(Tryz.prog.info? 37).map (·.size)=some 8:=by kernel_rfl
theorem st_load {w:World} {b:Nat} {arr:Array Value} (h:Blk w b arr 37) (hs:arr.size=8):(Instr.loadAt 37 (.pointer (some ⟨b,0,none⟩))).run Tryz.prog w=.ok (.agg arr) w:=by
 simp only [Instr.loadAt,Instr.sureAddr,Sem.run_bind,Sem.run_pure,Result.andThen]
 exact run_loadVar_row w b 37 37 arr (0,0) _ h Tryz.underlying37 rfl (by rw [st_info,hs])
theorem st_store {w:World} {b:Nat} {old arr:Array Value} (h:Blk w b old 37) (ho:old.size=8) (hs:arr.size=8) (h1:arr.all (·.oneCell')=true):(Instr.storeAt 37 (.pointer (some ⟨b,0,none⟩)) (.agg arr)).run Tryz.prog w=.ok () (w.setRow b arr):=by
 simp only [Instr.storeAt,Instr.sureAddr,Sem.run_bind,Sem.run_pure,Result.andThen]
 exact run_storeVar_row w b 37 37 old arr h (by rw [st_info,hs]) (by rw [ho,hs]) h1
theorem blk_row {w:World} {b:Nat} {old:Array Value} {t:TypeId} (h:Blk w b old t) (arr:Array Value):Blk (w.setRow b arr) b arr t:=setRow_heap w b old arr t (0,0) h
theorem mks_row {w:World} {b:Nat} {old:Array Value} {t:TypeId} (h:Blk w b old t) (arr:Array Value) (hs:arr.size=old.size):Mks (fun k=>k=b) w (w.setRow b arr):=by
 refine ⟨rfl,rfl,rfl,by rw [setRow_size];exact yJ _,fun k _ hk=>setRow_other w b k arr hk,fun t' g N hc=>?_⟩
 by_cases e:g=b
 ·subst e
  obtain ⟨c,h1,h2⟩:=hc
  rw [h] at h1
  cases h1
  exact ⟨arr,blk_row h arr,by omega⟩
 ·exact hc.of_block (setRow_other w b g arr e)
theorem own_mkc {B:Nat} {S:Nat→Prop} {w w':World} {t t':TypeId} {sz n:Nat} {ao:Option Addr} (h:Own1 B w.heap.size w t sz ao n) (hm:Mks S w w') (hS:∀k,S k→∃N,Cel w t' k N) (ht:t'≠t):(∀k,inR ao n k→¬S k)∧Own1 B w'.heap.size w' t sz ao n:=by
 refine ⟨fun k hk e=>?_,(h.mks hm).mono (yJ _) hm.size⟩
 obtain ⟨_,_,N',h2⟩:=h.lies k hk
 obtain ⟨N,h3⟩:=hS k e
 exact ht (h3.type h2)
section
variable {B:Nat} {S:Nat→Prop} {w w':World}
theorem QHas.mkc {n:Nat} {ao:Option Addr} {l:List Q} (h:QHas B w ao n l) (hm:Mks S w w') (hS:∀k,S k→∃N,Cel w 139 k N):QHas B w' ao n l:=
 ⟨h.1.mks hm (own_mkc h.2 hm hS (by decide)).1,(own_mkc h.2 hm hS (by decide)).2⟩
theorem MHas.mkc {n:Nat} {ao:Option Addr} {l:List Mac} (h:MHas B w ao n l) (hm:Mks S w w') (hS:∀k,S k→∃N,Cel w 139 k N):MHas B w' ao n l:=
 ⟨h.1.mks hm (own_mkc h.2 hm hS (by decide)).1,(own_mkc h.2 hm hS (by decide)).2⟩
theorem CHas.mkc {n:Nat} {ao:Option Addr} {l:List Con} (h:CHas B w ao n l) (hm:Mks S w w') (hS:∀k,S k→∃N,Cel w 139 k N):CHas B w' ao n l:=
 ⟨h.1.mks hm (own_mkc h.2 hm hS (by decide)).1,(own_mkc h.2 hm hS (by decide)).2⟩
theorem KHas.mkc {hs:List AV} {l:List Appl} (h:KHas B w hs l) (hm:Mks S w w') (hS:∀k,S k→∃N,Cel w 139 k N):KHas B w' hs l:=
 ⟨⟨h.heads.1,fun i h1 h2=>let ⟨a,b',c,d⟩:=h.heads.2 i h1 h2;⟨a,b',c.mks hm (own_mkc (h.own _ (yM h1)) hm hS (by decide)).1,d⟩⟩,fun v hv=>(own_mkc (h.own v hv) hm hS (by decide)).2,h.apart⟩
end
theorem Own1.le {B E:Nat} {w:World} {t:TypeId} {sz n m:Nat} {ao:Option Addr} (h:Own1 B E w t sz ao n) (hm:m≤n):Own1 B E w t sz ao m:=by
 rcases h with h | ⟨g,M,h1,h2,h3,h4,h5⟩
 ·exact .inl (by omega)
 ·exact .inr ⟨g,M,h1,h2,h3,h4,by omega⟩
theorem SHas.add {B g cap:Nat} {w w':World} {x:Sls} {s:St} {hs:List AV} (h:SHas B w x s hs) (hB:B≤w.heap.size) (app nx:Int) (qu:List UInt8)
  (ha:AppR B w 139 3 x.aa (x.al+1) (pcells hs++pcell ⟨app,qu,none,0,0⟩) g cap w') :
  SHas B w' ⟨x.qa,x.ql,x.qc,some ⟨g,0,none⟩,x.al+1,cap,x.ma,x.ml,x.mc,x.ca,x.cl,x.cc⟩ ⟨s.qs,s.clock,s.epoch,nx,s.serial,s.apps++[⟨app,qu,[]⟩],s.ms,s.cs⟩ (hs++[⟨app,qu,none,0,0⟩]):=by
 have hS:∀k,(∃N,Cel w 139 k N∧B≤k)→∃N,Cel w 139 k N:=fun k hk=>let ⟨N,a,_⟩:=hk;⟨N,a⟩
 have hal:x.al=hs.length:=h.p.1.1
 have hrm:=(h.rm.mks ha.mks).mono (yJ B) ha.mks.size
 have hk:=h.k.mkc ha.mks hS
 refine ⟨h.q.mkc ha.mks hS,⟨?_,ha.own.le ha.cap⟩,?_,h.m.mkc ha.mks hS,h.c.mkc ha.mks hS,⟨h.cap.q,ha.cap,h.cap.m,h.cap.c⟩,⟨hrm.1,ha.own,hrm.2.2.1,hrm.2.2.2.1,fun v hv=>?_⟩⟩
 ·rcases ha.own with e | ⟨g',M,e,_,_,hc,hM⟩
  ·have:=ha.cap;omega
  ·cases e
   have hl:(pcells (hs++[⟨app,qu,none,0,0⟩])).length≤M*3:=by
    rw [pcells_len,List.length_append]
    exact Nat.mul_le_mul_right _ (by have:=ha.cap;simp;omega)
   have:=(lay_of hc (cs:=pcells (hs++[⟨app,qu,none,0,0⟩])) (by rw [pcells_app];exact ha.cells) hl).rowP
   rw [List.length_append] at this
   rw [hal]
   exact this
 ·exact hk.snoc (yH _ _) (Nat.le_trans hB ha.mks.size) app qu none 0 [] (yJ _) ⟨rfl,.inl rfl⟩ (.inl rfl)
 ·rcases List.mem_append.1 hv with hv | hv
  ·exact hrm.2.2.2.2 v hv
  ·obtain rfl:=List.mem_singleton.1 hv
   exact .inl rfl
theorem drop_st {B:Nat} (app:Int) (b:Nat) (x:Sls) (s:St) (hs:List AV) (w:World) (hk:Blk w b (svc x s) 37) (h:SHas B w x s hs) (hB:B≤w.heap.size) (hl:x.cl≤1048576) (hl2:x.al≤1048576) :
  Calls Tryz.prog 176 #[.pointer (some ⟨b,0,none⟩),.int .i64 app] w (TkSt B w b ⟨s.qs,s.clock,s.epoch,s.next,s.serial,s.apps.filter (fun a=>!decide (a.id=app)),s.ms,s.cs.filter (fun q=>!decide (q.app=app))⟩ (hs.filter (fun v=>!decide (v.id=app))) (s.cs.filter (fun q=>decide (q.app=app)))):=by
 obtain ⟨qa,ql,qc,aa,al,ac,ma,ml,mc,ca,cl,cc⟩:=x
 obtain ⟨qs,clock,epoch,next,serial,apps,ms,cs⟩:=s
 simp only at *
 have hb0:=yA (yH _ w) (.cells #[.int .i64 app] 3)
 have HB0:=hide hb0
 have CT:=hide (takingFromP_any aa al ac hs _ (h.p.1.below hb0) hl2)
 have HLN:=hide ((h.p.1.below hb0)).1
 have HK:=hide hk
 have HH:=hide h
 have hbs:=hk.lt
 have V0:=hide (show (w.alloc (.cells #[.int .i64 app] 3)).cell? ⟨w.heap.size,0,none⟩=some (.int .i64 app) from (yD w #[.int .i64 app] 3).at 0)
 have d5:=(hk.al (.cells #[.int .i64 app] 3)).at 5
 simp at d5
 have hsz0:=yE w (.cells #[.int .i64 app] 3)
 rw [hsz0] at CT
 clear h hk hb0 hsz0
 go_enter Tryz.func176,Tryz.ntmps176
 go_wp2_with fail
 refine (uH CT).mono ?_
 rintro e w1 ⟨rfl,ht,hs1,hb⟩
 have HB1:=hide (show Below (w.heap.size+1) (w.alloc (.cells #[.int .i64 app] 3)) w1 from hb)
 have CA:=hide (takeAllP_any 194 #[.pointer (some ⟨w.heap.size,0,none⟩)] (enters_of Tryz.func194 (by kernel_rfl) rfl) (fun v=>decide (v.id=app)) (w.heap.size+1) (al*3) hs [] w1 ht (by have:=uH HLN;simp;omega) (fun wx v hq hbx=>dropP_clo w.heap.size app v wx ((((uH HB1).trans hbx).cell (p:=⟨w.heap.size,0,none⟩) (by simp)).trans (uH V0))))
 clear ht hb CT
 go_wp2_with fail
 refine (uH CA).mono ?_
 rintro e w2 ⟨rfl,ht,hb⟩
 have V2:=hide ((((uH HB1).trans hb).cell (p:=⟨w.heap.size,0,none⟩) (by simp)).trans (uH V0))
 have HB2:=hide (show Below w.heap.size w w2 from (uH HB0).trans (((uH HB1).trans hb).mono (by omega)))
 have HST:=hide (ht.stays (by have:=uH HLN;have:=List.length_filter_le (fun v:AV=>!decide (v.id=app)) hs;omega))
 obtain ⟨v,hbk,hly,how⟩:=ht
 have k0:=hbk.at 0
 obtain ⟨n1,hn1⟩:∃n,(hs.filter (fun v=>!decide (v.id=app))).length=n:=⟨_,rfl⟩
 rw [hn1] at k0
 simp at k0
 have K2:=hide (show Blk w2 b _ 37 from ((uH HB2).block b hbs).trans (uH HK))
 have e5:=(uH K2).at 5
 have f5:=(uH K2).f 5
 simp at e5
 have HN1:=hide hn1
 have hz2:w.heap.size+1<w2.heap.size:=hly.lt
 clear hbk hly how hb HB1 CA d5 hn1
 go_upto_region 4 with fail
 have hm:Mks (fun k=>k=b) w2 (w2.setCell ⟨b,5,none⟩ (.slice (some ⟨w.heap.size+1,0,none⟩) n1 n1)):=Mks.one _ _ _ _ _ rfl
 have K3:=hide (show Blk (w2.setCell ⟨b,5,none⟩ (.slice (some ⟨w.heap.size+1,0,none⟩) n1 n1)) b #[.slice qa ql qc,.int .i64 clock,.int .i64 epoch,.int .i64 next,.int .i64 serial,.slice (some ⟨w.heap.size+1,0,none⟩) n1 n1,.slice ma ml mc,.slice ca cl cc] 37 from (uH K2).set 5 _)
 have HM3:=hide (show Mks (fun k=>k=b) w (w2.setCell ⟨b,5,none⟩ (.slice (some ⟨w.heap.size+1,0,none⟩) n1 n1)) from mks_of (N:=0) (uH HB2) (uH HK) _ 5)
 have HH3:=hide (show SHas B (w2.setCell ⟨b,5,none⟩ (.slice (some ⟨w.heap.size+1,0,none⟩) n1 n1)) ⟨qa,ql,qc,some ⟨w.heap.size+1,0,none⟩,n1,n1,ma,ml,mc,ca,cl,cc⟩ ⟨qs,clock,epoch,next,serial,apps.filter (fun a=>!decide (a.id=app)),ms,cs⟩ (hs.filter (fun v=>!decide (v.id=app))) from ⟨((uH HH).q.below (uH HB2)).mkt hm (uH K2),by have:=(uH HST).mkt hm (uH K2);rw [uH HN1] at this;exact this.base (by omega),(((uH HH).k.below (uH HB2)).filter (fun i=>!decide (i=app))).mkt hm (uH K2),((uH HH).m.below (uH HB2)).mkt hm (uH K2),((uH HH).c.below (uH HB2)).mkt hm (uH K2),⟨(uH HH).cap.q,yJ _,(uH HH).cap.m,(uH HH).cap.c⟩,(fun r=>⟨r.1,(by have:=((uH HST).mkt hm (uH K2));rw [uH HN1] at this;exact (this.base (B':=B) (by omega)).2),r.2.2.1,r.2.2.2.1,fun v hv=>r.2.2.2.2 v (List.mem_filter.1 hv).1⟩) ((((uH HH).rm.below (uH HB2)).mks hm).mono (yJ _) (Nat.le_trans (uH HB2).size hm.size))⟩)
 have V3:=hide ((World.cell?_setCell_other w2 ⟨b,5,none⟩ ⟨w.heap.size,0,none⟩ (.slice (some ⟨w.heap.size+1,0,none⟩) n1 n1) (by simp)).trans (uH V2))
 have hz3:w.heap.size+1<(w2.setCell ⟨b,5,none⟩ (.slice (some ⟨w.heap.size+1,0,none⟩) n1 n1)).heap.size:=by rw [set_size];exact hz2
 generalize w2.setCell ⟨b,5,none⟩ (.slice (some ⟨w.heap.size+1,0,none⟩) n1 n1)=w3 at K3 HM3 HH3 V3 hz3 ⊢
 have CC:=hide (takeConts_st 196 #[.pointer (some ⟨w.heap.size,0,none⟩)] (enters_of Tryz.func196 (by kernel_rfl) rfl) (fun q=>decide (q.app=app)) b ⟨qa,ql,qc,some ⟨w.heap.size+1,0,none⟩,n1,n1,ma,ml,mc,ca,cl,cc⟩ ⟨qs,clock,epoch,next,serial,apps.filter (fun a=>!decide (a.id=app)),ms,cs⟩ (hs.filter (fun v=>!decide (v.id=app))) w3 (uH K3) (uH HH3) (by omega) hl (fun wx q hq hbx=>dropC_clo w.heap.size app q wx (cellBel (uH V3) hbx)))
 clear hm HST k0 K2 e5 f5 V2 HB2 hz2
 go_wp2_with fail
 refine (uH CC).mono ?_
 rintro e w4 ⟨y,go,gn,gc,rfl,h1,h2,h3,h4,h5⟩
 have X1:=hide h1
 have X2:=hide h2
 have X3:=hide (h3.base (B':=w.heap.size) (by omega))
 have X4:=hide h4
 have X5:=hide ((uH HM3).trans h5)
 clear h1 h2 h3 h4 h5 CC
 go_wp2
 go_ret
 exact ⟨y,go,gn,gc,rfl,uH X1,uH X2,uH X3,uH X4,uH X5⟩
theorem keeperOf_any (y:Mgs) (m:Mgr) (w:World) (h:MRow w y m) (hf:FitMgr m) :
  Calls Tryz.prog 18 #[mgrv y m] w (KpAns w m):=by
 obtain ⟨⟨qa,ql,qc,aa,al,ac,ma,ml,mc,ca,cl,cc⟩,wo,wl,wc⟩:=y
 obtain ⟨⟨qs,clock,epoch,next,serial,apps,ms,cs⟩,log,safe,wait⟩:=m
 have h5:wl=wait.length:=h.2.1
 have CC:=hide (fun wx (hb:Below w.heap.size w wx)=>copyOfState_any ⟨qa,ql,qc,aa,al,ac,ma,ml,mc,ca,cl,cc⟩ ⟨qs,clock,epoch,next,serial,apps,ms,cs⟩ wx (h.1.below hb) hf.1)
 have CL:=hide (fun wx=>clone_any (bs log) wx (by rw [bs_size];have:log.length≤1048576:=hf.2.1;omega))
 have CR:=hide (fun wx (hb:Below w.heap.size w wx)=>copyOfReplies_any wo wl wc wait wx (h.2.below hb) (by have:wait.length≤1048576:=hf.2.2.1;omega) (fun q hq=>⟨(hf.2.2.2 q hq).1.1,(hf.2.2.2 q hq).2,(hf.2.2.2 q hq).1.2⟩))
 have P0:=hide (yD w #[.slice qa ql qc,.int .i64 clock,.int .i64 epoch,.int .i64 next,.int .i64 serial,.slice aa al ac,.slice ma ml mc,.slice ca cl cc,.string (bs log),.int .i64 safe,.slice wo wl wc] 40)
 have HB0:=hide (yA (yH _ w) (.cells #[.slice qa ql qc,.int .i64 clock,.int .i64 epoch,.int .i64 next,.int .i64 serial,.slice aa al ac,.slice ma ml mc,.slice ca cl cc,.string (bs log),.int .i64 safe,.slice wo wl wc] 40))
 have hz:w.heap.size+1=(w.alloc (.cells #[.slice qa ql qc,.int .i64 clock,.int .i64 epoch,.int .i64 next,.int .i64 serial,.slice aa al ac,.slice ma ml mc,.slice ca cl cc,.string (bs log),.int .i64 safe,.slice wo wl wc] 40)).heap.size:=by rw [yE]
 clear h hf h5
 go_enter Tryz.func18,Tryz.ntmps18
 go_upto_region 1 with fail
 obtain ⟨W,hW⟩:∃W,w.alloc (.cells #[.slice qa ql qc,.int .i64 clock,.int .i64 epoch,.int .i64 next,.int .i64 serial,.slice aa al ac,.slice ma ml mc,.slice ca cl cc,.string (bs log),.int .i64 safe,.slice wo wl wc] 40)=W:=⟨_,rfl⟩
 rw [hW] at P0 HB0 hz ⊢
 clear hW
 have R:∀wx,Kp W wx→wx.cell? ⟨w.heap.size,0,none⟩=some (.slice qa ql qc)∧wx.cell? ⟨w.heap.size,1,none⟩=some (.int .i64 clock)∧wx.cell? ⟨w.heap.size,2,none⟩=some (.int .i64 epoch)∧wx.cell? ⟨w.heap.size,3,none⟩=some (.int .i64 next)∧wx.cell? ⟨w.heap.size,4,none⟩=some (.int .i64 serial)∧wx.cell? ⟨w.heap.size,5,none⟩=some (.slice aa al ac)∧wx.cell? ⟨w.heap.size,6,none⟩=some (.slice ma ml mc)∧wx.cell? ⟨w.heap.size,7,none⟩=some (.slice ca cl cc)∧wx.cell? ⟨w.heap.size,8,none⟩=some (.string (bs log))∧wx.cell? ⟨w.heap.size,9,none⟩=some (.int .i64 safe)∧wx.cell? ⟨w.heap.size,10,none⟩=some (.slice wo wl wc):=fun wx hx=>
  have P:=(uH P0).below hx
  ⟨P.at 0,P.at 1,P.at 2,P.at 3,P.at 4,P.at 5,P.at 6,P.at 7,P.at 8,P.at 9,P.at 10⟩
 refine wp_region_held_drew (S:=fun wx=>Kp W wx) (by kernel_rfl) (yH _ W).drew (fun S0=>?_)
 generalize W.drew=wn at S0 ⊢
 have S1:Kp W wn:=S0
 clear S0
 have S0:=S1
 clear S1
 refine tW 0 3 _ S0 ?_
 try simp only [zW]
 refine tW 1 4 (.agg #[.slice qa ql qc,.int .i64 clock,.int .i64 epoch,.int .i64 next,.int .i64 serial,.slice aa al ac,.slice ma ml mc,.slice ca cl cc]) S0 ?_
 try simp only [zW]
 refine tW 3 6 _ S0 ?_
 try simp only [zW]
 refine tW 4 7 (.string (bs log)) S0 ?_
 try simp only [zW]
 refine tW 6 9 _ S0 ?_
 try simp only [zW]
 refine tW 7 10 (.int .i64 safe) S0 ?_
 try simp only [zW]
 refine tW 8 11 _ S0 ?_
 try simp only [zW]
 refine tW 9 12 (.slice wo wl wc) S0 ?_
 try simp only [zW]
 refine wpAnyH_ready (rs:=[2]) (by kernel_rfl) (by simp) (AllReadyH.cons rfl (fun K hK=>?_) AllReadyH.nil)
 go_simp
 refine (uH CC _ (yB (uH HB0) S0)).mono ?_
 rintro e wna ⟨⟨ra,rl,rc,ba,bl,bc,na,nl,nc,da,dl,dc⟩,hs,rfl,hA,hb⟩
 have SA:=hide hA
 have SB:=hide (S0.size)
 have S1:Kp W wna:=yB S0 hb
 clear S0 hb
 go_wp2_with fail
 refine hK.out _ _ S1 (fun S0=>?_)
 clear hK K S1
 try simp only [zW]
 refine wpAnyH_ready (rs:=[5]) (by kernel_rfl) (by simp) (AllReadyH.cons rfl (fun K hK=>?_) AllReadyH.nil)
 go_simp
 refine (uH CL _).mono ?_
 rintro e wnab ⟨rfl,hb⟩
 have SA2:=hide ((uH SA).step hb)
 clear SA
 have SA:=SA2
 clear SA2
 have S1:Kp W wnab:=yB S0 hb
 clear S0 hb
 go_wp2_with fail
 refine hK.out _ _ S1 (fun S0=>?_)
 clear hK K S1
 try simp only [zW]
 refine wpAnyH_ready (rs:=[10]) (by kernel_rfl) (by simp) (AllReadyH.cons rfl (fun K hK=>?_) AllReadyH.nil)
 go_simp
 refine (uH CR _ (yB (uH HB0) S0)).mono ?_
 rintro e wnabc ⟨vo,vc,rs,rfl,hy,hsy,hb⟩
 have RA:=hide (show WtAns _ _ wnabc vo wait.length vc rs wait from ⟨hy,hsy,rfl⟩)
 have RB:=hide (S0.size)
 clear hy hsy
 have SA2:=hide ((uH SA).step hb)
 clear SA
 have SA:=SA2
 clear SA2
 have S1:Kp W wnabc:=yB S0 hb
 clear S0 hb
 go_wp2_with fail
 refine hK.out _ _ S1 (fun S0=>?_)
 clear hK K S1
 try simp only [zW]
 refine tW 11 14 (.agg #[.int .i32 0,.int .u32 0,.slice ra rl rc,.int .i64 clock,.int .i64 epoch,.int .i64 next,.int .i64 serial,.slice ba bl bc,.slice na nl nc,.slice da dl dc,.string (bs log),.int .i64 safe,.slice vo wait.length vc]) S0 ?_
 try simp only [zW]
 refine wpAnyH_ready (rs:=[12]) (by kernel_rfl) (by simp) (AllReadyH.cons rfl (fun K hK=>?_) AllReadyH.nil)
 go_simp
 have SZ:=hide S0.size
 have S1:Kp W (wnabc.alloc (.cells #[.int .i32 0,.int .u32 0,.slice ra rl rc,.int .i64 clock,.int .i64 epoch,.int .i64 next,.int .i64 serial,.slice ba bl bc,.slice na nl nc,.slice da dl dc,.string (bs log),.int .i64 safe,.slice vo wait.length vc] 102)):=yA S0 _
 refine hK.out _ _ S1 (fun S0=>?_)
 clear hK K S1
 try simp only [zW]
 refine tW 13 2 _ S0 ?_
 try simp only [zW]
 refine wpAnyH_done (by kernel_rfl) ?_ _
 have HE:=hide (show KpAns w ⟨⟨qs,clock,epoch,next,serial,apps,ms,cs⟩,log,safe,wait⟩ (.returned (.pointer (some ⟨wnabc.heap.size,0,none⟩))) (wnabc.alloc (.cells #[.int .i32 0,.int .u32 0,.slice ra rl rc,.int .i64 clock,.int .i64 epoch,.int .i64 next,.int .i64 serial,.slice ba bl bc,.slice na nl nc,.slice da dl dc,.string (bs log),.int .i64 safe,.slice vo wait.length vc] 102)) from kp_ans (x:=⟨ra,rl,rc,ba,bl,bc,na,nl,nc,da,dl,dc⟩) (m:=⟨⟨qs,clock,epoch,next,serial,apps,ms,cs⟩,log,safe,wait⟩) (uH HB0) S0 (uH SZ) (uH SA) (uH SB))
 clear S0 R CC CL CR SA RA P0 SB RB SZ
 go_wp2
 go_ret
 exact uH HE
end
end Go.Proofs.YtjkfappkpopbdaaGreat
