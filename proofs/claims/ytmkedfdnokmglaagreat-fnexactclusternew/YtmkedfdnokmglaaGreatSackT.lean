/-
  Texts in one: ClH, ClJ, ClL, ClS, ClR, ClQ, ClF.
-/
import Derived.Test.YtmkedfdnokmglaaGreatSackS
import Derived.Test.YtmkedfdnokmglaaGreatSackK
set_option maxRecDepth 100000
set_option maxHeartbeats 16000000
set_option linter.unusedVariables false
set_option linter.unusedSimpArgs false
namespace Go.Proofs.YtmkedfdnokmglaaGreat
section
open Go.RowKit
theorem markContS_z0 (xo:Option Addr) (xc:Nat) (K:Int) (w:World) :
  Calls Tryz.prog 51 #[.slice xo 0 xc,.int .i64 K] w fun e w'=>e=.returned (.int .i64 K)∧w=w':=by
 go_enter Tryz.func51,Tryz.ntmps51
 go_wp2
 go_loopw [1,5] (fun s i wr=>i=.int .i64 0∧s=.int .i64 K∧wr=w) (fun _ _ _=>0)
 case atStart=>exact ⟨rfl,rfl,rfl⟩
 case round=>
  obtain ⟨rfl,rfl,rfl⟩:=hrel
  go_wp2
  go_ret
  exact ⟨rfl,rfl⟩
theorem heldContS_z0 (xo:Option Addr) (xc:Nat) (K:Int) (w:World) :
  Calls Tryz.prog 80 #[.slice xo 0 xc,.int .i64 K] w fun e w'=>e=.returned (.int .i64 K)∧w=w':=by
 go_enter Tryz.func80,Tryz.ntmps80
 go_wp2
 go_loopw [1,5] (fun s i wr=>i=.int .i64 0∧s=.int .i64 K∧wr=w) (fun _ _ _=>0)
 case atStart=>exact ⟨rfl,rfl,rfl⟩
 case round=>
  obtain ⟨rfl,rfl,rfl⟩:=hrel
  go_wp2
  go_ret
  exact ⟨rfl,rfl⟩
theorem markAgentS_zero (xo:Option Addr) (xc:Nat) (K:Int) (w:World) :
  Calls Tryz.prog 23 #[.slice xo 0 xc,.int .i64 K] w fun e w'=>e=.returned (.int .i64 K)∧w=w':=by
 go_enter Tryz.func23,Tryz.ntmps23
 go_wp2
 go_loopw [1,5] (fun s i wr=>i=.int .i64 0∧s=.int .i64 K∧wr=w) (fun _ _ _=>0)
 case atStart=>exact ⟨rfl,rfl,rfl⟩
 case round=>
  obtain ⟨rfl,rfl,rfl⟩:=hrel
  go_wp2
  go_ret
  exact ⟨rfl,rfl⟩
theorem heldAgentS_zero (xo:Option Addr) (xc:Nat) (K:Int) (w:World) :
  Calls Tryz.prog 53 #[.slice xo 0 xc,.int .i64 K] w fun e w'=>e=.returned (.int .i64 K)∧w=w':=by
 go_enter Tryz.func53,Tryz.ntmps53
 go_wp2
 go_loopw [1,5] (fun s i wr=>i=.int .i64 0∧s=.int .i64 K∧wr=w) (fun _ _ _=>0)
 case atStart=>exact ⟨rfl,rfl,rfl⟩
 case round=>
  obtain ⟨rfl,rfl,rfl⟩:=hrel
  go_wp2
  go_ret
  exact ⟨rfl,rfl⟩
def markG (k:Nat) (v:AH):AH:=⟨(mk k).data.toList,k+1,k+1+1,v.ao,v.len,v.cap⟩
def GPart (w:World) (g M:Nat) (hs:List AH) (k0 j:Nat):Prop:=Cel w 71 g (M*4)∧hs.length≤M∧∀i (h:i<hs.length),AHAt w g (i*4) (if i<j then markG (k0+3*i) hs[i] else hs[i])
theorem GPart.below {w w':World} {g M:Nat} {hs:List AH} {k0 j:Nat} (h:GPart w g M hs k0 j) (hb:Below w.heap.size w w'):GPart w' g M hs k0 j:=⟨h.1.below hb,h.2.1,fun i hi=>(h.2.2 i hi).below hb⟩
theorem GPart.step {w:World} {g M:Nat} {hs:List AH} {k0 j:Nat} (h:GPart w g M hs k0 j) (hj:j<hs.length) :
  GPart (((w.setCell ⟨g,j*4,none⟩ (.string (mk (k0+3*j)))).setCell ⟨g,j*4+1,none⟩ (.int .i64 ((k0+3*j:Nat)+1))).setCell ⟨g,j*4+2,none⟩ (.int .i64 ((k0+3*j:Nat)+1+1))) g M hs k0 (j+1):=by
 refine ⟨((h.1.set _ _ _).set _ _ _).set _ _ _,h.2.1,fun i hi=>?_⟩
 have hx:=h.2.2 i hi
 by_cases e:i=j
 ·subst e
  rw [if_neg (Nat.lt_irrefl _)] at hx
  obtain ⟨a,b,c,d⟩:=hx
  rw [if_pos (Nat.lt_succ_self _)]
  exact ⟨cellKeep (cellKeep (World.cell?_setCell_same _ ⟨g,i*4,none⟩ _ a) (by omega)) (by omega),cellKeep (World.cell?_setCell_same _ ⟨g,i*4+1,none⟩ _ (cellKeep b (by omega))) (by omega),World.cell?_setCell_same _ ⟨g,i*4+2,none⟩ _ (cellKeep (cellKeep c (by omega)) (by omega)),cellKeep (cellKeep (cellKeep d (by omega)) (by omega)) (by omega)⟩
 ·have e2:(i<j+1)=(i<j):=by apply propext;omega
  simp only [e2]
  obtain ⟨a,b,c,d⟩:=hx
  exact ⟨cellKeep (cellKeep (cellKeep a (by omega)) (by omega)) (by omega),cellKeep (cellKeep (cellKeep b (by omega)) (by omega)) (by omega),cellKeep (cellKeep (cellKeep c (by omega)) (by omega)) (by omega),cellKeep (cellKeep (cellKeep d (by omega)) (by omega)) (by omega)⟩
theorem markAgentS_thin (g M n c:Nat) (hs:List AH) (k0:Nat) (w:World) (h:AHBlk w g M hs) (hn:n=hs.length) (hz:∀v ∈ hs,v.len=0) (hl:n≤1048576) (h0:0<k0) (h1:k0≤1000000000) :
  Calls Tryz.prog 23 #[.slice (some ⟨g,0,none⟩) n c,.int .i64 k0] w fun e w'=>e=.returned (.int .i64 ((k0+3*n:Nat):Int))∧GPart w' g M hs k0 n∧Mkd g (g+1) w w':=by
 have HQ0:=hide (show GPart w g M hs k0 0 from ⟨h.1,h.2.1,fun i hi=>by rw [if_neg (Nat.not_lt_zero _)];exact h.2.2 i hi⟩)
 have HN:=hide hn
 have HZ:=hide hz
 clear h hn hz
 go_enter Tryz.func23,Tryz.ntmps23
 go_wp2
 go_loopw [1,5] (fun s i wr=>∃(j:Nat),j≤n∧i=.int .i64 j∧s=.int .i64 ((k0+3*j:Nat):Int)∧Hid (GPart wr g M hs k0 j)∧Hid (Mkd g (g+1) w wr)) (fun _ i _=>n - (intOf i).toNat)
 case atStart=>exact ⟨0,Nat.zero_le _,rfl,rfl,HQ0,hide (Mkd.refl _ _ _)⟩
 case round=>
  obtain ⟨j,hj,rfl,rfl,HQ,HG⟩:=hrel
  clear HQ0
  by_cases hlt:j<n
  ·have hjl:j<hs.length:=by have:=uH HN;omega
   have hrow:=(uH HQ).2.2 j hjl
   rw [if_neg (Nat.lt_irrefl _)] at hrow
   obtain ⟨c0,c1,c2,c3⟩:=hrow
   have hlen:=uH HZ _ (yM hjl)
   obtain ⟨⟨nm,me,cp,xo,xl,xc⟩,hm⟩:∃m,hs[j]=m:=⟨_,rfl⟩
   rw [hm] at c0 c1 c2 c3 hlen
   simp only at c0 c1 c2 c3 hlen
   subst hlen
   obtain ⟨k,hk⟩:∃k:Nat,k0+3*j=k:=⟨_,rfl⟩
   have HK:=hide hk
   rw [hk]
   have hk0:(0:Int)<(k:Int):=by omega
   have hk1:(k:Int)≤5000000000:=by omega
   have D0:=hide c0
   have D1:=hide c1
   have D2:=hide c2
   have D3:=hide c3
   clear c0 c1 c2 c3 hm hjl hk
   go_wp2_with fail
   refine (markText_int k _ hk0 (by omega)).mono ?_
   rintro e w1 ⟨rfl,hb⟩
   rw [Int.toNat_natCast]
   have HQ1:=hide ((uH HQ).below hb)
   have HG1:=hide ((uH HG).on hb)
   have d0:=cellBel (uH D0) hb
   have d1:=cellKeep (v:=.string (mk k)) (cellBel (uH D1) hb) (show j*4≠j*4+1 by omega)
   have d2:=cellKeep (v:=.int .i64 ((k:Int)+1)) (cellKeep (v:=.string (mk k)) (cellBel (uH D2) hb) (show j*4≠j*4+2 by omega)) (show j*4+1≠j*4+2 by omega)
   have d3:=cellKeep (v:=.int .i64 ((k:Int)+1+1)) (cellKeep (v:=.int .i64 ((k:Int)+1)) (cellKeep (v:=.string (mk k)) (cellBel (uH D3) hb) (show j*4≠j*4+3 by omega)) (show j*4+1≠j*4+3 by omega)) (show j*4+2≠j*4+3 by omega)
   have f0:=(uH HQ1).1.frozen (j*4)
   have f1:=((uH HQ1).1.set g (j*4) (.string (mk k))).frozen (j*4+1)
   have f2:=(((uH HQ1).1.set g (j*4) (.string (mk k))).set g (j*4+1) (.int .i64 ((k:Int)+1))).frozen (j*4+2)
   clear hb HQ HG D0 D1 D2 D3
   go_wp2_with fail
   refine (markContS_z0 xo xc _ _).mono ?_
   rintro e w2 ⟨rfl,rfl⟩
   clear d0 d1 d2 d3 f0 f1 f2
   go_wp2
   go_roundw
   case rel=>
    refine ⟨j+1,by omega,by go_num,by have:=uH HK;go_num,hide ?_,hide ((((uH HG1).sc g _ _ (yJ _) (by omega)).sc g _ _ (yJ _) (by omega)).sc g _ _ (yJ _) (by omega))⟩
    have:=(uH HQ1).step (by have:=uH HN;omega)
    rw [uH HK] at this
    exact this
   case measure=>simp [intOf];omega
  ·obtain rfl:j=n:=by omega
   go_wp2
   go_ret
   exact ⟨rfl,uH HQ,uH HG⟩
def GOne (w0:World) (b p:Nat) (q:AH) (w:World):Prop:=AHAt w b p q∧Below w0.heap.size w0 w
theorem GOne.call {w0 w w':World} {b p:Nat} {q:AH} (h:GOne w0 b p q w) (hb:Below w.heap.size w w'):GOne w0 b p q w':=⟨h.1.below hb,yB h.2 hb⟩
theorem GOne.drew {w0 w:World} {b p:Nat} {q:AH} (h:GOne w0 b p q w):GOne w0 b p q w.drew:=h.call (yH _ _).drew
theorem GOne.read (w0:World) (b p:Nat) (q:AH):∀wx,GOne w0 b p q wx→wx.cell? ⟨b,p,none⟩=some (.string (bs q.name))∧wx.cell? ⟨b,p+1,none⟩=some (.int .i64 q.mem)∧wx.cell? ⟨b,p+2,none⟩=some (.int .i64 q.cpu)∧wx.cell? ⟨b,p+3,none⟩=some (.slice q.ao q.len q.cap):=
 fun wx h=>⟨h.1.1,h.1.2.1,h.1.2.2.1,h.1.2.2.2⟩
theorem heldAgentS_thin (g M n c:Nat) (hs:List AH) (k0:Nat) (w:World) (h:GPart w g M hs k0 n) (hn:n=hs.length) (hz:∀v ∈ hs,v.len=0) (hl:n≤1048576) (h0:0<k0) (h1:k0≤1000000000) :
  Calls Tryz.prog 53 #[.slice (some ⟨g,0,none⟩) n c,.int .i64 k0] w fun e w'=>e=.returned (.int .i64 ((k0+3*n:Nat):Int))∧Below w.heap.size w w':=by
 have HR:=hide h
 have HN:=hide hn
 have HZ:=hide hz
 clear h hn hz
 go_enter Tryz.func53,Tryz.ntmps53
 go_wp2
 go_loopw [1,5] (fun s i wr=>∃(j:Nat),j≤n∧i=.int .i64 j∧s=.int .i64 ((k0+3*j:Nat):Int)∧Hid (Below w.heap.size w wr)) (fun _ i _=>n - (intOf i).toNat)
 case atStart=>exact ⟨0,Nat.zero_le _,rfl,rfl,hide (yH _ _)⟩
 case round=>
  obtain ⟨j,hj,rfl,rfl,HB⟩:=hrel
  by_cases hlt:j<n
  ·have hjl:j<hs.length:=by have:=uH HN;omega
   have hqq:=((uH HR).below (uH HB)).2.2 j hjl
   rw [if_pos hlt] at hqq
   have hlen:=uH HZ _ (yM hjl)
   obtain ⟨k,hk⟩:∃k:Nat,k0+3*j=k:=⟨_,rfl⟩
   rw [hk] at hqq ⊢
   have hk0:(0:Int)<(k:Int):=by omega
   have hk1:(k:Int)≤5000000000:=by omega
   have T0:∀wx,Calls Tryz.prog 50 #[.int .i64 (k:Int)] wx fun e w'=>e=.returned (.string (bs (markG k hs[j]).name))∧Below wx.heap.size wx w':=fun wx=>by
    have:=markText_int k wx (by omega) (by omega)
    rw [Int.toNat_natCast] at this
    exact this
   have hd:(markG k hs[j]).mem=(k:Int)+1:=rfl
   have hm:(markG k hs[j]).cpu=(k:Int)+1+1:=rfl
   have hll:(markG k hs[j]).len=0:=hlen
   obtain ⟨q,hqe⟩:∃q,markG k hs[j]=q:=⟨_,rfl⟩
   rw [hqe] at hqq T0 hd hm hll
   have A0:=hide (show GOne w g (j*4) q wr from ⟨hqq,uH HB⟩)
   have C0:=hide T0
   have HK:=hide hk
   have HD:=hide hd
   have HM:=hide hm
   have HL:=hide hll
   have R:=GOne.read w g (j*4) q
   have j0:(0:Int)≤j:=by omega
   have j1:(j:Int)<n:=by omega
   have hw1:IntKind.i64.wrap ((k:Int)+1)=k+1:=by rw [IntKind.wrap_i64];omega
   have hkn:¬((k:Int)+1+1+1)<0:=by omega
   clear hqq T0 hqe hk hd hm hll hlen hjl
   go_wp2_with fail
   go_region_held3 (fun wx=>GOne w g (j*4) q wx)
    (first | (with_reducible assumption) | exact (uH A0).drew | exact GOne.call (by assumption) (by assumption))
    (first
    | (go_at_call 50;refine (uH C0 _).mono ?_;rintro e wt ⟨rfl,hb⟩;have SA:=GOne.call (w0:=w) (b:=g) (p:=j*4) (q:=q) (by assumption) hb))
   obtain ⟨_,r1,r2,r3⟩:=R _ SA
   rw [uH HD] at r1
   rw [uH HM] at r2
   rw [uH HL] at r3
   have HB2:=hide SA.2
   clear SA A0 R C0
   go_wp2_with fail
   refine (heldContS_z0 _ _ _ _).mono ?_
   rintro e w2 ⟨rfl,rfl⟩
   clear r1 r2 r3
   go_wp2
   go_roundw
   case rel=>exact ⟨j+1,by omega,by go_num,by have:=uH HK;go_num,HB2⟩
   case measure=>simp [intOf];omega
  ·obtain rfl:j=n:=by omega
   go_wp2
   go_ret
   exact ⟨rfl,uH HB⟩
def GMk (w:World) (go:Option Addr) (n:Nat) (hs:List AH) (k:Nat):Prop:=n=0∨∃g M,go=some ⟨g,0,none⟩∧GPart w g M hs k n
theorem GMk.below {w w':World} {go:Option Addr} {n:Nat} {hs:List AH} {k:Nat} (h:GMk w go n hs k) (hb:Below w.heap.size w w'):GMk w' go n hs k:=h.elim .inl fun ⟨g,M,a,b⟩=>.inr ⟨g,M,a,b.below hb⟩
def Turned (B E:Nat) (w w':World):Prop:=Below B w w'∧∀k,E≤k→k<w.heap.size→w'.heap[k]? = w.heap[k]?
theorem Turned.blk {B E:Nat} {w w':World} (h:Turned B E w w') {g:Nat} {arr:Array Value} {t:TypeId} (hb:Blk w g arr t) (hg:g<B∨E≤g):Blk w' g arr t:=by
 rcases hg with e | e
 ·exact (h.1.block _ e).trans hb
 ·exact (h.2 _ e hb.lt).trans hb
theorem markGs_has {B E n c:Nat} {go:Option Addr} {hs:List AH} {la:List Agt} {w:World} (k:Nat) (h:GHas B w go n c hs) (ht:Thin hs la) (hE:∀g,go=some ⟨g,0,none⟩→n≠0→g<E) (hBw:B≤w.heap.size) (hl:n≤1048576) (h0:0<k) (h1:k≤1000000000) :
  Calls Tryz.prog 23 #[.slice go n c,.int .i64 k] w fun e w'=>e=.returned (.int .i64 ((k+3*n:Nat):Int))∧GMk w' go n hs k∧Turned B E w w'∧∀k,k<w.heap.size→¬(n≠0∧go=some ⟨k,0,none⟩)→w'.heap[k]? = w.heap[k]?:=by
 have hz:∀v ∈ hs,v.len=0:=fun v hv=>by
  obtain ⟨i,hi,rfl⟩:=List.getElem_of_mem hv
  exact (ht.2 i hi (by rw [←ht.1];exact hi)).2.2.2.1
 rcases h.2.2 with e | ⟨g,rfl,hB,hk⟩
 ·subst e
  refine (markAgentS_zero go c k w).mono ?_
  rintro e w' ⟨rfl,rfl⟩
  exact ⟨rfl,.inl rfl,⟨yH _ _,fun _ _ _=>rfl⟩,fun _ _ _=>rfl⟩
 ·by_cases hn:n=0
  ·subst hn
   refine (markAgentS_zero _ c k w).mono ?_
   rintro e w' ⟨rfl,rfl⟩
   exact ⟨rfl,.inl rfl,⟨yH _ _,fun _ _ _=>rfl⟩,fun _ _ _=>rfl⟩
  ·have hgE:=hE g rfl hn
   refine (markAgentS_thin g c n c hs k w hk h.1.1 hz hl h0 h1).mono ?_
   rintro e w' ⟨rfl,hp,hm⟩
   exact ⟨rfl,.inr ⟨g,c,rfl,hp⟩,⟨(hm.below (by have:=hk.1.lt;omega)).mono hB,fun k h1 h2=>hm.block k h2 (.inr (by omega))⟩,fun k h1 h2=>hm.block k h1 (by
    by_cases e:k=g
    ·subst e;exact absurd ⟨hn,rfl⟩ h2
    ·omega)⟩
theorem heldGs_mk {n c:Nat} {go:Option Addr} {hs:List AH} {la:List Agt} {w:World} (k:Nat) (h:GMk w go n hs k) (ht:Thin hs la) (hn:n=hs.length) (hl:n≤1048576) (h0:0<k) (h1:k≤1000000000) :
  Calls Tryz.prog 53 #[.slice go n c,.int .i64 k] w fun e w'=>e=.returned (.int .i64 ((k+3*n:Nat):Int))∧Below w.heap.size w w':=by
 have hz:∀v ∈ hs,v.len=0:=fun v hv=>by
  obtain ⟨i,hi,rfl⟩:=List.getElem_of_mem hv
  exact (ht.2 i hi (by rw [←ht.1];exact hi)).2.2.2.1
 rcases h with e | ⟨g,M,rfl,hk⟩
 ·subst e
  refine (heldAgentS_zero go c k w).mono ?_
  rintro e w' ⟨rfl,rfl⟩
  exact ⟨rfl,yH _ _⟩
 ·exact heldAgentS_thin g M n c hs k w hk hn hz hl h0 h1
abbrev clc (qo:Option Addr) (n c:Nat) (ep nx:Int) (go:Option Addr) (gl gc:Nat):Array Value:=#[.slice qo n c,.int .i64 0,.int .i64 ep,.int .i64 nx,.int .i64 ep,.slice none 0 0,.slice none 0 0,.slice none 0 0,.string (bs []),.int .i64 0,.slice none 0 0,.slice go gl gc,.slice none 0 0]
theorem Marked.keep {w w':World} {qo:Option Addr} {n:Nat} (h:Marked w qo n) (hk:∀g,qo=some ⟨g,0,none⟩→n≠0→w'.heap[g]? = w.heap[g]?):Marked w' qo n:=by
 obtain ⟨h1,h2,h3⟩:=h
 refine ⟨h1,h2,?_⟩
 by_cases hz:n=0
 ·exact .inl hz
 ·rcases h1 with e | ⟨g,e⟩
  ·exact absurd e hz
  ·rcases h3 with e3 | ⟨b,off,e3,hc⟩
   ·exact absurd e3 hz
   ·have hb:=hk g e hz
    rw [e] at e3
    cases e3
    have kk:∀j v,w.cell? ⟨g,j,none⟩=some v→w'.cell? ⟨g,j,none⟩=some v:=fun j v hv=>(World.cell?_of_block (w:=w) hb).trans hv
    exact .inr ⟨g,0,e,fun i hi=>let ⟨x0,x1,x2,x3⟩:=hc i hi;⟨kk _ _ x0,kk _ _ x1,kk _ _ x2,kk _ _ x3⟩⟩
theorem GHas.keep {B:Nat} {w w':World} {ao:Option Addr} {n cap:Nat} {hs:List AH} (h:GHas B w ao n cap hs) (hk:∀g,ao=some ⟨g,0,none⟩→n≠0→w'.heap[g]? = w.heap[g]?):GHas B w' ao n cap hs:=by
 obtain ⟨h1,h2,h3⟩:=h
 by_cases hz:n=0
 ·exact ⟨⟨h1.1,.inl hz⟩,h2,.inl hz⟩
 ·rcases h3 with e | ⟨g,rfl,hB,hb⟩
  ·exact absurd e hz
  ·have hh:=hk g rfl hz
   have kk:∀j v,w.cell? ⟨g,j,none⟩=some v→w'.cell? ⟨g,j,none⟩=some v:=fun j v hv=>(World.cell?_of_block (w:=w) hh).trans hv
   exact AHBlk.has ⟨hb.1.of_block hh,hb.2.1,fun i hi=>let ⟨x0,x1,x2,x3⟩:=hb.2.2 i hi;⟨kk _ _ x0,kk _ _ x1,kk _ _ x2,kk _ _ x3⟩⟩ hB h1.1
theorem apart_qg {B B' n c gl gc:Nat} {qo go:Option Addr} {l:List Q} {hs:List AH} {w:World} (h:QOwn B w (.slice qo n c) l) (hg:GHas B' w go gl gc hs):∀k,(Value.slice qo n c).ownBlock=some k→¬(gl≠0∧go=some ⟨k,0,none⟩):=by
 rintro k hk ⟨hz,e⟩
 obtain ⟨N,hc⟩:=owns_cel h k hk
 rcases hg.2.2 with e2 | ⟨g,e2,_,hb⟩
 ·exact hz e2
 ·rw [e] at e2
  cases e2
  exact absurd (hc.type hb.1) (by decide)
theorem markCl_new {B E n c gl gc:Nat} {qo go:Option Addr} {l:List Q} {hs:List AH} {la:List Agt} {w:World} (ep nx:Int) (h:QOwn B w (.slice qo n c) l) (hn:n=l.length) (hl:n≤1048576) (hg:GHas B w go gl gc hs) (ht:Thin hs la) (hgl:gl≤1048576)
  (hqE:∀k,(Value.slice qo n c).ownBlock=some k→k<E) (hgE:∀g,go=some ⟨g,0,none⟩→gl≠0→g<E) (hBE:B≤E) (hEw:E≤w.heap.size) :
  Calls Tryz.prog 11 #[.agg (clc qo n c ep nx go gl gc),.int .i64 1] w fun e w'=>e=.returned (.int .i64 ((1+4*n+3*gl:Nat):Int))∧Marked w' qo n∧GMk w' go gl hs (1+4*n)∧Turned B E w w':=by
 have hb0:=yA (yH _ w) (.cells (clc qo n c ep nx go gl gc) 48)
 have P0:=hide (yD w (clc qo n c ep nx go gl gc) 48)
 have C0:=hide (markMg_own ep nx (h.below hb0) hn hl)
 have HAP:=hide (apart_qg (h.below hb0) (hg.below hb0))
 have HG0:=hide (hg.below hb0)
 have HT:=hide ht
 have HQE:=hide hqE
 have HGE:=hide hgE
 have HLT:=hide (own_lt h)
 have HB0:=hide hb0
 have hz0:=yE w (.cells (clc qo n c ep nx go gl gc) 48)
 clear h hn hg ht hqE hgE hb0
 have p0:=(uH P0).at 0;have p1:=(uH P0).at 1;have p2:=(uH P0).at 2;have p3:=(uH P0).at 3;have p4:=(uH P0).at 4;have p5:=(uH P0).at 5;have p6:=(uH P0).at 6;have p7:=(uH P0).at 7;have p8:=(uH P0).at 8;have p9:=(uH P0).at 9;have p10:=(uH P0).at 10
 simp at p0 p1 p2 p3 p4 p5 p6 p7 p8 p9 p10
 go_enter Tryz.func11,Tryz.ntmps11
 go_wp2_with fail
 refine (uH C0).mono ?_
 rintro e w1 ⟨rfl,hm,hgr⟩
 have hs1:=hgr.size
 have P1:=hide (show Blk w1 w.heap.size _ 48 from (hgr.block _ (uH P0).lt (fun e=>by have:=uH HQE _ e.symm;omega)).trans (uH P0))
 have HG1:=hide ((uH HG0).keep (w':=w1) (fun g e hz=>hgr.block _ (by
  rcases (uH HG0).2.2 with e2 | ⟨g2,e2,_,hb⟩
  ·exact absurd e2 hz
  ·rw [e] at e2;cases e2;exact hb.1.lt) (fun e3=>uH HAP g e3.symm ⟨hz,e⟩)))
 have HM1:=hide hm
 have T1:=hide (show Turned B E w w1 from ⟨((uH HB0).mono (by omega)).grown hgr (by omega) (fun k e=>(uH HLT k e).1),fun k h1 h2=>(hgr.block k (by omega) (fun e=>by have:=uH HQE _ e.symm;omega)).trans ((uH HB0).block k h2)⟩)
 have CG:=hide (markGs_has (1+4*n) (uH HG1) (uH HT) (uH HGE) (by omega) hgl (by omega) (by omega))
 rw [show ((1+4*n:Nat):Int)=1+4*(n:Int) by omega] at CG
 have p11:=(uH P1).at 11
 simp at p11
 clear hm hgr P0 HB0 HG0 C0 p0 p1 p2 p3 p4 p5 p6 p7 p8 p9 p10
 go_wp2_with fail
 refine (uH CG).mono ?_
 rintro e w2 ⟨rfl,hmk,htu,hkp⟩
 have P2:=hide (htu.blk (uH P1) (.inr hEw))
 have T2:=hide (show Turned B E w w2 from ⟨(uH T1).1.trans htu.1,fun k h1 h2=>(htu.2 k h1 (by omega)).trans ((uH T1).2 k h1 h2)⟩)
 have HM2:=hide ((uH HM1).keep (w':=w2) (fun g e hz=>hkp g (by
  rcases (uH HM1).2.2 with e3 | ⟨b,off,e3,hc⟩
  ·exact absurd e3 hz
  ·rw [e] at e3
   cases e3
   exact yG (hc 0 (by have:=(uH HM1).2.1;omega)).1) (fun hh=>uH HAP g (by rw [e];rfl) hh)))
 have HK2:=hide hmk
 have p12:=(uH P2).at 12
 simp at p12
 clear hmk htu hkp P1 T1 HM1 HG1 CG p11
 go_wp2_with fail
 refine (markReplyS_nil _ _).mono ?_
 rintro e w3 ⟨rfl,rfl⟩
 go_wp2
 go_ret
 exact ⟨rfl,uH HM2,uH HK2,uH T2⟩
theorem heldCl_new {n c gl gc:Nat} {qo go:Option Addr} {hs:List AH} {la:List Agt} {w:World} (l:List Q) (ep nx:Int) (h:Marked w qo n) (hl:n≤1048576) (hg:GMk w go gl hs (1+4*n)) (ht:Thin hs la) (hn:gl=hs.length) (hgl:gl≤1048576) :
  Calls Tryz.prog 24 #[.agg (clc qo n c ep nx go gl gc),.int .i64 1] w fun e w'=>e=.returned (.int .i64 ((1+4*n+3*gl:Nat):Int))∧Below w.heap.size w w':=by
 have hb0:=yA (yH _ w) (.cells (clc qo n c ep nx go gl gc) 48)
 have P0:=hide (yD w (clc qo n c ep nx go gl gc) 48)
 have C0:=hide (heldMg_own (c:=c) l ep nx (h.below hb0) hl)
 have CG:=hide (fun wx (hb:Below w.heap.size w wx)=>by
  have:=heldGs_mk (c:=gc) (1+4*n) (hg.below hb) ht hn hgl (by omega) (by omega)
  rw [show ((1+4*n:Nat):Int)=1+4*(n:Int) by omega] at this
  exact this)
 have HB0:=hide hb0
 have hk1:¬(1+4*(n:Int))<0:=by omega
 have hk2:¬((1+4*n+3*gl:Nat):Int)<0:=by omega
 clear h hg ht hn hb0
 have p0:=(uH P0).at 0;have p1:=(uH P0).at 1;have p2:=(uH P0).at 2;have p3:=(uH P0).at 3;have p4:=(uH P0).at 4;have p5:=(uH P0).at 5;have p6:=(uH P0).at 6;have p7:=(uH P0).at 7;have p8:=(uH P0).at 8;have p9:=(uH P0).at 9;have p10:=(uH P0).at 10
 simp at p0 p1 p2 p3 p4 p5 p6 p7 p8 p9 p10
 go_enter Tryz.func24,Tryz.ntmps24
 go_wp2_with fail
 refine (uH C0).mono ?_
 rintro e w1 ⟨rfl,hb⟩
 have P1:=hide ((uH P0).below hb)
 have HB1:=hide (yB (uH HB0) hb)
 have p11:=(uH P1).at 11
 simp at p11
 clear hb P0 HB0 C0 p0 p1 p2 p3 p4 p5 p6 p7 p8 p9 p10
 go_wp2_with fail
 refine (uH CG _ (uH HB1)).mono ?_
 rintro e w2 ⟨rfl,hb⟩
 have P2:=hide ((uH P1).below hb)
 have HB2:=hide (yB (uH HB1) hb)
 have p12:=(uH P2).at 12
 simp at p12
 clear hb P1 HB1 CG p11
 go_wp2_with fail
 refine (heldReplyS_nil _ _).mono ?_
 rintro e w3 ⟨rfl,rfl⟩
 go_wp2
 go_ret
 exact ⟨rfl,uH HB2⟩
def QFar (B:Nat) (w:World) (qo:Option Addr) (n:Nat) (l:List Q):Prop:=QRow w qo n l∧(n=0∨∃g,qo=some ⟨g,0,none⟩∧B≤g)
theorem QFar.below {B:Nat} {w w':World} {qo:Option Addr} {n:Nat} {l:List Q} (h:QFar B w qo n l) (hb:Below w.heap.size w w'):QFar B w' qo n l:=⟨h.1.below hb,h.2⟩
theorem QFar.base {B B':Nat} {w:World} {qo:Option Addr} {n:Nat} {l:List Q} (h:QFar B w qo n l) (hb:B'≤B):QFar B' w qo n l:=⟨h.1,h.2.elim .inl fun ⟨g,a,b⟩=>.inr ⟨g,a,Nat.le_trans hb b⟩⟩
theorem QFar.hi {b B:Nat} {w w':World} {qo:Option Addr} {n:Nat} {l:List Q} (hh:Hi b w w') (hb:b<B) (h:QFar B w qo n l):QFar B w' qo n l:=by
 obtain ⟨⟨h1,h2⟩,h3⟩:=h
 rcases h3 with e | ⟨g,rfl,hB⟩
 ·exact ⟨⟨h1,.inl e⟩,.inl e⟩
 ·refine ⟨⟨h1,?_⟩,.inr ⟨g,rfl,hB⟩⟩
  rcases h2 with e | ⟨c,off,e,hc⟩
  ·exact .inl e
  ·cases e
   have hg:b<g:=by omega
   exact .inr ⟨g,0,rfl,fun i hi=>let ⟨x0,x1,x2,x3⟩:=hc i hi;⟨hi_cell hh hg x0,hi_cell hh hg x1,hi_cell hh hg x2,hi_cell hh hg x3⟩⟩
theorem own1_some {B E:Nat} {w:World} {t:TypeId} {sz n:Nat} {ao:Option Addr} (h:Own1 B E w t sz ao n):n=0∨∃g,ao=some ⟨g,0,none⟩∧B≤g:=by
 rcases h with e | ⟨g,M,rfl,hB,_⟩
 ·exact .inl e
 ·exact .inr ⟨g,rfl,hB⟩
structure Bare (B:Nat) (w:World) (x:Sls) (l:List Q):Prop where
 q:QFar B w x.qa x.ql l
 a:x.al=0
 m:x.ml=0
 c:x.cl=0
theorem Bare.below {B:Nat} {w w':World} {x:Sls} {l:List Q} (h:Bare B w x l) (hb:Below w.heap.size w w'):Bare B w' x l:=⟨h.q.below hb,h.a,h.m,h.c⟩
theorem Bare.base {B B':Nat} {w:World} {x:Sls} {l:List Q} (h:Bare B w x l) (hb:B'≤B):Bare B' w x l:=⟨h.q.base hb,h.a,h.m,h.c⟩
theorem Bare.hi {b B:Nat} {w w':World} {x:Sls} {l:List Q} (hh:Hi b w w') (hb:b<B) (h:Bare B w x l):Bare B w' x l:=⟨h.q.hi hh hb,h.a,h.m,h.c⟩
theorem Bare.row {B:Nat} {w:World} {x:Sls} {l:List Q} (ep nx se:Int) (h:Bare B w x l):SRow w x (newSt l ep nx se):=⟨h.q.1,⟨h.a,.inl h.a⟩,⟨h.m,.inl h.m⟩,⟨h.c,.inl h.c⟩⟩
theorem below_row' {W w:World} {b:Nat} {arr:Array Value} (h:Kp W w) (hb:W.heap.size≤b):Kp W (w.setRow b arr):=⟨h.os,h.tape,h.output,by rw [setRow_size];exact h.size,fun k hk=>(setRow_other w b k arr (by omega)).trans (h.block k hk)⟩
theorem QFar_lt {B:Nat} {w:World} {qo:Option Addr} {n:Nat} {l:List Q} (h:QFar B w qo n l):∀k,qo=some ⟨k,0,none⟩→n≠0→k<w.heap.size:=by
 intro k e hn
 obtain ⟨⟨h1,h2⟩,_⟩:=h
 rcases h2 with h2 | ⟨c,off,e2,hc⟩
 ·exact absurd h2 hn
 ·rw [e] at e2
  cases e2
  exact yG (hc 0 (by omega)).1
theorem Bare.row_other {B:Nat} {w:World} {x:Sls} {l:List Q} (h:Bare B w x l) (b:Nat) (arr:Array Value) (hb:∀k,x.qa=some ⟨k,0,none⟩→x.ql≠0→k≠b):Bare B (w.setRow b arr) x l:=by
 refine ⟨?_,h.a,h.m,h.c⟩
 obtain ⟨⟨h1,h2⟩,h3⟩:=h.q
 refine ⟨⟨h1,?_⟩,h3⟩
 rcases h2 with e | ⟨c,off,e,hc⟩
 ·exact .inl e
 ·by_cases hz:x.ql=0
  ·exact .inl hz
  ·rcases h3 with e3 | ⟨g,e3,_⟩
   ·exact absurd e3 hz
   ·rw [e] at e3
    cases e3
    have hne:=hb _ e hz
    have hk:∀j v,w.cell? ⟨c,j,none⟩=some v→(w.setRow b arr).cell? ⟨c,j,none⟩=some v:=fun j v hv=>(World.cell?_of_block (w:=w) (setRow_other w b c arr hne)).trans hv
    exact .inr ⟨c,0,e,fun i hi=>let ⟨x0,x1,x2,x3⟩:=hc i hi;⟨hk _ _ x0,hk _ _ x1,hk _ _ x2,hk _ _ x3⟩⟩
def CpAns (w:World) (l:List Q) (ep nx:Int) (e:Ending) (w':World):Prop:=∃x,e=.returned (mgrv ⟨x,none,0,0⟩ ⟨newSt l ep nx ep,[],0,[]⟩)∧Bare w.heap.size w' x l∧Below w.heap.size w w'
theorem l09Copy_new (qo:Option Addr) (n c:Nat) (l:List Q) (ep nx:Int) (w:World) (h:QRow w qo n l) (hn:qo=none→n=0∧c=0) (hf:FitQ l) :
  Calls Tryz.prog 67 #[.agg (mgc qo n c ep nx)] w (CpAns w l ep nx):=by
 have hb0:=yA (yA (yH _ w) (.cells (mgc qo n c ep nx) 45)) (.cells #[.slice none 0 0,.int .i64 0,.int .i64 0,.int .i64 0,.int .i64 0,.slice none 0 0,.slice none 0 0,.slice none 0 0,.string ⟨#[]⟩,.int .i64 0,.slice none 0 0] 45)
 have P0:=hide ((yD w (mgc qo n c ep nx) 45).al (.cells #[.slice none 0 0,.int .i64 0,.int .i64 0,.int .i64 0,.int .i64 0,.slice none 0 0,.slice none 0 0,.slice none 0 0,.string ⟨#[]⟩,.int .i64 0,.slice none 0 0] 45))
 have R0:=hide (show Blk _ (w.heap.size+1) #[.slice none 0 0,.int .i64 0,.int .i64 0,.int .i64 0,.int .i64 0,.slice none 0 0,.slice none 0 0,.slice none 0 0,.string ⟨#[]⟩,.int .i64 0,.slice none 0 0] 45 by have:=yD (w.alloc (.cells (mgc qo n c ep nx) 45)) #[.slice none 0 0,.int .i64 0,.int .i64 0,.int .i64 0,.int .i64 0,.slice none 0 0,.slice none 0 0,.slice none 0 0,.string ⟨#[]⟩,.int .i64 0,.slice none 0 0] 45;rwa [yE] at this)
 have CC:=hide (fun wx (hb:Below w.heap.size w wx)=>l04Copy_some (newX qo n c) (newSt l ep nx ep) [] wx (new_row ep nx ep (h.below hb)) ⟨rfl,.inl rfl⟩ ⟨rfl,fun i hi=>absurd hi (by simp)⟩ ⟨hn,fun _=>⟨rfl,rfl⟩,fun _=>⟨rfl,rfl⟩,fun v hv=>absurd hv (by simp)⟩ (new_fit ep nx ep hf))
 have HB0:=hide hb0
 have hz:((w.alloc (.cells (mgc qo n c ep nx) 45)).alloc (.cells #[.slice none 0 0,.int .i64 0,.int .i64 0,.int .i64 0,.int .i64 0,.slice none 0 0,.slice none 0 0,.slice none 0 0,.string ⟨#[]⟩,.int .i64 0,.slice none 0 0] 45)).heap.size=w.heap.size+1+1:=by rw [yE,yE]
 clear h hn hf hb0
 go_enter Tryz.func67,Tryz.ntmps67
 go_upto_region 1 with fail
 obtain ⟨W,hW⟩:∃W,(w.alloc (.cells (mgc qo n c ep nx) 45)).alloc (.cells #[.slice none 0 0,.int .i64 0,.int .i64 0,.int .i64 0,.int .i64 0,.slice none 0 0,.slice none 0 0,.slice none 0 0,.string ⟨#[]⟩,.int .i64 0,.slice none 0 0] 45)=W:=⟨_,rfl⟩
 rw [hW] at P0 R0 HB0 hz ⊢
 clear hW
 have R:∀wx,Kp W wx→wx.cell? ⟨w.heap.size,0,none⟩=some (.slice qo n c)∧wx.cell? ⟨w.heap.size,1,none⟩=some (.int .i64 0)∧wx.cell? ⟨w.heap.size,2,none⟩=some (.int .i64 ep)∧wx.cell? ⟨w.heap.size,3,none⟩=some (.int .i64 nx)∧wx.cell? ⟨w.heap.size,4,none⟩=some (.int .i64 ep)∧wx.cell? ⟨w.heap.size,5,none⟩=some (.slice none 0 0)∧wx.cell? ⟨w.heap.size,6,none⟩=some (.slice none 0 0)∧wx.cell? ⟨w.heap.size,7,none⟩=some (.slice none 0 0)∧wx.cell? ⟨w.heap.size,8,none⟩=some (.string ⟨#[]⟩)∧wx.cell? ⟨w.heap.size,9,none⟩=some (.int .i64 0)∧wx.cell? ⟨w.heap.size,10,none⟩=some (.slice none 0 0):=fun wx hx=>
  have P:=(uH P0).below hx
  ⟨P.at 0,P.at 1,P.at 2,P.at 3,P.at 4,P.at 5,P.at 6,P.at 7,P.at 8,P.at 9,P.at 10⟩
 refine wp_region_held_drew (S:=fun wx=>Kp W wx) (by kernel_rfl) (yH _ W).drew (fun S0=>?_)
 generalize W.drew=wn at S0 ⊢
 have S1:Kp W wn:=S0
 clear S0
 have S0:=S1
 clear S1
 refine tW 0 5 _ S0 ?_
 try simp only [zW]
 refine tW 1 6 (.agg #[.slice qo n c,.int .i64 0,.int .i64 ep,.int .i64 nx,.int .i64 ep,.slice none 0 0,.slice none 0 0,.slice none 0 0]) S0 ?_
 try simp only [zW]
 refine tW 3 8 _ S0 ?_
 try simp only [zW]
 refine tW 4 9 (.string ⟨#[]⟩) S0 ?_
 try simp only [zW]
 refine tW 5 10 _ S0 ?_
 try simp only [zW]
 refine tW 6 11 (.int .i64 0) S0 ?_
 try simp only [zW]
 refine wpAnyH_ready (rs:=[2,8]) (by kernel_rfl) (by simp) (AllReadyH.cons rfl (fun K hK=>?_) (AllReadyH.cons rfl (fun K hK=>?_) AllReadyH.nil))
 case refine_1=>
  go_simp
  refine (uH CC _ (yB (uH HB0) S0)).mono ?_
  rintro e wt ⟨⟨qa,ql,qc,aa,al,ac,ma,ml,mc,ca,cl,cc⟩,hs,rfl,hA,hb,_⟩
  have BR:=hide (show Bare wn.heap.size wt ⟨qa,ql,qc,aa,al,ac,ma,ml,mc,ca,cl,cc⟩ l from ⟨⟨hA.row.1,own1_some hA.q⟩,hA.row.2.1.1,hA.row.2.2.1.1,hA.row.2.2.2.1⟩)
  clear hA
  have S1:Kp W wt:=yB S0 hb
  have hzw:=hb.size
  have hzn:=S0.size
  clear S0 hb
  go_wp2_with fail
  refine hK.out _ _ S1 (fun S0=>?_)
  clear hK K S1
  try simp only [zW]
  refine tW 7 12 (.agg #[.slice qa ql qc,.int .i64 0,.int .i64 ep,.int .i64 nx,.int .i64 ep,.slice aa al ac,.slice ma ml mc,.slice ca cl cc,.string ⟨#[]⟩,.int .i64 0,.slice none 0 0]) S0 ?_
  try simp only [zW]
  refine wpAnyH_ready (rs:=[8]) (by kernel_rfl) (by simp) (AllReadyH.cons rfl (fun K hK=>?_) AllReadyH.nil)
  go_simp
  have S1:Kp W (wt.alloc (.cells #[.slice none 0 0,.int .i64 0,.int .i64 0,.int .i64 0,.int .i64 0,.slice none 0 0,.slice none 0 0,.slice none 0 0,.string ⟨#[]⟩,.int .i64 0,.slice none 0 0] 45)):=yA S0 _
  have ZB:=hide (yD wt #[.slice none 0 0,.int .i64 0,.int .i64 0,.int .i64 0,.int .i64 0,.slice none 0 0,.slice none 0 0,.slice none 0 0,.string ⟨#[]⟩,.int .i64 0,.slice none 0 0] 45)
  have BR0:=uH BR
  have hne:=fun k e e2=>QFar_lt BR0.q k e e2
  have hba:=yA (yH _ wt) (.cells #[.slice none 0 0,.int .i64 0,.int .i64 0,.int .i64 0,.int .i64 0,.slice none 0 0,.slice none 0 0,.slice none 0 0,.string ⟨#[]⟩,.int .i64 0,.slice none 0 0] 45)
  clear BR
  have BR:=hide (BR0.below hba)
  clear BR0 S0 hba
  refine hK.out _ _ S1 (fun S0=>?_)
  clear hK K S1
  obtain ⟨g,hg⟩:∃g,wt.heap.size=g:=⟨_,rfl⟩
  rw [hg] at ZB hne hzw ⊢
  clear hg
  generalize wt.alloc (.cells #[.slice none 0 0,.int .i64 0,.int .i64 0,.int .i64 0,.int .i64 0,.slice none 0 0,.slice none 0 0,.slice none 0 0,.string ⟨#[]⟩,.int .i64 0,.slice none 0 0] 45)=wa at S0 ZB BR ⊢
  try simp only [zW]
  refine wpAnyH_ready (rs:=[9]) (by kernel_rfl) (by simp) (AllReadyH.cons rfl (fun K hK=>?_) AllReadyH.nil)
  refine op_none (by kernel_rfl) (run_u (ns_store 45 (uH ZB) (by kernel_rfl) rfl (by kernel_rfl))) ?_
  have MM:=ns_mks (uH ZB) #[.slice qa ql qc,.int .i64 0,.int .i64 ep,.int .i64 nx,.int .i64 ep,.slice aa al ac,.slice ma ml mc,.slice ca cl cc,.string ⟨#[]⟩,.int .i64 0,.slice none 0 0] rfl
  have A5:=hide (ns_blk (uH ZB) #[.slice qa ql qc,.int .i64 0,.int .i64 ep,.int .i64 nx,.int .i64 ep,.slice aa al ac,.slice ma ml mc,.slice ca cl cc,.string ⟨#[]⟩,.int .i64 0,.slice none 0 0])
  have S1:Kp W (World.setRow wa g #[.slice qa ql qc,.int .i64 0,.int .i64 ep,.int .i64 nx,.int .i64 ep,.slice aa al ac,.slice ma ml mc,.slice ca cl cc,.string ⟨#[]⟩,.int .i64 0,.slice none 0 0]):=below_row' S0 (by omega)
  have BR5:=hide (((uH BR).row_other g #[.slice qa ql qc,.int .i64 0,.int .i64 ep,.int .i64 nx,.int .i64 ep,.slice aa al ac,.slice ma ml mc,.slice ca cl cc,.string ⟨#[]⟩,.int .i64 0,.slice none 0 0] (fun k e e2=>by have:=hne k e e2;omega)).base (show w.heap.size+1+1≤_ by omega))
  clear MM ZB BR
  generalize World.setRow wa g #[.slice qa ql qc,.int .i64 0,.int .i64 ep,.int .i64 nx,.int .i64 ep,.slice aa al ac,.slice ma ml mc,.slice ca cl cc,.string ⟨#[]⟩,.int .i64 0,.slice none 0 0]=w5 at A5 S1 BR5 ⊢
  have P5:=hide ((uH P0).below S1)
  have R5:=hide ((uH R0).below S1)
  have HB5:=hide (yB (uH HB0) S1)
  clear S0 P0 R0 HB0
  refine hK.out _ _ S1 (fun S0=>?_)
  clear hK K
  try simp only [zW]
  refine wpAnyH_done (by kernel_rfl) ?_ _
  clear S0 R CC
  have p10:=(uH P5).at 10
  simp at p10
  go_wp2
  go_loopw [4] (fun i wr=>i=.int .i64 0∧wr=w5) (fun _ _=>0)
  case atStart=>exact ⟨rfl,rfl⟩
  case round=>
   obtain ⟨rfl,rfl⟩:=hrel
   go_upto_region 6 with fail
   refine wp_region_lit ?_
   refine wpList_same (v:=.agg #[.slice qa ql qc,.int .i64 0,.int .i64 ep,.int .i64 nx,.int .i64 ep,.slice aa al ac,.slice ma ml mc,.slice ca cl cc,.string ⟨#[]⟩,.int .i64 0,.slice none 0 0]) rfl rfl (run_v (ns_load 45 (uH A5) Tryz.underlying45 rfl (by kernel_rfl))) ?_
   try simp only [zW]
   refine wpList_none (d:=none) rfl rfl (run_u (ns_store 45 (uH R5) (by kernel_rfl) rfl (by kernel_rfl))) ?_
   simp only [Act.put]
   have MM:=ns_mks (uH R5) #[.slice qa ql qc,.int .i64 0,.int .i64 ep,.int .i64 nx,.int .i64 ep,.slice aa al ac,.slice ma ml mc,.slice ca cl cc,.string ⟨#[]⟩,.int .i64 0,.slice none 0 0] rfl
   have BR6:=hide ((uH BR5).hi (hi_row _ (w.heap.size+1) #[.slice qa ql qc,.int .i64 0,.int .i64 ep,.int .i64 nx,.int .i64 ep,.slice aa al ac,.slice ma ml mc,.slice ca cl cc,.string ⟨#[]⟩,.int .i64 0,.slice none 0 0]) (by omega))
   have R6:=hide (ns_blk (uH R5) #[.slice qa ql qc,.int .i64 0,.int .i64 ep,.int .i64 nx,.int .i64 ep,.slice aa al ac,.slice ma ml mc,.slice ca cl cc,.string ⟨#[]⟩,.int .i64 0,.slice none 0 0])
   have HB6:=hide ((uH HB5).trans (MM.below (fun k e=>by subst e;omega) (uH HB5).size))
   clear MM A5 P5 R5 HB5 BR5 p10
   generalize World.setRow _ (w.heap.size+1) #[.slice qa ql qc,.int .i64 0,.int .i64 ep,.int .i64 nx,.int .i64 ep,.slice aa al ac,.slice ma ml mc,.slice ca cl cc,.string ⟨#[]⟩,.int .i64 0,.slice none 0 0]=w6 at R6 HB6 BR6 ⊢
   have r0:=(uH R6).at 0;have r1:=(uH R6).at 1;have r2:=(uH R6).at 2;have r3:=(uH R6).at 3;have r4:=(uH R6).at 4;have r5:=(uH R6).at 5;have r6:=(uH R6).at 6;have r7:=(uH R6).at 7;have r8:=(uH R6).at 8;have r9:=(uH R6).at 9;have r10:=(uH R6).at 10
   simp at r0 r1 r2 r3 r4 r5 r6 r7 r8 r9 r10
   have HE:=hide (show CpAns w l ep nx (.returned (.agg #[.slice qa ql qc,.int .i64 0,.int .i64 ep,.int .i64 nx,.int .i64 ep,.slice aa al ac,.slice ma ml mc,.slice ca cl cc,.string ⟨#[]⟩,.int .i64 0,.slice none 0 0])) w6 from ⟨⟨qa,ql,qc,aa,al,ac,ma,ml,mc,ca,cl,cc⟩,rfl,(uH BR6).base (by omega),uH HB6⟩)
   clear R6 HB6 BR6
   go_wp2
   exact bodyPost_ret (v:=.agg #[.slice qa ql qc,.int .i64 0,.int .i64 ep,.int .i64 nx,.int .i64 ep,.slice aa al ac,.slice ma ml mc,.slice ca cl cc,.string ⟨#[]⟩,.int .i64 0,.slice none 0 0]) (by simp [results,Tryz.results67,go_sem,r0,r1,r2,r3,r4,r5,r6,r7,r8,r9,r10]) rfl (uH HE)
 case refine_2=>
  go_simp
  have S1:Kp W (wn.alloc (.cells #[.slice none 0 0,.int .i64 0,.int .i64 0,.int .i64 0,.int .i64 0,.slice none 0 0,.slice none 0 0,.slice none 0 0,.string ⟨#[]⟩,.int .i64 0,.slice none 0 0] 45)):=yA S0 _
  have ZB:=hide (yD wn #[.slice none 0 0,.int .i64 0,.int .i64 0,.int .i64 0,.int .i64 0,.slice none 0 0,.slice none 0 0,.slice none 0 0,.string ⟨#[]⟩,.int .i64 0,.slice none 0 0] 45)
  have hzn:=S0.size
  have hza:=yE wn (.cells #[.slice none 0 0,.int .i64 0,.int .i64 0,.int .i64 0,.int .i64 0,.slice none 0 0,.slice none 0 0,.slice none 0 0,.string ⟨#[]⟩,.int .i64 0,.slice none 0 0] 45)
  clear S0
  refine hK.out _ _ S1 (fun S0=>?_)
  clear hK K S1
  obtain ⟨g,hg⟩:∃g,wn.heap.size=g:=⟨_,rfl⟩
  rw [hg] at ZB hza hzn ⊢
  clear hg
  generalize wn.alloc (.cells #[.slice none 0 0,.int .i64 0,.int .i64 0,.int .i64 0,.int .i64 0,.slice none 0 0,.slice none 0 0,.slice none 0 0,.string ⟨#[]⟩,.int .i64 0,.slice none 0 0] 45)=wa at S0 ZB hza ⊢
  try simp only [zW]
  refine wpAnyH_ready (rs:=[2]) (by kernel_rfl) (by simp) (AllReadyH.cons rfl (fun K hK=>?_) AllReadyH.nil)
  go_simp
  refine (uH CC _ (yB (uH HB0) S0)).mono ?_
  rintro e wt ⟨⟨qa,ql,qc,aa,al,ac,ma,ml,mc,ca,cl,cc⟩,hs,rfl,hA,hb,_⟩
  have BR:=hide (show Bare wa.heap.size wt ⟨qa,ql,qc,aa,al,ac,ma,ml,mc,ca,cl,cc⟩ l from ⟨⟨hA.row.1,own1_some hA.q⟩,hA.row.2.1.1,hA.row.2.2.1.1,hA.row.2.2.2.1⟩)
  clear hA
  have S1:Kp W wt:=yB S0 hb
  have ZB2:=hide ((uH ZB).below hb)
  clear ZB
  have ZB:=ZB2
  clear ZB2 S0 hb
  go_wp2_with fail
  refine hK.out _ _ S1 (fun S0=>?_)
  clear hK K S1
  try simp only [zW]
  refine tW 7 12 (.agg #[.slice qa ql qc,.int .i64 0,.int .i64 ep,.int .i64 nx,.int .i64 ep,.slice aa al ac,.slice ma ml mc,.slice ca cl cc,.string ⟨#[]⟩,.int .i64 0,.slice none 0 0]) S0 ?_
  try simp only [zW]
  have hfar:=(uH BR).q.2
  refine wpAnyH_ready (rs:=[9]) (by kernel_rfl) (by simp) (AllReadyH.cons rfl (fun K hK=>?_) AllReadyH.nil)
  refine op_none (by kernel_rfl) (run_u (ns_store 45 (uH ZB) (by kernel_rfl) rfl (by kernel_rfl))) ?_
  have MM:=ns_mks (uH ZB) #[.slice qa ql qc,.int .i64 0,.int .i64 ep,.int .i64 nx,.int .i64 ep,.slice aa al ac,.slice ma ml mc,.slice ca cl cc,.string ⟨#[]⟩,.int .i64 0,.slice none 0 0] rfl
  have A5:=hide (ns_blk (uH ZB) #[.slice qa ql qc,.int .i64 0,.int .i64 ep,.int .i64 nx,.int .i64 ep,.slice aa al ac,.slice ma ml mc,.slice ca cl cc,.string ⟨#[]⟩,.int .i64 0,.slice none 0 0])
  have S1:Kp W (World.setRow wt g #[.slice qa ql qc,.int .i64 0,.int .i64 ep,.int .i64 nx,.int .i64 ep,.slice aa al ac,.slice ma ml mc,.slice ca cl cc,.string ⟨#[]⟩,.int .i64 0,.slice none 0 0]):=below_row' S0 (by omega)
  have BR5:=hide (((uH BR).row_other g #[.slice qa ql qc,.int .i64 0,.int .i64 ep,.int .i64 nx,.int .i64 ep,.slice aa al ac,.slice ma ml mc,.slice ca cl cc,.string ⟨#[]⟩,.int .i64 0,.slice none 0 0] (fun k e e2=>by rcases hfar with h | ⟨g2,h1,h2⟩;exact absurd h e2;rw [e] at h1;cases h1;omega)).base (show w.heap.size+1+1≤_ by omega))
  clear MM ZB BR
  generalize World.setRow wt g #[.slice qa ql qc,.int .i64 0,.int .i64 ep,.int .i64 nx,.int .i64 ep,.slice aa al ac,.slice ma ml mc,.slice ca cl cc,.string ⟨#[]⟩,.int .i64 0,.slice none 0 0]=w5 at A5 S1 BR5 ⊢
  have P5:=hide ((uH P0).below S1)
  have R5:=hide ((uH R0).below S1)
  have HB5:=hide (yB (uH HB0) S1)
  clear S0 P0 R0 HB0
  refine hK.out _ _ S1 (fun S0=>?_)
  clear hK K
  try simp only [zW]
  refine wpAnyH_done (by kernel_rfl) ?_ _
  clear S0 R CC
  have p10:=(uH P5).at 10
  simp at p10
  go_wp2
  go_loopw [4] (fun i wr=>i=.int .i64 0∧wr=w5) (fun _ _=>0)
  case atStart=>exact ⟨rfl,rfl⟩
  case round=>
   obtain ⟨rfl,rfl⟩:=hrel
   go_upto_region 6 with fail
   refine wp_region_lit ?_
   refine wpList_same (v:=.agg #[.slice qa ql qc,.int .i64 0,.int .i64 ep,.int .i64 nx,.int .i64 ep,.slice aa al ac,.slice ma ml mc,.slice ca cl cc,.string ⟨#[]⟩,.int .i64 0,.slice none 0 0]) rfl rfl (run_v (ns_load 45 (uH A5) Tryz.underlying45 rfl (by kernel_rfl))) ?_
   try simp only [zW]
   refine wpList_none (d:=none) rfl rfl (run_u (ns_store 45 (uH R5) (by kernel_rfl) rfl (by kernel_rfl))) ?_
   simp only [Act.put]
   have MM:=ns_mks (uH R5) #[.slice qa ql qc,.int .i64 0,.int .i64 ep,.int .i64 nx,.int .i64 ep,.slice aa al ac,.slice ma ml mc,.slice ca cl cc,.string ⟨#[]⟩,.int .i64 0,.slice none 0 0] rfl
   have BR6:=hide ((uH BR5).hi (hi_row _ (w.heap.size+1) #[.slice qa ql qc,.int .i64 0,.int .i64 ep,.int .i64 nx,.int .i64 ep,.slice aa al ac,.slice ma ml mc,.slice ca cl cc,.string ⟨#[]⟩,.int .i64 0,.slice none 0 0]) (by omega))
   have R6:=hide (ns_blk (uH R5) #[.slice qa ql qc,.int .i64 0,.int .i64 ep,.int .i64 nx,.int .i64 ep,.slice aa al ac,.slice ma ml mc,.slice ca cl cc,.string ⟨#[]⟩,.int .i64 0,.slice none 0 0])
   have HB6:=hide ((uH HB5).trans (MM.below (fun k e=>by subst e;omega) (uH HB5).size))
   clear MM A5 P5 R5 HB5 BR5 p10
   generalize World.setRow _ (w.heap.size+1) #[.slice qa ql qc,.int .i64 0,.int .i64 ep,.int .i64 nx,.int .i64 ep,.slice aa al ac,.slice ma ml mc,.slice ca cl cc,.string ⟨#[]⟩,.int .i64 0,.slice none 0 0]=w6 at R6 HB6 BR6 ⊢
   have r0:=(uH R6).at 0;have r1:=(uH R6).at 1;have r2:=(uH R6).at 2;have r3:=(uH R6).at 3;have r4:=(uH R6).at 4;have r5:=(uH R6).at 5;have r6:=(uH R6).at 6;have r7:=(uH R6).at 7;have r8:=(uH R6).at 8;have r9:=(uH R6).at 9;have r10:=(uH R6).at 10
   simp at r0 r1 r2 r3 r4 r5 r6 r7 r8 r9 r10
   have HE:=hide (show CpAns w l ep nx (.returned (.agg #[.slice qa ql qc,.int .i64 0,.int .i64 ep,.int .i64 nx,.int .i64 ep,.slice aa al ac,.slice ma ml mc,.slice ca cl cc,.string ⟨#[]⟩,.int .i64 0,.slice none 0 0])) w6 from ⟨⟨qa,ql,qc,aa,al,ac,ma,ml,mc,ca,cl,cc⟩,rfl,(uH BR6).base (by omega),uH HB6⟩)
   clear R6 HB6 BR6
   go_wp2
   exact bodyPost_ret (v:=.agg #[.slice qa ql qc,.int .i64 0,.int .i64 ep,.int .i64 nx,.int .i64 ep,.slice aa al ac,.slice ma ml mc,.slice ca cl cc,.string ⟨#[]⟩,.int .i64 0,.slice none 0 0]) (by simp [results,Tryz.results67,go_sem,r0,r1,r2,r3,r4,r5,r6,r7,r8,r9,r10]) rfl (uH HE)
theorem Thin.take {hs:List AH} {l:List Agt} {k:Nat} {ns:List AH} (h:Thin hs l) (hn:Thin ns (l.take k)) (hk:k<hs.length) (hk2:k<l.length) (ao:Option Addr) (cap:Nat):Thin (ns++[⟨hs[k].name,hs[k].mem,hs[k].cpu,ao,0,cap⟩]) (l.take (k+1)):=by
 have hl:ns.length=k:=by rw [hn.1,List.length_take];omega
 refine ⟨by simp [hl];omega,fun i hi hi'=>?_⟩
 have hil:i<l.length:=by simp at hi';omega
 rw [List.getElem_take]
 by_cases e:i<k
 ·have h1:i<ns.length:=by omega
  have h2:i<(l.take k).length:=by simp;omega
  have:=hn.2 i h1 h2
  rw [List.getElem_take] at this
  rw [List.getElem_append_left h1]
  exact this
 ·have e2:i=k:=by simp at hi;omega
  subst e2
  obtain ⟨a,b,c,d,e⟩:=h.2 i hk hk2
  rw [List.getElem_append_right (by omega)]
  simp only [hl,Nat.sub_self,List.getElem_cons_zero]
  exact ⟨a,b,c,trivial,e⟩
def CpcAns (w:World) (l:List Q) (ep nx:Int) (la:List Agt) (e:Ending) (w':World):Prop:=∃x go gc hs',e=.returned (.agg (cluc ⟨⟨x,none,0,0⟩,go,la.length,gc,none,0,0⟩ ⟨⟨newSt l ep nx ep,[],0,[]⟩,la,[]⟩))∧Bare w.heap.size w' x l∧GHas w.heap.size w' go la.length gc hs'∧Thin hs' la∧Below w.heap.size w w'
theorem l10Copy_new (qo:Option Addr) (n c:Nat) (l:List Q) (ep nx:Int) (ao:Option Addr) (len cap:Nat) (hs:List AH) (la:List Agt) (w:World) (h:QRow w qo n l) (hn:qo=none→n=0∧c=0) (hf:FitQ l) (hr:AHRow w ao len hs) (ht:Thin hs la) (hl:len≤1048576) (hx:∀v ∈ hs,v.ao≠none) :
  Calls Tryz.prog 42 #[.agg #[.slice qo n c,.int .i64 0,.int .i64 ep,.int .i64 nx,.int .i64 ep,.slice none 0 0,.slice none 0 0,.slice none 0 0,.string ⟨#[]⟩,.int .i64 0,.slice none 0 0,.slice ao len cap,.slice none 0 0]] w (CpcAns w l ep nx la):=by
 have hb0:=yA (yA (yH _ w) (.cells #[.slice qo n c,.int .i64 0,.int .i64 ep,.int .i64 nx,.int .i64 ep,.slice none 0 0,.slice none 0 0,.slice none 0 0,.string ⟨#[]⟩,.int .i64 0,.slice none 0 0,.slice ao len cap,.slice none 0 0] 48)) (.cells #[.slice none 0 0,.int .i64 0,.int .i64 0,.int .i64 0,.int .i64 0,.slice none 0 0,.slice none 0 0,.slice none 0 0,.string ⟨#[]⟩,.int .i64 0,.slice none 0 0,.slice none 0 0,.slice none 0 0] 48)
 have P0:=hide ((yD w #[.slice qo n c,.int .i64 0,.int .i64 ep,.int .i64 nx,.int .i64 ep,.slice none 0 0,.slice none 0 0,.slice none 0 0,.string ⟨#[]⟩,.int .i64 0,.slice none 0 0,.slice ao len cap,.slice none 0 0] 48).al (.cells #[.slice none 0 0,.int .i64 0,.int .i64 0,.int .i64 0,.int .i64 0,.slice none 0 0,.slice none 0 0,.slice none 0 0,.string ⟨#[]⟩,.int .i64 0,.slice none 0 0,.slice none 0 0,.slice none 0 0] 48))
 have R0:=hide (show Blk _ (w.heap.size+1) #[.slice none 0 0,.int .i64 0,.int .i64 0,.int .i64 0,.int .i64 0,.slice none 0 0,.slice none 0 0,.slice none 0 0,.string ⟨#[]⟩,.int .i64 0,.slice none 0 0,.slice none 0 0,.slice none 0 0] 48 by have:=yD (w.alloc (.cells #[.slice qo n c,.int .i64 0,.int .i64 ep,.int .i64 nx,.int .i64 ep,.slice none 0 0,.slice none 0 0,.slice none 0 0,.string ⟨#[]⟩,.int .i64 0,.slice none 0 0,.slice ao len cap,.slice none 0 0] 48)) #[.slice none 0 0,.int .i64 0,.int .i64 0,.int .i64 0,.int .i64 0,.slice none 0 0,.slice none 0 0,.slice none 0 0,.string ⟨#[]⟩,.int .i64 0,.slice none 0 0,.slice none 0 0,.slice none 0 0] 48;rwa [yE] at this)
 have C0:=hide (l09Copy_new qo n c l ep nx _ (h.below hb0) hn hf)
 have HR:=hide hr
 have HT:=hide ht
 have HX:=hide hx
 have HLL:=hide (show la.length=len by rw [hr.1,ht.1])
 have HB0:=hide hb0
 have hz:((w.alloc (.cells #[.slice qo n c,.int .i64 0,.int .i64 ep,.int .i64 nx,.int .i64 ep,.slice none 0 0,.slice none 0 0,.slice none 0 0,.string ⟨#[]⟩,.int .i64 0,.slice none 0 0,.slice ao len cap,.slice none 0 0] 48)).alloc (.cells #[.slice none 0 0,.int .i64 0,.int .i64 0,.int .i64 0,.int .i64 0,.slice none 0 0,.slice none 0 0,.slice none 0 0,.string ⟨#[]⟩,.int .i64 0,.slice none 0 0,.slice none 0 0,.slice none 0 0] 48)).heap.size=w.heap.size+1+1:=by rw [yE,yE]
 clear h hn hf hb0 hr ht hx
 have p0:=(uH P0).at 0;have p1:=(uH P0).at 1;have p2:=(uH P0).at 2;have p3:=(uH P0).at 3;have p4:=(uH P0).at 4;have p5:=(uH P0).at 5;have p6:=(uH P0).at 6;have p7:=(uH P0).at 7;have p8:=(uH P0).at 8;have p9:=(uH P0).at 9;have p10:=(uH P0).at 10
 simp at p0 p1 p2 p3 p4 p5 p6 p7 p8 p9 p10
 go_enter Tryz.func42,Tryz.ntmps42
 go_wp2_with fail
 refine (uH C0).mono ?_
 rintro e w1 ⟨⟨qa,ql,qc,aa,al,ac,ma,ml,mc,ca,cl,cc⟩,rfl,hbr,hb⟩
 rw [hz] at hbr
 have hz1:w.heap.size+1+1≤w1.heap.size:=by have:=hb.size;omega
 have P1:=hide ((uH P0).below hb)
 have R1:=hide ((uH R0).below hb)
 have HB1:=hide (yB (uH HB0) hb)
 have BR1:=hide hbr
 clear p0 p1 p2 p3 p4 p5 p6 p7 p8 p9 p10 P0 R0 HB0 hb hbr hz C0
 go_upto_region 2 with fail
 have A1:=hide (yD w1 #[.slice qa ql qc,.int .i64 0,.int .i64 ep,.int .i64 nx,.int .i64 ep,.slice aa al ac,.slice ma ml mc,.slice ca cl cc,.string (bs []),.int .i64 0,.slice none 0 0,.slice none 0 0,.slice none 0 0] 48)
 have HK1:=hide (yA (yH _ w1) (.cells #[.slice qa ql qc,.int .i64 0,.int .i64 ep,.int .i64 nx,.int .i64 ep,.slice aa al ac,.slice ma ml mc,.slice ca cl cc,.string (bs []),.int .i64 0,.slice none 0 0,.slice none 0 0,.slice none 0 0] 48))
 have hw2:=yE w1 (.cells #[.slice qa ql qc,.int .i64 0,.int .i64 ep,.int .i64 nx,.int .i64 ep,.slice aa al ac,.slice ma ml mc,.slice ca cl cc,.string (bs []),.int .i64 0,.slice none 0 0,.slice none 0 0,.slice none 0 0] 48)
 obtain ⟨g3,hg3⟩:∃g,w1.heap.size=g:=⟨_,rfl⟩
 obtain ⟨w2,hw⟩:∃W,w1.alloc (.cells #[.slice qa ql qc,.int .i64 0,.int .i64 ep,.int .i64 nx,.int .i64 ep,.slice aa al ac,.slice ma ml mc,.slice ca cl cc,.string (bs []),.int .i64 0,.slice none 0 0,.slice none 0 0,.slice none 0 0] 48)=W:=⟨_,rfl⟩
 have HG3:=hide hg3
 rw [hw] at A1 HK1 hw2 ⊢
 rw [hg3] at A1 hw2 hz1 ⊢
 clear hw hg3
 go_wp2
 go_loopw [4,5] (fun i _ wr=>∃(k:Nat),k≤len∧i=.int .i64 k∧Hid (∃po pd ns,GOwn (g3+1) wr (.slice po k pd) ns∧ns.length=k∧Thin ns (la.take k)∧Blk wr g3 #[.slice qa ql qc,.int .i64 0,.int .i64 ep,.int .i64 nx,.int .i64 ep,.slice aa al ac,.slice ma ml mc,.slice ca cl cc,.string (bs []),.int .i64 0,.slice none 0 0,.slice po k pd,.slice none 0 0] 48)∧Hid (Below w1.heap.size w1 wr)) (fun i _ _=>len - (intOf i).toNat)
 case atStart=>exact ⟨0,Nat.zero_le _,rfl,hide ⟨none,0,[],gown_nil _ _,rfl,by simpa using Thin.nil,uH A1⟩,HK1⟩
 case round=>
  clear A1 HK1 hw2
  obtain ⟨k,hk,rfl,HC,HK⟩:=hrel
  obtain ⟨po,pd,ns,hgo,hns,hth,hbk⟩:=uH HC
  have PX:=hide ((uH P1).below (uH HK))
  have p11:=(uH PX).at 11
  have p12:=(uH PX).at 12
  have hlen0:Hid (hs.length=len):=hide (uH HR).1.symm
  simp at p11 p12
  by_cases hlt:k<len
  ·have hkh:k<hs.length:=by have:=uH hlen0;omega
   have hkl:k<la.length:=by have:=uH HLL;omega
   obtain ⟨b,off,rfl,hat⟩:=((uH HR).below (yB (uH HB1) (uH HK))).at hlt
   obtain ⟨c0,c1,c2,c3⟩:=hat hkh
   obtain ⟨e0,e1,e2,e3,e4⟩:=(uH HT).2 k hkh hkl
   have hxo:=(uH HX) _ (yM hkh)
   have HTN:=hide (fun co' cd'=>(uH HT).take hth hkh hkl co' cd')
   obtain ⟨⟨nm,me,cp,xo,xl,xc⟩,hm⟩:∃m,hs[k]=m:=⟨_,rfl⟩
   rw [hm] at c0 c1 c2 c3 e3 hxo HTN
   simp only at c0 c1 c2 c3 e3 hxo HTN
   subst e3
   have HXO:=hide hxo
   have HNS:=hide hns
   have HGO:=hide hgo
   have HBK:=hide hbk
   have k0:(0:Int)≤k:=by omega
   have k1:(k:Int)<len:=by omega
   have hgw:g3<wr.heap.size:=hbk.lt
   clear e0 e1 e2 e4 hat hm hkh hkl hxo hgo hns hth hbk HC hlen0
   go_upto_region 6 with fail
   have hb1:=yA (yH _ wr) (.cells #[.string (bs nm),.int .i64 me,.int .i64 cp,.slice xo 0 xc] 71)
   have XA:=hide (yD wr #[.string (bs nm),.int .i64 me,.int .i64 cp,.slice xo 0 xc] 71)
   have XO:=hide (show GOwn _ _ _ _ from gown_below (uH HGO) hb1)
   have XB:=hide ((uH HBK).below hb1)
   have XK:=hide (yB (uH HK) hb1)
   obtain ⟨ba,hba⟩:∃b,wr.heap.size=b:=⟨_,rfl⟩
   have HPLT:=hide (show ∀kk,(Value.slice po k pd).ownBlock=some kk→kk<ba from fun kk e=>by have:=(World.ownsRow.lt (uH HGO) kk e).2;omega)
   obtain ⟨W,hW⟩:∃W,wr.alloc (.cells #[.string (bs nm),.int .i64 me,.int .i64 cp,.slice xo 0 xc] 71)=W:=⟨_,rfl⟩
   rw [hW] at XA XO XB XK ⊢
   rw [hba] at XA hgw ⊢
   clear hW hba hb1 HGO HBK HK c0 c1 c2 c3 PX p11 p12
   have hb1:=yA (yH _ W) (.cells #[] 74)
   have hown:(W.alloc (.cells #[] 74)).ownsRow W.heap.size 74 5 (.slice (some ⟨W.heap.size,0,none⟩) 0 0) 0 []:=cown_empty W
   have xa3:=((uH XA).below hb1).at 3
   simp at xa3
   obtain ⟨i0,hi,hz0,hz1',hz2⟩:=info_parts Tryz.infoCont
   go_wp2_with (at_builtin;refine wpList_append_opt _ rfl _ _ 40 rfl W.heap.size 74 i0 (.agg #[.int .i64 0,.int .i64 0,.string ByteArray.empty,.int .i64 0,.int .i64 0]) 5 48 Tryz.underlying40 hi hz0 hz1' hz2 rfl (by decide) _ _ _ rfl hown xo 0 xc (ccells []) rfl (fun e=>absurd e (uH HXO)) rfl (fun ad _ j u hj=>by simp [ccells] at hj) (ccells_one []) ?c3 ?c4 ?c5 ?_)
   case c3=>unfold maxLen;omega
   case c4=>omega
   case c5=>simp
   intro v w4 hown' hgrow _
   have hbB:Below W.heap.size W w4:=hb1.grown hgrow (by simp) (fun k e=>by simp [Value.ownBlock] at e;omega)
   have hoo:COwn W.heap.size w4 v []:=by unfold COwn;simpa using hown'
   obtain ⟨co,cd,rfl,_,_⟩:=cown_has hoo
   have YA:=hide ((uH XA).below hbB)
   have YO:=hide (show GOwn _ _ _ _ from gown_below (uH XO) hbB)
   have YB:=hide ((uH XB).below hbB)
   have YK:=hide (yB (uH XK) hbB)
   have ya3:=(uH YA).at 3
   have yf3:=(uH YA).f 3
   simp at ya3
   clear hown' hgrow hown xa3 hoo hb1 hbB hi hz0 hz1' hz2 XA XO XB XK HXO
   go_upto_region 7 with fail
   have VA:=hide (show Blk (w4.setCell ⟨ba,3,none⟩ (.slice co 0 cd)) ba #[.string (bs nm),.int .i64 me,.int .i64 cp,.slice co 0 cd] 71 from (uH YA).set 3 _)
   have VO:=hide (show GOwn (g3+1) (w4.setCell ⟨ba,3,none⟩ (.slice co 0 cd)) (.slice po k pd) ns from ownsRow_setCell_other (uH YO) (a:=⟨ba,3,none⟩) (fun e=>by have:=uH HPLT ba e;omega) _)
   have VB:=hide ((uH YB).other ba 3 (.slice co 0 cd) (by omega))
   have VK:=hide (yC (uH YK) ba 3 (.slice co 0 cd) (by have:=uH HG3;omega))
   generalize w4.setCell ⟨ba,3,none⟩ (.slice co 0 cd)=w5 at VA VO VB VK ⊢
   clear ya3 yf3 YA YO YB YK HPLT i0
   have hb2:=yA (yH _ w5) (.cells #[.string (bs nm),.int .i64 me,.int .i64 cp,.slice co 0 cd] 71)
   have g11:=(uH VB).at 11
   have q0:=(uH VA).at 0
   have q1:=(uH VA).at 1
   have q2:=(uH VA).at 2
   have q3:=(uH VA).at 3
   simp at g11 q0 q1 q2 q3
   have hown:w5.ownsRow (g3+1) 71 4 (.slice po k pd) k (gcells ns):=by have:=uH VO;unfold GOwn at this;rwa [uH HNS] at this
   have HOW:=hide hown
   obtain ⟨i0,hi,hz0,hz1',hz2⟩:=info_parts Tryz.infoAgent
   go_wp2_with (at_builtin;refine wpList_append_own _ rfl _ _ 46 rfl (g3+1) 71 i0 (.agg #[.string ByteArray.empty,.int .i64 0,.int .i64 0,.slice none 0 0]) 4 56 Tryz.underlying46 hi hz0 hz1' hz2 rfl (by decide) _ _ _ rfl (hown.alloc _) ⟨w5.heap.size,0,none⟩ 1 1 (gcell ⟨nm,me,cp,co,0,cd⟩) rfl rfl ?c1 ?c2 ?c3 ?c4 ?c5 ?_)
   case c1=>exact World.news_of_block (yD w5 #[.string (bs nm),.int .i64 me,.int .i64 cp,.slice co 0 cd] 71)
   case c2=>intro u hu;simp at hu;rcases hu with rfl | rfl | rfl | rfl<;>rfl
   case c3=>unfold maxLen;omega
   case c4=>omega
   case c5=>have hva:=(uH VA).lt;simp;omega
   intro v' w6 hown' hgrow _
   obtain ⟨ng,ncap,rfl,_,_⟩:=World.ownsRow.form hown' (by omega)
   have hr2:∀kk,(Value.slice po k pd).ownBlock=some kk→g3<kk∧∃N,Cel (w5.alloc (.cells #[.string (bs nm),.int .i64 me,.int .i64 cp,.slice co 0 cd] 71)) 71 kk N:=fun kk e=>by
    have h1:=(World.ownsRow.lt (uH HOW) kk e).1
    obtain ⟨N,hc⟩:=owns_cel (uH HOW) kk e
    exact ⟨by omega,N,hc.below hb2⟩
   have UB:=hide (((uH VB).below hb2).grown hgrow (fun kk e=>(hr2 kk e).2) (by decide))
   have UK:=hide ((yB (uH VK) hb2).grown hgrow (yB (uH VK) hb2).size (fun kk e=>by have:=(hr2 kk e).1;have:=uH HG3;omega))
   have UO:=hide (show GOwn (g3+1) w6 (.slice (some ⟨ng,0,none⟩) (k+1) ncap) (ns++[⟨nm,me,cp,co,0,cd⟩]) by
    unfold GOwn
    rw [gcells_app,List.length_append,uH HNS]
    exact hown')
   have d11:=(uH UB).at 11
   have f11:=(uH UB).f 11
   simp at d11
   clear hown hown' hgrow hr2 hb2 g11 q0 q1 q2 q3 HOW VA VO VB VK hi hz0 hz1' hz2
   go_wp2
   go_roundw
   case rel=>
    exact ⟨k+1,by omega,by go_num,hide ⟨some ⟨ng,0,none⟩,ncap,ns++[⟨nm,me,cp,co,0,cd⟩],gown_other (uH UO) _ _ _ (by omega),by simp [uH HNS],uH HTN co cd,(uH UB).set 11 _⟩,hide (yC (uH UK) _ _ _ (by have:=uH HG3;omega))⟩
   case measure=>simp [intOf];omega
  ·obtain rfl:k=len:=by omega
   have htk:la.take k=la:=List.take_of_length_le (by have:=uH HLL;omega)
   rw [htk] at hth
   obtain ⟨_,_,e,hro⟩:=gown_has hgo
   rw [hns] at hro e
   cases e
   have AG:=hide (hth.row hro.1)
   have GH:=hide hro
   have TH:=hide hth
   have A5:=hide hbk
   have R5:=hide ((uH R1).below (uH HK))
   have HB5:=hide (yB (uH HB1) (uH HK))
   have BR5:=hide ((uH BR1).below (uH HK))
   have k1:¬(k:Int)<k:=by omega
   have hgw:g3<wr.heap.size:=hbk.lt
   clear hgo hns hth hbk HC hlt htk hro P1 R1 HB1 BR1 AG
   go_wp2
   clear p11
   go_loopw [6] (fun i wx=>i=.int .i64 0∧wx=wr) (fun _ _=>0)
   case atStart=>exact ⟨rfl,rfl⟩
   case round=>
    obtain ⟨rfl,hwr⟩:=hrel
    subst hwr
    go_upto_region 12 with fail
    refine wp_region_lit ?_
    refine wpList_same (v:=.agg #[.slice qa ql qc,.int .i64 0,.int .i64 ep,.int .i64 nx,.int .i64 ep,.slice aa al ac,.slice ma ml mc,.slice ca cl cc,.string (bs []),.int .i64 0,.slice none 0 0,.slice po k pd,.slice none 0 0]) rfl rfl (run_v (ns_load 48 (uH A5) Tryz.underlying48 rfl (by kernel_rfl))) ?_
    try simp only [zW]
    refine wpList_none (d:=none) rfl rfl (run_u (ns_store 48 (uH R5) (by kernel_rfl) rfl (by kernel_rfl))) ?_
    simp only [Act.put]
    have MM:=ns_mks (uH R5) #[.slice qa ql qc,.int .i64 0,.int .i64 ep,.int .i64 nx,.int .i64 ep,.slice aa al ac,.slice ma ml mc,.slice ca cl cc,.string (bs []),.int .i64 0,.slice none 0 0,.slice po k pd,.slice none 0 0] rfl
    have hh:=fun (W:World)=>hi_row W (w.heap.size+1) #[.slice qa ql qc,.int .i64 0,.int .i64 ep,.int .i64 nx,.int .i64 ep,.slice aa al ac,.slice ma ml mc,.slice ca cl cc,.string (bs []),.int .i64 0,.slice none 0 0,.slice po k pd,.slice none 0 0]
    have BR6:=hide ((uH BR5).hi (hh _) (by omega))
    have GH6:=hide ((uH GH).hi (hh _) (by omega))
    have R6:=hide (ns_blk (uH R5) #[.slice qa ql qc,.int .i64 0,.int .i64 ep,.int .i64 nx,.int .i64 ep,.slice aa al ac,.slice ma ml mc,.slice ca cl cc,.string (bs []),.int .i64 0,.slice none 0 0,.slice po k pd,.slice none 0 0])
    have HB6:=hide ((uH HB5).trans (MM.below (fun k e=>by subst e;omega) (uH HB5).size))
    clear MM A5 R5 HB5 BR5 GH hh p12 PX
    generalize World.setRow _ (w.heap.size+1) #[.slice qa ql qc,.int .i64 0,.int .i64 ep,.int .i64 nx,.int .i64 ep,.slice aa al ac,.slice ma ml mc,.slice ca cl cc,.string (bs []),.int .i64 0,.slice none 0 0,.slice po k pd,.slice none 0 0]=w6 at R6 HB6 BR6 GH6 ⊢
    have r0:=(uH R6).at 0;have r1:=(uH R6).at 1;have r2:=(uH R6).at 2;have r3:=(uH R6).at 3;have r4:=(uH R6).at 4;have r5:=(uH R6).at 5;have r6:=(uH R6).at 6;have r7:=(uH R6).at 7;have r8:=(uH R6).at 8;have r9:=(uH R6).at 9;have r10:=(uH R6).at 10;have r11:=(uH R6).at 11;have r12:=(uH R6).at 12
    simp at r0 r1 r2 r3 r4 r5 r6 r7 r8 r9 r10 r11 r12
    have HE:=hide (show CpcAns w l ep nx la (.returned (.agg #[.slice qa ql qc,.int .i64 0,.int .i64 ep,.int .i64 nx,.int .i64 ep,.slice aa al ac,.slice ma ml mc,.slice ca cl cc,.string (bs []),.int .i64 0,.slice none 0 0,.slice po k pd,.slice none 0 0])) w6 from ⟨⟨qa,ql,qc,aa,al,ac,ma,ml,mc,ca,cl,cc⟩,po,pd,ns,by rw [uH HLL],(uH BR6).base (by omega),by rw [uH HLL];exact (uH GH6).base (by omega),uH TH,uH HB6⟩)
    clear R6 HB6 BR6 GH6
    go_wp2
    exact bodyPost_ret (v:=.agg #[.slice qa ql qc,.int .i64 0,.int .i64 ep,.int .i64 nx,.int .i64 ep,.slice aa al ac,.slice ma ml mc,.slice ca cl cc,.string (bs []),.int .i64 0,.slice none 0 0,.slice po k pd,.slice none 0 0]) (by simp [results,Tryz.results42,go_sem,r0,r1,r2,r3,r4,r5,r6,r7,r8,r9,r10,r11,r12]) rfl (uH HE)
theorem qown_none {B n c:Nat} {w:World} {qo:Option Addr} {l:List Q} (h:QOwn B w (.slice qo n c) l):qo=none→n=0∧c=0:=by
 intro e
 rcases h.2 with ⟨e2,_⟩ | ⟨g,cap,cur,e2,_⟩
 ·cases e2;exact ⟨rfl,rfl⟩
 ·rw [e] at e2;cases e2
theorem AgtBlk.thin {w:World} {t:TypeId} {g n:Nat} {l:List Agt} (h:AgtBlk w t g n n l) (hn:n=l.length) (hc:∀q ∈ l,q.cs=[]):∃hs,AHRow w (some ⟨g,0,none⟩) n hs∧Thin hs l∧∀v ∈ hs,v.ao≠none:=by
 obtain ⟨hs,h1,h2⟩:=(h.row hn).thin hc
 refine ⟨hs,h1,h2,fun v hv e=>?_⟩
 obtain ⟨i,hi,rfl⟩:=List.getElem_of_mem hv
 have hil:i<l.length:=by rw [←h2.1];exact hi
 obtain ⟨arr,a1,a2,a3⟩:=h
 obtain ⟨_,_,_,xo,xl,xc,t0,o0⟩:=a3 i hil (by omega)
 obtain ⟨b,off,e1,hat⟩:=h1.at (show i<n by omega)
 cases e1
 obtain ⟨_,_,_,c3⟩:=hat hi
 rw [Nat.zero_add] at c3
 rw [show w.cell? ⟨g,i*4+3,none⟩=some (.slice xo xl xc) by simp [World.cell?,a1,t0]] at c3
 obtain ⟨bb,e4,_⟩:=o0.2.2
 rw [e4] at c3
 simp only [Option.some.injEq,Value.slice.injEq] at c3
 rw [e] at c3
 exact absurd c3.1 (by simp)
theorem zero_row (w:World):CRow w ⟨⟨⟨none,0,0,none,0,0,none,0,0,none,0,0⟩,none,0,0⟩,none,0,0,none,0,0⟩ ⟨⟨newSt [] 0 0 0,[],0,[]⟩,[],[]⟩:=
 ⟨⟨⟨⟨rfl,.inl rfl⟩,⟨rfl,.inl rfl⟩,⟨rfl,.inl rfl⟩,⟨rfl,.inl rfl⟩⟩,⟨rfl,.inl rfl⟩⟩,⟨rfl,.inl rfl⟩,⟨rfl,.inl rfl⟩⟩
def SpAns (w:World) (lq:List Q) (la:List Agt) (e:Ending) (w':World):Prop:=∃x go gc,e=.returned (.tuple #[.agg (cluc ⟨⟨x,none,0,0⟩,go,(cluN lq la).ags.length,gc,none,0,0⟩ (cluN lq la)),.bool (clOk lq la)])∧CRow w' ⟨⟨x,none,0,0⟩,go,(cluN lq la).ags.length,gc,none,0,0⟩ (cluN lq la)∧Below w.heap.size w w'
theorem specClusterNew_any (v:Value) (lq:List Q) (g len:Nat) (la:List Agt) (w:World) (h:AgtBlk w 71 g len len la) (hll:len=la.length) (hl:len≤1048576) (hk:∀q ∈ la,q.name.length≤1048576) (hq:queuesOk lq=true→FitQ lq)
  (CO:∀wx,Below w.heap.size w wx→Calls Tryz.prog 39 #[v] wx (MgAns wx lq)) :
  Calls Tryz.prog 16 #[v,.slice (some ⟨g,0,none⟩) len len] w (SpAns w lq la):=by
 have hb0:=yA (yH _ w) (.cells #[.slice none 0 0,.int .i64 0,.int .i64 0,.int .i64 0,.int .i64 0,.slice none 0 0,.slice none 0 0,.slice none 0 0,.string ⟨#[]⟩,.int .i64 0,.slice none 0 0,.slice none 0 0,.slice none 0 0] 48)
 have P0:=hide (yD w #[.slice none 0 0,.int .i64 0,.int .i64 0,.int .i64 0,.int .i64 0,.slice none 0 0,.slice none 0 0,.slice none 0 0,.string ⟨#[]⟩,.int .i64 0,.slice none 0 0,.slice none 0 0,.slice none 0 0] 48)
 have C0:=hide (CO _ hb0)
 have HB0:=hide hb0
 have HR:=hide (h.row hll)
 have HL:=hide hll
 have HFM:=hide hk
 have HTH:=hide (fun (he:agsFrom [] la=true)=>h.thin hll (agsFrom_none he))
 have HFQ:=hide (show FitQ (qlN lq) by
  unfold qlN
  split
  ·rename_i e;exact hq e
  ·exact ⟨by simp,by simp⟩)
 obtain ⟨o,ho⟩:∃b,(queuesOk lq&&agsFrom [] la)=b:=⟨_,rfl⟩
 have HNO:=hide (fun (hh:(o&&decide (len≤20))=false)=>show clOk lq la=false∧cluN lq la=⟨⟨newSt [] 0 0 0,[],0,[]⟩,[],[]⟩ by
  have:clOk lq la=false:=by rw [clOk,agsOk,←hll,Bool.and_comm (decide _),←Bool.and_assoc,ho,hh]
  exact ⟨this,by rw [cluN,this];rfl⟩)
 have HYES:=hide (fun (hh:(o&&decide (len≤20))=true)=>show clOk lq la=true∧cluN lq la=⟨⟨newSt (qlN lq) (epN lq) (nxN lq) (epN lq),[],0,[]⟩,la,[]⟩ by
  have:clOk lq la=true:=by rw [clOk,agsOk,←hll,Bool.and_comm (decide _),←Bool.and_assoc,ho,hh]
  exact ⟨this,by rw [cluN,this];rfl⟩)
 have HAF:=hide (fun (hh:o=true)=>show agsFrom [] la=true by rw [hh] at ho;exact (by simpa using ho:_∧_).2)
 obtain ⟨b1,e1⟩:∃b,queuesOk lq=b:=⟨_,rfl⟩
 have HO0:=hide (show o=(b1&&agsFrom [] (la.drop 0)) by rw [←ho,e1];rfl)
 unfold MgAns at C0
 rw [e1] at C0
 obtain ⟨ql,hql⟩:∃q,qlN lq=q:=⟨_,rfl⟩
 obtain ⟨ep,hep⟩:∃q,epN lq=q:=⟨_,rfl⟩
 obtain ⟨nx,hnx⟩:∃q,nxN lq=q:=⟨_,rfl⟩
 rw [hql,hep,hnx] at C0 HYES
 rw [hql] at HFQ
 clear h hk CO hb0 e1 hql hep hnx hq ho hll
 go_enter Tryz.func16,Tryz.ntmps16
 go_wp2_with fail
 refine (uH C0).mono ?_
 rintro e w1 ⟨qo,n,c,rfl,hn,hown,hb⟩
 have hbm:=yA (yH _ w1) (.cells (mgc qo n c ep nx) 45)
 have P1:=hide (((uH P0).below hb).below hbm)
 have HB1:=hide (yB (yB (uH HB0) hb) hbm)
 have PM:=hide (yD w1 (mgc qo n c ep nx) 45)
 have HQR:=hide (show QRow (w1.alloc (.cells (mgc qo n c ep nx) 45)) qo n ql from by
  obtain ⟨_,_,e,hr,_⟩:=qown_rowx (hown.below hbm)
  cases e
  rw [hn]
  exact hr)
 have HQN:=hide (qown_none hown)
 clear C0 HB0 P0 hb hown hn
 go_upto_region 2 with fail
 obtain ⟨W0,hW0⟩:∃W,w1.alloc (.cells (mgc qo n c ep nx) 45)=W:=⟨_,rfl⟩
 obtain ⟨g1,hg1⟩:∃g,w1.heap.size=g:=⟨_,rfl⟩
 rw [hW0] at P1 HB1 PM HQR ⊢
 rw [hg1] at PM ⊢
 clear hW0 hg1 hbm
 go_wp2
 go_loopw [7,8,9] (fun okv i _ wr=>∃(k:Nat) (ok:Bool) (last:List UInt8),k≤len∧i=.int .i64 k∧okv=.bool ok∧Hid (o=(ok&&agsFrom last (la.drop k)))∧Hid ((k=0→last=[])∧∀(k':Nat) (hk':k'<la.length),k=k'+1→last=la[k'].name)∧Hid (Kp W0 wr)) (fun _ i _ _=>len - (intOf i).toNat)
 case atStart=>exact ⟨0,b1,[],Nat.zero_le _,rfl,rfl,HO0,hide ⟨fun _=>rfl,fun k' _ e=>by omega⟩,hide (Kp.new W0)⟩
 case round=>
  obtain ⟨k,ok,last,hk,rfl,rfl,HO,HLA,HK⟩:=hrel
  clear HO0
  have KW:=hide (show Kp w wr from yB (uH HB1) (uH HK))
  by_cases hlt:k<len
  case neg=>
   obtain rfl:k=len:=by omega
   have HOK:=hide (show o=ok by rw [uH HO,agsFrom_end (by have:=uH HL;omega),Bool.and_true])
   have k1:¬(k:Int)<k:=by omega
   have P5:=hide ((uH P1).below (uH HK))
   have HB5:=hide (yB (uH HB1) (uH HK))
   have PM5:=hide ((uH PM).below (uH HK))
   have HQ5:=hide ((uH HQR).below (uH HK))
   have HKX:=HK
   clear HO HLA P1 HB1 PM HQR HK HR HFM
   cases ok
   case false=>
    have HEQ:(o&&decide (k≤20))=false:=by rw [uH HOK];rfl
    go_upto_region 9 with fail
    refine wp_region_lit ?_
    refine wpList_same (v:=.agg #[.slice none 0 0,.int .i64 0,.int .i64 0,.int .i64 0,.int .i64 0,.slice none 0 0,.slice none 0 0,.slice none 0 0,.string ⟨#[]⟩,.int .i64 0,.slice none 0 0,.slice none 0 0,.slice none 0 0]) rfl rfl (by go_simp;try with_reducible rfl) ?_
    try simp only [zW]
    refine wpList_none (d:=none) rfl rfl (run_u (ns_store 48 (uH P5) (by kernel_rfl) rfl (by kernel_rfl))) ?_
    simp only [Act.put]
    have MM:=ns_mks (uH P5) #[.slice none 0 0,.int .i64 0,.int .i64 0,.int .i64 0,.int .i64 0,.slice none 0 0,.slice none 0 0,.slice none 0 0,.string ⟨#[]⟩,.int .i64 0,.slice none 0 0,.slice none 0 0,.slice none 0 0] rfl
    have R5:=hide (ns_blk (uH P5) #[.slice none 0 0,.int .i64 0,.int .i64 0,.int .i64 0,.int .i64 0,.slice none 0 0,.slice none 0 0,.slice none 0 0,.string ⟨#[]⟩,.int .i64 0,.slice none 0 0,.slice none 0 0,.slice none 0 0])
    have HB6:=hide ((uH HB5).trans (MM.below (fun k e=>by subst e;omega) (uH HB5).size))
    clear MM P5 HB5
    generalize World.setRow _ w.heap.size #[.slice none 0 0,.int .i64 0,.int .i64 0,.int .i64 0,.int .i64 0,.slice none 0 0,.slice none 0 0,.slice none 0 0,.string ⟨#[]⟩,.int .i64 0,.slice none 0 0,.slice none 0 0,.slice none 0 0]=w6 at R5 HB6 ⊢
    have r0:=(uH R5).at 0;have r1:=(uH R5).at 1;have r2:=(uH R5).at 2;have r3:=(uH R5).at 3;have r4:=(uH R5).at 4;have r5:=(uH R5).at 5;have r6:=(uH R5).at 6;have r7:=(uH R5).at 7;have r8:=(uH R5).at 8;have r9:=(uH R5).at 9;have r10:=(uH R5).at 10;have r11:=(uH R5).at 11;have r12:=(uH R5).at 12
    simp at r0 r1 r2 r3 r4 r5 r6 r7 r8 r9 r10 r11 r12
    obtain ⟨f1,f2⟩:=uH HNO HEQ
    clear R5 HNO HYES
    have HE:=hide (show SpAns w lq la (.returned (.tuple #[.agg #[.slice none 0 0,.int .i64 0,.int .i64 0,.int .i64 0,.int .i64 0,.slice none 0 0,.slice none 0 0,.slice none 0 0,.string ⟨#[]⟩,.int .i64 0,.slice none 0 0,.slice none 0 0,.slice none 0 0],.bool false])) w6 from ⟨⟨none,0,0,none,0,0,none,0,0,none,0,0⟩,none,0,by rw [f1,f2];rfl,by rw [f2];exact zero_row _,uH HB6⟩)
    go_wp2
    exact bodyPost_ret (v:=.tuple #[.agg #[.slice none 0 0,.int .i64 0,.int .i64 0,.int .i64 0,.int .i64 0,.slice none 0 0,.slice none 0 0,.slice none 0 0,.string ⟨#[]⟩,.int .i64 0,.slice none 0 0,.slice none 0 0,.slice none 0 0],.bool false]) (by simp [results,Tryz.results16,go_sem,r0,r1,r2,r3,r4,r5,r6,r7,r8,r9,r10,r11,r12]) rfl (uH HE)
   case true=>
    by_cases h20:k≤20
    case neg=>
     have HEQ:(o&&decide (k≤20))=false:=by rw [decide_eq_false h20,Bool.and_false]
     have h20i:(20:Int)<k:=by omega
     go_upto_region 9 with fail
     refine wp_region_lit ?_
     refine wpList_same (v:=.agg #[.slice none 0 0,.int .i64 0,.int .i64 0,.int .i64 0,.int .i64 0,.slice none 0 0,.slice none 0 0,.slice none 0 0,.string ⟨#[]⟩,.int .i64 0,.slice none 0 0,.slice none 0 0,.slice none 0 0]) rfl rfl (by go_simp;try with_reducible rfl) ?_
     try simp only [zW]
     refine wpList_none (d:=none) rfl rfl (run_u (ns_store 48 (uH P5) (by kernel_rfl) rfl (by kernel_rfl))) ?_
     simp only [Act.put]
     have MM:=ns_mks (uH P5) #[.slice none 0 0,.int .i64 0,.int .i64 0,.int .i64 0,.int .i64 0,.slice none 0 0,.slice none 0 0,.slice none 0 0,.string ⟨#[]⟩,.int .i64 0,.slice none 0 0,.slice none 0 0,.slice none 0 0] rfl
     have R5:=hide (ns_blk (uH P5) #[.slice none 0 0,.int .i64 0,.int .i64 0,.int .i64 0,.int .i64 0,.slice none 0 0,.slice none 0 0,.slice none 0 0,.string ⟨#[]⟩,.int .i64 0,.slice none 0 0,.slice none 0 0,.slice none 0 0])
     have HB6:=hide ((uH HB5).trans (MM.below (fun k e=>by subst e;omega) (uH HB5).size))
     clear MM P5 HB5
     generalize World.setRow _ w.heap.size #[.slice none 0 0,.int .i64 0,.int .i64 0,.int .i64 0,.int .i64 0,.slice none 0 0,.slice none 0 0,.slice none 0 0,.string ⟨#[]⟩,.int .i64 0,.slice none 0 0,.slice none 0 0,.slice none 0 0]=w6 at R5 HB6 ⊢
     have r0:=(uH R5).at 0;have r1:=(uH R5).at 1;have r2:=(uH R5).at 2;have r3:=(uH R5).at 3;have r4:=(uH R5).at 4;have r5:=(uH R5).at 5;have r6:=(uH R5).at 6;have r7:=(uH R5).at 7;have r8:=(uH R5).at 8;have r9:=(uH R5).at 9;have r10:=(uH R5).at 10;have r11:=(uH R5).at 11;have r12:=(uH R5).at 12
     simp at r0 r1 r2 r3 r4 r5 r6 r7 r8 r9 r10 r11 r12
     obtain ⟨f1,f2⟩:=uH HNO HEQ
     clear R5 HNO HYES
     have HE:=hide (show SpAns w lq la (.returned (.tuple #[.agg #[.slice none 0 0,.int .i64 0,.int .i64 0,.int .i64 0,.int .i64 0,.slice none 0 0,.slice none 0 0,.slice none 0 0,.string ⟨#[]⟩,.int .i64 0,.slice none 0 0,.slice none 0 0,.slice none 0 0],.bool false])) w6 from ⟨⟨none,0,0,none,0,0,none,0,0,none,0,0⟩,none,0,by rw [f1,f2];rfl,by rw [f2];exact zero_row _,uH HB6⟩)
     go_wp2
     exact bodyPost_ret (v:=.tuple #[.agg #[.slice none 0 0,.int .i64 0,.int .i64 0,.int .i64 0,.int .i64 0,.slice none 0 0,.slice none 0 0,.slice none 0 0,.string ⟨#[]⟩,.int .i64 0,.slice none 0 0,.slice none 0 0,.slice none 0 0],.bool false]) (by simp [results,Tryz.results16,go_sem,r0,r1,r2,r3,r4,r5,r6,r7,r8,r9,r10,r11,r12]) rfl (uH HE)
    have HEQ:(o&&decide (k≤20))=true:=by rw [decide_eq_true h20,uH HOK];rfl
    have h20i:¬(20:Int)<k:=by omega
    obtain ⟨hs,hr,ht,hxs⟩:=uH HTH (uH HAF (uH HOK))
    have CP:=hide (l10Copy_new qo n c ql ep nx (some ⟨g,0,none⟩) k k hs la wr (uH HQ5) (uH HQN) (uH HFQ) (hr.below (uH KW)) ht hl hxs)
    clear hr ht hxs HQ5 HQN HFQ HTH HAF HKX KW
    go_upto_region 10 with fail
    refine wp_region_lit ?_
    refine wpList_same (v:=.agg (mgc qo n c ep nx)) (d:=some 64) rfl rfl (run_v (ns_load 45 (uH PM5) Tryz.underlying45 rfl (by kernel_rfl))) ?_
    try simp only [zW]
    refine wpList_same (v:=.slice (some ⟨g,0,none⟩) k k) (d:=some 65) rfl rfl rfl ?_
    try simp only [zW]
    refine wpList_same (v:=.agg #[.slice qo n c,.int .i64 0,.int .i64 ep,.int .i64 nx,.int .i64 ep,.slice none 0 0,.slice none 0 0,.slice none 0 0,.string ⟨#[]⟩,.int .i64 0,.slice none 0 0,.slice (some ⟨g,0,none⟩) k k,.slice none 0 0]) (d:=some 66) rfl rfl (by go_simp;try with_reducible rfl) ?_
    try simp only [zW]
    refine wpList_plain rfl (fun K hK=>?_)
    go_simp
    refine (uH CP).mono ?_
    rintro e w5 ⟨⟨qa,ql',qc,aa,al,ac,ma,ml,mc,ca,cl,cc⟩,go,gc,hs',rfl,hbr,hag,hth,hb⟩
    refine hK _ _ ?_
    clear hK K
    try simp only [zW]
    have P6:=hide ((uH P5).below hb)
    have HB6:=hide (yB (uH HB5) hb)
    have hlt5:=(uH P5).lt
    have BR:=hide hbr
    have AG:=hide hag
    have TH:=hide hth
    clear hbr hag hth hb P5 HB5 PM5
    refine wpList_none (d:=none) rfl rfl (run_u (ns_store 48 (uH P6) (by kernel_rfl) rfl (by kernel_rfl))) ?_
    simp only [Act.put]
    have MM:=ns_mks (uH P6) #[.slice qa ql' qc,.int .i64 0,.int .i64 ep,.int .i64 nx,.int .i64 ep,.slice aa al ac,.slice ma ml mc,.slice ca cl cc,.string (bs []),.int .i64 0,.slice none 0 0,.slice go la.length gc,.slice none 0 0] rfl
    have hh:=fun (W:World)=>hi_row W w.heap.size #[.slice qa ql' qc,.int .i64 0,.int .i64 ep,.int .i64 nx,.int .i64 ep,.slice aa al ac,.slice ma ml mc,.slice ca cl cc,.string (bs []),.int .i64 0,.slice none 0 0,.slice go la.length gc,.slice none 0 0]
    have R5:=hide (ns_blk (uH P6) #[.slice qa ql' qc,.int .i64 0,.int .i64 ep,.int .i64 nx,.int .i64 ep,.slice aa al ac,.slice ma ml mc,.slice ca cl cc,.string (bs []),.int .i64 0,.slice none 0 0,.slice go la.length gc,.slice none 0 0])
    have HB7:=hide ((uH HB6).trans (MM.below (fun k e=>by subst e;omega) (uH HB6).size))
    have BR7:=hide ((uH BR).hi (hh _) (by omega))
    have AG7:=hide ((uH AG).hi (hh _) (by omega))
    clear MM hh P6 HB6 BR AG CP
    generalize World.setRow _ w.heap.size #[.slice qa ql' qc,.int .i64 0,.int .i64 ep,.int .i64 nx,.int .i64 ep,.slice aa al ac,.slice ma ml mc,.slice ca cl cc,.string (bs []),.int .i64 0,.slice none 0 0,.slice go la.length gc,.slice none 0 0]=w6 at R5 HB7 BR7 AG7 ⊢
    have r0:=(uH R5).at 0;have r1:=(uH R5).at 1;have r2:=(uH R5).at 2;have r3:=(uH R5).at 3;have r4:=(uH R5).at 4;have r5:=(uH R5).at 5;have r6:=(uH R5).at 6;have r7:=(uH R5).at 7;have r8:=(uH R5).at 8;have r9:=(uH R5).at 9;have r10:=(uH R5).at 10;have r11:=(uH R5).at 11;have r12:=(uH R5).at 12
    simp at r0 r1 r2 r3 r4 r5 r6 r7 r8 r9 r10 r11 r12
    obtain ⟨f1,f2⟩:=uH HYES HEQ
    clear R5 HNO HYES
    have HE:=hide (show SpAns w lq la (.returned (.tuple #[.agg #[.slice qa ql' qc,.int .i64 0,.int .i64 ep,.int .i64 nx,.int .i64 ep,.slice aa al ac,.slice ma ml mc,.slice ca cl cc,.string (bs []),.int .i64 0,.slice none 0 0,.slice go la.length gc,.slice none 0 0],.bool true])) w6 from ⟨⟨qa,ql',qc,aa,al,ac,ma,ml,mc,ca,cl,cc⟩,go,gc,by rw [f1,f2],by rw [f2];exact ⟨⟨(uH BR7).row ep nx ep,⟨rfl,.inl rfl⟩⟩,(uH TH).row (uH AG7).1,⟨rfl,.inl rfl⟩⟩,uH HB7⟩)
    go_wp2
    exact bodyPost_ret (v:=.tuple #[.agg #[.slice qa ql' qc,.int .i64 0,.int .i64 ep,.int .i64 nx,.int .i64 ep,.slice aa al ac,.slice ma ml mc,.slice ca cl cc,.string (bs []),.int .i64 0,.slice none 0 0,.slice go la.length gc,.slice none 0 0],.bool true]) (by simp [results,Tryz.results16,go_sem,r0,r1,r2,r3,r4,r5,r6,r7,r8,r9,r10,r11,r12]) rfl (uH HE)
  have hkl:k<la.length:=by have:=uH HL;omega
  obtain ⟨b,off,eb,hq⟩:=(uH HR).at hlt
  cases eb
  have hst:=agsFrom_step (last:=last) (l:=la) (k:=k) hkl
  have hfa:=(uH HFM) _ (yM hkl)
  obtain ⟨xo,xl,xc,c0,c1,c2,c3,hr⟩:=hq hkl
  have hxl:=hr.1
  rw [Nat.zero_add] at c0 c1 c2 c3
  replace c0:=(uH KW).cell c0
  replace c1:=(uH KW).cell c1
  replace c2:=(uH KW).cell c2
  replace c3:=(uH KW).cell c3
  have HPV0:=hide (fun (k':Nat) (e:k=k'+1)=>show wr.cell? ⟨g,k'*4,none⟩=some (.string (bs last)) by
   have hk'':k'<la.length:=by omega
   obtain ⟨b',off',eb,hq'⟩:=(uH HR).at (show k'<len by omega)
   cases eb
   obtain ⟨_,_,_,d0,_⟩:=hq' hk''
   rw [Nat.zero_add] at d0
   rw [(uH HLA).2 k' hk'' e]
   exact (uH KW).cell d0)
  obtain ⟨⟨nm,me,cp,cs⟩,hs⟩:∃s,la[k]=s:=⟨_,rfl⟩
  have HNX:=hide (show ∀(k':Nat) (hk':k'<la.length),k+1=k'+1→nm=la[k'].name from fun k' hk' e=>by
   have:k=k':=by omega
   subst this
   rw [hs])
  rw [hs] at c0 c1 c2 hst hfa hxl
  simp only at c0 c1 c2 hst hfa hxl
  have k0:(0:Int)≤k:=by omega
  have k1:(k:Int)<len:=by omega
  obtain ⟨no,hno⟩:∃b,nameOk nm=b:=⟨_,rfl⟩
  have CN:=hide (fun wx=>by have:=specNameOk_any (bs nm) wx (by rw [bs_size];exact hfa);rw [show nameOk (bs nm).data.toList=no by rw [←hno];simp [bs]] at this;exact this)
  obtain ⟨ro,hro⟩:∃b,resOk me cp=b:=⟨_,rfl⟩
  have CR:=hide (fun wx=>by have:=specOk_bel me cp wx;rw [hro] at this;exact this)
  have hlz2:k=0→no=true→leT nm last=false:=fun e e2=>by rw [(uH HLA).1 e];exact leT_nil (by rw [hno];exact e2)
  obtain ⟨l1,hl1⟩:∃b,Op.bytesLess (bs nm).toList (bs last).toList=b:=⟨_,rfl⟩
  obtain ⟨l2,hl2⟩:∃b,((bs nm).toList==(bs last).toList)=b:=⟨_,rfl⟩
  rw [show leT nm last=(l1||l2) by rw [leT,hl1,hl2]] at hst hlz2
  have HLZ2:=hide hlz2
  have HO2:=hide (show o=(ok&&(!(l1||l2)&&(no&&(ro&&(decide (xl=0)&&agsFrom nm (la.drop (k+1))))))) by rw [uH HO,hst,hno,hro,hxl])
  clear hq hs hkl hfa hst hno hro HO hxl hr hlz2 HTH HAF HQR HQN HFQ HNO HYES HFM HR
  have hba:=yA (yH _ wr) (.cells #[.string (bs nm),.int .i64 me,.int .i64 cp,.slice xo xl xc] 71)
  have P6:=hide (yD wr #[.string (bs nm),.int .i64 me,.int .i64 cp,.slice xo xl xc] 71)
  have HK6:=hide (show Kp W0 _ from yB (uH HK) hba)
  have HPV:=hide (fun (k':Nat) (e:k=k'+1)=>Kp.cell hba (uH HPV0 k' e))
  clear HPV0 HK KW HLA P1 HB1 PM
  go_upto_region 6 with fail
  obtain ⟨W6,hW6⟩:∃W,wr.alloc (.cells #[.string (bs nm),.int .i64 me,.int .i64 cp,.slice xo xl xc] 71)=W:=⟨_,rfl⟩
  obtain ⟨ba,hba2⟩:∃b,wr.heap.size=b:=⟨_,rfl⟩
  rw [hW6] at P6 HK6 HPV ⊢
  rw [hba2] at P6 ⊢
  clear hW6 hba2 hba c0 c1 c2 c3
  have R:∀wx,Kp W6 wx→wx.cell? ⟨ba,0,none⟩=some (.string (bs nm))∧wx.cell? ⟨ba,1,none⟩=some (.int .i64 me)∧wx.cell? ⟨ba,2,none⟩=some (.int .i64 cp)∧wx.cell? ⟨ba,3,none⟩=some (.slice xo xl xc):=fun wx h=>
   ⟨h.cell ((uH P6).at 0),h.cell ((uH P6).at 1),h.cell ((uH P6).at 2),h.cell ((uH P6).at 3)⟩
  clear P6
  refine wp_region_held_drew (S:=fun wx=>Kp W6 wx) (by kernel_rfl) (show Kp W6 W6.drew from (yH _ W6).drew) (fun S0=>?_)
  have S1:Kp W6 W6.drew:=S0
  clear S0
  have S0:=S1
  clear S1
  generalize W6.drew=wn at S0 ⊢
  refine tW 0 25 _ S0 ?_
  try simp only [zW]
  refine tW 1 26 (.string (bs nm)) S0 ?_
  try simp only [zW]
  cases no
  case false=>
   refine wpAnyH_ready (rs:=[2]) (by kernel_rfl) (by simp) (AllReadyH.cons rfl (fun K hK=>?_) AllReadyH.nil)
   go_simp
   refine (uH CN _).mono ?_
   rintro e wt ⟨rfl,rfl⟩
   have S1:=S0
   go_wp2_with fail
   refine hK.out _ _ S1 (fun S0=>?_)
   clear hK K S1
   try simp only [zW]
   refine tW 3 28 (.bool true) S0 ?_
   try simp only [zW]
   refine tW 4 29 (.bool true) S0 ?_
   try simp only [zW]
   refine tU 5 30 S0 <| tU 6 31 S0 <| tU 7 32 S0 <| tU 8 33 S0 <| ?_
   try simp only [zW]
   refine tW 9 34 (.bool true) S0 ?_
   try simp only [zW]
   refine tW 10 35 (.bool true) S0 ?_
   try simp only [zW]
   refine tU 11 36 S0 <| tU 12 37 S0 <| tU 13 38 S0 <| tU 14 39 S0 <| ?_
   try simp only [zW]
   refine tW 15 40 (.bool true) S0 ?_
   try simp only [zW]
   refine tW 16 41 (.bool true) S0 ?_
   try simp only [zW]
   refine tU 17 42 S0 <| tU 18 43 S0 <| tU 19 44 S0 <| tU 20 45 S0 <| tU 21 46 S0 <| tU 22 47 S0 <| tU 23 48 S0 <| tU 24 49 S0 <| tU 25 50 S0 <| tU 26 51 S0 <| tU 27 52 S0 <| tU 28 53 S0 <| tU 29 54 S0 <| ?_
   try simp only [zW]
   refine tW 30 55 (.bool true) S0 ?_
   try simp only [zW]
   refine wpAnyH_done (by kernel_rfl) ?_ _
   have HK9:=hide (show Kp W0 _ from yB (uH HK6) S0)
   have HF:=hide (show o=(false&&agsFrom nm (la.drop (k+1))) by rw [uH HO2];simp)
   clear S0 R HK6 HO2
   go_wp2
   go_roundw
   case rel=>exact ⟨k+1,false,nm,by omega,by go_num,rfl,HF,hide ⟨fun e=>absurd e (by omega),uH HNX⟩,HK9⟩
   case measure=>simp [intOf];omega
  refine wpAnyH_ready (rs:=[2]) (by kernel_rfl) (by simp) (AllReadyH.cons rfl (fun K hK=>?_) AllReadyH.nil)
  go_simp
  refine (uH CN _).mono ?_
  rintro e wt ⟨rfl,rfl⟩
  have S1:=S0
  go_wp2_with fail
  refine hK.out _ _ S1 (fun S0=>?_)
  clear hK K S1
  try simp only [zW]
  refine tW 3 28 (.bool false) S0 ?_
  try simp only [zW]
  refine tW 4 29 (.bool false) S0 ?_
  try simp only [zW]
  refine tW 5 30 _ S0 ?_
  try simp only [zW]
  refine tW 6 31 (.agg #[.int .i64 me,.int .i64 cp]) S0 ?_
  try simp only [zW]
  cases ro
  case false=>
   refine wpAnyH_ready (rs:=[7]) (by kernel_rfl) (by simp) (AllReadyH.cons rfl (fun K hK=>?_) AllReadyH.nil)
   go_simp
   refine (uH CR _).mono ?_
   rintro e wt ⟨rfl,hb⟩
   have S1:Kp W6 wt:=yB S0 hb
   clear hb
   go_wp2_with fail
   refine hK.out _ _ S1 (fun S0=>?_)
   clear hK K S1
   try simp only [zW]
   refine tW 8 33 (.bool true) S0 ?_
   try simp only [zW]
   refine tW 9 34 (.bool true) S0 ?_
   try simp only [zW]
   refine tW 10 35 (.bool true) S0 ?_
   try simp only [zW]
   refine tU 11 36 S0 <| tU 12 37 S0 <| tU 13 38 S0 <| tU 14 39 S0 <| ?_
   try simp only [zW]
   refine tW 15 40 (.bool true) S0 ?_
   try simp only [zW]
   refine tW 16 41 (.bool true) S0 ?_
   try simp only [zW]
   refine tU 17 42 S0 <| tU 18 43 S0 <| tU 19 44 S0 <| tU 20 45 S0 <| tU 21 46 S0 <| tU 22 47 S0 <| tU 23 48 S0 <| tU 24 49 S0 <| tU 25 50 S0 <| tU 26 51 S0 <| tU 27 52 S0 <| tU 28 53 S0 <| tU 29 54 S0 <| ?_
   try simp only [zW]
   refine tW 30 55 (.bool true) S0 ?_
   try simp only [zW]
   refine wpAnyH_done (by kernel_rfl) ?_ _
   have HK9:=hide (show Kp W0 _ from yB (uH HK6) S0)
   have HF:=hide (show o=(false&&agsFrom nm (la.drop (k+1))) by rw [uH HO2];simp)
   clear S0 R HK6 HO2
   go_wp2
   go_roundw
   case rel=>exact ⟨k+1,false,nm,by omega,by go_num,rfl,HF,hide ⟨fun e=>absurd e (by omega),uH HNX⟩,HK9⟩
   case measure=>simp [intOf];omega
  refine wpAnyH_ready (rs:=[7]) (by kernel_rfl) (by simp) (AllReadyH.cons rfl (fun K hK=>?_) AllReadyH.nil)
  go_simp
  refine (uH CR _).mono ?_
  rintro e wt ⟨rfl,hb⟩
  have S1:Kp W6 wt:=yB S0 hb
  clear hb
  go_wp2_with fail
  refine hK.out _ _ S1 (fun S0=>?_)
  clear hK K S1
  try simp only [zW]
  refine tW 8 33 (.bool false) S0 ?_
  try simp only [zW]
  refine tW 9 34 (.bool false) S0 ?_
  try simp only [zW]
  refine tW 10 35 (.bool false) S0 ?_
  try simp only [zW]
  refine tW 11 36 _ S0 ?_
  try simp only [zW]
  refine tW 12 37 (.slice xo xl xc) S0 ?_
  try simp only [zW]
  refine tW 13 38 (.int .i64 xl) S0 ?_
  try simp only [zW]
  by_cases hx0:0<xl
  ·have hxi:(0:Int)<xl:=by omega
   have hxd:decide (xl=0)=false:=decide_eq_false (by omega)
   refine tW 14 39 (.bool true) S0 ?_
   try simp only [zW]
   refine tW 15 40 (.bool true) S0 ?_
   try simp only [zW]
   refine tW 16 41 (.bool true) S0 ?_
   try simp only [zW]
   refine tU 17 42 S0 <| tU 18 43 S0 <| tU 19 44 S0 <| tU 20 45 S0 <| tU 21 46 S0 <| tU 22 47 S0 <| tU 23 48 S0 <| tU 24 49 S0 <| tU 25 50 S0 <| tU 26 51 S0 <| tU 27 52 S0 <| tU 28 53 S0 <| tU 29 54 S0 <| ?_
   try simp only [zW]
   refine tW 30 55 (.bool true) S0 ?_
   try simp only [zW]
   refine wpAnyH_done (by kernel_rfl) ?_ _
   have HK9:=hide (show Kp W0 _ from yB (uH HK6) S0)
   have HF:=hide (show o=(false&&agsFrom nm (la.drop (k+1))) by rw [uH HO2,hxd];simp)
   clear S0 R HK6 HO2
   go_wp2
   go_roundw
   case rel=>exact ⟨k+1,false,nm,by omega,by go_num,rfl,HF,hide ⟨fun e=>absurd e (by omega),uH HNX⟩,HK9⟩
   case measure=>simp [intOf];omega
  have hxi:¬(0:Int)<xl:=by omega
  have hxd:decide (xl=0)=true:=decide_eq_true (by omega)
  refine tW 14 39 (.bool false) S0 ?_
  try simp only [zW]
  refine tW 15 40 (.bool false) S0 ?_
  try simp only [zW]
  refine tW 16 41 (.bool false) S0 ?_
  try simp only [zW]
  refine tW 17 42 (.int .i64 k) S0 ?_
  try simp only [zW]
  by_cases hk0:k=0
  ·have HN:(l1||l2)=false:=uH HLZ2 hk0 (by simp)
   have hkz:¬(0:Int)<(k:Int):=by omega
   refine tW 18 43 (.bool false) S0 ?_
   try simp only [zW]
   refine tW 19 44 (.bool false) S0 ?_
   try simp only [zW]
   refine tU 20 45 S0 <| tU 21 46 S0 <| tU 22 47 S0 <| tU 23 48 S0 <| tU 24 49 S0 <| tU 25 50 S0 <| tU 26 51 S0 <| tU 27 52 S0 <| tU 28 53 S0 <| ?_
   try simp only [zW]
   refine tW 29 54 (.bool false) S0 ?_
   try simp only [zW]
   refine tW 30 55 (.bool false) S0 ?_
   try simp only [zW]
   refine wpAnyH_done (by kernel_rfl) ?_ _
   have HK9:=hide (show Kp W0 _ from yB (uH HK6) S0)
   have HF:=hide (show o=(ok&&agsFrom nm (la.drop (k+1))) by rw [uH HO2];rw [HN,hxd];simp)
   clear S0 R HK6 HO2
   go_wp2
   go_roundw
   case rel=>exact ⟨k+1,ok,nm,by omega,by go_num,rfl,HF,hide ⟨fun e=>absurd e (by omega),uH HNX⟩,HK9⟩
   case measure=>simp [intOf];omega
  obtain ⟨k',rfl⟩:∃k',k=k'+1:=⟨k - 1,by omega⟩
  have hpv:=uH HPV k' rfl
  have hkk:((k'+1:Nat):Int) - 1=(k':Int):=by omega
  have hkw:IntKind.i64.wrap (k':Int)=k':=by rw [IntKind.wrap_i64];omega
  have hkp:(0:Int)<((k'+1:Nat):Int):=by omega
  have hkq:(0:Int)≤(k':Int):=by omega
  have hkr:(k':Int)<len:=by omega
  have R2:∀wx,Kp W6 wx→wx.cell? ⟨g,k'*4,none⟩=some (.string (bs last)):=fun wx h=>h.cell hpv
  clear HPV hpv
  refine tW 18 43 (.bool true) S0 ?_
  try simp only [zW]
  refine tW 19 44 (.bool true) S0 ?_
  try simp only [zW]
  refine tW 20 45 _ S0 ?_
  try simp only [zW]
  refine tW 21 46 (.string (bs nm)) S0 ?_
  try simp only [zW]
  refine tW 22 47 _ S0 ?_
  try simp only [zW]
  refine tW 23 48 _ S0 ?_
  try simp only [zW]
  refine tW 24 49 (.int .i64 k') S0 ?_
  try simp only [zW]
  refine tW 25 50 _ S0 ?_
  try simp only [zW]
  refine tW 26 51 _ S0 ?_
  try simp only [zW]
  refine tW 27 52 (.string (bs last)) S0 ?_
  try simp only [zW]
  cases l1<;>cases l2
  case false.false=>
   refine tW 28 53 (.bool false) S0 ?_
   try simp only [zW]
   refine tW 29 54 (.bool false) S0 ?_
   try simp only [zW]
   refine tW 30 55 (.bool false) S0 ?_
   try simp only [zW]
   refine wpAnyH_done (by kernel_rfl) ?_ _
   have HK9:=hide (show Kp W0 _ from yB (uH HK6) S0)
   have HF:=hide (show o=(ok&&agsFrom nm (la.drop (k'+1+1))) by rw [uH HO2];rw [hxd];simp)
   clear S0 R HK6 HO2
   go_wp2
   go_roundw
   case rel=>exact ⟨k'+1+1,ok,nm,by omega,by go_num,rfl,HF,hide ⟨fun e=>absurd e (by omega),uH HNX⟩,HK9⟩
   case measure=>simp [intOf];omega
  all_goals
   refine tW 28 53 (.bool true) S0 ?_
   try simp only [zW]
   refine tW 29 54 (.bool true) S0 ?_
   try simp only [zW]
   refine tW 30 55 (.bool true) S0 ?_
   try simp only [zW]
   refine wpAnyH_done (by kernel_rfl) ?_ _
   have HK9:=hide (show Kp W0 _ from yB (uH HK6) S0)
   have HF:=hide (show o=(false&&agsFrom nm (la.drop (k'+1+1))) by rw [uH HO2];simp)
   clear S0 R HK6 HO2
   go_wp2
   go_roundw
   case rel=>exact ⟨k'+1+1,false,nm,by omega,by go_num,rfl,HF,hide ⟨fun e=>absurd e (by omega),uH HNX⟩,HK9⟩
   case measure=>simp [intOf];omega
theorem open_agtw {H:Type} {enc:TypeId×Value→H} {W:World} {base:Nat} {held:Bool} {ao:Option Addr} {len cap:Nat} {d:DataW H} {p:List MemPlace}
  (h:DataW.Trod enc Tryz.prog W base (fun _=>true) held 31 (.slice ao len cap) d p) :
  ∃l:List Agt,AgtRow W ao len l∧len≤9223372036854775807∧∀q ∈ l,AgtFit q:=by
 obtain ⟨fuel,hf⟩:=h
 exact open_agts (by simpa [Value.cells] using hf)
theorem cluN_form (lq:List Q) (la:List Agt) (hq:FitQ lq) (ha:FitAgt la):∃ql ep nx la',cluN lq la=⟨⟨newSt ql ep nx ep,[],0,[]⟩,la',[]⟩∧ql.length≤1048576∧la'.length≤1048576∧FitClu ⟨⟨newSt ql ep nx ep,[],0,[]⟩,la',[]⟩:=by
 unfold cluN
 split
 ·have hf:FitQ (qlN lq):=by
   unfold qlN
   split
   ·exact hq
   ·exact ⟨by simp,by simp⟩
  exact ⟨_,_,_,_,rfl,hf.1,ha.1,⟨new_fit _ _ _ hf,by simp,⟨by simp,by simp⟩⟩,ha,⟨by simp,by simp⟩⟩
 ·exact ⟨_,_,_,_,rfl,by simp,by simp,⟨new_fit _ _ _ ⟨by simp,by simp⟩,by simp,⟨by simp,by simp⟩⟩,⟨by simp,by simp⟩,⟨by simp,by simp⟩⟩
theorem cl_row {B B' n c gl gc:Nat} {qo go:Option Addr} {ql:List Q} {hs:List AH} {la:List Agt} {w:World} (ep nx:Int) (h:QOwn B w (.slice qo n c) ql) (hn:n=ql.length) (hg:GHas B' w go gl gc hs) (ht:Thin hs la):CRow w (clzN qo n c go gl gc) ⟨⟨newSt ql ep nx ep,[],0,[]⟩,la,[]⟩:=by
 obtain ⟨ao,cc,e,hr,_⟩:=qown_rowx h
 cases e
 rw [hn]
 exact ⟨⟨new_row ep nx ep hr,⟨rfl,.inl rfl⟩⟩,ht.row hg.1,⟨rfl,.inl rfl⟩⟩
theorem qown_keep {B:Nat} {w w':World} {v:Value} {l:List Q} (h:QOwn B w v l) (hk:∀k,v.ownBlock=some k→w'.heap[k]? = w.heap[k]?):QOwn B w' v l:=by
 obtain ⟨h1,h2⟩:=h
 refine ⟨h1,?_⟩
 rcases h2 with h2 | ⟨g,cap,cur,a,b1,c,d⟩
 ·exact .inl h2
 ·exact .inr ⟨g,cap,cur,a,b1,(hk g (by rw [a];rfl)).trans c,d⟩
theorem ghas_lt {B:Nat} {w:World} {ao:Option Addr} {n cap:Nat} {hs:List AH} (h:GHas B w ao n cap hs):∀g,ao=some ⟨g,0,none⟩→n≠0→B≤g∧g<w.heap.size:=by
 intro g e hz
 rcases h.2.2 with e2 | ⟨g2,e2,hB,hb⟩
 ·exact absurd e2 hz
 ·rw [e] at e2;cases e2;exact ⟨hB,hb.1.lt⟩
theorem GWh.keep {w w':World} {B E g n g0:Nat} (h:GWh w B E g n) (h0:g0<g) (h1:g0<B) (hk:∀k,k<w.heap.size→k≠g0→w'.heap[k]? = w.heap[k]?):GWh w' B E g n:=
 ⟨h.1.of_block (hk g h.1.lt (by omega)),fun i hi=>let ⟨b,xl,a1,k1,d⟩:=h.2 i hi;⟨b,xl,(World.cell?_of_block (w:=w) (hk g h.1.lt (by omega))).trans a1,k1.of_block (hk b k1.lt (by omega)),d⟩⟩
structure Held1 (B gg:Nat) (qo:Option Addr) (n c:Nat) (ep nx:Int) (go:Option Addr) (gl gc:Nat) (ql:List Q) (hs:List AH) (la:List Agt) (wx:World):Prop where
 box:Blk wx gg (clc qo n c ep nx go gl gc) 48
 q:QOwn B wx (.slice qo n c) ql
 g:GHas B wx go gl gc hs
 qE:∀k,(Value.slice qo n c).ownBlock=some k→B≤k∧k<gg
 gE:∀k,go=some ⟨k,0,none⟩→gl≠0→B≤k∧k<gg
 lo:B≤gg
theorem Held1.below {B gg:Nat} {qo:Option Addr} {n c:Nat} {ep nx:Int} {go:Option Addr} {gl gc:Nat} {ql:List Q} {hs:List AH} {la:List Agt} {wx wy:World} (h:Held1 B gg qo n c ep nx go gl gc ql hs la wx) (hb:Below wx.heap.size wx wy):Held1 B gg qo n c ep nx go gl gc ql hs la wy:=
 ⟨h.box.below hb,h.q.below hb,h.g.below hb,h.qE,h.gE,h.lo⟩
theorem Held1.keep {B gg:Nat} {qo:Option Addr} {n c:Nat} {ep nx:Int} {go:Option Addr} {gl gc:Nat} {ql:List Q} {hs:List AH} {la:List Agt} {wx wy:World} (h:Held1 B gg qo n c ep nx go gl gc ql hs la wx) (hk:∀k,B≤k→k<wx.heap.size→wy.heap[k]? = wx.heap[k]?):Held1 B gg qo n c ep nx go gl gc ql hs la wy:=
 ⟨(hk gg h.lo h.box.lt).trans h.box,qown_keep h.q (fun k e=>hk k (h.qE k e).1 (by have:=(h.qE k e).2;have:=h.box.lt;omega)),h.g.keep (fun g e hz=>hk g (h.gE g e hz).1 (by have:=(h.gE g e hz).2;have:=h.box.lt;omega)),h.qE,h.gE,h.lo⟩
structure Held2 (gg:Nat) (qo:Option Addr) (n c:Nat) (ep nx:Int) (go:Option Addr) (gl gc:Nat) (hs:List AH) (wx:World):Prop where
 box:Blk wx gg (clc qo n c ep nx go gl gc) 48
 q:Marked wx qo n
 g:GMk wx go gl hs (1+4*n)
theorem Held2.below {gg:Nat} {qo:Option Addr} {n c:Nat} {ep nx:Int} {go:Option Addr} {gl gc:Nat} {hs:List AH} {wx wy:World} (h:Held2 gg qo n c ep nx go gl gc hs wx) (hb:Below wx.heap.size wx wy):Held2 gg qo n c ep nx go gl gc hs wy:=
 ⟨h.box.below hb,h.q.below hb,h.g.below hb⟩
end
end Go.Proofs.YtmkedfdnokmglaaGreat
