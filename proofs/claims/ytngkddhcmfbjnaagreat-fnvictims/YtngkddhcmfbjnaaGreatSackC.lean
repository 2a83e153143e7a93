/-
  Texts in one: Draw2, DrawG, DrawO, DrawP, NameD, QDraw, BackM, SubI, PendB, ShareI, BackC.
-/
import Derived.Test.YtngkddhcmfbjnaaGreatSackA
import Derived.Maps.Range
set_option maxRecDepth 100000
set_option maxHeartbeats 16000000
set_option linter.unusedVariables false
set_option linter.unusedSimpArgs false
namespace Go.Proofs.YtngkddhcmfbjnaaGreat
section
open Go.RowKit
variable {l:List Q} {B cap g:Nat} {ao:Option Addr} {v:Value} {w w' w0:World}
def CSt (w0:World) (B g:Nat) (ao:Option Addr) (len cap:Nat) (w:World):Prop:=Cur w g ao len cap∧Code w B ao len∧w0.grownBy w (some g)∧B≤g
theorem CSt.step {len:Nat} (h:CSt w0 B g ao len cap w) (hc:Cur w' g ao len cap) (hg:w.grownBy w' (some g)):CSt w0 B g ao len cap w':=
 ⟨hc,h.2.1.grown hg h.2.2.2,bR h.2.2.1 hg,h.2.2.2⟩
theorem CSt.below {len:Nat} (h:CSt w0 B g ao len cap w) (hb:Bw w w'):CSt w0 B g ao len cap w':=
 ⟨h.1.below hb h.1.lt,h.2.1.below hb h.2.1.1,aG h.2.2.1 hb,h.2.2.2⟩
theorem CSt.alloc {len:Nat} (h:CSt w0 B g ao len cap w) (o:Obj):CSt w0 B g ao len cap (w.alloc o):=h.below ((yH _ _).alloc (yJ _) o)
theorem CSt.done {len:Nat} (h:CSt w0 B g ao len cap w) (hg:w0.heap.size≤g):Bw w0 w:=kG (yH _ _) h.2.2.1 (yJ _) hg
theorem aU {len:Nat} (n:Int) (w:World) (h:CSt w0 B g ao len cap w) (hn0:0<n) (hn1:n≤9223372036854775807) :
  cP 66 #[.pointer (some ⟨g,0,none⟩),.int .i64 n] w fun e w'=>∃x:Int,e=.returned (.int .i64 x)∧0≤x∧x<n∧CSt w0 B g ao len cap w'∧w.grownBy w' (some g):=
 (uM B g ao len cap n w h.1 h.2.1 h.2.2.2 hn0 hn1).mono fun e w' ⟨x,h1,h2,h3,h4,h5⟩=>⟨x,h1,h2,h3,h.step h4 h5,h5⟩
theorem aJM (B:Nat) (ao:Option Addr) (len cap:Nat) (w:World) (hcode:Code w B ao len) :
  cP 21 #[.slice ao len cap] w fun e w'=>e=.returned (.pointer (some ⟨w.heap.size,0,none⟩))∧CSt w B w.heap.size ao len cap w':=by
 have hl:=hcode.2.1
 have HK:=aA hcode
 go_enter Tryz.func21,Tryz.ntmps21
 go_wp2
 go_loop [3,4] (fun v i=>∃(k:Nat) (h:Int),k≤len∧i=.int .i64 (k:Int)∧v=.int .i64 h∧0≤h∧h≤1073741823) (fun _ i=>len - (intOf i).toNat)
 case atStart=>exact ⟨0,_,Nat.zero_le _,rfl,rfl,by omega,by omega⟩
 case round=>
  obtain ⟨k,h,hk,rfl,rfl,hh0,hh1⟩:=hrel
  by_cases hlt:k<len
  ·rcases hcode.2.2 with h0 | ⟨b,off,zs,rfl,QF,hz,hzs⟩
   ·omega
   by_cases h4:k<4000
   ·have hcz:=hz k hlt
    obtain ⟨hz0,hz1⟩:=hzs k
    have YV:(k:Int)<(len:Int):=by omega
    have hm:=aA (aBg (h*131+zs k+7) 1073741823 (by decide) (by decide))
    clear hz hzs hcode
    go_wp2
    go_round
    case rel=>exact ⟨k+1,_,by omega,by go_num,rfl,(uH hm).1,(uH hm).2⟩
    case measure=>simp [intOf];omega
   ·clear hz hzs hcode
    go_wp2
    go_ret
    refine ⟨rfl,⟨0,h,?_,Nat.zero_le _⟩,(uH HK).below ((yH _ _).alloc (yJ _) _) (uH HK).1,aG (aF w _) ((yH _ _).alloc (yJ _) _),(uH HK).1⟩
    show (w.heap.push _)[w.heap.size]? = _
    simp
  ·clear hcode
   go_wp2
   go_ret
   refine ⟨rfl,⟨0,h,?_,Nat.zero_le _⟩,(uH HK).below ((yH _ _).alloc (yJ _) _) (uH HK).1,aG (aF w _) ((yH _ _).alloc (yJ _) _),(uH HK).1⟩
   show (w.heap.push _)[w.heap.size]? = _
   simp
def aL5 (w:World) (q L:Nat):Prop:=q<w.heap.size∧∀j,j<L→∃z:Int,w.cell? ⟨q,j,none⟩=some (.int .i64 z)∧-9223372036854775808≤z∧z≤9223372036854775807
theorem lG {len:Nat} (q L c:Nat) (w:World) (h:CSt w0 B g ao len cap w) (hq:aL5 w q L) (hne:q≠g) (hL:0<L) (hL1:L≤1000) :
  cP 71 #[.pointer (some ⟨g,0,none⟩),.slice (some ⟨q,0,none⟩) L c] w fun e w'=>∃x:Int,e=.returned (.int .i64 x)∧-9223372036854775808≤x∧x≤9223372036854775807∧CSt w0 B g ao len cap w':=by
 have HS:=aA h
 clear h
 go_enter Tryz.func71,Tryz.ntmps71
 go_wp2_with fail
 refine (aU _ _ (uH HS) (by omega) (by omega)).mono ?_
 rintro e w1 ⟨x,rfl,hx0,hx1,hs1,hg1⟩
 obtain ⟨X,rfl⟩:=Int.eq_ofNat_of_zero_le hx0
 obtain ⟨z,hz,hz0,hz1⟩:=hq.2 X (by omega)
 have hc:w1.cell? ⟨q,X,none⟩=some (.int .i64 z):=(World.cell?_of_block (w:=w) (a:=⟨q,X,none⟩) (hg1.block q hq.1 (fun e=>hne (Option.some.inj e)))).trans hz
 have ZP:=aA hs1
 clear hs1 hg1 hz hq
 go_wp2
 go_ret
 exact ⟨z,rfl,hz0,hz1,uH ZP⟩
theorem fG (w:World) (t:TypeId) (zs:List Int) (h:zs.all (fun z=>decide (-9223372036854775808≤z)&&decide (z≤9223372036854775807))=true):aL5 (w.alloc (.cells (zs.map (Value.int .i64)).toArray t)) w.heap.size zs.length:=by
 refine ⟨by simp,fun j hj=>⟨zs[j],?_,?_⟩⟩
 ·rw [World.cell?_alloc_mark];simp [hj]
 ·have:=List.all_eq_true.1 h zs[j] (yM hj)
  simpa using this
theorem Var.grown {t:TypeId} {q:Nat} {x y:Int} (h:Var w t q x y) (hg:w.grownBy w' (some g)) (hn:q≠g):Var w' t q x y:=h.same (hg.block q h.lt (fun e=>hn (Option.some.inj e)))
theorem aHS {w1:World} {k j:Nat} (h:w.grownBy w1 (some g)) (hk:w.heap.size≤k):w.grownBy (w1.setCell ⟨k,j,none⟩ v) (some g):=
 ⟨h.os,h.tape,h.output,by simpa using h.size,fun i hi hn=>by
  rw [heap_setCell_other w1 ⟨k,j,none⟩ i v (by have:i<k:=Nat.lt_of_lt_of_le hi hk;exact Nat.ne_of_lt this)]
  exact h.block i hi hn⟩
theorem CSt.set {len:Nat} (h:CSt w0 B g ao len cap w) (k j:Nat) (v:Value) (hk:w0.heap.size≤k) (hB:B≤k) (hn:k≠g):CSt w0 B g ao len cap (w.setCell ⟨k,j,none⟩ v):=by
 refine ⟨?_,?_,aHS h.2.2.1 hk,h.2.2.2⟩
 ·obtain ⟨i,x,h1,h2⟩:=h.1
  exact ⟨i,x,by rw [heap_setCell_other w ⟨k,j,none⟩ g v (fun e=>hn e.symm)];exact h1,h2⟩
 ·have hb:Below B w (w.setCell ⟨k,j,none⟩ v):=(yH B w).setCell hB v
  exact h.2.1.below hb (yJ _)
theorem aDh (B g:Nat) (ao:Option Addr) (len cap:Nat) (n:Int) (w:World) (hcur:Cur w g ao len cap) (hcode:Code w B ao len) (hB:B≤g) (hn0:0<n) (hn1:n≤9223372036854775807) :
  cP 22 #[.pointer (some ⟨g,0,none⟩),.int .i64 n] w fun e w'=>∃x:Bool,e=.returned (.bool x)∧Cur w' g ao len cap∧w.grownBy w' (some g):=by
 have HC:=aA hcur
 have HK:=aA hcode
 clear hcur hcode
 go_enter Tryz.func22,Tryz.ntmps22
 go_wp2_with fail
 refine (uM B g ao len cap _ _ (uH HC) (uH HK) hB hn0 hn1).mono ?_
 rintro e w1 ⟨x,rfl,hx0,hx1,hc1,hg1⟩
 have Z7:=aA hc1
 have XG:=aA hg1
 clear hc1 hg1
 go_wp2
 go_ret
 exact ⟨_,rfl,uH Z7,uH XG⟩
theorem aD2 {len:Nat} (n:Int) (w:World) (h:CSt w0 B g ao len cap w) (hn0:0<n) (hn1:n≤9223372036854775807) :
  cP 22 #[.pointer (some ⟨g,0,none⟩),.int .i64 n] w fun e w'=>∃x:Bool,e=.returned (.bool x)∧CSt w0 B g ao len cap w':=
 (aDh B g ao len cap n w h.1 h.2.1 h.2.2.2 hn0 hn1).mono fun e w' ⟨x,h1,h4,h5⟩=>⟨x,h1,h.step h4 h5⟩
def rC (w:World) (q L:Nat):Prop:=q<w.heap.size∧∀j,j<L→∃s:ByteArray,w.cell? ⟨q,j,none⟩=some (.string s)∧s.size≤12
theorem dK (w:World) (t:TypeId) (xs:List ByteArray) (h:xs.all (fun s=>decide (s.size≤12))=true):rC (w.alloc (.cells (xs.map Value.string).toArray t)) w.heap.size xs.length:=by
 refine ⟨by simp,fun j hj=>⟨xs[j],?_,?_⟩⟩
 ·rw [World.cell?_alloc_mark];simp [hj]
 ·have:=List.all_eq_true.1 h xs[j] (yM hj)
  simpa using this
theorem iT {len:Nat} (q L c:Nat) (w:World) (h:CSt w0 B g ao len cap w) (hq:rC w q L) (hne:q≠g) (hL:0<L) (hL1:L≤1000) :
  cP 73 #[.pointer (some ⟨g,0,none⟩),.slice (some ⟨q,0,none⟩) L c] w fun e w'=>∃s:ByteArray,e=.returned (.string s)∧s.size≤12∧CSt w0 B g ao len cap w':=by
 have HS:=aA h
 clear h
 go_enter Tryz.func73,Tryz.ntmps73
 go_wp2_with fail
 refine (aU _ _ (uH HS) (by omega) (by omega)).mono ?_
 rintro e w1 ⟨x,rfl,hx0,hx1,hs1,hg1⟩
 obtain ⟨X,rfl⟩:=Int.eq_ofNat_of_zero_le hx0
 obtain ⟨z,hz,hz0⟩:=hq.2 X (by omega)
 have hc:w1.cell? ⟨q,X,none⟩=some (.string z):=(World.cell?_of_block (w:=w) (a:=⟨q,X,none⟩) (hg1.block q hq.1 (fun e=>hne (Option.some.inj e)))).trans hz
 have ZP:=aA hs1
 clear hs1 hg1 hz hq
 go_wp2
 go_ret
 exact ⟨z,rfl,hz0,uH ZP⟩
theorem aJh {len:Nat} (w:World) (h:CSt w0 B g ao len cap w) :
  cP 122 #[.pointer (some ⟨g,0,none⟩)] w fun e w'=>∃s:ByteArray,e=.returned (.string s)∧s.size≤12∧CSt w0 B g ao len cap w':=by
 have HS:=aA h
 clear h
 go_enter Tryz.func122,Tryz.ntmps122
 go_wp2_with fail
 refine (aD2 16 _ (uH HS) (by decide) (by decide)).mono ?_
 rintro e w1 ⟨x,rfl,hs1⟩
 have ZP:=aA hs1
 have hne:Hid (w1.heap.size≠g):=aA (by have:=hs1.1.lt;omega)
 clear hs1
 cases x with
 | true=>
  have hq:=aA (dK w1 9 [⟨#[]⟩,⟨#[65]⟩,⟨#[48,49,50,51,52,53,54,55,56,57]⟩,⟨#[48,49,50,51,52,53,54,55,56,57,48]⟩,⟨#[97,32,98]⟩] (by decide))
  go_wp2_with fail
  refine (iT w1.heap.size 5 5 _ ((uH ZP).alloc _) (uH hq) (uH hne) (by decide) (by decide)).mono ?_
  rintro e w2 ⟨x,rfl,hx0,hs2⟩
  have HS2:=aA hs2
  clear hs2
  go_wp2
  go_ret
  exact ⟨x,rfl,hx0,uH HS2⟩
 | false=>
  have hq:=aA (dK w1 9 [⟨#[97]⟩,⟨#[98]⟩,⟨#[114,111,111,116]⟩] (by decide))
  go_wp2_with fail
  refine (iT w1.heap.size 3 3 _ ((uH ZP).alloc _) (uH hq) (uH hne) (by decide) (by decide)).mono ?_
  rintro e w2 ⟨x,rfl,hx0,hs2⟩
  have HS2:=aA hs2
  clear hs2
  go_wp2
  go_ret
  exact ⟨x,rfl,hx0,uH HS2⟩
abbrev aJw (q:Q):List Value:=[.string (bs q.name),.string (bs q.parent),.int .i64 q.due,.int .i64 q.most]
def dF:List Q→List Value
 | []=>[]
 | q::t=>aJw q++dF t
theorem aAe (a b:List Q):dF (a++b)=dF a++dF b:=by
 induction a with
 | nil=>rfl
 | cons x t ih=>rw [List.cons_append,dF,dF,ih,List.append_assoc]
theorem oD:∀l:List Q,(dF l).length=l.length*4
 | []=>rfl
 | q::t=>by rw [dF,List.length_append,oD t];simp;omega
theorem aCn:∀(l:List Q) (i:Nat) (h:i<l.length),(dF l)[i*4]? = some (.string (bs l[i].name))∧(dF l)[i*4+1]? = some (.string (bs l[i].parent))∧(dF l)[i*4+2]? = some (.int .i64 l[i].due)∧(dF l)[i*4+3]? = some (.int .i64 l[i].most)
 | q::t,0,_=>⟨rfl,rfl,rfl,rfl⟩
 | q::t,i+1,h=>by
  have e:=aCn t i (by simpa using h)
  have k:∀j,(dF (q::t))[(i+1)*4+j]? = (dF t)[i*4+j]?:=fun j=>by
   rw [dF,show (i+1)*4+j=(aJw q).length+(i*4+j) by simp;omega,List.getElem?_append_right (by omega)]
   congr 1
   omega
  have k0:=k 0
  simp only [Nat.add_zero] at k0
  rw [k0,k 1,k 2,k 3]
  simpa using e
def QDr (B:Nat) (w:World) (v:Value) (l:List Q):Prop:=w.ownsRow B 56 4 v l.length (dF l)
theorem QDr.kept {row:Option Nat} (h:QDr B w v l) (hg:w.grownBy w' row) (hr:∀k,row=some k→k<B):QDr B w' v l:=by
 refine World.ownsRow.kept h hg ?_
 rcases h.2 with ⟨rfl,_⟩ | ⟨g,cap,cur,rfl,hg',_⟩
 ·exact .inl rfl
 ·right
  intro e
  have:=hr g e.symm
  omega
theorem QDr.below (h:QDr B w v l) (hb:Bw w w'):QDr B w' v l:=h.kept (aG (aF w none) hb) (fun k e=>by cases e)
theorem QDr.row (h:QDr B w v l) (hl:l≠[]):∃g cap cur,v=.slice (some ⟨g,0,none⟩) l.length cap∧gJ w (some ⟨g,0,none⟩) l.length l∧l.length≤cap∧B≤g∧w.heap[g]? = some (.cells cur 56 (0,0)):=by
 rcases h.2 with ⟨rfl,h0⟩ | ⟨g,cap,cur,rfl,h1,h2,h3,h4,h5,h6⟩
 ·exact absurd (List.length_eq_zero_iff.1 h0) hl
 ·refine ⟨g,cap,cur,rfl,⟨rfl,.inr ⟨g,0,rfl,fun i hi=>?_⟩⟩,h3,h1,h2⟩
  obtain ⟨a,b,c,d⟩:=aCn l i hi
  have k:∀j (v:Value),j<l.length*4→(dF l)[j]? = some v→w.cell? ⟨g,j,none⟩=some v:=fun j v hj hv=>by
   rw [←h6,List.getElem?_take_of_lt hj] at hv
   simp [World.cell?,h2]
   simpa using hv
  unfold QAt
  rw [Nat.zero_add]
  exact ⟨k _ _ (by omega) a,k _ _ (by omega) b,k _ _ (by omega) c,k _ _ (by omega) d⟩
theorem aJ9 (w:World) (l:List Q) (n:Nat) (hn:l.length=n) (hm:n≤1000):QDr w.heap.size (w.alloc (.cells (dF l).toArray 56)) (.slice (some ⟨w.heap.size,0,none⟩) n n) l:=by
 subst hn
 refine ⟨oD l,.inr ⟨w.heap.size,l.length,(dF l).toArray,rfl,yJ _,by show (w.heap.push _)[w.heap.size]? = _;simp,yJ _,by unfold maxLen;omega,by simp [oD],?_⟩⟩
 rw [←oD]
 simp
theorem gJ.put {b off len:Nat} (h:gJ w (some ⟨b,off,none⟩) len l) (i:Nat) (hi:i<l.length) (q:Q) (j:Nat) (x:Value)
  (hx:(j=0∧x=.string (bs q.name)∧q = { l[i] with name:=q.name })∨(j=1∧x=.string (bs q.parent)∧q = { l[i] with parent:=q.parent })∨(j=2∧x=.int .i64 q.due∧q = { l[i] with due:=q.due })∨(j=3∧x=.int .i64 q.most∧q = { l[i] with most:=q.most })) :
  gJ (w.setCell ⟨b,off+i*4+j,none⟩ x) (some ⟨b,off,none⟩) len (l.set i q):=by
 obtain ⟨h1,h2⟩:=h
 have hl:len≠0:=by omega
 rcases h2 with h2 | ⟨b',off',e,h4⟩
 ·exact absurd h2 hl
 ·cases e
  have hot:∀p,p≠off+i*4+j→(w.setCell ⟨b,off+i*4+j,none⟩ x).cell? ⟨b,p,none⟩=w.cell? ⟨b,p,none⟩:=fun p hp=>World.cell?_setCell_other _ ⟨b,off+i*4+j,none⟩ ⟨b,p,none⟩ _ (by intro e;have:=congrArg Addr.off e;simp at this;omega)
  have G6:∀v,w.cell? ⟨b,off+i*4+j,none⟩=some v→(w.setCell ⟨b,off+i*4+j,none⟩ x).cell? ⟨b,off+i*4+j,none⟩=some x:=fun v hv=>World.cell?_setCell_same w _ _ hv
  refine ⟨by simpa using h1,.inr ⟨b,off,rfl,fun k hk=>?_⟩⟩
  have hk':k<l.length:=by simpa using hk
  obtain ⟨a0,a1,a2,a3⟩:=h4 k hk'
  by_cases e:k=i
  ·subst e
   rw [show (l.set k q)[k]=q by simp]
   rcases hx with ⟨rfl,rfl,hq⟩ | ⟨rfl,rfl,hq⟩ | ⟨rfl,rfl,hq⟩ | ⟨rfl,rfl,hq⟩
   ·refine ⟨G6 _ a0,?_,?_,?_⟩
    ·rw [hot _ (by omega),a1,hq]
    ·rw [hot _ (by omega),a2,hq]
    ·rw [hot _ (by omega),a3,hq]
   ·refine ⟨?_,G6 _ a1,?_,?_⟩
    ·rw [hot _ (by omega),a0,hq]
    ·rw [hot _ (by omega),a2,hq]
    ·rw [hot _ (by omega),a3,hq]
   ·refine ⟨?_,?_,G6 _ a2,?_⟩
    ·rw [hot _ (by omega),a0,hq]
    ·rw [hot _ (by omega),a1,hq]
    ·rw [hot _ (by omega),a3,hq]
   ·refine ⟨?_,?_,?_,G6 _ a3⟩
    ·rw [hot _ (by omega),a0,hq]
    ·rw [hot _ (by omega),a1,hq]
    ·rw [hot _ (by omega),a2,hq]
  ·rw [show (l.set i q)[k]=l[k] by rw [List.getElem_set_ne (fun h=>e h.symm)]]
   have hj:j<4:=by rcases hx with ⟨rfl,_⟩ | ⟨rfl,_⟩ | ⟨rfl,_⟩ | ⟨rfl,_⟩<;>omega
   refine ⟨?_,?_,?_,?_⟩
   ·rw [hot _ (by omega),a0]
   ·rw [hot _ (by omega),a1]
   ·rw [hot _ (by omega),a2]
   ·rw [hot _ (by omega),a3]
def aBh (l:List Q):Prop:=∀q ∈ l,q.name.length≤1000∧q.parent.length≤1000
theorem aBh.set (h:aBh l) (i:Nat) (q:Q) (hq:q.name.length≤1000∧q.parent.length≤1000):aBh (l.set i q):=fun x hx=>by
 rcases List.mem_or_eq_of_mem_set hx with hx | rfl
 ·exact h x hx
 ·exact hq
theorem CSt.gro {len:Nat} (h:CSt w0 B g ao len cap w) {row:Option Nat} (hg:w.grownBy w' row) (hr:∀k,row=some k→w0.heap.size≤k∧g<k):CSt w0 B g ao len cap w':=by
 obtain ⟨⟨i,x,h1,h2⟩,hc,hgr,hB⟩:=h
 have hgl:g<w.heap.size:=lt_of_block h1
 refine ⟨⟨i,x,(hg.block g hgl (fun e=>by have:=hr g e.symm;omega)).trans h1,h2⟩,?_,hgr.andThen hg (fun j hj=>.inl (hr j hj).1),hB⟩
 exact hc.below ((yH B w).grown hg hc.1 (fun k e=>by have:=hr k e;omega)) (yJ _)
theorem Tryz.infoQD:(Tryz.prog.info? 56).map (fun i=>(i.zero,i.size,i.bytes))=some (some (.agg #[.string ByteArray.empty,.string ByteArray.empty,.int .i64 0,.int .i64 0]),4,48):=by kernel_rfl
end
section
open Go.RowKit Go.Shelf
attribute [local go_sem] Oper.semAt_some
abbrev aGE:={ m:Mac // m.name.length≤1048576 }
theorem cO.kpa {W W':World} {ao:Option Addr} {len:Nat} {l:List Mac} (h:cO W ao len l) (k:KpA W W'):cO W' ao len l:=by
 obtain ⟨h1,h2⟩:=h
 refine ⟨h1,?_⟩
 rcases h2 with h2 | ⟨b,off,h3,h4⟩
 ·exact .inl h2
 ·exact .inr ⟨b,off,h3,fun i hi=>let ⟨a,b,c,d⟩:=h4 i hi;⟨k.cell a,k.cell b,k.cell c,k.cell d⟩⟩
theorem aFs (n l Bs len cap:Nat) (ao:Option Addr) (ms:List Mac) (J Jx:List (Int×aGE)→World→Prop)
  (hY:∀pre x W1,J pre W1→pre.length<ms.length→YieldAt Fence.wide (n - 1) Tryz.prog l #[.int .i64 x.1,aI8 x.2.1] W1 fun e W'=>
   (e=.returned (.bool true)∧J (pre++[x]) W'∧KpA W1 W')∨(e=.returned (.bool false)∧Jx (pre++[x]) W'))
  (W:World) (GQ:W.cell? ⟨Bs,0,none⟩=some (.slice ao len cap)) (hg:cO W ao len ms) (hl:len≤1048576) (hN:∀m ∈ ms,m.name.length≤1048576) (h0:J [] W) :
  CallsIn Fence.wide n Tryz.prog 189 #[.func (.yield l) #[] #[],.pointer (some ⟨Bs,0,none⟩)] W fun e W'=>(∃v,e=.returned v)∧
   ((∃ys:List (Int×aGE),Hid (ys.map (fun x:Int×aGE=>x.2.1)=ms.reverse)∧J ys W')∨(∃pre,Jx pre W')):=by
 have HY:=aA hY
 have yw:=aA GQ
 have HG:=aA hg
 have Gj:=aA hg.1
 have H0:=aA h0
 have J2:=aA hN
 clear hY hg h0 hN
 refine callsIn_of_wp Tryz.func189 rfl trivial ?_ rfl
 simp only [Tryz.ntmps189,List.size_toArray,List.length_cons,List.length_nil,Nat.reduceAdd,Nat.reduceSub,Array.replicate_succ,Array.replicate_zero,List.push_toArray,List.append_toArray,List.nil_append,List.cons_append]
 gi_wp2
 clear GQ
 gi_loopw [3] (fun i wr=>∃(k:Nat) (pre:List (Int×aGE)),k≤len∧i=.int .i64 ((k:Int) - 1)∧Hid (pre.length+k=ms.length)∧Hid (pre.map (fun x:Int×aGE=>x.2.1)=(ms.drop k).reverse)∧Hid (J pre wr)∧Hid (wr.cell? ⟨Bs,0,none⟩=some (.slice ao len cap))∧Hid (cO wr ao len ms)) (fun i _=>(intOf i+1).toNat)
 case atStart=>exact ⟨len,[],yJ _,by go_num,aA (by have:=uH Gj;simp;omega),aA (by rw [List.drop_of_length_le (by have:=uH Gj;omega)];rfl),H0,yw,HG⟩
 case round=>
  obtain ⟨k,pre,hk,rfl,HL,HM,HJ,HB,XF⟩:=hrel
  cases k with
  | zero=>
   gi_wp2
   go_end0
   exact ⟨⟨_,rfl⟩,.inl ⟨pre,aA (by rw [uH HM];rfl),uH HJ⟩⟩
  | succ j=>
   have hj:j<len:=by omega
   obtain ⟨b,off,rfl,hq⟩:=(uH XF).at hj
   have hjm:j<ms.length:=by have:=uH Gj;omega
   obtain ⟨c0,c1,c2,c3⟩:=hq hjm
   have Qx:=uH HB
   have hel:=uH J2 ms[j] (yM _)
   obtain ⟨fn,tmps,assign,body,hy,hR⟩:=uH HY pre ((j:Int),⟨ms[j],hel⟩) wr (uH HJ) (by have:=uH HL;omega)
   have HRR:=aA hR
   have QD:=aA (show (pre++[((j:Int),(⟨ms[j],hel⟩:aGE))]).map (fun x:Int×aGE=>x.2.1)=(ms.drop j).reverse by rw [List.map_append,uH HM,List.drop_eq_getElem_cons hjm,List.reverse_cons];rfl)
   have hij:((j+1:Nat):Int) - 1=(j:Int):=by omega
   obtain ⟨y,ZE⟩:∃y:aGE,(⟨ms[j],hel⟩:aGE)=y:=⟨_,rfl⟩
   have hy1:ms[j]=y.1:=by rw [←ZE]
   rw [ZE] at hy HRR QD
   rw [hy1] at c0 c1 c2 c3
   obtain ⟨⟨nm,me,cp,se⟩,hyn⟩:=y
   simp only at hy c0 c1 c2 c3
   rw [hij]
   have j0:(0:Int)≤j:=by omega
   have j1:(j:Int)<len:=by omega
   clear hR ZE hy1 hij HM hq hjm hel
   gi_wp2
   refine ⟨(by intro e;cases e),?_⟩
   refine (uH HRR).mono ?_
   rintro e W3 (⟨rfl,hJ3,hk3⟩ | ⟨rfl,QN⟩)
   ·have HB3:=aA (hk3.cell (uH HB))
    have vk:=aA ((uH XF).kpa hk3)
    have Ky:=aA hJ3
    clear hk3 hJ3 Qx hy HRR c0 c1 c2 c3
    gi_wp2
    go_roundw
    case rel=>exact ⟨j,pre++[((j:Int),⟨⟨nm,me,cp,se⟩,hyn⟩)],by omega,by go_num,aA (by have:=uH HL;simp;omega),QD,Ky,HB3,vk⟩
    case measure=>simp [intOf]
   ·gi_wp2
    refine bodyPost_ret (results_none rfl _ _ _) rfl ?_
    exact ⟨⟨_,rfl⟩,.inr ⟨_,QN⟩⟩
theorem aDy (n Bs len cap:Nat) (ao:Option Addr) (ms:List Mac) (w:World) (GQ:w.cell? ⟨Bs,0,none⟩=some (.slice ao len cap)) (Hw:cO w ao len ms) (hl:len≤1048576) (hN:∀m ∈ ms,m.name.length≤1048576) :
  SeqStopsK Fence.wide n Tryz.prog 189 #[.pointer (some ⟨Bs,0,none⟩)] (fun x:Int×aGE=>#[.int .i64 x.1,aI8 x.2.1]) KpA (fun ys=>Hid (ys.map (fun x:Int×aGE=>x.2.1)=ms.reverse)) (fun _=>True) ms.length w:=by
 intro l J Jx W hW hJ hJx hY h0
 refine (aFs n l Bs len cap ao ms J Jx hY W ((hW.cell (yG GQ)).trans GQ) (Hw.below hW) hl hN h0).mono ?_
 rintro e W' ⟨he,⟨ys,h1,h2⟩ | ⟨pre,h2⟩⟩
 ·exact ⟨he,.inl ⟨ys,h1,h2⟩⟩
 ·exact ⟨he,.inr ⟨pre,trivial,h2⟩⟩
theorem aHd (v:Value) (w:World) (hv:v.oneCell'=true) :
  cP 164 #[v] w fun e w'=>e=.returned (.func (.func 189) #[] #[.pointer (some ⟨w.heap.size,0,none⟩)])∧w.alloc (.cells #[v] 26)=w':=by
 have KQ:∀(fn:Fn) (first cap:Array Value) (w:World),(Instr.makeFunc fn first cap).run Tryz.prog w=.ok (.func fn first cap) w:=fun _ _ _ _=>rfl
 go_enter Tryz.func164,Tryz.ntmps164
 go_wp2
 go_ret
 exact ⟨rfl,rfl⟩
theorem aF4 (m:Mac) (w:World) :
  cP 165 #[aI8 m] w fun e w'=>e=.returned (.agg #[.string (bs m.name),.int .i64 0])∧Bw w w':=by
 obtain ⟨nm,me,cp,se⟩:=m
 go_enter Tryz.func165,Tryz.ntmps165
 go_wp2
 refine bodyPost_ret (v:=.agg #[.string (bs nm),.int .i64 0]) (by simp [results,Tryz.results165,go_sem]) rfl ⟨rfl,?_⟩
 repeat (first | exact yH _ _ | refine yA ?_ _ | refine Below.drew ?_ | refine yC ?_ _ _ _ (by omega))
end
section
open Go.RowKit
variable {k:Nat}
theorem aDl (a b c d:Int) (w:World) :
  cP 131 #[rv a b,rv c d] w fun e w'=>e=.returned (.tuple #[kT (-1) a b c d,.bool (aP (-1) a b c d)])∧Bw w w':=by
 have V1:=((bD w 37 a b).al (.cells #[.int .i64 c,.int .i64 d] 37)).al (.cells #[.int .i64 0,.int .i64 0] 37)
 have V2:=(jK w 37 37 a b c d).al (.cells #[.int .i64 0,.int .i64 0] 37)
 have V3:=jK (w.alloc (.cells #[.int .i64 a,.int .i64 b] 37)) 37 37 c d 0 0
 have B3:=yA (yA (yA (yH _ w) (.cells #[.int .i64 a,.int .i64 b] 37)) (.cells #[.int .i64 c,.int .i64 d] 37)) (.cells #[.int .i64 0,.int .i64 0] 37)
 simp at V3
 have GH:=aA V1
 have GI:=aA V2
 have QO:=aA V3
 have HB3:=aA B3
 have hc:=aA (nW a b c d)
 clear V1 V2 V3 B3
 cases h0:aM a b&&aM c d
 ·have hb:aP (-1) a b c d=false:=by rw [aP,h0];rfl
  rw [mH hb,hb]
  go_enter Tryz.func131,Tryz.ntmps131
  go_wp2_with fail
  refine (uH hc _).mono ?_
  rw [h0]
  rintro e w1 ⟨rfl,hb⟩
  have V3:=(uH QO).below hb
  have k2:=V3.f 0
  have k3:=V3.f 1
  have k0:=V3.c0
  have k1:=V3.c1
  have k4:=V3.s0 (.int .i64 0)
  have k5:=V3.s1 (.int .i64 0) (.int .i64 0)
  have HB:=aA (yB (uH HB3) hb)
  clear hb GH GI QO HB3 V3 hc
  go_wp2
  refine bodyPost_ret (v:=.tuple #[rv 0 0,.bool false]) (by simp [results,Tryz.results131,go_sem,k4,k5]) rfl ⟨rfl,?_⟩
  repeat (first | exact uH HB | refine yA ?_ _ | refine Below.drew ?_ | refine yC ?_ _ _ _ (by omega))
 ·have h0':=h0
  simp only [yK] at h0'
  obtain ⟨q1,q2,q3,q4⟩:=aO h0'.1
  obtain ⟨q5,q6,q7,q8⟩:=aO h0'.2
  obtain ⟨x,hx⟩:∃x,a - c=x:=⟨_,rfl⟩
  obtain ⟨y,hy⟩:∃y,b - d=y:=⟨_,rfl⟩
  have m3:IntKind.i64.wrap (a - c)=x:=by rw [IntKind.wrap_i64];omega
  have m4:IntKind.i64.wrap (b - d)=y:=by rw [IntKind.wrap_i64];omega
  have e1:aP (-1) a b c d=aM x y:=by rw [aP,h0,show a+(-1)*c=x by omega,show b+(-1)*d=y by omega];rfl
  have e2:kT (-1) a b c d=orV x y:=by rw [kT,orV,e1,show a+(-1)*c=x by omega,show b+(-1)*d=y by omega]
  obtain ⟨u,v,hv⟩:∃u v,orV x y=rv u v:=by unfold orV;split<;>exact ⟨_,_,rfl⟩
  obtain ⟨o,ho⟩:∃o,aM x y=o:=⟨_,rfl⟩
  have ho2:∀wx,cP 65 #[rv x y] wx fun e w'=>e=.returned (.tuple #[rv u v,.bool o])∧Bw wx w':=fun wx=>by have:=aJJ x y wx;rw [hv,ho] at this;exact this
  rw [e1,e2,hv,ho]
  have HO:=aA ho2
  clear e1 e2 hv ho ho2 h0' q1 q2 q3 q4 q5 q6 q7 q8 hx hy
  go_enter Tryz.func131,Tryz.ntmps131
  go_wp2_with fail
  refine (uH hc _).mono ?_
  rw [h0]
  rintro e w1 ⟨rfl,hb⟩
  have V1:=(uH GH).below hb
  have V2:=(uH GI).below hb
  have V3:=aA ((uH QO).below hb)
  have a1:=V1.c0
  have a2:=V1.c1
  have a3:=V2.c0
  have a4:=V2.c1
  have HB:=aA (yB (uH HB3) hb)
  clear hb GH GI QO HB3 V1 V2 hc
  go_wp2_with fail
  refine (uH HO _).mono ?_
  rintro e w2 ⟨rfl,hb⟩
  have V4:=(uH V3).below hb
  have k0:=V4.c0
  have k1:=V4.c1
  have k2:=V4.f 0
  have k3:=V4.f 1
  have k4:=V4.s0 (.int .i64 u)
  have k5:=V4.s1 (.int .i64 u) (.int .i64 v)
  have HB2:=aA (yB (uH HB) hb)
  clear hb V4 V3 HB HO a1 a2 a3 a4
  go_wp2
  refine bodyPost_ret (v:=.tuple #[rv u v,.bool o]) (by simp [results,Tryz.results131,go_sem,k4,k5]) rfl ⟨rfl,?_⟩
  repeat (first | exact uH HB2 | refine yA ?_ _ | refine Below.drew ?_ | refine yC ?_ _ _ _ (by omega))
def aGI (p:bN→Bool):List bN→Nat→Int
 | [],_=>-1
 | q::t,k=>if p q=true then (k:Int) else aGI p t (k+1)
theorem aHM {p:bN→Bool} {l:List bN} (h:k<l.length):aGI p (l.drop k) k=if p l[k]=true then (k:Int) else aGI p (l.drop (k+1)) (k+1):=by
 rw [List.drop_eq_getElem_cons h,aGI]
theorem aIf {p:bN→Bool} {l:List bN} (h:l.length≤k):aGI p (l.drop k) k = -1:=by
 rw [List.drop_of_length_le h];rfl
theorem aEl (p:bN→Bool):∀(l:List bN) (k:Nat),decide (0≤aGI p l k)=l.any p
 | [],_=>by simp [aGI]
 | q::t,k=>by
  rw [aGI,List.any_cons]
  by_cases h:p q=true
  ·rw [if_pos h,h];simp
  ·rw [if_neg h,aEl p t (k+1)];simp [h]
theorem aAC (g:Nat) (lb:Array Value) (eg:∀args w,(callFunc g args).run Tryz.prog w=.ok (.enter g args) w) (p:bN→Bool) (ao:Option Addr) (len cap:Nat) (l:List bN) (w:World) (h:iC w ao len l) (hl:len≤1048576)
  (hp:∀wx (q:bN) xo xl xc,Bw w wx→xl=q.asks.length→Calls Tryz.prog g (#[aHj q.id q.queue xo xl xc]++lb) wx fun e w'=>e=.returned (.bool (p q))∧Bw wx w') :
  cP 166 #[.slice ao len cap,.func (.func g) #[] lb] w fun e w'=>e=.returned (.int .i64 (aGI p l 0))∧Bw w w':=by
 have HR:=aA h
 have HL:=aA h.1
 have HP:=aA hp
 clear h hp
 go_enter Tryz.func166,Tryz.ntmps166
 go_wp2
 go_loopw [5,8] (fun _ i wr=>∃k:Nat,k≤len∧i=.int .i64 k∧Hid (aGI p l 0=aGI p (l.drop k) k)∧Hid (Bw w wr)) (fun _ i _=>len - (intOf i).toNat)
 case atStart=>exact ⟨0,Nat.zero_le _,rfl,aA (by simp),aA (yH _ _)⟩
 case round=>
  obtain ⟨k,hk,rfl,hq,HB⟩:=hrel
  by_cases hlt:k<len
  ·obtain ⟨b,off,rfl,hx⟩:=((uH HR).below (uH HB)).at hlt
   have hkl:k<l.length:=by have:=uH HL;omega
   have hst:=aA (aHM (p:=p) (l:=l) (k:=k) hkl)
   obtain ⟨xo,xl,xc,c0,c1,c2,Hw,_⟩:=hx hkl
   clear hx
   obtain ⟨⟨id,qu,asks⟩,hs⟩:∃s,l[k]=s:=⟨_,rfl⟩
   rw [hs] at c0 c1 hst Hw
   simp only at c0 c1
   have HC:=aA (uH HP wr ⟨id,qu,asks⟩ xo xl xc (uH HB) Hw.1)
   clear hs hkl HP Hw
   cases hpq:p ⟨id,qu,asks⟩ with
   | true=>
    rw [hpq] at HC
    have HQ:=aA hpq
    clear hpq
    go_wp2_with (go_at_fn g;refine (uH HC).mono ?_;rintro e w' ⟨rfl,hb⟩)
    go_ret
    exact ⟨eP (by rw [uH hq,uH hst,if_pos (uH HQ)]),yB (uH HB) hb⟩
   | false=>
    rw [hpq] at HC
    have HQ:=aA hpq
    clear hpq
    go_wp2_with (go_at_fn g;refine (uH HC).mono ?_;rintro e w' ⟨rfl,hb⟩)
    go_roundw
    case rel=>exact ⟨k+1,by omega,by go_num,aA (by rw [uH hq,uH hst,if_neg (by rw [uH HQ];simp)]),aA (yB (uH HB) hb)⟩
    case measure=>simp [intOf];omega
  ·go_wp2
   go_ret
   exact ⟨eP (by rw [uH hq,aIf (by have:=uH HL;omega)]),uH HB⟩
theorem sO (g:Nat) (lb:Array Value) (eg:∀args w,(callFunc g args).run Tryz.prog w=.ok (.enter g args) w) (p:bN→Bool) (ao:Option Addr) (len cap:Nat) (l:List bN) (w:World) (h:iC w ao len l) (hl:len≤1048576)
  (hp:∀wx (q:bN) xo xl xc,Bw w wx→xl=q.asks.length→Calls Tryz.prog g (#[aHj q.id q.queue xo xl xc]++lb) wx fun e w'=>e=.returned (.bool (p q))∧Bw wx w') :
  cP 133 #[.slice ao len cap,.func (.func g) #[] lb] w fun e w'=>e=.returned (.bool (l.any p))∧Bw w w':=by
 have C:=aA (aAC g lb eg p ao len cap l w h hl hp)
 have HS:=aA (aEl p l 0)
 obtain ⟨i,hi⟩:∃i,aGI p l 0=i:=⟨_,rfl⟩
 obtain ⟨b,hb⟩:∃b,l.any p=b:=⟨_,rfl⟩
 rw [hi] at C HS
 rw [hb] at HS ⊢
 clear h hp hi hb
 go_enter Tryz.func133,Tryz.ntmps133
 go_wp2_with fail
 refine (uH C).mono ?_
 rintro e w1 ⟨rfl,hb⟩
 have HB:=aA hb
 clear hb
 by_cases h0:0≤i
 ·go_wp2
  go_ret
  exact ⟨yF (by first | exact uH HS | (rw [←uH HS];simp [h0])),uH HB⟩
 ·go_wp2
  go_ret
  exact ⟨yF (by first | exact uH HS | (rw [←uH HS];simp [h0])),uH HB⟩
def zX (nm:List UInt8) (q:bN):Bool:=decide (q.queue=nm)&&decide (0<q.asks.length)
def kC (s:St) (nm:List UInt8):Bool:=s.apps.any (zX nm)
theorem aFR (B:Nat) (nm:List UInt8) (id:Int) (qu:List UInt8) (xo:Option Addr) (xl xc:Nat) (w:World) (hc:w.cell? ⟨B,0,none⟩=some (.string (bs nm))) :
  cP 134 #[aHj id qu xo xl xc,.pointer (some ⟨B,0,none⟩)] w fun e w'=>e=.returned (.bool (decide (qu=nm)&&decide (0<xl)))∧Bw w w':=by
 have hlt:=yG hc
 have hc2:(w.alloc (.cells #[.int .i64 id,.string (bs qu),.slice xo xl xc] 48)).cell? ⟨B,0,none⟩=some (.string (bs nm)):=by rw [World.cell?_alloc_lt _ _ ⟨B,0,none⟩ hlt];exact hc
 have hbe:=lL qu nm
 clear hc hlt
 by_cases h1:qu=nm
 ·rw [decide_eq_true h1] at hbe ⊢
  by_cases h2:0<xl
  ·have h3:(0:Int)<xl:=by omega
   rw [decide_eq_true h2]
   clear h1 h2
   go_enter Tryz.func134,Tryz.ntmps134
   go_wp2
   go_ret
   exact ⟨yF (by simp;omega),yA (yH _ _) _⟩
  ·have h3:¬(0:Int)<xl:=by omega
   rw [decide_eq_false h2]
   clear h1 h2
   go_enter Tryz.func134,Tryz.ntmps134
   go_wp2
   go_ret
   exact ⟨yF (by simp;omega),yA (yH _ _) _⟩
 ·rw [decide_eq_false h1] at hbe ⊢
  rw [Bool.false_and]
  clear h1
  go_enter Tryz.func134,Tryz.ntmps134
  go_wp2
  go_ret
  exact ⟨rfl,yA (yH _ _) _⟩
def aJb (w:World) (c:Array Value) (nm:List UInt8):World:=(w.alloc (.cells c 29)).alloc (.cells #[.string (bs nm)] 9)
theorem xB (w:World) (c:Array Value) (nm:List UInt8):Bw w (aJb w c nm):=yA (yA (yH _ w) _) _
theorem aAT (w:World) (c:Array Value) (nm:List UInt8):(aJb w c nm).cell? ⟨w.heap.size+1,0,none⟩=some (.string (bs nm)):=by
 have:=(yD (w.alloc (.cells c 29)) #[.string (bs nm)] 9).at 0
 rw [yE] at this
 exact this
theorem yN (x:Sls) (s:St) (nm:List UInt8) (w:World) (h:gU w x s) (hf:dI s) :
  cP 81 #[sv x s,.string (bs nm)] w fun e w'=>e=.returned (.bool (kC s nm))∧Bw w w':=by
 have KQ:∀(fn:Fn) (first cap:Array Value) (w:World),(Instr.makeFunc fn first cap).run Tryz.prog w=.ok (.func fn first cap) w:=fun _ _ _ _=>rfl
 have hal:x.al≤1048576:=by have:=h.len.2.1;have:=hf.2.1.1;omega
 have CU:=aA (sO 134 #[.pointer (some ⟨w.heap.size+1,0,none⟩)] (enters_of Tryz.func134 (by kernel_rfl) rfl) (zX nm) x.aa x.al x.ac s.apps (aJb w (svc x s) nm) (h.2.1.below (xB w _ nm)) hal
   (fun wy q xo xl xc hy hx=>by
    have:=aFR (w.heap.size+1) nm q.id q.queue xo xl xc wy ((hy.cell (p:=⟨w.heap.size+1,0,none⟩) (yG (aAT w _ nm))).trans (aAT w _ nm))
    rw [hx] at this ⊢
    exact this))
 obtain ⟨o,ho⟩:∃o,kC s nm=o:=⟨_,rfl⟩
 rw [show s.apps.any (zX nm)=o from ho] at CU
 rw [ho]
 clear ho h hf
 obtain ⟨qa,ql,qc,aa,al,ac,ma,ml,mc,ca,cl,cc⟩:=x
 obtain ⟨qs,cv,ez,nv,sj,aj,ms,cs⟩:=s
 go_enter Tryz.func81,Tryz.ntmps81
 go_wp2_with fail
 refine (uH CU).mono ?_
 rintro e w1 ⟨rfl,hb⟩
 have HB1:=aA (yB (xB w _ nm) hb)
 clear hb CU
 go_wp2
 go_ret
 exact ⟨rfl,uH HB1⟩
theorem aJB {p:bN→Bool} {l:List bN} (h:k<l.length):(l.drop k).any p=(p l[k]||(l.drop (k+1)).any p):=by
 rw [List.drop_eq_getElem_cons h,List.any_cons]
theorem wQ (x:Sls) (s:St) (nm:List UInt8) (w:World) (h:gU w x s) (hf:dI s) :
  cP 57 #[sv x s,.string (bs nm)] w fun e w'=>e=.returned (.bool (kC s nm))∧Bw w w':=by
 have hal:x.al≤1048576:=by have:=h.len.2.1;have:=hf.2.1.1;omega
 have HR:=aA h.2.1
 have HL:=aA h.len.2.1
 have HB0:=aA (yA (yH _ w) (.cells (svc x s) 29))
 have P0:=aA (yD w (svc x s) 29)
 obtain ⟨o,ho⟩:∃o,kC s nm=o:=⟨_,rfl⟩
 have HO:=aA (show (s.apps.drop 0).any (zX nm)=o from ho)
 rw [ho]
 clear ho h hf
 obtain ⟨qa,ql,qc,aa,al,ac,ma,ml,mc,ca,cl,cc⟩:=x
 obtain ⟨qs,cv,ez,nv,sj,aj,ms,cs⟩:=s
 simp only at hal HR HL HO
 go_enter Tryz.func57,Tryz.ntmps57
 go_wp2
 go_loopw [5] (fun i wr=>∃(k:Nat),k≤al∧i=.int .i64 k∧Hid ((aj.drop k).any (zX nm)=o)∧Hid (Blk wr w.heap.size (svc ⟨qa,ql,qc,aa,al,ac,ma,ml,mc,ca,cl,cc⟩ ⟨qs,cv,ez,nv,sj,aj,ms,cs⟩) 29)∧Hid (Bw w wr)) (fun i _=>al - (intOf i).toNat)
 case atStart=>exact ⟨0,Nat.zero_le _,rfl,HO,P0,HB0⟩
 case round=>
  obtain ⟨k,hk,rfl,HQ,HP,HB⟩:=hrel
  have p5:=(uH HP).at 5
  simp at p5
  by_cases hlt:k<al
  ·obtain ⟨b,off,rfl,hx⟩:=((uH HR).below (uH HB)).at hlt
   have hkl:k<aj.length:=by have:=uH HL;omega
   have hst:=aJB (p:=zX nm) hkl
   obtain ⟨xo,xl,xc,c0,c1,c2,Hw,_⟩:=hx hkl
   clear hx
   obtain ⟨⟨id,qu,asks⟩,hs⟩:∃s,aj[k]=s:=⟨_,rfl⟩
   rw [hs] at c0 c1 hst Hw
   simp only at c0 c1
   have hbe:=lL qu nm
   have VZ:zX nm ⟨id,qu,asks⟩=(decide (qu=nm)&&decide (0<xl)):=by simp [zX,Hw.1]
   rw [VZ] at hst
   rw [uH HQ] at hst
   clear hs hkl Hw VZ
   by_cases h1:qu=nm
   ·rw [decide_eq_true h1] at hbe hst
    by_cases h2:0<xl
    ·have h3:(0:Int)<xl:=by omega
     have hot:o=true:=by rw [hst,decide_eq_true h2];simp
     subst hot
     clear h1 h2 hst
     go_wp2
     go_ret
     exact ⟨rfl,uH HB⟩
    ·have h3:¬(0:Int)<xl:=by omega
     rw [decide_eq_false h2] at hst
     have HN:=aA (show (aj.drop (k+1)).any (zX nm)=o by simpa using hst.symm)
     clear h1 h2 hst
     go_wp2
     go_roundw
     case rel=>exact ⟨k+1,by omega,by go_num,HN,HP,HB⟩
     case measure=>simp [intOf];omega
   ·rw [decide_eq_false h1] at hbe hst
    have HN:=aA (show (aj.drop (k+1)).any (zX nm)=o by simpa using hst.symm)
    clear h1 hst
    go_wp2
    go_roundw
    case rel=>exact ⟨k+1,by omega,by go_num,HN,HP,HB⟩
    case measure=>simp [intOf];omega
  ·have hof:o=false:=by rw [←uH HQ,List.drop_of_length_le (by have:=uH HL;omega)];rfl
   subst hof
   go_wp2
   go_ret
   exact ⟨rfl,uH HB⟩
theorem aBZ (a b n:Int) (w:World) :
  cP 152 #[rv a b,.int .i64 n] w fun e w'=>e=.returned (rv (fA a b n) (fB a b n))∧Bw w w':=by
 cases h1:aM a b
 ·rw [show fA a b n=0 by simp [fA,gH,h1],show fB a b n=0 by simp [fB,gH,h1]]
  go_enter Tryz.func152,Tryz.ntmps152
  go_wp2_with (go_at_call 115;refine (qG _ _ _).mono ?_;rintro e w' ⟨rfl,rfl⟩)
  refine bodyPost_ret (v:=rv 0 0) (by simp [results,Tryz.results152,go_sem]) rfl ⟨rfl,?_⟩
  repeat (first | exact yH _ _ | refine yA ?_ _ | refine Below.drew ?_ | refine yC ?_ _ _ _ (by omega))
 ·cases h2:inB n 0 10000
  ·rw [show fA a b n=0 by simp [fA,gH,h2],show fB a b n=0 by simp [fB,gH,h2]]
   by_cases n0:n<0
   ·go_enter Tryz.func152,Tryz.ntmps152
    go_wp2_with (go_at_call 115;refine (qG _ _ _).mono ?_;rintro e w' ⟨rfl,rfl⟩)
    refine bodyPost_ret (v:=rv 0 0) (by simp [results,Tryz.results152,go_sem]) rfl ⟨rfl,?_⟩
    repeat (first | exact yH _ _ | refine yA ?_ _ | refine Below.drew ?_ | refine yC ?_ _ _ _ (by omega))
   ·have n1:10000<n:=by
     apply Int.not_le.1
     intro h
     have:inB n 0 10000=true:=cZ (by omega) h
     rw [this] at h2;cases h2
    go_enter Tryz.func152,Tryz.ntmps152
    go_wp2_with (go_at_call 115;refine (qG _ _ _).mono ?_;rintro e w' ⟨rfl,rfl⟩)
    refine bodyPost_ret (v:=rv 0 0) (by simp [results,Tryz.results152,go_sem]) rfl ⟨rfl,?_⟩
    repeat (first | exact yH _ _ | refine yA ?_ _ | refine Below.drew ?_ | refine yC ?_ _ _ _ (by omega))
  ·rw [show fA a b n=a*n / 10000 by simp [fA,gH,h1,h2],show fB a b n=b*n / 10000 by simp [fB,gH,h1,h2]]
   obtain ⟨q1,q2,q3,q4⟩:=aO h1
   have hn:0≤n∧n≤10000:=by simpa [inB] using h2
   obtain ⟨m1,m2⟩:=uI q1 q2 hn.1 hn.2
   obtain ⟨m3,m4⟩:=uI q3 q4 hn.1 hn.2
   go_enter Tryz.func152,Tryz.ntmps152
   go_wp2_with (go_at_call 115;refine (qG _ _ _).mono ?_;rintro e w' ⟨rfl,rfl⟩)
   refine bodyPost_ret (v:=rv (a*n / 10000) (b*n / 10000)) (by simp [results,Tryz.results152,go_sem]) rfl ⟨rfl,?_⟩
   repeat (first | exact yH _ _ | refine yA ?_ _ | refine Below.drew ?_ | refine yC ?_ _ _ _ (by omega))
end
section
open Go.RowKit Go.Shelf
attribute [local go_sem] Oper.semAt_some
theorem bG.kpa {W W':World} {ao:Option Addr} {len:Nat} {l:List Con} (h:bG W ao len l) (k:KpA W W'):bG W' ao len l:=by
 obtain ⟨h1,h2⟩:=h
 refine ⟨h1,?_⟩
 rcases h2 with h2 | ⟨b,off,h3,h4⟩
 ·exact .inl h2
 ·exact .inr ⟨b,off,h3,fun i hi=>let ⟨a,b,c,d,e⟩:=h4 i hi;⟨k.cell a,k.cell b,k.cell c,k.cell d,k.cell e⟩⟩
abbrev CIx (ms:List Con):={ p:Int×Con // ∃k,∃h:k<ms.length,p=((k:Int),ms[k]) }
def cpl {ms:List Con} (pre:List (CIx ms)):List Nat:=pre.map (fun x=>x.1.1.toNat)
theorem aFt (n l Bs len cap:Nat) (ao:Option Addr) (ms:List Con) (J Jx:List (CIx ms)→World→Prop)
  (hY:∀pre x W1,J pre W1→pre.length<ms.length→YieldAt Fence.wide (n - 1) Tryz.prog l #[.int .i64 x.1.1,conv x.1.2] W1 fun e W'=>
   (e=.returned (.bool true)∧J (pre++[x]) W'∧KpA W1 W')∨(e=.returned (.bool false)∧Jx (pre++[x]) W'))
  (W:World) (GQ:W.cell? ⟨Bs,0,none⟩=some (.slice ao len cap)) (hg:bG W ao len ms) (hl:len≤1048576) (h0:J [] W) :
  CallsIn Fence.wide n Tryz.prog 182 #[.func (.yield l) #[] #[],.pointer (some ⟨Bs,0,none⟩)] W fun e W'=>(∃v,e=.returned v)∧
   ((∃ys:List (CIx ms),Hid (cpl ys=(List.range ms.length).reverse)∧J ys W')∨(∃pre:List (CIx ms),Hid (List.IsPrefix (cpl pre) (List.range ms.length).reverse)∧Jx pre W')):=by
 have HY:=aA hY
 have yw:=aA GQ
 have HG:=aA hg
 have Gj:=aA hg.1
 have H0:=aA h0
 clear hY hg h0
 refine callsIn_of_wp Tryz.func182 rfl trivial ?_ rfl
 simp only [Tryz.ntmps182,List.size_toArray,List.length_cons,List.length_nil,Nat.reduceAdd,Nat.reduceSub,Array.replicate_succ,Array.replicate_zero,List.push_toArray,List.append_toArray,List.nil_append,List.cons_append]
 gi_wp2
 clear GQ
 gi_loopw [3] (fun i wr=>∃(k:Nat) (pre:List (CIx ms)),k≤len∧i=.int .i64 ((k:Int) - 1)∧Hid (pre.length+k=ms.length)∧Hid (cpl pre=((List.range ms.length).drop k).reverse)∧Hid (J pre wr)∧Hid (wr.cell? ⟨Bs,0,none⟩=some (.slice ao len cap))∧Hid (bG wr ao len ms)) (fun i _=>(intOf i+1).toNat)
 case atStart=>exact ⟨len,[],yJ _,by go_num,aA (by have:=uH Gj;simp;omega),aA (by rw [List.drop_of_length_le (by rw [List.length_range];have:=uH Gj;omega)];rfl),H0,yw,HG⟩
 case round=>
  obtain ⟨k,pre,hk,rfl,HL,HM,HJ,HB,XF⟩:=hrel
  cases k with
  | zero=>
   gi_wp2
   go_end0
   exact ⟨⟨_,rfl⟩,.inl ⟨pre,aA (by rw [uH HM];rfl),uH HJ⟩⟩
  | succ j=>
   have hj:j<len:=by omega
   obtain ⟨b,off,rfl,hq⟩:=(uH XF).at hj
   have hjm:j<ms.length:=by have:=uH Gj;omega
   obtain ⟨c0,c1,c2,c3,c4⟩:=hq hjm
   have Qx:=uH HB
   obtain ⟨y,ZE⟩:∃y:CIx ms,y=⟨((j:Int),ms[j]),j,hjm,rfl⟩:=⟨_,rfl⟩
   have hy1:y.1.1=(j:Int):=by rw [ZE]
   have hy2:y.1.2=ms[j]:=by rw [ZE]
   obtain ⟨fn,tmps,assign,body,hy,hR⟩:=uH HY pre y wr (uH HJ) (by have:=uH HL;omega)
   have HRR:=aA hR
   have QD:=aA (show cpl (pre++[y])=((List.range ms.length).drop j).reverse by
    rw [List.drop_eq_getElem_cons (show j<(List.range ms.length).length by rw [List.length_range];exact hjm),List.reverse_cons,List.getElem_range,←uH HM,cpl,cpl,List.map_append]
    simp [hy1])
   have hij:((j+1:Nat):Int) - 1=(j:Int):=by omega
   obtain ⟨⟨yi,id,ap,nd,me,cp⟩,hyx⟩:=y
   simp only at hy1 hy2 hy
   subst hy1
   rw [←hy2] at c0 c1 c2 c3 c4
   simp only at c0 c1 c2 c3 c4
   rw [hij]
   have j0:(0:Int)≤j:=by omega
   have j1:(j:Int)<len:=by omega
   clear hR ZE hy2 hij HM hq hjm
   gi_wp2
   refine ⟨(by intro e;cases e),?_⟩
   refine (uH HRR).mono ?_
   rintro e W3 (⟨rfl,hJ3,hk3⟩ | ⟨rfl,QN⟩)
   ·have HB3:=aA (hk3.cell (uH HB))
    have vk:=aA ((uH XF).kpa hk3)
    have Ky:=aA hJ3
    clear hk3 hJ3 Qx hy HRR c0 c1 c2 c3 c4
    gi_wp2
    go_roundw
    case rel=>exact ⟨j,pre++[⟨((j:Int),⟨id,ap,nd,me,cp⟩),hyx⟩],by omega,by go_num,aA (by have:=uH HL;simp;omega),QD,Ky,HB3,vk⟩
    case measure=>simp [intOf]
   ·gi_wp2
    refine bodyPost_ret (results_none rfl _ _ _) rfl ?_
    exact ⟨⟨_,rfl⟩,.inr ⟨_,aA (by rw [uH QD];exact List.reverse_prefix.mpr (List.drop_suffix j _)),QN⟩⟩
theorem aDz (n Bs len cap:Nat) (ao:Option Addr) (ms:List Con) (w:World) (GQ:w.cell? ⟨Bs,0,none⟩=some (.slice ao len cap)) (Hw:bG w ao len ms) (hl:len≤1048576) :
  SeqStopsK Fence.wide n Tryz.prog 182 #[.pointer (some ⟨Bs,0,none⟩)] (fun x:CIx ms=>#[.int .i64 x.1.1,conv x.1.2]) KpA (fun ys=>Hid (cpl ys=(List.range ms.length).reverse)) (fun pre=>Hid (List.IsPrefix (cpl pre) (List.range ms.length).reverse)) ms.length w:=by
 intro l J Jx W hW hJ hJx hY h0
 refine (aFt n l Bs len cap ao ms J Jx hY W ((hW.cell (yG GQ)).trans GQ) (Hw.below hW) hl h0).mono ?_
 rintro e W' ⟨he,⟨ys,h1,h2⟩ | ⟨pre,h1,h2⟩⟩
 ·exact ⟨he,.inl ⟨ys,h1,h2⟩⟩
 ·exact ⟨he,.inr ⟨pre,h1,h2⟩⟩
theorem aHe (v:Value) (w:World) (hv:v.oneCell'=true) :
  cP 143 #[v] w fun e w'=>e=.returned (.func (.func 182) #[] #[.pointer (some ⟨w.heap.size,0,none⟩)])∧w.alloc (.cells #[v] 27)=w':=by
 have KQ:∀(fn:Fn) (first cap:Array Value) (w:World),(Instr.makeFunc fn first cap).run Tryz.prog w=.ok (.func fn first cap) w:=fun _ _ _ _=>rfl
 go_enter Tryz.func143,Tryz.ntmps143
 go_wp2
 go_ret
 exact ⟨rfl,rfl⟩
end
end Go.Proofs.YtngkddhcmfbjnaaGreat
