/-
  Texts in one: KKey, KpAB, BackM, ARow, BackT, BackC, VicT, Cel, MarkFM, MarkFC, MarkAM, MarkA, OwnM, CloneQ, MarkS.
-/
import Derived.Test.YtokabeokclpljaaGreatSackE
import Derived.Maps.OwnSet
import Derived.Maps.Views
import Derived.DeepKeys4
import Derived.RangeFuncNested
import Derived.RangeFuncBound
import Derived.RangeFuncCalls
import Derived.RangeFuncLeaves
import Derived.Shelf.Abstract
import Derived.Shelf.AbstractIn
import Derived.Shelf.RegionOpen
import Derived.OwnWalkIn
import Derived.TacticsInMore
import Derived.LoopNIn
import Derived.LoopIn
import Derived.Test.YtokabeokclpljaaGreatSackB
import Derived.Lib.SliceRun
set_option maxRecDepth 100000
set_option maxHeartbeats 16000000
set_option linter.unusedVariables false
set_option linter.unusedSimpArgs false
namespace Go.Proofs.YtokabeokclpljaaGreat
section
open Go.RowKit Go.Maps
abbrev keyv (nm:List UInt8) (k:Int):Value:=.agg #[.string (bs nm),.int .i64 k]
theorem keyLaidOut:laidOutB Tryz.prog=true:=by kernel_rfl
theorem keyRow:(160:TypeId)<Tryz.prog.types.size:=of_decide_eq_true (by kernel_rfl)
theorem keyWide:(match Tryz.prog.underlying 160 with | some (.array _ _) | some (.struct _)=>true | _=>false)=true:=by kernel_rfl
theorem keyLaw:Keyed Tryz.prog 160:=Keyed.of_law (deep_law_laid keyLaidOut (m:=3) (by omega) keyRow (by kernel_rfl) keyWide)
theorem keyKeyType:Tryz.prog.keyType 160=true:=by kernel_rfl
theorem keyCells:Tryz.prog.cellsOf 160=2:=by kernel_rfl
theorem keyIntCells:Tryz.prog.cellsOf 3=1:=by kernel_rfl
theorem keyStrCells:Tryz.prog.cellsOf 9=1:=by kernel_rfl
theorem keyTypesMany:∃m,Tryz.prog.types.size+1=m+2:=⟨Tryz.prog.types.size - 1,by have:3≤Tryz.prog.types.size:=of_decide_eq_true (by kernel_rfl);omega⟩
theorem klits_int (n:Nat) {a:Int} (h:(Lit.int .i64 a).wf=true):Tryz.prog.keyLits (n+1) 3 [.int .i64 a]=some [.int .i64 a]:=by
 simp [Program.keyLits,Tryz.underlying3,h]
theorem klits_str (n:Nat) {s:ByteArray} (h:s.size≤maxLen):Tryz.prog.keyLits (n+1) 9 [.string s]=some [.string s.data.toList]:=by
 simp [Program.keyLits,Tryz.underlying9,h]
theorem keyKey {nm:List UInt8} {k:Int} (hn:nm.length≤9223372036854775807) (hk:(Lit.int .i64 k).wf=true):∃kl,keyOf Tryz.prog 160 (keyv nm k)=some kl:=by
 obtain ⟨m,hm⟩:=keyTypesMany
 have hs:(bs nm).size≤maxLen:=by rw [bs_size];exact hn
 have h:Tryz.prog.keyLits (m+2) 160 [.string (bs nm),.int .i64 k]=some [.string (bs nm).data.toList,.int .i64 k]:=by
  have h:=Tryz.underlying160
  unfold Program.keyLits
  simp [h,keyCells,keyIntCells,keyStrCells,klits_int m hk,klits_str m hs]
 have hu:=Tryz.underlying160
 have hk:keyOf Tryz.prog 160 (keyv nm k)=if Tryz.prog.keyType 160&&(keyv nm k).formed Tryz.prog 160 then (Tryz.prog.keyLits (Tryz.prog.types.size+1) 160 (keyv nm k).cells.toList).map (fun ls=>.string (keyBytes ls)) else none:=by
  unfold keyOf
  rw [hu]
 rw [hk,if_pos (by simp [keyKeyType,Value.formed,hu,keyCells]),hm,show (keyv nm k).cells.toList=[.string (bs nm),.int .i64 k] from rfl,h]
 exact ⟨_,rfl⟩
theorem bs_data (s:ByteArray):bs s.data.toList=s:=by simp [bs]
end
section
open Go.RowKit Go.Shelf
def KpA (W W':World):Prop:=∀(k:Nat) (o:Obj),W.heap[k]? = some o→o.isCells=true→W'.heap[k]? = some o
theorem kpa_t {A B C:World} (h:KpA A B) (k:KpA B C):KpA A C:=fun i o ho hc=>k i o (h i o ho hc) hc
theorem kpa_b {w:World} (W:World) (l:Nat) (o o':Obj) (hl:w.heap.size≤l) (h:W.heap[l]? = some o) (h1:o.isCells=false) (h2:o.isWalk=false):KpA W (W.putObj l o'):=fun k q hq hc=>by
 have hne:k≠l:=fun e=>by
  subst e
  rw [hq] at h
  cases h
  rw [h1] at hc
  cases hc
 exact ((grownBy_putObj' W l o').block k (lt_of_block hq) (by simp;omega)).trans hq
theorem kpa_below {W W':World} (h:Below W.heap.size W W'):KpA W W':=fun k o ho _=>(h.block k (lt_of_block ho)).trans ho
theorem cell_cells {W:World} {b j:Nat} {v:Value} (hc:W.cell? ⟨b,j,none⟩=some v):∃o,W.heap[b]? = some o∧o.isCells=true:=by
 cases h:W.heap[b]? with
 | none=>simp [World.cell?,h] at hc
 | some o=>
  refine ⟨o,rfl,?_⟩
  cases o<;>simp [World.cell?,h] at hc<;>rfl
theorem KpA.cell {W W':World} (h:KpA W W') {b j:Nat} {v:Value} (hc:W.cell? ⟨b,j,none⟩=some v):W'.cell? ⟨b,j,none⟩=some v:=by
 obtain ⟨o,h1,h2⟩:=cell_cells hc
 have h3:=h b o h1 h2
 unfold World.cell? at hc ⊢
 rw [h1] at hc
 rw [h3]
 exact hc
theorem keepsO_below {w w':World} (hb:Below w.heap.size w w'):KeepsOthers w w':=KeepsOthers.of_grownBy (row:=none) (grownBy_below (grownBy_refl w none) hb) (fun j o e=>by cases e)
attribute [local go_sem] Oper.semAt_some
abbrev NMac:={ m:Mac // m.name.length≤1048576 }
theorem MacRow.kpa {W W':World} {ao:Option Addr} {len:Nat} {l:List Mac} (h:MacRow W ao len l) (k:KpA W W'):MacRow W' ao len l:=by
 obtain ⟨h1,h2⟩:=h
 refine ⟨h1,?_⟩
 rcases h2 with h2 | ⟨b,off,h3,h4⟩
 ·exact .inl h2
 ·exact .inr ⟨b,off,h3,fun i hi=>let ⟨a,b,c,d⟩:=h4 i hi;⟨k.cell a,k.cell b,k.cell c,k.cell d⟩⟩
theorem backM_some (n l Bs len cap:Nat) (ao:Option Addr) (ms:List Mac) (J Jx:List (Int×NMac)→World→Prop)
  (hY:∀pre x W1,J pre W1→pre.length<ms.length→YieldAt Fence.wide (n - 1) Tryz.prog l #[.int .i64 x.1,macv x.2.1] W1 fun e W'=>
   (e=.returned (.bool true)∧J (pre++[x]) W'∧KpA W1 W')∨(e=.returned (.bool false)∧Jx (pre++[x]) W'))
  (W:World) (hBs:W.cell? ⟨Bs,0,none⟩=some (.slice ao len cap)) (hg:MacRow W ao len ms) (hl:len≤1048576) (hN:∀m ∈ ms,m.name.length≤1048576) (h0:J [] W) :
  CallsIn Fence.wide n Tryz.prog 194 #[.func (.yield l) #[] #[],.pointer (some ⟨Bs,0,none⟩)] W fun e W'=>(∃v,e=.returned v)∧
   ((∃ys:List (Int×NMac),Hid (ys.map (fun x:Int×NMac=>x.2.1)=ms.reverse)∧J ys W')∨(∃pre,Jx pre W')):=by
 have HY:=hide hY
 have HBs:=hide hBs
 have HG:=hide hg
 have HLEN:=hide hg.1
 have H0:=hide h0
 have HNN:=hide hN
 clear hY hg h0 hN
 refine callsIn_of_wp Tryz.func194 rfl trivial ?_ rfl
 simp only [Tryz.ntmps194,List.size_toArray,List.length_cons,List.length_nil,Nat.reduceAdd,Nat.reduceSub,Array.replicate_succ,Array.replicate_zero,List.push_toArray,List.append_toArray,List.nil_append,List.cons_append]
 gi_wp2
 clear hBs
 gi_loopw [3] (fun i wr=>∃(k:Nat) (pre:List (Int×NMac)),k≤len∧i=.int .i64 ((k:Int) - 1)∧Hid (pre.length+k=ms.length)∧Hid (pre.map (fun x:Int×NMac=>x.2.1)=(ms.drop k).reverse)∧Hid (J pre wr)∧Hid (wr.cell? ⟨Bs,0,none⟩=some (.slice ao len cap))∧Hid (MacRow wr ao len ms)) (fun i _=>(intOf i+1).toNat)
 case atStart=>exact ⟨len,[],yJ _,by go_num,hide (by have:=uH HLEN;simp;omega),hide (by rw [List.drop_of_length_le (by have:=uH HLEN;omega)];rfl),H0,HBs,HG⟩
 case round=>
  obtain ⟨k,pre,hk,rfl,HL,HM,HJ,HB,HGr⟩:=hrel
  cases k with
  | zero=>
   gi_wp2
   go_end0
   exact ⟨⟨_,rfl⟩,.inl ⟨pre,hide (by rw [uH HM];rfl),uH HJ⟩⟩
  | succ j=>
   have hj:j<len:=by omega
   obtain ⟨b,off,rfl,hq⟩:=(uH HGr).at hj
   have hjm:j<ms.length:=by have:=uH HLEN;omega
   obtain ⟨c0,c1,c2,c3⟩:=hq hjm
   have hbox:=uH HB
   have hel:=uH HNN ms[j] (yM _)
   obtain ⟨fn,tmps,assign,body,hy,hR⟩:=uH HY pre ((j:Int),⟨ms[j],hel⟩) wr (uH HJ) (by have:=uH HL;omega)
   have HRR:=hide hR
   have HM2:=hide (show (pre++[((j:Int),(⟨ms[j],hel⟩:NMac))]).map (fun x:Int×NMac=>x.2.1)=(ms.drop j).reverse by rw [List.map_append,uH HM,List.drop_eq_getElem_cons hjm,List.reverse_cons];rfl)
   have hij:((j+1:Nat):Int) - 1=(j:Int):=by omega
   obtain ⟨y,hyy⟩:∃y:NMac,(⟨ms[j],hel⟩:NMac)=y:=⟨_,rfl⟩
   have hy1:ms[j]=y.1:=by rw [←hyy]
   rw [hyy] at hy HRR HM2
   rw [hy1] at c0 c1 c2 c3
   obtain ⟨⟨nm,me,cp,se⟩,hyn⟩:=y
   simp only at hy c0 c1 c2 c3
   rw [hij]
   have j0:(0:Int)≤j:=by omega
   have j1:(j:Int)<len:=by omega
   clear hR hyy hy1 hij HM hq hjm hel
   gi_wp2
   refine ⟨(by intro e;cases e),?_⟩
   refine (uH HRR).mono ?_
   rintro e W3 (⟨rfl,hJ3,hk3⟩ | ⟨rfl,hJx3⟩)
   ·have HB3:=hide (hk3.cell (uH HB))
    have HG3:=hide ((uH HGr).kpa hk3)
    have HJ3:=hide hJ3
    clear hk3 hJ3 hbox hy HRR c0 c1 c2 c3
    gi_wp2
    go_roundw
    case rel=>exact ⟨j,pre++[((j:Int),⟨⟨nm,me,cp,se⟩,hyn⟩)],by omega,by go_num,hide (by have:=uH HL;simp;omega),HM2,HJ3,HB3,HG3⟩
    case measure=>simp [intOf]
   ·gi_wp2
    refine bodyPost_ret (results_none rfl _ _ _) rfl ?_
    exact ⟨⟨_,rfl⟩,.inr ⟨_,hJx3⟩⟩
theorem backM_stops (n Bs len cap:Nat) (ao:Option Addr) (ms:List Mac) (w:World) (hBs:w.cell? ⟨Bs,0,none⟩=some (.slice ao len cap)) (hrow:MacRow w ao len ms) (hl:len≤1048576) (hN:∀m ∈ ms,m.name.length≤1048576) :
  SeqStopsK Fence.wide n Tryz.prog 194 #[.pointer (some ⟨Bs,0,none⟩)] (fun x:Int×NMac=>#[.int .i64 x.1,macv x.2.1]) KpA (fun ys=>Hid (ys.map (fun x:Int×NMac=>x.2.1)=ms.reverse)) (fun _=>True) ms.length w:=by
 intro l J Jx W hW hJ hJx hY h0
 refine (backM_some n l Bs len cap ao ms J Jx hY W ((hW.cell (yG hBs)).trans hBs) (hrow.below hW) hl hN h0).mono ?_
 rintro e W' ⟨he,⟨ys,h1,h2⟩ | ⟨pre,h2⟩⟩
 ·exact ⟨he,.inl ⟨ys,h1,h2⟩⟩
 ·exact ⟨he,.inr ⟨pre,trivial,h2⟩⟩
theorem backM_any (v:Value) (w:World) (hv:v.oneCell'=true) :
  Calls Tryz.prog 164 #[v] w fun e w'=>e=.returned (.func (.func 194) #[] #[.pointer (some ⟨w.heap.size,0,none⟩)])∧w.alloc (.cells #[v] 33)=w':=by
 have hmf:∀(fn:Fn) (first cap:Array Value) (w:World),(Instr.makeFunc fn first cap).run Tryz.prog w=.ok (.func fn first cap) w:=fun _ _ _ _=>rfl
 go_enter Tryz.func164,Tryz.ntmps164
 go_wp2
 go_ret
 exact ⟨rfl,rfl⟩
theorem macKey_any (m:Mac) (w:World) :
  Calls Tryz.prog 165 #[macv m] w fun e w'=>e=.returned (.agg #[.string (bs m.name),.int .i64 0])∧Below w.heap.size w w':=by
 obtain ⟨nm,me,cp,se⟩:=m
 go_enter Tryz.func165,Tryz.ntmps165
 go_wp2
 refine bodyPost_ret (v:=.agg #[.string (bs nm),.int .i64 0]) (by simp [results,Tryz.results165,go_sem]) rfl ⟨rfl,?_⟩
 repeat (first | exact yH _ _ | refine yA ?_ _ | refine Below.drew ?_ | refine yC ?_ _ _ _ (by omega))
end
section
open Go.RowKit
abbrev acell (q:Ask):List Value:=[.int .i64 q.mem,.int .i64 q.cpu,.int .i64 q.count,.string (bs q.node),.int .i64 q.missed]
def acells:List Ask→List Value
 | []=>[]
 | q::t=>acell q++acells t
theorem acells_len:∀l:List Ask,(acells l).length=l.length*5
 | []=>rfl
 | q::t=>by rw [acells,List.length_append,acells_len t];simp;omega
theorem acells_at:∀(l:List Ask) (i:Nat) (h:i<l.length),(acells l)[i*5]? = some (.int .i64 l[i].mem)∧(acells l)[i*5+1]? = some (.int .i64 l[i].cpu)∧(acells l)[i*5+2]? = some (.int .i64 l[i].count)∧(acells l)[i*5+3]? = some (.string (bs l[i].node))∧(acells l)[i*5+4]? = some (.int .i64 l[i].missed)
 | q::t,0,_=>⟨rfl,rfl,rfl,rfl,rfl⟩
 | q::t,i+1,h=>by
  have e:=acells_at t i (by simpa using h)
  have k:∀j,(acells (q::t))[(i+1)*5+j]? = (acells t)[i*5+j]?:=fun j=>by
   rw [acells,show (i+1)*5+j=(acell q).length+(i*5+j) by simp;omega,List.getElem?_append_right (by omega)]
   congr 1
   omega
  have k0:=k 0
  simp only [Nat.add_zero] at k0
  rw [k0,k 1,k 2,k 3,k 4]
  simpa using e
theorem acells_row {w:World} {b off len:Nat} {l:List Ask} (h:AskRow w (some ⟨b,off,none⟩) len l):∀j u,(acells l)[j]? = some u→w.cell? ⟨b,off+j,none⟩=some u:=fun j u hj=>by
 have hjl:j<l.length*5:=by rw [←acells_len];exact (List.getElem?_eq_some_iff.1 hj).1
 obtain ⟨h1,h2⟩:=h
 rcases h2 with h2 | ⟨b',off',e,h4⟩
 ·omega
 ·cases e
  have hi:j / 5<l.length:=by omega
  obtain ⟨a0,a1,a2,a3,a4⟩:=acells_at l (j / 5) hi
  obtain ⟨c0,c1,c2,c3,c4⟩:=h4 (j / 5) hi
  rcases (show j % 5=0∨j % 5=1∨j % 5=2∨j % 5=3∨j % 5=4 by omega) with e | e | e | e | e
  ·rw [show j=j / 5*5 by omega] at hj ⊢;rw [a0] at hj;cases hj;exact c0
  ·rw [show j=j / 5*5+1 by omega] at hj ⊢;rw [a1] at hj;cases hj;rw [←Nat.add_assoc];exact c1
  ·rw [show j=j / 5*5+2 by omega] at hj ⊢;rw [a2] at hj;cases hj;rw [←Nat.add_assoc];exact c2
  ·rw [show j=j / 5*5+3 by omega] at hj ⊢;rw [a3] at hj;cases hj;rw [←Nat.add_assoc];exact c3
  ·rw [show j=j / 5*5+4 by omega] at hj ⊢;rw [a4] at hj;cases hj;rw [←Nat.add_assoc];exact c4
theorem acells_one:∀(l:List Ask),∀u ∈ acells l,u.oneCell'=true
 | [],u,h=>by simp [acells] at h
 | q::t,u,h=>by
  rw [acells,List.mem_append] at h
  rcases h with h | h
  ·simp at h
   rcases h with rfl | rfl | rfl | rfl | rfl<;>rfl
  ·exact acells_one t u h
def AOwn (B:Nat) (w:World) (v:Value) (l:List Ask):Prop:=w.ownsRow B 140 5 v l.length (acells l)
theorem aown_nil (B:Nat) (w:World):AOwn B w (.slice none 0 0) []:=World.ownsRow_nil _ _ _ _
theorem aown_empty (w:World):w.alloc (.cells #[] 140) |>.ownsRow w.heap.size 140 5 (.slice (some ⟨w.heap.size,0,none⟩) 0 0) 0 []:=
 ⟨rfl,.inr ⟨w.heap.size,0,#[],rfl,yJ _,by show (w.heap.push _)[w.heap.size]? = _;simp,yJ _,by unfold maxLen;omega,rfl,rfl⟩⟩
theorem AOwn.below {w w':World} {B:Nat} {v:Value} {l:List Ask} (h:AOwn B w v l) (hb:Below w.heap.size w w'):AOwn B w' v l:=
 h.kept (grownBy_below (grownBy_refl w none) hb) (by by_cases e:v.ownBlock=none;exact .inl e;exact .inr e)
theorem AOwn.base {w:World} {B B':Nat} {v:Value} {l:List Ask} (h:AOwn B w v l) (hb:B'≤B):AOwn B' w v l:=by
 obtain ⟨h1,h2⟩:=h
 refine ⟨h1,?_⟩
 rcases h2 with h2 | ⟨g,cap,cur,a,b,c⟩
 ·exact .inl h2
 ·exact .inr ⟨g,cap,cur,a,Nat.le_trans hb b,c⟩
theorem AOwn.row {w:World} {B:Nat} {v:Value} {l:List Ask} (h:AOwn B w v l):∃ao cap,v=.slice ao l.length cap∧AskRow w ao l.length l∧l.length≤cap∧(l≠[]→∃g cur,ao=some ⟨g,0,none⟩∧B≤g∧w.heap[g]? = some (.cells cur 140 (0,0))∧cur.size=cap*5):=by
 rcases h.2 with ⟨rfl,h0⟩ | ⟨g,cap,cur,rfl,h1,h2,h3,h4,h5,h6⟩
 ·exact ⟨none,0,by rw [h0],⟨rfl,.inl h0⟩,by omega,fun hn=>absurd (List.length_eq_zero_iff.1 h0) hn⟩
 ·refine ⟨some ⟨g,0,none⟩,cap,rfl,⟨rfl,.inr ⟨g,0,rfl,fun i hi=>?_⟩⟩,h3,fun _=>⟨g,cur,rfl,h1,h2,h5⟩⟩
  obtain ⟨a,b,c,d,e⟩:=acells_at l i hi
  have k:∀j (v:Value),j<l.length*5→(acells l)[j]? = some v→w.cell? ⟨g,j,none⟩=some v:=fun j v hj hv=>by
   rw [←h6,List.getElem?_take_of_lt hj] at hv
   simp [World.cell?,h2]
   simpa using hv
  unfold AskAt
  rw [Nat.zero_add]
  exact ⟨k _ _ (by omega) a,k _ _ (by omega) b,k _ _ (by omega) c,k _ _ (by omega) d,k _ _ (by omega) e⟩
theorem Tryz.infoA:(Tryz.prog.info? 140).map (fun i=>(i.zero,i.size,i.bytes))=some (some (.agg #[.int .i64 0,.int .i64 0,.int .i64 0,.string ByteArray.empty,.int .i64 0]),5,48):=by kernel_rfl
theorem set_idem {arr:Array Value} {j:Nat} {x:Value} (h:arr[j]? = some x):arr.setIfInBounds j x=arr:=by
 apply Array.ext
 ·simp
 ·intro i h1 h2
  rw [Array.getElem_setIfInBounds]
  split
  ·rename_i e
   subst e
   rw [Array.getElem?_eq_getElem h2] at h
   exact (Option.some.inj h).symm
  ·rfl
theorem AOwn.same {w:World} {B g n cap j:Nat} {x:Value} {l:List Ask} (h:AOwn B w (.slice (some ⟨g,0,none⟩) n cap) l) (hc:w.cell? ⟨g,j,none⟩=some x):AOwn B (w.setCell ⟨g,j,none⟩ x) (.slice (some ⟨g,0,none⟩) n cap) l∧B≤g:=by
 obtain ⟨h1,h2⟩:=h
 rcases h2 with ⟨e,_⟩ | ⟨g',cap',cur,e,h3,h4,h5⟩
 ·cases e
 ·cases e
  have hx:cur[j]? = some x:=by simpa [World.cell?,h4] using hc
  refine ⟨⟨h1,.inr ⟨g,cap,cur,rfl,h3,?_,h5⟩⟩,h3⟩
  have:=heap_setCell_same w g j _ _ x h4
  rw [set_idem hx] at this
  exact this
theorem AOwn.other3 {w:World} {B:Nat} {v:Value} {l:List Ask} (h:AOwn B w v l) (k j:Nat) (x:Value) (hk:k<B):AOwn B (w.setCell ⟨k,j,none⟩ x) v l:=by
 obtain ⟨h1,h2⟩:=h
 refine ⟨h1,?_⟩
 rcases h2 with h2 | ⟨g,cap,cur,a,b,c,d⟩
 ·exact .inl h2
 ·exact .inr ⟨g,cap,cur,a,b,(heap_setCell_other w ⟨k,j,none⟩ g x (show g≠k by omega)).trans c,d⟩
end
section
open Go.RowKit Go.Shelf
attribute [local go_sem] Oper.semAt_some
def TxRow (w:World) (ao:Option Addr) (ps:List (List UInt8)):Prop:=∀j (hj:j<ps.length),∃g,ao=some ⟨g,0,none⟩∧w.cell? ⟨g,j,none⟩=some (.string (bs ps[j]))
theorem TxRow.kpa {W W':World} {ao:Option Addr} {l:List (List UInt8)} (h:TxRow W ao l) (k:KpA W W'):TxRow W' ao l:=fun j hj=>let ⟨g,a,b⟩:=h j hj;⟨g,a,k.cell b⟩
theorem TxRow.below {W W':World} {ao:Option Addr} {l:List (List UInt8)} (h:TxRow W ao l) (k:Below W.heap.size W W'):TxRow W' ao l:=fun j hj=>let ⟨g,a,b⟩:=h j hj;⟨g,a,(k.cell (yG b)).trans b⟩
theorem backT_some (n l Bs len cap:Nat) (ao:Option Addr) (ms:List (List UInt8)) (J Jx:List (Int×List UInt8)→World→Prop)
  (hY:∀pre x W1,J pre W1→pre.length<ms.length→YieldAt Fence.wide (n - 1) Tryz.prog l #[.int .i64 x.1,Value.string (bs x.2)] W1 fun e W'=>
   (e=.returned (.bool true)∧J (pre++[x]) W'∧KpA W1 W')∨(e=.returned (.bool false)∧Jx (pre++[x]) W'))
  (W:World) (hBs:W.cell? ⟨Bs,0,none⟩=some (.slice ao len cap)) (hlen:len=ms.length) (hg:TxRow W ao ms) (hl:len≤1048576) (h0:J [] W) :
  CallsIn Fence.wide n Tryz.prog 139 #[.func (.yield l) #[] #[],.pointer (some ⟨Bs,0,none⟩)] W fun e W'=>(∃v,e=.returned v)∧
   ((∃ys:List (Int×List UInt8),Hid (ys.map (fun x:Int×List UInt8=>x.2)=ms.reverse)∧J ys W')∨(∃pre:List (Int×List UInt8),Hid (List.IsPrefix (pre.map (fun x:Int×List UInt8=>x.2)) ms.reverse)∧Jx pre W')):=by
 have HY:=hide hY
 have HBs:=hide hBs
 have HG:=hide hg
 have HLEN:=hide hlen
 have H0:=hide h0
 clear hY hg h0 hlen
 refine callsIn_of_wp Tryz.func139 rfl trivial ?_ rfl
 simp only [Tryz.ntmps139,List.size_toArray,List.length_cons,List.length_nil,Nat.reduceAdd,Nat.reduceSub,Array.replicate_succ,Array.replicate_zero,List.push_toArray,List.append_toArray,List.nil_append,List.cons_append]
 gi_wp2
 clear hBs
 gi_loopw [3] (fun i wr=>∃(k:Nat) (pre:List (Int×List UInt8)),k≤len∧i=.int .i64 ((k:Int) - 1)∧Hid (pre.length+k=ms.length)∧Hid (pre.map (fun x:Int×List UInt8=>x.2)=(ms.drop k).reverse)∧Hid (J pre wr)∧Hid (wr.cell? ⟨Bs,0,none⟩=some (.slice ao len cap))∧Hid (TxRow wr ao ms)) (fun i _=>(intOf i+1).toNat)
 case atStart=>exact ⟨len,[],yJ _,by go_num,hide (by have:=uH HLEN;simp;omega),hide (by rw [List.drop_of_length_le (by have:=uH HLEN;omega)];rfl),H0,HBs,HG⟩
 case round=>
  obtain ⟨k,pre,hk,rfl,HL,HM,HJ,HB,HGr⟩:=hrel
  cases k with
  | zero=>
   gi_wp2
   go_end0
   exact ⟨⟨_,rfl⟩,.inl ⟨pre,hide (by rw [uH HM];rfl),uH HJ⟩⟩
  | succ j=>
   have hj:j<len:=by omega
   have hjm:j<ms.length:=by have:=uH HLEN;omega
   obtain ⟨b,rfl,c0⟩:=uH HGr j hjm
   have hbox:=uH HB
   obtain ⟨fn,tmps,assign,body,hy,hR⟩:=uH HY pre ((j:Int),ms[j]) wr (uH HJ) (by have:=uH HL;omega)
   have HRR:=hide hR
   have HM2:=hide (show (pre++[((j:Int),ms[j])]).map (fun x:Int×List UInt8=>x.2)=(ms.drop j).reverse by rw [List.map_append,uH HM,List.drop_eq_getElem_cons hjm,List.reverse_cons];rfl)
   have hij:((j+1:Nat):Int) - 1=(j:Int):=by omega
   obtain ⟨y,hyy⟩:∃y:List UInt8,ms[j]=y:=⟨_,rfl⟩
   rw [hyy] at hy HRR HM2 c0
   simp only at hy
   rw [hij]
   have j0:(0:Int)≤j:=by omega
   have j1:(j:Int)<len:=by omega
   clear hR hyy hij HM hjm
   gi_wp2
   refine ⟨(by intro e;cases e),?_⟩
   refine (uH HRR).mono ?_
   rintro e W3 (⟨rfl,hJ3,hk3⟩ | ⟨rfl,hJx3⟩)
   ·have HB3:=hide (hk3.cell (uH HB))
    have HG3:=hide ((uH HGr).kpa hk3)
    have HJ3:=hide hJ3
    clear hk3 hJ3 hbox hy HRR c0
    gi_wp2
    go_roundw
    case rel=>exact ⟨j,pre++[((j:Int),y)],by omega,by go_num,hide (by have:=uH HL;simp;omega),HM2,HJ3,HB3,HG3⟩
    case measure=>simp [intOf]
   ·gi_wp2
    refine bodyPost_ret (results_none rfl _ _ _) rfl ?_
    exact ⟨⟨_,rfl⟩,.inr ⟨_,hide (by rw [uH HM2];exact List.reverse_prefix.mpr (List.drop_suffix j ms)),hJx3⟩⟩
theorem backT_stops (n Bs len cap:Nat) (ao:Option Addr) (ms:List (List UInt8)) (w:World) (hBs:w.cell? ⟨Bs,0,none⟩=some (.slice ao len cap)) (hlen:len=ms.length) (hrow:TxRow w ao ms) (hl:len≤1048576) :
  SeqStopsK Fence.wide n Tryz.prog 139 #[.pointer (some ⟨Bs,0,none⟩)] (fun x:Int×List UInt8=>#[.int .i64 x.1,Value.string (bs x.2)]) KpA (fun ys=>Hid (ys.map (fun x:Int×List UInt8=>x.2)=ms.reverse)) (fun pre=>Hid (List.IsPrefix (pre.map (fun x:Int×List UInt8=>x.2)) ms.reverse)) ms.length w:=by
 intro l J Jx W hW hJ hJx hY h0
 refine (backT_some n l Bs len cap ao ms J Jx hY W ((hW.cell (yG hBs)).trans hBs) hlen (hrow.below hW) hl h0).mono ?_
 rintro e W' ⟨he,⟨ys,h1,h2⟩ | ⟨pre,h1,h2⟩⟩
 ·exact ⟨he,.inl ⟨ys,h1,h2⟩⟩
 ·exact ⟨he,.inr ⟨pre,h1,h2⟩⟩
theorem backT_any (v:Value) (w:World) (hv:v.oneCell'=true) :
  Calls Tryz.prog 90 #[v] w fun e w'=>e=.returned (.func (.func 139) #[] #[.pointer (some ⟨w.heap.size,0,none⟩)])∧w.alloc (.cells #[v] 49)=w':=by
 have hmf:∀(fn:Fn) (first cap:Array Value) (w:World),(Instr.makeFunc fn first cap).run Tryz.prog w=.ok (.func fn first cap) w:=fun _ _ _ _=>rfl
 go_enter Tryz.func90,Tryz.ntmps90
 go_wp2
 go_ret
 exact ⟨rfl,rfl⟩
attribute [local go_sem] Oper.semAt_some
theorem ConRow.kpa {W W':World} {ao:Option Addr} {len:Nat} {l:List Con} (h:ConRow W ao len l) (k:KpA W W'):ConRow W' ao len l:=by
 obtain ⟨h1,h2⟩:=h
 refine ⟨h1,?_⟩
 rcases h2 with h2 | ⟨b,off,h3,h4⟩
 ·exact .inl h2
 ·exact .inr ⟨b,off,h3,fun i hi=>let ⟨a,b,c,d,e⟩:=h4 i hi;⟨k.cell a,k.cell b,k.cell c,k.cell d,k.cell e⟩⟩
abbrev CIx (ms:List Con):={ p:Int×Con // ∃k,∃h:k<ms.length,p=((k:Int),ms[k]) }
def cpl {ms:List Con} (pre:List (CIx ms)):List Nat:=pre.map (fun x=>x.1.1.toNat)
theorem backC_some (n l Bs len cap:Nat) (ao:Option Addr) (ms:List Con) (J Jx:List (CIx ms)→World→Prop)
  (hY:∀pre x W1,J pre W1→pre.length<ms.length→YieldAt Fence.wide (n - 1) Tryz.prog l #[.int .i64 x.1.1,conv x.1.2] W1 fun e W'=>
   (e=.returned (.bool true)∧J (pre++[x]) W'∧KpA W1 W')∨(e=.returned (.bool false)∧Jx (pre++[x]) W'))
  (W:World) (hBs:W.cell? ⟨Bs,0,none⟩=some (.slice ao len cap)) (hg:ConRow W ao len ms) (hl:len≤1048576) (h0:J [] W) :
  CallsIn Fence.wide n Tryz.prog 186 #[.func (.yield l) #[] #[],.pointer (some ⟨Bs,0,none⟩)] W fun e W'=>(∃v,e=.returned v)∧
   ((∃ys:List (CIx ms),Hid (cpl ys=(List.range ms.length).reverse)∧J ys W')∨(∃pre:List (CIx ms),Hid (List.IsPrefix (cpl pre) (List.range ms.length).reverse)∧Jx pre W')):=by
 have HY:=hide hY
 have HBs:=hide hBs
 have HG:=hide hg
 have HLEN:=hide hg.1
 have H0:=hide h0
 clear hY hg h0
 refine callsIn_of_wp Tryz.func186 rfl trivial ?_ rfl
 simp only [Tryz.ntmps186,List.size_toArray,List.length_cons,List.length_nil,Nat.reduceAdd,Nat.reduceSub,Array.replicate_succ,Array.replicate_zero,List.push_toArray,List.append_toArray,List.nil_append,List.cons_append]
 gi_wp2
 clear hBs
 gi_loopw [3] (fun i wr=>∃(k:Nat) (pre:List (CIx ms)),k≤len∧i=.int .i64 ((k:Int) - 1)∧Hid (pre.length+k=ms.length)∧Hid (cpl pre=((List.range ms.length).drop k).reverse)∧Hid (J pre wr)∧Hid (wr.cell? ⟨Bs,0,none⟩=some (.slice ao len cap))∧Hid (ConRow wr ao len ms)) (fun i _=>(intOf i+1).toNat)
 case atStart=>exact ⟨len,[],yJ _,by go_num,hide (by have:=uH HLEN;simp;omega),hide (by rw [List.drop_of_length_le (by rw [List.length_range];have:=uH HLEN;omega)];rfl),H0,HBs,HG⟩
 case round=>
  obtain ⟨k,pre,hk,rfl,HL,HM,HJ,HB,HGr⟩:=hrel
  cases k with
  | zero=>
   gi_wp2
   go_end0
   exact ⟨⟨_,rfl⟩,.inl ⟨pre,hide (by rw [uH HM];rfl),uH HJ⟩⟩
  | succ j=>
   have hj:j<len:=by omega
   obtain ⟨b,off,rfl,hq⟩:=(uH HGr).at hj
   have hjm:j<ms.length:=by have:=uH HLEN;omega
   obtain ⟨c0,c1,c2,c3,c4⟩:=hq hjm
   have hbox:=uH HB
   obtain ⟨y,hyy⟩:∃y:CIx ms,y=⟨((j:Int),ms[j]),j,hjm,rfl⟩:=⟨_,rfl⟩
   have hy1:y.1.1=(j:Int):=by rw [hyy]
   have hy2:y.1.2=ms[j]:=by rw [hyy]
   obtain ⟨fn,tmps,assign,body,hy,hR⟩:=uH HY pre y wr (uH HJ) (by have:=uH HL;omega)
   have HRR:=hide hR
   have HM2:=hide (show cpl (pre++[y])=((List.range ms.length).drop j).reverse by
    rw [List.drop_eq_getElem_cons (show j<(List.range ms.length).length by rw [List.length_range];exact hjm),List.reverse_cons,List.getElem_range,←uH HM,cpl,cpl,List.map_append]
    simp [hy1])
   have hij:((j+1:Nat):Int) - 1=(j:Int):=by omega
   obtain ⟨⟨yi,id,ap,nd,me,cp⟩,hyx⟩:=y
   simp only at hy1 hy2 hy
   subst hy1
   rw [←hy2] at c0 c1 c2 c3 c4
   simp only at c0 c1 c2 c3 c4
   rw [hij]
   have j0:(0:Int)≤j:=by omega
   have j1:(j:Int)<len:=by omega
   clear hR hyy hy2 hij HM hq hjm
   gi_wp2
   refine ⟨(by intro e;cases e),?_⟩
   refine (uH HRR).mono ?_
   rintro e W3 (⟨rfl,hJ3,hk3⟩ | ⟨rfl,hJx3⟩)
   ·have HB3:=hide (hk3.cell (uH HB))
    have HG3:=hide ((uH HGr).kpa hk3)
    have HJ3:=hide hJ3
    clear hk3 hJ3 hbox hy HRR c0 c1 c2 c3 c4
    gi_wp2
    go_roundw
    case rel=>exact ⟨j,pre++[⟨((j:Int),⟨id,ap,nd,me,cp⟩),hyx⟩],by omega,by go_num,hide (by have:=uH HL;simp;omega),HM2,HJ3,HB3,HG3⟩
    case measure=>simp [intOf]
   ·gi_wp2
    refine bodyPost_ret (results_none rfl _ _ _) rfl ?_
    exact ⟨⟨_,rfl⟩,.inr ⟨_,hide (by rw [uH HM2];exact List.reverse_prefix.mpr (List.drop_suffix j _)),hJx3⟩⟩
theorem backC_stops (n Bs len cap:Nat) (ao:Option Addr) (ms:List Con) (w:World) (hBs:w.cell? ⟨Bs,0,none⟩=some (.slice ao len cap)) (hrow:ConRow w ao len ms) (hl:len≤1048576) :
  SeqStopsK Fence.wide n Tryz.prog 186 #[.pointer (some ⟨Bs,0,none⟩)] (fun x:CIx ms=>#[.int .i64 x.1.1,conv x.1.2]) KpA (fun ys=>Hid (cpl ys=(List.range ms.length).reverse)) (fun pre=>Hid (List.IsPrefix (cpl pre) (List.range ms.length).reverse)) ms.length w:=by
 intro l J Jx W hW hJ hJx hY h0
 refine (backC_some n l Bs len cap ao ms J Jx hY W ((hW.cell (yG hBs)).trans hBs) (hrow.below hW) hl h0).mono ?_
 rintro e W' ⟨he,⟨ys,h1,h2⟩ | ⟨pre,h1,h2⟩⟩
 ·exact ⟨he,.inl ⟨ys,h1,h2⟩⟩
 ·exact ⟨he,.inr ⟨pre,h1,h2⟩⟩
theorem backC_any (v:Value) (w:World) (hv:v.oneCell'=true) :
  Calls Tryz.prog 145 #[v] w fun e w'=>e=.returned (.func (.func 186) #[] #[.pointer (some ⟨w.heap.size,0,none⟩)])∧w.alloc (.cells #[v] 34)=w':=by
 have hmf:∀(fn:Fn) (first cap:Array Value) (w:World),(Instr.makeFunc fn first cap).run Tryz.prog w=.ok (.func fn first cap) w:=fun _ _ _ _=>rfl
 go_enter Tryz.func145,Tryz.ntmps145
 go_wp2
 go_ret
 exact ⟨rfl,rfl⟩
end
section
open Go.RowKit
def idxTFrom (x:List UInt8):List (List UInt8)→Nat→Int
 | [],_=>-1
 | y::t,k=>if y=x then k else idxTFrom x t (k+1)
theorem idxTFrom_step {x:List UInt8} {l:List (List UInt8)} {k:Nat} (h:k<l.length):idxTFrom x (l.drop k) k=if l[k]=x then (k:Int) else idxTFrom x (l.drop (k+1)) (k+1):=by rw [List.drop_eq_getElem_cons h,idxTFrom]
theorem idxTFrom_end {x:List UInt8} {l:List (List UInt8)} {k:Nat} (h:l.length≤k):idxTFrom x (l.drop k) k = -1:=by rw [List.drop_of_length_le h];rfl
theorem idxT_has {x:List UInt8}:∀(l:List (List UInt8)) (k:Nat),decide (0≤idxTFrom x l k)=l.any (fun y=>decide (y=x))
 | [],k=>rfl
 | y::t,k=>by
  by_cases h:y=x
  ·simp [idxTFrom,h]
  ·rw [idxTFrom,if_neg h,idxT_has t]
   simp [h]
theorem indexT_any (ao:Option Addr) (len cap:Nat) (l:List (List UInt8)) (x:List UInt8) (w:World) (h:TxRow w ao l) (hlen:len=l.length) (hl:len≤1048576) :
  Calls Tryz.prog 79 #[.slice ao len cap,.string (bs x)] w fun e w'=>e=.returned (.int .i64 (idxTFrom x l 0))∧w=w':=by
 have HR:=hide h
 have HL:=hide hlen
 clear h hlen
 go_enter Tryz.func79,Tryz.ntmps79
 go_wp2
 go_loopw [8] (fun i wr=>∃k:Nat,k≤len∧i=.int .i64 k∧Hid (idxTFrom x l 0=idxTFrom x (l.drop k) k)∧wr=w) (fun i _=>len - (intOf i).toNat)
 case atStart=>exact ⟨0,Nat.zero_le _,rfl,hide (by simp),rfl⟩
 case round=>
  obtain ⟨k,hk,rfl,hp,rfl⟩:=hrel
  by_cases hlt:k<len
  ·have hkl:k<l.length:=by have:=uH HL;omega
   obtain ⟨g,rfl,c0⟩:=uH HR k hkl
   have hst:=hide (idxTFrom_step (x:=x) hkl)
   obtain ⟨s,hs⟩:∃s,l[k]=s:=⟨_,rfl⟩
   rw [hs] at c0 hst
   clear hs hkl
   by_cases he:s=x
   ·have HE:=hide he
    have hbe:=bs_eq x s
    rw [decide_eq_true he.symm] at hbe
    clear he
    go_wp2
    go_ret
    exact ⟨ret_int (by rw [uH hp,uH hst,if_pos (uH HE)]),rfl⟩
   ·have HE:=hide he
    have hbe:=bs_eq x s
    rw [decide_eq_false (fun e=>he e.symm)] at hbe
    clear he
    go_wp2
    go_roundw
    case rel=>exact ⟨k+1,by omega,by go_num,hide (by rw [uH hp,uH hst,if_neg (uH HE)]),trivial⟩
    case measure=>simp [intOf];omega
  ·go_wp2
   go_ret
   exact ⟨ret_int (by rw [uH hp,idxTFrom_end (by have:=uH HL;omega)]),rfl⟩
theorem containsT_any (ao:Option Addr) (len cap:Nat) (l:List (List UInt8)) (x:List UInt8) (w:World) (h:TxRow w ao l) (hlen:len=l.length) (hl:len≤1048576) :
  Calls Tryz.prog 30 #[.slice ao len cap,.string (bs x)] w fun e w'=>e=.returned (.bool (l.any (fun y=>decide (y=x))))∧w=w':=by
 have C:=hide (indexT_any ao len cap l x w h hlen hl)
 have hh:=idxT_has (x:=x) l 0
 obtain ⟨r,hr⟩:∃r,idxTFrom x l 0=r:=⟨_,rfl⟩
 rw [hr] at C hh
 have HH:=hide hh
 clear h hlen hr hh
 go_enter Tryz.func30,Tryz.ntmps30
 go_wp2_with fail
 refine (uH C).mono ?_
 rintro e w1 ⟨rfl,rfl⟩
 clear C
 go_wp2
 go_ret
 exact ⟨yF (uH HH),rfl⟩
theorem QBlk.cel {w:World} {t:TypeId} {g n k:Nat} {l:List Q} (h:QBlk w t g n k l):Cel w t g (n*4):=let ⟨arr,h1,h2,_⟩:=h;⟨arr,h1,h2⟩
theorem AskBlk.cel {w:World} {t:TypeId} {g n k:Nat} {l:List Ask} (h:AskBlk w t g n k l):Cel w t g (n*5):=let ⟨arr,h1,h2,_⟩:=h;⟨arr,h1,h2⟩
theorem MacBlk.cel {w:World} {t:TypeId} {g n k:Nat} {l:List Mac} (h:MacBlk w t g n k l):Cel w t g (n*4):=let ⟨arr,h1,h2,_⟩:=h;⟨arr,h1,h2⟩
theorem ConBlk.cel {w:World} {t:TypeId} {g n k:Nat} {l:List Con} (h:ConBlk w t g n k l):Cel w t g (n*5):=let ⟨arr,h1,h2,_⟩:=h;⟨arr,h1,h2⟩
theorem ApplBlk.cel {w:World} {t:TypeId} {g n k:Nat} {l:List Appl} (h:ApplBlk w t g n k l):Cel w t g (n*3):=let ⟨arr,h1,h2,_⟩:=h;⟨arr,h1,h2⟩
def markM (k j:Nat):Mac:=⟨109::dgs (k+4*j),(k:Int)+4*(j:Int)+1,(k:Int)+4*(j:Int)+1+1,(k:Int)+4*(j:Int)+1+1+1⟩
def marksM (k n:Nat):List Mac:=(List.range n).map (markM k)
theorem MacBlk.tail {w:World} {t:TypeId} {g n k:Nat} {l:List Mac} (h:MacBlk w t g n k l) {p:Nat} (hp:k*4≤p) (v:Value):MacBlk (w.setCell ⟨g,p,none⟩ v) t g n k l:=by
 obtain ⟨arr,h1,h2,h3⟩:=h
 refine ⟨_,heap_setCell_same w g p _ _ v h1,by simp [h2],fun i hi hik=>?_⟩
 obtain ⟨a,b,c,d⟩:=h3 i hi hik
 refine ⟨?_,?_,?_,?_⟩
 ·rw [←a,Array.getElem?_setIfInBounds,if_neg (by omega)]
 ·rw [←b,Array.getElem?_setIfInBounds,if_neg (by omega)]
 ·rw [←c,Array.getElem?_setIfInBounds,if_neg (by omega)]
 ·rw [←d,Array.getElem?_setIfInBounds,if_neg (by omega)]
theorem MacBlk.next {w:World} {t:TypeId} {g n k:Nat} {l:List Mac} (h:MacBlk w t g n k l) (c:∀hk:k<l.length,MacAt w g (k*4) l[k]):MacBlk w t g n (k+1) l:=by
 obtain ⟨arr,h1,h2,h3⟩:=h
 refine ⟨arr,h1,h2,fun i hi hik=>?_⟩
 by_cases e:i=k
 ·subst e
  obtain ⟨c0,c1,c2,c3⟩:=c hi
  simp [World.cell?,h1] at c0 c1 c2 c3
  exact ⟨c0,c1,c2,c3⟩
 ·exact h3 i hi (by omega)
theorem MacBlk.rowOf {w:World} {t:TypeId} {g c n:Nat} {l:List Mac} (h:MacBlk w t g c n l) (hl:n=l.length):MacRow w (some ⟨g,0,none⟩) n l:=by
 obtain ⟨arr,h1,h2,h3⟩:=h
 refine ⟨hl,.inr ⟨g,0,rfl,fun i hi=>?_⟩⟩
 obtain ⟨a,b,c,d⟩:=h3 i hi (by omega)
 unfold MacAt
 simp only [Nat.zero_add]
 exact ⟨by simp [World.cell?,h1,a],by simp [World.cell?,h1,b],by simp [World.cell?,h1,c],by simp [World.cell?,h1,d]⟩
def MacOne (w0:World) (b p:Nat) (q:Mac) (w:World):Prop:=MacAt w b p q∧Below w0.heap.size w0 w
theorem MacOne.call {w0 w w':World} {b p:Nat} {q:Mac} (h:MacOne w0 b p q w) (hb:Below w.heap.size w w'):MacOne w0 b p q w':=⟨h.1.below hb,yB h.2 hb⟩
theorem MacOne.drew {w0 w:World} {b p:Nat} {q:Mac} (h:MacOne w0 b p q w):MacOne w0 b p q w.drew:=h.call (yH _ _).drew
theorem MacOne.read (w0:World) (b p:Nat) (q:Mac):∀wx,MacOne w0 b p q wx→wx.cell? ⟨b,p,none⟩=some (.string (bs q.name))∧wx.cell? ⟨b,p+1,none⟩=some (.int .i64 q.mem)∧wx.cell? ⟨b,p+2,none⟩=some (.int .i64 q.cpu)∧wx.cell? ⟨b,p+3,none⟩=some (.int .i64 q.seen):=fun wx h=>h.1
def markC (k j:Nat):Con:=⟨(k:Int)+5*(j:Int),(k:Int)+5*(j:Int)+1,109::dgs (k+5*j+1+1),(k:Int)+5*(j:Int)+1+1+1,(k:Int)+5*(j:Int)+1+1+1+1⟩
def marksC (k n:Nat):List Con:=(List.range n).map (markC k)
theorem ConBlk.tail {w:World} {t:TypeId} {g n k:Nat} {l:List Con} (h:ConBlk w t g n k l) {p:Nat} (hp:k*5≤p) (v:Value):ConBlk (w.setCell ⟨g,p,none⟩ v) t g n k l:=by
 obtain ⟨arr,h1,h2,h3⟩:=h
 refine ⟨_,heap_setCell_same w g p _ _ v h1,by simp [h2],fun i hi hik=>?_⟩
 obtain ⟨a,b,c,d,e⟩:=h3 i hi hik
 refine ⟨?_,?_,?_,?_,?_⟩
 ·rw [←a,Array.getElem?_setIfInBounds,if_neg (by omega)]
 ·rw [←b,Array.getElem?_setIfInBounds,if_neg (by omega)]
 ·rw [←c,Array.getElem?_setIfInBounds,if_neg (by omega)]
 ·rw [←d,Array.getElem?_setIfInBounds,if_neg (by omega)]
 ·rw [←e,Array.getElem?_setIfInBounds,if_neg (by omega)]
theorem ConBlk.next {w:World} {t:TypeId} {g n k:Nat} {l:List Con} (h:ConBlk w t g n k l) (c:∀hk:k<l.length,ConAt w g (k*5) l[k]):ConBlk w t g n (k+1) l:=by
 obtain ⟨arr,h1,h2,h3⟩:=h
 refine ⟨arr,h1,h2,fun i hi hik=>?_⟩
 by_cases e:i=k
 ·subst e
  obtain ⟨c0,c1,c2,c3,c4⟩:=c hi
  simp [World.cell?,h1] at c0 c1 c2 c3 c4
  exact ⟨c0,c1,c2,c3,c4⟩
 ·exact h3 i hi (by omega)
theorem ConBlk.rowOf {w:World} {t:TypeId} {g c n:Nat} {l:List Con} (h:ConBlk w t g c n l) (hl:n=l.length):ConRow w (some ⟨g,0,none⟩) n l:=by
 obtain ⟨arr,h1,h2,h3⟩:=h
 refine ⟨hl,.inr ⟨g,0,rfl,fun i hi=>?_⟩⟩
 obtain ⟨a,b,c,d,e⟩:=h3 i hi (by omega)
 unfold ConAt
 simp only [Nat.zero_add]
 exact ⟨by simp [World.cell?,h1,a],by simp [World.cell?,h1,b],by simp [World.cell?,h1,c],by simp [World.cell?,h1,d],by simp [World.cell?,h1,e]⟩
def ConOne (w0:World) (b p:Nat) (q:Con) (w:World):Prop:=ConAt w b p q∧Below w0.heap.size w0 w
theorem ConOne.call {w0 w w':World} {b p:Nat} {q:Con} (h:ConOne w0 b p q w) (hb:Below w.heap.size w w'):ConOne w0 b p q w':=⟨h.1.below hb,yB h.2 hb⟩
theorem ConOne.drew {w0 w:World} {b p:Nat} {q:Con} (h:ConOne w0 b p q w):ConOne w0 b p q w.drew:=h.call (yH _ _).drew
theorem ConOne.read (w0:World) (b p:Nat) (q:Con):∀wx,ConOne w0 b p q wx→wx.cell? ⟨b,p,none⟩=some (.int .i64 q.id)∧wx.cell? ⟨b,p+1,none⟩=some (.int .i64 q.app)∧wx.cell? ⟨b,p+2,none⟩=some (.string (bs q.node))∧wx.cell? ⟨b,p+3,none⟩=some (.int .i64 q.mem)∧wx.cell? ⟨b,p+4,none⟩=some (.int .i64 q.cpu):=fun wx h=>h.1
def markA (k j:Nat):Ask:=⟨(k:Int)+5*(j:Int),(k:Int)+5*(j:Int)+1,(k:Int)+5*(j:Int)+1+1,109::dgs (k+5*j+1+1+1),(k:Int)+5*(j:Int)+1+1+1+1⟩
def marksA (k n:Nat):List Ask:=(List.range n).map (markA k)
theorem marksA_len (k n:Nat):(marksA k n).length=n:=by simp [marksA]
theorem marksA_at (k n j:Nat) (h:j<(marksA k n).length):(marksA k n)[j]=markA k j:=by simp [marksA]
theorem AskBlk.tail {w:World} {t:TypeId} {g n k:Nat} {l:List Ask} (h:AskBlk w t g n k l) {p:Nat} (hp:k*5≤p) (v:Value):AskBlk (w.setCell ⟨g,p,none⟩ v) t g n k l:=by
 obtain ⟨arr,h1,h2,h3⟩:=h
 refine ⟨_,heap_setCell_same w g p _ _ v h1,by simp [h2],fun i hi hik=>?_⟩
 obtain ⟨a,b,c,d,e⟩:=h3 i hi hik
 refine ⟨?_,?_,?_,?_,?_⟩
 ·rw [←a,Array.getElem?_setIfInBounds,if_neg (by omega)]
 ·rw [←b,Array.getElem?_setIfInBounds,if_neg (by omega)]
 ·rw [←c,Array.getElem?_setIfInBounds,if_neg (by omega)]
 ·rw [←d,Array.getElem?_setIfInBounds,if_neg (by omega)]
 ·rw [←e,Array.getElem?_setIfInBounds,if_neg (by omega)]
theorem AskBlk.next {w:World} {t:TypeId} {g n k:Nat} {l:List Ask} (h:AskBlk w t g n k l) (c:∀hk:k<l.length,AskAt w g (k*5) l[k]):AskBlk w t g n (k+1) l:=by
 obtain ⟨arr,h1,h2,h3⟩:=h
 refine ⟨arr,h1,h2,fun i hi hik=>?_⟩
 by_cases e:i=k
 ·subst e
  obtain ⟨c0,c1,c2,c3,c4⟩:=c hi
  simp [World.cell?,h1] at c0 c1 c2 c3 c4
  exact ⟨c0,c1,c2,c3,c4⟩
 ·exact h3 i hi (by omega)
theorem AskBlk.rowOf {w:World} {t:TypeId} {g c n:Nat} {l:List Ask} (h:AskBlk w t g c n l) (hl:n=l.length):AskRow w (some ⟨g,0,none⟩) n l:=by
 obtain ⟨arr,h1,h2,h3⟩:=h
 refine ⟨hl,.inr ⟨g,0,rfl,fun i hi=>?_⟩⟩
 obtain ⟨a,b,c,d,e⟩:=h3 i hi (by omega)
 unfold AskAt
 simp only [Nat.zero_add]
 exact ⟨by simp [World.cell?,h1,a],by simp [World.cell?,h1,b],by simp [World.cell?,h1,c],by simp [World.cell?,h1,d],by simp [World.cell?,h1,e]⟩
theorem cellKeep {w:World} {g p q:Nat} {u v:Value} (h:w.cell? ⟨g,p,none⟩=some u) (hne:q≠p):(w.setCell ⟨g,q,none⟩ v).cell? ⟨g,p,none⟩=some u:=
 (World.cell?_setCell_other _ _ _ _ (fun e=>hne (congrArg Addr.off e))).trans h
theorem cellBel {w w':World} {g p:Nat} {u:Value} (h:w.cell? ⟨g,p,none⟩=some u) (hb:Below w.heap.size w w'):w'.cell? ⟨g,p,none⟩=some u:=(hb.cell (yG h)).trans h
theorem markAskS_from (g n c K:Nat) {d:Nat} (w:World) (h:Cel w 140 g (c*5)) (hc:n≤c) (hn:n≤1048576) (h0:0<K) (h1:K≤1000000000000000) :
  Calls Tryz.prog 100 #[.slice (some ⟨g,0,none⟩) n d,.int .i64 (K:Int)] w fun e w'=>e=.returned (.int .i64 ((K:Int)+5*(n:Int)))∧AskRow w' (some ⟨g,0,none⟩) n (marksA K n)∧Mkd g (g+1) w w':=by
 have HQ0:=hide (show AskBlk w 140 g c 0 (marksA K n) by obtain ⟨arr,h1,h2⟩:=h;exact ⟨arr,h1,h2,fun i _ h=>absurd h (by omega)⟩)
 clear h
 go_enter Tryz.func100,Tryz.ntmps100
 go_wp2
 go_loopw [1,5] (fun s i wr=>∃(j:Nat) (k:Int),j≤n∧i=.int .i64 j∧s=.int .i64 k∧k=(K:Int)+5*(j:Int)∧Hid (AskBlk wr 140 g c j (marksA K n))∧Hid (Mkd g (g+1) w wr)) (fun _ i _=>n - (intOf i).toNat)
 case atStart=>exact ⟨0,K,Nat.zero_le _,rfl,rfl,by omega,HQ0,hide (Mkd.refl _ _ _)⟩
 case round=>
  obtain ⟨j,k,hj,rfl,rfl,hk,HQ,HG⟩:=hrel
  by_cases hlt:j<n
  ·have HK:=hide hk
   have hk0:0<k:=by omega
   have hk1:k≤1000000010000000:=by omega
   clear hk
   obtain ⟨v0,d0⟩:=(uH HQ).cell (j:=j*5) (by omega)
   have f0:=(uH HQ).frozen (j*5)
   have X0:=hide (World.cell?_setCell_same wr ⟨g,j*5,none⟩ (.int .i64 k) d0)
   have HQ1:=hide ((uH HQ).tail (p:=j*5) (by omega) (.int .i64 k))
   have HG1:=hide ((uH HG).sc g (j*5) (.int .i64 k) (yJ _) (by omega))
   obtain ⟨v1,d1⟩:=(uH HQ1).cell (j:=j*5+1) (by omega)
   have f1:=(uH HQ1).frozen (j*5+1)
   have X1:=hide (World.cell?_setCell_same _ ⟨g,j*5+1,none⟩ (.int .i64 (k+1)) d1)
   have X01:=hide (cellKeep (q:=j*5+1) (v:=.int .i64 (k+1)) (uH X0) (by omega))
   have HQ2:=hide ((uH HQ1).tail (p:=j*5+1) (by omega) (.int .i64 (k+1)))
   have HG2:=hide ((uH HG1).sc g (j*5+1) (.int .i64 (k+1)) (yJ _) (by omega))
   obtain ⟨v2,d2⟩:=(uH HQ2).cell (j:=j*5+2) (by omega)
   have f2:=(uH HQ2).frozen (j*5+2)
   have X2:=hide (World.cell?_setCell_same _ ⟨g,j*5+2,none⟩ (.int .i64 (k+1+1)) d2)
   have X02:=hide (cellKeep (q:=j*5+2) (v:=.int .i64 (k+1+1)) (uH X01) (by omega))
   have X12:=hide (cellKeep (q:=j*5+2) (v:=.int .i64 (k+1+1)) (uH X1) (by omega))
   have HQ3:=hide ((uH HQ2).tail (p:=j*5+2) (by omega) (.int .i64 (k+1+1)))
   have HG3:=hide ((uH HG2).sc g (j*5+2) (.int .i64 (k+1+1)) (yJ _) (by omega))
   clear X0 X1 X01 HQ HG
   go_wp2_with fail
   refine (markText_int (k+1+1+1) _ (by omega) (by omega)).mono ?_
   rintro e w1 ⟨rfl,hb⟩
   have HQ4:=hide ((uH HQ3).below hb)
   have HG4:=hide ((uH HG3).on hb)
   have Y0:=hide (cellBel (uH X02) hb)
   have Y1:=hide (cellBel (uH X12) hb)
   have Y2:=hide (cellBel (uH X2) hb)
   clear hb d0 f0 d1 f1 d2 f2 X2 X02 X12 HQ1 HQ2 HQ3 HG1 HG2 HG3
   obtain ⟨v3,d3⟩:=(uH HQ4).cell (j:=j*5+3) (by omega)
   have f3:=(uH HQ4).frozen (j*5+3)
   have Z0:=hide (cellKeep (q:=j*5+3) (v:=.string (mk (k+1+1+1).toNat)) (uH Y0) (by omega))
   have Z1:=hide (cellKeep (q:=j*5+3) (v:=.string (mk (k+1+1+1).toNat)) (uH Y1) (by omega))
   have Z2:=hide (cellKeep (q:=j*5+3) (v:=.string (mk (k+1+1+1).toNat)) (uH Y2) (by omega))
   have Z3:=hide (World.cell?_setCell_same w1 ⟨g,j*5+3,none⟩ (.string (mk (k+1+1+1).toNat)) d3)
   have HQ5:=hide ((uH HQ4).tail (p:=j*5+3) (by omega) (.string (mk (k+1+1+1).toNat)))
   have HG5:=hide ((uH HG4).sc g (j*5+3) (.string (mk (k+1+1+1).toNat)) (yJ _) (by omega))
   obtain ⟨v4,d4⟩:=(uH HQ5).cell (j:=j*5+4) (by omega)
   have f4:=(uH HQ5).frozen (j*5+4)
   have HN:=hide (show AskBlk _ 140 g c (j+1) (marksA K n) from ((uH HQ5).tail (p:=j*5+4) (by omega) (.int .i64 (k+1+1+1+1))).next (fun hj'=>by
    rw [marksA_at]
    have e1:(k+1+1+1).toNat=K+5*j+1+1+1:=by have:=uH HK;omega
    have e3:=uH HK
    have y0:=cellKeep (q:=j*5+4) (v:=.int .i64 (k+1+1+1+1)) (uH Z0) (by omega)
    have y1:=cellKeep (q:=j*5+4) (v:=.int .i64 (k+1+1+1+1)) (uH Z1) (by omega)
    have y2:=cellKeep (q:=j*5+4) (v:=.int .i64 (k+1+1+1+1)) (uH Z2) (by omega)
    have y3:=cellKeep (q:=j*5+4) (v:=.int .i64 (k+1+1+1+1)) (uH Z3) (by omega)
    have y4:=World.cell?_setCell_same _ ⟨g,j*5+4,none⟩ (.int .i64 (k+1+1+1+1)) d4
    refine ⟨y0.trans ?_,y1.trans ?_,y2.trans ?_,y3.trans ?_,y4.trans ?_⟩
    ·rw [e3];rfl
    ·rw [e3];rfl
    ·rw [e3];rfl
    ·rw [e1];rfl
    ·rw [e3];rfl))
   have HG6:=hide ((uH HG5).sc g (j*5+4) (.int .i64 (k+1+1+1+1)) (yJ _) (by omega))
   clear HQ4 HG4 HG5 Y0 Y1 Y2 Z0 Z1 Z2 Z3
   go_wp2
   go_roundw
   case rel=>exact ⟨j+1,k+1+1+1+1+1,by omega,by go_num,by go_num,by have:=uH HK;omega,HN,HG6⟩
   case measure=>simp [intOf];omega
  ·have hjn:j=n:=by omega
   subst hjn
   go_wp2
   go_ret
   exact ⟨ret_int (by omega),(uH HQ).rowOf (by rw [marksA_len]),uH HG⟩
def AskOne (w0:World) (b p:Nat) (q:Ask) (w:World):Prop:=AskAt w b p q∧Below w0.heap.size w0 w
theorem AskOne.call {w0 w w':World} {b p:Nat} {q:Ask} (h:AskOne w0 b p q w) (hb:Below w.heap.size w w'):AskOne w0 b p q w':=⟨h.1.below hb,yB h.2 hb⟩
theorem AskOne.drew {w0 w:World} {b p:Nat} {q:Ask} (h:AskOne w0 b p q w):AskOne w0 b p q w.drew:=h.call (yH _ _).drew
theorem AskOne.read (w0:World) (b p:Nat) (q:Ask):∀wx,AskOne w0 b p q wx→wx.cell? ⟨b,p,none⟩=some (.int .i64 q.mem)∧wx.cell? ⟨b,p+1,none⟩=some (.int .i64 q.cpu)∧wx.cell? ⟨b,p+2,none⟩=some (.int .i64 q.count)∧wx.cell? ⟨b,p+3,none⟩=some (.string (bs q.node))∧wx.cell? ⟨b,p+4,none⟩=some (.int .i64 q.missed):=
 fun wx h=>h.1
abbrev mcell (q:Mac):List Value:=[.string (bs q.name),.int .i64 q.mem,.int .i64 q.cpu,.int .i64 q.seen]
def mcells:List Mac→List Value
 | []=>[]
 | q::t=>mcell q++mcells t
theorem mcells_len:∀l:List Mac,(mcells l).length=l.length*4
 | []=>rfl
 | q::t=>by rw [mcells,List.length_append,mcells_len t];simp;omega
theorem mcells_at:∀(l:List Mac) (i:Nat) (h:i<l.length),(mcells l)[i*4]? = some (.string (bs l[i].name))∧(mcells l)[i*4+1]? = some (.int .i64 l[i].mem)∧(mcells l)[i*4+2]? = some (.int .i64 l[i].cpu)∧(mcells l)[i*4+3]? = some (.int .i64 l[i].seen)
 | q::t,0,_=>⟨rfl,rfl,rfl,rfl⟩
 | q::t,i+1,h=>by
  have e:=mcells_at t i (by simpa using h)
  have k:∀j,(mcells (q::t))[(i+1)*4+j]? = (mcells t)[i*4+j]?:=fun j=>by
   rw [mcells,show (i+1)*4+j=(mcell q).length+(i*4+j) by simp;omega,List.getElem?_append_right (by omega)]
   congr 1
   omega
  have k0:=k 0
  simp only [Nat.add_zero] at k0
  rw [k0,k 1,k 2,k 3]
  simpa using e
theorem mcells_row {w:World} {b off len:Nat} {l:List Mac} (h:MacRow w (some ⟨b,off,none⟩) len l):∀j u,(mcells l)[j]? = some u→w.cell? ⟨b,off+j,none⟩=some u:=fun j u hj=>by
 have hjl:j<l.length*4:=by rw [←mcells_len];exact (List.getElem?_eq_some_iff.1 hj).1
 obtain ⟨h1,h2⟩:=h
 rcases h2 with h2 | ⟨b',off',e,h4⟩
 ·omega
 ·cases e
  have hi:j / 4<l.length:=by omega
  obtain ⟨a0,a1,a2,a3⟩:=mcells_at l (j / 4) hi
  obtain ⟨c0,c1,c2,c3⟩:=h4 (j / 4) hi
  rcases (show j % 4=0∨j % 4=1∨j % 4=2∨j % 4=3 by omega) with e | e | e | e
  ·rw [show j=j / 4*4 by omega] at hj ⊢;rw [a0] at hj;cases hj;exact c0
  ·rw [show j=j / 4*4+1 by omega] at hj ⊢;rw [a1] at hj;cases hj;rw [←Nat.add_assoc];exact c1
  ·rw [show j=j / 4*4+2 by omega] at hj ⊢;rw [a2] at hj;cases hj;rw [←Nat.add_assoc];exact c2
  ·rw [show j=j / 4*4+3 by omega] at hj ⊢;rw [a3] at hj;cases hj;rw [←Nat.add_assoc];exact c3
theorem mcells_one:∀(l:List Mac),∀u ∈ mcells l,u.oneCell'=true
 | [],u,h=>by simp [mcells] at h
 | q::t,u,h=>by
  rw [mcells,List.mem_append] at h
  rcases h with h | h
  ·simp at h
   rcases h with rfl | rfl | rfl | rfl<;>rfl
  ·exact mcells_one t u h
def MOwn (B:Nat) (w:World) (v:Value) (l:List Mac):Prop:=w.ownsRow B 113 4 v l.length (mcells l)
theorem mown_empty (w:World):w.alloc (.cells #[] 113) |>.ownsRow w.heap.size 113 4 (.slice (some ⟨w.heap.size,0,none⟩) 0 0) 0 []:=
 ⟨rfl,.inr ⟨w.heap.size,0,#[],rfl,yJ _,by show (w.heap.push _)[w.heap.size]? = _;simp,yJ _,by unfold maxLen;omega,rfl,rfl⟩⟩
theorem mown_base {w:World} {B B':Nat} {v:Value} {l:List Mac} (h:MOwn B w v l) (hb:B'≤B):MOwn B' w v l:=by
 obtain ⟨h1,h2⟩:=h
 refine ⟨h1,?_⟩
 rcases h2 with h2 | ⟨g,cap,cur,a,b,c⟩
 ·exact .inl h2
 ·exact .inr ⟨g,cap,cur,a,Nat.le_trans hb b,c⟩
theorem mown_row {w:World} {B:Nat} {v:Value} {l:List Mac} (h:MOwn B w v l):∃ao cap,v=.slice ao l.length cap∧MacRow w ao l.length l∧l.length≤cap∧(l≠[]→∃g cur,ao=some ⟨g,0,none⟩∧B≤g∧w.heap[g]? = some (.cells cur 113 (0,0))∧cur.size=cap*4):=by
 rcases h.2 with ⟨rfl,h0⟩ | ⟨g,cap,cur,rfl,h1,h2,h3,h4,h5,h6⟩
 ·exact ⟨none,0,by rw [h0],⟨rfl,.inl h0⟩,by omega,fun hn=>absurd (List.length_eq_zero_iff.1 h0) hn⟩
 ·refine ⟨some ⟨g,0,none⟩,cap,rfl,⟨rfl,.inr ⟨g,0,rfl,fun i hi=>?_⟩⟩,h3,fun _=>⟨g,cur,rfl,h1,h2,h5⟩⟩
  obtain ⟨a,b,c,d⟩:=mcells_at l i hi
  have k:∀j (v:Value),j<l.length*4→(mcells l)[j]? = some v→w.cell? ⟨g,j,none⟩=some v:=fun j v hj hv=>by
   rw [←h6,List.getElem?_take_of_lt hj] at hv
   simp [World.cell?,h2]
   simpa using hv
  unfold MacAt
  rw [Nat.zero_add]
  exact ⟨k _ _ (by omega) a,k _ _ (by omega) b,k _ _ (by omega) c,k _ _ (by omega) d⟩
theorem Tryz.infoMachine:(Tryz.prog.info? 113).map (fun i=>(i.zero,i.size,i.bytes))=some (some (.agg #[.string ByteArray.empty,.int .i64 0,.int .i64 0,.int .i64 0]),4,40):=by kernel_rfl
theorem qcells_row {w:World} {b off len:Nat} {l:List Q} (h:QRow w (some ⟨b,off,none⟩) len l):∀j u,(qcells l)[j]? = some u→w.cell? ⟨b,off+j,none⟩=some u:=fun j u hj=>by
 have hjl:j<l.length*4:=by rw [←qcells_len];exact (List.getElem?_eq_some_iff.1 hj).1
 obtain ⟨h1,h2⟩:=h
 rcases h2 with h2 | ⟨b',off',e,h4⟩
 ·omega
 ·cases e
  have hi:j / 4<l.length:=by omega
  obtain ⟨a0,a1,a2,a3⟩:=qcells_at l (j / 4) hi
  obtain ⟨c0,c1,c2,c3⟩:=h4 (j / 4) hi
  rcases (show j % 4=0∨j % 4=1∨j % 4=2∨j % 4=3 by omega) with e | e | e | e
  ·rw [show j=j / 4*4 by omega] at hj ⊢;rw [a0] at hj;cases hj;exact c0
  ·rw [show j=j / 4*4+1 by omega] at hj ⊢;rw [a1] at hj;cases hj;rw [←Nat.add_assoc];exact c1
  ·rw [show j=j / 4*4+2 by omega] at hj ⊢;rw [a2] at hj;cases hj;rw [←Nat.add_assoc];exact c2
  ·rw [show j=j / 4*4+3 by omega] at hj ⊢;rw [a3] at hj;cases hj;rw [←Nat.add_assoc];exact c3
theorem qcells_one:∀(l:List Q),∀u ∈ qcells l,u.oneCell'=true
 | [],u,h=>by simp [qcells] at h
 | q::t,u,h=>by
  rw [qcells,List.mem_append] at h
  rcases h with h | h
  ·simp at h
   rcases h with rfl | rfl | rfl | rfl<;>rfl
  ·exact qcells_one t u h
theorem qown_base {w:World} {B B':Nat} {v:Value} {l:List Q} (h:QOwn B w v l) (hb:B'≤B):QOwn B' w v l:=by
 obtain ⟨h1,h2⟩:=h
 refine ⟨h1,?_⟩
 rcases h2 with h2 | ⟨g,cap,cur,a,b,c⟩
 ·exact .inl h2
 ·exact .inr ⟨g,cap,cur,a,Nat.le_trans hb b,c⟩
theorem qown_rowx {w:World} {B:Nat} {v:Value} {l:List Q} (h:QOwn B w v l):∃ao cap,v=.slice ao l.length cap∧QRow w ao l.length l∧l.length≤cap∧(l≠[]→∃g cur,ao=some ⟨g,0,none⟩∧B≤g∧w.heap[g]? = some (.cells cur 99 (0,0))∧cur.size=cap*4):=by
 obtain ⟨ao,cap,e,hr,hc⟩:=h.row
 refine ⟨ao,cap,e,hr,hc,fun hn=>?_⟩
 rcases h.2 with ⟨rfl,h0⟩ | ⟨g,cap',cur,rfl,h1,h2,h3,h4,h5,h6⟩
 ·exact absurd (List.length_eq_zero_iff.1 h0) hn
 ·simp only [Value.slice.injEq] at e
  obtain ⟨rfl,_,rfl⟩:=e
  exact ⟨g,cur,rfl,h1,h2,h5⟩
theorem markQueueS_from (g n c:Nat) (k0:Int) (w:World) (h:Cel w 99 g (c*4)) (hc:n≤c) (hn:n≤1048576) (h0:0<k0) (h1:k0≤1000000000000000) :
  Calls Tryz.prog 43 #[.slice (some ⟨g,0,none⟩) n c,.int .i64 k0] w fun e w'=>e=.returned (.int .i64 (k0+4*(n:Int)))∧Mkd g (g+1) w w':=by
 have HQ0:=hide h
 clear h
 go_enter Tryz.func43,Tryz.ntmps43
 go_wp2
 go_loopw [1,5] (fun s i wr=>∃(j:Nat) (k:Int),j≤n∧i=.int .i64 j∧s=.int .i64 k∧k=k0+4*(j:Int)∧Hid (Cel wr 99 g (c*4))∧Hid (Mkd g (g+1) w wr)) (fun _ i _=>n - (intOf i).toNat)
 case atStart=>exact ⟨0,k0,Nat.zero_le _,rfl,rfl,by omega,HQ0,hide (Mkd.refl _ _ _)⟩
 case round=>
  obtain ⟨j,k,hj,rfl,rfl,hk,HQ,HG⟩:=hrel
  by_cases hlt:j<n
  ·have HK:=hide hk
   have hk0:0<k:=by omega
   have hk1:k≤1000000010000000:=by omega
   clear hk
   go_wp2_with fail
   refine (markText_int k _ (by omega) (by omega)).mono ?_
   rintro e w1 ⟨rfl,hb⟩
   have HQt0:=hide ((uH HQ).below hb)
   have HGt0:=hide ((uH HG).on hb)
   clear hb  HQ HG
   obtain ⟨v0,d0⟩:=(uH HQt0).cell (j:=j*4) (by omega)
   have f0:=(uH HQt0).frozen (j*4)
   have HQs0:=hide ((uH HQt0).set g (j*4) (.string (mk k.toNat)))
   have HGs0:=hide ((uH HGt0).sc g (j*4) (.string (mk k.toNat)) (yJ _) (by omega))
   go_wp2_with fail
   refine (markText_int (k+1) _ (by omega) (by omega)).mono ?_
   rintro e w2 ⟨rfl,hb⟩
   have HQt1:=hide ((uH HQs0).below hb)
   have HGt1:=hide ((uH HGs0).on hb)
   clear hb d0 f0 HQt0 HGt0 HQs0 HGs0
   obtain ⟨v1,d1⟩:=(uH HQt1).cell (j:=j*4+1) (by omega)
   have f1:=(uH HQt1).frozen (j*4+1)
   have HQs1:=hide ((uH HQt1).set g (j*4+1) (.string (mk (k+1).toNat)))
   have HGs1:=hide ((uH HGt1).sc g (j*4+1) (.string (mk (k+1).toNat)) (yJ _) (by omega))
   obtain ⟨v2,d2⟩:=(uH HQs1).cell (j:=j*4+2) (by omega)
   have f2:=(uH HQs1).frozen (j*4+2)
   have HQs2:=hide ((uH HQs1).set g (j*4+2) (.int .i64 (k+1+1)))
   have HGs2:=hide ((uH HGs1).sc g (j*4+2) (.int .i64 (k+1+1)) (yJ _) (by omega))
   obtain ⟨v3,d3⟩:=(uH HQs2).cell (j:=j*4+3) (by omega)
   have f3:=(uH HQs2).frozen (j*4+3)
   have HQs3:=hide ((uH HQs2).set g (j*4+3) (.int .i64 (k+1+1+1)))
   have HGs3:=hide ((uH HGs2).sc g (j*4+3) (.int .i64 (k+1+1+1)) (yJ _) (by omega))
   go_wp2
   go_roundw
   case rel=>exact ⟨j+1,k+1+1+1+1,by omega,by go_num,by go_num,by have:=uH HK;omega,HQs3,HGs3⟩
   case measure=>simp [intOf];omega
  ·have hjn:j=n:=by omega
   subst hjn
   go_wp2
   go_ret
   exact ⟨ret_int (by omega),uH HG⟩
theorem markMachineS_from (g n c:Nat) (k0:Int) (w:World) (h:Cel w 113 g (c*4)) (hc:n≤c) (hn:n≤1048576) (h0:0<k0) (h1:k0≤1000000000000000) :
  Calls Tryz.prog 45 #[.slice (some ⟨g,0,none⟩) n c,.int .i64 k0] w fun e w'=>e=.returned (.int .i64 (k0+4*(n:Int)))∧Mkd g (g+1) w w':=by
 have HQ0:=hide h
 clear h
 go_enter Tryz.func45,Tryz.ntmps45
 go_wp2
 go_loopw [1,5] (fun s i wr=>∃(j:Nat) (k:Int),j≤n∧i=.int .i64 j∧s=.int .i64 k∧k=k0+4*(j:Int)∧Hid (Cel wr 113 g (c*4))∧Hid (Mkd g (g+1) w wr)) (fun _ i _=>n - (intOf i).toNat)
 case atStart=>exact ⟨0,k0,Nat.zero_le _,rfl,rfl,by omega,HQ0,hide (Mkd.refl _ _ _)⟩
 case round=>
  obtain ⟨j,k,hj,rfl,rfl,hk,HQ,HG⟩:=hrel
  by_cases hlt:j<n
  ·have HK:=hide hk
   have hk0:0<k:=by omega
   have hk1:k≤1000000010000000:=by omega
   clear hk
   go_wp2_with fail
   refine (markText_int k _ (by omega) (by omega)).mono ?_
   rintro e w1 ⟨rfl,hb⟩
   have HQt0:=hide ((uH HQ).below hb)
   have HGt0:=hide ((uH HG).on hb)
   clear hb  HQ HG
   obtain ⟨v0,d0⟩:=(uH HQt0).cell (j:=j*4) (by omega)
   have f0:=(uH HQt0).frozen (j*4)
   have HQs0:=hide ((uH HQt0).set g (j*4) (.string (mk k.toNat)))
   have HGs0:=hide ((uH HGt0).sc g (j*4) (.string (mk k.toNat)) (yJ _) (by omega))
   obtain ⟨v1,d1⟩:=(uH HQs0).cell (j:=j*4+1) (by omega)
   have f1:=(uH HQs0).frozen (j*4+1)
   have HQs1:=hide ((uH HQs0).set g (j*4+1) (.int .i64 (k+1)))
   have HGs1:=hide ((uH HGs0).sc g (j*4+1) (.int .i64 (k+1)) (yJ _) (by omega))
   obtain ⟨v2,d2⟩:=(uH HQs1).cell (j:=j*4+2) (by omega)
   have f2:=(uH HQs1).frozen (j*4+2)
   have HQs2:=hide ((uH HQs1).set g (j*4+2) (.int .i64 (k+1+1)))
   have HGs2:=hide ((uH HGs1).sc g (j*4+2) (.int .i64 (k+1+1)) (yJ _) (by omega))
   obtain ⟨v3,d3⟩:=(uH HQs2).cell (j:=j*4+3) (by omega)
   have f3:=(uH HQs2).frozen (j*4+3)
   have HQs3:=hide ((uH HQs2).set g (j*4+3) (.int .i64 (k+1+1+1)))
   have HGs3:=hide ((uH HGs2).sc g (j*4+3) (.int .i64 (k+1+1+1)) (yJ _) (by omega))
   go_wp2
   go_roundw
   case rel=>exact ⟨j+1,k+1+1+1+1,by omega,by go_num,by go_num,by have:=uH HK;omega,HQs3,HGs3⟩
   case measure=>simp [intOf];omega
  ·have hjn:j=n:=by omega
   subst hjn
   go_wp2
   go_ret
   exact ⟨ret_int (by omega),uH HG⟩
theorem markContS_from (g n c:Nat) (k0:Int) (w:World) (h:Cel w 58 g (c*5)) (hc:n≤c) (hn:n≤1048576) (h0:0<k0) (h1:k0≤1000000000000000) :
  Calls Tryz.prog 46 #[.slice (some ⟨g,0,none⟩) n c,.int .i64 k0] w fun e w'=>e=.returned (.int .i64 (k0+5*(n:Int)))∧Mkd g (g+1) w w':=by
 have HQ0:=hide h
 clear h
 go_enter Tryz.func46,Tryz.ntmps46
 go_wp2
 go_loopw [1,5] (fun s i wr=>∃(j:Nat) (k:Int),j≤n∧i=.int .i64 j∧s=.int .i64 k∧k=k0+5*(j:Int)∧Hid (Cel wr 58 g (c*5))∧Hid (Mkd g (g+1) w wr)) (fun _ i _=>n - (intOf i).toNat)
 case atStart=>exact ⟨0,k0,Nat.zero_le _,rfl,rfl,by omega,HQ0,hide (Mkd.refl _ _ _)⟩
 case round=>
  obtain ⟨j,k,hj,rfl,rfl,hk,HQ,HG⟩:=hrel
  by_cases hlt:j<n
  ·have HK:=hide hk
   have hk0:0<k:=by omega
   have hk1:k≤1000000010000000:=by omega
   clear hk
   obtain ⟨v0,d0⟩:=(uH HQ).cell (j:=j*5) (by omega)
   have f0:=(uH HQ).frozen (j*5)
   have HQs0:=hide ((uH HQ).set g (j*5) (.int .i64 k))
   have HGs0:=hide ((uH HG).sc g (j*5) (.int .i64 k) (yJ _) (by omega))
   obtain ⟨v1,d1⟩:=(uH HQs0).cell (j:=j*5+1) (by omega)
   have f1:=(uH HQs0).frozen (j*5+1)
   have HQs1:=hide ((uH HQs0).set g (j*5+1) (.int .i64 (k+1)))
   have HGs1:=hide ((uH HGs0).sc g (j*5+1) (.int .i64 (k+1)) (yJ _) (by omega))
   go_wp2_with fail
   refine (markText_int (k+1+1) _ (by omega) (by omega)).mono ?_
   rintro e w1 ⟨rfl,hb⟩
   have HQt2:=hide ((uH HQs1).below hb)
   have HGt2:=hide ((uH HGs1).on hb)
   clear hb d0 f0 HQ HG d1 f1 HQs0 HGs0 HQs1 HGs1
   obtain ⟨v2,d2⟩:=(uH HQt2).cell (j:=j*5+2) (by omega)
   have f2:=(uH HQt2).frozen (j*5+2)
   have HQs2:=hide ((uH HQt2).set g (j*5+2) (.string (mk (k+1+1).toNat)))
   have HGs2:=hide ((uH HGt2).sc g (j*5+2) (.string (mk (k+1+1).toNat)) (yJ _) (by omega))
   obtain ⟨v3,d3⟩:=(uH HQs2).cell (j:=j*5+3) (by omega)
   have f3:=(uH HQs2).frozen (j*5+3)
   have HQs3:=hide ((uH HQs2).set g (j*5+3) (.int .i64 (k+1+1+1)))
   have HGs3:=hide ((uH HGs2).sc g (j*5+3) (.int .i64 (k+1+1+1)) (yJ _) (by omega))
   obtain ⟨v4,d4⟩:=(uH HQs3).cell (j:=j*5+4) (by omega)
   have f4:=(uH HQs3).frozen (j*5+4)
   have HQs4:=hide ((uH HQs3).set g (j*5+4) (.int .i64 (k+1+1+1+1)))
   have HGs4:=hide ((uH HGs3).sc g (j*5+4) (.int .i64 (k+1+1+1+1)) (yJ _) (by omega))
   go_wp2
   go_roundw
   case rel=>exact ⟨j+1,k+1+1+1+1+1,by omega,by go_num,by go_num,by have:=uH HK;omega,HQs4,HGs4⟩
   case measure=>simp [intOf];omega
  ·have hjn:j=n:=by omega
   subst hjn
   go_wp2
   go_ret
   exact ⟨ret_int (by omega),uH HG⟩
end
end Go.Proofs.YtokabeokclpljaaGreat
