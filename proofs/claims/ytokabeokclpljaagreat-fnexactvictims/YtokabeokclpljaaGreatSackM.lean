/-
  Texts in one: QueuesOkI, LoneI, KidM, LvM, StvM, AboveI, GatherI, OkC, LeafI, LeavesI, PathI, AppOfU, WantS.
-/
import Derived.Test.YtokabeokclpljaaGreatSackK
import Derived.Test.YtokabeokclpljaaGreatSackJ
import Derived.Maps.AppendAt
import Derived.Test.YtokabeokclpljaaGreatSackL
set_option maxRecDepth 100000
set_option maxHeartbeats 16000000
set_option linter.unusedVariables false
set_option linter.unusedSimpArgs false
namespace Go.Proofs.YtokabeokclpljaaGreat
section
open Go.RowKit
theorem QRow.take {w:World} {ao:Option Addr} {len:Nat} {l:List Q} (h:QRow w ao len l) {k:Nat} (hk:k≤len):QRow w ao k (l.take k):=by
 obtain ⟨h1,h2⟩:=h
 refine ⟨by simp;omega,?_⟩
 rcases h2 with h2 | ⟨b,off,h3,h4⟩
 ·exact .inl (by omega)
 ·refine .inr ⟨b,off,h3,fun i hi=>?_⟩
  have:i<l.length:=by simp at hi;omega
  rw [List.getElem_take]
  exact h4 i this
theorem cut_q (b off len cap k:Nat) (hk:k≤cap) (wx:World):(Instr.slice 31 (.slice (some ⟨b,off,none⟩) len cap) none (some (.int .i64 (k:Int))) none).run Tryz.prog wx=.ok (.slice (some ⟨b,off,none⟩) k cap) wx:=by
 rw [run_slice_h (P:=Tryz.prog) (w:=wx) 31 (some ⟨b,off,none⟩) len cap Tryz.underlying31 .i64 (k:Int) (by omega) (by omega)]
 rw [show (sizeOf (Tryz.prog.elem 31)).run Tryz.prog wx=.ok 4 wx from by kernel_rfl]
 simp [Result.andThen,sliced,Addr.add]
theorem implQueuesOk_any (ao:Option Addr) (len cap:Nat) (l:List Q) (w:World) (h:QRow w ao len l) (hl:len≤1048576) (hn:∀q ∈ l,q.name.length≤1048576) (hc:len≤cap) :
  Calls Tryz.prog 74 #[.slice ao len cap] w fun e w'=>e=.returned (.bool (queuesOk l))∧Below w.heap.size w w':=by
 have HR:=hide h
 have HL:=hide h.1
 have HN:=hide hn
 have HQ:=hide (queuesOk_okT l)
 clear h hn
 go_enter Tryz.func74,Tryz.ntmps74
 go_wp2
 go_loopw [3,4,7] (fun _ _ i wr=>∃k:Nat,k≤len∧i=.int .i64 k∧Hid (okT (l.take k)=true)∧Hid (Below w.heap.size w wr)) (fun _ _ i _=>len - (intOf i).toNat)
 case atStart=>exact ⟨0,Nat.zero_le _,rfl,hide (by rw [List.take_zero];rfl),hide (yH _ _)⟩
 case round=>
  obtain ⟨k,hk,rfl,HK,HB⟩:=hrel
  by_cases hlt:k<len
  ·have HR2:=hide ((uH HR).below (uH HB))
   obtain ⟨b,off,rfl,hq⟩:=(uH HR2).at hlt
   have hkl:k<l.length:=by have:=uH HL;omega
   have hst:=hide (okT_take_succ (l:=l) (k:=k) hkl)
   have hbad:=hide (@okT_take_false l (k+1))
   obtain ⟨c0,c1,c2,c3⟩:=hq hkl
   have hz:=uH HN l[k] (yM _)
   clear hq
   obtain ⟨⟨nm,pa,du,mo⟩,hs⟩:∃s,l[k]=s:=⟨_,rfl⟩
   rw [hs] at c0 c1 c2 c3 hst hz
   simp only at c0 c1 c2 c3
   have HA:=hide (QBox.new wr ⟨nm,pa,du,mo⟩)
   have hb1:=yA (uH HB) (qobj ⟨nm,pa,du,mo⟩)
   have CF:=hide (fun wx (hb:Below w.heap.size w wx)=>fits_any (some ⟨b,off,none⟩) k cap (l.take k) ⟨nm,pa,du,mo⟩ wx (((uH HR).below hb).take hk) (by omega) hz (okT_due (uH HK)))
   obtain ⟨f,hf⟩:∃f,fits (l.take k) ⟨nm,pa,du,mo⟩=f:=⟨_,rfl⟩
   rw [hf] at CF hst
   have hcut:=cut_q b off len cap k (by omega)
   have HB1:=hide hb1
   have k0:=(uH HA).c0
   have k1:=(uH HA).c1
   have k2:=(uH HA).c2
   have k3:=(uH HA).c3
   simp only at k0 k1 k2 k3
   have hkc:(k:Int)≤cap:=by omega
   clear hs hkl hz hf HR2 hb1
   cases f with
   | false=>
    go_wp2_with fail
    go_region_with (go_at_call 114;refine (uH CF _ ?_).mono ?_;(exact (uH HB1).drew);rintro e w2 ⟨rfl,hb⟩)
    all_goals
     have HB2:=hide (yB (uH HB1).drew hb)
     clear hb
     go_wp2
     go_ret
     exact ⟨yF (by rw [uH HQ,uH hbad (by rw [uH hst];simp)];rfl),uH HB2⟩
   | true=>
    go_wp2_with fail
    go_region_with (go_at_call 114;refine (uH CF _ ?_).mono ?_;(exact (uH HB1).drew);rintro e w2 ⟨rfl,hb⟩)
    all_goals
     have HB2:=hide (yB (uH HB1).drew hb)
     clear hb
     go_wp2
     go_roundw
     case rel=>exact ⟨k+1,by omega,by go_num,hide (by rw [uH hst,uH HK];rfl),HB2⟩
     case measure=>simp [intOf];omega
  ·have hfin:=hide (show queuesOk l=decide (0<len) by
    have e:k=l.length:=by have:=uH HL;omega
    have ho:=uH HK
    rw [e,List.take_length] at ho
    rw [uH HQ,ho,uH HL];rfl)
   by_cases h0:0<len
   ·go_wp2
    go_ret
    exact ⟨yF (by rw [uH hfin];simp [h0]),uH HB⟩
   ·go_wp2
    go_ret
    exact ⟨yF (by rw [uH hfin];simp [h0]),uH HB⟩
theorem noKid_any (nm:List UInt8):∀l:List Q,noKid nm l = !(l.any (fun q=>decide (q.parent=nm)))
 | []=>rfl
 | q::t=>by rw [noKid,noKid_any nm t,List.any_cons];by_cases h:q.parent=nm<;>simp [h]
theorem kidFn_any (B:Nat) (nm:List UInt8) (q:Q) (w:World) (hc:w.cell? ⟨B,0,none⟩=some (.string (bs nm))) :
  Calls Tryz.prog 157 #[qv q,.pointer (some ⟨B,0,none⟩)] w fun e w'=>e=.returned (.bool (decide (q.parent=nm)))∧Below w.heap.size w w':=by
 have hlt:=yG hc
 have hc2:(w.alloc (.cells #[.string (bs q.name),.string (bs q.parent),.int .i64 q.due,.int .i64 q.most] 99)).cell? ⟨B,0,none⟩=some (.string (bs nm)):=by rw [World.cell?_alloc_lt _ _ ⟨B,0,none⟩ hlt];exact hc
 have hbe:=bs_eq q.parent nm
 clear hc hlt
 go_enter Tryz.func157,Tryz.ntmps157
 go_wp2
 go_ret
 exact ⟨rfl,yA (yH _ _) _⟩
theorem containsFunc_any (g:Nat) (lb:Array Value) (eg:∀args w,(callFunc g args).run Tryz.prog w=.ok (.enter g args) w) (p:Q→Bool) (ao:Option Addr) (len cap:Nat) (l:List Q) (w:World) (h:QRow w ao len l) (hl:len≤1048576)
  (hp:∀wx q,Below w.heap.size w wx→Calls Tryz.prog g (#[qv q]++lb) wx fun e w'=>e=.returned (.bool (p q))∧Below wx.heap.size wx w') :
  Calls Tryz.prog 156 #[.slice ao len cap,.func (.func g) #[] lb] w fun e w'=>e=.returned (.bool (l.any p))∧Below w.heap.size w w':=by
 have C:=hide (indexFunc_any g lb eg p ao len cap l w h hl hp)
 have HS:=hide (idx_has p l 0)
 obtain ⟨i,hi⟩:∃i,idxFrom p l 0=i:=⟨_,rfl⟩
 obtain ⟨b,hb⟩:∃b,l.any p=b:=⟨_,rfl⟩
 rw [hi] at C HS
 rw [hb] at HS ⊢
 clear h hp hi hb
 go_enter Tryz.func156,Tryz.ntmps156
 go_wp2_with fail
 refine (uH C).mono ?_
 rintro e w1 ⟨rfl,hb⟩
 have HB:=hide hb
 clear hb
 by_cases h0:0≤i
 ·go_wp2
  go_ret
  exact ⟨yF (by first | exact uH HS | (rw [←uH HS];simp [h0])),uH HB⟩
 ·go_wp2
  go_ret
  exact ⟨yF (by first | exact uH HS | (rw [←uH HS];simp [h0])),uH HB⟩
def lone (l:List Q) (nm:List UInt8):Bool:=!(l.any (fun q=>decide (q.parent=nm)))&&decide (0≤place l nm)
theorem leaf_lone (l:List Q) (nm:List UInt8):leaf l nm=(queuesOk l&&lone l nm):=by
 rw [leaf,noKid_any,lone]
 cases queuesOk l<;>cases l.any (fun q=>decide (q.parent=nm))<;>simp
theorem lone_any (ao:Option Addr) (len cap:Nat) (l:List Q) (nm:List UInt8) (w:World) (h:QRow w ao len l) (hl:len≤1048576) :
  Calls Tryz.prog 117 #[.slice ao len cap,.string (bs nm)] w fun e w'=>e=.returned (.bool (lone l nm))∧Below w.heap.size w w':=by
 have hmf:∀(fn:Fn) (first cap:Array Value) (w:World),(Instr.makeFunc fn first cap).run Tryz.prog w=.ok (.func fn first cap) w:=fun _ _ _ _=>rfl
 have hb0:=yA (yH _ w) (.cells #[.string (bs nm)] 9)
 have hcell:(w.alloc (.cells #[.string (bs nm)] 9)).cell? ⟨w.heap.size,0,none⟩=some (.string (bs nm)):=by simp
 have CP:=hide (fun wx (hb:Below w.heap.size w wx)=>place_any ao len cap l nm wx (h.below hb) hl)
 have CC:=hide (fun wx (hb:Below w.heap.size w wx) (hx:wx.cell? ⟨w.heap.size,0,none⟩=some (.string (bs nm)))=>containsFunc_any 157 #[.pointer (some ⟨w.heap.size,0,none⟩)] (enters_of Tryz.func157 (by kernel_rfl) rfl) (fun q=>decide (q.parent=nm)) ao len cap l wx (h.below hb) hl
  (fun wy q hy=>kidFn_any w.heap.size nm q wy ((hy.cell (p:=⟨w.heap.size,0,none⟩) (yG hx)).trans hx)))
 have HF:=hide (show lone l nm=(!(l.any (fun q=>decide (q.parent=nm)))&&decide (0≤place l nm)) from rfl)
 obtain ⟨p,hp⟩:∃p,place l nm=p:=⟨_,rfl⟩
 obtain ⟨k,hk⟩:∃k,l.any (fun q=>decide (q.parent=nm))=k:=⟨_,rfl⟩
 obtain ⟨r,hr⟩:∃r,lone l nm=r:=⟨_,rfl⟩
 rw [hp] at CP HF
 rw [hk] at CC HF
 rw [hr] at HF ⊢
 have HB0:=hide hb0
 have HC:=hide hcell
 clear h hb0 hp hk hr hcell
 go_enter Tryz.func117,Tryz.ntmps117
 go_wp2_with fail
 refine (uH CP _ (uH HB0)).mono ?_
 rintro e w2 ⟨rfl,hb⟩
 have HB2:=hide (yB (uH HB0) hb)
 have HC2:=hide ((hb.cell (p:=⟨w.heap.size,0,none⟩) (yG (uH HC))).trans (uH HC))
 clear hb HC HB0 CP
 by_cases h0:0≤p
 ·go_wp2_with fail
  refine (uH CC _ (uH HB2) (uH HC2)).mono ?_
  rintro e w3 ⟨rfl,hb⟩
  have HB3:=hide (yB (uH HB2) hb)
  clear hb
  go_wp2
  go_ret
  exact ⟨yF (by rw [uH HF];simp [h0]),uH HB3⟩
 ·go_wp2
  go_ret
  exact ⟨yF (by rw [uH HF];simp [h0]),uH HB2⟩
theorem placeFrom_at {nm:List UInt8}:∀(l:List Q) (k j:Nat),placeFrom nm l k=(j:Int)→∃i,∃h:i<l.length,j=k+i∧l[i].name=nm
 | [],k,j,h=>by simp [placeFrom] at h
 | q::t,k,j,h=>by
  rw [placeFrom] at h
  split at h
  ·rename_i hq
   exact ⟨0,by simp,by omega,by simpa using hq⟩
  ·obtain ⟨i,hi,e1,e2⟩:=placeFrom_at t (k+1) j h
   exact ⟨i+1,by simpa using hi,by omega,by simpa using e2⟩
theorem place_at {l:List Q} {nm:List UInt8} {j:Nat} (h:place l nm=(j:Int)):∃hj:j<l.length,l[j].name=nm:=by
 obtain ⟨i,hi,e1,e2⟩:=placeFrom_at l 0 j h
 obtain rfl:j=i:=by omega
 exact ⟨hi,e2⟩
def wayUp (l:List Q) (k:Int):List (List UInt8):=pathAt l (l.length+1) k
theorem way_step {l:List Q} (h:queuesOk l=true) {k:Nat} (hk:k<l.length):wayUp l k=l[k].name::wayUp l (place l l[k].parent):=path_step h hk (by omega)
theorem way_none {l:List Q} {p:Int} (hp:p<0):wayUp l p=[]:=path_end hp
def leavesOf (l:List Q):List (List UInt8):=(l.map Q.name).filter (leaf l)
theorem leavesOf_len (l:List Q):(leavesOf l).length≤l.length:=by
 have:=List.length_filter_le (leaf l) (l.map Q.name)
 rw [List.length_map] at this
 exact this
theorem leavesOf_bad {l:List Q} (h:queuesOk l=false):leavesOf l=[]:=by
 rw [leavesOf,List.filter_eq_nil_iff]
 intro a _
 rw [leaf_lone,h];simp
def starveP (s:St) (x:List UInt8):Bool:=pendingV s x&&(within (usedByV s x).1 (usedByV s x).2 (dueV s x).1 (dueV s x).2&&!decide (usedByV s x=dueV s x))
def starveL (s:St):List (List UInt8):=(leavesOf s.qs).filter (starveP s)
def starveV (s:St):List (List UInt8):=(starveL s).mergeSort fun x y=>decide (x≤y)
def starveF (s:St) (k:Nat):List (List UInt8):=insAll (((s.qs.take k).map Q.name).filter (fun x=>leaf s.qs x&&starveP s x)) []
theorem starveF_end (s:St) {k:Nat} (h:s.qs.length≤k):starveF s k=starveV s:=by
 rw [starveF,starveV,insAll_eq,List.take_of_length_le h,starveL,leavesOf,List.filter_filter]
 congr 1
 apply List.filter_congr
 intro x _
 rw [Bool.and_comm]
theorem starveF_step (s:St) {k:Nat} (h:k<s.qs.length):starveF s (k+1)=if (leaf s.qs s.qs[k].name&&starveP s s.qs[k].name)=true then OrdM.ins Op.bytesLess s.qs[k].name (starveF s k) else starveF s k:=by
 rw [starveF,List.take_succ_eq_append_getElem h,List.map_append,List.filter_append]
 cases hb:leaf s.qs s.qs[k].name&&starveP s s.qs[k].name with
 | true=>
  rw [if_pos rfl]
  simp only [List.map_cons,List.map_nil,List.filter_cons,hb,if_true,List.filter_nil]
  rw [insAll_snoc];rfl
 | false=>
  rw [if_neg (by simp)]
  simp only [List.map_cons,List.map_nil,List.filter_cons,hb,List.filter_nil]
  rw [if_neg (by simp),List.append_nil];rfl
theorem starveF_len (s:St) (k:Nat):(starveF s k).length≤k:=by
 rw [starveF,(insAll_perm _ _).length_eq,List.append_nil]
 refine Nat.le_trans (List.length_filter_le _ _) ?_
 simp
 omega
end
section
open Go.RowKit Go.Shelf
attribute [local go_sem] Oper.semAt_some
def KpQ (n:Nat) (W W':World):Prop:=Below n W W'∧∀k q,QBox W k q→QBox W' k q
theorem kpq_t {n:Nat} {A B C:World} (h:KpQ n A B) (k:KpQ n B C):KpQ n A C:=⟨h.1.trans k.1,fun i q hq=>k.2 i q (h.2 i q hq)⟩
theorem kpq_b {n:Nat} {w:World} (hn:n≤w.heap.size) (W:World) (l:Nat) (o o':Obj) (hl:w.heap.size≤l) (h:W.heap[l]? = some o) (h1:o.isCells=false) (h2:o.isWalk=false):KpQ n W (W.putObj l o'):=by
 refine ⟨belowK_b hn W l o o' hl h h1 h2,fun k q hq=>?_⟩
 have hne:k≠l:=fun e=>by
  subst e
  rw [show W.heap[k]? = _ from hq] at h
  cases h
  cases h1
 exact ((grownBy_putObj' W l o').block k hq.lt (by simp;omega)).trans hq
theorem kpq_of {n:Nat} {W W':World} (hn:n≤W.heap.size) (h:Below W.heap.size W W'):KpQ n W W':=⟨h.mono hn,fun k q hq=>hq.below h⟩
def sliceLen:Value→Nat
 | .slice _ n _=>n
 | _=>0
theorem abide {J:List Q→World→Prop} {B:Nat} (hJ:AbidesFrom B J) {pre:List Q} {W W':World} (h:J pre W) (hb:Below W.heap.size W W'):J pre W':=
 hJ pre W W' none h (grownBy_below (grownBy_refl W none) hb) (fun r e=>by cases e)
theorem above1_in (n l Bq Bn:Nat) (ao:Option Addr) (len cap:Nat) (ls:List Q) (nm:List UInt8) (w0 W:World) (J Jx:List Q→World→Prop) (hJ:AbidesFrom W.heap.size J)
  (hY:∀pre x W1,x ∈ ls→J pre W1→pre.length<ls.length→YieldAt Fence.wide (n - 1) Tryz.prog l #[qv x] W1 fun e W'=>
   (e=.returned (.bool true)∧J (pre++[x]) W'∧KpQ w0.heap.size W1 W')∨(e=.returned (.bool false)∧Jx (pre++[x]) W'))
  (hq:W.cell? ⟨Bq,0,none⟩=some (.slice ao len cap)) (hnm:W.cell? ⟨Bn,0,none⟩=some (.string (bs nm))) (h:QRow w0 ao len ls) (hb:Below w0.heap.size w0 W) (hl:len≤1048576) (hc:len≤cap) (h0:J [] W) :
  CallsIn Fence.wide n Tryz.prog 195 #[.func (.yield l) #[] #[],.pointer (some ⟨Bq,0,none⟩),.pointer (some ⟨Bn,0,none⟩)] W fun e W'=>(∃v,e=.returned v)∧
   ((∃ys,ys=ups ls nm∧J ys W')∨(∃pre,pre <+: ups ls nm∧Jx pre W')):=by
 have HR:=hide h
 have HL:=hide h.1
 have HB:=hide hb
 have HJ:=hide hJ
 have HY:=hide hY
 have H0:=hide h0
 have CP:=hide (fun wx (hb:Below w0.heap.size w0 wx) (k:Nat) (hk:k≤len) (x:List UInt8)=>place_any ao k cap (ls.take k) x wx ((h.below hb).take hk) (by omega))
 obtain ⟨p0,hp0⟩:∃p,place (ls.take len) nm=p:=⟨_,rfl⟩
 have CP0:=hide (by have:=uH CP W.drew hb.drew len (yJ _) nm;rw [hp0] at this;exact this)
 have HU0:=hide (show ups ls nm=[]++ups (ls.take len) nm by rw [show ls.take len=ls by rw [h.1];exact List.take_length];rfl)
 have HP0:=hide hp0
 have HN:=hide (ups_len (ls.length+1) ls nm)
 clear h hb hJ hY h0 hp0
 have hmx:Tryz.prog.follows .mixedOrders=true:=by kernel_rfl
 refine callsIn_of_wp Tryz.func195 rfl trivial ?_ rfl
 simp only [Tryz.ntmps195,List.size_toArray,List.length_cons,List.length_nil,Nat.reduceAdd,Nat.reduceSub,Array.replicate_succ,Array.replicate_zero,List.push_toArray,List.append_toArray,List.nil_append,List.cons_append]
 gi_wp2_with fail
 gi_region_o
 gi_wp2_with fail
 refine ⟨trivial,(by intro e;cases e),?_⟩
 refine (callsIn_wide.2 (uH CP0)).mono ?_
 rintro e w1 ⟨rfl,hb⟩
 have HB1:=hide (yB (uH HB).drew hb)
 have H1:=hide (abide (uH HJ) (uH H0) (yB (yH _ W).drew hb))
 clear hb HB H0 CP0 hq hnm
 gi_wp2
 gi_loopw [4,5,6,7] (fun a s i _ wr=>∃(k:Nat) (x:List UInt8) (pre:List Q) (p:Int),k≤len∧a=.slice ao k cap∧s=.string (bs x)∧i=.int .i64 p∧Hid (place (ls.take k) x=p)∧Hid (ups ls nm=pre++ups (ls.take k) x)∧Hid (J pre wr)∧Hid (Below w0.heap.size w0 wr)) (fun a _ _ _ _=>sliceLen a)
 case atStart=>exact ⟨len,nm,[],p0,yJ _,rfl,rfl,rfl,HP0,HU0,H1,HB1⟩
 case round=>
  obtain ⟨k,x,pre,p,hk,rfl,rfl,rfl,HP,HU,HJ1,HBr⟩:=hrel
  clear HB1 H1 HP0 HU0
  by_cases h0:0≤p
  ·obtain ⟨j,rfl⟩:∃j:Nat,p=j:=⟨p.toNat,by omega⟩
   have hjk:j<k:=by have:=place_range (ls.take k) x;rw [uH HP] at this;simp at this;omega
   have hjl:j<(ls.take k).length:=by simp;have:=uH HL;omega
   have hst:=ups_step hjl (uH HP)
   obtain ⟨b,off,rfl,hq⟩:=(((uH HR).below (uH HBr)).take hk).at hjk
   obtain ⟨c0,c1,c2,c3⟩:=hq hjl
   rw [List.take_take,show min j k=j by omega] at hst
   obtain ⟨⟨qn,pa,du,mo⟩,hs⟩:∃s,(ls.take k)[j]=s:=⟨_,rfl⟩
   have hin:(⟨qn,pa,du,mo⟩:Q) ∈ ls:=by rw [←hs];exact List.mem_of_mem_take (yM _)
   rw [hs] at c0 c1 c2 c3 hst
   simp only at c0 c1 c2 c3 hst
   have HA:=hide (QBox.new wr ⟨qn,pa,du,mo⟩)
   have HB2:=hide (yA (uH HBr) (qobj ⟨qn,pa,du,mo⟩))
   have hlt:pre.length<ls.length:=by
    have e:=congrArg List.length (uH HU)
    rw [hst] at e
    have:=uH HN
    rw [show upsFrom (ls.length+1) ls nm=ups ls nm from rfl,e] at this
    simp at this
    omega
   obtain ⟨fn,tmps,assign,body,hy,hR⟩:=uH HY pre ⟨qn,pa,du,mo⟩ _ hin (abide (uH HJ) (uH HJ1) (yA (yH _ wr) (qobj ⟨qn,pa,du,mo⟩))) hlt
   have HRR:=hide hR
   have HST:=hide hst
   have k0:=(uH HA).c0
   have k1:=(uH HA).c1
   have k2:=(uH HA).c2
   have k3:=(uH HA).c3
   simp only at k0 k1 k2 k3
   clear hq hR hst hs hjl hlt hin
   gi_wp2
   refine ⟨(by intro e;cases e),?_⟩
   refine (uH HRR).mono ?_
   rintro e W3 (⟨rfl,hJ3,hk3⟩ | ⟨rfl,hJx3⟩)
   ·have HA3:=hide (hk3.2 _ _ (uH HA))
    have HB3:=hide ((uH HB2).trans hk3.1)
    have HJ3:=hide hJ3
    clear k0 k1 k2 k3 hJ3 hk3 hy HRR c0 c1 c2 c3
    have k1:=(uH HA3).c1
    simp only at k1
    have hcut:=cut_q b off k cap j (by omega)
    have hjc:(j:Int)≤cap:=by omega
    obtain ⟨p',hp'⟩:∃p,place (ls.take j) pa=p:=⟨_,rfl⟩
    have CPj:=hide (by have:=uH CP W3.drew (uH HB3).drew j (by omega) pa;rw [hp'] at this;exact this)
    have HP':=hide hp'
    clear hp'
    gi_wp2_with fail
    gi_region_o
    gi_wp2_with fail
    refine ⟨trivial,(by intro e;cases e),?_⟩
    refine (callsIn_wide.2 (uH CPj)).mono ?_
    rintro e w4 ⟨rfl,hb⟩
    have HB4:=hide (yB (uH HB3).drew hb)
    have HJ4:=hide (abide (uH HJ) (uH HJ3) (yB (yH _ W3).drew hb))
    clear hb CPj k1
    gi_wp2
    go_roundw
    case rel=>exact ⟨j,pa,pre++[⟨qn,pa,du,mo⟩],p',by omega,rfl,rfl,rfl,HP',hide (by rw [uH HU,uH HST];simp),HJ4,HB4⟩
    case measure=>simp [sliceLen];omega
   ·gi_wp2
    refine bodyPost_ret (results_none rfl _ _ _) rfl ?_
    exact ⟨⟨_,rfl⟩,.inr ⟨pre++[⟨qn,pa,du,mo⟩],⟨ups (ls.take j) pa,by rw [uH HU,uH HST];simp⟩,hJx3⟩⟩
  ·gi_wp2
   go_end0
   have he:pre=ups ls nm:=by rw [uH HU,ups_none (by rw [uH HP];omega)];simp
   subst he
   exact ⟨⟨_,rfl⟩,.inl (by first | exact uH HJ1 | exact ⟨_,rfl,uH HJ1⟩)⟩
theorem above_any (ao:Option Addr) (len cap:Nat) (nm:List UInt8) (w:World) :
  Calls Tryz.prog 167 #[.slice ao len cap,.string (bs nm)] w fun e w'=>e=.returned (.func (.func 195) #[] #[.pointer (some ⟨w.heap.size,0,none⟩),.pointer (some ⟨w.heap.size+1,0,none⟩)])∧(w.alloc (.cells #[.slice ao len cap] 31)).alloc (.cells #[.string (bs nm)] 9)=w':=by
 have hmf:∀(fn:Fn) (first cap:Array Value) (w:World),(Instr.makeFunc fn first cap).run Tryz.prog w=.ok (.func fn first cap) w:=fun _ _ _ _=>rfl
 go_enter Tryz.func167,Tryz.ntmps167
 go_wp2
 go_ret
 exact ⟨rfl,rfl⟩
theorem above_stops (n Bq Bn:Nat) (ao:Option Addr) (len cap:Nat) (ls:List Q) (nm:List UInt8) (w0 w:World) (h:QRow w0 ao len ls) (hb:Below w0.heap.size w0 w) (hl:len≤1048576) (hc:len≤cap)
  (hq:w.cell? ⟨Bq,0,none⟩=some (.slice ao len cap)) (hn:w.cell? ⟨Bn,0,none⟩=some (.string (bs nm))) :
  SeqStopsK Fence.wide n Tryz.prog 195 #[.pointer (some ⟨Bq,0,none⟩),.pointer (some ⟨Bn,0,none⟩)] (fun x : { q:Q // q ∈ ls }=>#[qv x.1]) (KpQ w0.heap.size) (fun ys=>ys.map Subtype.val=ups ls nm) (fun pre=>pre.map Subtype.val <+: ups ls nm) ls.length w:=by
 intro l J Jx W hW hJ hJx hY h0
 refine (above1_in n l Bq Bn ao len cap ls nm w0 W (fun pre W=>∃p:List { q:Q // q ∈ ls },p.map Subtype.val=pre∧J p W) (fun pre W=>∃p:List { q:Q // q ∈ ls },p.map Subtype.val=pre∧Jx p W)
  (fun s A B row hs hg hr=>by obtain ⟨p,e,hj⟩:=hs;exact ⟨p,e,hJ p A B row hj hg hr⟩) ?_ ((hW.cell (p:=⟨Bq,0,none⟩) (yG hq)).trans hq) ((hW.cell (p:=⟨Bn,0,none⟩) (yG hn)).trans hn) h (yB hb hW) hl hc ⟨[],rfl,h0⟩).mono ?_
 ·rintro pre x W1 hx ⟨p,rfl,hj⟩ hlt
  obtain ⟨fn,tmps,assign,body,hy,hR⟩:=hY p ⟨x,hx⟩ W1 hj (by simpa using hlt)
  refine ⟨fn,tmps,assign,body,hy,hR.mono ?_⟩
  rintro e W' (⟨rfl,hj',hk⟩ | ⟨rfl,hj'⟩)
  ·exact .inl ⟨rfl,⟨p++[⟨x,hx⟩],by simp,hj'⟩,hk⟩
  ·exact .inr ⟨rfl,⟨p++[⟨x,hx⟩],by simp,hj'⟩⟩
 ·rintro e W' ⟨hv,⟨ys,hy,p,hp,hj⟩ | ⟨pre,hpre,p,hp,hj⟩⟩
  ·exact ⟨hv,.inl ⟨p,hp.trans hy,hj⟩⟩
  ·exact ⟨hv,.inr ⟨p,(show p.map Subtype.val <+: ups ls nm by rw [hp];exact hpre),hj⟩⟩
theorem qbox_row {w w1:World} {k:Nat} {q:Q} (h:QBox w k q) {base size n e:Nat} {v:Value} {xs:List Value} (hr:w.ownsRow base e size v n xs) (he:e≠99) (hg:w.grownBy w1 v.ownBlock):QBox w1 k q:=by
 refine (hg.block k h.lt ?_).trans h
 rcases hr.2 with ⟨rfl,_⟩ | ⟨g,cap,cur,rfl,_,hgb,_⟩
 ·simp [Value.ownBlock]
 ·intro e'
  obtain rfl:k=g:=by simpa [Value.ownBlock] using e'
  have:=(show w.heap[k]? = _ from h).symm.trans hgb
  simp [qobj] at this
  exact he this.2.symm
theorem qbox_store {w:World} {k B t:Nat} {q:Q} {v u:Value} (h:QBox w k q) (hv:Go.Boxed w B t v):QBox (w.setCell ⟨B,0,none⟩ u) k q:=by
 refine ((grownBy_setCell' w B u).block k h.lt ?_).trans h
 intro e'
 obtain rfl:k=B:=by simpa using e'
 have:=(show w.heap[k]? = _ from h).symm.trans hv
 simp [qobj] at this
theorem boxed_below {w w':World} {B t:Nat} {v:Value} (h:Go.Boxed w B t v) (hb:Below w.heap.size w w'):Go.Boxed w' B t v:=(hb.block B h.lt).trans h
theorem keeps_below {w w':World} (hb:Below w.heap.size w w'):KeepsOthers w w':=KeepsOthers.of_grownBy (row:=none) (grownBy_below (grownBy_refl w none) hb) (fun j o e=>by cases e)
theorem row_below {w w':World} {B e size n:Nat} {v:Value} {xs:List Value} (h:w.ownsRow B e size v n xs) (hb:Below w.heap.size w w'):w'.ownsRow B e size v n xs:=
 h.kept (grownBy_below (grownBy_refl w none) hb) (by by_cases e:v.ownBlock=none;exact .inl e;exact .inr e)
theorem gather_step (T E:TypeId) (z:Value) (bytes:Nat) (i0:TypeInfo) (hu:Tryz.prog.underlying T=some (.slice E)) (hi:Tryz.prog.info? E=some i0) (hz0:i0.zero=some z) (hz1:i0.size=1) (hz2:i0.bytes=bytes) (hzc:z.cells.size=1) (hTE:T≠E) (hEQ:E≠99) (hby:bytes≤16)
  {base B n:Nat} {v:Value} {xs:List Value} {w3:World} (hv:Go.Boxed w3 B T v) (hr:w3.ownsRow base E 1 v n xs) (hn:n≤1048576) (hbase:base≤w3.heap.size) (hB:base≤B) (y:Value) (hy:y.oneCell'=true) :
  ∃g cp w4,(Builtin.append_ #[T,T] T #[v,.slice (some ⟨w3.heap.size,0,none⟩) 1 1]).run Tryz.prog (w3.alloc (.cells #[y] E))=.ok (.slice (some ⟨g,0,none⟩) (n+1) cp) w4∧w4.cell? ⟨B,0,none⟩=some v∧w4.frozen? ⟨B,0,none⟩=false
   ∧Hid (Go.Boxed (w4.setCell ⟨B,0,none⟩ (.slice (some ⟨g,0,none⟩) (n+1) cp)) B T (.slice (some ⟨g,0,none⟩) (n+1) cp)∧(w4.setCell ⟨B,0,none⟩ (.slice (some ⟨g,0,none⟩) (n+1) cp)).ownsRow base E 1 (.slice (some ⟨g,0,none⟩) (n+1) cp) (n+1) (xs++[y])
    ∧KeepsOthers w3 (w4.setCell ⟨B,0,none⟩ (.slice (some ⟨g,0,none⟩) (n+1) cp))∧Below base w3 (w4.setCell ⟨B,0,none⟩ (.slice (some ⟨g,0,none⟩) (n+1) cp))∧∀k q,QBox w3 k q→QBox (w4.setCell ⟨B,0,none⟩ (.slice (some ⟨g,0,none⟩) (n+1) cp)) k q):=by
 have h16:(n+1)*bytes≤140737488355328:=by
  have:(n+1)*bytes≤1048577*16:=Nat.mul_le_mul (by omega) hby
  omega
 obtain ⟨v',w4,hrun,hown',hgrow,_⟩:=run_append_own (P:=Tryz.prog) (w3.alloc (.cells #[y] E)) base T T E i0 z 1 bytes hu hi hz0 hz1 hz2 hzc (by decide) v n xs (hr.alloc _) ⟨w3.heap.size,0,none⟩ 1 1 [y] rfl
  (by intro j u hj;match j,hj with | 0,hj=>simp at hj;subst hj;simp [Addr.add]) (by intro u hu;simp at hu;subst hu;exact hy) (by unfold maxLen;omega) h16 (by simp;omega)
 obtain ⟨g,cp,rfl⟩:=ownsRow_succ hown'
 obtain ⟨hv1,hv2,hr2,hk2,hb2⟩:=hv.appended hTE hr hbase hB hown' hgrow
 refine ⟨g,cp,w4,hrun,hv1.cell,hv1.frozen,hide ⟨hv2,hr2,hk2,hb2,fun k q hq=>?_⟩⟩
 have h1:QBox (w3.alloc (.cells #[y] E)) k q:=hq.below (yA (yH _ w3) _)
 exact qbox_store (qbox_row h1 (hr.alloc _) hEQ hgrow) hv1
end
section
open Go.RowKit
def appsFrom (qs:List Q) (nx:Int):Int→List Appl→Bool
 | _,[]=>true
 | last,a::t=>decide (last<a.id)&&(decide (a.id<nx)&&(lone qs a.queue&&(asksOk a.asks&&appsFrom qs nx a.id t)))
def appsOkV (s:St):Bool:=decide (s.apps.length≤40)&&appsFrom s.qs s.next 0 s.apps
theorem appsFrom_step {qs:List Q} {nx last:Int} {l:List Appl} {k:Nat} (h:k<l.length):appsFrom qs nx last (l.drop k)=(decide (last<l[k].id)&&(decide (l[k].id<nx)&&(lone qs l[k].queue&&(asksOk l[k].asks&&appsFrom qs nx l[k].id (l.drop (k+1)))))):=by
 rw [List.drop_eq_getElem_cons h,appsFrom]
theorem appsFrom_end {qs:List Q} {nx last:Int} {l:List Appl} {k:Nat} (h:l.length≤k):appsFrom qs nx last (l.drop k)=true:=by
 rw [List.drop_of_length_le h];rfl
theorem appsOk_any (x:Sls) (s:St) (w:World) (h:SRow w x s) (hf:FitSt s) :
  Calls Tryz.prog 76 #[sv x s] w fun e w'=>e=.returned (.bool (appsOkV s))∧Below w.heap.size w w':=by
 have hql:x.ql≤1048576:=by have:=h.len.1;have:=hf.1.1;omega
 have hal:x.al≤1048576:=by have:=h.len.2.1;have:=hf.2.1.1;omega
 have HR:=hide h.2.1
 have HL:=hide h.2.1.1
 have HFA:=hide hf.2.1
 have CL:=hide (fun wx (hb:Below w.heap.size w wx) (nm:List UInt8)=>lone_any x.qa x.ql x.qc s.qs nm wx (h.1.below hb) hql)
 have HS:=hide (show appsOkV s=(decide (x.al≤40)&&appsFrom s.qs s.next 0 s.apps) by rw [appsOkV,←h.2.1.1])
 obtain ⟨o,ho⟩:∃o,appsOkV s=o:=⟨_,rfl⟩
 rw [ho] at HS ⊢
 clear h hf ho
 have hb0:=yA (yH _ w) (.cells (svc x s) 36)
 have P0:=hide (yD w (svc x s) 36)
 obtain ⟨qa,ql,qc,aa,al,ac,ma,ml,mc,ca,cl,cc⟩:=x
 obtain ⟨qs,clock,epoch,next,serial,apps,ms,cs⟩:=s
 simp only at hql hal HR HL HFA CL HS P0 hb0
 have HB0:=hide hb0
 clear hb0
 by_cases h40:al≤40
 case neg=>
  have hi:(40:Int)<al:=by omega
  rw [decide_eq_false h40] at HS
  go_enter Tryz.func76,Tryz.ntmps76
  go_wp2
  go_ret
  exact ⟨yF (by rw [uH HS];simp),uH HB0⟩
 have hi:¬(40:Int)<al:=by omega
 rw [decide_eq_true h40,Bool.true_and] at HS
 clear h40
 go_enter Tryz.func76,Tryz.ntmps76
 go_wp2
 go_loopw [3,13] (fun la i wr=>∃(k:Nat) (last:Int),k≤al∧i=.int .i64 k∧la=.int .i64 last∧Hid (o=appsFrom qs next last (apps.drop k))∧Hid (Blk wr w.heap.size (svc ⟨qa,ql,qc,aa,al,ac,ma,ml,mc,ca,cl,cc⟩ ⟨qs,clock,epoch,next,serial,apps,ms,cs⟩) 36)∧Hid (Below w.heap.size w wr)) (fun _ i _=>al - (intOf i).toNat)
 case atStart=>exact ⟨0,0,Nat.zero_le _,rfl,rfl,hide (by rw [uH HS];simp),P0,HB0⟩
 case round=>
  obtain ⟨k,last,hk,rfl,rfl,HO,P1,HB⟩:=hrel
  clear P0 HB0 HS
  by_cases hlt:k<al
  ·obtain ⟨b,off,rfl,hq⟩:=((uH HR).below (uH HB)).at hlt
   have hkl:k<apps.length:=by have:=uH HL;omega
   have hst:=hide (appsFrom_step (qs:=qs) (nx:=next) (last:=last) (l:=apps) (k:=k) hkl)
   have hfa:=(uH HFA).2 _ (yM hkl)
   obtain ⟨xo,xl,xc,c0,c1,c2,hrow,_⟩:=hq hkl
   obtain ⟨⟨id,qu,asks⟩,hs⟩:∃s,apps[k]=s:=⟨_,rfl⟩
   rw [hs] at c0 c1 hst hrow hfa
   simp only at c0 c1 hst hrow
   have hxl:xl≤1048576:=by have h1:=hrow.1;have h2:=hfa.2.1;simp only at h2;omega
   obtain ⟨lo,hlo⟩:∃b,lone qs qu=b:=⟨_,rfl⟩
   obtain ⟨so,hso⟩:∃b,asksOk asks=b:=⟨_,rfl⟩
   have C1:=hide (fun wx (hb:Below w.heap.size w wx)=>by have:=uH CL wx hb qu;rw [hlo] at this;exact this)
   have C2:=hide (fun wx (hb:Below wr.heap.size wr wx)=>by have:=asksOk_any id qu xo xl xc asks wx (hrow.below hb) hxl hfa.2.2;rw [hso] at this;exact this)
   rw [hlo,hso] at hst
   have hb2:=yA (yH _ wr) (.cells #[.int .i64 id,.string (bs qu),.slice xo xl xc] 106)
   have P2:=hide ((uH P1).below hb2)
   have V2:=hide (yD wr #[.int .i64 id,.string (bs qu),.slice xo xl xc] 106)
   have HB2:=hide (yB (uH HB) hb2)
   have HW2:=hide hb2
   have p0:=(uH P2).at 0
   have p3:=(uH P2).at 3
   have q5:=(uH P1).at 5
   simp at p0 p3 q5
   clear hq hs hkl hrow hfa hb2 hlo hso CL
   by_cases h1:last<id
   case neg=>
    have h1':id≤last:=by omega
    go_wp2
    go_ret
    exact ⟨yF (by rw [uH HO,uH hst,decide_eq_false (show ¬last<id by omega)];simp),uH HB2⟩
   by_cases h2:id<next
   case neg=>
    have h2':next≤id:=by omega
    have h1':¬id≤last:=by omega
    go_wp2
    go_ret
    exact ⟨yF (by rw [uH HO,uH hst,decide_eq_false (show ¬id<next by omega)];simp),uH HB2⟩
   have h2':¬next≤id:=by omega
   have h1':¬id≤last:=by omega
   have HO2:=hide (show o=(lo&&(so&&appsFrom qs next id (apps.drop (k+1)))) by rw [uH HO,uH hst,decide_eq_true h1,decide_eq_true h2];simp)
   clear HO hst
   go_wp2_with fail
   refine (uH C1 _ (uH HB2)).mono ?_
   rintro e w1 ⟨rfl,hb⟩
   have P3:=hide ((uH P2).below hb)
   have V3:=hide ((uH V2).below hb)
   have HB3:=hide (yB (uH HB2) hb)
   have HW3:=hide (yB (uH HW2) hb)
   have a0:=(uH V3).at 0
   have a1:=(uH V3).at 1
   have a2:=(uH V3).at 2
   simp at a0 a1 a2
   clear hb P2 V2 HB2 HW2 C1 p0 p3 q5
   cases lo with
   | false=>
    go_wp2
    go_ret
    exact ⟨yF (by rw [uH HO2];simp),uH HB3⟩
   | true=>
   go_wp2_with fail
   refine (uH C2 _ (uH HW3)).mono ?_
   rintro e w2 ⟨rfl,hb⟩
   have P4:=hide ((uH P3).below hb)
   have V4:=hide ((uH V3).below hb)
   have HB4:=hide (yB (uH HB3) hb)
   have d0:=(uH V4).at 0
   simp at d0
   clear hb P3 V3 HB3 HW3 C2 a0 a1 a2
   cases so with
   | false=>
    go_wp2
    go_ret
    exact ⟨yF (by rw [uH HO2];simp),uH HB4⟩
   | true=>
   go_wp2
   go_roundw
   case rel=>exact ⟨k+1,id,by omega,by go_num,rfl,hide (by rw [uH HO2];simp),P4,HB4⟩
   case measure=>simp [intOf];omega
  ·go_wp2
   go_ret
   exact ⟨yF (by rw [uH HO,appsFrom_end (by have:=uH HL;omega)]),uH HB⟩
theorem implLeaf_any (ao:Option Addr) (len cap:Nat) (l:List Q) (nm:List UInt8) (w:World) (h:QRow w ao len l) (hl:len≤1048576) (hn:∀q ∈ l,q.name.length≤1048576) (hc:len≤cap) :
  Calls Tryz.prog 86 #[.slice ao len cap,.string (bs nm)] w fun e w'=>e=.returned (.bool (leaf l nm))∧Below w.heap.size w w':=by
 have CQ:=hide (implQueuesOk_any ao len cap l w h hl hn hc)
 have CL:=hide (fun wx (hb:Below w.heap.size w wx)=>lone_any ao len cap l nm wx (h.below hb) hl)
 have HF:=hide (leaf_lone l nm)
 obtain ⟨o,ho⟩:∃o,queuesOk l=o:=⟨_,rfl⟩
 obtain ⟨k,hk⟩:∃k,lone l nm=k:=⟨_,rfl⟩
 obtain ⟨r,hr⟩:∃r,leaf l nm=r:=⟨_,rfl⟩
 rw [ho] at CQ HF
 rw [hk] at CL HF
 rw [hr] at HF ⊢
 clear h hn ho hk hr
 go_enter Tryz.func86,Tryz.ntmps86
 go_wp2_with fail
 refine (uH CQ).mono ?_
 rintro e w1 ⟨rfl,hb⟩
 have HB1:=hide hb
 clear hb CQ
 cases o with
 | false=>
  go_wp2
  go_ret
  exact ⟨yF (by rw [uH HF];simp),uH HB1⟩
 | true=>
  go_wp2_with fail
  refine (uH CL _ (uH HB1)).mono ?_
  rintro e w2 ⟨rfl,hb⟩
  have HB2:=hide (yB (uH HB1) hb)
  clear hb HB1 CL
  go_wp2
  go_ret
  exact ⟨yF (by rw [uH HF];simp),uH HB2⟩
theorem texts_nil (B:Nat) (w:World):Texts B w (.slice none 0 0) []:=World.ownsRow_nil _ _ _ _
theorem Texts.open {B:Nat} {w:World} {v:Value} {ps:List (List UInt8)} (h:Texts B w v ps):∃ao cap,v=.slice ao ps.length cap∧∀j (hj:j<ps.length),∃g,ao=some ⟨g,0,none⟩∧w.cell? ⟨g,j,none⟩=some (.string (bs ps[j])):=by
 by_cases hp:ps=[]
 ·subst hp
  obtain ⟨a,c,rfl⟩:=texts_none h
  exact ⟨a,c,rfl,fun j hj=>by simp at hj⟩
 ·obtain ⟨g,c,rfl,hs,_⟩:=texts_some h hp
  exact ⟨_,c,rfl,fun j hj=>⟨g,rfl,hs.text hj⟩⟩
theorem leaves_any (ao:Option Addr) (len cap:Nat) (l:List Q) (w:World) (h:QRow w ao len l) (hl:len≤1048576) (hn:∀q ∈ l,q.name.length≤1048576) (hc:len≤cap) :
  Calls Tryz.prog 80 #[.slice ao len cap] w fun e w'=>∃v,e=.returned v∧Texts w.heap.size w' v (leavesOf l)∧Below w.heap.size w w':=by
 obtain ⟨i0,hi,hz0,hz1,hz2⟩:=info_parts Tryz.infoS
 have HR:=hide h
 have HL:=hide h.1
 have HN:=hide hn
 have CQ:=hide (implQueuesOk_any ao len cap l w h hl hn hc)
 have CL:=hide (fun x wx (hb:Below w.heap.size w wx)=>lone_any ao len cap l x wx (h.below hb) hl)
 have HLF:=hide (fun x=>leaf_lone l x)
 obtain ⟨ok,hok⟩:∃ok,queuesOk l=ok:=⟨_,rfl⟩
 rw [hok] at CQ HLF
 have HOK:=hide hok
 clear h hn hok
 go_enter Tryz.func80,Tryz.ntmps80
 go_wp2_with fail
 refine (uH CQ).mono ?_
 rintro e w1 ⟨rfl,hb⟩
 have HB1:=hide hb
 clear hb CQ
 cases ok
 case false=>
  go_wp2
  go_ret
  exact ⟨_,rfl,by rw [leavesOf_bad (uH HOK)];exact texts_nil _ _,uH HB1⟩
 go_wp2
 go_loopw [3,5,11] (fun v _ i wr=>∃(k:Nat) (o:List ByteArray),k≤len∧i=.int .i64 k∧o.length≤k∧Hid (o=(((l.take k).map Q.name).filter (leaf l)).map bs)∧Hid (wr.ownsRow w.heap.size 9 1 v o.length (scells o))∧Hid (Below w.heap.size w wr)) (fun _ _ i _=>len - (intOf i).toNat)
 case atStart=>exact ⟨0,[],Nat.zero_le _,rfl,yJ _,hide (by simp),hide (World.ownsRow_nil _ _ _ _),HB1⟩
 case round=>
  obtain ⟨k,o,hk,rfl,hol,HO,HS,HB⟩:=hrel
  by_cases hlt:k<len
  ·have HR2:=hide ((uH HR).below (uH HB))
   obtain ⟨b,off,rfl,hq⟩:=(uH HR2).at hlt
   have hkl:k<l.length:=by have:=uH HL;omega
   obtain ⟨c0,c1,c2,c3⟩:=hq hkl
   have hz:=uH HN l[k] (yM _)
   have htk:=List.take_succ_eq_append_getElem hkl
   clear hq
   obtain ⟨⟨nm,pa,du,mo⟩,hs⟩:∃s,l[k]=s:=⟨_,rfl⟩
   rw [hs] at c0 c1 c2 c3 hz htk
   simp only at c0 c1 c2 c3 hz
   have HTK:=hide htk
   have HA:=hide (QBox.new wr ⟨nm,pa,du,mo⟩)
   have HB2:=hide (yA (uH HB) (qobj ⟨nm,pa,du,mo⟩))
   have HS2:=hide ((uH HS).alloc (qobj ⟨nm,pa,du,mo⟩))
   obtain ⟨f,hf⟩:∃f,lone l nm=f:=⟨_,rfl⟩
   have CL1:=hide (fun wx hb=>by have:=uH CL nm wx hb;rw [hf] at this;exact this)
   have HLF1:=hide (show leaf l nm=f by rw [uH HLF,hf];rfl)
   have hsz:(bs nm).size≤281474976710656:=by rw [bs_size];omega
   have k0:=(uH HA).c0
   simp only at k0
   clear hs hkl hf htk hz HR2
   go_wp2_with fail
   refine (uH CL1 _ (uH HB2)).mono ?_
   rintro e w2 ⟨rfl,hb⟩
   have HA3:=hide ((uH HA).below hb)
   have HB3:=hide (yB (uH HB2) hb)
   have HS3:=hide (sown_below (uH HS2) hb)
   clear hb HA HB2 HS2 k0 HB HS
   cases f with
   | false=>
    go_wp2
    go_roundw
    case rel=>exact ⟨k+1,o,by omega,by go_num,by omega,hide (by rw [uH HTK,List.map_append,List.filter_append];simp only [List.map_cons,List.map_nil,List.filter_cons,uH HLF1,List.filter_nil];rw [if_neg (by simp),List.append_nil];exact uH HO),HS3,HB3⟩
    case measure=>simp [intOf];omega
   | true=>
    have k0:=(uH HA3).c0
    simp only at k0
    go_wp2_with fail
    refine (clone_any (bs nm) _ hsz).mono ?_
    rintro e w3 ⟨rfl,hb⟩
    have hown:=sown_below (uH HS3) hb
    have hbel:=yB (uH HB3) hb
    have hwz:=hbel.size
    clear hb HA3 HB3 HS3 k0
    go_wp2_with (at_builtin;refine wpList_append_own _ rfl _ _ 49 rfl w.heap.size 9 i0 (.string ByteArray.empty) 1 16 Tryz.underlying49 hi hz0 hz1 hz2 rfl (by decide) _ _ _ rfl (hown.alloc _) ⟨w3.heap.size,0,none⟩ 1 1 [.string (bs nm)] rfl rfl ?c1 ?c2 ?c3 ?c4 ?c5 ?_)
    case c1=>intro j v hj;match j,hj with | 0,hj=>simp at hj;subst hj;simp [Addr.add]
    case c2=>intro v hv;simp at hv;subst hv;rfl
    case c3=>unfold maxLen;omega
    case c4=>omega
    case c5=>simp;omega
    intro v' w4 hown' hgrow _
    have R:=hide (srow_step hbel hown hown' hgrow (by omega))
    clear hown' hgrow hown hbel
    go_wp2
    go_roundw
    case rel=>exact ⟨k+1,o++[bs nm],by omega,by go_num,by simp;omega,hide (by rw [uH HTK,List.map_append,List.filter_append];simp only [List.map_cons,List.map_nil,List.filter_cons,uH HLF1,List.filter_nil];rw [if_pos (by first | rfl | trivial),List.map_append,←uH HO];rfl),hide (uH R).1,hide (uH R).2⟩
    case measure=>simp [intOf];omega
  ·have hkk:k=len:=by omega
   subst hkk
   go_wp2
   go_ret
   refine ⟨_,rfl,Texts.of (uH HS) ?_,uH HB⟩
   rw [uH HO,List.take_of_length_le (by have:=uH HL;omega)]
   rfl
end
section
open Go.RowKit Go.Shelf
attribute [local go_sem] Oper.semAt_some
end
section
open Go.RowKit Go.Maps
theorem blk_grownU {w w':World} {g:Nat} {arr:Array Value} {t:TypeId} {r:Option Nat} (h:Blk w g arr t) (hg:w.grownBy w' r) (hn:some g≠r):Blk w' g arr t:=(hg.block g h.lt hn).trans h
theorem specAppOf_dr (x:Sls) (s:St) (hs0:List AV) (id:Int) (w:World) (h:SRow w x s) (hav:AVRow w x.aa x.al hs0) (hhd:Heads w hs0 s.apps) (hss:SSome x hs0) (hf:FitSt s) :
  Calls Tryz.prog 68 #[sv x s,.int .i64 id] w fun e w'=>∃v,e=.returned (.tuple #[.agg #[.int .i64 (appOfV s id).1.id,.string (bs (appOfV s id).1.queue),v],.bool (appOfV s id).2])∧Hid (AOwn w.heap.size w' v (appOfV s id).1.asks∧Below w.heap.size w w'):=by
 obtain ⟨i0,hi,hz0,hz1,hz2⟩:=info_parts Tryz.infoA
 have hal:x.al≤1048576:=by have h1:x.al=s.apps.length:=h.len.2.1;have:=hf.2.1.1;omega
 have CA:=hide (fun wx (hb:Below w.heap.size w wx)=>l04App_any x s id wx (h.2.1.below hb) hal)
 have HFP:=hide (apAt_find id s.apps)
 have HR:=hide hav
 have HL:=hide h.len.2.1
 have HA:=hide hhd
 have HSS:=hide hss.k
 have HFA:=hide hf.2.1
 have HAV:=hide (show appOfV s id=match findAp id s.apps with | none=>(⟨0,[],[]⟩,false) | some a=>(a,true) from rfl)
 obtain ⟨⟨⟨vi,vq,aas⟩,fo⟩,hap⟩:∃r,appOfV s id=r:=⟨_,rfl⟩
 rw [hap] at HAV ⊢
 clear h hf hav hhd hss hap
 obtain ⟨qs,clock,epoch,next,serial,apps,ms,cs⟩:=s
 obtain ⟨qa,ql,qc,aa,al,ac,ma,ml,mc,ca,cl,cc⟩:=x
 simp only at CA HFP HR HL HA HFA HAV hal ⊢
 have HB0:=hide (appW_below w (svc ⟨qa,ql,qc,aa,al,ac,ma,ml,mc,ca,cl,cc⟩ ⟨qs,clock,epoch,next,serial,apps,ms,cs⟩))
 have V0:=hide (appW_var w (svc ⟨qa,ql,qc,aa,al,ac,ma,ml,mc,ca,cl,cc⟩ ⟨qs,clock,epoch,next,serial,apps,ms,cs⟩))
 have P0:=hide (appW_box w (svc ⟨qa,ql,qc,aa,al,ac,ma,ml,mc,ca,cl,cc⟩ ⟨qs,clock,epoch,next,serial,apps,ms,cs⟩))
 go_enter Tryz.func68,Tryz.ntmps68
 go_wp2_with fail
 refine (uH CA _ (uH HB0)).mono ?_
 rintro e w1 ⟨rfl,hb⟩
 have HB1:=hide (yB (uH HB0) hb)
 have V1:=hide ((uH V0).below hb)
 have P1:=hide ((uH P0).below hb)
 have hs1:w.heap.size+1+1≤w1.heap.size:=by have:=hb.size;rw [appW_size] at this;exact this
 clear hb CA HB0 V0 P0
 have t0:=(uH V1).at 0
 have t1:=(uH V1).at 1
 have t2:=(uH V1).at 2
 have tf0:=(uH V1).f 0
 have tf1:=(uH V1).f 1
 have tf2:=(uH V1).f 2
 simp at t0 t1 t2
 rcases uH HFP with ⟨hf1,hf2⟩ | ⟨j,hj,hf1,hf2⟩
 ·rw [hf2]
  rw [hf1] at HAV
  have hz:=uH HAV
  simp only [Prod.mk.injEq,Appl.mk.injEq] at hz
  obtain ⟨⟨rfl,rfl,rfl⟩,rfl⟩:=hz
  clear hf1 hf2 HFP
  go_wp2
  have X1:=(((uH V1).set 0 (.int .i64 0)).set 1 (.string { data:=#[] })).set 2 (.slice none 0 0)
  have x0:=X1.at 0
  have x1:=X1.at 1
  have x2:=X1.at 2
  simp at x0 x1 x2
  refine bodyPost_ret (v:=.tuple #[.agg #[.int .i64 0,.string { data:=#[] },.slice none 0 0],.bool false]) (by simp [results,Tryz.results68,go_sem,x0,x1,x2]) rfl ⟨_,rfl,hide ⟨aown_nil _ _,?_⟩⟩
  exact yC (yC (yC (uH HB1) _ _ _ (by omega)) _ _ _ (by omega)) _ _ _ (by omega)
 ·rw [hf2]
  rw [hf1] at HAV
  have hz:=uH HAV
  simp only [Prod.mk.injEq] at hz
  obtain ⟨hza,rfl⟩:=hz
  have hjl:j<al:=by have:=uH HL;omega
  have hjs:j<hs0.length:=by have:=(uH HA).1;omega
  obtain ⟨bb,off,rfl,hq⟩:=((uH HR).below (uH HB1)).at hjl
  obtain ⟨c0,c1,c2⟩:=hq hjs
  have haad:=uH HSS _ (yM hjs)
  obtain ⟨e0,e1,e2,-⟩:=(uH HA).2 j hjs hj
  obtain ⟨⟨vi,vq,va,vl,vc⟩,hv⟩:∃v,hs0[j]=v:=⟨_,rfl⟩
  rw [hv] at c0 c1 c2 e0 e1 e2 haad
  simp only at c0 c1 c2 e0 e1 e2 haad
  have hrow:=e2.below (uH HB1)
  have HAD:=hide haad
  have hfa:=(uH HFA).2 _ (yM hj)
  rw [←hza] at e0 e1 hrow hfa
  simp only at e0 e1 hrow
  subst e0 e1
  clear haad hv e2 hjs
  have hlen:vl≤1048576:=by have h1:=hrow.1;have h2:=hfa.2.1;simp only at h2;omega
  have hb1:=yA (yA (yH _ w1) (.cells #[.int .i64 vi,.string (bs vq),.slice va vl vc] 106)) (.cells #[] 140)
  have hnew:∀ad,va=some ad→∀j u,(acells aas)[j]? = some u→((w1.alloc (.cells #[.int .i64 vi,.string (bs vq),.slice va vl vc] 106)).alloc (.cells #[] 140)).cell? (ad.add j)=some u:=fun ad he j u hj=>by
   have hr:=hrow.below hb1
   rcases hr.2 with e | ⟨b,off,e,_⟩
   ·have hl:=acells_len aas
    have h2:=(List.getElem?_eq_some_iff.1 hj).1
    have h3:=hr.1
    rw [hl] at h2
    omega
   ·subst e
    obtain rfl:=Option.some.inj he
    have:=acells_row hr j u hj
    rw [Lib.add_plain]
    exact this
  have hll:(acells aas).length=vl*5:=by rw [acells_len,hrow.1]
  have hone:=acells_one aas
  have hown:((w1.alloc (.cells #[.int .i64 vi,.string (bs vq),.slice va vl vc] 106)).alloc (.cells #[] 140)).ownsRow (w1.heap.size+1) 140 5 (.slice (some ⟨w1.heap.size+1,0,none⟩) 0 0) 0 []:=by
   have:=aown_empty (w1.alloc (.cells #[.int .i64 vi,.string (bs vq),.slice va vl vc] 106))
   rwa [yE] at this
  have HNW:=hide hnew
  have HLN:=hide hrow.1
  have HA1:=hide ((yD w1 #[.int .i64 vi,.string (bs vq),.slice va vl vc] 106).al (.cells #[] 140))
  have HV1:=hide (((uH V1).al (.cells #[.int .i64 vi,.string (bs vq),.slice va vl vc] 106)).al (.cells #[] 140))
  have HB2:=hide (yA (yA (uH HB1) (.cells #[.int .i64 vi,.string (bs vq),.slice va vl vc] 106)) (.cells #[] 140))
  have p5:=(uH P1).at 5
  simp at p5
  have j0:(0:Int)≤j:=by omega
  have j1:(j:Int)<al:=by omega
  clear hf1 hf2 HFP hq hrow hb1 hfa hza hnew HSS V1 HB1 t0 t1 t2 tf0 tf1 tf2 HAV P1 hj HR HL HA HFA
  go_wp2_with (at_builtin;refine wpList_append_opt _ rfl _ _ 104 rfl (w1.heap.size+1) 140 i0 (.agg #[.int .i64 0,.int .i64 0,.int .i64 0,.string ByteArray.empty,.int .i64 0]) 5 48 Tryz.underlying104 hi hz0 hz1 hz2 rfl (by decide) _ _ _ rfl hown va vl vc (acells aas) rfl (uH HAD) hll (uH HNW) hone ?c3 ?c4 ?c5 ?_)
  case c3=>unfold maxLen;omega
  case c4=>omega
  case c5=>simp
  intro v' w3 hown' hgrow _
  have ho:AOwn (w1.heap.size+1) w3 v' aas:=by
   unfold AOwn
   rw [←uH HLN]
   simpa using hown'
  have HO:=hide ho
  have HA2:=hide (blk_grownU (uH HA1) hgrow (by simp [Value.ownBlock]))
  have HV2:=hide (blk_grownU (uH HV1) hgrow (by simp [Value.ownBlock];omega))
  have HB3:=hide (show Below w.heap.size w w3 from (uH HB2).grown hgrow (by simp;omega) (fun k e=>by simp [Value.ownBlock] at e;omega))
  obtain ⟨yo,yc,rfl,_⟩:=ho.row
  obtain ⟨n,hnn⟩:∃n,aas.length=n:=⟨_,rfl⟩
  rw [hnn] at HO ⊢
  clear hown' hgrow hown hone hll ho hnn HLN HNW HA1 HV1 HB2 p5 c0 c1 c2
  have t0:=(uH HV2).at 0
  have t1:=(uH HV2).at 1
  have t2:=(uH HV2).at 2
  have tf0:=(uH HV2).f 0
  have tf1:=(uH HV2).f 1
  have tf2:=(uH HV2).f 2
  have a0:=(uH HA2).at 0
  have a1:=(uH HA2).at 1
  have a2:=(uH HA2).at 2
  have af2:=(uH HA2).f 2
  simp at t0 t1 t2 a0 a1 a2
  go_wp2
  have X1:=((((uH HV2).other w1.heap.size 2 (.slice yo n yc) (by omega)).set 0 (.int .i64 vi)).set 1 (.string (bs vq))).set 2 (.slice yo n yc)
  have x0:=X1.at 0
  have x1:=X1.at 1
  have x2:=X1.at 2
  simp at x0 x1 x2
  refine bodyPost_ret (v:=.tuple #[.agg #[.int .i64 vi,.string (bs vq),.slice yo n yc],.bool true]) (by simp [results,Tryz.results68,go_sem,x0,x1,x2]) rfl ⟨_,rfl,hide ⟨?_,?_⟩⟩
  ·exact (((((uH HO).other3 w1.heap.size 2 (.slice yo n yc) (by omega)).other3 (w.heap.size+1) 0 (.int .i64 vi) (by omega)).other3 (w.heap.size+1) 1 (.string (bs vq)) (by omega)).other3 (w.heap.size+1) 2 (.slice yo n yc) (by omega)).base (by omega)
  ·exact yC (yC (yC (yC (uH HB3) _ _ _ (by omega)) _ _ _ (by omega)) _ _ _ (by omega)) _ _ _ (by omega)
end
section
open Go.RowKit
theorem Var.set0 {w:World} {t:TypeId} {g:Nat} {a b:Int} (h:Var w t g a b) (x:Int):Var (w.setCell ⟨g,0,none⟩ (.int .i64 x)) t g x b:=heap_setCell_same w g 0 _ _ (.int .i64 x) h
theorem Var.set1 {w:World} {t:TypeId} {g:Nat} {a b:Int} (h:Var w t g a b) (y:Int):Var (w.setCell ⟨g,1,none⟩ (.int .i64 y)) t g a y:=heap_setCell_same w g 1 _ _ (.int .i64 y) h
theorem l06Least_any (a b:Int) (w:World) :
  Calls Tryz.prog 64 #[.int .i64 a,.int .i64 b] w fun e w'=>e=.returned (.int .i64 (min a b))∧w'=w:=by
 by_cases h:a<b
 ·go_enter Tryz.func64,Tryz.ntmps64
  go_wp2
  go_ret
  exact ⟨ret_int (by omega),rfl⟩
 ·go_enter Tryz.func64,Tryz.ntmps64
  go_wp2
  go_ret
  exact ⟨ret_int (by omega),rfl⟩
theorem l06Wants_any (x:Sls) (s:St) (nm:List UInt8) (w:World) (h:SRow w x s) (hf:FitSt s) :
  Calls Tryz.prog 63 #[sv x s,.string (bs nm)] w fun e w'=>e=.returned (rv (wantV s nm).1 (wantV s nm).2)∧Below w.heap.size w w':=by
 have hal:x.al≤1048576:=h.al hf
 have HR:=hide h.2.1
 have HL:=hide h.2.1.1
 have HFA:=hide hf.2.1
 obtain ⟨⟨zx,zy⟩,hz⟩:∃z,wantV s nm=z:=⟨_,rfl⟩
 have HZ:=hide (show wantApps nm (s.apps.drop 0) (0,0)=(zx,zy) from hz)
 rw [hz]
 clear h hf hz
 obtain ⟨qa,ql,qc,aa,al,ac,ma,ml,mc,ca,cl,cc⟩:=x
 obtain ⟨qs,clock,epoch,next,serial,apps,ms,cs⟩:=s
 simp only at hal HR HL HFA HZ
 have HB1:=hide (capW_below w (svc ⟨qa,ql,qc,aa,al,ac,ma,ml,mc,ca,cl,cc⟩ ⟨qs,clock,epoch,next,serial,apps,ms,cs⟩))
 have V1:=hide (capW_var w (svc ⟨qa,ql,qc,aa,al,ac,ma,ml,mc,ca,cl,cc⟩ ⟨qs,clock,epoch,next,serial,apps,ms,cs⟩))
 have P1:=hide ((boxW_blk w (svc ⟨qa,ql,qc,aa,al,ac,ma,ml,mc,ca,cl,cc⟩ ⟨qs,clock,epoch,next,serial,apps,ms,cs⟩)).al (.cells #[.int .i64 0,.int .i64 0] 52))
 have hsz:=capW_size w (svc ⟨qa,ql,qc,aa,al,ac,ma,ml,mc,ca,cl,cc⟩ ⟨qs,clock,epoch,next,serial,apps,ms,cs⟩)
 have p5:=(uH P1).at 5
 simp at p5
 obtain ⟨W1,hW1⟩:∃W,capW w (svc ⟨qa,ql,qc,aa,al,ac,ma,ml,mc,ca,cl,cc⟩ ⟨qs,clock,epoch,next,serial,apps,ms,cs⟩)=W:=⟨_,rfl⟩
 have p5':W1.cell? ⟨w.heap.size,5,none⟩=some (.slice aa al ac):=by rw [←hW1];exact p5
 rw [hW1] at HB1 V1 hsz
 have HP5:=hide p5'
 have HSZ:=hide hsz
 have HV:=hide (show Var _ 52 (w.heap.size+1+1) 0 0 by have:=var_new W1 52 0 0;rwa [hsz] at this)
 have HK0:=hide (show Kp W1 _ from yA (yH _ W1) (.cells #[.int .i64 0,.int .i64 0] 52))
 have HW1:=hide hW1
 clear hW1 hsz p5 p5' P1
 go_enter Tryz.func63,Tryz.ntmps63
 go_wp2
 go_loopw [6] (fun i wr=>∃(k:Nat) (a b:Int),k≤al∧i=.int .i64 k∧Hid (wantApps nm (apps.drop k) (a,b)=(zx,zy))∧Hid (resOk a b=true)∧Hid (Var wr 52 (w.heap.size+1+1) a b)∧Hid (Kp W1 wr)) (fun i _=>al - (intOf i).toNat)
 case atStart=>
  obtain rfl:=uH HW1
  exact ⟨0,0,0,Nat.zero_le _,rfl,HZ,hide resOk_zero,HV,HK0⟩
 case round=>
  obtain ⟨k,a,b,hk,rfl,HQ,HO,HVr,HK⟩:=hrel
  obtain ⟨wo,rfl⟩:∃wo:World,wo=wr:=⟨_,rfl⟩
  clear HV HK0 HZ
  have p5:=(uH HK).cell (uH HP5)
  by_cases hlt:k<al
  ·obtain ⟨bb,off,rfl,hq⟩:=(uH HR).at hlt
   have hkl:k<apps.length:=by have:=uH HL;omega
   have hst:=wantApps_step (nm:=nm) hkl (a,b)
   have hfa:=(uH HFA).2 _ (yM hkl)
   obtain ⟨xo,xl,xc,c0,c1,c2,hrow,_⟩:=hq hkl
   obtain ⟨⟨id,qu,asks⟩,hs⟩:∃s,apps[k]=s:=⟨_,rfl⟩
   rw [hs] at c0 c1 hst hrow hfa
   simp only at c0 c1 hst hrow
   rw [uH HQ] at hst
   have hxl:xl≤1048576:=by have h1:=hrow.1;have h2:=hfa.2.1;simp only at h2;omega
   have HA:=hide hrow
   have HAL:=hide hrow.1
   have HNA:=hide hfa.2.2
   have HC1:=hide c1
   have HC2:=hide c2
   have k0:(0:Int)≤k:=by omega
   have k1:(k:Int)<al:=by omega
   have hqe:=bs_eq qu nm
   obtain ⟨⟨ax,ay⟩,hax⟩:∃z,(if qu=nm then wantAsks asks (a,b) else (a,b))=z:=⟨_,rfl⟩
   have hok:resOk ax ay=true:=by
    have:resOk (if qu=nm then wantAsks asks (a,b) else (a,b)).1 (if qu=nm then wantAsks asks (a,b) else (a,b)).2=true:=by
     split
     ·exact wantAsks_ok asks (a,b) (uH HO)
     ·exact uH HO
    rw [hax] at this;exact this
   rw [hax] at hst
   have HST:=hide hst
   have HOK:=hide hok
   have HX:=hide (show (if qu=nm then wantAsks (asks.drop 0) (a,b) else (a,b))=(ax,ay) from hax)
   clear hq hs hkl hrow hfa HQ hst hok hax c0 c1 c2
   go_wp2
   go_loopw [7] (fun i wr=>∃(j:Nat) (a b:Int),j≤xl∧i=.int .i64 j∧Hid ((if qu=nm then wantAsks (asks.drop j) (a,b) else (a,b))=(ax,ay))∧Hid (resOk a b=true)∧Hid (Var wr 52 (w.heap.size+1+1) a b)∧Hid (Kp W1 wr)) (fun i _=>xl - (intOf i).toNat)
   case atStart=>exact ⟨0,a,b,Nat.zero_le _,rfl,HX,HO,HVr,HK⟩
   case round=>
    obtain ⟨j,a',b',hj,rfl,HQ',HO',HVj,HKj⟩:=hrel
    clear HX HVr HK HO p5
    have p5:=(uH HKj).cell (uH HP5)
    have KW:=hide (show Kp w wr from yB (uH HB1) (uH HKj))
    have c1:=(uH KW).cell (uH HC1)
    have c2:=(uH KW).cell (uH HC2)
    by_cases hjl:j<xl
    case neg=>
     have hen:(a',b')=(ax,ay):=by
      have:=uH HQ'
      rw [wantAsks_end (by have:=uH HAL;omega),ite_self] at this
      exact this
     simp only [Prod.mk.injEq] at hen
     obtain ⟨rfl,rfl⟩:=hen
     have j1:¬(j:Int)<xl:=by omega
     go_wp2
     go_roundw
     case rel=>exact ⟨k+1,a',b',by omega,by go_num,hide (uH HST).symm,HOK,HVj,HKj⟩
     case measure=>simp [intOf];omega
    have j0:(0:Int)≤j:=by omega
    have j1:(j:Int)<xl:=by omega
    by_cases hqn:qu=nm
    case neg=>
     rw [decide_eq_false hqn] at hqe
     have hen:(a',b')=(ax,ay):=by
      have:=uH HQ'
      rw [if_neg hqn] at this
      exact this
     simp only [Prod.mk.injEq] at hen
     obtain ⟨rfl,rfl⟩:=hen
     go_wp2
     go_roundw
     case rel=>exact ⟨k+1,a',b',by omega,by go_num,hide (uH HST).symm,HOK,HVj,HKj⟩
     case measure=>simp [intOf];omega
    rw [decide_eq_true hqn] at hqe
    have HN:=hide hqn
    have HQ2:=hide (show wantAsks (asks.drop j) (a',b')=(ax,ay) by have:=uH HQ';rwa [if_pos hqn] at this)
    clear hqn HQ'
    obtain ⟨ab,aoff,rfl,ha⟩:=((uH HA).below (uH KW)).at hjl
    have hjk:j<asks.length:=by have:=uH HAL;omega
    have hst:=wantAsks_step hjk (a',b')
    have hnd:=uH HNA _ (yM hjk)
    obtain ⟨d0,d1,d2,d3,d4⟩:=ha hjk
    obtain ⟨q,hs⟩:∃s,asks[j]=s:=⟨_,rfl⟩
    rw [hs] at d0 d1 d2 d3 d4 hst hnd
    rw [uH HQ2] at hst
    have CA:=hide (fun wx=>l04Ask_any q wx hnd)
    have HST':=hide hst
    clear ha hs hjk hnd hst HQ2
    cases hak:askOk q with
    | false=>
     rw [hak] at CA
     have HE:=hide (show (if qu=nm then wantAsks (asks.drop (j+1)) (a',b') else (a',b'))=(ax,ay) by rw [if_pos (uH HN),uH HST',wantOne_no hak])
     clear HST' hak
     obtain ⟨me,cp,ct,nd,mi⟩:=q
     simp only at d0 d1 d2 d3 d4
     have HV4:=hide ((uH HVj).al (.cells #[.int .i64 me,.int .i64 cp,.int .i64 ct,.string (bs nd),.int .i64 mi] 140))
     have HK4:=hide (show Kp W1 _ from yA (uH HKj) (.cells #[.int .i64 me,.int .i64 cp,.int .i64 ct,.string (bs nd),.int .i64 mi] 140))
     go_wp2_with fail
     refine (uH CA _).mono ?_
     rintro e w5 ⟨rfl,hb⟩
     have HV5:=hide ((uH HV4).below hb)
     have HK5:=hide (show Kp W1 _ from yB (uH HK4) hb)
     clear hb HV4 HK4 CA
     go_wp2
     go_roundw
     case rel=>exact ⟨j+1,a',b',by omega,by go_num,HE,HO',HV5,HK5⟩
     case measure=>simp [intOf];omega
    | true=>
     rw [hak] at CA
     have hok2:=wantOne_ok (p:=(a',b')) q (uH HO')
     obtain ⟨m0,m1,n0,n1,x0,x1,y0,y1⟩:=ask_bd hak (uH HO')
     obtain ⟨a0,a1,b0,b1,t0,t1⟩:=askOk_bd hak
     rw [wantOne_yes hak] at HST' hok2
     clear hak
     obtain ⟨me,cp,ct,nd,mi⟩:=q
     simp only at d0 d1 d2 d3 d4 m0 m1 n0 n1 a0 a1 b0 b1 t0 t1 HST' hok2
     have L1:=hide (fun wx=>l06Least_any 1000000000 (a'+me*ct) wx)
     have L2:=hide (fun wx=>l06Least_any 1000000000 (b'+cp*ct) wx)
     obtain ⟨na,hna⟩:∃t,min 1000000000 (a'+me*ct)=t:=⟨_,rfl⟩
     obtain ⟨nb,hnb⟩:∃t,min 1000000000 (b'+cp*ct)=t:=⟨_,rfl⟩
     rw [hna] at L1 HST' hok2
     rw [hnb] at L2 HST' hok2
     have HE:=hide (show (if qu=nm then wantAsks (asks.drop (j+1)) (na,nb) else (na,nb))=(ax,ay) by rw [if_pos (uH HN),uH HST'])
     have HO2:=hide hok2
     clear HST' hna hnb hok2
     have HV4:=hide ((uH HVj).al (.cells #[.int .i64 me,.int .i64 cp,.int .i64 ct,.string (bs nd),.int .i64 mi] 140))
     have HK4:=hide (show Kp W1 _ from yA (uH HKj) (.cells #[.int .i64 me,.int .i64 cp,.int .i64 ct,.string (bs nd),.int .i64 mi] 140))
     have P4:=hide (yD wr #[.int .i64 me,.int .i64 cp,.int .i64 ct,.string (bs nd),.int .i64 mi] 140)
     have hlt2:w.heap.size+1+1<wr.heap.size:=(uH HVj).lt
     go_wp2_with fail
     refine (uH CA _).mono ?_
     rintro e w5 ⟨rfl,hb⟩
     have HV5:=hide ((uH HV4).below hb)
     have HK5:=hide (show Kp W1 _ from yB (uH HK4) hb)
     have P5:=hide ((uH P4).below hb)
     have e0:=(uH P5).at 0
     have e1:=(uH P5).at 1
     have e2:=(uH P5).at 2
     simp at e0 e1 e2
     have v0:=(uH HV5).c0
     have v1:=(uH HV5).c1
     clear hb HV4 HK4 P4 CA d0 d1 d2 d3 d4 p5 c1 c2
     go_wp2_with fail
     refine (uH L1 _).mono ?_
     rintro e w6 ⟨rfl,rfl⟩
     have u0:=(uH HV5).f 0
     have HV7:=hide ((uH HV5).set0 na)
     have HK7:=hide (show Kp W1 _ from yC (uH HK5) (w.heap.size+1+1) 0 (.int .i64 na) (by rw [uH HSZ];omega))
     have P7:=hide ((uH P5).other (w.heap.size+1+1) 0 (.int .i64 na) (by omega))
     have f0:=(uH P7).at 0
     have f1:=(uH P7).at 1
     have f2:=(uH P7).at 2
     simp at f0 f1 f2
     have v2:=(uH HV7).c0
     have v3:=(uH HV7).c1
     clear HK5 L1 e0 e1 e2 P5
     go_wp2_with fail
     refine (uH L2 _).mono ?_
     rintro e w7 ⟨rfl,rfl⟩
     have u1:=(uH HV7).f 1
     clear f0 f1 f2 P7 v0 v1 HV5
     go_wp2
     go_roundw
     case rel=>exact ⟨j+1,na,nb,by omega,by go_num,HE,HO2,hide ((uH HV7).set1 nb),hide (yC (uH HK7) (w.heap.size+1+1) 1 (.int .i64 nb) (by rw [uH HSZ];omega))⟩
     case measure=>simp [intOf];omega
  ·have hen:=wantApps_end (nm:=nm) (l:=apps) (k:=k) (by have:=uH HL;omega) (a,b)
   rw [uH HQ] at hen
   simp only [Prod.mk.injEq] at hen
   obtain ⟨rfl,rfl⟩:=hen
   have k1:¬(k:Int)<al:=by omega
   have VR:=(uH V1).below (uH HK)
   have v0:=(uH HVr).c0
   have v1:=(uH HVr).c1
   have g0:=VR.c0
   have g1:=VR.c1
   have k2:=VR.f 0
   have k3:=VR.f 1
   have k4:=VR.s0 (.int .i64 zx)
   have k5:=VR.s1 (.int .i64 zx) (.int .i64 zy)
   have HB9:=hide (yB (uH HB1) (uH HK))
   go_wp2
   refine bodyPost_ret (v:=rv zx zy) (by simp [results,Tryz.results63,go_sem,k4,k5]) rfl ⟨rfl,?_⟩
   repeat (first | exact uH HB9 | refine yA ?_ _ | refine yC ?_ _ _ _ (by omega))
end
end Go.Proofs.YtokabeokclpljaaGreat
