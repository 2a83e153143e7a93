/-
  Several texts of this claim in one, made short by program: OrdV, SuitB, RoomM, MKey, UsedOnI, MacAt, FreeOnM, GrantM, BackM, MachI.
-/
import Derived.Test.YtdhibeclkdepiaaGreatPackK
set_option maxRecDepth 100000
set_option maxHeartbeats 16000000
set_option linter.unusedVariables false
set_option linter.unusedSimpArgs false
namespace Go.Proofs.YtdhibeclkdepiaaGreat
section
open Go.RowKit
theorem less_asym {a b c d:Int} (h:less a b c d=true):less c d a b=false:=by
 unfold less at *
 by_cases b0:b=0
 ·simp [b0] at h
 ·by_cases d0:d=0
  ·simp [d0]
  ·simp only [b0,d0,if_false,decide_eq_true_eq] at h ⊢
   simp only [decide_eq_false_iff_not]
   omega
theorem less_irr (a b:Int):less a b a b=false:=by
 unfold less
 by_cases b0:b=0
 ·simp [b0]
 ·simp [b0]
theorem lessWeak:OrdM.Weak lessP where
 irr:=fun a=>less_irr _ _
 asym:=fun a b h=>less_asym h
 ntrans:=fun a b c h k=>less_ntrans (ratio_small ..).2 (ratio_small ..).2 (ratio_small ..).2 h k
theorem blNames:OrdM.Names Op.bytesLess where
 irr:=bl_irr
 trans:=bl_trans
 tri:=bl_tri
def leS (x y:SE):Prop:=aheadS y x=false
theorem leS_order:HeapM.Order leS where
 trans:=fun x y z h k=>OrdM.ahead_ntrans lessWeak blNames h k
 total:=fun x y=>by
  cases h:aheadS y x with
  | false=>exact .inl h
  | true=>exact .inr (OrdM.ahead_asym lessWeak blNames h)
theorem leS_1:∀x y,aheadS x y=true→leS x y:=fun x y h=>OrdM.ahead_asym lessWeak blNames h
theorem leS_2:∀x y,aheadS x y=false→leS y x:=fun x y h=>h
def befN (s:St) (a b:List UInt8):Bool:=aheadS (stOf s a) (stOf s b)
theorem befN_asym (s:St) (a b:List UInt8) (h:befN s a b=true):befN s b a=false:=OrdM.ahead_asym lessWeak blNames h
theorem befN_ntrans (s:St) (a b c:List UInt8) (h:befN s b a=false) (k:befN s c b=false):befN s c a=false:=OrdM.ahead_ntrans lessWeak blNames h k
theorem befN_anti (s:St) (a b:List UInt8) (h:befN s b a=false) (k:befN s a b=false):a=b:=OrdM.ahead_anti (x:=stOf s a) (y:=stOf s b) lessWeak blNames h k
def insP (p:List UInt8→List UInt8→Bool) (l:List (List UInt8)) (o:List (List UInt8)):List (List UInt8):=l.foldl (fun o x=>OrdM.ins p x o) o
theorem insP_perm (p:List UInt8→List UInt8→Bool):∀(l o:List (List UInt8)),(insP p l o).Perm (l++o)
 | [],o=>List.Perm.refl _
 | x::t,o=>by
  refine (insP_perm p t (OrdM.ins p x o)).trans ?_
  refine (List.Perm.append_left t (OrdM.ins_perm _ x o)).trans ?_
  exact List.perm_middle
theorem insP_sorted {p:List UInt8→List UInt8→Bool} (asym:∀a b,p a b=true→p b a=false) (nt:∀a b c,p b a=false→p c b=false→p c a=false):∀(l o:List (List UInt8)),HeapM.Sorted (fun a b=>p b a=false) o→HeapM.Sorted (fun a b=>p b a=false) (insP p l o)
 | [],o,h=>h
 | x::t,o,h=>insP_sorted asym nt t _ (OrdM.ins_sorted asym nt x o h)
theorem insP_snoc (p:List UInt8→List UInt8→Bool) (l:List (List UInt8)) (x:List UInt8):insP p (l++[x]) []=OrdM.ins p x (insP p l []):=by
 rw [insP,List.foldl_append];rfl
def orderV (s:St):List (List UInt8):=insP (befN s) (leavesOf s.qs) []
theorem orderV_perm (s:St):(orderV s).Perm (leavesOf s.qs):=by
 have:=insP_perm (befN s) (leavesOf s.qs) []
 rw [List.append_nil] at this
 exact this
theorem orderV_len (s:St):(orderV s).length≤s.qs.length:=by
 rw [(orderV_perm s).length_eq]
 exact leavesOf_len _
theorem order_unique (s:St) (N:List (List UInt8)) (h:HeapM.Sorted (fun a b=>befN s b a=false) N) (hp:N.Perm (leavesOf s.qs)):N=orderV s:=
 HeapM.sorted_unique (befN_anti s) _ _ h (insP_sorted (befN_asym s) (befN_ntrans s) _ _ trivial) (hp.trans (orderV_perm s).symm)
theorem sorted_fst (s:St):∀P:List SE,(∀x ∈ P,x=stOf s x.1)→HeapM.Sorted leS P→HeapM.Sorted (fun a b=>befN s b a=false) (P.map Prod.fst)
 | [],_,_=>trivial
 | x::t,hx,h=>⟨fun y hy=>by
   obtain ⟨z,hz,rfl⟩:=List.mem_map.1 hy
   have h1:=h.1 z hz
   unfold leS at h1
   rw [hx x (by simp),hx z (by simp [hz])] at h1
   exact h1,sorted_fst s t (fun z hz=>hx z (by simp [hz])) h.2⟩
theorem order_taken (s:St) (P:List SE) (h:HeapM.Sorted leS P) (hp:P.Perm ((leavesOf s.qs).map (stOf s))):P.map Prod.fst=orderV s:=by
 refine order_unique s _ (sorted_fst s P (fun x hx=>?_) h) ?_
 ·obtain ⟨n,_,rfl⟩:=List.mem_map.1 (hp.subset hx)
  rfl
 ·have:=hp.map Prod.fst
  rw [List.map_map] at this
  have e:(Prod.fst ∘ stOf s)=id:=by funext n;rfl
  rw [e,List.map_id] at this
  exact this
def orderF (s:St) (k:Nat):List (List UInt8):=insP (befN s) (((s.qs.take k).map Q.name).filter (leaf s.qs)) []
theorem orderF_end (s:St) {k:Nat} (h:s.qs.length≤k):orderF s k=orderV s:=by
 rw [orderF,List.take_of_length_le h];rfl
theorem orderF_step (s:St) {k:Nat} (h:k<s.qs.length):orderF s (k+1)=if leaf s.qs s.qs[k].name=true then OrdM.ins (befN s) s.qs[k].name (orderF s k) else orderF s k:=by
 rw [orderF,List.take_succ_eq_append_getElem h,List.map_append,List.filter_append]
 cases hb:leaf s.qs s.qs[k].name with
 | true=>
  rw [if_pos rfl]
  simp only [List.map_cons,List.map_nil,List.filter_cons,hb,if_true,List.filter_nil]
  rw [insP_snoc];rfl
 | false=>
  rw [if_neg (by simp)]
  simp only [List.map_cons,List.map_nil,List.filter_cons,hb,List.filter_nil]
  rw [if_neg (by simp),List.append_nil];rfl
theorem stOf_wf (s:St) (nm:List UInt8):Wf4 (stOf s nm).2.1 (stOf s nm).2.2.1 (stOf s nm).2.2.2.1 (stOf s nm).2.2.2.2:=by
 have h1:=resOk_small (used_ok s nm)
 have h2:=resOk_small (due_ok s nm)
 have w:∀x:Int,Small x→(Lit.int .i64 x).wf=true:=fun x hx=>by
  obtain ⟨a,b⟩:=hx
  have h1:(-9223372036854775808:Int)≤x:=by omega
  have h2:x≤9223372036854775807:=by omega
  simp only [Lit.wf,Bool.and_eq_true,decide_eq_true_eq]
  exact ⟨h1,h2⟩
 exact ⟨w _ h1.1,w _ h1.2,w _ h2.1,w _ h2.2⟩
end
section
open Go.ChangeShapes Go.WideShapes Go.ChangeAt Go.RowKit
def suitsV (q:Ask) (nm:List UInt8):Bool:=decide (q.node=[])||(decide (q.node=nm)||decide (3≤q.missed))
theorem implSuits_any (q:Ask) (nm:List UInt8) (w:World) :
  Calls Tryz.prog 85 #[askv q,.string (bs nm)] w fun e w'=>e=.returned (.bool (suitsV q nm))∧Below w.heap.size w w':=by
 obtain ⟨x0,x1,x2,nd,x4⟩:=q
 have hbe:=bs_eq nd nm
 have hbz:=bs_empty nd
 simp only [suitsV]
 by_cases h1:nd=[]<;>by_cases h2:nd=nm<;>by_cases h3:3≤x4
 all_goals
  first | rw [decide_eq_true h1] at hbz ⊢ | rw [decide_eq_false h1] at hbz ⊢
  first | rw [decide_eq_true h2] at hbe ⊢ | rw [decide_eq_false h2] at hbe ⊢
  first | rw [decide_eq_true h3] | rw [decide_eq_false h3]
  clear h1 h2
  go_enter Tryz.func85,Tryz.ntmps85
  go_wp2
  go_ret
  refine ⟨rfl,?_⟩
  repeat (first | exact Below.refl _ _ | refine yA ?_ _ | refine Below.drew ?_ | refine yC ?_ _ _ _ (by omega))
theorem specSuits_any (q:Ask) (nm:List UInt8) (w:World) :
  Calls Tryz.prog 43 #[askv q,.string (bs nm)] w fun e w'=>e=.returned (.bool (suitsV q nm))∧Below w.heap.size w w':=by
 obtain ⟨x0,x1,x2,nd,x4⟩:=q
 have hbe:=bs_eq nd nm
 have hbz:=bs_empty nd
 simp only [suitsV]
 by_cases h1:nd=[]<;>by_cases h2:nd=nm<;>by_cases h3:3≤x4
 all_goals
  first | rw [decide_eq_true h1] at hbz ⊢ | rw [decide_eq_false h1] at hbz ⊢
  first | rw [decide_eq_true h2] at hbe ⊢ | rw [decide_eq_false h2] at hbe ⊢
  first | rw [decide_eq_true h3] | rw [decide_eq_false h3]
  clear h1 h2
  go_enter Tryz.func43,Tryz.ntmps43
  go_wp2
  go_ret
  refine ⟨rfl,?_⟩
  repeat (first | exact Below.refl _ _ | refine yA ?_ _ | refine Below.drew ?_ | refine yC ?_ _ _ _ (by omega))
end
section
open Go.RowKit
def mostV (s:St) (x:List UInt8):Int×Int:=ofR s.qs x (totalV s).1 (totalV s).2 true
def roomAt (s:St) (rx ry:Int) (x:List UInt8):Bool:=
 bothOk 1 (usedByV s x).1 (usedByV s x).2 rx ry&&within ((usedByV s x).1+1*rx) ((usedByV s x).2+1*ry) (mostV s x).1 (mostV s x).2
def roomV (s:St) (nm:List UInt8) (rx ry:Int):Bool:=decide (0<(path s.qs nm).length)&&(path s.qs nm).all (roomAt s rx ry)
def leftFrom (s:St):List (List UInt8)→Int→Int→Int×Int×Bool
 | [],a,b=>(a,b,true)
 | x::t,a,b=>if bothOk (-1) (mostV s x).1 (mostV s x).2 (usedByV s x).1 (usedByV s x).2=true then leftFrom s t (min a ((mostV s x).1 + -1*(usedByV s x).1)) (min b ((mostV s x).2 + -1*(usedByV s x).2)) else (0,0,false)
theorem leftFrom_step {s:St} {l:List (List UInt8)} {k:Nat} (h:k<l.length) (a b:Int):leftFrom s (l.drop k) a b=if bothOk (-1) (mostV s l[k]).1 (mostV s l[k]).2 (usedByV s l[k]).1 (usedByV s l[k]).2=true then leftFrom s (l.drop (k+1)) (min a ((mostV s l[k]).1 + -1*(usedByV s l[k]).1)) (min b ((mostV s l[k]).2 + -1*(usedByV s l[k]).2)) else (0,0,false):=by
 rw [List.drop_eq_getElem_cons h,leftFrom]
theorem leftFrom_end {s:St} {l:List (List UInt8)} {k:Nat} (h:l.length≤k) (a b:Int):leftFrom s (l.drop k) a b=(a,b,true):=by
 rw [List.drop_of_length_le h];rfl
theorem room_yes (m1 m2 u1 u2 rx ry:Int) (hr:resOk rx ry=true) (hb:bothOk (-1) m1 m2 u1 u2=true):(bothOk 1 u1 u2 rx ry&&within (u1+1*rx) (u2+1*ry) m1 m2)=(decide (rx≤m1 + -1*u1)&&decide (ry≤m2 + -1*u2)):=by
 rw [Bool.eq_iff_iff]
 simp only [bothOk,within,resOk,inB,Bool.and_eq_true,decide_eq_true_eq] at hr hb ⊢
 omega
theorem room_no (m1 m2 u1 u2 rx ry:Int) (hr:resOk rx ry=true) (hb:bothOk (-1) m1 m2 u1 u2=false):(bothOk 1 u1 u2 rx ry&&within (u1+1*rx) (u2+1*ry) m1 m2)=false:=by
 rw [Bool.eq_false_iff] at hb ⊢
 intro h
 apply hb
 simp only [bothOk,within,resOk,inB,Bool.and_eq_true,decide_eq_true_eq] at hr h ⊢
 omega
theorem roomAt_yes {s:St} {rx ry:Int} {x:List UInt8} (hr:resOk rx ry=true) (hb:bothOk (-1) (mostV s x).1 (mostV s x).2 (usedByV s x).1 (usedByV s x).2=true):roomAt s rx ry x=(decide (rx≤(mostV s x).1 + -1*(usedByV s x).1)&&decide (ry≤(mostV s x).2 + -1*(usedByV s x).2)):=room_yes _ _ _ _ _ _ hr hb
theorem roomAt_no {s:St} {rx ry:Int} {x:List UInt8} (hr:resOk rx ry=true) (hb:bothOk (-1) (mostV s x).1 (mostV s x).2 (usedByV s x).1 (usedByV s x).2=false):roomAt s rx ry x=false:=room_no _ _ _ _ _ _ hr hb
theorem room_left {s:St} {rx ry:Int} (hr:resOk rx ry=true):∀(ps:List (List UInt8)) (a b:Int),resOk a b=true→((leftFrom s ps a b).2.2&&within rx ry (leftFrom s ps a b).1 (leftFrom s ps a b).2.1)=(decide (rx≤a)&&decide (ry≤b)&&ps.all (roomAt s rx ry))
 | [],a,b,h=>by rw [Bool.eq_iff_iff];simp [leftFrom,within,hr,h];exact ⟨fun h=>⟨of_decide_eq_true h.1,of_decide_eq_true h.2⟩,fun h=>⟨decide_eq_true h.1,decide_eq_true h.2⟩⟩
 | x::t,a,b,h=>by
  rw [leftFrom,List.all_cons]
  cases hb:bothOk (-1) (mostV s x).1 (mostV s x).2 (usedByV s x).1 (usedByV s x).2 with
  | true=>
   rw [if_pos rfl,room_left hr t _ _ ?_,roomAt_yes hr hb]
   ·rw [Bool.eq_iff_iff]
    simp only [Bool.and_eq_true,decide_eq_true_eq]
    constructor
    ·rintro ⟨⟨h1,h2⟩,h3⟩
     exact ⟨⟨by omega,by omega⟩,⟨by omega,by omega⟩,h3⟩
    ·rintro ⟨⟨h1,h2⟩,⟨h3,h4⟩,h5⟩
     exact ⟨⟨by omega,by omega⟩,h5⟩
   ·simp only [bothOk,resOk,inB,Bool.and_eq_true,decide_eq_true_eq] at h hb ⊢
    omega
  | false=>
   rw [if_neg (by simp),roomAt_no hr hb]
   simp
theorem room_eq (s:St) (nm:List UInt8) (rx ry:Int):roomV s nm rx ry=((leftFrom s (path s.qs nm) 1000000000 1000000000).2.2&&decide (0<(path s.qs nm).length)&&within rx ry (leftFrom s (path s.qs nm) 1000000000 1000000000).1 (leftFrom s (path s.qs nm) 1000000000 1000000000).2.1):=by
 rw [roomV]
 cases hr:resOk rx ry with
 | false=>
  have h1:∀a b,within rx ry a b=false:=fun a b=>by rw [within,hr];rfl
  rw [h1,Bool.and_false]
  cases hp:path s.qs nm with
  | nil=>simp
  | cons x t=>
   have h2:roomAt s rx ry x=false:=by rw [roomAt,bothOk,hr];simp
   simp [h2]
 | true=>
  have e:=room_left (s:=s) hr (path s.qs nm) 1000000000 1000000000 (by decide)
  have hr':=hr
  simp only [resOk,inB,Bool.and_eq_true,decide_eq_true_eq] at hr'
  rw [decide_eq_true (show rx≤1000000000 by omega),decide_eq_true (show ry≤1000000000 by omega)] at e
  simp only [Bool.true_and] at e
  rw [←e]
  cases (leftFrom s (path s.qs nm) 1000000000 1000000000).2.2<;>simp [Bool.and_comm]
def roomW (w:World) (c:Array Value) (rx ry:Int):World:=(w.alloc (.cells c 34)).alloc (.cells #[.int .i64 rx,.int .i64 ry] 36)
theorem roomW_below (w:World) (c:Array Value) (rx ry:Int):Below w.heap.size w (roomW w c rx ry):=yA (yA (Below.refl _ w) _) _
theorem roomW_box (w:World) (c:Array Value) (rx ry:Int):Blk (roomW w c rx ry) w.heap.size c 34:=(yD w c _).al _
theorem roomW_var (w:World) (c:Array Value) (rx ry:Int):Var (roomW w c rx ry) 36 (w.heap.size+1) rx ry:=by
 have:=var_new (w.alloc (.cells c 34)) 36 rx ry
 rwa [yE] at this
end
section
open Go.RowKit Go.Maps
def md (m:Mac):DataW Unit:=.agg [.lit (.string m.name),.lit (.int .i64 m.mem),.lit (.int .i64 m.cpu),.lit (.int .i64 m.seen)]
def macElem:Value→Option (DataW Unit×List MemPlace)
 | .agg cs=>match cs.toList with
  | [.string s,.int .i64 x,.int .i64 y,.int .i64 z]=>some (md ⟨s.data.toList,x,y,z⟩,[])
  | _=>none
 | _=>none
theorem macElem_mk (m:Mac):macElem (macv m)=some (md m,[]):=by
 obtain ⟨nm,x,y,z⟩:=m
 simp [macElem,bs]
theorem macElem_inv {v:Value} {m:Mac} {ps:List MemPlace} (h:macElem v=some (md m,ps)):v=macv m:=by
 unfold macElem at h
 split at h
 ·rename_i cs
  split at h
  ·rename_i s x y z e
   have e2:cs=#[.string s,.int .i64 x,.int .i64 y,.int .i64 z]:=by cases cs;simpa using e
   obtain ⟨nm,a,b,c⟩:=m
   simp [md] at h
   obtain ⟨⟨h1,h2,h3,h4⟩,_⟩:=h
   subst h1 h2 h3 h4
   rw [e2]
   simp [macv,bs_data]
  ·cases h
 ·cases h
def findM (nm:List UInt8) (l:List Mac):Option Mac:=l.find? (fun m=>decide (m.name=nm))
def KnownM (l:List Mac) (D:DataW Unit):Prop:=∀nm kl,keyOf Tryz.prog 133 (keyv nm 0)=some kl→Maps.has D kl=(findM nm l).isSome∧∀m,findM nm l=some m→∀zd,D.atKey kl zd=md m
theorem knownM_empty:KnownM [] (.map []):=fun nm kl _=>⟨by simp [Maps.has,findM],fun m h=>by simp [findM] at h⟩
theorem KnownM.put {l:List Mac} {D:DataW Unit} (h:KnownM l D) (hD:IsMap D) {m:Mac} {kl:Lit} (hk:keyOf Tryz.prog 133 (keyv m.name 0)=some kl):KnownM (m::l) (D.put kl (md m)):=fun nm kl' hk'=>by
 by_cases e:kl'=kl
 ·subst e
  have:=keyLaw.inj hk hk'
  simp [keyv] at this
  have hn:m.name=nm:=by
   have h1:=congrArg (fun b:ByteArray=>b.data.toList) this
   simpa [bs] using h1
  have hf:findM nm (m::l)=some m:=by simp [findM,hn]
  rw [hf]
  refine ⟨?_,fun m' h' zd=>?_⟩
  ·rw [has_put_same hD (keyLaw.key hk)];rfl
  ·cases h'
   exact atKey_put_same hD (keyLaw.key hk) _ _
 ·have hn:¬m.name=nm:=fun hn=>e (by subst hn;rw [hk] at hk';exact (Option.some.inj hk').symm)
  have hf:findM nm (m::l)=findM nm l:=by simp [findM,hn]
  rw [hf,has_put_other e]
  refine ⟨(h nm kl' hk').1,fun m' h' zd=>?_⟩
  rw [atKey_put_other e]
  exact (h nm kl' hk').2 m' h' zd
theorem macZero (w:World):(zeroValue 104).run Tryz.prog w=.ok (macv ⟨[],0,0,0⟩) w:=by kernel_rfl
theorem lookM {w:World} {bm n:Nat} {l:List Mac} {D:DataW Unit} (hown:w.ownsMap Tryz.prog 133 macElem bm n D) (hk:KnownM l D) {nm:List UInt8} {kl:Lit} (hkey:keyOf Tryz.prog 133 (keyv nm 0)=some kl) :
  (Instr.lookup 130 (.map (some bm)) (keyv nm 0) true).run Tryz.prog w=.ok (.tuple #[macv ((findM nm l).getD ⟨[],0,0,0⟩),.bool (findM nm l).isSome]) w:=by
 obtain ⟨v,ps,hrun,hv⟩:=hown.look_ok keyLaw Tryz.underlying130 (macZero w) (macElem_mk ⟨[],0,0,0⟩) hkey
 obtain ⟨h1,h2⟩:=hk nm kl hkey
 rw [hrun,h1]
 cases hf:findM nm l with
 | none=>
  rw [hf] at h1
  rw [atKey_of_not_has h1] at hv
  rw [macElem_inv hv]
  rfl
 | some m=>
  rw [h2 m hf] at hv
  rw [macElem_inv hv]
  rfl
end
section
open Go.RowKit
theorem onFn_any (B:Nat) (nm:List UInt8) (q:Con) (w:World) (hc:w.cell? ⟨B,0,none⟩=some (.string (bs nm))) :
  Calls Tryz.prog 188 #[conv q,.pointer (some ⟨B,0,none⟩)] w fun e w'=>e=.returned (.bool (decide (q.node=nm)))∧Below w.heap.size w w':=by
 have hlt:=yG hc
 have hc2:(w.alloc (conobj q)).cell? ⟨B,0,none⟩=some (.string (bs nm)):=by rw [World.cell?_alloc_lt _ _ ⟨B,0,none⟩ hlt];exact hc
 have hbe:=bs_eq q.node nm
 clear hc hlt
 go_enter Tryz.func188,Tryz.ntmps188
 go_wp2
 go_ret
 exact ⟨rfl,yA (Below.refl _ _) _⟩
def onNode (nm:List UInt8) (q:Con):Bool:=decide (q.node=nm)
def usedOnV (s:St) (nm:List UInt8):Int×Int:=((sumR (usedL (onNode nm) s.cs)).1,(sumR (usedL (onNode nm) s.cs)).2.1)
def onW (w:World) (c:Array Value) (nm:List UInt8):World:=((w.alloc (.cells c 34)).alloc (.cells #[.string (bs nm)] 9)).alloc (.cells #[.int .i64 0,.int .i64 0] 36)
theorem onW_below (w:World) (c:Array Value) (nm:List UInt8):Below w.heap.size w (onW w c nm):=yA (yA (yA (Below.refl _ w) _) _) _
theorem onW_cell (w:World) (c:Array Value) (nm:List UInt8):(onW w c nm).cell? ⟨w.heap.size+1,0,none⟩=some (.string (bs nm)):=by
 have:=((yD (w.alloc (.cells c 34)) #[.string (bs nm)] 9).al (.cells #[.int .i64 0,.int .i64 0] 36)).at 0
 rw [yE] at this
 exact this
theorem onW_var (w:World) (c:Array Value) (nm:List UInt8):Var (onW w c nm) 36 (w.heap.size+1+1) 0 0:=by
 have:=var_new ((w.alloc (.cells c 34)).alloc (.cells #[.string (bs nm)] 9)) 36 0 0
 rwa [yE,yE] at this
theorem implUsedOn_any (x:Sls) (s:St) (nm:List UInt8) (w:World) (h:ConRow w x.ca x.cl s.cs) (hl:x.cl≤1048576) :
  Calls Tryz.prog 166 #[sv x s,.string (bs nm)] w fun e w'=>e=.returned (rv (usedOnV s nm).1 (usedOnV s nm).2)∧Below w.heap.size w w':=by
 have hmf:∀(fn:Fn) (first cap:Array Value) (w:World),(Instr.makeFunc fn first cap).run Tryz.prog w=.ok (.func fn first cap) w:=fun _ _ _ _=>rfl
 obtain ⟨⟨sx,sy⟩,hs⟩:∃s',usedOnV s nm=s':=⟨_,rfl⟩
 have h1:=congrArg Prod.fst hs
 have h2:=congrArg Prod.snd hs
 simp only [usedOnV] at h1 h2
 have CU:=hide (by
  have:=used_any 188 #[.pointer (some ⟨w.heap.size+1,0,none⟩)] (enters_of Tryz.func188 (by kernel_rfl) rfl) (onNode nm) x s (onW w (svc x s) nm) (h.below (onW_below w _ nm)) hl
   (fun wy q hy=>onFn_any (w.heap.size+1) nm q wy ((hy.cell (p:=⟨w.heap.size+1,0,none⟩) (yG (onW_cell w _ nm))).trans (onW_cell w _ nm)))
  rw [h1,h2] at this
  exact this)
 rw [hs]
 clear hs h1 h2 h
 obtain ⟨qa,ql,qc,aa,al,ac,ma,ml,mc,ca,cl,cc⟩:=x
 obtain ⟨qs,clock,epoch,next,serial,apps,ms,cs⟩:=s
 go_enter Tryz.func166,Tryz.ntmps166
 go_wp2_with fail
 refine (uH CU).mono ?_
 rintro e w1 ⟨rfl,hb⟩
 have V1:=(onW_var w _ nm).below hb
 have HB1:=hide (yB (onW_below w _ nm) hb)
 have t0:=V1.c0
 have t1:=V1.c1
 have f0:=V1.f 0
 have f1:=V1.f 1
 have VG:=V1.set sx sy
 have k6:=VG.c0
 have k7:=VG.c1
 clear hb V1 VG CU
 go_wp2
 refine bodyPost_ret (v:=rv sx sy) (by simp [results,Tryz.results166,go_sem,k6,k7]) rfl ⟨rfl,?_⟩
 repeat (first | exact uH HB1 | refine yA ?_ _ | refine yC ?_ _ _ _ (by omega))
end
section
open Go.RowKit Go.Maps
def macFrom (nm:List UInt8):List Mac→Nat→Int
 | [],_=>-1
 | q::t,k=>if q.name=nm then k else macFrom nm t (k+1)
def macAt (l:List Mac) (nm:List UInt8):Int:=macFrom nm l 0
theorem macFrom_step {nm:List UInt8} {l:List Mac} {k:Nat} (h:k<l.length):macFrom nm (l.drop k) k=if l[k].name=nm then (k:Int) else macFrom nm (l.drop (k+1)) (k+1):=by
 rw [List.drop_eq_getElem_cons h,macFrom]
theorem macFrom_end {nm:List UInt8} {l:List Mac} {k:Nat} (h:l.length≤k):macFrom nm (l.drop k) k = -1:=by
 rw [List.drop_of_length_le h];rfl
theorem macFrom_find (nm:List UInt8):∀(l:List Mac) (k:Nat),(findM nm l=none∧macFrom nm l k = -1)∨(∃(j:Nat) (h:j<l.length),findM nm l=some l[j]∧macFrom nm l k=((k+j:Nat):Int))
 | [],k=>.inl ⟨rfl,rfl⟩
 | q::t,k=>by
  by_cases h:q.name=nm
  ·right
   exact ⟨0,by simp,by simp [findM,h],by rw [macFrom,if_pos h];simp⟩
  ·have hf:findM nm (q::t)=findM nm t:=by simp [findM,h]
   rw [hf,macFrom,if_neg h]
   rcases macFrom_find nm t (k+1) with ⟨a,b⟩ | ⟨j,hj,a,b⟩
   ·exact .inl ⟨a,b⟩
   ·exact .inr ⟨j+1,by simpa using hj,by simpa using a,by rw [b];congr 1;omega⟩
theorem macAt_find (nm:List UInt8) (l:List Mac):(findM nm l=none∧macAt l nm = -1)∨(∃(j:Nat) (h:j<l.length),findM nm l=some l[j]∧macAt l nm=(j:Int)):=by
 rcases macFrom_find nm l 0 with h | ⟨j,h,a,b⟩
 ·exact .inl h
 ·exact .inr ⟨j,h,a,by rw [macAt,b];congr 1;omega⟩
theorem l04Machine_any (x:Sls) (s:St) (nm:List UInt8) (w:World) (h:MacRow w x.ma x.ml s.ms) (hl:x.ml≤1048576) :
  Calls Tryz.prog 41 #[sv x s,.string (bs nm)] w fun e w'=>e=.returned (.int .i64 (macAt s.ms nm))∧Below w.heap.size w w':=by
 have HR:=hide h
 have HL:=hide h.1
 have HB0:=hide (yA (Below.refl _ w) (.cells (svc x s) 34))
 have P0:=hide (yD w (svc x s) 34)
 clear h
 obtain ⟨qa,ql,qc,aa,al,ac,ma,ml,mc,ca,cl,cc⟩:=x
 obtain ⟨qs,clock,epoch,next,serial,apps,ms,cs⟩:=s
 simp only at hl HR HL ⊢
 go_enter Tryz.func41,Tryz.ntmps41
 go_wp2
 go_loopw [5] (fun i wr=>∃(k:Nat),k≤ml∧i=.int .i64 k∧Hid (macAt ms nm=macFrom nm (ms.drop k) k)∧Hid (Blk wr w.heap.size (svc ⟨qa,ql,qc,aa,al,ac,ma,ml,mc,ca,cl,cc⟩ ⟨qs,clock,epoch,next,serial,apps,ms,cs⟩) 34)∧Hid (Below w.heap.size w wr)) (fun i _=>ml - (intOf i).toNat)
 case atStart=>exact ⟨0,Nat.zero_le _,rfl,hide (by simp [macAt]),P0,HB0⟩
 case round=>
  obtain ⟨k,hk,rfl,HQ,HP,HB⟩:=hrel
  have p6:=(uH HP).at 6
  simp at p6
  by_cases hlt:k<ml
  ·obtain ⟨b,off,rfl,hq⟩:=((uH HR).below (uH HB)).at hlt
   have hkl:k<ms.length:=by have:=uH HL;omega
   have hst:=hide (macFrom_step (nm:=nm) hkl)
   have c0:=(hq hkl).1
   clear hq
   obtain ⟨s,hs⟩:∃s,ms[k].name=s:=⟨_,rfl⟩
   rw [hs] at c0 hst
   have hbe:=bs_eq s nm
   clear hs hkl
   by_cases he:s=nm
   ·have HE:=hide he
    rw [decide_eq_true he] at hbe
    clear he
    go_wp2
    go_ret
    exact ⟨ret_int (by rw [uH HQ,uH hst,if_pos (uH HE)]),uH HB⟩
   ·have HE:=hide he
    rw [decide_eq_false he] at hbe
    clear he
    go_wp2
    go_roundw
    case rel=>exact ⟨k+1,by omega,by go_num,hide (by rw [uH HQ,uH hst,if_neg (uH HE)]),HP,HB⟩
    case measure=>simp [intOf];omega
  ·go_wp2
   go_ret
   exact ⟨ret_int (by rw [uH HQ,macFrom_end (by have:=uH HL;omega)]),uH HB⟩
def lessV (a b c d:Int):Int×Int:=if bothOk (-1) a b c d then (a + -1*c,b + -1*d) else (0,0)
theorem less_both (a b c d:Int):bothV (-1) a b c d=rv (lessV a b c d).1 (lessV a b c d).2:=by
 cases h:bothOk (-1) a b c d
 ·rw [both_no h,lessV,h];rfl
 ·rw [both_yes h,lessV,h];rfl
def freeOnV (s:St) (nm:List UInt8):Int×Int:=match findM nm s.ms with
 | none=>(0,0)
 | some m=>lessV m.mem m.cpu (usedOnV s nm).1 (usedOnV s nm).2
end
section
open Go.RowKit
def canV (s:St) (nd qu:List UInt8) (a:Ask):Bool:=suitsV a nd&&(within a.mem a.cpu (freeOnV s nd).1 (freeOnV s nd).2&&roomV s qu a.mem a.cpu)
def askFrom (p:Ask→Bool):List Ask→Nat→Option Nat
 | [],_=>none
 | a::t,k=>if p a=true then some k else askFrom p t (k+1)
theorem askFrom_step {p:Ask→Bool} {l:List Ask} {k:Nat} (h:k<l.length):askFrom p (l.drop k) k=if p l[k]=true then some k else askFrom p (l.drop (k+1)) (k+1):=by
 rw [List.drop_eq_getElem_cons h,askFrom]
theorem askFrom_end {p:Ask→Bool} {l:List Ask} {k:Nat} (h:l.length≤k):askFrom p (l.drop k) k=none:=by
 rw [List.drop_of_length_le h];rfl
theorem askFrom_lt {p:Ask→Bool}:∀{l:List Ask} {k j:Nat},askFrom p l k=some j→k≤j∧j<k+l.length
 | [],_,_,h=>by cases h
 | a::t,k,j,h=>by
  rw [askFrom] at h
  split at h
  ·cases h;simp
  ·have:=askFrom_lt h
   simp
   omega
def appFrom (p:Ask→Bool) (qu:List UInt8):List Appl→Nat→Option (Nat×Nat)
 | [],_=>none
 | a::t,i=>if a.queue=qu then (match askFrom p a.asks 0 with | some k=>some (i,k) | none=>appFrom p qu t (i+1)) else appFrom p qu t (i+1)
theorem appFrom_step {p:Ask→Bool} {qu:List UInt8} {l:List Appl} {i:Nat} (h:i<l.length):appFrom p qu (l.drop i) i=if l[i].queue=qu then (match askFrom p l[i].asks 0 with | some k=>some (i,k) | none=>appFrom p qu (l.drop (i+1)) (i+1)) else appFrom p qu (l.drop (i+1)) (i+1):=by
 rw [List.drop_eq_getElem_cons h,appFrom]
theorem appFrom_end {p:Ask→Bool} {qu:List UInt8} {l:List Appl} {i:Nat} (h:l.length≤i):appFrom p qu (l.drop i) i=none:=by
 rw [List.drop_of_length_le h];rfl
def queFrom (s:St) (nd:List UInt8):List (List UInt8)→Option (Nat×Nat)
 | []=>none
 | q::t=>match appFrom (canV s nd q) q s.apps 0 with | some r=>some r | none=>queFrom s nd t
def pickV (s:St) (nd:List UInt8):Option (Nat×Nat):=queFrom s nd (orderV s)
theorem queFrom_step {s:St} {nd:List UInt8} {l:List (List UInt8)} {i:Nat} (h:i<l.length):queFrom s nd (l.drop i)=match appFrom (canV s nd l[i]) l[i] s.apps 0 with | some r=>some r | none=>queFrom s nd (l.drop (i+1)):=by
 rw [List.drop_eq_getElem_cons h,queFrom]
theorem queFrom_end {s:St} {nd:List UInt8} {l:List (List UInt8)} {i:Nat} (h:l.length≤i):queFrom s nd (l.drop i)=none:=by
 rw [List.drop_of_length_le h];rfl
theorem appFrom_none {p:Ask→Bool} (hp:∀a,p a=false) (qu:List UInt8):∀(l:List Appl) (i:Nat),appFrom p qu l i=none
 | [],_=>rfl
 | a::t,i=>by
  have hn:∀(l:List Ask) k,askFrom p l k=none:=fun l=>by
   induction l with
   | nil=>intro k;rfl
   | cons a t ih=>intro k;rw [askFrom,if_neg (by rw [hp];simp)];exact ih _
  rw [appFrom,hn,appFrom_none hp qu t]
  split<;>rfl
end
section
open Go.RowKit Go.Shelf
attribute [local go_sem] Oper.semAt_some
abbrev NMac:={ m:Mac // m.name.length≤1048576 }
theorem MacRow.kpa {W W':World} {ao:Option Addr} {len:Nat} {l:List Mac} (h:MacRow W ao len l) (k:KpA W W'):MacRow W' ao len l:=by
 obtain ⟨h1,h2⟩:=h
 refine ⟨h1,?_⟩
 rcases h2 with h2 | ⟨b,off,h3,h4⟩
 ·exact .inl h2
 ·exact .inr ⟨b,off,h3,fun i hi=>let ⟨a,b,c,d⟩:=h4 i hi;⟨k.cell a,k.cell b,k.cell c,k.cell d⟩⟩
theorem backM_some (n l Bs len cap:Nat) (ao:Option Addr) (ms:List Mac) (J Jx:List (Int×NMac)→World→Prop)
  (hY:∀pre x W1,J pre W1→pre.length<ms.length→YieldAt Fence.wide (n - 1) Tryz.prog l #[.int .i64 x.1,macv x.2.1] W1 fun e W'=>
   (e=.returned (.bool true)∧J (pre++[x]) W'∧KpA W1 W')∨(e=.returned (.bool false)∧Jx (pre++[x]) W'))
  (W:World) (hBs:W.cell? ⟨Bs,0,none⟩=some (.slice ao len cap)) (hg:MacRow W ao len ms) (hl:len≤1048576) (hN:∀m ∈ ms,m.name.length≤1048576) (h0:J [] W) :
  CallsIn Fence.wide n Tryz.prog 157 #[.func (.yield l) #[] #[],.pointer (some ⟨Bs,0,none⟩)] W fun e W'=>(∃v,e=.returned v)∧
   ((∃ys:List (Int×NMac),Hid (ys.map (fun x:Int×NMac=>x.2.1)=ms.reverse)∧J ys W')∨(∃pre,Jx pre W')):=by
 have HY:=hide hY
 have HBs:=hide hBs
 have HG:=hide hg
 have HLEN:=hide hg.1
 have H0:=hide h0
 have HNN:=hide hN
 clear hY hg h0 hN
 refine callsIn_of_wp Tryz.func157 rfl trivial ?_ rfl
 simp only [Tryz.ntmps157,List.size_toArray,List.length_cons,List.length_nil,Nat.reduceAdd,Nat.reduceSub,Array.replicate_succ,Array.replicate_zero,List.push_toArray,List.append_toArray,List.nil_append,List.cons_append]
 gi_wp2
 clear hBs
 gi_loopw [3] (fun i wr=>∃(k:Nat) (pre:List (Int×NMac)),k≤len∧i=.int .i64 ((k:Int) - 1)∧Hid (pre.length+k=ms.length)∧Hid (pre.map (fun x:Int×NMac=>x.2.1)=(ms.drop k).reverse)∧Hid (J pre wr)∧Hid (wr.cell? ⟨Bs,0,none⟩=some (.slice ao len cap))∧Hid (MacRow wr ao len ms)) (fun i _=>(intOf i+1).toNat)
 case atStart=>exact ⟨len,[],Nat.le_refl _,by go_num,hide (by have:=uH HLEN;simp;omega),hide (by rw [List.drop_of_length_le (by have:=uH HLEN;omega)];rfl),H0,HBs,HG⟩
 case round=>
  obtain ⟨k,pre,hk,rfl,HL,HM,HJ,HB,HGr⟩:=hrel
  cases k with
  | zero=>
   gi_wp2
   go_end0
   exact ⟨⟨_,rfl⟩,.inl ⟨pre,hide (by rw [uH HM];rfl),uH HJ⟩⟩
  | succ j=>
   have hj:j<len:=by omega
   obtain ⟨b,off,rfl,hq⟩:=(uH HGr).at hj
   have hjm:j<ms.length:=by have:=uH HLEN;omega
   obtain ⟨c0,c1,c2,c3⟩:=hq hjm
   have hbox:=uH HB
   have hel:=uH HNN ms[j] (List.getElem_mem _)
   obtain ⟨fn,tmps,assign,body,hy,hR⟩:=uH HY pre ((j:Int),⟨ms[j],hel⟩) wr (uH HJ) (by have:=uH HL;omega)
   have HRR:=hide hR
   have HM2:=hide (show (pre++[((j:Int),(⟨ms[j],hel⟩:NMac))]).map (fun x:Int×NMac=>x.2.1)=(ms.drop j).reverse by rw [List.map_append,uH HM,List.drop_eq_getElem_cons hjm,List.reverse_cons];rfl)
   have hij:((j+1:Nat):Int) - 1=(j:Int):=by omega
   obtain ⟨y,hyy⟩:∃y:NMac,(⟨ms[j],hel⟩:NMac)=y:=⟨_,rfl⟩
   have hy1:ms[j]=y.1:=by rw [←hyy]
   rw [hyy] at hy HRR HM2
   rw [hy1] at c0 c1 c2 c3
   obtain ⟨⟨nm,me,cp,se⟩,hyn⟩:=y
   simp only at hy c0 c1 c2 c3
   rw [hij]
   have j0:(0:Int)≤j:=by omega
   have j1:(j:Int)<len:=by omega
   clear hR hyy hy1 hij HM hq hjm hel
   gi_wp2
   refine ⟨(by intro e;cases e),?_⟩
   refine (uH HRR).mono ?_
   rintro e W3 (⟨rfl,hJ3,hk3⟩ | ⟨rfl,hJx3⟩)
   ·have HB3:=hide (hk3.cell (uH HB))
    have HG3:=hide ((uH HGr).kpa hk3)
    have HJ3:=hide hJ3
    clear hk3 hJ3 hbox hy HRR c0 c1 c2 c3
    gi_wp2
    go_roundw
    case rel=>exact ⟨j,pre++[((j:Int),⟨⟨nm,me,cp,se⟩,hyn⟩)],by omega,by go_num,hide (by have:=uH HL;simp;omega),HM2,HJ3,HB3,HG3⟩
    case measure=>simp [intOf]
   ·gi_wp2
    refine bodyPost_ret (results_none rfl _ _ _) rfl ?_
    exact ⟨⟨_,rfl⟩,.inr ⟨_,hJx3⟩⟩
theorem backM_stops (n Bs len cap:Nat) (ao:Option Addr) (ms:List Mac) (w:World) (hBs:w.cell? ⟨Bs,0,none⟩=some (.slice ao len cap)) (hrow:MacRow w ao len ms) (hl:len≤1048576) (hN:∀m ∈ ms,m.name.length≤1048576) :
  SeqStopsK Fence.wide n Tryz.prog 157 #[.pointer (some ⟨Bs,0,none⟩)] (fun x:Int×NMac=>#[.int .i64 x.1,macv x.2.1]) KpA (fun ys=>Hid (ys.map (fun x:Int×NMac=>x.2.1)=ms.reverse)) (fun _=>True) ms.length w:=by
 intro l J Jx W hW hJ hJx hY h0
 refine (backM_some n l Bs len cap ao ms J Jx hY W ((hW.cell (yG hBs)).trans hBs) (hrow.below hW) hl hN h0).mono ?_
 rintro e W' ⟨he,⟨ys,h1,h2⟩ | ⟨pre,h2⟩⟩
 ·exact ⟨he,.inl ⟨ys,h1,h2⟩⟩
 ·exact ⟨he,.inr ⟨pre,trivial,h2⟩⟩
theorem backM_any (v:Value) (w:World) (hv:v.oneCell'=true) :
  Calls Tryz.prog 126 #[v] w fun e w'=>e=.returned (.func (.func 157) #[] #[.pointer (some ⟨w.heap.size,0,none⟩)])∧w.alloc (.cells #[v] 31)=w':=by
 have hmf:∀(fn:Fn) (first cap:Array Value) (w:World),(Instr.makeFunc fn first cap).run Tryz.prog w=.ok (.func fn first cap) w:=fun _ _ _ _=>rfl
 go_enter Tryz.func126,Tryz.ntmps126
 go_wp2
 go_ret
 exact ⟨rfl,rfl⟩
theorem macKey_any (m:Mac) (w:World) :
  Calls Tryz.prog 127 #[macv m] w fun e w'=>e=.returned (.agg #[.string (bs m.name),.int .i64 0])∧Below w.heap.size w w':=by
 obtain ⟨nm,me,cp,se⟩:=m
 go_enter Tryz.func127,Tryz.ntmps127
 go_wp2
 refine bodyPost_ret (v:=.agg #[.string (bs nm),.int .i64 0]) (by simp [results,Tryz.results127,go_sem]) rfl ⟨rfl,?_⟩
 repeat (first | exact Below.refl _ _ | refine yA ?_ _ | refine Below.drew ?_ | refine yC ?_ _ _ _ (by omega))
end
section
open Go.RowKit Go.Shelf Go.Maps
attribute [local go_sem] Oper.semAt_some
def mapW (w:World) (c:Array Value):World:=((w.alloc (.cells c 34)).alloc (.map #[] 0)).alloc (.cells #[.map (some (w.heap.size+1))] 130)
theorem mapW_size (w:World) (c:Array Value):(mapW w c).heap.size=w.heap.size+1+1+1:=by simp only [mapW,yE]
theorem mapW_below (w:World) (c:Array Value):Below w.heap.size w (mapW w c):=yA (yA (yA (Below.refl _ w) _) _) _
theorem mapW_own (w:World) (c:Array Value):(mapW w c).ownsMap Tryz.prog 133 macElem (w.heap.size+1) 0 (.map []):=by
 have:=(World.ownsMap_made (w.alloc (.cells c 34)) Tryz.prog 133 macElem).alloc (.cells #[.map (some (w.heap.size+1))] 130)
 rw [yE] at this
 exact this
theorem mapW_var (w:World) (c:Array Value):Blk (mapW w c) (w.heap.size+1+1) #[.map (some (w.heap.size+1))] 130:=by
 have:=yD ((w.alloc (.cells c 34)).alloc (.map #[] 0)) #[.map (some (w.heap.size+1))] 130
 rw [yE,yE] at this
 exact this
def MapInv (w:World) (l:List Mac) (W:World):Prop:=(∃D,W.ownsMap Tryz.prog 133 macElem (w.heap.size+1) l.length D∧KnownM l D)∧Blk W (w.heap.size+1+1) #[.map (some (w.heap.size+1))] 130
theorem MapInv.grown {w W W':World} {l:List Mac} {row:Option Nat} (h:MapInv w l W) (hg:W.grownBy W' row) (hr:∀r,row=some r→w.heap.size+1+1<r):MapInv w l W':=by
 obtain ⟨⟨D,h1,h2⟩,h3⟩:=h
 exact ⟨⟨D,h1.kept hg (fun e=>by have:=hr _ e.symm;omega),h2⟩,(hg.block _ h3.lt (fun e=>by have:=hr _ e.symm;omega)).trans h3⟩
theorem MapInv.below {w W W':World} {l:List Mac} (h:MapInv w l W) (hb:Below W.heap.size W W'):MapInv w l W':=h.grown (grownBy_below (grownBy_refl W none) hb) (fun r e=>by cases e)
theorem machines_any (x:Sls) (s:St) (w:World) (h:MacRow w x.ma x.ml s.ms) (hl:x.ml≤1048576) (hn:∀m ∈ s.ms,m.name.length≤1048576) :
  Calls Tryz.prog 84 #[sv x s] w fun e w'=>e=.returned (.map (some (w.heap.size+1)))∧MapInv w s.ms w'∧Below w.heap.size w w':=by
 obtain ⟨qa,ql,qc,aa,al,ac,ma,ml,mc,ca,cl,cc⟩:=x
 obtain ⟨qs,clock,epoch,next,serial,apps,ms,cs⟩:=s
 simp only at h hl hn ⊢
 have HR:=hide h
 have HL:=hide h.1
 have HN:=hide hn
 have hmx:Tryz.prog.follows .mixedOrders=true:=by kernel_rfl
 have hmm:=fun (t:TypeId) (wx:World)=>run_makeMap (P:=Tryz.prog) t wx
 clear h hn
 refine (callsIn_wide (n:=3)).1 ?_
 refine callsIn_of_wp_marks Tryz.func84 rfl trivial ?_ rfl
 simp only [Tryz.ntmps84,List.size_toArray,List.length_cons,List.length_nil,Nat.reduceAdd,Nat.reduceSub,Array.replicate_succ,Array.replicate_zero,List.push_toArray,List.append_toArray,List.nil_append,List.cons_append]
 gi_wp2_with fail
 first | refine ⟨trivial,?_⟩ | skip
 first | refine ⟨(by intro e;cases e),?_⟩ | skip
 refine (callsIn_wide.2 (backM_any (.slice ma ml mc) _ rfl)).mono ?_
 rintro e w4 ⟨rfl,rfl⟩
 gi_wp2
 have hsz0:=yE (mapW w (svc ⟨qa,ql,qc,aa,al,ac,ma,ml,mc,ca,cl,cc⟩ ⟨qs,clock,epoch,next,serial,apps,ms,cs⟩)) (.cells #[.slice ma ml mc] 31)
 rw [mapW_size] at hsz0
 have hB0:=yA (mapW_below w (svc ⟨qa,ql,qc,aa,al,ac,ma,ml,mc,ca,cl,cc⟩ ⟨qs,clock,epoch,next,serial,apps,ms,cs⟩)) (.cells #[.slice ma ml mc] 31)
 have hI0:=MapInv.below (w:=w) (l:=[]) ⟨⟨_,mapW_own w (svc ⟨qa,ql,qc,aa,al,ac,ma,ml,mc,ca,cl,cc⟩ ⟨qs,clock,epoch,next,serial,apps,ms,cs⟩),knownM_empty⟩,mapW_var w _⟩ (yA (Below.refl _ _) (.cells #[.slice ma ml mc] 31))
 have hBs:=(yD (mapW w (svc ⟨qa,ql,qc,aa,al,ac,ma,ml,mc,ca,cl,cc⟩ ⟨qs,clock,epoch,next,serial,apps,ms,cs⟩)) #[.slice ma ml mc] 31).at 0
 rw [mapW_size] at hBs
 obtain ⟨W0,hW0⟩:∃W0,(mapW w (svc ⟨qa,ql,qc,aa,al,ac,ma,ml,mc,ca,cl,cc⟩ ⟨qs,clock,epoch,next,serial,apps,ms,cs⟩)).alloc (.cells #[.slice ma ml mc] 31)=W0:=⟨_,rfl⟩
 rw [hW0] at hsz0 hB0 hI0 hBs
 have HC:=hide (backM_stops (3 - 1) (w.heap.size+1+1+1) ml mc ma ms W0 hBs ((uH HR).below hB0) hl (uH HN))
 show Code.wpIn _ _ _ _ _ _ ((mapW w (svc ⟨qa,ql,qc,aa,al,ac,ma,ml,mc,ca,cl,cc⟩ ⟨qs,clock,epoch,next,serial,apps,ms,cs⟩)).alloc (.cells #[.slice ma ml mc] 31))
 rw [hW0]
 clear hW0 hBs
 refine wpIn_rangeFunc_ownH rfl (by omega) (gf:=157) (lb:=#[.pointer (some ⟨w.heap.size+1+1+1,0,none⟩)]) rfl trivial (enters_of Tryz.func157 (by kernel_rfl) rfl)
  (uH HC) kpa_t kpa_b (Below.refl _ _) (fun _=>rfl)
  (fun pre W=>MapInv w ((pre.map (fun x:Int×NMac=>x.2.1)).reverse) W∧Below w.heap.size w W)
  (fun _ _ _=>False)
  (OwnFrom.and (fun s X Y row hs hg hr=>MapInv.grown hs hg (fun r e=>by have:=(hr r e).1;omega)) (ownFrom_below (Nat.le_refl _) (by omega)))
  (fun _ _ _ _ _ hs _ _=>hs)
  ⟨hI0,hB0⟩
  (fun x a' W=>∃Bx,w.heap.size+1+1<Bx∧Blk W Bx #[.string (bs x.2.1.name),.int .i64 x.2.1.mem,.int .i64 x.2.1.cpu,.int .i64 x.2.1.seen] 104∧a' = { tmps:=#[sv ⟨qa,ql,qc,aa,al,ac,ma,ml,mc,ca,cl,cc⟩ ⟨qs,clock,epoch,next,serial,apps,ms,cs⟩,.pointer (some ⟨w.heap.size,0,none⟩),.map none,.pointer (some ⟨w.heap.size+1+1,0,none⟩),undef,.pointer (some ⟨Bx,0,none⟩),.map (some (w.heap.size+1)),.pointer (some ⟨w.heap.size,6,none⟩),.slice ma ml mc,.func (.func 157) #[] #[.pointer (some ⟨w.heap.size+1+1+1,0,none⟩)],.int .i64 x.1,macv x.2.1,undef,undef,undef,undef,undef],defers:=[] })
  (fun x a' _ X Y row hs hg hr=>by
   obtain ⟨Bx,h1,h2,h3⟩:=hs
   refine ⟨Bx,h1,(hg.block Bx h2.lt (fun e=>?_)).trans h2,h3⟩
   obtain ⟨_,o,ho,hc⟩:=hr Bx e.symm
   rw [show X.heap[Bx]? = _ from h2] at ho
   cases ho
   cases hc)
  ?assign ?body ?done ?stop
 case assign=>
  rintro lp pre ⟨i,⟨⟨nm,me,cp,se⟩,hnm⟩⟩ W K ⟨hI,hB⟩ hK
  have hlt:=hI.2.lt
  gi_wp2
  exact hK _ _ ((KeepsOthers.alloc _ _).from _) (kpa_below (yA (Below.refl _ W) _)) ⟨hI.below (yA (Below.refl _ W) _),yA hB _⟩ ⟨W.heap.size,hlt,yD W _ _,rfl⟩
 case body=>
  rintro lp pre ⟨i,⟨⟨nm,me,cp,se⟩,hnm⟩⟩ a' W hlp _ ⟨hI,hB⟩ ⟨Bx,hBx,hX,rfl⟩ hlt
  have HI:=hide hI
  have HX:=hide hX
  have HB:=hide hB
  have x0:=hX.at 0
  have x1:=hX.at 1
  have x2:=hX.at 2
  have x3:=hX.at 3
  have v0:=hI.2.at 0
  simp at x0 x1 x2 x3 v0
  have hpl:pre.length<1048576:=by have:=uH HL;omega
  clear hI hX hB
  have hnm':nm.length≤1048576:=hnm
  obtain ⟨kl,hkey⟩:=keyKey (nm:=nm) (k:=0) (by omega) (by decide)
  have HKEY:=hide hkey
  clear hkey
  gi_wp2_with fail
  gi_region_with_o (first | (first | refine ⟨trivial,?_⟩ | skip);(first | refine ⟨(by intro e;cases e),?_⟩ | skip);refine (CallsIn.inRound lp (callsIn_wide.2 (macKey_any ⟨nm,me,cp,se⟩ _))).mono ?_;rintro e wc ⟨rfl,hbc⟩;have HW3:=hide (yB (Below.refl _ W).drew hbc);have y0:=((uH HX).below (uH HW3)).at 0;have y1:=((uH HX).below (uH HW3)).at 1;have y2:=((uH HX).below (uH HW3)).at 2;have y3:=((uH HX).below (uH HW3)).at 3;have u0:=((uH HI).below (uH HW3)).2.at 0;simp at y0 y1 y2 y3 u0;obtain ⟨D,hown,hk⟩:=((uH HI).below (uH HW3)).1;obtain ⟨w4,hrun,hown2,hgrow2⟩:=hown.update keyLaw Tryz.underlying130 (by unfold maxLen;simp;omega) (uH HKEY) (macElem_mk ⟨nm,me,cp,se⟩);have HFIN:=hide (And.intro hown2 (And.intro hgrow2 (KnownM.put (m:=⟨nm,me,cp,se⟩) hk hown.isMap (uH HKEY))));clear hown2 hgrow2 hk hown hbc)
  all_goals gi_wp2
  all_goals
   obtain ⟨f1,f2,f3⟩:=uH HFIN
   have hbelow:=(uH HW3)
   have hv4:=(f2.block _ ((uH HI).below hbelow).2.lt (by simp)).trans ((uH HI).below hbelow).2
   have hmi:MapInv w (⟨nm,me,cp,se⟩::(pre.map (fun x:Int×NMac=>x.2.1)).reverse) w4:=⟨⟨_,f1,f3⟩,hv4⟩
   refine ⟨((keepsO_below hbelow).from _).trans (KeepsFrom.of_grownBy f2 (fun j e=>by cases e;omega)),kpa_t (kpa_below hbelow) (fun k o ho hc=>(f2.block k (lt_of_block ho) (fun e=>?_)).trans ho),by simpa using hmi,?_⟩
   ·obtain ⟨D',hD',_⟩:=((uH HI).below hbelow).1
    obtain ⟨es,ck,hm',_⟩:=hD'
    obtain rfl:k=w.heap.size+1:=by simpa using e
    rw [hm'] at ho
    cases ho
    cases hc
   ·exact ((uH HB).trans (hbelow.mono (uH HB).size)).grown f2 (by have:=(uH HB).size;have:=hbelow.size;omega) (fun k e=>by cases e;omega)
 case done=>
  rintro D ys W hD hys ⟨hI,hB⟩ hK
  rw [uH hys,List.reverse_reverse] at hI
  have v0:=hI.2.at 0
  simp at v0
  have HI:=hide hI
  have HB:=hide hB
  clear hI hB
  gi_wp2
  refine ⟨by simp,.inl ⟨_,_,rfl,run_takeDeferred hK,?_⟩⟩
  exact ⟨_,results_tmp rfl _ _ _,rfl,(uH HI).grown (grownBy_putObj' W D _) (fun r e=>by cases e;omega),(uH HB).trans (belowK_b (w:=w) (Nat.le_refl _) W D _ _ (by omega) hK rfl rfl)⟩
 case stop=>
  rintro D c pre W _ _ h _
  exact h.elim
theorem machines_ex (x:Sls) (s:St) (w:World) (h:MacRow w x.ma x.ml s.ms) (hl:x.ml≤1048576) (hn:∀m ∈ s.ms,m.name.length≤1048576) :
  Calls Tryz.prog 84 #[sv x s] w fun e w'=>∃bm,e=.returned (.map (some bm))∧(w.heap.size≤bm∧∃D,w'.ownsMap Tryz.prog 133 macElem bm s.ms.length D∧KnownM s.ms D)∧Below w.heap.size w w':=
 (machines_any x s w h hl hn).mono fun e w' ⟨h1,h2,h3⟩=>⟨_,h1,⟨by omega,h2.1⟩,h3⟩
end
end Go.Proofs.YtdhibeclkdepiaaGreat
