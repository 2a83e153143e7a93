/-
  Texts in one: IdxI, AddS, HpW, UpM1, UpM.
-/
import Derived.Test.YtokabeokclpljaaGreatSackA
import Derived.Shelf.Abstract
import Derived.LoopTactic
import Derived.Laws.Pointers
import Derived.KernelRfl
set_option maxRecDepth 100000
set_option maxHeartbeats 16000000
set_option linter.unusedVariables false
set_option linter.unusedSimpArgs false
namespace Go.Proofs.YtokabeokclpljaaGreat
section
open Go.RowKit
def idxFrom (p:Q→Bool):List Q→Nat→Int
 | [],_=>-1
 | q::t,k=>if p q=true then (k:Int) else idxFrom p t (k+1)
theorem idxFrom_step {p:Q→Bool} {l:List Q} {k:Nat} (h:k<l.length):idxFrom p (l.drop k) k=if p l[k]=true then (k:Int) else idxFrom p (l.drop (k+1)) (k+1):=by
 rw [List.drop_eq_getElem_cons h,idxFrom]
theorem idxFrom_end {p:Q→Bool} {l:List Q} {k:Nat} (h:l.length≤k):idxFrom p (l.drop k) k = -1:=by
 rw [List.drop_of_length_le h];rfl
theorem idx_place (nm:List UInt8):∀(l:List Q) (k:Nat),idxFrom (fun q=>decide (q.name=nm)) l k=placeFrom nm l k
 | [],_=>rfl
 | q::t,k=>by
  rw [idxFrom,placeFrom,idx_place nm t (k+1)]
  by_cases h:q.name=nm<;>simp [h]
theorem idx_has (p:Q→Bool):∀(l:List Q) (k:Nat),decide (0≤idxFrom p l k)=l.any p
 | [],_=>by simp [idxFrom]
 | q::t,k=>by
  rw [idxFrom,List.any_cons]
  by_cases h:p q=true
  ·rw [if_pos h,h];simp
  ·rw [if_neg h,idx_has p t (k+1)];simp [h]
theorem indexFunc_any (g:Nat) (lb:Array Value) (eg:∀args w,(callFunc g args).run Tryz.prog w=.ok (.enter g args) w) (p:Q→Bool) (ao:Option Addr) (len cap:Nat) (l:List Q) (w:World) (h:QRow w ao len l) (hl:len≤1048576)
  (hp:∀wx q,Below w.heap.size w wx→Calls Tryz.prog g (#[qv q]++lb) wx fun e w'=>e=.returned (.bool (p q))∧Below wx.heap.size wx w') :
  Calls Tryz.prog 190 #[.slice ao len cap,.func (.func g) #[] lb] w fun e w'=>e=.returned (.int .i64 (idxFrom p l 0))∧Below w.heap.size w w':=by
 have HR:=hide h
 have HL:=hide h.1
 have HP:=hide hp
 clear h hp
 go_enter Tryz.func190,Tryz.ntmps190
 go_wp2
 go_loopw [5,8] (fun _ i wr=>∃k:Nat,k≤len∧i=.int .i64 k∧Hid (idxFrom p l 0=idxFrom p (l.drop k) k)∧Hid (Below w.heap.size w wr)) (fun _ i _=>len - (intOf i).toNat)
 case atStart=>exact ⟨0,Nat.zero_le _,rfl,hide (by simp),hide (yH _ _)⟩
 case round=>
  obtain ⟨k,hk,rfl,hq,HB⟩:=hrel
  by_cases hlt:k<len
  ·obtain ⟨b,off,rfl,hx⟩:=((uH HR).below (uH HB)).at hlt
   have hkl:k<l.length:=by have:=uH HL;omega
   have hst:=hide (idxFrom_step (p:=p) (l:=l) (k:=k) hkl)
   obtain ⟨c0,c1,c2,c3⟩:=hx hkl
   clear hx
   obtain ⟨⟨nm,pa,du,mo⟩,hs⟩:∃s,l[k]=s:=⟨_,rfl⟩
   rw [hs] at c0 c1 c2 c3 hst
   simp only at c0 c1 c2 c3
   have HC:=hide (uH HP wr ⟨nm,pa,du,mo⟩ (uH HB))
   clear hs hkl HP
   cases hpq:p ⟨nm,pa,du,mo⟩ with
   | true=>
    rw [hpq] at HC
    have HQ:=hide hpq
    clear hpq
    go_wp2_with (go_at_fn g;refine (uH HC).mono ?_;rintro e w' ⟨rfl,hb⟩)
    go_ret
    exact ⟨ret_int (by rw [uH hq,uH hst,if_pos (uH HQ)]),yB (uH HB) hb⟩
   | false=>
    rw [hpq] at HC
    have HQ:=hide hpq
    clear hpq
    go_wp2_with (go_at_fn g;refine (uH HC).mono ?_;rintro e w' ⟨rfl,hb⟩)
    go_roundw
    case rel=>exact ⟨k+1,by omega,by go_num,hide (by rw [uH hq,uH hst,if_neg (by rw [uH HQ];simp)]),hide (yB (uH HB) hb)⟩
    case measure=>simp [intOf];omega
  ·go_wp2
   go_ret
   exact ⟨ret_int (by rw [uH hq,idxFrom_end (by have:=uH HL;omega)]),uH HB⟩
theorem placeFn_any (B:Nat) (nm:List UInt8) (q:Q) (w:World) (hc:w.cell? ⟨B,0,none⟩=some (.string (bs nm))) :
  Calls Tryz.prog 191 #[qv q,.pointer (some ⟨B,0,none⟩)] w fun e w'=>e=.returned (.bool (decide (q.name=nm)))∧Below w.heap.size w w':=by
 have hlt:=yG hc
 have hc2:(w.alloc (.cells #[.string (bs q.name),.string (bs q.parent),.int .i64 q.due,.int .i64 q.most] 99)).cell? ⟨B,0,none⟩=some (.string (bs nm)):=by rw [World.cell?_alloc_lt _ _ ⟨B,0,none⟩ hlt];exact hc
 have hbe:=bs_eq q.name nm
 clear hc hlt
 go_enter Tryz.func191,Tryz.ntmps191
 go_wp2
 go_ret
 exact ⟨rfl,yA (yH _ _) _⟩
theorem place_any (ao:Option Addr) (len cap:Nat) (l:List Q) (nm:List UInt8) (w:World) (h:QRow w ao len l) (hl:len≤1048576) :
  Calls Tryz.prog 153 #[.slice ao len cap,.string (bs nm)] w fun e w'=>e=.returned (.int .i64 (place l nm))∧Below w.heap.size w w':=by
 have hmf:∀(fn:Fn) (first cap:Array Value) (w:World),(Instr.makeFunc fn first cap).run Tryz.prog w=.ok (.func fn first cap) w:=fun _ _ _ _=>rfl
 have hb0:=yA (yH _ w) (.cells #[.string (bs nm)] 9)
 have C:=hide (indexFunc_any 191 #[.pointer (some ⟨w.heap.size,0,none⟩)] (enters_of Tryz.func191 (by kernel_rfl) rfl) (fun q=>decide (q.name=nm)) ao len cap l _ (h.below hb0) hl
  (fun wx q hb=>placeFn_any w.heap.size nm q wx ((hb.cell (p:=⟨w.heap.size,0,none⟩) (by simp)).trans (by simp))))
 rw [idx_place] at C
 obtain ⟨p,hp⟩:∃p,placeFrom nm l 0=p:=⟨_,rfl⟩
 rw [show place l nm=p from hp]
 rw [hp] at C
 have HB0:=hide hb0
 clear h hb0 hp
 go_enter Tryz.func153,Tryz.ntmps153
 go_wp2_with fail
 refine (uH C).mono ?_
 rintro e w1 ⟨rfl,hb⟩
 have HB:=hide (yB (uH HB0) hb)
 clear hb
 go_wp2
 go_ret
 exact ⟨rfl,uH HB⟩
theorem specAdd_any (a b c d:Int) (w:World) :
  Calls Tryz.prog 24 #[rv a b,rv c d] w fun e w'=>e=.returned (.tuple #[bothV 1 a b c d,.bool (bothOk 1 a b c d)])∧Below w.heap.size w w':=by
 have hv:∃x y,bothV 1 a b c d=rv x y:=by unfold bothV;split<;>exact ⟨_,_,rfl⟩
 obtain ⟨x,y,hv⟩:=hv
 have hc:=l02Both_any a b c d 1 ((w.alloc (.cells #[.int .i64 a,.int .i64 b] 52)).alloc (.cells #[.int .i64 c,.int .i64 d] 52) |>.alloc (.cells #[.int .i64 0,.int .i64 0] 52)) (by decide)
 rw [hv] at hc ⊢
 go_enter Tryz.func24,Tryz.ntmps24
 go_wp2_with fail
 refine hc.mono ?_
 rintro e w1 ⟨rfl,hb⟩
 have hk:Var w1 52 (w.heap.size+1+1) 0 0:=Var.below (by simpa using var_new ((w.alloc (.cells #[.int .i64 a,.int .i64 b] 52)).alloc (.cells #[.int .i64 c,.int .i64 d] 52)) 52 0 0) hb
 have k0:=hk.c0
 have k1:=hk.c1
 have k2:=hk.f 0
 have k3:=hk.f 1
 have k4:=hk.s0 (.int .i64 x)
 have k5:=hk.s1 (.int .i64 x) (.int .i64 y)
 have HB:=hide (yB (yA (yA (yA (yH _ _) _) _) _) hb)
 clear hb hc hk
 go_wp2
 refine bodyPost_ret (v:=.tuple #[rv x y,.bool (bothOk 1 a b c d)]) (by simp [results,Tryz.results24,go_sem,k4,k5]) rfl ⟨rfl,?_⟩
 repeat (first | exact uH HB | refine yA ?_ _ | refine yC ?_ _ _ _ (by omega))
end
section
open Go.RowKit HeapM
theorem nilchk (a:Addr) (nm:String) (w:World):(Builtin.ssaWrapNilChk_ #[175] 175 #[.pointer (some a),strVal "",strVal nm]).run Tryz.prog w=.ok (.pointer (some a)) w:=rfl
theorem m_less (g:Nat) (w:World) (x y:Value) (h:w.heap[g]? = some (.cells #[x,y] 180 (0,0))):(method 381 175 (.pointer (some ⟨g,0,none⟩)) "Less").run Tryz.prog w=.ok (229,.agg #[x,y]) w:=by
 have h0:w.cell? ⟨g,0,none⟩=some x:=by simp [World.cell?,h]
 have h1:w.cell? ⟨g,1,none⟩=some y:=by simp [World.cell?,h]
 have hmap:(Array.find? (fun x=>x.name == "Less") Tryz.t175.methods).map (fun m=>(m.path.toList,m.func))=some ([],some (229,false)):=by kernel_rfl
 obtain ⟨m,hm,he⟩:=Option.map_eq_some_iff.1 hmap
 simp only [Prod.mk.injEq] at he
 obtain ⟨hp,hf⟩:=he
 unfold method
 have hp':m.path=#[]:=Array.toList_eq_nil_iff.1 hp
 generalize (("Less".splitOn ".").getLastD "Less")=nm
 simp [go_sem,hm,hp',hf,follow,receiverAt,Place.get,nilchk,h0,h1]
theorem m_swap (g:Nat) (w:World) (x y:Value) (h:w.heap[g]? = some (.cells #[x,y] 180 (0,0))):(method 381 175 (.pointer (some ⟨g,0,none⟩)) "Swap").run Tryz.prog w=.ok (232,.agg #[x,y]) w:=by
 have h0:w.cell? ⟨g,0,none⟩=some x:=by simp [World.cell?,h]
 have h1:w.cell? ⟨g,1,none⟩=some y:=by simp [World.cell?,h]
 have hmap:(Array.find? (fun x=>x.name == "Swap") Tryz.t175.methods).map (fun m=>(m.path.toList,m.func))=some ([],some (232,false)):=by kernel_rfl
 obtain ⟨m,hm,he⟩:=Option.map_eq_some_iff.1 hmap
 simp only [Prod.mk.injEq] at he
 obtain ⟨hp,hf⟩:=he
 unfold method
 have hp':m.path=#[]:=Array.toList_eq_nil_iff.1 hp
 generalize (("Swap".splitOn ".").getLastD "Swap")=nm
 simp [go_sem,hm,hp',hf,follow,receiverAt,Place.get,nilchk,h0,h1]
structure HeapObj (A:Prop) {α:Type} (d:α) (ah:α→α→Bool) (g:Nat) (HI:World→List α→Prop) (V:World→α→Value→Prop):Prop where
 obj:∀w l,HI w l→∃x y,w.heap[g]? = some (.cells #[x,y] 180 (0,0))
 less:∀w l x y (i j:Nat),HI w l→w.heap[g]? = some (.cells #[x,y] 180 (0,0))→i<l.length→j<l.length→Calls Tryz.prog 229 #[.agg #[x,y],.int .i64 (i:Int),.int .i64 (j:Int)] w fun e w'=>e=.returned (.bool (ah (HeapM.at' d l i) (HeapM.at' d l j)))∧HI w' l
 swap:∀w l x y (i j:Nat),HI w l→w.heap[g]? = some (.cells #[x,y] 180 (0,0))→i<l.length→j<l.length→Calls Tryz.prog 232 #[.agg #[x,y],.int .i64 (i:Int),.int .i64 (j:Int)] w fun e w'=>e=.returned (.tuple #[])∧HI w' (HeapM.swapL d l i j)
 len:∀w l x y,HI w l→w.heap[g]? = some (.cells #[x,y] 180 (0,0))→Calls Tryz.prog 143 #[.agg #[x,y]] w fun e w'=>e=.returned (.int .i64 (l.length:Int))∧HI w' l
 push:A→∀w l a v,HI w l→V w a v→l.length<1000000→Calls Tryz.prog 231 #[.pointer (some ⟨g,0,none⟩),v] w fun e w'=>e=.returned (.tuple #[])∧HI w' (l++[a])
 pop:∀w l,HI w l→0<l.length→Calls Tryz.prog 230 #[.pointer (some ⟨g,0,none⟩)] w fun e w'=>(∃v,e=.returned v∧V w' (HeapM.at' d l (l.length - 1)) v)∧HI w' (l.take (l.length - 1))
theorem m_len (g:Nat) (w:World) (x y:Value) (h:w.heap[g]? = some (.cells #[x,y] 180 (0,0))):(method 381 175 (.pointer (some ⟨g,0,none⟩)) "Len").run Tryz.prog w=.ok (143,.agg #[x,y]) w:=by
 have h0:w.cell? ⟨g,0,none⟩=some x:=by simp [World.cell?,h]
 have h1:w.cell? ⟨g,1,none⟩=some y:=by simp [World.cell?,h]
 have hmap:(Array.find? (fun x=>x.name == "Len") Tryz.t175.methods).map (fun m=>(m.path.toList,m.func))=some ([],some (143,false)):=by kernel_rfl
 obtain ⟨m,hm,he⟩:=Option.map_eq_some_iff.1 hmap
 simp only [Prod.mk.injEq] at he
 obtain ⟨hp,hf⟩:=he
 unfold method
 have hp':m.path=#[]:=Array.toList_eq_nil_iff.1 hp
 generalize (("Len".splitOn ".").getLastD "Len")=nm
 simp [go_sem,hm,hp',hf,follow,receiverAt,Place.get,nilchk,h0,h1]
theorem m_push (g:Nat) (w:World):(method 381 175 (.pointer (some ⟨g,0,none⟩)) "Push").run Tryz.prog w=.ok (231,.pointer (some ⟨g,0,none⟩)) w:=by kernel_rfl
theorem m_pop (g:Nat) (w:World):(method 381 175 (.pointer (some ⟨g,0,none⟩)) "Pop").run Tryz.prog w=.ok (230,.pointer (some ⟨g,0,none⟩)) w:=by kernel_rfl
theorem up_any {A:Prop} {α:Type} {d:α} {ah:α→α→Bool} {g:Nat} {HI:World→List α→Prop} {V:World→α→Value→Prop} (H:HeapObj A d ah g HI V) (l:List α) (j:Nat) (w:World) (h:HI w l) (hj:j<l.length) (hl:l.length≤1000000) :
  Calls Tryz.prog 205 #[.iface 175 (.pointer (some ⟨g,0,none⟩)),.int .i64 (j:Int)] w fun e w'=>e=.returned (.tuple #[])∧HI w' (upL d ah (j+1) l j):=by
 have HH:=hide H
 have H0:=hide h
 obtain ⟨R,hR⟩:∃R,upL d ah (j+1) l j=R:=⟨_,rfl⟩
 rw [hR]
 have HR:=hide hR
 obtain ⟨n,hn⟩:∃n,l.length=n:=⟨_,rfl⟩
 have HN:=hide hn
 rw [hn] at hj hl
 clear H h hR hn
 go_enter Tryz.func205,Tryz.ntmps205
 go_wp2
 go_loopw [1] (fun v wr=>∃(i:Nat) (l':List α),v=.int .i64 (i:Int)∧i<n∧Hid (l'.length=n)∧Hid (HI wr l')∧Hid (upL d ah (i+1) l' i=R)) (fun v _=>(intOf v).toNat)
 case atStart=>exact ⟨j,l,rfl,hj,HN,H0,HR⟩
 case round=>
  obtain ⟨i,l',rfl,hi,HL,HI',HR'⟩:=hrel
  by_cases h0:i=0
  ·subst h0
   go_wp2
   go_end0
   have hr:=uH HR'
   rw [upL,if_pos rfl] at hr
   exact ⟨rfl,hr ▸ uH HI'⟩
  ·obtain ⟨x,y,hb⟩:=(uH HH).obj _ _ (uH HI')
   have hm:=m_less g wr x y hb
   have hp:=HeapM.par_lt (k:=i) (by omega)
   have C1:=hide ((uH HH).less wr l' x y i (HeapM.par i) (uH HI') hb (by have:=uH HL;omega) (by have:=uH HL;omega))
   have hq:((i:Int) - 1) / 2=((HeapM.par i:Nat):Int):=by unfold HeapM.par;omega
   have hne:¬((HeapM.par i:Nat):Int)=(i:Int):=by omega
   obtain ⟨b,hbe⟩:∃b,ah (HeapM.at' d l' i) (HeapM.at' d l' (HeapM.par i))=b:=⟨_,rfl⟩
   rw [hbe] at C1
   have hr:=uH HR'
   rw [upL,if_neg h0,hbe] at hr
   have HR2:=hide hr
   clear hr hbe
   go_wp2_with fail
   refine (uH C1).mono ?_
   rintro e w2 ⟨rfl,hi2⟩
   have HI2:=hide hi2
   clear hi2 C1 hm hb
   cases b
   ·go_wp2
    go_end0
    exact ⟨rfl,(uH HR2) ▸ uH HI2⟩
   ·obtain ⟨x2,y2,hb2⟩:=(uH HH).obj _ _ (uH HI2)
    have hm2:=m_swap g w2 x2 y2 hb2
    have C2:=hide ((uH HH).swap w2 l' x2 y2 (HeapM.par i) i (uH HI2) hb2 (by have:=uH HL;omega) (by have:=uH HL;omega))
    have HR3:=hide (show upL d ah i (HeapM.swapL d l' (HeapM.par i) i) (HeapM.par i)=R from by have:=uH HR2;simpa using this)
    clear hb2 HR2
    go_wp2_with fail
    refine (uH C2).mono ?_
    rintro e w3 ⟨rfl,hi3⟩
    have HI3:=hide hi3
    clear hi3 C2 hm2
    go_wp2
    go_roundw
    case rel=>exact ⟨HeapM.par i,HeapM.swapL d l' (HeapM.par i) i,rfl,by omega,hide (by rw [HeapM.swap_len];exact uH HL),HI3,hide (by rw [upL_fuel d ah (HeapM.par i+1) i _ _ (by omega) (by omega)];exact uH HR3)⟩
    case measure=>simp [intOf];omega
theorem down_any {A:Prop} {α:Type} {d:α} {ah:α→α→Bool} {g:Nat} {HI:World→List α→Prop} {V:World→α→Value→Prop} (H:HeapObj A d ah g HI V) (l:List α) (n:Nat) (w:World) (h:HI w l) (hn:n≤l.length) (hl:l.length≤1000000) :
  Calls Tryz.prog 206 #[.iface 175 (.pointer (some ⟨g,0,none⟩)),.int .i64 0,.int .i64 (n:Int)] w fun e w'=>∃b,e=.returned (.bool b)∧HI w' (downL d ah n (n+1) l 0):=by
 have HH:=hide H
 have H0:=hide h
 obtain ⟨R,hR⟩:∃R,downL d ah n (n+1) l 0=R:=⟨_,rfl⟩
 rw [hR]
 have HR:=hide hR
 obtain ⟨N,hN⟩:∃N,l.length=N:=⟨_,rfl⟩
 have HN:=hide hN
 rw [hN] at hn hl
 clear H h hR hN
 go_enter Tryz.func206,Tryz.ntmps206
 go_wp2
 go_loopw [7] (fun v wr=>∃(i:Nat) (l':List α),v=.int .i64 (i:Int)∧i≤n∧Hid (l'.length=N)∧Hid (HI wr l')∧Hid (downL d ah n (n - i+1) l' i=R)) (fun v _=>n - (intOf v).toNat)
 case atStart=>exact ⟨0,l,rfl,by omega,HN,H0,HR⟩
 case round=>
  obtain ⟨i,l',rfl,hi,HL,HI',HR'⟩:=hrel
  have hr:=uH HR'
  rw [downL] at hr
  by_cases h0:n≤2*i+1
  ·rw [if_pos h0] at hr
   have HR2:=hide hr
   have h1:(n:Int)≤2*(i:Int)+1:=by omega
   clear hr
   go_wp2
   go_ret
   exact ⟨_,rfl,(uH HR2) ▸ uH HI'⟩
  ·rw [if_neg h0] at hr
   have HR2:=hide hr
   clear hr
   have hk:=kid_lt (d:=d) (ah:=ah) (l:=l') h0
   have h1:¬(n:Int)≤2*(i:Int)+1:=by omega
   have h1':decide ((n:Int)≤2*(i:Int)+1)=false:=by simp;omega
   have HREST:=hide (fun (wr:World) (hi2:HI wr l')=>hi2)
   by_cases h2:2*i+2<n
   ·obtain ⟨x,y,hb⟩:=(uH HH).obj _ _ (uH HI')
    have hm:=m_less g wr x y hb
    have C1:=hide ((uH HH).less wr l' x y (2*i+2) (2*i+1) (uH HI') hb (by have:=uH HL;omega) (by have:=uH HL;omega))
    have e1:((2*i+2:Nat):Int)=2*(i:Int)+1+1:=by omega
    have e2:((2*i+1:Nat):Int)=2*(i:Int)+1:=by omega
    rw [e1,e2] at C1
    have h3:2*(i:Int)+1+1<(n:Int):=by omega
    obtain ⟨b,hbe⟩:∃b,ah (HeapM.at' d l' (2*i+2)) (HeapM.at' d l' (2*i+1))=b:=⟨_,rfl⟩
    rw [hbe] at C1
    have HK:=hide (show kidL d ah n l' i=if b=true then 2*i+2 else 2*i+1 by unfold kidL;rw [hbe];simp [h2])
    clear hbe e1 e2
    go_wp2_with fail
    refine (uH C1).mono ?_
    rintro e w2 ⟨rfl,hi2⟩
    have HI2:=hide hi2
    clear hi2 C1 hm hb
    cases b
    ·have hk2:kidL d ah n l' i=2*i+1:=by have:=uH HK;simpa using this
     have hr:=uH HR2
     rw [hk2] at hr
     obtain ⟨x2,y2,hb2⟩:=(uH HH).obj _ _ (uH HI2)
     have hm2:=m_less g w2 x2 y2 hb2
     have C2:=hide ((uH HH).less w2 l' x2 y2 (2*i+1) i (uH HI2) hb2 (by have:=uH HL;omega) (by have:=uH HL;omega))
     have e3:((2*i+1:Nat):Int)=2*(i:Int)+1:=by omega
     rw [e3] at C2
     obtain ⟨c,hc⟩:∃c,ah (HeapM.at' d l' (2*i+1)) (HeapM.at' d l' i)=c:=⟨_,rfl⟩
     rw [hc] at C2 hr
     have HR3:=hide hr
     clear hr hc hb2 HR2
     go_wp2_with fail
     refine (uH C2).mono ?_
     rintro e w3 ⟨rfl,hi3⟩
     have HI3:=hide hi3
     clear hi3 C2 hm2
     cases c
     ·go_wp2
      go_ret
      exact ⟨_,rfl,(show l'=R by have:=uH HR3;simpa using this) ▸ uH HI3⟩
     ·obtain ⟨x4,y4,hb4⟩:=(uH HH).obj _ _ (uH HI3)
      have hm4:=m_swap g w3 x4 y4 hb4
      have C4:=hide ((uH HH).swap w3 l' x4 y4 i (2*i+1) (uH HI3) hb4 (by have:=uH HL;omega) (by have:=uH HL;omega))
      rw [e3] at C4
      have HR4:=hide (show downL d ah n (n - i) (HeapM.swapL d l' i (2*i+1)) (2*i+1)=R from by have:=uH HR3;simpa using this)
      clear hb4 HR3
      go_wp2_with fail
      refine (uH C4).mono ?_
      rintro e w4 ⟨rfl,hi4⟩
      have HI4:=hide hi4
      clear hi4 C4 hm4
      go_wp2
      go_roundw
      case rel=>exact ⟨2*i+1,HeapM.swapL d l' i (2*i+1),by rw [e3],by omega,hide (by rw [HeapM.swap_len];exact uH HL),HI4,hide (by rw [downL_fuel d ah n (n - (2*i+1)+1) (n - i) _ _ (by omega) (by omega)];exact uH HR4)⟩
      case measure=>simp [intOf];omega
    ·have hk2:kidL d ah n l' i=2*i+2:=by have:=uH HK;simpa using this
     have hr:=uH HR2
     rw [hk2] at hr
     obtain ⟨x2,y2,hb2⟩:=(uH HH).obj _ _ (uH HI2)
     have hm2:=m_less g w2 x2 y2 hb2
     have C2:=hide ((uH HH).less w2 l' x2 y2 (2*i+2) i (uH HI2) hb2 (by have:=uH HL;omega) (by have:=uH HL;omega))
     have e3:((2*i+2:Nat):Int)=2*(i:Int)+1+1:=by omega
     rw [e3] at C2
     obtain ⟨c,hc⟩:∃c,ah (HeapM.at' d l' (2*i+2)) (HeapM.at' d l' i)=c:=⟨_,rfl⟩
     rw [hc] at C2 hr
     have HR3:=hide hr
     clear hr hc hb2 HR2
     go_wp2_with fail
     refine (uH C2).mono ?_
     rintro e w3 ⟨rfl,hi3⟩
     have HI3:=hide hi3
     clear hi3 C2 hm2
     cases c
     ·go_wp2
      go_ret
      exact ⟨_,rfl,(show l'=R by have:=uH HR3;simpa using this) ▸ uH HI3⟩
     ·obtain ⟨x4,y4,hb4⟩:=(uH HH).obj _ _ (uH HI3)
      have hm4:=m_swap g w3 x4 y4 hb4
      have C4:=hide ((uH HH).swap w3 l' x4 y4 i (2*i+2) (uH HI3) hb4 (by have:=uH HL;omega) (by have:=uH HL;omega))
      rw [e3] at C4
      have HR4:=hide (show downL d ah n (n - i) (HeapM.swapL d l' i (2*i+2)) (2*i+2)=R from by have:=uH HR3;simpa using this)
      clear hb4 HR3
      go_wp2_with fail
      refine (uH C4).mono ?_
      rintro e w4 ⟨rfl,hi4⟩
      have HI4:=hide hi4
      clear hi4 C4 hm4
      go_wp2
      go_roundw
      case rel=>exact ⟨2*i+2,HeapM.swapL d l' i (2*i+2),by rw [e3],by omega,hide (by rw [HeapM.swap_len];exact uH HL),HI4,hide (by rw [downL_fuel d ah n (n - (2*i+2)+1) (n - i) _ _ (by omega) (by omega)];exact uH HR4)⟩
      case measure=>simp [intOf];omega
   ·have h3:¬2*(i:Int)+1+1<(n:Int):=by omega
    have hk2:kidL d ah n l' i=2*i+1:=by unfold kidL;rw [if_neg (by omega)]
    have hr:=uH HR2
    rw [hk2] at hr
    obtain ⟨x2,y2,hb2⟩:=(uH HH).obj _ _ (uH HI')
    have hm2:=m_less g wr x2 y2 hb2
    have C2:=hide ((uH HH).less wr l' x2 y2 (2*i+1) i (uH HI') hb2 (by have:=uH HL;omega) (by have:=uH HL;omega))
    have e3:((2*i+1:Nat):Int)=2*(i:Int)+1:=by omega
    rw [e3] at C2
    obtain ⟨c,hc⟩:∃c,ah (HeapM.at' d l' (2*i+1)) (HeapM.at' d l' i)=c:=⟨_,rfl⟩
    rw [hc] at C2 hr
    have HR3:=hide hr
    clear hr hc hb2 HR2
    go_wp2_with fail
    refine (uH C2).mono ?_
    rintro e w3 ⟨rfl,hi3⟩
    have HI3:=hide hi3
    clear hi3 C2 hm2
    cases c
    ·go_wp2
     go_ret
     exact ⟨_,rfl,(show l'=R by have:=uH HR3;simpa using this) ▸ uH HI3⟩
    ·obtain ⟨x4,y4,hb4⟩:=(uH HH).obj _ _ (uH HI3)
     have hm4:=m_swap g w3 x4 y4 hb4
     have C4:=hide ((uH HH).swap w3 l' x4 y4 i (2*i+1) (uH HI3) hb4 (by have:=uH HL;omega) (by have:=uH HL;omega))
     rw [e3] at C4
     have HR4:=hide (show downL d ah n (n - i) (HeapM.swapL d l' i (2*i+1)) (2*i+1)=R from by have:=uH HR3;simpa using this)
     clear hb4 HR3
     go_wp2_with fail
     refine (uH C4).mono ?_
     rintro e w4 ⟨rfl,hi4⟩
     have HI4:=hide hi4
     clear hi4 C4 hm4
     go_wp2
     go_roundw
     case rel=>exact ⟨2*i+1,HeapM.swapL d l' i (2*i+1),by rw [e3],by omega,hide (by rw [HeapM.swap_len];exact uH HL),HI4,hide (by rw [downL_fuel d ah n (n - (2*i+1)+1) (n - i) _ _ (by omega) (by omega)];exact uH HR4)⟩
     case measure=>simp [intOf];omega
theorem downL_len {α:Type} (d:α) (ah:α→α→Bool) (n:Nat):∀(f:Nat) (l:List α) (i:Nat),(downL d ah n f l i).length=l.length
 | 0,_,_=>rfl
 | f+1,l,i=>by
  rw [downL]
  split
  ·rfl
  ·split
   ·rw [downL_len d ah n f,HeapM.swap_len]
   ·rfl
theorem push_any {A:Prop} {α:Type} {d:α} {ah:α→α→Bool} {g:Nat} {HI:World→List α→Prop} {V:World→α→Value→Prop} (H:HeapObj A d ah g HI V) (hA:A) (l:List α) (a:α) (v:Value) (w:World) (h:HI w l) (hv:V w a v) (hl:l.length<1000000) :
  Calls Tryz.prog 184 #[.iface 175 (.pointer (some ⟨g,0,none⟩)),v] w fun e w'=>e=.returned (.tuple #[])∧HI w' (upL d ah (l.length+1) (l++[a]) l.length):=by
 have HH:=hide H
 have hm:=m_push g w
 have C1:=hide (H.push hA w l a v h hv hl)
 clear H h hv
 go_enter Tryz.func184,Tryz.ntmps184
 go_wp2_with fail
 refine (uH C1).mono ?_
 rintro e w2 ⟨rfl,hi2⟩
 obtain ⟨x,y,hb⟩:=(uH HH).obj _ _ hi2
 have hm2:=m_len g w2 x y hb
 have C2:=(uH HH).len w2 _ x y hi2 hb
 rw [List.length_append,List.length_singleton] at C2
 have HC2:=hide C2
 clear C2 C1 hm hb hi2
 go_wp2_with fail
 refine (uH HC2).mono ?_
 rintro e w3 ⟨rfl,hi3⟩
 have C3:=up_any (uH HH) (l++[a]) l.length w3 hi3 (by simp) (by simp;omega)
 have HC3:=hide C3
 have e1:(((l.length+1:Nat):Int) - 1)=(l.length:Int):=by omega
 clear C3 HC2 hm2 hi3
 go_wp2_with fail
 refine (uH HC3).mono ?_
 rintro e w4 ⟨rfl,hi4⟩
 have HI4:=hide hi4
 clear hi4
 go_wp2
 go_end0
 exact ⟨rfl,uH HI4⟩
theorem pop_any {A:Prop} {α:Type} {d:α} {ah:α→α→Bool} {g:Nat} {HI:World→List α→Prop} {V:World→α→Value→Prop} (H:HeapObj A d ah g HI V) (l:List α) (w:World) (h:HI w l) (h0:0<l.length) (hl:l.length≤1000000) :
  Calls Tryz.prog 185 #[.iface 175 (.pointer (some ⟨g,0,none⟩))] w fun e w'=>(∃v,e=.returned v∧V w' (HeapM.at' d (HeapM.popL d ah l) (l.length - 1)) v)∧HI w' ((HeapM.popL d ah l).take (l.length - 1)):=by
 have HH:=hide H
 obtain ⟨n,hn⟩:∃n,l.length=n+1:=⟨l.length - 1,by omega⟩
 have ep:l.length - 1=n:=by omega
 have en:(((n+1:Nat):Int) - 1)=(n:Int):=by omega
 obtain ⟨x,y,hb⟩:=H.obj _ _ h
 have hm:=m_len g w x y hb
 have C1:=H.len w _ x y h hb
 rw [hn] at C1
 have HC1:=hide C1
 have HP:=hide (show HeapM.popL d ah l=downL d ah n (n+1) (HeapM.swapL d l 0 n) 0 by unfold HeapM.popL;rw [ep])
 rw [ep]
 clear H h hb C1
 go_enter Tryz.func185,Tryz.ntmps185
 go_wp2_with fail
 refine (uH HC1).mono ?_
 rintro e w2 ⟨rfl,hi2⟩
 obtain ⟨x2,y2,hb2⟩:=(uH HH).obj _ _ hi2
 have hm2:=m_swap g w2 x2 y2 hb2
 have HC2:=hide ((uH HH).swap w2 l x2 y2 0 n hi2 hb2 (by omega) (by omega))
 clear HC1 hm hb2 hi2
 go_wp2_with fail
 refine (uH HC2).mono ?_
 rintro e w3 ⟨rfl,hi3⟩
 have HC3:=hide (down_any (uH HH) _ n w3 hi3 (by rw [HeapM.swap_len];omega) (by rw [HeapM.swap_len];omega))
 clear HC2 hm2 hi3
 go_wp2_with fail
 refine (uH HC3).mono ?_
 rintro e w4 ⟨b,rfl,hi4⟩
 rw [←uH HP] at hi4
 have e4:(HeapM.popL d ah l).length=n+1:=by rw [uH HP,downL_len,HeapM.swap_len,hn]
 have C4:=(uH HH).pop w4 _ hi4 (by omega)
 rw [e4] at C4
 have HC4:=hide C4
 have hm4:=m_pop g w4
 clear HC3 hi4 C4
 go_wp2_with fail
 refine (uH HC4).mono ?_
 rintro e w5 ⟨⟨v,rfl,hv⟩,hi5⟩
 have HI5:=hide hi5
 have HV:=hide hv
 clear hi5 hv
 go_wp2
 go_ret
 exact ⟨⟨_,rfl,uH HV⟩,uH HI5⟩
end
section
open Go.RowKit
def upsFrom:Nat→List Q→List UInt8→List Q
 | 0,_,_=>[]
 | n+1,l,nm=>if h:0≤place l nm∧(place l nm).toNat<l.length then l[(place l nm).toNat]::upsFrom n (l.take (place l nm).toNat) l[(place l nm).toNat].parent else []
def ups (l:List Q) (nm:List UInt8):List Q:=upsFrom (l.length+1) l nm
theorem upsFrom_more:∀(n m:Nat) (l:List Q) (nm:List UInt8),l.length<n→l.length<m→upsFrom n l nm=upsFrom m l nm
 | 0,_,_,_,h,_=>by omega
 | _+1,0,_,_,_,h=>by omega
 | n+1,m+1,l,nm,h1,h2=>by
  rw [upsFrom,upsFrom]
  split
  ·rename_i h
   rw [upsFrom_more n m _ _ (by simp;omega) (by simp;omega)]
  ·rfl
theorem ups_none {l:List Q} {nm:List UInt8} (h:place l nm<0):ups l nm=[]:=by
 rw [ups,upsFrom,dif_neg (by omega)]
theorem ups_step {l:List Q} {nm:List UInt8} {k:Nat} (hk:k<l.length) (h:place l nm=k):ups l nm=l[k]::ups (l.take k) l[k].parent:=by
 rw [ups,upsFrom]
 simp only [h,Int.toNat_natCast]
 rw [dif_pos (by simp;omega),ups,upsFrom_more l.length ((l.take k).length+1) _ _ (by simp;omega) (by simp)]
theorem ups_len:∀(n:Nat) (l:List Q) (nm:List UInt8),(upsFrom n l nm).length≤l.length
 | 0,l,nm=>by simp [upsFrom]
 | n+1,l,nm=>by
  rw [upsFrom]
  split
  ·rename_i h
   have:=ups_len n (l.take (place l nm).toNat) l[(place l nm).toNat].parent
   simp at this ⊢
   omega
  ·simp
theorem placeFrom_take (nm:List UInt8):∀(l:List Q) (k j:Nat),placeFrom nm (l.take j) k=if placeFrom nm l k<((k+j:Nat):Int) then placeFrom nm l k else -1
 | [],k,j=>by simp [placeFrom];omega
 | x::t,k,0=>by
  rw [List.take_zero,placeFrom]
  rcases placeFrom_range nm (x::t) k with h | h
  ·rw [h,if_pos (by omega)]
  ·rw [if_neg (by omega)]
 | x::t,k,j+1=>by
  rw [List.take_succ_cons,placeFrom,placeFrom]
  by_cases h:x.name=nm
  ·rw [if_pos h,if_pos h,if_pos (by omega)]
  ·rw [if_neg h,if_neg h,placeFrom_take nm t (k+1) j,show k+1+j=k+(j+1) by omega]
theorem place_take (l:List Q) (nm:List UInt8) (j:Nat):place (l.take j) nm=if place l nm<j then place l nm else -1:=by
 have:=placeFrom_take nm l 0 j
 rw [Nat.zero_add] at this
 exact this
def upAt (l:List Q):Nat→Int→List Q
 | 0,_=>[]
 | n+1,p=>if h:0≤p∧p.toNat<l.length then l[p.toNat]::upAt l n (place l l[p.toNat].parent) else []
theorem upAt_names (l:List Q):∀(n:Nat) (p:Int),(upAt l n p).map Q.name=pathAt l n p
 | 0,_=>rfl
 | n+1,p=>by
  rw [upAt,pathAt]
  split
  ·rw [List.map_cons,upAt_names l n]
  ·rfl
theorem upsFrom_upAt {l:List Q} (h:queuesOk l=true):∀(n j:Nat) (nm:List UInt8),place l nm<j→upsFrom n (l.take j) nm=upAt l n (place l nm)
 | 0,_,_,_=>rfl
 | n+1,j,nm,hj=>by
  have hp:place (l.take j) nm=place l nm:=by rw [place_take,if_pos hj]
  have hr:=place_range l nm
  rw [upsFrom,upAt]
  simp only [hp]
  by_cases h0:0≤place l nm
  ·rw [dif_pos ⟨h0,by simp;omega⟩,dif_pos ⟨h0,by omega⟩]
   rw [List.getElem_take,List.take_take,show min (place l nm).toNat j=(place l nm).toNat by omega]
   rw [upsFrom_upAt h n _ _ (parent_ahead h (by omega))]
  ·rw [dif_neg (by omega),dif_neg (by omega)]
theorem ups_up {l:List Q} (h:queuesOk l=true) (nm:List UInt8):ups l nm=upAt l (l.length+1) (place l nm):=by
 have hr:=place_range l nm
 have:=upsFrom_upAt h (l.length+1) l.length nm (by omega)
 rwa [List.take_length] at this
theorem ups_path {l:List Q} (h:queuesOk l=true) (nm:List UInt8):(ups l nm).map Q.name=path l nm:=by
 rw [ups_up h,upAt_names,path,h];rfl
def partS (t:Int×Int):List Int→Int×Int
 | []=>t
 | n::r=>(shareM (partS t r).1 (partS t r).2 n,shareC (partS t r).1 (partS t r).2 n)
def stepsOf (most:Bool) (u:List Q):List Int:=(u.takeWhile (fun q=>decide (q.parent≠[]))).map (fieldOf most)
theorem upAt_part {l:List Q} (h:queuesOk l=true) (most:Bool) (t:Int×Int):∀(n:Nat) (p:Int),p<n→partS t (stepsOf most (upAt l n p))=ofP l most t ((upAt l n p).map Q.name)
 | 0,_,_=>rfl
 | n+1,p,hn=>by
  rw [upAt]
  split
  ·rename_i hp
   have hq:=ok_at h p.toNat hp.2
   have ha:=parent_ahead h hp.2
   simp only [qOk,yK,yL] at hq
   have hb:byName l l[p.toNat].name=l[p.toNat]:=by rw [byName,hq.1.1.1.2,Int.toNat_natCast,List.getD_eq_getElem?_getD,List.getElem?_eq_getElem hp.2];rfl
   by_cases hz:l[p.toNat].parent=[]
   ·have hm:place l l[p.toNat].parent = -1:=by rw [hz];exact placeFrom_none (ok_named h)
    have hu:upAt l n (place l l[p.toNat].parent)=[]:=by
     rw [hm];cases n with
     | zero=>rfl
     | succ n=>rw [upAt,dif_neg (by omega)]
    rw [hu]
    simp [stepsOf,hz,partS,ofP]
   ·have hi:p.toNat≠0:=fun e=>by
     have:=hq.2
     rw [if_pos e] at this
     simp only [yK,yL] at this
     exact hz this.1
    have hpl:=hq.2
    rw [if_neg hi] at hpl
    simp only [inB,yL] at hpl
    have ih:=upAt_part h most t n (place l l[p.toNat].parent) (by omega)
    obtain ⟨r,hr⟩:∃r,upAt l n (place l l[p.toNat].parent)=r:=⟨_,rfl⟩
    have hne:r≠[]:=by
     rw [←hr];cases n with
     | zero=>omega
     | succ n=>rw [upAt,dif_pos ⟨hpl.1,by omega⟩];simp
    rw [hr] at ih ⊢
    cases r with
    | nil=>exact absurd rfl hne
    | cons y r=>
     rw [List.map_cons,List.map_cons,ofP,hb]
     rw [List.map_cons] at ih
     rw [←ih]
     simp only [stepsOf,List.takeWhile_cons (a:=l[p.toNat])]
     simp only [hz,ne_eq,not_false_eq_true,decide_true,if_true,List.map_cons,partS]
  ·simp [stepsOf,partS,ofP]
theorem ups_part {l:List Q} (h:queuesOk l=true) (nm:List UInt8) (a b:Int) (most:Bool) (hp:0≤place l nm) (hr:resOk a b=true):ofR l nm a b most=partS (a,b) (stepsOf most (ups l nm)):=by
 have hr':=place_range l nm
 have e:=ups_path h nm
 have hne:path l nm≠[]:=by
  rw [←e,ups_up h,upAt,dif_pos ⟨hp,by omega⟩];simp
 rw [ofR,if_neg (by simp [hne,hr]),←e,ups_up h,upAt_part h most (a,b) _ _ (by omega)]
theorem ofR_none1 {l:List Q} (h:queuesOk l=false) (nm:List UInt8) (a b:Int) (most:Bool):ofR l nm a b most=(0,0):=by rw [ofR,path,h];simp
theorem ofR_none2 {l:List Q} {nm:List UInt8} (h:place l nm<0) (a b:Int) (most:Bool):ofR l nm a b most=(0,0):=by
 have:path l nm=[]:=by rw [path];split;exact path_end h;rfl
 rw [ofR,this];simp
theorem ofR_none3 (l:List Q) (nm:List UInt8) {a b:Int} (h:resOk a b=false) (most:Bool):ofR l nm a b most=(0,0):=by rw [ofR,h];simp
end
end Go.Proofs.YtokabeokclpljaaGreat
