/-
  bI in one: Both, QSum, QueuesOkM, PathM, AddS, OfM, FitsM, Name, UpM1, UpM, SubI, SubS.
-/
import Derived.Test.YtdhibeclkdepiaaGreatPackA
set_option maxRecDepth 100000
set_option maxHeartbeats 16000000
set_option linter.unusedVariables false
set_option linter.unusedSimpArgs false
namespace Go.Proofs.YtdhibeclkdepiaaGreat
section
open Go.RowKit
theorem vN (a b c d s:Int) (w:World) (hs:s=1∨s = -1) :
  Calls Tryz.prog 158 #[rv a b,rv c d,.int .i64 s] w fun e w'=>e=.returned (.tuple #[jA s a b c d,.bool (aK s a b c d)])∧Below w.heap.size w w':=by
 cases h1:aR a b
 ·have hb:aK s a b c d=false:=by simp [aK,h1]
  rw [jS hb,hb]
  go_enter Tryz.func158,Tryz.ntmps158
  go_wp2_with (go_at_call 94;refine (aQ _ _ _).mono ?_;rintro e w' ⟨rfl,rfl⟩)
  refine bodyPost_ret (v:=.tuple #[rv 0 0,.bool false]) (by simp [results,Tryz.results158,go_sem]) rfl ⟨rfl,?_⟩
  repeat (first | exact Below.refl _ _ | refine yA ?_ _ | refine yC ?_ _ _ _ (by omega))
 ·cases h2:aR c d
  ·have hb:aK s a b c d=false:=by simp [aK,h2]
   rw [jS hb,hb]
   go_enter Tryz.func158,Tryz.ntmps158
   go_wp2_with (go_at_call 94;refine (aQ _ _ _).mono ?_;rintro e w' ⟨rfl,rfl⟩)
   refine bodyPost_ret (v:=.tuple #[rv 0 0,.bool false]) (by simp [results,Tryz.results158,go_sem]) rfl ⟨rfl,?_⟩
   repeat (first | exact Below.refl _ _ | refine yA ?_ _ | refine yC ?_ _ _ _ (by omega))
  ·obtain ⟨q1,q2,q3,q4⟩:=dH h1
   obtain ⟨q5,q6,q7,q8⟩:=dH h2
   have m1:IntKind.i64.wrap (s*c)=s*c:=by rw [IntKind.wrap_i64];rcases hs with rfl | rfl<;>omega
   have m2:IntKind.i64.wrap (s*d)=s*d:=by rw [IntKind.wrap_i64];rcases hs with rfl | rfl<;>omega
   have m3:IntKind.i64.wrap (a+s*c)=a+s*c:=by rw [IntKind.wrap_i64];rcases hs with rfl | rfl<;>omega
   have m4:IntKind.i64.wrap (b+s*d)=b+s*d:=by rw [IntKind.wrap_i64];rcases hs with rfl | rfl<;>omega
   cases h3:aR (a+s*c) (b+s*d)
   ·have hb:aK s a b c d=false:=by simp [aK,h3]
    rw [jS hb,hb]
    go_enter Tryz.func158,Tryz.ntmps158
    go_wp2_with (go_at_call 94;refine (aQ _ _ _).mono ?_;rintro e w' ⟨rfl,rfl⟩)
    refine bodyPost_ret (v:=.tuple #[rv 0 0,.bool false]) (by simp [results,Tryz.results158,go_sem]) rfl ⟨rfl,?_⟩
    repeat (first | exact Below.refl _ _ | refine yA ?_ _ | refine yC ?_ _ _ _ (by omega))
   ·have hb:aK s a b c d=true:=by simp [aK,h1,h2,h3]
    rw [kC hb,hb]
    go_enter Tryz.func158,Tryz.ntmps158
    go_wp2_with (go_at_call 94;refine (aQ _ _ _).mono ?_;rintro e w' ⟨rfl,rfl⟩)
    refine bodyPost_ret (v:=.tuple #[rv (a+s*c) (b+s*d),.bool true]) (by simp [results,Tryz.results158,go_sem]) rfl ⟨rfl,?_⟩
    repeat (first | exact Below.refl _ _ | refine yA ?_ _ | refine yC ?_ _ _ _ (by omega))
def bR (nm:List UInt8):List Q→Int
 | []=>0
 | q::t=>(if q.parent=nm then q.due else 0)+bR nm t
def fO (l:List Q) (nm:List UInt8):Int:=bR nm (l.drop 1)
theorem wF {nm:List UInt8} {l:List Q} {k:Nat} (h:k<l.length):bR nm (l.drop k)=(if l[k].parent=nm then l[k].due else 0)+bR nm (l.drop (k+1)):=by
 rw [List.drop_eq_getElem_cons h,bR]
theorem zR {nm:List UInt8} {l:List Q} {k:Nat} (h:l.length≤k):bR nm (l.drop k)=0:=by
 rw [List.drop_of_length_le h];rfl
theorem aFI (ao:Option Addr) (len cap:Nat) (l:List Q) (nm:List UInt8) (w:World) (h:gM w ao len l) (hl:len≤1048576) (hd:∀q ∈ l,0≤q.due∧q.due≤10000) :
  Calls Tryz.prog 89 #[.slice ao len cap,.string (bs nm)] w fun e w'=>e=.returned (.int .i64 (fO l nm))∧w=w':=by
 have HR:=aA h
 have HL:=aA h.1
 have HD:=aA hd
 clear h hd
 go_enter Tryz.func89,Tryz.ntmps89
 go_wp2
 go_loopw [5,6] (fun s i wr=>∃(k:Nat) (a:Int),1≤k∧k≤len+1∧i=.int .i64 k∧s=.int .i64 a∧0≤a∧a≤10000*k∧Hid (fO l nm=a+bR nm (l.drop k))∧wr=w) (fun _ i _=>len+1 - (intOf i).toNat)
 case atStart=>exact ⟨1,0,by omega,by omega,rfl,rfl,by omega,by omega,aA (by simp [fO]),rfl⟩
 case round=>
  obtain ⟨k,a,hk1,hk,rfl,rfl,ha0,ha1,hp,rfl⟩:=hrel
  by_cases hlt:k<len
  ·obtain ⟨b,off,rfl,hq⟩:=(uH HR).at hlt
   have hkl:k<l.length:=by have:=uH HL;omega
   have hst:=aA (wF (nm:=nm) (l:=l) (k:=k) hkl)
   have hq1:=(hq hkl).2.1
   have hq2:=(hq hkl).2.2.1
   obtain ⟨d0,d1⟩:=uH HD l[k] (List.getElem_mem _)
   clear hq
   obtain ⟨s,hs⟩:∃s,l[k].parent=s:=⟨_,rfl⟩
   obtain ⟨d,hdd⟩:∃d,l[k].due=d:=⟨_,rfl⟩
   rw [hs] at hq1 hst
   rw [hdd] at hq2 hst d0 d1
   have hbe:=mV s nm
   clear hs hdd hkl
   by_cases he:s=nm
   ·have HE:=aA he
    rw [decide_eq_true he] at hbe
    clear he
    go_wp2
    go_roundw
    case rel=>exact ⟨k+1,a+d,by omega,by omega,by go_num,by go_num,by omega,by omega,aA (by rw [uH hp,uH hst,if_pos (uH HE)];omega),trivial⟩
    case measure=>simp [intOf];omega
   ·have HE:=aA he
    rw [decide_eq_false he] at hbe
    clear he
    go_wp2
    go_roundw
    case rel=>exact ⟨k+1,a,by omega,by omega,by go_num,rfl,by omega,by omega,aA (by rw [uH hp,uH hst,if_neg (uH HE)];omega),trivial⟩
    case measure=>simp [intOf];omega
  ·go_wp2
   go_ret
   exact ⟨bQ (by rw [uH hp,zR (by have:=uH HL;omega)];omega),rfl⟩
def qOk (l:List Q) (k:Nat) (q:Q):Bool:=
 bC q.name&&decide (place l q.name=k)&&inB q.most 0 10000&&inB q.due 0 q.most
  && (if k=0 then decide (q.parent=[])&&decide (q.due=10000) else inB (place l q.parent) 0 ((k:Int) - 1))
def fF (l:List Q):List Q→Nat→Bool
 | [],_=>true
 | q::t,k=>qOk l k q&&fF l t (k+1)
def iQ (l:List Q):List Q→Bool
 | []=>true
 | q::t=>decide (fO l q.name≤10000)&&iQ l t
def aG (l:List Q):Bool:=fF l l 0&&iQ l l&&inB l.length 1 20
theorem aCu {l:List Q} {k:Nat} (h:k<l.length):fF l (l.drop k) k=(qOk l k l[k]&&fF l (l.drop (k+1)) (k+1)):=by
 rw [List.drop_eq_getElem_cons h,fF]
theorem aEt {l:List Q} {k:Nat} (h:l.length≤k):fF l (l.drop k) k=true:=by
 rw [List.drop_of_length_le h];rfl
theorem aCe {l:List Q} {k:Nat} (h:k<l.length):iQ l (l.drop k)=(decide (fO l l[k].name≤10000)&&iQ l (l.drop (k+1))):=by
 rw [List.drop_eq_getElem_cons h,iQ]
theorem aE6 {l:List Q} {k:Nat} (h:l.length≤k):iQ l (l.drop k)=true:=by
 rw [List.drop_of_length_le h];rfl
theorem y9 {l:List Q}:∀(m:List Q) (k:Nat),fF l m k=true→∀q ∈ m,0≤q.due∧q.due≤10000
 | [],_,_,q,h=>by simp at h
 | x::t,k,h,q,hq=>by
  rw [fF,Bool.and_eq_true] at h
  rcases List.mem_cons.1 hq with rfl | hq
  ·have:=h.1
   simp only [qOk,inB,Bool.and_eq_true,decide_eq_true_eq] at this
   omega
  ·exact y9 t (k+1) h.2 q hq
theorem uY {l:List Q} (h:fF l l 0=false):aG l=false:=by simp [aG,h]
theorem aJm {l:List Q} (h:iQ l l=false):aG l=false:=by simp [aG,h]
theorem aJl {l:List Q} (h1:fF l l 0=true) (h2:iQ l l=true):aG l=inB l.length 1 20:=by simp [aG,h1,h2]
theorem jJ (nm:List UInt8):∀(l:List Q) (k:Nat),aP nm l k = -1∨((k:Int)≤aP nm l k∧aP nm l k<k+l.length)
 | [],_=>.inl rfl
 | q::t,k=>by
  rw [aP]
  split
  ·right;simp;omega
  ·rcases jJ nm t (k+1) with h | h
   ·exact .inl h
   ·right;simp;omega
theorem dS (l:List Q) (nm:List UInt8):place l nm = -1∨(0≤place l nm∧place l nm<l.length):=by
 rcases jJ nm l 0 with h | h
 ·exact .inl h
 ·right;unfold place;simp at h;omega
theorem iE {nm:List UInt8}:∀{l:List Q} {k:Nat},(∀q ∈ l,q.name≠nm)→aP nm l k = -1
 | [],_,_=>rfl
 | q::t,k,h=>by
  rw [aP,if_neg (h q (by simp))]
  exact iE (fun x hx=>h x (by simp [hx]))
theorem vB {l:List Q}:∀(m:List Q) (k:Nat),fF l m k=true→∀i (h:i<m.length),qOk l (k+i) m[i]=true
 | [],_,_,i,h=>by simp at h
 | x::t,k,ho,i,h=>by
  rw [fF,Bool.and_eq_true] at ho
  cases i with
  | zero=>simpa using ho.1
  | succ j=>
   have:=vB t (k+1) ho.2 j (by simpa using h)
   rw [show k+1+j=k+(j+1) by omega] at this
   simpa using this
theorem aHu {l:List Q} (h:aG l=true) (i:Nat) (hi:i<l.length):qOk l i l[i]=true:=by
 have h1:fF l l 0=true:=by simp only [aG,Bool.and_eq_true] at h;exact h.1.1
 have:=vB l 0 h1 i hi
 simpa using this
theorem aDs {l:List Q} (h:aG l=true):∀q ∈ l,q.name≠[]:=fun q hq e=>by
 obtain ⟨i,hi,rfl⟩:=List.mem_iff_getElem.1 hq
 have:=aHu h i hi
 simp [qOk,bC,e,inB] at this
theorem iF {l:List Q} (h:aG l=true) {i:Nat} (hi:i<l.length):place l l[i].parent<i:=by
 have h1:=aHu h i hi
 simp only [qOk,Bool.and_eq_true] at h1
 have h2:=h1.2
 by_cases h0:i=0
 ·rw [if_pos h0] at h2
  simp only [Bool.and_eq_true,decide_eq_true_eq] at h2
  rw [h2.1]
  have:place l [] = -1:=iE (aDs h)
  omega
 ·rw [if_neg h0] at h2
  simp only [inB,decide_eq_true_eq] at h2
  omega
def dQ (l:List Q):Nat→Int→List (List UInt8)
 | 0,_=>[]
 | n+1,p=>if h:0≤p∧p.toNat<l.length then l[p.toNat].name::dQ l n (place l l[p.toNat].parent) else []
def path (l:List Q) (nm:List UInt8):List (List UInt8):=if aG l then dQ l (l.length+1) (place l nm) else []
theorem uV {l:List Q} (h:aG l=true):∀(n m:Nat) (p:Int),p<n→p<m→dQ l n p=dQ l m p
 | 0,0,_,_,_=>rfl
 | 0,m+1,p,h1,h2=>by rw [dQ,dQ,dif_neg (by omega)]
 | n+1,0,p,h1,h2=>by rw [dQ,dQ,dif_neg (by omega)]
 | n+1,m+1,p,h1,h2=>by
  rw [dQ,dQ]
  split
  ·rename_i hp
   have:=iF h hp.2
   rw [uV h n m _ (by omega) (by omega)]
  ·rfl
theorem aGO {l:List Q} (h:aG l=true) {k n:Nat} (hk:k<l.length) (hn:k<n):dQ l n k=l[k].name::dQ l n (place l l[k].parent):=by
 cases n with
 | zero=>omega
 | succ n=>
  have hp:=iF h hk
  rw [dQ,dif_pos (by simp;exact hk)]
  simp only [Int.toNat_natCast]
  rw [uV h n (n+1) _ (by omega) (by omega)]
theorem aDn {l:List Q} {n:Nat} {p:Int} (hp:p<0):dQ l n p=[]:=by
 cases n with
 | zero=>rfl
 | succ n=>rw [dQ,dif_neg (by omega)]
theorem uN (a b c d:Int) (w:World) :
  Calls Tryz.prog 129 #[rv a b,rv c d] w fun e w'=>e=.returned (.tuple #[jA 1 a b c d,.bool (aK 1 a b c d)])∧Below w.heap.size w w':=by
 have hv:∃x y,jA 1 a b c d=rv x y:=by unfold jA;split<;>exact ⟨_,_,rfl⟩
 obtain ⟨x,y,hv⟩:=hv
 have hc:=vN a b c d 1 ((w.alloc (.cells #[.int .i64 a,.int .i64 b] 36)).alloc (.cells #[.int .i64 c,.int .i64 d] 36) |>.alloc (.cells #[.int .i64 0,.int .i64 0] 36)) (by decide)
 rw [hv] at hc ⊢
 go_enter Tryz.func129,Tryz.ntmps129
 go_wp2_with fail
 refine hc.mono ?_
 rintro e w1 ⟨rfl,hb⟩
 have hk:Var w1 36 (w.heap.size+1+1) 0 0:=Var.below (by simpa using aJ ((w.alloc (.cells #[.int .i64 a,.int .i64 b] 36)).alloc (.cells #[.int .i64 c,.int .i64 d] 36)) 36 0 0) hb
 have k0:=hk.c0
 have k1:=hk.c1
 have k2:=hk.f 0
 have k3:=hk.f 1
 have k4:=hk.s0 (.int .i64 x)
 have k5:=hk.s1 (.int .i64 x) (.int .i64 y)
 have HB:=aA (yB (yA (yA (yA (Below.refl _ _) _) _) _) hb)
 clear hb hc hk
 go_wp2
 refine bodyPost_ret (v:=.tuple #[rv x y,.bool (aK 1 a b c d)]) (by simp [results,Tryz.results129,go_sem,k4,k5]) rfl ⟨rfl,?_⟩
 repeat (first | exact uH HB | refine yA ?_ _ | refine yC ?_ _ _ _ (by omega))
def cK (most:Bool) (q:Q):Int:=if most then q.most else q.due
def sQ (l:List Q) (n:List UInt8):Q:=l.getD (place l n).toNat ⟨[],[],0,0⟩
def ofP (l:List Q) (most:Bool) (t:Int×Int):List (List UInt8)→Int×Int
 | []=>t
 | [_]=>t
 | n::m::r=>(dO (ofP l most t (m::r)).1 (ofP l most t (m::r)).2 (cK most (sQ l n)),dP (ofP l most t (m::r)).1 (ofP l most t (m::r)).2 (cK most (sQ l n)))
def ofR (l:List Q) (nm:List UInt8) (a b:Int) (most:Bool):Int×Int:=if path l nm=[]∨aR a b=false then (0,0) else ofP l most (a,b) (path l nm)
theorem aHx (l:List Q) (most:Bool) (t:Int×Int) {p:List (List UInt8)} (h:p≠[]):ofP l most t (p.drop (p.length - 1))=t:=by
 have hl:0<p.length:=List.length_pos_iff.2 h
 rw [List.drop_eq_getElem_cons (by omega),show p.length - 1+1=p.length by omega,List.drop_length]
 rfl
theorem aHw (l:List Q) (most:Bool) (t:Int×Int) {p:List (List UInt8)} {j:Nat} (h:j+1<p.length) :
  ofP l most t (p.drop j)=(dO (ofP l most t (p.drop (j+1))).1 (ofP l most t (p.drop (j+1))).2 (cK most (sQ l p[j])),dP (ofP l most t (p.drop (j+1))).1 (ofP l most t (p.drop (j+1))).2 (cK most (sQ l p[j]))):=by
 rw [List.drop_eq_getElem_cons (show j<p.length by omega),List.drop_eq_getElem_cons h,ofP]
theorem rX {l:List Q} (h:aG l=true):∀(n:Nat) (p:Int),∀x ∈ dQ l n p,∃k:Nat,∃hk:k<l.length,place l x=k∧l[k].name=x
 | 0,_,x,hx=>by simp [dQ] at hx
 | n+1,p,x,hx=>by
  rw [dQ] at hx
  split at hx
  ·rename_i hp
   rcases List.mem_cons.1 hx with rfl | hx
   ·refine ⟨p.toNat,hp.2,?_,rfl⟩
    have:=aHu h p.toNat hp.2
    simp only [qOk,Bool.and_eq_true,decide_eq_true_eq] at this
    exact this.1.1.1.2
   ·exact rX h n _ x hx
  ·simp at hx
theorem aEk {l:List Q} {nm:List UInt8}:∀x ∈ path l nm,∃k:Nat,∃hk:k<l.length,place l x=k∧sQ l x=l[k]:=fun x hx=>by
 unfold path at hx
 split at hx
 ·rename_i h
  obtain ⟨k,hk,h1,h2⟩:=rX h _ _ x hx
  exact ⟨k,hk,h1,by rw [sQ,h1];simp [List.getD_eq_getElem?_getD,List.getElem?_eq_getElem hk]⟩
 ·simp at hx
theorem yX {l:List Q}:∀(n:Nat) (p:Int),(dQ l n p).length≤n
 | 0,_=>by simp [dQ]
 | n+1,p=>by
  rw [dQ]
  split
  ·have:=yX (l:=l) n (place l l[p.toNat].parent);simp;exact this
  ·simp
theorem aAT (l:List Q) (nm:List UInt8):(path l nm).length≤l.length+1:=by
 unfold path;split
 ·exact yX _ _
 ·simp
/-- a tree of queues, or nothing, is one with this one behind it -/
def aDT (l : List Q) (q : Q) : Bool :=
  decide (l.length < 20) && bC q.name && decide (place l q.name < 0) && decide (0 ≤ q.due ∧ q.due ≤ q.most ∧ q.most ≤ 10000)
    && (if l.length = 0 then decide (q.parent = [] ∧ q.due = 10000 ∧ q.most = 10000) else decide (0 ≤ place l q.parent ∧ bR q.parent l + q.due ≤ 10000))
/-- a tree of queues, or nothing -/
def okT (l : List Q) : Bool := fF l l 0 && iQ l l && decide (l.length ≤ 20)
theorem nT (nm : List UInt8) (q : Q) : ∀ (l : List Q) (k : Nat), aP nm (l ++ [q]) k = if aP nm l k < 0 then (if q.name = nm then ((k + l.length : Nat) : Int) else -1) else aP nm l k
  | [], k => by simp [aP]
  | x :: t, k => by
    rw [List.cons_append, aP, aP]
    by_cases h : x.name = nm
    · rw [if_pos h, if_pos h, if_neg (by omega)]
    · rw [if_neg h, if_neg h, nT nm q t (k + 1)]
      simp only [List.length_cons, show k + 1 + t.length = k + (t.length + 1) by omega]
theorem nC (l : List Q) (q : Q) (nm : List UInt8) : place (l ++ [q]) nm = if place l nm < 0 then (if q.name = nm then (l.length : Int) else -1) else place l nm := by
  unfold place
  rw [nT, Nat.zero_add]
theorem pE {nm : List UInt8} : ∀ {l : List Q} {k : Nat}, (∃ q ∈ l, q.name = nm) → 0 ≤ aP nm l k
  | [], _, h => by obtain ⟨q, hq, _⟩ := h; simp at hq
  | x :: t, k, h => by
    rw [aP]
    by_cases e : x.name = nm
    · rw [if_pos e]; omega
    · rw [if_neg e]
      obtain ⟨q, hq, hn⟩ := h
      rcases List.mem_cons.1 hq with rfl | hq
      · exact absurd hn e
      · exact pE ⟨q, hq, hn⟩
theorem aBN {l : List Q} {nm : List UInt8} (h : ∃ q ∈ l, q.name = nm) : 0 ≤ place l nm := pE h
theorem aBO {l : List Q} {nm : List UInt8} (h : 0 ≤ place l nm) : ∃ q ∈ l, q.name = nm := by
  refine Classical.byContradiction fun hc => ?_
  have : place l nm = -1 := iE (fun q hq e => hc ⟨q, hq, e⟩)
  omega
theorem aGN {l : List Q} {nm : List UInt8} (h : place l nm < 0) : ∀ q ∈ l, q.name ≠ nm := fun q hq e => by
  have := aBN (l := l) (nm := nm) ⟨q, hq, e⟩
  omega
theorem p9 (nm : List UInt8) (q : Q) : ∀ l : List Q, bR nm (l ++ [q]) = bR nm l + (if q.parent = nm then q.due else 0)
  | [] => by simp [bR]
  | x :: t => by rw [List.cons_append, bR, bR, p9 nm q t]; omega
theorem sH (l : List Q) (q : Q) (nm : List UInt8) (h : 0 < l.length) : fO (l ++ [q]) nm = fO l nm + (if q.parent = nm then q.due else 0) := by
  cases l with
  | nil => simp at h
  | cons x t => exact p9 nm q t
theorem wE {nm : List UInt8} : ∀ {l : List Q}, (∀ q ∈ l, q.parent ≠ nm) → bR nm l = 0
  | [], _ => rfl
  | x :: t, h => by rw [bR, if_neg (h x (by simp)), wE (fun q hq => h q (by simp [hq]))]; omega
theorem y8 {l : List Q} : ∀ (m : List Q) (k : Nat), fF l m k = true ↔ ∀ i (h : i < m.length), qOk l (k + i) m[i] = true
  | [], k => by simp [fF]
  | x :: t, k => by
    constructor
    · exact vB (x :: t) k
    · intro h
      rw [fF, Bool.and_eq_true]
      refine ⟨by have := h 0 (by simp); rw [Nat.add_zero] at this; exact this, (y8 t (k + 1)).2 fun i hi => ?_⟩
      have := h (i + 1) (by simpa using hi)
      rw [show k + 1 + i = k + (i + 1) by omega]
      simpa using this
theorem xZ {l : List Q} : ∀ (m : List Q), iQ l m = true ↔ ∀ q ∈ m, fO l q.name ≤ 10000
  | [] => by simp [iQ]
  | x :: t => by rw [iQ, Bool.and_eq_true, xZ t]; simp
theorem qQ {l : List Q} : okT l = true ↔ (∀ i (h : i < l.length), qOk l i l[i] = true) ∧ (∀ q ∈ l, fO l q.name ≤ 10000) ∧ l.length ≤ 20 := by
  rw [okT, Bool.and_eq_true, Bool.and_eq_true, y8 l 0, xZ l, and_assoc]
  simp
theorem jV (l : List Q) : aG l = (okT l && decide (0 < l.length)) := by
  rw [aG, okT]
  cases fF l l 0 <;> cases iQ l l <;> simp [inB]
  rw [Bool.eq_iff_iff]; simp; omega
theorem aDl {l : List Q} {q : Q} {i : Nat} (hi : i < l.length) : qOk (l ++ [q]) i l[i] = qOk l i l[i] := by
  have h1 : 0 ≤ place l l[i].name := aBN ⟨l[i], List.getElem_mem _, rfl⟩
  have h2 : place (l ++ [q]) l[i].name = place l l[i].name := by rw [nC, if_neg (by omega)]
  have h3 : inB (place (l ++ [q]) l[i].parent) 0 ((i : Int) - 1) = inB (place l l[i].parent) 0 ((i : Int) - 1) := by
    rw [nC]
    by_cases h : place l l[i].parent < 0
    · rw [if_pos h]
      simp only [inB]
      rw [decide_eq_false (p := 0 ≤ place l l[i].parent ∧ _) (by omega)]
      refine decide_eq_false ?_
      split <;> omega
    · rw [if_neg h]
  simp only [qOk, h2, h3]
theorem aDM {l : List Q} (h : ∀ i (h : i < l.length), qOk l i l[i] = true) : ∀ q ∈ l, bC q.name = true ∧ 0 ≤ q.due ∧ q.due ≤ 10000 ∧ (q.parent = [] ∨ ∃ x ∈ l, x.name = q.parent) := fun q hq => by
  obtain ⟨i, hi, rfl⟩ := List.mem_iff_getElem.1 hq
  have := h i hi
  simp only [qOk, Bool.and_eq_true, decide_eq_true_eq, inB] at this
  obtain ⟨⟨⟨⟨a1, a2⟩, a3⟩, a4⟩, a5⟩ := this
  refine ⟨a1, a4.1, by omega, ?_⟩
  by_cases e : i = 0
  · rw [if_pos e] at a5
    simp only [Bool.and_eq_true, decide_eq_true_eq] at a5
    exact .inl a5.1
  · rw [if_neg e] at a5
    simp only [decide_eq_true_eq] at a5
    exact .inr (aBO a5.1)
theorem aBZ {n : List UInt8} (h : bC n = true) : n ≠ [] := fun e => by simp [bC, e, inB] at h
theorem aHv (l : List Q) (q : Q) : okT (l ++ [q]) = (okT l && aDT l q) := by
  rw [Bool.eq_iff_iff, Bool.and_eq_true, qQ, qQ]
  have hA : (∀ i (h : i < (l ++ [q]).length), qOk (l ++ [q]) i (l ++ [q])[i] = true) ↔ (∀ i (h : i < l.length), qOk l i l[i] = true) ∧ qOk (l ++ [q]) l.length q = true := by
    constructor
    · intro h
      refine ⟨fun i hi => ?_, ?_⟩
      · have := h i (by simp; omega)
        rw [List.getElem_append_left hi, aDl hi] at this
        exact this
      · have := h l.length (by simp)
        simpa using this
    · rintro ⟨h1, h2⟩ i hi
      by_cases e : i < l.length
      · rw [List.getElem_append_left e, aDl e]; exact h1 i e
      · have : i = l.length := by simp at hi; omega
        subst this
        simpa using h2
  rw [hA]
  have hP : qOk (l ++ [q]) l.length q = true ↔ bC q.name = true ∧ place l q.name < 0 ∧ (0 ≤ q.due ∧ q.due ≤ q.most ∧ q.most ≤ 10000) ∧ (if l.length = 0 then q.parent = [] ∧ q.due = 10000 else 0 ≤ place l q.parent) := by
    simp only [qOk, Bool.and_eq_true, decide_eq_true_eq, inB]
    have e1 : place (l ++ [q]) q.name = (l.length : Int) ↔ place l q.name < 0 := by
      rw [nC]
      have := dS l q.name
      by_cases h : place l q.name < 0
      · simp [h]
      · rw [if_neg h]; constructor <;> intro _ <;> omega
    rw [e1]
    by_cases h0 : l.length = 0
    · rw [if_pos h0, if_pos h0]
      simp only [Bool.and_eq_true, decide_eq_true_eq]
      constructor
      · rintro ⟨⟨⟨⟨a, b⟩, c⟩, d⟩, e⟩; exact ⟨a, b, by omega, e⟩
      · rintro ⟨a, b, c, e⟩; exact ⟨⟨⟨⟨a, b⟩, by omega⟩, by omega⟩, e⟩
    · rw [if_neg h0, if_neg h0]
      simp only [decide_eq_true_eq]
      have e2 : (0 ≤ place (l ++ [q]) q.parent ∧ place (l ++ [q]) q.parent ≤ (l.length : Int) - 1) ↔ 0 ≤ place l q.parent := by
        rw [nC]
        have := dS l q.parent
        by_cases h : place l q.parent < 0
        · rw [if_pos h]; constructor
          · intro h'; split at h' <;> omega
          · intro h'; omega
        · rw [if_neg h]; constructor <;> intro _ <;> omega
      rw [e2]
      constructor
      · rintro ⟨⟨⟨⟨a, b⟩, c⟩, d⟩, e⟩; exact ⟨a, b, by omega, e⟩
      · rintro ⟨a, b, c, e⟩; exact ⟨⟨⟨⟨a, b⟩, by omega⟩, by omega⟩, e⟩
  have hF : aDT l q = true ↔ l.length < 20 ∧ bC q.name = true ∧ place l q.name < 0 ∧ (0 ≤ q.due ∧ q.due ≤ q.most ∧ q.most ≤ 10000) ∧ (if l.length = 0 then q.parent = [] ∧ q.due = 10000 ∧ q.most = 10000 else 0 ≤ place l q.parent ∧ bR q.parent l + q.due ≤ 10000) := by
    by_cases h0 : l.length = 0 <;> simp only [aDT, h0, if_true, if_false, Bool.and_eq_true, decide_eq_true_eq, and_assoc]
  rw [hP, hF]
  by_cases h0 : l.length = 0
  · have hl : l = [] := List.eq_nil_of_length_eq_zero h0
    subst hl
    simp only [List.length_nil, if_true, List.nil_append, List.length_cons, List.mem_singleton, forall_eq]
    have hk : fO [q] q.name = 0 := rfl
    rw [hk]
    constructor
    · rintro ⟨⟨_, a, b, c, d, e⟩, _⟩
      exact ⟨⟨fun i hi => by simp at hi, fun x hx => by simp at hx, by omega⟩, by omega, a, b, c, d, e, by omega⟩
    · rintro ⟨_, _, a, b, c, d, e, f⟩
      exact ⟨⟨fun i hi => by simp at hi, a, b, c, d, e⟩, by omega, by omega⟩
  · rw [if_neg h0, if_neg h0]
    have hlp : 0 < l.length := by omega
    constructor
    · rintro ⟨⟨h1, a, b, c, d⟩, h2, h3⟩
      have hk := aDM h1
      have h4 : ∀ x ∈ l, fO l x.name + (if q.parent = x.name then q.due else 0) ≤ 10000 := fun x hx => by
        have := h2 x (by simp [hx])
        rwa [sH l q x.name hlp] at this
      refine ⟨⟨h1, fun x hx => ?_, by simp at h3; omega⟩, by simp at h3; omega, a, b, c, d, ?_⟩
      · have := h4 x hx
        split at this <;> omega
      · obtain ⟨x, hx, hn⟩ := aBO d
        have := h4 x hx
        rw [hn, if_pos rfl] at this
        have hd : bR q.parent l = fO l q.parent := by
          cases l with
          | nil => simp at hlp
          | cons y t =>
            show bR q.parent (y :: t) = bR q.parent t
            rw [bR, if_neg, Int.zero_add]
            intro e
            have hy := h1 0 (by simp)
            simp only [qOk, List.getElem_cons_zero, if_true, Bool.and_eq_true, decide_eq_true_eq] at hy
            exact aBZ (hk x hx).1 (by rw [hn, ← e, hy.2.1])
        omega
    · rintro ⟨⟨h1, h2, h3⟩, h4, a, b, c, d, e⟩
      have hk := aDM h1
      have hd : fO l q.parent ≤ bR q.parent l := by
        cases l with
        | nil => simp at hlp
        | cons y t =>
          show bR q.parent t ≤ bR q.parent (y :: t)
          rw [bR]
          have := (hk y (by simp)).2.1
          split <;> omega
      refine ⟨⟨h1, a, b, c, d⟩, fun x hx => ?_, by simp; omega⟩
      rw [sH l q x.name hlp]
      rcases List.mem_append.1 hx with hx | hx
      · have := h2 x hx
        split
        · rename_i hq
          rw [hq] at hd e
          omega
        · omega
      · have : x = q := by simpa using hx
        subst this
        have hz : fO l x.name = 0 := by
          cases l with
          | nil => simp at hlp
          | cons y t =>
            refine wE (l := t) fun z hz hp => ?_
            rcases (hk z (by simp [hz])).2.2.2 with hn | ⟨u, hu, hn⟩
            · exact aBZ a (by rw [← hp, hn])
            · exact aGN b u hu (by rw [hn, hp])
        have : x.parent ≠ x.name := fun hp => by rw [hp] at d; omega
        rw [if_neg this, hz]
        omega
theorem pJ {l : List Q} {k : Nat} (h : k < l.length) : okT (l.take (k + 1)) = (okT (l.take k) && aDT (l.take k) l[k]) := by
  rw [List.take_succ_eq_append_getElem h, aHv]
/-- where a beginning is none, the whole is none -/
theorem xD {l : List Q} {k : Nat} (h : okT (l.take k) = false) : okT l = false := by
  by_cases hk : k < l.length
  · have : ∀ n, k ≤ n → n ≤ l.length → okT (l.take n) = false := by
      intro n hn
      induction n with
      | zero => intro _; have : k = 0 := by omega
                subst this; exact h
      | succ m ih =>
        intro hm
        by_cases e : k = m + 1
        · subst e; exact h
        · rw [pJ (by omega), ih (by omega) (by omega)]; rfl
    have := this l.length (by omega) (Nat.le_refl _)
    rwa [List.take_length] at this
  · rwa [List.take_of_length_le (by omega)] at h
theorem aJB {l : List Q} (h : okT l = true) : ∀ q ∈ l, 0 ≤ q.due ∧ q.due ≤ 10000 := fun q hq => by
  have := aDM (qQ.1 h).1 q hq
  exact ⟨this.2.1, this.2.2.1⟩
theorem kJ (s:ByteArray) (w:World) (hs:s.size≤1048576) :
  Calls Tryz.prog 119 #[.string s] w fun e w'=>e=.returned (.bool (bC s.data.toList))∧w'=w:=by
 by_cases h0:1≤s.size
 ·by_cases h1:s.size≤10
  ·have hin:Hid (inB (s.data.toList.length:Int) 1 10=true):=aA (by rw [aDx];exact bT (by omega) (by omega))
   go_enter Tryz.func119,Tryz.ntmps119
   go_wp2
   go_loop [14] (fun i=>∃k:Nat,k≤s.size∧i=.int .i64 k∧(s.data.toList.take k).all pM=true) (fun i=>s.size - (intOf i).toNat)
   case atStart=>exact ⟨0,Nat.zero_le _,rfl,by simp⟩
   case round=>
    obtain ⟨k,hk,rfl,hall⟩:=hrel
    have HA:=aA hall
    clear hall
    by_cases hlt:k<s.size
    ·have hb:(s[k].toNat:Int)≤255:=aHJ _
     by_cases h3:48≤(s[k].toNat:Int)∧(s[k].toNat:Int)≤57
     ·have e1:inB (s[k].toNat:Int) 48 57=true:=bT h3.1 h3.2
      clear h3
      go_wp2_with (go_at_call 149;refine (lW _ _).mono ?_;rintro e w' ⟨rfl,rfl⟩)
      go_round
      case rel=>exact ⟨k+1,by omega,by go_num,uE s k hlt _ (uH HA) (by simp [pM,e1])⟩
      case measure=>simp [intOf];omega
     ·have e1:inB (s[k].toNat:Int) 48 57=false:=bD h3
      clear h3
      by_cases h4:97≤(s[k].toNat:Int)
      ·by_cases h5:(s[k].toNat:Int)≤122
       ·have HN:Hid (pM s[k]=true):=aA (by simp [pM,e1,bT h4 h5])
        go_wp2_with (go_at_call 149;refine (lW _ _).mono ?_;rintro e w' ⟨rfl,rfl⟩)
        go_round
        case rel=>exact ⟨k+1,by omega,by go_num,uE s k hlt _ (uH HA) (uH HN)⟩
        case measure=>simp [intOf];omega
       ·have hf:Hid (bC s.data.toList=false):=aA (by rw [bC,aCv s k hlt pM (by simp [pM,e1,bD (x:=(s[k].toNat:Int)) (a:=97) (b:=122) (by omega)])];simp)
        go_wp2_with (go_at_call 149;refine (lW _ _).mono ?_;rintro e w' ⟨rfl,rfl⟩)
        go_ret
        exact ⟨yF (uH hf).symm,rfl⟩
      ·have hf:Hid (bC s.data.toList=false):=aA (by rw [bC,aCv s k hlt pM (by simp [pM,e1,bD (x:=(s[k].toNat:Int)) (a:=97) (b:=122) (by omega)])];simp)
       go_wp2_with (go_at_call 149;refine (lW _ _).mono ?_;rintro e w' ⟨rfl,rfl⟩)
       go_ret
       exact ⟨yF (uH hf).symm,rfl⟩
    ·have hf:Hid (bC s.data.toList=true):=aA (by rw [bC,uH hin,←aAH s k (by omega),uH HA];rfl)
     go_wp2
     go_ret
     exact ⟨yF (uH hf).symm,rfl⟩
  ·have hf:Hid (bC s.data.toList=false):=aA (by rw [bC,aDx,bD (by omega)];simp)
   go_enter Tryz.func119,Tryz.ntmps119
   go_wp2
   go_ret
   exact ⟨yF (uH hf).symm,rfl⟩
 ·have hf:Hid (bC s.data.toList=false):=aA (by rw [bC,aDx,bD (by omega)];simp)
  go_enter Tryz.func119,Tryz.ntmps119
  go_wp2
  go_ret
  exact ⟨yF (uH hf).symm,rfl⟩
def fM:Nat→List Q→List UInt8→List Q
 | 0,_,_=>[]
 | n+1,l,nm=>if h:0≤place l nm∧(place l nm).toNat<l.length then l[(place l nm).toNat]::fM n (l.take (place l nm).toNat) l[(place l nm).toNat].parent else []
def ups (l:List Q) (nm:List UInt8):List Q:=fM (l.length+1) l nm
theorem rQ:∀(n m:Nat) (l:List Q) (nm:List UInt8),l.length<n→l.length<m→fM n l nm=fM m l nm
 | 0,_,_,_,h,_=>by omega
 | _+1,0,_,_,_,h=>by omega
 | n+1,m+1,l,nm,h1,h2=>by
  rw [fM,fM]
  split
  ·rename_i h
   rw [rQ n m _ _ (by simp;omega) (by simp;omega)]
  ·rfl
theorem aHg {l:List Q} {nm:List UInt8} (h:place l nm<0):ups l nm=[]:=by
 rw [ups,fM,dif_neg (by omega)]
theorem aHe {l:List Q} {nm:List UInt8} {k:Nat} (hk:k<l.length) (h:place l nm=k):ups l nm=l[k]::ups (l.take k) l[k].parent:=by
 rw [ups,fM]
 simp only [h,Int.toNat_natCast]
 rw [dif_pos (by simp;omega),ups,rQ l.length ((l.take k).length+1) _ _ (by simp;omega) (by simp)]
theorem aAE:∀(n:Nat) (l:List Q) (nm:List UInt8),(fM n l nm).length≤l.length
 | 0,l,nm=>by simp [fM]
 | n+1,l,nm=>by
  rw [fM]
  split
  ·rename_i h
   have:=aAE n (l.take (place l nm).toNat) l[(place l nm).toNat].parent
   simp at this ⊢
   omega
  ·simp
theorem nS (nm:List UInt8):∀(l:List Q) (k j:Nat),aP nm (l.take j) k=if aP nm l k<((k+j:Nat):Int) then aP nm l k else -1
 | [],k,j=>by simp [aP];omega
 | x::t,k,0=>by
  rw [List.take_zero,aP]
  rcases jJ nm (x::t) k with h | h
  ·rw [h,if_pos (by omega)]
  ·rw [if_neg (by omega)]
 | x::t,k,j+1=>by
  rw [List.take_succ_cons,aP,aP]
  by_cases h:x.name=nm
  ·rw [if_pos h,if_pos h,if_pos (by omega)]
  ·rw [if_neg h,if_neg h,nS nm t (k+1) j,show k+1+j=k+(j+1) by omega]
theorem aEh (l:List Q) (nm:List UInt8) (j:Nat):place (l.take j) nm=if place l nm<j then place l nm else -1:=by
 have:=nS nm l 0 j
 rw [Nat.zero_add] at this
 exact this
def aDe (l:List Q):Nat→Int→List Q
 | 0,_=>[]
 | n+1,p=>if h:0≤p∧p.toNat<l.length then l[p.toNat]::aDe l n (place l l[p.toNat].parent) else []
theorem xX (l:List Q):∀(n:Nat) (p:Int),(aDe l n p).map Q.name=dQ l n p
 | 0,_=>rfl
 | n+1,p=>by
  rw [aDe,dQ]
  split
  ·rw [List.map_cons,xX l n]
  ·rfl
theorem rP {l:List Q} (h:aG l=true):∀(n j:Nat) (nm:List UInt8),place l nm<j→fM n (l.take j) nm=aDe l n (place l nm)
 | 0,_,_,_=>rfl
 | n+1,j,nm,hj=>by
  have hp:place (l.take j) nm=place l nm:=by rw [aEh,if_pos hj]
  have hr:=dS l nm
  rw [fM,aDe]
  simp only [hp]
  by_cases h0:0≤place l nm
  ·rw [dif_pos ⟨h0,by simp;omega⟩,dif_pos ⟨h0,by omega⟩]
   rw [List.getElem_take,List.take_take,show min (place l nm).toNat j=(place l nm).toNat by omega]
   rw [rP h n _ _ (iF h (by omega))]
  ·rw [dif_neg (by omega),dif_neg (by omega)]
theorem aFj {l:List Q} (h:aG l=true) (nm:List UInt8):ups l nm=aDe l (l.length+1) (place l nm):=by
 have hr:=dS l nm
 have:=rP h (l.length+1) l.length nm (by omega)
 rwa [List.take_length] at this
theorem aAD {l:List Q} (h:aG l=true) (nm:List UInt8):(ups l nm).map Q.name=path l nm:=by
 rw [aFj h,xX,path,h];rfl
def gP (t:Int×Int):List Int→Int×Int
 | []=>t
 | n::r=>(dO (gP t r).1 (gP t r).2 n,dP (gP t r).1 (gP t r).2 n)
def iL (most:Bool) (u:List Q):List Int:=(u.takeWhile (fun q=>decide (q.parent≠[]))).map (cK most)
theorem aAv {l:List Q} (h:aG l=true) (most:Bool) (t:Int×Int):∀(n:Nat) (p:Int),p<n→gP t (iL most (aDe l n p))=ofP l most t ((aDe l n p).map Q.name)
 | 0,_,_=>rfl
 | n+1,p,hn=>by
  rw [aDe]
  split
  ·rename_i hp
   have hq:=aHu h p.toNat hp.2
   have ha:=iF h hp.2
   simp only [qOk,Bool.and_eq_true,decide_eq_true_eq] at hq
   have hb:sQ l l[p.toNat].name=l[p.toNat]:=by rw [sQ,hq.1.1.1.2,Int.toNat_natCast,List.getD_eq_getElem?_getD,List.getElem?_eq_getElem hp.2];rfl
   by_cases hz:l[p.toNat].parent=[]
   ·have hm:place l l[p.toNat].parent = -1:=by rw [hz];exact iE (aDs h)
    have hu:aDe l n (place l l[p.toNat].parent)=[]:=by
     rw [hm];cases n with
     | zero=>rfl
     | succ n=>rw [aDe,dif_neg (by omega)]
    rw [hu]
    simp [iL,hz,gP,ofP]
   ·have hi:p.toNat≠0:=fun e=>by
     have:=hq.2
     rw [if_pos e] at this
     simp only [Bool.and_eq_true,decide_eq_true_eq] at this
     exact hz this.1
    have hpl:=hq.2
    rw [if_neg hi] at hpl
    simp only [inB,decide_eq_true_eq] at hpl
    have ih:=aAv h most t n (place l l[p.toNat].parent) (by omega)
    obtain ⟨r,hr⟩:∃r,aDe l n (place l l[p.toNat].parent)=r:=⟨_,rfl⟩
    have hne:r≠[]:=by
     rw [←hr];cases n with
     | zero=>omega
     | succ n=>rw [aDe,dif_pos ⟨hpl.1,by omega⟩];simp
    rw [hr] at ih ⊢
    cases r with
    | nil=>exact absurd rfl hne
    | cons y r=>
     rw [List.map_cons,List.map_cons,ofP,hb]
     rw [List.map_cons] at ih
     rw [←ih]
     simp only [iL,List.takeWhile_cons (a:=l[p.toNat])]
     simp only [hz,ne_eq,not_false_eq_true,decide_true,if_true,List.map_cons,gP]
  ·simp [iL,gP,ofP]
theorem aHf {l:List Q} (h:aG l=true) (nm:List UInt8) (a b:Int) (most:Bool) (hp:0≤place l nm) (hr:aR a b=true):ofR l nm a b most=gP (a,b) (iL most (ups l nm)):=by
 have hr':=dS l nm
 have e:=aAD h nm
 have hne:path l nm≠[]:=by
  rw [←e,aFj h,aDe,dif_pos ⟨hp,by omega⟩];simp
 rw [ofR,if_neg (by simp [hne,hr]),←e,aFj h,aAv h most (a,b) _ _ (by omega)]
theorem aG1 {l:List Q} (h:aG l=false) (nm:List UInt8) (a b:Int) (most:Bool):ofR l nm a b most=(0,0):=by rw [ofR,path,h];simp
theorem aG0 {l:List Q} {nm:List UInt8} (h:place l nm<0) (a b:Int) (most:Bool):ofR l nm a b most=(0,0):=by
 have:path l nm=[]:=by rw [path];split;exact aDn h;rfl
 rw [ofR,this];simp
theorem aGZ (l:List Q) (nm:List UInt8) {a b:Int} (h:aR a b=false) (most:Bool):ofR l nm a b most=(0,0):=by rw [ofR,h];simp
theorem oF (a b c d:Int) (w:World) :
  Calls Tryz.prog 123 #[rv a b,rv c d] w fun e w'=>e=.returned (.tuple #[jA (-1) a b c d,.bool (aK (-1) a b c d)])∧Below w.heap.size w w':=by
 have V1:=((aJ w 36 a b).al (.cells #[.int .i64 c,.int .i64 d] 36)).al (.cells #[.int .i64 0,.int .i64 0] 36)
 have V2:=(fJ w 36 36 a b c d).al (.cells #[.int .i64 0,.int .i64 0] 36)
 have V3:=fJ (w.alloc (.cells #[.int .i64 a,.int .i64 b] 36)) 36 36 c d 0 0
 have B3:=yA (yA (yA (Below.refl _ w) (.cells #[.int .i64 a,.int .i64 b] 36)) (.cells #[.int .i64 c,.int .i64 d] 36)) (.cells #[.int .i64 0,.int .i64 0] 36)
 simp at V3
 have HV1:=aA V1
 have HV2:=aA V2
 have HV3:=aA V3
 have HB3:=aA B3
 have hc:=aA (nD a b c d)
 clear V1 V2 V3 B3
 cases h0:aR a b&&aR c d
 ·have hb:aK (-1) a b c d=false:=by rw [aK,h0];rfl
  rw [jS hb,hb]
  go_enter Tryz.func123,Tryz.ntmps123
  go_wp2_with fail
  refine (uH hc _).mono ?_
  rw [h0]
  rintro e w1 ⟨rfl,hb⟩
  have V3:=(uH HV3).below hb
  have k2:=V3.f 0
  have k3:=V3.f 1
  have k0:=V3.c0
  have k1:=V3.c1
  have k4:=V3.s0 (.int .i64 0)
  have k5:=V3.s1 (.int .i64 0) (.int .i64 0)
  have HB:=aA (yB (uH HB3) hb)
  clear hb HV1 HV2 HV3 HB3 V3 hc
  go_wp2
  refine bodyPost_ret (v:=.tuple #[rv 0 0,.bool false]) (by simp [results,Tryz.results123,go_sem,k4,k5]) rfl ⟨rfl,?_⟩
  repeat (first | exact uH HB | refine yA ?_ _ | refine Below.drew ?_ | refine yC ?_ _ _ _ (by omega))
 ·have h0':=h0
  simp only [Bool.and_eq_true] at h0'
  obtain ⟨q1,q2,q3,q4⟩:=dH h0'.1
  obtain ⟨q5,q6,q7,q8⟩:=dH h0'.2
  obtain ⟨x,hx⟩:∃x,a - c=x:=⟨_,rfl⟩
  obtain ⟨y,hy⟩:∃y,b - d=y:=⟨_,rfl⟩
  have m3:IntKind.i64.wrap (a - c)=x:=by rw [IntKind.wrap_i64];omega
  have m4:IntKind.i64.wrap (b - d)=y:=by rw [IntKind.wrap_i64];omega
  have e1:aK (-1) a b c d=aR x y:=by rw [aK,h0,show a+(-1)*c=x by omega,show b+(-1)*d=y by omega];rfl
  have e2:jA (-1) a b c d=orV x y:=by rw [jA,orV,e1,show a+(-1)*c=x by omega,show b+(-1)*d=y by omega]
  obtain ⟨u,v,hv⟩:∃u v,orV x y=rv u v:=by unfold orV;split<;>exact ⟨_,_,rfl⟩
  obtain ⟨o,ho⟩:∃o,aR x y=o:=⟨_,rfl⟩
  have ho2:∀wx,Calls Tryz.prog 154 #[rv x y] wx fun e w'=>e=.returned (.tuple #[rv u v,.bool o])∧Below wx.heap.size wx w':=fun wx=>by have:=aIe x y wx;rw [hv,ho] at this;exact this
  rw [e1,e2,hv,ho]
  have HO:=aA ho2
  clear e1 e2 hv ho ho2 h0' q1 q2 q3 q4 q5 q6 q7 q8 hx hy
  go_enter Tryz.func123,Tryz.ntmps123
  go_wp2_with fail
  refine (uH hc _).mono ?_
  rw [h0]
  rintro e w1 ⟨rfl,hb⟩
  have V1:=(uH HV1).below hb
  have V2:=(uH HV2).below hb
  have V3:=aA ((uH HV3).below hb)
  have a1:=V1.c0
  have a2:=V1.c1
  have a3:=V2.c0
  have a4:=V2.c1
  have HB:=aA (yB (uH HB3) hb)
  clear hb HV1 HV2 HV3 HB3 V1 V2 hc
  go_wp2_with fail
  refine (uH HO _).mono ?_
  rintro e w2 ⟨rfl,hb⟩
  have V4:=(uH V3).below hb
  have k0:=V4.c0
  have k1:=V4.c1
  have k2:=V4.f 0
  have k3:=V4.f 1
  have k4:=V4.s0 (.int .i64 u)
  have k5:=V4.s1 (.int .i64 u) (.int .i64 v)
  have HB2:=aA (yB (uH HB) hb)
  clear hb V4 V3 HB HO a1 a2 a3 a4
  go_wp2
  refine bodyPost_ret (v:=.tuple #[rv u v,.bool o]) (by simp [results,Tryz.results123,go_sem,k4,k5]) rfl ⟨rfl,?_⟩
  repeat (first | exact uH HB2 | refine yA ?_ _ | refine Below.drew ?_ | refine yC ?_ _ _ _ (by omega))
theorem aCf (a b c d:Int) (w:World) :
  Calls Tryz.prog 160 #[rv a b,rv c d] w fun e w'=>e=.returned (.tuple #[jA (-1) a b c d,.bool (aK (-1) a b c d)])∧Below w.heap.size w w':=by
 have hv:∃x y,jA (-1) a b c d=rv x y:=by unfold jA;split<;>exact ⟨_,_,rfl⟩
 obtain ⟨x,y,hv⟩:=hv
 have hc:=vN a b c d (-1) ((w.alloc (.cells #[.int .i64 a,.int .i64 b] 36)).alloc (.cells #[.int .i64 c,.int .i64 d] 36) |>.alloc (.cells #[.int .i64 0,.int .i64 0] 36)) (by decide)
 rw [hv] at hc ⊢
 go_enter Tryz.func160,Tryz.ntmps160
 go_wp2_with fail
 refine hc.mono ?_
 rintro e w1 ⟨rfl,hb⟩
 have hk:Var w1 36 (w.heap.size+1+1) 0 0:=Var.below (by simpa using aJ ((w.alloc (.cells #[.int .i64 a,.int .i64 b] 36)).alloc (.cells #[.int .i64 c,.int .i64 d] 36)) 36 0 0) hb
 have k0:=hk.c0
 have k1:=hk.c1
 have k2:=hk.f 0
 have k3:=hk.f 1
 have k4:=hk.s0 (.int .i64 x)
 have k5:=hk.s1 (.int .i64 x) (.int .i64 y)
 have HB:=aA (yB (yA (yA (yA (Below.refl _ _) _) _) _) hb)
 clear hb hc hk
 go_wp2
 refine bodyPost_ret (v:=.tuple #[rv x y,.bool (aK (-1) a b c d)]) (by simp [results,Tryz.results160,go_sem,k4,k5]) rfl ⟨rfl,?_⟩
 repeat (first | exact uH HB | refine yA ?_ _ | refine yC ?_ _ _ _ (by omega))
end
end Go.Proofs.YtdhibeclkdepiaaGreat
