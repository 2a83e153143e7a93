/-
  Texts in one: RegM, PathS, UsedByS, OfSL, OfSD.
-/
import Derived.Test.YtdhibeclkdepiaaGreatPackAD
set_option maxRecDepth 100000
set_option maxHeartbeats 16000000
set_option linter.unusedVariables false
set_option linter.unusedSimpArgs false
namespace Go.Proofs.YtdhibeclkdepiaaGreat
section
open Go.RowKit
def flags:Nat→List (List Bool)
 | 0=>[[]]
 | k+1=>(flags k).map (false :: ·)++(flags k).map (true :: ·)
theorem mem_flags:∀(f:List Bool),f ∈ flags f.length
 | []=>by simp [flags]
 | b::t=>by
  have:=mem_flags t
  cases b<;>simp [flags,this]
structure Mul where
 n:Nat
 cs:List Nat
 al:List Nat
 st:List Nat
 l0:List Bool
def Mul.lst (M:Mul) (c:Nat) (f:List Bool) (s:Nat):Array Bool:=
 ((List.range M.n).map fun i=>M.l0.getD i false||((M.cs.take c).contains i||(((M.al.zip f).any fun p=>p.1==i&&p.2)||(M.st.take s).contains i))).toArray
def Mul.nxt (M:Mul) (c:Nat) (f:List Bool) (s:Nat):List (Nat×Nat):=
 (List.range M.n).filterMap fun i=>
  if M.cs[c]? = some i then some (i,0)
  else match (List.range M.al.length).find? (fun j=>M.al[j]? == some i&&f[j]? == some false) with
   | some j=>some (i,j+2)
   | none=>if decide (c=M.cs.length)&&(f.all id&&decide (M.st[s]? = some i)) then some (i,1) else none
def Mul.to (c:Nat) (f:List Bool) (s:Nat):Nat→Nat×List Bool×Nat
 | 0=>(c+1,f,s)
 | 1=>(c,f,s+1)
 | j+2=>(c,f.set j true,s)
def Mul.one (M:Mul) (md:Region.Mode) (ops:Array Oper) (c:Nat) (f:List Bool) (s:Nat):Bool:=
 decide (Region.ready md ops (M.lst c f s)=(M.nxt c f s).map (·.1)) &&
 ((M.nxt c f s).isEmpty==(decide (c=M.cs.length)&&(f.all id&&decide (s=M.st.length)))) &&
 (M.nxt c f s).all fun p=>decide ((M.lst c f s).setIfInBounds p.1 true=M.lst (Mul.to c f s p.2).1 (Mul.to c f s p.2).2.1 (Mul.to c f s p.2).2.2) &&
  (match p.2 with | 0=>decide (M.cs[c]? = some p.1) | 1=>decide (c=M.cs.length)&&(f.all id&&decide (M.st[s]? = some p.1)) | j+2=>decide (M.al[j]? = some p.1)&&f[j]? == some false)
def Mul.ok (M:Mul) (md:Region.Mode) (ops:Array Oper):Bool:=
 decide (M.al.length=M.st.length)&&((List.range (M.cs.length+1)).all fun c=>(flags M.al.length).all fun f=>M.one md ops c f 0)&&(List.range (M.st.length+1)).all fun s=>M.one md ops M.cs.length (List.replicate M.al.length true) s
theorem all_true {f:List Bool} (h:f.all id=true):f=List.replicate f.length true:=by
 induction f with
 | nil=>rfl
 | cons b t ih=>
  simp only [List.all_cons,id,Bool.and_eq_true] at h
  rw [List.length_cons,List.replicate_succ,←ih h.2,h.1]
theorem Mul.at {M:Mul} {md:Region.Mode} {ops:Array Oper} (h:M.ok md ops=true) {c:Nat} {f:List Bool} {s:Nat} (hc:c≤M.cs.length) (hf:f.length=M.al.length) (hs:s≤M.st.length) (h0:0<s→c=M.cs.length∧f.all id=true):M.one md ops c f s=true:=by
 simp only [Mul.ok,Bool.and_eq_true,List.all_eq_true,List.mem_range] at h
 obtain ⟨⟨_,h1⟩,h2⟩:=h
 by_cases e:s=0
 ·subst e
  exact h1 c (by omega) f (by rw [←hf];exact mem_flags f)
 ·obtain ⟨rfl,h3⟩:=h0 (by omega)
  have:=all_true h3
  rw [hf] at this
  rw [this]
  exact h2 s (by omega)
def Mul.step (P:Program) (ops:Array Oper) (Q:Exit→Act→World→Prop) (i:Nat) (a:Act) (w:World) (K:Act→World→Prop):Prop:=
 ∃o,ops[i]? = some o∧(if Region.wanted o (yielded ops a.tmps)=true then Oper.wp P o a w K Q else K (a.put o.dst undef) w)
theorem count_set {f:List Bool} {j:Nat} (h:f[j]? = some false):(f.set j true).count false+1=f.count false:=by
 induction f generalizing j with
 | nil=>simp at h
 | cons b t ih=>
  cases j with
  | zero=>simp at h;subst h;simp
  | succ j=>simp at h;have:=ih h;simp only [sC,List.count_cons];omega
theorem count_none {f:List Bool} (h:f.all id=true):f.count false=0:=by rw [all_true h];simp [List.count_replicate]
theorem wpAnyH_is {P:Program} {md:Region.Mode} {ops:Array Oper} {Q:Exit→Act→World→Prop} {S:World→Prop} {n n':Nat} {l l':Array Bool} {a a':Act} {w:World} (hn:n=n') (hl:l=l') (ha:a=a') (h:wpAnyH P md ops Q S n' l' a' w):wpAnyH P md ops Q S n l a w:=by
 subst hn hl ha
 exact h
def mkPtr (b:Bool) (g:Nat):Value:=match b with | true=>.pointer (some ⟨g,0,none⟩) | false=>undef
def mkRes (b:Bool) (v:Value):Value:=match b with | true=>v | false=>undef
theorem list4 {α:Type} {l:List α} (h:l.length=4):∃a b c d,l=[a,b,c,d]:=by
 match l,h with
 | [a,b,c,d],_=>exact ⟨a,b,c,d,rfl⟩
theorem region_multi {P:Program} {md:Region.Mode} {ops:Array Oper} {Q:Exit→Act→World→Prop} {w1:World} (M:Mul) (Fr:Nat→List Bool→List Nat→Act) (vals:List (Int×Int)) (hv:vals.length=M.al.length)
  (hok:M.ok md ops=true)
  (hcall:∀c f us w K,c<M.cs.length→f.length=M.al.length→us.length=M.al.length→Kp w1 w→(∀w',Below w.heap.size w w'→K (Fr (c+1) f us) w')→Mul.step P ops Q (M.cs.getD c 0) (Fr c f us) w K)
  (hal:∀j c f us w K,c≤M.cs.length→f.length=M.al.length→us.length=M.al.length→f[j]? = some false→K (Fr c (f.set j true) (us.set j w.heap.size)) (w.alloc (.cells #[.int .i64 0,.int .i64 0] 36))→Mul.step P ops Q (M.al.getD j 0) (Fr c f us) w K)
  (hst:∀s us w K,s<M.al.length→us.length=M.al.length→Var w 36 (us.getD s 0) 0 0→K (Fr M.cs.length (List.replicate M.al.length true) us) ((w.setCell ⟨us.getD s 0,0,none⟩ (.int .i64 (vals.getD s (0,0)).1)).setCell ⟨us.getD s 0,1,none⟩ (.int .i64 (vals.getD s (0,0)).2))→Mul.step P ops Q (M.st.getD s 0) (Fr M.cs.length (List.replicate M.al.length true) us) w K)
  (fin:∀us w,us.length=M.al.length→(∀j,j<M.al.length→VB w1 w (us.getD j 0) (vals.getD j (0,0)).1 (vals.getD j (0,0)).2)→Kp w1 w→Q .normal (Fr M.cs.length (List.replicate M.al.length true) us) w)
  (w:World) (hw:Kp w1 w):wpAnyH P md ops Q (Kp w1) (M.cs.length+M.al.length+M.al.length) (M.lst 0 (List.replicate M.al.length false) 0) (Fr 0 (List.replicate M.al.length false) (List.replicate M.al.length 0)) w:=by
 have hla:M.al.length=M.st.length:=by have:=hok;simp only [Mul.ok,Bool.and_eq_true,decide_eq_true_eq] at this;exact this.1.1
 refine wpAnyH_inv (fun n lz az wz=>∃c f us s,c≤M.cs.length∧f.length=M.al.length∧us.length=M.al.length∧s≤M.al.length∧(0<s→c=M.cs.length∧f.all id=true)∧n=(M.cs.length - c)+f.count false+(M.al.length - s)∧lz=M.lst c f s∧az=Fr c f us
   ∧(∀j,f[j]? = some true→VB w1 wz (us.getD j 0) (if j<s then (vals.getD j (0,0)).1 else 0) (if j<s then (vals.getD j (0,0)).2 else 0))∧(∀i j,f[i]? = some true→f[j]? = some true→i≠j→us.getD i 0≠us.getD j 0)∧Kp w1 wz) ?_ ?_ _ _ _ _ ⟨0,_,_,0,Nat.zero_le _,by simp,by simp,Nat.zero_le _,fun h=>absurd h (by omega),by simp,rfl,rfl,fun j hj=>by simp [List.getElem?_replicate] at hj,fun i j hi=>by simp [List.getElem?_replicate] at hi,hw⟩
 ·rintro n lz az wz ⟨c,f,us,s,hc,hf,hu,hs,h0,hn,rfl,rfl,hV,hD,hk⟩
  have hone:=Mul.at hok hc hf (by omega) h0
  simp only [Mul.one,Bool.and_eq_true,decide_eq_true_eq,List.all_eq_true] at hone
  obtain ⟨⟨hr,he⟩,hall⟩:=hone
  have hne:(M.nxt c f s).map (·.1)≠[]:=fun e=>by
   have e':M.nxt c f s=[]:=List.map_eq_nil_iff.1 e
   rw [e'] at he
   simp only [List.isEmpty_nil,beq_iff_eq] at he
   have he':=he.symm
   simp only [Bool.and_eq_true,decide_eq_true_eq] at he'
   have:=count_none he'.2.1
   omega
  refine ready_step hr hne (fun i hi=>?_)
  obtain ⟨⟨i',k⟩,hp,rfl⟩:=List.mem_map.1 hi
  obtain ⟨hset,hk'⟩:=hall _ hp
  simp only at hset hk'
  match k,hset,hk' with
  | 0,hset,hk'=>
   simp only [decide_eq_true_eq] at hk'
   have hlt:c<M.cs.length:=(List.getElem?_eq_some_iff.1 hk').1
   have hcd:M.cs.getD c 0=i':=by rw [List.getD_eq_getElem?_getD,hk'];rfl
   obtain ⟨o,ho,hh⟩:=hcall c f us wz (fun a' w'=>Kp w1 w'∧∃c' f' us' s',c'≤M.cs.length∧f'.length=M.al.length∧us'.length=M.al.length∧s'≤M.al.length∧(0<s'→c'=M.cs.length∧f'.all id=true)∧n=(M.cs.length - c')+f'.count false+(M.al.length - s')∧(M.lst c f s).setIfInBounds i' true=M.lst c' f' s'∧a'=Fr c' f' us'∧(∀j,f'[j]? = some true→VB w1 w' (us'.getD j 0) (if j<s' then (vals.getD j (0,0)).1 else 0) (if j<s' then (vals.getD j (0,0)).2 else 0))∧(∀i j,f'[i]? = some true→f'[j]? = some true→i≠j→us'.getD i 0≠us'.getD j 0)∧Kp w1 w') hlt hf hu hk
    (fun w' hb=>⟨yB hk hb,c+1,f,us,s,hlt,hf,hu,hs,fun h=>absurd (h0 h).1 (by omega),by omega,hset,rfl,fun j hj=>(hV j hj).below hb,hD,yB hk hb⟩)
   rw [hcd] at ho
   exact wpOp_step ho (fun K' hK=>by
    split
    ·rename_i hw;rw [if_pos hw] at hh;exact Oper.wp_mono (fun _ _ h=>hK _ _ h) hh
    ·rename_i hw;rw [if_neg hw] at hh;exact hK _ _ hh)
  | 1,hset,hk'=>
   simp only [Bool.and_eq_true,decide_eq_true_eq] at hk'
   obtain ⟨rfl,hft,hst'⟩:=hk'
   have hsl:s<M.al.length:=by rw [hla];exact (List.getElem?_eq_some_iff.1 hst').1
   have hft':=all_true hft
   rw [hf] at hft'
   have hj:f[s]? = some true:=by rw [hft',List.getElem?_replicate,if_pos hsl]
   have hcd:M.st.getD s 0=i':=by rw [List.getD_eq_getElem?_getD,hst'];rfl
   have hvs:=hV s hj
   rw [if_neg (by omega),if_neg (by omega)] at hvs
   obtain ⟨o,ho,hh⟩:=hst s us wz (fun a' w'=>Kp w1 w'∧∃c' f' us' s',c'≤M.cs.length∧f'.length=M.al.length∧us'.length=M.al.length∧s'≤M.al.length∧(0<s'→c'=M.cs.length∧f'.all id=true)∧n=(M.cs.length - c')+f'.count false+(M.al.length - s')∧(M.lst M.cs.length f s).setIfInBounds i' true=M.lst c' f' s'∧a'=Fr c' f' us'∧(∀j,f'[j]? = some true→VB w1 w' (us'.getD j 0) (if j<s' then (vals.getD j (0,0)).1 else 0) (if j<s' then (vals.getD j (0,0)).2 else 0))∧(∀i j,f'[i]? = some true→f'[j]? = some true→i≠j→us'.getD i 0≠us'.getD j 0)∧Kp w1 w') hsl hu hvs.2
    ⟨hvs.kp hk,M.cs.length,f,us,s+1,Nat.le_refl _,hf,hu,hsl,fun _=>⟨rfl,hft⟩,by have:=count_none hft;omega,hset,by rw [←hft'],fun j hj'=>by
     by_cases e:j=s
     ·subst e
      rw [if_pos (by omega),if_pos (by omega)]
      exact hvs.set _ _
     ·have h1:=(hV j hj').off (hD j s hj' hj e) (u:=.int .i64 (vals.getD s (0,0)).1) (v:=.int .i64 (vals.getD s (0,0)).2)
      by_cases e2:j<s
      ·rw [if_pos e2,if_pos e2] at h1
       rw [if_pos (by omega),if_pos (by omega)]
       exact h1
      ·rw [if_neg e2,if_neg e2] at h1
       rw [if_neg (by omega),if_neg (by omega)]
       exact h1,hD,hvs.kp hk⟩
   rw [hcd] at ho
   rw [hft']
   rw [←hft'] at hh ⊢
   exact wpOp_step ho (fun K' hK=>by
    rw [hft'] at hK ⊢
    rw [hft'] at hh
    split
    ·rename_i hw;rw [if_pos hw] at hh;exact Oper.wp_mono (fun _ _ h=>hK _ _ h) hh
    ·rename_i hw;rw [if_neg hw] at hh;exact hK _ _ hh)
  | j+2,hset,hk'=>
   simp only [Bool.and_eq_true,decide_eq_true_eq,beq_iff_eq] at hk'
   obtain ⟨ha,hfj⟩:=hk'
   have hjl:j<M.al.length:=(List.getElem?_eq_some_iff.1 ha).1
   have hcd:M.al.getD j 0=i':=by rw [List.getD_eq_getElem?_getD,ha];rfl
   have hs0:s=0:=by
    by_cases e:s=0
    ·exact e
    ·have h1:=all_true (h0 (by omega)).2
     rw [h1,List.getElem?_replicate,if_pos (by omega)] at hfj
     cases hfj
   obtain ⟨o,ho,hh⟩:=hal j c f us wz (fun a' w'=>Kp w1 w'∧∃c' f' us' s',c'≤M.cs.length∧f'.length=M.al.length∧us'.length=M.al.length∧s'≤M.al.length∧(0<s'→c'=M.cs.length∧f'.all id=true)∧n=(M.cs.length - c')+f'.count false+(M.al.length - s')∧(M.lst c f s).setIfInBounds i' true=M.lst c' f' s'∧a'=Fr c' f' us'∧(∀j,f'[j]? = some true→VB w1 w' (us'.getD j 0) (if j<s' then (vals.getD j (0,0)).1 else 0) (if j<s' then (vals.getD j (0,0)).2 else 0))∧(∀i j,f'[i]? = some true→f'[j]? = some true→i≠j→us'.getD i 0≠us'.getD j 0)∧Kp w1 w') hc hf hu hfj
    ⟨yA hk _,c,f.set j true,us.set j wz.heap.size,s,hc,by simpa using hf,by simpa using hu,hs,fun h=>absurd h (by omega),by have:=count_set hfj;omega,hset,rfl,fun x hx=>by
     subst hs0
     rw [if_neg (by omega),if_neg (by omega)]
     by_cases e:x=j
     ·subst e
      rw [List.getD_eq_getElem?_getD,List.getElem?_set_self (by omega)]
      exact vb_new hk
     ·rw [List.getElem?_set_ne (fun h=>e h.symm)] at hx
      rw [List.getD_eq_getElem?_getD,List.getElem?_set_ne (fun h=>e h.symm),←List.getD_eq_getElem?_getD]
      have:=hV x hx
      rw [if_neg (by omega),if_neg (by omega)] at this
      exact this.al _,fun x y hx hy hne2=>by
     by_cases e:x=j
     ·subst e
      by_cases e2:y=x
      ·exact absurd e2.symm hne2
      ·rw [List.getElem?_set_ne (fun h=>e2 h.symm)] at hy
       rw [List.getD_eq_getElem?_getD,List.getElem?_set_self (by omega),List.getD_eq_getElem?_getD,List.getElem?_set_ne (fun h=>e2 h.symm),←List.getD_eq_getElem?_getD]
       exact (hV y hy).ne.symm
     ·rw [List.getElem?_set_ne (fun h=>e h.symm)] at hx
      rw [List.getD_eq_getElem?_getD (l:=us.set j wz.heap.size) (i:=x),List.getElem?_set_ne (fun h=>e h.symm),←List.getD_eq_getElem?_getD]
      by_cases e2:y=j
      ·subst e2
       rw [List.getD_eq_getElem?_getD (l:=us.set y wz.heap.size),List.getElem?_set_self (by omega)]
       exact (hV x hx).ne
      ·rw [List.getElem?_set_ne (fun h=>e2 h.symm)] at hy
       rw [List.getD_eq_getElem?_getD (l:=us.set j wz.heap.size),List.getElem?_set_ne (fun h=>e2 h.symm),←List.getD_eq_getElem?_getD]
       exact hD x y hx hy hne2,yA hk _⟩
   rw [hcd] at ho
   exact wpOp_step ho (fun K' hK=>by
    split
    ·rename_i hw;rw [if_pos hw] at hh;exact Oper.wp_mono (fun _ _ h=>hK _ _ h) hh
    ·rename_i hw;rw [if_neg hw] at hh;exact hK _ _ hh)
 ·rintro lz az wz ⟨c,f,us,s,hc,hf,hu,hs,h0,hn,rfl,rfl,hV,hD,hk⟩
  have hone:=Mul.at hok hc hf (by omega) h0
  simp only [Mul.one,Bool.and_eq_true,decide_eq_true_eq,List.all_eq_true] at hone
  obtain ⟨⟨hr,he⟩,_⟩:=hone
  have hcc:c=M.cs.length:=by omega
  have hfa:f.all id=true:=by
   rw [List.all_eq_true]
   intro b hb
   cases b with
   | true=>rfl
   | false=>have:=List.count_pos_iff.2 hb;omega
  have hss:s=M.al.length:=by omega
  subst hcc hss
  have hf':=all_true hfa
  rw [hf] at hf'
  refine ⟨?_,?_⟩
  ·rw [hr]
   have:(M.nxt M.cs.length f M.al.length).isEmpty=true:=by
    simp only [beq_iff_eq] at he
    rw [he,hfa,hla]
    simp
   rw [List.isEmpty_iff.1 this]
   rfl
  ·rw [hf']
   refine fin us wz hu (fun j hj=>?_) hk
   have:=hV j (by rw [hf',List.getElem?_replicate,if_pos hj])
   rw [if_pos hj,if_pos hj] at this
   exact this
theorem specPath_any (ao:Option Addr) (len cap:Nat) (l:List Q) (nm:List UInt8) (w:World) (h:QRow w ao len l) (hl:len≤1048576) (hn:∀q ∈ l,q.name.length≤1048576) :
  Calls Tryz.prog 162 #[.slice ao len cap,.string (bs nm)] w fun e w'=>∃v,e=.returned v∧Texts w.heap.size w' v (path l nm)∧Below w.heap.size w w':=by
 obtain ⟨i0,hi,hz0,hz1,hz2⟩:=info_parts Tryz.infoS
 have HR:=hide h
 have HL:=hide h.1
 have hlw:=h.1
 have CQ:=hide (fun wx (hb:Below w.heap.size w wx)=>specQueuesOk_any ao len cap l wx (h.below hb) hl hn)
 have CP:=hide (fun (x:List UInt8) wx (hb:Below w.heap.size w wx)=>l03Place_any ao len cap l x wx (h.below hb) hl)
 obtain ⟨p0,hp0⟩:∃p,place l nm=p:=⟨_,rfl⟩
 have hpr:p0 = -1∨(0≤p0∧p0<len):=by have:=place_range l nm;rw [hp0] at this;omega
 have HP0:=hide hp0
 have CP0:=hide (by have:=(uH CP) nm (w.alloc (.cells #[] 9)) (yA (Below.refl _ _) _);rw [hp0] at this;exact this)
 obtain ⟨ok,hok⟩:∃ok,queuesOk l=ok:=⟨_,rfl⟩
 rw [hok] at CQ
 have HOK:=hide hok
 have HS0:=hide (sown_empty w)
 clear h hn hp0 hok hlw
 go_enter Tryz.func162,Tryz.ntmps162
 go_wp2_with fail
 refine (uH CP0).mono ?_
 rintro e w1 ⟨rfl,rfl⟩
 clear CP0
 go_wp2
 go_loopw [5,6] (fun v i wr=>∃(p:Int) (o:List ByteArray),i=.int .i64 p∧(p = -1∨(0≤p∧p<len))∧o.length+p<len+1∧Hid (ok=true→o++(pathAt l (l.length+1) p).map bs=(path l nm).map bs)∧Hid (ok=false→o=[])∧Hid (wr.ownsRow w.heap.size 9 1 v o.length (scells o))∧Hid (Below w.heap.size w wr)) (fun _ i _=>(intOf i+1).toNat)
 case atStart=>
  refine ⟨p0,[],rfl,hpr,by simp;omega,hide (fun e=>?_),hide (fun _=>rfl),HS0,hide (yA (Below.refl _ _) _)⟩
  rw [path,uH HOK,e,if_pos rfl,uH HP0];rfl
 case round=>
  obtain ⟨p,o,rfl,hp,ho,HO,HE,HS,HB⟩:=hrel
  by_cases h0:0≤p
  ·obtain ⟨k,rfl⟩:∃k:Nat,p=k:=⟨p.toNat,by omega⟩
   have hlt:k<len:=by omega
   cases ok with
   | false=>
    go_wp2_with fail
    refine (uH CQ _ (uH HB)).mono ?_
    rintro e w2 ⟨rfl,hb⟩
    have HB2:=hide (yB (uH HB) hb)
    have HS2:=hide (sown_below (uH HS) hb)
    clear hb
    go_wp2
    go_ret
    refine ⟨_,rfl,Texts.of (uH HS2) ?_,uH HB2⟩
    rw [uH HE (by first | rfl | trivial),show path l nm=[] by rw [path,uH HOK];rfl]
    rfl
   | true=>
    have hkl:k<l.length:=by have:=uH HL;omega
    have hahead:=parent_ahead (uH HOK) hkl
    have hstep:=path_step (uH HOK) hkl (n:=l.length+1) (by omega)
    obtain ⟨b,off,rfl,hq⟩:=(uH HR).at hlt
    have hqq:=hq hkl
    obtain ⟨q,hs⟩:∃q,l[k]=q:=⟨_,rfl⟩
    rw [hs] at hqq hahead hstep
    obtain ⟨pn,hpn⟩:∃p,place l q.parent=p:=⟨_,rfl⟩
    have hpr2:pn = -1∨(0≤pn∧pn<len):=by have:=place_range l q.parent;rw [hpn] at this;have:=uH HL;omega
    rw [hpn] at hahead hstep
    have HQQ:=hide hqq
    have HST:=hide hstep
    have HPN:=hide hpn
    clear hq hqq hs hkl hstep hpn
    go_wp2_with fail
    refine (uH CQ _ (uH HB)).mono ?_
    rintro e w2 ⟨rfl,hb⟩
    have hown:=sown_below (uH HS) hb
    have hbel:=yB (uH HB) hb
    have HC:=hide ((uH HQQ).below hbel)
    have c0:=(uH HC).1
    have hsz:=hbel.size
    have hol:o.length≤1048576:=by omega
    clear hb HS HB CQ
    go_wp2_with (at_builtin;refine wpList_append_own _ rfl _ _ 175 rfl w.heap.size 9 i0 (.string ByteArray.empty) 1 16 Tryz.underlying175 hi hz0 hz1 hz2 rfl (by decide) _ _ _ rfl (hown.alloc _) ⟨w2.heap.size,0,none⟩ 1 1 [.string (bs q.name)] rfl rfl ?c1 ?c2 ?c3 ?c4 ?c5 ?_)
    case c1=>intro j v hj;match j,hj with | 0,hj=>simp at hj;subst hj;simp [Addr.add]
    case c2=>intro v hv;simp at hv;subst hv;rfl
    case c3=>unfold maxLen;omega
    case c4=>omega
    case c5=>simp;omega
    intro v' w3 hown' hgrow _
    have R:=srow_step hbel hown hown' hgrow (by omega)
    have HR3:=hide R
    have c1:=(show QAt w3 b (off+k*4) q from (uH HQQ).below R.2).2.1
    clear hown' hgrow hown hbel c0 R HC
    go_wp2_with fail
    refine (uH CP q.parent _ (uH HR3).2).mono ?_
    rintro e w4 ⟨rfl,rfl⟩
    rw [uH HPN]
    go_wp2
    go_roundw
    case rel=>exact ⟨pn,o++[bs q.name],rfl,hpr2,by simp;omega,hide (fun _=>by have:=uH HO (by first | rfl | trivial);rw [uH HST] at this;simpa using this),hide (fun e=>by cases e),hide (uH HR3).1,hide (uH HR3).2⟩
    case measure=>simp [intOf];omega
  ·have hp1:p = -1:=by omega
   subst hp1
   go_wp2
   go_ret
   refine ⟨_,rfl,Texts.of (uH HS) ?_,uH HB⟩
   cases ok with
   | true=>
    have:=uH HO (by first | rfl | trivial)
    rw [path_end (by omega)] at this
    simpa using this
   | false=>
    rw [uH HE (by first | rfl | trivial),show path l nm=[] by rw [path,uH HOK];rfl]
    rfl
end
section
open Go.RowKit Go.Maps
theorem usedS_len {p:Con→Bool} (l:List Con):(usedL p l).length≤l.length:=by simp [usedL];exact List.length_filter_le _ _
theorem path_short (l:List Q) (nm:List UInt8) (h:l.length≤1048575):(path l nm).length≤1048576:=by
 have key:∀(n:Nat) (p:Int),(pathAt l n p).length≤n:=by
  intro n
  induction n with
  | zero=>intro p;simp [pathAt]
  | succ n ih=>
   intro p
   rw [pathAt]
   split
   ·simp;exact ih _
   ·simp
 rw [path]
 split
 ·exact Nat.le_trans (key _ _) (by omega)
 ·simp
theorem specUsedBy_any (x:Sls) (s:St) (nm:List UInt8) (w:World) (h:SRow w x s) (hf:FitSt s) :
  Calls Tryz.prog 164 #[sv x s,.string (bs nm)] w fun e w'=>e=.returned (rv (usedByV s nm).1 (usedByV s nm).2)∧Below w.heap.size w w':=by
 obtain ⟨i0,hi,hz0,hz1,hz2⟩:=info_parts Tryz.infoR
 have hql:x.ql≤1048576:=by have:=h.len.1;have:=hf.1.1;omega
 have hal:x.al≤1048576:=by have:=h.len.2.1;have:=hf.2.1.1;omega
 have hcl:x.cl≤1048576:=by have:=h.len.2.2.2;have:=hf.2.2.2.1;omega
 have HR:=hide h.2.2.2
 have HL:=hide h.2.2.2.1
 have HAR:=hide h.2.1
 have HAL:=hide h.2.1.1
 have CA:=hide (fun wx (hb:Below w.heap.size w wx) (id:Int)=>l04App_any x s id wx (h.2.1.below hb) hal)
 have CP:=hide (fun wx (hb:Below w.heap.size w wx) (qu:List UInt8)=>specPath_any x.qa x.ql x.qc s.qs qu wx (h.1.below hb) hql (fun q hq=>(hf.1.2 q hq).1))
 have HPL:=hide (fun qu:List UInt8=>show (path s.qs qu).length≤1048576 by
  cases ho:queuesOk s.qs with
  | false=>simp [path,ho]
  | true=>
   refine path_short _ _ ?_
   have h2:=(okT_iff.1 (by have:=queuesOk_okT s.qs;rw [ho] at this;simp at this;exact this.1)).2.2
   omega)
 obtain ⟨⟨⟨sx,sy,so⟩,hsum⟩,hlc⟩:(∃y,sumR (usedL (byQ s nm) s.cs)=y)∧(usedL (byQ s nm) s.cs).length≤1048576:=⟨⟨_,rfl⟩,by have:=usedS_len (p:=byQ s nm) s.cs;have:=h.len.2.2.2;omega⟩
 have CS:=hide (fun ao cap wx (h:RRow wx ao (usedL (byQ s nm) s.cs).length (usedL (byQ s nm) s.cs))=>by have:=l04Sum_any ao _ cap (usedL (byQ s nm) s.cs) wx h hlc;rw [hsum] at this;exact this)
 have HBQ:=hide (fun q:Con=>show byQ s nm q=match findAp q.app s.apps with | none=>false | some a=>(path s.qs a.queue).any (fun x=>decide (x=nm)) from rfl)
 rw [show (usedByV s nm).1=sx by rw [usedByV,hsum],show (usedByV s nm).2=sy by rw [usedByV,hsum]]
 have HFP:=hide (fun id:Int=>apAt_find id s.apps)
 obtain ⟨p,hp⟩:∃p,byQ s nm=p:=⟨_,rfl⟩
 rw [hp] at HBQ CS
 have HLC:=hide (fun k=>show (usedL p (s.cs.take k)).length≤1048576 by have:=usedS_len (p:=p) (s.cs.take k);have:=h.len.2.2.2;simp only [List.length_take] at *;omega)
 clear h hf hsum hp hlc
 obtain ⟨qa,ql,qc,aa,al,ac,ma,ml,mc,ca,cl,cc⟩:=x
 obtain ⟨qs,clock,epoch,next,serial,apps,ms,cs⟩:=s
 simp only at CA CP CS HBQ HR HL HAR HAL HLC HFP HPL hql hal hcl
 have HB0:=hide (capW_below w (svc ⟨qa,ql,qc,aa,al,ac,ma,ml,mc,ca,cl,cc⟩ ⟨qs,clock,epoch,next,serial,apps,ms,cs⟩))
 have V0:=hide (capW_var w (svc ⟨qa,ql,qc,aa,al,ac,ma,ml,mc,ca,cl,cc⟩ ⟨qs,clock,epoch,next,serial,apps,ms,cs⟩))
 have P0:=hide ((boxW_blk w (svc ⟨qa,ql,qc,aa,al,ac,ma,ml,mc,ca,cl,cc⟩ ⟨qs,clock,epoch,next,serial,apps,ms,cs⟩)).al (.cells #[.int .i64 0,.int .i64 0] 36))
 have HO0:=hide (rown_empty (capW w (svc ⟨qa,ql,qc,aa,al,ac,ma,ml,mc,ca,cl,cc⟩ ⟨qs,clock,epoch,next,serial,apps,ms,cs⟩)))
 obtain ⟨W0,hW0⟩:∃W,capW w (svc ⟨qa,ql,qc,aa,al,ac,ma,ml,mc,ca,cl,cc⟩ ⟨qs,clock,epoch,next,serial,apps,ms,cs⟩)=W:=⟨_,rfl⟩
 have P0:=hide (show Blk W0 w.heap.size (svc ⟨qa,ql,qc,aa,al,ac,ma,ml,mc,ca,cl,cc⟩ ⟨qs,clock,epoch,next,serial,apps,ms,cs⟩) 34 by rw [←hW0];exact uH P0)
 have hsz0:W0.heap.size=w.heap.size+1+1:=by rw [←hW0];exact capW_size _ _
 rw [hW0] at HB0 V0 HO0
 have HW0:=hide hW0
 have HSZ:=hide hsz0
 clear hW0 hsz0
 go_enter Tryz.func164,Tryz.ntmps164
 go_wp2
 go_loopw [5,6] (fun v i wr=>∃(k:Nat),k≤cl∧i=.int .i64 k∧Hid (ROwn W0.heap.size wr v (usedL p (cs.take k)))∧Hid (Below W0.heap.size W0 wr)) (fun _ i _=>cl - (intOf i).toNat)
 case atStart=>
  obtain rfl:=uH HW0
  refine ⟨0,Nat.zero_le _,rfl,hide ?_,hide (yA (Below.refl _ _) _)⟩
  have:=uH HO0
  rw [uH HSZ] at this ⊢
  exact this
 case round=>
  obtain ⟨k,hk,rfl,HO,HB⟩:=hrel
  have PB:=(uH P0).below (uH HB)
  have HPB:=hide PB
  obtain ⟨q0,q1,q2,q3,q4,q5,q6,q7⟩:_∧_∧_∧_∧_∧_∧_∧_:=⟨PB.at 0,PB.at 1,PB.at 2,PB.at 3,PB.at 4,PB.at 5,PB.at 6,PB.at 7⟩
  simp at q0 q1 q2 q3 q4 q5 q6 q7
  have HBw:=hide (yB (uH HB0) (uH HB))
  clear PB
  by_cases hlt:k<cl
  ·obtain ⟨b,off,rfl,hq⟩:=((uH HR).below (uH HBw)).at hlt
   have hkl:k<cs.length:=by have:=uH HL;omega
   have hst:=usedL_step (p:=p) hkl
   have HQ:=hide (hq hkl)
   obtain ⟨m,hs⟩:∃q,cs[k]=q:=⟨_,rfl⟩
   rw [hs] at HQ hst
   have hal2:=uH HLC k
   obtain ⟨acc,hacc⟩:∃a,usedL p (cs.take k)=a:=⟨_,rfl⟩
   rw [hacc] at hst hal2 HO
   obtain ⟨id,ap,no,me,cp⟩:=m
   obtain ⟨c0,c1,c2,c3,c4⟩:=uH HQ
   simp only at c0 c1 c2 c3 c4
   have hbq:=uH HBQ ⟨id,ap,no,me,cp⟩
   simp only at hbq
   have hfp:=uH HFP ap
   obtain ⟨at0,ha⟩:∃a,apAt apps ap=a:=⟨_,rfl⟩
   have CAk:=hide (fun wx (hb:Below w.heap.size w wx)=>by have:=uH CA wx hb ap;rw [ha] at this;exact this)
   rw [ha] at hfp
   have k0:(0:Int)≤k:=by omega
   have k1:(k:Int)<cl:=by omega
   have HFP2:=hide hfp
   have HBQ2:=hide hbq
   have HST:=hide hst
   have R:∀wx,Kp wr wx→wx.cell? ⟨w.heap.size,0,none⟩=some (.slice qa ql qc)∧wx.cell? ⟨w.heap.size,1,none⟩=some (.int .i64 clock)∧wx.cell? ⟨w.heap.size,2,none⟩=some (.int .i64 epoch)∧wx.cell? ⟨w.heap.size,3,none⟩=some (.int .i64 next)∧wx.cell? ⟨w.heap.size,4,none⟩=some (.int .i64 serial)∧wx.cell? ⟨w.heap.size,5,none⟩=some (.slice aa al ac)∧wx.cell? ⟨w.heap.size,6,none⟩=some (.slice ma ml mc)∧wx.cell? ⟨w.heap.size,7,none⟩=some (.slice (some ⟨b,off,none⟩) cl cc)∧wx.cell? ⟨b,off+k*5+1,none⟩=some (.int .i64 ap):=fun wx h=>
    ⟨h.cell q0,h.cell q1,h.cell q2,h.cell q3,h.cell q4,h.cell q5,h.cell q6,h.cell q7,h.cell c1⟩
   have A0:=hide (Kp.new wr)
   have HS:=hide (kp_holds wr)
   clear hq hs hkl hacc ha hfp hbq hst
   go_wp2_with fail
   go_cut [7] from 18 to 25 (fun v7 wx=>v7=.int .i64 at0∧Kp wr wx)
   case first=>
    go_region_held3 (fun wx=>Kp wr wx)
     (first | (with_reducible assumption) | exact uH SA | exact (uH HS).drew (uH A0) | exact (uH HS).call (by assumption) (by assumption))
     (first
     | (go_at_call 55;refine (uH CAk _ ?_).mono ?_;(exact yB (uH HBw) ((uH HS).below (by assumption)));rintro e wt ⟨rfl,hb⟩;have SA:=hide ((uH HS).call (by assumption) hb)))
    all_goals
     go_wp2_with fail
     go_meet
     exact ⟨rfl,by first | assumption | exact uH SA⟩
   case rest=>
    obtain ⟨rfl,hA⟩:=hcut
    obtain ⟨w4,rfl⟩:∃w4,w4=wc:=⟨wc,rfl⟩
    have HAw:=hide (yB (uH HBw) hA)
    have HAk:=hide hA
    have g0:=hA.cell q0
    have g5:=hA.cell q5
    have g7:=hA.cell q7
    have d3:=hA.cell c3
    have d4:=hA.cell c4
    have HO4:=hide ((uH HO).below hA)
    have HB4:=hide (yB (uH HB) hA)
    clear A0 R HS CAk q0 q1 q2 q3 q4 q5 q6 q7 c0 c1 c2 c3 c4 hA HO HB HQ
    have HS:=hide (kp_holds w4)
    have A0:=hide (Kp.new w4)
    obtain ⟨pv,hpv⟩:∃o,p ⟨id,ap,no,me,cp⟩=o:=⟨_,rfl⟩
    rw [hpv] at HST HBQ2
    clear hpv
    go_wp2_with fail
    go_cut [40] from 26 to 39 (fun v40 wx=>v40=.bool pv∧Kp w4 wx)
    case first=>
     rcases uH HFP2 with ⟨hfn,rfl⟩ | ⟨j,hj,hfn,rfl⟩
     ·rw [hfn] at HBQ2
      obtain rfl:pv=false:=uH HBQ2
      clear hfn
      go_quiet (fail)
      all_goals
       go_wp2_with fail
       go_meet
       exact ⟨rfl,below_dn (Below.refl _ _) _⟩
     ·rw [hfn] at HBQ2
      have hjl:j<al:=by have:=uH HAL;omega
      obtain ⟨ab,ao,rfl,hq⟩:=((uH HAR).below (uH HAw)).at hjl
      obtain ⟨xo,xl,xc,hxx⟩:=hq hj
      have e1:=hxx.2.1
      obtain ⟨⟨ai,qu,asks⟩,hs⟩:∃a,apps[j]=a:=⟨_,rfl⟩
      rw [hs] at e1 HBQ2
      simp only at e1
      have HPQ:=hide (uH HPL qu)
      have HBQ3:=hide (show pv=(path qs qu).any (fun x=>decide (x=nm)) from uH HBQ2)
      have CPq:=hide (fun wx hb=>uH CP wx hb qu)
      obtain ⟨ps,hps⟩:∃ps,path qs qu=ps:=⟨_,rfl⟩
      rw [hps] at HPQ HBQ3 CPq
      have CH:=hide (fun (v:Value) (B:Nat) wx (h:Texts B wx v ps)=>by have:=l04Has_any v ps nm B wx h (uH HPQ);rw [←uH HBQ3] at this;exact this)
      have j0:(0:Int)≤j:=by omega
      have j1:(j:Int)<al:=by omega
      have R:∀wx,Kp w4 wx→wx.cell? ⟨w.heap.size,0,none⟩=some (.slice qa ql qc)∧wx.cell? ⟨w.heap.size,5,none⟩=some (.slice (some ⟨ab,ao,none⟩) al ac)∧wx.cell? ⟨ab,ao+j*3+1,none⟩=some (.string (bs qu)):=fun wx h=>⟨h.cell g0,h.cell g5,h.cell e1⟩
      clear hfn hq hxx hs hps e1 hj
      go_region_held3 (fun wx=>Kp w4 wx)
       (first | (with_reducible assumption) | exact uH SA | exact (uH HS).drew (uH A0) | exact (uH HS).call (by assumption) (by assumption))
       (first
       | (go_at_call 162;refine (uH CPq _ ?_).mono ?_;(exact yB (uH HAw) ((uH HS).below (by assumption)));rintro e wt ⟨v,rfl,htx,hb⟩;have HTX:=hide htx;have SA:=hide ((uH HS).call (by assumption) hb))
       | (go_at_call 185;refine (uH CH _ _ _ (uH HTX)).mono ?_;rintro e wt2 ⟨rfl,rfl⟩))
      all_goals
       go_wp2_with fail
       go_meet
       exact ⟨rfl,by first | assumption | exact uH SA⟩
    case rest=>
     obtain ⟨rfl,hA⟩:=hcut
     obtain ⟨w5,rfl⟩:∃w5,w5=wc:=⟨wc,rfl⟩
     have z7:=hA.cell g7
     have z3:=hA.cell d3
     have z4:=hA.cell d4
     have HO5:=hide ((uH HO4).below hA)
     have HB5:=hide (yB (uH HB4) hA)
     clear g0 g5 g7 d3 d4 hA HO4 HB4 HS A0 HAk HAw HFP2 HBQ2
     cases pv with
     | true=>
      rw [if_pos rfl] at HST
      have hs2:W0.heap.size≤w5.heap.size:=(uH HB5).size
      have hown:w5.ownsRow W0.heap.size 36 2 _ acc.length (rcells acc):=uH HO5
      go_wp2_with (at_builtin;refine wpList_append_own _ rfl _ _ 141 rfl W0.heap.size 36 i0 (.agg #[.int .i64 0,.int .i64 0]) 2 16 Tryz.underlying141 hi hz0 hz1 hz2 rfl (by decide) _ _ _ rfl (hown.alloc _) ⟨w5.heap.size,0,none⟩ 1 1 (rcell (me,cp)) rfl rfl ?c1 ?c2 ?c3 ?c4 ?c5 ?_)
      case c1=>
       intro j x hj
       match j,hj with
       | 0,hj=>simp at hj;subst hj;simp [Addr.add]
       | 1,hj=>simp at hj;subst hj;simp [Addr.add]
       | _+2,hj=>simp at hj
      case c2=>intro x hx;simp at hx;rcases hx with rfl | rfl<;>rfl
      case c3=>unfold maxLen;omega
      case c4=>omega
      case c5=>simp at hs2 ⊢;omega
      intro v' w6 hown' hgrow _
      have R:=rown_step (q:=(me,cp)) (uH HB5) (uH HO5) hown' hgrow hs2
      have HR3:=hide R
      clear hown' hgrow hown R z3 z4 z7
      go_wp2
      go_roundw
      case rel=>exact ⟨k+1,by omega,by go_num,hide (by rw [uH HST];exact (uH HR3).1),hide (uH HR3).2⟩
      case measure=>simp [intOf];omega
     | false=>
      rw [if_neg (by simp)] at HST
      go_wp2
      go_roundw
      case rel=>exact ⟨k+1,by omega,by go_num,hide (by rw [uH HST];exact uH HO5),HB5⟩
      case measure=>simp [intOf];omega
  ·have htk:cs.take k=cs:=List.take_of_length_le (by have:=uH HL;omega)
   rw [htk] at HO
   obtain ⟨so',scp,rfl,hrow,_⟩:=(uH HO).row
   have HROW:=hide hrow
   have HV1:=hide ((uH V0).below (uH HB))
   obtain ⟨n,hn⟩:∃n,(usedL p cs).length=n:=⟨_,rfl⟩
   rw [hn] at CS HROW ⊢
   clear hrow hn htk HO HB q0 q1 q2 q3 q4 q5 q6
   go_wp2_with fail
   refine (uH CS _ _ _ (uH HROW)).mono ?_
   rintro e w2 ⟨rfl,hb⟩
   have V1:=(uH HV1).below hb
   have HB2:=hide (yB (uH HBw) hb)
   have V2:=V1.al (.cells #[.int .i64 sx,.int .i64 sy] 36)
   have t0:=V2.c0
   have t1:=V2.c1
   have f0:=V2.f 0
   have f1:=V2.f 1
   have VG:=V2.set sx sy
   have k6:=VG.c0
   have k7:=VG.c1
   clear hb V1 V2 VG CS HV1 HROW
   go_wp2
   refine bodyPost_ret (v:=rv sx sy) (by simp [results,Tryz.results164,go_sem,k6,k7]) rfl ⟨rfl,?_⟩
   repeat (first | exact uH HB2 | refine yA ?_ _ | refine yC ?_ _ _ _ (by omega))
end
section
open Go.RowKit
theorem l03Of_any (ao:Option Addr) (len cap:Nat) (l:List Q) (nm:List UInt8) (a b:Int) (most:Bool) (w:World) (h:QRow w ao len l) (hl:len≤1048576) (hn:∀q ∈ l,q.name.length≤1048576) :
  Calls Tryz.prog 186 #[.slice ao len cap,.string (bs nm),rv a b,.bool most] w fun e w'=>e=.returned (rv (ofR l nm a b most).1 (ofR l nm a b most).2)∧Below w.heap.size w w':=by
 have HR:=hide h
 have HV1:=hide ((var_new w 36 a b).al (.cells #[.int .i64 0,.int .i64 0] 36))
 have HV2:=hide (var_new2 w 36 36 a b 0 0)
 have HB0:=hide (yA (yA (Below.refl _ w) (.cells #[.int .i64 a,.int .i64 b] 36)) (.cells #[.int .i64 0,.int .i64 0] 36))
 have CPath:=hide (specPath_any ao len cap l nm _ (h.below (uH HB0)) hl hn)
 have CP:=hide (fun (x:List UInt8) wx (hb:Below w.heap.size w wx)=>l03Place_any ao len cap l x wx (h.below hb) hl)
 have CK:=hide (specResOk_bel a b)
 have hpl:=path_len l nm
 have HPL:=hide (show (path l nm).length≤len+1 by have:=h.1;omega)
 have HNM:=hide (path_names (l:=l) (nm:=nm))
 obtain ⟨ps,hps⟩:∃ps,path l nm=ps:=⟨_,rfl⟩
 obtain ⟨ok,hok⟩:∃ok,resOk a b=ok:=⟨_,rfl⟩
 rw [hps] at CPath HPL HNM
 rw [hok] at CK
 obtain ⟨⟨x,y⟩,hxy⟩:∃p,ofR l nm a b most=p:=⟨_,rfl⟩
 rw [hxy]
 have HXY:=hide (show (if ps=[]∨ok=false then ((0:Int),(0:Int)) else ofP l most (a,b) ps)=(x,y) by rw [←hxy,ofR,hps,hok])
 have HLL:=hide h.1
 clear h hn hps hok hxy hpl
 go_enter Tryz.func186,Tryz.ntmps186
 go_wp2_with fail
 refine (uH CPath).mono ?_
 rintro e w1 ⟨v,rfl,ht,hb⟩
 have V1:=hide ((uH HV1).below hb)
 have V2:=hide ((uH HV2).below hb)
 have HB1:=hide (yB (uH HB0) hb)
 have HT:=hide ht
 clear ht hb HV1 HV2 HB0 CPath
 by_cases hp:ps=[]
 ·subst hp
  obtain ⟨va,vc,rfl⟩:=texts_none (uH HT)
  have hz:(x,y)=((0:Int),(0:Int)):=by rw [←uH HXY,if_pos (.inl rfl)]
  simp only [Prod.mk.injEq] at hz
  obtain ⟨rfl,rfl⟩:=hz
  have k0:=(uH V2).c0
  have k1:=(uH V2).c1
  have k2:=(uH V2).f 0
  have k3:=(uH V2).f 1
  have k4:=(uH V2).s0 (.int .i64 0)
  have k5:=(uH V2).s1 (.int .i64 0) (.int .i64 0)
  go_wp2
  refine bodyPost_ret (v:=rv 0 0) (by simp [results,Tryz.results186,go_sem,k4,k5]) rfl ⟨rfl,?_⟩
  repeat (first | exact uH HB1 | refine yA ?_ _ | refine Below.drew ?_ | refine yC ?_ _ _ _ (by omega))
 ·obtain ⟨g,gc,rfl,hss,hg⟩:=texts_some (uH HT) hp
  have HSS:=hide hss
  have hlp:0<ps.length:=List.length_pos_iff.2 hp
  have HPN:=hide hp
  have hln:((ps.length:Int)==0)=false:=by simp;exact hp
  have a0:=(uH V1).c0
  have a1:=(uH V1).c1
  have hpl2:ps.length≤1048577:=by have:=uH HPL;omega
  clear hss hp HT
  go_wp2_with fail
  refine (uH CK _).mono ?_
  rintro e w2 ⟨rfl,hb⟩
  have HSS2:=hide ((uH HSS).below hb (uH HSS).lt)
  have W1:=hide ((uH V1).below hb)
  have W2:=hide ((uH V2).below hb)
  have HB2:=hide (yB (uH HB1) hb)
  have hs1:w.heap.size+1<w2.heap.size:=(uH W2).lt
  clear hb a0 a1 HSS V1 V2 HB1 CK
  have hgl:g<w2.heap.size:=(uH HSS2).lt
  cases ok with
  | false=>
   have hz:(x,y)=((0:Int),(0:Int)):=by rw [←uH HXY,if_pos (.inr rfl)]
   simp only [Prod.mk.injEq] at hz
   obtain ⟨rfl,rfl⟩:=hz
   have k0:=(uH W2).c0
   have k1:=(uH W2).c1
   have k2:=(uH W2).f 0
   have k3:=(uH W2).f 1
   have k4:=(uH W2).s0 (.int .i64 0)
   have k5:=(uH W2).s1 (.int .i64 0) (.int .i64 0)
   go_wp2
   refine bodyPost_ret (v:=rv 0 0) (by simp [results,Tryz.results186,go_sem,k4,k5]) rfl ⟨rfl,?_⟩
   repeat (first | exact uH HB2 | refine yA ?_ _ | refine Below.drew ?_ | refine yC ?_ _ _ _ (by omega))
  | true=>
   have HF:=hide (show ofP l most (a,b) ps=(x,y) by have:=uH HXY;rw [if_neg (by simp;exact uH HPN)] at this;exact this)
   have a0:=(uH W1).c0
   have a1:=(uH W1).c1
   have hw2:=(uH HB2).size
   clear HXY
   go_wp2
   clear a0 a1
   go_loopw [11] (fun i wr=>∃(j u v:Int),i=.int .i64 j∧-1≤j∧j+2≤ps.length∧Hid (ofP l most (a,b) (ps.drop (j+1).toNat)=(u,v))∧Hid (Var wr 36 w2.heap.size u v)∧Hid (SS wr g gc (ps.map bs))∧Hid (Var wr 36 (w.heap.size+1) 0 0)∧Hid (Below w.heap.size w wr)) (fun i _=>(intOf i+1).toNat)
   case atStart=>
    refine ⟨(ps.length:Int) - 2,a,b,by go_num,by omega,by omega,hide ?_,hide (var_new _ _ _ _),hide ((uH HSS2).below (yA (Below.refl _ _) _) hgl),hide ((uH W2).al _),hide (yA (uH HB2) _)⟩
    rw [show ((ps.length:Int) - 2+1).toNat=ps.length - 1 by omega]
    exact ofP_last l most (a,b) (uH HPN)
   case round=>
    obtain ⟨j,u,v,rfl,hj1,hj2,HO,HU,HS,HT,HB⟩:=hrel
    by_cases h0:0≤j
    ·obtain ⟨k,rfl⟩:∃k:Nat,j=k:=⟨j.toNat,by omega⟩
     have hk1:k+1<ps.length:=by omega
     obtain ⟨kk,hkk,hpk,hbn⟩:=uH HNM ps[k] (List.getElem_mem _)
     have hkl:kk<len:=by have:=uH HLL;omega
     obtain ⟨rb,off,rfl,hq⟩:=((uH HR).below (uH HB)).at hkl
     have hqq:=hq hkk
     have hst:=ofP_step l most (a,b) hk1
     rw [hbn] at hst
     obtain ⟨q,hs⟩:∃q,l[kk]=q:=⟨_,rfl⟩
     rw [hs] at hqq hst
     have e0:ofP l most (a,b) (ps.drop (k+1))=(u,v):=by have:=uH HO;rw [show ((k:Int)+1).toNat=k+1 by omega] at this;exact this
     rw [e0] at hst
     simp only at hst
     obtain ⟨c0,c1,c2,c3⟩:=hqq
     have ct:=(uH HS).text (show k<ps.length by omega)
     have u0:=((uH HU).al (.cells #[.string (bs q.name),.string (bs q.parent),.int .i64 q.due,.int .i64 q.most] 100)).c0
     have u1:=((uH HU).al (.cells #[.string (bs q.name),.string (bs q.parent),.int .i64 q.due,.int .i64 q.most] 100)).c1
     obtain ⟨u',hu'⟩:∃z,shareM u v (fieldOf most q)=z:=⟨_,rfl⟩
     obtain ⟨v',hv'⟩:∃z,shareC u v (fieldOf most q)=z:=⟨_,rfl⟩
     rw [hu',hv'] at hst
     have HNEW:=hide (show ofP l most (a,b) (ps.drop ((k:Int) - 1+1).toNat)=(u',v') by rw [show ((k:Int) - 1+1).toNat=k by omega];exact hst)
     have hsh:∀wx,Calls Tryz.prog 200 #[rv u v,.int .i64 (fieldOf most q)] wx fun e w'=>e=.returned (rv u' v')∧Below wx.heap.size wx w':=fun wx=>by have:=specShare_any u v (fieldOf most q) wx;rw [hu',hv'] at this;exact this
     have k00:(0:Int)≤kk:=by omega
     have k01:(kk:Int)<len:=by omega
     have p00:(0:Int)≤k:=by omega
     have p01:(k:Int)<ps.length:=by omega
     clear hq hbn hs hst e0 hu' hv' hkk HO
     cases most with
     | true=>
      have CSh:=hide (show ∀wx,Calls Tryz.prog 200 #[rv u v,.int .i64 q.most] wx fun e w'=>e=.returned (rv u' v')∧Below wx.heap.size wx w' from hsh)
      clear hsh
      go_wp2_with fail
      refine (uH CP ps[k] _ (uH HB)).mono ?_
      rintro e w4 ⟨rfl,rfl⟩
      rw [hpk]
      go_wp2_with fail
      refine (uH CSh _).mono ?_
      rintro e w5 ⟨rfl,hb⟩
      have U:=((uH HU).al (.cells #[.string (bs q.name),.string (bs q.parent),.int .i64 q.due,.int .i64 q.most] 100)).below hb
      have HU5:=hide U
      have T:=hide (((uH HT).al (.cells #[.string (bs q.name),.string (bs q.parent),.int .i64 q.due,.int .i64 q.most] 100)).below hb)
      have S5:=hide (((uH HS).below (yA (Below.refl _ _) (.cells #[.string (bs q.name),.string (bs q.parent),.int .i64 q.due,.int .i64 q.most] 100)) (uH HS).lt).below hb (by have:=(uH HS).lt;simp;omega))
      have HB5:=hide (yB (yA (uH HB) (.cells #[.string (bs q.name),.string (bs q.parent),.int .i64 q.due,.int .i64 q.most] 100)) hb)
      have k0:=U.c0
      have k1:=U.c1
      have k2:=U.f 0
      have k3:=U.f 1
      clear hb U c0 c1 c2 c3 ct u0 u1
      go_wp2
      go_roundw
      case rel=>exact ⟨(k:Int) - 1,u',v',by go_num,by omega,by omega,HNEW,hide ((uH HU5).set u' v'),hide (((uH S5).same (heap_setCell_other _ ⟨w2.heap.size,0,none⟩ g _ (by simp;omega))).same (heap_setCell_other _ ⟨w2.heap.size,1,none⟩ g _ (by simp;omega))),hide (((uH T).other w2.heap.size 0 _ (by omega)).other w2.heap.size 1 _ (by omega)),hide (yC (yC (uH HB5) _ _ _ (by omega)) _ _ _ (by omega))⟩
      case measure=>simp [intOf]
     | false=>
      have CSh:=hide (show ∀wx,Calls Tryz.prog 200 #[rv u v,.int .i64 q.due] wx fun e w'=>e=.returned (rv u' v')∧Below wx.heap.size wx w' from hsh)
      clear hsh
      go_wp2_with fail
      refine (uH CP ps[k] _ (uH HB)).mono ?_
      rintro e w4 ⟨rfl,rfl⟩
      rw [hpk]
      go_wp2_with fail
      refine (uH CSh _).mono ?_
      rintro e w5 ⟨rfl,hb⟩
      have U:=((uH HU).al (.cells #[.string (bs q.name),.string (bs q.parent),.int .i64 q.due,.int .i64 q.most] 100)).below hb
      have HU5:=hide U
      have T:=hide (((uH HT).al (.cells #[.string (bs q.name),.string (bs q.parent),.int .i64 q.due,.int .i64 q.most] 100)).below hb)
      have S5:=hide (((uH HS).below (yA (Below.refl _ _) (.cells #[.string (bs q.name),.string (bs q.parent),.int .i64 q.due,.int .i64 q.most] 100)) (uH HS).lt).below hb (by have:=(uH HS).lt;simp;omega))
      have HB5:=hide (yB (yA (uH HB) (.cells #[.string (bs q.name),.string (bs q.parent),.int .i64 q.due,.int .i64 q.most] 100)) hb)
      have k0:=U.c0
      have k1:=U.c1
      have k2:=U.f 0
      have k3:=U.f 1
      clear hb U c0 c1 c2 c3 ct u0 u1
      go_wp2
      go_roundw
      case rel=>exact ⟨(k:Int) - 1,u',v',by go_num,by omega,by omega,HNEW,hide ((uH HU5).set u' v'),hide (((uH S5).same (heap_setCell_other _ ⟨w2.heap.size,0,none⟩ g _ (by simp;omega))).same (heap_setCell_other _ ⟨w2.heap.size,1,none⟩ g _ (by simp;omega))),hide (((uH T).other w2.heap.size 0 _ (by omega)).other w2.heap.size 1 _ (by omega)),hide (yC (yC (uH HB5) _ _ _ (by omega)) _ _ _ (by omega))⟩
      case measure=>simp [intOf]
    ·have hjm:j = -1:=by omega
     subst hjm
     have hxx:(u,v)=(x,y):=by rw [←uH HO,←uH HF];simp
     simp only [Prod.mk.injEq] at hxx
     obtain ⟨rfl,rfl⟩:=hxx
     have u0:=(uH HU).c0
     have u1:=(uH HU).c1
     have k0:=(uH HT).c0
     have k1:=(uH HT).c1
     have k2:=(uH HT).f 0
     have k3:=(uH HT).f 1
     have k4:=(uH HT).s0 (.int .i64 u)
     have k5:=(uH HT).s1 (.int .i64 u) (.int .i64 v)
     go_wp2
     refine bodyPost_ret (v:=rv u v) (by simp [results,Tryz.results186,go_sem,k4,k5]) rfl ⟨rfl,?_⟩
     repeat (first | exact uH HB | refine yA ?_ _ | refine Below.drew ?_ | refine yC ?_ _ _ _ (by omega))
theorem specDueOf_any (ao:Option Addr) (len cap:Nat) (l:List Q) (nm:List UInt8) (a b:Int) (w:World) (h:QRow w ao len l) (hl:len≤1048576) (hn:∀q ∈ l,q.name.length≤1048576) :
  Calls Tryz.prog 183 #[.slice ao len cap,.string (bs nm),rv a b] w fun e w'=>e=.returned (rv (ofR l nm a b false).1 (ofR l nm a b false).2)∧Below w.heap.size w w':=by
 have HB0:=hide (yA (yA (Below.refl _ w) (.cells #[.int .i64 a,.int .i64 b] 36)) (.cells #[.int .i64 0,.int .i64 0] 36))
 have HV2:=hide (var_new2 w 36 36 a b 0 0)
 have C:=hide (l03Of_any ao len cap l nm a b false _ (h.below (uH HB0)) hl hn)
 obtain ⟨⟨x,y⟩,hxy⟩:∃p,ofR l nm a b false=p:=⟨_,rfl⟩
 rw [hxy] at C ⊢
 clear hxy h hn
 go_enter Tryz.func183,Tryz.ntmps183
 go_wp2_with fail
 refine (uH C).mono ?_
 rintro e w1 ⟨rfl,hb⟩
 have V2:=(uH HV2).below hb
 have k0:=V2.c0
 have k1:=V2.c1
 have k2:=V2.f 0
 have k3:=V2.f 1
 have k4:=V2.s0 (.int .i64 x)
 have k5:=V2.s1 (.int .i64 x) (.int .i64 y)
 have HB:=hide (yB (uH HB0) hb)
 clear hb V2 HV2 HB0 C
 go_wp2
 refine bodyPost_ret (v:=rv x y) (by simp [results,Tryz.results183,go_sem,k4,k5]) rfl ⟨rfl,?_⟩
 repeat (first | exact uH HB | refine yA ?_ _ | refine Below.drew ?_ | refine yC ?_ _ _ _ (by omega))
end
end Go.Proofs.YtdhibeclkdepiaaGreat
