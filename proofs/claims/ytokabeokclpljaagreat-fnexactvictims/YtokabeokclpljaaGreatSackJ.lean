/-
  Texts in one: PendB, StdQ, MKey, MachI, MacAt.
-/
import Derived.Test.YtokabeokclpljaaGreatSackG
import Derived.Test.YtokabeokclpljaaGreatSackH
set_option maxRecDepth 100000
set_option maxHeartbeats 16000000
set_option linter.unusedVariables false
set_option linter.unusedSimpArgs false
namespace Go.Proofs.YtokabeokclpljaaGreat
section
open Go.RowKit
def idxA (p:Appl→Bool):List Appl→Nat→Int
 | [],_=>-1
 | q::t,k=>if p q=true then (k:Int) else idxA p t (k+1)
theorem idxA_step {p:Appl→Bool} {l:List Appl} {k:Nat} (h:k<l.length):idxA p (l.drop k) k=if p l[k]=true then (k:Int) else idxA p (l.drop (k+1)) (k+1):=by
 rw [List.drop_eq_getElem_cons h,idxA]
theorem idxA_end {p:Appl→Bool} {l:List Appl} {k:Nat} (h:l.length≤k):idxA p (l.drop k) k = -1:=by
 rw [List.drop_of_length_le h];rfl
theorem idxA_has (p:Appl→Bool):∀(l:List Appl) (k:Nat),decide (0≤idxA p l k)=l.any p
 | [],_=>by simp [idxA]
 | q::t,k=>by
  rw [idxA,List.any_cons]
  by_cases h:p q=true
  ·rw [if_pos h,h];simp
  ·rw [if_neg h,idxA_has p t (k+1)];simp [h]
theorem indexFuncA_any (g:Nat) (lb:Array Value) (eg:∀args w,(callFunc g args).run Tryz.prog w=.ok (.enter g args) w) (p:Appl→Bool) (ao:Option Addr) (len cap:Nat) (l:List Appl) (w:World) (h:ApplRow w ao len l) (hl:len≤1048576)
  (hp:∀wx (q:Appl) xo xl xc,Below w.heap.size w wx→xl=q.asks.length→Calls Tryz.prog g (#[applv q.id q.queue xo xl xc]++lb) wx fun e w'=>e=.returned (.bool (p q))∧Below wx.heap.size wx w') :
  Calls Tryz.prog 170 #[.slice ao len cap,.func (.func g) #[] lb] w fun e w'=>e=.returned (.int .i64 (idxA p l 0))∧Below w.heap.size w w':=by
 have HR:=hide h
 have HL:=hide h.1
 have HP:=hide hp
 clear h hp
 go_enter Tryz.func170,Tryz.ntmps170
 go_wp2
 go_loopw [5,8] (fun _ i wr=>∃k:Nat,k≤len∧i=.int .i64 k∧Hid (idxA p l 0=idxA p (l.drop k) k)∧Hid (Below w.heap.size w wr)) (fun _ i _=>len - (intOf i).toNat)
 case atStart=>exact ⟨0,Nat.zero_le _,rfl,hide (by simp),hide (yH _ _)⟩
 case round=>
  obtain ⟨k,hk,rfl,hq,HB⟩:=hrel
  by_cases hlt:k<len
  ·obtain ⟨b,off,rfl,hx⟩:=((uH HR).below (uH HB)).at hlt
   have hkl:k<l.length:=by have:=uH HL;omega
   have hst:=hide (idxA_step (p:=p) (l:=l) (k:=k) hkl)
   obtain ⟨xo,xl,xc,c0,c1,c2,hrow,_⟩:=hx hkl
   clear hx
   obtain ⟨⟨id,qu,asks⟩,hs⟩:∃s,l[k]=s:=⟨_,rfl⟩
   rw [hs] at c0 c1 hst hrow
   simp only at c0 c1
   have HC:=hide (uH HP wr ⟨id,qu,asks⟩ xo xl xc (uH HB) hrow.1)
   clear hs hkl HP hrow
   cases hpq:p ⟨id,qu,asks⟩ with
   | true=>
    rw [hpq] at HC
    have HQ:=hide hpq
    clear hpq
    go_wp2_with (go_at_fn g;refine (uH HC).mono ?_;rintro e w' ⟨rfl,hb⟩)
    go_ret
    exact ⟨ret_int (by rw [uH hq,uH hst,if_pos (uH HQ)]),yB (uH HB) hb⟩
   | false=>
    rw [hpq] at HC
    have HQ:=hide hpq
    clear hpq
    go_wp2_with (go_at_fn g;refine (uH HC).mono ?_;rintro e w' ⟨rfl,hb⟩)
    go_roundw
    case rel=>exact ⟨k+1,by omega,by go_num,hide (by rw [uH hq,uH hst,if_neg (by rw [uH HQ];simp)]),hide (yB (uH HB) hb)⟩
    case measure=>simp [intOf];omega
  ·go_wp2
   go_ret
   exact ⟨ret_int (by rw [uH hq,idxA_end (by have:=uH HL;omega)]),uH HB⟩
theorem containsFuncA_any (g:Nat) (lb:Array Value) (eg:∀args w,(callFunc g args).run Tryz.prog w=.ok (.enter g args) w) (p:Appl→Bool) (ao:Option Addr) (len cap:Nat) (l:List Appl) (w:World) (h:ApplRow w ao len l) (hl:len≤1048576)
  (hp:∀wx (q:Appl) xo xl xc,Below w.heap.size w wx→xl=q.asks.length→Calls Tryz.prog g (#[applv q.id q.queue xo xl xc]++lb) wx fun e w'=>e=.returned (.bool (p q))∧Below wx.heap.size wx w') :
  Calls Tryz.prog 132 #[.slice ao len cap,.func (.func g) #[] lb] w fun e w'=>e=.returned (.bool (l.any p))∧Below w.heap.size w w':=by
 have C:=hide (indexFuncA_any g lb eg p ao len cap l w h hl hp)
 have HS:=hide (idxA_has p l 0)
 obtain ⟨i,hi⟩:∃i,idxA p l 0=i:=⟨_,rfl⟩
 obtain ⟨b,hb⟩:∃b,l.any p=b:=⟨_,rfl⟩
 rw [hi] at C HS
 rw [hb] at HS ⊢
 clear h hp hi hb
 go_enter Tryz.func132,Tryz.ntmps132
 go_wp2_with fail
 refine (uH C).mono ?_
 rintro e w1 ⟨rfl,hb⟩
 have HB:=hide hb
 clear hb
 by_cases h0:0≤i
 ·go_wp2
  go_ret
  exact ⟨yF (by first | exact uH HS | (rw [←uH HS];simp [h0])),uH HB⟩
 ·go_wp2
  go_ret
  exact ⟨yF (by first | exact uH HS | (rw [←uH HS];simp [h0])),uH HB⟩
def pends (nm:List UInt8) (q:Appl):Bool:=decide (q.queue=nm)&&decide (0<q.asks.length)
def pendingV (s:St) (nm:List UInt8):Bool:=s.apps.any (pends nm)
theorem pendFn_any (B:Nat) (nm:List UInt8) (id:Int) (qu:List UInt8) (xo:Option Addr) (xl xc:Nat) (w:World) (hc:w.cell? ⟨B,0,none⟩=some (.string (bs nm))) :
  Calls Tryz.prog 133 #[applv id qu xo xl xc,.pointer (some ⟨B,0,none⟩)] w fun e w'=>e=.returned (.bool (decide (qu=nm)&&decide (0<xl)))∧Below w.heap.size w w':=by
 have hlt:=yG hc
 have hc2:(w.alloc (.cells #[.int .i64 id,.string (bs qu),.slice xo xl xc] 106)).cell? ⟨B,0,none⟩=some (.string (bs nm)):=by rw [World.cell?_alloc_lt _ _ ⟨B,0,none⟩ hlt];exact hc
 have hbe:=bs_eq qu nm
 clear hc hlt
 by_cases h1:qu=nm
 ·rw [decide_eq_true h1] at hbe ⊢
  by_cases h2:0<xl
  ·have h3:(0:Int)<xl:=by omega
   rw [decide_eq_true h2]
   clear h1 h2
   go_enter Tryz.func133,Tryz.ntmps133
   go_wp2
   go_ret
   exact ⟨yF (by simp;omega),yA (yH _ _) _⟩
  ·have h3:¬(0:Int)<xl:=by omega
   rw [decide_eq_false h2]
   clear h1 h2
   go_enter Tryz.func133,Tryz.ntmps133
   go_wp2
   go_ret
   exact ⟨yF (by simp;omega),yA (yH _ _) _⟩
 ·rw [decide_eq_false h1] at hbe ⊢
  rw [Bool.false_and]
  clear h1
  go_enter Tryz.func133,Tryz.ntmps133
  go_wp2
  go_ret
  exact ⟨rfl,yA (yH _ _) _⟩
def pendW (w:World) (c:Array Value) (nm:List UInt8):World:=(w.alloc (.cells c 36)).alloc (.cells #[.string (bs nm)] 9)
theorem pendW_below (w:World) (c:Array Value) (nm:List UInt8):Below w.heap.size w (pendW w c nm):=yA (yA (yH _ w) _) _
theorem pendW_cell (w:World) (c:Array Value) (nm:List UInt8):(pendW w c nm).cell? ⟨w.heap.size+1,0,none⟩=some (.string (bs nm)):=by
 have:=(yD (w.alloc (.cells c 36)) #[.string (bs nm)] 9).at 0
 rw [yE] at this
 exact this
theorem implPending_any (x:Sls) (s:St) (nm:List UInt8) (w:World) (h:SRow w x s) (hf:FitSt s) :
  Calls Tryz.prog 84 #[sv x s,.string (bs nm)] w fun e w'=>e=.returned (.bool (pendingV s nm))∧Below w.heap.size w w':=by
 have hmf:∀(fn:Fn) (first cap:Array Value) (w:World),(Instr.makeFunc fn first cap).run Tryz.prog w=.ok (.func fn first cap) w:=fun _ _ _ _=>rfl
 have hal:x.al≤1048576:=by have:=h.len.2.1;have:=hf.2.1.1;omega
 have CU:=hide (containsFuncA_any 133 #[.pointer (some ⟨w.heap.size+1,0,none⟩)] (enters_of Tryz.func133 (by kernel_rfl) rfl) (pends nm) x.aa x.al x.ac s.apps (pendW w (svc x s) nm) (h.2.1.below (pendW_below w _ nm)) hal
   (fun wy q xo xl xc hy hx=>by
    have:=pendFn_any (w.heap.size+1) nm q.id q.queue xo xl xc wy ((hy.cell (p:=⟨w.heap.size+1,0,none⟩) (yG (pendW_cell w _ nm))).trans (pendW_cell w _ nm))
    rw [hx] at this ⊢
    exact this))
 obtain ⟨o,ho⟩:∃o,pendingV s nm=o:=⟨_,rfl⟩
 rw [show s.apps.any (pends nm)=o from ho] at CU
 rw [ho]
 clear ho h hf
 obtain ⟨qa,ql,qc,aa,al,ac,ma,ml,mc,ca,cl,cc⟩:=x
 obtain ⟨qs,clock,epoch,next,serial,apps,ms,cs⟩:=s
 go_enter Tryz.func84,Tryz.ntmps84
 go_wp2_with fail
 refine (uH CU).mono ?_
 rintro e w1 ⟨rfl,hb⟩
 have HB1:=hide (yB (pendW_below w _ nm) hb)
 clear hb CU
 go_wp2
 go_ret
 exact ⟨rfl,uH HB1⟩
theorem any_drop {p:Appl→Bool} {l:List Appl} {k:Nat} (h:k<l.length):(l.drop k).any p=(p l[k]||(l.drop (k+1)).any p):=by
 rw [List.drop_eq_getElem_cons h,List.any_cons]
theorem specPending_any (x:Sls) (s:St) (nm:List UInt8) (w:World) (h:SRow w x s) (hf:FitSt s) :
  Calls Tryz.prog 62 #[sv x s,.string (bs nm)] w fun e w'=>e=.returned (.bool (pendingV s nm))∧Below w.heap.size w w':=by
 have hal:x.al≤1048576:=by have:=h.len.2.1;have:=hf.2.1.1;omega
 have HR:=hide h.2.1
 have HL:=hide h.len.2.1
 have HB0:=hide (yA (yH _ w) (.cells (svc x s) 36))
 have P0:=hide (yD w (svc x s) 36)
 obtain ⟨o,ho⟩:∃o,pendingV s nm=o:=⟨_,rfl⟩
 have HO:=hide (show (s.apps.drop 0).any (pends nm)=o from ho)
 rw [ho]
 clear ho h hf
 obtain ⟨qa,ql,qc,aa,al,ac,ma,ml,mc,ca,cl,cc⟩:=x
 obtain ⟨qs,clock,epoch,next,serial,apps,ms,cs⟩:=s
 simp only at hal HR HL HO
 go_enter Tryz.func62,Tryz.ntmps62
 go_wp2
 go_loopw [5] (fun i wr=>∃(k:Nat),k≤al∧i=.int .i64 k∧Hid ((apps.drop k).any (pends nm)=o)∧Hid (Blk wr w.heap.size (svc ⟨qa,ql,qc,aa,al,ac,ma,ml,mc,ca,cl,cc⟩ ⟨qs,clock,epoch,next,serial,apps,ms,cs⟩) 36)∧Hid (Below w.heap.size w wr)) (fun i _=>al - (intOf i).toNat)
 case atStart=>exact ⟨0,Nat.zero_le _,rfl,HO,P0,HB0⟩
 case round=>
  obtain ⟨k,hk,rfl,HQ,HP,HB⟩:=hrel
  have p5:=(uH HP).at 5
  simp at p5
  by_cases hlt:k<al
  ·obtain ⟨b,off,rfl,hx⟩:=((uH HR).below (uH HB)).at hlt
   have hkl:k<apps.length:=by have:=uH HL;omega
   have hst:=any_drop (p:=pends nm) hkl
   obtain ⟨xo,xl,xc,c0,c1,c2,hrow,_⟩:=hx hkl
   clear hx
   obtain ⟨⟨id,qu,asks⟩,hs⟩:∃s,apps[k]=s:=⟨_,rfl⟩
   rw [hs] at c0 c1 hst hrow
   simp only at c0 c1
   have hbe:=bs_eq qu nm
   have hpd:pends nm ⟨id,qu,asks⟩=(decide (qu=nm)&&decide (0<xl)):=by simp [pends,hrow.1]
   rw [hpd] at hst
   rw [uH HQ] at hst
   clear hs hkl hrow hpd
   by_cases h1:qu=nm
   ·rw [decide_eq_true h1] at hbe hst
    by_cases h2:0<xl
    ·have h3:(0:Int)<xl:=by omega
     have hot:o=true:=by rw [hst,decide_eq_true h2];simp
     subst hot
     clear h1 h2 hst
     go_wp2
     go_ret
     exact ⟨rfl,uH HB⟩
    ·have h3:¬(0:Int)<xl:=by omega
     rw [decide_eq_false h2] at hst
     have HN:=hide (show (apps.drop (k+1)).any (pends nm)=o by simpa using hst.symm)
     clear h1 h2 hst
     go_wp2
     go_roundw
     case rel=>exact ⟨k+1,by omega,by go_num,HN,HP,HB⟩
     case measure=>simp [intOf];omega
   ·rw [decide_eq_false h1] at hbe hst
    have HN:=hide (show (apps.drop (k+1)).any (pends nm)=o by simpa using hst.symm)
    clear h1 hst
    go_wp2
    go_roundw
    case rel=>exact ⟨k+1,by omega,by go_num,HN,HP,HB⟩
    case measure=>simp [intOf];omega
  ·have hof:o=false:=by rw [←uH HQ,List.drop_of_length_le (by have:=uH HL;omega)];rfl
   subst hof
   go_wp2
   go_ret
   exact ⟨rfl,uH HB⟩
end
section
open Go.RowKit Go.Maps
def HI (K:List P4) (F:List Fr3) (w0:World) (bm bk g:Nat) (w:World) (l:List SE):Prop:=HSt K F w0 bm bk g w l∧l.length≤1000000
theorem stObj (K:List P4) (F:List Fr3) (hK:K.length≤1000000000) (KW:∀p ∈ K,Wf4 p.1 p.2.1 p.2.2.1 p.2.2.2) (w0:World) (bm bk g:Nat) :
  HeapObj (∀f ∈ F,f.2.2≠183) seD aheadS g (HI K F w0 bm bk g) (fun _ x v=>v=.iface 183 (stv x)∧x.2 ∈ K) where
 obj:=fun w l h=>let ⟨v,b,_⟩:=h.1.1;⟨v,_,b⟩
 less:=fun w l x y i j h hb hi hj=>(stLess_any K F hK KW w0 bm bk g w l x y i j h.1 hb hi hj h.2).mono (fun e w' k=>⟨k.1,k.2,h.2⟩)
 swap:=fun w l x y i j h hb hi hj=>(stSwap_any K F w0 bm bk g w l x y i j h.1 hb hi hj h.2).mono (fun e w' k=>⟨k.1,k.2,by rw [HeapM.swap_len];exact h.2⟩)
 len:=fun w l x y h hb=>(stLen_any K F w0 bm bk g w l x y h.1 hb).mono (fun e w' k=>⟨k.1,k.2,h.2⟩)
 push:=fun hF w l a v h hv hl=>by
  obtain ⟨rfl,hk⟩:=hv
  exact (stPush_any K F w0 bm bk g w l a h.1 hF hk hl).mono (fun e w' k=>⟨k.1,k.2,by simp;omega⟩)
 pop:=fun w l h h0=>(stPop_any K F w0 bm bk g w l h.1 h0 h.2).mono (fun e w' k=>⟨⟨_,k.1,rfl,at_mem h.1.2.2.2.2.1 (by omega)⟩,k.2,by simp;have:=h.2;omega⟩)
theorem add_any (K:List P4) (F:List Fr3) (hK:K.length≤1000000000) (KW:∀p ∈ K,Wf4 p.1 p.2.1 p.2.2.1 p.2.2.2) (w0:World) (bm bk g:Nat) (w:World) (l:List SE) (z:SE) (h:HI K F w0 bm bk g w l) (hF:∀f ∈ F,f.2.2≠183) (hz:z.2 ∈ K) (hl:l.length<1000000) :
  Calls Tryz.prog 141 #[.pointer (some ⟨g,0,none⟩),stv z] w fun e w'=>e=.returned (.tuple #[])∧HI K F w0 bm bk g w' (HeapM.upL seD aheadS (l.length+1) (l++[z]) l.length):=by
 obtain ⟨n1,p1,p2,p3,p4⟩:=z
 have hb0:=yA (yH _ w) (.cells #[.string (bs n1),.int .i64 p1,.int .i64 p2,.int .i64 p3,.int .i64 p4] 183)
 have C:=hide (push_any (stObj K F hK KW w0 bm bk g) hF l (n1,p1,p2,p3,p4) (.iface 183 (stv (n1,p1,p2,p3,p4))) _ ⟨h.1.below hb0,h.2⟩ ⟨rfl,hz⟩ hl)
 clear h hb0
 go_enter Tryz.func141,Tryz.ntmps141
 go_wp2_with fail
 refine (uH C).mono ?_
 rintro e w1 ⟨rfl,hh⟩
 have HH:=hide hh
 clear hh C
 go_wp2
 go_end0
 exact ⟨rfl,uH HH⟩
theorem HSt.more {K:List P4} {F:List Fr3} {w0 w:World} {bm bk g:Nat} {l:List SE} (h:HSt K F w0 bm bk g w l) {v:Value} (hb:Blk w g #[v,cloV bk] 180) (f:Fr3) (h2:FrB bm g f w) (hv:some f.1≠v.ownBlock):HSt K (f::F) w0 bm bk g w l:=by
 obtain ⟨⟨v0,h1,o1,hF⟩,h3,h4,h5,h6,h7,h8⟩:=h
 have e:=h1.symm.trans hb
 simp at e
 subst e
 exact ⟨⟨v0,h1,o1,fun k hk=>by rcases List.mem_cons.1 hk with rfl | hk;exact hv;exact hF k hk⟩,h3,h4,h5,h6,h7,fun k hk=>by rcases List.mem_cons.1 hk with rfl | hk;exact h2;exact h8 k hk⟩
theorem HSt.less {K:List P4} {f:Fr3} {F:List Fr3} {w0 w:World} {bm bk g:Nat} {l:List SE} (h:HSt K (f::F) w0 bm bk g w l):HSt K F w0 bm bk g w l:=by
 obtain ⟨⟨v0,h1,o1,hF⟩,h3,h4,h5,h6,h7,h8⟩:=h
 exact ⟨⟨v0,h1,o1,fun k hk=>hF k (List.mem_cons_of_mem _ hk)⟩,h3,h4,h5,h6,h7,fun k hk=>h8 k (List.mem_cons_of_mem _ hk)⟩
theorem HSt.write {K:List P4} {f:Fr3} {F:List Fr3} {w0 w:World} {bm bk g:Nat} {l:List SE} (h:HSt K (f::F) w0 bm bk g w l) (hk:f.1≠bk) (h0:w0.heap.size≤f.1) (hd:∀k ∈ F,k.1≠f.1) (j:Nat) (x:Value):HSt K ((f.1,f.2.1.setIfInBounds j x,f.2.2)::F) w0 bm bk g (w.setCell ⟨f.1,j,none⟩ x) l:=by
 obtain ⟨⟨v0,h1,o1,hF⟩,h3,h4,h5,h6,h7,h8⟩:=h
 have hf:=h8 f (List.mem_cons_self ..)
 have hv:=hF f (List.mem_cons_self ..)
 refine ⟨⟨v0,h1.other _ _ _ (fun e=>hf.2.2 e.symm),o1.kept (grownBy_set (grownBy_refl w (some f.1)) j x) (.inr (fun e=>hv e.symm)),?_⟩,h3.other _ _ _ (fun e=>hk e.symm),h4.grown (grownBy_set (grownBy_refl w (some f.1)) j x) (by simp;exact fun e=>hf.2.1 e.symm),h5,h6,yC h7 _ _ _ h0,?_⟩
 ·intro k hk'
  rcases List.mem_cons.1 hk' with rfl | hk'
  ·exact hv
  ·exact hF k (List.mem_cons_of_mem _ hk')
 ·intro k hk'
  rcases List.mem_cons.1 hk' with rfl | hk'
  ·exact ⟨hf.1.set j x,hf.2⟩
  ·have:=h8 k (List.mem_cons_of_mem _ hk')
   exact ⟨this.1.other _ _ _ (hd k hk'),this.2⟩
theorem least_any (K:List P4) (w:World):Calls Tryz.prog 140 #[] w fun e w'=>e=.returned (cloV (w.heap.size+1))∧Blk w' (w.heap.size+1) #[.map (some w.heap.size)] 228∧HoldsK K w.heap.size w'∧Below w.heap.size w w'∧w'.heap.size=w.heap.size+2:=by
 have hmm:=@run_makeMap Tryz.prog
 have hmf:∀(fn:Fn) (first cap:Array Value) (w:World),(Instr.makeFunc fn first cap).run Tryz.prog w=.ok (.func fn first cap) w:=fun _ _ _ _=>rfl
 go_enter Tryz.func140,Tryz.ntmps140
 go_wp2
 go_ret
 refine ⟨rfl,?_,holdsK_made K ?_,yA (yA (yH _ _) _) _,by simp⟩
 ·have:=yD (w.alloc (Obj.map #[] 0)) #[Value.map (some w.heap.size)] 228
  rw [yE] at this
  exact this
 ·have:=(World.ownsMap_made w Tryz.prog 123 fracElem).alloc (.cells #[.map (some w.heap.size)] 228)
  exact this
theorem takeFirst_any (K:List P4) (F:List Fr3) (hK:K.length≤1000000000) (KW:∀p ∈ K,Wf4 p.1 p.2.1 p.2.2.1 p.2.2.2) (w0:World) (bm bk g:Nat) (w:World) (l:List SE) (h:HI K F w0 bm bk g w l) (h0:0<l.length) (hw0:w0.heap.size≤w.heap.size) :
  Calls Tryz.prog 144 #[.pointer (some ⟨g,0,none⟩)] w fun e w'=>e=.returned (stv (HeapM.at' seD (HeapM.popL seD aheadS l) (l.length - 1)))∧HI K F w0 bm bk g w' ((HeapM.popL seD aheadS l).take (l.length - 1)):=by
 obtain ⟨v,b1,hown,_⟩:=h.1.1
 have hgl:=b1.lt
 have h5:=h.1.2.2.2.1
 have hb0:=yA (yH _ w) (.cells #[.string ⟨#[]⟩,.int .i64 0,.int .i64 0,.int .i64 0,.int .i64 0] 183)
 have hM:HI K ((w.heap.size,#[.string ⟨#[]⟩,.int .i64 0,.int .i64 0,.int .i64 0,.int .i64 0],183)::F) w0 bm bk g _ l:=⟨(h.1.below hb0).more (b1.below hb0) (w.heap.size,#[.string ⟨#[]⟩,.int .i64 0,.int .i64 0,.int .i64 0,.int .i64 0],183) ⟨yD _ _ _,by show w.heap.size≠bm;omega,by show w.heap.size≠g;omega⟩ (fun e=>by have:=(hown.lt w.heap.size e.symm).2;omega),h.2⟩
 have C:=hide (pop_any (stObj K _ hK KW w0 bm bk g) l _ hM h0 h.2)
 have HD:=hide (show ∀k ∈ F,k.1≠w.heap.size from fun k hk=>by have:=(h.1.2.2.2.2.2.2 k hk).1.lt;omega)
 obtain ⟨R,hR⟩:∃R,(HeapM.popL seD aheadS l).take (l.length - 1)=R:=⟨_,rfl⟩
 obtain ⟨⟨n1,p1,p2,p3,p4⟩,hs1⟩:∃s,HeapM.at' seD (HeapM.popL seD aheadS l) (l.length - 1)=s:=⟨_,rfl⟩
 rw [hR,hs1] at C ⊢
 have hbk:w.heap.size≠bk:=by omega
 clear h b1 hown hb0 hM hR hs1
 have hta:=assertS (n1,p1,p2,p3,p4)
 go_enter Tryz.func144,Tryz.ntmps144
 go_wp2_with fail
 refine (uH C).mono ?_
 rintro e w1 ⟨⟨v1,rfl,rfl,_⟩,hh⟩
 have q1:=hh.1.write hbk hw0 (uH HD) 0 (.string (bs n1))
 have q2:=q1.write hbk hw0 (uH HD) 1 (.int .i64 p1)
 have q3:=q2.write hbk hw0 (uH HD) 2 (.int .i64 p2)
 have q4:=q3.write hbk hw0 (uH HD) 3 (.int .i64 p3)
 have q5:=q4.write hbk hw0 (uH HD) 4 (.int .i64 p4)
 have bw:=(hh.1.2.2.2.2.2.2 _ (List.mem_cons_self ..)).1
 obtain ⟨c0,c1,c2,c3,c4⟩:=zp bw
 have f0:=bw.f 0;have f1:=bw.f 1;have f2:=bw.f 2;have f3:=bw.f 3;have f4:=bw.f 4
 have bz:=(q5.2.2.2.2.2.2 _ (List.mem_cons_self ..)).1
 obtain ⟨z0,z1,z2,z3,z4⟩:=zp bz
 have HQ:=hide (show HI K F w0 bm bk g _ R from ⟨q5.less,hh.2⟩)
 simp only at HQ f0 f1 f2 f3 f4
 clear hh q1 q2 q3 q4 q5 bw bz C
 go_wp2
 refine bodyPost_ret (v:=stv (n1,p1,p2,p3,p4)) (by simp [results,Tryz.results144,go_sem,z0,z1,z2,z3,z4]) rfl ⟨rfl,uH HQ⟩
def md (m:Mac):DataW Unit:=.agg [.lit (.string m.name),.lit (.int .i64 m.mem),.lit (.int .i64 m.cpu),.lit (.int .i64 m.seen)]
def macElem:Value→Option (DataW Unit×List MemPlace)
 | .agg cs=>match cs.toList with
  | [.string s,.int .i64 x,.int .i64 y,.int .i64 z]=>some (md ⟨s.data.toList,x,y,z⟩,[])
  | _=>none
 | _=>none
theorem macElem_mk (m:Mac):macElem (macv m)=some (md m,[]):=by
 obtain ⟨nm,x,y,z⟩:=m
 simp [macElem,bs]
theorem macElem_inv {v:Value} {m:Mac} {ps:List MemPlace} (h:macElem v=some (md m,ps)):v=macv m:=by
 unfold macElem at h
 split at h
 ·rename_i cs
  split at h
  ·rename_i s x y z e
   have e2:cs=#[.string s,.int .i64 x,.int .i64 y,.int .i64 z]:=by cases cs;simpa using e
   obtain ⟨nm,a,b,c⟩:=m
   simp [md] at h
   obtain ⟨⟨h1,h2,h3,h4⟩,_⟩:=h
   subst h1 h2 h3 h4
   rw [e2]
   simp [macv,bs_data]
  ·cases h
 ·cases h
def findM (nm:List UInt8) (l:List Mac):Option Mac:=l.find? (fun m=>decide (m.name=nm))
def KnownM (l:List Mac) (D:DataW Unit):Prop:=∀nm kl,keyOf Tryz.prog 160 (keyv nm 0)=some kl→Maps.has D kl=(findM nm l).isSome∧∀m,findM nm l=some m→∀zd,D.atKey kl zd=md m
theorem knownM_empty:KnownM [] (.map []):=fun nm kl _=>⟨by simp [Maps.has,findM],fun m h=>by simp [findM] at h⟩
theorem KnownM.put {l:List Mac} {D:DataW Unit} (h:KnownM l D) (hD:IsMap D) {m:Mac} {kl:Lit} (hk:keyOf Tryz.prog 160 (keyv m.name 0)=some kl):KnownM (m::l) (D.put kl (md m)):=fun nm kl' hk'=>by
 by_cases e:kl'=kl
 ·subst e
  have:=keyLaw.inj hk hk'
  simp [keyv] at this
  have hn:m.name=nm:=by
   have h1:=congrArg (fun b:ByteArray=>b.data.toList) this
   simpa [bs] using h1
  have hf:findM nm (m::l)=some m:=by simp [findM,hn]
  rw [hf]
  refine ⟨?_,fun m' h' zd=>?_⟩
  ·rw [has_put_same hD (keyLaw.key hk)];rfl
  ·cases h'
   exact atKey_put_same hD (keyLaw.key hk) _ _
 ·have hn:¬m.name=nm:=fun hn=>e (by subst hn;rw [hk] at hk';exact (Option.some.inj hk').symm)
  have hf:findM nm (m::l)=findM nm l:=by simp [findM,hn]
  rw [hf,has_put_other e]
  refine ⟨(h nm kl' hk').1,fun m' h' zd=>?_⟩
  rw [atKey_put_other e]
  exact (h nm kl' hk').2 m' h' zd
theorem macZero (w:World):(zeroValue 113).run Tryz.prog w=.ok (macv ⟨[],0,0,0⟩) w:=by kernel_rfl
theorem lookM {w:World} {bm n:Nat} {l:List Mac} {D:DataW Unit} (hown:w.ownsMap Tryz.prog 160 macElem bm n D) (hk:KnownM l D) {nm:List UInt8} {kl:Lit} (hkey:keyOf Tryz.prog 160 (keyv nm 0)=some kl) :
  (Instr.lookup 156 (.map (some bm)) (keyv nm 0) true).run Tryz.prog w=.ok (.tuple #[macv ((findM nm l).getD ⟨[],0,0,0⟩),.bool (findM nm l).isSome]) w:=by
 obtain ⟨v,ps,hrun,hv⟩:=hown.look_ok keyLaw Tryz.underlying156 (macZero w) (macElem_mk ⟨[],0,0,0⟩) hkey
 obtain ⟨h1,h2⟩:=hk nm kl hkey
 rw [hrun,h1]
 cases hf:findM nm l with
 | none=>
  rw [hf] at h1
  rw [atKey_of_not_has h1] at hv
  rw [macElem_inv hv]
  rfl
 | some m=>
  rw [h2 m hf] at hv
  rw [macElem_inv hv]
  rfl
end
section
open Go.RowKit Go.Shelf Go.Maps
attribute [local go_sem] Oper.semAt_some
def mapW (w:World) (c:Array Value):World:=((w.alloc (.cells c 36)).alloc (.map #[] 0)).alloc (.cells #[.map (some (w.heap.size+1))] 156)
theorem mapW_size (w:World) (c:Array Value):(mapW w c).heap.size=w.heap.size+1+1+1:=by simp only [mapW,yE]
theorem mapW_below (w:World) (c:Array Value):Below w.heap.size w (mapW w c):=yA (yA (yA (yH _ w) _) _) _
theorem mapW_own (w:World) (c:Array Value):(mapW w c).ownsMap Tryz.prog 160 macElem (w.heap.size+1) 0 (.map []):=by
 have:=(World.ownsMap_made (w.alloc (.cells c 36)) Tryz.prog 160 macElem).alloc (.cells #[.map (some (w.heap.size+1))] 156)
 rw [yE] at this
 exact this
theorem mapW_var (w:World) (c:Array Value):Blk (mapW w c) (w.heap.size+1+1) #[.map (some (w.heap.size+1))] 156:=by
 have:=yD ((w.alloc (.cells c 36)).alloc (.map #[] 0)) #[.map (some (w.heap.size+1))] 156
 rw [yE,yE] at this
 exact this
def MapInv (w:World) (l:List Mac) (W:World):Prop:=(∃D,W.ownsMap Tryz.prog 160 macElem (w.heap.size+1) l.length D∧KnownM l D)∧Blk W (w.heap.size+1+1) #[.map (some (w.heap.size+1))] 156
theorem MapInv.grown {w W W':World} {l:List Mac} {row:Option Nat} (h:MapInv w l W) (hg:W.grownBy W' row) (hr:∀r,row=some r→w.heap.size+1+1<r):MapInv w l W':=by
 obtain ⟨⟨D,h1,h2⟩,h3⟩:=h
 exact ⟨⟨D,h1.kept hg (fun e=>by have:=hr _ e.symm;omega),h2⟩,(hg.block _ h3.lt (fun e=>by have:=hr _ e.symm;omega)).trans h3⟩
theorem MapInv.below {w W W':World} {l:List Mac} (h:MapInv w l W) (hb:Below W.heap.size W W'):MapInv w l W':=h.grown (grownBy_below (grownBy_refl W none) hb) (fun r e=>by cases e)
theorem machines_any (x:Sls) (s:St) (w:World) (h:MacRow w x.ma x.ml s.ms) (hl:x.ml≤1048576) (hn:∀m ∈ s.ms,m.name.length≤1048576) :
  Calls Tryz.prog 122 #[sv x s] w fun e w'=>e=.returned (.map (some (w.heap.size+1)))∧MapInv w s.ms w'∧Below w.heap.size w w':=by
 obtain ⟨qa,ql,qc,aa,al,ac,ma,ml,mc,ca,cl,cc⟩:=x
 obtain ⟨qs,clock,epoch,next,serial,apps,ms,cs⟩:=s
 simp only at h hl hn ⊢
 have HR:=hide h
 have HL:=hide h.1
 have HN:=hide hn
 have hmx:Tryz.prog.follows .mixedOrders=true:=by kernel_rfl
 have hmm:=fun (t:TypeId) (wx:World)=>run_makeMap (P:=Tryz.prog) t wx
 clear h hn
 refine (callsIn_wide (n:=3)).1 ?_
 refine callsIn_of_wp_marks Tryz.func122 rfl trivial ?_ rfl
 simp only [Tryz.ntmps122,List.size_toArray,List.length_cons,List.length_nil,Nat.reduceAdd,Nat.reduceSub,Array.replicate_succ,Array.replicate_zero,List.push_toArray,List.append_toArray,List.nil_append,List.cons_append]
 gi_wp2_with fail
 first | refine ⟨trivial,?_⟩ | skip
 first | refine ⟨(by intro e;cases e),?_⟩ | skip
 refine (callsIn_wide.2 (backM_any (.slice ma ml mc) _ rfl)).mono ?_
 rintro e w4 ⟨rfl,rfl⟩
 gi_wp2
 have hsz0:=yE (mapW w (svc ⟨qa,ql,qc,aa,al,ac,ma,ml,mc,ca,cl,cc⟩ ⟨qs,clock,epoch,next,serial,apps,ms,cs⟩)) (.cells #[.slice ma ml mc] 33)
 rw [mapW_size] at hsz0
 have hB0:=yA (mapW_below w (svc ⟨qa,ql,qc,aa,al,ac,ma,ml,mc,ca,cl,cc⟩ ⟨qs,clock,epoch,next,serial,apps,ms,cs⟩)) (.cells #[.slice ma ml mc] 33)
 have hI0:=MapInv.below (w:=w) (l:=[]) ⟨⟨_,mapW_own w (svc ⟨qa,ql,qc,aa,al,ac,ma,ml,mc,ca,cl,cc⟩ ⟨qs,clock,epoch,next,serial,apps,ms,cs⟩),knownM_empty⟩,mapW_var w _⟩ (yA (yH _ _) (.cells #[.slice ma ml mc] 33))
 have hBs:=(yD (mapW w (svc ⟨qa,ql,qc,aa,al,ac,ma,ml,mc,ca,cl,cc⟩ ⟨qs,clock,epoch,next,serial,apps,ms,cs⟩)) #[.slice ma ml mc] 33).at 0
 rw [mapW_size] at hBs
 obtain ⟨W0,hW0⟩:∃W0,(mapW w (svc ⟨qa,ql,qc,aa,al,ac,ma,ml,mc,ca,cl,cc⟩ ⟨qs,clock,epoch,next,serial,apps,ms,cs⟩)).alloc (.cells #[.slice ma ml mc] 33)=W0:=⟨_,rfl⟩
 rw [hW0] at hsz0 hB0 hI0 hBs
 have HC:=hide (backM_stops (3 - 1) (w.heap.size+1+1+1) ml mc ma ms W0 hBs ((uH HR).below hB0) hl (uH HN))
 show Code.wpIn _ _ _ _ _ _ ((mapW w (svc ⟨qa,ql,qc,aa,al,ac,ma,ml,mc,ca,cl,cc⟩ ⟨qs,clock,epoch,next,serial,apps,ms,cs⟩)).alloc (.cells #[.slice ma ml mc] 33))
 rw [hW0]
 clear hW0 hBs
 refine wpIn_rangeFunc_ownH rfl (by omega) (gf:=194) (lb:=#[.pointer (some ⟨w.heap.size+1+1+1,0,none⟩)]) rfl trivial (enters_of Tryz.func194 (by kernel_rfl) rfl)
  (uH HC) kpa_t kpa_b (yH _ _) (fun _=>rfl)
  (fun pre W=>MapInv w ((pre.map (fun x:Int×NMac=>x.2.1)).reverse) W∧Below w.heap.size w W)
  (fun _ _ _=>False)
  (OwnFrom.and (fun s X Y row hs hg hr=>MapInv.grown hs hg (fun r e=>by have:=(hr r e).1;omega)) (ownFrom_below (yJ _) (by omega)))
  (fun _ _ _ _ _ hs _ _=>hs)
  ⟨hI0,hB0⟩
  (fun x a' W=>∃Bx,w.heap.size+1+1<Bx∧Blk W Bx #[.string (bs x.2.1.name),.int .i64 x.2.1.mem,.int .i64 x.2.1.cpu,.int .i64 x.2.1.seen] 113∧a' = { tmps:=#[sv ⟨qa,ql,qc,aa,al,ac,ma,ml,mc,ca,cl,cc⟩ ⟨qs,clock,epoch,next,serial,apps,ms,cs⟩,.pointer (some ⟨w.heap.size,0,none⟩),.map none,.pointer (some ⟨w.heap.size+1+1,0,none⟩),undef,.pointer (some ⟨Bx,0,none⟩),.map (some (w.heap.size+1)),.pointer (some ⟨w.heap.size,6,none⟩),.slice ma ml mc,.func (.func 194) #[] #[.pointer (some ⟨w.heap.size+1+1+1,0,none⟩)],.int .i64 x.1,macv x.2.1,undef,undef,undef,undef,undef],defers:=[] })
  (fun x a' _ X Y row hs hg hr=>by
   obtain ⟨Bx,h1,h2,h3⟩:=hs
   refine ⟨Bx,h1,(hg.block Bx h2.lt (fun e=>?_)).trans h2,h3⟩
   obtain ⟨_,o,ho,hc⟩:=hr Bx e.symm
   rw [show X.heap[Bx]? = _ from h2] at ho
   cases ho
   cases hc)
  ?assign ?body ?done ?stop
 case assign=>
  rintro lp pre ⟨i,⟨⟨nm,me,cp,se⟩,hnm⟩⟩ W K ⟨hI,hB⟩ hK
  have hlt:=hI.2.lt
  gi_wp2
  exact hK _ _ ((KeepsOthers.alloc _ _).from _) (kpa_below (yA (yH _ W) _)) ⟨hI.below (yA (yH _ W) _),yA hB _⟩ ⟨W.heap.size,hlt,yD W _ _,rfl⟩
 case body=>
  rintro lp pre ⟨i,⟨⟨nm,me,cp,se⟩,hnm⟩⟩ a' W hlp _ ⟨hI,hB⟩ ⟨Bx,hBx,hX,rfl⟩ hlt
  have HI:=hide hI
  have HX:=hide hX
  have HB:=hide hB
  have x0:=hX.at 0
  have x1:=hX.at 1
  have x2:=hX.at 2
  have x3:=hX.at 3
  have v0:=hI.2.at 0
  simp at x0 x1 x2 x3 v0
  have hpl:pre.length<1048576:=by have:=uH HL;omega
  clear hI hX hB
  have hnm':nm.length≤1048576:=hnm
  obtain ⟨kl,hkey⟩:=keyKey (nm:=nm) (k:=0) (by omega) (by decide)
  have HKEY:=hide hkey
  clear hkey
  gi_wp2_with fail
  gi_region_with_o (first | (first | refine ⟨trivial,?_⟩ | skip);(first | refine ⟨(by intro e;cases e),?_⟩ | skip);refine (CallsIn.inRound lp (callsIn_wide.2 (macKey_any ⟨nm,me,cp,se⟩ _))).mono ?_;rintro e wc ⟨rfl,hbc⟩;have HW3:=hide (yB (yH _ W).drew hbc);have y0:=((uH HX).below (uH HW3)).at 0;have y1:=((uH HX).below (uH HW3)).at 1;have y2:=((uH HX).below (uH HW3)).at 2;have y3:=((uH HX).below (uH HW3)).at 3;have u0:=((uH HI).below (uH HW3)).2.at 0;simp at y0 y1 y2 y3 u0;obtain ⟨D,hown,hk⟩:=((uH HI).below (uH HW3)).1;obtain ⟨w4,hrun,hown2,hgrow2⟩:=hown.update keyLaw Tryz.underlying156 (by unfold maxLen;simp;omega) (uH HKEY) (macElem_mk ⟨nm,me,cp,se⟩);have HFIN:=hide (And.intro hown2 (And.intro hgrow2 (KnownM.put (m:=⟨nm,me,cp,se⟩) hk hown.isMap (uH HKEY))));clear hown2 hgrow2 hk hown hbc)
  all_goals gi_wp2
  all_goals
   obtain ⟨f1,f2,f3⟩:=uH HFIN
   have hbelow:=(uH HW3)
   have hv4:=(f2.block _ ((uH HI).below hbelow).2.lt (by simp)).trans ((uH HI).below hbelow).2
   have hmi:MapInv w (⟨nm,me,cp,se⟩::(pre.map (fun x:Int×NMac=>x.2.1)).reverse) w4:=⟨⟨_,f1,f3⟩,hv4⟩
   refine ⟨((keepsO_below hbelow).from _).trans (KeepsFrom.of_grownBy f2 (fun j e=>by cases e;omega)),kpa_t (kpa_below hbelow) (fun k o ho hc=>(f2.block k (lt_of_block ho) (fun e=>?_)).trans ho),by simpa using hmi,?_⟩
   ·obtain ⟨D',hD',_⟩:=((uH HI).below hbelow).1
    obtain ⟨es,ck,hm',_⟩:=hD'
    obtain rfl:k=w.heap.size+1:=by simpa using e
    rw [hm'] at ho
    cases ho
    cases hc
   ·exact ((uH HB).trans (hbelow.mono (uH HB).size)).grown f2 (by have:=(uH HB).size;have:=hbelow.size;omega) (fun k e=>by cases e;omega)
 case done=>
  rintro D ys W hD hys ⟨hI,hB⟩ hK
  rw [uH hys,List.reverse_reverse] at hI
  have v0:=hI.2.at 0
  simp at v0
  have HI:=hide hI
  have HB:=hide hB
  clear hI hB
  gi_wp2
  refine ⟨by simp,.inl ⟨_,_,rfl,run_takeDeferred hK,?_⟩⟩
  exact ⟨_,results_tmp rfl _ _ _,rfl,(uH HI).grown (grownBy_putObj' W D _) (fun r e=>by cases e;omega),(uH HB).trans (belowK_b (w:=w) (yJ _) W D _ _ (by omega) hK rfl rfl)⟩
 case stop=>
  rintro D c pre W _ _ h _
  exact h.elim
theorem machines_ex (x:Sls) (s:St) (w:World) (h:MacRow w x.ma x.ml s.ms) (hl:x.ml≤1048576) (hn:∀m ∈ s.ms,m.name.length≤1048576) :
  Calls Tryz.prog 122 #[sv x s] w fun e w'=>∃bm,e=.returned (.map (some bm))∧(w.heap.size≤bm∧∃D,w'.ownsMap Tryz.prog 160 macElem bm s.ms.length D∧KnownM s.ms D)∧Below w.heap.size w w':=
 (machines_any x s w h hl hn).mono fun e w' ⟨h1,h2,h3⟩=>⟨_,h1,⟨by omega,h2.1⟩,h3⟩
end
section
open Go.RowKit Go.Maps
def macFrom (nm:List UInt8):List Mac→Nat→Int
 | [],_=>-1
 | q::t,k=>if q.name=nm then k else macFrom nm t (k+1)
def macAt (l:List Mac) (nm:List UInt8):Int:=macFrom nm l 0
theorem macFrom_step {nm:List UInt8} {l:List Mac} {k:Nat} (h:k<l.length):macFrom nm (l.drop k) k=if l[k].name=nm then (k:Int) else macFrom nm (l.drop (k+1)) (k+1):=by
 rw [List.drop_eq_getElem_cons h,macFrom]
theorem macFrom_end {nm:List UInt8} {l:List Mac} {k:Nat} (h:l.length≤k):macFrom nm (l.drop k) k = -1:=by
 rw [List.drop_of_length_le h];rfl
theorem macFrom_find (nm:List UInt8):∀(l:List Mac) (k:Nat),(findM nm l=none∧macFrom nm l k = -1)∨(∃(j:Nat) (h:j<l.length),findM nm l=some l[j]∧macFrom nm l k=((k+j:Nat):Int))
 | [],k=>.inl ⟨rfl,rfl⟩
 | q::t,k=>by
  by_cases h:q.name=nm
  ·right
   exact ⟨0,by simp,by simp [findM,h],by rw [macFrom,if_pos h];simp⟩
  ·have hf:findM nm (q::t)=findM nm t:=by simp [findM,h]
   rw [hf,macFrom,if_neg h]
   rcases macFrom_find nm t (k+1) with ⟨a,b⟩ | ⟨j,hj,a,b⟩
   ·exact .inl ⟨a,b⟩
   ·exact .inr ⟨j+1,by simpa using hj,by simpa using a,by rw [b];congr 1;omega⟩
theorem macAt_find (nm:List UInt8) (l:List Mac):(findM nm l=none∧macAt l nm = -1)∨(∃(j:Nat) (h:j<l.length),findM nm l=some l[j]∧macAt l nm=(j:Int)):=by
 rcases macFrom_find nm l 0 with h | ⟨j,h,a,b⟩
 ·exact .inl h
 ·exact .inr ⟨j,h,a,by rw [macAt,b];congr 1;omega⟩
theorem l04Machine_any (x:Sls) (s:St) (nm:List UInt8) (w:World) (h:MacRow w x.ma x.ml s.ms) (hl:x.ml≤1048576) :
  Calls Tryz.prog 56 #[sv x s,.string (bs nm)] w fun e w'=>e=.returned (.int .i64 (macAt s.ms nm))∧Below w.heap.size w w':=by
 have HR:=hide h
 have HL:=hide h.1
 have HB0:=hide (yA (yH _ w) (.cells (svc x s) 36))
 have P0:=hide (yD w (svc x s) 36)
 clear h
 obtain ⟨qa,ql,qc,aa,al,ac,ma,ml,mc,ca,cl,cc⟩:=x
 obtain ⟨qs,clock,epoch,next,serial,apps,ms,cs⟩:=s
 simp only at hl HR HL ⊢
 go_enter Tryz.func56,Tryz.ntmps56
 go_wp2
 go_loopw [5] (fun i wr=>∃(k:Nat),k≤ml∧i=.int .i64 k∧Hid (macAt ms nm=macFrom nm (ms.drop k) k)∧Hid (Blk wr w.heap.size (svc ⟨qa,ql,qc,aa,al,ac,ma,ml,mc,ca,cl,cc⟩ ⟨qs,clock,epoch,next,serial,apps,ms,cs⟩) 36)∧Hid (Below w.heap.size w wr)) (fun i _=>ml - (intOf i).toNat)
 case atStart=>exact ⟨0,Nat.zero_le _,rfl,hide (by simp [macAt]),P0,HB0⟩
 case round=>
  obtain ⟨k,hk,rfl,HQ,HP,HB⟩:=hrel
  have p6:=(uH HP).at 6
  simp at p6
  by_cases hlt:k<ml
  ·obtain ⟨b,off,rfl,hq⟩:=((uH HR).below (uH HB)).at hlt
   have hkl:k<ms.length:=by have:=uH HL;omega
   have hst:=hide (macFrom_step (nm:=nm) hkl)
   have c0:=(hq hkl).1
   clear hq
   obtain ⟨s,hs⟩:∃s,ms[k].name=s:=⟨_,rfl⟩
   rw [hs] at c0 hst
   have hbe:=bs_eq s nm
   clear hs hkl
   by_cases he:s=nm
   ·have HE:=hide he
    rw [decide_eq_true he] at hbe
    clear he
    go_wp2
    go_ret
    exact ⟨ret_int (by rw [uH HQ,uH hst,if_pos (uH HE)]),uH HB⟩
   ·have HE:=hide he
    rw [decide_eq_false he] at hbe
    clear he
    go_wp2
    go_roundw
    case rel=>exact ⟨k+1,by omega,by go_num,hide (by rw [uH HQ,uH hst,if_neg (uH HE)]),HP,HB⟩
    case measure=>simp [intOf];omega
  ·go_wp2
   go_ret
   exact ⟨ret_int (by rw [uH HQ,macFrom_end (by have:=uH HL;omega)]),uH HB⟩
end
end Go.Proofs.YtokabeokclpljaaGreat
