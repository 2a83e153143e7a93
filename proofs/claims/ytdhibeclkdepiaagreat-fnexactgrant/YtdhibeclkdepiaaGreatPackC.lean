/-
  Several texts of this claim in one, made short by program: HpW, HeldK, TakeD, StrS, SOwn, InsT, StdI.
-/
import Derived.Test.YtdhibeclkdepiaaGreatPackB
import Derived.LoopTactic
import Derived.Below
import Derived.Laws.Pointers
import Derived.KernelRfl
import Derived.Lib.ItoaMem
set_option maxRecDepth 100000
set_option maxHeartbeats 16000000
set_option linter.unusedVariables false
set_option linter.unusedSimpArgs false
namespace Go.Proofs.YtdhibeclkdepiaaGreat
section
open Go.RowKit HeapM
theorem nilchk (a:Addr) (nm:String) (w:World):(Builtin.ssaWrapNilChk_ #[200] 200 #[.pointer (some a),strVal "",strVal nm]).run Tryz.prog w=.ok (.pointer (some a)) w:=rfl
theorem m_less (g:Nat) (w:World) (x y:Value) (h:w.heap[g]? = some (.cells #[x,y] 205 (0,0))):(method 370 200 (.pointer (some ⟨g,0,none⟩)) "Less").run Tryz.prog w=.ok (231,.agg #[x,y]) w:=by
 have h0:w.cell? ⟨g,0,none⟩=some x:=by simp [World.cell?,h]
 have h1:w.cell? ⟨g,1,none⟩=some y:=by simp [World.cell?,h]
 have hmap:(Array.find? (fun x=>x.name == "Less") Tryz.t200.methods).map (fun m=>(m.path.toList,m.func))=some ([],some (231,false)):=by kernel_rfl
 obtain ⟨m,hm,he⟩:=Option.map_eq_some_iff.1 hmap
 simp only [Prod.mk.injEq] at he
 obtain ⟨hp,hf⟩:=he
 unfold method
 have hp':m.path=#[]:=Array.toList_eq_nil_iff.1 hp
 generalize (("Less".splitOn ".").getLastD "Less")=nm
 simp [go_sem,hm,hp',hf,follow,receiverAt,Place.get,nilchk,h0,h1]
theorem m_swap (g:Nat) (w:World) (x y:Value) (h:w.heap[g]? = some (.cells #[x,y] 205 (0,0))):(method 370 200 (.pointer (some ⟨g,0,none⟩)) "Swap").run Tryz.prog w=.ok (234,.agg #[x,y]) w:=by
 have h0:w.cell? ⟨g,0,none⟩=some x:=by simp [World.cell?,h]
 have h1:w.cell? ⟨g,1,none⟩=some y:=by simp [World.cell?,h]
 have hmap:(Array.find? (fun x=>x.name == "Swap") Tryz.t200.methods).map (fun m=>(m.path.toList,m.func))=some ([],some (234,false)):=by kernel_rfl
 obtain ⟨m,hm,he⟩:=Option.map_eq_some_iff.1 hmap
 simp only [Prod.mk.injEq] at he
 obtain ⟨hp,hf⟩:=he
 unfold method
 have hp':m.path=#[]:=Array.toList_eq_nil_iff.1 hp
 generalize (("Swap".splitOn ".").getLastD "Swap")=nm
 simp [go_sem,hm,hp',hf,follow,receiverAt,Place.get,nilchk,h0,h1]
structure HeapObj (A:Prop) {α:Type} (d:α) (ah:α→α→Bool) (g:Nat) (HI:World→List α→Prop) (V:World→α→Value→Prop):Prop where
 obj:∀w l,HI w l→∃x y,w.heap[g]? = some (.cells #[x,y] 205 (0,0))
 less:∀w l x y (i j:Nat),HI w l→w.heap[g]? = some (.cells #[x,y] 205 (0,0))→i<l.length→j<l.length→Calls Tryz.prog 231 #[.agg #[x,y],.int .i64 (i:Int),.int .i64 (j:Int)] w fun e w'=>e=.returned (.bool (ah (HeapM.at' d l i) (HeapM.at' d l j)))∧HI w' l
 swap:∀w l x y (i j:Nat),HI w l→w.heap[g]? = some (.cells #[x,y] 205 (0,0))→i<l.length→j<l.length→Calls Tryz.prog 234 #[.agg #[x,y],.int .i64 (i:Int),.int .i64 (j:Int)] w fun e w'=>e=.returned (.tuple #[])∧HI w' (HeapM.swapL d l i j)
 len:∀w l x y,HI w l→w.heap[g]? = some (.cells #[x,y] 205 (0,0))→Calls Tryz.prog 171 #[.agg #[x,y]] w fun e w'=>e=.returned (.int .i64 (l.length:Int))∧HI w' l
 push:A→∀w l a v,HI w l→V w a v→l.length<1000000→Calls Tryz.prog 233 #[.pointer (some ⟨g,0,none⟩),v] w fun e w'=>e=.returned (.tuple #[])∧HI w' (l++[a])
 pop:∀w l,HI w l→0<l.length→Calls Tryz.prog 232 #[.pointer (some ⟨g,0,none⟩)] w fun e w'=>(∃v,e=.returned v∧V w' (HeapM.at' d l (l.length - 1)) v)∧HI w' (l.take (l.length - 1))
theorem m_len (g:Nat) (w:World) (x y:Value) (h:w.heap[g]? = some (.cells #[x,y] 205 (0,0))):(method 370 200 (.pointer (some ⟨g,0,none⟩)) "Len").run Tryz.prog w=.ok (171,.agg #[x,y]) w:=by
 have h0:w.cell? ⟨g,0,none⟩=some x:=by simp [World.cell?,h]
 have h1:w.cell? ⟨g,1,none⟩=some y:=by simp [World.cell?,h]
 have hmap:(Array.find? (fun x=>x.name == "Len") Tryz.t200.methods).map (fun m=>(m.path.toList,m.func))=some ([],some (171,false)):=by kernel_rfl
 obtain ⟨m,hm,he⟩:=Option.map_eq_some_iff.1 hmap
 simp only [Prod.mk.injEq] at he
 obtain ⟨hp,hf⟩:=he
 unfold method
 have hp':m.path=#[]:=Array.toList_eq_nil_iff.1 hp
 generalize (("Len".splitOn ".").getLastD "Len")=nm
 simp [go_sem,hm,hp',hf,follow,receiverAt,Place.get,nilchk,h0,h1]
theorem m_push (g:Nat) (w:World):(method 370 200 (.pointer (some ⟨g,0,none⟩)) "Push").run Tryz.prog w=.ok (233,.pointer (some ⟨g,0,none⟩)) w:=by kernel_rfl
theorem m_pop (g:Nat) (w:World):(method 370 200 (.pointer (some ⟨g,0,none⟩)) "Pop").run Tryz.prog w=.ok (232,.pointer (some ⟨g,0,none⟩)) w:=by kernel_rfl
theorem up_any {A:Prop} {α:Type} {d:α} {ah:α→α→Bool} {g:Nat} {HI:World→List α→Prop} {V:World→α→Value→Prop} (H:HeapObj A d ah g HI V) (l:List α) (j:Nat) (w:World) (h:HI w l) (hj:j<l.length) (hl:l.length≤1000000) :
  Calls Tryz.prog 203 #[.iface 200 (.pointer (some ⟨g,0,none⟩)),.int .i64 (j:Int)] w fun e w'=>e=.returned (.tuple #[])∧HI w' (upL d ah (j+1) l j):=by
 have HH:=hide H
 have H0:=hide h
 obtain ⟨R,hR⟩:∃R,upL d ah (j+1) l j=R:=⟨_,rfl⟩
 rw [hR]
 have HR:=hide hR
 obtain ⟨n,hn⟩:∃n,l.length=n:=⟨_,rfl⟩
 have HN:=hide hn
 rw [hn] at hj hl
 clear H h hR hn
 go_enter Tryz.func203,Tryz.ntmps203
 go_wp2
 go_loopw [1] (fun v wr=>∃(i:Nat) (l':List α),v=.int .i64 (i:Int)∧i<n∧Hid (l'.length=n)∧Hid (HI wr l')∧Hid (upL d ah (i+1) l' i=R)) (fun v _=>(intOf v).toNat)
 case atStart=>exact ⟨j,l,rfl,hj,HN,H0,HR⟩
 case round=>
  obtain ⟨i,l',rfl,hi,HL,HI',HR'⟩:=hrel
  by_cases h0:i=0
  ·subst h0
   go_wp2
   go_end0
   have hr:=uH HR'
   rw [upL,if_pos rfl] at hr
   exact ⟨rfl,hr ▸ uH HI'⟩
  ·obtain ⟨x,y,hb⟩:=(uH HH).obj _ _ (uH HI')
   have hm:=m_less g wr x y hb
   have hp:=HeapM.par_lt (k:=i) (by omega)
   have C1:=hide ((uH HH).less wr l' x y i (HeapM.par i) (uH HI') hb (by have:=uH HL;omega) (by have:=uH HL;omega))
   have hq:((i:Int) - 1) / 2=((HeapM.par i:Nat):Int):=by unfold HeapM.par;omega
   have hne:¬((HeapM.par i:Nat):Int)=(i:Int):=by omega
   obtain ⟨b,hbe⟩:∃b,ah (HeapM.at' d l' i) (HeapM.at' d l' (HeapM.par i))=b:=⟨_,rfl⟩
   rw [hbe] at C1
   have hr:=uH HR'
   rw [upL,if_neg h0,hbe] at hr
   have HR2:=hide hr
   clear hr hbe
   go_wp2_with fail
   refine (uH C1).mono ?_
   rintro e w2 ⟨rfl,hi2⟩
   have HI2:=hide hi2
   clear hi2 C1 hm hb
   cases b
   ·go_wp2
    go_end0
    exact ⟨rfl,(uH HR2) ▸ uH HI2⟩
   ·obtain ⟨x2,y2,hb2⟩:=(uH HH).obj _ _ (uH HI2)
    have hm2:=m_swap g w2 x2 y2 hb2
    have C2:=hide ((uH HH).swap w2 l' x2 y2 (HeapM.par i) i (uH HI2) hb2 (by have:=uH HL;omega) (by have:=uH HL;omega))
    have HR3:=hide (show upL d ah i (HeapM.swapL d l' (HeapM.par i) i) (HeapM.par i)=R from by have:=uH HR2;simpa using this)
    clear hb2 HR2
    go_wp2_with fail
    refine (uH C2).mono ?_
    rintro e w3 ⟨rfl,hi3⟩
    have HI3:=hide hi3
    clear hi3 C2 hm2
    go_wp2
    go_roundw
    case rel=>exact ⟨HeapM.par i,HeapM.swapL d l' (HeapM.par i) i,rfl,by omega,hide (by rw [HeapM.swap_len];exact uH HL),HI3,hide (by rw [upL_fuel d ah (HeapM.par i+1) i _ _ (by omega) (by omega)];exact uH HR3)⟩
    case measure=>simp [intOf];omega
theorem down_any {A:Prop} {α:Type} {d:α} {ah:α→α→Bool} {g:Nat} {HI:World→List α→Prop} {V:World→α→Value→Prop} (H:HeapObj A d ah g HI V) (l:List α) (n:Nat) (w:World) (h:HI w l) (hn:n≤l.length) (hl:l.length≤1000000) :
  Calls Tryz.prog 205 #[.iface 200 (.pointer (some ⟨g,0,none⟩)),.int .i64 0,.int .i64 (n:Int)] w fun e w'=>∃b,e=.returned (.bool b)∧HI w' (downL d ah n (n+1) l 0):=by
 have HH:=hide H
 have H0:=hide h
 obtain ⟨R,hR⟩:∃R,downL d ah n (n+1) l 0=R:=⟨_,rfl⟩
 rw [hR]
 have HR:=hide hR
 obtain ⟨N,hN⟩:∃N,l.length=N:=⟨_,rfl⟩
 have HN:=hide hN
 rw [hN] at hn hl
 clear H h hR hN
 go_enter Tryz.func205,Tryz.ntmps205
 go_wp2
 go_loopw [7] (fun v wr=>∃(i:Nat) (l':List α),v=.int .i64 (i:Int)∧i≤n∧Hid (l'.length=N)∧Hid (HI wr l')∧Hid (downL d ah n (n - i+1) l' i=R)) (fun v _=>n - (intOf v).toNat)
 case atStart=>exact ⟨0,l,rfl,by omega,HN,H0,HR⟩
 case round=>
  obtain ⟨i,l',rfl,hi,HL,HI',HR'⟩:=hrel
  have hr:=uH HR'
  rw [downL] at hr
  by_cases h0:n≤2*i+1
  ·rw [if_pos h0] at hr
   have HR2:=hide hr
   have h1:(n:Int)≤2*(i:Int)+1:=by omega
   clear hr
   go_wp2
   go_ret
   exact ⟨_,rfl,(uH HR2) ▸ uH HI'⟩
  ·rw [if_neg h0] at hr
   have HR2:=hide hr
   clear hr
   have hk:=kid_lt (d:=d) (ah:=ah) (l:=l') h0
   have h1:¬(n:Int)≤2*(i:Int)+1:=by omega
   have h1':decide ((n:Int)≤2*(i:Int)+1)=false:=by simp;omega
   have HREST:=hide (fun (wr:World) (hi2:HI wr l')=>hi2)
   by_cases h2:2*i+2<n
   ·obtain ⟨x,y,hb⟩:=(uH HH).obj _ _ (uH HI')
    have hm:=m_less g wr x y hb
    have C1:=hide ((uH HH).less wr l' x y (2*i+2) (2*i+1) (uH HI') hb (by have:=uH HL;omega) (by have:=uH HL;omega))
    have e1:((2*i+2:Nat):Int)=2*(i:Int)+1+1:=by omega
    have e2:((2*i+1:Nat):Int)=2*(i:Int)+1:=by omega
    rw [e1,e2] at C1
    have h3:2*(i:Int)+1+1<(n:Int):=by omega
    obtain ⟨b,hbe⟩:∃b,ah (HeapM.at' d l' (2*i+2)) (HeapM.at' d l' (2*i+1))=b:=⟨_,rfl⟩
    rw [hbe] at C1
    have HK:=hide (show kidL d ah n l' i=if b=true then 2*i+2 else 2*i+1 by unfold kidL;rw [hbe];simp [h2])
    clear hbe e1 e2
    go_wp2_with fail
    refine (uH C1).mono ?_
    rintro e w2 ⟨rfl,hi2⟩
    have HI2:=hide hi2
    clear hi2 C1 hm hb
    cases b
    ·have hk2:kidL d ah n l' i=2*i+1:=by have:=uH HK;simpa using this
     have hr:=uH HR2
     rw [hk2] at hr
     obtain ⟨x2,y2,hb2⟩:=(uH HH).obj _ _ (uH HI2)
     have hm2:=m_less g w2 x2 y2 hb2
     have C2:=hide ((uH HH).less w2 l' x2 y2 (2*i+1) i (uH HI2) hb2 (by have:=uH HL;omega) (by have:=uH HL;omega))
     have e3:((2*i+1:Nat):Int)=2*(i:Int)+1:=by omega
     rw [e3] at C2
     obtain ⟨c,hc⟩:∃c,ah (HeapM.at' d l' (2*i+1)) (HeapM.at' d l' i)=c:=⟨_,rfl⟩
     rw [hc] at C2 hr
     have HR3:=hide hr
     clear hr hc hb2 HR2
     go_wp2_with fail
     refine (uH C2).mono ?_
     rintro e w3 ⟨rfl,hi3⟩
     have HI3:=hide hi3
     clear hi3 C2 hm2
     cases c
     ·go_wp2
      go_ret
      exact ⟨_,rfl,(show l'=R by have:=uH HR3;simpa using this) ▸ uH HI3⟩
     ·obtain ⟨x4,y4,hb4⟩:=(uH HH).obj _ _ (uH HI3)
      have hm4:=m_swap g w3 x4 y4 hb4
      have C4:=hide ((uH HH).swap w3 l' x4 y4 i (2*i+1) (uH HI3) hb4 (by have:=uH HL;omega) (by have:=uH HL;omega))
      rw [e3] at C4
      have HR4:=hide (show downL d ah n (n - i) (HeapM.swapL d l' i (2*i+1)) (2*i+1)=R from by have:=uH HR3;simpa using this)
      clear hb4 HR3
      go_wp2_with fail
      refine (uH C4).mono ?_
      rintro e w4 ⟨rfl,hi4⟩
      have HI4:=hide hi4
      clear hi4 C4 hm4
      go_wp2
      go_roundw
      case rel=>exact ⟨2*i+1,HeapM.swapL d l' i (2*i+1),by rw [e3],by omega,hide (by rw [HeapM.swap_len];exact uH HL),HI4,hide (by rw [downL_fuel d ah n (n - (2*i+1)+1) (n - i) _ _ (by omega) (by omega)];exact uH HR4)⟩
      case measure=>simp [intOf];omega
    ·have hk2:kidL d ah n l' i=2*i+2:=by have:=uH HK;simpa using this
     have hr:=uH HR2
     rw [hk2] at hr
     obtain ⟨x2,y2,hb2⟩:=(uH HH).obj _ _ (uH HI2)
     have hm2:=m_less g w2 x2 y2 hb2
     have C2:=hide ((uH HH).less w2 l' x2 y2 (2*i+2) i (uH HI2) hb2 (by have:=uH HL;omega) (by have:=uH HL;omega))
     have e3:((2*i+2:Nat):Int)=2*(i:Int)+1+1:=by omega
     rw [e3] at C2
     obtain ⟨c,hc⟩:∃c,ah (HeapM.at' d l' (2*i+2)) (HeapM.at' d l' i)=c:=⟨_,rfl⟩
     rw [hc] at C2 hr
     have HR3:=hide hr
     clear hr hc hb2 HR2
     go_wp2_with fail
     refine (uH C2).mono ?_
     rintro e w3 ⟨rfl,hi3⟩
     have HI3:=hide hi3
     clear hi3 C2 hm2
     cases c
     ·go_wp2
      go_ret
      exact ⟨_,rfl,(show l'=R by have:=uH HR3;simpa using this) ▸ uH HI3⟩
     ·obtain ⟨x4,y4,hb4⟩:=(uH HH).obj _ _ (uH HI3)
      have hm4:=m_swap g w3 x4 y4 hb4
      have C4:=hide ((uH HH).swap w3 l' x4 y4 i (2*i+2) (uH HI3) hb4 (by have:=uH HL;omega) (by have:=uH HL;omega))
      rw [e3] at C4
      have HR4:=hide (show downL d ah n (n - i) (HeapM.swapL d l' i (2*i+2)) (2*i+2)=R from by have:=uH HR3;simpa using this)
      clear hb4 HR3
      go_wp2_with fail
      refine (uH C4).mono ?_
      rintro e w4 ⟨rfl,hi4⟩
      have HI4:=hide hi4
      clear hi4 C4 hm4
      go_wp2
      go_roundw
      case rel=>exact ⟨2*i+2,HeapM.swapL d l' i (2*i+2),by rw [e3],by omega,hide (by rw [HeapM.swap_len];exact uH HL),HI4,hide (by rw [downL_fuel d ah n (n - (2*i+2)+1) (n - i) _ _ (by omega) (by omega)];exact uH HR4)⟩
      case measure=>simp [intOf];omega
   ·have h3:¬2*(i:Int)+1+1<(n:Int):=by omega
    have hk2:kidL d ah n l' i=2*i+1:=by unfold kidL;rw [if_neg (by omega)]
    have hr:=uH HR2
    rw [hk2] at hr
    obtain ⟨x2,y2,hb2⟩:=(uH HH).obj _ _ (uH HI')
    have hm2:=m_less g wr x2 y2 hb2
    have C2:=hide ((uH HH).less wr l' x2 y2 (2*i+1) i (uH HI') hb2 (by have:=uH HL;omega) (by have:=uH HL;omega))
    have e3:((2*i+1:Nat):Int)=2*(i:Int)+1:=by omega
    rw [e3] at C2
    obtain ⟨c,hc⟩:∃c,ah (HeapM.at' d l' (2*i+1)) (HeapM.at' d l' i)=c:=⟨_,rfl⟩
    rw [hc] at C2 hr
    have HR3:=hide hr
    clear hr hc hb2 HR2
    go_wp2_with fail
    refine (uH C2).mono ?_
    rintro e w3 ⟨rfl,hi3⟩
    have HI3:=hide hi3
    clear hi3 C2 hm2
    cases c
    ·go_wp2
     go_ret
     exact ⟨_,rfl,(show l'=R by have:=uH HR3;simpa using this) ▸ uH HI3⟩
    ·obtain ⟨x4,y4,hb4⟩:=(uH HH).obj _ _ (uH HI3)
     have hm4:=m_swap g w3 x4 y4 hb4
     have C4:=hide ((uH HH).swap w3 l' x4 y4 i (2*i+1) (uH HI3) hb4 (by have:=uH HL;omega) (by have:=uH HL;omega))
     rw [e3] at C4
     have HR4:=hide (show downL d ah n (n - i) (HeapM.swapL d l' i (2*i+1)) (2*i+1)=R from by have:=uH HR3;simpa using this)
     clear hb4 HR3
     go_wp2_with fail
     refine (uH C4).mono ?_
     rintro e w4 ⟨rfl,hi4⟩
     have HI4:=hide hi4
     clear hi4 C4 hm4
     go_wp2
     go_roundw
     case rel=>exact ⟨2*i+1,HeapM.swapL d l' i (2*i+1),by rw [e3],by omega,hide (by rw [HeapM.swap_len];exact uH HL),HI4,hide (by rw [downL_fuel d ah n (n - (2*i+1)+1) (n - i) _ _ (by omega) (by omega)];exact uH HR4)⟩
     case measure=>simp [intOf];omega
theorem downL_len {α:Type} (d:α) (ah:α→α→Bool) (n:Nat):∀(f:Nat) (l:List α) (i:Nat),(downL d ah n f l i).length=l.length
 | 0,_,_=>rfl
 | f+1,l,i=>by
  rw [downL]
  split
  ·rfl
  ·split
   ·rw [downL_len d ah n f,HeapM.swap_len]
   ·rfl
theorem push_any {A:Prop} {α:Type} {d:α} {ah:α→α→Bool} {g:Nat} {HI:World→List α→Prop} {V:World→α→Value→Prop} (H:HeapObj A d ah g HI V) (hA:A) (l:List α) (a:α) (v:Value) (w:World) (h:HI w l) (hv:V w a v) (hl:l.length<1000000) :
  Calls Tryz.prog 191 #[.iface 200 (.pointer (some ⟨g,0,none⟩)),v] w fun e w'=>e=.returned (.tuple #[])∧HI w' (upL d ah (l.length+1) (l++[a]) l.length):=by
 have HH:=hide H
 have hm:=m_push g w
 have C1:=hide (H.push hA w l a v h hv hl)
 clear H h hv
 go_enter Tryz.func191,Tryz.ntmps191
 go_wp2_with fail
 refine (uH C1).mono ?_
 rintro e w2 ⟨rfl,hi2⟩
 obtain ⟨x,y,hb⟩:=(uH HH).obj _ _ hi2
 have hm2:=m_len g w2 x y hb
 have C2:=(uH HH).len w2 _ x y hi2 hb
 rw [List.length_append,List.length_singleton] at C2
 have HC2:=hide C2
 clear C2 C1 hm hb hi2
 go_wp2_with fail
 refine (uH HC2).mono ?_
 rintro e w3 ⟨rfl,hi3⟩
 have C3:=up_any (uH HH) (l++[a]) l.length w3 hi3 (by simp) (by simp;omega)
 have HC3:=hide C3
 have e1:(((l.length+1:Nat):Int) - 1)=(l.length:Int):=by omega
 clear C3 HC2 hm2 hi3
 go_wp2_with fail
 refine (uH HC3).mono ?_
 rintro e w4 ⟨rfl,hi4⟩
 have HI4:=hide hi4
 clear hi4
 go_wp2
 go_end0
 exact ⟨rfl,uH HI4⟩
theorem pop_any {A:Prop} {α:Type} {d:α} {ah:α→α→Bool} {g:Nat} {HI:World→List α→Prop} {V:World→α→Value→Prop} (H:HeapObj A d ah g HI V) (l:List α) (w:World) (h:HI w l) (h0:0<l.length) (hl:l.length≤1000000) :
  Calls Tryz.prog 193 #[.iface 200 (.pointer (some ⟨g,0,none⟩))] w fun e w'=>(∃v,e=.returned v∧V w' (HeapM.at' d (HeapM.popL d ah l) (l.length - 1)) v)∧HI w' ((HeapM.popL d ah l).take (l.length - 1)):=by
 have HH:=hide H
 obtain ⟨n,hn⟩:∃n,l.length=n+1:=⟨l.length - 1,by omega⟩
 have ep:l.length - 1=n:=by omega
 have en:(((n+1:Nat):Int) - 1)=(n:Int):=by omega
 obtain ⟨x,y,hb⟩:=H.obj _ _ h
 have hm:=m_len g w x y hb
 have C1:=H.len w _ x y h hb
 rw [hn] at C1
 have HC1:=hide C1
 have HP:=hide (show HeapM.popL d ah l=downL d ah n (n+1) (HeapM.swapL d l 0 n) 0 by unfold HeapM.popL;rw [ep])
 rw [ep]
 clear H h hb C1
 go_enter Tryz.func193,Tryz.ntmps193
 go_wp2_with fail
 refine (uH HC1).mono ?_
 rintro e w2 ⟨rfl,hi2⟩
 obtain ⟨x2,y2,hb2⟩:=(uH HH).obj _ _ hi2
 have hm2:=m_swap g w2 x2 y2 hb2
 have HC2:=hide ((uH HH).swap w2 l x2 y2 0 n hi2 hb2 (by omega) (by omega))
 clear HC1 hm hb2 hi2
 go_wp2_with fail
 refine (uH HC2).mono ?_
 rintro e w3 ⟨rfl,hi3⟩
 have HC3:=hide (down_any (uH HH) _ n w3 hi3 (by rw [HeapM.swap_len];omega) (by rw [HeapM.swap_len];omega))
 clear HC2 hm2 hi3
 go_wp2_with fail
 refine (uH HC3).mono ?_
 rintro e w4 ⟨b,rfl,hi4⟩
 rw [←uH HP] at hi4
 have e4:(HeapM.popL d ah l).length=n+1:=by rw [uH HP,downL_len,HeapM.swap_len,hn]
 have C4:=(uH HH).pop w4 _ hi4 (by omega)
 rw [e4] at C4
 have HC4:=hide C4
 have hm4:=m_pop g w4
 clear HC3 hi4 C4
 go_wp2_with fail
 refine (uH HC4).mono ?_
 rintro e w5 ⟨⟨v,rfl,hv⟩,hi5⟩
 have HI5:=hide hi5
 have HV:=hide hv
 clear hi5 hv
 go_wp2
 go_ret
 exact ⟨⟨_,rfl,uH HV⟩,uH HI5⟩
end
section
open Go.RowKit
structure Holds (S:World→Prop) (w0:World) (n:Nat):Prop where
 call:∀{wx wy:World},S wx→Below wx.heap.size wx wy→S wy
 set:∀{wx:World} (k j:Nat) (v:Value),S wx→n≤k→S (wx.setCell ⟨k,j,none⟩ v)
 size:∀{wx:World},S wx→n≤wx.heap.size
 below:∀{wx:World},S wx→Below w0.heap.size w0 wx
theorem Holds.drew {S:World→Prop} {w0:World} {n:Nat} (h:Holds S w0 n) {wx:World} (hs:S wx):S wx.drew:=h.call hs (Below.refl _ _).drew
theorem Holds.al {S:World→Prop} {w0:World} {n:Nat} (h:Holds S w0 n) {wx:World} (hs:S wx) (o:Obj):S (wx.alloc o):=h.call hs (yA (Below.refl _ _) o)
theorem Holds.set2 {S:World→Prop} {w0:World} {n:Nat} (h:Holds S w0 n) {wx:World} (hs:S wx) (k:Nat) (a b:Value) (hk:n≤k):S ((wx.setCell ⟨k,0,none⟩ a).setCell ⟨k,1,none⟩ b):=h.set k 1 b (h.set k 0 a hs hk) hk
def Kp (w1 wx:World):Prop:=Below w1.heap.size w1 wx
theorem kp_holds (w1:World):Holds (Kp w1) w1 w1.heap.size where
 call:=fun h hb=>yB h hb
 set:=fun k j v h hk=>yC h _ _ _ hk
 size:=fun h=>h.size
 below:=fun h=>h
theorem Kp.cell {w1 wx:World} (h:Kp w1 wx) {b j:Nat} {v:Value} (hc:w1.cell? ⟨b,j,none⟩=some v):wx.cell? ⟨b,j,none⟩=some v:=(Below.cell h (p:=⟨b,j,none⟩) (yG hc)).trans hc
theorem Kp.new (w1:World):Kp w1 w1:=Below.refl _ _
theorem takeD {P:Program} {ops:Array Oper} {Q:Exit→Act→World→Prop} {md:Region.Mode} {S:World→Prop} {i:Nat} {oi:Oper} {v:Value} {d:Option Tmp} {fuel:Nat} {listed:Array Bool} {a:Act} {w:World} (hi:ops[i]? = some oi) (hd:oi.dst=d)
  (hs:Region.noSelect ops=true) (hf:Region.free md ops listed i=true) (hr:(Region.ready md ops listed).contains i=true)
  (hQ:∀c a w,Q (.panic c) (a.put d v) w→Q (.panic c) a w) (hy:YieldsIf P ops S oi v a) (hS:S w)
  (h:wpAnyH P md ops Q S fuel (listed.setIfInBounds i true) (a.put d v) w):wpAnyH P md ops Q S (fuel+1) listed a w:=by
 subst hd
 exact wpAnyH_take hi hs hf hr hQ hy hS h
theorem takeU {P:Program} {ops:Array Oper} {Q:Exit→Act→World→Prop} {md:Region.Mode} {S:World→Prop} {oi:Oper} {fuel:Nat} {listed:Array Bool} {a:Act} {w:World} (i d:Nat) (hi:ops[i]? = some oi) (hd:oi.dst=some d) (hS:S w)
  (h:wpAnyH P md ops Q S fuel (listed.setIfInBounds i true) (a.put (some d) undef) w)
  (hs:Region.noSelect ops=true:=by kernel_rfl) (hf:Region.free md ops listed i=true:=by kernel_rfl) (hr:(Region.ready md ops listed).contains i=true:=by kernel_rfl)
  (hQ:∀c a w,Q (.panic c) (a.put (some d) undef) w→Q (.panic c) a w:=by exact fun _ _ _ h=>h) (hw:Region.wanted oi (yielded ops a.tmps)=false:=by kernel_rfl):wpAnyH P md ops Q S (fuel+1) listed a w:=
 takeD hi hd hs hf hr hQ (Or.inr ⟨hw,rfl⟩) hS h
theorem takeW {P:Program} {ops:Array Oper} {Q:Exit→Act→World→Prop} {md:Region.Mode} {S:World→Prop} {oi:Oper} {fuel:Nat} {listed:Array Bool} {a:Act} {w:World} (i d:Nat) (v:Value) (hi:ops[i]? = some oi) (hd:oi.dst=some d) (hS:S w)
  (h:wpAnyH P md ops Q S fuel (listed.setIfInBounds i true) (a.put (some d) v) w)
  (hs:Region.noSelect ops=true:=by kernel_rfl) (hf:Region.free md ops listed i=true:=by kernel_rfl) (hr:(Region.ready md ops listed).contains i=true:=by kernel_rfl)
  (hQ:∀c a w,Q (.panic c) (a.put (some d) v) w→Q (.panic c) a w:=by exact fun _ _ _ h=>h) (hy:YieldsIf P ops S oi v a:=by exact Or.inl ⟨by rfl,fun wz hz=>by (go_simp;try with_reducible rfl)⟩):wpAnyH P md ops Q S (fuel+1) listed a w:=
 takeD hi hd hs hf hr hQ hy hS h
def SS (w:World) (g cap:Nat) (xs:List ByteArray):Prop:=w.ownsRow g 9 1 (.slice (some ⟨g,0,none⟩) xs.length cap) xs.length (xs.map Value.string)
theorem SS.cell {w:World} {g cap:Nat} {xs:List ByteArray} (h:SS w g cap xs) (j:Nat) (hj:j<xs.length):w.cell? ⟨g,j,none⟩=some (.string xs[j]):=by
 have:=World.ownsRow.cellAt h j (by omega)
 rw [this];simp [hj]
theorem SS.frozen {w:World} {g cap:Nat} {xs:List ByteArray} (h:SS w g cap xs) (j:Nat):w.frozen? ⟨g,j,none⟩=false:=World.ownsRow.frozenAt h j
theorem SS.block {w:World} {g cap:Nat} {xs:List ByteArray} (h:SS w g cap xs):∃cur,w.heap[g]? = some (.cells cur 9 (0,0))∧xs.length≤cap∧cap≤maxLen∧cur.size=cap∧cur.toList.take xs.length=xs.map Value.string:=by
 rcases h.2 with ⟨h1,_⟩ | ⟨g',cap',cur,h1,_,h2,h3,h4,h5,h6⟩
 ·simp at h1
 ·simp only [Value.slice.injEq,Option.some.injEq,Addr.mk.injEq,and_true,true_and] at h1
  obtain ⟨rfl,rfl⟩:=h1
  exact ⟨cur,h2,h3,h4,by simpa using h5,by simpa using h6⟩
theorem SS.mk {w:World} {g cap:Nat} {xs:List ByteArray} {cur:Array Value} (h:w.heap[g]? = some (.cells cur 9 (0,0))) (h1:xs.length≤cap) (h2:cap≤maxLen) (h3:cur.size=cap) (h4:cur.toList.take xs.length=xs.map Value.string):SS w g cap xs:=
 ⟨by simp,.inr ⟨g,cap,cur,rfl,Nat.le_refl _,h,h1,h2,by simpa using h3,by simpa using h4⟩⟩
theorem SS.lt {w:World} {g cap:Nat} {xs:List ByteArray} (h:SS w g cap xs):g<w.heap.size:=by
 obtain ⟨cur,h1,_⟩:=h.block
 exact lt_of_block h1
theorem SS.same {w w':World} {g cap:Nat} {xs:List ByteArray} (h:SS w g cap xs) (hg:w'.heap[g]? = w.heap[g]?):SS w' g cap xs:=by
 obtain ⟨cur,h1,h2,h3,h4,h5⟩:=h.block
 exact SS.mk (hg.trans h1) h2 h3 h4 h5
theorem SS.below {w w':World} {B g cap:Nat} {xs:List ByteArray} (h:SS w g cap xs) (hb:Below B w w') (hg:g<B):SS w' g cap xs:=h.same (hb.block g hg)
theorem SS.set {w:World} {g cap:Nat} {xs:List ByteArray} (h:SS w g cap xs) (j:Nat) (hj:j<xs.length) (x:ByteArray):SS (w.setCell ⟨g,j,none⟩ (.string x)) g cap (xs.set j x):=by
 obtain ⟨cur,h1,h2,h3,h4,h5⟩:=h.block
 refine SS.mk (heap_setCell_same w g j cur _ _ h1) (by simpa using h2) h3 (by simpa using h4) ?_
 rw [List.length_set,Array.toList_setIfInBounds,List.take_set,h5,List.map_set]
abbrev scells (o:List ByteArray):List Value:=o.map Value.string
theorem Tryz.infoS:(Tryz.prog.info? 9).map (fun i=>(i.zero,i.size,i.bytes))=some (some (.string ByteArray.empty),1,16):=by kernel_rfl
theorem sown_empty (w:World):(w.alloc (.cells #[] 9)).ownsRow w.heap.size 9 1 (.slice (some ⟨w.heap.size,0,none⟩) 0 0) ([]:List ByteArray).length (scells []):=
 ⟨rfl,.inr ⟨w.heap.size,0,#[],rfl,Nat.le_refl _,by show (w.heap.push _)[w.heap.size]? = _;simp,Nat.le_refl _,by unfold maxLen;omega,rfl,rfl⟩⟩
theorem srow_step {w wr w1:World} {B:Nat} {v v':Value} {o:List ByteArray} {x:ByteArray} {ob:Obj} (hb:Below B w wr) (hown:wr.ownsRow B 9 1 v o.length (scells o))
  (h1:w1.ownsRow B 9 1 v' (o.length+1) (scells o++[.string x])) (hg:(wr.alloc ob).grownBy w1 v.ownBlock) (hB:B≤wr.heap.size) :
  w1.ownsRow B 9 1 v' (o++[x]).length (scells (o++[x]))∧Below B w w1:=by
 refine ⟨by simpa [scells] using h1,(hb.alloc hB ob).grown hg (by simp;omega) ?_⟩
 intro k hk
 rcases hown.2 with ⟨rfl,_⟩ | ⟨g,cap,cur,rfl,hg',_⟩
 ·simp [Value.ownBlock] at hk
 ·simp [Value.ownBlock] at hk;omega
theorem ss_of_owns {w:World} {B:Nat} {v:Value} {o:List ByteArray} (h:w.ownsRow B 9 1 v o.length (scells o)) (ho:1≤o.length):∃g cap,v=.slice (some ⟨g,0,none⟩) o.length cap∧SS w g cap o∧B≤g:=by
 rcases h.2 with ⟨_,h0⟩ | ⟨g,cap,cur,rfl,h1,h2,h3,h4,h5,h6⟩
 ·omega
 ·exact ⟨g,cap,rfl,SS.mk h2 h3 h4 (by simpa using h5) (by simpa using h6),h1⟩
theorem sown_below {w w':World} {B:Nat} {v:Value} {o:List ByteArray} (h:w.ownsRow B 9 1 v o.length (scells o)) (hb:Below w.heap.size w w'):w'.ownsRow B 9 1 v o.length (scells o):=
 h.kept (grownBy_below (grownBy_refl w none) hb) (by by_cases e:v.ownBlock=none;exact .inl e;exact .inr e)
def Texts (B:Nat) (w:World) (v:Value) (ps:List (List UInt8)):Prop:=w.ownsRow B 9 1 v (ps.map bs).length (scells (ps.map bs))
theorem Texts.of {B:Nat} {w:World} {v:Value} {ps:List (List UInt8)} {o:List ByteArray} (h:w.ownsRow B 9 1 v o.length (scells o)) (e:o=ps.map bs):Texts B w v ps:=by subst e;exact h
theorem Texts.below {w w':World} {B:Nat} {v:Value} {ps:List (List UInt8)} (h:Texts B w v ps) (hb:Below w.heap.size w w'):Texts B w' v ps:=sown_below h hb
def IRow (E:TypeId) (sz B:Nat) (w:World) (v:Value) (n:Nat) (xs:List Value):Prop:=w.ownsRow B E sz v n xs∧v≠.slice none 0 0
theorem irow_new {E:TypeId} {sz:Nat} {w1 w:World} (h:Below w1.heap.size w1 w):IRow E sz w1.heap.size (w.alloc (.cells #[] E)) (.slice (some ⟨w.heap.size,0,none⟩) 0 0) 0 []:=
 ⟨⟨by simp,.inr ⟨w.heap.size,0,#[],rfl,h.size,by show (w.heap.push _)[w.heap.size]? = _;simp,Nat.le_refl _,by unfold maxLen;omega,by simp,by simp⟩⟩,by simp⟩
theorem IRow.al {E:TypeId} {sz B n:Nat} {w:World} {v:Value} {xs:List Value} (h:IRow E sz B w v n xs) (o:Obj):IRow E sz B (w.alloc o) v n xs:=⟨h.1.alloc o,h.2⟩
theorem IRow.open {E:TypeId} {sz B n:Nat} {w:World} {v:Value} {xs:List Value} (h:IRow E sz B w v n xs):∃g cap,v=.slice (some ⟨g,0,none⟩) n cap∧B≤g∧w.ownsRow g E sz (.slice (some ⟨g,0,none⟩) n cap) n xs∧n≤cap:=by
 obtain ⟨⟨h1,h2⟩,h3⟩:=h
 rcases h2 with ⟨e,_⟩ | ⟨g,cap,cur,rfl,hg,hb,hc,k⟩
 ·exact absurd e h3
 ·exact ⟨g,cap,rfl,hg,⟨h1,.inr ⟨g,cap,cur,rfl,Nat.le_refl _,hb,hc,k⟩⟩,hc⟩
def IBox (E:TypeId) (w1 w:World) (gb:Nat) (c:Array Value):Prop:=w1.heap.size≤gb∧w.heap[gb]? = some (.cells c E (0,0))
theorem ibox_new {E:TypeId} {w1 w:World} (h:Below w1.heap.size w1 w) (c:Array Value):IBox E w1 (w.alloc (.cells c E)) w.heap.size c:=⟨h.size,by show (w.heap.push _)[w.heap.size]? = _;simp⟩
theorem IBox.lt {E:TypeId} {w1 w:World} {gb:Nat} {c:Array Value} (h:IBox E w1 w gb c):gb<w.heap.size:=(Array.getElem?_eq_some_iff.1 h.2).1
theorem IBox.al {E:TypeId} {w1 w:World} {gb:Nat} {c:Array Value} (h:IBox E w1 w gb c) (o:Obj):IBox E w1 (w.alloc o) gb c:=⟨h.1,by
 have:=h.lt
 show (w.heap.push o)[gb]? = _
 rw [Array.getElem?_push,if_neg (by omega)];exact h.2⟩
theorem IBox.same {E:TypeId} {w1 w w':World} {gb:Nat} {c:Array Value} (h:IBox E w1 w gb c) (e:w'.heap[gb]? = w.heap[gb]?):IBox E w1 w' gb c:=⟨h.1,e.trans h.2⟩
theorem IBox.news {E:TypeId} {w1 w:World} {gb:Nat} {c:Array Value} (h:IBox E w1 w gb c):∀i u,c.toList[i]? = some u→w.cell? (Addr.add ⟨gb,0,none⟩ i)=some u:=fun i u hu=>by
 rw [Lib.add_plain,Nat.zero_add]
 rw [Array.getElem?_toList] at hu
 simp [World.cell?,h.2,hu]
theorem ins_app {P:Program} {w1 w:World} {ops:Array Oper} {o:Oper} {a:Act} {K:Act→World→Prop} {Q:Exit→Act→World→Prop} {Ex:Prop} (hgd:o.guard=none) (s x:Operand) (t:TypeId)
  (ho:o.op=.call { callee:=.builtin .append,args:=#[s,x],argTypes:=#[t,t] })
  (E:TypeId) (i:TypeInfo) (z:Value) (size bytes:Nat) (ht:P.underlying t=some (.slice E)) (hi:P.info? E=some i) (hz:i.zero=some z)
  (hsize:i.size=size) (hby:i.bytes=bytes) (hzs:z.cells.size=size) (hsz:0<size)
  (v:Value) (n:Nat) (xs:List Value) (hs:a.eval s=v) (hr:IRow E size w1.heap.size w v n xs) (kp:Below w1.heap.size w1 w)
  (ad:Addr) (m c:Nat) (news:List Value) (hx:a.eval x=.slice (some ad) m c) (hl:news.length=m*size) (hnews:∀j u,news[j]? = some u→w.cell? (ad.add j)=some u) (h1:∀u ∈ news,u.oneCell'=true)
  (h63:n+m≤maxLen) (hbytes:(n+m)*bytes≤140737488355328)
  (h:∀v' w',IRow E size w1.heap.size w' v' (n+m) (xs++news)→Below w1.heap.size w1 w'→(∀k,k<w.heap.size→some k≠v.ownBlock→w'.heap[k]? = w.heap[k]?)→K (a.put o.dst v') w') :
  if Region.wanted o (yielded ops a.tmps)=true then Oper.wp P o a w K Q else Ex:=by
 have hw:Region.wanted o (yielded ops a.tmps)=true:=by simp [Region.wanted,hgd]
 rw [if_pos hw]
 refine wp_append_own w s x t ho w1.heap.size E i z size bytes ht hi hz hsize hby hzs hsz v n xs hs hr.1 ad m c news hx hl hnews h1 h63 hbytes kp.size ?_
 intro v' w' hown hg hn
 refine h v' w' ⟨hown,fun e=>hr.2 (hn.1 e).1⟩ (kp.grown hg kp.size ?_) (fun k hk hne=>hg.block k hk hne)
 intro k hk
 rcases hr.1.2 with ⟨rfl,_⟩ | ⟨g,cap,cur,rfl,hg',_⟩
 ·simp [Value.ownBlock] at hk
 ·simp [Value.ownBlock] at hk;omega
theorem owns_re {E:TypeId} {sz B n n':Nat} {w:World} {v:Value} {xs xs':List Value} (h:IRow E sz B w v n xs) (hn:n=n') (hx:xs=xs'):IRow E sz B w v n' xs':=by subst hn hx;exact h
def hiA (g cap k sz:Nat):Addr:=if cap=k then ⟨g,0,none⟩ else ⟨g,k*sz,none⟩
theorem hiA_at {g cap k sz:Nat} (h:k<cap) (i:Nat):(hiA g cap k sz).add i=⟨g,k*sz+i,none⟩:=by
 rw [hiA,if_neg (by omega),Lib.add_plain]
theorem cutS_lo (g n cap k:Nat) (hk:k≤cap) (wx:World):(Instr.slice 175 (.slice (some ⟨g,0,none⟩) n cap) none (some (.int .i64 (k:Int))) none).run Tryz.prog wx=.ok (.slice (some ⟨g,0,none⟩) k cap) wx:=by
 rw [run_slice_h (P:=Tryz.prog) (w:=wx) 175 (some ⟨g,0,none⟩) n cap Tryz.underlying175 .i64 (k:Int) (by omega) (by omega)]
 rw [show (sizeOf (Tryz.prog.elem 175)).run Tryz.prog wx=.ok 1 wx from by kernel_rfl]
 simp [Result.andThen,sliced,Addr.add]
theorem cutS_hi (g n cap k:Nat) (hk:k≤n) (wx:World):(Instr.slice 175 (.slice (some ⟨g,0,none⟩) n cap) (some (.int .i64 (k:Int))) none none).run Tryz.prog wx=.ok (.slice (some (hiA g cap k 1)) (n - k) (cap - k)) wx:=by
 rw [run_slice_l (P:=Tryz.prog) (w:=wx) 175 (some ⟨g,0,none⟩) n cap Tryz.underlying175 .i64 (k:Int) (by omega) (by omega)]
 rw [show (sizeOf (Tryz.prog.elem 175)).run Tryz.prog wx=.ok 1 wx from by kernel_rfl]
 simp only [Result.andThen,sliced,Int.toNat_natCast,hiA]
 by_cases h:cap=k
 ·rw [if_pos h,if_pos h]
 ·rw [if_neg h,if_neg h]
  simp [Addr.add]
  try omega
theorem SS.lo {w w':World} {g cap:Nat} {xs:List ByteArray} (h:SS w g cap xs) (hb:Below w.heap.size w w') (k:Nat):∀i u,((xs.take k).map Value.string)[i]? = some u→w'.cell? (Addr.add ⟨g,0,none⟩ i)=some u:=fun i u hu=>by
 have hlt:=(List.getElem?_eq_some_iff.1 hu).1
 rw [List.length_map,List.length_take] at hlt
 have:=(h.below hb h.lt).cell i (by omega)
 rw [Lib.add_plain,Nat.zero_add,this,←hu]
 simp [show i<k by omega,show i<xs.length by omega]
theorem SS.hi {w w':World} {g cap:Nat} {xs:List ByteArray} (h:SS w g cap xs) (hb:Below w.heap.size w w') (k:Nat):∀i u,((xs.drop k).map Value.string)[i]? = some u→w'.cell? (Addr.add (hiA g cap k 1) i)=some u:=fun i u hu=>by
 have hlt:=(List.getElem?_eq_some_iff.1 hu).1
 rw [List.length_map,List.length_drop] at hlt
 obtain ⟨_,_,hc,_⟩:=h.block
 have:=(h.below hb h.lt).cell (k+i) (by omega)
 rw [hiA_at (by omega),Nat.mul_one,this,←hu]
 simp [show k+i<xs.length by omega]
theorem one_strings (l:List ByteArray):∀u ∈ l.map Value.string,u.oneCell'=true:=fun u hu=>by
 obtain ⟨x,_,rfl⟩:=List.mem_map.1 hu
 rfl
end
section
open Go.RowKit Go.Maps
def seD:SE:=([],0,0,0,0)
abbrev Fr3:=Nat×Array Value×TypeId
def FrB (bm g:Nat) (F:Fr3) (w:World):Prop:=Blk w F.1 F.2.1 F.2.2∧F.1≠bm∧F.1≠g
def HSt (K:List P4) (F:List Fr3) (w0:World) (bm bk g:Nat) (w:World) (l:List SE):Prop:=
 (∃v,Blk w g #[v,cloV bk] 205∧w.ownsRow (g+1) 209 5 v l.length (stcs l)∧(∀f ∈ F,some f.1≠v.ownBlock))∧Blk w bk #[.map (some bm)] 222∧HoldsK K bm w∧(bm<bk∧bk<g∧w0.heap.size≤bm)∧(∀x ∈ l,x.2 ∈ K)∧Below w0.heap.size w0 w∧∀f ∈ F,FrB bm g f w
theorem HSt.call {K:List P4} {F:List Fr3} {w0 w w':World} {bm bk g:Nat} {l:List SE} (h:HSt K F w0 bm bk g w l) (hh:HoldsK K bm w') (hg:w.grownBy w' (some bm)):HSt K F w0 bm bk g w' l:=by
 obtain ⟨⟨v,h1,h2,hF⟩,h3,h4,h5,h6,h7,h8⟩:=h
 refine ⟨⟨v,h1.gby1 hg (by omega),h2.kept hg ?_,hF⟩,h3.gby1 hg (by omega),hh,h5,h6,below_grownBy h7 hg h7.size h5.2.2,fun f hf=>⟨(h8 f hf).1.gby1 hg (h8 f hf).2.1,(h8 f hf).2⟩⟩
 right
 intro e
 have:=(h2.lt bm e).1
 omega
theorem HSt.below {K:List P4} {F:List Fr3} {w0 w w':World} {bm bk g:Nat} {l:List SE} (h:HSt K F w0 bm bk g w l) (hb:Below w.heap.size w w'):HSt K F w0 bm bk g w' l:=h.call (h.2.2.1.below hb) (grownBy_below (grownBy_refl _ _) hb)
theorem HSt.obj {K:List P4} {F:List Fr3} {w0 w:World} {bm bk g:Nat} {l:List SE} (h:HSt K F w0 bm bk g w l) {x y:Value} (hb:w.heap[g]? = some (.cells #[x,y] 205 (0,0))):y=cloV bk∧w.ownsRow (g+1) 209 5 x l.length (stcs l)∧∀f ∈ F,some f.1≠x.ownBlock:=by
 obtain ⟨⟨v,h1,h2,hF⟩,_⟩:=h
 have:=h1.symm.trans hb
 simp at this
 obtain ⟨rfl,e⟩:=this
 exact ⟨e.symm,h2,hF⟩
theorem own_open {w:World} {B n:Nat} {v:Value} {l:List SE} (h:w.ownsRow B 209 5 v l.length (stcs l)) (hl:0<l.length):∃b cap,v=.slice (some ⟨b,0,none⟩) l.length cap∧B≤b∧l.length≤cap:=by
 rcases h.2 with ⟨_,e⟩ | ⟨b,cap,cur,e,hb,_,hc,_⟩
 ·omega
 ·exact ⟨b,cap,e,hb,hc⟩
theorem own_len {w:World} {B:Nat} {v:Value} {l:List SE} (h:w.ownsRow B 209 5 v l.length (stcs l)):∃ao cap,v=.slice ao l.length cap:=by
 rcases h.2 with ⟨e,e2⟩ | ⟨b,cap,cur,e,_⟩
 ·exact ⟨none,0,by rw [e,e2]⟩
 ·exact ⟨_,_,e⟩
theorem own_elt {w:World} {B b cap:Nat} {l:List SE} (h:w.ownsRow B 209 5 (.slice (some ⟨b,0,none⟩) l.length cap) l.length (stcs l)) {i:Nat} (hi:i<l.length) :
  w.cell? ⟨b,i*5,none⟩=some (.string (bs (HeapM.at' seD l i).1))∧w.cell? ⟨b,i*5+1,none⟩=some (.int .i64 (HeapM.at' seD l i).2.1)∧w.cell? ⟨b,i*5+2,none⟩=some (.int .i64 (HeapM.at' seD l i).2.2.1)∧w.cell? ⟨b,i*5+3,none⟩=some (.int .i64 (HeapM.at' seD l i).2.2.2.1)∧w.cell? ⟨b,i*5+4,none⟩=some (.int .i64 (HeapM.at' seD l i).2.2.2.2):=by
 have e:HeapM.at' seD l i=l[i]:=by simp [HeapM.at',List.getD,hi]
 rw [e]
 obtain ⟨a0,a1,a2,a3,a4⟩:=stcs_at l i hi
 exact ⟨(h.cellAt _ (by omega)).trans a0,(h.cellAt _ (by omega)).trans a1,(h.cellAt _ (by omega)).trans a2,(h.cellAt _ (by omega)).trans a3,(h.cellAt _ (by omega)).trans a4⟩
theorem at_mem {K:List P4} {l:List SE} (h:∀x ∈ l,x.2 ∈ K) {i:Nat} (hi:i<l.length):(HeapM.at' seD l i).2 ∈ K:=by
 have e:HeapM.at' seD l i=l[i]:=by simp [HeapM.at',List.getD,hi]
 rw [e];exact h _ (List.getElem_mem _)
theorem stLen_any (K:List P4) (F:List Fr3) (w0:World) (bm bk g:Nat) (w:World) (l:List SE) (x y:Value) (h:HSt K F w0 bm bk g w l) (hb:w.heap[g]? = some (.cells #[x,y] 205 (0,0))) :
  Calls Tryz.prog 171 #[.agg #[x,y]] w fun e w'=>e=.returned (.int .i64 (l.length:Int))∧HSt K F w0 bm bk g w' l:=by
 obtain ⟨rfl,hown,_⟩:=h.obj hb
 obtain ⟨ao,cap,rfl⟩:=own_len hown
 have HH:=hide (h.below (yA (Below.refl _ w) (.cells #[.slice ao l.length cap,cloV bk] 205)))
 clear h hb hown
 go_enter Tryz.func171,Tryz.ntmps171
 go_wp2
 go_ret
 exact ⟨rfl,uH HH⟩
def HBx (K:List P4) (F:List Fr3) (w0:World) (bm bk g k b cap:Nat) (l:List SE) (wx:World):Prop:=HSt K F w0 bm bk g wx l∧Blk wx k #[.slice (some ⟨b,0,none⟩) l.length cap,cloV bk] 205∧wx.ownsRow (g+1) 209 5 (.slice (some ⟨b,0,none⟩) l.length cap) l.length (stcs l)∧k≠bm
theorem HBx.call {K:List P4} {F:List Fr3} {w0 wx wy:World} {bm bk g k b cap:Nat} {l:List SE} (h:HBx K F w0 bm bk g k b cap l wx) (hh:HoldsK K bm wy) (hg:wx.grownBy wy (some bm)):HBx K F w0 bm bk g k b cap l wy:=by
 obtain ⟨h1,h2,h3,h4⟩:=h
 have h5:=h1.2.2.2.1
 refine ⟨h1.call hh hg,h2.gby1 hg h4,h3.kept hg (.inr (fun e=>?_)),h4⟩
 have:=(h3.lt bm e).1
 omega
theorem HBx.drew {K:List P4} {F:List Fr3} {w0 wx:World} {bm bk g k b cap:Nat} {l:List SE} (h:HBx K F w0 bm bk g k b cap l wx):HBx K F w0 bm bk g k b cap l wx.drew:=h.call (h.1.2.2.1.below (Below.refl _ _).drew) (grownBy_below (grownBy_refl _ _) (Below.refl _ _).drew)
theorem stLess_any (K:List P4) (F:List Fr3) (hK:K.length≤1000000000) (KW:∀p ∈ K,Wf4 p.1 p.2.1 p.2.2.1 p.2.2.2) (w0:World) (bm bk g:Nat) (w:World) (l:List SE) (x y:Value) (i j:Nat) (h:HSt K F w0 bm bk g w l) (hb:w.heap[g]? = some (.cells #[x,y] 205 (0,0))) (hi:i<l.length) (hj:j<l.length) (hl:l.length≤1000000) :
  Calls Tryz.prog 231 #[.agg #[x,y],.int .i64 (i:Int),.int .i64 (j:Int)] w fun e w'=>e=.returned (.bool (aheadS (HeapM.at' seD l i) (HeapM.at' seD l j)))∧HSt K F w0 bm bk g w' l:=by
 obtain ⟨rfl,hown,_⟩:=h.obj hb
 obtain ⟨b,cap,rfl,hbb,hcap⟩:=own_open (n:=0) hown (by omega)
 have hx:=at_mem h.2.2.2.2.1 hi
 have hy:=at_mem h.2.2.2.2.1 hj
 obtain ⟨a0,a1,a2,a3,a4⟩:=own_elt hown hi
 obtain ⟨d0,d1,d2,d3,d4⟩:=own_elt hown hj
 obtain ⟨⟨n1,p1,p2,p3,p4⟩,hs1⟩:∃s,HeapM.at' seD l i=s:=⟨_,rfl⟩
 obtain ⟨⟨n2,q1,q2,q3,q4⟩,hs2⟩:∃s,HeapM.at' seD l j=s:=⟨_,rfl⟩
 rw [hs1] at a0 a1 a2 a3 a4 hx ⊢
 rw [hs2] at d0 d1 d2 d3 d4 hy ⊢
 simp only at a0 a1 a2 a3 a4 d0 d1 d2 d3 d4
 have hb0:=yA (Below.refl _ w) (.cells #[.slice (some ⟨b,0,none⟩) l.length cap,cloV bk] 205)
 have S1:=hide (show HBx K F w0 bm bk g w.heap.size b cap l (w.alloc (.cells #[.slice (some ⟨b,0,none⟩) l.length cap,cloV bk] 205)) from ⟨h.below hb0,yD _ _ _,hown.alloc _,by have:=h.2.2.1.lt;omega⟩)
 have C:=hide (fun wx (hc:HSt K F w0 bm bk g wx l)=>leastFn_any K hK KW (n1,p1,p2,p3,p4) (n2,q1,q2,q3,q4) hx hy bm bk wx hc.2.1 hc.2.2.1 (by have:=hc.2.2.2.1;omega))
 have R:∀wx,HBx K F w0 bm bk g w.heap.size b cap l wx→wx.cell? ⟨w.heap.size,0,none⟩=some (.slice (some ⟨b,0,none⟩) l.length cap)∧wx.cell? ⟨w.heap.size,1,none⟩=some (cloV bk)∧wx.cell? ⟨b,i*5,none⟩=some (.string (bs n1))∧wx.cell? ⟨b,i*5+1,none⟩=some (.int .i64 p1)∧wx.cell? ⟨b,i*5+2,none⟩=some (.int .i64 p2)∧wx.cell? ⟨b,i*5+3,none⟩=some (.int .i64 p3)∧wx.cell? ⟨b,i*5+4,none⟩=some (.int .i64 p4)∧wx.cell? ⟨b,j*5,none⟩=some (.string (bs n2))∧wx.cell? ⟨b,j*5+1,none⟩=some (.int .i64 q1)∧wx.cell? ⟨b,j*5+2,none⟩=some (.int .i64 q2)∧wx.cell? ⟨b,j*5+3,none⟩=some (.int .i64 q3)∧wx.cell? ⟨b,j*5+4,none⟩=some (.int .i64 q4):=fun wx k=>by
  obtain ⟨e0,e1,e2,e3,e4⟩:=own_elt k.2.2.1 hi
  obtain ⟨f0,f1,f2,f3,f4⟩:=own_elt k.2.2.1 hj
  rw [hs1] at e0 e1 e2 e3 e4
  rw [hs2] at f0 f1 f2 f3 f4
  exact ⟨by have:=k.2.1.at 0;simpa using this,by have:=k.2.1.at 1;simpa using this,e0,e1,e2,e3,e4,f0,f1,f2,f3,f4⟩
 have hij:(i:Int)<l.length:=by omega
 have hjj:(j:Int)<l.length:=by omega
 clear h hb hown hx hy a0 a1 a2 a3 a4 d0 d1 d2 d3 d4 hs1 hs2 hb0
 go_enter Tryz.func231,Tryz.ntmps231
 go_wp2_with fail
 go_region_held3 (fun wx=>HBx K F w0 bm bk g w.heap.size b cap l wx)
  (first | (with_reducible assumption) | exact (uH S1) | exact (uH S1).drew | exact HBx.drew (by assumption))
  (first
  | (go_at_call 189;refine (uH C _ ?_).mono ?_;(exact (show HBx K F w0 bm bk g w.heap.size b cap l _ by assumption).1);rintro e wt ⟨rfl,hh,hg⟩;have SA:=HBx.call (K:=K) (F:=F) (w0:=w0) (bm:=bm) (bk:=bk) (g:=g) (k:=w.heap.size) (b:=b) (cap:=cap) (l:=l) (by assumption) hh hg))
 all_goals
  have HE:=hide SA.1
  go_wp2
  go_ret
  exact ⟨rfl,uH HE⟩
end
end Go.Proofs.YtdhibeclkdepiaaGreat
