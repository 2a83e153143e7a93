/-
  The library's heap, by its methods: what up and down do of a list that is held; walks over the dump.
-/
import Derived.Test.YtdhibeclkdepiaaGreatSackA
import Derived.LoopTactic
import Derived.Laws.Pointers
import Derived.KernelRfl
set_option maxRecDepth 100000
set_option maxHeartbeats 16000000
set_option linter.unusedVariables false
set_option linter.unusedSimpArgs false
namespace Go.Proofs.YtdhibeclkdepiaaGreat
section
open Go.RowKit HeapM
theorem aH9 (a:Addr) (nm:String) (w:World):(Builtin.ssaWrapNilChk_ #[200] 200 #[.pointer (some a),strVal "",strVal nm]).run Tryz.prog w=.ok (.pointer (some a)) w:=rfl
theorem aCa (g:Nat) (w:World) (x y:Value) (h:w.heap[g]? = some (.cells #[x,y] 205 (0,0))):(method 370 200 (.pointer (some ⟨g,0,none⟩)) "Less").run Tryz.prog w=.ok (231,.agg #[x,y]) w:=by
 have h0:w.cell? ⟨g,0,none⟩=some x:=by simp [World.cell?,h]
 have h1:w.cell? ⟨g,1,none⟩=some y:=by simp [World.cell?,h]
 have hmap:(Array.find? (fun x=>x.name == "Less") Tryz.t200.methods).map (fun m=>(m.path.toList,m.func))=some ([],some (231,false)):=by kernel_rfl
 obtain ⟨m,hm,he⟩:=Option.map_eq_some_iff.1 hmap
 simp only [Prod.mk.injEq] at he
 obtain ⟨hp,hf⟩:=he
 unfold method
 have hp':m.path=#[]:=Array.toList_eq_nil_iff.1 hp
 generalize (("Less".splitOn ".").getLastD "Less")=nm
 simp [go_sem,hm,hp',hf,follow,receiverAt,Place.get,aH9,h0,h1]
theorem aC9 (g:Nat) (w:World) (x y:Value) (h:w.heap[g]? = some (.cells #[x,y] 205 (0,0))):(method 370 200 (.pointer (some ⟨g,0,none⟩)) "Swap").run Tryz.prog w=.ok (234,.agg #[x,y]) w:=by
 have h0:w.cell? ⟨g,0,none⟩=some x:=by simp [World.cell?,h]
 have h1:w.cell? ⟨g,1,none⟩=some y:=by simp [World.cell?,h]
 have hmap:(Array.find? (fun x=>x.name == "Swap") Tryz.t200.methods).map (fun m=>(m.path.toList,m.func))=some ([],some (234,false)):=by kernel_rfl
 obtain ⟨m,hm,he⟩:=Option.map_eq_some_iff.1 hmap
 simp only [Prod.mk.injEq] at he
 obtain ⟨hp,hf⟩:=he
 unfold method
 have hp':m.path=#[]:=Array.toList_eq_nil_iff.1 hp
 generalize (("Swap".splitOn ".").getLastD "Swap")=nm
 simp [go_sem,hm,hp',hf,follow,receiverAt,Place.get,aH9,h0,h1]
structure yU (A:Prop) {α:Type} (d:α) (ah:α→α→Bool) (g:Nat) (HI:World→List α→Prop) (V:World→α→Value→Prop):Prop where
 obj:∀w l,HI w l→∃x y,w.heap[g]? = some (.cells #[x,y] 205 (0,0))
 less:∀w l x y (i j:Nat),HI w l→w.heap[g]? = some (.cells #[x,y] 205 (0,0))→i<l.length→j<l.length→Calls Tryz.prog 231 #[.agg #[x,y],.int .i64 (i:Int),.int .i64 (j:Int)] w fun e w'=>e=.returned (.bool (ah (HeapM.at' d l i) (HeapM.at' d l j)))∧HI w' l
 swap:∀w l x y (i j:Nat),HI w l→w.heap[g]? = some (.cells #[x,y] 205 (0,0))→i<l.length→j<l.length→Calls Tryz.prog 234 #[.agg #[x,y],.int .i64 (i:Int),.int .i64 (j:Int)] w fun e w'=>e=.returned (.tuple #[])∧HI w' (HeapM.swapL d l i j)
 len:∀w l x y,HI w l→w.heap[g]? = some (.cells #[x,y] 205 (0,0))→Calls Tryz.prog 171 #[.agg #[x,y]] w fun e w'=>e=.returned (.int .i64 (l.length:Int))∧HI w' l
 push:A→∀w l a v,HI w l→V w a v→l.length<1000000→Calls Tryz.prog 233 #[.pointer (some ⟨g,0,none⟩),v] w fun e w'=>e=.returned (.tuple #[])∧HI w' (l++[a])
 pop:∀w l,HI w l→0<l.length→Calls Tryz.prog 232 #[.pointer (some ⟨g,0,none⟩)] w fun e w'=>(∃v,e=.returned v∧V w' (HeapM.at' d l (l.length - 1)) v)∧HI w' (l.take (l.length - 1))
theorem aLG (g:Nat) (w:World) (x y:Value) (h:w.heap[g]? = some (.cells #[x,y] 205 (0,0))):(method 370 200 (.pointer (some ⟨g,0,none⟩)) "Len").run Tryz.prog w=.ok (171,.agg #[x,y]) w:=by
 have h0:w.cell? ⟨g,0,none⟩=some x:=by simp [World.cell?,h]
 have h1:w.cell? ⟨g,1,none⟩=some y:=by simp [World.cell?,h]
 have hmap:(Array.find? (fun x=>x.name == "Len") Tryz.t200.methods).map (fun m=>(m.path.toList,m.func))=some ([],some (171,false)):=by kernel_rfl
 obtain ⟨m,hm,he⟩:=Option.map_eq_some_iff.1 hmap
 simp only [Prod.mk.injEq] at he
 obtain ⟨hp,hf⟩:=he
 unfold method
 have hp':m.path=#[]:=Array.toList_eq_nil_iff.1 hp
 generalize (("Len".splitOn ".").getLastD "Len")=nm
 simp [go_sem,hm,hp',hf,follow,receiverAt,Place.get,aH9,h0,h1]
theorem aLF (g:Nat) (w:World):(method 370 200 (.pointer (some ⟨g,0,none⟩)) "Push").run Tryz.prog w=.ok (233,.pointer (some ⟨g,0,none⟩)) w:=by kernel_rfl
theorem aL5 (g:Nat) (w:World):(method 370 200 (.pointer (some ⟨g,0,none⟩)) "Pop").run Tryz.prog w=.ok (232,.pointer (some ⟨g,0,none⟩)) w:=by kernel_rfl
theorem aKr {A:Prop} {α:Type} {d:α} {ah:α→α→Bool} {g:Nat} {HI:World→List α→Prop} {V:World→α→Value→Prop} (H:yU A d ah g HI V) (l:List α) (j:Nat) (w:World) (h:HI w l) (hj:j<l.length) (hl:l.length≤1000000) :
  Calls Tryz.prog 203 #[.iface 200 (.pointer (some ⟨g,0,none⟩)),.int .i64 (j:Int)] w fun e w'=>e=.returned (.tuple #[])∧HI w' (upL d ah (j+1) l j):=by
 have HH:=aA H
 have H0:=aA h
 obtain ⟨R,hR⟩:∃R,upL d ah (j+1) l j=R:=⟨_,rfl⟩
 rw [hR]
 have HR:=aA hR
 obtain ⟨n,hn⟩:∃n,l.length=n:=⟨_,rfl⟩
 have HN:=aA hn
 rw [hn] at hj hl
 clear H h hR hn
 go_enter Tryz.func203,Tryz.ntmps203
 go_wp2
 go_loopw [1] (fun v wr=>∃(i:Nat) (l':List α),v=.int .i64 (i:Int)∧i<n∧Hid (l'.length=n)∧Hid (HI wr l')∧Hid (upL d ah (i+1) l' i=R)) (fun v _=>(intOf v).toNat)
 case atStart=>exact ⟨j,l,rfl,hj,HN,H0,HR⟩
 case round=>
  obtain ⟨i,l',rfl,hi,HL,HI',HR'⟩:=hrel
  by_cases h0:i=0
  ·subst h0
   go_wp2
   go_end0
   have hr:=uH HR'
   rw [upL,if_pos rfl] at hr
   exact ⟨rfl,hr ▸ uH HI'⟩
  ·obtain ⟨x,y,hb⟩:=(uH HH).obj _ _ (uH HI')
   have hm:=aCa g wr x y hb
   have hp:=HeapM.par_lt (k:=i) (by omega)
   have C1:=aA ((uH HH).less wr l' x y i (HeapM.par i) (uH HI') hb (by have:=uH HL;omega) (by have:=uH HL;omega))
   have hq:((i:Int) - 1) / 2=((HeapM.par i:Nat):Int):=by unfold HeapM.par;omega
   have hne:¬((HeapM.par i:Nat):Int)=(i:Int):=by omega
   obtain ⟨b,hbe⟩:∃b,ah (HeapM.at' d l' i) (HeapM.at' d l' (HeapM.par i))=b:=⟨_,rfl⟩
   rw [hbe] at C1
   have hr:=uH HR'
   rw [upL,if_neg h0,hbe] at hr
   have HR2:=aA hr
   clear hr hbe
   go_wp2_with fail
   refine (uH C1).mono ?_
   rintro e w2 ⟨rfl,hi2⟩
   have HI2:=aA hi2
   clear hi2 C1 hm hb
   cases b
   ·go_wp2
    go_end0
    exact ⟨rfl,(uH HR2) ▸ uH HI2⟩
   ·obtain ⟨x2,y2,hb2⟩:=(uH HH).obj _ _ (uH HI2)
    have hm2:=aC9 g w2 x2 y2 hb2
    have C2:=aA ((uH HH).swap w2 l' x2 y2 (HeapM.par i) i (uH HI2) hb2 (by have:=uH HL;omega) (by have:=uH HL;omega))
    have HR3:=aA (show upL d ah i (HeapM.swapL d l' (HeapM.par i) i) (HeapM.par i)=R from by have:=uH HR2;simpa using this)
    clear hb2 HR2
    go_wp2_with fail
    refine (uH C2).mono ?_
    rintro e w3 ⟨rfl,hi3⟩
    have HI3:=aA hi3
    clear hi3 C2 hm2
    go_wp2
    go_roundw
    case rel=>exact ⟨HeapM.par i,HeapM.swapL d l' (HeapM.par i) i,rfl,by omega,aA (by rw [HeapM.swap_len];exact uH HL),HI3,aA (by rw [aEc d ah (HeapM.par i+1) i _ _ (by omega) (by omega)];exact uH HR3)⟩
    case measure=>simp [intOf];omega
theorem aJ1 {A:Prop} {α:Type} {d:α} {ah:α→α→Bool} {g:Nat} {HI:World→List α→Prop} {V:World→α→Value→Prop} (H:yU A d ah g HI V) (l:List α) (n:Nat) (w:World) (h:HI w l) (hn:n≤l.length) (hl:l.length≤1000000) :
  Calls Tryz.prog 205 #[.iface 200 (.pointer (some ⟨g,0,none⟩)),.int .i64 0,.int .i64 (n:Int)] w fun e w'=>∃b,e=.returned (.bool b)∧HI w' (lS d ah n (n+1) l 0):=by
 have HH:=aA H
 have H0:=aA h
 obtain ⟨R,hR⟩:∃R,lS d ah n (n+1) l 0=R:=⟨_,rfl⟩
 rw [hR]
 have HR:=aA hR
 obtain ⟨N,hN⟩:∃N,l.length=N:=⟨_,rfl⟩
 have HN:=aA hN
 rw [hN] at hn hl
 clear H h hR hN
 go_enter Tryz.func205,Tryz.ntmps205
 go_wp2
 go_loopw [7] (fun v wr=>∃(i:Nat) (l':List α),v=.int .i64 (i:Int)∧i≤n∧Hid (l'.length=N)∧Hid (HI wr l')∧Hid (lS d ah n (n - i+1) l' i=R)) (fun v _=>n - (intOf v).toNat)
 case atStart=>exact ⟨0,l,rfl,by omega,HN,H0,HR⟩
 case round=>
  obtain ⟨i,l',rfl,hi,HL,HI',HR'⟩:=hrel
  have hr:=uH HR'
  rw [lS] at hr
  by_cases h0:n≤2*i+1
  ·rw [if_pos h0] at hr
   have HR2:=aA hr
   have h1:(n:Int)≤2*(i:Int)+1:=by omega
   clear hr
   go_wp2
   go_ret
   exact ⟨_,rfl,(uH HR2) ▸ uH HI'⟩
  ·rw [if_neg h0] at hr
   have HR2:=aA hr
   clear hr
   have hk:=aHl (d:=d) (ah:=ah) (l:=l') h0
   have h1:¬(n:Int)≤2*(i:Int)+1:=by omega
   have h1':decide ((n:Int)≤2*(i:Int)+1)=false:=by simp;omega
   have HREST:=aA (fun (wr:World) (hi2:HI wr l')=>hi2)
   by_cases h2:2*i+2<n
   ·obtain ⟨x,y,hb⟩:=(uH HH).obj _ _ (uH HI')
    have hm:=aCa g wr x y hb
    have C1:=aA ((uH HH).less wr l' x y (2*i+2) (2*i+1) (uH HI') hb (by have:=uH HL;omega) (by have:=uH HL;omega))
    have e1:((2*i+2:Nat):Int)=2*(i:Int)+1+1:=by omega
    have e2:((2*i+1:Nat):Int)=2*(i:Int)+1:=by omega
    rw [e1,e2] at C1
    have h3:2*(i:Int)+1+1<(n:Int):=by omega
    obtain ⟨b,hbe⟩:∃b,ah (HeapM.at' d l' (2*i+2)) (HeapM.at' d l' (2*i+1))=b:=⟨_,rfl⟩
    rw [hbe] at C1
    have HK:=aA (show aBW d ah n l' i=if b=true then 2*i+2 else 2*i+1 by unfold aBW;rw [hbe];simp [h2])
    clear hbe e1 e2
    go_wp2_with fail
    refine (uH C1).mono ?_
    rintro e w2 ⟨rfl,hi2⟩
    have HI2:=aA hi2
    clear hi2 C1 hm hb
    cases b
    ·have hk2:aBW d ah n l' i=2*i+1:=by have:=uH HK;simpa using this
     have hr:=uH HR2
     rw [hk2] at hr
     obtain ⟨x2,y2,hb2⟩:=(uH HH).obj _ _ (uH HI2)
     have hm2:=aCa g w2 x2 y2 hb2
     have C2:=aA ((uH HH).less w2 l' x2 y2 (2*i+1) i (uH HI2) hb2 (by have:=uH HL;omega) (by have:=uH HL;omega))
     have e3:((2*i+1:Nat):Int)=2*(i:Int)+1:=by omega
     rw [e3] at C2
     obtain ⟨c,hc⟩:∃c,ah (HeapM.at' d l' (2*i+1)) (HeapM.at' d l' i)=c:=⟨_,rfl⟩
     rw [hc] at C2 hr
     have HR3:=aA hr
     clear hr hc hb2 HR2
     go_wp2_with fail
     refine (uH C2).mono ?_
     rintro e w3 ⟨rfl,hi3⟩
     have HI3:=aA hi3
     clear hi3 C2 hm2
     cases c
     ·go_wp2
      go_ret
      exact ⟨_,rfl,(show l'=R by have:=uH HR3;simpa using this) ▸ uH HI3⟩
     ·obtain ⟨x4,y4,hb4⟩:=(uH HH).obj _ _ (uH HI3)
      have hm4:=aC9 g w3 x4 y4 hb4
      have C4:=aA ((uH HH).swap w3 l' x4 y4 i (2*i+1) (uH HI3) hb4 (by have:=uH HL;omega) (by have:=uH HL;omega))
      rw [e3] at C4
      have HR4:=aA (show lS d ah n (n - i) (HeapM.swapL d l' i (2*i+1)) (2*i+1)=R from by have:=uH HR3;simpa using this)
      clear hb4 HR3
      go_wp2_with fail
      refine (uH C4).mono ?_
      rintro e w4 ⟨rfl,hi4⟩
      have HI4:=aA hi4
      clear hi4 C4 hm4
      go_wp2
      go_roundw
      case rel=>exact ⟨2*i+1,HeapM.swapL d l' i (2*i+1),by rw [e3],by omega,aA (by rw [HeapM.swap_len];exact uH HL),HI4,aA (by rw [oK d ah n (n - (2*i+1)+1) (n - i) _ _ (by omega) (by omega)];exact uH HR4)⟩
      case measure=>simp [intOf];omega
    ·have hk2:aBW d ah n l' i=2*i+2:=by have:=uH HK;simpa using this
     have hr:=uH HR2
     rw [hk2] at hr
     obtain ⟨x2,y2,hb2⟩:=(uH HH).obj _ _ (uH HI2)
     have hm2:=aCa g w2 x2 y2 hb2
     have C2:=aA ((uH HH).less w2 l' x2 y2 (2*i+2) i (uH HI2) hb2 (by have:=uH HL;omega) (by have:=uH HL;omega))
     have e3:((2*i+2:Nat):Int)=2*(i:Int)+1+1:=by omega
     rw [e3] at C2
     obtain ⟨c,hc⟩:∃c,ah (HeapM.at' d l' (2*i+2)) (HeapM.at' d l' i)=c:=⟨_,rfl⟩
     rw [hc] at C2 hr
     have HR3:=aA hr
     clear hr hc hb2 HR2
     go_wp2_with fail
     refine (uH C2).mono ?_
     rintro e w3 ⟨rfl,hi3⟩
     have HI3:=aA hi3
     clear hi3 C2 hm2
     cases c
     ·go_wp2
      go_ret
      exact ⟨_,rfl,(show l'=R by have:=uH HR3;simpa using this) ▸ uH HI3⟩
     ·obtain ⟨x4,y4,hb4⟩:=(uH HH).obj _ _ (uH HI3)
      have hm4:=aC9 g w3 x4 y4 hb4
      have C4:=aA ((uH HH).swap w3 l' x4 y4 i (2*i+2) (uH HI3) hb4 (by have:=uH HL;omega) (by have:=uH HL;omega))
      rw [e3] at C4
      have HR4:=aA (show lS d ah n (n - i) (HeapM.swapL d l' i (2*i+2)) (2*i+2)=R from by have:=uH HR3;simpa using this)
      clear hb4 HR3
      go_wp2_with fail
      refine (uH C4).mono ?_
      rintro e w4 ⟨rfl,hi4⟩
      have HI4:=aA hi4
      clear hi4 C4 hm4
      go_wp2
      go_roundw
      case rel=>exact ⟨2*i+2,HeapM.swapL d l' i (2*i+2),by rw [e3],by omega,aA (by rw [HeapM.swap_len];exact uH HL),HI4,aA (by rw [oK d ah n (n - (2*i+2)+1) (n - i) _ _ (by omega) (by omega)];exact uH HR4)⟩
      case measure=>simp [intOf];omega
   ·have h3:¬2*(i:Int)+1+1<(n:Int):=by omega
    have hk2:aBW d ah n l' i=2*i+1:=by unfold aBW;rw [if_neg (by omega)]
    have hr:=uH HR2
    rw [hk2] at hr
    obtain ⟨x2,y2,hb2⟩:=(uH HH).obj _ _ (uH HI')
    have hm2:=aCa g wr x2 y2 hb2
    have C2:=aA ((uH HH).less wr l' x2 y2 (2*i+1) i (uH HI') hb2 (by have:=uH HL;omega) (by have:=uH HL;omega))
    have e3:((2*i+1:Nat):Int)=2*(i:Int)+1:=by omega
    rw [e3] at C2
    obtain ⟨c,hc⟩:∃c,ah (HeapM.at' d l' (2*i+1)) (HeapM.at' d l' i)=c:=⟨_,rfl⟩
    rw [hc] at C2 hr
    have HR3:=aA hr
    clear hr hc hb2 HR2
    go_wp2_with fail
    refine (uH C2).mono ?_
    rintro e w3 ⟨rfl,hi3⟩
    have HI3:=aA hi3
    clear hi3 C2 hm2
    cases c
    ·go_wp2
     go_ret
     exact ⟨_,rfl,(show l'=R by have:=uH HR3;simpa using this) ▸ uH HI3⟩
    ·obtain ⟨x4,y4,hb4⟩:=(uH HH).obj _ _ (uH HI3)
     have hm4:=aC9 g w3 x4 y4 hb4
     have C4:=aA ((uH HH).swap w3 l' x4 y4 i (2*i+1) (uH HI3) hb4 (by have:=uH HL;omega) (by have:=uH HL;omega))
     rw [e3] at C4
     have HR4:=aA (show lS d ah n (n - i) (HeapM.swapL d l' i (2*i+1)) (2*i+1)=R from by have:=uH HR3;simpa using this)
     clear hb4 HR3
     go_wp2_with fail
     refine (uH C4).mono ?_
     rintro e w4 ⟨rfl,hi4⟩
     have HI4:=aA hi4
     clear hi4 C4 hm4
     go_wp2
     go_roundw
     case rel=>exact ⟨2*i+1,HeapM.swapL d l' i (2*i+1),by rw [e3],by omega,aA (by rw [HeapM.swap_len];exact uH HL),HI4,aA (by rw [oK d ah n (n - (2*i+1)+1) (n - i) _ _ (by omega) (by omega)];exact uH HR4)⟩
     case measure=>simp [intOf];omega
theorem aDD {α:Type} (d:α) (ah:α→α→Bool) (n:Nat):∀(f:Nat) (l:List α) (i:Nat),(lS d ah n f l i).length=l.length
 | 0,_,_=>rfl
 | f+1,l,i=>by
  rw [lS]
  split
  ·rfl
  ·split
   ·rw [aDD d ah n f,HeapM.swap_len]
   ·rfl
theorem aIw {A:Prop} {α:Type} {d:α} {ah:α→α→Bool} {g:Nat} {HI:World→List α→Prop} {V:World→α→Value→Prop} (H:yU A d ah g HI V) (hA:A) (l:List α) (a:α) (v:Value) (w:World) (h:HI w l) (hv:V w a v) (hl:l.length<1000000) :
  Calls Tryz.prog 191 #[.iface 200 (.pointer (some ⟨g,0,none⟩)),v] w fun e w'=>e=.returned (.tuple #[])∧HI w' (upL d ah (l.length+1) (l++[a]) l.length):=by
 have HH:=aA H
 have hm:=aLF g w
 have C1:=aA (H.push hA w l a v h hv hl)
 clear H h hv
 go_enter Tryz.func191,Tryz.ntmps191
 go_wp2_with fail
 refine (uH C1).mono ?_
 rintro e w2 ⟨rfl,hi2⟩
 obtain ⟨x,y,hb⟩:=(uH HH).obj _ _ hi2
 have hm2:=aLG g w2 x y hb
 have C2:=(uH HH).len w2 _ x y hi2 hb
 rw [List.length_append,List.length_singleton] at C2
 have HC2:=aA C2
 clear C2 C1 hm hb hi2
 go_wp2_with fail
 refine (uH HC2).mono ?_
 rintro e w3 ⟨rfl,hi3⟩
 have C3:=aKr (uH HH) (l++[a]) l.length w3 hi3 (by simp) (by simp;omega)
 have HC3:=aA C3
 have e1:(((l.length+1:Nat):Int) - 1)=(l.length:Int):=by omega
 clear C3 HC2 hm2 hi3
 go_wp2_with fail
 refine (uH HC3).mono ?_
 rintro e w4 ⟨rfl,hi4⟩
 have HI4:=aA hi4
 clear hi4
 go_wp2
 go_end0
 exact ⟨rfl,uH HI4⟩
theorem aKI {A:Prop} {α:Type} {d:α} {ah:α→α→Bool} {g:Nat} {HI:World→List α→Prop} {V:World→α→Value→Prop} (H:yU A d ah g HI V) (l:List α) (w:World) (h:HI w l) (h0:0<l.length) (hl:l.length≤1000000) :
  Calls Tryz.prog 193 #[.iface 200 (.pointer (some ⟨g,0,none⟩))] w fun e w'=>(∃v,e=.returned v∧V w' (HeapM.at' d (HeapM.popL d ah l) (l.length - 1)) v)∧HI w' ((HeapM.popL d ah l).take (l.length - 1)):=by
 have HH:=aA H
 obtain ⟨n,hn⟩:∃n,l.length=n+1:=⟨l.length - 1,by omega⟩
 have ep:l.length - 1=n:=by omega
 have en:(((n+1:Nat):Int) - 1)=(n:Int):=by omega
 obtain ⟨x,y,hb⟩:=H.obj _ _ h
 have hm:=aLG g w x y hb
 have C1:=H.len w _ x y h hb
 rw [hn] at C1
 have HC1:=aA C1
 have HP:=aA (show HeapM.popL d ah l=lS d ah n (n+1) (HeapM.swapL d l 0 n) 0 by unfold HeapM.popL;rw [ep])
 rw [ep]
 clear H h hb C1
 go_enter Tryz.func193,Tryz.ntmps193
 go_wp2_with fail
 refine (uH HC1).mono ?_
 rintro e w2 ⟨rfl,hi2⟩
 obtain ⟨x2,y2,hb2⟩:=(uH HH).obj _ _ hi2
 have hm2:=aC9 g w2 x2 y2 hb2
 have HC2:=aA ((uH HH).swap w2 l x2 y2 0 n hi2 hb2 (by omega) (by omega))
 clear HC1 hm hb2 hi2
 go_wp2_with fail
 refine (uH HC2).mono ?_
 rintro e w3 ⟨rfl,hi3⟩
 have HC3:=aA (aJ1 (uH HH) _ n w3 hi3 (by rw [HeapM.swap_len];omega) (by rw [HeapM.swap_len];omega))
 clear HC2 hm2 hi3
 go_wp2_with fail
 refine (uH HC3).mono ?_
 rintro e w4 ⟨b,rfl,hi4⟩
 rw [←uH HP] at hi4
 have e4:(HeapM.popL d ah l).length=n+1:=by rw [uH HP,aDD,HeapM.swap_len,hn]
 have C4:=(uH HH).pop w4 _ hi4 (by omega)
 rw [e4] at C4
 have HC4:=aA C4
 have hm4:=aL5 g w4
 clear HC3 hi4 C4
 go_wp2_with fail
 refine (uH HC4).mono ?_
 rintro e w5 ⟨⟨v,rfl,hv⟩,hi5⟩
 have HI5:=aA hi5
 have HV:=aA hv
 clear hi5 hv
 go_wp2
 go_ret
 exact ⟨⟨_,rfl,uH HV⟩,uH HI5⟩
end
end Go.Proofs.YtdhibeclkdepiaaGreat
