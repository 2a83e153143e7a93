/-
  Texts in one: HpW, StdI.
-/
import Derived.LoopTactic
import Derived.Laws.Pointers
import Derived.KernelRfl
import Derived.Test.YtfndhndlkcijoaaGreatTackE
set_option maxRecDepth 100000
set_option maxHeartbeats 16000000
set_option linter.unusedVariables false
set_option linter.unusedSimpArgs false
open Go.Proofs.Tryz
namespace Go.Proofs.YtfndhndlkcijoaaGreat
section
open Go.RowKit HeapM
variable {g:Nat} {A:Prop} {α:Type}
theorem aGU (a:Addr) (nm:String) (w:World):(Builtin.ssaWrapNilChk_ #[80] 80 #[.pointer (some a),strVal "",strVal nm]).run Tryz.prog w=.ok (.pointer (some a)) w:=rfl
theorem aBo (g:Nat) (w:World) (x y:Value) (h:w.heap[g]? = some (.cells #[x,y] 85 (0,0))):(method 369 80 (.pointer (some ⟨g,0,none⟩)) "Less").run Tryz.prog w=.ok (243,.agg #[x,y]) w:=by
 have h0:w.cell? ⟨g,0,none⟩=some x:=by simp [World.cell?,h]
 have h1:w.cell? ⟨g,1,none⟩=some y:=by simp [World.cell?,h]
 have KC:(Array.find? (fun x=>x.name == "Less") Tryz.t80.methods).map (fun m=>(m.path.toList,m.func))=some ([],some (243,false)):=by kernel_rfl
 obtain ⟨m,hm,he⟩:=Option.map_eq_some_iff.1 KC;simp only [Prod.mk.injEq] at he;obtain ⟨hp,hf⟩:=he;unfold method;have hp':m.path=#[]:=Array.toList_eq_nil_iff.1 hp;generalize (("Less".splitOn ".").getLastD "Less")=nm;simp [go_sem,hm,hp',hf,follow,receiverAt,Place.get,aGU,h0,h1]
theorem aBn (g:Nat) (w:World) (x y:Value) (h:w.heap[g]? = some (.cells #[x,y] 85 (0,0))):(method 369 80 (.pointer (some ⟨g,0,none⟩)) "Swap").run Tryz.prog w=.ok (246,.agg #[x,y]) w:=by
 have h0:w.cell? ⟨g,0,none⟩=some x:=by simp [World.cell?,h]
 have h1:w.cell? ⟨g,1,none⟩=some y:=by simp [World.cell?,h]
 have KC:(Array.find? (fun x=>x.name == "Swap") Tryz.t80.methods).map (fun m=>(m.path.toList,m.func))=some ([],some (246,false)):=by kernel_rfl
 obtain ⟨m,hm,he⟩:=Option.map_eq_some_iff.1 KC;simp only [Prod.mk.injEq] at he;obtain ⟨hp,hf⟩:=he;unfold method;have hp':m.path=#[]:=Array.toList_eq_nil_iff.1 hp;generalize (("Swap".splitOn ".").getLastD "Swap")=nm;simp [go_sem,hm,hp',hf,follow,receiverAt,Place.get,aGU,h0,h1]
structure xZ (A:Prop) {α:Type} (d:α) (ah:α→α→Bool) (g:Nat) (HI:World→List α→Prop) (V:World→α→Value→Prop):Prop where
 obj:∀w l,HI w l→∃x y,w.heap[g]? = some (.cells #[x,y] 85 (0,0))
 less:∀w l x y (i j:Nat),HI w l→w.heap[g]? = some (.cells #[x,y] 85 (0,0))→i<l.length→j<l.length→cP 243 #[.agg #[x,y],.int .i64 (i:Int),.int .i64 (j:Int)] w fun e w'=>e=.returned (.bool (ah (HeapM.at' d l i) (HeapM.at' d l j)))∧HI w' l
 swap:∀w l x y (i j:Nat),HI w l→w.heap[g]? = some (.cells #[x,y] 85 (0,0))→i<l.length→j<l.length→cP 246 #[.agg #[x,y],.int .i64 (i:Int),.int .i64 (j:Int)] w fun e w'=>e=.returned (.tuple #[])∧HI w' (HeapM.swapL d l i j)
 len:∀w l x y,HI w l→w.heap[g]? = some (.cells #[x,y] 85 (0,0))→cP 53 #[.agg #[x,y]] w fun e w'=>e=.returned (.int .i64 (l.length:Int))∧HI w' l
 push:A→∀w l a v,HI w l→V w a v→l.length<1000000→cP 245 #[.pointer (some ⟨g,0,none⟩),v] w fun e w'=>e=.returned (.tuple #[])∧HI w' (l++[a])
 pop:∀w l,HI w l→0<l.length→cP 244 #[.pointer (some ⟨g,0,none⟩)] w fun e w'=>(∃v,e=.returned v∧V w' (HeapM.at' d l (l.length - 1)) v)∧HI w' (l.take (l.length - 1))
theorem aKP (g:Nat) (w:World) (x y:Value) (h:w.heap[g]? = some (.cells #[x,y] 85 (0,0))):(method 369 80 (.pointer (some ⟨g,0,none⟩)) "Len").run Tryz.prog w=.ok (53,.agg #[x,y]) w:=by
 have h0:w.cell? ⟨g,0,none⟩=some x:=by simp [World.cell?,h]
 have h1:w.cell? ⟨g,1,none⟩=some y:=by simp [World.cell?,h]
 have KC:(Array.find? (fun x=>x.name == "Len") Tryz.t80.methods).map (fun m=>(m.path.toList,m.func))=some ([],some (53,false)):=by kernel_rfl
 obtain ⟨m,hm,he⟩:=Option.map_eq_some_iff.1 KC;simp only [Prod.mk.injEq] at he;obtain ⟨hp,hf⟩:=he;unfold method;have hp':m.path=#[]:=Array.toList_eq_nil_iff.1 hp;generalize (("Len".splitOn ".").getLastD "Len")=nm;simp [go_sem,hm,hp',hf,follow,receiverAt,Place.get,aGU,h0,h1]
theorem aKO (g:Nat) (w:World):(method 369 80 (.pointer (some ⟨g,0,none⟩)) "Push").run Tryz.prog w=.ok (245,.pointer (some ⟨g,0,none⟩)) w:=by kernel_rfl
theorem aKt (g:Nat) (w:World):(method 369 80 (.pointer (some ⟨g,0,none⟩)) "Pop").run Tryz.prog w=.ok (244,.pointer (some ⟨g,0,none⟩)) w:=by kernel_rfl
theorem aJw {d:α} {ah:α→α→Bool} {HI:World→List α→Prop} {V:World→α→Value→Prop} (H:xZ A d ah g HI V) (l:List α) (j:Nat) (w:World) (h:HI w l) (hj:j<l.length) (hl:l.length≤1000000) :
  cP 174 #[.iface 80 (.pointer (some ⟨g,0,none⟩)),.int .i64 (j:Int)] w fun e w'=>e=.returned (.tuple #[])∧HI w' (upL d ah (j+1) l j):=by
 have HH:=aA H;have H0:=aA h;obtain ⟨R,hR⟩:∃R,upL d ah (j+1) l j=R:=⟨_,rfl⟩;rw [hR];have HR:=aA hR;obtain ⟨n,hn⟩:∃n,l.length=n:=⟨_,rfl⟩;have HN:=aA hn;rw [hn] at hj hl;clear H h hR hn;go_enter func174,ntmps174;go_wp2;go_loopw [1] (fun v wr=>∃(i:Nat) (l':List α),v=.int .i64 (i:Int)∧i<n∧Hid (l'.length=n)∧Hid (HI wr l')∧Hid (upL d ah (i+1) l' i=R)) (fun v _=>(intOf v).toNat);case atStart=>exact ⟨j,l,rfl,hj,HN,H0,HR⟩
 case round=>
  obtain ⟨i,l',rfl,hi,HL,HI',HR'⟩:=hrel;by_cases h0:i=0
  ·subst h0;go_wp2;(go_end0);have hr:=uH HR';rw [upL,if_pos rfl] at hr;exact ⟨rfl,hr ▸ uH HI'⟩
  ·obtain ⟨x,y,hb⟩:=(uH HH).obj _ _ (uH HI');have hm:=aBo g wr x y hb;have hp:=HeapM.par_lt (k:=i) (by omega);have C1:=aA ((uH HH).less wr l' x y i (HeapM.par i) (uH HI') hb (by have:=uH HL;omega) (by have:=uH HL;omega));(have hq:((i:Int) - 1) / 2=((HeapM.par i:Nat):Int):=by unfold HeapM.par;omega);(have hne:¬((HeapM.par i:Nat):Int)=(i:Int):=by omega);obtain ⟨b,hbe⟩:∃b,ah (HeapM.at' d l' i) (HeapM.at' d l' (HeapM.par i))=b:=⟨_,rfl⟩;rw [hbe] at C1;have hr:=uH HR';rw [upL,if_neg h0,hbe] at hr;have HR2:=aA hr;clear hr hbe;(go_wp2_with fail);refine (uH C1).mono ?_;rintro e w2 ⟨rfl,hi2⟩;have HI2:=aA hi2;clear hi2 C1 hm hb;cases b
   ·go_wp2;(go_end0);exact ⟨rfl,(uH HR2) ▸ uH HI2⟩
   ·obtain ⟨x2,y2,hb2⟩:=(uH HH).obj _ _ (uH HI2);have hm2:=aBn g w2 x2 y2 hb2;have C2:=aA ((uH HH).swap w2 l' x2 y2 (HeapM.par i) i (uH HI2) hb2 (by have:=uH HL;omega) (by have:=uH HL;omega));have HR3:=aA (show upL d ah i (HeapM.swapL d l' (HeapM.par i) i) (HeapM.par i)=R from by have:=uH HR2;simpa using this);clear hb2 HR2;(go_wp2_with fail);refine (uH C2).mono ?_;rintro e w3 ⟨rfl,hi3⟩;have HI3:=aA hi3;clear hi3 C2 hm2;go_wp2;go_roundw;(case rel=>exact ⟨HeapM.par i,HeapM.swapL d l' (HeapM.par i) i,rfl,by omega,aA (by rw [HeapM.swap_len];exact uH HL),HI3,aA (by rw [aD8 d ah (HeapM.par i+1) i _ _ (by omega) (by omega)];exact uH HR3)⟩);case measure=>simp [intOf];omega
theorem aIT {d:α} {ah:α→α→Bool} {HI:World→List α→Prop} {V:World→α→Value→Prop} (H:xZ A d ah g HI V) (l:List α) (n:Nat) (w:World) (h:HI w l) (hn:n≤l.length) (hl:l.length≤1000000) :
  cP 175 #[.iface 80 (.pointer (some ⟨g,0,none⟩)),.int .i64 0,.int .i64 (n:Int)] w fun e w'=>∃b,e=.returned (.bool b)∧HI w' (l5 d ah n (n+1) l 0):=by
 have HH:=aA H;have H0:=aA h;obtain ⟨R,hR⟩:∃R,l5 d ah n (n+1) l 0=R:=⟨_,rfl⟩;rw [hR];have HR:=aA hR;obtain ⟨N,hN⟩:∃N,l.length=N:=⟨_,rfl⟩;have HN:=aA hN;rw [hN] at hn hl;clear H h hR hN;go_enter func175,ntmps175;go_wp2;go_loopw [7] (fun v wr=>∃(i:Nat) (l':List α),v=.int .i64 (i:Int)∧i≤n∧Hid (l'.length=N)∧Hid (HI wr l')∧Hid (l5 d ah n (n - i+1) l' i=R)) (fun v _=>n - (intOf v).toNat);case atStart=>exact ⟨0,l,rfl,by omega,HN,H0,HR⟩
 case round=>
  obtain ⟨i,l',rfl,hi,HL,HI',HR'⟩:=hrel;have hr:=uH HR';rw [l5] at hr;by_cases h0:n≤2*i+1
  ·rw [if_pos h0] at hr;have HR2:=aA hr;(have h1:(n:Int)≤2*(i:Int)+1:=by omega);clear hr;go_wp2;go_ret;exact ⟨_,rfl,(uH HR2) ▸ uH HI'⟩
  ·rw [if_neg h0] at hr;have HR2:=aA hr;clear hr;have hk:=aG6 (d:=d) (ah:=ah) (l:=l') h0;(have h1:¬(n:Int)≤2*(i:Int)+1:=by omega);(have h1':decide ((n:Int)≤2*(i:Int)+1)=false:=by simp;omega);have Pw:=aA (fun (wr:World) (hi2:HI wr l')=>hi2);by_cases h2:2*i+2<n
   ·obtain ⟨x,y,hb⟩:=(uH HH).obj _ _ (uH HI');have hm:=aBo g wr x y hb;have C1:=aA ((uH HH).less wr l' x y (2*i+2) (2*i+1) (uH HI') hb (by have:=uH HL;omega) (by have:=uH HL;omega));(have e1:((2*i+2:Nat):Int)=2*(i:Int)+1+1:=by omega);(have e2:((2*i+1:Nat):Int)=2*(i:Int)+1:=by omega);rw [e1,e2] at C1;(have h3:2*(i:Int)+1+1<(n:Int):=by omega);obtain ⟨b,hbe⟩:∃b,ah (HeapM.at' d l' (2*i+2)) (HeapM.at' d l' (2*i+1))=b:=⟨_,rfl⟩;rw [hbe] at C1;have HK:=aA (show aAp d ah n l' i=if b=true then 2*i+2 else 2*i+1 by unfold aAp;rw [hbe];simp [h2]);clear hbe e1 e2;(go_wp2_with fail);refine (uH C1).mono ?_;rintro e w2 ⟨rfl,hi2⟩;have HI2:=aA hi2;clear hi2 C1 hm hb;cases b
    ·(have hk2:aAp d ah n l' i=2*i+1:=by have:=uH HK;simpa using this);have hr:=uH HR2;rw [hk2] at hr;obtain ⟨x2,y2,hb2⟩:=(uH HH).obj _ _ (uH HI2);have hm2:=aBo g w2 x2 y2 hb2;have C2:=aA ((uH HH).less w2 l' x2 y2 (2*i+1) i (uH HI2) hb2 (by have:=uH HL;omega) (by have:=uH HL;omega));(have e3:((2*i+1:Nat):Int)=2*(i:Int)+1:=by omega);rw [e3] at C2;obtain ⟨c,hc⟩:∃c,ah (HeapM.at' d l' (2*i+1)) (HeapM.at' d l' i)=c:=⟨_,rfl⟩;rw [hc] at C2 hr;have HR3:=aA hr;clear hr hc hb2 HR2;(go_wp2_with fail);refine (uH C2).mono ?_;rintro e w3 ⟨rfl,hi3⟩;have HI3:=aA hi3;clear hi3 C2 hm2;cases c
     ·go_wp2;go_ret;exact ⟨_,rfl,(show l'=R by have:=uH HR3;simpa using this) ▸ uH HI3⟩
     ·obtain ⟨x4,y4,hb4⟩:=(uH HH).obj _ _ (uH HI3);have Zw:=aBn g w3 x4 y4 hb4;have C4:=aA ((uH HH).swap w3 l' x4 y4 i (2*i+1) (uH HI3) hb4 (by have:=uH HL;omega) (by have:=uH HL;omega));rw [e3] at C4;have HR4:=aA (show l5 d ah n (n - i) (HeapM.swapL d l' i (2*i+1)) (2*i+1)=R from by have:=uH HR3;simpa using this);clear hb4 HR3;(go_wp2_with fail);refine (uH C4).mono ?_;rintro e w4 ⟨rfl,hi4⟩;have HI4:=aA hi4;clear hi4 C4 Zw;go_wp2;go_roundw;(case rel=>exact ⟨2*i+1,HeapM.swapL d l' i (2*i+1),by rw [e3],by omega,aA (by rw [HeapM.swap_len];exact uH HL),HI4,aA (by rw [oP d ah n (n - (2*i+1)+1) (n - i) _ _ (by omega) (by omega)];exact uH HR4)⟩);case measure=>simp [intOf];omega
    ·(have hk2:aAp d ah n l' i=2*i+2:=by have:=uH HK;simpa using this);have hr:=uH HR2;rw [hk2] at hr;obtain ⟨x2,y2,hb2⟩:=(uH HH).obj _ _ (uH HI2);have hm2:=aBo g w2 x2 y2 hb2;have C2:=aA ((uH HH).less w2 l' x2 y2 (2*i+2) i (uH HI2) hb2 (by have:=uH HL;omega) (by have:=uH HL;omega));(have e3:((2*i+2:Nat):Int)=2*(i:Int)+1+1:=by omega);rw [e3] at C2;obtain ⟨c,hc⟩:∃c,ah (HeapM.at' d l' (2*i+2)) (HeapM.at' d l' i)=c:=⟨_,rfl⟩;rw [hc] at C2 hr;have HR3:=aA hr;clear hr hc hb2 HR2;(go_wp2_with fail);refine (uH C2).mono ?_;rintro e w3 ⟨rfl,hi3⟩;have HI3:=aA hi3;clear hi3 C2 hm2;cases c
     ·go_wp2;go_ret;exact ⟨_,rfl,(show l'=R by have:=uH HR3;simpa using this) ▸ uH HI3⟩
     ·obtain ⟨x4,y4,hb4⟩:=(uH HH).obj _ _ (uH HI3);have Zw:=aBn g w3 x4 y4 hb4;have C4:=aA ((uH HH).swap w3 l' x4 y4 i (2*i+2) (uH HI3) hb4 (by have:=uH HL;omega) (by have:=uH HL;omega));rw [e3] at C4;have HR4:=aA (show l5 d ah n (n - i) (HeapM.swapL d l' i (2*i+2)) (2*i+2)=R from by have:=uH HR3;simpa using this);clear hb4 HR3;(go_wp2_with fail);refine (uH C4).mono ?_;rintro e w4 ⟨rfl,hi4⟩;have HI4:=aA hi4;clear hi4 C4 Zw;go_wp2;go_roundw;(case rel=>exact ⟨2*i+2,HeapM.swapL d l' i (2*i+2),by rw [e3],by omega,aA (by rw [HeapM.swap_len];exact uH HL),HI4,aA (by rw [oP d ah n (n - (2*i+2)+1) (n - i) _ _ (by omega) (by omega)];exact uH HR4)⟩);case measure=>simp [intOf];omega
   ·(have h3:¬2*(i:Int)+1+1<(n:Int):=by omega);(have hk2:aAp d ah n l' i=2*i+1:=by unfold aAp;rw [if_neg (by omega)]);have hr:=uH HR2;rw [hk2] at hr;obtain ⟨x2,y2,hb2⟩:=(uH HH).obj _ _ (uH HI');have hm2:=aBo g wr x2 y2 hb2;have C2:=aA ((uH HH).less wr l' x2 y2 (2*i+1) i (uH HI') hb2 (by have:=uH HL;omega) (by have:=uH HL;omega));(have e3:((2*i+1:Nat):Int)=2*(i:Int)+1:=by omega);rw [e3] at C2;obtain ⟨c,hc⟩:∃c,ah (HeapM.at' d l' (2*i+1)) (HeapM.at' d l' i)=c:=⟨_,rfl⟩;rw [hc] at C2 hr;have HR3:=aA hr;clear hr hc hb2 HR2;(go_wp2_with fail);refine (uH C2).mono ?_;rintro e w3 ⟨rfl,hi3⟩;have HI3:=aA hi3;clear hi3 C2 hm2;cases c
    ·go_wp2;go_ret;exact ⟨_,rfl,(show l'=R by have:=uH HR3;simpa using this) ▸ uH HI3⟩
    ·obtain ⟨x4,y4,hb4⟩:=(uH HH).obj _ _ (uH HI3);have Zw:=aBn g w3 x4 y4 hb4;have C4:=aA ((uH HH).swap w3 l' x4 y4 i (2*i+1) (uH HI3) hb4 (by have:=uH HL;omega) (by have:=uH HL;omega));rw [e3] at C4;have HR4:=aA (show l5 d ah n (n - i) (HeapM.swapL d l' i (2*i+1)) (2*i+1)=R from by have:=uH HR3;simpa using this);clear hb4 HR3;(go_wp2_with fail);refine (uH C4).mono ?_;rintro e w4 ⟨rfl,hi4⟩;have HI4:=aA hi4;clear hi4 C4 Zw;go_wp2;go_roundw;(case rel=>exact ⟨2*i+1,HeapM.swapL d l' i (2*i+1),by rw [e3],by omega,aA (by rw [HeapM.swap_len];exact uH HL),HI4,aA (by rw [oP d ah n (n - (2*i+1)+1) (n - i) _ _ (by omega) (by omega)];exact uH HR4)⟩);case measure=>simp [intOf];omega
theorem aCM {α:Type} (d:α) (ah:α→α→Bool) (n:Nat):∀(f:Nat) (l:List α) (i:Nat),(l5 d ah n f l i).length=l.length
 | 0,_,_=>rfl
 | f+1,l,i=>by
  rw [l5];split
  ·rfl
  ·split
   ·rw [aCM d ah n f,HeapM.swap_len]
   ·rfl
theorem aHk {d:α} {ah:α→α→Bool} {HI:World→List α→Prop} {V:World→α→Value→Prop} (H:xZ A d ah g HI V) (hA:A) (l:List α) (a:α) (v:Value) (w:World) (h:HI w l) (hv:V w a v) (hl:l.length<1000000) :
  cP 118 #[.iface 80 (.pointer (some ⟨g,0,none⟩)),v] w fun e w'=>e=.returned (.tuple #[])∧HI w' (upL d ah (l.length+1) (l++[a]) l.length):=by
 have HH:=aA H;have hm:=aKO g w;have C1:=aA (H.push hA w l a v h hv hl);clear H h hv;go_enter func118,ntmps118;go_wp2_with fail;refine (uH C1).mono ?_;rintro e w2 ⟨rfl,hi2⟩;obtain ⟨x,y,hb⟩:=(uH HH).obj _ _ hi2;have hm2:=aKP g w2 x y hb;have C2:=(uH HH).len w2 _ x y hi2 hb;rw [List.length_append,List.length_singleton] at C2;have qy:=aA C2;clear C2 C1 hm hb hi2;go_wp2_with fail;refine (uH qy).mono ?_;rintro e w3 ⟨rfl,hi3⟩;have C3:=aJw (uH HH) (l++[a]) l.length w3 hi3 (by simp) (by simp;omega);have WY:=aA C3;have e1:(((l.length+1:Nat):Int) - 1)=(l.length:Int):=by omega
 clear C3 qy hm2 hi3;go_wp2_with fail;refine (uH WY).mono ?_;rintro e w4 ⟨rfl,hi4⟩;have HI4:=aA hi4;clear hi4;go_wp2;go_end0;exact ⟨rfl,uH HI4⟩
theorem aJJ {d:α} {ah:α→α→Bool} {HI:World→List α→Prop} {V:World→α→Value→Prop} (H:xZ A d ah g HI V) (l:List α) (w:World) (h:HI w l) (h0:0<l.length) (hl:l.length≤1000000) :
  cP 119 #[.iface 80 (.pointer (some ⟨g,0,none⟩))] w fun e w'=>(∃v,e=.returned v∧V w' (HeapM.at' d (HeapM.popL d ah l) (l.length - 1)) v)∧HI w' ((HeapM.popL d ah l).take (l.length - 1)):=by
 have HH:=aA H;obtain ⟨n,hn⟩:∃n,l.length=n+1:=⟨l.length - 1,by omega⟩;have ep:l.length - 1=n:=by omega
 have en:(((n+1:Nat):Int) - 1)=(n:Int):=by omega
 obtain ⟨x,y,hb⟩:=H.obj _ _ h;have hm:=aKP g w x y hb;have C1:=H.len w _ x y h hb;rw [hn] at C1;have Qw:=aA C1;have HP:=aA (show HeapM.popL d ah l=l5 d ah n (n+1) (HeapM.swapL d l 0 n) 0 by unfold HeapM.popL;rw [ep]);rw [ep];clear H h hb C1;go_enter func119,ntmps119;go_wp2_with fail;refine (uH Qw).mono ?_;rintro e w2 ⟨rfl,hi2⟩;obtain ⟨x2,y2,hb2⟩:=(uH HH).obj _ _ hi2;have hm2:=aBn g w2 x2 y2 hb2;have qy:=aA ((uH HH).swap w2 l x2 y2 0 n hi2 hb2 (by omega) (by omega));clear Qw hm hb2 hi2;go_wp2_with fail;refine (uH qy).mono ?_;rintro e w3 ⟨rfl,hi3⟩;have WY:=aA (aIT (uH HH) _ n w3 hi3 (by rw [HeapM.swap_len];omega) (by rw [HeapM.swap_len];omega));clear qy hm2 hi3;go_wp2_with fail;refine (uH WY).mono ?_;rintro e w4 ⟨b,rfl,hi4⟩;rw [←uH HP] at hi4;have e4:(HeapM.popL d ah l).length=n+1:=by rw [uH HP,aCM,HeapM.swap_len,hn]
 have C4:=(uH HH).pop w4 _ hi4 (by omega);rw [e4] at C4;have RB:=aA C4;have Zw:=aKt g w4;clear WY hi4 C4;go_wp2_with fail;refine (uH RB).mono ?_;rintro e w5 ⟨⟨v,rfl,hv⟩,hi5⟩;have HI5:=aA hi5;have HV:=aA hv;clear hi5 hv;go_wp2;go_ret;exact ⟨⟨_,rfl,uH HV⟩,uH HI5⟩
end
section
open Go.RowKit Go.Maps
variable {K:List P4} {l:List SE} {B b bk bm cap g k:Nat} {v:Value} {w w' w0 wx:World}
def seD:SE:=([],0,0,0,0)
abbrev Fr3:=Nat×Array Value×TypeId
def FrB (bm g:Nat) (F:Fr3) (w:World):Prop:=Blk w F.1 F.2.1 F.2.2∧F.1≠bm∧F.1≠g
def HSt (K:List P4) (F:List Fr3) (w0:World) (bm bk g:Nat) (w:World) (l:List SE):Prop:=
 (∃v,Blk w g #[v,aBO bk] 85∧w.ownsRow (g+1) 91 5 v l.length (kX l)∧(∀f ∈ F,some f.1≠v.ownBlock))∧Blk w bk #[.map (some bm)] 117∧dY K bm w∧(bm<bk∧bk<g∧w0.heap.size≤bm)∧(∀x ∈ l,x.2 ∈ K)∧Bw w0 w∧∀f ∈ F,FrB bm g f w
theorem HSt.call {F:List Fr3} (h:HSt K F w0 bm bk g w l) (hh:dY K bm w') (hg:w.grownBy w' (some bm)):HSt K F w0 bm bk g w' l:=by
 obtain ⟨⟨v,h1,h2,hF⟩,h3,h4,h5,h6,h7,h8⟩:=h;refine ⟨⟨v,h1.gby1 hg (by omega),h2.kept hg ?_,hF⟩,h3.gby1 hg (by omega),hh,h5,h6,jZ h7 hg h7.size h5.2.2,fun f hf=>⟨(h8 f hf).1.gby1 hg (h8 f hf).2.1,(h8 f hf).2⟩⟩;right;intro e;have:=(h2.lt bm e).1;omega
theorem HSt.below {F:List Fr3} (h:HSt K F w0 bm bk g w l) (hb:Bw w w'):HSt K F w0 bm bk g w' l:=h.call (h.2.2.1.below hb) (aH (aD _ _) hb)
theorem HSt.obj {F:List Fr3} (h:HSt K F w0 bm bk g w l) {x y:Value} (hb:w.heap[g]? = some (.cells #[x,y] 85 (0,0))):y=aBO bk∧w.ownsRow (g+1) 91 5 x l.length (kX l)∧∀f ∈ F,some f.1≠x.ownBlock:=by
 obtain ⟨⟨v,h1,h2,hF⟩,_⟩:=h;have:=h1.symm.trans hb;simp at this;obtain ⟨rfl,e⟩:=this;exact ⟨e.symm,h2,hF⟩
theorem vJ {n:Nat} (h:w.ownsRow B 91 5 v l.length (kX l)) (hl:0<l.length):∃b cap,v=.slice (some ⟨b,0,none⟩) l.length cap∧B≤b∧l.length≤cap:=by
 rcases h.2 with ⟨_,e⟩ | ⟨b,cap,cur,e,hb,_,hc,_⟩
 ·omega
 ·exact ⟨b,cap,e,hb,hc⟩
theorem aJN (h:w.ownsRow B 91 5 v l.length (kX l)):∃ao cap,v=.slice ao l.length cap:=by
 rcases h.2 with ⟨e,e2⟩ | ⟨b,cap,cur,e,_⟩
 ·exact ⟨none,0,by rw [e,e2]⟩
 ·exact ⟨_,_,e⟩
theorem pQ (h:w.ownsRow B 91 5 (.slice (some ⟨b,0,none⟩) l.length cap) l.length (kX l)) {i:Nat} (hi:i<l.length) :
  w.cell? ⟨b,i*5,none⟩=some (.string (bs (HeapM.at' seD l i).1))∧w.cell? ⟨b,i*5+1,none⟩=some (.int .i64 (HeapM.at' seD l i).2.1)∧w.cell? ⟨b,i*5+2,none⟩=some (.int .i64 (HeapM.at' seD l i).2.2.1)∧w.cell? ⟨b,i*5+3,none⟩=some (.int .i64 (HeapM.at' seD l i).2.2.2.1)∧w.cell? ⟨b,i*5+4,none⟩=some (.int .i64 (HeapM.at' seD l i).2.2.2.2):=by
 have e:HeapM.at' seD l i=l[i]:=by simp [HeapM.at',List.getD,hi]
 rw [e];obtain ⟨a0,a1,a2,a3,a4⟩:=aFp l i hi;exact ⟨(h.cellAt _ (by omega)).trans a0,(h.cellAt _ (by omega)).trans a1,(h.cellAt _ (by omega)).trans a2,(h.cellAt _ (by omega)).trans a3,(h.cellAt _ (by omega)).trans a4⟩
theorem aHI (h:∀x ∈ l,x.2 ∈ K) {i:Nat} (hi:i<l.length):(HeapM.at' seD l i).2 ∈ K:=by
 have e:HeapM.at' seD l i=l[i]:=by simp [HeapM.at',List.getD,hi]
 rw [e];exact h _ (yM _)
theorem aBV (K:List P4) (F:List Fr3) (w0:World) (bm bk g:Nat) (w:World) (l:List SE) (x y:Value) (h:HSt K F w0 bm bk g w l) (hb:w.heap[g]? = some (.cells #[x,y] 85 (0,0))) :
  cP 53 #[.agg #[x,y]] w fun e w'=>e=.returned (.int .i64 (l.length:Int))∧HSt K F w0 bm bk g w' l:=by
 obtain ⟨rfl,Hq,_⟩:=h.obj hb;obtain ⟨ao,cap,rfl⟩:=aJN Hq;have HH:=aA (h.below (yA (yH _ w) (.cells #[.slice ao l.length cap,aBO bk] 85)));clear h hb Hq;go_enter func53,ntmps53;go_wp2;go_ret;exact ⟨rfl,uH HH⟩
def HBx (K:List P4) (F:List Fr3) (w0:World) (bm bk g k b cap:Nat) (l:List SE) (wx:World):Prop:=HSt K F w0 bm bk g wx l∧Blk wx k #[.slice (some ⟨b,0,none⟩) l.length cap,aBO bk] 85∧wx.ownsRow (g+1) 91 5 (.slice (some ⟨b,0,none⟩) l.length cap) l.length (kX l)∧k≠bm
theorem HBx.call {F:List Fr3} {wy:World} (h:HBx K F w0 bm bk g k b cap l wx) (hh:dY K bm wy) (hg:wx.grownBy wy (some bm)):HBx K F w0 bm bk g k b cap l wy:=by
 obtain ⟨h1,h2,h3,h4⟩:=h;have h5:=h1.2.2.2.1;refine ⟨h1.call hh hg,h2.gby1 hg h4,h3.kept hg (.inr (fun e=>?_)),h4⟩;have:=(h3.lt bm e).1;omega
theorem HBx.drew {F:List Fr3} (h:HBx K F w0 bm bk g k b cap l wx):HBx K F w0 bm bk g k b cap l wx.drew:=h.call (h.1.2.2.1.below (yH _ _).drew) (aH (aD _ _) (yH _ _).drew)
theorem aE2 (K:List P4) (F:List Fr3) (hK:K.length≤1000000000) (KW:∀p ∈ K,Wf4 p.1 p.2.1 p.2.2.1 p.2.2.2) (w0:World) (bm bk g:Nat) (w:World) (l:List SE) (x y:Value) (i j:Nat) (h:HSt K F w0 bm bk g w l) (hb:w.heap[g]? = some (.cells #[x,y] 85 (0,0))) (hi:i<l.length) (hj:j<l.length) (hl:l.length≤1000000) :
  cP 243 #[.agg #[x,y],.int .i64 (i:Int),.int .i64 (j:Int)] w fun e w'=>e=.returned (.bool (gP (HeapM.at' seD l i) (HeapM.at' seD l j)))∧HSt K F w0 bm bk g w' l:=by
 obtain ⟨rfl,Hq,_⟩:=h.obj hb;obtain ⟨b,cap,rfl,hbb,QM⟩:=vJ (n:=0) Hq (by omega);have hx:=aHI h.2.2.2.2.1 hi;have hy:=aHI h.2.2.2.2.1 hj;obtain ⟨a0,a1,a2,a3,a4⟩:=pQ Hq hi;obtain ⟨d0,d1,d2,d3,d4⟩:=pQ Hq hj;obtain ⟨⟨n1,p1,p2,p3,p4⟩,hs1⟩:∃s,HeapM.at' seD l i=s:=⟨_,rfl⟩;obtain ⟨⟨n2,q1,q2,q3,q4⟩,hs2⟩:∃s,HeapM.at' seD l j=s:=⟨_,rfl⟩;rw [hs1] at a0 a1 a2 a3 a4 hx ⊢;rw [hs2] at d0 d1 d2 d3 d4 hy ⊢;simp only at a0 a1 a2 a3 a4 d0 d1 d2 d3 d4;have hb0:=yA (yH _ w) (.cells #[.slice (some ⟨b,0,none⟩) l.length cap,aBO bk] 85);have S1:=aA (show HBx K F w0 bm bk g w.heap.size b cap l (w.alloc (.cells #[.slice (some ⟨b,0,none⟩) l.length cap,aBO bk] 85)) from ⟨h.below hb0,yD _ _ _,Hq.alloc _,by have:=h.2.2.1.lt;omega⟩);have C:=aA (fun wx (hc:HSt K F w0 bm bk g wx l)=>aDC K hK KW (n1,p1,p2,p3,p4) (n2,q1,q2,q3,q4) hx hy bm bk wx hc.2.1 hc.2.2.1 (by have:=hc.2.2.2.1;omega));have R:∀wx,HBx K F w0 bm bk g w.heap.size b cap l wx→wx.cell? ⟨w.heap.size,0,none⟩=some (.slice (some ⟨b,0,none⟩) l.length cap)∧wx.cell? ⟨w.heap.size,1,none⟩=some (aBO bk)∧wx.cell? ⟨b,i*5,none⟩=some (.string (bs n1))∧wx.cell? ⟨b,i*5+1,none⟩=some (.int .i64 p1)∧wx.cell? ⟨b,i*5+2,none⟩=some (.int .i64 p2)∧wx.cell? ⟨b,i*5+3,none⟩=some (.int .i64 p3)∧wx.cell? ⟨b,i*5+4,none⟩=some (.int .i64 p4)∧wx.cell? ⟨b,j*5,none⟩=some (.string (bs n2))∧wx.cell? ⟨b,j*5+1,none⟩=some (.int .i64 q1)∧wx.cell? ⟨b,j*5+2,none⟩=some (.int .i64 q2)∧wx.cell? ⟨b,j*5+3,none⟩=some (.int .i64 q3)∧wx.cell? ⟨b,j*5+4,none⟩=some (.int .i64 q4):=fun wx k=>by
  obtain ⟨e0,e1,e2,e3,e4⟩:=pQ k.2.2.1 hi;obtain ⟨f0,f1,f2,f3,f4⟩:=pQ k.2.2.1 hj;rw [hs1] at e0 e1 e2 e3 e4;rw [hs2] at f0 f1 f2 f3 f4;exact ⟨by have:=k.2.1.at 0;simpa using this,by have:=k.2.1.at 1;simpa using this,e0,e1,e2,e3,e4,f0,f1,f2,f3,f4⟩
 have hij:(i:Int)<l.length:=by omega
 have hjj:(j:Int)<l.length:=by omega
 clear h hb Hq hx hy a0 a1 a2 a3 a4 d0 d1 d2 d3 d4 hs1 hs2 hb0;go_enter func243,ntmps243;go_wp2_with fail;go_region_held3 (fun wx=>HBx K F w0 bm bk g w.heap.size b cap l wx)
  (first | (with_reducible assumption) | exact (uH S1) | exact (uH S1).drew | exact HBx.drew (by assumption))
  (first
  | (go_at_call 116;refine (uH C _ ?_).mono ?_;(exact (show HBx K F w0 bm bk g w.heap.size b cap l _ by assumption).1);rintro e wt ⟨rfl,hh,hg⟩;have SA:=HBx.call (K:=K) (F:=F) (w0:=w0) (bm:=bm) (bk:=bk) (g:=g) (k:=w.heap.size) (b:=b) (cap:=cap) (l:=l) (by assumption) hh hg))
 all_goals have HE:=aA SA.1;go_wp2;go_ret;exact ⟨rfl,uH HE⟩
end
end Go.Proofs.YtfndhndlkcijoaaGreat
