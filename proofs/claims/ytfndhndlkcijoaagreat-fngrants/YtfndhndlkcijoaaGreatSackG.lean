/-
  Texts in one: OfK, LessK, StdM, StdC, CpC, RightS, NewSt.
-/
import Derived.Test.YtfndhndlkcijoaaGreatSackC
import Derived.Laws.OwnMore
import Derived.Test.YtfndhndlkcijoaaGreatSackB
set_option maxRecDepth 100000
set_option maxHeartbeats 16000000
set_option linter.unusedVariables false
set_option linter.unusedSimpArgs false
open Go.Proofs.Tryz
namespace Go.Proofs.YtfndhndlkcijoaaGreat
section
open Go.RowKit Go.Maps
variable {a b c d g h:Int} {B bm cap:Nat} {w w' w0 w1 w2:World}
abbrev P4:=Int×Int×Int×Int
theorem aC4 {α:Type}:∀(ps K:List α),ps.Nodup→(∀p ∈ ps,p ∈ K)→ps.length≤K.length
 | [],_,_,_=>Nat.zero_le _
 | p::t,K,h,s=>by
  obtain ⟨h1,h2⟩:=List.nodup_cons.1 h;obtain ⟨a,b,rfl⟩:=List.append_of_mem (s p (List.mem_cons_self ..));have:=aC4 t (a++b) h2 (fun q hq=>by
   have h3:=s q (List.mem_cons_of_mem _ hq);rcases List.mem_append.1 h3 with h3 | h3
   ·exact List.mem_append.2 (.inl h3)
   ·rcases List.mem_cons.1 h3 with rfl | h3
    ·exact absurd hq h1
    ·exact List.mem_append.2 (.inr h3))
  simp at this ⊢;omega
def eF (K:List P4) (bm:Nat) (w:World):Prop:=∃(ps:List P4) (D:DataW Unit),ps.Nodup∧(∀p ∈ ps,p ∈ K)∧w.ownsMap Tryz.prog 89 nQ bm ps.length D∧aGJ D∧∀p ∈ ps,∀kl,keyOf Tryz.prog 89 (pv p.1 p.2.1 p.2.2.1 p.2.2.2)=some kl→Maps.has D kl=true
theorem eF.lt {K:List P4} (h:eF K bm w):bm<w.heap.size:=let ⟨_,_,_,_,h,_⟩:=h;h.lt
theorem eF.grown {K:List P4} {row:Option Nat} (h:eF K bm w) (hg:w.grownBy w' row) (hne:some bm≠row):eF K bm w':=let ⟨ps,D,a,b,h,k⟩:=h;⟨ps,D,a,b,h.kept hg hne,k⟩
theorem eF.below {K:List P4} (h:eF K bm w) (hb:Bw w w'):eF K bm w':=h.grown (aI (aF w none) hb) (by simp)
theorem aEI (K:List P4) (h:w.ownsMap Tryz.prog 89 nQ bm 0 (.map [])):eF K bm w:=⟨[],.map [],List.nodup_nil,(fun _ h=>absurd h (by simp)),h,aEA,(fun _ h=>absurd h (by simp))⟩
theorem aF1 (ha:(Lit.int .i64 a).wf=true) (hb:(Lit.int .i64 b).wf=true) (hc:(Lit.int .i64 c).wf=true) (hd:(Lit.int .i64 d).wf=true):∃kl,keyOf Tryz.prog 89 (pv a b c d)=some kl:=aJg ha hb hc hd
theorem aGr (K:List P4) (hK:K.length≤1000000000) (a b c d:Int) (ha:(Lit.int .i64 a).wf=true) (hb:(Lit.int .i64 b).wf=true) (hc:(Lit.int .i64 c).wf=true) (hd:(Lit.int .i64 d).wf=true) (hin:(a,b,c,d) ∈ K) (bm:Nat) (w:World) (hm:eF K bm w) :
  cP 129 #[.map (some bm),pv a b c d] w fun e w'=>e=.returned (fv (gF a b c d))∧eF K bm w'∧w.grownBy w' (some bm):=by
 obtain ⟨ps,D,nd,sub,Hz,hk,hps⟩:=hm;obtain ⟨kl,GG⟩:=aF1 ha hb hc hd;have hpl:=aC4 ps K nd sub;have QW:=aA (fun (h:Maps.has D kl=false)=>show (a,b,c,d) ∉ ps from fun hp=>by have:=hps _ hp _ GG;rw [h] at this;exact absurd this (by simp));have J4:=aA nd;have F9:=aA sub;have UL:=aA hps;have hlt:=Hz.lt;have hl:=look ((Hz.alloc (.cells #[.int .i64 a,.int .i64 b,.int .i64 c,.int .i64 d] 89)).alloc (.cells #[.int .i64 0,.int .i64 0] 171)) hk GG;have hpr:=aA (aB4 a b c d);have HK:=aA hk;have QD:=aA GG;have YR:=aA Hz;have SI:=aA hin;clear ha hb hc hd hk GG Hz nd sub hps hin;obtain ⟨f,hf⟩:∃f,Maps.has D kl=f:=⟨_,rfl⟩;rw [hf] at hl QW;obtain ⟨⟨x,y⟩,hr⟩:∃p,gF a b c d=p:=⟨_,rfl⟩;rw [hr] at hl hpr ⊢;have HR:=aA hr;clear hf hr;cases f with
 | true=>
  replace hl:(Instr.lookup 117 (.map (some bm)) (pv a b c d) true).run Tryz.prog ((w.alloc (.cells #[.int .i64 a,.int .i64 b,.int .i64 c,.int .i64 d] 89)).alloc (.cells #[.int .i64 0,.int .i64 0] 171))=.ok (.tuple #[rv x y,.bool true]) ((w.alloc (.cells #[.int .i64 a,.int .i64 b,.int .i64 c,.int .i64 d] 89)).alloc (.cells #[.int .i64 0,.int .i64 0] 171)):=hl;go_enter func129,ntmps129;go_wp2;have HG:∀wx:World,Bw w wx→wx=wx→eF K bm wx∧w.grownBy wx (some bm):=fun wx hb _=>
   have hg:w.grownBy wx none:=aI (aF w none) hb
   ⟨⟨ps,D,uH J4,uH F9,(uH YR).kept hg (by simp),uH HK,uH UL⟩,aI (aF w (some bm)) hb⟩
  refine bodyPost_ret (v:=rv x y) (by simp [results,results129,go_sem]) rfl ⟨rfl,HG _ ?_ rfl⟩;repeat (first | exact yH _ _ | refine yA ?_ _ | refine Below.drew ?_ | refine yC ?_ _ _ _ (by omega))
 | false=>
  replace hl:(Instr.lookup 117 (.map (some bm)) (pv a b c d) true).run Tryz.prog ((w.alloc (.cells #[.int .i64 a,.int .i64 b,.int .i64 c,.int .i64 d] 89)).alloc (.cells #[.int .i64 0,.int .i64 0] 171))=.ok (.tuple #[rv 0 0,.bool false]) ((w.alloc (.cells #[.int .i64 a,.int .i64 b,.int .i64 c,.int .i64 d] 89)).alloc (.cells #[.int .i64 0,.int .i64 0] 171)):=hl;have GQ:=aA (((wI w 89 a b c d).al (.cells #[.int .i64 0,.int .i64 0] 171)).al (.cells #[.int .i64 0,.int .i64 0] 171));have Gz:=aA (show Var (((w.alloc (.cells #[.int .i64 a,.int .i64 b,.int .i64 c,.int .i64 d] 89)).alloc (.cells #[.int .i64 0,.int .i64 0] 171)).alloc (.cells #[.int .i64 0,.int .i64 0] 171)) 171 (w.heap.size+1) 0 0 by
   have:=(aK (w.alloc (.cells #[.int .i64 a,.int .i64 b,.int .i64 c,.int .i64 d] 89)) 171 0 0).al (.cells #[.int .i64 0,.int .i64 0] 171);simpa using this)
  have ZL:=aA (show Var (((w.alloc (.cells #[.int .i64 a,.int .i64 b,.int .i64 c,.int .i64 d] 89)).alloc (.cells #[.int .i64 0,.int .i64 0] 171)).alloc (.cells #[.int .i64 0,.int .i64 0] 171)) 171 (w.heap.size+1+1) 0 0 by
   have:=aK ((w.alloc (.cells #[.int .i64 a,.int .i64 b,.int .i64 c,.int .i64 d] 89)).alloc (.cells #[.int .i64 0,.int .i64 0] 171)) 171 0 0;simpa using this)
  have HB0:=aA (yA (yA (yA (yH _ w) (.cells #[.int .i64 a,.int .i64 b,.int .i64 c,.int .i64 d] 89)) (.cells #[.int .i64 0,.int .i64 0] 171)) (.cells #[.int .i64 0,.int .i64 0] 171));go_enter func129,ntmps129;go_wp2_with fail;refine (uH hpr _).mono ?_;rintro e w1 ⟨rfl,hb⟩;have V1:=aA ((uH GQ).below hb);have V2:=aA ((uH Gz).below hb);have V3:=aA ((uH ZL).below hb);have HB:=aA (yB (uH HB0) hb);clear hb hl hpr GQ Gz ZL HB0;have a1:=(uH V1).c0;have a2:=(uH V1).c1;have a3:=(uH V1).c2;have a4:=(uH V1).c3;have k0:=(uH V3).c0;have k1:=(uH V3).c1;have k2:=(uH V3).f 0;have k3:=(uH V3).f 1;have k4:=(uH V3).s0 (.int .i64 x);have k5:=(uH V3).s1 (.int .i64 x) (.int .i64 y);have ho1:=(((uH YR).kept (aI (aF w none) (uH HB)) (by simp)).setCell (a:=⟨w.heap.size+1+1,0,none⟩) (by simp;omega) (.int .i64 x)).setCell (a:=⟨w.heap.size+1+1,1,none⟩) (by simp;omega) (.int .i64 y);obtain ⟨w2,gq,Gj,GN⟩:=ho1.update xR underlying117 (by unfold maxLen;omega) (uH QD) (zF x y);have V4:=aA (((uH V3).set x y).grown' GN (by simp;omega));have V5:=aA ((((uH V2).other (w.heap.size+1+1) 0 (.int .i64 x) (by omega)).other (w.heap.size+1+1) 1 (.int .i64 y) (by omega)).grown' GN (by simp;omega));have b0:=(uH V4).c0;have b1:=(uH V4).c1;have b2:=(uH V5).c0;have b3:=(uH V5).c1;have b4:=(uH V5).f 0;have b5:=(uH V5).f 1;have b6:=(uH V5).s0 (.int .i64 x);have b7:=(uH V5).s1 (.int .i64 x) (.int .i64 y);have hm2:eF K bm w2:=⟨(a,b,c,d)::ps,_,List.nodup_cons.2 ⟨uH QW (by first | rfl | trivial),uH J4⟩,fun p hp=>by
   rcases List.mem_cons.1 hp with rfl | hp
   ·exact uH SI
   ·exact uH F9 p hp,Gj,by rw [←uH HR];exact (uH HK).put (uH YR).isMap (uH QD),fun p hp kl' hk'=>by
   by_cases e:kl'=kl
   ·subst e;exact has_put_same (uH YR).isMap (xR.key (uH QD)) _
   ·rcases List.mem_cons.1 hp with rfl | hp
    ·have:=hk'.symm.trans (uH QD);cases this;exact absurd rfl e
    ·rw [has_put_other e];exact uH UL p hp kl' hk'⟩
  have hg1:w.grownBy w2 (some bm):=by have g1:w.grownBy ((w1.setCell ⟨w.heap.size+1+1,0,none⟩ (.int .i64 x)).setCell ⟨w.heap.size+1+1,1,none⟩ (.int .i64 y)) (some bm):=aI (aF w (some bm)) (yC (yC (uH HB) _ _ _ (by omega)) _ _ _ (by omega));exact cZ g1 GN
  have KS:=aA hm2;have Vq:=aA hg1;clear ho1 Gj GN hm2 hg1 V1 V2 V3 V4 V5 HB;go_wp2;have hsz:=(uH Vq).size;refine bodyPost_ret (v:=rv x y) (by simp [results,results129,go_sem,b6,b7]) rfl ⟨rfl,?_,?_⟩
  ·have hg:w2.grownBy ((w2.setCell ⟨w.heap.size+1,0,none⟩ (.int .i64 x)).setCell ⟨w.heap.size+1,1,none⟩ (.int .i64 y)) (some (w.heap.size+1)):=dW (dW (aF _ _) _ _) _ _;exact (uH KS).grown hg (by simp;omega)
  ·exact ⟨(uH Vq).os,(uH Vq).tape,(uH Vq).output,by simpa using hsz,fun k hk hne=>by
    rw [heap_setCell_other _ ⟨w.heap.size+1,1,none⟩ k _ (by simp;omega),heap_setCell_other _ ⟨w.heap.size+1,0,none⟩ k _ (by simp;omega)];exact (uH Vq).block k hk hne⟩
def iU (K:List P4) (w0:World) (bm:Nat) (a b c d e f g h:Int) (wx:World):Prop:=
 rA wx 89 w0.heap.size a b c d∧rA wx 89 (w0.heap.size+1) e f g h∧w0.grownBy wx (some bm)∧bm<w0.heap.size∧eF K bm wx
theorem iU.call {K:List P4} {e f:Int} (p:iU K w0 bm a b c d e f g h w1) (hk:eF K bm w2) (hg:w1.grownBy w2 (some bm)):iU K w0 bm a b c d e f g h w2:=by
 obtain ⟨p1,p2,p3,p4,_⟩:=p;exact ⟨p1.grown hg (by simp;omega),p2.grown hg (by simp;omega),cZ p3 hg,p4,hk⟩
theorem iU.below {K:List P4} {e f:Int} (p:iU K w0 bm a b c d e f g h w1) (hb:Bw w1 w2):iU K w0 bm a b c d e f g h w2:=p.call (p.2.2.2.2.below hb) (aI (aF _ _) hb)
theorem iU.drew {K:List P4} {e f:Int} (p:iU K w0 bm a b c d e f g h w1):iU K w0 bm a b c d e f g h w1.drew:=p.below (yH _ _).drew
theorem iU.read (K:List P4) (w0:World) (bm:Nat) (a b c d e f g h:Int):∀wx,iU K w0 bm a b c d e f g h wx→wx.cell? ⟨w0.heap.size,0,none⟩=some (.int .i64 a)∧wx.cell? ⟨w0.heap.size,1,none⟩=some (.int .i64 b)∧wx.cell? ⟨w0.heap.size,2,none⟩=some (.int .i64 c)∧wx.cell? ⟨w0.heap.size,3,none⟩=some (.int .i64 d)
  ∧wx.cell? ⟨w0.heap.size+1,0,none⟩=some (.int .i64 e)∧wx.cell? ⟨w0.heap.size+1,1,none⟩=some (.int .i64 f)∧wx.cell? ⟨w0.heap.size+1,2,none⟩=some (.int .i64 g)∧wx.cell? ⟨w0.heap.size+1,3,none⟩=some (.int .i64 h):=
 fun wx p=>⟨p.1.c0,p.1.c1,p.1.c2,p.1.c3,p.2.1.c0,p.2.1.c1,p.2.1.c2,p.2.1.c3⟩
def Wf4 (a b c d:Int):Prop:=(Lit.int .i64 a).wf=true∧(Lit.int .i64 b).wf=true∧(Lit.int .i64 c).wf=true∧(Lit.int .i64 d).wf=true
theorem aCf (K:List P4) (hK:K.length≤1000000000) (a b c d e f g h:Int) (h1:Wf4 a b c d) (h2:Wf4 e f g h) (i1:(a,b,c,d) ∈ K) (i2:(e,f,g,h) ∈ K) (bm:Nat) (w:World) (hm:eF K bm w) :
  cP 72 #[.map (some bm),pv a b c d,pv e f g h] w fun o w'=>o=.returned (.bool (vY a b c d e f g h))∧eF K bm w'∧w.grownBy w' (some bm):=by
 have C1:=aA (fun wx (hx:eF K bm wx)=>aGr K hK a b c d h1.1 h1.2.1 h1.2.2.1 h1.2.2.2 i1 bm wx hx);have C2:=aA (fun wx (hx:eF K bm wx)=>aGr K hK e f g h h2.1 h2.2.1 h2.2.2.1 h2.2.2.2 i2 bm wx hx);have C3:=aA (fun wx=>vH _ _ _ _ wx (aA8 a b c d) (aA8 e f g h));have hlt:=hm.lt;have A0:=aA (show iU K w bm a b c d e f g h ((w.alloc (.cells #[.int .i64 a,.int .i64 b,.int .i64 c,.int .i64 d] 89)).alloc (.cells #[.int .i64 e,.int .i64 f,.int .i64 g,.int .i64 h] 89)) from
  ⟨(wI w 89 a b c d).al _,by have:=wI (w.alloc (.cells #[.int .i64 a,.int .i64 b,.int .i64 c,.int .i64 d] 89)) 89 e f g h;simpa using this,aI (aF _ _) (yA (yA (yH _ _) _) _),hlt,hm.below (yA (yA (yH _ w) _) _)⟩)
 have R:=iU.read K w bm a b c d e f g h;unfold vY;obtain ⟨l,hl⟩:∃l,less (gF a b c d).1 (gF a b c d).2 (gF e f g h).1 (gF e f g h).2=l:=⟨_,rfl⟩;rw [hl] at C3 ⊢;obtain ⟨⟨x1,y1⟩,e1⟩:∃p,gF a b c d=p:=⟨_,rfl⟩;obtain ⟨⟨x2,y2⟩,e2⟩:∃p,gF e f g h=p:=⟨_,rfl⟩;rw [e1] at C1 C3;rw [e2] at C2 C3;clear hl e1 e2 h1 h2 hm i1 i2;go_enter func72,ntmps72;go_wp2_with fail;go_region_held3 (fun wx=>iU K w bm a b c d e f g h wx)
  (first | (with_reducible assumption) | exact (uH A0).drew | exact iU.drew (by assumption))
  (first
  | (go_at_call_of 129 a;refine (uH C1 _ ?_).mono ?_;(exact (show iU K w bm a b c d e f g h _ by assumption).2.2.2.2);rintro o wt ⟨rfl,hh,hg⟩;have SA:=iU.call (K:=K) (w0:=w) (bm:=bm) (a:=a) (b:=b) (c:=c) (d:=d) (e:=e) (f:=f) (g:=g) (h:=h) (by assumption) hh hg)
  | (go_at_call_of 129 e;refine (uH C2 _ ?_).mono ?_;(exact (show iU K w bm a b c d e f g h _ by assumption).2.2.2.2);rintro o wt ⟨rfl,hh,hg⟩;have SA:=iU.call (K:=K) (w0:=w) (bm:=bm) (a:=a) (b:=b) (c:=c) (d:=d) (e:=e) (f:=f) (g:=g) (h:=h) (by assumption) hh hg)
  | (go_at_call 130;refine (uH C3 _).mono ?_;rintro o wt ⟨rfl,hb⟩;have SA:=iU.below (K:=K) (w0:=w) (bm:=bm) (a:=a) (b:=b) (c:=c) (d:=d) (e:=e) (f:=f) (g:=g) (h:=h) (by assumption) hb))
 all_goals have HG:=aA SA.2.2;go_wp2;go_ret;exact ⟨rfl,(uH HG).2.2,(uH HG).1⟩
abbrev SE:=List UInt8×P4
def stc (x:SE):List Value:=[.string (bs x.1),.int .i64 x.2.1,.int .i64 x.2.2.1,.int .i64 x.2.2.2.1,.int .i64 x.2.2.2.2]
abbrev stv (x:SE):Value:=.agg #[.string (bs x.1),.int .i64 x.2.1,.int .i64 x.2.2.1,.int .i64 x.2.2.2.1,.int .i64 x.2.2.2.2]
def lY:List SE→List Value
 | []=>[]
 | x::t=>stc x++lY t
theorem aE5:∀l:List SE,(lY l).length=l.length*5
 | []=>rfl
 | x::t=>by rw [lY,List.length_append,aE5 t];simp [stc];omega
theorem aE6:∀a b:List SE,lY (a++b)=lY a++lY b
 | [],b=>rfl
 | x::t,b=>by rw [List.cons_append,lY,aE6 t b,lY,List.append_assoc]
theorem aCD:∀(l:List SE) (k:Nat),lY (l.take k)=(lY l).take (k*5)
 | l,0=>by simp [lY]
 | [],k+1=>by simp [lY]
 | x::t,k+1=>by
  rw [List.take_succ_cons,lY,lY,aCD t k,show (k+1)*5=(stc x).length+k*5 by simp [stc];omega,List.take_length_add_append]
theorem aG0:∀(l:List SE) (i:Nat) (h:i<l.length),(lY l)[i*5]? = some (.string (bs l[i].1))∧(lY l)[i*5+1]? = some (.int .i64 l[i].2.1)∧(lY l)[i*5+2]? = some (.int .i64 l[i].2.2.1)∧(lY l)[i*5+3]? = some (.int .i64 l[i].2.2.2.1)∧(lY l)[i*5+4]? = some (.int .i64 l[i].2.2.2.2)
 | x::t,0,_=>by simp [lY,stc]
 | x::t,i+1,h=>by
  have ih:=aG0 t i (by simpa using h);have e:∀r,(lY (x::t))[(i+1)*5+r]? = (lY t)[i*5+r]?:=fun r=>by
   rw [lY,List.getElem?_append_right (by simp [stc];omega)];(congr 1);simp [stc];omega
  have e0:=e 0;simp only [Nat.add_zero] at e0;rw [e0,e 1,e 2,e 3,e 4];simpa using ih
def aGW (xs:List Value) (i:Nat) (x:SE):List Value:=((((xs.set (i*5) (.string (bs x.1))).set (i*5+1) (.int .i64 x.2.1)).set (i*5+2) (.int .i64 x.2.2.1)).set (i*5+3) (.int .i64 x.2.2.2.1)).set (i*5+4) (.int .i64 x.2.2.2.2)
theorem aE4:∀(l:List SE) (i:Nat) (x:SE),aGW (lY l) i x=lY (l.set i x)
 | [],i,x=>by simp [lY,aGW]
 | y::t,0,x=>by simp [lY,stc,aGW]
 | y::t,i+1,x=>by
  have ih:=aE4 t i x;have e:∀(s:List Value) r v,(stc y++s).set ((i+1)*5+r) v=stc y++s.set (i*5+r) v:=fun s r v=>by
   rw [List.set_append,if_neg (by simp [stc];omega)];(congr 2);simp [stc];omega
  rw [sC,lY,lY,←ih,aGW,aGW];have e0:=fun s v=>e s 0 v
  simp only [Nat.add_zero] at e0;rw [e0,e,e,e,e]
theorem l7 {g n j sz:Nat} {e:TypeId} {xs:List Value} (h:w.ownsRow B e sz (.slice (some ⟨g,0,none⟩) n cap) n xs) (hj:j<n*sz) (v:Value):(w.setCell ⟨g,j,none⟩ v).ownsRow B e sz (.slice (some ⟨g,0,none⟩) n cap) n (xs.set j v):=by
 obtain ⟨h1,h2⟩:=h;refine ⟨by simpa using h1,?_⟩;rcases h2 with ⟨e,_⟩ | ⟨g',cap',cur,e,hb,hc,k1,k2,k3,k4⟩
 ·cases e
 ·cases e;refine .inr ⟨g,cap,_,rfl,hb,heap_setCell_same w g j cur _ _ hc,k1,k2,by simpa using k3,?_⟩;rw [Array.toList_setIfInBounds,List.take_set,k4]
def stW (w:World) (g i:Nat) (x:SE):World:=((((w.setCell ⟨g,i*5,none⟩ (.string (bs x.1))).setCell ⟨g,i*5+1,none⟩ (.int .i64 x.2.1)).setCell ⟨g,i*5+2,none⟩ (.int .i64 x.2.2.1)).setCell ⟨g,i*5+3,none⟩ (.int .i64 x.2.2.2.1)).setCell ⟨g,i*5+4,none⟩ (.int .i64 x.2.2.2.2)
theorem aCZ {g i:Nat} {l:List SE} (h:w.ownsRow B 91 5 (.slice (some ⟨g,0,none⟩) l.length cap) l.length (lY l)) (hi:i<l.length) (x:SE):(stW w g i x).ownsRow B 91 5 (.slice (some ⟨g,0,none⟩) l.length cap) l.length (lY (l.set i x)):=by
 rw [←aE4];exact l7 (l7 (l7 (l7 (l7 h (by omega) _) (by omega) _) (by omega) _) (by omega) _) (by omega) _
def aKm (p q:P4):Bool:=vY p.1 p.2.1 p.2.2.1 p.2.2.2 q.1 q.2.1 q.2.2.1 q.2.2.2
def iG (x y:SE):Bool:=OrdM.ahead aKm Op.bytesLess x y
theorem Blk.gby1 {g k:Nat} {arr:Array Value} {t:TypeId} (h:Blk w k arr t) (hg:w.grownBy w' (some g)) (hn:k≠g):Blk w' k arr t:=(hg.block k h.lt (fun e=>hn (by simpa using e))).trans h
abbrev aBy (bk:Nat):Value:=.func (.func 116) #[] #[.pointer (some ⟨bk,0,none⟩)]
theorem aDu (K:List P4) (hK:K.length≤1000000000) (KW:∀p ∈ K,Wf4 p.1 p.2.1 p.2.2.1 p.2.2.2) (x y:SE) (hx:x.2 ∈ K) (hy:y.2 ∈ K) (bm bk:Nat) (w:World) (hc:Blk w bk #[.map (some bm)] 117) (hm:eF K bm w) (hne:bk≠bm) :
  cP 116 #[stv x,stv y,.pointer (some ⟨bk,0,none⟩)] w fun e w'=>e=.returned (.bool (iG x y))∧eF K bm w'∧w.grownBy w' (some bm):=by
 obtain ⟨n1,a,b,c,d⟩:=x;obtain ⟨n2,e,f,g,h⟩:=y;have C1:=aA (fun wx hm=>aCf K hK a b c d e f g h (KW _ hx) (KW _ hy) hx hy bm wx hm);have C2:=aA (fun wx hm=>aCf K hK e f g h a b c d (KW _ hy) (KW _ hx) hy hx bm wx hm);have HA:=aA (show iG (n1,a,b,c,d) (n2,e,f,g,h)=(vY a b c d e f g h||(!vY e f g h a b c d&&Op.bytesLess n1 n2)) from rfl);obtain ⟨l1,hl1⟩:∃z,vY a b c d e f g h=z:=⟨_,rfl⟩;obtain ⟨l2,hl2⟩:∃b',vY e f g h a b c d=b':=⟨_,rfl⟩;obtain ⟨o,ho⟩:∃b',iG (n1,a,b,c,d) (n2,e,f,g,h)=b':=⟨_,rfl⟩;rw [hl1] at C1 HA;rw [hl2] at C2 HA;rw [ho] at HA ⊢;have X0:=aA ((yD w #[.string (bs n1),.int .i64 a,.int .i64 b,.int .i64 c,.int .i64 d] 91).al (.cells #[.string (bs n2),.int .i64 e,.int .i64 f,.int .i64 g,.int .i64 h] 91));have Y0:=aA (show Blk ((w.alloc (.cells #[.string (bs n1),.int .i64 a,.int .i64 b,.int .i64 c,.int .i64 d] 91)).alloc (.cells #[.string (bs n2),.int .i64 e,.int .i64 f,.int .i64 g,.int .i64 h] 91)) (w.heap.size+1) #[.string (bs n2),.int .i64 e,.int .i64 f,.int .i64 g,.int .i64 h] 91 from by have:=yD (w.alloc (.cells #[.string (bs n1),.int .i64 a,.int .i64 b,.int .i64 c,.int .i64 d] 91)) #[.string (bs n2),.int .i64 e,.int .i64 f,.int .i64 g,.int .i64 h] 91;rw [yE] at this;exact this);have M0:=aA ((hc.al (.cells #[.string (bs n1),.int .i64 a,.int .i64 b,.int .i64 c,.int .i64 d] 91)).al (.cells #[.string (bs n2),.int .i64 e,.int .i64 f,.int .i64 g,.int .i64 h] 91));have hb0:=yA (yA (yH _ w) (.cells #[.string (bs n1),.int .i64 a,.int .i64 b,.int .i64 c,.int .i64 d] 91)) (.cells #[.string (bs n2),.int .i64 e,.int .i64 f,.int .i64 g,.int .i64 h] 91);have H0:=aA (hm.below hb0);have G0:=aA (aI (aF w (some bm)) hb0);have hlm:bm<w.heap.size:=hm.lt;clear hl1 hl2 ho hc hm hb0 hx hy;have c0:=(uH M0).at 0;have x1:=(uH X0).at 1;have x2:=(uH X0).at 2;have x3:=(uH X0).at 3;have x4:=(uH X0).at 4;have y1:=(uH Y0).at 1;have y2:=(uH Y0).at 2;have y3:=(uH Y0).at 3;have y4:=(uH Y0).at 4;simp at c0 x1 x2 x3 x4 y1 y2 y3 y4;go_enter func116,ntmps116;go_wp2_with fail;refine (uH C1 _ (uH H0)).mono ?_;rintro e1 w1 ⟨rfl,hh,hg⟩;have H1:=aA hh;have G1:=aA (cZ (uH G0) hg);have X1:=aA ((uH X0).gby1 hg (by omega));have Y1:=aA ((uH Y0).gby1 hg (by omega));have M1:=aA ((uH M0).gby1 hg hne);clear hh hg H0 G0 X0 Y0 M0 C1 c0 x1 x2 x3 x4 y1 y2 y3 y4;cases l1;case true=>go_wp2;go_ret;exact ⟨yF (by rw [uH HA];rfl),uH H1,uH G1⟩
 have c0:=(uH M1).at 0;have x1:=(uH X1).at 1;have x2:=(uH X1).at 2;have x3:=(uH X1).at 3;have x4:=(uH X1).at 4;have y1:=(uH Y1).at 1;have y2:=(uH Y1).at 2;have y3:=(uH Y1).at 3;have y4:=(uH Y1).at 4;simp at c0 x1 x2 x3 x4 y1 y2 y3 y4;go_wp2_with fail;refine (uH C2 _ (uH H1)).mono ?_;rintro e2 w2 ⟨rfl,hh,hg⟩;have H2:=aA hh;have G2:=aA (cZ (uH G1) hg);have X2:=aA ((uH X1).gby1 hg (by omega));have Y2:=aA ((uH Y1).gby1 hg (by omega));clear hh hg H1 G1 X1 Y1 M1 C2 c0 x1 x2 x3 x4 y1 y2 y3 y4;cases l2;case true=>go_wp2;go_ret;exact ⟨yF (by rw [uH HA];rfl),uH H2,uH G2⟩
 have x0:=(uH X2).at 0;have y0:=(uH Y2).at 0;simp at x0 y0;obtain ⟨bl,hbl⟩:∃z,Op.bytesLess (bs n1).toList (bs n2).toList=z:=⟨_,rfl⟩;have TB:=aA (show Op.bytesLess n1 n2=bl by rw [←hbl];simp [bs]);go_wp2;go_ret;exact ⟨yF (by rw [uH HA,uH TB];rfl),uH H2,uH G2⟩
end
section
open Go.RowKit
variable {B cap g:Nat} {ao:Option Addr} {w w0:World}
theorem nU.blk {n k:Nat} {l:List Con} (h:nU B w ao n l) (hk:k<n):∃g,ao=some ⟨g,0,none⟩∧B≤g∧g<w.heap.size∧(∀j,w.frozen? ⟨g,j,none⟩=false)∧∀i (hi:i<l.length),qZ w g (i*5) l[i]:=by
 obtain ⟨⟨h1,h2⟩,h3⟩:=h;rcases h3 with e | ⟨g,M,rfl,hB,hE,hc,hn⟩
 ·omega
 ·rcases h2 with e | ⟨b,off,e,hh⟩
  ·omega
  ·cases e;exact ⟨g,rfl,hB,hE,fun j=>hc.frozen j,fun i hi=>by have:=hh i hi;rwa [Nat.zero_add] at this⟩
theorem zI (ao:Option Addr) (len cap:Nat) (cs:List Con) (w:World) (h:dC w ao len cs) (hl:len≤1048576) (hn:∀c ∈ cs,c.node.length≤1048576) :
  cP 110 #[.slice ao len cap] w fun e w'=>∃co cd,e=.returned (.slice co cs.length cd)∧cs.length≤cd∧nU w.heap.size w' co cs.length cs∧eU w.heap.size w'.heap.size w' 35 5 co cd∧Bw w w':=by
 have HF:=aA hn;have CC:=aA (aBu ao len cap cs w h hl);have hll:=aA h.1;clear h hn;go_enter func110,ntmps110;go_wp2_with fail;refine (uH CC).mono ?_;rintro e w9 ⟨v,rfl,ho,hb⟩;obtain ⟨co,cd,rfl,hcd,hch⟩:=aBq ho;obtain ⟨n4,WU⟩:∃n,cs.length=n:=⟨_,rfl⟩;rw [WU] at hch hcd ⊢;have OC:=aA hch;have UO:=aA (jF ho);have QL:=aA hb;have PV:=aA WU;have hl4:n4≤1048576:=by have:=uH hll;omega
 clear ho hb hch CC WU;go_wp2;go_loopw [4,5,10] (fun _ _ i wr=>∃(q:Nat),q≤n4∧i=.int .i64 q∧Hid (nU w.heap.size wr co n4 cs)∧Hid (eU w.heap.size wr.heap.size wr 35 5 co cd)∧Hid (Bw w wr)) (fun _ _ i _=>n4 - (intOf i).toNat);case atStart=>exact ⟨0,Nat.zero_le _,rfl,OC,UO,QL⟩
 case round=>
  obtain ⟨q,hq,rfl,HC,HO,HB⟩:=hrel;clear OC UO QL;by_cases hlt:q<n4
  ·obtain ⟨g,rfl,hgB,Tj,hfz,hat⟩:=(uH HC).blk hlt;(have hjl:q<cs.length:=by have:=uH PV;omega);obtain ⟨c0,c1,c2,c3,c4⟩:=hat q hjl;have hnm:=uH HF cs[q] (yM hjl);obtain ⟨⟨ci,cap,cn,me,cp⟩,hm⟩:∃m,cs[q]=m:=⟨_,rfl⟩;rw [hm] at c0 c1 c2 c3 c4 hnm;simp only at c0 c1 c2 c3 c4 hnm;have HW:=aA (yA (yH _ wr) (.cells #[.int .i64 ci,.int .i64 cap,.string (bs cn),.int .i64 me,.int .i64 cp] 35));have XC:=aA ((uH HC).below (uH HW));have XB:=aA (yB (uH HB) (uH HW));have XO:=aA ((uH HO).grow (uH HW) (yJ _));have XA:=aA (yD wr #[.int .i64 ci,.int .i64 cap,.string (bs cn),.int .i64 me,.int .i64 cp] 35);have D0:=aA (jW c0 (uH HW));have D1:=aA (jW c1 (uH HW));have D2:=aA (jW c2 (uH HW));have D3:=aA (jW c3 (uH HW));have D4:=aA (jW c4 (uH HW));have CL:=aA (fun wx=>qJ ⟨ci,cap,cn,me,cp⟩ wx hnm);(have j0:(0:Int)≤q:=by omega);(have j1:(q:Int)<n4:=by omega);clear hat hm hjl hfz hnm;obtain ⟨W,hW⟩:∃W,wr.alloc (.cells #[.int .i64 ci,.int .i64 cap,.string (bs cn),.int .i64 me,.int .i64 cp] 35)=W:=⟨_,rfl⟩;have XA1:=uH XA;rw [hW] at XC XB XO D0 D1 D2 D3 D4 XA1;have xa0:=(uH XA).at 0;have xa1:=(uH XA).at 1;have xa2:=(uH XA).at 2;have xa3:=(uH XA).at 3;have xa4:=(uH XA).at 4;simp at xa0 xa1 xa2 xa3 xa4;have HWW:=aA hW;clear hW HW HC HB HO XA XA1;(go_wp2_with fail);refine (uH CL _).mono ?_;rintro e w6 ⟨rfl,hb⟩;rw [uH HWW] at hb;have Gx:=aA (yB (yH _ W) hb);clear c0 c1 c2 c3 c4;have c0:=jW (uH D0) (uH Gx);have c1:=jW (uH D1) (uH Gx);have c2:=jW (uH D2) (uH Gx);have c3:=jW (uH D3) (uH Gx);have c4:=jW (uH D4) (uH Gx);have s0:=jR c0;have s1:=jR c1;have s2:=jR c2;have s3:=jR c3;have s4:=jR c4;obtain ⟨g',e',_,_,hfz,_⟩:=((uH XC).below (uH Gx)).blk hlt;cases e';have z0:=hfz (q*5);have z1:=hfz (q*5+1);have z2:=hfz (q*5+2);have z3:=hfz (q*5+3);have z4:=hfz (q*5+4);clear hb hfz;go_wp2;go_roundw;(case rel=>exact ⟨q+1,by omega,by go_num,aA ((uH XC).below (uH Gx)),aA ((uH XO).grow (uH Gx) (yJ _)),aA (yB (uH XB) (uH Gx))⟩);case measure=>simp [intOf];omega
  ·(obtain rfl:q=n4:=by omega);(have j1:¬(q:Int)<q:=by omega);clear hlt;go_wp2;go_ret;rw [uH PV];exact ⟨co,cd,rfl,hcd,uH HC,uH HO,uH HB⟩
theorem CSt.rebase {len:Nat} (h:CSt w0 B g ao len cap w):CSt w B g ao len cap w:=⟨h.1,h.2.1,aF w _,h.2.2.2⟩
def aBS (a b c d:Int):List Q:=[⟨[114,111,111,116],[],10000,10000⟩,⟨[97],[114,111,111,116],a,b⟩,⟨[98],[114,111,111,116],c,d⟩]
theorem aD0 (a b c d:Int):aBx (aBS a b c d):=fun q hq=>by
 simp [aBS] at hq;rcases hq with rfl | rfl | rfl<;>simp
theorem aE8 {len:Nat} (w:World) (h:CSt w0 B g ao len cap w) :
  cP 195 #[.pointer (some ⟨g,0,none⟩)] w fun e w'=>∃v ls,e=.returned v∧Hid (QDr w.heap.size w' v ls)∧3≤ls.length∧ls.length≤5∧Hid (aBx ls)∧Hid (CSt w0 B g ao len cap w'):=by
 obtain ⟨i0,hi,hz0,hz1,hz2⟩:=info_parts Tryz.infoQD;have HS:=aA h;have hgl:=h.1.lt;have hw0:=h.2.2.1.size;clear h;have hq1:=aA (dK w 3 [5000,3000,0,6000] (by decide));go_enter func195,ntmps195;go_wp2_with fail;refine (jS w.heap.size 4 4 _ ((uH HS).alloc _).rebase (uH hq1) (by omega) (by decide) (by decide)).mono ?_;rintro e w1 ⟨x1,rfl,_,_,hs1⟩;have Zq:=aA (((uH HS).alloc _).step hs1.1 hs1.2.2.1);have hz1':w.heap.size+1≤w1.heap.size:=by have:=hs1.2.2.1.size;rwa [World.size_alloc] at this
 have hq2:=aA (dK w1 3 [8000,10000,6000] (by decide));clear hs1 hq1 HS;go_wp2_with fail;refine (jS w1.heap.size 3 3 _ ((uH Zq).alloc _).rebase (uH hq2) (by omega) (by decide) (by decide)).mono ?_;rintro e w2 ⟨x2,rfl,_,_,hs2⟩;have HS2:=aA (((uH Zq).alloc _).step hs2.1 hs2.2.2.1);have hz2':w1.heap.size+1≤w2.heap.size:=by have:=hs2.2.2.1.size;rwa [World.size_alloc] at this
 have hq3:=aA (dK w2 3 [4000,2000,0] (by decide));clear hs2 hq2 Zq;go_wp2_with fail;refine (jS w2.heap.size 3 3 _ ((uH HS2).alloc _).rebase (uH hq3) (by omega) (by decide) (by decide)).mono ?_;rintro e w3 ⟨x3,rfl,_,_,hs3⟩;have ZM:=aA (((uH HS2).alloc _).step hs3.1 hs3.2.2.1);have hz3':w2.heap.size+1≤w3.heap.size:=by have:=hs3.2.2.1.size;rwa [World.size_alloc] at this
 have hq4:=aA (dK w3 3 [10000,5000] (by decide));clear hs3 hq3 HS2;go_wp2_with fail;refine (jS w3.heap.size 2 2 _ ((uH ZM).alloc _).rebase (uH hq4) (by omega) (by decide) (by decide)).mono ?_;rintro e w4 ⟨x4,rfl,_,_,hs4⟩;have KQ:=aA ((((uH ZM).alloc _).step hs4.1 hs4.2.2.1).alloc (.cells (dN (aBS x1 x2 x3 x4)).toArray 105));have hz4':w3.heap.size+1≤w4.heap.size:=by have:=hs4.2.2.1.size;rwa [World.size_alloc] at this
 have UJ:=aA (aJc w4 (aBS x1 x2 x3 x4) 3 rfl (by decide));have JJ:=aA (aD0 x1 x2 x3 x4);have GY:=aA (show (aBS x1 x2 x3 x4).length=3 from rfl);clear hs4 hq4 ZM;go_wp2_with fail;refine (aGm 2 _ (uH KQ).rebase (by decide) (by decide)).mono ?_;rintro e w5 ⟨x,rfl,hs5⟩;have jw:=aA ((uH KQ).step hs5.1 hs5.2.2.1);have WB:=aA ((uH UJ).kept hs5.2.2.1 (fun k e=>by cases e;omega));have hz5':w4.heap.size+1≤w5.heap.size:=by have:=hs5.2.2.1.size;rwa [World.size_alloc] at this
 clear hs5 KQ UJ;cases x with
 | false=>go_wp2;go_ret;exact ⟨_,aBS x1 x2 x3 x4,rfl,aA ⟨(uH WB).1,by rcases (uH WB).2 with h | ⟨a,b,c,h1,h2,h3⟩;exact .inl h;exact .inr ⟨a,b,c,h1,by omega,h3⟩⟩,by rw [uH GY];omega,by rw [uH GY];omega,JJ,jw⟩
 | true=>
  have TU:=aA (dK w5 3 [5000,1000] (by decide));go_wp2_with fail;refine (jS w5.heap.size 2 2 _ ((uH jw).alloc _).rebase (uH TU) (by omega) (by decide) (by decide)).mono ?_;rintro e w6 ⟨x6,rfl,_,_,hs6⟩;have HS6:=aA (((uH jw).alloc _).step hs6.1 hs6.2.2.1);have UI:=aA (((uH WB).below (yA (yH _ _) _)).kept hs6.2.2.1 (fun k e=>by cases e;omega));have hz6':w5.heap.size+1≤w6.heap.size:=by have:=hs6.2.2.1.size;rwa [World.size_alloc] at this
  have Hz:w6.ownsRow w4.heap.size 105 4 _ 3 (dN (aBS x1 x2 x3 x4)):=uH UI;have hs2:w4.heap.size≤w6.heap.size:=by omega
  clear hs6 TU jw WB;go_wp2_with (at_builtin;refine wpList_append_own _ rfl _ _ 24 rfl w4.heap.size 105 i0 (.agg #[.string .empty,.string .empty,.int .i64 0,.int .i64 0]) 4 48 underlying24 hi hz0 hz1 hz2 rfl (by decide) _ _ _ rfl (Hz.alloc _) ⟨w6.heap.size,0,none⟩ 2 2 (dN [⟨[98,49],[98],5000,10000⟩,⟨[98,50],[98],x6,9000⟩]) rfl rfl ?c1 ?c2 ?c3 ?c4 ?c5 ?_);case c1=>
   intro j x hj;have hj8:j<8:=by have:=(List.getElem?_eq_some_iff.1 hj).1;simpa [dN] using this
   match j,hj8,hj with
   | 0,_,hj=>simp [dN] at hj;subst hj;simp [Addr.add];rfl
   | 1,_,hj=>simp [dN] at hj;subst hj;simp [Addr.add];rfl
   | 2,_,hj=>simp [dN] at hj;subst hj;simp [Addr.add]
   | 3,_,hj=>simp [dN] at hj;subst hj;simp [Addr.add]
   | 4,_,hj=>simp [dN] at hj;subst hj;simp [Addr.add];rfl
   | 5,_,hj=>simp [dN] at hj;subst hj;simp [Addr.add];rfl
   | 6,_,hj=>simp [dN] at hj;subst hj;simp [Addr.add]
   | 7,_,hj=>simp [dN] at hj;subst hj;simp [Addr.add]
  case c2=>intro x hx;simp [dN] at hx;rcases hx with rfl | rfl | rfl | rfl | rfl | rfl | rfl | rfl<;>rfl
  case c3=>unfold maxLen;omega
  case c4=>omega
  case c5=>simp at hs2 ⊢;omega
  intro v' w7 Hy Hw _;have FM:=aA (show QDr w4.heap.size w7 v' (aBS x1 x2 x3 x4++[⟨[98,49],[98],5000,10000⟩,⟨[98,50],[98],x6,9000⟩]) by unfold QDr;rw [aBC];exact Hy);have PK:=aA (((uH HS6).alloc _).gro Hw (fun k hk=>by
   rcases (uH UI).2 with ⟨e,_⟩ | ⟨q,_,_,e,hq,_⟩
   ·rw [e] at hk;simp [Value.ownBlock] at hk
   ·rw [e] at hk;simp [Value.ownBlock] at hk;omega))
  clear Hy Hw Hz;go_wp2;go_ret;refine ⟨_,aBS x1 x2 x3 x4++[⟨[98,49],[98],5000,10000⟩,⟨[98,50],[98],x6,9000⟩],rfl,aA ⟨(uH FM).1,by rcases (uH FM).2 with h | ⟨a,b,c,h1,h2,h3⟩;exact .inl h;exact .inr ⟨a,b,c,h1,by omega,h3⟩⟩,by simp [uH GY],by simp [uH GY],aA ?_,PK⟩;intro q hq;rcases List.mem_append.1 hq with hq | hq
  ·exact uH JJ q hq
  ·simp at hq;rcases hq with rfl | rfl<;>simp
def aBL (w:World) (l:List Q) (e:Ending) (w':World):Prop:=Bw w w'∧(aH l=false∧e=.returned (.tuple #[.agg #[.slice none 0 0,.int .i64 0,.int .i64 0,.int .i64 0,.int .i64 0,.slice none 0 0,.slice none 0 0,.slice none 0 0],.bool false])∨aH l=true∧∃v,e=.returned (.tuple #[.agg #[v,.int .i64 0,.int .i64 1,.int .i64 1001,.int .i64 1,.slice none 0 0,.slice none 0 0,.slice none 0 0],.bool true])∧p8 (w.heap.size+1) w' v l)
theorem vU (ao:Option Addr) (len cap:Nat) (l:List Q) (w:World) (h:gN w ao len l) (hl:len≤1048576) (hf:aLH l) (ha:∃ad,ao=some ad)
  (CO:∀(qo:Option Addr) (n c:Nat) (wx:World),gN wx qo n l→n≤c→cP 18 #[.agg #[.slice qo n c,.int .i64 0,.int .i64 1,.int .i64 1001,.int .i64 1,.slice none 0 0,.slice none 0 0,.slice none 0 0]] wx fun e w'=>e=.returned (.bool (aH l))∧Bw wx w') :
  cP 194 #[.slice ao len cap] w (aBL w l):=by
 obtain ⟨i0,hi,hz0,hz1,hz2⟩:=info_parts Tryz.infoQ;obtain ⟨o,ho⟩:∃o,aH l=o:=⟨_,rfl⟩;obtain ⟨ad,rfl⟩:=ha;have hb1:=yA (yA (yH _ w) (.cells #[.slice none 0 0,.int .i64 0,.int .i64 0,.int .i64 0,.int .i64 0,.slice none 0 0,.slice none 0 0,.slice none 0 0] 29)) (.cells #[] 105);have P0:=aA ((yD w #[.slice none 0 0,.int .i64 0,.int .i64 0,.int .i64 0,.int .i64 0,.slice none 0 0,.slice none 0 0,.slice none 0 0] 29).al (.cells #[] 105));have qw:∀j u,(fH l)[j]? = some u→((w.alloc (.cells #[.slice none 0 0,.int .i64 0,.int .i64 0,.int .i64 0,.int .i64 0,.slice none 0 0,.slice none 0 0,.slice none 0 0] 29)).alloc (.cells #[] 105)).cell? (ad.add j)=some u:=fun j u hj=>by
  have hjl:j<l.length*4:=by rw [←iP];exact (List.getElem?_eq_some_iff.1 hj).1
  rcases h.2 with h0 | ⟨b,off,e,_⟩
  ·have:=h.1;omega
  ·cases e;have:=tL (h.below hb1) j u hj;rw [Lib.add_plain];exact this
 have QR:=aA qw;have GY:=aA h.1;have HB1:=aA hb1;have Hz:((w.alloc (.cells #[.slice none 0 0,.int .i64 0,.int .i64 0,.int .i64 0,.int .i64 0,.slice none 0 0,.slice none 0 0,.slice none 0 0] 29)).alloc (.cells #[] 105)).ownsRow (w.heap.size+1) 105 4 (.slice (some ⟨w.heap.size+1,0,none⟩) 0 0) 0 []:=by have:=tK (w.alloc (.cells #[.slice none 0 0,.int .i64 0,.int .i64 0,.int .i64 0,.int .i64 0,.slice none 0 0,.slice none 0 0,.slice none 0 0] 29));rw [yE] at this;exact this
 have hll:(fH l).length=len*4:=by rw [iP,h.1]
 have gy:=pE l;have CS:=aA (fun (qo:Option Addr) (n c:Nat) (wx:World) (hr:gN wx qo n l) (hc:n≤c)=>by have:=CO qo n c wx hr hc;rw [ho] at this;exact this);have UN:=aA ho;clear CO ho hf h qw hb1;go_enter func194,ntmps194;go_wp2_with (at_builtin;refine wpList_append_own _ rfl _ _ 24 rfl (w.heap.size+1) 105 i0 (.agg #[.string .empty,.string .empty,.int .i64 0,.int .i64 0]) 4 48 underlying24 hi hz0 hz1 hz2 rfl (by decide) _ _ _ rfl Hz ad len cap (fH l) rfl hll (uH QR) gy ?c3 ?c4 ?c5 ?_);case c3=>unfold maxLen;omega
 case c4=>omega
 case c5=>simp
 intro v w2 Hy Hw _;have HO:=aA (show p8 (w.heap.size+1) w2 v l by
  unfold p8;rw [←uH GY];simpa using Hy)
 have HB2:=aA (show Bw w w2 from (uH HB1).grown Hw (by simp;omega) (fun k e=>by simp [Value.ownBlock] at e;omega));have R0:=aA (show Blk w2 w.heap.size #[.slice none 0 0,.int .i64 0,.int .i64 0,.int .i64 0,.int .i64 0,.slice none 0 0,.slice none 0 0,.slice none 0 0] 29 from (Hw.block _ (uH P0).lt (by simp [Value.ownBlock])).trans (uH P0));obtain ⟨qo,qc,rfl,Hq,hqc,_⟩:=oK (uH HO);have HRW:=aA (Hq.below (yA (yH _ w2) (.cells #[.slice qo l.length qc,.int .i64 0,.int .i64 1,.int .i64 1001,.int .i64 1,.slice none 0 0,.slice none 0 0,.slice none 0 0] 29)));have HB3:=aA (yA (uH HB2) (.cells #[.slice qo l.length qc,.int .i64 0,.int .i64 1,.int .i64 1001,.int .i64 1,.slice none 0 0,.slice none 0 0,.slice none 0 0] 29));have S1:=aA (yD w2 #[.slice qo l.length qc,.int .i64 0,.int .i64 1,.int .i64 1001,.int .i64 1,.slice none 0 0,.slice none 0 0,.slice none 0 0] 29);have S0:=aA ((uH R0).al (.cells #[.slice qo l.length qc,.int .i64 0,.int .i64 1,.int .i64 1001,.int .i64 1,.slice none 0 0,.slice none 0 0,.slice none 0 0] 29));have Zx:=aA ((uH HO).below (yA (yH _ w2) (.cells #[.slice qo l.length qc,.int .i64 0,.int .i64 1,.int .i64 1001,.int .i64 1,.slice none 0 0,.slice none 0 0,.slice none 0 0] 29)));clear Hy Hw Hz gy hll HB1 HB2 R0 P0 HO Hq QR;go_wp2_with fail;refine (uH CS qo l.length qc _ (uH HRW) hqc).mono ?_;rintro e w4 ⟨rfl,hb⟩;have GD:=aA (yB (uH HB3) hb);have T0:=aA ((uH S0).below hb);have T1:=aA ((uH S1).below hb);have Kq:=aA ((uH Zx).below hb);clear hb HB3 S0 S1 Zx HRW CS;cases o;case false=>obtain ⟨c0,c1,c2,c3,c4,c5,c6,c7⟩:=zq (uH T0);have rf0:=(uH T0).f 0;have rf1:=(uH T0).f 1;have rf2:=(uH T0).f 2;have rf3:=(uH T0).f 3;have rf4:=(uH T0).f 4;have rf5:=(uH T0).f 5;have rf6:=(uH T0).f 6;have rf7:=(uH T0).f 7;go_wp2;have QL:=aA (yC (yC (yC (yC (yC (yC (yC (yC (uH GD) w.heap.size 0 (.slice none 0 0) (yJ _)) w.heap.size 1 (.int .i64 0) (yJ _)) w.heap.size 2 (.int .i64 0) (yJ _)) w.heap.size 3 (.int .i64 0) (yJ _)) w.heap.size 4 (.int .i64 0) (yJ _)) w.heap.size 5 (.slice none 0 0) (yJ _)) w.heap.size 6 (.slice none 0 0) (yJ _)) w.heap.size 7 (.slice none 0 0) (yJ _));have R9:=aA (show Blk ((((((((w4.setCell ⟨w.heap.size,0,none⟩ (.slice none 0 0)).setCell ⟨w.heap.size,1,none⟩ (.int .i64 0)).setCell ⟨w.heap.size,2,none⟩ (.int .i64 0)).setCell ⟨w.heap.size,3,none⟩ (.int .i64 0)).setCell ⟨w.heap.size,4,none⟩ (.int .i64 0)).setCell ⟨w.heap.size,5,none⟩ (.slice none 0 0)).setCell ⟨w.heap.size,6,none⟩ (.slice none 0 0)).setCell ⟨w.heap.size,7,none⟩ (.slice none 0 0)) w.heap.size #[.slice none 0 0,.int .i64 0,.int .i64 0,.int .i64 0,.int .i64 0,.slice none 0 0,.slice none 0 0,.slice none 0 0] 29 from (((((((((uH T0).set 0 (.slice none 0 0)).set 1 (.int .i64 0)).set 2 (.int .i64 0)).set 3 (.int .i64 0)).set 4 (.int .i64 0)).set 5 (.slice none 0 0)).set 6 (.slice none 0 0)).set 7 (.slice none 0 0)));generalize ((((((((w4.setCell ⟨w.heap.size,0,none⟩ (.slice none 0 0)).setCell ⟨w.heap.size,1,none⟩ (.int .i64 0)).setCell ⟨w.heap.size,2,none⟩ (.int .i64 0)).setCell ⟨w.heap.size,3,none⟩ (.int .i64 0)).setCell ⟨w.heap.size,4,none⟩ (.int .i64 0)).setCell ⟨w.heap.size,5,none⟩ (.slice none 0 0)).setCell ⟨w.heap.size,6,none⟩ (.slice none 0 0)).setCell ⟨w.heap.size,7,none⟩ (.slice none 0 0))=W9 at QL R9 ⊢;obtain ⟨z0,z1,z2,z3,z4,z5,z6,z7⟩:=zq (uH R9);refine bodyPost_ret (v:=.tuple #[.agg #[.slice none 0 0,.int .i64 0,.int .i64 0,.int .i64 0,.int .i64 0,.slice none 0 0,.slice none 0 0,.slice none 0 0],.bool false]) (by simp [results,results194,go_sem,z0,z1,z2,z3,z4,z5,z6,z7]) rfl (show aBL w l _ _ from ⟨uH QL,.inl ⟨uH UN,rfl⟩⟩)
 obtain ⟨a0,a1,a2,a3,a4,a5,a6,a7⟩:=zq (uH T1);have af0:=(uH T1).f 0;have af1:=(uH T1).f 1;have af2:=(uH T1).f 2;have af3:=(uH T1).f 3;have af4:=(uH T1).f 4;have af5:=(uH T1).f 5;have af6:=(uH T1).f 6;have af7:=(uH T1).f 7;obtain ⟨c0,c1,c2,c3,c4,c5,c6,c7⟩:=zq (uH T0);have rf0:=(uH T0).f 0;have rf1:=(uH T0).f 1;have rf2:=(uH T0).f 2;have rf3:=(uH T0).f 3;have rf4:=(uH T0).f 4;have rf5:=(uH T0).f 5;have rf6:=(uH T0).f 6;have rf7:=(uH T0).f 7;go_wp2;have QL:=aA (yC (yC (yC (yC (yC (yC (yC (yC (uH GD) w.heap.size 0 (.slice qo l.length qc) (yJ _)) w.heap.size 1 (.int .i64 0) (yJ _)) w.heap.size 2 (.int .i64 1) (yJ _)) w.heap.size 3 (.int .i64 1001) (yJ _)) w.heap.size 4 (.int .i64 1) (yJ _)) w.heap.size 5 (.slice none 0 0) (yJ _)) w.heap.size 6 (.slice none 0 0) (yJ _)) w.heap.size 7 (.slice none 0 0) (yJ _));have R9:=aA (show Blk ((((((((w4.setCell ⟨w.heap.size,0,none⟩ (.slice qo l.length qc)).setCell ⟨w.heap.size,1,none⟩ (.int .i64 0)).setCell ⟨w.heap.size,2,none⟩ (.int .i64 1)).setCell ⟨w.heap.size,3,none⟩ (.int .i64 1001)).setCell ⟨w.heap.size,4,none⟩ (.int .i64 1)).setCell ⟨w.heap.size,5,none⟩ (.slice none 0 0)).setCell ⟨w.heap.size,6,none⟩ (.slice none 0 0)).setCell ⟨w.heap.size,7,none⟩ (.slice none 0 0)) w.heap.size #[.slice qo l.length qc,.int .i64 0,.int .i64 1,.int .i64 1001,.int .i64 1,.slice none 0 0,.slice none 0 0,.slice none 0 0] 29 from (((((((((uH T0).set 0 (.slice qo l.length qc)).set 1 (.int .i64 0)).set 2 (.int .i64 1)).set 3 (.int .i64 1001)).set 4 (.int .i64 1)).set 5 (.slice none 0 0)).set 6 (.slice none 0 0)).set 7 (.slice none 0 0)));have O9:=aA (iO (iO (iO (iO (iO (iO (iO (iO (uH Kq) w.heap.size 0 (.slice qo l.length qc) (Nat.lt_succ_self _)) w.heap.size 1 (.int .i64 0) (Nat.lt_succ_self _)) w.heap.size 2 (.int .i64 1) (Nat.lt_succ_self _)) w.heap.size 3 (.int .i64 1001) (Nat.lt_succ_self _)) w.heap.size 4 (.int .i64 1) (Nat.lt_succ_self _)) w.heap.size 5 (.slice none 0 0) (Nat.lt_succ_self _)) w.heap.size 6 (.slice none 0 0) (Nat.lt_succ_self _)) w.heap.size 7 (.slice none 0 0) (Nat.lt_succ_self _));generalize ((((((((w4.setCell ⟨w.heap.size,0,none⟩ (.slice qo l.length qc)).setCell ⟨w.heap.size,1,none⟩ (.int .i64 0)).setCell ⟨w.heap.size,2,none⟩ (.int .i64 1)).setCell ⟨w.heap.size,3,none⟩ (.int .i64 1001)).setCell ⟨w.heap.size,4,none⟩ (.int .i64 1)).setCell ⟨w.heap.size,5,none⟩ (.slice none 0 0)).setCell ⟨w.heap.size,6,none⟩ (.slice none 0 0)).setCell ⟨w.heap.size,7,none⟩ (.slice none 0 0))=W9 at QL R9 O9 ⊢;obtain ⟨z0,z1,z2,z3,z4,z5,z6,z7⟩:=zq (uH R9);refine bodyPost_ret (v:=.tuple #[.agg #[.slice qo l.length qc,.int .i64 0,.int .i64 1,.int .i64 1001,.int .i64 1,.slice none 0 0,.slice none 0 0,.slice none 0 0],.bool true]) (by simp [results,results194,go_sem,z0,z1,z2,z3,z4,z5,z6,z7]) rfl (show aBL w l _ _ from ⟨uH QL,.inr ⟨uH UN,_,rfl,uH O9⟩⟩)
end
end Go.Proofs.YtfndhndlkcijoaaGreat
