/-
  Texts in one: OfK, LessK, StdM, StdC, CapS, CapsS, TotalB, QueuesOkS, LeafS, OverM, RoomM, CpC, PathS.
-/
import Derived.Test.YtfndhndlkcijoaaGreatTackC
import Derived.Laws.OwnMore
import Derived.Test.YtfndhndlkcijoaaGreatTackD
import Derived.Test.YtfndhndlkcijoaaGreatTackB
set_option maxRecDepth 100000
set_option maxHeartbeats 16000000
set_option linter.unusedVariables false
set_option linter.unusedSimpArgs false
open Go.Proofs.Tryz
namespace Go.Proofs.YtfndhndlkcijoaaGreat
section
open Go.RowKit Go.Maps
variable {a b c d g h:Int} {B bm cap:Nat} {w w' w0 w1 w2:World}
abbrev P4:=Int×Int×Int×Int
theorem aBg {α:Type}:∀(ps K:List α),ps.Nodup→(∀p ∈ ps,p ∈ K)→ps.length≤K.length
 | [],_,_,_=>Nat.zero_le _
 | p::t,K,h,s=>by
  obtain ⟨h1,h2⟩:=List.nodup_cons.1 h;obtain ⟨a,b,rfl⟩:=List.append_of_mem (s p (List.mem_cons_self ..));have:=aBg t (a++b) h2 (fun q hq=>by
   have h3:=s q (List.mem_cons_of_mem _ hq);rcases List.mem_append.1 h3 with h3 | h3
   ·exact List.mem_append.2 (.inl h3)
   ·rcases List.mem_cons.1 h3 with rfl | h3
    ·exact absurd hq h1
    ·exact List.mem_append.2 (.inr h3))
  simp at this ⊢;omega
def dY (K:List P4) (bm:Nat) (w:World):Prop:=∃(ps:List P4) (D:DataW Unit),ps.Nodup∧(∀p ∈ ps,p ∈ K)∧w.ownsMap Tryz.prog 89 kV bm ps.length D∧aF4 D∧∀p ∈ ps,∀kl,keyOf Tryz.prog 89 (pv p.1 p.2.1 p.2.2.1 p.2.2.2)=some kl→Maps.has D kl=true
theorem dY.lt {K:List P4} (h:dY K bm w):bm<w.heap.size:=let ⟨_,_,_,_,h,_⟩:=h;h.lt
theorem dY.grown {K:List P4} {row:Option Nat} (h:dY K bm w) (hg:w.grownBy w' row) (hne:some bm≠row):dY K bm w':=let ⟨ps,D,a,b,h,k⟩:=h;⟨ps,D,a,b,h.kept hg hne,k⟩
theorem dY.below {K:List P4} (h:dY K bm w) (hb:Bw w w'):dY K bm w':=h.grown (aH (aD w none) hb) (by simp)
theorem xE (K:List P4) (h:w.ownsMap Tryz.prog 89 kV bm 0 (.map [])):dY K bm w:=⟨[],.map [],List.nodup_nil,(fun _ h=>absurd h (by simp)),h,aDI,(fun _ h=>absurd h (by simp))⟩
theorem aEe (ha:(Lit.int .i64 a).wf=true) (hb:(Lit.int .i64 b).wf=true) (hc:(Lit.int .i64 c).wf=true) (hd:(Lit.int .i64 d).wf=true):∃kl,keyOf Tryz.prog 89 (pv a b c d)=some kl:=aJL ha hb hc hd
theorem aGQ (K:List P4) (hK:K.length≤1000000000) (a b c d:Int) (ha:(Lit.int .i64 a).wf=true) (hb:(Lit.int .i64 b).wf=true) (hc:(Lit.int .i64 c).wf=true) (hd:(Lit.int .i64 d).wf=true) (hin:(a,b,c,d) ∈ K) (bm:Nat) (w:World) (hm:dY K bm w) :
  cP 129 #[.map (some bm),pv a b c d] w fun e w'=>e=.returned (fv (fV a b c d))∧dY K bm w'∧w.grownBy w' (some bm):=by
 obtain ⟨ps,D,nd,sub,Hq,hk,hps⟩:=hm;obtain ⟨kl,gy⟩:=aEe ha hb hc hd;have hpl:=aBg ps K nd sub;have SL:=aA (fun (h:Maps.has D kl=false)=>show (a,b,c,d) ∉ ps from fun hp=>by have:=hps _ hp _ gy;rw [h] at this;exact absurd this (by simp));have Yj:=aA nd;have Jk:=aA sub;have SX:=aA hps;have hlt:=Hq.lt;have hl:=look ((Hq.alloc (.cells #[.int .i64 a,.int .i64 b,.int .i64 c,.int .i64 d] 89)).alloc (.cells #[.int .i64 0,.int .i64 0] 171)) hk gy;have hpr:=aA (aAh a b c d);have HK:=aA hk;have Gv:=aA gy;have VT:=aA Hq;have dw:=aA hin;clear ha hb hc hd hk gy Hq nd sub hps hin;obtain ⟨f,hf⟩:∃f,Maps.has D kl=f:=⟨_,rfl⟩;rw [hf] at hl SL;obtain ⟨⟨x,y⟩,hr⟩:∃p,fV a b c d=p:=⟨_,rfl⟩;rw [hr] at hl hpr ⊢;have HR:=aA hr;clear hf hr;cases f with
 | true=>
  replace hl:(Instr.lookup 117 (.map (some bm)) (pv a b c d) true).run Tryz.prog ((w.alloc (.cells #[.int .i64 a,.int .i64 b,.int .i64 c,.int .i64 d] 89)).alloc (.cells #[.int .i64 0,.int .i64 0] 171))=.ok (.tuple #[rv x y,.bool true]) ((w.alloc (.cells #[.int .i64 a,.int .i64 b,.int .i64 c,.int .i64 d] 89)).alloc (.cells #[.int .i64 0,.int .i64 0] 171)):=hl;go_enter func129,ntmps129;go_wp2;have HG:∀wx:World,Bw w wx→wx=wx→dY K bm wx∧w.grownBy wx (some bm):=fun wx hb _=>
   have hg:w.grownBy wx none:=aH (aD w none) hb
   ⟨⟨ps,D,uH Yj,uH Jk,(uH VT).kept hg (by simp),uH HK,uH SX⟩,aH (aD w (some bm)) hb⟩
  refine bodyPost_ret (v:=rv x y) (by simp [results,results129,go_sem]) rfl ⟨rfl,HG _ ?_ rfl⟩;repeat (first | exact yH _ _ | refine yA ?_ _ | refine Below.drew ?_ | refine yC ?_ _ _ _ (by omega))
 | false=>
  replace hl:(Instr.lookup 117 (.map (some bm)) (pv a b c d) true).run Tryz.prog ((w.alloc (.cells #[.int .i64 a,.int .i64 b,.int .i64 c,.int .i64 d] 89)).alloc (.cells #[.int .i64 0,.int .i64 0] 171))=.ok (.tuple #[rv 0 0,.bool false]) ((w.alloc (.cells #[.int .i64 a,.int .i64 b,.int .i64 c,.int .i64 d] 89)).alloc (.cells #[.int .i64 0,.int .i64 0] 171)):=hl;have GM:=aA (((vG w 89 a b c d).al (.cells #[.int .i64 0,.int .i64 0] 171)).al (.cells #[.int .i64 0,.int .i64 0] 171));have GR:=aA (show Var (((w.alloc (.cells #[.int .i64 a,.int .i64 b,.int .i64 c,.int .i64 d] 89)).alloc (.cells #[.int .i64 0,.int .i64 0] 171)).alloc (.cells #[.int .i64 0,.int .i64 0] 171)) 171 (w.heap.size+1) 0 0 by
   have:=(aM (w.alloc (.cells #[.int .i64 a,.int .i64 b,.int .i64 c,.int .i64 d] 89)) 171 0 0).al (.cells #[.int .i64 0,.int .i64 0] 171);simpa using this)
  have QO:=aA (show Var (((w.alloc (.cells #[.int .i64 a,.int .i64 b,.int .i64 c,.int .i64 d] 89)).alloc (.cells #[.int .i64 0,.int .i64 0] 171)).alloc (.cells #[.int .i64 0,.int .i64 0] 171)) 171 (w.heap.size+1+1) 0 0 by
   have:=aM ((w.alloc (.cells #[.int .i64 a,.int .i64 b,.int .i64 c,.int .i64 d] 89)).alloc (.cells #[.int .i64 0,.int .i64 0] 171)) 171 0 0;simpa using this)
  have HB0:=aA (yA (yA (yA (yH _ w) (.cells #[.int .i64 a,.int .i64 b,.int .i64 c,.int .i64 d] 89)) (.cells #[.int .i64 0,.int .i64 0] 171)) (.cells #[.int .i64 0,.int .i64 0] 171));go_enter func129,ntmps129;go_wp2_with fail;refine (uH hpr _).mono ?_;rintro e w1 ⟨rfl,hb⟩;have V1:=aA ((uH GM).below hb);have V2:=aA ((uH GR).below hb);have V3:=aA ((uH QO).below hb);have HB:=aA (yB (uH HB0) hb);clear hb hl hpr GM GR QO HB0;have a1:=(uH V1).c0;have a2:=(uH V1).c1;have a3:=(uH V1).c2;have a4:=(uH V1).c3;have k0:=(uH V3).c0;have k1:=(uH V3).c1;have k2:=(uH V3).f 0;have k3:=(uH V3).f 1;have k4:=(uH V3).s0 (.int .i64 x);have k5:=(uH V3).s1 (.int .i64 x) (.int .i64 y);have ho1:=(((uH VT).kept (aH (aD w none) (uH HB)) (by simp)).setCell (a:=⟨w.heap.size+1+1,0,none⟩) (by simp;omega) (.int .i64 x)).setCell (a:=⟨w.heap.size+1+1,1,none⟩) (by simp;omega) (.int .i64 y);obtain ⟨w2,gq,GX,GK⟩:=ho1.update wJ underlying117 (by unfold maxLen;omega) (uH Gv) (xI x y);have V4:=aA (((uH V3).set x y).grown' GK (by simp;omega));have V5:=aA ((((uH V2).other (w.heap.size+1+1) 0 (.int .i64 x) (by omega)).other (w.heap.size+1+1) 1 (.int .i64 y) (by omega)).grown' GK (by simp;omega));have b0:=(uH V4).c0;have b1:=(uH V4).c1;have b2:=(uH V5).c0;have b3:=(uH V5).c1;have b4:=(uH V5).f 0;have b5:=(uH V5).f 1;have b6:=(uH V5).s0 (.int .i64 x);have b7:=(uH V5).s1 (.int .i64 x) (.int .i64 y);have hm2:dY K bm w2:=⟨(a,b,c,d)::ps,_,List.nodup_cons.2 ⟨uH SL (by first | rfl | trivial),uH Yj⟩,fun p hp=>by
   rcases List.mem_cons.1 hp with rfl | hp
   ·exact uH dw
   ·exact uH Jk p hp,GX,by rw [←uH HR];exact (uH HK).put (uH VT).isMap (uH Gv),fun p hp kl' hk'=>by
   by_cases e:kl'=kl
   ·subst e;exact has_put_same (uH VT).isMap (wJ.key (uH Gv)) _
   ·rcases List.mem_cons.1 hp with rfl | hp
    ·have:=hk'.symm.trans (uH Gv);cases this;exact absurd rfl e
    ·rw [has_put_other e];exact uH SX p hp kl' hk'⟩
  have hg1:w.grownBy w2 (some bm):=by have g1:w.grownBy ((w1.setCell ⟨w.heap.size+1+1,0,none⟩ (.int .i64 x)).setCell ⟨w.heap.size+1+1,1,none⟩ (.int .i64 y)) (some bm):=aH (aD w (some bm)) (yC (yC (uH HB) _ _ _ (by omega)) _ _ _ (by omega));exact bW g1 GK
  have XW:=aA hm2;have KX:=aA hg1;clear ho1 GX GK hm2 hg1 V1 V2 V3 V4 V5 HB;go_wp2;have hsz:=(uH KX).size;refine bodyPost_ret (v:=rv x y) (by simp [results,results129,go_sem,b6,b7]) rfl ⟨rfl,?_,?_⟩
  ·have hg:w2.grownBy ((w2.setCell ⟨w.heap.size+1,0,none⟩ (.int .i64 x)).setCell ⟨w.heap.size+1,1,none⟩ (.int .i64 y)) (some (w.heap.size+1)):=dP (dP (aD _ _) _ _) _ _;exact (uH XW).grown hg (by simp;omega)
  ·exact ⟨(uH KX).os,(uH KX).tape,(uH KX).output,by simpa using hsz,fun k hk hne=>by
    rw [heap_setCell_other _ ⟨w.heap.size+1,1,none⟩ k _ (by simp;omega),heap_setCell_other _ ⟨w.heap.size+1,0,none⟩ k _ (by simp;omega)];exact (uH KX).block k hk hne⟩
def iM (K:List P4) (w0:World) (bm:Nat) (a b c d e f g h:Int) (wx:World):Prop:=
 qF wx 89 w0.heap.size a b c d∧qF wx 89 (w0.heap.size+1) e f g h∧w0.grownBy wx (some bm)∧bm<w0.heap.size∧dY K bm wx
theorem iM.call {K:List P4} {e f:Int} (p:iM K w0 bm a b c d e f g h w1) (hk:dY K bm w2) (hg:w1.grownBy w2 (some bm)):iM K w0 bm a b c d e f g h w2:=by
 obtain ⟨p1,p2,p3,p4,_⟩:=p;exact ⟨p1.grown hg (by simp;omega),p2.grown hg (by simp;omega),bW p3 hg,p4,hk⟩
theorem iM.below {K:List P4} {e f:Int} (p:iM K w0 bm a b c d e f g h w1) (hb:Bw w1 w2):iM K w0 bm a b c d e f g h w2:=p.call (p.2.2.2.2.below hb) (aH (aD _ _) hb)
theorem iM.drew {K:List P4} {e f:Int} (p:iM K w0 bm a b c d e f g h w1):iM K w0 bm a b c d e f g h w1.drew:=p.below (yH _ _).drew
theorem iM.read (K:List P4) (w0:World) (bm:Nat) (a b c d e f g h:Int):∀wx,iM K w0 bm a b c d e f g h wx→wx.cell? ⟨w0.heap.size,0,none⟩=some (.int .i64 a)∧wx.cell? ⟨w0.heap.size,1,none⟩=some (.int .i64 b)∧wx.cell? ⟨w0.heap.size,2,none⟩=some (.int .i64 c)∧wx.cell? ⟨w0.heap.size,3,none⟩=some (.int .i64 d)
  ∧wx.cell? ⟨w0.heap.size+1,0,none⟩=some (.int .i64 e)∧wx.cell? ⟨w0.heap.size+1,1,none⟩=some (.int .i64 f)∧wx.cell? ⟨w0.heap.size+1,2,none⟩=some (.int .i64 g)∧wx.cell? ⟨w0.heap.size+1,3,none⟩=some (.int .i64 h):=
 fun wx p=>⟨p.1.c0,p.1.c1,p.1.c2,p.1.c3,p.2.1.c0,p.2.1.c1,p.2.1.c2,p.2.1.c3⟩
def Wf4 (a b c d:Int):Prop:=(Lit.int .i64 a).wf=true∧(Lit.int .i64 b).wf=true∧(Lit.int .i64 c).wf=true∧(Lit.int .i64 d).wf=true
theorem wS (K:List P4) (hK:K.length≤1000000000) (a b c d e f g h:Int) (h1:Wf4 a b c d) (h2:Wf4 e f g h) (i1:(a,b,c,d) ∈ K) (i2:(e,f,g,h) ∈ K) (bm:Nat) (w:World) (hm:dY K bm w) :
  cP 72 #[.map (some bm),pv a b c d,pv e f g h] w fun o w'=>o=.returned (.bool (pW a b c d e f g h))∧dY K bm w'∧w.grownBy w' (some bm):=by
 have C1:=aA (fun wx (hx:dY K bm wx)=>aGQ K hK a b c d h1.1 h1.2.1 h1.2.2.1 h1.2.2.2 i1 bm wx hx);have C2:=aA (fun wx (hx:dY K bm wx)=>aGQ K hK e f g h h2.1 h2.2.1 h2.2.2.1 h2.2.2.2 i2 bm wx hx);have C3:=aA (fun wx=>uN _ _ _ _ wx (zZ a b c d) (zZ e f g h));have hlt:=hm.lt;have A0:=aA (show iM K w bm a b c d e f g h ((w.alloc (.cells #[.int .i64 a,.int .i64 b,.int .i64 c,.int .i64 d] 89)).alloc (.cells #[.int .i64 e,.int .i64 f,.int .i64 g,.int .i64 h] 89)) from
  ⟨(vG w 89 a b c d).al _,by have:=vG (w.alloc (.cells #[.int .i64 a,.int .i64 b,.int .i64 c,.int .i64 d] 89)) 89 e f g h;simpa using this,aH (aD _ _) (yA (yA (yH _ _) _) _),hlt,hm.below (yA (yA (yH _ w) _) _)⟩)
 have R:=iM.read K w bm a b c d e f g h;unfold pW;obtain ⟨l,hl⟩:∃l,less (fV a b c d).1 (fV a b c d).2 (fV e f g h).1 (fV e f g h).2=l:=⟨_,rfl⟩;rw [hl] at C3 ⊢;obtain ⟨⟨x1,y1⟩,e1⟩:∃p,fV a b c d=p:=⟨_,rfl⟩;obtain ⟨⟨x2,y2⟩,e2⟩:∃p,fV e f g h=p:=⟨_,rfl⟩;rw [e1] at C1 C3;rw [e2] at C2 C3;clear hl e1 e2 h1 h2 hm i1 i2;go_enter func72,ntmps72;go_wp2_with fail;go_region_held3 (fun wx=>iM K w bm a b c d e f g h wx)
  (first | (with_reducible assumption) | exact (uH A0).drew | exact iM.drew (by assumption))
  (first
  | (go_at_call_of 129 a;refine (uH C1 _ ?_).mono ?_;(exact (show iM K w bm a b c d e f g h _ by assumption).2.2.2.2);rintro o wt ⟨rfl,hh,hg⟩;have SA:=iM.call (K:=K) (w0:=w) (bm:=bm) (a:=a) (b:=b) (c:=c) (d:=d) (e:=e) (f:=f) (g:=g) (h:=h) (by assumption) hh hg)
  | (go_at_call_of 129 e;refine (uH C2 _ ?_).mono ?_;(exact (show iM K w bm a b c d e f g h _ by assumption).2.2.2.2);rintro o wt ⟨rfl,hh,hg⟩;have SA:=iM.call (K:=K) (w0:=w) (bm:=bm) (a:=a) (b:=b) (c:=c) (d:=d) (e:=e) (f:=f) (g:=g) (h:=h) (by assumption) hh hg)
  | (go_at_call 130;refine (uH C3 _).mono ?_;rintro o wt ⟨rfl,hb⟩;have SA:=iM.below (K:=K) (w0:=w) (bm:=bm) (a:=a) (b:=b) (c:=c) (d:=d) (e:=e) (f:=f) (g:=g) (h:=h) (by assumption) hb))
 all_goals have HG:=aA SA.2.2;go_wp2;go_ret;exact ⟨rfl,(uH HG).2.2,(uH HG).1⟩
abbrev SE:=List UInt8×P4
def stc (x:SE):List Value:=[.string (bs x.1),.int .i64 x.2.1,.int .i64 x.2.2.1,.int .i64 x.2.2.2.1,.int .i64 x.2.2.2.2]
abbrev stv (x:SE):Value:=.agg #[.string (bs x.1),.int .i64 x.2.1,.int .i64 x.2.2.1,.int .i64 x.2.2.2.1,.int .i64 x.2.2.2.2]
def kX:List SE→List Value
 | []=>[]
 | x::t=>stc x++kX t
theorem aDg:∀l:List SE,(kX l).length=l.length*5
 | []=>rfl
 | x::t=>by rw [kX,List.length_append,aDg t];simp [stc];omega
theorem aDh:∀a b:List SE,kX (a++b)=kX a++kX b
 | [],b=>rfl
 | x::t,b=>by rw [List.cons_append,kX,aDh t b,kX,List.append_assoc]
theorem aBS:∀(l:List SE) (k:Nat),kX (l.take k)=(kX l).take (k*5)
 | l,0=>by simp [kX]
 | [],k+1=>by simp [kX]
 | x::t,k+1=>by
  rw [List.take_succ_cons,kX,kX,aBS t k,show (k+1)*5=(stc x).length+k*5 by simp [stc];omega,List.take_length_add_append]
theorem aFp:∀(l:List SE) (i:Nat) (h:i<l.length),(kX l)[i*5]? = some (.string (bs l[i].1))∧(kX l)[i*5+1]? = some (.int .i64 l[i].2.1)∧(kX l)[i*5+2]? = some (.int .i64 l[i].2.2.1)∧(kX l)[i*5+3]? = some (.int .i64 l[i].2.2.2.1)∧(kX l)[i*5+4]? = some (.int .i64 l[i].2.2.2.2)
 | x::t,0,_=>by simp [kX,stc]
 | x::t,i+1,h=>by
  have ih:=aFp t i (by simpa using h);have e:∀r,(kX (x::t))[(i+1)*5+r]? = (kX t)[i*5+r]?:=fun r=>by
   rw [kX,List.getElem?_append_right (by simp [stc];omega)];(congr 1);simp [stc];omega
  have e0:=e 0;simp only [Nat.add_zero] at e0;rw [e0,e 1,e 2,e 3,e 4];simpa using ih
def aFl (xs:List Value) (i:Nat) (x:SE):List Value:=((((xs.set (i*5) (.string (bs x.1))).set (i*5+1) (.int .i64 x.2.1)).set (i*5+2) (.int .i64 x.2.2.1)).set (i*5+3) (.int .i64 x.2.2.2.1)).set (i*5+4) (.int .i64 x.2.2.2.2)
theorem aDf:∀(l:List SE) (i:Nat) (x:SE),aFl (kX l) i x=kX (l.set i x)
 | [],i,x=>by simp [kX,aFl]
 | y::t,0,x=>by simp [kX,stc,aFl]
 | y::t,i+1,x=>by
  have ih:=aDf t i x;have e:∀(s:List Value) r v,(stc y++s).set ((i+1)*5+r) v=stc y++s.set (i*5+r) v:=fun s r v=>by
   rw [List.set_append,if_neg (by simp [stc];omega)];(congr 2);simp [stc];omega
  rw [sC,kX,kX,←ih,aFl,aFl];have e0:=fun s v=>e s 0 v
  simp only [Nat.add_zero] at e0;rw [e0,e,e,e,e]
theorem lD {g n j sz:Nat} {e:TypeId} {xs:List Value} (h:w.ownsRow B e sz (.slice (some ⟨g,0,none⟩) n cap) n xs) (hj:j<n*sz) (v:Value):(w.setCell ⟨g,j,none⟩ v).ownsRow B e sz (.slice (some ⟨g,0,none⟩) n cap) n (xs.set j v):=by
 obtain ⟨h1,h2⟩:=h;refine ⟨by simpa using h1,?_⟩;rcases h2 with ⟨e,_⟩ | ⟨g',cap',cur,e,hb,hc,k1,k2,k3,k4⟩
 ·cases e
 ·cases e;refine .inr ⟨g,cap,_,rfl,hb,heap_setCell_same w g j cur _ _ hc,k1,k2,by simpa using k3,?_⟩;rw [Array.toList_setIfInBounds,List.take_set,k4]
def stW (w:World) (g i:Nat) (x:SE):World:=((((w.setCell ⟨g,i*5,none⟩ (.string (bs x.1))).setCell ⟨g,i*5+1,none⟩ (.int .i64 x.2.1)).setCell ⟨g,i*5+2,none⟩ (.int .i64 x.2.2.1)).setCell ⟨g,i*5+3,none⟩ (.int .i64 x.2.2.2.1)).setCell ⟨g,i*5+4,none⟩ (.int .i64 x.2.2.2.2)
theorem aBb {g i:Nat} {l:List SE} (h:w.ownsRow B 91 5 (.slice (some ⟨g,0,none⟩) l.length cap) l.length (kX l)) (hi:i<l.length) (x:SE):(stW w g i x).ownsRow B 91 5 (.slice (some ⟨g,0,none⟩) l.length cap) l.length (kX (l.set i x)):=by
 rw [←aDf];exact lD (lD (lD (lD (lD h (by omega) _) (by omega) _) (by omega) _) (by omega) _) (by omega) _
def aKS (p q:P4):Bool:=pW p.1 p.2.1 p.2.2.1 p.2.2.2 q.1 q.2.1 q.2.2.1 q.2.2.2
def gP (x y:SE):Bool:=OrdM.ahead aKS Op.bytesLess x y
theorem Blk.gby1 {g k:Nat} {arr:Array Value} {t:TypeId} (h:Blk w k arr t) (hg:w.grownBy w' (some g)) (hn:k≠g):Blk w' k arr t:=(hg.block k h.lt (fun e=>hn (by simpa using e))).trans h
abbrev aBO (bk:Nat):Value:=.func (.func 116) #[] #[.pointer (some ⟨bk,0,none⟩)]
theorem aDC (K:List P4) (hK:K.length≤1000000000) (KW:∀p ∈ K,Wf4 p.1 p.2.1 p.2.2.1 p.2.2.2) (x y:SE) (hx:x.2 ∈ K) (hy:y.2 ∈ K) (bm bk:Nat) (w:World) (hc:Blk w bk #[.map (some bm)] 117) (hm:dY K bm w) (hne:bk≠bm) :
  cP 116 #[stv x,stv y,.pointer (some ⟨bk,0,none⟩)] w fun e w'=>e=.returned (.bool (gP x y))∧dY K bm w'∧w.grownBy w' (some bm):=by
 obtain ⟨n1,a,b,c,d⟩:=x;obtain ⟨n2,e,f,g,h⟩:=y;have C1:=aA (fun wx hm=>wS K hK a b c d e f g h (KW _ hx) (KW _ hy) hx hy bm wx hm);have C2:=aA (fun wx hm=>wS K hK e f g h a b c d (KW _ hy) (KW _ hx) hy hx bm wx hm);have HA:=aA (show gP (n1,a,b,c,d) (n2,e,f,g,h)=(pW a b c d e f g h||(!pW e f g h a b c d&&Op.bytesLess n1 n2)) from rfl);obtain ⟨l1,hl1⟩:∃z,pW a b c d e f g h=z:=⟨_,rfl⟩;obtain ⟨l2,hl2⟩:∃b',pW e f g h a b c d=b':=⟨_,rfl⟩;obtain ⟨o,ho⟩:∃b',gP (n1,a,b,c,d) (n2,e,f,g,h)=b':=⟨_,rfl⟩;rw [hl1] at C1 HA;rw [hl2] at C2 HA;rw [ho] at HA ⊢;have X0:=aA ((yD w #[.string (bs n1),.int .i64 a,.int .i64 b,.int .i64 c,.int .i64 d] 91).al (.cells #[.string (bs n2),.int .i64 e,.int .i64 f,.int .i64 g,.int .i64 h] 91));have Y0:=aA (show Blk ((w.alloc (.cells #[.string (bs n1),.int .i64 a,.int .i64 b,.int .i64 c,.int .i64 d] 91)).alloc (.cells #[.string (bs n2),.int .i64 e,.int .i64 f,.int .i64 g,.int .i64 h] 91)) (w.heap.size+1) #[.string (bs n2),.int .i64 e,.int .i64 f,.int .i64 g,.int .i64 h] 91 from by have:=yD (w.alloc (.cells #[.string (bs n1),.int .i64 a,.int .i64 b,.int .i64 c,.int .i64 d] 91)) #[.string (bs n2),.int .i64 e,.int .i64 f,.int .i64 g,.int .i64 h] 91;rw [yE] at this;exact this);have M0:=aA ((hc.al (.cells #[.string (bs n1),.int .i64 a,.int .i64 b,.int .i64 c,.int .i64 d] 91)).al (.cells #[.string (bs n2),.int .i64 e,.int .i64 f,.int .i64 g,.int .i64 h] 91));have hb0:=yA (yA (yH _ w) (.cells #[.string (bs n1),.int .i64 a,.int .i64 b,.int .i64 c,.int .i64 d] 91)) (.cells #[.string (bs n2),.int .i64 e,.int .i64 f,.int .i64 g,.int .i64 h] 91);have H0:=aA (hm.below hb0);have G0:=aA (aH (aD w (some bm)) hb0);have hlm:bm<w.heap.size:=hm.lt;clear hl1 hl2 ho hc hm hb0 hx hy;have c0:=(uH M0).at 0;have x1:=(uH X0).at 1;have x2:=(uH X0).at 2;have x3:=(uH X0).at 3;have x4:=(uH X0).at 4;have y1:=(uH Y0).at 1;have y2:=(uH Y0).at 2;have y3:=(uH Y0).at 3;have y4:=(uH Y0).at 4;simp at c0 x1 x2 x3 x4 y1 y2 y3 y4;go_enter func116,ntmps116;go_wp2_with fail;refine (uH C1 _ (uH H0)).mono ?_;rintro e1 w1 ⟨rfl,hh,hg⟩;have H1:=aA hh;have G1:=aA (bW (uH G0) hg);have X1:=aA ((uH X0).gby1 hg (by omega));have Y1:=aA ((uH Y0).gby1 hg (by omega));have M1:=aA ((uH M0).gby1 hg hne);clear hh hg H0 G0 X0 Y0 M0 C1 c0 x1 x2 x3 x4 y1 y2 y3 y4;cases l1;case true=>go_wp2;go_ret;exact ⟨yF (by rw [uH HA];rfl),uH H1,uH G1⟩
 have c0:=(uH M1).at 0;have x1:=(uH X1).at 1;have x2:=(uH X1).at 2;have x3:=(uH X1).at 3;have x4:=(uH X1).at 4;have y1:=(uH Y1).at 1;have y2:=(uH Y1).at 2;have y3:=(uH Y1).at 3;have y4:=(uH Y1).at 4;simp at c0 x1 x2 x3 x4 y1 y2 y3 y4;go_wp2_with fail;refine (uH C2 _ (uH H1)).mono ?_;rintro e2 w2 ⟨rfl,hh,hg⟩;have H2:=aA hh;have G2:=aA (bW (uH G1) hg);have X2:=aA ((uH X1).gby1 hg (by omega));have Y2:=aA ((uH Y1).gby1 hg (by omega));clear hh hg H1 G1 X1 Y1 M1 C2 c0 x1 x2 x3 x4 y1 y2 y3 y4;cases l2;case true=>go_wp2;go_ret;exact ⟨yF (by rw [uH HA];rfl),uH H2,uH G2⟩
 have x0:=(uH X2).at 0;have y0:=(uH Y2).at 0;simp at x0 y0;obtain ⟨bl,hbl⟩:∃z,Op.bytesLess (bs n1).toList (bs n2).toList=z:=⟨_,rfl⟩;have RH:=aA (show Op.bytesLess n1 n2=bl by rw [←hbl];simp [bs]);go_wp2;go_ret;exact ⟨yF (by rw [uH HA,uH RH];rfl),uH H2,uH G2⟩
end
section
open Go.RowKit
variable {rx ry:Int} {l:List Q} {nm:List UInt8} {k:Nat} {x:Sls} {s:St} {w:World}
theorem wX (x:Sls) (s:St) (w:World) (h:cB w x.ma x.ml s.ms) (hl:x.ml≤1048576) :
  cP 71 #[sv x s] w fun e w'=>∃v,e=.returned v∧yR w.heap.size w' v (aX s.ms)∧Bw w w':=by
 obtain ⟨i0,hi,hz0,hz1,hz2⟩:=info_parts Tryz.infoR;obtain ⟨qa,ql,qc,aa,al,ac,ma,ml,mc,ca,cl,cc⟩:=x;obtain ⟨qs,cv,ez,ny,sj,aj,ms,cs⟩:=s;simp only at h hl ⊢;have HR:=aA h;have HL:=aA h.1;have HB0:=aA (jD w #[.slice qa ql qc,.int .i64 cv,.int .i64 ez,.int .i64 ny,.int .i64 sj,.slice aa al ac,.slice ma ml mc,.slice ca cl cc]);have P0:=aA (fQ w #[.slice qa ql qc,.int .i64 cv,.int .i64 ez,.int .i64 ny,.int .i64 sj,.slice aa al ac,.slice ma ml mc,.slice ca cl cc]);have HW:=aA (xP w #[.slice qa ql qc,.int .i64 cv,.int .i64 ez,.int .i64 ny,.int .i64 sj,.slice aa al ac,.slice ma ml mc,.slice ca cl cc]);have Xj:=aA (rX (rM w #[.slice qa ql qc,.int .i64 cv,.int .i64 ez,.int .i64 ny,.int .i64 sj,.slice aa al ac,.slice ma ml mc,.slice ca cl cc]));obtain ⟨c,hc⟩:∃c:Array Value,#[.slice qa ql qc,.int .i64 cv,.int .i64 ez,.int .i64 ny,.int .i64 sj,.slice aa al ac,.slice ma ml mc,.slice ca cl cc]=c:=⟨_,rfl⟩;rw [hc] at HB0 HW Xj;have P0:=aA (show Blk (rM w c) w.heap.size #[.slice qa ql qc,.int .i64 cv,.int .i64 ez,.int .i64 ny,.int .i64 sj,.slice aa al ac,.slice ma ml mc,.slice ca cl cc] 29 by rw [hc];exact fQ w c);have HC:=aA hc;clear h hc;go_enter func71,ntmps71;go_wp2;go_loopw [3,4] (fun v i wr=>∃(k:Nat),k≤ml∧i=.int .i64 k∧Hid (yR (rM w c).heap.size wr v (aX (ms.take k)))∧Hid (Below (rM w c).heap.size (rM w c) wr)) (fun _ i _=>ml - (intOf i).toNat);case atStart=>obtain rfl:=uH HC;have h1:=uH HW;refine ⟨0,Nat.zero_le _,rfl,aA ?_,aA (yA (yH _ _) _)⟩;have:=uH Xj;rw [h1] at this;rw [h1];exact this
 case round=>
  obtain ⟨k,hk,rfl,HO,HB⟩:=hrel;have hn1:w.heap.size<(rM w c).heap.size:=by have:=uH HW;omega
  have p6:=Blk.at (show Blk wr w.heap.size _ 29 from ((uH HB).block _ hn1).trans (uH P0)) 6;simp at p6;by_cases hlt:k<ml
  ·obtain ⟨b,off,rfl,hq⟩:=(((uH HR).below (uH HB0)).below (uH HB)).at hlt;(have hkl:k<ms.length:=by have:=uH HL;omega);have hst:=aA (xO hkl);obtain ⟨c0,c1,c2,c3⟩:=hq hkl;obtain ⟨m,hs⟩:∃q,ms[k]=q:=⟨_,rfl⟩;rw [hs] at c0 c1 c2 c3 hst;(have hal:(aX (ms.take k)).length≤1048576:=by simp [aX];omega);obtain ⟨acc,Gx⟩:∃a,aX (ms.take k)=a:=⟨_,rfl⟩;rw [Gx] at hst hal HO;obtain ⟨nm,me,cp,se⟩:=m;simp only at c0 c1 c2 c3 hst;have hs2:(rM w c).heap.size≤wr.heap.size:=(uH HB).size;have Hq:wr.ownsRow (rM w c).heap.size 33 2 _ acc.length (iQ acc):=uH HO;clear hq hs hkl Gx;(go_wp2_with (at_builtin;refine wpList_append_own _ rfl _ _ 114 rfl (rM w c).heap.size 33 i0 (.agg #[.int .i64 0,.int .i64 0]) 2 16 underlying114 hi hz0 hz1 hz2 rfl (by decide) _ _ _ rfl (Hq.alloc _) ⟨wr.heap.size,0,none⟩ 1 1 (y7 (me,cp)) rfl rfl ?c1 ?c2 ?c3 ?c4 ?c5 ?_));case c1=>
    intro j x hj
    match j,hj with
    | 0,hj=>simp at hj;subst hj;simp [Addr.add]
    | 1,hj=>simp at hj;subst hj;simp [Addr.add]
    | _+2,hj=>simp at hj
   (case c2=>intro x hx;simp at hx;rcases hx with rfl | rfl<;>rfl);(case c3=>unfold maxLen;omega);(case c4=>omega);(case c5=>simp at hs2 ⊢;omega);intro v' w3 Hy Hw _;have R:=lU (q:=(me,cp)) (uH HB) (uH HO) Hy Hw hs2;have HR3:=aA R;clear Hy Hw Hq c0 c1 c2 c3 R p6;go_wp2;go_roundw;(case rel=>exact ⟨k+1,by omega,by go_num,aA (by rw [uH hst];exact (uH HR3).1),aA (uH HR3).2⟩);case measure=>simp [intOf];omega
  ·have htk:ms.take k=ms:=List.take_of_length_le (by have:=uH HL;omega);rw [htk] at HO;go_wp2;go_ret;exact ⟨_,rfl,(uH HO).base (by omega),yB (uH HB0) (uH HB)⟩
theorem mH (x:Sls) (s:St) (w:World) (h:cB w x.ma x.ml s.ms) (hl:x.ml≤1048576) :
  cP 19 #[sv x s] w fun e w'=>e=.returned (rv (iC (aX s.ms)).1 (iC (aX s.ms)).2.1)∧Bw w w':=by
 have hlc:(aX s.ms).length≤1048576:=by have:=h.1;simp [aX];omega
 have HR:=aA h;clear h;obtain ⟨⟨sx,sy,so⟩,hs⟩:∃y,iC (aX s.ms)=y:=⟨_,rfl⟩;have CC:=aA (fun wx (hb:Bw w wx)=>wX x s wx ((uH HR).below hb) hl);have CS:=aA (fun ao cap wx (h:aF2 wx ao (aX s.ms).length (aX s.ms))=>by have:=lZ ao _ cap (aX s.ms) wx h hlc;rw [hs] at this;exact this);rw [hs];clear hs;obtain ⟨qa,ql,qc,aa,al,ac,ma,ml,mc,ca,cl,cc⟩:=x;obtain ⟨qs,cv,ez,ny,sj,aj,ms,cs⟩:=s;simp only at CC CS hlc;go_enter func19,ntmps19;go_wp2_with fail;refine (uH CC _ (dG w _)).mono ?_;rintro e w1 ⟨v,rfl,ho,hb⟩;obtain ⟨ao,cp,rfl,Hz,_⟩:=ho.row;have V1:=(iY w _).below hb;have GM:=aA V1;have HB1:=aA (yB (dG w _) hb);have GU:=aA Hz;obtain ⟨n,hn⟩:∃n,(aX ms).length=n:=⟨_,rfl⟩;rw [hn] at CS GU ⊢;clear hb V1 CC ho Hz hn hlc;go_wp2_with fail;refine (uH CS _ _ _ (uH GU)).mono ?_;rintro e w2 ⟨rfl,hb⟩;have V1:=(uH GM).below hb;have HB2:=aA (yB (uH HB1) hb);have V2:=V1.al (.cells #[.int .i64 sx,.int .i64 sy] 33);have t0:=V2.c0;have t1:=V2.c1;have f0:=V2.f 0;have f1:=V2.f 1;have VG:=V2.set sx sy;have k6:=VG.c0;have k7:=VG.c1;clear hb V1 V2 VG CS GM HB1 GU;go_wp2;refine bodyPost_ret (v:=rv sx sy) (by simp [results,results19,go_sem,k6,k7]) rfl ⟨rfl,?_⟩;repeat (first | exact uH HB2 | refine yA ?_ _ | refine yC ?_ _ _ _ (by omega))
def cZ (s:St):Int×Int:=((iC (aX s.ms)).1,(iC (aX s.ms)).2.1)
theorem gW.ml (h:gW w x s) (hf:dB s):x.ml≤1048576:=by have:=h.len.2.2.1;have:=hf.2.2.1.1;omega
theorem gW.al (h:gW w x s) (hf:dB s):x.al≤1048576:=by have:=h.len.2.1;have:=hf.2.1.1;omega
theorem gW.ql (h:gW w x s) (hf:dB s):x.ql≤1048576:=by have:=h.len.1;have:=hf.1.1;omega
theorem jN (ao:Option Addr) (len cap:Nat) (l:List Q) (w:World) (h:gH w ao len l) (hl:len≤1048576) (hn:∀q ∈ l,q.name.length≤1048576) :
  cP 63 #[.slice ao len cap] w fun e w'=>e=.returned (.bool (aF l))∧Bw w w':=by
 have HR:=aA h;have HL:=aA h.1;have HN:=aA hn;clear h hn;go_enter func63,ntmps63;go_wp2;go_loopw [3] (fun i wr=>∃k:Nat,k≤len∧i=.int .i64 k∧Hid (gZ l l 0=gZ l (l.drop k) k)∧Hid (Bw w wr)) (fun i _=>len - (intOf i).toNat);case atStart=>exact ⟨0,Nat.zero_le _,rfl,aA (by simp),aA (yH _ _)⟩
 case round=>
  obtain ⟨k,hk,rfl,hp,HB⟩:=hrel;by_cases hlt:k<len
  ·have HR2:=aA ((uH HR).below (uH HB));obtain ⟨b,off,rfl,hq⟩:=(uH HR2).at hlt;(have hkl:k<l.length:=by have:=uH HL;omega);have hst:=aA (aCu (l:=l) (k:=k) hkl);obtain ⟨c0,c1,c2,c3⟩:=hq hkl;have hz:=uH HN l[k] (yM _);clear hq;obtain ⟨⟨nm,pa,du,mo⟩,hs⟩:∃s,l[k]=s:=⟨_,rfl⟩;rw [hs] at c0 c1 c2 c3 hst hz;simp only at c0 c1 c2 c3 hz;clear hs hkl;obtain ⟨b1,g1⟩:∃b,bN nm=b:=⟨_,rfl⟩;obtain ⟨p1,g2⟩:∃p,place l nm=p:=⟨_,rfl⟩;obtain ⟨p2,g3⟩:∃p,place l pa=p:=⟨_,rfl⟩;have CN:=aA (fun wx=>by have:=kY (bs nm) wx (by rw [cK];exact hz);rw [show (bs nm).data.toList=nm by simp [bs],g1] at this;exact this);have RR:=(uH HR2).below (yA (yH _ wr) (.cells #[.string (bs nm),.string (bs pa),.int .i64 du,.int .i64 mo] 105));have CP1:=aA (by have:=jL (some ⟨b,off,none⟩) len cap l nm _ RR hl;rw [g2] at this;exact this);have CP2:=aA (by have:=jL (some ⟨b,off,none⟩) len cap l pa _ RR hl;rw [g3] at this;exact this);have HB2:=aA (yA (uH HB) (.cells #[.string (bs nm),.string (bs pa),.int .i64 du,.int .i64 mo] 105));have G1:=aA g1;have G2:=aA g2;have G3:=aA g3;clear g1 g2 g3 RR HR2 hz;cases b1 with
   | false=>
    (go_wp2_with (first | (go_at_call 123;refine (uH CN _).mono ?_;rintro e w' ⟨rfl,rfl⟩) | (go_at_call_of 121 nm;refine (uH CP1).mono ?_;rintro e w' ⟨rfl,rfl⟩) | (go_at_call_of 121 pa;refine (uH CP2).mono ?_;rintro e w' ⟨rfl,rfl⟩) | (go_at_call 64;refine (aV _ _ _ _).mono ?_;rintro e w' ⟨rfl,rfl⟩)));go_ret;exact ⟨yF (wO (by rw [uH hp,uH hst];simp [qOk,uH G1])).symm,uH HB2⟩
   | true=>
    by_cases e2:p1=k
    ·subst e2;cases h3:inB mo 0 10000
     ·skip
      (go_wp2_with (first | (go_at_call 123;refine (uH CN _).mono ?_;rintro e w' ⟨rfl,rfl⟩) | (go_at_call_of 121 nm;refine (uH CP1).mono ?_;rintro e w' ⟨rfl,rfl⟩) | (go_at_call_of 121 pa;refine (uH CP2).mono ?_;rintro e w' ⟨rfl,rfl⟩) | (go_at_call 64;refine (aV _ _ _ _).mono ?_;rintro e w' ⟨rfl,rfl⟩)));go_ret;exact ⟨yF (wO (by rw [uH hp,uH hst];simp [qOk,uH G1,uH G2,h3])).symm,uH HB2⟩
     ·cases h4:inB du 0 mo
      ·skip
       (go_wp2_with (first | (go_at_call 123;refine (uH CN _).mono ?_;rintro e w' ⟨rfl,rfl⟩) | (go_at_call_of 121 nm;refine (uH CP1).mono ?_;rintro e w' ⟨rfl,rfl⟩) | (go_at_call_of 121 pa;refine (uH CP2).mono ?_;rintro e w' ⟨rfl,rfl⟩) | (go_at_call 64;refine (aV _ _ _ _).mono ?_;rintro e w' ⟨rfl,rfl⟩)));go_ret;exact ⟨yF (wO (by rw [uH hp,uH hst];simp [qOk,uH G1,uH G2,h3,h4])).symm,uH HB2⟩
      ·by_cases hk0:k=0
       ·(have k1:((k:Int)==0)=true:=by simp [hk0]);(have k2:¬(0:Int)<k:=by omega);(have k3:¬0<k:=by omega);have ZL:=aA hk0;clear hk0;have hbe:=mV pa;by_cases e5:pa=[]
        ·have E5:=aA e5;rw [decide_eq_true e5] at hbe;clear e5;by_cases e6:du=10000
         ·subst e6;(go_wp2_with (first | (go_at_call 123;refine (uH CN _).mono ?_;rintro e w' ⟨rfl,rfl⟩) | (go_at_call_of 121 nm;refine (uH CP1).mono ?_;rintro e w' ⟨rfl,rfl⟩) | (go_at_call_of 121 pa;refine (uH CP2).mono ?_;rintro e w' ⟨rfl,rfl⟩) | (go_at_call 64;refine (aV _ _ _ _).mono ?_;rintro e w' ⟨rfl,rfl⟩)));go_roundw;(case rel=>exact ⟨k+1,by omega,by go_num,aA (by rw [uH hp,uH hst];simp [qOk,uH G1,uH G2,h3,h4,uH ZL,uH E5]),HB2⟩);case measure=>simp [intOf];omega
         ·have E6:=aA e6;(have hd:(du==10000)=false:=by simp [e6]);clear e6;(go_wp2_with (first | (go_at_call 123;refine (uH CN _).mono ?_;rintro e w' ⟨rfl,rfl⟩) | (go_at_call_of 121 nm;refine (uH CP1).mono ?_;rintro e w' ⟨rfl,rfl⟩) | (go_at_call_of 121 pa;refine (uH CP2).mono ?_;rintro e w' ⟨rfl,rfl⟩) | (go_at_call 64;refine (aV _ _ _ _).mono ?_;rintro e w' ⟨rfl,rfl⟩)));go_ret;exact ⟨yF (wO (by rw [uH hp,uH hst];simp [qOk,uH G1,uH G2,h3,h4,uH ZL,uH E5,uH E6])).symm,uH HB2⟩
        ·have E5:=aA e5;rw [decide_eq_false e5] at hbe;clear e5;(go_wp2_with (first | (go_at_call 123;refine (uH CN _).mono ?_;rintro e w' ⟨rfl,rfl⟩) | (go_at_call_of 121 nm;refine (uH CP1).mono ?_;rintro e w' ⟨rfl,rfl⟩) | (go_at_call_of 121 pa;refine (uH CP2).mono ?_;rintro e w' ⟨rfl,rfl⟩) | (go_at_call 64;refine (aV _ _ _ _).mono ?_;rintro e w' ⟨rfl,rfl⟩)));go_ret;exact ⟨yF (wO (by rw [uH hp,uH hst];simp [qOk,uH G1,uH G2,h3,h4,uH ZL,uH E5])).symm,uH HB2⟩
       ·(have k1:((k:Int)==0)=false:=by simp [hk0]);(have k2:(0:Int)<k:=by omega);(have k3:0<k:=by omega);have ZL:=aA hk0;clear hk0;cases h7:inB p2 0 ((k:Int) - 1)
        ·skip
         (go_wp2_with (first | (go_at_call 123;refine (uH CN _).mono ?_;rintro e w' ⟨rfl,rfl⟩) | (go_at_call_of 121 nm;refine (uH CP1).mono ?_;rintro e w' ⟨rfl,rfl⟩) | (go_at_call_of 121 pa;refine (uH CP2).mono ?_;rintro e w' ⟨rfl,rfl⟩) | (go_at_call 64;refine (aV _ _ _ _).mono ?_;rintro e w' ⟨rfl,rfl⟩)));go_ret;exact ⟨yF (wO (by rw [uH hp,uH hst];simp [qOk,uH G1,uH G2,uH G3,h3,h4,h7,uH ZL])).symm,uH HB2⟩
        ·skip
         (go_wp2_with (first | (go_at_call 123;refine (uH CN _).mono ?_;rintro e w' ⟨rfl,rfl⟩) | (go_at_call_of 121 nm;refine (uH CP1).mono ?_;rintro e w' ⟨rfl,rfl⟩) | (go_at_call_of 121 pa;refine (uH CP2).mono ?_;rintro e w' ⟨rfl,rfl⟩) | (go_at_call 64;refine (aV _ _ _ _).mono ?_;rintro e w' ⟨rfl,rfl⟩)));go_roundw;(case rel=>exact ⟨k+1,by omega,by go_num,aA (by rw [uH hp,uH hst];simp [qOk,uH G1,uH G2,uH G3,h3,h4,h7,uH ZL]),HB2⟩);case measure=>simp [intOf];omega
    ·(have h2:(p1==(k:Int))=false:=by simp [e2]);have E2:=aA e2;clear e2;(go_wp2_with (first | (go_at_call 123;refine (uH CN _).mono ?_;rintro e w' ⟨rfl,rfl⟩) | (go_at_call_of 121 nm;refine (uH CP1).mono ?_;rintro e w' ⟨rfl,rfl⟩) | (go_at_call_of 121 pa;refine (uH CP2).mono ?_;rintro e w' ⟨rfl,rfl⟩) | (go_at_call 64;refine (aV _ _ _ _).mono ?_;rintro e w' ⟨rfl,rfl⟩)));go_ret;exact ⟨yF (wO (by rw [uH hp,uH hst];simp [qOk,uH G1,uH G2,uH E2])).symm,uH HB2⟩
  ·have ho:=aA (show gZ l l 0=true by rw [uH hp];exact aEi (by have:=uH HL;omega));have HD:=aA (aAJ l 0 (uH ho));have HR2:=aA ((uH HR).below (uH HB));clear hp;go_wp2;(go_loopw [5] (fun i wx=>∃m:Nat,m≤len∧i=.int .i64 m∧Hid (jR l l=jR l (l.drop m))∧wx=wr) (fun i _=>len - (intOf i).toNat));(case atStart=>exact ⟨0,Nat.zero_le _,rfl,aA (by simp),rfl⟩);case round=>
    obtain ⟨m,hm,rfl,hp,rfl⟩:=hrel;by_cases hlm:m<len
    ·obtain ⟨b,off,rfl,hq⟩:=(uH HR2).at hlm;(have GN:m<l.length:=by have:=uH HL;omega);have hst:=aA (aCf (l:=l) (k:=m) GN);have c0:=(hq GN).1;clear hq;obtain ⟨nm,hs⟩:∃s,l[m].name=s:=⟨_,rfl⟩;rw [hs] at c0 hst;obtain ⟨t,ht⟩:∃t,iF l nm=t:=⟨_,rfl⟩;have CS:=aA (by have:=aEy (some ⟨b,off,none⟩) len cap l nm _ (uH HR2) hl (uH HD);rw [ht] at this;exact this);have Jj:=aA ht;clear hs GN ht;by_cases hgt:10000<t
     ·(go_wp2_with (go_at_call 124;refine (uH CS).mono ?_;rintro e w' ⟨rfl,rfl⟩));go_ret;exact ⟨yF (aKG (by rw [uH hp,uH hst,uH Jj];simp;omega)).symm,uH HB⟩
     ·(go_wp2_with (go_at_call 124;refine (uH CS).mono ?_;rintro e w' ⟨rfl,rfl⟩));go_roundw;(case rel=>exact ⟨m+1,by omega,by go_num,aA (by rw [uH hp,uH hst,uH Jj];simp;omega),trivial⟩);case measure=>simp [intOf];omega
    ·have XH:=aA (aKF (uH ho) (show jR l l=true by rw [uH hp];exact aEY (by have:=uH HL;omega)));have WT:=uH HL;have JJ:=aA (show inB (len:Int) 1 20=aF l by rw [uH XH,WT]);clear WT;(go_wp2_with (go_at_call 64;refine (aV _ _ _ _).mono ?_;rintro e w' ⟨rfl,rfl⟩));go_ret;exact ⟨yF (uH JJ),uH HB⟩
def zB (nm:List UInt8):List Q→Bool
 | []=>true
 | q::t=>decide (q.parent≠nm)&&zB nm t
def aDD (l:List Q) (nm:List UInt8):Bool:=zB nm l&&(aF l&&decide (0≤place l nm))
theorem aEj (h:k<l.length):zB nm (l.drop k)=(decide (l[k].parent≠nm)&&zB nm (l.drop (k+1))):=by
 rw [List.drop_eq_getElem_cons h,zB]
theorem aGT (h:l.length≤k):zB nm (l.drop k)=true:=by
 rw [List.drop_of_length_le h];rfl
theorem nM (ao:Option Addr) (len cap:Nat) (l:List Q) (nm:List UInt8) (w:World) (h:gH w ao len l) (hl:len≤1048576) (hn:∀q ∈ l,q.name.length≤1048576) :
  cP 61 #[.slice ao len cap,.string (bs nm)] w fun e w'=>e=.returned (.bool (aDD l nm))∧Bw w w':=by
 have HR:=aA h;have HL:=aA h.1;have HN:=aA hn;clear h hn;go_enter func61,ntmps61;go_wp2;go_loopw [5] (fun i wr=>∃k:Nat,k≤len∧i=.int .i64 k∧Hid (zB nm l=zB nm (l.drop k))∧wr=w) (fun i _=>len - (intOf i).toNat);case atStart=>exact ⟨0,Nat.zero_le _,rfl,aA (by simp),rfl⟩
 case round=>
  obtain ⟨k,hk,rfl,hp,rfl⟩:=hrel;by_cases hlt:k<len
  ·obtain ⟨b,off,rfl,hq⟩:=(uH HR).at hlt;(have hkl:k<l.length:=by have:=uH HL;omega);have hst:=aA (aEj (nm:=nm) (l:=l) (k:=k) hkl);have hq0:=(hq hkl).2.1;clear hq;obtain ⟨s,hs⟩:∃s,l[k].parent=s:=⟨_,rfl⟩;rw [hs] at hq0 hst;have hbe:=l6 s nm;clear hs hkl;by_cases he:s=nm
   ·have HE:=aA he;rw [decide_eq_true he] at hbe;clear he;go_wp2;go_ret;exact ⟨yF (by rw [aDD,uH hp,uH hst];simp [uH HE]),yH _ _⟩
   ·have HE:=aA he;rw [decide_eq_false he] at hbe;clear he;go_wp2;go_roundw;(case rel=>exact ⟨k+1,by omega,by go_num,aA (by rw [uH hp,uH hst];simp [uH HE]),trivial⟩);case measure=>simp [intOf];omega
  ·have hk2:=aA (show aDD l nm=(aF l&&decide (0≤place l nm)) by rw [aDD,uH hp,aGT (by have:=uH HL;omega)];rfl);have CQ:=aA (jN ao len cap l wr (uH HR) hl (uH HN));obtain ⟨o,ho⟩:∃o,aF l=o:=⟨_,rfl⟩;obtain ⟨p,hp2⟩:∃p,place l nm=p:=⟨_,rfl⟩;rw [ho] at CQ hk2;have CP:=aA (fun wx (hb:Bw wr wx)=>by have:=jL ao len cap l nm wx ((uH HR).below hb) hl;rw [hp2] at this;exact this);rw [hp2] at hk2;clear ho hp2 hp;(go_wp2_with fail);refine (uH CQ).mono ?_;rintro e w1 ⟨rfl,hb⟩;have HB:=aA hb;clear hb CQ;cases o with
   | false=>go_wp2;go_ret;exact ⟨yF (by rw [uH hk2];rfl),uH HB⟩
   | true=>
    (go_wp2_with fail);refine (uH CP _ (uH HB)).mono ?_;rintro e w2 ⟨rfl,rfl⟩;by_cases h0:0≤p
    ·go_wp2;go_ret;exact ⟨yF (by rw [uH hk2];simp [h0]),uH HB⟩
    ·go_wp2;go_ret;exact ⟨yF (by rw [uH hk2];simp),uH HB⟩
def rC (s:St) (x:List UInt8):Int×Int:=ofR s.qs x (cZ s).1 (cZ s).2 false
theorem oG:aQ 0 0=true:=by decide
theorem zR:∀(l:List (Int×Int)) (x y:Int),aQ x y=true→aQ (aT l x y).1 (aT l x y).2.1=true
 | [],x,y,h=>h
 | r::t,x,y,h=>by
  rw [aT];by_cases hb:aN 1 x y r.1 r.2=true
  ·rw [if_pos hb];refine zR t _ _ ?_;simp only [aN,yK] at hb;exact hb.2
  ·rw [if_neg hb];exact oG
theorem aJA (l:List (Int×Int)):aQ (iC l).1 (iC l).2.1=true:=zR l 0 0 oG
theorem aIy (s:St) (nm:List UInt8):aQ (aJ s nm).1 (aJ s nm).2=true:=aJA _
theorem aFs (a b n:Int):aQ (eY a b n) (eZ a b n)=true:=by
 by_cases h:gT a b n=true
 ·have e1:eY a b n=a*n / 10000:=by rw [eY,if_pos h]
  have e2:eZ a b n=b*n / 10000:=by rw [eZ,if_pos h]
  rw [e1,e2];simp only [gT,aQ,inB,yK,yL] at h ⊢;obtain ⟨⟨⟨h1,h2⟩,h3,h4⟩,h5,h6⟩:=h;have:=aAL h1 h2 h5 h6;have:=aAL h3 h4 h5 h6;omega
 ·have e1:eY a b n=0:=by rw [eY,if_neg h]
  have e2:eZ a b n=0:=by rw [eZ,if_neg h]
  rw [e1,e2];exact oG
theorem aKI (l:List Q) (most:Bool) {t:Int×Int} (h:aQ t.1 t.2=true):∀p:List (List UInt8),aQ (ofP l most t p).1 (ofP l most t p).2=true
 | []=>h
 | [_]=>h
 | n::m::r=>aFs _ _ _
theorem aKH (l:List Q) (nm:List UInt8) (a b:Int) (most:Bool):aQ (ofR l nm a b most).1 (ofR l nm a b most).2=true:=by
 rw [ofR];split
 ·exact oG
 ·rename_i h;refine aKI l most ?_ _;cases hr:aQ a b
  ·exact absurd (.inr hr) h
  ·rfl
theorem aK4 (s:St) (nm:List UInt8):aQ (rC s nm).1 (rC s nm).2=true:=aKH _ _ _ _ _
def eU (s:St) (x:List UInt8):Int×Int:=ofR s.qs x (cZ s).1 (cZ s).2 true
def o8 (s:St) (rx ry:Int) (x:List UInt8):Bool:=
 aN 1 (aJ s x).1 (aJ s x).2 rx ry&&within ((aJ s x).1+1*rx) ((aJ s x).2+1*ry) (eU s x).1 (eU s x).2
def yZ (s:St) (nm:List UInt8) (rx ry:Int):Bool:=decide (0<(path s.qs nm).length)&&(path s.qs nm).all (o8 s rx ry)
def bM (s:St):List (List UInt8)→Int→Int→Int×Int×Bool
 | [],a,b=>(a,b,true)
 | x::t,a,b=>if aN (-1) (eU s x).1 (eU s x).2 (aJ s x).1 (aJ s x).2=true then bM s t (min a ((eU s x).1 + -1*(aJ s x).1)) (min b ((eU s x).2 + -1*(aJ s x).2)) else (0,0,false)
theorem aAo {l:List (List UInt8)} (h:k<l.length) (a b:Int):bM s (l.drop k) a b=if aN (-1) (eU s l[k]).1 (eU s l[k]).2 (aJ s l[k]).1 (aJ s l[k]).2=true then bM s (l.drop (k+1)) (min a ((eU s l[k]).1 + -1*(aJ s l[k]).1)) (min b ((eU s l[k]).2 + -1*(aJ s l[k]).2)) else (0,0,false):=by
 rw [List.drop_eq_getElem_cons h,bM]
theorem aBr {l:List (List UInt8)} (h:l.length≤k) (a b:Int):bM s (l.drop k) a b=(a,b,true):=by
 rw [List.drop_of_length_le h];rfl
theorem aHh (m1 m2 u1 u2 rx ry:Int) (hr:aQ rx ry=true) (hb:aN (-1) m1 m2 u1 u2=true):(aN 1 u1 u2 rx ry&&within (u1+1*rx) (u2+1*ry) m1 m2)=(decide (rx≤m1 + -1*u1)&&decide (ry≤m2 + -1*u2)):=by
 rw [Bool.eq_iff_iff];simp only [aN,within,aQ,inB,yK,yL] at hr hb ⊢;omega
theorem aJE (m1 m2 u1 u2 rx ry:Int) (hr:aQ rx ry=true) (hb:aN (-1) m1 m2 u1 u2=false):(aN 1 u1 u2 rx ry&&within (u1+1*rx) (u2+1*ry) m1 m2)=false:=by
 rw [Bool.eq_false_iff] at hb ⊢;intro h;apply hb;simp only [aN,within,aQ,inB,yK,yL] at hr h ⊢;omega
theorem aE4 {x:List UInt8} (hr:aQ rx ry=true) (hb:aN (-1) (eU s x).1 (eU s x).2 (aJ s x).1 (aJ s x).2=true):o8 s rx ry x=(decide (rx≤(eU s x).1 + -1*(aJ s x).1)&&decide (ry≤(eU s x).2 + -1*(aJ s x).2)):=aHh _ _ _ _ _ _ hr hb
theorem aFz {x:List UInt8} (hr:aQ rx ry=true) (hb:aN (-1) (eU s x).1 (eU s x).2 (aJ s x).1 (aJ s x).2=false):o8 s rx ry x=false:=aJE _ _ _ _ _ _ hr hb
theorem aB0 {s:St} {rx ry:Int} (hr:aQ rx ry=true):∀(ps:List (List UInt8)) (a b:Int),aQ a b=true→((bM s ps a b).2.2&&within rx ry (bM s ps a b).1 (bM s ps a b).2.1)=(decide (rx≤a)&&decide (ry≤b)&&ps.all (o8 s rx ry))
 | [],a,b,h=>by rw [Bool.eq_iff_iff];simp [bM,within,hr,h];exact ⟨fun h=>⟨of_decide_eq_true h.1,of_decide_eq_true h.2⟩,fun h=>⟨decide_eq_true h.1,decide_eq_true h.2⟩⟩
 | x::t,a,b,h=>by
  rw [bM,List.all_cons];cases hb:aN (-1) (eU s x).1 (eU s x).2 (aJ s x).1 (aJ s x).2 with
  | true=>
   rw [if_pos rfl,aB0 hr t _ _ ?_,aE4 hr hb]
   ·rw [Bool.eq_iff_iff];simp only [yK,yL];constructor
    ·rintro ⟨⟨h1,h2⟩,h3⟩;exact ⟨⟨by omega,by omega⟩,⟨by omega,by omega⟩,h3⟩
    ·rintro ⟨⟨h1,h2⟩,⟨h3,h4⟩,h5⟩;exact ⟨⟨by omega,by omega⟩,h5⟩
   ·simp only [aN,aQ,inB,yK,yL] at h hb ⊢;omega
  | false=>rw [if_neg (by simp),aFz hr hb];simp
theorem aJF (s:St) (nm:List UInt8) (rx ry:Int):yZ s nm rx ry=((bM s (path s.qs nm) 1000000000 1000000000).2.2&&decide (0<(path s.qs nm).length)&&within rx ry (bM s (path s.qs nm) 1000000000 1000000000).1 (bM s (path s.qs nm) 1000000000 1000000000).2.1):=by
 rw [yZ];cases hr:aQ rx ry with
 | false=>
  have h1:∀a b,within rx ry a b=false:=fun a b=>by rw [within,hr];rfl
  rw [h1,Bool.and_false];cases hp:path s.qs nm with
  | nil=>simp
  | cons x t=>
   (have h2:o8 s rx ry x=false:=by rw [o8,aN,hr];simp);simp [h2]
 | true=>have e:=aB0 (s:=s) hr (path s.qs nm) 1000000000 1000000000 (by decide);have hr':=hr;simp only [aQ,inB,yK,yL] at hr';rw [decide_eq_true (show rx≤1000000000 by omega),decide_eq_true (show ry≤1000000000 by omega)] at e;simp only [Bool.true_and] at e;rw [←e];cases (bM s (path s.qs nm) 1000000000 1000000000).2.2<;>simp [Bool.and_comm]
def aJG (w:World) (c:Array Value) (rx ry:Int):World:=(w.alloc (.cells c 29)).alloc (.cells #[.int .i64 rx,.int .i64 ry] 33)
theorem aCk (w:World) (c:Array Value) (rx ry:Int):Bw w (aJG w c rx ry):=yA (yA (yH _ w) _) _
theorem aFy (w:World) (c:Array Value) (rx ry:Int):Blk (aJG w c rx ry) w.heap.size c 29:=(yD w c _).al _
theorem aFx (w:World) (c:Array Value) (rx ry:Int):Var (aJG w c rx ry) 33 (w.heap.size+1) rx ry:=by
 have:=aM (w.alloc (.cells c 29)) 33 rx ry;rwa [yE] at this
theorem nH.blk {B n:Nat} {ao:Option Addr} {l:List Con} (h:nH B w ao n l) (hk:k<n):∃g,ao=some ⟨g,0,none⟩∧B≤g∧g<w.heap.size∧(∀j,w.frozen? ⟨g,j,none⟩=false)∧∀i (hi:i<l.length),qD w g (i*5) l[i]:=by
 obtain ⟨⟨h1,h2⟩,h3⟩:=h;rcases h3 with e | ⟨g,M,rfl,hB,hE,hc,hn⟩
 ·omega
 ·rcases h2 with e | ⟨b,off,e,hh⟩
  ·omega
  ·cases e;exact ⟨g,rfl,hB,hE,fun j=>hc.frozen j,fun i hi=>by have:=hh i hi;rwa [Nat.zero_add] at this⟩
theorem xM (ao:Option Addr) (len cap:Nat) (cs:List Con) (w:World) (h:bR w ao len cs) (hl:len≤1048576) (hn:∀c ∈ cs,c.node.length≤1048576) :
  cP 110 #[.slice ao len cap] w fun e w'=>∃co cd,e=.returned (.slice co cs.length cd)∧cs.length≤cd∧nH w.heap.size w' co cs.length cs∧dW w.heap.size w'.heap.size w' 35 5 co cd∧Bw w w':=by
 have HF:=aA hn;have CC:=aA (aBI ao len cap cs w h hl);have hll:=aA h.1;clear h hn;go_enter func110,ntmps110;go_wp2_with fail;refine (uH CC).mono ?_;rintro e w9 ⟨v,rfl,ho,hb⟩;obtain ⟨co,cd,rfl,hcd,hch⟩:=aBF ho;obtain ⟨n4,YM⟩:∃n,cs.length=n:=⟨_,rfl⟩;rw [YM] at hch hcd ⊢;have OC:=aA hch;have Sq:=aA (iT ho);have QD:=aA hb;have NT:=aA YM;have hl4:n4≤1048576:=by have:=uH hll;omega
 clear ho hb hch CC YM;go_wp2;go_loopw [4,5,10] (fun _ _ i wr=>∃(q:Nat),q≤n4∧i=.int .i64 q∧Hid (nH w.heap.size wr co n4 cs)∧Hid (dW w.heap.size wr.heap.size wr 35 5 co cd)∧Hid (Bw w wr)) (fun _ _ i _=>n4 - (intOf i).toNat);case atStart=>exact ⟨0,Nat.zero_le _,rfl,OC,Sq,QD⟩
 case round=>
  obtain ⟨q,hq,rfl,HC,HO,HB⟩:=hrel;clear OC Sq QD;by_cases hlt:q<n4
  ·obtain ⟨g,rfl,hgB,PD,hfz,hat⟩:=(uH HC).blk hlt;(have hjl:q<cs.length:=by have:=uH NT;omega);obtain ⟨c0,c1,c2,c3,c4⟩:=hat q hjl;have hnm:=uH HF cs[q] (yM hjl);obtain ⟨⟨ci,cap,cn,me,cp⟩,hm⟩:∃m,cs[q]=m:=⟨_,rfl⟩;rw [hm] at c0 c1 c2 c3 c4 hnm;simp only at c0 c1 c2 c3 c4 hnm;have HW:=aA (yA (yH _ wr) (.cells #[.int .i64 ci,.int .i64 cap,.string (bs cn),.int .i64 me,.int .i64 cp] 35));have XC:=aA ((uH HC).below (uH HW));have XB:=aA (yB (uH HB) (uH HW));have XO:=aA ((uH HO).grow (uH HW) (yJ _));have XA:=aA (yD wr #[.int .i64 ci,.int .i64 cap,.string (bs cn),.int .i64 me,.int .i64 cp] 35);have D0:=aA (iX c0 (uH HW));have D1:=aA (iX c1 (uH HW));have D2:=aA (iX c2 (uH HW));have D3:=aA (iX c3 (uH HW));have D4:=aA (iX c4 (uH HW));have CL:=aA (fun wx=>pI ⟨ci,cap,cn,me,cp⟩ wx hnm);(have j0:(0:Int)≤q:=by omega);(have j1:(q:Int)<n4:=by omega);clear hat hm hjl hfz hnm;obtain ⟨W,hW⟩:∃W,wr.alloc (.cells #[.int .i64 ci,.int .i64 cap,.string (bs cn),.int .i64 me,.int .i64 cp] 35)=W:=⟨_,rfl⟩;have XA1:=uH XA;rw [hW] at XC XB XO D0 D1 D2 D3 D4 XA1;have xa0:=(uH XA).at 0;have xa1:=(uH XA).at 1;have xa2:=(uH XA).at 2;have xa3:=(uH XA).at 3;have xa4:=(uH XA).at 4;simp at xa0 xa1 xa2 xa3 xa4;have HWW:=aA hW;clear hW HW HC HB HO XA XA1;(go_wp2_with fail);refine (uH CL _).mono ?_;rintro e w6 ⟨rfl,hb⟩;rw [uH HWW] at hb;have GY:=aA (yB (yH _ W) hb);clear c0 c1 c2 c3 c4;have c0:=iX (uH D0) (uH GY);have c1:=iX (uH D1) (uH GY);have c2:=iX (uH D2) (uH GY);have c3:=iX (uH D3) (uH GY);have c4:=iX (uH D4) (uH GY);have s0:=iZ c0;have s1:=iZ c1;have s2:=iZ c2;have s3:=iZ c3;have s4:=iZ c4;obtain ⟨g',e',_,_,hfz,_⟩:=((uH XC).below (uH GY)).blk hlt;cases e';have z0:=hfz (q*5);have z1:=hfz (q*5+1);have z2:=hfz (q*5+2);have z3:=hfz (q*5+3);have z4:=hfz (q*5+4);clear hb hfz;go_wp2;go_roundw;(case rel=>exact ⟨q+1,by omega,by go_num,aA ((uH XC).below (uH GY)),aA ((uH XO).grow (uH GY) (yJ _)),aA (yB (uH XB) (uH GY))⟩);case measure=>simp [intOf];omega
  ·(obtain rfl:q=n4:=by omega);(have j1:¬(q:Int)<q:=by omega);clear hlt;go_wp2;go_ret;rw [uH NT];exact ⟨co,cd,rfl,hcd,uH HC,uH HO,uH HB⟩
theorem nK (ao:Option Addr) (len cap:Nat) (l:List Q) (nm:List UInt8) (w:World) (h:gH w ao len l) (hl:len≤1048576) (hn:∀q ∈ l,q.name.length≤1048576) :
  cP 74 #[.slice ao len cap,.string (bs nm)] w fun e w'=>∃v,e=.returned v∧bZ w.heap.size w' v (path l nm)∧Bw w w':=by
 obtain ⟨i0,hi,hz0,hz1,hz2⟩:=info_parts Tryz.infoS;have HR:=aA h;have HL:=aA h.1;have hlw:=h.1;have CQ:=aA (fun wx (hb:Bw w wx)=>jN ao len cap l wx (h.below hb) hl hn);have CP:=aA (fun (x:List UInt8) wx (hb:Bw w wx)=>jL ao len cap l x wx (h.below hb) hl);obtain ⟨p0,hp0⟩:∃p,place l nm=p:=⟨_,rfl⟩;have hpr:p0 = -1∨(0≤p0∧p0<len):=by have:=eT l nm;rw [hp0] at this;omega
 have xx:=aA hp0;have CP0:=aA (by have:=(uH CP) nm (w.alloc (.cells #[] 9)) (yA (yH _ _) _);rw [hp0] at this;exact this);obtain ⟨ok,hok⟩:∃ok,aF l=ok:=⟨_,rfl⟩;rw [hok] at CQ;have Xz:=aA hok;have QC:=aA (zV w);clear h hn hp0 hok hlw;go_enter func74,ntmps74;go_wp2_with fail;refine (uH CP0).mono ?_;rintro e w1 ⟨rfl,rfl⟩;clear CP0;go_wp2;go_loopw [5,6] (fun v i wr=>∃(p:Int) (o:List ByteArray),i=.int .i64 p∧(p = -1∨(0≤p∧p<len))∧o.length+p<len+1∧Hid (ok=true→o++(eH l (l.length+1) p).map bs=(path l nm).map bs)∧Hid (ok=false→o=[])∧Hid (wr.ownsRow w.heap.size 9 1 v o.length (iP o))∧Hid (Bw w wr)) (fun _ i _=>(intOf i+1).toNat);case atStart=>refine ⟨p0,[],rfl,hpr,by simp;omega,aA (fun e=>?_),aA (fun _=>rfl),QC,aA (yA (yH _ _) _)⟩;rw [path,uH Xz,e,if_pos rfl,uH xx];rfl
 case round=>
  obtain ⟨p,o,rfl,hp,ho,HO,HE,HS,HB⟩:=hrel;by_cases h0:0≤p
  ·obtain ⟨k,rfl⟩:∃k:Nat,p=k:=⟨p.toNat,by omega⟩;(have hlt:k<len:=by omega);cases ok with
   | false=>
    (go_wp2_with fail);refine (uH CQ _ (uH HB)).mono ?_;rintro e w2 ⟨rfl,hb⟩;have HB2:=aA (yB (uH HB) hb);have HS2:=aA (lS (uH HS) hb);clear hb;go_wp2;go_ret;refine ⟨_,rfl,bZ.of (uH HS2) ?_,uH HB2⟩;rw [uH HE (by first | rfl | trivial),show path l nm=[] by rw [path,uH Xz];rfl];rfl
   | true=>
    (have hkl:k<l.length:=by have:=uH HL;omega);have KN:=jK (uH Xz) hkl;have Zx:=aGF (uH Xz) hkl (n:=l.length+1) (by omega);obtain ⟨b,off,rfl,hq⟩:=(uH HR).at hlt;have hqq:=hq hkl;obtain ⟨q,hs⟩:∃q,l[k]=q:=⟨_,rfl⟩;rw [hs] at hqq KN Zx;obtain ⟨pn,hpn⟩:∃p,place l q.parent=p:=⟨_,rfl⟩;(have ME:pn = -1∨(0≤pn∧pn<len):=by have:=eT l q.parent;rw [hpn] at this;have:=uH HL;omega);rw [hpn] at KN Zx;have SG:=aA hqq;have HST:=aA Zx;have WO:=aA hpn;clear hq hqq hs hkl Zx hpn;(go_wp2_with fail);refine (uH CQ _ (uH HB)).mono ?_;rintro e w2 ⟨rfl,hb⟩;have Hq:=lS (uH HS) hb;have Qq:=yB (uH HB) hb;have HC:=aA ((uH SG).below Qq);have c0:=(uH HC).1;have hsz:=Qq.size;(have hol:o.length≤1048576:=by omega);clear hb HS HB CQ;(go_wp2_with (at_builtin;refine wpList_append_own _ rfl _ _ 40 rfl w.heap.size 9 i0 (.string .empty) 1 16 underlying40 hi hz0 hz1 hz2 rfl (by decide) _ _ _ rfl (Hq.alloc _) ⟨w2.heap.size,0,none⟩ 1 1 [.string (bs q.name)] rfl rfl ?c1 ?c2 ?c3 ?c4 ?c5 ?_));(case c1=>intro j v hj;match j,hj with | 0,hj=>simp at hj;subst hj;simp [Addr.add]);(case c2=>intro v hv;simp at hv;subst hv;rfl);(case c3=>unfold maxLen;omega);(case c4=>omega);(case c5=>simp;omega);intro v' w3 Hy Hw _;have R:=aBW Qq Hq Hy Hw (by omega);have HR3:=aA R;have c1:=(show QAt w3 b (off+k*4) q from (uH SG).below R.2).2.1;clear Hy Hw Hq Qq c0 R HC;(go_wp2_with fail);refine (uH CP q.parent _ (uH HR3).2).mono ?_;rintro e w4 ⟨rfl,rfl⟩;rw [uH WO];go_wp2;go_roundw;(case rel=>exact ⟨pn,o++[bs q.name],rfl,ME,by simp;omega,aA (fun _=>by have:=uH HO (by first | rfl | trivial);rw [uH HST] at this;simpa using this),aA (fun e=>by cases e),aA (uH HR3).1,aA (uH HR3).2⟩);case measure=>simp [intOf];omega
  ·(have hp1:p = -1:=by omega);subst hp1;go_wp2;go_ret;refine ⟨_,rfl,bZ.of (uH HS) ?_,uH HB⟩;cases ok with
   | true=>have:=uH HO (by first | rfl | trivial);rw [aDq (by omega)] at this;simpa using this
   | false=>rw [uH HE (by first | rfl | trivial),show path l nm=[] by rw [path,uH Xz];rfl];rfl
end
end Go.Proofs.YtfndhndlkcijoaaGreat
