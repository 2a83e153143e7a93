/-
  Texts in one: OfK, LessK, StdM, StdC, QueuesOkS, LeafS, PathS, OfSL, OfSD, OfSM.
-/
import Derived.Test.YtdhibeclkdepiaaGreatSackC
import Derived.Laws.OwnMore
set_option maxRecDepth 100000
set_option maxHeartbeats 16000000
set_option linter.unusedVariables false
set_option linter.unusedSimpArgs false
namespace Go.Proofs.YtdhibeclkdepiaaGreat
section
open Go.RowKit Go.Maps
abbrev P4:=Int×Int×Int×Int
theorem aCT {α:Type}:∀(ps K:List α),ps.Nodup→(∀p ∈ ps,p ∈ K)→ps.length≤K.length
 | [],_,_,_=>Nat.zero_le _
 | p::t,K,h,s=>by
  obtain ⟨h1,h2⟩:=List.nodup_cons.1 h
  obtain ⟨a,b,rfl⟩:=List.append_of_mem (s p (List.mem_cons_self ..))
  have:=aCT t (a++b) h2 (fun q hq=>by
   have h3:=s q (List.mem_cons_of_mem _ hq)
   rcases List.mem_append.1 h3 with h3 | h3
   ·exact List.mem_append.2 (.inl h3)
   ·rcases List.mem_cons.1 h3 with rfl | h3
    ·exact absurd hq h1
    ·exact List.mem_append.2 (.inr h3))
  simp at this ⊢
  omega
def dP (K:List P4) (bm:Nat) (w:World):Prop:=∃(ps:List P4) (D:DataW Unit),ps.Nodup∧(∀p ∈ ps,p ∈ K)∧w.ownsMap Tryz.prog 192 mX bm ps.length D∧aGg D∧∀p ∈ ps,∀kl,keyOf Tryz.prog 192 (pv p.1 p.2.1 p.2.2.1 p.2.2.2)=some kl→Maps.has D kl=true
theorem dP.lt {K:List P4} {bm:Nat} {w:World} (h:dP K bm w):bm<w.heap.size:=let ⟨_,_,_,_,h,_⟩:=h;h.lt
theorem dP.grown {K:List P4} {bm:Nat} {w w':World} {row:Option Nat} (h:dP K bm w) (hg:w.grownBy w' row) (hne:some bm≠row):dP K bm w':=let ⟨ps,D,a,b,h,k⟩:=h;⟨ps,D,a,b,h.kept hg hne,k⟩
theorem dP.below {K:List P4} {bm:Nat} {w w':World} (h:dP K bm w) (hb:Below w.heap.size w w'):dP K bm w':=h.grown (aG (aC w none) hb) (by simp)
theorem aEP (K:List P4) {bm:Nat} {w:World} (h:w.ownsMap Tryz.prog 192 mX bm 0 (.map [])):dP K bm w:=⟨[],.map [],List.nodup_nil,(fun _ h=>absurd h (by simp)),h,aEI,(fun _ h=>absurd h (by simp))⟩
theorem aFp {a b c d:Int} (ha:(Lit.int .i64 a).wf=true) (hb:(Lit.int .i64 b).wf=true) (hc:(Lit.int .i64 c).wf=true) (hd:(Lit.int .i64 d).wf=true):∃kl,keyOf Tryz.prog 192 (pv a b c d)=some kl:=aKL ha hb hc hd
theorem aH6 (K:List P4) (hK:K.length≤1000000000) (a b c d:Int) (ha:(Lit.int .i64 a).wf=true) (hb:(Lit.int .i64 b).wf=true) (hc:(Lit.int .i64 c).wf=true) (hd:(Lit.int .i64 d).wf=true) (hin:(a,b,c,d) ∈ K) (bm:Nat) (w:World) (hm:dP K bm w) :
  Calls Tryz.prog 201 #[.map (some bm),pv a b c d] w fun e w'=>e=.returned (fv (fF a b c d))∧dP K bm w'∧w.grownBy w' (some bm):=by
 obtain ⟨ps,D,nd,sub,hown,hk,hps⟩:=hm
 obtain ⟨kl,hkey⟩:=aFp ha hb hc hd
 have hpl:=aCT ps K nd sub
 have HPS:=aA (fun (h:Maps.has D kl=false)=>show (a,b,c,d) ∉ ps from fun hp=>by have:=hps _ hp _ hkey;rw [h] at this;exact absurd this (by simp))
 have HND:=aA nd
 have HSUB:=aA sub
 have HPP:=aA hps
 have hlt:=hown.lt
 have hl:=look ((hown.alloc (.cells #[.int .i64 a,.int .i64 b,.int .i64 c,.int .i64 d] 192)).alloc (.cells #[.int .i64 0,.int .i64 0] 236)) hk hkey
 have hpr:=aA (aBJ a b c d)
 have HK:=aA hk
 have HKEY:=aA hkey
 have HOWN:=aA hown
 have HIN:=aA hin
 clear ha hb hc hd hk hkey hown nd sub hps hin
 obtain ⟨f,hf⟩:∃f,Maps.has D kl=f:=⟨_,rfl⟩
 rw [hf] at hl HPS
 obtain ⟨⟨x,y⟩,hr⟩:∃p,fF a b c d=p:=⟨_,rfl⟩
 rw [hr] at hl hpr ⊢
 have HR:=aA hr
 clear hf hr
 cases f with
 | true=>
  replace hl:(Instr.lookup 222 (.map (some bm)) (pv a b c d) true).run Tryz.prog ((w.alloc (.cells #[.int .i64 a,.int .i64 b,.int .i64 c,.int .i64 d] 192)).alloc (.cells #[.int .i64 0,.int .i64 0] 236))=.ok (.tuple #[rv x y,.bool true]) ((w.alloc (.cells #[.int .i64 a,.int .i64 b,.int .i64 c,.int .i64 d] 192)).alloc (.cells #[.int .i64 0,.int .i64 0] 236)):=hl
  go_enter Tryz.func201,Tryz.ntmps201
  go_wp2
  have HG:∀wx:World,Below w.heap.size w wx→wx=wx→dP K bm wx∧w.grownBy wx (some bm):=fun wx hb _=>
   have hg:w.grownBy wx none:=aG (aC w none) hb
   ⟨⟨ps,D,uH HND,uH HSUB,(uH HOWN).kept hg (by simp),uH HK,uH HPP⟩,aG (aC w (some bm)) hb⟩
  refine bodyPost_ret (v:=rv x y) (by simp [results,Tryz.results201,go_sem]) rfl ⟨rfl,HG _ ?_ rfl⟩
  repeat (first | exact yH _ _ | refine yA ?_ _ | refine Below.drew ?_ | refine yC ?_ _ _ _ (by omega))
 | false=>
  replace hl:(Instr.lookup 222 (.map (some bm)) (pv a b c d) true).run Tryz.prog ((w.alloc (.cells #[.int .i64 a,.int .i64 b,.int .i64 c,.int .i64 d] 192)).alloc (.cells #[.int .i64 0,.int .i64 0] 236))=.ok (.tuple #[rv 0 0,.bool false]) ((w.alloc (.cells #[.int .i64 a,.int .i64 b,.int .i64 c,.int .i64 d] 192)).alloc (.cells #[.int .i64 0,.int .i64 0] 236)):=hl
  have HV1:=aA (((vE w 192 a b c d).al (.cells #[.int .i64 0,.int .i64 0] 236)).al (.cells #[.int .i64 0,.int .i64 0] 236))
  have HV2:=aA (show Var (((w.alloc (.cells #[.int .i64 a,.int .i64 b,.int .i64 c,.int .i64 d] 192)).alloc (.cells #[.int .i64 0,.int .i64 0] 236)).alloc (.cells #[.int .i64 0,.int .i64 0] 236)) 236 (w.heap.size+1) 0 0 by
   have:=(aH (w.alloc (.cells #[.int .i64 a,.int .i64 b,.int .i64 c,.int .i64 d] 192)) 236 0 0).al (.cells #[.int .i64 0,.int .i64 0] 236);simpa using this)
  have HV3:=aA (show Var (((w.alloc (.cells #[.int .i64 a,.int .i64 b,.int .i64 c,.int .i64 d] 192)).alloc (.cells #[.int .i64 0,.int .i64 0] 236)).alloc (.cells #[.int .i64 0,.int .i64 0] 236)) 236 (w.heap.size+1+1) 0 0 by
   have:=aH ((w.alloc (.cells #[.int .i64 a,.int .i64 b,.int .i64 c,.int .i64 d] 192)).alloc (.cells #[.int .i64 0,.int .i64 0] 236)) 236 0 0;simpa using this)
  have HB0:=aA (yA (yA (yA (yH _ w) (.cells #[.int .i64 a,.int .i64 b,.int .i64 c,.int .i64 d] 192)) (.cells #[.int .i64 0,.int .i64 0] 236)) (.cells #[.int .i64 0,.int .i64 0] 236))
  go_enter Tryz.func201,Tryz.ntmps201
  go_wp2_with fail
  refine (uH hpr _).mono ?_
  rintro e w1 ⟨rfl,hb⟩
  have V1:=aA ((uH HV1).below hb)
  have V2:=aA ((uH HV2).below hb)
  have V3:=aA ((uH HV3).below hb)
  have HB:=aA (yB (uH HB0) hb)
  clear hb hl hpr HV1 HV2 HV3 HB0
  have a1:=(uH V1).c0
  have a2:=(uH V1).c1
  have a3:=(uH V1).c2
  have a4:=(uH V1).c3
  have k0:=(uH V3).c0
  have k1:=(uH V3).c1
  have k2:=(uH V3).f 0
  have k3:=(uH V3).f 1
  have k4:=(uH V3).s0 (.int .i64 x)
  have k5:=(uH V3).s1 (.int .i64 x) (.int .i64 y)
  have ho1:=(((uH HOWN).kept (aG (aC w none) (uH HB)) (by simp)).setCell (a:=⟨w.heap.size+1+1,0,none⟩) (by simp;omega) (.int .i64 x)).setCell (a:=⟨w.heap.size+1+1,1,none⟩) (by simp;omega) (.int .i64 y)
  obtain ⟨w2,hrun,hown2,hgrow2⟩:=ho1.update wH Tryz.underlying222 (by unfold maxLen;omega) (uH HKEY) (xN x y)
  have V4:=aA (((uH V3).set x y).grown' hgrow2 (by simp;omega))
  have V5:=aA ((((uH V2).other (w.heap.size+1+1) 0 (.int .i64 x) (by omega)).other (w.heap.size+1+1) 1 (.int .i64 y) (by omega)).grown' hgrow2 (by simp;omega))
  have b0:=(uH V4).c0
  have b1:=(uH V4).c1
  have b2:=(uH V5).c0
  have b3:=(uH V5).c1
  have b4:=(uH V5).f 0
  have b5:=(uH V5).f 1
  have b6:=(uH V5).s0 (.int .i64 x)
  have b7:=(uH V5).s1 (.int .i64 x) (.int .i64 y)
  have hm2:dP K bm w2:=⟨(a,b,c,d)::ps,_,List.nodup_cons.2 ⟨uH HPS (by first | rfl | trivial),uH HND⟩,fun p hp=>by
   rcases List.mem_cons.1 hp with rfl | hp
   ·exact uH HIN
   ·exact uH HSUB p hp,hown2,by rw [←uH HR];exact (uH HK).put (uH HOWN).isMap (uH HKEY),fun p hp kl' hk'=>by
   by_cases e:kl'=kl
   ·subst e;exact has_put_same (uH HOWN).isMap (wH.key (uH HKEY)) _
   ·rcases List.mem_cons.1 hp with rfl | hp
    ·have:=hk'.symm.trans (uH HKEY);cases this;exact absurd rfl e
    ·rw [has_put_other e];exact uH HPP p hp kl' hk'⟩
  have hg1:w.grownBy w2 (some bm):=by
   have g1:w.grownBy ((w1.setCell ⟨w.heap.size+1+1,0,none⟩ (.int .i64 x)).setCell ⟨w.heap.size+1+1,1,none⟩ (.int .i64 y)) (some bm):=aG (aC w (some bm)) (yC (yC (uH HB) _ _ _ (by omega)) _ _ _ (by omega))
   exact jO g1 hgrow2
  have HM2:=aA hm2
  have HG1:=aA hg1
  clear ho1 hown2 hgrow2 hm2 hg1 V1 V2 V3 V4 V5 HB
  go_wp2
  have hsz:=(uH HG1).size
  refine bodyPost_ret (v:=rv x y) (by simp [results,Tryz.results201,go_sem,b6,b7]) rfl ⟨rfl,?_,?_⟩
  ·have hg:w2.grownBy ((w2.setCell ⟨w.heap.size+1,0,none⟩ (.int .i64 x)).setCell ⟨w.heap.size+1,1,none⟩ (.int .i64 y)) (some (w.heap.size+1)):=cZ (cZ (aC _ _) _ _) _ _
   exact (uH HM2).grown hg (by simp;omega)
  ·exact ⟨(uH HG1).os,(uH HG1).tape,(uH HG1).output,by simpa using hsz,fun k hk hne=>by
    rw [heap_setCell_other _ ⟨w.heap.size+1,1,none⟩ k _ (by simp;omega),heap_setCell_other _ ⟨w.heap.size+1,0,none⟩ k _ (by simp;omega)]
    exact (uH HG1).block k hk hne⟩
def gV (K:List P4) (w0:World) (bm:Nat) (a b c d e f g h:Int) (wx:World):Prop:=
 pY wx 192 w0.heap.size a b c d∧pY wx 192 (w0.heap.size+1) e f g h∧w0.grownBy wx (some bm)∧bm<w0.heap.size∧dP K bm wx
theorem gV.call {K:List P4} {w0 w1 w2:World} {bm:Nat} {a b c d e f g h:Int} (p:gV K w0 bm a b c d e f g h w1) (hk:dP K bm w2) (hg:w1.grownBy w2 (some bm)):gV K w0 bm a b c d e f g h w2:=by
 obtain ⟨p1,p2,p3,p4,_⟩:=p
 exact ⟨p1.grown hg (by simp;omega),p2.grown hg (by simp;omega),jO p3 hg,p4,hk⟩
theorem gV.below {K:List P4} {w0 w1 w2:World} {bm:Nat} {a b c d e f g h:Int} (p:gV K w0 bm a b c d e f g h w1) (hb:Below w1.heap.size w1 w2):gV K w0 bm a b c d e f g h w2:=p.call (p.2.2.2.2.below hb) (aG (aC _ _) hb)
theorem gV.drew {K:List P4} {w0 w1:World} {bm:Nat} {a b c d e f g h:Int} (p:gV K w0 bm a b c d e f g h w1):gV K w0 bm a b c d e f g h w1.drew:=p.below (yH _ _).drew
theorem gV.read (K:List P4) (w0:World) (bm:Nat) (a b c d e f g h:Int):∀wx,gV K w0 bm a b c d e f g h wx→wx.cell? ⟨w0.heap.size,0,none⟩=some (.int .i64 a)∧wx.cell? ⟨w0.heap.size,1,none⟩=some (.int .i64 b)∧wx.cell? ⟨w0.heap.size,2,none⟩=some (.int .i64 c)∧wx.cell? ⟨w0.heap.size,3,none⟩=some (.int .i64 d)
  ∧wx.cell? ⟨w0.heap.size+1,0,none⟩=some (.int .i64 e)∧wx.cell? ⟨w0.heap.size+1,1,none⟩=some (.int .i64 f)∧wx.cell? ⟨w0.heap.size+1,2,none⟩=some (.int .i64 g)∧wx.cell? ⟨w0.heap.size+1,3,none⟩=some (.int .i64 h):=
 fun wx p=>⟨p.1.c0,p.1.c1,p.1.c2,p.1.c3,p.2.1.c0,p.2.1.c1,p.2.1.c2,p.2.1.c3⟩
def Wf4 (a b c d:Int):Prop:=(Lit.int .i64 a).wf=true∧(Lit.int .i64 b).wf=true∧(Lit.int .i64 c).wf=true∧(Lit.int .i64 d).wf=true
theorem aCd (K:List P4) (hK:K.length≤1000000000) (a b c d e f g h:Int) (h1:Wf4 a b c d) (h2:Wf4 e f g h) (i1:(a,b,c,d) ∈ K) (i2:(e,f,g,h) ∈ K) (bm:Nat) (w:World) (hm:dP K bm w) :
  Calls Tryz.prog 190 #[.map (some bm),pv a b c d,pv e f g h] w fun o w'=>o=.returned (.bool (uV a b c d e f g h))∧dP K bm w'∧w.grownBy w' (some bm):=by
 have C1:=aA (fun wx (hx:dP K bm wx)=>aH6 K hK a b c d h1.1 h1.2.1 h1.2.2.1 h1.2.2.2 i1 bm wx hx)
 have C2:=aA (fun wx (hx:dP K bm wx)=>aH6 K hK e f g h h2.1 h2.2.1 h2.2.2.1 h2.2.2.2 i2 bm wx hx)
 have C3:=aA (fun wx=>uG _ _ _ _ wx (aAF a b c d) (aAF e f g h))
 have hlt:=hm.lt
 have A0:=aA (show gV K w bm a b c d e f g h ((w.alloc (.cells #[.int .i64 a,.int .i64 b,.int .i64 c,.int .i64 d] 192)).alloc (.cells #[.int .i64 e,.int .i64 f,.int .i64 g,.int .i64 h] 192)) from
  ⟨(vE w 192 a b c d).al _,by have:=vE (w.alloc (.cells #[.int .i64 a,.int .i64 b,.int .i64 c,.int .i64 d] 192)) 192 e f g h;simpa using this,aG (aC _ _) (yA (yA (yH _ _) _) _),hlt,hm.below (yA (yA (yH _ w) _) _)⟩)
 have R:=gV.read K w bm a b c d e f g h
 unfold uV
 obtain ⟨l,hl⟩:∃l,less (fF a b c d).1 (fF a b c d).2 (fF e f g h).1 (fF e f g h).2=l:=⟨_,rfl⟩
 rw [hl] at C3 ⊢
 obtain ⟨⟨x1,y1⟩,e1⟩:∃p,fF a b c d=p:=⟨_,rfl⟩
 obtain ⟨⟨x2,y2⟩,e2⟩:∃p,fF e f g h=p:=⟨_,rfl⟩
 rw [e1] at C1 C3
 rw [e2] at C2 C3
 clear hl e1 e2 h1 h2 hm i1 i2
 go_enter Tryz.func190,Tryz.ntmps190
 go_wp2_with fail
 go_region_held3 (fun wx=>gV K w bm a b c d e f g h wx)
  (first | (with_reducible assumption) | exact (uH A0).drew | exact gV.drew (by assumption))
  (first
  | (go_at_call_of 201 a;refine (uH C1 _ ?_).mono ?_;(exact (show gV K w bm a b c d e f g h _ by assumption).2.2.2.2);rintro o wt ⟨rfl,hh,hg⟩;have SA:=gV.call (K:=K) (w0:=w) (bm:=bm) (a:=a) (b:=b) (c:=c) (d:=d) (e:=e) (f:=f) (g:=g) (h:=h) (by assumption) hh hg)
  | (go_at_call_of 201 e;refine (uH C2 _ ?_).mono ?_;(exact (show gV K w bm a b c d e f g h _ by assumption).2.2.2.2);rintro o wt ⟨rfl,hh,hg⟩;have SA:=gV.call (K:=K) (w0:=w) (bm:=bm) (a:=a) (b:=b) (c:=c) (d:=d) (e:=e) (f:=f) (g:=g) (h:=h) (by assumption) hh hg)
  | (go_at_call 202;refine (uH C3 _).mono ?_;rintro o wt ⟨rfl,hb⟩;have SA:=gV.below (K:=K) (w0:=w) (bm:=bm) (a:=a) (b:=b) (c:=c) (d:=d) (e:=e) (f:=f) (g:=g) (h:=h) (by assumption) hb))
 all_goals
  have HG:=aA SA.2.2
  go_wp2
  go_ret
  exact ⟨rfl,(uH HG).2.2,(uH HG).1⟩
abbrev SE:=List UInt8×P4
def stc (x:SE):List Value:=[.string (bs x.1),.int .i64 x.2.1,.int .i64 x.2.2.1,.int .i64 x.2.2.2.1,.int .i64 x.2.2.2.2]
abbrev stv (x:SE):Value:=.agg #[.string (bs x.1),.int .i64 x.2.1,.int .i64 x.2.2.1,.int .i64 x.2.2.2.1,.int .i64 x.2.2.2.2]
def kZ:List SE→List Value
 | []=>[]
 | x::t=>stc x++kZ t
theorem aEh:∀l:List SE,(kZ l).length=l.length*5
 | []=>rfl
 | x::t=>by rw [kZ,List.length_append,aEh t];simp [stc];omega
theorem aEi:∀a b:List SE,kZ (a++b)=kZ a++kZ b
 | [],b=>rfl
 | x::t,b=>by rw [List.cons_append,kZ,aEi t b,kZ,List.append_assoc]
theorem aBt:∀(l:List SE) (k:Nat),kZ (l.take k)=(kZ l).take (k*5)
 | l,0=>by simp [kZ]
 | [],k+1=>by simp [kZ]
 | x::t,k+1=>by
  rw [List.take_succ_cons,kZ,kZ,aBt t k,show (k+1)*5=(stc x).length+k*5 by simp [stc];omega,List.take_length_add_append]
theorem aHA:∀(l:List SE) (i:Nat) (h:i<l.length),(kZ l)[i*5]? = some (.string (bs l[i].1))∧(kZ l)[i*5+1]? = some (.int .i64 l[i].2.1)∧(kZ l)[i*5+2]? = some (.int .i64 l[i].2.2.1)∧(kZ l)[i*5+3]? = some (.int .i64 l[i].2.2.2.1)∧(kZ l)[i*5+4]? = some (.int .i64 l[i].2.2.2.2)
 | x::t,0,_=>by simp [kZ,stc]
 | x::t,i+1,h=>by
  have ih:=aHA t i (by simpa using h)
  have e:∀r,(kZ (x::t))[(i+1)*5+r]? = (kZ t)[i*5+r]?:=fun r=>by
   rw [kZ,List.getElem?_append_right (by simp [stc];omega)]
   congr 1
   simp [stc];omega
  have e0:=e 0
  simp only [Nat.add_zero] at e0
  rw [e0,e 1,e 2,e 3,e 4]
  simpa using ih
def aGx (xs:List Value) (i:Nat) (x:SE):List Value:=((((xs.set (i*5) (.string (bs x.1))).set (i*5+1) (.int .i64 x.2.1)).set (i*5+2) (.int .i64 x.2.2.1)).set (i*5+3) (.int .i64 x.2.2.2.1)).set (i*5+4) (.int .i64 x.2.2.2.2)
theorem aEg:∀(l:List SE) (i:Nat) (x:SE),aGx (kZ l) i x=kZ (l.set i x)
 | [],i,x=>by simp [kZ,aGx]
 | y::t,0,x=>by simp [kZ,stc,aGx]
 | y::t,i+1,x=>by
  have ih:=aEg t i x
  have e:∀(s:List Value) r v,(stc y++s).set ((i+1)*5+r) v=stc y++s.set (i*5+r) v:=fun s r v=>by
   rw [List.set_append,if_neg (by simp [stc];omega)]
   congr 2
   simp [stc];omega
  rw [sC,kZ,kZ,←ih,aGx,aGx]
  have e0:=fun s v=>e s 0 v
  simp only [Nat.add_zero] at e0
  rw [e0,e,e,e,e]
theorem lD {w:World} {B g cap n j sz:Nat} {e:TypeId} {xs:List Value} (h:w.ownsRow B e sz (.slice (some ⟨g,0,none⟩) n cap) n xs) (hj:j<n*sz) (v:Value):(w.setCell ⟨g,j,none⟩ v).ownsRow B e sz (.slice (some ⟨g,0,none⟩) n cap) n (xs.set j v):=by
 obtain ⟨h1,h2⟩:=h
 refine ⟨by simpa using h1,?_⟩
 rcases h2 with ⟨e,_⟩ | ⟨g',cap',cur,e,hb,hc,k1,k2,k3,k4⟩
 ·cases e
 ·cases e
  refine .inr ⟨g,cap,_,rfl,hb,heap_setCell_same w g j cur _ _ hc,k1,k2,by simpa using k3,?_⟩
  rw [Array.toList_setIfInBounds,List.take_set,k4]
def stW (w:World) (g i:Nat) (x:SE):World:=((((w.setCell ⟨g,i*5,none⟩ (.string (bs x.1))).setCell ⟨g,i*5+1,none⟩ (.int .i64 x.2.1)).setCell ⟨g,i*5+2,none⟩ (.int .i64 x.2.2.1)).setCell ⟨g,i*5+3,none⟩ (.int .i64 x.2.2.2.1)).setCell ⟨g,i*5+4,none⟩ (.int .i64 x.2.2.2.2)
theorem aCO {w:World} {B g cap i:Nat} {l:List SE} (h:w.ownsRow B 209 5 (.slice (some ⟨g,0,none⟩) l.length cap) l.length (kZ l)) (hi:i<l.length) (x:SE):(stW w g i x).ownsRow B 209 5 (.slice (some ⟨g,0,none⟩) l.length cap) l.length (kZ (l.set i x)):=by
 rw [←aEg]
 exact lD (lD (lD (lD (lD h (by omega) _) (by omega) _) (by omega) _) (by omega) _) (by omega) _
def aLI (p q:P4):Bool:=uV p.1 p.2.1 p.2.2.1 p.2.2.2 q.1 q.2.1 q.2.2.1 q.2.2.2
def gK (x y:SE):Bool:=OrdM.ahead aLI Op.bytesLess x y
theorem Blk.gby1 {w w':World} {g k:Nat} {arr:Array Value} {t:TypeId} (h:Blk w k arr t) (hg:w.grownBy w' (some g)) (hn:k≠g):Blk w' k arr t:=(hg.block k h.lt (fun e=>hn (by simpa using e))).trans h
abbrev aBl (bk:Nat):Value:=.func (.func 189) #[] #[.pointer (some ⟨bk,0,none⟩)]
theorem aEE (K:List P4) (hK:K.length≤1000000000) (KW:∀p ∈ K,Wf4 p.1 p.2.1 p.2.2.1 p.2.2.2) (x y:SE) (hx:x.2 ∈ K) (hy:y.2 ∈ K) (bm bk:Nat) (w:World) (hc:Blk w bk #[.map (some bm)] 222) (hm:dP K bm w) (hne:bk≠bm) :
  Calls Tryz.prog 189 #[stv x,stv y,.pointer (some ⟨bk,0,none⟩)] w fun e w'=>e=.returned (.bool (gK x y))∧dP K bm w'∧w.grownBy w' (some bm):=by
 obtain ⟨n1,a,b,c,d⟩:=x
 obtain ⟨n2,e,f,g,h⟩:=y
 have C1:=aA (fun wx hm=>aCd K hK a b c d e f g h (KW _ hx) (KW _ hy) hx hy bm wx hm)
 have C2:=aA (fun wx hm=>aCd K hK e f g h a b c d (KW _ hy) (KW _ hx) hy hx bm wx hm)
 have HA:=aA (show gK (n1,a,b,c,d) (n2,e,f,g,h)=(uV a b c d e f g h||(!uV e f g h a b c d&&Op.bytesLess n1 n2)) from rfl)
 obtain ⟨l1,hl1⟩:∃z,uV a b c d e f g h=z:=⟨_,rfl⟩
 obtain ⟨l2,hl2⟩:∃b',uV e f g h a b c d=b':=⟨_,rfl⟩
 obtain ⟨o,ho⟩:∃b',gK (n1,a,b,c,d) (n2,e,f,g,h)=b':=⟨_,rfl⟩
 rw [hl1] at C1 HA
 rw [hl2] at C2 HA
 rw [ho] at HA ⊢
 have X0:=aA ((yD w #[.string (bs n1),.int .i64 a,.int .i64 b,.int .i64 c,.int .i64 d] 209).al (.cells #[.string (bs n2),.int .i64 e,.int .i64 f,.int .i64 g,.int .i64 h] 209))
 have Y0:=aA (show Blk ((w.alloc (.cells #[.string (bs n1),.int .i64 a,.int .i64 b,.int .i64 c,.int .i64 d] 209)).alloc (.cells #[.string (bs n2),.int .i64 e,.int .i64 f,.int .i64 g,.int .i64 h] 209)) (w.heap.size+1) #[.string (bs n2),.int .i64 e,.int .i64 f,.int .i64 g,.int .i64 h] 209 from by have:=yD (w.alloc (.cells #[.string (bs n1),.int .i64 a,.int .i64 b,.int .i64 c,.int .i64 d] 209)) #[.string (bs n2),.int .i64 e,.int .i64 f,.int .i64 g,.int .i64 h] 209;rw [yE] at this;exact this)
 have M0:=aA ((hc.al (.cells #[.string (bs n1),.int .i64 a,.int .i64 b,.int .i64 c,.int .i64 d] 209)).al (.cells #[.string (bs n2),.int .i64 e,.int .i64 f,.int .i64 g,.int .i64 h] 209))
 have hb0:=yA (yA (yH _ w) (.cells #[.string (bs n1),.int .i64 a,.int .i64 b,.int .i64 c,.int .i64 d] 209)) (.cells #[.string (bs n2),.int .i64 e,.int .i64 f,.int .i64 g,.int .i64 h] 209)
 have H0:=aA (hm.below hb0)
 have G0:=aA (aG (aC w (some bm)) hb0)
 have hlm:bm<w.heap.size:=hm.lt
 clear hl1 hl2 ho hc hm hb0 hx hy
 have c0:=(uH M0).at 0
 have x1:=(uH X0).at 1;have x2:=(uH X0).at 2;have x3:=(uH X0).at 3;have x4:=(uH X0).at 4
 have y1:=(uH Y0).at 1;have y2:=(uH Y0).at 2;have y3:=(uH Y0).at 3;have y4:=(uH Y0).at 4
 simp at c0 x1 x2 x3 x4 y1 y2 y3 y4
 go_enter Tryz.func189,Tryz.ntmps189
 go_wp2_with fail
 refine (uH C1 _ (uH H0)).mono ?_
 rintro e1 w1 ⟨rfl,hh,hg⟩
 have H1:=aA hh
 have G1:=aA (jO (uH G0) hg)
 have X1:=aA ((uH X0).gby1 hg (by omega))
 have Y1:=aA ((uH Y0).gby1 hg (by omega))
 have M1:=aA ((uH M0).gby1 hg hne)
 clear hh hg H0 G0 X0 Y0 M0 C1 c0 x1 x2 x3 x4 y1 y2 y3 y4
 cases l1
 case true=>
  go_wp2
  go_ret
  exact ⟨yF (by rw [uH HA];rfl),uH H1,uH G1⟩
 have c0:=(uH M1).at 0
 have x1:=(uH X1).at 1;have x2:=(uH X1).at 2;have x3:=(uH X1).at 3;have x4:=(uH X1).at 4
 have y1:=(uH Y1).at 1;have y2:=(uH Y1).at 2;have y3:=(uH Y1).at 3;have y4:=(uH Y1).at 4
 simp at c0 x1 x2 x3 x4 y1 y2 y3 y4
 go_wp2_with fail
 refine (uH C2 _ (uH H1)).mono ?_
 rintro e2 w2 ⟨rfl,hh,hg⟩
 have H2:=aA hh
 have G2:=aA (jO (uH G1) hg)
 have X2:=aA ((uH X1).gby1 hg (by omega))
 have Y2:=aA ((uH Y1).gby1 hg (by omega))
 clear hh hg H1 G1 X1 Y1 M1 C2 c0 x1 x2 x3 x4 y1 y2 y3 y4
 cases l2
 case true=>
  go_wp2
  go_ret
  exact ⟨yF (by rw [uH HA];rfl),uH H2,uH G2⟩
 have x0:=(uH X2).at 0
 have y0:=(uH Y2).at 0
 simp at x0 y0
 obtain ⟨bl,hbl⟩:∃z,Op.bytesLess (bs n1).toList (bs n2).toList=z:=⟨_,rfl⟩
 have HBL:=aA (show Op.bytesLess n1 n2=bl by rw [←hbl];simp [bs])
 go_wp2
 go_ret
 exact ⟨yF (by rw [uH HA,uH HBL];rfl),uH H2,uH G2⟩
end
section
open Go.RowKit
theorem jF (ao:Option Addr) (len cap:Nat) (l:List Q) (w:World) (h:iG w ao len l) (hl:len≤1048576) (hn:∀q ∈ l,q.name.length≤1048576) :
  Calls Tryz.prog 52 #[.slice ao len cap] w fun e w'=>e=.returned (.bool (aF l))∧Below w.heap.size w w':=by
 have HR:=aA h
 have HL:=aA h.1
 have HN:=aA hn
 clear h hn
 go_enter Tryz.func52,Tryz.ntmps52
 go_wp2
 go_loopw [3] (fun i wr=>∃k:Nat,k≤len∧i=.int .i64 k∧Hid (gH l l 0=gH l (l.drop k) k)∧Hid (Below w.heap.size w wr)) (fun i _=>len - (intOf i).toNat)
 case atStart=>exact ⟨0,Nat.zero_le _,rfl,aA (by simp),aA (yH _ _)⟩
 case round=>
  obtain ⟨k,hk,rfl,hp,HB⟩:=hrel
  by_cases hlt:k<len
  ·have HR2:=aA ((uH HR).below (uH HB))
   obtain ⟨b,off,rfl,hq⟩:=(uH HR2).at hlt
   have hkl:k<l.length:=by have:=uH HL;omega
   have hst:=aA (aDs (l:=l) (k:=k) hkl)
   obtain ⟨c0,c1,c2,c3⟩:=hq hkl
   have hz:=uH HN l[k] (yM _)
   clear hq
   obtain ⟨⟨nm,pa,du,mo⟩,hs⟩:∃s,l[k]=s:=⟨_,rfl⟩
   rw [hs] at c0 c1 c2 c3 hst hz
   simp only at c0 c1 c2 c3 hz
   clear hs hkl
   obtain ⟨b1,g1⟩:∃b,bJ nm=b:=⟨_,rfl⟩
   obtain ⟨p1,g2⟩:∃p,place l nm=p:=⟨_,rfl⟩
   obtain ⟨p2,g3⟩:∃p,place l pa=p:=⟨_,rfl⟩
   have CN:=aA (fun wx=>by have:=lC (bs nm) wx (by rw [dI];exact hz);rw [show (bs nm).data.toList=nm by simp [bs],g1] at this;exact this)
   have RR:=(uH HR2).below (yA (yH _ wr) (.cells #[.string (bs nm),.string (bs pa),.int .i64 du,.int .i64 mo] 100))
   have CP1:=aA (by have:=jA (some ⟨b,off,none⟩) len cap l nm _ RR hl;rw [g2] at this;exact this)
   have CP2:=aA (by have:=jA (some ⟨b,off,none⟩) len cap l pa _ RR hl;rw [g3] at this;exact this)
   have HB2:=aA (yA (uH HB) (.cells #[.string (bs nm),.string (bs pa),.int .i64 du,.int .i64 mo] 100))
   have G1:=aA g1
   have G2:=aA g2
   have G3:=aA g3
   clear g1 g2 g3 RR HR2 hz
   cases b1 with
   | false=>
    go_wp2_with (first | (go_at_call 87;refine (uH CN _).mono ?_;rintro e w' ⟨rfl,rfl⟩) | (go_at_call_of 88 nm;refine (uH CP1).mono ?_;rintro e w' ⟨rfl,rfl⟩) | (go_at_call_of 88 pa;refine (uH CP2).mono ?_;rintro e w' ⟨rfl,rfl⟩) | (go_at_call 42;refine (aM _ _ _ _).mono ?_;rintro e w' ⟨rfl,rfl⟩))
    go_ret
    exact ⟨yF (wJ (by rw [uH hp,uH hst];simp [qOk,uH G1])).symm,uH HB2⟩
   | true=>
    by_cases e2:p1=k
    ·subst e2
     cases h3:inB mo 0 10000
     ·skip
      go_wp2_with (first | (go_at_call 87;refine (uH CN _).mono ?_;rintro e w' ⟨rfl,rfl⟩) | (go_at_call_of 88 nm;refine (uH CP1).mono ?_;rintro e w' ⟨rfl,rfl⟩) | (go_at_call_of 88 pa;refine (uH CP2).mono ?_;rintro e w' ⟨rfl,rfl⟩) | (go_at_call 42;refine (aM _ _ _ _).mono ?_;rintro e w' ⟨rfl,rfl⟩))
      go_ret
      exact ⟨yF (wJ (by rw [uH hp,uH hst];simp [qOk,uH G1,uH G2,h3])).symm,uH HB2⟩
     ·cases h4:inB du 0 mo
      ·skip
       go_wp2_with (first | (go_at_call 87;refine (uH CN _).mono ?_;rintro e w' ⟨rfl,rfl⟩) | (go_at_call_of 88 nm;refine (uH CP1).mono ?_;rintro e w' ⟨rfl,rfl⟩) | (go_at_call_of 88 pa;refine (uH CP2).mono ?_;rintro e w' ⟨rfl,rfl⟩) | (go_at_call 42;refine (aM _ _ _ _).mono ?_;rintro e w' ⟨rfl,rfl⟩))
       go_ret
       exact ⟨yF (wJ (by rw [uH hp,uH hst];simp [qOk,uH G1,uH G2,h3,h4])).symm,uH HB2⟩
      ·by_cases hk0:k=0
       ·have k1:((k:Int)==0)=true:=by simp [hk0]
        have k2:¬(0:Int)<k:=by omega
        have k3:¬0<k:=by omega
        have HK0:=aA hk0
        clear hk0
        have hbe:=nA pa
        by_cases e5:pa=[]
        ·have E5:=aA e5
         rw [decide_eq_true e5] at hbe
         clear e5
         by_cases e6:du=10000
         ·subst e6
          go_wp2_with (first | (go_at_call 87;refine (uH CN _).mono ?_;rintro e w' ⟨rfl,rfl⟩) | (go_at_call_of 88 nm;refine (uH CP1).mono ?_;rintro e w' ⟨rfl,rfl⟩) | (go_at_call_of 88 pa;refine (uH CP2).mono ?_;rintro e w' ⟨rfl,rfl⟩) | (go_at_call 42;refine (aM _ _ _ _).mono ?_;rintro e w' ⟨rfl,rfl⟩))
          go_roundw
          case rel=>exact ⟨k+1,by omega,by go_num,aA (by rw [uH hp,uH hst];simp [qOk,uH G1,uH G2,h3,h4,uH HK0,uH E5]),HB2⟩
          case measure=>simp [intOf];omega
         ·have E6:=aA e6
          have hd:(du==10000)=false:=by simp [e6]
          clear e6
          go_wp2_with (first | (go_at_call 87;refine (uH CN _).mono ?_;rintro e w' ⟨rfl,rfl⟩) | (go_at_call_of 88 nm;refine (uH CP1).mono ?_;rintro e w' ⟨rfl,rfl⟩) | (go_at_call_of 88 pa;refine (uH CP2).mono ?_;rintro e w' ⟨rfl,rfl⟩) | (go_at_call 42;refine (aM _ _ _ _).mono ?_;rintro e w' ⟨rfl,rfl⟩))
          go_ret
          exact ⟨yF (wJ (by rw [uH hp,uH hst];simp [qOk,uH G1,uH G2,h3,h4,uH HK0,uH E5,uH E6])).symm,uH HB2⟩
        ·have E5:=aA e5
         rw [decide_eq_false e5] at hbe
         clear e5
         go_wp2_with (first | (go_at_call 87;refine (uH CN _).mono ?_;rintro e w' ⟨rfl,rfl⟩) | (go_at_call_of 88 nm;refine (uH CP1).mono ?_;rintro e w' ⟨rfl,rfl⟩) | (go_at_call_of 88 pa;refine (uH CP2).mono ?_;rintro e w' ⟨rfl,rfl⟩) | (go_at_call 42;refine (aM _ _ _ _).mono ?_;rintro e w' ⟨rfl,rfl⟩))
         go_ret
         exact ⟨yF (wJ (by rw [uH hp,uH hst];simp [qOk,uH G1,uH G2,h3,h4,uH HK0,uH E5])).symm,uH HB2⟩
       ·have k1:((k:Int)==0)=false:=by simp [hk0]
        have k2:(0:Int)<k:=by omega
        have k3:0<k:=by omega
        have HK0:=aA hk0
        clear hk0
        cases h7:inB p2 0 ((k:Int) - 1)
        ·skip
         go_wp2_with (first | (go_at_call 87;refine (uH CN _).mono ?_;rintro e w' ⟨rfl,rfl⟩) | (go_at_call_of 88 nm;refine (uH CP1).mono ?_;rintro e w' ⟨rfl,rfl⟩) | (go_at_call_of 88 pa;refine (uH CP2).mono ?_;rintro e w' ⟨rfl,rfl⟩) | (go_at_call 42;refine (aM _ _ _ _).mono ?_;rintro e w' ⟨rfl,rfl⟩))
         go_ret
         exact ⟨yF (wJ (by rw [uH hp,uH hst];simp [qOk,uH G1,uH G2,uH G3,h3,h4,h7,uH HK0])).symm,uH HB2⟩
        ·skip
         go_wp2_with (first | (go_at_call 87;refine (uH CN _).mono ?_;rintro e w' ⟨rfl,rfl⟩) | (go_at_call_of 88 nm;refine (uH CP1).mono ?_;rintro e w' ⟨rfl,rfl⟩) | (go_at_call_of 88 pa;refine (uH CP2).mono ?_;rintro e w' ⟨rfl,rfl⟩) | (go_at_call 42;refine (aM _ _ _ _).mono ?_;rintro e w' ⟨rfl,rfl⟩))
         go_roundw
         case rel=>exact ⟨k+1,by omega,by go_num,aA (by rw [uH hp,uH hst];simp [qOk,uH G1,uH G2,uH G3,h3,h4,h7,uH HK0]),HB2⟩
         case measure=>simp [intOf];omega
    ·have h2:(p1==(k:Int))=false:=by simp [e2]
     have E2:=aA e2
     clear e2
     go_wp2_with (first | (go_at_call 87;refine (uH CN _).mono ?_;rintro e w' ⟨rfl,rfl⟩) | (go_at_call_of 88 nm;refine (uH CP1).mono ?_;rintro e w' ⟨rfl,rfl⟩) | (go_at_call_of 88 pa;refine (uH CP2).mono ?_;rintro e w' ⟨rfl,rfl⟩) | (go_at_call 42;refine (aM _ _ _ _).mono ?_;rintro e w' ⟨rfl,rfl⟩))
     go_ret
     exact ⟨yF (wJ (by rw [uH hp,uH hst];simp [qOk,uH G1,uH G2,uH E2])).symm,uH HB2⟩
  ·have ho:=aA (show gH l l 0=true by rw [uH hp];exact aFv (by have:=uH HL;omega))
   have HD:=aA (aAX l 0 (uH ho))
   have HR2:=aA ((uH HR).below (uH HB))
   clear hp
   go_wp2
   go_loopw [5] (fun i wx=>∃m:Nat,m≤len∧i=.int .i64 m∧Hid (jI l l=jI l (l.drop m))∧wx=wr) (fun i _=>len - (intOf i).toNat)
   case atStart=>exact ⟨0,Nat.zero_le _,rfl,aA (by simp),rfl⟩
   case round=>
    obtain ⟨m,hm,rfl,hp,rfl⟩:=hrel
    by_cases hlm:m<len
    ·obtain ⟨b,off,rfl,hq⟩:=(uH HR2).at hlm
     have hml:m<l.length:=by have:=uH HL;omega
     have hst:=aA (aDb (l:=l) (k:=m) hml)
     have c0:=(hq hml).1
     clear hq
     obtain ⟨nm,hs⟩:∃s,l[m].name=s:=⟨_,rfl⟩
     rw [hs] at c0 hst
     obtain ⟨t,ht⟩:∃t,gP l nm=t:=⟨_,rfl⟩
     have CS:=aA (by have:=aGK (some ⟨b,off,none⟩) len cap l nm _ (uH HR2) hl (uH HD);rw [ht] at this;exact this)
     have HTT:=aA ht
     clear hs hml ht
     by_cases hgt:10000<t
     ·go_wp2_with (go_at_call 89;refine (uH CS).mono ?_;rintro e w' ⟨rfl,rfl⟩)
      go_ret
      exact ⟨yF (aKy (by rw [uH hp,uH hst,uH HTT];simp;omega)).symm,uH HB⟩
     ·go_wp2_with (go_at_call 89;refine (uH CS).mono ?_;rintro e w' ⟨rfl,rfl⟩)
      go_roundw
      case rel=>exact ⟨m+1,by omega,by go_num,aA (by rw [uH hp,uH hst,uH HTT];simp;omega),trivial⟩
      case measure=>simp [intOf];omega
    ·have hfin:=aA (aKx (uH ho) (show jI l l=true by rw [uH hp];exact aF7 (by have:=uH HL;omega)))
     have HLL:=uH HL
     have hfin2:=aA (show inB (len:Int) 1 20=aF l by rw [uH hfin,HLL])
     clear HLL
     go_wp2_with (go_at_call 42;refine (aM _ _ _ _).mono ?_;rintro e w' ⟨rfl,rfl⟩)
     go_ret
     exact ⟨yF (uH hfin2),uH HB⟩
def zI (nm:List UInt8):List Q→Bool
 | []=>true
 | q::t=>decide (q.parent≠nm)&&zI nm t
def aFB (l:List Q) (nm:List UInt8):Bool:=zI nm l&&(aF l&&decide (0≤place l nm))
theorem aFw {nm:List UInt8} {l:List Q} {k:Nat} (h:k<l.length):zI nm (l.drop k)=(decide (l[k].parent≠nm)&&zI nm (l.drop (k+1))):=by
 rw [List.drop_eq_getElem_cons h,zI]
theorem aH8 {nm:List UInt8} {l:List Q} {k:Nat} (h:l.length≤k):zI nm (l.drop k)=true:=by
 rw [List.drop_of_length_le h];rfl
theorem tQ (ao:Option Addr) (len cap:Nat) (l:List Q) (nm:List UInt8) (w:World) (h:iG w ao len l) (hl:len≤1048576) (hn:∀q ∈ l,q.name.length≤1048576) :
  Calls Tryz.prog 90 #[.slice ao len cap,.string (bs nm)] w fun e w'=>e=.returned (.bool (aFB l nm))∧Below w.heap.size w w':=by
 have HR:=aA h
 have HL:=aA h.1
 have HN:=aA hn
 clear h hn
 go_enter Tryz.func90,Tryz.ntmps90
 go_wp2
 go_loopw [5] (fun i wr=>∃k:Nat,k≤len∧i=.int .i64 k∧Hid (zI nm l=zI nm (l.drop k))∧wr=w) (fun i _=>len - (intOf i).toNat)
 case atStart=>exact ⟨0,Nat.zero_le _,rfl,aA (by simp),rfl⟩
 case round=>
  obtain ⟨k,hk,rfl,hp,rfl⟩:=hrel
  by_cases hlt:k<len
  ·obtain ⟨b,off,rfl,hq⟩:=(uH HR).at hlt
   have hkl:k<l.length:=by have:=uH HL;omega
   have hst:=aA (aFw (nm:=nm) (l:=l) (k:=k) hkl)
   have hq0:=(hq hkl).2.1
   clear hq
   obtain ⟨s,hs⟩:∃s,l[k].parent=s:=⟨_,rfl⟩
   rw [hs] at hq0 hst
   have hbe:=nS s nm
   clear hs hkl
   by_cases he:s=nm
   ·have HE:=aA he
    rw [decide_eq_true he] at hbe
    clear he
    go_wp2
    go_ret
    exact ⟨yF (by rw [aFB,uH hp,uH hst];simp [uH HE]),yH _ _⟩
   ·have HE:=aA he
    rw [decide_eq_false he] at hbe
    clear he
    go_wp2
    go_roundw
    case rel=>exact ⟨k+1,by omega,by go_num,aA (by rw [uH hp,uH hst];simp [uH HE]),trivial⟩
    case measure=>simp [intOf];omega
  ·have hk2:=aA (show aFB l nm=(aF l&&decide (0≤place l nm)) by rw [aFB,uH hp,aH8 (by have:=uH HL;omega)];rfl)
   have CQ:=aA (jF ao len cap l wr (uH HR) hl (uH HN))
   obtain ⟨o,ho⟩:∃o,aF l=o:=⟨_,rfl⟩
   obtain ⟨p,hp2⟩:∃p,place l nm=p:=⟨_,rfl⟩
   rw [ho] at CQ hk2
   have CP:=aA (fun wx (hb:Below wr.heap.size wr wx)=>by have:=jA ao len cap l nm wx ((uH HR).below hb) hl;rw [hp2] at this;exact this)
   rw [hp2] at hk2
   clear ho hp2 hp
   go_wp2_with fail
   refine (uH CQ).mono ?_
   rintro e w1 ⟨rfl,hb⟩
   have HB:=aA hb
   clear hb CQ
   cases o with
   | false=>
    go_wp2
    go_ret
    exact ⟨yF (by rw [uH hk2];rfl),uH HB⟩
   | true=>
    go_wp2_with fail
    refine (uH CP _ (uH HB)).mono ?_
    rintro e w2 ⟨rfl,rfl⟩
    by_cases h0:0≤p
    ·go_wp2
     go_ret
     exact ⟨yF (by rw [uH hk2];simp [h0]),uH HB⟩
    ·go_wp2
     go_ret
     exact ⟨yF (by rw [uH hk2];simp),uH HB⟩
theorem nK (ao:Option Addr) (len cap:Nat) (l:List Q) (nm:List UInt8) (w:World) (h:iG w ao len l) (hl:len≤1048576) (hn:∀q ∈ l,q.name.length≤1048576) :
  Calls Tryz.prog 162 #[.slice ao len cap,.string (bs nm)] w fun e w'=>∃v,e=.returned v∧dA w.heap.size w' v (path l nm)∧Below w.heap.size w w':=by
 obtain ⟨i0,hi,hz0,hz1,hz2⟩:=info_parts Tryz.infoS
 have HR:=aA h
 have HL:=aA h.1
 have hlw:=h.1
 have CQ:=aA (fun wx (hb:Below w.heap.size w wx)=>jF ao len cap l wx (h.below hb) hl hn)
 have CP:=aA (fun (x:List UInt8) wx (hb:Below w.heap.size w wx)=>jA ao len cap l x wx (h.below hb) hl)
 obtain ⟨p0,hp0⟩:∃p,place l nm=p:=⟨_,rfl⟩
 have hpr:p0 = -1∨(0≤p0∧p0<len):=by have:=eG l nm;rw [hp0] at this;omega
 have HP0:=aA hp0
 have CP0:=aA (by have:=(uH CP) nm (w.alloc (.cells #[] 9)) (yA (yH _ _) _);rw [hp0] at this;exact this)
 obtain ⟨ok,hok⟩:∃ok,aF l=ok:=⟨_,rfl⟩
 rw [hok] at CQ
 have HOK:=aA hok
 have HS0:=aA (aAC w)
 clear h hn hp0 hok hlw
 go_enter Tryz.func162,Tryz.ntmps162
 go_wp2_with fail
 refine (uH CP0).mono ?_
 rintro e w1 ⟨rfl,rfl⟩
 clear CP0
 go_wp2
 go_loopw [5,6] (fun v i wr=>∃(p:Int) (o:List ByteArray),i=.int .i64 p∧(p = -1∨(0≤p∧p<len))∧o.length+p<len+1∧Hid (ok=true→o++(eB l (l.length+1) p).map bs=(path l nm).map bs)∧Hid (ok=false→o=[])∧Hid (wr.ownsRow w.heap.size 9 1 v o.length (gY o))∧Hid (Below w.heap.size w wr)) (fun _ i _=>(intOf i+1).toNat)
 case atStart=>
  refine ⟨p0,[],rfl,hpr,by simp;omega,aA (fun e=>?_),aA (fun _=>rfl),HS0,aA (yA (yH _ _) _)⟩
  rw [path,uH HOK,e,if_pos rfl,uH HP0];rfl
 case round=>
  obtain ⟨p,o,rfl,hp,ho,HO,HE,HS,HB⟩:=hrel
  by_cases h0:0≤p
  ·obtain ⟨k,rfl⟩:∃k:Nat,p=k:=⟨p.toNat,by omega⟩
   have hlt:k<len:=by omega
   cases ok with
   | false=>
    go_wp2_with fail
    refine (uH CQ _ (uH HB)).mono ?_
    rintro e w2 ⟨rfl,hb⟩
    have HB2:=aA (yB (uH HB) hb)
    have HS2:=aA (lL (uH HS) hb)
    clear hb
    go_wp2
    go_ret
    refine ⟨_,rfl,dA.of (uH HS2) ?_,uH HB2⟩
    rw [uH HE (by first | rfl | trivial),show path l nm=[] by rw [path,uH HOK];rfl]
    rfl
   | true=>
    have hkl:k<l.length:=by have:=uH HL;omega
    have hahead:=iY (uH HOK) hkl
    have hstep:=aHR (uH HOK) hkl (n:=l.length+1) (by omega)
    obtain ⟨b,off,rfl,hq⟩:=(uH HR).at hlt
    have hqq:=hq hkl
    obtain ⟨q,hs⟩:∃q,l[k]=q:=⟨_,rfl⟩
    rw [hs] at hqq hahead hstep
    obtain ⟨pn,hpn⟩:∃p,place l q.parent=p:=⟨_,rfl⟩
    have hpr2:pn = -1∨(0≤pn∧pn<len):=by have:=eG l q.parent;rw [hpn] at this;have:=uH HL;omega
    rw [hpn] at hahead hstep
    have HQQ:=aA hqq
    have HST:=aA hstep
    have HPN:=aA hpn
    clear hq hqq hs hkl hstep hpn
    go_wp2_with fail
    refine (uH CQ _ (uH HB)).mono ?_
    rintro e w2 ⟨rfl,hb⟩
    have hown:=lL (uH HS) hb
    have hbel:=yB (uH HB) hb
    have HC:=aA ((uH HQQ).below hbel)
    have c0:=(uH HC).1
    have hsz:=hbel.size
    have hol:o.length≤1048576:=by omega
    clear hb HS HB CQ
    go_wp2_with (at_builtin;refine wpList_append_own _ rfl _ _ 175 rfl w.heap.size 9 i0 (.string ByteArray.empty) 1 16 Tryz.underlying175 hi hz0 hz1 hz2 rfl (by decide) _ _ _ rfl (hown.alloc _) ⟨w2.heap.size,0,none⟩ 1 1 [.string (bs q.name)] rfl rfl ?c1 ?c2 ?c3 ?c4 ?c5 ?_)
    case c1=>intro j v hj;match j,hj with | 0,hj=>simp at hj;subst hj;simp [Addr.add]
    case c2=>intro v hv;simp at hv;subst hv;rfl
    case c3=>unfold maxLen;omega
    case c4=>omega
    case c5=>simp;omega
    intro v' w3 hown' hgrow _
    have R:=aBx hbel hown hown' hgrow (by omega)
    have HR3:=aA R
    have c1:=(show QAt w3 b (off+k*4) q from (uH HQQ).below R.2).2.1
    clear hown' hgrow hown hbel c0 R HC
    go_wp2_with fail
    refine (uH CP q.parent _ (uH HR3).2).mono ?_
    rintro e w4 ⟨rfl,rfl⟩
    rw [uH HPN]
    go_wp2
    go_roundw
    case rel=>exact ⟨pn,o++[bs q.name],rfl,hpr2,by simp;omega,aA (fun _=>by have:=uH HO (by first | rfl | trivial);rw [uH HST] at this;simpa using this),aA (fun e=>by cases e),aA (uH HR3).1,aA (uH HR3).2⟩
    case measure=>simp [intOf];omega
  ·have hp1:p = -1:=by omega
   subst hp1
   go_wp2
   go_ret
   refine ⟨_,rfl,dA.of (uH HS) ?_,uH HB⟩
   cases ok with
   | true=>
    have:=uH HO (by first | rfl | trivial)
    rw [aEq (by omega)] at this
    simpa using this
   | false=>
    rw [uH HE (by first | rfl | trivial),show path l nm=[] by rw [path,uH HOK];rfl]
    rfl
theorem aCi (ao:Option Addr) (len cap:Nat) (l:List Q) (nm:List UInt8) (a b:Int) (most:Bool) (w:World) (h:iG w ao len l) (hl:len≤1048576) (hn:∀q ∈ l,q.name.length≤1048576) :
  Calls Tryz.prog 186 #[.slice ao len cap,.string (bs nm),rv a b,.bool most] w fun e w'=>e=.returned (rv (ofR l nm a b most).1 (ofR l nm a b most).2)∧Below w.heap.size w w':=by
 have HR:=aA h
 have HV1:=aA ((aH w 36 a b).al (.cells #[.int .i64 0,.int .i64 0] 36))
 have HV2:=aA (gL w 36 36 a b 0 0)
 have HB0:=aA (yA (yA (yH _ w) (.cells #[.int .i64 a,.int .i64 b] 36)) (.cells #[.int .i64 0,.int .i64 0] 36))
 have CPath:=aA (nK ao len cap l nm _ (h.below (uH HB0)) hl hn)
 have CP:=aA (fun (x:List UInt8) wx (hb:Below w.heap.size w wx)=>jA ao len cap l x wx (h.below hb) hl)
 have CK:=aA (aBC a b)
 have hpl:=aBI l nm
 have HPL:=aA (show (path l nm).length≤len+1 by have:=h.1;omega)
 have HNM:=aA (aFk (l:=l) (nm:=nm))
 obtain ⟨ps,hps⟩:∃ps,path l nm=ps:=⟨_,rfl⟩
 obtain ⟨ok,hok⟩:∃ok,aL a b=ok:=⟨_,rfl⟩
 rw [hps] at CPath HPL HNM
 rw [hok] at CK
 obtain ⟨⟨x,y⟩,hxy⟩:∃p,ofR l nm a b most=p:=⟨_,rfl⟩
 rw [hxy]
 have HXY:=aA (show (if ps=[]∨ok=false then ((0:Int),(0:Int)) else ofP l most (a,b) ps)=(x,y) by rw [←hxy,ofR,hps,hok])
 have HLL:=aA h.1
 clear h hn hps hok hxy hpl
 go_enter Tryz.func186,Tryz.ntmps186
 go_wp2_with fail
 refine (uH CPath).mono ?_
 rintro e w1 ⟨v,rfl,ht,hb⟩
 have V1:=aA ((uH HV1).below hb)
 have V2:=aA ((uH HV2).below hb)
 have HB1:=aA (yB (uH HB0) hb)
 have HT:=aA ht
 clear ht hb HV1 HV2 HB0 CPath
 by_cases hp:ps=[]
 ·subst hp
  obtain ⟨va,vc,rfl⟩:=jT (uH HT)
  have hz:(x,y)=((0:Int),(0:Int)):=by rw [←uH HXY,if_pos (.inl rfl)]
  simp only [Prod.mk.injEq] at hz
  obtain ⟨rfl,rfl⟩:=hz
  have k0:=(uH V2).c0
  have k1:=(uH V2).c1
  have k2:=(uH V2).f 0
  have k3:=(uH V2).f 1
  have k4:=(uH V2).s0 (.int .i64 0)
  have k5:=(uH V2).s1 (.int .i64 0) (.int .i64 0)
  go_wp2
  refine bodyPost_ret (v:=rv 0 0) (by simp [results,Tryz.results186,go_sem,k4,k5]) rfl ⟨rfl,?_⟩
  repeat (first | exact uH HB1 | refine yA ?_ _ | refine Below.drew ?_ | refine yC ?_ _ _ _ (by omega))
 ·obtain ⟨g,gc,rfl,hss,hg⟩:=jS (uH HT) hp
  have HSS:=aA hss
  have hlp:0<ps.length:=List.length_pos_iff.2 hp
  have HPN:=aA hp
  have hln:((ps.length:Int)==0)=false:=by simp;exact hp
  have a0:=(uH V1).c0
  have a1:=(uH V1).c1
  have hpl2:ps.length≤1048577:=by have:=uH HPL;omega
  clear hss hp HT
  go_wp2_with fail
  refine (uH CK _).mono ?_
  rintro e w2 ⟨rfl,hb⟩
  have HSS2:=aA ((uH HSS).below hb (uH HSS).lt)
  have W1:=aA ((uH V1).below hb)
  have W2:=aA ((uH V2).below hb)
  have HB2:=aA (yB (uH HB1) hb)
  have hs1:w.heap.size+1<w2.heap.size:=(uH W2).lt
  clear hb a0 a1 HSS V1 V2 HB1 CK
  have hgl:g<w2.heap.size:=(uH HSS2).lt
  cases ok with
  | false=>
   have hz:(x,y)=((0:Int),(0:Int)):=by rw [←uH HXY,if_pos (.inr rfl)]
   simp only [Prod.mk.injEq] at hz
   obtain ⟨rfl,rfl⟩:=hz
   have k0:=(uH W2).c0
   have k1:=(uH W2).c1
   have k2:=(uH W2).f 0
   have k3:=(uH W2).f 1
   have k4:=(uH W2).s0 (.int .i64 0)
   have k5:=(uH W2).s1 (.int .i64 0) (.int .i64 0)
   go_wp2
   refine bodyPost_ret (v:=rv 0 0) (by simp [results,Tryz.results186,go_sem,k4,k5]) rfl ⟨rfl,?_⟩
   repeat (first | exact uH HB2 | refine yA ?_ _ | refine Below.drew ?_ | refine yC ?_ _ _ _ (by omega))
  | true=>
   have HF:=aA (show ofP l most (a,b) ps=(x,y) by have:=uH HXY;rw [if_neg (by simp;exact uH HPN)] at this;exact this)
   have a0:=(uH W1).c0
   have a1:=(uH W1).c1
   have hw2:=(uH HB2).size
   clear HXY
   go_wp2
   clear a0 a1
   go_loopw [11] (fun i wr=>∃(j u v:Int),i=.int .i64 j∧-1≤j∧j+2≤ps.length∧Hid (ofP l most (a,b) (ps.drop (j+1).toNat)=(u,v))∧Hid (Var wr 36 w2.heap.size u v)∧Hid (SS wr g gc (ps.map bs))∧Hid (Var wr 36 (w.heap.size+1) 0 0)∧Hid (Below w.heap.size w wr)) (fun i _=>(intOf i+1).toNat)
   case atStart=>
    refine ⟨(ps.length:Int) - 2,a,b,by go_num,by omega,by omega,aA ?_,aA (aH _ _ _ _),aA ((uH HSS2).below (yA (yH _ _) _) hgl),aA ((uH W2).al _),aA (yA (uH HB2) _)⟩
    rw [show ((ps.length:Int) - 2+1).toNat=ps.length - 1 by omega]
    exact aJH l most (a,b) (uH HPN)
   case round=>
    obtain ⟨j,u,v,rfl,hj1,hj2,HO,HU,HS,HT,HB⟩:=hrel
    by_cases h0:0≤j
    ·obtain ⟨k,rfl⟩:∃k:Nat,j=k:=⟨j.toNat,by omega⟩
     have hk1:k+1<ps.length:=by omega
     obtain ⟨kk,hkk,hpk,hbn⟩:=uH HNM ps[k] (yM _)
     have hkl:kk<len:=by have:=uH HLL;omega
     obtain ⟨rb,off,rfl,hq⟩:=((uH HR).below (uH HB)).at hkl
     have hqq:=hq hkk
     have hst:=aJG l most (a,b) hk1
     rw [hbn] at hst
     obtain ⟨q,hs⟩:∃q,l[kk]=q:=⟨_,rfl⟩
     rw [hs] at hqq hst
     have e0:ofP l most (a,b) (ps.drop (k+1))=(u,v):=by have:=uH HO;rw [show ((k:Int)+1).toNat=k+1 by omega] at this;exact this
     rw [e0] at hst
     simp only at hst
     obtain ⟨c0,c1,c2,c3⟩:=hqq
     have ct:=(uH HS).text (show k<ps.length by omega)
     have u0:=((uH HU).al (.cells #[.string (bs q.name),.string (bs q.parent),.int .i64 q.due,.int .i64 q.most] 100)).c0
     have u1:=((uH HU).al (.cells #[.string (bs q.name),.string (bs q.parent),.int .i64 q.due,.int .i64 q.most] 100)).c1
     obtain ⟨u',hu'⟩:∃z,dZ u v (dF most q)=z:=⟨_,rfl⟩
     obtain ⟨v',hv'⟩:∃z,d9 u v (dF most q)=z:=⟨_,rfl⟩
     rw [hu',hv'] at hst
     have HNEW:=aA (show ofP l most (a,b) (ps.drop ((k:Int) - 1+1).toNat)=(u',v') by rw [show ((k:Int) - 1+1).toNat=k by omega];exact hst)
     have hsh:∀wx,Calls Tryz.prog 200 #[rv u v,.int .i64 (dF most q)] wx fun e w'=>e=.returned (rv u' v')∧Below wx.heap.size wx w':=fun wx=>by have:=aBB u v (dF most q) wx;rw [hu',hv'] at this;exact this
     have k00:(0:Int)≤kk:=by omega
     have k01:(kk:Int)<len:=by omega
     have p00:(0:Int)≤k:=by omega
     have p01:(k:Int)<ps.length:=by omega
     clear hq hbn hs hst e0 hu' hv' hkk HO
     cases most with
     | true=>
      have CSh:=aA (show ∀wx,Calls Tryz.prog 200 #[rv u v,.int .i64 q.most] wx fun e w'=>e=.returned (rv u' v')∧Below wx.heap.size wx w' from hsh)
      clear hsh
      go_wp2_with fail
      refine (uH CP ps[k] _ (uH HB)).mono ?_
      rintro e w4 ⟨rfl,rfl⟩
      rw [hpk]
      go_wp2_with fail
      refine (uH CSh _).mono ?_
      rintro e w5 ⟨rfl,hb⟩
      have U:=((uH HU).al (.cells #[.string (bs q.name),.string (bs q.parent),.int .i64 q.due,.int .i64 q.most] 100)).below hb
      have HU5:=aA U
      have T:=aA (((uH HT).al (.cells #[.string (bs q.name),.string (bs q.parent),.int .i64 q.due,.int .i64 q.most] 100)).below hb)
      have S5:=aA (((uH HS).below (yA (yH _ _) (.cells #[.string (bs q.name),.string (bs q.parent),.int .i64 q.due,.int .i64 q.most] 100)) (uH HS).lt).below hb (by have:=(uH HS).lt;simp;omega))
      have HB5:=aA (yB (yA (uH HB) (.cells #[.string (bs q.name),.string (bs q.parent),.int .i64 q.due,.int .i64 q.most] 100)) hb)
      have k0:=U.c0
      have k1:=U.c1
      have k2:=U.f 0
      have k3:=U.f 1
      clear hb U c0 c1 c2 c3 ct u0 u1
      go_wp2
      go_roundw
      case rel=>exact ⟨(k:Int) - 1,u',v',by go_num,by omega,by omega,HNEW,aA ((uH HU5).set u' v'),aA (((uH S5).same (heap_setCell_other _ ⟨w2.heap.size,0,none⟩ g _ (by simp;omega))).same (heap_setCell_other _ ⟨w2.heap.size,1,none⟩ g _ (by simp;omega))),aA (((uH T).other w2.heap.size 0 _ (by omega)).other w2.heap.size 1 _ (by omega)),aA (yC (yC (uH HB5) _ _ _ (by omega)) _ _ _ (by omega))⟩
      case measure=>simp [intOf]
     | false=>
      have CSh:=aA (show ∀wx,Calls Tryz.prog 200 #[rv u v,.int .i64 q.due] wx fun e w'=>e=.returned (rv u' v')∧Below wx.heap.size wx w' from hsh)
      clear hsh
      go_wp2_with fail
      refine (uH CP ps[k] _ (uH HB)).mono ?_
      rintro e w4 ⟨rfl,rfl⟩
      rw [hpk]
      go_wp2_with fail
      refine (uH CSh _).mono ?_
      rintro e w5 ⟨rfl,hb⟩
      have U:=((uH HU).al (.cells #[.string (bs q.name),.string (bs q.parent),.int .i64 q.due,.int .i64 q.most] 100)).below hb
      have HU5:=aA U
      have T:=aA (((uH HT).al (.cells #[.string (bs q.name),.string (bs q.parent),.int .i64 q.due,.int .i64 q.most] 100)).below hb)
      have S5:=aA (((uH HS).below (yA (yH _ _) (.cells #[.string (bs q.name),.string (bs q.parent),.int .i64 q.due,.int .i64 q.most] 100)) (uH HS).lt).below hb (by have:=(uH HS).lt;simp;omega))
      have HB5:=aA (yB (yA (uH HB) (.cells #[.string (bs q.name),.string (bs q.parent),.int .i64 q.due,.int .i64 q.most] 100)) hb)
      have k0:=U.c0
      have k1:=U.c1
      have k2:=U.f 0
      have k3:=U.f 1
      clear hb U c0 c1 c2 c3 ct u0 u1
      go_wp2
      go_roundw
      case rel=>exact ⟨(k:Int) - 1,u',v',by go_num,by omega,by omega,HNEW,aA ((uH HU5).set u' v'),aA (((uH S5).same (heap_setCell_other _ ⟨w2.heap.size,0,none⟩ g _ (by simp;omega))).same (heap_setCell_other _ ⟨w2.heap.size,1,none⟩ g _ (by simp;omega))),aA (((uH T).other w2.heap.size 0 _ (by omega)).other w2.heap.size 1 _ (by omega)),aA (yC (yC (uH HB5) _ _ _ (by omega)) _ _ _ (by omega))⟩
      case measure=>simp [intOf]
    ·have hjm:j = -1:=by omega
     subst hjm
     have hxx:(u,v)=(x,y):=by rw [←uH HO,←uH HF];simp
     simp only [Prod.mk.injEq] at hxx
     obtain ⟨rfl,rfl⟩:=hxx
     have u0:=(uH HU).c0
     have u1:=(uH HU).c1
     have k0:=(uH HT).c0
     have k1:=(uH HT).c1
     have k2:=(uH HT).f 0
     have k3:=(uH HT).f 1
     have k4:=(uH HT).s0 (.int .i64 u)
     have k5:=(uH HT).s1 (.int .i64 u) (.int .i64 v)
     go_wp2
     refine bodyPost_ret (v:=rv u v) (by simp [results,Tryz.results186,go_sem,k4,k5]) rfl ⟨rfl,?_⟩
     repeat (first | exact uH HB | refine yA ?_ _ | refine Below.drew ?_ | refine yC ?_ _ _ _ (by omega))
theorem aBD (ao:Option Addr) (len cap:Nat) (l:List Q) (nm:List UInt8) (a b:Int) (w:World) (h:iG w ao len l) (hl:len≤1048576) (hn:∀q ∈ l,q.name.length≤1048576) :
  Calls Tryz.prog 183 #[.slice ao len cap,.string (bs nm),rv a b] w fun e w'=>e=.returned (rv (ofR l nm a b false).1 (ofR l nm a b false).2)∧Below w.heap.size w w':=by
 have HB0:=aA (yA (yA (yH _ w) (.cells #[.int .i64 a,.int .i64 b] 36)) (.cells #[.int .i64 0,.int .i64 0] 36))
 have HV2:=aA (gL w 36 36 a b 0 0)
 have C:=aA (aCi ao len cap l nm a b false _ (h.below (uH HB0)) hl hn)
 obtain ⟨⟨x,y⟩,hxy⟩:∃p,ofR l nm a b false=p:=⟨_,rfl⟩
 rw [hxy] at C ⊢
 clear hxy h hn
 go_enter Tryz.func183,Tryz.ntmps183
 go_wp2_with fail
 refine (uH C).mono ?_
 rintro e w1 ⟨rfl,hb⟩
 have V2:=(uH HV2).below hb
 have k0:=V2.c0
 have k1:=V2.c1
 have k2:=V2.f 0
 have k3:=V2.f 1
 have k4:=V2.s0 (.int .i64 x)
 have k5:=V2.s1 (.int .i64 x) (.int .i64 y)
 have HB:=aA (yB (uH HB0) hb)
 clear hb V2 HV2 HB0 C
 go_wp2
 refine bodyPost_ret (v:=rv x y) (by simp [results,Tryz.results183,go_sem,k4,k5]) rfl ⟨rfl,?_⟩
 repeat (first | exact uH HB | refine yA ?_ _ | refine Below.drew ?_ | refine yC ?_ _ _ _ (by omega))
theorem zB (ao:Option Addr) (len cap:Nat) (l:List Q) (nm:List UInt8) (a b:Int) (w:World) (h:iG w ao len l) (hl:len≤1048576) (hn:∀q ∈ l,q.name.length≤1048576) :
  Calls Tryz.prog 165 #[.slice ao len cap,.string (bs nm),rv a b] w fun e w'=>e=.returned (rv (ofR l nm a b true).1 (ofR l nm a b true).2)∧Below w.heap.size w w':=by
 have HB0:=aA (yA (yA (yH _ w) (.cells #[.int .i64 a,.int .i64 b] 36)) (.cells #[.int .i64 0,.int .i64 0] 36))
 have HV2:=aA (gL w 36 36 a b 0 0)
 have C:=aA (aCi ao len cap l nm a b true _ (h.below (uH HB0)) hl hn)
 obtain ⟨⟨x,y⟩,hxy⟩:∃p,ofR l nm a b true=p:=⟨_,rfl⟩
 rw [hxy] at C ⊢
 clear hxy h hn
 go_enter Tryz.func165,Tryz.ntmps165
 go_wp2_with fail
 refine (uH C).mono ?_
 rintro e w1 ⟨rfl,hb⟩
 have V2:=(uH HV2).below hb
 have k0:=V2.c0
 have k1:=V2.c1
 have k2:=V2.f 0
 have k3:=V2.f 1
 have k4:=V2.s0 (.int .i64 x)
 have k5:=V2.s1 (.int .i64 x) (.int .i64 y)
 have HB:=aA (yB (uH HB0) hb)
 clear hb V2 HV2 HB0 C
 go_wp2
 refine bodyPost_ret (v:=rv x y) (by simp [results,Tryz.results165,go_sem,k4,k5]) rfl ⟨rfl,?_⟩
 repeat (first | exact uH HB | refine yA ?_ _ | refine Below.drew ?_ | refine yC ?_ _ _ _ (by omega))
end
end Go.Proofs.YtdhibeclkdepiaaGreat
