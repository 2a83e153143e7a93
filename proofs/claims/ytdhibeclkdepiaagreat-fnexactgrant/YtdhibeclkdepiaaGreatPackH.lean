/-
  bI in one: KnownI, OfK, LessK, StdM, StdC.
-/
import Derived.Test.YtdhibeclkdepiaaGreatPackC
import Derived.Maps.OwnSet
import Derived.Maps.Views
import Derived.DeepKeys4
import Derived.Laws.OwnMore
set_option maxRecDepth 100000
set_option maxHeartbeats 16000000
set_option linter.unusedVariables false
set_option linter.unusedSimpArgs false
namespace Go.Proofs.YtdhibeclkdepiaaGreat
section
open Go.RowKit Go.Maps
theorem aEy:laidOutB Tryz.prog=true:=by kernel_rfl
theorem aIw:(192:TypeId)<Tryz.prog.types.size:=of_decide_eq_true (by kernel_rfl)
theorem aHr:(match Tryz.prog.underlying 192 with | some (.array _ _) | some (.struct _)=>true | _=>false)=true:=by kernel_rfl
theorem uW:Keyed Tryz.prog 192:=Keyed.of_law (deep_law_laid aEy (m:=3) (by omega) aIw (by kernel_rfl) aHr)
theorem aCq:Tryz.prog.keyType 192=true:=by kernel_rfl
theorem aBR:Tryz.prog.cellsOf 192=4:=by kernel_rfl
theorem aDk:Tryz.prog.cellsOf 36=2:=by kernel_rfl
theorem aIJ:Tryz.prog.cellsOf 3=1:=by kernel_rfl
theorem aFl:∃m,Tryz.prog.types.size+1=m+3:=⟨Tryz.prog.types.size - 2,by have:3≤Tryz.prog.types.size:=of_decide_eq_true (by kernel_rfl);omega⟩
theorem aDw (n:Nat) {a:Int} (h:(Lit.int .i64 a).wf=true):Tryz.prog.keyLits (n+1) 3 [.int .i64 a]=some [.int .i64 a]:=by
 simp [Program.keyLits,Tryz.underlying3,h]
theorem aDv (n:Nat) {a b:Int} (ha:(Lit.int .i64 a).wf=true) (hb:(Lit.int .i64 b).wf=true):Tryz.prog.keyLits (n+2) 36 [.int .i64 a,.int .i64 b]=some [.int .i64 a,.int .i64 b]:=by
 have h:=Tryz.underlying36
 unfold Program.keyLits
 simp [h,aDk,aIJ,aDw n ha,aDw n hb]
theorem aIx {a b c d:Int} (ha:(Lit.int .i64 a).wf=true) (hb:(Lit.int .i64 b).wf=true) (hc:(Lit.int .i64 c).wf=true) (hd:(Lit.int .i64 d).wf=true):∃kl,keyOf Tryz.prog 192 (pv a b c d)=some kl:=by
 obtain ⟨m,hm⟩:=aFl
 have h:Tryz.prog.keyLits (m+3) 192 [.int .i64 a,.int .i64 b,.int .i64 c,.int .i64 d]=some [.int .i64 a,.int .i64 b,.int .i64 c,.int .i64 d]:=by
  have h:=Tryz.underlying192
  unfold Program.keyLits
  simp [h,aBR,aDk,aDv m ha hb,aDv m hc hd,List.range_succ]
 have hu:=Tryz.underlying192
 have hk:keyOf Tryz.prog 192 (pv a b c d)=if Tryz.prog.keyType 192&&(pv a b c d).formed Tryz.prog 192 then (Tryz.prog.keyLits (Tryz.prog.types.size+1) 192 (pv a b c d).cells.toList).map (fun ls=>.string (keyBytes ls)) else none:=by
  unfold keyOf
  rw [hu]
 rw [hk,if_pos (by simp [aCq,Value.formed,hu,aBR]),hm,show (pv a b c d).cells.toList=[.int .i64 a,.int .i64 b,.int .i64 c,.int .i64 d] from rfl,h]
 exact ⟨_,rfl⟩
def fd (p:Int×Int):DataW Unit:=.agg [.lit (.int .i64 p.1),.lit (.int .i64 p.2)]
def lY:Value→Option (DataW Unit×List MemPlace)
 | .agg cs=>match cs.toList with
  | [.int .i64 x,.int .i64 y]=>some (fd (x,y),[])
  | _=>none
 | _=>none
theorem wB (x y:Int):lY (rv x y)=some (fd (x,y),[]):=rfl
theorem sN {v:Value} {x y:Int} {ps:List MemPlace} (h:lY v=some (fd (x,y),ps)):v=rv x y:=by
 unfold lY at h
 split at h
 ·rename_i cs
  split at h
  ·rename_i x' y' e
   have e2:cs=#[.int .i64 x',.int .i64 y']:=by cases cs;simpa using e
   simp [fd] at h
   rw [e2,h.1.1,h.1.2]
  ·cases h
 ·cases h
def aFc (D:DataW Unit):Prop:=∀a b c d kl,keyOf Tryz.prog 192 (pv a b c d)=some kl→Maps.has D kl=true→∀zd,D.atKey kl zd=fd (eQ a b c d)
theorem aDL:aFc (.map []):=fun a b c d kl _ h=>by simp [Maps.has] at h
theorem aFc.put {D:DataW Unit} (h:aFc D) (hD:IsMap D) {a b c d:Int} {kl:Lit} (hk:keyOf Tryz.prog 192 (pv a b c d)=some kl):aFc (D.put kl (fd (eQ a b c d))):=fun a' b' c' d' kl' hk' hh zd=>by
 by_cases e:kl'=kl
 ·subst e
  have:=uW.inj hk hk'
  simp [pv] at this
  obtain ⟨rfl,rfl,rfl,rfl⟩:=this
  exact atKey_put_same hD (uW.key hk) _ _
 ·rw [atKey_put_other e]
  rw [has_put_other e] at hh
  exact h a' b' c' d' kl' hk' hh zd
theorem aIM (w:World):(zeroValue 236).run Tryz.prog w=.ok (rv 0 0) w:=by kernel_rfl
theorem look {w:World} {bm n:Nat} {D:DataW Unit} (hown:w.ownsMap Tryz.prog 192 lY bm n D) (hk:aFc D) {a b c d:Int} {kl:Lit} (hkey:keyOf Tryz.prog 192 (pv a b c d)=some kl) :
  (Instr.lookup 222 (.map (some bm)) (pv a b c d) true).run Tryz.prog w=.ok (.tuple #[if Maps.has D kl then fv (eQ a b c d) else rv 0 0,.bool (Maps.has D kl)]) w:=by
 obtain ⟨v,ps,hrun,hv⟩:=hown.look_ok uW Tryz.underlying222 (aIM w) (wB 0 0) hkey
 rw [hrun]
 cases hh:Maps.has D kl
 ·rw [atKey_of_not_has hh] at hv
  rw [sN hv]
  rfl
 ·rw [hk a b c d kl hkey hh] at hv
  rw [sN hv]
  rfl
abbrev P4:=Int×Int×Int×Int
theorem aBX {α:Type}:∀(ps K:List α),ps.Nodup→(∀p ∈ ps,p ∈ K)→ps.length≤K.length
 | [],_,_,_=>Nat.zero_le _
 | p::t,K,h,s=>by
  obtain ⟨h1,h2⟩:=List.nodup_cons.1 h
  obtain ⟨a,b,rfl⟩:=List.append_of_mem (s p (List.mem_cons_self ..))
  have:=aBX t (a++b) h2 (fun q hq=>by
   have h3:=s q (List.mem_cons_of_mem _ hq)
   rcases List.mem_append.1 h3 with h3 | h3
   ·exact List.mem_append.2 (.inl h3)
   ·rcases List.mem_cons.1 h3 with rfl | h3
    ·exact absurd hq h1
    ·exact List.mem_append.2 (.inr h3))
  simp at this ⊢
  omega
def dF (K:List P4) (bm:Nat) (w:World):Prop:=∃(ps:List P4) (D:DataW Unit),ps.Nodup∧(∀p ∈ ps,p ∈ K)∧w.ownsMap Tryz.prog 192 lY bm ps.length D∧aFc D∧∀p ∈ ps,∀kl,keyOf Tryz.prog 192 (pv p.1 p.2.1 p.2.2.1 p.2.2.2)=some kl→Maps.has D kl=true
theorem dF.lt {K:List P4} {bm:Nat} {w:World} (h:dF K bm w):bm<w.heap.size:=let ⟨_,_,_,_,h,_⟩:=h;h.lt
theorem dF.grown {K:List P4} {bm:Nat} {w w':World} {row:Option Nat} (h:dF K bm w) (hg:w.grownBy w' row) (hne:some bm≠row):dF K bm w':=let ⟨ps,D,a,b,h,k⟩:=h;⟨ps,D,a,b,h.kept hg hne,k⟩
theorem dF.below {K:List P4} {bm:Nat} {w w':World} (h:dF K bm w) (hb:Below w.heap.size w w'):dF K bm w':=h.grown (aH (aF w none) hb) (by simp)
theorem aDS (K:List P4) {bm:Nat} {w:World} (h:w.ownsMap Tryz.prog 192 lY bm 0 (.map [])):dF K bm w:=⟨[],.map [],List.nodup_nil,(fun _ h=>absurd h (by simp)),h,aDL,(fun _ h=>absurd h (by simp))⟩
theorem aEn {a b c d:Int} (ha:(Lit.int .i64 a).wf=true) (hb:(Lit.int .i64 b).wf=true) (hc:(Lit.int .i64 c).wf=true) (hd:(Lit.int .i64 d).wf=true):∃kl,keyOf Tryz.prog 192 (pv a b c d)=some kl:=aIx ha hb hc hd
theorem aG2 (K:List P4) (hK:K.length≤1000000000) (a b c d:Int) (ha:(Lit.int .i64 a).wf=true) (hb:(Lit.int .i64 b).wf=true) (hc:(Lit.int .i64 c).wf=true) (hd:(Lit.int .i64 d).wf=true) (hin:(a,b,c,d) ∈ K) (bm:Nat) (w:World) (hm:dF K bm w) :
  Calls Tryz.prog 201 #[.map (some bm),pv a b c d] w fun e w'=>e=.returned (fv (eQ a b c d))∧dF K bm w'∧w.grownBy w' (some bm):=by
 obtain ⟨ps,D,nd,sub,hown,hk,hps⟩:=hm
 obtain ⟨kl,hkey⟩:=aEn ha hb hc hd
 have hpl:=aBX ps K nd sub
 have HPS:=aA (fun (h:Maps.has D kl=false)=>show (a,b,c,d) ∉ ps from fun hp=>by have:=hps _ hp _ hkey;rw [h] at this;exact absurd this (by simp))
 have HND:=aA nd
 have HSUB:=aA sub
 have HPP:=aA hps
 have hlt:=hown.lt
 have hl:=look ((hown.alloc (.cells #[.int .i64 a,.int .i64 b,.int .i64 c,.int .i64 d] 192)).alloc (.cells #[.int .i64 0,.int .i64 0] 236)) hk hkey
 have hpr:=aA (aAU a b c d)
 have HK:=aA hk
 have HKEY:=aA hkey
 have HOWN:=aA hown
 have HIN:=aA hin
 clear ha hb hc hd hk hkey hown nd sub hps hin
 obtain ⟨f,hf⟩:∃f,Maps.has D kl=f:=⟨_,rfl⟩
 rw [hf] at hl HPS
 obtain ⟨⟨x,y⟩,hr⟩:∃p,eQ a b c d=p:=⟨_,rfl⟩
 rw [hr] at hl hpr ⊢
 have HR:=aA hr
 clear hf hr
 cases f with
 | true=>
  replace hl:(Instr.lookup 222 (.map (some bm)) (pv a b c d) true).run Tryz.prog ((w.alloc (.cells #[.int .i64 a,.int .i64 b,.int .i64 c,.int .i64 d] 192)).alloc (.cells #[.int .i64 0,.int .i64 0] 236))=.ok (.tuple #[rv x y,.bool true]) ((w.alloc (.cells #[.int .i64 a,.int .i64 b,.int .i64 c,.int .i64 d] 192)).alloc (.cells #[.int .i64 0,.int .i64 0] 236)):=hl
  go_enter Tryz.func201,Tryz.ntmps201
  go_wp2
  have HG:∀wx:World,Below w.heap.size w wx→wx=wx→dF K bm wx∧w.grownBy wx (some bm):=fun wx hb _=>
   have hg:w.grownBy wx none:=aH (aF w none) hb
   ⟨⟨ps,D,uH HND,uH HSUB,(uH HOWN).kept hg (by simp),uH HK,uH HPP⟩,aH (aF w (some bm)) hb⟩
  refine bodyPost_ret (v:=rv x y) (by simp [results,Tryz.results201,go_sem]) rfl ⟨rfl,HG _ ?_ rfl⟩
  repeat (first | exact Below.refl _ _ | refine yA ?_ _ | refine Below.drew ?_ | refine yC ?_ _ _ _ (by omega))
 | false=>
  replace hl:(Instr.lookup 222 (.map (some bm)) (pv a b c d) true).run Tryz.prog ((w.alloc (.cells #[.int .i64 a,.int .i64 b,.int .i64 c,.int .i64 d] 192)).alloc (.cells #[.int .i64 0,.int .i64 0] 236))=.ok (.tuple #[rv 0 0,.bool false]) ((w.alloc (.cells #[.int .i64 a,.int .i64 b,.int .i64 c,.int .i64 d] 192)).alloc (.cells #[.int .i64 0,.int .i64 0] 236)):=hl
  have HV1:=aA (((tY w 192 a b c d).al (.cells #[.int .i64 0,.int .i64 0] 236)).al (.cells #[.int .i64 0,.int .i64 0] 236))
  have HV2:=aA (show Var (((w.alloc (.cells #[.int .i64 a,.int .i64 b,.int .i64 c,.int .i64 d] 192)).alloc (.cells #[.int .i64 0,.int .i64 0] 236)).alloc (.cells #[.int .i64 0,.int .i64 0] 236)) 236 (w.heap.size+1) 0 0 by
   have:=(aJ (w.alloc (.cells #[.int .i64 a,.int .i64 b,.int .i64 c,.int .i64 d] 192)) 236 0 0).al (.cells #[.int .i64 0,.int .i64 0] 236);simpa using this)
  have HV3:=aA (show Var (((w.alloc (.cells #[.int .i64 a,.int .i64 b,.int .i64 c,.int .i64 d] 192)).alloc (.cells #[.int .i64 0,.int .i64 0] 236)).alloc (.cells #[.int .i64 0,.int .i64 0] 236)) 236 (w.heap.size+1+1) 0 0 by
   have:=aJ ((w.alloc (.cells #[.int .i64 a,.int .i64 b,.int .i64 c,.int .i64 d] 192)).alloc (.cells #[.int .i64 0,.int .i64 0] 236)) 236 0 0;simpa using this)
  have HB0:=aA (yA (yA (yA (Below.refl _ w) (.cells #[.int .i64 a,.int .i64 b,.int .i64 c,.int .i64 d] 192)) (.cells #[.int .i64 0,.int .i64 0] 236)) (.cells #[.int .i64 0,.int .i64 0] 236))
  go_enter Tryz.func201,Tryz.ntmps201
  go_wp2_with fail
  refine (uH hpr _).mono ?_
  rintro e w1 ⟨rfl,hb⟩
  have V1:=aA ((uH HV1).below hb)
  have V2:=aA ((uH HV2).below hb)
  have V3:=aA ((uH HV3).below hb)
  have HB:=aA (yB (uH HB0) hb)
  clear hb hl hpr HV1 HV2 HV3 HB0
  have a1:=(uH V1).c0
  have a2:=(uH V1).c1
  have a3:=(uH V1).c2
  have a4:=(uH V1).c3
  have k0:=(uH V3).c0
  have k1:=(uH V3).c1
  have k2:=(uH V3).f 0
  have k3:=(uH V3).f 1
  have k4:=(uH V3).s0 (.int .i64 x)
  have k5:=(uH V3).s1 (.int .i64 x) (.int .i64 y)
  have ho1:=(((uH HOWN).kept (aH (aF w none) (uH HB)) (by simp)).setCell (a:=⟨w.heap.size+1+1,0,none⟩) (by simp;omega) (.int .i64 x)).setCell (a:=⟨w.heap.size+1+1,1,none⟩) (by simp;omega) (.int .i64 y)
  obtain ⟨w2,hrun,hown2,hgrow2⟩:=ho1.update uW Tryz.underlying222 (by unfold maxLen;omega) (uH HKEY) (wB x y)
  have V4:=aA (((uH V3).set x y).grown' hgrow2 (by simp;omega))
  have V5:=aA ((((uH V2).other (w.heap.size+1+1) 0 (.int .i64 x) (by omega)).other (w.heap.size+1+1) 1 (.int .i64 y) (by omega)).grown' hgrow2 (by simp;omega))
  have b0:=(uH V4).c0
  have b1:=(uH V4).c1
  have b2:=(uH V5).c0
  have b3:=(uH V5).c1
  have b4:=(uH V5).f 0
  have b5:=(uH V5).f 1
  have b6:=(uH V5).s0 (.int .i64 x)
  have b7:=(uH V5).s1 (.int .i64 x) (.int .i64 y)
  have hm2:dF K bm w2:=⟨(a,b,c,d)::ps,_,List.nodup_cons.2 ⟨uH HPS (by first | rfl | trivial),uH HND⟩,fun p hp=>by
   rcases List.mem_cons.1 hp with rfl | hp
   ·exact uH HIN
   ·exact uH HSUB p hp,hown2,by rw [←uH HR];exact (uH HK).put (uH HOWN).isMap (uH HKEY),fun p hp kl' hk'=>by
   by_cases e:kl'=kl
   ·subst e;exact has_put_same (uH HOWN).isMap (uW.key (uH HKEY)) _
   ·rcases List.mem_cons.1 hp with rfl | hp
    ·have:=hk'.symm.trans (uH HKEY);cases this;exact absurd rfl e
    ·rw [has_put_other e];exact uH HPP p hp kl' hk'⟩
  have hg1:w.grownBy w2 (some bm):=by
   have g1:w.grownBy ((w1.setCell ⟨w.heap.size+1+1,0,none⟩ (.int .i64 x)).setCell ⟨w.heap.size+1+1,1,none⟩ (.int .i64 y)) (some bm):=aH (aF w (some bm)) (yC (yC (uH HB) _ _ _ (by omega)) _ _ _ (by omega))
   exact iY g1 hgrow2
  have HM2:=aA hm2
  have HG1:=aA hg1
  clear ho1 hown2 hgrow2 hm2 hg1 V1 V2 V3 V4 V5 HB
  go_wp2
  have hsz:=(uH HG1).size
  refine bodyPost_ret (v:=rv x y) (by simp [results,Tryz.results201,go_sem,b6,b7]) rfl ⟨rfl,?_,?_⟩
  ·have hg:w2.grownBy ((w2.setCell ⟨w.heap.size+1,0,none⟩ (.int .i64 x)).setCell ⟨w.heap.size+1,1,none⟩ (.int .i64 y)) (some (w.heap.size+1)):=bW (bW (aF _ _) _ _) _ _
   exact (uH HM2).grown hg (by simp;omega)
  ·exact ⟨(uH HG1).os,(uH HG1).tape,(uH HG1).output,by simpa using hsz,fun k hk hne=>by
    rw [heap_setCell_other _ ⟨w.heap.size+1,1,none⟩ k _ (by simp;omega),heap_setCell_other _ ⟨w.heap.size+1,0,none⟩ k _ (by simp;omega)]
    exact (uH HG1).block k hk hne⟩
def gB (K:List P4) (w0:World) (bm:Nat) (a b c d e f g h:Int) (wx:World):Prop:=
 oM wx 192 w0.heap.size a b c d∧oM wx 192 (w0.heap.size+1) e f g h∧w0.grownBy wx (some bm)∧bm<w0.heap.size∧dF K bm wx
theorem gB.call {K:List P4} {w0 w1 w2:World} {bm:Nat} {a b c d e f g h:Int} (p:gB K w0 bm a b c d e f g h w1) (hk:dF K bm w2) (hg:w1.grownBy w2 (some bm)):gB K w0 bm a b c d e f g h w2:=by
 obtain ⟨p1,p2,p3,p4,_⟩:=p
 exact ⟨p1.grown hg (by simp;omega),p2.grown hg (by simp;omega),iY p3 hg,p4,hk⟩
theorem gB.below {K:List P4} {w0 w1 w2:World} {bm:Nat} {a b c d e f g h:Int} (p:gB K w0 bm a b c d e f g h w1) (hb:Below w1.heap.size w1 w2):gB K w0 bm a b c d e f g h w2:=p.call (p.2.2.2.2.below hb) (aH (aF _ _) hb)
theorem gB.drew {K:List P4} {w0 w1:World} {bm:Nat} {a b c d e f g h:Int} (p:gB K w0 bm a b c d e f g h w1):gB K w0 bm a b c d e f g h w1.drew:=p.below (Below.refl _ _).drew
theorem gB.read (K:List P4) (w0:World) (bm:Nat) (a b c d e f g h:Int):∀wx,gB K w0 bm a b c d e f g h wx→wx.cell? ⟨w0.heap.size,0,none⟩=some (.int .i64 a)∧wx.cell? ⟨w0.heap.size,1,none⟩=some (.int .i64 b)∧wx.cell? ⟨w0.heap.size,2,none⟩=some (.int .i64 c)∧wx.cell? ⟨w0.heap.size,3,none⟩=some (.int .i64 d)
  ∧wx.cell? ⟨w0.heap.size+1,0,none⟩=some (.int .i64 e)∧wx.cell? ⟨w0.heap.size+1,1,none⟩=some (.int .i64 f)∧wx.cell? ⟨w0.heap.size+1,2,none⟩=some (.int .i64 g)∧wx.cell? ⟨w0.heap.size+1,3,none⟩=some (.int .i64 h):=
 fun wx p=>⟨p.1.c0,p.1.c1,p.1.c2,p.1.c3,p.2.1.c0,p.2.1.c1,p.2.1.c2,p.2.1.c3⟩
def Wf4 (a b c d:Int):Prop:=(Lit.int .i64 a).wf=true∧(Lit.int .i64 b).wf=true∧(Lit.int .i64 c).wf=true∧(Lit.int .i64 d).wf=true
theorem aBg (K:List P4) (hK:K.length≤1000000000) (a b c d e f g h:Int) (h1:Wf4 a b c d) (h2:Wf4 e f g h) (i1:(a,b,c,d) ∈ K) (i2:(e,f,g,h) ∈ K) (bm:Nat) (w:World) (hm:dF K bm w) :
  Calls Tryz.prog 190 #[.map (some bm),pv a b c d,pv e f g h] w fun o w'=>o=.returned (.bool (tL a b c d e f g h))∧dF K bm w'∧w.grownBy w' (some bm):=by
 have C1:=aA (fun wx (hx:dF K bm wx)=>aG2 K hK a b c d h1.1 h1.2.1 h1.2.2.1 h1.2.2.2 i1 bm wx hx)
 have C2:=aA (fun wx (hx:dF K bm wx)=>aG2 K hK e f g h h2.1 h2.2.1 h2.2.2.1 h2.2.2.2 i2 bm wx hx)
 have C3:=aA (fun wx=>sM _ _ _ _ wx (yL a b c d) (yL e f g h))
 have hlt:=hm.lt
 have A0:=aA (show gB K w bm a b c d e f g h ((w.alloc (.cells #[.int .i64 a,.int .i64 b,.int .i64 c,.int .i64 d] 192)).alloc (.cells #[.int .i64 e,.int .i64 f,.int .i64 g,.int .i64 h] 192)) from
  ⟨(tY w 192 a b c d).al _,by have:=tY (w.alloc (.cells #[.int .i64 a,.int .i64 b,.int .i64 c,.int .i64 d] 192)) 192 e f g h;simpa using this,aH (aF _ _) (yA (yA (Below.refl _ _) _) _),hlt,hm.below (yA (yA (Below.refl _ w) _) _)⟩)
 have R:=gB.read K w bm a b c d e f g h
 unfold tL
 obtain ⟨l,hl⟩:∃l,less (eQ a b c d).1 (eQ a b c d).2 (eQ e f g h).1 (eQ e f g h).2=l:=⟨_,rfl⟩
 rw [hl] at C3 ⊢
 obtain ⟨⟨x1,y1⟩,e1⟩:∃p,eQ a b c d=p:=⟨_,rfl⟩
 obtain ⟨⟨x2,y2⟩,e2⟩:∃p,eQ e f g h=p:=⟨_,rfl⟩
 rw [e1] at C1 C3
 rw [e2] at C2 C3
 clear hl e1 e2 h1 h2 hm i1 i2
 go_enter Tryz.func190,Tryz.ntmps190
 go_wp2_with fail
 go_region_held3 (fun wx=>gB K w bm a b c d e f g h wx)
  (first | (with_reducible assumption) | exact (uH A0).drew | exact gB.drew (by assumption))
  (first
  | (go_at_call_of 201 a;refine (uH C1 _ ?_).mono ?_;(exact (show gB K w bm a b c d e f g h _ by assumption).2.2.2.2);rintro o wt ⟨rfl,hh,hg⟩;have SA:=gB.call (K:=K) (w0:=w) (bm:=bm) (a:=a) (b:=b) (c:=c) (d:=d) (e:=e) (f:=f) (g:=g) (h:=h) (by assumption) hh hg)
  | (go_at_call_of 201 e;refine (uH C2 _ ?_).mono ?_;(exact (show gB K w bm a b c d e f g h _ by assumption).2.2.2.2);rintro o wt ⟨rfl,hh,hg⟩;have SA:=gB.call (K:=K) (w0:=w) (bm:=bm) (a:=a) (b:=b) (c:=c) (d:=d) (e:=e) (f:=f) (g:=g) (h:=h) (by assumption) hh hg)
  | (go_at_call 202;refine (uH C3 _).mono ?_;rintro o wt ⟨rfl,hb⟩;have SA:=gB.below (K:=K) (w0:=w) (bm:=bm) (a:=a) (b:=b) (c:=c) (d:=d) (e:=e) (f:=f) (g:=g) (h:=h) (by assumption) hb))
 all_goals
  have HG:=aA SA.2.2
  go_wp2
  go_ret
  exact ⟨rfl,(uH HG).2.2,(uH HG).1⟩
abbrev SE:=List UInt8×P4
def stc (x:SE):List Value:=[.string (bs x.1),.int .i64 x.2.1,.int .i64 x.2.2.1,.int .i64 x.2.2.2.1,.int .i64 x.2.2.2.2]
abbrev stv (x:SE):Value:=.agg #[.string (bs x.1),.int .i64 x.2.1,.int .i64 x.2.2.1,.int .i64 x.2.2.2.1,.int .i64 x.2.2.2.2]
def kF:List SE→List Value
 | []=>[]
 | x::t=>stc x++kF t
theorem aDh:∀l:List SE,(kF l).length=l.length*5
 | []=>rfl
 | x::t=>by rw [kF,List.length_append,aDh t];simp [stc];omega
theorem aDi:∀a b:List SE,kF (a++b)=kF a++kF b
 | [],b=>rfl
 | x::t,b=>by rw [List.cons_append,kF,aDi t b,kF,List.append_assoc]
theorem aAz:∀(l:List SE) (k:Nat),kF (l.take k)=(kF l).take (k*5)
 | l,0=>by simp [kF]
 | [],k+1=>by simp [kF]
 | x::t,k+1=>by
  rw [List.take_succ_cons,kF,kF,aAz t k,show (k+1)*5=(stc x).length+k*5 by simp [stc];omega,List.take_length_add_append]
theorem aFx:∀(l:List SE) (i:Nat) (h:i<l.length),(kF l)[i*5]? = some (.string (bs l[i].1))∧(kF l)[i*5+1]? = some (.int .i64 l[i].2.1)∧(kF l)[i*5+2]? = some (.int .i64 l[i].2.2.1)∧(kF l)[i*5+3]? = some (.int .i64 l[i].2.2.2.1)∧(kF l)[i*5+4]? = some (.int .i64 l[i].2.2.2.2)
 | x::t,0,_=>by simp [kF,stc]
 | x::t,i+1,h=>by
  have ih:=aFx t i (by simpa using h)
  have e:∀r,(kF (x::t))[(i+1)*5+r]? = (kF t)[i*5+r]?:=fun r=>by
   rw [kF,List.getElem?_append_right (by simp [stc];omega)]
   congr 1
   simp [stc];omega
  have e0:=e 0
  simp only [Nat.add_zero] at e0
  rw [e0,e 1,e 2,e 3,e 4]
  simpa using ih
def aFu (xs:List Value) (i:Nat) (x:SE):List Value:=((((xs.set (i*5) (.string (bs x.1))).set (i*5+1) (.int .i64 x.2.1)).set (i*5+2) (.int .i64 x.2.2.1)).set (i*5+3) (.int .i64 x.2.2.2.1)).set (i*5+4) (.int .i64 x.2.2.2.2)
theorem aDg:∀(l:List SE) (i:Nat) (x:SE),aFu (kF l) i x=kF (l.set i x)
 | [],i,x=>by simp [kF,aFu]
 | y::t,0,x=>by simp [kF,stc,aFu]
 | y::t,i+1,x=>by
  have ih:=aDg t i x
  have e:∀(s:List Value) r v,(stc y++s).set ((i+1)*5+r) v=stc y++s.set (i*5+r) v:=fun s r v=>by
   rw [List.set_append,if_neg (by simp [stc];omega)]
   congr 2
   simp [stc];omega
  rw [sC,kF,kF,←ih,aFu,aFu]
  have e0:=fun s v=>e s 0 v
  simp only [Nat.add_zero] at e0
  rw [e0,e,e,e,e]
theorem kH {w:World} {B g cap n j sz:Nat} {e:TypeId} {xs:List Value} (h:w.ownsRow B e sz (.slice (some ⟨g,0,none⟩) n cap) n xs) (hj:j<n*sz) (v:Value):(w.setCell ⟨g,j,none⟩ v).ownsRow B e sz (.slice (some ⟨g,0,none⟩) n cap) n (xs.set j v):=by
 obtain ⟨h1,h2⟩:=h
 refine ⟨by simpa using h1,?_⟩
 rcases h2 with ⟨e,_⟩ | ⟨g',cap',cur,e,hb,hc,k1,k2,k3,k4⟩
 ·cases e
 ·cases e
  refine .inr ⟨g,cap,_,rfl,hb,heap_setCell_same w g j cur _ _ hc,k1,k2,by simpa using k3,?_⟩
  rw [Array.toList_setIfInBounds,List.take_set,k4]
def stW (w:World) (g i:Nat) (x:SE):World:=((((w.setCell ⟨g,i*5,none⟩ (.string (bs x.1))).setCell ⟨g,i*5+1,none⟩ (.int .i64 x.2.1)).setCell ⟨g,i*5+2,none⟩ (.int .i64 x.2.2.1)).setCell ⟨g,i*5+3,none⟩ (.int .i64 x.2.2.2.1)).setCell ⟨g,i*5+4,none⟩ (.int .i64 x.2.2.2.2)
theorem aBS {w:World} {B g cap i:Nat} {l:List SE} (h:w.ownsRow B 209 5 (.slice (some ⟨g,0,none⟩) l.length cap) l.length (kF l)) (hi:i<l.length) (x:SE):(stW w g i x).ownsRow B 209 5 (.slice (some ⟨g,0,none⟩) l.length cap) l.length (kF (l.set i x)):=by
 rw [←aDg]
 exact kH (kH (kH (kH (kH h (by omega) _) (by omega) _) (by omega) _) (by omega) _) (by omega) _
def aJw (p q:P4):Bool:=tL p.1 p.2.1 p.2.2.1 p.2.2.2 q.1 q.2.1 q.2.2.1 q.2.2.2
def fI (x y:SE):Bool:=OrdM.ahead aJw Op.bytesLess x y
theorem Blk.gby1 {w w':World} {g k:Nat} {arr:Array Value} {t:TypeId} (h:Blk w k arr t) (hg:w.grownBy w' (some g)) (hn:k≠g):Blk w' k arr t:=(hg.block k h.lt (fun e=>hn (by simpa using e))).trans h
abbrev aAr (bk:Nat):Value:=.func (.func 189) #[] #[.pointer (some ⟨bk,0,none⟩)]
theorem aDG (K:List P4) (hK:K.length≤1000000000) (KW:∀p ∈ K,Wf4 p.1 p.2.1 p.2.2.1 p.2.2.2) (x y:SE) (hx:x.2 ∈ K) (hy:y.2 ∈ K) (bm bk:Nat) (w:World) (hc:Blk w bk #[.map (some bm)] 222) (hm:dF K bm w) (hne:bk≠bm) :
  Calls Tryz.prog 189 #[stv x,stv y,.pointer (some ⟨bk,0,none⟩)] w fun e w'=>e=.returned (.bool (fI x y))∧dF K bm w'∧w.grownBy w' (some bm):=by
 obtain ⟨n1,a,b,c,d⟩:=x
 obtain ⟨n2,e,f,g,h⟩:=y
 have C1:=aA (fun wx hm=>aBg K hK a b c d e f g h (KW _ hx) (KW _ hy) hx hy bm wx hm)
 have C2:=aA (fun wx hm=>aBg K hK e f g h a b c d (KW _ hy) (KW _ hx) hy hx bm wx hm)
 have HA:=aA (show fI (n1,a,b,c,d) (n2,e,f,g,h)=(tL a b c d e f g h||(!tL e f g h a b c d&&Op.bytesLess n1 n2)) from rfl)
 obtain ⟨l1,hl1⟩:∃z,tL a b c d e f g h=z:=⟨_,rfl⟩
 obtain ⟨l2,hl2⟩:∃b',tL e f g h a b c d=b':=⟨_,rfl⟩
 obtain ⟨o,ho⟩:∃b',fI (n1,a,b,c,d) (n2,e,f,g,h)=b':=⟨_,rfl⟩
 rw [hl1] at C1 HA
 rw [hl2] at C2 HA
 rw [ho] at HA ⊢
 have X0:=aA ((yD w #[.string (bs n1),.int .i64 a,.int .i64 b,.int .i64 c,.int .i64 d] 209).al (.cells #[.string (bs n2),.int .i64 e,.int .i64 f,.int .i64 g,.int .i64 h] 209))
 have Y0:=aA (show Blk ((w.alloc (.cells #[.string (bs n1),.int .i64 a,.int .i64 b,.int .i64 c,.int .i64 d] 209)).alloc (.cells #[.string (bs n2),.int .i64 e,.int .i64 f,.int .i64 g,.int .i64 h] 209)) (w.heap.size+1) #[.string (bs n2),.int .i64 e,.int .i64 f,.int .i64 g,.int .i64 h] 209 from by have:=yD (w.alloc (.cells #[.string (bs n1),.int .i64 a,.int .i64 b,.int .i64 c,.int .i64 d] 209)) #[.string (bs n2),.int .i64 e,.int .i64 f,.int .i64 g,.int .i64 h] 209;rw [yE] at this;exact this)
 have M0:=aA ((hc.al (.cells #[.string (bs n1),.int .i64 a,.int .i64 b,.int .i64 c,.int .i64 d] 209)).al (.cells #[.string (bs n2),.int .i64 e,.int .i64 f,.int .i64 g,.int .i64 h] 209))
 have hb0:=yA (yA (Below.refl _ w) (.cells #[.string (bs n1),.int .i64 a,.int .i64 b,.int .i64 c,.int .i64 d] 209)) (.cells #[.string (bs n2),.int .i64 e,.int .i64 f,.int .i64 g,.int .i64 h] 209)
 have H0:=aA (hm.below hb0)
 have G0:=aA (aH (aF w (some bm)) hb0)
 have hlm:bm<w.heap.size:=hm.lt
 clear hl1 hl2 ho hc hm hb0 hx hy
 have c0:=(uH M0).at 0
 have x1:=(uH X0).at 1;have x2:=(uH X0).at 2;have x3:=(uH X0).at 3;have x4:=(uH X0).at 4
 have y1:=(uH Y0).at 1;have y2:=(uH Y0).at 2;have y3:=(uH Y0).at 3;have y4:=(uH Y0).at 4
 simp at c0 x1 x2 x3 x4 y1 y2 y3 y4
 go_enter Tryz.func189,Tryz.ntmps189
 go_wp2_with fail
 refine (uH C1 _ (uH H0)).mono ?_
 rintro e1 w1 ⟨rfl,hh,hg⟩
 have H1:=aA hh
 have G1:=aA (iY (uH G0) hg)
 have X1:=aA ((uH X0).gby1 hg (by omega))
 have Y1:=aA ((uH Y0).gby1 hg (by omega))
 have M1:=aA ((uH M0).gby1 hg hne)
 clear hh hg H0 G0 X0 Y0 M0 C1 c0 x1 x2 x3 x4 y1 y2 y3 y4
 cases l1
 case true=>
  go_wp2
  go_ret
  exact ⟨yF (by rw [uH HA];rfl),uH H1,uH G1⟩
 have c0:=(uH M1).at 0
 have x1:=(uH X1).at 1;have x2:=(uH X1).at 2;have x3:=(uH X1).at 3;have x4:=(uH X1).at 4
 have y1:=(uH Y1).at 1;have y2:=(uH Y1).at 2;have y3:=(uH Y1).at 3;have y4:=(uH Y1).at 4
 simp at c0 x1 x2 x3 x4 y1 y2 y3 y4
 go_wp2_with fail
 refine (uH C2 _ (uH H1)).mono ?_
 rintro e2 w2 ⟨rfl,hh,hg⟩
 have H2:=aA hh
 have G2:=aA (iY (uH G1) hg)
 have X2:=aA ((uH X1).gby1 hg (by omega))
 have Y2:=aA ((uH Y1).gby1 hg (by omega))
 clear hh hg H1 G1 X1 Y1 M1 C2 c0 x1 x2 x3 x4 y1 y2 y3 y4
 cases l2
 case true=>
  go_wp2
  go_ret
  exact ⟨yF (by rw [uH HA];rfl),uH H2,uH G2⟩
 have x0:=(uH X2).at 0
 have y0:=(uH Y2).at 0
 simp at x0 y0
 obtain ⟨bl,hbl⟩:∃z,Op.bytesLess (bs n1).toList (bs n2).toList=z:=⟨_,rfl⟩
 have HBL:=aA (show Op.bytesLess n1 n2=bl by rw [←hbl];simp [bs])
 go_wp2
 go_ret
 exact ⟨yF (by rw [uH HA,uH HBL];rfl),uH H2,uH G2⟩
end
end Go.Proofs.YtdhibeclkdepiaaGreat
