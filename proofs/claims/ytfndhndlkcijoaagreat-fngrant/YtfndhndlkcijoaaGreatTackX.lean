/-
  What is due to a queue of a total, and the most that it may have: what the program's partOf answers; walks over the dump.
-/
import Derived.Test.YtfndhndlkcijoaaGreatTackS
set_option maxRecDepth 100000
set_option maxHeartbeats 16000000
set_option linter.unusedVariables false
set_option linter.unusedSimpArgs false
open Go.Proofs.Tryz
namespace Go.Proofs.YtfndhndlkcijoaaGreat
section
open Go.RowKit Go.Shelf
variable {most:Bool} {u:List Q} {xs:List Value} {n size:Nat} {v:Value} {W:World}
attribute [local go_sem] Oper.semAt_some
theorem Tryz.infoInt:(Tryz.prog.info? 3).map (fun i=>(i.zero,i.size,i.bytes))=some (some (.int .i64 0),1,8):=by kernel_rfl
theorem aHp {base e:Nat} (h:W.ownsRow base e size v n xs):some W.heap.size≠v.ownBlock:=by
 rcases h.2 with ⟨rfl,_⟩ | ⟨g,cap,cur,rfl,_,hgb,_⟩
 ·simp [Value.ownBlock]
 ·have:=lt_of_block hgb;simp [Value.ownBlock];omega
theorem aJM {base e:Nat} (h:W.ownsRow base e size v n xs):v.oneCell'=true:=by
 rcases h.2 with ⟨rfl,_⟩ | ⟨g,cap,cur,rfl,_⟩<;>rfl
def aC4 (W:World) (p:Nat) (a b:Int) (st:List Int):Prop:=Var W 33 p (lW (a,b) st).1 (lW (a,b) st).2
theorem aEd {β:Type} (p:Nat) (a b:Int) (f:β→List Int):Own (fun s W=>aC4 W p a b (f s)):=fun s X Y row hs hg hr=>
 (hg.block p (show Var X _ p _ _ from hs).lt (fun e=>by
  obtain ⟨o,ho,hc⟩:=hr p e.symm;rw [show X.heap[p]? = _ from hs] at ho;cases ho;cases hc)).trans hs
theorem aFo (h:∀q ∈ u,q.parent≠[]):jM most u=u.map (dQ most):=by
 have e:=List.takeWhile_append_of_pos (p:=fun q:Q=>decide (q.parent≠[])) (l₁:=u) (l₂:=[]) (by intro q hq;simpa using h q hq);rw [List.append_nil] at e;rw [jM,e];simp
theorem aFn {ini:List Q} {last:Q} (h:∀q ∈ ini,q.parent≠[]) (hl:last.parent=[]) (hp:ini++[last] <+: u):jM most u=ini.map (dQ most):=by
 obtain ⟨r,rfl⟩:=hp;rw [jM,List.append_assoc,List.takeWhile_append_of_pos (by intro q hq;simpa using h q hq)];simp [hl]
theorem aAH (gp:Nat) (eg:∀args w,(callFunc gp args).run Tryz.prog w=.ok (.enter gp args) w) (most:Bool) (hpt:∀(wx:World) (q:Q),Calls Tryz.prog gp #[qv q] wx fun e w'=>e=.returned (.int .i64 (dQ most q))∧Bw wx w')
  (ao:Option Addr) (len cap:Nat) (l:List Q) (nm:List UInt8) (a b:Int) (w:World) (h:gH w ao len l) (hl:len≤1048576) (hn:∀q ∈ l,q.name.length≤1048576) (hc:len≤cap) :
  cP 92 #[.slice ao len cap,.string (bs nm),rv a b,.func (.func gp) #[] #[]] w fun e w'=>e=.returned (rv (ofR l nm a b most).1 (ofR l nm a b most).2)∧Bw w w':=by
 obtain ⟨i0,hi,hz0,hz1,hz2⟩:=info_parts Tryz.infoInt;have HR:=aA h;have HL:=aA h.1;have NH:=aA hpt;have N7:=yA (yA (yA (yH _ w) (.cells #[.int .i64 a,.int .i64 b] 33)) (.cells #[.func (.func gp) #[] #[]] 136)) (.cells #[.int .i64 0,.int .i64 0] 33);have PW:=aA (((aM w 33 a b).al (.cells #[.func (.func gp) #[] #[]] 136)).al (.cells #[.int .i64 0,.int .i64 0] 33));have FH:=aA (show Go.Boxed _ (w.heap.size+1) _ _ by have:=(Go.Boxed.new (w.alloc (.cells #[.int .i64 a,.int .i64 b] 33)) 136 (.func (.func gp) #[] #[])).alloc (.cells #[.int .i64 0,.int .i64 0] 33);rwa [World.size_alloc] at this);have FE:=aA (show Var _ 33 (w.heap.size+1+1) 0 0 by have:=aM ((w.alloc (.cells #[.int .i64 a,.int .i64 b] 33)).alloc (.cells #[.func (.func gp) #[] #[]] 136)) 33 0 0;simpa using this);have CQ:=aA (fC ao len cap l _ (h.below N7) hl hn hc);have CP:=aA (fun wx (hb:Bw w wx)=>qM ao len cap l nm wx (h.below hb) hl);have CK:=aA (fun wx=>aIm a b wx);have ZM:=aA (fun ho:aF l=false=>aGP ho nm a b most);have Qv:=aA (fun hp:place l nm<0=>aGO hp a b most);have VD:=aA (fun hk:aQ a b=false=>aGN l nm hk most);have WX:=aA (fun (ho:aF l=true) (hp:0≤place l nm) (hk:aQ a b=true)=>aHa ho nm a b most hp hk);obtain ⟨⟨x,y⟩,hxy⟩:∃p,ofR l nm a b most=p:=⟨_,rfl⟩;obtain ⟨o,ho⟩:∃o,aF l=o:=⟨_,rfl⟩;obtain ⟨p,hp⟩:∃p,place l nm=p:=⟨_,rfl⟩;obtain ⟨k,hk⟩:∃k,aQ a b=k:=⟨_,rfl⟩;rw [hxy] at ZM Qv VD WX ⊢;rw [ho] at CQ ZM WX;rw [hp] at CP Qv WX;rw [hk] at CK VD WX;have QS:=aA N7;clear h hn hpt N7 hxy ho hp hk;have hmx:Tryz.prog.follows .mixedOrders=true:=by kernel_rfl
 refine (callsIn_wide (n:=3)).1 ?_;refine callsIn_of_wp_marks func92 rfl trivial ?_ rfl;simp only [ntmps92,List.size_toArray,List.length_cons,List.length_nil,Nat.reduceAdd,Nat.reduceSub,Array.replicate_succ,Array.replicate_zero,List.push_toArray,List.append_toArray,List.nil_append,List.cons_append]
 gi_wp2_with fail
 refine ⟨trivial,?_⟩;first | refine ⟨(by intro e;cases e),?_⟩ | skip
 refine (callsIn_wide.2 (uH CQ)).mono ?_;rintro e w1 ⟨rfl,hb⟩;have HB1:=aA (yB (uH QS) hb);have V61:=aA ((uH PW).below hb);have V71:=aA (dU (uH FH) hb);have V81:=aA ((uH FE).below hb);clear hb CQ QS PW FH FE;cases o with
 | false=>
  have hz:(x,y)=((0:Int),(0:Int)):=uH ZM (by first | rfl | trivial);simp only [Prod.mk.injEq] at hz;obtain ⟨rfl,rfl⟩:=hz;have k0:=(uH V81).c0;have k1:=(uH V81).c1;have k2:=(uH V81).f 0;have k3:=(uH V81).f 1;have k4:=(uH V81).s0 (.int .i64 0);have k5:=(uH V81).s1 (.int .i64 0) (.int .i64 0)
  gi_wp2
  repeat (refine ⟨trivial,?_⟩;gi_wp2)
  refine ⟨rv 0 0,(by simp [results,results92,go_sem,k4,k5]),rfl,?_⟩;repeat (first | exact uH HB1 | refine yA ?_ _ | refine Below.drew ?_ | refine yC ?_ _ _ _ (by omega))
 | true=>
  gi_wp2_with fail
  refine ⟨trivial,?_⟩;first | refine ⟨(by intro e;cases e),?_⟩ | skip
  refine (callsIn_wide.2 (uH CP _ (uH HB1))).mono ?_;rintro e w2 ⟨rfl,hb⟩;have HB2:=aA (yB (uH HB1) hb);have V62:=aA ((uH V61).below hb);have V72:=aA (dU (uH V71) hb);have V82:=aA ((uH V81).below hb);clear hb CP HB1 V61 V71 V81;by_cases hp0:0≤p
  ·have a0:=(uH V62).c0;have a1:=(uH V62).c1
   gi_wp2_with fail
   refine ⟨trivial,?_⟩;(first | refine ⟨(by intro e;cases e),?_⟩ | skip);refine (callsIn_wide.2 (uH CK _)).mono ?_;rintro e w3 ⟨rfl,hb⟩;have HB3:=aA (yB (uH HB2) hb);have V63:=aA ((uH V62).below hb);have V73:=aA (dU (uH V72) hb);have V83:=aA ((uH V82).below hb);clear hb CK HB2 V62 V72 V82 a0 a1;cases k with
   | false=>
    have hz:(x,y)=((0:Int),(0:Int)):=uH VD (by first | rfl | trivial);simp only [Prod.mk.injEq] at hz;obtain ⟨rfl,rfl⟩:=hz;have k0:=(uH V83).c0;have k1:=(uH V83).c1;have k2:=(uH V83).f 0;have k3:=(uH V83).f 1;have k4:=(uH V83).s0 (.int .i64 0);have k5:=(uH V83).s1 (.int .i64 0) (.int .i64 0)
    gi_wp2
    refine ⟨rv 0 0,(by simp [results,results92,go_sem,k4,k5]),rfl,?_⟩;repeat (first | exact uH HB3 | refine yA ?_ _ | refine Below.drew ?_ | refine yC ?_ _ _ _ (by omega))
   | true=>
    have HFX:=aA (show (x,y)=lW (a,b) (jM most (ups l nm)) from uH WX (by first | rfl | trivial) hp0 (by first | rfl | trivial));clear ZM Qv VD WX
    gi_wp2_with fail
    (refine ⟨trivial,?_⟩;(first | refine ⟨(by intro e;cases e),?_⟩ | skip);refine (callsIn_wide.2 (xY ao len cap nm _)).mono ?_;rintro e w4 ⟨rfl,rfl⟩;have DW:=aA (((Go.Boxed.new w3 63 (.slice none 0 0)).alloc (.cells #[.slice ao len cap] 24)).alloc (.cells #[.string (bs nm)] 9));have Kw:(((w3.alloc (.cells #[.slice none 0 0] 63)).alloc (.cells #[.slice ao len cap] 24)).alloc (.cells #[.string (bs nm)] 9)).cell? ⟨w3.heap.size+1,0,none⟩=some (.slice ao len cap):=by have:=((Go.Boxed.new (w3.alloc (.cells #[.slice none 0 0] 63)) 24 (.slice ao len cap)).alloc (.cells #[.string (bs nm)] 9)).cell;simpa using this);(have Ky:(((w3.alloc (.cells #[.slice none 0 0] 63)).alloc (.cells #[.slice ao len cap] 24)).alloc (.cells #[.string (bs nm)] 9)).cell? ⟨w3.heap.size+1+1,0,none⟩=some (.string (bs nm)):=by have:=(Go.Boxed.new ((w3.alloc (.cells #[.slice none 0 0] 63)).alloc (.cells #[.slice ao len cap] 24)) 9 (.string (bs nm))).cell;simpa using this);have HB0:=aA (yA (yA (yA (yH _ w3) (.cells #[.slice none 0 0] 63)) (.cells #[.slice ao len cap] 24)) (.cells #[.string (bs nm)] 9));have HC:=aA (qB (3 - 1) (w3.heap.size+1) (w3.heap.size+1+1) ao len cap l nm w3 _ ((uH HR).below (uH HB3)) (uH HB0) hl hc Kw Ky);clear Kw Ky
    gi_wp2
    (have hsz:(((w3.alloc (.cells #[.slice none 0 0] 63)).alloc (.cells #[.slice ao len cap] 24)).alloc (.cells #[.string (bs nm)] 9)).heap.size=w3.heap.size+3:=by simp);obtain ⟨W0,hW0⟩:∃W0,((w3.alloc (.cells #[.slice none 0 0] 63)).alloc (.cells #[.slice ao len cap] 24)).alloc (.cells #[.string (bs nm)] 9)=W0:=⟨_,rfl⟩;rw [hW0] at hsz DW HB0 HC ⊢;have hw3:=(uH HB3).size;clear hW0;refine wpIn_rangeFunc_ownH rfl (by omega) (gf:=147) (lb:=#[.pointer (some ⟨w3.heap.size+1,0,none⟩),.pointer (some ⟨w3.heap.size+1+1,0,none⟩)]) rfl trivial (enters_of func147 (by kernel_rfl) rfl)
     (uH HC) aJ0 (aJ1 (by omega)) (yH _ _) (fun _=>rfl)
     (fun pre W=>(∃v,Go.Boxed W w3.heap.size 63 v∧W.ownsRow w3.heap.size 3 1 v pre.length (aKY (pre.map (fun q=>dQ most q.1)))∧(∀q ∈ pre,q.1.parent≠[]))∧Bw w3 W)
     (fun c pre W=>(c=.exit 0∧∃ini last,pre=ini++[last]∧(∀q ∈ ini,q.1.parent≠[])∧last.1.parent=[]∧∃v,Go.Boxed W w3.heap.size 63 v∧W.ownsRow w3.heap.size 3 1 v ini.length (aKY (ini.map (fun q=>dQ most q.1)))∧True)∧Bw w3 W)
     (OwnFrom.and (Own.from (holdsRow_own w3.heap.size w3.heap.size 63 3 1 (fun pre:List { q:Q // q ∈ l }=>pre.length) (fun pre:List { q:Q // q ∈ l }=>aKY (pre.map (fun q=>dQ most q.1))) (fun pre _=>∀q ∈ pre,q.1.parent≠[])) _) (ownFrom_below (yJ _) (by omega)))
     (fun c=>OwnFrom.and (Own.from (fun s X Y row hs hg hr=>by
      obtain ⟨hc,ini,last,e1,e2,e3,hx⟩:=hs;exact ⟨hc,ini,last,e1,e2,e3,holdsRow_own w3.heap.size w3.heap.size 63 3 1 (fun pre:List { q:Q // q ∈ l }=>pre.length) (fun pre:List { q:Q // q ∈ l }=>aKY (pre.map (fun q=>dQ most q.1))) (fun _ _=>True) ini X Y row hx hg hr⟩) _) (ownFrom_below (yJ _) (by omega)))
     ⟨⟨_,uH DW,World.ownsRow_nil _ _ _ _,by simp⟩,uH HB0⟩
     (fun x a' W=>∃Bx,w3.heap.size<Bx∧mF W Bx x.1∧a' = { tmps:=#[.slice ao len cap,.string (bs nm),rv a b,.func (.func gp) #[] #[],undef,undef,.pointer (some ⟨w.heap.size,0,none⟩),.pointer (some ⟨w.heap.size+1,0,none⟩),.pointer (some ⟨w.heap.size+1+1,0,none⟩),.pointer (some ⟨w3.heap.size,0,none⟩),.pointer (some ⟨Bx,0,none⟩),undef,undef,undef,.slice ao len cap,.bool true,.bool false,.bool false,.slice ao len cap,.string (bs nm),.int .i64 p,.bool (decide (p<0)),.bool (decide (p<0)),.bool (decide (p<0)),.agg #[.int .i64 a,.int .i64 b],.bool true,.bool false,.bool (decide (p<0)),undef,.slice ao len cap,.string (bs nm),.func (.func 147) #[] #[.pointer (some ⟨w3.heap.size+1,0,none⟩),.pointer (some ⟨w3.heap.size+1+1,0,none⟩)],qv x.1,undef,undef,undef,undef,undef,undef,undef,undef,undef,undef,undef,undef,undef,undef,undef,undef,undef,undef],defers:=[] })
     (fun x a' _ X Y row hs hg hr=>by
      obtain ⟨Bx,h1,h2,h3⟩:=hs;refine ⟨Bx,h1,(hg.block Bx h2.lt (fun e=>?_)).trans h2,h3⟩;obtain ⟨_,o,ho,hc⟩:=hr Bx e.symm;rw [show X.heap[Bx]? = _ from h2] at ho;cases ho;cases hc)
     ?assign ?body ?done ?stop
    case assign=>
     rintro lp pre x W K ⟨⟨v,hv,Hz,XF⟩,hB⟩ hK
     gi_wp2
     exact hK _ _ ((KeepsOthers.alloc _ _).from _) (aEE hB.size (yA (yH _ W) _)) ⟨⟨v,hv.alloc _,Hz.alloc _,XF⟩,yA hB _⟩ ⟨W.heap.size,hv.lt,mF.new W x.1,rfl⟩
    case body=>
     rintro lp pre ⟨q,hq⟩ a' W hlp _ ⟨⟨v,hv,Hz,XF⟩,hB⟩ ⟨Bx,hBx,hX,rfl⟩ hlt;simp only at hX;have hx0:=hX.c0;have hx1:=hX.c1;have hx2:=hX.c2;have hx3:=hX.c3;have hc0:=hv.cell;have hf7:=(dU (uH V73) hB).cell;(have hpl:pre.length≤1048576:=by have:=uH HL;omega);have hbe:=mV q.parent;have HV:=aA hv;have HX:=aA hX;have HRW:=aA Hz;have HB:=aA hB;have BP:=aA XF;clear hv hX Hz hB XF;by_cases hz:q.parent=[]
     ·have HZ:=aA hz;rw [decide_eq_true hz] at hbe;clear hz
      gi_wp2
      exact ⟨KeepsFrom.refl _ _,⟨rfl,pre,⟨q,hq⟩,rfl,uH BP,uH HZ,v,uH HV,uH HRW,trivial⟩,uH HB⟩
     ·have HZ:=aA hz;rw [decide_eq_false hz] at hbe;clear hz
      gi_wp2_with fail
      gi_region_with_o (first | (first | refine ⟨trivial,?_⟩ | skip);gi_at_fn gp;refine (CallsIn.inRound lp (callsIn_wide.2 (uH NH _ q))).mono ?_;rintro e wc ⟨rfl,hbc⟩;have HW3:=aA (yB (yH _ W).drew hbc);have hc3:=(dU (uH HV) (uH HW3)).cell;have Mk:=((dU (uH HV) (uH HW3)).alloc (.cells #[.int .i64 (dQ most q)] 3)).cell;obtain ⟨g,cp,w4,gq,hc4,hf4,QW⟩:=xH 63 3 (.int .i64 0) 8 i0 underlying63 hi hz0 hz1 hz2 rfl (by decide) (by decide) (by omega) (dU (uH HV) (uH HW3)) (qK (uH HRW) (uH HW3)) hpl (Nat.le_trans (uH HB).size (uH HW3).size) (yJ _) (.int .i64 (dQ most q)) rfl;clear hbc;simp [go_sem] at gq)
      (all_goals gi_wp2);all_goals obtain ⟨f1,f2,f3,f4,f5⟩:=uH QW;exact ⟨((pY (uH HW3)).trans f3).from _,⟨((uH HW3).mono (uH HB).size).trans f4,fun k q hq=>f5 k q (hq.below (uH HW3))⟩,⟨⟨_,f1,by simpa using f2,by intro z hz;rcases List.mem_append.1 hz with hz | hz;exact uH BP z hz;(have:z=⟨q,hq⟩:=by simpa using hz);rw [this];exact uH HZ⟩,((uH HB).trans ((uH HW3).mono (uH HB).size)).trans f4⟩⟩
    case' done=>
     (rintro D ini W hD hys ⟨⟨v,hv,Hz,XF⟩,hB⟩ hK;have Wz:jM most (ups l nm)=ini.map (fun q=>dQ most q.1):=by rw [←hys,aFo (by intro z hz;obtain ⟨q,hq,rfl⟩:=List.mem_map.1 hz;exact XF q hq)];simp);have hyl:ini.length≤1048576:=by have e:=congrArg List.length hys;have h2:(ups l nm).length≤l.length:=aA5 (l.length+1) l nm;have h3:=uH HL;rw [List.length_map] at e;omega
    case' stop=>
     (rintro D c pre W hD XE ⟨⟨rfl,ini,last,rfl,MP,Qk,v,hv,Hz,_⟩,hB⟩ hK;have Wz:jM most (ups l nm)=ini.map (fun q=>dQ most q.1):=by rw [aFn (ini:=ini.map Subtype.val) (last:=last.1) (by intro z hz;obtain ⟨q,hq,rfl⟩:=List.mem_map.1 hz;exact MP q hq) Qk (by simpa using XE)];simp);have hyl:ini.length≤1048576:=by have e:=XE.length_le;have:=aA5 (l.length+1) l nm;rw [show iE (l.length+1) l nm=ups l nm from rfl] at this;have:=uH HL;simp at e;omega
    all_goals
     have HV:=aA hv;have HRW:=aA Hz;have HB:=aA hB;have hc9:=hv.cell;have a0:=((uH V63).below hB).c0;have a1:=((uH V63).below hB).c1;have Mx:=(hv.alloc (.cells #[.int .i64 a,.int .i64 b] 33)).cell;have gz:=aJM Hz;have hlt9:=hv.lt;have JX:D<W.heap.size:=lt_of_block hK;clear hv Hz hB
     gi_wp2_with fail
     refine ⟨trivial,?_⟩;(first | refine ⟨(by intro e;cases e),?_⟩ | skip);refine (callsIn_wide.2 (aI1 v _ gz)).mono ?_;rintro e w6 ⟨rfl,rfl⟩;clear a0 a1 hc9 Mx
     gi_wp2
     have VP:=((aM W 33 a b).al (.cells #[v] 63));(have VB:Go.Boxed ((W.alloc (.cells #[.int .i64 a,.int .i64 b] 33)).alloc (.cells #[v] 63)) (W.heap.size+1) 63 v:=by have:=Go.Boxed.new (W.alloc (.cells #[.int .i64 a,.int .i64 b] 33)) 63 v;rwa [World.size_alloc] at this);have YV:=yA (yA (yH _ W) (.cells #[.int .i64 a,.int .i64 b] 33)) (.cells #[v] 63);have PK:=qK (uH HRW) YV;(have hs5:((W.alloc (.cells #[.int .i64 a,.int .i64 b] 33)).alloc (.cells #[v] 63)).heap.size=W.heap.size+2:=by simp);obtain ⟨W5,PI⟩:∃W5,(W.alloc (.cells #[.int .i64 a,.int .i64 b] 33)).alloc (.cells #[v] 63)=W5:=⟨_,rfl⟩;rw [PI] at VP VB YV PK hs5 ⊢;clear PI;refine wpIn_rangeFunc_ownG rfl (by omega) (gf:=193) (lb:=#[.pointer (some ⟨W.heap.size+1,0,none⟩)]) rfl trivial (enters_of func193 (by kernel_rfl) rfl)
      (aFP (3 - 1) (W.heap.size+1) W.heap.size w3.heap.size v (ini.map (fun q=>dQ most q.1)) W5 VB (by simpa using PK) (by omega) (aHp (uH HRW)) (by simp;omega)) aJ2 aKu (yH _ _) (fun _=>rfl)
      (fun pre W'=>aC4 W' W.heap.size a b ((pre.map Prod.snd).reverse)∧Bw W W')
      (fun _ _ _=>False)
      (OwnFrom.and (Own.from (aEd W.heap.size a b (fun pre:List (Int×Int)=>(pre.map Prod.snd).reverse)) _) (ownFrom_below (yJ _) (by omega)))
      (fun _ _ _ _ _ hs _ _=>hs)
      ⟨VP,YV⟩
      (fun x=>{ tmps:=#[.slice ao len cap,.string (bs nm),rv a b,.func (.func gp) #[] #[],undef,undef,.pointer (some ⟨w.heap.size,0,none⟩),.pointer (some ⟨w.heap.size+1,0,none⟩),.pointer (some ⟨w.heap.size+1+1,0,none⟩),.pointer (some ⟨w3.heap.size,0,none⟩),undef,.pointer (some ⟨W.heap.size,0,none⟩),undef,.int .i64 x.2,.slice ao len cap,.bool true,.bool false,.bool false,.slice ao len cap,.string (bs nm),.int .i64 p,.bool (decide (p<0)),.bool (decide (p<0)),.bool (decide (p<0)),.agg #[.int .i64 a,.int .i64 b],.bool true,.bool false,.bool (decide (p<0)),undef,.slice ao len cap,.string (bs nm),.func (.func 147) #[] #[.pointer (some ⟨w3.heap.size+1,0,none⟩),.pointer (some ⟨w3.heap.size+1+1,0,none⟩)],undef,undef,undef,undef,undef,undef,undef,undef,undef,undef,.agg #[.int .i64 a,.int .i64 b],v,.func (.func 193) #[] #[.pointer (some ⟨W.heap.size+1,0,none⟩)],.int .i64 x.1,.int .i64 x.2,undef,undef,undef,undef],defers:=[] })
      ?assign2 ?body2 ?done2 ?stop2
     case assign2=>
      intro lq x W' K hK'
      gi_wp2
      exact hK'
     case body2=>
      rintro lq pre2 x W' ⟨hV,hBW⟩ KD;have HST:=aA (show lW (a,b) (((pre2++[x]).map Prod.snd).reverse)=(eY (lW (a,b) ((pre2.map Prod.snd).reverse)).1 (lW (a,b) ((pre2.map Prod.snd).reverse)).2 x.2,eZ (lW (a,b) ((pre2.map Prod.snd).reverse)).1 (lW (a,b) ((pre2.map Prod.snd).reverse)).2 x.2) by simp [lW]);obtain ⟨⟨u1,u2⟩,hu⟩:∃u,lW (a,b) ((pre2.map Prod.snd).reverse)=u:=⟨_,rfl⟩;unfold aC4 at hV;rw [hu] at hV HST;simp only at hV HST;obtain ⟨s1,hs1⟩:∃s,eY u1 u2 x.2=s:=⟨_,rfl⟩;obtain ⟨s2,hs2⟩:∃s,eZ u1 u2 x.2=s:=⟨_,rfl⟩;rw [hs1,hs2] at HST;have CSh:=aA (fun wx=>by have:=aAt u1 u2 x.2 wx;rw [hs1,hs2] at this;exact this);have b0:=hV.c0;have b1:=hV.c1;have GR:=aA hV;have HB2:=aA hBW;clear hV hBW hu hs1 hs2
      gi_wp2_with fail
      refine ⟨trivial,?_⟩;(first | refine ⟨(by intro e;cases e),?_⟩ | skip);refine (CallsIn.inRound lq (callsIn_wide.2 (uH CSh _))).mono ?_;rintro e w7 ⟨rfl,WK⟩;have V7:=(uH GR).below WK;have FH:=aA V7;have k0:=V7.c0;have k1:=V7.c1;have k2:=V7.f 0;have k3:=V7.f 1;have Kz:=aA WK;clear V7 WK b0 b1
      gi_wp2
      refine ⟨((pY (uH Kz)).trans ((KeepsOthers.setCell _ _ _).trans (KeepsOthers.setCell _ _ _))).from _,aJ2 (aG3 (uH Kz)) (aJ2 (aG2 _ _ _) (aG2 _ _ _)),?_,?_⟩
      ·unfold aC4;rw [uH HST];exact (uH FH).set s1 s2
      ·exact yC (yC (yB (uH HB2) (uH Kz)) _ _ _ (yJ _)) _ _ _ (yJ _)
     case done2=>
      rintro D2 ys2 W6 hD2 hyy2 ⟨hV,hBW⟩ hK2;(have XH:lW (a,b) ((ys2.map Prod.snd).reverse)=(x,y):=by rw [uH hyy2,List.reverse_reverse,uH HFX,Wz]);unfold aC4 at hV;rw [XH] at hV;simp only at hV;have V8:=((uH V83).below (uH HB)).below hBW;have hn8:w.heap.size+1+1<W.heap.size:=((uH V83).below (uH HB)).lt;have hw6:W.heap.size≤W6.heap.size:=hBW.size;have b0:=hV.c0;have b1:=hV.c1;have k0:=V8.c0;have k1:=V8.c1;have k2:=V8.f 0;have k3:=V8.f 1;have PM:W6.heap[D]? = some (.deferred (some [])):=(hBW.block D JX).trans hK;have FE:=aA V8;have xy:=aA hBW;have HKD:=aA PM;have FX:=aA hK2;clear hV V8 hBW PM hK hK2
      gi_wp2
      have e2:=(KeepsOthers.setCell _ ⟨w.heap.size+1+1,1,none⟩ (.int .i64 y)).same D2 _ ((KeepsOthers.setCell W6 ⟨w.heap.size+1+1,0,none⟩ (.int .i64 x)).same D2 _ (uH FX) rfl) rfl;have e1:=(KeepsOthers.setCell _ ⟨w.heap.size+1+1,1,none⟩ (.int .i64 y)).same D _ ((KeepsOthers.setCell W6 ⟨w.heap.size+1+1,0,none⟩ (.int .i64 x)).same D _ (uH HKD) rfl) rfl;(have hne:D≠D2:=by omega);refine ⟨by simp,.inl ⟨_,_,rfl,run_takeDeferred e2,?_⟩⟩;have e3:=(World.putObj_heap_other (o:=.deferred none) (w:=(W6.setCell ⟨w.heap.size+1+1,0,none⟩ (.int .i64 x)).setCell ⟨w.heap.size+1+1,1,none⟩ (.int .i64 y)) hne).trans e1;refine ⟨by simp,.inl ⟨_,_,rfl,run_takeDeferred e3,?_⟩⟩;have XG:w.heap.size+1+1<w3.heap.size:=(uH V83).lt;have VF:=(((uH FE).set x y).same (World.putObj_heap_other (o:=.deferred none) (w:=(W6.setCell ⟨w.heap.size+1+1,0,none⟩ (.int .i64 x)).setCell ⟨w.heap.size+1+1,1,none⟩ (.int .i64 y)) (show w.heap.size+1+1≠D2 by omega))).same (World.putObj_heap_other (o:=.deferred none) (show w.heap.size+1+1≠D by omega));have r0:=VF.c0;have r1:=VF.c1;refine ⟨rv x y,(by simp [results,results92,go_sem,r0,r1]),rfl,?_⟩;have hs6:w3.heap.size≤W.heap.size:=(uH HB).size;exact ((yC (yC (yB (yB (uH HB3) (uH HB)) (uH xy)) _ _ _ (by omega)) _ _ _ (by omega)).trans (belowK_b (w:=w) (yJ _) _ D2 _ _ (by omega) e2 rfl rfl)).trans (belowK_b (w:=w) (yJ _) _ D _ _ (by omega) e3 rfl rfl)
     case stop2=>rintro D2 c2 pre2 W6 _ _ h _;exact h.elim
  ·have hz:(x,y)=((0:Int),(0:Int)):=uH Qv (by omega);simp only [Prod.mk.injEq] at hz;obtain ⟨rfl,rfl⟩:=hz;have k0:=(uH V82).c0;have k1:=(uH V82).c1;have k2:=(uH V82).f 0;have k3:=(uH V82).f 1;have k4:=(uH V82).s0 (.int .i64 0);have k5:=(uH V82).s1 (.int .i64 0) (.int .i64 0)
   gi_wp2
   (repeat (refine ⟨trivial,?_⟩;gi_wp2));refine ⟨rv 0 0,(by simp [results,results92,go_sem,k4,k5]),rfl,?_⟩;repeat (first | exact uH HB2 | refine yA ?_ _ | refine Below.drew ?_ | refine yC ?_ _ _ _ (by omega))
end
end Go.Proofs.YtfndhndlkcijoaaGreat
