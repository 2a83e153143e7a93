/-
  Texts in one: OverM, LoneI, LvM, AppsI, OkB, OkC, OkD, LeavesI, FreeOnI, UsedOnS, UsedOnB, FreeOnS.
-/
import Derived.Test.YtdhibeclkdepiaaGreatSackN
import Derived.Test.YtdhibeclkdepiaaGreatSackM
set_option maxRecDepth 100000
set_option maxHeartbeats 16000000
set_option linter.unusedVariables false
set_option linter.unusedSimpArgs false
namespace Go.Proofs.YtdhibeclkdepiaaGreat
section
open Go.RowKit
def aB7 (s:St) (x:List UInt8):Int×Int:=ofR s.qs x (dY s).1 (dY s).2 false
theorem nY:aL 0 0=true:=by decide
theorem aAA:∀(l:List (Int×Int)) (x y:Int),aL x y=true→aL (aT l x y).1 (aT l x y).2.1=true
 | [],x,y,h=>h
 | r::t,x,y,h=>by
  rw [aT]
  by_cases hb:aI 1 x y r.1 r.2=true
  ·rw [if_pos hb]
   refine aAA t _ _ ?_
   simp only [aI,yK] at hb
   exact hb.2
  ·rw [if_neg hb];exact nY
theorem aJz (l:List (Int×Int)):aL (gX l).1 (gX l).2.1=true:=aAA l 0 0 nY
theorem aJx (s:St) (nm:List UInt8):aL (aN s nm).1 (aN s nm).2=true:=aJz _
theorem aHD (a b n:Int):aL (dZ a b n) (d9 a b n)=true:=by
 by_cases h:fZ a b n=true
 ·have e1:dZ a b n=a*n / 10000:=by rw [dZ,if_pos h]
  have e2:d9 a b n=b*n / 10000:=by rw [d9,if_pos h]
  rw [e1,e2]
  simp only [fZ,aL,inB,yK,yL] at h ⊢
  obtain ⟨⟨⟨h1,h2⟩,h3,h4⟩,h5,h6⟩:=h
  have:=aAZ h1 h2 h5 h6
  have:=aAZ h3 h4 h5 h6
  omega
 ·have e1:dZ a b n=0:=by rw [dZ,if_neg h]
  have e2:d9 a b n=0:=by rw [d9,if_neg h]
  rw [e1,e2];exact nY
theorem aLB (l:List Q) (most:Bool) {t:Int×Int} (h:aL t.1 t.2=true):∀p:List (List UInt8),aL (ofP l most t p).1 (ofP l most t p).2=true
 | []=>h
 | [_]=>h
 | n::m::r=>aHD _ _ _
theorem aLA (l:List Q) (nm:List UInt8) (a b:Int) (most:Bool):aL (ofR l nm a b most).1 (ofR l nm a b most).2=true:=by
 rw [ofR]
 split
 ·exact nY
 ·rename_i h
  refine aLB l most ?_ _
  cases hr:aL a b
  ·exact absurd (.inr hr) h
  ·rfl
theorem aLR (s:St) (nm:List UInt8):aL (aB7 s nm).1 (aB7 s nm).2=true:=aLA _ _ _ _ _
theorem aCU (nm:List UInt8):∀l:List Q,zI nm l = !(l.any (fun q=>decide (q.parent=nm)))
 | []=>rfl
 | q::t=>by rw [zI,aCU nm t,List.any_cons];by_cases h:q.parent=nm<;>simp [h]
theorem aHm (B:Nat) (nm:List UInt8) (q:Q) (w:World) (hc:w.cell? ⟨B,0,none⟩=some (.string (bs nm))) :
  Calls Tryz.prog 145 #[qv q,.pointer (some ⟨B,0,none⟩)] w fun e w'=>e=.returned (.bool (decide (q.parent=nm)))∧Below w.heap.size w w':=by
 have hlt:=yG hc
 have hc2:(w.alloc (.cells #[.string (bs q.name),.string (bs q.parent),.int .i64 q.due,.int .i64 q.most] 100)).cell? ⟨B,0,none⟩=some (.string (bs nm)):=by rw [World.cell?_alloc_lt _ _ ⟨B,0,none⟩ hlt];exact hc
 have hbe:=nS q.parent nm
 clear hc hlt
 go_enter Tryz.func145,Tryz.ntmps145
 go_wp2
 go_ret
 exact ⟨rfl,yA (yH _ _) _⟩
theorem uZ (g:Nat) (lb:Array Value) (eg:∀args w,(callFunc g args).run Tryz.prog w=.ok (.enter g args) w) (p:Q→Bool) (ao:Option Addr) (len cap:Nat) (l:List Q) (w:World) (h:iG w ao len l) (hl:len≤1048576)
  (hp:∀wx q,Below w.heap.size w wx→Calls Tryz.prog g (#[qv q]++lb) wx fun e w'=>e=.returned (.bool (p q))∧Below wx.heap.size wx w') :
  Calls Tryz.prog 144 #[.slice ao len cap,.func (.func g) #[] lb] w fun e w'=>e=.returned (.bool (l.any p))∧Below w.heap.size w w':=by
 have C:=aA (qX g lb eg p ao len cap l w h hl hp)
 have HS:=aA (aHp p l 0)
 obtain ⟨i,hi⟩:∃i,iD p l 0=i:=⟨_,rfl⟩
 obtain ⟨b,hb⟩:∃b,l.any p=b:=⟨_,rfl⟩
 rw [hi] at C HS
 rw [hb] at HS ⊢
 clear h hp hi hb
 go_enter Tryz.func144,Tryz.ntmps144
 go_wp2_with fail
 refine (uH C).mono ?_
 rintro e w1 ⟨rfl,hb⟩
 have HB:=aA hb
 clear hb
 by_cases h0:0≤i
 ·go_wp2
  go_ret
  exact ⟨yF (by first | exact uH HS | (rw [←uH HS];simp [h0])),uH HB⟩
 ·go_wp2
  go_ret
  exact ⟨yF (by first | exact uH HS | (rw [←uH HS];simp [h0])),uH HB⟩
def aId (l:List Q) (nm:List UInt8):Bool:=!(l.any (fun q=>decide (q.parent=nm)))&&decide (0≤place l nm)
theorem wV (l:List Q) (nm:List UInt8):aFB l nm=(aF l&&aId l nm):=by
 rw [aFB,aCU,aId]
 cases aF l<;>cases l.any (fun q=>decide (q.parent=nm))<;>simp
theorem aEx (ao:Option Addr) (len cap:Nat) (l:List Q) (nm:List UInt8) (w:World) (h:iG w ao len l) (hl:len≤1048576) :
  Calls Tryz.prog 117 #[.slice ao len cap,.string (bs nm)] w fun e w'=>e=.returned (.bool (aId l nm))∧Below w.heap.size w w':=by
 have hmf:∀(fn:Fn) (first cap:Array Value) (w:World),(Instr.makeFunc fn first cap).run Tryz.prog w=.ok (.func fn first cap) w:=fun _ _ _ _=>rfl
 have hb0:=yA (yH _ w) (.cells #[.string (bs nm)] 9)
 have hcell:(w.alloc (.cells #[.string (bs nm)] 9)).cell? ⟨w.heap.size,0,none⟩=some (.string (bs nm)):=by simp
 have CP:=aA (fun wx (hb:Below w.heap.size w wx)=>qK ao len cap l nm wx (h.below hb) hl)
 have CC:=aA (fun wx (hb:Below w.heap.size w wx) (hx:wx.cell? ⟨w.heap.size,0,none⟩=some (.string (bs nm)))=>uZ 145 #[.pointer (some ⟨w.heap.size,0,none⟩)] (enters_of Tryz.func145 (by kernel_rfl) rfl) (fun q=>decide (q.parent=nm)) ao len cap l wx (h.below hb) hl
  (fun wy q hy=>aHm w.heap.size nm q wy ((hy.cell (p:=⟨w.heap.size,0,none⟩) (yG hx)).trans hx)))
 have HF:=aA (show aId l nm=(!(l.any (fun q=>decide (q.parent=nm)))&&decide (0≤place l nm)) from rfl)
 obtain ⟨p,hp⟩:∃p,place l nm=p:=⟨_,rfl⟩
 obtain ⟨k,hk⟩:∃k,l.any (fun q=>decide (q.parent=nm))=k:=⟨_,rfl⟩
 obtain ⟨r,hr⟩:∃r,aId l nm=r:=⟨_,rfl⟩
 rw [hp] at CP HF
 rw [hk] at CC HF
 rw [hr] at HF ⊢
 have HB0:=aA hb0
 have HC:=aA hcell
 clear h hb0 hp hk hr hcell
 go_enter Tryz.func117,Tryz.ntmps117
 go_wp2_with fail
 refine (uH CP _ (uH HB0)).mono ?_
 rintro e w2 ⟨rfl,hb⟩
 have HB2:=aA (yB (uH HB0) hb)
 have HC2:=aA ((hb.cell (p:=⟨w.heap.size,0,none⟩) (yG (uH HC))).trans (uH HC))
 clear hb HC HB0 CP
 by_cases h0:0≤p
 ·go_wp2_with fail
  refine (uH CC _ (uH HB2) (uH HC2)).mono ?_
  rintro e w3 ⟨rfl,hb⟩
  have HB3:=aA (yB (uH HB2) hb)
  clear hb
  go_wp2
  go_ret
  exact ⟨yF (by rw [uH HF];simp [h0]),uH HB3⟩
 ·go_wp2
  go_ret
  exact ⟨yF (by rw [uH HF];simp [h0]),uH HB2⟩
def fC (l:List Q):List (List UInt8):=(l.map Q.name).filter (aFB l)
theorem nP (l:List Q):(fC l).length≤l.length:=by
 have:=List.length_filter_le (aFB l) (l.map Q.name)
 rw [List.length_map] at this
 exact this
theorem uA {l:List Q} (h:aF l=false):fC l=[]:=by
 rw [fC,List.filter_eq_nil_iff]
 intro a _
 rw [wV,h];simp
end
section
open Go.RowKit Go.Shelf Go.Maps
attribute [local go_sem] Oper.semAt_some
def aJd (w:World) (c:Array Value):World:=((w.alloc (.cells c 34)).alloc (.map #[] 0)).alloc (.cells #[.map (some (w.heap.size+1))] 164)
theorem aDQ (w:World) (c:Array Value):(aJd w c).heap.size=w.heap.size+1+1+1:=by simp only [aJd,yE]
theorem aG8 (w:World) (c:Array Value):Below w.heap.size w (aJd w c):=yA (yA (yA (yH _ w) _) _) _
theorem aJc (w:World) (c:Array Value):(aJd w c).ownsMap Tryz.prog 133 eZ (w.heap.size+1) 0 (.map []):=by
 have:=(World.ownsMap_made (w.alloc (.cells c 34)) Tryz.prog 133 eZ).alloc (.cells #[.map (some (w.heap.size+1))] 164)
 rw [yE] at this
 exact this
theorem aJb (w:World) (c:Array Value):Blk (aJd w c) (w.heap.size+1+1) #[.map (some (w.heap.size+1))] 164:=by
 have:=yD ((w.alloc (.cells c 34)).alloc (.map #[] 0)) #[.map (some (w.heap.size+1))] 164
 rw [yE,yE] at this
 exact this
def nV (w:World) (l:List AV) (W:World):Prop:=(∃D,W.ownsMap Tryz.prog 133 eZ (w.heap.size+1) l.length D∧fE l aJg D)∧Blk W (w.heap.size+1+1) #[.map (some (w.heap.size+1))] 164
theorem nV.grown {w W W':World} {l:List AV} {row:Option Nat} (h:nV w l W) (hg:W.grownBy W' row) (hr:∀r,row=some r→w.heap.size+1+1<r):nV w l W':=by
 obtain ⟨⟨D,h1,h2⟩,h3⟩:=h
 exact ⟨⟨D,h1.kept hg (fun e=>by have:=hr _ e.symm;omega),h2⟩,(hg.block _ h3.lt (fun e=>by have:=hr _ e.symm;omega)).trans h3⟩
theorem nV.below {w W W':World} {l:List AV} (h:nV w l W) (hb:Below W.heap.size W W'):nV w l W':=h.grown (aG (aC W none) hb) (fun r e=>by cases e)
theorem aJ9 (x:Sls) (s:St) (hs:List AV) (w:World) (h:fA w x.aa x.al hs) (hl:x.al≤1048576) (hn:∀m ∈ hs,(Lit.int .i64 m.id).wf=true) :
  Calls Tryz.prog 121 #[sv x s] w fun e w'=>e=.returned (.map (some (w.heap.size+1)))∧nV w hs w'∧Below w.heap.size w w':=by
 obtain ⟨qa,ql,qc,aa,al,ac,ma,ml,mc,ca,cl,cc⟩:=x
 obtain ⟨qs,clock,epoch,next,serial,apps,ms,cs⟩:=s
 simp only at h hl
 have HR:=aA h
 have HL:=aA h.1
 have HN:=aA hn
 have hmx:Tryz.prog.follows .mixedOrders=true:=by kernel_rfl
 have hmm:=fun (t:TypeId) (wx:World)=>run_makeMap (P:=Tryz.prog) t wx
 clear h hn
 refine (callsIn_wide (n:=3)).1 ?_
 refine callsIn_of_wp_marks Tryz.func121 rfl trivial ?_ rfl
 simp only [Tryz.ntmps121,List.size_toArray,List.length_cons,List.length_nil,Nat.reduceAdd,Nat.reduceSub,Array.replicate_succ,Array.replicate_zero,List.push_toArray,List.append_toArray,List.nil_append,List.cons_append]
 gi_wp2_with fail
 first | refine ⟨trivial,?_⟩ | skip
 first | refine ⟨(by intro e;cases e),?_⟩ | skip
 refine (callsIn_wide.2 (aIV (.slice aa al ac) _ rfl)).mono ?_
 rintro e w4 ⟨rfl,rfl⟩
 gi_wp2
 have hsz0:=yE (aJd w (svc ⟨qa,ql,qc,aa,al,ac,ma,ml,mc,ca,cl,cc⟩ ⟨qs,clock,epoch,next,serial,apps,ms,cs⟩)) (.cells #[.slice aa al ac] 30)
 rw [aDQ] at hsz0
 have hB0:=yA (aG8 w (svc ⟨qa,ql,qc,aa,al,ac,ma,ml,mc,ca,cl,cc⟩ ⟨qs,clock,epoch,next,serial,apps,ms,cs⟩)) (.cells #[.slice aa al ac] 30)
 have hI0:=nV.below (w:=w) (l:=[]) ⟨⟨_,aJc w (svc ⟨qa,ql,qc,aa,al,ac,ma,ml,mc,ca,cl,cc⟩ ⟨qs,clock,epoch,next,serial,apps,ms,cs⟩),aCl⟩,aJb w _⟩ (yA (yH _ _) (.cells #[.slice aa al ac] 30))
 have hBs:=(yD (aJd w (svc ⟨qa,ql,qc,aa,al,ac,ma,ml,mc,ca,cl,cc⟩ ⟨qs,clock,epoch,next,serial,apps,ms,cs⟩)) #[.slice aa al ac] 30).at 0
 rw [aDQ] at hBs
 obtain ⟨W0,hW0⟩:∃W0,(aJd w (svc ⟨qa,ql,qc,aa,al,ac,ma,ml,mc,ca,cl,cc⟩ ⟨qs,clock,epoch,next,serial,apps,ms,cs⟩)).alloc (.cells #[.slice aa al ac] 30)=W0:=⟨_,rfl⟩
 rw [hW0] at hsz0 hB0 hI0 hBs
 have HC:=aA (aE5 (3 - 1) (w.heap.size+1+1+1) al ac aa hs W0 hBs ((uH HR).below hB0) hl (uH HN))
 show Code.wpIn _ _ _ _ _ _ ((aJd w (svc ⟨qa,ql,qc,aa,al,ac,ma,ml,mc,ca,cl,cc⟩ ⟨qs,clock,epoch,next,serial,apps,ms,cs⟩)).alloc (.cells #[.slice aa al ac] 30))
 rw [hW0]
 clear hW0 hBs
 refine wpIn_rangeFunc_ownH rfl (by omega) (gf:=182) (lb:=#[.pointer (some ⟨w.heap.size+1+1+1,0,none⟩)]) rfl trivial (enters_of Tryz.func182 (by kernel_rfl) rfl)
  (uH HC) aJT aLN (yH _ _) (fun _=>rfl)
  (fun pre W=>nV w ((pre.map (fun x:Int×NAV=>x.2.1)).reverse) W∧Below w.heap.size w W)
  (fun _ _ _=>False)
  (OwnFrom.and (fun s X Y row hs hg hr=>nV.grown hs hg (fun r e=>by have:=(hr r e).1;omega)) (ownFrom_below (yJ _) (by omega)))
  (fun _ _ _ _ _ hs _ _=>hs)
  ⟨hI0,hB0⟩
  (fun x a' W=>∃Bx,w.heap.size+1+1<Bx∧Blk W Bx #[.int .i64 x.2.1.id,.string (bs x.2.1.queue),.slice x.2.1.ao x.2.1.len x.2.1.cap] 74∧a' = { tmps:=#[sv ⟨qa,ql,qc,aa,al,ac,ma,ml,mc,ca,cl,cc⟩ ⟨qs,clock,epoch,next,serial,apps,ms,cs⟩,.pointer (some ⟨w.heap.size,0,none⟩),.map none,.pointer (some ⟨w.heap.size+1+1,0,none⟩),undef,.pointer (some ⟨Bx,0,none⟩),.map (some (w.heap.size+1)),.pointer (some ⟨w.heap.size,5,none⟩),.slice aa al ac,.func (.func 182) #[] #[.pointer (some ⟨w.heap.size+1+1+1,0,none⟩)],.int .i64 x.1,avv x.2.1,undef,undef,undef,undef,undef],defers:=[] })
  (fun x a' _ X Y row hs hg hr=>by
   obtain ⟨Bx,h1,h2,h3⟩:=hs
   refine ⟨Bx,h1,(hg.block Bx h2.lt (fun e=>?_)).trans h2,h3⟩
   obtain ⟨_,o,ho,hc⟩:=hr Bx e.symm
   rw [show X.heap[Bx]? = _ from h2] at ho
   cases ho
   cases hc)
  ?assign ?body ?done ?stop
 case assign=>
  rintro lp pre ⟨i,⟨⟨id,qu,zo,zl,zc⟩,hnm⟩⟩ W K ⟨hI,hB⟩ hK
  have hlt:=hI.2.lt
  gi_wp2
  exact hK _ _ ((KeepsOthers.alloc _ _).from _) (qW (yA (yH _ W) _)) ⟨hI.below (yA (yH _ W) _),yA hB _⟩ ⟨W.heap.size,hlt,yD W _ _,rfl⟩
 case body=>
  rintro lp pre ⟨i,⟨⟨id,qu,zo,zl,zc⟩,hnm⟩⟩ a' W hlp _ ⟨hI,hB⟩ ⟨Bx,hBx,hX,rfl⟩ hlt
  have HI:=aA hI
  have HX:=aA hX
  have HB:=aA hB
  have x0:=hX.at 0
  have x1:=hX.at 1
  have x2:=hX.at 2
  have v0:=hI.2.at 0
  simp at x0 x1 x2 v0
  have hpl:pre.length<1048576:=by have:=uH HL;omega
  clear hI hX hB
  obtain ⟨kl,hkey⟩:=aAa (nm:=[]) (k:=id) (by decide) hnm
  have HKEY:=aA hkey
  clear hkey
  gi_wp2_with fail
  gi_region_with_o (first | (first | refine ⟨trivial,?_⟩ | skip);(first | refine ⟨(by intro e;cases e),?_⟩ | skip);refine (CallsIn.inRound lp (callsIn_wide.2 (aG7 ⟨id,qu,zo,zl,zc⟩ _))).mono ?_;rintro e wc ⟨rfl,hbc⟩;have HW3:=aA (yB (yH _ W).drew hbc);have y0:=((uH HX).below (uH HW3)).at 0;have y1:=((uH HX).below (uH HW3)).at 1;have y2:=((uH HX).below (uH HW3)).at 2;have u0:=((uH HI).below (uH HW3)).2.at 0;simp at y0 y1 y2 u0;obtain ⟨D,hown,hk⟩:=((uH HI).below (uH HW3)).1;obtain ⟨w4,hrun,hown2,hgrow2⟩:=hown.update jL Tryz.underlying164 (by unfold maxLen;simp;omega) (uH HKEY) (lV ⟨id,qu,zo,zl,zc⟩);have HFIN:=aA (And.intro hown2 (And.intro hgrow2 (fE.put (m:=⟨id,qu,zo,zl,zc⟩) hk hown.isMap (uH HKEY))));clear hown2 hgrow2 hk hown hbc)
  all_goals gi_wp2
  all_goals
   obtain ⟨f1,f2,f3⟩:=uH HFIN
   have hbelow:=(uH HW3)
   have hv4:=(f2.block _ ((uH HI).below hbelow).2.lt (by simp)).trans ((uH HI).below hbelow).2
   have hmi:nV w (⟨id,qu,zo,zl,zc⟩::(pre.map (fun x:Int×NAV=>x.2.1)).reverse) w4:=⟨⟨_,f1,f3⟩,hv4⟩
   refine ⟨((uE hbelow).from _).trans (KeepsFrom.of_grownBy f2 (fun j e=>by cases e;omega)),aJT (qW hbelow) (fun k o ho hc=>(f2.block k (lt_of_block ho) (fun e=>?_)).trans ho),by simpa using hmi,?_⟩
   ·obtain ⟨D',hD',_⟩:=((uH HI).below hbelow).1
    obtain ⟨es,ck,hm',_⟩:=hD'
    obtain rfl:k=w.heap.size+1:=by simpa using e
    rw [hm'] at ho
    cases ho
    cases hc
   ·exact ((uH HB).trans (hbelow.mono (uH HB).size)).grown f2 (by have:=(uH HB).size;have:=hbelow.size;omega) (fun k e=>by cases e;omega)
 case done=>
  rintro D ys W hD hys ⟨hI,hB⟩ hK
  rw [uH hys,List.reverse_reverse] at hI
  have v0:=hI.2.at 0
  simp at v0
  have HI:=aA hI
  have HB:=aA hB
  clear hI hB
  gi_wp2
  refine ⟨by simp,.inl ⟨_,_,rfl,run_takeDeferred hK,?_⟩⟩
  exact ⟨_,results_tmp rfl _ _ _,rfl,(uH HI).grown (grownBy_putObj' W D _) (fun r e=>by cases e;omega),(uH HB).trans (belowK_b (w:=w) (yJ _) W D _ _ (by omega) hK rfl rfl)⟩
 case stop=>
  rintro D c pre W _ _ h _
  exact h.elim
theorem aIZ (x:Sls) (s:St) (hs:List AV) (w:World) (h:fA w x.aa x.al hs) (hl:x.al≤1048576) (hn:∀m ∈ hs,(Lit.int .i64 m.id).wf=true) :
  Calls Tryz.prog 121 #[sv x s] w fun e w'=>∃bm,e=.returned (.map (some bm))∧(w.heap.size≤bm∧∃D,w'.ownsMap Tryz.prog 133 eZ bm hs.length D∧fE hs aJg D)∧Below w.heap.size w w':=
 (aJ9 x s hs w h hl hn).mono fun e w' ⟨h1,h2,h3⟩=>⟨_,h1,⟨by omega,h2.1⟩,h3⟩
end
section
open Go.RowKit
def aGj (p:Ask→Bool):List Ask→Nat→Int
 | [],_=>-1
 | q::t,k=>if p q=true then (k:Int) else aGj p t (k+1)
theorem aHq {p:Ask→Bool} {l:List Ask} {k:Nat} (h:k<l.length):aGj p (l.drop k) k=if p l[k]=true then (k:Int) else aGj p (l.drop (k+1)) (k+1):=by
 rw [List.drop_eq_getElem_cons h,aGj]
theorem aJV {p:Ask→Bool} {l:List Ask} {k:Nat} (h:l.length≤k):aGj p (l.drop k) k = -1:=by
 rw [List.drop_of_length_le h];rfl
theorem aFF (p:Ask→Bool):∀(l:List Ask) (k:Nat),decide (0≤aGj p l k)=l.any p
 | [],_=>by simp [aGj]
 | q::t,k=>by
  rw [aGj,List.any_cons]
  by_cases h:p q=true
  ·rw [if_pos h,h];simp
  ·rw [if_neg h,aFF p t (k+1)];simp [h]
theorem zP (g:Nat) (lb:Array Value) (eg:∀args w,(callFunc g args).run Tryz.prog w=.ok (.enter g args) w) (p:Ask→Bool) (ao:Option Addr) (len cap:Nat) (l:List Ask) (w:World) (h:aO w ao len l) (hl:len≤1048576)
  (hp:∀wx (q:Ask),q ∈ l→Below w.heap.size w wx→Calls Tryz.prog g (#[aDU q]++lb) wx fun e w'=>e=.returned (.bool (p q))∧Below wx.heap.size wx w') :
  Calls Tryz.prog 180 #[.slice ao len cap,.func (.func g) #[] lb] w fun e w'=>e=.returned (.int .i64 (aGj p l 0))∧Below w.heap.size w w':=by
 have HR:=aA h
 have HL:=aA h.1
 have HP:=aA hp
 clear h hp
 go_enter Tryz.func180,Tryz.ntmps180
 go_wp2
 go_loopw [5,8] (fun _ i wr=>∃k:Nat,k≤len∧i=.int .i64 k∧Hid (aGj p l 0=aGj p (l.drop k) k)∧Hid (Below w.heap.size w wr)) (fun _ i _=>len - (intOf i).toNat)
 case atStart=>exact ⟨0,Nat.zero_le _,rfl,aA (by simp),aA (yH _ _)⟩
 case round=>
  obtain ⟨k,hk,rfl,hq,HB⟩:=hrel
  by_cases hlt:k<len
  ·obtain ⟨b,off,rfl,hx⟩:=((uH HR).below (uH HB)).at hlt
   have hkl:k<l.length:=by have:=uH HL;omega
   have hst:=aA (aHq (p:=p) (l:=l) (k:=k) hkl)
   obtain ⟨c0,c1,c2,c3,c4⟩:=hx hkl
   clear hx
   have HC:=aA (uH HP wr l[k] (yM _) (uH HB))
   obtain ⟨⟨y0,y1,y2,nd,y4⟩,hs⟩:∃s,l[k]=s:=⟨_,rfl⟩
   rw [hs] at c0 c1 c2 c3 c4 hst HC
   simp only at c0 c1 c2 c3 c4
   clear hs hkl HP
   cases hpq:p ⟨y0,y1,y2,nd,y4⟩ with
   | true=>
    rw [hpq] at HC
    have HQ:=aA hpq
    clear hpq
    go_wp2_with (go_at_fn g;refine (uH HC).mono ?_;rintro e w' ⟨rfl,hb⟩)
    go_ret
    exact ⟨bV (by rw [uH hq,uH hst,if_pos (uH HQ)]),yB (uH HB) hb⟩
   | false=>
    rw [hpq] at HC
    have HQ:=aA hpq
    clear hpq
    go_wp2_with (go_at_fn g;refine (uH HC).mono ?_;rintro e w' ⟨rfl,hb⟩)
    go_roundw
    case rel=>exact ⟨k+1,by omega,by go_num,aA (by rw [uH hq,uH hst,if_neg (by rw [uH HQ];simp)]),aA (yB (uH HB) hb)⟩
    case measure=>simp [intOf];omega
  ·go_wp2
   go_ret
   exact ⟨bV (by rw [uH hq,aJV (by have:=uH HL;omega)]),uH HB⟩
theorem sP (g:Nat) (lb:Array Value) (eg:∀args w,(callFunc g args).run Tryz.prog w=.ok (.enter g args) w) (p:Ask→Bool) (ao:Option Addr) (len cap:Nat) (l:List Ask) (w:World) (h:aO w ao len l) (hl:len≤1048576)
  (hp:∀wx (q:Ask),q ∈ l→Below w.heap.size w wx→Calls Tryz.prog g (#[aDU q]++lb) wx fun e w'=>e=.returned (.bool (p q))∧Below wx.heap.size wx w') :
  Calls Tryz.prog 146 #[.slice ao len cap,.func (.func g) #[] lb] w fun e w'=>e=.returned (.bool (l.any p))∧Below w.heap.size w w':=by
 have C:=aA (zP g lb eg p ao len cap l w h hl hp)
 have HS:=aA (aFF p l 0)
 obtain ⟨i,hi⟩:∃i,aGj p l 0=i:=⟨_,rfl⟩
 obtain ⟨b,hb⟩:∃b,l.any p=b:=⟨_,rfl⟩
 rw [hi] at C HS
 rw [hb] at HS ⊢
 clear h hp hi hb
 go_enter Tryz.func146,Tryz.ntmps146
 go_wp2_with fail
 refine (uH C).mono ?_
 rintro e w1 ⟨rfl,hb⟩
 have HB:=aA hb
 clear hb
 by_cases h0:0≤i
 ·go_wp2
  go_ret
  exact ⟨yF (by first | exact uH HS | (rw [←uH HS];simp [h0])),uH HB⟩
 ·go_wp2
  go_ret
  exact ⟨yF (by first | exact uH HS | (rw [←uH HS];simp [h0])),uH HB⟩
theorem aG5 (q:Ask) (w:World) (hn:q.node.length≤1048576) :
  Calls Tryz.prog 147 #[aDU q] w fun e w'=>e=.returned (.bool (!fK q))∧Below w.heap.size w w':=by
 have C:=aA (aIY q (w.alloc (.cells #[.int .i64 q.mem,.int .i64 q.cpu,.int .i64 q.count,.string (bs q.node),.int .i64 q.missed] 77)) hn)
 obtain ⟨o,ho⟩:∃o,fK q=o:=⟨_,rfl⟩
 rw [ho] at C ⊢
 obtain ⟨y0,y1,y2,nd,y4⟩:=q
 clear ho
 go_enter Tryz.func147,Tryz.ntmps147
 go_wp2_with fail
 refine (uH C).mono ?_
 rintro e w1 ⟨rfl,hb⟩
 have HB:=aA (yB (yA (yH _ w) _) hb)
 clear hb C
 cases o
 ·go_wp2
  go_ret
  exact ⟨rfl,uH HB⟩
 ·go_wp2
  go_ret
  exact ⟨rfl,uH HB⟩
def jB (l:List Ask):Bool:=decide (l.length≤10)&&l.all fK
theorem aG3 (id:Int) (qu:List UInt8) (ao:Option Addr) (len cap:Nat) (l:List Ask) (w:World) (h:aO w ao len l) (hl:len≤1048576) (hn:∀q ∈ l,q.node.length≤1048576) :
  Calls Tryz.prog 118 #[yO id qu ao len cap] w fun e w'=>e=.returned (.bool (jB l))∧Below w.heap.size w w':=by
 have hb0:=yA (yH _ w) (.cells #[.int .i64 id,.string (bs qu),.slice ao len cap] 74)
 have C:=aA (sP 147 #[] (enters_of Tryz.func147 (by kernel_rfl) rfl) (fun q=>!fK q) ao len cap l _ (h.below hb0) hl (fun wx q hq _=>aG5 q wx (hn q hq)))
 have HS:=aA (show jB l=(decide (len≤10)&&!(l.any fun q=>!fK q)) by rw [jB,←h.1];congr 1;rw [List.not_any_eq_all_not];simp)
 obtain ⟨o,ho⟩:∃o,jB l=o:=⟨_,rfl⟩
 obtain ⟨b,hb⟩:∃o,(l.any fun q=>!fK q)=o:=⟨_,rfl⟩
 rw [ho] at HS ⊢
 rw [hb] at HS C
 have HB0:=aA hb0
 clear ho hb h hn hb0
 by_cases h10:len≤10
 ·have hi:(len:Int)≤10:=by omega
  rw [decide_eq_true h10] at HS
  clear h10
  go_enter Tryz.func118,Tryz.ntmps118
  go_wp2_with fail
  refine (uH C).mono ?_
  rintro e w1 ⟨rfl,hb⟩
  have HB:=aA (yB (uH HB0) hb)
  clear hb C HB0
  go_wp2
  go_ret
  exact ⟨yF (by rw [uH HS];simp),uH HB⟩
 ·have hi:¬(len:Int)≤10:=by omega
  rw [decide_eq_false h10] at HS
  clear h10 C
  go_enter Tryz.func118,Tryz.ntmps118
  go_wp2
  go_ret
  exact ⟨yF (by rw [uH HS];simp),uH HB0⟩
def aCS (s:St):Bool:=inB s.clock 0 1000000000&&(inB s.epoch 1 1000000000&&(inB s.next 1 1000000000&&inB s.serial 1 1000000000))
theorem aBM (x:Sls) (s:St) (w:World) :
  Calls Tryz.prog 80 #[sv x s] w fun e w'=>e=.returned (.bool (aCS s))∧Below w.heap.size w w':=by
 obtain ⟨qa,ql,qc,aa,al,ac,ma,ml,mc,ca,cl,cc⟩:=x
 obtain ⟨qs,clock,epoch,next,serial,apps,ms,cs⟩:=s
 have HB0:=aA (yA (yH _ w) (.cells (svc ⟨qa,ql,qc,aa,al,ac,ma,ml,mc,ca,cl,cc⟩ ⟨qs,clock,epoch,next,serial,apps,ms,cs⟩) 34))
 simp only [aCS]
 obtain ⟨b0,h0⟩:∃b,inB clock 0 1000000000=b:=⟨_,rfl⟩
 obtain ⟨b1,h1⟩:∃b,inB epoch 1 1000000000=b:=⟨_,rfl⟩
 obtain ⟨b2,h2⟩:∃b,inB next 1 1000000000=b:=⟨_,rfl⟩
 obtain ⟨b3,h3⟩:∃b,inB serial 1 1000000000=b:=⟨_,rfl⟩
 have C0:=aA (fun wx=>by have:=nO clock wx;rw [h0] at this;exact this)
 have C1:=aA (fun wx=>by have:=pQ epoch wx;rw [h1] at this;exact this)
 have C2:=aA (fun wx=>by have:=pQ next wx;rw [h2] at this;exact this)
 have C3:=aA (fun wx=>by have:=pQ serial wx;rw [h3] at this;exact this)
 rw [h0,h1,h2,h3]
 clear h0 h1 h2 h3
 go_enter Tryz.func80,Tryz.ntmps80
 go_wp2_with fail
 refine (uH C0 _).mono ?_
 rintro e w1 ⟨rfl,rfl⟩
 cases b0 with
 | false=>
  go_wp2
  go_ret
  exact ⟨rfl,uH HB0⟩
 | true=>
 go_wp2_with fail
 refine (uH C1 _).mono ?_
 rintro e w1 ⟨rfl,rfl⟩
 cases b1 with
 | false=>
  go_wp2
  go_ret
  exact ⟨rfl,uH HB0⟩
 | true=>
 go_wp2_with fail
 refine (uH C2 _).mono ?_
 rintro e w1 ⟨rfl,rfl⟩
 cases b2 with
 | false=>
  go_wp2
  go_ret
  exact ⟨rfl,uH HB0⟩
 | true=>
 go_wp2_with fail
 refine (uH C3 _).mono ?_
 rintro e w1 ⟨rfl,rfl⟩
 go_wp2
 go_ret
 exact ⟨yF (by simp),uH HB0⟩
def aZ (qs:List Q) (nx:Int):Int→List bY→Bool
 | _,[]=>true
 | last,a::t=>decide (last<a.id)&&(decide (a.id<nx)&&(aId qs a.queue&&(jB a.asks&&aZ qs nx a.id t)))
def gF (s:St):Bool:=decide (s.apps.length≤40)&&aZ s.qs s.next 0 s.apps
theorem rQ {qs:List Q} {nx last:Int} {l:List bY} {k:Nat} (h:k<l.length):aZ qs nx last (l.drop k)=(decide (last<l[k].id)&&(decide (l[k].id<nx)&&(aId qs l[k].queue&&(jB l[k].asks&&aZ qs nx l[k].id (l.drop (k+1)))))):=by
 rw [List.drop_eq_getElem_cons h,aZ]
theorem uN {qs:List Q} {nx last:Int} {l:List bY} {k:Nat} (h:l.length≤k):aZ qs nx last (l.drop k)=true:=by
 rw [List.drop_of_length_le h];rfl
theorem aG6 (x:Sls) (s:St) (w:World) (h:jC w x s) (hf:bD s) :
  Calls Tryz.prog 81 #[sv x s] w fun e w'=>e=.returned (.bool (gF s))∧Below w.heap.size w w':=by
 have hql:x.ql≤1048576:=by have:=h.len.1;have:=hf.1.1;omega
 have hal:x.al≤1048576:=by have:=h.len.2.1;have:=hf.2.1.1;omega
 have HR:=aA h.2.1
 have HL:=aA h.2.1.1
 have HFA:=aA hf.2.1
 have CL:=aA (fun wx (hb:Below w.heap.size w wx) (nm:List UInt8)=>aEx x.qa x.ql x.qc s.qs nm wx (h.1.below hb) hql)
 have HS:=aA (show gF s=(decide (x.al≤40)&&aZ s.qs s.next 0 s.apps) by rw [gF,←h.2.1.1])
 obtain ⟨o,ho⟩:∃o,gF s=o:=⟨_,rfl⟩
 rw [ho] at HS ⊢
 clear h hf ho
 have hb0:=yA (yH _ w) (.cells (svc x s) 34)
 have P0:=aA (yD w (svc x s) 34)
 obtain ⟨qa,ql,qc,aa,al,ac,ma,ml,mc,ca,cl,cc⟩:=x
 obtain ⟨qs,clock,epoch,next,serial,apps,ms,cs⟩:=s
 simp only at hql hal HR HL HFA CL HS P0 hb0
 have HB0:=aA hb0
 clear hb0
 by_cases h40:al≤40
 case neg=>
  have hi:(40:Int)<al:=by omega
  rw [decide_eq_false h40] at HS
  go_enter Tryz.func81,Tryz.ntmps81
  go_wp2
  go_ret
  exact ⟨yF (by rw [uH HS];simp),uH HB0⟩
 have hi:¬(40:Int)<al:=by omega
 rw [decide_eq_true h40,Bool.true_and] at HS
 clear h40
 go_enter Tryz.func81,Tryz.ntmps81
 go_wp2
 go_loopw [3,13] (fun la i wr=>∃(k:Nat) (last:Int),k≤al∧i=.int .i64 k∧la=.int .i64 last∧Hid (o=aZ qs next last (apps.drop k))∧Hid (Blk wr w.heap.size (svc ⟨qa,ql,qc,aa,al,ac,ma,ml,mc,ca,cl,cc⟩ ⟨qs,clock,epoch,next,serial,apps,ms,cs⟩) 34)∧Hid (Below w.heap.size w wr)) (fun _ i _=>al - (intOf i).toNat)
 case atStart=>exact ⟨0,0,Nat.zero_le _,rfl,rfl,aA (by rw [uH HS];simp),P0,HB0⟩
 case round=>
  obtain ⟨k,last,hk,rfl,rfl,HO,P1,HB⟩:=hrel
  clear P0 HB0 HS
  by_cases hlt:k<al
  ·obtain ⟨b,off,rfl,hq⟩:=((uH HR).below (uH HB)).at hlt
   have hkl:k<apps.length:=by have:=uH HL;omega
   have hst:=aA (rQ (qs:=qs) (nx:=next) (last:=last) (l:=apps) (k:=k) hkl)
   have hfa:=(uH HFA).2 _ (yM hkl)
   obtain ⟨xo,xl,xc,c0,c1,c2,hrow,_⟩:=hq hkl
   obtain ⟨⟨id,qu,asks⟩,hs⟩:∃s,apps[k]=s:=⟨_,rfl⟩
   rw [hs] at c0 c1 hst hrow hfa
   simp only at c0 c1 hst hrow
   have hxl:xl≤1048576:=by have h1:=hrow.1;have h2:=hfa.2.1;simp only at h2;omega
   obtain ⟨lo,hlo⟩:∃b,aId qs qu=b:=⟨_,rfl⟩
   obtain ⟨so,hso⟩:∃b,jB asks=b:=⟨_,rfl⟩
   have C1:=aA (fun wx (hb:Below w.heap.size w wx)=>by have:=uH CL wx hb qu;rw [hlo] at this;exact this)
   have C2:=aA (fun wx (hb:Below wr.heap.size wr wx)=>by have:=aG3 id qu xo xl xc asks wx (hrow.below hb) hxl hfa.2.2;rw [hso] at this;exact this)
   rw [hlo,hso] at hst
   have hb2:=yA (yH _ wr) (.cells #[.int .i64 id,.string (bs qu),.slice xo xl xc] 74)
   have P2:=aA ((uH P1).below hb2)
   have V2:=aA (yD wr #[.int .i64 id,.string (bs qu),.slice xo xl xc] 74)
   have HB2:=aA (yB (uH HB) hb2)
   have HW2:=aA hb2
   have p0:=(uH P2).at 0
   have p3:=(uH P2).at 3
   have q5:=(uH P1).at 5
   simp at p0 p3 q5
   clear hq hs hkl hrow hfa hb2 hlo hso CL
   by_cases h1:last<id
   case neg=>
    have h1':id≤last:=by omega
    go_wp2
    go_ret
    exact ⟨yF (by rw [uH HO,uH hst,decide_eq_false (show ¬last<id by omega)];simp),uH HB2⟩
   by_cases h2:id<next
   case neg=>
    have h2':next≤id:=by omega
    have h1':¬id≤last:=by omega
    go_wp2
    go_ret
    exact ⟨yF (by rw [uH HO,uH hst,decide_eq_false (show ¬id<next by omega)];simp),uH HB2⟩
   have h2':¬next≤id:=by omega
   have h1':¬id≤last:=by omega
   have HO2:=aA (show o=(lo&&(so&&aZ qs next id (apps.drop (k+1)))) by rw [uH HO,uH hst,decide_eq_true h1,decide_eq_true h2];simp)
   clear HO hst
   go_wp2_with fail
   refine (uH C1 _ (uH HB2)).mono ?_
   rintro e w1 ⟨rfl,hb⟩
   have P3:=aA ((uH P2).below hb)
   have V3:=aA ((uH V2).below hb)
   have HB3:=aA (yB (uH HB2) hb)
   have HW3:=aA (yB (uH HW2) hb)
   have a0:=(uH V3).at 0
   have a1:=(uH V3).at 1
   have a2:=(uH V3).at 2
   simp at a0 a1 a2
   clear hb P2 V2 HB2 HW2 C1 p0 p3 q5
   cases lo with
   | false=>
    go_wp2
    go_ret
    exact ⟨yF (by rw [uH HO2];simp),uH HB3⟩
   | true=>
   go_wp2_with fail
   refine (uH C2 _ (uH HW3)).mono ?_
   rintro e w2 ⟨rfl,hb⟩
   have P4:=aA ((uH P3).below hb)
   have V4:=aA ((uH V3).below hb)
   have HB4:=aA (yB (uH HB3) hb)
   have d0:=(uH V4).at 0
   simp at d0
   clear hb P3 V3 HB3 HW3 C2 a0 a1 a2
   cases so with
   | false=>
    go_wp2
    go_ret
    exact ⟨yF (by rw [uH HO2];simp),uH HB4⟩
   | true=>
   go_wp2
   go_roundw
   case rel=>exact ⟨k+1,id,by omega,by go_num,rfl,aA (by rw [uH HO2];simp),P4,HB4⟩
   case measure=>simp [intOf];omega
  ·go_wp2
   go_ret
   exact ⟨yF (by rw [uH HO,uN (by have:=uH HL;omega)]),uH HB⟩
def leT (a b:List UInt8):Bool:=Op.bytesLess (bs a).toList (bs b).toList||((bs a).toList==(bs b).toList)
def bO (ck:Int):List UInt8→List Mac→Bool
 | _,[]=>true
 | last,m::t=>!leT m.name last&&(bJ m.name&&(decide (0≤m.seen)&&(decide (m.seen≤ck)&&bO ck m.name t)))
def mP (s:St):Bool:=decide (s.ms.length≤20)&&(bO s.clock [] s.ms&&(gX (aY s.ms)).2.2)
theorem zN {ck:Int} {last:List UInt8} {l:List Mac} {k:Nat} (h:k<l.length):bO ck last (l.drop k)=(!leT l[k].name last&&(bJ l[k].name&&(decide (0≤l[k].seen)&&(decide (l[k].seen≤ck)&&bO ck l[k].name (l.drop (k+1)))))):=by
 rw [List.drop_eq_getElem_cons h,bO]
theorem aBS {ck:Int} {last:List UInt8} {l:List Mac} {k:Nat} (h:l.length≤k):bO ck last (l.drop k)=true:=by
 rw [List.drop_of_length_le h];rfl
theorem zO (x:Sls) (s:St) (w:World) (h:jC w x s) (hf:bD s) :
  Calls Tryz.prog 82 #[sv x s] w fun e w'=>e=.returned (.bool (mP s))∧Below w.heap.size w w':=by
 have hml:x.ml≤1048576:=by have:=h.len.2.2.1;have:=hf.2.2.1.1;omega
 have HR:=aA h.2.2.1
 have HL:=aA h.2.2.1.1
 have HFM:=aA hf.2.2.1
 obtain ⟨⟨cx,cy,co⟩,hco⟩:∃r,gX (aY s.ms)=r:=⟨_,rfl⟩
 have CC:=aA (fun wx (hb:Below w.heap.size w wx)=>by have:=aFN x s wx (h.2.2.1.below hb) hml;rw [hco] at this;exact this)
 have HS:=aA (show mP s=(decide (x.ml≤20)&&(bO s.clock [] s.ms&&co)) by rw [mP,←h.2.2.1.1,hco])
 obtain ⟨o,ho⟩:∃o,mP s=o:=⟨_,rfl⟩
 rw [ho] at HS ⊢
 clear h hf ho hco
 have hb0:=yA (yH _ w) (.cells (svc x s) 34)
 have P0:=aA (yD w (svc x s) 34)
 obtain ⟨qa,ql,qc,aa,al,ac,ma,ml,mc,ca,cl,cc⟩:=x
 obtain ⟨qs,clock,epoch,next,serial,apps,ms,cs⟩:=s
 simp only at hml HR HL HFM CC HS P0 hb0
 have HB0:=aA hb0
 clear hb0
 by_cases h40:ml≤20
 case neg=>
  have hi:(20:Int)<ml:=by omega
  rw [decide_eq_false h40] at HS
  go_enter Tryz.func82,Tryz.ntmps82
  go_wp2
  go_ret
  exact ⟨yF (by rw [uH HS];simp),uH HB0⟩
 have hi:¬(20:Int)<ml:=by omega
 rw [decide_eq_true h40,Bool.true_and] at HS
 clear h40
 go_enter Tryz.func82,Tryz.ntmps82
 go_wp2
 go_loopw [3,15] (fun la i wr=>∃(k:Nat) (last:List UInt8),k≤ml∧i=.int .i64 k∧la=.string (bs last)∧Hid (o=(bO clock last (ms.drop k)&&co))∧Hid (Blk wr w.heap.size (svc ⟨qa,ql,qc,aa,al,ac,ma,ml,mc,ca,cl,cc⟩ ⟨qs,clock,epoch,next,serial,apps,ms,cs⟩) 34)∧Hid (Below w.heap.size w wr)) (fun _ i _=>ml - (intOf i).toNat)
 case atStart=>exact ⟨0,[],Nat.zero_le _,rfl,rfl,aA (by rw [uH HS];simp),P0,HB0⟩
 case round=>
  obtain ⟨k,last,hk,rfl,rfl,HO,P1,HB⟩:=hrel
  clear P0 HB0 HS
  by_cases hlt:k<ml
  ·obtain ⟨b,off,rfl,hq⟩:=((uH HR).below (uH HB)).at hlt
   have hkl:k<ms.length:=by have:=uH HL;omega
   have hst:=aA (zN (ck:=clock) (last:=last) (l:=ms) (k:=k) hkl)
   have hfa:=(uH HFM).2 _ (yM hkl)
   obtain ⟨c0,c1,c2,c3⟩:=hq hkl
   obtain ⟨⟨nm,me,cp,se⟩,hs⟩:∃s,ms[k]=s:=⟨_,rfl⟩
   rw [hs] at c0 c1 c2 c3 hst hfa
   simp only at c0 c1 c2 c3 hst hfa
   obtain ⟨no,hno⟩:∃b,bJ nm=b:=⟨_,rfl⟩
   have C1:=aA (fun wx=>by have:=lF (bs nm) wx (by rw [dI];exact hfa);rw [show bJ (bs nm).data.toList=no by rw [←hno];simp [bs]] at this;exact this)
   obtain ⟨l1,hl1⟩:∃b,Op.bytesLess (bs nm).toList (bs last).toList=b:=⟨_,rfl⟩
   obtain ⟨l2,hl2⟩:∃b,((bs nm).toList==(bs last).toList)=b:=⟨_,rfl⟩
   have hst2:=aA (show bO clock last (ms.drop k)=(!(l1||l2)&&(no&&(decide (0≤se)&&(decide (se≤clock)&&bO clock nm (ms.drop (k+1)))))) by rw [uH hst,leT,hl1,hl2,hno])
   have hb2:=yA (yH _ wr) (.cells #[.string (bs nm),.int .i64 me,.int .i64 cp,.int .i64 se] 104)
   have P2:=aA ((uH P1).below hb2)
   have HB2:=aA (yB (uH HB) hb2)
   have p1:=(uH P2).at 1
   simp at p1
   clear hq hs hkl hfa hb2 hno hst CC
   cases l1<;>cases l2
   case false.false=>
    go_wp2_with fail
    refine (uH C1 _).mono ?_
    rintro e w1 ⟨rfl,rfl⟩
    cases no with
    | false=>
     go_wp2
     go_ret
     exact ⟨yF (by rw [uH HO,uH hst2];simp),uH HB2⟩
    | true=>
    by_cases h1:0≤se
    case neg=>
     have h1':se<0:=by omega
     go_wp2
     go_ret
     exact ⟨yF (by rw [uH HO,uH hst2,decide_eq_false (show ¬0≤se by omega)];simp),uH HB2⟩
    by_cases h2:se≤clock
    case neg=>
     have h1':¬se<0:=by omega
     have h2':clock<se:=by omega
     go_wp2
     go_ret
     exact ⟨yF (by rw [uH HO,uH hst2,decide_eq_false (show ¬se≤clock by omega)];simp),uH HB2⟩
    have h1':¬se<0:=by omega
    have h2':¬clock<se:=by omega
    have HO2:=aA (show o=(bO clock nm (ms.drop (k+1))&&co) by rw [uH HO,uH hst2,decide_eq_true h1,decide_eq_true h2];simp)
    go_wp2
    go_roundw
    case rel=>exact ⟨k+1,nm,by omega,by go_num,rfl,HO2,P2,HB2⟩
    case measure=>simp [intOf];omega
   all_goals
    go_wp2
    go_ret
    exact ⟨yF (by rw [uH HO,uH hst2];simp),uH HB2⟩
  ·have HO2:=aA (show o=co by rw [uH HO,aBS (by have:=uH HL;omega)];simp)
   have p0:=(uH P1).at 0;have p1:=(uH P1).at 1;have p2:=(uH P1).at 2;have p3:=(uH P1).at 3
   have p4:=(uH P1).at 4;have p5:=(uH P1).at 5;have p6:=(uH P1).at 6;have p7:=(uH P1).at 7
   simp at p0 p1 p2 p3 p4 p5 p6 p7
   go_wp2_with fail
   refine (uH CC _ (uH HB)).mono ?_
   rintro e w1 ⟨rfl,hb⟩
   have HB2:=aA (yA (yB (uH HB) hb) (.cells #[.int .i64 cx,.int .i64 cy] 36))
   clear hb CC
   go_wp2
   go_ret
   exact ⟨yF (by rw [uH HO2]),uH HB2⟩
theorem aGs (B:Nat) (w:World):dA B w (.slice none 0 0) []:=World.ownsRow_nil _ _ _ _
theorem dA.open {B:Nat} {w:World} {v:Value} {ps:List (List UInt8)} (h:dA B w v ps):∃ao cap,v=.slice ao ps.length cap∧∀j (hj:j<ps.length),∃g,ao=some ⟨g,0,none⟩∧w.cell? ⟨g,j,none⟩=some (.string (bs ps[j])):=by
 by_cases hp:ps=[]
 ·subst hp
  obtain ⟨a,c,rfl⟩:=jT h
  exact ⟨a,c,rfl,fun j hj=>by simp at hj⟩
 ·obtain ⟨g,c,rfl,hs,_⟩:=jS h hp
  exact ⟨_,c,rfl,fun j hj=>⟨g,rfl,hs.text hj⟩⟩
theorem aGH (ao:Option Addr) (len cap:Nat) (l:List Q) (w:World) (h:iG w ao len l) (hl:len≤1048576) (hn:∀q ∈ l,q.name.length≤1048576) (hc:len≤cap) :
  Calls Tryz.prog 168 #[.slice ao len cap] w fun e w'=>∃v,e=.returned v∧dA w.heap.size w' v (fC l)∧Below w.heap.size w w':=by
 obtain ⟨i0,hi,hz0,hz1,hz2⟩:=info_parts Tryz.infoS
 have HR:=aA h
 have HL:=aA h.1
 have HN:=aA hn
 have CQ:=aA (eU ao len cap l w h hl hn hc)
 have CL:=aA (fun x wx (hb:Below w.heap.size w wx)=>aEx ao len cap l x wx (h.below hb) hl)
 have HLF:=aA (fun x=>wV l x)
 obtain ⟨ok,hok⟩:∃ok,aF l=ok:=⟨_,rfl⟩
 rw [hok] at CQ HLF
 have HOK:=aA hok
 clear h hn hok
 go_enter Tryz.func168,Tryz.ntmps168
 go_wp2_with fail
 refine (uH CQ).mono ?_
 rintro e w1 ⟨rfl,hb⟩
 have HB1:=aA hb
 clear hb CQ
 cases ok
 case false=>
  go_wp2
  go_ret
  exact ⟨_,rfl,by rw [uA (uH HOK)];exact aGs _ _,uH HB1⟩
 go_wp2
 go_loopw [3,5,11] (fun v _ i wr=>∃(k:Nat) (o:List ByteArray),k≤len∧i=.int .i64 k∧o.length≤k∧Hid (o=(((l.take k).map Q.name).filter (aFB l)).map bs)∧Hid (wr.ownsRow w.heap.size 9 1 v o.length (gY o))∧Hid (Below w.heap.size w wr)) (fun _ _ i _=>len - (intOf i).toNat)
 case atStart=>exact ⟨0,[],Nat.zero_le _,rfl,yJ _,aA (by simp),aA (World.ownsRow_nil _ _ _ _),HB1⟩
 case round=>
  obtain ⟨k,o,hk,rfl,hol,HO,HS,HB⟩:=hrel
  by_cases hlt:k<len
  ·have HR2:=aA ((uH HR).below (uH HB))
   obtain ⟨b,off,rfl,hq⟩:=(uH HR2).at hlt
   have hkl:k<l.length:=by have:=uH HL;omega
   obtain ⟨c0,c1,c2,c3⟩:=hq hkl
   have hz:=uH HN l[k] (yM _)
   have htk:=List.take_succ_eq_append_getElem hkl
   clear hq
   obtain ⟨⟨nm,pa,du,mo⟩,hs⟩:∃s,l[k]=s:=⟨_,rfl⟩
   rw [hs] at c0 c1 c2 c3 hz htk
   simp only at c0 c1 c2 c3 hz
   have HTK:=aA htk
   have HA:=aA (mF.new wr ⟨nm,pa,du,mo⟩)
   have HB2:=aA (yA (uH HB) (aGi ⟨nm,pa,du,mo⟩))
   have HS2:=aA ((uH HS).alloc (aGi ⟨nm,pa,du,mo⟩))
   obtain ⟨f,hf⟩:∃f,aId l nm=f:=⟨_,rfl⟩
   have CL1:=aA (fun wx hb=>by have:=uH CL nm wx hb;rw [hf] at this;exact this)
   have HLF1:=aA (show aFB l nm=f by rw [uH HLF,hf];rfl)
   have hsz:(bs nm).size≤281474976710656:=by rw [dI];omega
   have k0:=(uH HA).c0
   simp only at k0
   clear hs hkl hf htk hz HR2
   go_wp2_with fail
   refine (uH CL1 _ (uH HB2)).mono ?_
   rintro e w2 ⟨rfl,hb⟩
   have HA3:=aA ((uH HA).below hb)
   have HB3:=aA (yB (uH HB2) hb)
   have HS3:=aA (lL (uH HS2) hb)
   clear hb HA HB2 HS2 k0 HB HS
   cases f with
   | false=>
    go_wp2
    go_roundw
    case rel=>exact ⟨k+1,o,by omega,by go_num,by omega,aA (by rw [uH HTK,List.map_append,List.filter_append];simp only [List.map_cons,List.map_nil,List.filter_cons,uH HLF1,List.filter_nil];rw [if_neg (by simp),List.append_nil];exact uH HO),HS3,HB3⟩
    case measure=>simp [intOf];omega
   | true=>
    have k0:=(uH HA3).c0
    simp only at k0
    go_wp2_with fail
    refine (iE (bs nm) _ hsz).mono ?_
    rintro e w3 ⟨rfl,hb⟩
    have hown:=lL (uH HS3) hb
    have hbel:=yB (uH HB3) hb
    have hwz:=hbel.size
    clear hb HA3 HB3 HS3 k0
    go_wp2_with (at_builtin;refine wpList_append_own _ rfl _ _ 175 rfl w.heap.size 9 i0 (.string ByteArray.empty) 1 16 Tryz.underlying175 hi hz0 hz1 hz2 rfl (by decide) _ _ _ rfl (hown.alloc _) ⟨w3.heap.size,0,none⟩ 1 1 [.string (bs nm)] rfl rfl ?c1 ?c2 ?c3 ?c4 ?c5 ?_)
    case c1=>intro j v hj;match j,hj with | 0,hj=>simp at hj;subst hj;simp [Addr.add]
    case c2=>intro v hv;simp at hv;subst hv;rfl
    case c3=>unfold maxLen;omega
    case c4=>omega
    case c5=>simp;omega
    intro v' w4 hown' hgrow _
    have R:=aA (aBx hbel hown hown' hgrow (by omega))
    clear hown' hgrow hown hbel
    go_wp2
    go_roundw
    case rel=>exact ⟨k+1,o++[bs nm],by omega,by go_num,by simp;omega,aA (by rw [uH HTK,List.map_append,List.filter_append];simp only [List.map_cons,List.map_nil,List.filter_cons,uH HLF1,List.filter_nil];rw [if_pos (by first | rfl | trivial),List.map_append,←uH HO];rfl),aA (uH R).1,aA (uH R).2⟩
    case measure=>simp [intOf];omega
  ·have hkk:k=len:=by omega
   subst hkk
   go_wp2
   go_ret
   refine ⟨_,rfl,dA.of (uH HS) ?_,uH HB⟩
   rw [uH HO,List.take_of_length_le (by have:=uH HL;omega)]
   rfl
end
section
open Go.RowKit Go.Maps
theorem zT (x:Sls) (s:St) (nm:List UInt8) (w:World) (h:jC w x s) (hf:bD s) (hnm:nm.length≤1048576) :
    Calls Tryz.prog 134 #[sv x s,.string (bs nm)] w fun e w'=>e=.returned (rv (fI s nm).1 (fI s nm).2)∧Below w.heap.size w w':=by
  have hml:x.ml≤1048576:=by have:=h.len.2.2.1;have:=hf.2.2.1.1;omega
  have hcl:x.cl≤1048576:=by have:=h.len.2.2.2;have:=hf.2.2.2.1;omega
  have CM:=aA (fun wx (hb:Below w.heap.size w wx)=>pM x s wx (h.2.2.1.below hb) hml (fun m hm=>hf.2.2.1.2 m hm))
  have CU:=aA (fun wx (hb:Below w.heap.size w wx)=>zQ x s nm wx (h.2.2.2.below hb) hcl)
  obtain ⟨kl,hkey⟩:=aAa (nm:=nm) (k:=0) (by omega) (by decide)
  have HKEY:=aA hkey
  have HFV:=aA (show fI s nm=match bF nm s.ms with | none=>(0,0) | some m=>aCc m.mem m.cpu (fV s nm).1 (fV s nm).2 from rfl)
  obtain ⟨⟨ux,uy⟩,hu⟩:∃u,fV s nm=u:=⟨_,rfl⟩
  obtain ⟨⟨fx,fy⟩,hfr⟩:∃u,fI s nm=u:=⟨_,rfl⟩
  rw [hu] at CU HFV
  rw [hfr] at HFV ⊢
  clear h hf hu hfr hkey
  obtain ⟨qa,ql,qc,aa,al,ac,ma,ml,mc,ca,cl,cc⟩:=x
  obtain ⟨qs,clock,epoch,next,serial,apps,ms,cs⟩:=s
  simp only at HFV
  have HB0:=aA (cK w (svc ⟨qa,ql,qc,aa,al,ac,ma,ml,mc,ca,cl,cc⟩ ⟨qs,clock,epoch,next,serial,apps,ms,cs⟩))
  have V0:=aA (iF w (svc ⟨qa,ql,qc,aa,al,ac,ma,ml,mc,ca,cl,cc⟩ ⟨qs,clock,epoch,next,serial,apps,ms,cs⟩))
  have P0:=aA ((fD w (svc ⟨qa,ql,qc,aa,al,ac,ma,ml,mc,ca,cl,cc⟩ ⟨qs,clock,epoch,next,serial,apps,ms,cs⟩)).al (.cells #[.int .i64 0,.int .i64 0] 36))
  go_enter Tryz.func134,Tryz.ntmps134
  go_wp2_with fail
  refine (uH CM _ (uH HB0)).mono ?_
  rintro e w1 ⟨bm,rfl,⟨hbm,D,hown,hk⟩,hb⟩
  have hlk:=aKT hown hk (uH HKEY)
  have HB1:=aA (yB (uH HB0) hb)
  have V1:=aA ((uH V0).below hb)
  have P1:=aA ((uH P0).below hb)
  clear hb HB0 V0 P0 CM hown hk hbm
  cases hfm:bF nm ms with
  | none=>
    rw [hfm] at hlk HFV
    simp only at HFV
    have hz:=uH HFV
    simp only [Prod.mk.injEq] at hz
    obtain ⟨rfl,rfl⟩:=hz
    rw [show (none:Option Mac).getD ⟨[],0,0,0⟩=⟨[],0,0,0⟩ from rfl,show (none:Option Mac).isSome=false from rfl] at hlk
    have V2:=(uH V1).al (tY ⟨[],0,0,0⟩)
    have t0:=V2.c0
    have t1:=V2.c1
    have f0:=V2.f 0
    have f1:=V2.f 1
    have k4:=V2.s0 (.int .i64 0)
    have k5:=V2.s1 (.int .i64 0) (.int .i64 0)
    clear V2
    go_wp2
    refine bodyPost_ret (v:=rv 0 0) (by simp [results,Tryz.results134,go_sem,k4,k5]) rfl ⟨rfl,?_⟩
    repeat (first | exact uH HB1 | refine yA ?_ _ | refine yC ?_ _ _ _ (by omega))
  | some m=>
    rw [hfm] at hlk HFV
    rw [show (some m).getD ⟨[],0,0,0⟩=m from rfl,show (some m).isSome=true from rfl] at hlk
    obtain ⟨mn,me,mp,se⟩:=m
    simp only at HFV
    have HRV:=aA (show jQ (-1) me mp ux uy=rv fx fy by rw [aCb,←uH HFV])
    have CB:=aA (fun wx=>by have:=pO me mp ux uy wx;rw [uH HRV] at this;exact this)
    obtain ⟨ok,hok⟩:∃o,aI (-1) me mp ux uy=o:=⟨_,rfl⟩
    rw [hok] at CB
    clear hok HRV HFV hfm
    obtain ⟨L,R,VR,h0⟩:∃L:List (Nat×Array Value×TypeId),(∀wx,aJh w (w1.heap.size+1) L wx→wx.cell? ⟨w1.heap.size,1,none⟩=some (.int .i64 me)∧wx.cell? ⟨w1.heap.size,2,none⟩=some (.int .i64 mp)∧wx.cell? ⟨w.heap.size,0,none⟩=some (.slice qa ql qc)∧wx.cell? ⟨w.heap.size,1,none⟩=some (.int .i64 clock)∧wx.cell? ⟨w.heap.size,2,none⟩=some (.int .i64 epoch)∧wx.cell? ⟨w.heap.size,3,none⟩=some (.int .i64 next)∧wx.cell? ⟨w.heap.size,4,none⟩=some (.int .i64 serial)∧wx.cell? ⟨w.heap.size,5,none⟩=some (.slice aa al ac)∧wx.cell? ⟨w.heap.size,6,none⟩=some (.slice ma ml mc)∧wx.cell? ⟨w.heap.size,7,none⟩=some (.slice ca cl cc))
        ∧(∀wx,aJh w (w1.heap.size+1) L wx→Var wx 36 (w.heap.size+1) 0 0)∧aJh w (w1.heap.size+1) L (w1.alloc (tY ⟨mn,me,mp,se⟩)):=by
      have l1:=(uH V1).lt
      have l2:=(uH P1).lt
      refine ⟨[(w.heap.size,svc ⟨qa,ql,qc,aa,al,ac,ma,ml,mc,ca,cl,cc⟩ ⟨qs,clock,epoch,next,serial,apps,ms,cs⟩,34),(w.heap.size+1,#[.int .i64 0,.int .i64 0],36),(w1.heap.size,#[.string (bs mn),.int .i64 me,.int .i64 mp,.int .i64 se],104)],fun wx h=>?_,fun wx h=>?_,?_⟩
      · have a:=h.blk (p:=(w.heap.size,svc ⟨qa,ql,qc,aa,al,ac,ma,ml,mc,ca,cl,cc⟩ ⟨qs,clock,epoch,next,serial,apps,ms,cs⟩,34)) (by simp)
        have b:=h.blk (p:=(w1.heap.size,#[.string (bs mn),.int .i64 me,.int .i64 mp,.int .i64 se],104)) (by simp)
        exact ⟨b.at 1,b.at 2,a.at 0,a.at 1,a.at 2,a.at 3,a.at 4,a.at 5,a.at 6,a.at 7⟩
      · exact (h.blk (p:=(w.heap.size+1,#[.int .i64 0,.int .i64 0],36)) (by simp)).var
      · refine ⟨fun p hp=>?_,by rw [yE];omega,by omega,yA (uH HB1) _⟩
        simp only [List.mem_cons,List.not_mem_nil,or_false] at hp
        rcases hp with rfl | rfl | rfl
        · exact ⟨by simp only;omega,(uH P1).al _⟩
        · exact ⟨by simp only;omega,(uH V1).blk.al _⟩
        · exact ⟨by simp only;omega,yD _ _ _⟩
    have A0:=aA h0
    have HS:=aA (aGO w (w1.heap.size+1) L)
    clear h0
    go_wp2_with fail
    go_cut [7,8] from 20 to 28 (fun v7 v8 wx=>∃g,v7=.pointer (some ⟨g,0,none⟩)∧v8=.bool ok∧aJh w (w1.heap.size+1) L wx∧Var wx 36 g fx fy∧w1.heap.size+1≤g)
    case first=>
      go_region_held3 (fun wx=>aJh w (w1.heap.size+1) L wx)
        (first | (with_reducible assumption) | exact uH SA | exact (uH HS).drew (uH A0) | exact (uH HS).al (uH SA) _ | exact (uH HS).al (by assumption) _ | exact (uH HS).al ((uH HS).drew (uH A0)) _ | exact (uH HS).call (by assumption) (by assumption) | exact (uH HS).set2 (uH SA) _ _ _ (by first | omega | (simp<;>omega)) | exact (uH HS).set2 (by assumption) _ _ _ (by first | omega | (simp<;>omega)))
        (first
        | (go_at_call 166;refine (uH CU _ ?_).mono ?_;(exact (uH HS).below (by assumption));rintro e wt ⟨rfl,hb⟩;have SA:=aA ((uH HS).call (by assumption) hb);have sz:=(uH HS).size (uH SA)
           first
             | (have V5:=(aH _ 36 0 0).below hb;(try simp at V5);have c50:=V5.c0;have c51:=V5.c1;have f50:=V5.f 0;have f51:=V5.f 1;have V5:=aA V5)
             | (have V5:=(aH _ 36 0 0).drew.below hb;(try simp at V5);have c50:=V5.c0;have c51:=V5.c1;have f50:=V5.f 0;have f51:=V5.f 1;have V5:=aA V5)
             | skip)
        | (go_at_call 123;refine (uH CB _).mono ?_;rintro e wt ⟨rfl,hb⟩;have SA:=aA ((uH HS).call (by assumption) hb);have sz:=(uH HS).size (uH SA)
           first
             | (have V5:=(aH _ 36 0 0).below hb;(try simp at V5);have c50:=V5.c0;have c51:=V5.c1;have f50:=V5.f 0;have f51:=V5.f 1;have V5:=aA V5)
             | (have V5:=(aH _ 36 0 0).drew.below hb;(try simp at V5);have c50:=V5.c0;have c51:=V5.c1;have f50:=V5.f 0;have f51:=V5.f 1;have V5:=aA V5)
             | (have V5:=aA ((uH V5).below hb);have c50:=(uH V5).c0;have c51:=(uH V5).c1;have f50:=(uH V5).f 0;have f51:=(uH V5).f 1)
             | skip))
      all_goals
        go_wp2_with fail
        go_meet
        exact ⟨_,rfl,rfl,by first | assumption | exact uH SA | exact (uH HS).al (uH SA) _,by first | exact aH _ _ _ _ | exact (uH V5).set _ _,by first | omega | (simp<;>omega)⟩
    case rest=>
      obtain ⟨g,rfl,rfl,hA,hV,hg⟩:=hcut
      have HB2:=aA ((uH HS).below hA)
      have v0:=hV.c0
      have v1:=hV.c1
      have V2:=VR _ hA
      have t0:=V2.c0
      have t1:=V2.c1
      have f0:=V2.f 0
      have f1:=V2.f 1
      have k4:=V2.s0 (.int .i64 fx)
      have k5:=V2.s1 (.int .i64 fx) (.int .i64 fy)
      clear hA hV A0 CB CU R VR V2 V1 P1 HB1
      go_wp2
      refine bodyPost_ret (v:=rv fx fy) (by simp [results,Tryz.results134,go_sem,k4,k5]) rfl ⟨rfl,?_⟩
      repeat (first | exact uH HB2 | refine yA ?_ _ | refine yC ?_ _ _ _ (by omega))
end
section
open Go.RowKit
theorem zA (x:Sls) (s:St) (nd:List UInt8) (w:World) (h:bC w x.ca x.cl s.cs) (hl:x.cl≤1048576) :
  Calls Tryz.prog 161 #[sv x s,.string (bs nd)] w fun e w'=>e=.returned (rv (gX (aJ (fun q=>decide (q.node=nd)) s.cs)).1 (gX (aJ (fun q=>decide (q.node=nd)) s.cs)).2.1)∧Below w.heap.size w w':=by
 have hlc:(aJ (fun q=>decide (q.node=nd)) s.cs).length≤1048576:=by have:=h.1;have:(aJ (fun q:Con=>decide (q.node=nd)) s.cs).length≤s.cs.length:=(by simp only [aJ,List.length_map];exact List.length_filter_le _ _);omega
 have HR:=aA h
 clear h
 obtain ⟨⟨sx,sy,so⟩,hs⟩:∃y,gX (aJ (fun q=>decide (q.node=nd)) s.cs)=y:=⟨_,rfl⟩
 have CC:=aA (fun wx (hb:Below w.heap.size w wx)=>aCh x s nd wx ((uH HR).below hb) hl)
 have CS:=aA (fun ao cap wx (h:aGd wx ao (aJ (fun q=>decide (q.node=nd)) s.cs).length (aJ (fun q=>decide (q.node=nd)) s.cs))=>by have:=lQ ao _ cap (aJ (fun q=>decide (q.node=nd)) s.cs) wx h hlc;rw [hs] at this;exact this)
 rw [hs]
 clear hs
 obtain ⟨qa,ql,qc,aa,al,ac,ma,ml,mc,ca,cl,cc⟩:=x
 obtain ⟨qs,clock,epoch,next,serial,apps,ms,cs⟩:=s
 simp only at CC CS hlc
 go_enter Tryz.func161,Tryz.ntmps161
 go_wp2_with fail
 refine (uH CC _ (cK w _)).mono ?_
 rintro e w1 ⟨v,rfl,ho,hb⟩
 obtain ⟨ao,cp,rfl,hrow,_⟩:=ho.row
 have V1:=(iF w _).below hb
 have HV1:=aA V1
 have HB1:=aA (yB (cK w _) hb)
 have HROW:=aA hrow
 obtain ⟨n,hn⟩:∃n,(aJ (fun q=>decide (q.node=nd)) cs).length=n:=⟨_,rfl⟩
 rw [hn] at CS HROW ⊢
 clear hb V1 CC ho hrow hn hlc
 go_wp2_with fail
 refine (uH CS _ _ _ (uH HROW)).mono ?_
 rintro e w2 ⟨rfl,hb⟩
 have V1:=(uH HV1).below hb
 have HB2:=aA (yB (uH HB1) hb)
 have V2:=V1.al (.cells #[.int .i64 sx,.int .i64 sy] 36)
 have t0:=V2.c0
 have t1:=V2.c1
 have f0:=V2.f 0
 have f1:=V2.f 1
 have VG:=V2.set sx sy
 have k6:=VG.c0
 have k7:=VG.c1
 clear hb V1 V2 VG CS HV1 HB1 HROW
 go_wp2
 refine bodyPost_ret (v:=rv sx sy) (by simp [results,Tryz.results161,go_sem,k6,k7]) rfl ⟨rfl,?_⟩
 repeat (first | exact uH HB2 | refine yA ?_ _ | refine yC ?_ _ _ _ (by omega))
theorem jC.cl {w:World} {x:Sls} {s:St} (h:jC w x s) (hf:bD s):x.cl≤1048576:=by have:=h.len.2.2.2;have:=hf.2.2.2.1;omega
theorem aBy (x:Sls) (s:St) (nd:List UInt8) (w:World) (h:bC w x.ca x.cl s.cs) (hl:x.cl≤1048576) :
  Calls Tryz.prog 161 #[sv x s,.string (bs nd)] w fun e w'=>e=.returned (rv (fV s nd).1 (fV s nd).2)∧Below w.heap.size w w':=zA x s nd w h hl
end
section
open Go.RowKit Go.Maps
theorem zD (x:Sls) (s:St) (nm:List UInt8) (w:World) (h:jC w x s) (hf:bD s) :
    Calls Tryz.prog 131 #[sv x s,.string (bs nm)] w fun e w'=>e=.returned (rv (fI s nm).1 (fI s nm).2)∧Below w.heap.size w w':=by
  have hml:x.ml≤1048576:=by have:=h.len.2.2.1;have:=hf.2.2.1.1;omega
  have hcl:x.cl≤1048576:=by have:=h.len.2.2.2;have:=hf.2.2.2.1;omega
  have CM:=aA (fun wx (hb:Below w.heap.size w wx)=>iX x s nm wx (h.2.2.1.below hb) hml)
  have CU:=aA (fun wx (hb:Below w.heap.size w wx)=>aBy x s nm wx (h.2.2.2.below hb) hcl)
  have HFV:=aA (show fI s nm=match bF nm s.ms with | none=>(0,0) | some m=>aCc m.mem m.cpu (fV s nm).1 (fV s nm).2 from rfl)
  have HMR:=aA (fun wx (hb:Below w.heap.size w wx)=>h.2.2.1.below hb)
  have HML:=aA h.2.2.1.1
  have hat:=oI nm s.ms
  obtain ⟨⟨ux,uy⟩,hu⟩:∃u,fV s nm=u:=⟨_,rfl⟩
  obtain ⟨⟨fx,fy⟩,hfr⟩:∃u,fI s nm=u:=⟨_,rfl⟩
  obtain ⟨at0,ha⟩:∃p,wU s.ms nm=p:=⟨_,rfl⟩
  rw [hu] at CU HFV
  rw [hfr] at HFV ⊢
  rw [ha] at CM hat
  clear h hf hu hfr ha
  obtain ⟨qa,ql,qc,aa,al,ac,ma,ml,mc,ca,cl,cc⟩:=x
  obtain ⟨qs,clock,epoch,next,serial,apps,ms,cs⟩:=s
  simp only at HFV HMR HML hat
  have HB0:=aA (cK w (svc ⟨qa,ql,qc,aa,al,ac,ma,ml,mc,ca,cl,cc⟩ ⟨qs,clock,epoch,next,serial,apps,ms,cs⟩))
  have V0:=aA (iF w (svc ⟨qa,ql,qc,aa,al,ac,ma,ml,mc,ca,cl,cc⟩ ⟨qs,clock,epoch,next,serial,apps,ms,cs⟩))
  have P0:=aA ((fD w (svc ⟨qa,ql,qc,aa,al,ac,ma,ml,mc,ca,cl,cc⟩ ⟨qs,clock,epoch,next,serial,apps,ms,cs⟩)).al (.cells #[.int .i64 0,.int .i64 0] 36))
  go_enter Tryz.func131,Tryz.ntmps131
  go_wp2_with fail
  refine (uH CM _ (uH HB0)).mono ?_
  rintro e w1 ⟨rfl,hb⟩
  have HB1:=aA (yB (uH HB0) hb)
  have V1:=aA ((uH V0).below hb)
  have P1:=aA ((uH P0).below hb)
  clear hb HB0 V0 P0 CM
  rcases hat with ⟨hfm,rfl⟩ | ⟨j,hj,hfm,rfl⟩
  · rw [hfm] at HFV
    simp only at HFV
    have hz:=uH HFV
    simp only [Prod.mk.injEq] at hz
    obtain ⟨rfl,rfl⟩:=hz
    have V2:=uH V1
    have t0:=V2.c0
    have t1:=V2.c1
    have f0:=V2.f 0
    have f1:=V2.f 1
    have k4:=V2.s0 (.int .i64 0)
    have k5:=V2.s1 (.int .i64 0) (.int .i64 0)
    clear V2
    go_wp2
    refine bodyPost_ret (v:=rv 0 0) (by simp [results,Tryz.results131,go_sem,k4,k5]) rfl ⟨rfl,?_⟩
    repeat (first | exact uH HB1 | refine yA ?_ _ | refine yC ?_ _ _ _ (by omega))
  · rw [hfm] at HFV
    have hjl:j<ml:=by have:=uH HML;omega
    obtain ⟨mb,mo,rfl,hq⟩:=(uH HMR _ (uH HB1)).at hjl
    have HQ:=aA (hq hj)
    obtain ⟨⟨mn,me,mp,se⟩,hs⟩:∃m,ms[j]=m:=⟨_,rfl⟩
    rw [hs] at HQ HFV
    simp only at HFV
    have HRV:=aA (show jQ (-1) me mp ux uy=rv fx fy by rw [aCb,←uH HFV])
    have CB:=aA (fun wx=>by have:=aDc me mp ux uy wx;rw [uH HRV] at this;exact this)
    obtain ⟨ok,hok⟩:∃o,aI (-1) me mp ux uy=o:=⟨_,rfl⟩
    rw [hok] at CB
    have j0:(0:Int)≤j:=by omega
    have j1:(j:Int)<ml:=by omega
    clear hok HRV HFV hfm hq hs hj
    have R:∀wx,Kp w1 wx→wx.cell? ⟨w.heap.size,0,none⟩=some (.slice qa ql qc)∧wx.cell? ⟨w.heap.size,1,none⟩=some (.int .i64 clock)∧wx.cell? ⟨w.heap.size,2,none⟩=some (.int .i64 epoch)∧wx.cell? ⟨w.heap.size,3,none⟩=some (.int .i64 next)∧wx.cell? ⟨w.heap.size,4,none⟩=some (.int .i64 serial)∧wx.cell? ⟨w.heap.size,5,none⟩=some (.slice aa al ac)∧wx.cell? ⟨w.heap.size,6,none⟩=some (.slice (some ⟨mb,mo,none⟩) ml mc)∧wx.cell? ⟨w.heap.size,7,none⟩=some (.slice ca cl cc)∧wx.cell? ⟨mb,mo+j*4+1,none⟩=some (.int .i64 me)∧wx.cell? ⟨mb,mo+j*4+2,none⟩=some (.int .i64 mp):=fun wx h=>
      ⟨h.cell ((uH P1).at 0),h.cell ((uH P1).at 1),h.cell ((uH P1).at 2),h.cell ((uH P1).at 3),h.cell ((uH P1).at 4),h.cell ((uH P1).at 5),h.cell ((uH P1).at 6),h.cell ((uH P1).at 7),h.cell (uH HQ).2.1,h.cell (uH HQ).2.2.1⟩
    have A0:=aA (Kp.new w1)
    have HS:=aA (dE w1)
    have hw1:=(uH V1).lt
    go_wp2_with fail
    go_cut [6,7] from 14 to 26 (fun v7 v8 wx=>∃g,v7=.pointer (some ⟨g,0,none⟩)∧v8=.bool ok∧Kp w1 wx∧Var wx 36 g fx fy∧w1.heap.size≤g)
    case first=>
      go_region_held3 (fun wx=>Kp w1 wx)
        (first | (with_reducible assumption) | exact uH SA | exact (uH HS).drew (uH A0) | exact (uH HS).al (uH SA) _ | exact (uH HS).al (by assumption) _ | exact (uH HS).al ((uH HS).drew (uH A0)) _ | exact (uH HS).call (by assumption) (by assumption) | exact (uH HS).set2 (uH SA) _ _ _ (by first | omega | (simp<;>omega)) | exact (uH HS).set2 (by assumption) _ _ _ (by first | omega | (simp<;>omega)))
        (first
        | (go_at_call 161;refine (uH CU _ ?_).mono ?_;(exact yB (uH HB1) ((uH HS).below (by assumption)));rintro e wt ⟨rfl,hb⟩;have SA:=aA ((uH HS).call (by assumption) hb);have sz:=(uH HS).size (uH SA)
           first
             | (have V5:=(aH _ 36 0 0).below hb;(try simp at V5);have c50:=V5.c0;have c51:=V5.c1;have f50:=V5.f 0;have f51:=V5.f 1;have V5:=aA V5)
             | (have V5:=(aH _ 36 0 0).drew.below hb;(try simp at V5);have c50:=V5.c0;have c51:=V5.c1;have f50:=V5.f 0;have f51:=V5.f 1;have V5:=aA V5)
             | skip)
        | (go_at_call 160;refine (uH CB _).mono ?_;rintro e wt ⟨rfl,hb⟩;have SA:=aA ((uH HS).call (by assumption) hb);have sz:=(uH HS).size (uH SA)
           first
             | (have V5:=(aH _ 36 0 0).below hb;(try simp at V5);have c50:=V5.c0;have c51:=V5.c1;have f50:=V5.f 0;have f51:=V5.f 1;have V5:=aA V5)
             | (have V5:=(aH _ 36 0 0).drew.below hb;(try simp at V5);have c50:=V5.c0;have c51:=V5.c1;have f50:=V5.f 0;have f51:=V5.f 1;have V5:=aA V5)
             | (have V5:=aA ((uH V5).below hb);have c50:=(uH V5).c0;have c51:=(uH V5).c1;have f50:=(uH V5).f 0;have f51:=(uH V5).f 1)
             | skip))
      all_goals
        go_wp2_with fail
        go_meet
        exact ⟨_,rfl,rfl,by first | assumption | exact uH SA | exact (uH HS).al (uH SA) _,by first | exact aH _ _ _ _ | exact (uH V5).set _ _,by first | omega | (simp<;>omega)⟩
    case rest=>
      obtain ⟨g,rfl,rfl,hA,hV,hg⟩:=hcut
      have HB2:=aA (yB (uH HB1) hA)
      have v0:=hV.c0
      have v1:=hV.c1
      have V2:=(uH V1).below hA
      have t0:=V2.c0
      have t1:=V2.c1
      have f0:=V2.f 0
      have f1:=V2.f 1
      have k4:=V2.s0 (.int .i64 fx)
      have k5:=V2.s1 (.int .i64 fx) (.int .i64 fy)
      clear hA hV A0 CB CU R V2 V1 P1 HB1
      go_wp2
      refine bodyPost_ret (v:=rv fx fy) (by simp [results,Tryz.results131,go_sem,k4,k5]) rfl ⟨rfl,?_⟩
      repeat (first | exact uH HB2 | refine yA ?_ _ | refine yC ?_ _ _ _ (by omega))
end
end Go.Proofs.YtdhibeclkdepiaaGreat
