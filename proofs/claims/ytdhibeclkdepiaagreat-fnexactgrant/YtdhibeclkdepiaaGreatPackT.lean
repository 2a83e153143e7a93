/-
  bI in one: CapsS, TotalB, OverM, QueuesOkI, LoneI, LvM, AboveI, GatherI, BackI, RoomM, OkB, OkC, OkD, LeavesI.
-/
import Derived.Test.YtdhibeclkdepiaaGreatPackQ
import Derived.Test.YtdhibeclkdepiaaGreatPackO
import Derived.Test.YtdhibeclkdepiaaGreatPackG
import Derived.Test.YtdhibeclkdepiaaGreatPackN
import Derived.Maps.AppendAt
import Derived.Test.YtdhibeclkdepiaaGreatPackR
set_option maxRecDepth 100000
set_option maxHeartbeats 16000000
set_option linter.unusedVariables false
set_option linter.unusedSimpArgs false
namespace Go.Proofs.YtdhibeclkdepiaaGreat
section
open Go.RowKit
theorem oP (x:Sls) (s:St) (w:World) (h:aZ w x.ma x.ml s.ms) (hl:x.ml≤1048576) :
  Calls Tryz.prog 163 #[sv x s] w fun e w'=>e=.returned (rv (gN (aX s.ms)).1 (gN (aX s.ms)).2.1)∧Below w.heap.size w w':=by
 have hlc:(aX s.ms).length≤1048576:=by have:=h.1;simp [aX];omega
 have HR:=aA h
 clear h
 obtain ⟨⟨sx,sy,so⟩,hs⟩:∃y,gN (aX s.ms)=y:=⟨_,rfl⟩
 have CC:=aA (fun wx (hb:Below w.heap.size w wx)=>vM x s wx ((uH HR).below hb) hl)
 have CS:=aA (fun ao cap wx (h:aF9 wx ao (aX s.ms).length (aX s.ms))=>by have:=kU ao _ cap (aX s.ms) wx h hlc;rw [hs] at this;exact this)
 rw [hs]
 clear hs
 obtain ⟨qa,ql,qc,aa,al,ac,ma,ml,mc,ca,cl,cc⟩:=x
 obtain ⟨qs,clock,epoch,next,serial,apps,ms,cs⟩:=s
 simp only at CC CS hlc
 go_enter Tryz.func163,Tryz.ntmps163
 go_wp2_with fail
 refine (uH CC _ (bV w _)).mono ?_
 rintro e w1 ⟨v,rfl,ho,hb⟩
 obtain ⟨ao,cp,rfl,hrow,_⟩:=ho.row
 have V1:=(gL w _).below hb
 have HV1:=aA V1
 have HB1:=aA (yB (bV w _) hb)
 have HROW:=aA hrow
 obtain ⟨n,hn⟩:∃n,(aX ms).length=n:=⟨_,rfl⟩
 rw [hn] at CS HROW ⊢
 clear hb V1 CC ho hrow hn hlc
 go_wp2_with fail
 refine (uH CS _ _ _ (uH HROW)).mono ?_
 rintro e w2 ⟨rfl,hb⟩
 have V1:=(uH HV1).below hb
 have HB2:=aA (yB (uH HB1) hb)
 have V2:=V1.al (.cells #[.int .i64 sx,.int .i64 sy] 36)
 have t0:=V2.c0
 have t1:=V2.c1
 have f0:=V2.f 0
 have f1:=V2.f 1
 have VG:=V2.set sx sy
 have k6:=VG.c0
 have k7:=VG.c1
 clear hb V1 V2 VG CS HV1 HB1 HROW
 go_wp2
 refine bodyPost_ret (v:=rv sx sy) (by simp [results,Tryz.results163,go_sem,k6,k7]) rfl ⟨rfl,?_⟩
 repeat (first | exact uH HB2 | refine yA ?_ _ | refine yC ?_ _ _ _ (by omega))
def dM (s:St):Int×Int:=((gN (aX s.ms)).1,(gN (aX s.ms)).2.1)
theorem iJ.ml {w:World} {x:Sls} {s:St} (h:iJ w x s) (hf:bS s):x.ml≤1048576:=by have:=h.len.2.2.1;have:=hf.2.2.1.1;omega
theorem iJ.al {w:World} {x:Sls} {s:St} (h:iJ w x s) (hf:bS s):x.al≤1048576:=by have:=h.len.2.1;have:=hf.2.1.1;omega
theorem iJ.ql {w:World} {x:Sls} {s:St} (h:iJ w x s) (hf:bS s):x.ql≤1048576:=by have:=h.len.1;have:=hf.1.1;omega
def aAf (s:St) (x:List UInt8):Int×Int:=ofR s.qs x (dM s).1 (dM s).2 false
theorem nA:aR 0 0=true:=by decide
theorem yH:∀(l:List (Int×Int)) (x y:Int),aR x y=true→aR (bJ l x y).1 (bJ l x y).2.1=true
 | [],x,y,h=>h
 | r::t,x,y,h=>by
  rw [bJ]
  by_cases hb:aK 1 x y r.1 r.2=true
  ·rw [if_pos hb]
   refine yH t _ _ ?_
   simp only [aK,Bool.and_eq_true] at hb
   exact hb.2
  ·rw [if_neg hb];exact nA
theorem aIl (l:List (Int×Int)):aR (gN l).1 (gN l).2.1=true:=yH l 0 0 nA
theorem aIj (s:St) (nm:List UInt8):aR (aL s nm).1 (aL s nm).2=true:=aIl _
theorem aGA (a b n:Int):aR (dO a b n) (dP a b n)=true:=by
 by_cases h:fB a b n=true
 ·have e1:dO a b n=a*n / 10000:=by rw [dO,if_pos h]
  have e2:dP a b n=b*n / 10000:=by rw [dP,if_pos h]
  rw [e1,e2]
  simp only [fB,aR,inB,Bool.and_eq_true,decide_eq_true_eq] at h ⊢
  obtain ⟨⟨⟨h1,h2⟩,h3,h4⟩,h5,h6⟩:=h
  have:=zB h1 h2 h5 h6
  have:=zB h3 h4 h5 h6
  omega
 ·have e1:dO a b n=0:=by rw [dO,if_neg h]
  have e2:dP a b n=0:=by rw [dP,if_neg h]
  rw [e1,e2];exact nA
theorem aJp (l:List Q) (most:Bool) {t:Int×Int} (h:aR t.1 t.2=true):∀p:List (List UInt8),aR (ofP l most t p).1 (ofP l most t p).2=true
 | []=>h
 | [_]=>h
 | n::m::r=>aGA _ _ _
theorem aJo (l:List Q) (nm:List UInt8) (a b:Int) (most:Bool):aR (ofR l nm a b most).1 (ofR l nm a b most).2=true:=by
 rw [ofR]
 split
 ·exact nA
 ·rename_i h
  refine aJp l most ?_ _
  cases hr:aR a b
  ·exact absurd (.inr hr) h
  ·rfl
theorem aKG (s:St) (nm:List UInt8):aR (aAf s nm).1 (aAf s nm).2=true:=aJo _ _ _ _ _
theorem gM.take {w:World} {ao:Option Addr} {len:Nat} {l:List Q} (h:gM w ao len l) {k:Nat} (hk:k≤len):gM w ao k (l.take k):=by
 obtain ⟨h1,h2⟩:=h
 refine ⟨by simp;omega,?_⟩
 rcases h2 with h2 | ⟨b,off,h3,h4⟩
 ·exact .inl (by omega)
 ·refine .inr ⟨b,off,h3,fun i hi=>?_⟩
  have:i<l.length:=by simp at hi;omega
  rw [List.getElem_take]
  exact h4 i this
theorem aKH (b off len cap k:Nat) (hk:k≤cap) (wx:World):(Instr.slice 29 (.slice (some ⟨b,off,none⟩) len cap) none (some (.int .i64 (k:Int))) none).run Tryz.prog wx=.ok (.slice (some ⟨b,off,none⟩) k cap) wx:=by
 rw [run_slice_h (P:=Tryz.prog) (w:=wx) 29 (some ⟨b,off,none⟩) len cap Tryz.underlying29 .i64 (k:Int) (by omega) (by omega)]
 rw [show (sizeOf (Tryz.prog.elem 29)).run Tryz.prog wx=.ok 4 wx from by kernel_rfl]
 simp [Result.andThen,sliced,Addr.add]
theorem dX (ao:Option Addr) (len cap:Nat) (l:List Q) (w:World) (h:gM w ao len l) (hl:len≤1048576) (hn:∀q ∈ l,q.name.length≤1048576) (hc:len≤cap) :
  Calls Tryz.prog 79 #[.slice ao len cap] w fun e w'=>e=.returned (.bool (aG l))∧Below w.heap.size w w':=by
 have HR:=aA h
 have HL:=aA h.1
 have HN:=aA hn
 have HQ:=aA (jV l)
 clear h hn
 go_enter Tryz.func79,Tryz.ntmps79
 go_wp2
 go_loopw [3,4,7] (fun _ _ i wr=>∃k:Nat,k≤len∧i=.int .i64 k∧Hid (okT (l.take k)=true)∧Hid (Below w.heap.size w wr)) (fun _ _ i _=>len - (intOf i).toNat)
 case atStart=>exact ⟨0,Nat.zero_le _,rfl,aA (by rw [List.take_zero];rfl),aA (Below.refl _ _)⟩
 case round=>
  obtain ⟨k,hk,rfl,HK,HB⟩:=hrel
  by_cases hlt:k<len
  ·have HR2:=aA ((uH HR).below (uH HB))
   obtain ⟨b,off,rfl,hq⟩:=(uH HR2).at hlt
   have hkl:k<l.length:=by have:=uH HL;omega
   have hst:=aA (pJ (l:=l) (k:=k) hkl)
   have hbad:=aA (@xD l (k+1))
   obtain ⟨c0,c1,c2,c3⟩:=hq hkl
   have hz:=uH HN l[k] (List.getElem_mem _)
   clear hq
   obtain ⟨⟨nm,pa,du,mo⟩,hs⟩:∃s,l[k]=s:=⟨_,rfl⟩
   rw [hs] at c0 c1 c2 c3 hst hz
   simp only at c0 c1 c2 c3
   have HA:=aA (lL.new wr ⟨nm,pa,du,mo⟩)
   have hb1:=yA (uH HB) (aFf ⟨nm,pa,du,mo⟩)
   have CF:=aA (fun wx (hb:Below w.heap.size w wx)=>aIN (some ⟨b,off,none⟩) k cap (l.take k) ⟨nm,pa,du,mo⟩ wx (((uH HR).below hb).take hk) (by omega) hz (aJB (uH HK)))
   obtain ⟨f,hf⟩:∃f,aDT (l.take k) ⟨nm,pa,du,mo⟩=f:=⟨_,rfl⟩
   rw [hf] at CF hst
   have hcut:=aKH b off len cap k (by omega)
   have HB1:=aA hb1
   have k0:=(uH HA).c0
   have k1:=(uH HA).c1
   have k2:=(uH HA).c2
   have k3:=(uH HA).c3
   simp only at k0 k1 k2 k3
   have hkc:(k:Int)≤cap:=by omega
   clear hs hkl hz hf HR2 hb1
   cases f with
   | false=>
    go_wp2_with fail
    go_region_with (go_at_call 114;refine (uH CF _ ?_).mono ?_;(exact (uH HB1).drew);rintro e w2 ⟨rfl,hb⟩)
    all_goals
     have HB2:=aA (yB (uH HB1).drew hb)
     clear hb
     go_wp2
     go_ret
     exact ⟨yF (by rw [uH HQ,uH hbad (by rw [uH hst];simp)];rfl),uH HB2⟩
   | true=>
    go_wp2_with fail
    go_region_with (go_at_call 114;refine (uH CF _ ?_).mono ?_;(exact (uH HB1).drew);rintro e w2 ⟨rfl,hb⟩)
    all_goals
     have HB2:=aA (yB (uH HB1).drew hb)
     clear hb
     go_wp2
     go_roundw
     case rel=>exact ⟨k+1,by omega,by go_num,aA (by rw [uH hst,uH HK];rfl),HB2⟩
     case measure=>simp [intOf];omega
  ·have hfin:=aA (show aG l=decide (0<len) by
    have e:k=l.length:=by have:=uH HL;omega
    have ho:=uH HK
    rw [e,List.take_length] at ho
    rw [uH HQ,ho,uH HL];rfl)
   by_cases h0:0<len
   ·go_wp2
    go_ret
    exact ⟨yF (by rw [uH hfin];simp [h0]),uH HB⟩
   ·go_wp2
    go_ret
    exact ⟨yF (by rw [uH hfin];simp [h0]),uH HB⟩
theorem aBY (nm:List UInt8):∀l:List Q,xE nm l = !(l.any (fun q=>decide (q.parent=nm)))
 | []=>rfl
 | q::t=>by rw [xE,aBY nm t,List.any_cons];by_cases h:q.parent=nm<;>simp [h]
theorem aGi (B:Nat) (nm:List UInt8) (q:Q) (w:World) (hc:w.cell? ⟨B,0,none⟩=some (.string (bs nm))) :
  Calls Tryz.prog 145 #[qv q,.pointer (some ⟨B,0,none⟩)] w fun e w'=>e=.returned (.bool (decide (q.parent=nm)))∧Below w.heap.size w w':=by
 have hlt:=yG hc
 have hc2:(w.alloc (.cells #[.string (bs q.name),.string (bs q.parent),.int .i64 q.due,.int .i64 q.most] 100)).cell? ⟨B,0,none⟩=some (.string (bs nm)):=by rw [World.cell?_alloc_lt _ _ ⟨B,0,none⟩ hlt];exact hc
 have hbe:=mV q.parent nm
 clear hc hlt
 go_enter Tryz.func145,Tryz.ntmps145
 go_wp2
 go_ret
 exact ⟨rfl,yA (Below.refl _ _) _⟩
theorem tQ (g:Nat) (lb:Array Value) (eg:∀args w,(callFunc g args).run Tryz.prog w=.ok (.enter g args) w) (p:Q→Bool) (ao:Option Addr) (len cap:Nat) (l:List Q) (w:World) (h:gM w ao len l) (hl:len≤1048576)
  (hp:∀wx q,Below w.heap.size w wx→Calls Tryz.prog g (#[qv q]++lb) wx fun e w'=>e=.returned (.bool (p q))∧Below wx.heap.size wx w') :
  Calls Tryz.prog 144 #[.slice ao len cap,.func (.func g) #[] lb] w fun e w'=>e=.returned (.bool (l.any p))∧Below w.heap.size w w':=by
 have C:=aA (pU g lb eg p ao len cap l w h hl hp)
 have HS:=aA (aGl p l 0)
 obtain ⟨i,hi⟩:∃i,gJ p l 0=i:=⟨_,rfl⟩
 obtain ⟨b,hb⟩:∃b,l.any p=b:=⟨_,rfl⟩
 rw [hi] at C HS
 rw [hb] at HS ⊢
 clear h hp hi hb
 go_enter Tryz.func144,Tryz.ntmps144
 go_wp2_with fail
 refine (uH C).mono ?_
 rintro e w1 ⟨rfl,hb⟩
 have HB:=aA hb
 clear hb
 by_cases h0:0≤i
 ·go_wp2
  go_ret
  exact ⟨yF (by first | exact uH HS | (rw [←uH HS];simp [h0])),uH HB⟩
 ·go_wp2
  go_ret
  exact ⟨yF (by first | exact uH HS | (rw [←uH HS];simp [h0])),uH HB⟩
def aH8 (l:List Q) (nm:List UInt8):Bool:=!(l.any (fun q=>decide (q.parent=nm)))&&decide (0≤place l nm)
theorem vK (l:List Q) (nm:List UInt8):aDy l nm=(aG l&&aH8 l nm):=by
 rw [aDy,aBY,aH8]
 cases aG l<;>cases l.any (fun q=>decide (q.parent=nm))<;>simp
theorem aDu (ao:Option Addr) (len cap:Nat) (l:List Q) (nm:List UInt8) (w:World) (h:gM w ao len l) (hl:len≤1048576) :
  Calls Tryz.prog 117 #[.slice ao len cap,.string (bs nm)] w fun e w'=>e=.returned (.bool (aH8 l nm))∧Below w.heap.size w w':=by
 have hmf:∀(fn:Fn) (first cap:Array Value) (w:World),(Instr.makeFunc fn first cap).run Tryz.prog w=.ok (.func fn first cap) w:=fun _ _ _ _=>rfl
 have hb0:=yA (Below.refl _ w) (.cells #[.string (bs nm)] 9)
 have hcell:(w.alloc (.cells #[.string (bs nm)] 9)).cell? ⟨w.heap.size,0,none⟩=some (.string (bs nm)):=by simp
 have CP:=aA (fun wx (hb:Below w.heap.size w wx)=>o9 ao len cap l nm wx (h.below hb) hl)
 have CC:=aA (fun wx (hb:Below w.heap.size w wx) (hx:wx.cell? ⟨w.heap.size,0,none⟩=some (.string (bs nm)))=>tQ 145 #[.pointer (some ⟨w.heap.size,0,none⟩)] (enters_of Tryz.func145 (by kernel_rfl) rfl) (fun q=>decide (q.parent=nm)) ao len cap l wx (h.below hb) hl
  (fun wy q hy=>aGi w.heap.size nm q wy ((hy.cell (p:=⟨w.heap.size,0,none⟩) (yG hx)).trans hx)))
 have HF:=aA (show aH8 l nm=(!(l.any (fun q=>decide (q.parent=nm)))&&decide (0≤place l nm)) from rfl)
 obtain ⟨p,hp⟩:∃p,place l nm=p:=⟨_,rfl⟩
 obtain ⟨k,hk⟩:∃k,l.any (fun q=>decide (q.parent=nm))=k:=⟨_,rfl⟩
 obtain ⟨r,hr⟩:∃r,aH8 l nm=r:=⟨_,rfl⟩
 rw [hp] at CP HF
 rw [hk] at CC HF
 rw [hr] at HF ⊢
 have HB0:=aA hb0
 have HC:=aA hcell
 clear h hb0 hp hk hr hcell
 go_enter Tryz.func117,Tryz.ntmps117
 go_wp2_with fail
 refine (uH CP _ (uH HB0)).mono ?_
 rintro e w2 ⟨rfl,hb⟩
 have HB2:=aA (yB (uH HB0) hb)
 have HC2:=aA ((hb.cell (p:=⟨w.heap.size,0,none⟩) (yG (uH HC))).trans (uH HC))
 clear hb HC HB0 CP
 by_cases h0:0≤p
 ·go_wp2_with fail
  refine (uH CC _ (uH HB2) (uH HC2)).mono ?_
  rintro e w3 ⟨rfl,hb⟩
  have HB3:=aA (yB (uH HB2) hb)
  clear hb
  go_wp2
  go_ret
  exact ⟨yF (by rw [uH HF];simp [h0]),uH HB3⟩
 ·go_wp2
  go_ret
  exact ⟨yF (by rw [uH HF];simp [h0]),uH HB2⟩
def eH (l:List Q):List (List UInt8):=(l.map Q.name).filter (aDy l)
theorem mP (l:List Q):(eH l).length≤l.length:=by
 have:=List.length_filter_le (aDy l) (l.map Q.name)
 rw [List.length_map] at this
 exact this
theorem sD {l:List Q} (h:aG l=false):eH l=[]:=by
 rw [eH,List.filter_eq_nil_iff]
 intro a _
 rw [vK,h];simp
end
section
open Go.RowKit Go.Shelf
attribute [local go_sem] Oper.semAt_some
def KpQ (n:Nat) (W W':World):Prop:=Below n W W'∧∀k q,lL W k q→lL W' k q
theorem aJL {n:Nat} {A B C:World} (h:KpQ n A B) (k:KpQ n B C):KpQ n A C:=⟨h.1.trans k.1,fun i q hq=>k.2 i q (h.2 i q hq)⟩
theorem aJM {n:Nat} {w:World} (hn:n≤w.heap.size) (W:World) (l:Nat) (o o':Obj) (hl:w.heap.size≤l) (h:W.heap[l]? = some o) (h1:o.isCells=false) (h2:o.isWalk=false):KpQ n W (W.putObj l o'):=by
 refine ⟨belowK_b hn W l o o' hl h h1 h2,fun k q hq=>?_⟩
 have hne:k≠l:=fun e=>by
  subst e
  rw [show W.heap[k]? = _ from hq] at h
  cases h
  cases h1
 exact ((grownBy_putObj' W l o').block k hq.lt (by simp;omega)).trans hq
theorem aEA {n:Nat} {W W':World} (hn:n≤W.heap.size) (h:Below W.heap.size W W'):KpQ n W W':=⟨h.mono hn,fun k q hq=>hq.below h⟩
def aDj:Value→Nat
 | .slice _ n _=>n
 | _=>0
theorem aJ7 {J:List Q→World→Prop} {B:Nat} (hJ:AbidesFrom B J) {pre:List Q} {W W':World} (h:J pre W) (hb:Below W.heap.size W W'):J pre W':=
 hJ pre W W' none h (aH (aF W none) hb) (fun r e=>by cases e)
theorem aHZ (n l Bq Bn:Nat) (ao:Option Addr) (len cap:Nat) (ls:List Q) (nm:List UInt8) (w0 W:World) (J Jx:List Q→World→Prop) (hJ:AbidesFrom W.heap.size J)
  (hY:∀pre x W1,x ∈ ls→J pre W1→pre.length<ls.length→YieldAt Fence.wide (n - 1) Tryz.prog l #[qv x] W1 fun e W'=>
   (e=.returned (.bool true)∧J (pre++[x]) W'∧KpQ w0.heap.size W1 W')∨(e=.returned (.bool false)∧Jx (pre++[x]) W'))
  (hq:W.cell? ⟨Bq,0,none⟩=some (.slice ao len cap)) (hnm:W.cell? ⟨Bn,0,none⟩=some (.string (bs nm))) (h:gM w0 ao len ls) (hb:Below w0.heap.size w0 W) (hl:len≤1048576) (hc:len≤cap) (h0:J [] W) :
  CallsIn Fence.wide n Tryz.prog 206 #[.func (.yield l) #[] #[],.pointer (some ⟨Bq,0,none⟩),.pointer (some ⟨Bn,0,none⟩)] W fun e W'=>(∃v,e=.returned v)∧
   ((∃ys,ys=ups ls nm∧J ys W')∨(∃pre,pre <+: ups ls nm∧Jx pre W')):=by
 have HR:=aA h
 have HL:=aA h.1
 have HB:=aA hb
 have HJ:=aA hJ
 have HY:=aA hY
 have H0:=aA h0
 have CP:=aA (fun wx (hb:Below w0.heap.size w0 wx) (k:Nat) (hk:k≤len) (x:List UInt8)=>o9 ao k cap (ls.take k) x wx ((h.below hb).take hk) (by omega))
 obtain ⟨p0,hp0⟩:∃p,place (ls.take len) nm=p:=⟨_,rfl⟩
 have CP0:=aA (by have:=uH CP W.drew hb.drew len (Nat.le_refl _) nm;rw [hp0] at this;exact this)
 have HU0:=aA (show ups ls nm=[]++ups (ls.take len) nm by rw [show ls.take len=ls by rw [h.1];exact List.take_length];rfl)
 have HP0:=aA hp0
 have HN:=aA (aAE (ls.length+1) ls nm)
 clear h hb hJ hY h0 hp0
 have hmx:Tryz.prog.follows .mixedOrders=true:=by kernel_rfl
 refine callsIn_of_wp Tryz.func206 rfl trivial ?_ rfl
 simp only [Tryz.ntmps206,List.size_toArray,List.length_cons,List.length_nil,Nat.reduceAdd,Nat.reduceSub,Array.replicate_succ,Array.replicate_zero,List.push_toArray,List.append_toArray,List.nil_append,List.cons_append]
 gi_wp2_with fail
 gi_region_o
 gi_wp2_with fail
 refine ⟨trivial,(by intro e;cases e),?_⟩
 refine (callsIn_wide.2 (uH CP0)).mono ?_
 rintro e w1 ⟨rfl,hb⟩
 have HB1:=aA (yB (uH HB).drew hb)
 have H1:=aA (aJ7 (uH HJ) (uH H0) (yB (Below.refl _ W).drew hb))
 clear hb HB H0 CP0 hq hnm
 gi_wp2
 gi_loopw [4,5,6,7] (fun a s i _ wr=>∃(k:Nat) (x:List UInt8) (pre:List Q) (p:Int),k≤len∧a=.slice ao k cap∧s=.string (bs x)∧i=.int .i64 p∧Hid (place (ls.take k) x=p)∧Hid (ups ls nm=pre++ups (ls.take k) x)∧Hid (J pre wr)∧Hid (Below w0.heap.size w0 wr)) (fun a _ _ _ _=>aDj a)
 case atStart=>exact ⟨len,nm,[],p0,Nat.le_refl _,rfl,rfl,rfl,HP0,HU0,H1,HB1⟩
 case round=>
  obtain ⟨k,x,pre,p,hk,rfl,rfl,rfl,HP,HU,HJ1,HBr⟩:=hrel
  clear HB1 H1 HP0 HU0
  by_cases h0:0≤p
  ·obtain ⟨j,rfl⟩:∃j:Nat,p=j:=⟨p.toNat,by omega⟩
   have hjk:j<k:=by have:=dS (ls.take k) x;rw [uH HP] at this;simp at this;omega
   have hjl:j<(ls.take k).length:=by simp;have:=uH HL;omega
   have hst:=aHe hjl (uH HP)
   obtain ⟨b,off,rfl,hq⟩:=(((uH HR).below (uH HBr)).take hk).at hjk
   obtain ⟨c0,c1,c2,c3⟩:=hq hjl
   rw [List.take_take,show min j k=j by omega] at hst
   obtain ⟨⟨qn,pa,du,mo⟩,hs⟩:∃s,(ls.take k)[j]=s:=⟨_,rfl⟩
   have hin:(⟨qn,pa,du,mo⟩:Q) ∈ ls:=by rw [←hs];exact List.mem_of_mem_take (List.getElem_mem _)
   rw [hs] at c0 c1 c2 c3 hst
   simp only at c0 c1 c2 c3 hst
   have HA:=aA (lL.new wr ⟨qn,pa,du,mo⟩)
   have HB2:=aA (yA (uH HBr) (aFf ⟨qn,pa,du,mo⟩))
   have hlt:pre.length<ls.length:=by
    have e:=congrArg List.length (uH HU)
    rw [hst] at e
    have:=uH HN
    rw [show fM (ls.length+1) ls nm=ups ls nm from rfl,e] at this
    simp at this
    omega
   obtain ⟨fn,tmps,assign,body,hy,hR⟩:=uH HY pre ⟨qn,pa,du,mo⟩ _ hin (aJ7 (uH HJ) (uH HJ1) (yA (Below.refl _ wr) (aFf ⟨qn,pa,du,mo⟩))) hlt
   have HRR:=aA hR
   have HST:=aA hst
   have k0:=(uH HA).c0
   have k1:=(uH HA).c1
   have k2:=(uH HA).c2
   have k3:=(uH HA).c3
   simp only at k0 k1 k2 k3
   clear hq hR hst hs hjl hlt hin
   gi_wp2
   refine ⟨(by intro e;cases e),?_⟩
   refine (uH HRR).mono ?_
   rintro e W3 (⟨rfl,hJ3,hk3⟩ | ⟨rfl,hJx3⟩)
   ·have HA3:=aA (hk3.2 _ _ (uH HA))
    have HB3:=aA ((uH HB2).trans hk3.1)
    have HJ3:=aA hJ3
    clear k0 k1 k2 k3 hJ3 hk3 hy HRR c0 c1 c2 c3
    have k1:=(uH HA3).c1
    simp only at k1
    have hcut:=aKH b off k cap j (by omega)
    have hjc:(j:Int)≤cap:=by omega
    obtain ⟨p',hp'⟩:∃p,place (ls.take j) pa=p:=⟨_,rfl⟩
    have CPj:=aA (by have:=uH CP W3.drew (uH HB3).drew j (by omega) pa;rw [hp'] at this;exact this)
    have HP':=aA hp'
    clear hp'
    gi_wp2_with fail
    gi_region_o
    gi_wp2_with fail
    refine ⟨trivial,(by intro e;cases e),?_⟩
    refine (callsIn_wide.2 (uH CPj)).mono ?_
    rintro e w4 ⟨rfl,hb⟩
    have HB4:=aA (yB (uH HB3).drew hb)
    have HJ4:=aA (aJ7 (uH HJ) (uH HJ3) (yB (Below.refl _ W3).drew hb))
    clear hb CPj k1
    gi_wp2
    go_roundw
    case rel=>exact ⟨j,pa,pre++[⟨qn,pa,du,mo⟩],p',by omega,rfl,rfl,rfl,HP',aA (by rw [uH HU,uH HST];simp),HJ4,HB4⟩
    case measure=>simp [aDj];omega
   ·gi_wp2
    refine bodyPost_ret (results_none rfl _ _ _) rfl ?_
    exact ⟨⟨_,rfl⟩,.inr ⟨pre++[⟨qn,pa,du,mo⟩],⟨ups (ls.take j) pa,by rw [uH HU,uH HST];simp⟩,hJx3⟩⟩
  ·gi_wp2
   go_end0
   have he:pre=ups ls nm:=by rw [uH HU,aHg (by rw [uH HP];omega)];simp
   subst he
   exact ⟨⟨_,rfl⟩,.inl (by first | exact uH HJ1 | exact ⟨_,rfl,uH HJ1⟩)⟩
theorem wR (ao:Option Addr) (len cap:Nat) (nm:List UInt8) (w:World) :
  Calls Tryz.prog 194 #[.slice ao len cap,.string (bs nm)] w fun e w'=>e=.returned (.func (.func 206) #[] #[.pointer (some ⟨w.heap.size,0,none⟩),.pointer (some ⟨w.heap.size+1,0,none⟩)])∧(w.alloc (.cells #[.slice ao len cap] 29)).alloc (.cells #[.string (bs nm)] 9)=w':=by
 have hmf:∀(fn:Fn) (first cap:Array Value) (w:World),(Instr.makeFunc fn first cap).run Tryz.prog w=.ok (.func fn first cap) w:=fun _ _ _ _=>rfl
 go_enter Tryz.func194,Tryz.ntmps194
 go_wp2
 go_ret
 exact ⟨rfl,rfl⟩
theorem oJ (n Bq Bn:Nat) (ao:Option Addr) (len cap:Nat) (ls:List Q) (nm:List UInt8) (w0 w:World) (h:gM w0 ao len ls) (hb:Below w0.heap.size w0 w) (hl:len≤1048576) (hc:len≤cap)
  (hq:w.cell? ⟨Bq,0,none⟩=some (.slice ao len cap)) (hn:w.cell? ⟨Bn,0,none⟩=some (.string (bs nm))) :
  SeqStopsK Fence.wide n Tryz.prog 206 #[.pointer (some ⟨Bq,0,none⟩),.pointer (some ⟨Bn,0,none⟩)] (fun x : { q:Q // q ∈ ls }=>#[qv x.1]) (KpQ w0.heap.size) (fun ys=>ys.map Subtype.val=ups ls nm) (fun pre=>pre.map Subtype.val <+: ups ls nm) ls.length w:=by
 intro l J Jx W hW hJ hJx hY h0
 refine (aHZ n l Bq Bn ao len cap ls nm w0 W (fun pre W=>∃p:List { q:Q // q ∈ ls },p.map Subtype.val=pre∧J p W) (fun pre W=>∃p:List { q:Q // q ∈ ls },p.map Subtype.val=pre∧Jx p W)
  (fun s A B row hs hg hr=>by obtain ⟨p,e,hj⟩:=hs;exact ⟨p,e,hJ p A B row hj hg hr⟩) ?_ ((hW.cell (p:=⟨Bq,0,none⟩) (yG hq)).trans hq) ((hW.cell (p:=⟨Bn,0,none⟩) (yG hn)).trans hn) h (yB hb hW) hl hc ⟨[],rfl,h0⟩).mono ?_
 ·rintro pre x W1 hx ⟨p,rfl,hj⟩ hlt
  obtain ⟨fn,tmps,assign,body,hy,hR⟩:=hY p ⟨x,hx⟩ W1 hj (by simpa using hlt)
  refine ⟨fn,tmps,assign,body,hy,hR.mono ?_⟩
  rintro e W' (⟨rfl,hj',hk⟩ | ⟨rfl,hj'⟩)
  ·exact .inl ⟨rfl,⟨p++[⟨x,hx⟩],by simp,hj'⟩,hk⟩
  ·exact .inr ⟨rfl,⟨p++[⟨x,hx⟩],by simp,hj'⟩⟩
 ·rintro e W' ⟨hv,⟨ys,hy,p,hp,hj⟩ | ⟨pre,hpre,p,hp,hj⟩⟩
  ·exact ⟨hv,.inl ⟨p,hp.trans hy,hj⟩⟩
  ·exact ⟨hv,.inr ⟨p,(show p.map Subtype.val <+: ups ls nm by rw [hp];exact hpre),hj⟩⟩
theorem aHm {w w1:World} {k:Nat} {q:Q} (h:lL w k q) {base size n e:Nat} {v:Value} {xs:List Value} (hr:w.ownsRow base e size v n xs) (he:e≠100) (hg:w.grownBy w1 v.ownBlock):lL w1 k q:=by
 refine (hg.block k h.lt ?_).trans h
 rcases hr.2 with ⟨rfl,_⟩ | ⟨g,cap,cur,rfl,_,hgb,_⟩
 ·simp [Value.ownBlock]
 ·intro e'
  obtain rfl:k=g:=by simpa [Value.ownBlock] using e'
  have:=(show w.heap[k]? = _ from h).symm.trans hgb
  simp [aFf] at this
  exact he this.2.symm
theorem aEg {w:World} {k B t:Nat} {q:Q} {v u:Value} (h:lL w k q) (hv:Go.Boxed w B t v):lL (w.setCell ⟨B,0,none⟩ u) k q:=by
 refine ((grownBy_setCell' w B u).block k h.lt ?_).trans h
 intro e'
 obtain rfl:k=B:=by simpa using e'
 have:=(show w.heap[k]? = _ from h).symm.trans hv
 simp [aFf] at this
theorem dE {w w':World} {B t:Nat} {v:Value} (h:Go.Boxed w B t v) (hb:Below w.heap.size w w'):Go.Boxed w' B t v:=(hb.block B h.lt).trans h
theorem lV {w w':World} (hb:Below w.heap.size w w'):KeepsOthers w w':=KeepsOthers.of_grownBy (row:=none) (aH (aF w none) hb) (fun j o e=>by cases e)
theorem mM {w w':World} {B e size n:Nat} {v:Value} {xs:List Value} (h:w.ownsRow B e size v n xs) (hb:Below w.heap.size w w'):w'.ownsRow B e size v n xs:=
 h.kept (aH (aF w none) hb) (by by_cases e:v.ownBlock=none;exact .inl e;exact .inr e)
theorem vZ (T E:TypeId) (z:Value) (bytes:Nat) (i0:TypeInfo) (hu:Tryz.prog.underlying T=some (.slice E)) (hi:Tryz.prog.info? E=some i0) (hz0:i0.zero=some z) (hz1:i0.size=1) (hz2:i0.bytes=bytes) (hzc:z.cells.size=1) (hTE:T≠E) (hEQ:E≠100) (hby:bytes≤16)
  {base B n:Nat} {v:Value} {xs:List Value} {w3:World} (hv:Go.Boxed w3 B T v) (hr:w3.ownsRow base E 1 v n xs) (hn:n≤1048576) (hbase:base≤w3.heap.size) (hB:base≤B) (y:Value) (hy:y.oneCell'=true) :
  ∃g cp w4,(Builtin.append_ #[T,T] T #[v,.slice (some ⟨w3.heap.size,0,none⟩) 1 1]).run Tryz.prog (w3.alloc (.cells #[y] E))=.ok (.slice (some ⟨g,0,none⟩) (n+1) cp) w4∧w4.cell? ⟨B,0,none⟩=some v∧w4.frozen? ⟨B,0,none⟩=false
   ∧Hid (Go.Boxed (w4.setCell ⟨B,0,none⟩ (.slice (some ⟨g,0,none⟩) (n+1) cp)) B T (.slice (some ⟨g,0,none⟩) (n+1) cp)∧(w4.setCell ⟨B,0,none⟩ (.slice (some ⟨g,0,none⟩) (n+1) cp)).ownsRow base E 1 (.slice (some ⟨g,0,none⟩) (n+1) cp) (n+1) (xs++[y])
    ∧KeepsOthers w3 (w4.setCell ⟨B,0,none⟩ (.slice (some ⟨g,0,none⟩) (n+1) cp))∧Below base w3 (w4.setCell ⟨B,0,none⟩ (.slice (some ⟨g,0,none⟩) (n+1) cp))∧∀k q,lL w3 k q→lL (w4.setCell ⟨B,0,none⟩ (.slice (some ⟨g,0,none⟩) (n+1) cp)) k q):=by
 have h16:(n+1)*bytes≤140737488355328:=by
  have:(n+1)*bytes≤1048577*16:=Nat.mul_le_mul (by omega) hby
  omega
 obtain ⟨v',w4,hrun,hown',hgrow,_⟩:=run_append_own (P:=Tryz.prog) (w3.alloc (.cells #[y] E)) base T T E i0 z 1 bytes hu hi hz0 hz1 hz2 hzc (by decide) v n xs (hr.alloc _) ⟨w3.heap.size,0,none⟩ 1 1 [y] rfl
  (by intro j u hj;match j,hj with | 0,hj=>simp at hj;subst hj;simp [Addr.add]) (by intro u hu;simp at hu;subst hu;exact hy) (by unfold maxLen;omega) h16 (by simp;omega)
 obtain ⟨g,cp,rfl⟩:=ownsRow_succ hown'
 obtain ⟨hv1,hv2,hr2,hk2,hb2⟩:=hv.appended hTE hr hbase hB hown' hgrow
 refine ⟨g,cp,w4,hrun,hv1.cell,hv1.frozen,aA ⟨hv2,hr2,hk2,hb2,fun k q hq=>?_⟩⟩
 have h1:lL (w3.alloc (.cells #[y] E)) k q:=hq.below (yA (Below.refl _ w3) _)
 exact aEg (aHm h1 (hr.alloc _) hEQ hgrow) hv1
attribute [local go_sem] Oper.semAt_some
abbrev aKD (st:List Int):List Value:=st.map (Value.int .i64)
def KpC (p:Nat) (W W':World):Prop:=∀k o,k≠p→W.heap[k]? = some o→o.isCells=true→W'.heap[k]? = some o
theorem aFJ {p:Nat} {A B C:World} (h:KpC p A B) (k:KpC p B C):KpC p A C:=fun i o hi ho hc=>k i o hi (h i o hi ho hc) hc
theorem aKA {p:Nat} {w:World} (W:World) (l:Nat) (o o':Obj) (hl:w.heap.size≤l) (h:W.heap[l]? = some o) (h1:o.isCells=false) (h2:o.isWalk=false):KpC p W (W.putObj l o'):=fun k q hk hq hc=>by
 have hne:k≠l:=fun e=>by
  subst e
  rw [hq] at h
  cases h
  rw [h1] at hc
  cases hc
 exact ((grownBy_putObj' W l o').block k (lt_of_block hq) (by simp;omega)).trans hq
theorem aBm {p:Nat} {W W':World} (h:Below W.heap.size W W'):KpC p W W':=fun k o _ ho _=>(h.block k (lt_of_block ho)).trans ho
theorem aA5 {p:Nat} (W:World) (j:Nat) (u:Value):KpC p W (W.setCell ⟨p,j,none⟩ u):=fun k o hk ho _=>(heap_setCell_other W ⟨p,j,none⟩ k u hk).trans ho
theorem aIW (n l Bs:Nat) (J:List (Int×Int)→World→Prop) (W:World) (hBs:W.cell? ⟨Bs,0,none⟩=some (.slice none 0 0)) (h0:J [] W) :
  CallsIn Fence.wide n Tryz.prog 211 #[.func (.yield l) #[] #[],.pointer (some ⟨Bs,0,none⟩)] W fun e W'=>(∃v,e=.returned v)∧J [] W':=by
 refine callsIn_of_wp Tryz.func211 rfl trivial ?_ rfl
 simp only [Tryz.ntmps211,List.size_toArray,List.length_cons,List.length_nil,Nat.reduceAdd,Nat.reduceSub,Array.replicate_succ,Array.replicate_zero,List.push_toArray,List.append_toArray,List.nil_append,List.cons_append]
 gi_wp2
 gi_loopw [3] (fun i wr=>i=.int .i64 (-1)∧J [] wr) (fun _ _=>0)
 case atStart=>exact ⟨by go_num,h0⟩
 case round=>
  obtain ⟨rfl,hJs⟩:=hrel
  gi_wp2
  go_end0
  exact ⟨⟨_,rfl⟩,hJs⟩
theorem aHO (n l Bs p g cap:Nat) (st:List Int) (J Jx:List (Int×Int)→World→Prop)
  (hY:∀pre x W1,J pre W1→pre.length<st.length→YieldAt Fence.wide (n - 1) Tryz.prog l #[.int .i64 x.1,.int .i64 x.2] W1 fun e W'=>
   (e=.returned (.bool true)∧J (pre++[x]) W'∧KpC p W1 W')∨(e=.returned (.bool false)∧Jx (pre++[x]) W'))
  (W:World) (cur:Array Value) (hBs:Go.Boxed W Bs 246 (.slice (some ⟨g,0,none⟩) st.length cap)) (hg:W.heap[g]? = some (.cells cur 3 (0,0))) (hcur:∀j (h:j<st.length),cur[j]? = some (.int .i64 st[j])) (hp:Bs≠p) (hpg:g≠p) (hl:st.length≤1048576) (h0:J [] W) :
  CallsIn Fence.wide n Tryz.prog 211 #[.func (.yield l) #[] #[],.pointer (some ⟨Bs,0,none⟩)] W fun e W'=>(∃v,e=.returned v)∧
   ((∃ys:List (Int×Int),Hid (ys.map Prod.snd=st.reverse)∧J ys W')∨(∃pre,Jx pre W')):=by
 have HY:=aA hY
 have HBs:=aA hBs
 have HG:=aA hg
 have HCU:=aA hcur
 have H0:=aA h0
 have hc0:=hBs.cell
 clear hY hBs hg hcur h0
 refine callsIn_of_wp Tryz.func211 rfl trivial ?_ rfl
 simp only [Tryz.ntmps211,List.size_toArray,List.length_cons,List.length_nil,Nat.reduceAdd,Nat.reduceSub,Array.replicate_succ,Array.replicate_zero,List.push_toArray,List.append_toArray,List.nil_append,List.cons_append]
 gi_wp2
 clear hc0
 gi_loopw [3] (fun i wr=>∃(k:Nat) (pre:List (Int×Int)),k≤st.length∧i=.int .i64 ((k:Int) - 1)∧Hid (pre.length+k=st.length)∧Hid (pre.map Prod.snd=(st.drop k).reverse)∧Hid (J pre wr)∧Hid (Go.Boxed wr Bs 246 (.slice (some ⟨g,0,none⟩) st.length cap))∧Hid (wr.heap[g]? = some (.cells cur 3 (0,0)))) (fun i _=>(intOf i+1).toNat)
 case atStart=>exact ⟨st.length,[],Nat.le_refl _,by go_num,aA (by simp),aA (by simp),H0,HBs,HG⟩
 case round=>
  obtain ⟨k,pre,hk,rfl,HL,HM,HJ,HB,HGr⟩:=hrel
  cases k with
  | zero=>
   gi_wp2
   go_end0
   exact ⟨⟨_,rfl⟩,.inl ⟨pre,aA (by rw [uH HM];rfl),uH HJ⟩⟩
  | succ j=>
   have hj:j<st.length:=by omega
   have hcell:wr.cell? ⟨g,j,none⟩=some (.int .i64 st[j]):=by
    have:=uH HCU j hj
    simp [World.cell?,uH HGr,this]
   have hbox:=(uH HB).cell
   obtain ⟨fn,tmps,assign,body,hy,hR⟩:=uH HY pre ((j:Int),st[j]) wr (uH HJ) (by have:=uH HL;omega)
   have HRR:=aA hR
   have HM2:=aA (show (pre++[((j:Int),st[j])]).map Prod.snd=(st.drop j).reverse by rw [List.map_append,uH HM,List.drop_eq_getElem_cons hj,List.reverse_cons];rfl)
   have hij:((j+1:Nat):Int) - 1=(j:Int):=by omega
   obtain ⟨y,hyy⟩:∃y,st[j]=y:=⟨_,rfl⟩
   rw [hyy] at hcell hy HRR HM2
   simp only at hy
   rw [hij]
   have j0:(0:Int)≤j:=by omega
   have j1:(j:Int)<st.length:=by omega
   clear hR hyy hij HM
   gi_wp2
   refine ⟨(by intro e;cases e),?_⟩
   refine (uH HRR).mono ?_
   rintro e W3 (⟨rfl,hJ3,hk3⟩ | ⟨rfl,hJx3⟩)
   ·have HB3:=aA (show Go.Boxed W3 Bs 246 (.slice (some ⟨g,0,none⟩) st.length cap) from hk3 Bs _ hp (uH HB) rfl)
    have HG3:=aA (hk3 g _ hpg (uH HGr) rfl)
    have HJ3:=aA hJ3
    clear hk3 hJ3 hcell hbox hy HRR
    gi_wp2
    go_roundw
    case rel=>exact ⟨j,pre++[((j:Int),y)],by omega,by go_num,aA (by have:=uH HL;simp;omega),HM2,HJ3,HB3,HG3⟩
    case measure=>simp [intOf]
   ·gi_wp2
    refine bodyPost_ret (results_none rfl _ _ _) rfl ?_
    exact ⟨⟨_,rfl⟩,.inr ⟨_,hJx3⟩⟩
theorem zY (n Bs p base:Nat) (v:Value) (st:List Int) (w:World) (hBs:Go.Boxed w Bs 246 v) (hrow:w.ownsRow base 3 1 v st.length (aKD st)) (hp:Bs≠p) (hpv:some p≠v.ownBlock) (hl:st.length≤1048576) :
  SeqStopsK Fence.wide n Tryz.prog 211 #[.pointer (some ⟨Bs,0,none⟩)] (fun x:Int×Int=>#[.int .i64 x.1,.int .i64 x.2]) (KpC p) (fun ys=>Hid (ys.map Prod.snd=st.reverse)) (fun _=>True) st.length w:=by
 intro l J Jx W hW hJ hJx hY h0
 have hB:Go.Boxed W Bs 246 v:=dE hBs hW
 have hr:=mM hrow hW
 rcases hr.2 with ⟨rfl,hz⟩ | ⟨g,cap,cur,rfl,_,hgb,hle,_,hsz,hx⟩
 ·have:st=[]:=List.eq_nil_of_length_eq_zero hz
  subst this
  exact (aIW n l Bs J W hB.cell h0).mono fun e W' ⟨he,hj⟩=>⟨he,.inl ⟨[],aA rfl,hj⟩⟩
 ·refine (aHO n l Bs p g cap st J Jx hY W cur hB hgb (fun j h=>?_) hp (fun e=>hpv (by simp [Value.ownBlock,e])) hl h0).mono ?_
  ·have e1:(cur.toList.take (st.length*1))[j]? = some (.int .i64 st[j]):=by rw [hx];simp [h]
   rw [List.getElem?_take_of_lt (by omega)] at e1
   simpa using e1
  ·rintro e W' ⟨he,⟨ys,h1,h2⟩ | ⟨pre,h2⟩⟩
   ·exact ⟨he,.inl ⟨ys,h1,h2⟩⟩
   ·exact ⟨he,.inr ⟨pre,trivial,h2⟩⟩
theorem aEN (v:Value) (w:World) (hv:v.oneCell'=true) :
  Calls Tryz.prog 207 #[v] w fun e w'=>e=.returned (.func (.func 211) #[] #[.pointer (some ⟨w.heap.size,0,none⟩)])∧w.alloc (.cells #[v] 246)=w':=by
 have hmf:∀(fn:Fn) (first cap:Array Value) (w:World),(Instr.makeFunc fn first cap).run Tryz.prog w=.ok (.func fn first cap) w:=fun _ _ _ _=>rfl
 go_enter Tryz.func207,Tryz.ntmps207
 go_wp2
 go_ret
 exact ⟨rfl,rfl⟩
end
section
open Go.RowKit
def iG (s:St) (x:List UInt8):Int×Int:=ofR s.qs x (dM s).1 (dM s).2 true
def o8 (s:St) (rx ry:Int) (x:List UInt8):Bool:=
 aK 1 (aL s x).1 (aL s x).2 rx ry&&within ((aL s x).1+1*rx) ((aL s x).2+1*ry) (iG s x).1 (iG s x).2
def aCi (s:St) (nm:List UInt8) (rx ry:Int):Bool:=decide (0<(path s.qs nm).length)&&(path s.qs nm).all (o8 s rx ry)
def bA (s:St):List (List UInt8)→Int→Int→Int×Int×Bool
 | [],a,b=>(a,b,true)
 | x::t,a,b=>if aK (-1) (iG s x).1 (iG s x).2 (aL s x).1 (aL s x).2=true then bA s t (min a ((iG s x).1 + -1*(aL s x).1)) (min b ((iG s x).2 + -1*(aL s x).2)) else (0,0,false)
theorem aA4 {s:St} {l:List (List UInt8)} {k:Nat} (h:k<l.length) (a b:Int):bA s (l.drop k) a b=if aK (-1) (iG s l[k]).1 (iG s l[k]).2 (aL s l[k]).1 (aL s l[k]).2=true then bA s (l.drop (k+1)) (min a ((iG s l[k]).1 + -1*(aL s l[k]).1)) (min b ((iG s l[k]).2 + -1*(aL s l[k]).2)) else (0,0,false):=by
 rw [List.drop_eq_getElem_cons h,bA]
theorem aBh {s:St} {l:List (List UInt8)} {k:Nat} (h:l.length≤k) (a b:Int):bA s (l.drop k) a b=(a,b,true):=by
 rw [List.drop_of_length_le h];rfl
theorem aHj (m1 m2 u1 u2 rx ry:Int) (hr:aR rx ry=true) (hb:aK (-1) m1 m2 u1 u2=true):(aK 1 u1 u2 rx ry&&within (u1+1*rx) (u2+1*ry) m1 m2)=(decide (rx≤m1 + -1*u1)&&decide (ry≤m2 + -1*u2)):=by
 rw [Bool.eq_iff_iff]
 simp only [aK,within,aR,inB,Bool.and_eq_true,decide_eq_true_eq] at hr hb ⊢
 omega
theorem aIq (m1 m2 u1 u2 rx ry:Int) (hr:aR rx ry=true) (hb:aK (-1) m1 m2 u1 u2=false):(aK 1 u1 u2 rx ry&&within (u1+1*rx) (u2+1*ry) m1 m2)=false:=by
 rw [Bool.eq_false_iff] at hb ⊢
 intro h
 apply hb
 simp only [aK,within,aR,inB,Bool.and_eq_true,decide_eq_true_eq] at hr h ⊢
 omega
theorem aEe {s:St} {rx ry:Int} {x:List UInt8} (hr:aR rx ry=true) (hb:aK (-1) (iG s x).1 (iG s x).2 (aL s x).1 (aL s x).2=true):o8 s rx ry x=(decide (rx≤(iG s x).1 + -1*(aL s x).1)&&decide (ry≤(iG s x).2 + -1*(aL s x).2)):=aHj _ _ _ _ _ _ hr hb
theorem aGH {s:St} {rx ry:Int} {x:List UInt8} (hr:aR rx ry=true) (hb:aK (-1) (iG s x).1 (iG s x).2 (aL s x).1 (aL s x).2=false):o8 s rx ry x=false:=aIq _ _ _ _ _ _ hr hb
theorem aBG {s:St} {rx ry:Int} (hr:aR rx ry=true):∀(ps:List (List UInt8)) (a b:Int),aR a b=true→((bA s ps a b).2.2&&within rx ry (bA s ps a b).1 (bA s ps a b).2.1)=(decide (rx≤a)&&decide (ry≤b)&&ps.all (o8 s rx ry))
 | [],a,b,h=>by rw [Bool.eq_iff_iff];simp [bA,within,hr,h];exact ⟨fun h=>⟨of_decide_eq_true h.1,of_decide_eq_true h.2⟩,fun h=>⟨decide_eq_true h.1,decide_eq_true h.2⟩⟩
 | x::t,a,b,h=>by
  rw [bA,List.all_cons]
  cases hb:aK (-1) (iG s x).1 (iG s x).2 (aL s x).1 (aL s x).2 with
  | true=>
   rw [if_pos rfl,aBG hr t _ _ ?_,aEe hr hb]
   ·rw [Bool.eq_iff_iff]
    simp only [Bool.and_eq_true,decide_eq_true_eq]
    constructor
    ·rintro ⟨⟨h1,h2⟩,h3⟩
     exact ⟨⟨by omega,by omega⟩,⟨by omega,by omega⟩,h3⟩
    ·rintro ⟨⟨h1,h2⟩,⟨h3,h4⟩,h5⟩
     exact ⟨⟨by omega,by omega⟩,h5⟩
   ·simp only [aK,aR,inB,Bool.and_eq_true,decide_eq_true_eq] at h hb ⊢
    omega
  | false=>
   rw [if_neg (by simp),aGH hr hb]
   simp
theorem aIr (s:St) (nm:List UInt8) (rx ry:Int):aCi s nm rx ry=((bA s (path s.qs nm) 1000000000 1000000000).2.2&&decide (0<(path s.qs nm).length)&&within rx ry (bA s (path s.qs nm) 1000000000 1000000000).1 (bA s (path s.qs nm) 1000000000 1000000000).2.1):=by
 rw [aCi]
 cases hr:aR rx ry with
 | false=>
  have h1:∀a b,within rx ry a b=false:=fun a b=>by rw [within,hr];rfl
  rw [h1,Bool.and_false]
  cases hp:path s.qs nm with
  | nil=>simp
  | cons x t=>
   have h2:o8 s rx ry x=false:=by rw [o8,aK,hr];simp
   simp [h2]
 | true=>
  have e:=aBG (s:=s) hr (path s.qs nm) 1000000000 1000000000 (by decide)
  have hr':=hr
  simp only [aR,inB,Bool.and_eq_true,decide_eq_true_eq] at hr'
  rw [decide_eq_true (show rx≤1000000000 by omega),decide_eq_true (show ry≤1000000000 by omega)] at e
  simp only [Bool.true_and] at e
  rw [←e]
  cases (bA s (path s.qs nm) 1000000000 1000000000).2.2<;>simp [Bool.and_comm]
def aIs (w:World) (c:Array Value) (rx ry:Int):World:=(w.alloc (.cells c 34)).alloc (.cells #[.int .i64 rx,.int .i64 ry] 36)
theorem aCh (w:World) (c:Array Value) (rx ry:Int):Below w.heap.size w (aIs w c rx ry):=yA (yA (Below.refl _ w) _) _
theorem aGG (w:World) (c:Array Value) (rx ry:Int):Blk (aIs w c rx ry) w.heap.size c 34:=(yD w c _).al _
theorem aGF (w:World) (c:Array Value) (rx ry:Int):Var (aIs w c rx ry) 36 (w.heap.size+1) rx ry:=by
 have:=aJ (w.alloc (.cells c 34)) 36 rx ry
 rwa [yE] at this
def aFg (p:Ask→Bool):List Ask→Nat→Int
 | [],_=>-1
 | q::t,k=>if p q=true then (k:Int) else aFg p t (k+1)
theorem aGm {p:Ask→Bool} {l:List Ask} {k:Nat} (h:k<l.length):aFg p (l.drop k) k=if p l[k]=true then (k:Int) else aFg p (l.drop (k+1)) (k+1):=by
 rw [List.drop_eq_getElem_cons h,aFg]
theorem aIK {p:Ask→Bool} {l:List Ask} {k:Nat} (h:l.length≤k):aFg p (l.drop k) k = -1:=by
 rw [List.drop_of_length_le h];rfl
theorem aEE (p:Ask→Bool):∀(l:List Ask) (k:Nat),decide (0≤aFg p l k)=l.any p
 | [],_=>by simp [aFg]
 | q::t,k=>by
  rw [aFg,List.any_cons]
  by_cases h:p q=true
  ·rw [if_pos h,h];simp
  ·rw [if_neg h,aEE p t (k+1)];simp [h]
theorem xN (g:Nat) (lb:Array Value) (eg:∀args w,(callFunc g args).run Tryz.prog w=.ok (.enter g args) w) (p:Ask→Bool) (ao:Option Addr) (len cap:Nat) (l:List Ask) (w:World) (h:aO w ao len l) (hl:len≤1048576)
  (hp:∀wx (q:Ask),q ∈ l→Below w.heap.size w wx→Calls Tryz.prog g (#[aCX q]++lb) wx fun e w'=>e=.returned (.bool (p q))∧Below wx.heap.size wx w') :
  Calls Tryz.prog 180 #[.slice ao len cap,.func (.func g) #[] lb] w fun e w'=>e=.returned (.int .i64 (aFg p l 0))∧Below w.heap.size w w':=by
 have HR:=aA h
 have HL:=aA h.1
 have HP:=aA hp
 clear h hp
 go_enter Tryz.func180,Tryz.ntmps180
 go_wp2
 go_loopw [5,8] (fun _ i wr=>∃k:Nat,k≤len∧i=.int .i64 k∧Hid (aFg p l 0=aFg p (l.drop k) k)∧Hid (Below w.heap.size w wr)) (fun _ i _=>len - (intOf i).toNat)
 case atStart=>exact ⟨0,Nat.zero_le _,rfl,aA (by simp),aA (Below.refl _ _)⟩
 case round=>
  obtain ⟨k,hk,rfl,hq,HB⟩:=hrel
  by_cases hlt:k<len
  ·obtain ⟨b,off,rfl,hx⟩:=((uH HR).below (uH HB)).at hlt
   have hkl:k<l.length:=by have:=uH HL;omega
   have hst:=aA (aGm (p:=p) (l:=l) (k:=k) hkl)
   obtain ⟨c0,c1,c2,c3,c4⟩:=hx hkl
   clear hx
   have HC:=aA (uH HP wr l[k] (List.getElem_mem _) (uH HB))
   obtain ⟨⟨y0,y1,y2,nd,y4⟩,hs⟩:∃s,l[k]=s:=⟨_,rfl⟩
   rw [hs] at c0 c1 c2 c3 c4 hst HC
   simp only at c0 c1 c2 c3 c4
   clear hs hkl HP
   cases hpq:p ⟨y0,y1,y2,nd,y4⟩ with
   | true=>
    rw [hpq] at HC
    have HQ:=aA hpq
    clear hpq
    go_wp2_with (go_at_fn g;refine (uH HC).mono ?_;rintro e w' ⟨rfl,hb⟩)
    go_ret
    exact ⟨bQ (by rw [uH hq,uH hst,if_pos (uH HQ)]),yB (uH HB) hb⟩
   | false=>
    rw [hpq] at HC
    have HQ:=aA hpq
    clear hpq
    go_wp2_with (go_at_fn g;refine (uH HC).mono ?_;rintro e w' ⟨rfl,hb⟩)
    go_roundw
    case rel=>exact ⟨k+1,by omega,by go_num,aA (by rw [uH hq,uH hst,if_neg (by rw [uH HQ];simp)]),aA (yB (uH HB) hb)⟩
    case measure=>simp [intOf];omega
  ·go_wp2
   go_ret
   exact ⟨bQ (by rw [uH hq,aIK (by have:=uH HL;omega)]),uH HB⟩
theorem rA (g:Nat) (lb:Array Value) (eg:∀args w,(callFunc g args).run Tryz.prog w=.ok (.enter g args) w) (p:Ask→Bool) (ao:Option Addr) (len cap:Nat) (l:List Ask) (w:World) (h:aO w ao len l) (hl:len≤1048576)
  (hp:∀wx (q:Ask),q ∈ l→Below w.heap.size w wx→Calls Tryz.prog g (#[aCX q]++lb) wx fun e w'=>e=.returned (.bool (p q))∧Below wx.heap.size wx w') :
  Calls Tryz.prog 146 #[.slice ao len cap,.func (.func g) #[] lb] w fun e w'=>e=.returned (.bool (l.any p))∧Below w.heap.size w w':=by
 have C:=aA (xN g lb eg p ao len cap l w h hl hp)
 have HS:=aA (aEE p l 0)
 obtain ⟨i,hi⟩:∃i,aFg p l 0=i:=⟨_,rfl⟩
 obtain ⟨b,hb⟩:∃b,l.any p=b:=⟨_,rfl⟩
 rw [hi] at C HS
 rw [hb] at HS ⊢
 clear h hp hi hb
 go_enter Tryz.func146,Tryz.ntmps146
 go_wp2_with fail
 refine (uH C).mono ?_
 rintro e w1 ⟨rfl,hb⟩
 have HB:=aA hb
 clear hb
 by_cases h0:0≤i
 ·go_wp2
  go_ret
  exact ⟨yF (by first | exact uH HS | (rw [←uH HS];simp [h0])),uH HB⟩
 ·go_wp2
  go_ret
  exact ⟨yF (by first | exact uH HS | (rw [←uH HS];simp [h0])),uH HB⟩
theorem aF2 (q:Ask) (w:World) (hn:q.node.length≤1048576) :
  Calls Tryz.prog 147 #[aCX q] w fun e w'=>e=.returned (.bool (!iI q))∧Below w.heap.size w w':=by
 have C:=aA (aHT q (w.alloc (.cells #[.int .i64 q.mem,.int .i64 q.cpu,.int .i64 q.count,.string (bs q.node),.int .i64 q.missed] 77)) hn)
 obtain ⟨o,ho⟩:∃o,iI q=o:=⟨_,rfl⟩
 rw [ho] at C ⊢
 obtain ⟨y0,y1,y2,nd,y4⟩:=q
 clear ho
 go_enter Tryz.func147,Tryz.ntmps147
 go_wp2_with fail
 refine (uH C).mono ?_
 rintro e w1 ⟨rfl,hb⟩
 have HB:=aA (yB (yA (Below.refl _ w) _) hb)
 clear hb C
 cases o
 ·go_wp2
  go_ret
  exact ⟨rfl,uH HB⟩
 ·go_wp2
  go_ret
  exact ⟨rfl,uH HB⟩
def nY (l:List Ask):Bool:=decide (l.length≤10)&&l.all iI
theorem aF0 (id:Int) (qu:List UInt8) (ao:Option Addr) (len cap:Nat) (l:List Ask) (w:World) (h:aO w ao len l) (hl:len≤1048576) (hn:∀q ∈ l,q.node.length≤1048576) :
  Calls Tryz.prog 118 #[wN id qu ao len cap] w fun e w'=>e=.returned (.bool (nY l))∧Below w.heap.size w w':=by
 have hb0:=yA (Below.refl _ w) (.cells #[.int .i64 id,.string (bs qu),.slice ao len cap] 74)
 have C:=aA (rA 147 #[] (enters_of Tryz.func147 (by kernel_rfl) rfl) (fun q=>!iI q) ao len cap l _ (h.below hb0) hl (fun wx q hq _=>aF2 q wx (hn q hq)))
 have HS:=aA (show nY l=(decide (len≤10)&&!(l.any fun q=>!iI q)) by rw [nY,←h.1];congr 1;rw [List.not_any_eq_all_not];simp)
 obtain ⟨o,ho⟩:∃o,nY l=o:=⟨_,rfl⟩
 obtain ⟨b,hb⟩:∃o,(l.any fun q=>!iI q)=o:=⟨_,rfl⟩
 rw [ho] at HS ⊢
 rw [hb] at HS C
 have HB0:=aA hb0
 clear ho hb h hn hb0
 by_cases h10:len≤10
 ·have hi:(len:Int)≤10:=by omega
  rw [decide_eq_true h10] at HS
  clear h10
  go_enter Tryz.func118,Tryz.ntmps118
  go_wp2_with fail
  refine (uH C).mono ?_
  rintro e w1 ⟨rfl,hb⟩
  have HB:=aA (yB (uH HB0) hb)
  clear hb C HB0
  go_wp2
  go_ret
  exact ⟨yF (by rw [uH HS];simp),uH HB⟩
 ·have hi:¬(len:Int)≤10:=by omega
  rw [decide_eq_false h10] at HS
  clear h10 C
  go_enter Tryz.func118,Tryz.ntmps118
  go_wp2
  go_ret
  exact ⟨yF (by rw [uH HS];simp),uH HB0⟩
def aBW (s:St):Bool:=inB s.clock 0 1000000000&&(inB s.epoch 1 1000000000&&(inB s.next 1 1000000000&&inB s.serial 1 1000000000))
theorem aAX (x:Sls) (s:St) (w:World) :
  Calls Tryz.prog 80 #[sv x s] w fun e w'=>e=.returned (.bool (aBW s))∧Below w.heap.size w w':=by
 obtain ⟨qa,ql,qc,aa,al,ac,ma,ml,mc,ca,cl,cc⟩:=x
 obtain ⟨qs,clock,epoch,next,serial,apps,ms,cs⟩:=s
 have HB0:=aA (yA (Below.refl _ w) (.cells (svc ⟨qa,ql,qc,aa,al,ac,ma,ml,mc,ca,cl,cc⟩ ⟨qs,clock,epoch,next,serial,apps,ms,cs⟩) 34))
 simp only [aBW]
 obtain ⟨b0,h0⟩:∃b,inB clock 0 1000000000=b:=⟨_,rfl⟩
 obtain ⟨b1,h1⟩:∃b,inB epoch 1 1000000000=b:=⟨_,rfl⟩
 obtain ⟨b2,h2⟩:∃b,inB next 1 1000000000=b:=⟨_,rfl⟩
 obtain ⟨b3,h3⟩:∃b,inB serial 1 1000000000=b:=⟨_,rfl⟩
 have C0:=aA (fun wx=>by have:=mO clock wx;rw [h0] at this;exact this)
 have C1:=aA (fun wx=>by have:=oI epoch wx;rw [h1] at this;exact this)
 have C2:=aA (fun wx=>by have:=oI next wx;rw [h2] at this;exact this)
 have C3:=aA (fun wx=>by have:=oI serial wx;rw [h3] at this;exact this)
 rw [h0,h1,h2,h3]
 clear h0 h1 h2 h3
 go_enter Tryz.func80,Tryz.ntmps80
 go_wp2_with fail
 refine (uH C0 _).mono ?_
 rintro e w1 ⟨rfl,rfl⟩
 cases b0 with
 | false=>
  go_wp2
  go_ret
  exact ⟨rfl,uH HB0⟩
 | true=>
 go_wp2_with fail
 refine (uH C1 _).mono ?_
 rintro e w1 ⟨rfl,rfl⟩
 cases b1 with
 | false=>
  go_wp2
  go_ret
  exact ⟨rfl,uH HB0⟩
 | true=>
 go_wp2_with fail
 refine (uH C2 _).mono ?_
 rintro e w1 ⟨rfl,rfl⟩
 cases b2 with
 | false=>
  go_wp2
  go_ret
  exact ⟨rfl,uH HB0⟩
 | true=>
 go_wp2_with fail
 refine (uH C3 _).mono ?_
 rintro e w1 ⟨rfl,rfl⟩
 go_wp2
 go_ret
 exact ⟨yF (by simp),uH HB0⟩
def bP (qs:List Q) (nx:Int):Int→List dB→Bool
 | _,[]=>true
 | last,a::t=>decide (last<a.id)&&(decide (a.id<nx)&&(aH8 qs a.queue&&(nY a.asks&&bP qs nx a.id t)))
def iA (s:St):Bool:=decide (s.apps.length≤40)&&bP s.qs s.next 0 s.apps
theorem qF {qs:List Q} {nx last:Int} {l:List dB} {k:Nat} (h:k<l.length):bP qs nx last (l.drop k)=(decide (last<l[k].id)&&(decide (l[k].id<nx)&&(aH8 qs l[k].queue&&(nY l[k].asks&&bP qs nx l[k].id (l.drop (k+1)))))):=by
 rw [List.drop_eq_getElem_cons h,bP]
theorem sU {qs:List Q} {nx last:Int} {l:List dB} {k:Nat} (h:l.length≤k):bP qs nx last (l.drop k)=true:=by
 rw [List.drop_of_length_le h];rfl
theorem aF3 (x:Sls) (s:St) (w:World) (h:iJ w x s) (hf:bS s) :
  Calls Tryz.prog 81 #[sv x s] w fun e w'=>e=.returned (.bool (iA s))∧Below w.heap.size w w':=by
 have hql:x.ql≤1048576:=by have:=h.len.1;have:=hf.1.1;omega
 have hal:x.al≤1048576:=by have:=h.len.2.1;have:=hf.2.1.1;omega
 have HR:=aA h.2.1
 have HL:=aA h.2.1.1
 have HFA:=aA hf.2.1
 have CL:=aA (fun wx (hb:Below w.heap.size w wx) (nm:List UInt8)=>aDu x.qa x.ql x.qc s.qs nm wx (h.1.below hb) hql)
 have HS:=aA (show iA s=(decide (x.al≤40)&&bP s.qs s.next 0 s.apps) by rw [iA,←h.2.1.1])
 obtain ⟨o,ho⟩:∃o,iA s=o:=⟨_,rfl⟩
 rw [ho] at HS ⊢
 clear h hf ho
 have hb0:=yA (Below.refl _ w) (.cells (svc x s) 34)
 have P0:=aA (yD w (svc x s) 34)
 obtain ⟨qa,ql,qc,aa,al,ac,ma,ml,mc,ca,cl,cc⟩:=x
 obtain ⟨qs,clock,epoch,next,serial,apps,ms,cs⟩:=s
 simp only at hql hal HR HL HFA CL HS P0 hb0
 have HB0:=aA hb0
 clear hb0
 by_cases h40:al≤40
 case neg=>
  have hi:(40:Int)<al:=by omega
  rw [decide_eq_false h40] at HS
  go_enter Tryz.func81,Tryz.ntmps81
  go_wp2
  go_ret
  exact ⟨yF (by rw [uH HS];simp),uH HB0⟩
 have hi:¬(40:Int)<al:=by omega
 rw [decide_eq_true h40,Bool.true_and] at HS
 clear h40
 go_enter Tryz.func81,Tryz.ntmps81
 go_wp2
 go_loopw [3,13] (fun la i wr=>∃(k:Nat) (last:Int),k≤al∧i=.int .i64 k∧la=.int .i64 last∧Hid (o=bP qs next last (apps.drop k))∧Hid (Blk wr w.heap.size (svc ⟨qa,ql,qc,aa,al,ac,ma,ml,mc,ca,cl,cc⟩ ⟨qs,clock,epoch,next,serial,apps,ms,cs⟩) 34)∧Hid (Below w.heap.size w wr)) (fun _ i _=>al - (intOf i).toNat)
 case atStart=>exact ⟨0,0,Nat.zero_le _,rfl,rfl,aA (by rw [uH HS];simp),P0,HB0⟩
 case round=>
  obtain ⟨k,last,hk,rfl,rfl,HO,P1,HB⟩:=hrel
  clear P0 HB0 HS
  by_cases hlt:k<al
  ·obtain ⟨b,off,rfl,hq⟩:=((uH HR).below (uH HB)).at hlt
   have hkl:k<apps.length:=by have:=uH HL;omega
   have hst:=aA (qF (qs:=qs) (nx:=next) (last:=last) (l:=apps) (k:=k) hkl)
   have hfa:=(uH HFA).2 _ (List.getElem_mem hkl)
   obtain ⟨xo,xl,xc,c0,c1,c2,hrow,_⟩:=hq hkl
   obtain ⟨⟨id,qu,asks⟩,hs⟩:∃s,apps[k]=s:=⟨_,rfl⟩
   rw [hs] at c0 c1 hst hrow hfa
   simp only at c0 c1 hst hrow
   have hxl:xl≤1048576:=by have h1:=hrow.1;have h2:=hfa.2.1;simp only at h2;omega
   obtain ⟨lo,hlo⟩:∃b,aH8 qs qu=b:=⟨_,rfl⟩
   obtain ⟨so,hso⟩:∃b,nY asks=b:=⟨_,rfl⟩
   have C1:=aA (fun wx (hb:Below w.heap.size w wx)=>by have:=uH CL wx hb qu;rw [hlo] at this;exact this)
   have C2:=aA (fun wx (hb:Below wr.heap.size wr wx)=>by have:=aF0 id qu xo xl xc asks wx (hrow.below hb) hxl hfa.2.2;rw [hso] at this;exact this)
   rw [hlo,hso] at hst
   have hb2:=yA (Below.refl _ wr) (.cells #[.int .i64 id,.string (bs qu),.slice xo xl xc] 74)
   have P2:=aA ((uH P1).below hb2)
   have V2:=aA (yD wr #[.int .i64 id,.string (bs qu),.slice xo xl xc] 74)
   have HB2:=aA (yB (uH HB) hb2)
   have HW2:=aA hb2
   have p0:=(uH P2).at 0
   have p3:=(uH P2).at 3
   have q5:=(uH P1).at 5
   simp at p0 p3 q5
   clear hq hs hkl hrow hfa hb2 hlo hso CL
   by_cases h1:last<id
   case neg=>
    have h1':id≤last:=by omega
    go_wp2
    go_ret
    exact ⟨yF (by rw [uH HO,uH hst,decide_eq_false (show ¬last<id by omega)];simp),uH HB2⟩
   by_cases h2:id<next
   case neg=>
    have h2':next≤id:=by omega
    have h1':¬id≤last:=by omega
    go_wp2
    go_ret
    exact ⟨yF (by rw [uH HO,uH hst,decide_eq_false (show ¬id<next by omega)];simp),uH HB2⟩
   have h2':¬next≤id:=by omega
   have h1':¬id≤last:=by omega
   have HO2:=aA (show o=(lo&&(so&&bP qs next id (apps.drop (k+1)))) by rw [uH HO,uH hst,decide_eq_true h1,decide_eq_true h2];simp)
   clear HO hst
   go_wp2_with fail
   refine (uH C1 _ (uH HB2)).mono ?_
   rintro e w1 ⟨rfl,hb⟩
   have P3:=aA ((uH P2).below hb)
   have V3:=aA ((uH V2).below hb)
   have HB3:=aA (yB (uH HB2) hb)
   have HW3:=aA (yB (uH HW2) hb)
   have a0:=(uH V3).at 0
   have a1:=(uH V3).at 1
   have a2:=(uH V3).at 2
   simp at a0 a1 a2
   clear hb P2 V2 HB2 HW2 C1 p0 p3 q5
   cases lo with
   | false=>
    go_wp2
    go_ret
    exact ⟨yF (by rw [uH HO2];simp),uH HB3⟩
   | true=>
   go_wp2_with fail
   refine (uH C2 _ (uH HW3)).mono ?_
   rintro e w2 ⟨rfl,hb⟩
   have P4:=aA ((uH P3).below hb)
   have V4:=aA ((uH V3).below hb)
   have HB4:=aA (yB (uH HB3) hb)
   have d0:=(uH V4).at 0
   simp at d0
   clear hb P3 V3 HB3 HW3 C2 a0 a1 a2
   cases so with
   | false=>
    go_wp2
    go_ret
    exact ⟨yF (by rw [uH HO2];simp),uH HB4⟩
   | true=>
   go_wp2
   go_roundw
   case rel=>exact ⟨k+1,id,by omega,by go_num,rfl,aA (by rw [uH HO2];simp),P4,HB4⟩
   case measure=>simp [intOf];omega
  ·go_wp2
   go_ret
   exact ⟨yF (by rw [uH HO,sU (by have:=uH HL;omega)]),uH HB⟩
def leT (a b:List UInt8):Bool:=Op.bytesLess (bs a).toList (bs b).toList||((bs a).toList==(bs b).toList)
def bH (ck:Int):List UInt8→List Mac→Bool
 | _,[]=>true
 | last,m::t=>!leT m.name last&&(bC m.name&&(decide (0≤m.seen)&&(decide (m.seen≤ck)&&bH ck m.name t)))
def lU (s:St):Bool:=decide (s.ms.length≤20)&&(bH s.clock [] s.ms&&(gN (aX s.ms)).2.2)
theorem xK {ck:Int} {last:List UInt8} {l:List Mac} {k:Nat} (h:k<l.length):bH ck last (l.drop k)=(!leT l[k].name last&&(bC l[k].name&&(decide (0≤l[k].seen)&&(decide (l[k].seen≤ck)&&bH ck l[k].name (l.drop (k+1)))))):=by
 rw [List.drop_eq_getElem_cons h,bH]
theorem aA3 {ck:Int} {last:List UInt8} {l:List Mac} {k:Nat} (h:l.length≤k):bH ck last (l.drop k)=true:=by
 rw [List.drop_of_length_le h];rfl
theorem xL (x:Sls) (s:St) (w:World) (h:iJ w x s) (hf:bS s) :
  Calls Tryz.prog 82 #[sv x s] w fun e w'=>e=.returned (.bool (lU s))∧Below w.heap.size w w':=by
 have hml:x.ml≤1048576:=by have:=h.len.2.2.1;have:=hf.2.2.1.1;omega
 have HR:=aA h.2.2.1
 have HL:=aA h.2.2.1.1
 have HFM:=aA hf.2.2.1
 obtain ⟨⟨cx,cy,co⟩,hco⟩:∃r,gN (aX s.ms)=r:=⟨_,rfl⟩
 have CC:=aA (fun wx (hb:Below w.heap.size w wx)=>by have:=aEL x s wx (h.2.2.1.below hb) hml;rw [hco] at this;exact this)
 have HS:=aA (show lU s=(decide (x.ml≤20)&&(bH s.clock [] s.ms&&co)) by rw [lU,←h.2.2.1.1,hco])
 obtain ⟨o,ho⟩:∃o,lU s=o:=⟨_,rfl⟩
 rw [ho] at HS ⊢
 clear h hf ho hco
 have hb0:=yA (Below.refl _ w) (.cells (svc x s) 34)
 have P0:=aA (yD w (svc x s) 34)
 obtain ⟨qa,ql,qc,aa,al,ac,ma,ml,mc,ca,cl,cc⟩:=x
 obtain ⟨qs,clock,epoch,next,serial,apps,ms,cs⟩:=s
 simp only at hml HR HL HFM CC HS P0 hb0
 have HB0:=aA hb0
 clear hb0
 by_cases h40:ml≤20
 case neg=>
  have hi:(20:Int)<ml:=by omega
  rw [decide_eq_false h40] at HS
  go_enter Tryz.func82,Tryz.ntmps82
  go_wp2
  go_ret
  exact ⟨yF (by rw [uH HS];simp),uH HB0⟩
 have hi:¬(20:Int)<ml:=by omega
 rw [decide_eq_true h40,Bool.true_and] at HS
 clear h40
 go_enter Tryz.func82,Tryz.ntmps82
 go_wp2
 go_loopw [3,15] (fun la i wr=>∃(k:Nat) (last:List UInt8),k≤ml∧i=.int .i64 k∧la=.string (bs last)∧Hid (o=(bH clock last (ms.drop k)&&co))∧Hid (Blk wr w.heap.size (svc ⟨qa,ql,qc,aa,al,ac,ma,ml,mc,ca,cl,cc⟩ ⟨qs,clock,epoch,next,serial,apps,ms,cs⟩) 34)∧Hid (Below w.heap.size w wr)) (fun _ i _=>ml - (intOf i).toNat)
 case atStart=>exact ⟨0,[],Nat.zero_le _,rfl,rfl,aA (by rw [uH HS];simp),P0,HB0⟩
 case round=>
  obtain ⟨k,last,hk,rfl,rfl,HO,P1,HB⟩:=hrel
  clear P0 HB0 HS
  by_cases hlt:k<ml
  ·obtain ⟨b,off,rfl,hq⟩:=((uH HR).below (uH HB)).at hlt
   have hkl:k<ms.length:=by have:=uH HL;omega
   have hst:=aA (xK (ck:=clock) (last:=last) (l:=ms) (k:=k) hkl)
   have hfa:=(uH HFM).2 _ (List.getElem_mem hkl)
   obtain ⟨c0,c1,c2,c3⟩:=hq hkl
   obtain ⟨⟨nm,me,cp,se⟩,hs⟩:∃s,ms[k]=s:=⟨_,rfl⟩
   rw [hs] at c0 c1 c2 c3 hst hfa
   simp only at c0 c1 c2 c3 hst hfa
   obtain ⟨no,hno⟩:∃b,bC nm=b:=⟨_,rfl⟩
   have C1:=aA (fun wx=>by have:=kJ (bs nm) wx (by rw [dA];exact hfa);rw [show bC (bs nm).data.toList=no by rw [←hno];simp [bs]] at this;exact this)
   obtain ⟨l1,hl1⟩:∃b,Op.bytesLess (bs nm).toList (bs last).toList=b:=⟨_,rfl⟩
   obtain ⟨l2,hl2⟩:∃b,((bs nm).toList==(bs last).toList)=b:=⟨_,rfl⟩
   have hst2:=aA (show bH clock last (ms.drop k)=(!(l1||l2)&&(no&&(decide (0≤se)&&(decide (se≤clock)&&bH clock nm (ms.drop (k+1)))))) by rw [uH hst,leT,hl1,hl2,hno])
   have hb2:=yA (Below.refl _ wr) (.cells #[.string (bs nm),.int .i64 me,.int .i64 cp,.int .i64 se] 104)
   have P2:=aA ((uH P1).below hb2)
   have HB2:=aA (yB (uH HB) hb2)
   have p1:=(uH P2).at 1
   simp at p1
   clear hq hs hkl hfa hb2 hno hst CC
   cases l1<;>cases l2
   case false.false=>
    go_wp2_with fail
    refine (uH C1 _).mono ?_
    rintro e w1 ⟨rfl,rfl⟩
    cases no with
    | false=>
     go_wp2
     go_ret
     exact ⟨yF (by rw [uH HO,uH hst2];simp),uH HB2⟩
    | true=>
    by_cases h1:0≤se
    case neg=>
     have h1':se<0:=by omega
     go_wp2
     go_ret
     exact ⟨yF (by rw [uH HO,uH hst2,decide_eq_false (show ¬0≤se by omega)];simp),uH HB2⟩
    by_cases h2:se≤clock
    case neg=>
     have h1':¬se<0:=by omega
     have h2':clock<se:=by omega
     go_wp2
     go_ret
     exact ⟨yF (by rw [uH HO,uH hst2,decide_eq_false (show ¬se≤clock by omega)];simp),uH HB2⟩
    have h1':¬se<0:=by omega
    have h2':¬clock<se:=by omega
    have HO2:=aA (show o=(bH clock nm (ms.drop (k+1))&&co) by rw [uH HO,uH hst2,decide_eq_true h1,decide_eq_true h2];simp)
    go_wp2
    go_roundw
    case rel=>exact ⟨k+1,nm,by omega,by go_num,rfl,HO2,P2,HB2⟩
    case measure=>simp [intOf];omega
   all_goals
    go_wp2
    go_ret
    exact ⟨yF (by rw [uH HO,uH hst2];simp),uH HB2⟩
  ·have HO2:=aA (show o=co by rw [uH HO,aA3 (by have:=uH HL;omega)];simp)
   have p0:=(uH P1).at 0;have p1:=(uH P1).at 1;have p2:=(uH P1).at 2;have p3:=(uH P1).at 3
   have p4:=(uH P1).at 4;have p5:=(uH P1).at 5;have p6:=(uH P1).at 6;have p7:=(uH P1).at 7
   simp at p0 p1 p2 p3 p4 p5 p6 p7
   go_wp2_with fail
   refine (uH CC _ (uH HB)).mono ?_
   rintro e w1 ⟨rfl,hb⟩
   have HB2:=aA (yA (yB (uH HB) hb) (.cells #[.int .i64 cx,.int .i64 cy] 36))
   clear hb CC
   go_wp2
   go_ret
   exact ⟨yF (by rw [uH HO2]),uH HB2⟩
theorem aFp (B:Nat) (w:World):bI B w (.slice none 0 0) []:=World.ownsRow_nil _ _ _ _
theorem bI.open {B:Nat} {w:World} {v:Value} {ps:List (List UInt8)} (h:bI B w v ps):∃ao cap,v=.slice ao ps.length cap∧∀j (hj:j<ps.length),∃g,ao=some ⟨g,0,none⟩∧w.cell? ⟨g,j,none⟩=some (.string (bs ps[j])):=by
 by_cases hp:ps=[]
 ·subst hp
  obtain ⟨a,c,rfl⟩:=jD h
  exact ⟨a,c,rfl,fun j hj=>by simp at hj⟩
 ·obtain ⟨g,c,rfl,hs,_⟩:=jC h hp
  exact ⟨_,c,rfl,fun j hj=>⟨g,rfl,hs.text hj⟩⟩
theorem aFF (ao:Option Addr) (len cap:Nat) (l:List Q) (w:World) (h:gM w ao len l) (hl:len≤1048576) (hn:∀q ∈ l,q.name.length≤1048576) (hc:len≤cap) :
  Calls Tryz.prog 168 #[.slice ao len cap] w fun e w'=>∃v,e=.returned v∧bI w.heap.size w' v (eH l)∧Below w.heap.size w w':=by
 obtain ⟨i0,hi,hz0,hz1,hz2⟩:=info_parts Tryz.infoS
 have HR:=aA h
 have HL:=aA h.1
 have HN:=aA hn
 have CQ:=aA (dX ao len cap l w h hl hn hc)
 have CL:=aA (fun x wx (hb:Below w.heap.size w wx)=>aDu ao len cap l x wx (h.below hb) hl)
 have HLF:=aA (fun x=>vK l x)
 obtain ⟨ok,hok⟩:∃ok,aG l=ok:=⟨_,rfl⟩
 rw [hok] at CQ HLF
 have HOK:=aA hok
 clear h hn hok
 go_enter Tryz.func168,Tryz.ntmps168
 go_wp2_with fail
 refine (uH CQ).mono ?_
 rintro e w1 ⟨rfl,hb⟩
 have HB1:=aA hb
 clear hb CQ
 cases ok
 case false=>
  go_wp2
  go_ret
  exact ⟨_,rfl,by rw [sD (uH HOK)];exact aFp _ _,uH HB1⟩
 go_wp2
 go_loopw [3,5,11] (fun v _ i wr=>∃(k:Nat) (o:List ByteArray),k≤len∧i=.int .i64 k∧o.length≤k∧Hid (o=(((l.take k).map Q.name).filter (aDy l)).map bs)∧Hid (wr.ownsRow w.heap.size 9 1 v o.length (gG o))∧Hid (Below w.heap.size w wr)) (fun _ _ i _=>len - (intOf i).toNat)
 case atStart=>exact ⟨0,[],Nat.zero_le _,rfl,Nat.le_refl _,aA (by simp),aA (World.ownsRow_nil _ _ _ _),HB1⟩
 case round=>
  obtain ⟨k,o,hk,rfl,hol,HO,HS,HB⟩:=hrel
  by_cases hlt:k<len
  ·have HR2:=aA ((uH HR).below (uH HB))
   obtain ⟨b,off,rfl,hq⟩:=(uH HR2).at hlt
   have hkl:k<l.length:=by have:=uH HL;omega
   obtain ⟨c0,c1,c2,c3⟩:=hq hkl
   have hz:=uH HN l[k] (List.getElem_mem _)
   have htk:=List.take_succ_eq_append_getElem hkl
   clear hq
   obtain ⟨⟨nm,pa,du,mo⟩,hs⟩:∃s,l[k]=s:=⟨_,rfl⟩
   rw [hs] at c0 c1 c2 c3 hz htk
   simp only at c0 c1 c2 c3 hz
   have HTK:=aA htk
   have HA:=aA (lL.new wr ⟨nm,pa,du,mo⟩)
   have HB2:=aA (yA (uH HB) (aFf ⟨nm,pa,du,mo⟩))
   have HS2:=aA ((uH HS).alloc (aFf ⟨nm,pa,du,mo⟩))
   obtain ⟨f,hf⟩:∃f,aH8 l nm=f:=⟨_,rfl⟩
   have CL1:=aA (fun wx hb=>by have:=uH CL nm wx hb;rw [hf] at this;exact this)
   have HLF1:=aA (show aDy l nm=f by rw [uH HLF,hf];rfl)
   have hsz:(bs nm).size≤281474976710656:=by rw [dA];omega
   have k0:=(uH HA).c0
   simp only at k0
   clear hs hkl hf htk hz HR2
   go_wp2_with fail
   refine (uH CL1 _ (uH HB2)).mono ?_
   rintro e w2 ⟨rfl,hb⟩
   have HA3:=aA ((uH HA).below hb)
   have HB3:=aA (yB (uH HB2) hb)
   have HS3:=aA (kQ (uH HS2) hb)
   clear hb HA HB2 HS2 k0 HB HS
   cases f with
   | false=>
    go_wp2
    go_roundw
    case rel=>exact ⟨k+1,o,by omega,by go_num,by omega,aA (by rw [uH HTK,List.map_append,List.filter_append];simp only [List.map_cons,List.map_nil,List.filter_cons,uH HLF1,List.filter_nil];rw [if_neg (by simp),List.append_nil];exact uH HO),HS3,HB3⟩
    case measure=>simp [intOf];omega
   | true=>
    have k0:=(uH HA3).c0
    simp only at k0
    go_wp2_with fail
    refine (gK (bs nm) _ hsz).mono ?_
    rintro e w3 ⟨rfl,hb⟩
    have hown:=kQ (uH HS3) hb
    have hbel:=yB (uH HB3) hb
    have hwz:=hbel.size
    clear hb HA3 HB3 HS3 k0
    go_wp2_with (at_builtin;refine wpList_append_own _ rfl _ _ 175 rfl w.heap.size 9 i0 (.string ByteArray.empty) 1 16 Tryz.underlying175 hi hz0 hz1 hz2 rfl (by decide) _ _ _ rfl (hown.alloc _) ⟨w3.heap.size,0,none⟩ 1 1 [.string (bs nm)] rfl rfl ?c1 ?c2 ?c3 ?c4 ?c5 ?_)
    case c1=>intro j v hj;match j,hj with | 0,hj=>simp at hj;subst hj;simp [Addr.add]
    case c2=>intro v hv;simp at hv;subst hv;rfl
    case c3=>unfold maxLen;omega
    case c4=>omega
    case c5=>simp;omega
    intro v' w4 hown' hgrow _
    have R:=aA (aBD hbel hown hown' hgrow (by omega))
    clear hown' hgrow hown hbel
    go_wp2
    go_roundw
    case rel=>exact ⟨k+1,o++[bs nm],by omega,by go_num,by simp;omega,aA (by rw [uH HTK,List.map_append,List.filter_append];simp only [List.map_cons,List.map_nil,List.filter_cons,uH HLF1,List.filter_nil];rw [if_pos (by first | rfl | trivial),List.map_append,←uH HO];rfl),aA (uH R).1,aA (uH R).2⟩
    case measure=>simp [intOf];omega
  ·have hkk:k=len:=by omega
   subst hkk
   go_wp2
   go_ret
   refine ⟨_,rfl,bI.of (uH HS) ?_,uH HB⟩
   rw [uH HO,List.take_of_length_le (by have:=uH HL;omega)]
   rfl
end
end Go.Proofs.YtdhibeclkdepiaaGreat
