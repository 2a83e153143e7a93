/-
  Texts in one: QueuesOkI, LoneI, OkC, AboveI, UByI, PathI, BackI, PartI, RoomL.
-/
import Derived.Test.YtjkfappkpopbdaaGreatSackK
import Derived.Test.YtjkfappkpopbdaaGreatSackD
import Derived.Test.YtjkfappkpopbdaaGreatSackM
import Derived.Maps.RangeWalk
import Derived.Maps.AppendAt
import Derived.Test.YtjkfappkpopbdaaGreatSackL
set_option maxRecDepth 100000
set_option maxHeartbeats 16000000
set_option linter.unusedVariables false
set_option linter.unusedSimpArgs false
namespace Go.Proofs.YtjkfappkpopbdaaGreat
section
open Go.RowKit
theorem QRow.take {w:World} {ao:Option Addr} {len:Nat} {l:List Q} (h:QRow w ao len l) {k:Nat} (hk:k≤len):QRow w ao k (l.take k):=by
 obtain ⟨h1,h2⟩:=h
 refine ⟨by simp;omega,?_⟩
 rcases h2 with h2 | ⟨b,off,h3,h4⟩
 ·exact .inl (by omega)
 ·refine .inr ⟨b,off,h3,fun i hi=>?_⟩
  have:i<l.length:=by simp at hi;omega
  rw [List.getElem_take]
  exact h4 i this
theorem cut_q (b off len cap k:Nat) (hk:k≤cap) (wx:World):(Instr.slice 32 (.slice (some ⟨b,off,none⟩) len cap) none (some (.int .i64 (k:Int))) none).run Tryz.prog wx=.ok (.slice (some ⟨b,off,none⟩) k cap) wx:=by
 rw [run_slice_h (P:=Tryz.prog) (w:=wx) 32 (some ⟨b,off,none⟩) len cap Tryz.underlying32 .i64 (k:Int) (by omega) (by omega)]
 rw [show (sizeOf (Tryz.prog.elem 32)).run Tryz.prog wx=.ok 4 wx from by kernel_rfl]
 simp [Result.andThen,sliced,Addr.add]
theorem implQueuesOk_any (ao:Option Addr) (len cap:Nat) (l:List Q) (w:World) (h:QRow w ao len l) (hl:len≤1048576) (hn:∀q ∈ l,q.name.length≤1048576) (hc:len≤cap) :
  Calls Tryz.prog 185 #[.slice ao len cap] w fun e w'=>e=.returned (.bool (queuesOk l))∧Below w.heap.size w w':=by
 have HR:=hide h
 have HL:=hide h.1
 have HN:=hide hn
 have HQ:=hide (queuesOk_okT l)
 clear h hn
 go_enter Tryz.func185,Tryz.ntmps185
 go_wp2
 go_loopw [3,4,7] (fun _ _ i wr=>∃k:Nat,k≤len∧i=.int .i64 k∧Hid (okT (l.take k)=true)∧Hid (Below w.heap.size w wr)) (fun _ _ i _=>len - (intOf i).toNat)
 case atStart=>exact ⟨0,Nat.zero_le _,rfl,hide (by rw [List.take_zero];rfl),hide (yH _ _)⟩
 case round=>
  obtain ⟨k,hk,rfl,HK,HB⟩:=hrel
  by_cases hlt:k<len
  ·have HR2:=hide ((uH HR).below (uH HB))
   obtain ⟨b,off,rfl,hq⟩:=(uH HR2).at hlt
   have hkl:k<l.length:=by have:=uH HL;omega
   have hst:=hide (okT_take_succ (l:=l) (k:=k) hkl)
   have hbad:=hide (@okT_take_false l (k+1))
   obtain ⟨c0,c1,c2,c3⟩:=hq hkl
   have hz:=uH HN l[k] (yM _)
   clear hq
   obtain ⟨⟨nm,pa,du,mo⟩,hs⟩:∃s,l[k]=s:=⟨_,rfl⟩
   rw [hs] at c0 c1 c2 c3 hst hz
   simp only at c0 c1 c2 c3
   have HA:=hide (QBox.new wr ⟨nm,pa,du,mo⟩)
   have hb1:=yA (uH HB) (qobj ⟨nm,pa,du,mo⟩)
   have CF:=hide (fun wx (hb:Below w.heap.size w wx)=>fits_any (some ⟨b,off,none⟩) k cap (l.take k) ⟨nm,pa,du,mo⟩ wx (((uH HR).below hb).take hk) (by omega) hz (okT_due (uH HK)))
   obtain ⟨f,hf⟩:∃f,fits (l.take k) ⟨nm,pa,du,mo⟩=f:=⟨_,rfl⟩
   rw [hf] at CF hst
   have hcut:=cut_q b off len cap k (by omega)
   have HB1:=hide hb1
   have k0:=(uH HA).c0
   have k1:=(uH HA).c1
   have k2:=(uH HA).c2
   have k3:=(uH HA).c3
   simp only at k0 k1 k2 k3
   have hkc:(k:Int)≤cap:=by omega
   clear hs hkl hz hf HR2 hb1
   cases f with
   | false=>
    go_wp2_with fail
    go_region_with (go_at_call 201;refine (uH CF _ ?_).mono ?_;(exact (uH HB1).drew);rintro e w2 ⟨rfl,hb⟩)
    all_goals
     have HB2:=hide (yB (uH HB1).drew hb)
     clear hb
     go_wp2
     go_ret
     exact ⟨yF (by rw [uH HQ,uH hbad (by rw [uH hst];simp)];rfl),uH HB2⟩
   | true=>
    go_wp2_with fail
    go_region_with (go_at_call 201;refine (uH CF _ ?_).mono ?_;(exact (uH HB1).drew);rintro e w2 ⟨rfl,hb⟩)
    all_goals
     have HB2:=hide (yB (uH HB1).drew hb)
     clear hb
     go_wp2
     go_roundw
     case rel=>exact ⟨k+1,by omega,by go_num,hide (by rw [uH hst,uH HK];rfl),HB2⟩
     case measure=>simp [intOf];omega
  ·have hfin:=hide (show queuesOk l=decide (0<len) by
    have e:k=l.length:=by have:=uH HL;omega
    have ho:=uH HK
    rw [e,List.take_length] at ho
    rw [uH HQ,ho,uH HL];rfl)
   by_cases h0:0<len
   ·go_wp2
    go_ret
    exact ⟨yF (by rw [uH hfin];simp [h0]),uH HB⟩
   ·go_wp2
    go_ret
    exact ⟨yF (by rw [uH hfin];simp [h0]),uH HB⟩
theorem noKid_any (nm:List UInt8):∀l:List Q,noKid nm l = !(l.any (fun q=>decide (q.parent=nm)))
 | []=>rfl
 | q::t=>by rw [noKid,noKid_any nm t,List.any_cons];by_cases h:q.parent=nm<;>simp [h]
theorem kidFn_any (B:Nat) (nm:List UInt8) (q:Q) (w:World) (hc:w.cell? ⟨B,0,none⟩=some (.string (bs nm))) :
  Calls Tryz.prog 213 #[qv q,.pointer (some ⟨B,0,none⟩)] w fun e w'=>e=.returned (.bool (decide (q.parent=nm)))∧Below w.heap.size w w':=by
 have hlt:=yG hc
 have hc2:(w.alloc (.cells #[.string (bs q.name),.string (bs q.parent),.int .i64 q.due,.int .i64 q.most] 142)).cell? ⟨B,0,none⟩=some (.string (bs nm)):=by rw [World.cell?_alloc_lt _ _ ⟨B,0,none⟩ hlt];exact hc
 have hbe:=bs_eq q.parent nm
 clear hc hlt
 go_enter Tryz.func213,Tryz.ntmps213
 go_wp2
 go_ret
 exact ⟨rfl,yA (yH _ _) _⟩
theorem containsFunc_any (g:Nat) (lb:Array Value) (eg:∀args w,(callFunc g args).run Tryz.prog w=.ok (.enter g args) w) (p:Q→Bool) (ao:Option Addr) (len cap:Nat) (l:List Q) (w:World) (h:QRow w ao len l) (hl:len≤1048576)
  (hp:∀wx q,Below w.heap.size w wx→Calls Tryz.prog g (#[qv q]++lb) wx fun e w'=>e=.returned (.bool (p q))∧Below wx.heap.size wx w') :
  Calls Tryz.prog 212 #[.slice ao len cap,.func (.func g) #[] lb] w fun e w'=>e=.returned (.bool (l.any p))∧Below w.heap.size w w':=by
 have C:=hide (indexFunc_any g lb eg p ao len cap l w h hl hp)
 have HS:=hide (idx_has p l 0)
 obtain ⟨i,hi⟩:∃i,idxFrom p l 0=i:=⟨_,rfl⟩
 obtain ⟨b,hb⟩:∃b,l.any p=b:=⟨_,rfl⟩
 rw [hi] at C HS
 rw [hb] at HS ⊢
 clear h hp hi hb
 go_enter Tryz.func212,Tryz.ntmps212
 go_wp2_with fail
 refine (uH C).mono ?_
 rintro e w1 ⟨rfl,hb⟩
 have HB:=hide hb
 clear hb
 by_cases h0:0≤i
 ·go_wp2
  go_ret
  exact ⟨yF (by first | exact uH HS | (rw [←uH HS];simp [h0])),uH HB⟩
 ·go_wp2
  go_ret
  exact ⟨yF (by first | exact uH HS | (rw [←uH HS];simp [h0])),uH HB⟩
def lone (l:List Q) (nm:List UInt8):Bool:=!(l.any (fun q=>decide (q.parent=nm)))&&decide (0≤place l nm)
theorem leaf_lone (l:List Q) (nm:List UInt8):leaf l nm=(queuesOk l&&lone l nm):=by
 rw [leaf,noKid_any,lone]
 cases queuesOk l<;>cases l.any (fun q=>decide (q.parent=nm))<;>simp
theorem lone_any (ao:Option Addr) (len cap:Nat) (l:List Q) (nm:List UInt8) (w:World) (h:QRow w ao len l) (hl:len≤1048576) :
  Calls Tryz.prog 190 #[.slice ao len cap,.string (bs nm)] w fun e w'=>e=.returned (.bool (lone l nm))∧Below w.heap.size w w':=by
 have hmf:∀(fn:Fn) (first cap:Array Value) (w:World),(Instr.makeFunc fn first cap).run Tryz.prog w=.ok (.func fn first cap) w:=fun _ _ _ _=>rfl
 have hb0:=yA (yH _ w) (.cells #[.string (bs nm)] 9)
 have hcell:(w.alloc (.cells #[.string (bs nm)] 9)).cell? ⟨w.heap.size,0,none⟩=some (.string (bs nm)):=by simp
 have CP:=hide (fun wx (hb:Below w.heap.size w wx)=>place_any ao len cap l nm wx (h.below hb) hl)
 have CC:=hide (fun wx (hb:Below w.heap.size w wx) (hx:wx.cell? ⟨w.heap.size,0,none⟩=some (.string (bs nm)))=>containsFunc_any 213 #[.pointer (some ⟨w.heap.size,0,none⟩)] (enters_of Tryz.func213 (by kernel_rfl) rfl) (fun q=>decide (q.parent=nm)) ao len cap l wx (h.below hb) hl
  (fun wy q hy=>kidFn_any w.heap.size nm q wy ((hy.cell (p:=⟨w.heap.size,0,none⟩) (yG hx)).trans hx)))
 have HF:=hide (show lone l nm=(!(l.any (fun q=>decide (q.parent=nm)))&&decide (0≤place l nm)) from rfl)
 obtain ⟨p,hp⟩:∃p,place l nm=p:=⟨_,rfl⟩
 obtain ⟨k,hk⟩:∃k,l.any (fun q=>decide (q.parent=nm))=k:=⟨_,rfl⟩
 obtain ⟨r,hr⟩:∃r,lone l nm=r:=⟨_,rfl⟩
 rw [hp] at CP HF
 rw [hk] at CC HF
 rw [hr] at HF ⊢
 have HB0:=hide hb0
 have HC:=hide hcell
 clear h hb0 hp hk hr hcell
 go_enter Tryz.func190,Tryz.ntmps190
 go_wp2_with fail
 refine (uH CP _ (uH HB0)).mono ?_
 rintro e w2 ⟨rfl,hb⟩
 have HB2:=hide (yB (uH HB0) hb)
 have HC2:=hide ((hb.cell (p:=⟨w.heap.size,0,none⟩) (yG (uH HC))).trans (uH HC))
 clear hb HC HB0 CP
 by_cases h0:0≤p
 ·go_wp2_with fail
  refine (uH CC _ (uH HB2) (uH HC2)).mono ?_
  rintro e w3 ⟨rfl,hb⟩
  have HB3:=hide (yB (uH HB2) hb)
  clear hb
  go_wp2
  go_ret
  exact ⟨yF (by rw [uH HF];simp [h0]),uH HB3⟩
 ·go_wp2
  go_ret
  exact ⟨yF (by rw [uH HF];simp [h0]),uH HB2⟩
def appsFrom (qs:List Q) (nx:Int):Int→List Appl→Bool
 | _,[]=>true
 | last,a::t=>decide (last<a.id)&&(decide (a.id<nx)&&(lone qs a.queue&&(asksOk a.asks&&appsFrom qs nx a.id t)))
def appsOkV (s:St):Bool:=decide (s.apps.length≤40)&&appsFrom s.qs s.next 0 s.apps
theorem appsFrom_step {qs:List Q} {nx last:Int} {l:List Appl} {k:Nat} (h:k<l.length):appsFrom qs nx last (l.drop k)=(decide (last<l[k].id)&&(decide (l[k].id<nx)&&(lone qs l[k].queue&&(asksOk l[k].asks&&appsFrom qs nx l[k].id (l.drop (k+1)))))):=by
 rw [List.drop_eq_getElem_cons h,appsFrom]
theorem appsFrom_end {qs:List Q} {nx last:Int} {l:List Appl} {k:Nat} (h:l.length≤k):appsFrom qs nx last (l.drop k)=true:=by
 rw [List.drop_of_length_le h];rfl
theorem appsOk_any (x:Sls) (s:St) (w:World) (h:SRow w x s) (hf:FitSt s) :
  Calls Tryz.prog 187 #[sv x s] w fun e w'=>e=.returned (.bool (appsOkV s))∧Below w.heap.size w w':=by
 have hql:x.ql≤1048576:=by have:=h.len.1;have:=hf.1.1;omega
 have hal:x.al≤1048576:=by have:=h.len.2.1;have:=hf.2.1.1;omega
 have HR:=hide h.2.1
 have HL:=hide h.2.1.1
 have HFA:=hide hf.2.1
 have CL:=hide (fun wx (hb:Below w.heap.size w wx) (nm:List UInt8)=>lone_any x.qa x.ql x.qc s.qs nm wx (h.1.below hb) hql)
 have HS:=hide (show appsOkV s=(decide (x.al≤40)&&appsFrom s.qs s.next 0 s.apps) by rw [appsOkV,←h.2.1.1])
 obtain ⟨o,ho⟩:∃o,appsOkV s=o:=⟨_,rfl⟩
 rw [ho] at HS ⊢
 clear h hf ho
 have hb0:=yA (yH _ w) (.cells (svc x s) 37)
 have P0:=hide (yD w (svc x s) 37)
 obtain ⟨qa,ql,qc,aa,al,ac,ma,ml,mc,ca,cl,cc⟩:=x
 obtain ⟨qs,clock,epoch,next,serial,apps,ms,cs⟩:=s
 simp only at hql hal HR HL HFA CL HS P0 hb0
 have HB0:=hide hb0
 clear hb0
 by_cases h40:al≤40
 case neg=>
  have hi:(40:Int)<al:=by omega
  rw [decide_eq_false h40] at HS
  go_enter Tryz.func187,Tryz.ntmps187
  go_wp2
  go_ret
  exact ⟨yF (by rw [uH HS];simp),uH HB0⟩
 have hi:¬(40:Int)<al:=by omega
 rw [decide_eq_true h40,Bool.true_and] at HS
 clear h40
 go_enter Tryz.func187,Tryz.ntmps187
 go_wp2
 go_loopw [3,13] (fun la i wr=>∃(k:Nat) (last:Int),k≤al∧i=.int .i64 k∧la=.int .i64 last∧Hid (o=appsFrom qs next last (apps.drop k))∧Hid (Blk wr w.heap.size (svc ⟨qa,ql,qc,aa,al,ac,ma,ml,mc,ca,cl,cc⟩ ⟨qs,clock,epoch,next,serial,apps,ms,cs⟩) 37)∧Hid (Below w.heap.size w wr)) (fun _ i _=>al - (intOf i).toNat)
 case atStart=>exact ⟨0,0,Nat.zero_le _,rfl,rfl,hide (by rw [uH HS];simp),P0,HB0⟩
 case round=>
  obtain ⟨k,last,hk,rfl,rfl,HO,P1,HB⟩:=hrel
  clear P0 HB0 HS
  by_cases hlt:k<al
  ·obtain ⟨b,off,rfl,hq⟩:=((uH HR).below (uH HB)).at hlt
   have hkl:k<apps.length:=by have:=uH HL;omega
   have hst:=hide (appsFrom_step (qs:=qs) (nx:=next) (last:=last) (l:=apps) (k:=k) hkl)
   have hfa:=(uH HFA).2 _ (yM hkl)
   obtain ⟨xo,xl,xc,c0,c1,c2,hrow,_⟩:=hq hkl
   obtain ⟨⟨id,qu,asks⟩,hs⟩:∃s,apps[k]=s:=⟨_,rfl⟩
   rw [hs] at c0 c1 hst hrow hfa
   simp only at c0 c1 hst hrow
   have hxl:xl≤1048576:=by have h1:=hrow.1;have h2:=hfa.2.1;simp only at h2;omega
   obtain ⟨lo,hlo⟩:∃b,lone qs qu=b:=⟨_,rfl⟩
   obtain ⟨so,hso⟩:∃b,asksOk asks=b:=⟨_,rfl⟩
   have C1:=hide (fun wx (hb:Below w.heap.size w wx)=>by have:=uH CL wx hb qu;rw [hlo] at this;exact this)
   have C2:=hide (fun wx (hb:Below wr.heap.size wr wx)=>by have:=asksOk_any id qu xo xl xc asks wx (hrow.below hb) hxl hfa.2.2;rw [hso] at this;exact this)
   rw [hlo,hso] at hst
   have hb2:=yA (yH _ wr) (.cells #[.int .i64 id,.string (bs qu),.slice xo xl xc] 139)
   have P2:=hide ((uH P1).below hb2)
   have V2:=hide (yD wr #[.int .i64 id,.string (bs qu),.slice xo xl xc] 139)
   have HB2:=hide (yB (uH HB) hb2)
   have HW2:=hide hb2
   have p0:=(uH P2).at 0
   have p3:=(uH P2).at 3
   have q5:=(uH P1).at 5
   simp at p0 p3 q5
   clear hq hs hkl hrow hfa hb2 hlo hso CL
   by_cases h1:last<id
   case neg=>
    have h1':id≤last:=by omega
    go_wp2
    go_ret
    exact ⟨yF (by rw [uH HO,uH hst,decide_eq_false (show ¬last<id by omega)];simp),uH HB2⟩
   by_cases h2:id<next
   case neg=>
    have h2':next≤id:=by omega
    have h1':¬id≤last:=by omega
    go_wp2
    go_ret
    exact ⟨yF (by rw [uH HO,uH hst,decide_eq_false (show ¬id<next by omega)];simp),uH HB2⟩
   have h2':¬next≤id:=by omega
   have h1':¬id≤last:=by omega
   have HO2:=hide (show o=(lo&&(so&&appsFrom qs next id (apps.drop (k+1)))) by rw [uH HO,uH hst,decide_eq_true h1,decide_eq_true h2];simp)
   clear HO hst
   go_wp2_with fail
   refine (uH C1 _ (uH HB2)).mono ?_
   rintro e w1 ⟨rfl,hb⟩
   have P3:=hide ((uH P2).below hb)
   have V3:=hide ((uH V2).below hb)
   have HB3:=hide (yB (uH HB2) hb)
   have HW3:=hide (yB (uH HW2) hb)
   have a0:=(uH V3).at 0
   have a1:=(uH V3).at 1
   have a2:=(uH V3).at 2
   simp at a0 a1 a2
   clear hb P2 V2 HB2 HW2 C1 p0 p3 q5
   cases lo with
   | false=>
    go_wp2
    go_ret
    exact ⟨yF (by rw [uH HO2];simp),uH HB3⟩
   | true=>
   go_wp2_with fail
   refine (uH C2 _ (uH HW3)).mono ?_
   rintro e w2 ⟨rfl,hb⟩
   have P4:=hide ((uH P3).below hb)
   have V4:=hide ((uH V3).below hb)
   have HB4:=hide (yB (uH HB3) hb)
   have d0:=(uH V4).at 0
   simp at d0
   clear hb P3 V3 HB3 HW3 C2 a0 a1 a2
   cases so with
   | false=>
    go_wp2
    go_ret
    exact ⟨yF (by rw [uH HO2];simp),uH HB4⟩
   | true=>
   go_wp2
   go_roundw
   case rel=>exact ⟨k+1,id,by omega,by go_num,rfl,hide (by rw [uH HO2];simp),P4,HB4⟩
   case measure=>simp [intOf];omega
  ·go_wp2
   go_ret
   exact ⟨yF (by rw [uH HO,appsFrom_end (by have:=uH HL;omega)]),uH HB⟩
end
section
open Go.RowKit Go.Shelf
attribute [local go_sem] Oper.semAt_some
end
end Go.Proofs.YtjkfappkpopbdaaGreat
/-
 Whether a queue is another one,or below it: what the program's reaches answers;a walk over the dump.
-/
namespace Go.Proofs.YtjkfappkpopbdaaGreat
open Go.RowKit Go.Shelf
set_option linter.unusedVariables false
attribute [local go_sem] Oper.semAt_some
end Go.Proofs.YtjkfappkpopbdaaGreat
/-
 What those containers have together that a method's value counts,by the program: used;a walk over the dump.
-/
namespace Go.Proofs.YtjkfappkpopbdaaGreat
open Go.RowKit
set_option linter.unusedVariables false
end Go.Proofs.YtjkfappkpopbdaaGreat
/-
 What a queue uses,by the program: UsedBy;a walk over the dump,with a map that is ranged over and shrinks.
-/
namespace Go.Proofs.YtjkfappkpopbdaaGreat
open Go.RowKit Go.Maps
set_option linter.unusedVariables false
end Go.Proofs.YtjkfappkpopbdaaGreat
namespace Go.Proofs.YtjkfappkpopbdaaGreat
section
open Go.RowKit Go.Shelf
attribute [local go_sem] Oper.semAt_some
attribute [local go_sem] Oper.semAt_some
attribute [local go_sem] Oper.semAt_some
theorem Tryz.infoInt:(Tryz.prog.info? 3).map (fun i=>(i.zero,i.size,i.bytes))=some (some (.int .i64 0),1,8):=by kernel_rfl
end
section
open Go.RowKit Go.Maps
theorem min_run (x y:Int) (wx:World):(Builtin.min_ #[3,3] 3 #[.int .i64 x,.int .i64 y]).run Tryz.prog wx=.ok (.int .i64 (min x y)) wx:=by
 have:(if y<x then y else x)=min x y:=by omega
 simp [go_sem]
end
end Go.Proofs.YtjkfappkpopbdaaGreat
