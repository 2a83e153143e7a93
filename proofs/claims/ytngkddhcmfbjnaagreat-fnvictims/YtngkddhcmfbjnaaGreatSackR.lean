/-
  Texts in one: QueuesOkI, LoneI, OkC, KidM, LvM, StvM, AboveI, GatherI, LeafI, LeavesI, PathI.
-/
import Derived.Test.YtngkddhcmfbjnaaGreatSackP
import Derived.Test.YtngkddhcmfbjnaaGreatSackK
import Derived.Test.YtngkddhcmfbjnaaGreatSackJ
import Derived.Maps.AppendAt
set_option maxRecDepth 100000
set_option maxHeartbeats 16000000
set_option linter.unusedVariables false
set_option linter.unusedSimpArgs false
namespace Go.Proofs.YtngkddhcmfbjnaaGreat
section
open Go.RowKit
variable {last nx:Int} {l qs:List Q} {k:Nat}
theorem gJ.take {w:World} {ao:Option Addr} {len:Nat} (h:gJ w ao len l) (hk:k≤len):gJ w ao k (l.take k):=by
 obtain ⟨h1,h2⟩:=h
 refine ⟨by simp;omega,?_⟩
 rcases h2 with h2 | ⟨b,off,h3,h4⟩
 ·exact .inl (by omega)
 ·refine .inr ⟨b,off,h3,fun i hi=>?_⟩
  have:i<l.length:=by simp at hi;omega
  rw [List.getElem_take]
  exact h4 i this
theorem aKm (b off len cap k:Nat) (hk:k≤cap) (wx:World):(Instr.slice 24 (.slice (some ⟨b,off,none⟩) len cap) none (some (.int .i64 (k:Int))) none).run Tryz.prog wx=.ok (.slice (some ⟨b,off,none⟩) k cap) wx:=by
 rw [run_slice_h (P:=Tryz.prog) (w:=wx) 24 (some ⟨b,off,none⟩) len cap Tryz.underlying24 .i64 (k:Int) (by omega) (by omega)]
 rw [show (sizeOf (Tryz.prog.elem 24)).run Tryz.prog wx=.ok 4 wx from by kernel_rfl]
 simp [Result.andThen,sliced,Addr.add]
theorem fE (ao:Option Addr) (len cap:Nat) (l:List Q) (w:World) (h:gJ w ao len l) (hl:len≤1048576) (hn:∀q ∈ l,q.name.length≤1048576) (hc:len≤cap) :
  cP 74 #[.slice ao len cap] w fun e w'=>e=.returned (.bool (aH l))∧Bw w w':=by
 have HR:=aA h
 have HL:=aA h.1
 have HN:=aA hn
 have HQ:=aA (uC l)
 clear h hn
 go_enter Tryz.func74,Tryz.ntmps74
 go_wp2
 go_loopw [3,4,7] (fun _ _ i wr=>∃k:Nat,k≤len∧i=.int .i64 k∧Hid (okT (l.take k)=true)∧Hid (Bw w wr)) (fun _ _ i _=>len - (intOf i).toNat)
 case atStart=>exact ⟨0,Nat.zero_le _,rfl,aA (by rw [List.take_zero];rfl),aA (yH _ _)⟩
 case round=>
  obtain ⟨k,hk,rfl,HK,HB⟩:=hrel
  by_cases hlt:k<len
  ·have HR2:=aA ((uH HR).below (uH HB))
   obtain ⟨b,off,rfl,hq⟩:=(uH HR2).at hlt
   have hkl:k<l.length:=by have:=uH HL;omega
   have hst:=aA (qH (l:=l) (k:=k) hkl)
   have Nk:=aA (@zY l (k+1))
   obtain ⟨c0,c1,c2,c3⟩:=hq hkl
   have hz:=uH HN l[k] (yM _)
   clear hq
   obtain ⟨⟨nm,pa,du,mo⟩,hs⟩:∃s,l[k]=s:=⟨_,rfl⟩
   rw [hs] at c0 c1 c2 c3 hst hz
   simp only at c0 c1 c2 c3
   have HA:=aA (mO.new wr ⟨nm,pa,du,mo⟩)
   have hb1:=yA (uH HB) (aGG ⟨nm,pa,du,mo⟩)
   have CF:=aA (fun wx (hb:Bw w wx)=>aIk (some ⟨b,off,none⟩) k cap (l.take k) ⟨nm,pa,du,mo⟩ wx (((uH HR).below hb).take hk) (by omega) hz (aJg (uH HK)))
   obtain ⟨f,hf⟩:∃f,aB4 (l.take k) ⟨nm,pa,du,mo⟩=f:=⟨_,rfl⟩
   rw [hf] at CF hst
   have hcut:=aKm b off len cap k (by omega)
   have HB1:=aA hb1
   have k0:=(uH HA).c0
   have k1:=(uH HA).c1
   have k2:=(uH HA).c2
   have k3:=(uH HA).c3
   simp only at k0 k1 k2 k3
   have hkc:(k:Int)≤cap:=by omega
   clear hs hkl hz hf HR2 hb1
   cases f with
   | false=>
    go_wp2_with fail
    go_region_with (go_at_call 124;refine (uH CF _ ?_).mono ?_;(exact (uH HB1).drew);rintro e w2 ⟨rfl,hb⟩)
    all_goals
     have HB2:=aA (yB (uH HB1).drew hb)
     clear hb
     go_wp2
     go_ret
     exact ⟨yF (by rw [uH HQ,uH Nk (by rw [uH hst];simp)];rfl),uH HB2⟩
   | true=>
    go_wp2_with fail
    go_region_with (go_at_call 124;refine (uH CF _ ?_).mono ?_;(exact (uH HB1).drew);rintro e w2 ⟨rfl,hb⟩)
    all_goals
     have HB2:=aA (yB (uH HB1).drew hb)
     clear hb
     go_wp2
     go_roundw
     case rel=>exact ⟨k+1,by omega,by go_num,aA (by rw [uH hst,uH HK];rfl),HB2⟩
     case measure=>simp [intOf];omega
  ·have Gw:=aA (show aH l=decide (0<len) by
    have e:k=l.length:=by have:=uH HL;omega
    have ho:=uH HK
    rw [e,List.take_length] at ho
    rw [uH HQ,ho,uH HL];rfl)
   by_cases h0:0<len
   ·go_wp2
    go_ret
    exact ⟨yF (by rw [uH Gw];simp [h0]),uH HB⟩
   ·go_wp2
    go_ret
    exact ⟨yF (by rw [uH Gw];simp [h0]),uH HB⟩
theorem aCQ (nm:List UInt8):∀l:List Q,vL nm l = !(l.any (fun q=>decide (q.parent=nm)))
 | []=>rfl
 | q::t=>by rw [vL,aCQ nm t,List.any_cons];by_cases h:q.parent=nm<;>simp [h]
theorem aHG (B:Nat) (nm:List UInt8) (q:Q) (w:World) (hc:w.cell? ⟨B,0,none⟩=some (.string (bs nm))) :
  cP 148 #[qv q,.pointer (some ⟨B,0,none⟩)] w fun e w'=>e=.returned (.bool (decide (q.parent=nm)))∧Bw w w':=by
 have hlt:=yG hc
 have hc2:(w.alloc (.cells #[.string (bs q.name),.string (bs q.parent),.int .i64 q.due,.int .i64 q.most] 56)).cell? ⟨B,0,none⟩=some (.string (bs nm)):=by rw [World.cell?_alloc_lt _ _ ⟨B,0,none⟩ hlt];exact hc
 have hbe:=lL q.parent nm
 clear hc hlt
 go_enter Tryz.func148,Tryz.ntmps148
 go_wp2
 go_ret
 exact ⟨rfl,yA (yH _ _) _⟩
theorem vU (g:Nat) (lb:Array Value) (eg:∀args w,(callFunc g args).run Tryz.prog w=.ok (.enter g args) w) (p:Q→Bool) (ao:Option Addr) (len cap:Nat) (l:List Q) (w:World) (h:gJ w ao len l) (hl:len≤1048576)
  (hp:∀wx q,Bw w wx→Calls Tryz.prog g (#[qv q]++lb) wx fun e w'=>e=.returned (.bool (p q))∧Bw wx w') :
  cP 147 #[.slice ao len cap,.func (.func g) #[] lb] w fun e w'=>e=.returned (.bool (l.any p))∧Bw w w':=by
 have C:=aA (qP g lb eg p ao len cap l w h hl hp)
 have HS:=aA (aHK p l 0)
 obtain ⟨i,hi⟩:∃i,iX p l 0=i:=⟨_,rfl⟩
 obtain ⟨b,hb⟩:∃b,l.any p=b:=⟨_,rfl⟩
 rw [hi] at C HS
 rw [hb] at HS ⊢
 clear h hp hi hb
 go_enter Tryz.func147,Tryz.ntmps147
 go_wp2_with fail
 refine (uH C).mono ?_
 rintro e w1 ⟨rfl,hb⟩
 have HB:=aA hb
 clear hb
 by_cases h0:0≤i
 ·go_wp2
  go_ret
  exact ⟨yF (by first | exact uH HS | (rw [←uH HS];simp [h0])),uH HB⟩
 ·go_wp2
  go_ret
  exact ⟨yF (by first | exact uH HS | (rw [←uH HS];simp [h0])),uH HB⟩
def aGs (l:List Q) (nm:List UInt8):Bool:=!(l.any (fun q=>decide (q.parent=nm)))&&decide (0≤place l nm)
theorem qK (l:List Q) (nm:List UInt8):oI l nm=(aH l&&aGs l nm):=by
 rw [oI,aCQ,aGs]
 cases aH l<;>cases l.any (fun q=>decide (q.parent=nm))<;>simp
theorem aBS (ao:Option Addr) (len cap:Nat) (l:List Q) (nm:List UInt8) (w:World) (h:gJ w ao len l) (hl:len≤1048576) :
  cP 90 #[.slice ao len cap,.string (bs nm)] w fun e w'=>e=.returned (.bool (aGs l nm))∧Bw w w':=by
 have KQ:∀(fn:Fn) (first cap:Array Value) (w:World),(Instr.makeFunc fn first cap).run Tryz.prog w=.ok (.func fn first cap) w:=fun _ _ _ _=>rfl
 have hb0:=yA (yH _ w) (.cells #[.string (bs nm)] 9)
 have Q8:(w.alloc (.cells #[.string (bs nm)] 9)).cell? ⟨w.heap.size,0,none⟩=some (.string (bs nm)):=by simp
 have CP:=aA (fun wx (hb:Bw w wx)=>qA ao len cap l nm wx (h.below hb) hl)
 have CC:=aA (fun wx (hb:Bw w wx) (hx:wx.cell? ⟨w.heap.size,0,none⟩=some (.string (bs nm)))=>vU 148 #[.pointer (some ⟨w.heap.size,0,none⟩)] (enters_of Tryz.func148 (by kernel_rfl) rfl) (fun q=>decide (q.parent=nm)) ao len cap l wx (h.below hb) hl
  (fun wy q hy=>aHG w.heap.size nm q wy ((hy.cell (p:=⟨w.heap.size,0,none⟩) (yG hx)).trans hx)))
 have HF:=aA (show aGs l nm=(!(l.any (fun q=>decide (q.parent=nm)))&&decide (0≤place l nm)) from rfl)
 obtain ⟨p,hp⟩:∃p,place l nm=p:=⟨_,rfl⟩
 obtain ⟨k,hk⟩:∃k,l.any (fun q=>decide (q.parent=nm))=k:=⟨_,rfl⟩
 obtain ⟨r,hr⟩:∃r,aGs l nm=r:=⟨_,rfl⟩
 rw [hp] at CP HF
 rw [hk] at CC HF
 rw [hr] at HF ⊢
 have HB0:=aA hb0
 have HC:=aA Q8
 clear h hb0 hp hk hr Q8
 go_enter Tryz.func90,Tryz.ntmps90
 go_wp2_with fail
 refine (uH CP _ (uH HB0)).mono ?_
 rintro e w2 ⟨rfl,hb⟩
 have HB2:=aA (yB (uH HB0) hb)
 have Zw:=aA ((hb.cell (p:=⟨w.heap.size,0,none⟩) (yG (uH HC))).trans (uH HC))
 clear hb HC HB0 CP
 by_cases h0:0≤p
 ·go_wp2_with fail
  refine (uH CC _ (uH HB2) (uH Zw)).mono ?_
  rintro e w3 ⟨rfl,hb⟩
  have HB3:=aA (yB (uH HB2) hb)
  clear hb
  go_wp2
  go_ret
  exact ⟨yF (by rw [uH HF];simp [h0]),uH HB3⟩
 ·go_wp2
  go_ret
  exact ⟨yF (by rw [uH HF];simp [h0]),uH HB2⟩
def dA (qs:List Q) (nx:Int):Int→List bN→Bool
 | _,[]=>true
 | last,a::t=>decide (last<a.id)&&(decide (a.id<nx)&&(aGs qs a.queue&&(uY a.asks&&dA qs nx a.id t)))
def gI (s:St):Bool:=decide (s.apps.length≤40)&&dA s.qs s.next 0 s.apps
theorem qY {l:List bN} (h:k<l.length):dA qs nx last (l.drop k)=(decide (last<l[k].id)&&(decide (l[k].id<nx)&&(aGs qs l[k].queue&&(uY l[k].asks&&dA qs nx l[k].id (l.drop (k+1)))))):=by
 rw [List.drop_eq_getElem_cons h,dA]
theorem uZ {l:List bN} (h:l.length≤k):dA qs nx last (l.drop k)=true:=by
 rw [List.drop_of_length_le h];rfl
theorem aFy (x:Sls) (s:St) (w:World) (h:gU w x s) (hf:dI s) :
  cP 76 #[sv x s] w fun e w'=>e=.returned (.bool (gI s))∧Bw w w':=by
 have GJ:x.ql≤1048576:=by have:=h.len.1;have:=hf.1.1;omega
 have hal:x.al≤1048576:=by have:=h.len.2.1;have:=hf.2.1.1;omega
 have HR:=aA h.2.1
 have HL:=aA h.2.1.1
 have zw:=aA hf.2.1
 have CL:=aA (fun wx (hb:Bw w wx) (nm:List UInt8)=>aBS x.qa x.ql x.qc s.qs nm wx (h.1.below hb) GJ)
 have HS:=aA (show gI s=(decide (x.al≤40)&&dA s.qs s.next 0 s.apps) by rw [gI,←h.2.1.1])
 obtain ⟨o,ho⟩:∃o,gI s=o:=⟨_,rfl⟩
 rw [ho] at HS ⊢
 clear h hf ho
 have hb0:=yA (yH _ w) (.cells (svc x s) 29)
 have P0:=aA (yD w (svc x s) 29)
 obtain ⟨qa,ql,qc,aa,al,ac,ma,ml,mc,ca,cl,cc⟩:=x
 obtain ⟨qs,cv,ez,nv,sj,aj,ms,cs⟩:=s
 simp only at GJ hal HR HL zw CL HS P0 hb0
 have HB0:=aA hb0
 clear hb0
 by_cases XX:al≤40
 case neg=>
  have hi:(40:Int)<al:=by omega
  rw [decide_eq_false XX] at HS
  go_enter Tryz.func76,Tryz.ntmps76
  go_wp2
  go_ret
  exact ⟨yF (by rw [uH HS];simp),uH HB0⟩
 have hi:¬(40:Int)<al:=by omega
 rw [decide_eq_true XX,Bool.true_and] at HS
 clear XX
 go_enter Tryz.func76,Tryz.ntmps76
 go_wp2
 go_loopw [3,13] (fun la i wr=>∃(k:Nat) (last:Int),k≤al∧i=.int .i64 k∧la=.int .i64 last∧Hid (o=dA qs nv last (aj.drop k))∧Hid (Blk wr w.heap.size (svc ⟨qa,ql,qc,aa,al,ac,ma,ml,mc,ca,cl,cc⟩ ⟨qs,cv,ez,nv,sj,aj,ms,cs⟩) 29)∧Hid (Bw w wr)) (fun _ i _=>al - (intOf i).toNat)
 case atStart=>exact ⟨0,0,Nat.zero_le _,rfl,rfl,aA (by rw [uH HS];simp),P0,HB0⟩
 case round=>
  obtain ⟨k,last,hk,rfl,rfl,HO,P1,HB⟩:=hrel
  clear P0 HB0 HS
  by_cases hlt:k<al
  ·obtain ⟨b,off,rfl,hq⟩:=((uH HR).below (uH HB)).at hlt
   have hkl:k<aj.length:=by have:=uH HL;omega
   have hst:=aA (qY (qs:=qs) (nx:=nv) (last:=last) (l:=aj) (k:=k) hkl)
   have hfa:=(uH zw).2 _ (yM hkl)
   obtain ⟨xo,xl,xc,c0,c1,c2,Hw,_⟩:=hq hkl
   obtain ⟨⟨id,qu,asks⟩,hs⟩:∃s,aj[k]=s:=⟨_,rfl⟩
   rw [hs] at c0 c1 hst Hw hfa
   simp only at c0 c1 hst Hw
   have hxl:xl≤1048576:=by have h1:=Hw.1;have h2:=hfa.2.1;simp only at h2;omega
   obtain ⟨lo,hlo⟩:∃b,aGs qs qu=b:=⟨_,rfl⟩
   obtain ⟨so,hso⟩:∃b,uY asks=b:=⟨_,rfl⟩
   have C1:=aA (fun wx (hb:Bw w wx)=>by have:=uH CL wx hb qu;rw [hlo] at this;exact this)
   have C2:=aA (fun wx (hb:Bw wr wx)=>by have:=aFv id qu xo xl xc asks wx (Hw.below hb) hxl hfa.2.2;rw [hso] at this;exact this)
   rw [hlo,hso] at hst
   have hb2:=yA (yH _ wr) (.cells #[.int .i64 id,.string (bs qu),.slice xo xl xc] 48)
   have P2:=aA ((uH P1).below hb2)
   have V2:=aA (yD wr #[.int .i64 id,.string (bs qu),.slice xo xl xc] 48)
   have HB2:=aA (yB (uH HB) hb2)
   have HW2:=aA hb2
   have p0:=(uH P2).at 0
   have p3:=(uH P2).at 3
   have q5:=(uH P1).at 5
   simp at p0 p3 q5
   clear hq hs hkl Hw hfa hb2 hlo hso CL
   by_cases h1:last<id
   case neg=>
    have h1':id≤last:=by omega
    go_wp2
    go_ret
    exact ⟨yF (by rw [uH HO,uH hst,decide_eq_false (show ¬last<id by omega)];simp),uH HB2⟩
   by_cases h2:id<nv
   case neg=>
    have h2':nv≤id:=by omega
    have h1':¬id≤last:=by omega
    go_wp2
    go_ret
    exact ⟨yF (by rw [uH HO,uH hst,decide_eq_false (show ¬id<nv by omega)];simp),uH HB2⟩
   have h2':¬nv≤id:=by omega
   have h1':¬id≤last:=by omega
   have GD:=aA (show o=(lo&&(so&&dA qs nv id (aj.drop (k+1)))) by rw [uH HO,uH hst,decide_eq_true h1,decide_eq_true h2];simp)
   clear HO hst
   go_wp2_with fail
   refine (uH C1 _ (uH HB2)).mono ?_
   rintro e w1 ⟨rfl,hb⟩
   have P3:=aA ((uH P2).below hb)
   have V3:=aA ((uH V2).below hb)
   have HB3:=aA (yB (uH HB2) hb)
   have HW3:=aA (yB (uH HW2) hb)
   have a0:=(uH V3).at 0
   have a1:=(uH V3).at 1
   have a2:=(uH V3).at 2
   simp at a0 a1 a2
   clear hb P2 V2 HB2 HW2 C1 p0 p3 q5
   cases lo with
   | false=>
    go_wp2
    go_ret
    exact ⟨yF (by rw [uH GD];simp),uH HB3⟩
   | true=>
   go_wp2_with fail
   refine (uH C2 _ (uH HW3)).mono ?_
   rintro e w2 ⟨rfl,hb⟩
   have P4:=aA ((uH P3).below hb)
   have V4:=aA ((uH V3).below hb)
   have G8:=aA (yB (uH HB3) hb)
   have d0:=(uH V4).at 0
   simp at d0
   clear hb P3 V3 HB3 HW3 C2 a0 a1 a2
   cases so with
   | false=>
    go_wp2
    go_ret
    exact ⟨yF (by rw [uH GD];simp),uH G8⟩
   | true=>
   go_wp2
   go_roundw
   case rel=>exact ⟨k+1,id,by omega,by go_num,rfl,aA (by rw [uH GD];simp),P4,G8⟩
   case measure=>simp [intOf];omega
  ·go_wp2
   go_ret
   exact ⟨yF (by rw [uH HO,uZ (by have:=uH HL;omega)]),uH HB⟩
theorem uD {nm:List UInt8}:∀(l:List Q) (k j:Nat),aN nm l k=(j:Int)→∃i,∃h:i<l.length,j=k+i∧l[i].name=nm
 | [],k,j,h=>by simp [aN] at h
 | q::t,k,j,h=>by
  rw [aN] at h
  split at h
  ·rename_i hq
   exact ⟨0,by simp,by omega,by simpa using hq⟩
  ·obtain ⟨i,hi,e1,e2⟩:=uD t (k+1) j h
   exact ⟨i+1,by simpa using hi,by omega,by simpa using e2⟩
theorem aBF {nm:List UInt8} {j:Nat} (h:place l nm=(j:Int)):∃hj:j<l.length,l[j].name=nm:=by
 obtain ⟨i,hi,e1,e2⟩:=uD l 0 j h
 obtain rfl:j=i:=by omega
 exact ⟨hi,e2⟩
def aHz (l:List Q) (k:Int):List (List UInt8):=dZ l (l.length+1) k
theorem aHy (h:aH l=true) (hk:k<l.length):aHz l k=l[k].name::aHz l (place l l[k].parent):=aCJ h hk (by omega)
theorem aEI {p:Int} (hp:p<0):aHz l p=[]:=aBH hp
def dG (l:List Q):List (List UInt8):=(l.map Q.name).filter (oI l)
theorem iH (l:List Q):(dG l).length≤l.length:=by
 have:=List.length_filter_le (oI l) (l.map Q.name)
 rw [List.length_map] at this
 exact this
theorem uK (h:aH l=false):dG l=[]:=by
 rw [dG,List.filter_eq_nil_iff]
 intro a _
 rw [qK,h];simp
def lC (s:St) (x:List UInt8):Bool:=kC s x&&(within (aL s x).1 (aL s x).2 (iO s x).1 (iO s x).2&&!decide (aL s x=iO s x))
def aAv (s:St):List (List UInt8):=(dG s.qs).filter (lC s)
def dJ (s:St):List (List UInt8):=(aAv s).mergeSort fun x y=>decide (x≤y)
theorem aDP (s:St):(aAv s).length≤s.qs.length:=Nat.le_trans (List.length_filter_le _ _) (iH _)
theorem aDO (s:St):(dJ s).length≤s.qs.length:=by
 rw [dJ,List.length_mergeSort]
 exact aDP s
def lD (s:St) (k:Nat):List (List UInt8):=xZ (((s.qs.take k).map Q.name).filter (fun x=>oI s.qs x&&lC s x)) []
theorem aDR (s:St) (h:s.qs.length≤k):lD s k=dJ s:=by
 rw [lD,dJ,aHJ,List.take_of_length_le h,aAv,dG,List.filter_filter]
 congr 1
 apply List.filter_congr
 intro x _
 rw [Bool.and_comm]
theorem aBv (s:St) (h:k<s.qs.length):lD s (k+1)=if (oI s.qs s.qs[k].name&&lC s s.qs[k].name)=true then OrdM.ins Op.bytesLess s.qs[k].name (lD s k) else lD s k:=by
 rw [lD,List.take_succ_eq_append_getElem h,List.map_append,List.filter_append]
 cases hb:oI s.qs s.qs[k].name&&lC s s.qs[k].name with
 | true=>
  rw [if_pos rfl]
  simp only [List.map_cons,List.map_nil,List.filter_cons,hb,if_true,List.filter_nil]
  rw [aDk];rfl
 | false=>
  rw [if_neg (by simp)]
  simp only [List.map_cons,List.map_nil,List.filter_cons,hb,List.filter_nil]
  rw [if_neg (by simp),List.append_nil];rfl
theorem aDQ (s:St) (k:Nat):(lD s k).length≤k:=by
 rw [lD,(pJ _ _).length_eq,List.append_nil]
 refine Nat.le_trans (List.length_filter_le _ _) ?_
 simp
 omega
end
section
open Go.RowKit Go.Shelf
variable {xs:List Value} {B k n size t:Nat} {q:Q} {v:Value} {W W' w w':World}
attribute [local go_sem] Oper.semAt_some
def KpQ (n:Nat) (W W':World):Prop:=Below n W W'∧∀k q,mO W k q→mO W' k q
theorem aKf {A B C:World} (h:KpQ n A B) (k:KpQ n B C):KpQ n A C:=⟨h.1.trans k.1,fun i q hq=>k.2 i q (h.2 i q hq)⟩
theorem aKg (hn:n≤w.heap.size) (W:World) (l:Nat) (o o':Obj) (hl:w.heap.size≤l) (h:W.heap[l]? = some o) (h1:o.isCells=false) (h2:o.isWalk=false):KpQ n W (W.putObj l o'):=by
 refine ⟨belowK_b hn W l o o' hl h h1 h2,fun k q hq=>?_⟩
 have hne:k≠l:=fun e=>by
  subst e
  rw [show W.heap[k]? = _ from hq] at h
  cases h
  cases h1
 exact ((grownBy_putObj' W l o').block k hq.lt (by simp;omega)).trans hq
theorem aHA (hn:n≤W.heap.size) (h:Bw W W'):KpQ n W W':=⟨h.mono hn,fun k q hq=>hq.below h⟩
def aEX:Value→Nat
 | .slice _ n _=>n
 | _=>0
theorem aKG {J:List Q→World→Prop} (hJ:AbidesFrom B J) {pre:List Q} (h:J pre W) (hb:Bw W W'):J pre W':=
 hJ pre W W' none h (aG (aF W none) hb) (fun r e=>by cases e)
theorem aHo (n l Bq Bn:Nat) (ao:Option Addr) (len cap:Nat) (ls:List Q) (nm:List UInt8) (w0 W:World) (J Jx:List Q→World→Prop) (hJ:AbidesFrom W.heap.size J)
  (hY:∀pre x W1,x ∈ ls→J pre W1→pre.length<ls.length→YieldAt Fence.wide (n - 1) Tryz.prog l #[qv x] W1 fun e W'=>
   (e=.returned (.bool true)∧J (pre++[x]) W'∧KpQ w0.heap.size W1 W')∨(e=.returned (.bool false)∧Jx (pre++[x]) W'))
  (hq:W.cell? ⟨Bq,0,none⟩=some (.slice ao len cap)) (hnm:W.cell? ⟨Bn,0,none⟩=some (.string (bs nm))) (h:gJ w0 ao len ls) (hb:Bw w0 W) (hl:len≤1048576) (hc:len≤cap) (h0:J [] W) :
  CallsIn Fence.wide n Tryz.prog 186 #[.func (.yield l) #[] #[],.pointer (some ⟨Bq,0,none⟩),.pointer (some ⟨Bn,0,none⟩)] W fun e W'=>(∃v,e=.returned v)∧
   ((∃ys,ys=ups ls nm∧J ys W')∨(∃pre,pre <+: ups ls nm∧Jx pre W')):=by
 have HR:=aA h
 have HL:=aA h.1
 have HB:=aA hb
 have HJ:=aA hJ
 have HY:=aA hY
 have H0:=aA h0
 have CP:=aA (fun wx (hb:Bw w0 wx) (k:Nat) (hk:k≤len) (x:List UInt8)=>qA ao k cap (ls.take k) x wx ((h.below hb).take hk) (by omega))
 obtain ⟨p0,hp0⟩:∃p,place (ls.take len) nm=p:=⟨_,rfl⟩
 have CP0:=aA (by have:=uH CP W.drew hb.drew len (yJ _) nm;rw [hp0] at this;exact this)
 have TY:=aA (show ups ls nm=[]++ups (ls.take len) nm by rw [show ls.take len=ls by rw [h.1];exact List.take_length];rfl)
 have Vv:=aA hp0
 have HN:=aA (aAo (ls.length+1) ls nm)
 clear h hb hJ hY h0 hp0
 have hmx:Tryz.prog.follows .mixedOrders=true:=by kernel_rfl
 refine callsIn_of_wp Tryz.func186 rfl trivial ?_ rfl
 simp only [Tryz.ntmps186,List.size_toArray,List.length_cons,List.length_nil,Nat.reduceAdd,Nat.reduceSub,Array.replicate_succ,Array.replicate_zero,List.push_toArray,List.append_toArray,List.nil_append,List.cons_append]
 gi_wp2_with fail
 gi_region_o
 gi_wp2_with fail
 refine ⟨trivial,(by intro e;cases e),?_⟩
 refine (callsIn_wide.2 (uH CP0)).mono ?_
 rintro e w1 ⟨rfl,hb⟩
 have HB1:=aA (yB (uH HB).drew hb)
 have H1:=aA (aKG (uH HJ) (uH H0) (yB (yH _ W).drew hb))
 clear hb HB H0 CP0 hq hnm
 gi_wp2
 gi_loopw [4,5,6,7] (fun a s i _ wr=>∃(k:Nat) (x:List UInt8) (pre:List Q) (p:Int),k≤len∧a=.slice ao k cap∧s=.string (bs x)∧i=.int .i64 p∧Hid (place (ls.take k) x=p)∧Hid (ups ls nm=pre++ups (ls.take k) x)∧Hid (J pre wr)∧Hid (Bw w0 wr)) (fun a _ _ _ _=>aEX a)
 case atStart=>exact ⟨len,nm,[],p0,yJ _,rfl,rfl,rfl,Vv,TY,H1,HB1⟩
 case round=>
  obtain ⟨k,x,pre,p,hk,rfl,rfl,rfl,HP,HU,PP,Qz⟩:=hrel
  clear HB1 H1 Vv TY
  by_cases h0:0≤p
  ·obtain ⟨j,rfl⟩:∃j:Nat,p=j:=⟨p.toNat,by omega⟩
   have hjk:j<k:=by have:=eX (ls.take k) x;rw [uH HP] at this;simp at this;omega
   have hjl:j<(ls.take k).length:=by simp;have:=uH HL;omega
   have hst:=aIE hjl (uH HP)
   obtain ⟨b,off,rfl,hq⟩:=(((uH HR).below (uH Qz)).take hk).at hjk
   obtain ⟨c0,c1,c2,c3⟩:=hq hjl
   rw [List.take_take,show min j k=j by omega] at hst
   obtain ⟨⟨qn,pa,du,mo⟩,hs⟩:∃s,(ls.take k)[j]=s:=⟨_,rfl⟩
   have hin:(⟨qn,pa,du,mo⟩:Q) ∈ ls:=by rw [←hs];exact List.mem_of_mem_take (yM _)
   rw [hs] at c0 c1 c2 c3 hst
   simp only at c0 c1 c2 c3 hst
   have HA:=aA (mO.new wr ⟨qn,pa,du,mo⟩)
   have HB2:=aA (yA (uH Qz) (aGG ⟨qn,pa,du,mo⟩))
   have hlt:pre.length<ls.length:=by
    have e:=congrArg List.length (uH HU)
    rw [hst] at e
    have:=uH HN
    rw [show gZ (ls.length+1) ls nm=ups ls nm from rfl,e] at this
    simp at this
    omega
   obtain ⟨fn,tmps,assign,body,hy,hR⟩:=uH HY pre ⟨qn,pa,du,mo⟩ _ hin (aKG (uH HJ) (uH PP) (yA (yH _ wr) (aGG ⟨qn,pa,du,mo⟩))) hlt
   have HRR:=aA hR
   have HST:=aA hst
   have k0:=(uH HA).c0
   have k1:=(uH HA).c1
   have k2:=(uH HA).c2
   have k3:=(uH HA).c3
   simp only at k0 k1 k2 k3
   clear hq hR hst hs hjl hlt hin
   gi_wp2
   refine ⟨(by intro e;cases e),?_⟩
   refine (uH HRR).mono ?_
   rintro e W3 (⟨rfl,hJ3,hk3⟩ | ⟨rfl,QN⟩)
   ·have NB:=aA (hk3.2 _ _ (uH HA))
    have HB3:=aA ((uH HB2).trans hk3.1)
    have Ky:=aA hJ3
    clear k0 k1 k2 k3 hJ3 hk3 hy HRR c0 c1 c2 c3
    have k1:=(uH NB).c1
    simp only at k1
    have hcut:=aKm b off k cap j (by omega)
    have hjc:(j:Int)≤cap:=by omega
    obtain ⟨p',hp'⟩:∃p,place (ls.take j) pa=p:=⟨_,rfl⟩
    have CPj:=aA (by have:=uH CP W3.drew (uH HB3).drew j (by omega) pa;rw [hp'] at this;exact this)
    have HP':=aA hp'
    clear hp'
    gi_wp2_with fail
    gi_region_o
    gi_wp2_with fail
    refine ⟨trivial,(by intro e;cases e),?_⟩
    refine (callsIn_wide.2 (uH CPj)).mono ?_
    rintro e w4 ⟨rfl,hb⟩
    have G8:=aA (yB (uH HB3).drew hb)
    have HJ4:=aA (aKG (uH HJ) (uH Ky) (yB (yH _ W3).drew hb))
    clear hb CPj k1
    gi_wp2
    go_roundw
    case rel=>exact ⟨j,pa,pre++[⟨qn,pa,du,mo⟩],p',by omega,rfl,rfl,rfl,HP',aA (by rw [uH HU,uH HST];simp),HJ4,G8⟩
    case measure=>simp [aEX];omega
   ·gi_wp2
    refine bodyPost_ret (results_none rfl _ _ _) rfl ?_
    exact ⟨⟨_,rfl⟩,.inr ⟨pre++[⟨qn,pa,du,mo⟩],⟨ups (ls.take j) pa,by rw [uH HU,uH HST];simp⟩,QN⟩⟩
  ·gi_wp2
   go_end0
   have he:pre=ups ls nm:=by rw [uH HU,aIG (by rw [uH HP];omega)];simp
   subst he
   exact ⟨⟨_,rfl⟩,.inl (by first | exact uH PP | exact ⟨_,rfl,uH PP⟩)⟩
theorem aCz (ao:Option Addr) (len cap:Nat) (nm:List UInt8) (w:World) :
  cP 149 #[.slice ao len cap,.string (bs nm)] w fun e w'=>e=.returned (.func (.func 186) #[] #[.pointer (some ⟨w.heap.size,0,none⟩),.pointer (some ⟨w.heap.size+1,0,none⟩)])∧(w.alloc (.cells #[.slice ao len cap] 24)).alloc (.cells #[.string (bs nm)] 9)=w':=by
 have KQ:∀(fn:Fn) (first cap:Array Value) (w:World),(Instr.makeFunc fn first cap).run Tryz.prog w=.ok (.func fn first cap) w:=fun _ _ _ _=>rfl
 go_enter Tryz.func149,Tryz.ntmps149
 go_wp2
 go_ret
 exact ⟨rfl,rfl⟩
theorem zL (n Bq Bn:Nat) (ao:Option Addr) (len cap:Nat) (ls:List Q) (nm:List UInt8) (w0 w:World) (h:gJ w0 ao len ls) (hb:Bw w0 w) (hl:len≤1048576) (hc:len≤cap)
  (hq:w.cell? ⟨Bq,0,none⟩=some (.slice ao len cap)) (hn:w.cell? ⟨Bn,0,none⟩=some (.string (bs nm))) :
  SeqStopsK Fence.wide n Tryz.prog 186 #[.pointer (some ⟨Bq,0,none⟩),.pointer (some ⟨Bn,0,none⟩)] (fun x : { q:Q // q ∈ ls }=>#[qv x.1]) (KpQ w0.heap.size) (fun ys=>ys.map Subtype.val=ups ls nm) (fun pre=>pre.map Subtype.val <+: ups ls nm) ls.length w:=by
 intro l J Jx W hW hJ hJx hY h0
 refine (aHo n l Bq Bn ao len cap ls nm w0 W (fun pre W=>∃p:List { q:Q // q ∈ ls },p.map Subtype.val=pre∧J p W) (fun pre W=>∃p:List { q:Q // q ∈ ls },p.map Subtype.val=pre∧Jx p W)
  (fun s A B row hs hg hr=>by obtain ⟨p,e,hj⟩:=hs;exact ⟨p,e,hJ p A B row hj hg hr⟩) ?_ ((hW.cell (p:=⟨Bq,0,none⟩) (yG hq)).trans hq) ((hW.cell (p:=⟨Bn,0,none⟩) (yG hn)).trans hn) h (yB hb hW) hl hc ⟨[],rfl,h0⟩).mono ?_
 ·rintro pre x W1 hx ⟨p,rfl,hj⟩ hlt
  obtain ⟨fn,tmps,assign,body,hy,hR⟩:=hY p ⟨x,hx⟩ W1 hj (by simpa using hlt)
  refine ⟨fn,tmps,assign,body,hy,hR.mono ?_⟩
  rintro e W' (⟨rfl,hj',hk⟩ | ⟨rfl,hj'⟩)
  ·exact .inl ⟨rfl,⟨p++[⟨x,hx⟩],by simp,hj'⟩,hk⟩
  ·exact .inr ⟨rfl,⟨p++[⟨x,hx⟩],by simp,hj'⟩⟩
 ·rintro e W' ⟨hv,⟨ys,hy,p,hp,hj⟩ | ⟨pre,QT,p,hp,hj⟩⟩
  ·exact ⟨hv,.inl ⟨p,hp.trans hy,hj⟩⟩
  ·exact ⟨hv,.inr ⟨p,(show p.map Subtype.val <+: ups ls nm by rw [hp];exact QT),hj⟩⟩
theorem aIQ {w1:World} (h:mO w k q) {base e:Nat} (hr:w.ownsRow base e size v n xs) (he:e≠56) (hg:w.grownBy w1 v.ownBlock):mO w1 k q:=by
 refine (hg.block k h.lt ?_).trans h
 rcases hr.2 with ⟨rfl,_⟩ | ⟨g,cap,cur,rfl,_,hgb,_⟩
 ·simp [Value.ownBlock]
 ·intro e'
  obtain rfl:k=g:=by simpa [Value.ownBlock] using e'
  have:=(show w.heap[k]? = _ from h).symm.trans hgb
  simp [aGG] at this
  exact he this.2.symm
theorem aFP {u:Value} (h:mO w k q) (hv:Go.Boxed w B t v):mO (w.setCell ⟨B,0,none⟩ u) k q:=by
 refine ((grownBy_setCell' w B u).block k h.lt ?_).trans h
 intro e'
 obtain rfl:k=B:=by simpa using e'
 have:=(show w.heap[k]? = _ from h).symm.trans hv
 simp [aGG] at this
theorem fT (h:Go.Boxed w B t v) (hb:Bw w w'):Go.Boxed w' B t v:=(hb.block B h.lt).trans h
theorem xV (hb:Bw w w'):KeepsOthers w w':=KeepsOthers.of_grownBy (row:=none) (aG (aF w none) hb) (fun j o e=>by cases e)
theorem wX {e:Nat} (h:w.ownsRow B e size v n xs) (hb:Bw w w'):w'.ownsRow B e size v n xs:=
 h.kept (aG (aF w none) hb) (by by_cases e:v.ownBlock=none;exact .inl e;exact .inr e)
theorem aDo (T E:TypeId) (z:Value) (bytes:Nat) (i0:TypeInfo) (hu:Tryz.prog.underlying T=some (.slice E)) (hi:Tryz.prog.info? E=some i0) (hz0:i0.zero=some z) (hz1:i0.size=1) (hz2:i0.bytes=bytes) (hzc:z.cells.size=1) (hTE:T≠E) (hEQ:E≠56) (hby:bytes≤16)
  {base B n:Nat} {v:Value} {xs:List Value} {w3:World} (hv:Go.Boxed w3 B T v) (hr:w3.ownsRow base E 1 v n xs) (hn:n≤1048576) (hbase:base≤w3.heap.size) (hB:base≤B) (y:Value) (hy:y.oneCell'=true) :
  ∃g cp w4,(Builtin.append_ #[T,T] T #[v,.slice (some ⟨w3.heap.size,0,none⟩) 1 1]).run Tryz.prog (w3.alloc (.cells #[y] E))=.ok (.slice (some ⟨g,0,none⟩) (n+1) cp) w4∧w4.cell? ⟨B,0,none⟩=some v∧w4.frozen? ⟨B,0,none⟩=false
   ∧Hid (Go.Boxed (w4.setCell ⟨B,0,none⟩ (.slice (some ⟨g,0,none⟩) (n+1) cp)) B T (.slice (some ⟨g,0,none⟩) (n+1) cp)∧(w4.setCell ⟨B,0,none⟩ (.slice (some ⟨g,0,none⟩) (n+1) cp)).ownsRow base E 1 (.slice (some ⟨g,0,none⟩) (n+1) cp) (n+1) (xs++[y])
    ∧KeepsOthers w3 (w4.setCell ⟨B,0,none⟩ (.slice (some ⟨g,0,none⟩) (n+1) cp))∧Below base w3 (w4.setCell ⟨B,0,none⟩ (.slice (some ⟨g,0,none⟩) (n+1) cp))∧∀k q,mO w3 k q→mO (w4.setCell ⟨B,0,none⟩ (.slice (some ⟨g,0,none⟩) (n+1) cp)) k q):=by
 have h16:(n+1)*bytes≤140737488355328:=by
  have:(n+1)*bytes≤1048577*16:=Nat.mul_le_mul (by omega) hby
  omega
 obtain ⟨v',w4,gq,Hy,Hz,_⟩:=run_append_own (P:=Tryz.prog) (w3.alloc (.cells #[y] E)) base T T E i0 z 1 bytes hu hi hz0 hz1 hz2 hzc (by decide) v n xs (hr.alloc _) ⟨w3.heap.size,0,none⟩ 1 1 [y] rfl
  (by intro j u hj;match j,hj with | 0,hj=>simp at hj;subst hj;simp [Addr.add]) (by intro u hu;simp at hu;subst hu;exact hy) (by unfold maxLen;omega) h16 (by simp;omega)
 obtain ⟨g,cp,rfl⟩:=ownsRow_succ Hy
 obtain ⟨hv1,hv2,hr2,hk2,hb2⟩:=hv.appended hTE hr hbase hB Hy Hz
 refine ⟨g,cp,w4,gq,hv1.cell,hv1.frozen,aA ⟨hv2,hr2,hk2,hb2,fun k q hq=>?_⟩⟩
 have h1:mO (w3.alloc (.cells #[y] E)) k q:=hq.below (yA (yH _ w3) _)
 exact aFP (aIQ h1 (hr.alloc _) hEQ Hz) hv1
end
section
open Go.RowKit
theorem uP (ao:Option Addr) (len cap:Nat) (l:List Q) (nm:List UInt8) (w:World) (h:gJ w ao len l) (hl:len≤1048576) (hn:∀q ∈ l,q.name.length≤1048576) (hc:len≤cap) :
  cP 38 #[.slice ao len cap,.string (bs nm)] w fun e w'=>e=.returned (.bool (oI l nm))∧Bw w w':=by
 have CQ:=aA (fE ao len cap l w h hl hn hc)
 have CL:=aA (fun wx (hb:Bw w wx)=>aBS ao len cap l nm wx (h.below hb) hl)
 have HF:=aA (qK l nm)
 obtain ⟨o,ho⟩:∃o,aH l=o:=⟨_,rfl⟩
 obtain ⟨k,hk⟩:∃k,aGs l nm=k:=⟨_,rfl⟩
 obtain ⟨r,hr⟩:∃r,oI l nm=r:=⟨_,rfl⟩
 rw [ho] at CQ HF
 rw [hk] at CL HF
 rw [hr] at HF ⊢
 clear h hn ho hk hr
 go_enter Tryz.func38,Tryz.ntmps38
 go_wp2_with fail
 refine (uH CQ).mono ?_
 rintro e w1 ⟨rfl,hb⟩
 have HB1:=aA hb
 clear hb CQ
 cases o with
 | false=>
  go_wp2
  go_ret
  exact ⟨yF (by rw [uH HF];simp),uH HB1⟩
 | true=>
  go_wp2_with fail
  refine (uH CL _ (uH HB1)).mono ?_
  rintro e w2 ⟨rfl,hb⟩
  have HB2:=aA (yB (uH HB1) hb)
  clear hb HB1 CL
  go_wp2
  go_ret
  exact ⟨yF (by rw [uH HF];simp),uH HB2⟩
theorem aGP (B:Nat) (w:World):bY B w (.slice none 0 0) []:=World.ownsRow_nil _ _ _ _
theorem bY.open {B:Nat} {w:World} {v:Value} {ps:List (List UInt8)} (h:bY B w v ps):∃ao cap,v=.slice ao ps.length cap∧∀j (hj:j<ps.length),∃g,ao=some ⟨g,0,none⟩∧w.cell? ⟨g,j,none⟩=some (.string (bs ps[j])):=by
 by_cases hp:ps=[]
 ·subst hp
  obtain ⟨a,c,rfl⟩:=kJ h
  exact ⟨a,c,rfl,fun j hj=>by simp at hj⟩
 ·obtain ⟨g,c,rfl,hs,_⟩:=kI h hp
  exact ⟨_,c,rfl,fun j hj=>⟨g,rfl,hs.text hj⟩⟩
theorem aA5 (ao:Option Addr) (len cap:Nat) (l:List Q) (w:World) (h:gJ w ao len l) (hl:len≤1048576) (hn:∀q ∈ l,q.name.length≤1048576) (hc:len≤cap) :
  cP 80 #[.slice ao len cap] w fun e w'=>∃v,e=.returned v∧bY w.heap.size w' v (dG l)∧Bw w w':=by
 obtain ⟨i0,hi,hz0,hz1,hz2⟩:=info_parts Tryz.infoS
 have HR:=aA h
 have HL:=aA h.1
 have HN:=aA hn
 have CQ:=aA (fE ao len cap l w h hl hn hc)
 have CL:=aA (fun x wx (hb:Bw w wx)=>aBS ao len cap l x wx (h.below hb) hl)
 have YK:=aA (fun x=>qK l x)
 obtain ⟨ok,hok⟩:∃ok,aH l=ok:=⟨_,rfl⟩
 rw [hok] at CQ YK
 have Zj:=aA hok
 clear h hn hok
 go_enter Tryz.func80,Tryz.ntmps80
 go_wp2_with fail
 refine (uH CQ).mono ?_
 rintro e w1 ⟨rfl,hb⟩
 have HB1:=aA hb
 clear hb CQ
 cases ok
 case false=>
  go_wp2
  go_ret
  exact ⟨_,rfl,by rw [uK (uH Zj)];exact aGP _ _,uH HB1⟩
 go_wp2
 go_loopw [3,5,11] (fun v _ i wr=>∃(k:Nat) (o:List ByteArray),k≤len∧i=.int .i64 k∧o.length≤k∧Hid (o=(((l.take k).map Q.name).filter (oI l)).map bs)∧Hid (wr.ownsRow w.heap.size 9 1 v o.length (iY o))∧Hid (Bw w wr)) (fun _ _ i _=>len - (intOf i).toNat)
 case atStart=>exact ⟨0,[],Nat.zero_le _,rfl,yJ _,aA (by simp),aA (World.ownsRow_nil _ _ _ _),HB1⟩
 case round=>
  obtain ⟨k,o,hk,rfl,hol,HO,HS,HB⟩:=hrel
  by_cases hlt:k<len
  ·have HR2:=aA ((uH HR).below (uH HB))
   obtain ⟨b,off,rfl,hq⟩:=(uH HR2).at hlt
   have hkl:k<l.length:=by have:=uH HL;omega
   obtain ⟨c0,c1,c2,c3⟩:=hq hkl
   have hz:=uH HN l[k] (yM _)
   have htk:=List.take_succ_eq_append_getElem hkl
   clear hq
   obtain ⟨⟨nm,pa,du,mo⟩,hs⟩:∃s,l[k]=s:=⟨_,rfl⟩
   rw [hs] at c0 c1 c2 c3 hz htk
   simp only at c0 c1 c2 c3 hz
   have qw:=aA htk
   have HA:=aA (mO.new wr ⟨nm,pa,du,mo⟩)
   have HB2:=aA (yA (uH HB) (aGG ⟨nm,pa,du,mo⟩))
   have HS2:=aA ((uH HS).alloc (aGG ⟨nm,pa,du,mo⟩))
   obtain ⟨f,hf⟩:∃f,aGs l nm=f:=⟨_,rfl⟩
   have CL1:=aA (fun wx hb=>by have:=uH CL nm wx hb;rw [hf] at this;exact this)
   have Dj:=aA (show oI l nm=f by rw [uH YK,hf];rfl)
   have hsz:(bs nm).size≤281474976710656:=by rw [dD];omega
   have k0:=(uH HA).c0
   simp only at k0
   clear hs hkl hf htk hz HR2
   go_wp2_with fail
   refine (uH CL1 _ (uH HB2)).mono ?_
   rintro e w2 ⟨rfl,hb⟩
   have NB:=aA ((uH HA).below hb)
   have HB3:=aA (yB (uH HB2) hb)
   have ZB:=aA (gD (uH HS2) hb)
   clear hb HA HB2 HS2 k0 HB HS
   cases f with
   | false=>
    go_wp2
    go_roundw
    case rel=>exact ⟨k+1,o,by omega,by go_num,by omega,aA (by rw [uH qw,List.map_append,List.filter_append];simp only [List.map_cons,List.map_nil,List.filter_cons,uH Dj,List.filter_nil];rw [if_neg (by simp),List.append_nil];exact uH HO),ZB,HB3⟩
    case measure=>simp [intOf];omega
   | true=>
    have k0:=(uH NB).c0
    simp only at k0
    go_wp2_with fail
    refine (kS (bs nm) _ hsz).mono ?_
    rintro e w3 ⟨rfl,hb⟩
    have Hq:=gD (uH ZB) hb
    have Q4:=yB (uH HB3) hb
    have hwz:=Q4.size
    clear hb NB HB3 ZB k0
    go_wp2_with (at_builtin;refine wpList_append_own _ rfl _ _ 41 rfl w.heap.size 9 i0 (.string ByteArray.empty) 1 16 Tryz.underlying41 hi hz0 hz1 hz2 rfl (by decide) _ _ _ rfl (Hq.alloc _) ⟨w3.heap.size,0,none⟩ 1 1 [.string (bs nm)] rfl rfl ?c1 ?c2 ?c3 ?c4 ?c5 ?_)
    case c1=>intro j v hj;match j,hj with | 0,hj=>simp at hj;subst hj;simp [Addr.add]
    case c2=>intro v hv;simp at hv;subst hv;rfl
    case c3=>unfold maxLen;omega
    case c4=>omega
    case c5=>simp;omega
    intro v' w4 Hy Hz _
    have R:=aA (pW Q4 Hq Hy Hz (by omega))
    clear Hy Hz Hq Q4
    go_wp2
    go_roundw
    case rel=>exact ⟨k+1,o++[bs nm],by omega,by go_num,by simp;omega,aA (by rw [uH qw,List.map_append,List.filter_append];simp only [List.map_cons,List.map_nil,List.filter_cons,uH Dj,List.filter_nil];rw [if_pos (by first | rfl | trivial),List.map_append,←uH HO];rfl),aA (uH R).1,aA (uH R).2⟩
    case measure=>simp [intOf];omega
  ·have hkk:k=len:=by omega
   subst hkk
   go_wp2
   go_ret
   refine ⟨_,rfl,bY.of (uH HS) ?_,uH HB⟩
   rw [uH HO,List.take_of_length_le (by have:=uH HL;omega)]
   rfl
end
section
open Go.RowKit Go.Shelf
attribute [local go_sem] Oper.semAt_some
end
end Go.Proofs.YtngkddhcmfbjnaaGreat
