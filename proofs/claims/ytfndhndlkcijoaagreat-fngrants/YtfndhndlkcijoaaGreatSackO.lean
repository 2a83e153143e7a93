/-
  Texts in one: QueuesOkI, LoneI.
-/
import Derived.Test.YtfndhndlkcijoaaGreatSackK
import Derived.Test.YtfndhndlkcijoaaGreatSackE
set_option maxRecDepth 100000
set_option maxHeartbeats 16000000
set_option linter.unusedVariables false
set_option linter.unusedSimpArgs false
open Go.Proofs.Tryz
namespace Go.Proofs.YtfndhndlkcijoaaGreat
section
open Go.RowKit
theorem gN.take {w:World} {ao:Option Addr} {len:Nat} {l:List Q} (h:gN w ao len l) {k:Nat} (hk:k≤len):gN w ao k (l.take k):=by
 obtain ⟨h1,h2⟩:=h;refine ⟨by simp;omega,?_⟩;rcases h2 with h2 | ⟨b,off,h3,h4⟩
 ·exact .inl (by omega)
 ·refine .inr ⟨b,off,h3,fun i hi=>?_⟩;have:i<l.length:=by simp at hi;omega
  rw [List.getElem_take];exact h4 i this
theorem aKx (b off len cap k:Nat) (hk:k≤cap) (wx:World):(Instr.slice 24 (.slice (some ⟨b,off,none⟩) len cap) none (some (.int .i64 (k:Int))) none).run Tryz.prog wx=.ok (.slice (some ⟨b,off,none⟩) k cap) wx:=by
 rw [run_slice_h (P:=Tryz.prog) (w:=wx) 24 (some ⟨b,off,none⟩) len cap underlying24 .i64 (k:Int) (by omega) (by omega)];rw [show (sizeOf (Tryz.prog.elem 24)).run Tryz.prog wx=.ok 4 wx from by kernel_rfl];simp [Result.andThen,sliced,Addr.add]
theorem fJ (ao:Option Addr) (len cap:Nat) (l:List Q) (w:World) (h:gN w ao len l) (hl:len≤1048576) (hn:∀q ∈ l,q.name.length≤1048576) (hc:len≤cap) :
  cP 78 #[.slice ao len cap] w fun e w'=>e=.returned (.bool (aH l))∧Bw w w':=by
 have HR:=aA h;have HL:=aA h.1;have HN:=aA hn;have HQ:=aA (lU l);clear h hn;go_enter func78,ntmps78;go_wp2;go_loopw [3,4,7] (fun _ _ i wr=>∃k:Nat,k≤len∧i=.int .i64 k∧Hid (okT (l.take k)=true)∧Hid (Bw w wr)) (fun _ _ i _=>len - (intOf i).toNat);case atStart=>exact ⟨0,Nat.zero_le _,rfl,aA (by rw [List.take_zero];rfl),aA (yH _ _)⟩
 case round=>
  obtain ⟨k,hk,rfl,HK,HB⟩:=hrel;by_cases hlt:k<len
  ·have HR2:=aA ((uH HR).below (uH HB));obtain ⟨b,off,rfl,hq⟩:=(uH HR2).at hlt;(have hkl:k<l.length:=by have:=uH HL;omega);have hst:=aA (rX (l:=l) (k:=k) hkl);have Rq:=aA (@aAL (k+1) l);obtain ⟨c0,c1,c2,c3⟩:=hq hkl;have hz:=uH HN l[k] (yM _);clear hq;obtain ⟨⟨nm,pa,du,mo⟩,hs⟩:∃s,l[k]=s:=⟨_,rfl⟩;rw [hs] at c0 c1 c2 c3 hst hz;simp only at c0 c1 c2 c3;have HA:=aA (mZ.new wr ⟨nm,pa,du,mo⟩);have hb1:=yA (uH HB) (aGL ⟨nm,pa,du,mo⟩);have CF:=aA (fun wx (hb:Bw w wx)=>aIp (some ⟨b,off,none⟩) k cap (l.take k) ⟨nm,pa,du,mo⟩ wx (((uH HR).below hb).take hk) (by omega) hz (aJk (uH HK)));obtain ⟨f,hf⟩:∃f,aCy (l.take k) ⟨nm,pa,du,mo⟩=f:=⟨_,rfl⟩;rw [hf] at CF hst;have hcut:=aKx b off len cap k (by omega);have HB1:=aA hb1;have k0:=(uH HA).c0;have k1:=(uH HA).c1;have k2:=(uH HA).c2;have k3:=(uH HA).c3;simp only at k0 k1 k2 k3;(have hkc:(k:Int)≤cap:=by omega);clear hs hkl hz hf HR2 hb1;cases f with
   | false=>
    (go_wp2_with fail);go_region_with (go_at_call 135;refine (uH CF _ ?_).mono ?_;(exact (uH HB1).drew);rintro e w2 ⟨rfl,hb⟩)
    all_goals have HB2:=aA (yB (uH HB1).drew hb);clear hb;go_wp2;go_ret;exact ⟨yF (by rw [uH HQ,uH Rq (by rw [uH hst];simp)];rfl),uH HB2⟩
   | true=>
    (go_wp2_with fail);go_region_with (go_at_call 135;refine (uH CF _ ?_).mono ?_;(exact (uH HB1).drew);rintro e w2 ⟨rfl,hb⟩)
    all_goals have HB2:=aA (yB (uH HB1).drew hb);clear hb;go_wp2;go_roundw;(case rel=>exact ⟨k+1,by omega,by go_num,aA (by rw [uH hst,uH HK];rfl),HB2⟩);case measure=>simp [intOf];omega
  ·have ZG:=aA (show aH l=decide (0<len) by
    (have e:k=l.length:=by have:=uH HL;omega);have ho:=uH HK;rw [e,List.take_length] at ho;rw [uH HQ,ho,uH HL];rfl)
   by_cases h0:0<len
   ·go_wp2;go_ret;exact ⟨yF (by rw [uH ZG];simp [h0]),uH HB⟩
   ·go_wp2;go_ret;exact ⟨yF (by rw [uH ZG];simp [h0]),uH HB⟩
theorem aC5 (nm:List UInt8):∀l:List Q,aAM nm l = !(l.any (fun q=>decide (q.parent=nm)))
 | []=>rfl
 | q::t=>by rw [aAM,aC5 nm t,List.any_cons];by_cases h:q.parent=nm<;>simp [h]
theorem aHI (B:Nat) (nm:List UInt8) (q:Q) (w:World) (hc:w.cell? ⟨B,0,none⟩=some (.string (bs nm))) :
  cP 173 #[qv q,.pointer (some ⟨B,0,none⟩)] w fun e w'=>e=.returned (.bool (decide (q.parent=nm)))∧Bw w w':=by
 have hlt:=yG hc;have hc2:(w.alloc (.cells #[.string (bs q.name),.string (bs q.parent),.int .i64 q.due,.int .i64 q.most] 105)).cell? ⟨B,0,none⟩=some (.string (bs nm)):=by rw [World.cell?_alloc_lt _ _ ⟨B,0,none⟩ hlt];exact hc
 have hbe:=mQ q.parent nm;clear hc hlt;go_enter func173,ntmps173;go_wp2;go_ret;exact ⟨rfl,yA (yH _ _) _⟩
theorem wF (g:Nat) (lb:Array Value) (eg:∀args w,(callFunc g args).run Tryz.prog w=.ok (.enter g args) w) (p:Q→Bool) (ao:Option Addr) (len cap:Nat) (l:List Q) (w:World) (h:gN w ao len l) (hl:len≤1048576)
  (hp:∀wx q,Bw w wx→Calls Tryz.prog g (#[qv q]++lb) wx fun e w'=>e=.returned (.bool (p q))∧Bw wx w') :
  cP 172 #[.slice ao len cap,.func (.func g) #[] lb] w fun e w'=>e=.returned (.bool (l.any p))∧Bw w w':=by
 have C:=aA (sH g lb eg p ao len cap l w h hl hp);have HS:=aA (aHM p l 0);obtain ⟨i,hi⟩:∃i,jJ p l 0=i:=⟨_,rfl⟩;obtain ⟨b,hb⟩:∃b,l.any p=b:=⟨_,rfl⟩;rw [hi] at C HS;rw [hb] at HS ⊢;clear h hp hi hb;go_enter func172,ntmps172;go_wp2_with fail;refine (uH C).mono ?_;rintro e w1 ⟨rfl,hb⟩;have HB:=aA hb;clear hb;by_cases h0:0≤i
 ·go_wp2;go_ret;exact ⟨yF (by first | exact uH HS | (rw [←uH HS];simp [h0])),uH HB⟩
 ·go_wp2;go_ret;exact ⟨yF (by first | exact uH HS | (rw [←uH HS];simp [h0])),uH HB⟩
def aHz (l:List Q) (nm:List UInt8):Bool:=!(l.any (fun q=>decide (q.parent=nm)))&&decide (0≤place l nm)
theorem yO (l:List Q) (nm:List UInt8):aBb l nm=(aH l&&aHz l nm):=by
 rw [aBb,aC5,aHz];cases aH l<;>cases l.any (fun q=>decide (q.parent=nm))<;>simp
theorem aEn (ao:Option Addr) (len cap:Nat) (l:List Q) (nm:List UInt8) (w:World) (h:gN w ao len l) (hl:len≤1048576) :
  cP 117 #[.slice ao len cap,.string (bs nm)] w fun e w'=>e=.returned (.bool (aHz l nm))∧Bw w w':=by
 have ZK:∀(fn:Fn) (first cap:Array Value) (w:World),(Instr.makeFunc fn first cap).run Tryz.prog w=.ok (.func fn first cap) w:=fun _ _ _ _=>rfl
 have hb0:=yA (yH _ w) (.cells #[.string (bs nm)] 9);have Gw:(w.alloc (.cells #[.string (bs nm)] 9)).cell? ⟨w.heap.size,0,none⟩=some (.string (bs nm)):=by simp
 have CP:=aA (fun wx (hb:Bw w wx)=>rR ao len cap l nm wx (h.below hb) hl);have CC:=aA (fun wx (hb:Bw w wx) (hx:wx.cell? ⟨w.heap.size,0,none⟩=some (.string (bs nm)))=>wF 173 #[.pointer (some ⟨w.heap.size,0,none⟩)] (enters_of func173 (by kernel_rfl) rfl) (fun q=>decide (q.parent=nm)) ao len cap l wx (h.below hb) hl
  (fun wy q hy=>aHI w.heap.size nm q wy ((hy.cell (p:=⟨w.heap.size,0,none⟩) (yG hx)).trans hx)))
 have HF:=aA (show aHz l nm=(!(l.any (fun q=>decide (q.parent=nm)))&&decide (0≤place l nm)) from rfl);obtain ⟨p,hp⟩:∃p,place l nm=p:=⟨_,rfl⟩;obtain ⟨k,hk⟩:∃k,l.any (fun q=>decide (q.parent=nm))=k:=⟨_,rfl⟩;obtain ⟨r,hr⟩:∃r,aHz l nm=r:=⟨_,rfl⟩;rw [hp] at CP HF;rw [hk] at CC HF;rw [hr] at HF ⊢;have HB0:=aA hb0;have HC:=aA Gw;clear h hb0 hp hk hr Gw;go_enter func117,ntmps117;go_wp2_with fail;refine (uH CP _ (uH HB0)).mono ?_;rintro e w2 ⟨rfl,hb⟩;have HB2:=aA (yB (uH HB0) hb);have qz:=aA ((hb.cell (p:=⟨w.heap.size,0,none⟩) (yG (uH HC))).trans (uH HC));clear hb HC HB0 CP;by_cases h0:0≤p
 ·go_wp2_with fail
  refine (uH CC _ (uH HB2) (uH qz)).mono ?_;rintro e w3 ⟨rfl,hb⟩;have HB3:=aA (yB (uH HB2) hb);clear hb;go_wp2;go_ret;exact ⟨yF (by rw [uH HF];simp [h0]),uH HB3⟩
 ·go_wp2;go_ret;exact ⟨yF (by rw [uH HF];simp [h0]),uH HB2⟩
end
end Go.Proofs.YtfndhndlkcijoaaGreat
