/-
  Texts in one: Once, PRec, Fill, SumI, WordB, WriteB, GetI, GetText, SumR, RdI, RdJ, RdN, NumsM.
-/
import Derived.Test.YtjkfappkpopbdaaGreatSackA
import Derived.Laws.LoneSync
import Derived.Laws.Pointers
import Derived.RegionTactic
import Derived.RegionCalls
import Derived.ChangeAlike
import Derived.Deep.CutRange
import Derived.Test.YtjkfappkpopbdaaGreatSackB
set_option maxRecDepth 100000
set_option maxHeartbeats 16000000
set_option linter.unusedVariables false
set_option linter.unusedSimpArgs false
namespace Go.Proofs.YtjkfappkpopbdaaGreat
section
open Go.RowKit
def tabL (d m:Value) (k:Nat):List Value:=[d,m,.int .u32 0]++(List.range 16).map (fun i=>Value.int .u32 (if i<k then (hN 4 i:Int) else 0))
def tab (d m:Value) (k:Nat):Array Value:=(tabL d m k).toArray
theorem tab_size (d m:Value) (k:Nat):(tab d m k).size=19:=by simp [tab,tabL]
def HoldsT (w:World) (B:Nat) (C:Array Value):Prop:=w.heap[B]? = some (.cells C 170 (0,0))
theorem HoldsT.cell {w:World} {B:Nat} {C:Array Value} (h:HoldsT w B C) (j:Nat):w.cell? ⟨B,j,none⟩=C[j]?:=by
 unfold HoldsT at h;simp [World.cell?,h]
theorem HoldsT.frozen {w:World} {B:Nat} {C:Array Value} (h:HoldsT w B C) (j:Nat):w.frozen? ⟨B,j,none⟩=false:=by
 unfold HoldsT at h;simp [World.frozen?,h]
theorem HoldsT.set {w:World} {B:Nat} {C:Array Value} (h:HoldsT w B C) (j:Nat) (v:Value):HoldsT (w.setCell ⟨B,j,none⟩ v) B (C.setIfInBounds j v):=heap_setCell_same w B j C _ v h
theorem HoldsT.drew {w:World} {B:Nat} {C:Array Value} (h:HoldsT w B C):HoldsT w.drew B C:=h
theorem HoldsT.lt {w:World} {B:Nat} {C:Array Value} (h:HoldsT w B C):B<w.heap.size:=lt_of_block h
theorem tab_set0 (d d' m:Value) (k:Nat):(tab d m k).setIfInBounds 0 d'=tab d' m k:=by simp [tab,tabL]
theorem tab_set1 (d m m':Value) (k:Nat):(tab d m k).setIfInBounds 1 m'=tab d m' k:=by simp [tab,tabL]
theorem tab_at0 (d m:Value) (k:Nat):(tab d m k)[0]? = some d:=by simp [tab,tabL]
theorem tab_at1 (d m:Value) (k:Nat):(tab d m k)[1]? = some m:=by simp [tab,tabL]
theorem tab_at (d m:Value) (k i:Nat) (h:i<16):(tab d m k)[3+i]? = some (.int .u32 (if i<k then (hN 4 i:Int) else 0)):=by
 simp only [tab,tabL,List.getElem?_toArray]
 rw [List.getElem?_append_right (by simp)]
 simp [h]
theorem tab_set (d m:Value) (k:Nat) (h:k<16):(tab d m k).setIfInBounds (3+k) (.int .u32 (hN 4 k:Int))=tab d m (k+1):=by
 apply Array.ext_getElem?
 intro i
 rw [Array.getElem?_setIfInBounds]
 by_cases hi:3+k=i
 ·rw [if_pos hi,if_pos (by rw [tab_size];omega),←hi,tab_at _ _ _ _ h,if_pos (by omega)]
 ·rw [if_neg hi]
  by_cases h3:i<3
  ·match i,h3 with
   | 0,_=>rw [tab_at0,tab_at0]
   | 1,_=>rw [tab_at1,tab_at1]
   | 2,_=>simp [tab,tabL]
  ·obtain ⟨n,rfl⟩:∃n,i=3+n:=⟨i - 3,by omega⟩
   by_cases hn:n<16
   ·rw [tab_at _ _ _ _ hn,tab_at _ _ _ _ hn]
    by_cases hk:n<k
    ·rw [if_pos hk,if_pos (by omega)]
    ·rw [if_neg hk,if_neg (by omega)]
   ·rw [Array.getElem?_eq_none (by rw [tab_size];omega),Array.getElem?_eq_none (by rw [tab_size];omega)]
theorem disable (w:World):(callFunc 129 #[]).run Tryz.prog w=.ok (.value (.tuple #[])) w:=run_call_mark0 Tryz.func129 (by kernel_rfl) (by kernel_rfl) (by kernel_rfl) .disable (by kernel_rfl) w
theorem enable (w:World):(callFunc 131 #[]).run Tryz.prog w=.ok (.value (.tuple #[])) w:=run_call_mark0 Tryz.func131 (by kernel_rfl) (by kernel_rfl) (by kernel_rfl) .enable (by kernel_rfl) w
theorem acquire (a:Addr) (w:World):(callFunc 132 #[.pointer (some a)]).run Tryz.prog w=.ok (.value (.tuple #[])) w:=run_call_marked Tryz.func132 (by kernel_rfl) (by kernel_rfl) (by kernel_rfl) .acquire (by kernel_rfl) a w
theorem releaseMerge (a:Addr) (w:World):(callFunc 134 #[.pointer (some a)]).run Tryz.prog w=.ok (.value (.tuple #[])) w:=run_call_marked Tryz.func134 (by kernel_rfl) (by kernel_rfl) (by kernel_rfl) .releaseMerge (by kernel_rfl) a w
theorem store_deferred (a:Addr) (x:Value) (u:FrameMode) (w:World) (hc:w.cell? a=some x) (hz:w.frozen? a=false) :
  CallsD Tryz.prog 218 #[.pointer (some a),.bool true] u w fun e u' w'=>u'=u∧(e=.returned (.tuple #[])∧w'=w.drew.setCell a (.int .u32 1)):=by
 have hc':w.drew.cell? a=some x:=by go_simp
 have hz':w.drew.frozen? a=false:=by go_simp
 have hst:=run_call_store (P:=Tryz.prog) Tryz.func236 (by kernel_rfl) (by kernel_rfl) (by kernel_rfl) (by kernel_rfl) (k:=.u32) (y:=1) hc' hz'
 go_enter_d Tryz.func218,Tryz.ntmps218
 go_wp2
 go_region_calls
 all_goals (go_end0;exact ⟨rfl,rfl⟩)
theorem unlock_deferred (a:Addr) (u:FrameMode) (w:World) (hc:w.cell? a=some (.int .i32 1)) (hz:w.frozen? a=false) :
  CallsD Tryz.prog 49 #[.pointer (some a)] u w fun e u' w'=>u'=u∧(e=.returned (.tuple #[])∧w'=w.setCell a (.int .i32 0)):=by
 have hd:=disable
 have he:=enable
 have hr:=releaseMerge
 have hadd:=run_call_add (P:=Tryz.prog) Tryz.func135 (by kernel_rfl) (by kernel_rfl) (by kernel_rfl) .i32 (by kernel_rfl) (y:=-1) (s:=0) hc hz (by simp [go_sem];rfl)
 have hcv:=run_convert_to_unsafe (P:=Tryz.prog) (src:=196) (dst:=200) Tryz.underlying196 Tryz.underlying200 (by kernel_rfl) hc
 go_enter_d Tryz.func49,Tryz.ntmps49
 go_wp2
 go_end0
 go_wp2
 go_end0
 exact ⟨rfl,rfl⟩
theorem lock_free (a:Addr) (w:World) (hc:w.cell? a=some (.int .i32 0)) (hz:w.frozen? a=false) :
  Calls Tryz.prog 48 #[.pointer (some a)] w fun e w'=>e=.returned (.tuple #[])∧w'=w.setCell a (.int .i32 1):=by
 have hd:=disable
 have he:=enable
 have ha:=acquire
 have hcas:=run_call_cas_hit (P:=Tryz.prog) Tryz.func130 (by kernel_rfl) (by kernel_rfl) (by kernel_rfl) .i32 (by kernel_rfl) (y:=1) hc hz
 have hc':(w.setCell a (.int .i32 1)).cell? a=some (.int .i32 1):=World.cell?_setCell_same w a _ hc
 have hcv:=run_convert_to_unsafe (P:=Tryz.prog) (src:=196) (dst:=200) Tryz.underlying196 Tryz.underlying200 (by kernel_rfl) hc'
 go_enter Tryz.func48,Tryz.ntmps48
 go_wp2
 first | go_end0 | (simp only [Exit.inBlock,Exit.then];refine bodyPost_ret (results_none rfl _ _ _) rfl ?_) | refine bodyPost_ret (results_none rfl _ _ _) rfl ?_
 go_wp2
 go_end0
 exact ⟨rfl,rfl⟩
def putRec (r:Rc):List UInt8:=if recOk r=true then UInt8.ofNat r.kind.toNat::(putNum r.app++putText r.queue) else []
theorem putNum_le (n:Int):(putNum n).length≤5:=by
 unfold putNum;split
 ·exact put_le5 (by omega)
 ·simp
theorem putText_le (l:List UInt8):(putText l).length≤2005:=by
 unfold putText;split
 ·rw [List.length_append];have:=put_le5 (u:=l.length) (by omega);omega
 ·simp
theorem putRec_le (r:Rc):(putRec r).length≤2011:=by
 unfold putRec;split
 ·have:=putNum_le r.app;have:=putText_le r.queue;simp;omega
 ·simp
theorem byte_conv (k:Int) (h0:0≤k) (h1:k≤2) (wx:World) (g:Nat) (hb:Blk wx g #[.int .u8 k] 5):(convert 131 9 (.slice (some ⟨g,0,none⟩) 1 1)).run Tryz.prog wx=.ok (.string (bs [UInt8.ofNat k.toNat])) wx:=by
 have:=run_convert_bytes_back wx 131 9 5 ⟨g,0,none⟩ 1 [UInt8.ofNat k.toNat] Tryz.underlying131 Tryz.underlying5 Tryz.underlying9 (fun j hj=>by
  have h:=hb.at 0
  have e:j=0:=by simpa using hj
  subst e
  simp at h
  have:(UInt8.ofNat k.toNat).toNat=k.toNat:=by rw [UInt8.toNat_ofNat'];omega
  rw [Lib.add_plain,Nat.zero_add,h]
  simp only [List.getElem_cons_zero,this]
  congr 2;omega)
 exact this
theorem bs_three (a b c:List UInt8):bs a++bs b++bs c=bs (a++(b++c)):=by
 apply ByteArray.ext
 simp [bs,ByteArray.data_append]
def RB (w:World) (k a:Int) (q:List UInt8) (wx:World):Prop:=Blk wx w.heap.size #[.int .i64 k,.int .i64 a,.string (bs q)] 54∧Below w.heap.size w wx
theorem RB.al {w wx:World} {k a:Int} {q:List UInt8} (h:RB w k a q wx) (o:Obj):RB w k a q (wx.alloc o):=⟨h.1.al o,yA h.2 o⟩
theorem RB.call {w wx wy:World} {k a:Int} {q:List UInt8} (h:RB w k a q wx) (hb:Below wx.heap.size wx wy):RB w k a q wy:=⟨h.1.below hb,yB h.2 hb⟩
def RBK (w:World) (k a:Int) (q:List UInt8) (g:Nat) (wx:World):Prop:=RB w k a q wx∧Blk wx g #[.int .u8 k] 5
theorem RBK.mk {w wx:World} {k a:Int} {q:List UInt8} (h:RB w k a q wx) (x:Int) (t:TypeId):RB w k a q (wx.alloc (.cells #[.int .u8 x] t))∧Blk (wx.alloc (.cells #[.int .u8 x] t)) wx.heap.size #[.int .u8 x] t:=⟨h.al _,yD wx _ t⟩
theorem RBK.call {w wx wy:World} {k a:Int} {q:List UInt8} {g:Nat} (h:RBK w k a q g wx) (hb:Below wx.heap.size wx wy):RBK w k a q g wy:=⟨h.1.call hb,h.2.below hb⟩
theorem specPutRec_any (r:Rc) (w:World) (hq:r.queue.length≤1048576) :
  Calls Tryz.prog 36 #[rcv r] w fun e w'=>e=.returned (.string (bs (putRec r)))∧Below w.heap.size w w':=by
 obtain ⟨k,a,q⟩:=r
 simp only at hq
 have CO:=hide (fun wx=>specRecOk_any ⟨k,a,q⟩ wx hq)
 have K0:=hide (yD w #[.int .i64 k,.int .i64 a,.string (bs q)] 54)
 have HB0:=hide (yA (yH _ w) (.cells #[.int .i64 k,.int .i64 a,.string (bs q)] 54))
 by_cases ho:recOk ⟨k,a,q⟩=true
 case neg=>
  rw [Bool.not_eq_true] at ho
  have HP:putRec ⟨k,a,q⟩=[]:=by simp [putRec,ho]
  rw [ho] at CO
  rw [HP]
  clear ho HP
  go_enter Tryz.func36,Tryz.ntmps36
  go_wp2_with fail
  refine (uH CO _).mono ?_
  rintro e w1 ⟨rfl,hb⟩
  have HB1:=hide (yB (uH HB0) hb)
  clear hb
  go_wp2
  go_ret
  exact ⟨rfl,uH HB1⟩
 obtain ⟨b0,b1,b2,b3,b4⟩:=recOk_bd ho
 simp only at b0 b1 b2 b3 b4
 have HP:=hide (show bs [UInt8.ofNat k.toNat]++bs (putNum a)++bs (putText q)=bs (putRec ⟨k,a,q⟩) by rw [bs_three];simp [putRec,ho])
 rw [ho] at CO
 clear ho
 obtain ⟨s1,hs1⟩:∃s,bs [UInt8.ofNat k.toNat]=s:=⟨_,rfl⟩
 obtain ⟨s2,hs2⟩:∃s,bs (putNum a)=s:=⟨_,rfl⟩
 obtain ⟨s3,hs3⟩:∃s,bs (putText q)=s:=⟨_,rfl⟩
 have z1:s1.size=1:=by rw [←hs1,bs_size];rfl
 have z2:s2.size≤5:=by rw [←hs2,bs_size];exact putNum_le a
 have z3:s3.size≤2005:=by rw [←hs3,bs_size];exact putText_le q
 have n1:¬9223372036854775807<s1.size+s2.size:=by omega
 have n2:¬9223372036854775807<s1.size+s2.size+s3.size:=by omega
 clear z1 z2 z3
 have BC:=hide (fun wx g hb=>byte_conv k b0 b1 wx g hb)
 rw [hs1] at BC HP
 rw [hs2,hs3] at HP
 have C1:=hide (fun wx=>by have:=specPutNum_any a wx;rw [hs2] at this;exact this)
 have C2:=hide (fun wx=>by have:=specPutText_any (bs q) wx (by rw [bs_size];exact hq);rw [show bs (putText (bs q).data.toList)=s3 from hs3] at this;exact this)
 have kw:IntKind.u8.wrap k=k:=by simp [IntKind.wrap_u8];omega
 clear hs1 hs2 hs3
 go_enter Tryz.func36,Tryz.ntmps36
 go_wp2_with fail
 refine (uH CO _).mono ?_
 rintro e w1 ⟨rfl,hb⟩
 have HB1:=hide (yB (uH HB0) hb)
 have K1:=hide ((uH K0).below hb)
 clear hb CO HB0 K0
 go_wp2_with fail
 refine wp_region_held_drew (S:=RB w k a q) (by kernel_rfl) (show RB w k a q w1.drew from ⟨uH K1,(uH HB1).drew⟩) (fun S0=>?_)
 have R:∀wz,RB w k a q wz→wz.cell? ⟨w.heap.size,0,none⟩=some (.int .i64 k)∧wz.cell? ⟨w.heap.size,1,none⟩=some (.int .i64 a)∧wz.cell? ⟨w.heap.size,2,none⟩=some (.string (bs q)):=fun wz h=>⟨by simpa using h.1.at 0,by simpa using h.1.at 1,by simpa using h.1.at 2⟩
 refine takeD (i:=0) (d:=some 6) (v:=_) rfl rfl (by kernel_rfl) (by kernel_rfl) (by kernel_rfl) (fun _ _ _ h=>h) (Or.inl ⟨by rfl,fun wz hz=>by (obtain ⟨r0,r1,r2⟩:=R wz hz;go_simp;try with_reducible rfl)⟩) S0 ?_
 try simp only [zW]
 refine takeD (i:=1) (d:=some 7) (v:=_) rfl rfl (by kernel_rfl) (by kernel_rfl) (by kernel_rfl) (fun _ _ _ h=>h) (Or.inl ⟨by rfl,fun wz hz=>by (obtain ⟨r0,r1,r2⟩:=R wz hz;go_simp;try with_reducible rfl)⟩) S0 ?_
 try simp only [zW]
 refine takeD (i:=2) (d:=some 8) (v:=_) rfl rfl (by kernel_rfl) (by kernel_rfl) (by kernel_rfl) (fun _ _ _ h=>h) (Or.inl ⟨by rfl,fun wz hz=>by (obtain ⟨r0,r1,r2⟩:=R wz hz;go_simp;try with_reducible rfl)⟩) S0 ?_
 try simp only [zW]
 refine takeD (i:=5) (d:=some 11) (v:=_) rfl rfl (by kernel_rfl) (by kernel_rfl) (by kernel_rfl) (fun _ _ _ h=>h) (Or.inl ⟨by rfl,fun wz hz=>by (obtain ⟨r0,r1,r2⟩:=R wz hz;go_simp;try with_reducible rfl)⟩) S0 ?_
 try simp only [zW]
 refine takeD (i:=6) (d:=some 12) (v:=_) rfl rfl (by kernel_rfl) (by kernel_rfl) (by kernel_rfl) (fun _ _ _ h=>h) (Or.inl ⟨by rfl,fun wz hz=>by (obtain ⟨r0,r1,r2⟩:=R wz hz;go_simp;try with_reducible rfl)⟩) S0 ?_
 try simp only [zW]
 refine takeD (i:=9) (d:=some 15) (v:=_) rfl rfl (by kernel_rfl) (by kernel_rfl) (by kernel_rfl) (fun _ _ _ h=>h) (Or.inl ⟨by rfl,fun wz hz=>by (obtain ⟨r0,r1,r2⟩:=R wz hz;go_simp;try with_reducible rfl)⟩) S0 ?_
 try simp only [zW]
 refine takeD (i:=10) (d:=some 16) (v:=_) rfl rfl (by kernel_rfl) (by kernel_rfl) (by kernel_rfl) (fun _ _ _ h=>h) (Or.inl ⟨by rfl,fun wz hz=>by (obtain ⟨r0,r1,r2⟩:=R wz hz;go_simp;try with_reducible rfl)⟩) S0 ?_
 try simp only [zW]
 clear R
 refine wpAnyH_ready (rs:=[3,7]) (by kernel_rfl) (by simp) ?_
 refine AllReadyH.cons rfl (fun K hK=>?_) ?_
 ·go_wp2_with fail
  refine hK.out _ _ (RB.al S0 _) (fun _=>?_)
  have S1:RBK w k a q w1.heap.size _:=RBK.mk S0 k 5
  clear hK K
  refine wpAnyH_narrow (S':=RBK w k a q w1.heap.size) (fun _ h=>h.1) _ _ _ _ ?_
  try simp only [zW]
  refine takeD (i:=4) (d:=some 10) (v:=_) rfl rfl (by kernel_rfl) (by kernel_rfl) (by kernel_rfl) (fun _ _ _ h=>h) (Or.inl ⟨by rfl,fun wz hz=>by (have hcv:=uH BC _ _ hz.2;go_simp;try with_reducible rfl)⟩) S1 ?_
  try simp only [zW]
  refine wpAnyH_ready (rs:=[7]) (by kernel_rfl) (by simp) ?_
  refine AllReadyH.cons rfl (fun K hK=>?_) AllReadyH.nil
  go_simp
  refine (uH C1 _).mono ?_
  rintro e wc ⟨rfl,hb⟩
  have S1:=RBK.call S1 hb
  go_wp2_with fail
  refine hK.out _ _ S1 (fun S2=>?_)
  clear hK K S1 hb
  try simp only [zW]
  refine takeD (i:=8) (d:=some 14) (v:=_) rfl rfl (by kernel_rfl) (by kernel_rfl) (by kernel_rfl) (fun _ _ _ h=>h) (Or.inl ⟨by rfl,fun wz hz=>by (go_simp;try with_reducible rfl)⟩) S2 ?_
  try simp only [zW]
  refine wpAnyH_ready (rs:=[11]) (by kernel_rfl) (by simp) ?_
  refine AllReadyH.cons rfl (fun K hK=>?_) AllReadyH.nil
  go_simp
  refine (uH C2 _).mono ?_
  rintro e wc ⟨rfl,hb⟩
  have S1:=RBK.call S2 hb
  go_wp2_with fail
  refine hK.out _ _ S1 (fun S3=>?_)
  clear hK K S1 hb
  try simp only [zW]
  refine takeD (i:=12) (d:=some 18) (v:=_) rfl rfl (by kernel_rfl) (by kernel_rfl) (by kernel_rfl) (fun _ _ _ h=>h) (Or.inl ⟨by rfl,fun wz hz=>by (go_simp;try with_reducible rfl)⟩) S3 ?_
  try simp only [zW]
  refine takeD (i:=13) (d:=some 2) (v:=_) rfl rfl (by kernel_rfl) (by kernel_rfl) (by kernel_rfl) (fun _ _ _ h=>h) (Or.inl ⟨by rfl,fun wz hz=>by (go_simp;try with_reducible rfl)⟩) S3 ?_
  try simp only [zW]
  refine wpAnyH_done (by kernel_rfl) ?_ _
  have SX:=S3
  have HBx:=hide SX.1.2
  go_wp2_with fail
  go_wp2
  go_ret
  exact ⟨ret_str (uH HP),uH HBx⟩
 refine AllReadyH.cons rfl (fun K hK=>?_) AllReadyH.nil
 go_simp
 refine (uH C1 _).mono ?_
 rintro e wc ⟨rfl,hb⟩
 have S1:=RB.call S0 hb
 go_wp2_with fail
 refine hK.out _ _ S1 (fun S2=>?_)
 clear hK K S1 hb
 try simp only [zW]
 refine wpAnyH_ready (rs:=[3,11]) (by kernel_rfl) (by simp) ?_
 refine AllReadyH.cons rfl (fun K hK=>?_) ?_
 ·go_wp2_with fail
  refine hK.out _ _ (RB.al S2 _) (fun _=>?_)
  have S4:RBK w k a q wc.heap.size _:=RBK.mk S2 k 5
  clear hK K
  refine wpAnyH_narrow (S':=RBK w k a q wc.heap.size) (fun _ h=>h.1) _ _ _ _ ?_
  try simp only [zW]
  refine takeD (i:=4) (d:=some 10) (v:=_) rfl rfl (by kernel_rfl) (by kernel_rfl) (by kernel_rfl) (fun _ _ _ h=>h) (Or.inl ⟨by rfl,fun wz hz=>by (have hcv:=uH BC _ _ hz.2;go_simp;try with_reducible rfl)⟩) S4 ?_
  try simp only [zW]
  refine takeD (i:=8) (d:=some 14) (v:=_) rfl rfl (by kernel_rfl) (by kernel_rfl) (by kernel_rfl) (fun _ _ _ h=>h) (Or.inl ⟨by rfl,fun wz hz=>by (go_simp;try with_reducible rfl)⟩) S4 ?_
  try simp only [zW]
  refine wpAnyH_ready (rs:=[11]) (by kernel_rfl) (by simp) ?_
  refine AllReadyH.cons rfl (fun K hK=>?_) AllReadyH.nil
  go_simp
  refine (uH C2 _).mono ?_
  rintro e wc ⟨rfl,hb⟩
  have S1:=RBK.call S4 hb
  go_wp2_with fail
  refine hK.out _ _ S1 (fun S3=>?_)
  clear hK K S1 hb
  try simp only [zW]
  refine takeD (i:=12) (d:=some 18) (v:=_) rfl rfl (by kernel_rfl) (by kernel_rfl) (by kernel_rfl) (fun _ _ _ h=>h) (Or.inl ⟨by rfl,fun wz hz=>by (go_simp;try with_reducible rfl)⟩) S3 ?_
  try simp only [zW]
  refine takeD (i:=13) (d:=some 2) (v:=_) rfl rfl (by kernel_rfl) (by kernel_rfl) (by kernel_rfl) (fun _ _ _ h=>h) (Or.inl ⟨by rfl,fun wz hz=>by (go_simp;try with_reducible rfl)⟩) S3 ?_
  try simp only [zW]
  refine wpAnyH_done (by kernel_rfl) ?_ _
  have SX:=S3
  have HBx:=hide SX.1.2
  go_wp2_with fail
  go_wp2
  go_ret
  exact ⟨ret_str (uH HP),uH HBx⟩
 refine AllReadyH.cons rfl (fun K hK=>?_) AllReadyH.nil
 go_simp
 refine (uH C2 _).mono ?_
 rintro e wc ⟨rfl,hb⟩
 have S1:=RB.call S2 hb
 go_wp2_with fail
 refine hK.out _ _ S1 (fun S3=>?_)
 clear hK K S1 hb
 try simp only [zW]
 refine wpAnyH_ready (rs:=[3]) (by kernel_rfl) (by simp) ?_
 refine AllReadyH.cons rfl (fun K hK=>?_) AllReadyH.nil
 go_wp2_with fail
 refine hK.out _ _ (RB.al S3 _) (fun _=>?_)
 have S4:RBK w k a q wc.heap.size _:=RBK.mk S3 k 5
 clear hK K
 refine wpAnyH_narrow (S':=RBK w k a q wc.heap.size) (fun _ h=>h.1) _ _ _ _ ?_
 try simp only [zW]
 refine takeD (i:=4) (d:=some 10) (v:=_) rfl rfl (by kernel_rfl) (by kernel_rfl) (by kernel_rfl) (fun _ _ _ h=>h) (Or.inl ⟨by rfl,fun wz hz=>by (have hcv:=uH BC _ _ hz.2;go_simp;try with_reducible rfl)⟩) S4 ?_
 try simp only [zW]
 refine takeD (i:=8) (d:=some 14) (v:=_) rfl rfl (by kernel_rfl) (by kernel_rfl) (by kernel_rfl) (fun _ _ _ h=>h) (Or.inl ⟨by rfl,fun wz hz=>by (go_simp;try with_reducible rfl)⟩) S4 ?_
 try simp only [zW]
 refine takeD (i:=12) (d:=some 18) (v:=_) rfl rfl (by kernel_rfl) (by kernel_rfl) (by kernel_rfl) (fun _ _ _ h=>h) (Or.inl ⟨by rfl,fun wz hz=>by (go_simp;try with_reducible rfl)⟩) S4 ?_
 try simp only [zW]
 refine takeD (i:=13) (d:=some 2) (v:=_) rfl rfl (by kernel_rfl) (by kernel_rfl) (by kernel_rfl) (fun _ _ _ h=>h) (Or.inl ⟨by rfl,fun wz hz=>by (go_simp;try with_reducible rfl)⟩) S4 ?_
 try simp only [zW]
 refine wpAnyH_done (by kernel_rfl) ?_ _
 have SX:=S4
 have HBx:=hide SX.1.2
 go_wp2_with fail
 go_wp2
 go_ret
 exact ⟨ret_str (uH HP),uH HBx⟩
theorem implPutRec_any (r:Rc) (w:World) (hq:r.queue.length≤1048576) :
  Calls Tryz.prog 100 #[rcv r] w fun e w'=>e=.returned (.string (bs (putRec r)))∧Below w.heap.size w w':=by
 obtain ⟨k,a,q⟩:=r
 simp only at hq
 have CO:=hide (fun wx=>implRecOk_any ⟨k,a,q⟩ wx hq)
 have K0:=hide (yD w #[.int .i64 k,.int .i64 a,.string (bs q)] 54)
 have HB0:=hide (yA (yH _ w) (.cells #[.int .i64 k,.int .i64 a,.string (bs q)] 54))
 by_cases ho:recOk ⟨k,a,q⟩=true
 case neg=>
  rw [Bool.not_eq_true] at ho
  have HP:putRec ⟨k,a,q⟩=[]:=by simp [putRec,ho]
  rw [ho] at CO
  rw [HP]
  clear ho HP
  go_enter Tryz.func100,Tryz.ntmps100
  go_wp2_with fail
  refine (uH CO _).mono ?_
  rintro e w1 ⟨rfl,hb⟩
  have HB1:=hide (yB (uH HB0) hb)
  clear hb
  go_wp2
  go_ret
  exact ⟨rfl,uH HB1⟩
 obtain ⟨b0,b1,b2,b3,b4⟩:=recOk_bd ho
 simp only at b0 b1 b2 b3 b4
 have HP:=hide (show bs [UInt8.ofNat k.toNat]++bs (putNum a)++bs (putText q)=bs (putRec ⟨k,a,q⟩) by rw [bs_three];simp [putRec,ho])
 rw [ho] at CO
 clear ho
 obtain ⟨s1,hs1⟩:∃s,bs [UInt8.ofNat k.toNat]=s:=⟨_,rfl⟩
 obtain ⟨s2,hs2⟩:∃s,bs (putNum a)=s:=⟨_,rfl⟩
 obtain ⟨s3,hs3⟩:∃s,bs (putText q)=s:=⟨_,rfl⟩
 have z1:s1.size=1:=by rw [←hs1,bs_size];rfl
 have z2:s2.size≤5:=by rw [←hs2,bs_size];exact putNum_le a
 have z3:s3.size≤2005:=by rw [←hs3,bs_size];exact putText_le q
 have n1:¬9223372036854775807<s1.size+s2.size:=by omega
 have n2:¬9223372036854775807<s1.size+s2.size+s3.size:=by omega
 clear z1 z2 z3
 have BC:=hide (fun wx g hb=>byte_conv k b0 b1 wx g hb)
 rw [hs1] at BC HP
 rw [hs2,hs3] at HP
 have C1:=hide (fun wx=>by have:=implPutNum_any a wx;rw [hs2] at this;exact this)
 have C2:=hide (fun wx=>by have:=implPutText_any (bs q) wx (by rw [bs_size];exact hq);rw [show bs (putText (bs q).data.toList)=s3 from hs3] at this;exact this)
 have kw:IntKind.u8.wrap k=k:=by simp [IntKind.wrap_u8];omega
 clear hs1 hs2 hs3
 go_enter Tryz.func100,Tryz.ntmps100
 go_wp2_with fail
 refine (uH CO _).mono ?_
 rintro e w1 ⟨rfl,hb⟩
 have HB1:=hide (yB (uH HB0) hb)
 have K1:=hide ((uH K0).below hb)
 clear hb CO HB0 K0
 go_wp2_with fail
 refine wp_region_held_drew (S:=RB w k a q) (by kernel_rfl) (show RB w k a q w1.drew from ⟨uH K1,(uH HB1).drew⟩) (fun S0=>?_)
 have R:∀wz,RB w k a q wz→wz.cell? ⟨w.heap.size,0,none⟩=some (.int .i64 k)∧wz.cell? ⟨w.heap.size,1,none⟩=some (.int .i64 a)∧wz.cell? ⟨w.heap.size,2,none⟩=some (.string (bs q)):=fun wz h=>⟨by simpa using h.1.at 0,by simpa using h.1.at 1,by simpa using h.1.at 2⟩
 refine takeD (i:=0) (d:=some 6) (v:=_) rfl rfl (by kernel_rfl) (by kernel_rfl) (by kernel_rfl) (fun _ _ _ h=>h) (Or.inl ⟨by rfl,fun wz hz=>by (obtain ⟨r0,r1,r2⟩:=R wz hz;go_simp;try with_reducible rfl)⟩) S0 ?_
 try simp only [zW]
 refine takeD (i:=1) (d:=some 7) (v:=_) rfl rfl (by kernel_rfl) (by kernel_rfl) (by kernel_rfl) (fun _ _ _ h=>h) (Or.inl ⟨by rfl,fun wz hz=>by (obtain ⟨r0,r1,r2⟩:=R wz hz;go_simp;try with_reducible rfl)⟩) S0 ?_
 try simp only [zW]
 refine takeD (i:=2) (d:=some 8) (v:=_) rfl rfl (by kernel_rfl) (by kernel_rfl) (by kernel_rfl) (fun _ _ _ h=>h) (Or.inl ⟨by rfl,fun wz hz=>by (obtain ⟨r0,r1,r2⟩:=R wz hz;go_simp;try with_reducible rfl)⟩) S0 ?_
 try simp only [zW]
 refine takeD (i:=5) (d:=some 11) (v:=_) rfl rfl (by kernel_rfl) (by kernel_rfl) (by kernel_rfl) (fun _ _ _ h=>h) (Or.inl ⟨by rfl,fun wz hz=>by (obtain ⟨r0,r1,r2⟩:=R wz hz;go_simp;try with_reducible rfl)⟩) S0 ?_
 try simp only [zW]
 refine takeD (i:=6) (d:=some 12) (v:=_) rfl rfl (by kernel_rfl) (by kernel_rfl) (by kernel_rfl) (fun _ _ _ h=>h) (Or.inl ⟨by rfl,fun wz hz=>by (obtain ⟨r0,r1,r2⟩:=R wz hz;go_simp;try with_reducible rfl)⟩) S0 ?_
 try simp only [zW]
 refine takeD (i:=9) (d:=some 15) (v:=_) rfl rfl (by kernel_rfl) (by kernel_rfl) (by kernel_rfl) (fun _ _ _ h=>h) (Or.inl ⟨by rfl,fun wz hz=>by (obtain ⟨r0,r1,r2⟩:=R wz hz;go_simp;try with_reducible rfl)⟩) S0 ?_
 try simp only [zW]
 refine takeD (i:=10) (d:=some 16) (v:=_) rfl rfl (by kernel_rfl) (by kernel_rfl) (by kernel_rfl) (fun _ _ _ h=>h) (Or.inl ⟨by rfl,fun wz hz=>by (obtain ⟨r0,r1,r2⟩:=R wz hz;go_simp;try with_reducible rfl)⟩) S0 ?_
 try simp only [zW]
 clear R
 refine wpAnyH_ready (rs:=[3,7]) (by kernel_rfl) (by simp) ?_
 refine AllReadyH.cons rfl (fun K hK=>?_) ?_
 ·go_wp2_with fail
  refine hK.out _ _ (RB.al S0 _) (fun _=>?_)
  have S1:RBK w k a q w1.heap.size _:=RBK.mk S0 k 5
  clear hK K
  refine wpAnyH_narrow (S':=RBK w k a q w1.heap.size) (fun _ h=>h.1) _ _ _ _ ?_
  try simp only [zW]
  refine takeD (i:=4) (d:=some 10) (v:=_) rfl rfl (by kernel_rfl) (by kernel_rfl) (by kernel_rfl) (fun _ _ _ h=>h) (Or.inl ⟨by rfl,fun wz hz=>by (have hcv:=uH BC _ _ hz.2;go_simp;try with_reducible rfl)⟩) S1 ?_
  try simp only [zW]
  refine wpAnyH_ready (rs:=[7]) (by kernel_rfl) (by simp) ?_
  refine AllReadyH.cons rfl (fun K hK=>?_) AllReadyH.nil
  go_simp
  refine (uH C1 _).mono ?_
  rintro e wc ⟨rfl,hb⟩
  have S1:=RBK.call S1 hb
  go_wp2_with fail
  refine hK.out _ _ S1 (fun S2=>?_)
  clear hK K S1 hb
  try simp only [zW]
  refine takeD (i:=8) (d:=some 14) (v:=_) rfl rfl (by kernel_rfl) (by kernel_rfl) (by kernel_rfl) (fun _ _ _ h=>h) (Or.inl ⟨by rfl,fun wz hz=>by (go_simp;try with_reducible rfl)⟩) S2 ?_
  try simp only [zW]
  refine wpAnyH_ready (rs:=[11]) (by kernel_rfl) (by simp) ?_
  refine AllReadyH.cons rfl (fun K hK=>?_) AllReadyH.nil
  go_simp
  refine (uH C2 _).mono ?_
  rintro e wc ⟨rfl,hb⟩
  have S1:=RBK.call S2 hb
  go_wp2_with fail
  refine hK.out _ _ S1 (fun S3=>?_)
  clear hK K S1 hb
  try simp only [zW]
  refine takeD (i:=12) (d:=some 18) (v:=_) rfl rfl (by kernel_rfl) (by kernel_rfl) (by kernel_rfl) (fun _ _ _ h=>h) (Or.inl ⟨by rfl,fun wz hz=>by (go_simp;try with_reducible rfl)⟩) S3 ?_
  try simp only [zW]
  refine takeD (i:=13) (d:=some 2) (v:=_) rfl rfl (by kernel_rfl) (by kernel_rfl) (by kernel_rfl) (fun _ _ _ h=>h) (Or.inl ⟨by rfl,fun wz hz=>by (go_simp;try with_reducible rfl)⟩) S3 ?_
  try simp only [zW]
  refine wpAnyH_done (by kernel_rfl) ?_ _
  have SX:=S3
  have HBx:=hide SX.1.2
  go_wp2_with fail
  go_wp2
  go_ret
  exact ⟨ret_str (uH HP),uH HBx⟩
 refine AllReadyH.cons rfl (fun K hK=>?_) AllReadyH.nil
 go_simp
 refine (uH C1 _).mono ?_
 rintro e wc ⟨rfl,hb⟩
 have S1:=RB.call S0 hb
 go_wp2_with fail
 refine hK.out _ _ S1 (fun S2=>?_)
 clear hK K S1 hb
 try simp only [zW]
 refine wpAnyH_ready (rs:=[3,11]) (by kernel_rfl) (by simp) ?_
 refine AllReadyH.cons rfl (fun K hK=>?_) ?_
 ·go_wp2_with fail
  refine hK.out _ _ (RB.al S2 _) (fun _=>?_)
  have S4:RBK w k a q wc.heap.size _:=RBK.mk S2 k 5
  clear hK K
  refine wpAnyH_narrow (S':=RBK w k a q wc.heap.size) (fun _ h=>h.1) _ _ _ _ ?_
  try simp only [zW]
  refine takeD (i:=4) (d:=some 10) (v:=_) rfl rfl (by kernel_rfl) (by kernel_rfl) (by kernel_rfl) (fun _ _ _ h=>h) (Or.inl ⟨by rfl,fun wz hz=>by (have hcv:=uH BC _ _ hz.2;go_simp;try with_reducible rfl)⟩) S4 ?_
  try simp only [zW]
  refine takeD (i:=8) (d:=some 14) (v:=_) rfl rfl (by kernel_rfl) (by kernel_rfl) (by kernel_rfl) (fun _ _ _ h=>h) (Or.inl ⟨by rfl,fun wz hz=>by (go_simp;try with_reducible rfl)⟩) S4 ?_
  try simp only [zW]
  refine wpAnyH_ready (rs:=[11]) (by kernel_rfl) (by simp) ?_
  refine AllReadyH.cons rfl (fun K hK=>?_) AllReadyH.nil
  go_simp
  refine (uH C2 _).mono ?_
  rintro e wc ⟨rfl,hb⟩
  have S1:=RBK.call S4 hb
  go_wp2_with fail
  refine hK.out _ _ S1 (fun S3=>?_)
  clear hK K S1 hb
  try simp only [zW]
  refine takeD (i:=12) (d:=some 18) (v:=_) rfl rfl (by kernel_rfl) (by kernel_rfl) (by kernel_rfl) (fun _ _ _ h=>h) (Or.inl ⟨by rfl,fun wz hz=>by (go_simp;try with_reducible rfl)⟩) S3 ?_
  try simp only [zW]
  refine takeD (i:=13) (d:=some 2) (v:=_) rfl rfl (by kernel_rfl) (by kernel_rfl) (by kernel_rfl) (fun _ _ _ h=>h) (Or.inl ⟨by rfl,fun wz hz=>by (go_simp;try with_reducible rfl)⟩) S3 ?_
  try simp only [zW]
  refine wpAnyH_done (by kernel_rfl) ?_ _
  have SX:=S3
  have HBx:=hide SX.1.2
  go_wp2_with fail
  go_wp2
  go_ret
  exact ⟨ret_str (uH HP),uH HBx⟩
 refine AllReadyH.cons rfl (fun K hK=>?_) AllReadyH.nil
 go_simp
 refine (uH C2 _).mono ?_
 rintro e wc ⟨rfl,hb⟩
 have S1:=RB.call S2 hb
 go_wp2_with fail
 refine hK.out _ _ S1 (fun S3=>?_)
 clear hK K S1 hb
 try simp only [zW]
 refine wpAnyH_ready (rs:=[3]) (by kernel_rfl) (by simp) ?_
 refine AllReadyH.cons rfl (fun K hK=>?_) AllReadyH.nil
 go_wp2_with fail
 refine hK.out _ _ (RB.al S3 _) (fun _=>?_)
 have S4:RBK w k a q wc.heap.size _:=RBK.mk S3 k 5
 clear hK K
 refine wpAnyH_narrow (S':=RBK w k a q wc.heap.size) (fun _ h=>h.1) _ _ _ _ ?_
 try simp only [zW]
 refine takeD (i:=4) (d:=some 10) (v:=_) rfl rfl (by kernel_rfl) (by kernel_rfl) (by kernel_rfl) (fun _ _ _ h=>h) (Or.inl ⟨by rfl,fun wz hz=>by (have hcv:=uH BC _ _ hz.2;go_simp;try with_reducible rfl)⟩) S4 ?_
 try simp only [zW]
 refine takeD (i:=8) (d:=some 14) (v:=_) rfl rfl (by kernel_rfl) (by kernel_rfl) (by kernel_rfl) (fun _ _ _ h=>h) (Or.inl ⟨by rfl,fun wz hz=>by (go_simp;try with_reducible rfl)⟩) S4 ?_
 try simp only [zW]
 refine takeD (i:=12) (d:=some 18) (v:=_) rfl rfl (by kernel_rfl) (by kernel_rfl) (by kernel_rfl) (fun _ _ _ h=>h) (Or.inl ⟨by rfl,fun wz hz=>by (go_simp;try with_reducible rfl)⟩) S4 ?_
 try simp only [zW]
 refine takeD (i:=13) (d:=some 2) (v:=_) rfl rfl (by kernel_rfl) (by kernel_rfl) (by kernel_rfl) (fun _ _ _ h=>h) (Or.inl ⟨by rfl,fun wz hz=>by (go_simp;try with_reducible rfl)⟩) S4 ?_
 try simp only [zW]
 refine wpAnyH_done (by kernel_rfl) ?_ _
 have SX:=S4
 have HBx:=hide SX.1.2
 go_wp2_with fail
 go_wp2
 go_ret
 exact ⟨ret_str (uH HP),uH HBx⟩
theorem below_set {B:Nat} {w wr:World} (h:Below B w wr) (j:Nat) (v:Value):Below B w (wr.setCell ⟨B,j,none⟩ v):=h.setCell (yJ _) v
theorem fill_step {B k:Nat} {d m:Value} {w wr:World} (hk:k<16) (h:HoldsT wr B (tab d m k)) (hb:Below B w wr) :
  HoldsT ((wr.setCell ⟨B,3+k,none⟩ (.int .u32 (hN 4 k:Int))).drew) B (tab d m (k+1))∧Below B w ((wr.setCell ⟨B,3+k,none⟩ (.int .u32 (hN 4 k:Int))).drew):=by
 refine ⟨?_,(below_set hb _ _).drew⟩
 have:=h.set (3+k) (.int .u32 (hN 4 k:Int))
 rw [tab_set d m k hk] at this
 exact this.drew
theorem fill_any (B:Nat) (d m:Value) (w:World) (h:HoldsT w B (tab d m 0)) :
  Calls Tryz.prog 183 #[.pointer (some ⟨B,0,none⟩)] w fun e w'=>e=.returned (.tuple #[])∧HoldsT w' B (tab d m 16)∧Below B w w':=by
 go_enter Tryz.func183,Tryz.ntmps183
 go_wp2
 go_loopw [2,3] (fun _ i wr=>∃k:Nat,k≤16∧i=.int .i64 k∧HoldsT wr B (tab d m k)∧Below B w wr) (fun _ i _=>16 - (intOf i).toNat)
 case atStart=>exact ⟨0,Nat.zero_le _,rfl,h,yH _ _⟩
 case round=>
  obtain ⟨k,hk,rfl,hh,hb⟩:=hrel
  have HH:=hide hh
  have HB:=hide hb
  by_cases hlt:k<16
  ·have hc:wr.cell? ⟨B,3+k,none⟩=some (.int .u32 0):=by rw [hh.cell,tab_at _ _ _ _ hlt,if_neg (by omega)]
   have hf:wr.frozen? ⟨B,3+k,none⟩=false:=hh.frozen _
   have hlt2:(k:Int)<16:=by omega
   have hk32:k<4294967296:=by omega
   have hwr:IntKind.u32.wrap (k:Int)=(k:Int):=by rw [IntKind.wrap_u32];omega
   clear hh hb
   go_wp2_with fail
   go_region_with (go_at_call 200;refine (halveFour_any k _ hk32).mono ?_;rintro e w' ⟨rfl,rfl⟩)
   all_goals
    have R:=fill_step hlt (uH HH) (uH HB)
    go_wp2
    go_roundw
    case rel=>exact ⟨k+1,by omega,by go_num,R.1,R.2⟩
    case measure=>simp [intOf];omega
  ·have he:k=16:=by omega
   subst he
   clear hh hb
   go_wp2
   go_end0
   exact ⟨rfl,uH HH,uH HB⟩
abbrev fillF (B:Nat):Value:=.func (.func 183) #[.pointer (some ⟨B,0,none⟩)] #[]
theorem slow_any (B:Nat) (w:World) (h:HoldsT w B (tab (.int .u32 0) (.int .i32 0) 0)) :
  Calls Tryz.prog 199 #[.pointer (some ⟨B,0,none⟩),fillF B] w fun e w'=>e=.returned (.tuple #[])∧HoldsT w' B (tab (.int .u32 1) (.int .i32 0) 16)∧Below B w w':=by
 have h0:w.cell? ⟨B,0,none⟩=some (.int .u32 0):=by rw [h.cell,tab_at0]
 have h1:w.cell? ⟨B,1,none⟩=some (.int .i32 0):=by rw [h.cell,tab_at1]
 have f1:w.frozen? ⟨B,1,none⟩=false:=h.frozen _
 have hs1:=h.set 1 (.int .i32 1)
 rw [tab_set1] at hs1
 have hb1:=below_set (yH B w) 1 (.int .i32 1)
 have hl:=run_call_load (P:=Tryz.prog) Tryz.func217 (by kernel_rfl) (by kernel_rfl) (by kernel_rfl) .u32 (by kernel_rfl) (w:=w.setCell ⟨B,1,none⟩ (.int .i32 1)) (a:=⟨B,0,none⟩) (x:=0) (by rw [hs1.cell,tab_at0])
 have hnot:∀(x:Bool) (w:World),(Op.unary .not (.bool x)).run Tryz.prog w=.ok (.bool (!x)) w:=fun _ _=>rfl
 have HS:=hide hs1
 have HB:=hide hb1
 clear hs1 hb1 h
 go_enter_defers Tryz.func199,Tryz.ntmps199
 go_wp2_with (first | (go_at_call 48;refine (lock_free ⟨B,1,none⟩ _ (by go_simp) (by go_simp)).mono ?_;rintro e w' ⟨rfl,rfl⟩) | (go_at_call 198;go_in))
 refine (fill_any B (.int .u32 0) (.int .i32 1) _ (uH HS)).mono ?_
 rintro e w2 ⟨rfl,hs2,hb2⟩
 have HS2:=hide hs2
 have HB2:=hide (Below.trans (uH HB) hb2)
 have g0:w2.cell? ⟨B,0,none⟩=some (.int .u32 0):=by rw [hs2.cell,tab_at0]
 have z0:w2.frozen? ⟨B,0,none⟩=false:=hs2.frozen _
 have hs3:=(hs2.drew).set 0 (.int .u32 1)
 rw [tab_set0] at hs3
 have g1:(w2.drew.setCell ⟨B,0,none⟩ (.int .u32 1)).cell? ⟨B,1,none⟩=some (.int .i32 1):=by rw [hs3.cell,tab_at1]
 have z1:(w2.drew.setCell ⟨B,0,none⟩ (.int .u32 1)).frozen? ⟨B,1,none⟩=false:=hs3.frozen _
 have hs4:=hs3.set 1 (.int .i32 0)
 rw [tab_set1] at hs4
 have HS4:=hide hs4
 have HB4:=hide (below_set (below_set ((uH HB2).drew) 0 (.int .u32 1)) 1 (.int .i32 0))
 clear hs2 hb2 hs3 hs4
 go_wp2
 refine leaves_cons (f:=218) (args:=#[.pointer (some ⟨B,0,none⟩),.bool true]) (by simp) (by simp [go_sem]) ?_
 refine (store_deferred ⟨B,0,none⟩ (.int .u32 0) .returning _ g0 z0).mono ?_
 rintro e u' w'' ⟨rfl,rfl,rfl⟩
 refine leaves_cons (f:=49) (args:=#[.pointer (some ⟨B,1,none⟩)]) (by simp [settle]) (by simp [go_sem]) ?_
 refine (unlock_deferred ⟨B,1,none⟩ _ _ g1 z1).mono ?_
 rintro e u' w'' ⟨rfl,rfl,rfl⟩
 simp [Leaves,settle,results,Tryz.results199]
 exact ⟨uH HS4,uH HB4⟩
theorem do_first (B:Nat) (w:World) (h:HoldsT w B (tab (.int .u32 0) (.int .i32 0) 0)) :
  Calls Tryz.prog 182 #[.pointer (some ⟨B,0,none⟩),fillF B] w fun e w'=>e=.returned (.tuple #[])∧HoldsT w' B (tab (.int .u32 1) (.int .i32 0) 16)∧Below B w w':=by
 have hl:=run_call_load (P:=Tryz.prog) Tryz.func217 (by kernel_rfl) (by kernel_rfl) (by kernel_rfl) .u32 (by kernel_rfl) (w:=w) (a:=⟨B,0,none⟩) (x:=0) (by rw [h.cell,tab_at0])
 have hnot:∀(x:Bool) (w:World),(Op.unary .not (.bool x)).run Tryz.prog w=.ok (.bool (!x)) w:=fun _ _=>rfl
 have HH:=hide h
 clear h
 go_enter Tryz.func182,Tryz.ntmps182
 go_wp2_with (first | (go_at_call 199;refine (slow_any B _ (uH HH)).mono ?_;rintro e w2 ⟨rfl,hs2,hb2⟩) | (go_at_call 198;go_in))
 go_end0
 exact ⟨rfl,hs2,hb2⟩
theorem do_done (B:Nat) (fv:Value) (w:World) (h:HoldsT w B (tab (.int .u32 1) (.int .i32 0) 16)) :
  Calls Tryz.prog 182 #[.pointer (some ⟨B,0,none⟩),fv] w fun e w'=>e=.returned (.tuple #[])∧HoldsT w' B (tab (.int .u32 1) (.int .i32 0) 16)∧Below B w w':=by
 have hl:=run_call_load (P:=Tryz.prog) Tryz.func217 (by kernel_rfl) (by kernel_rfl) (by kernel_rfl) .u32 (by kernel_rfl) (w:=w) (a:=⟨B,0,none⟩) (x:=1) (by rw [h.cell,tab_at0])
 have hnot:∀(x:Bool) (w:World),(Op.unary .not (.bool x)).run Tryz.prog w=.ok (.bool (!x)) w:=fun _ _=>rfl
 have HH:=hide h
 clear h
 go_enter Tryz.func182,Tryz.ntmps182
 go_wp2
 go_end0
 exact ⟨rfl,uH HH,yH _ _⟩
def Tabled (w:World) (B:Nat):Prop:=HoldsT w B (tab (.int .u32 0) (.int .i32 0) 0)∨HoldsT w B (tab (.int .u32 1) (.int .i32 0) 16)
theorem do_any (B:Nat) (w:World) (h:Tabled w B) :
  Calls Tryz.prog 182 #[.pointer (some ⟨B,0,none⟩),fillF B] w fun e w'=>e=.returned (.tuple #[])∧HoldsT w' B (tab (.int .u32 1) (.int .i32 0) 16)∧Below B w w':=by
 rcases h with h | h
 ·exact do_first B w h
 ·exact do_done B _ w h
theorem shiftFour_any (B x:Nat) (w:World) (hx:x<4294967296) (h:Tabled w B) :
  Calls Tryz.prog 171 #[.pointer (some ⟨B,0,none⟩),.int .u32 (x:Int)] w fun e w'=>e=.returned (.int .u32 (hN 4 x:Int))∧Tabled w' B∧Below B w w':=by
 have hmf:∀(fn:Fn) (first cap:Array Value) (w:World),(Instr.makeFunc fn first cap).run Tryz.prog w=.ok (.func fn first cap) w:=fun _ _ _ _=>rfl
 have HT:=hide h
 clear h
 have ha:bits .and .u32 (x:Int) 15=((x % 16:Nat):Int):=by
  rw [show (15:Int)=((15:Nat):Int) from rfl,u32_and_nat _ _ hx (by decide),show (15:Nat)=2 ^ 4 - 1 from rfl,Nat.and_two_pow_sub_one_eq_mod]
 have hxr:bits .xor .u32 (hN 4 (x % 16):Int) ((x:Int) / 16)=(hN 4 x:Int):=by
  rw [four_split x];exact xor_int _ (x / 16) (hN_lt 4 (by omega)) (by omega)
 go_enter Tryz.func171,Tryz.ntmps171
 go_wp2_with fail
 refine (do_any B _ (uH HT)).mono ?_
 rintro e w2 ⟨rfl,hs2,hb2⟩
 have HS:=hide hs2
 have HB:=hide hb2
 have hc:w2.cell? ⟨B,3+x % 16,none⟩=some (.int .u32 (hN 4 (x % 16):Int)):=by rw [hs2.cell,tab_at _ _ _ _ (by omega),if_pos (by omega)]
 clear hs2 hb2
 go_wp2
 go_ret
 exact ⟨rfl,.inr (uH HS),uH HB⟩
theorem sumOf_any (B:Nat) (s:ByteArray) (w:World) (hs:s.size≤1048576) (h:Tabled w B) :
  Calls Tryz.prog 140 #[.pointer (some ⟨B,0,none⟩),.string s] w fun e w'=>e=.returned (.int .u32 (crc s.data.toList:Int))∧Tabled w' B∧Below B w w':=by
 have H0:=hide h
 clear h
 go_enter Tryz.func140,Tryz.ntmps140
 go_wp2
 go_loopw [5,6,9] (fun x _ i wr=>∃k:Nat,k≤s.size∧i=.int .i64 k∧x=.int .u32 (ck s k:Int)∧Tabled wr B∧Below B w wr) (fun _ _ i _=>s.size - (intOf i).toNat)
 case atStart=>
  exact ⟨0,Nat.zero_le _,rfl,by rw [ck_zero];rfl,uH H0,yH _ _⟩
 case round=>
  obtain ⟨k,hk,rfl,rfl,ht,hb0⟩:=hrel
  have hlt32:=ck_lt s k
  by_cases hlt:k<s.size
  ·have hb:(s[k].toNat:Int)≤255:=byte_le _
   have hx:bits .xor .u32 (ck s k:Int) (s[k].toNat:Int)=((ck s k ^^^ s[k].toNat:Nat):Int):=xor_int _ _ hlt32 (byte_lt32 _)
   have hX:ck s k ^^^ s[k].toNat<4294967296:=xor_lt32 hlt32 (byte_lt32 _)
   have hck:Hid (ck s (k+1)=hN 4 (hN 4 (ck s k ^^^ s[k].toNat))):=hide (by rw [ck_succ s k hlt,←hN_add])
   have hX4:=hN_lt 4 hX
   have HT:=hide ht
   have HB:=hide hb0
   clear ht hb0
   go_wp2_with fail
   refine (shiftFour_any B _ _ hX (uH HT)).mono ?_
   rintro e w1 ⟨rfl,ht1,hb1⟩
   have HT1:=hide ht1
   have HB1:=hide (Below.trans (uH HB) hb1)
   clear ht1 hb1
   go_wp2_with fail
   refine (shiftFour_any B _ _ hX4 (uH HT1)).mono ?_
   rintro e w2 ⟨rfl,ht2,hb2⟩
   have HT2:=hide ht2
   have HB2:=hide (Below.trans (uH HB1) hb2)
   clear ht2 hb2
   go_wp2
   go_roundw
   case rel=>exact ⟨k+1,by omega,by go_num,by rw [uH hck],uH HT2,uH HB2⟩
   case measure=>simp [intOf];omega
  ·have hx:bits .xor .u32 (ck s k:Int) 4294967295=((crc s.data.toList:Nat):Int):=by
    rw [crc,←ck_all s k (by omega)];exact xor_int _ 4294967295 hlt32 (by decide)
   have HB:=hide hb0
   have HT:=hide ht
   clear ht hb0
   go_wp2
   go_ret
   exact ⟨rfl,uH HT,uH HB⟩
theorem implCheckSum_any (s:ByteArray) (w:World) (hs:s.size≤1048576) :
  Calls Tryz.prog 144 #[.string s] w fun e w'=>e=.returned (.int .u32 (crc s.data.toList:Int))∧Below w.heap.size w w':=by
 have CS:=hide (fun wx (h:Tabled wx w.heap.size)=>sumOf_any w.heap.size s wx hs h)
 go_enter Tryz.func144,Tryz.ntmps144
 go_wp2_with fail
 refine (uH CS _ (.inl ?_)).mono ?_
 ·show (w.heap.push _)[w.heap.size]? = _
  rw [Array.getElem?_push_size]
  rfl
 rintro e w1 ⟨rfl,_,hb⟩
 have HB:=hide (Below.trans ((yH _ _).alloc (yJ _) _) hb)
 clear hb
 go_wp2
 go_ret
 exact ⟨rfl,uH HB⟩
def word (x:Nat):List UInt8:=[UInt8.ofNat (x / 16777216),UInt8.ofNat (x / 65536 % 256),UInt8.ofNat (x / 256 % 256),UInt8.ofNat (x % 256)]
theorem word_conv (x:Nat) (hx:x<4294967296) (wx:World) (g:Nat) (hb:Blk wx g #[.int .u8 ((x:Int) / 16777216),.int .u8 ((x:Int) / 65536 % 256),.int .u8 ((x:Int) / 256 % 256),.int .u8 ((x:Int) % 256)] 5):(convert 131 9 (.slice (some ⟨g,0,none⟩) 4 4)).run Tryz.prog wx=.ok (.string (bs (word x))) wx:=by
 have:=run_convert_bytes_back wx 131 9 5 ⟨g,0,none⟩ 4 (word x) Tryz.underlying131 Tryz.underlying5 Tryz.underlying9 (fun j hj=>by
  have h:=hb.at j
  have hj4:j<4:=hj
  rw [Lib.add_plain,Nat.zero_add,h]
  have e1:=byteOf (x / 16777216) (by omega)
  have e2:=byteOf (x / 65536 % 256) (by omega)
  have e3:=byteOf (x / 256 % 256) (by omega)
  have e4:=byteOf (x % 256) (by omega)
  match j,hj4 with
  | 0,_=>simp only [word,List.getElem_cons_zero,e1];rfl
  | 1,_=>simp only [word,List.getElem_cons_zero,List.getElem_cons_succ,e2];rfl
  | 2,_=>simp only [word,List.getElem_cons_zero,List.getElem_cons_succ,e3];rfl
  | 3,_=>simp only [word,List.getElem_cons_zero,List.getElem_cons_succ,e4];rfl)
 exact this
theorem l08Word_any (x:Nat) (w:World) (hx:x<4294967296) :
  Calls Tryz.prog 34 #[.int .u32 (x:Int)] w fun e w'=>e=.returned (.string (bs (word x)))∧Below w.heap.size w w':=by
 have HC:=word_conv x hx _ _ (yD w #[.int .u8 ((x:Int) / 16777216),.int .u8 ((x:Int) / 65536 % 256),.int .u8 ((x:Int) / 256 % 256),.int .u8 ((x:Int) % 256)] 5)
 go_enter Tryz.func34,Tryz.ntmps34
 go_wp2
 go_ret
 exact ⟨rfl,yA (yH _ _) _⟩
theorem sumText_any (s:ByteArray) (w:World) (hs:s.size≤1048576) :
  Calls Tryz.prog 101 #[.string s] w fun e w'=>e=.returned (.string (bs (word (crc s.data.toList))))∧Below w.heap.size w w':=by
 have CC:=hide (fun wx=>implCheckSum_any s wx hs)
 have hx:crc s.data.toList<4294967296:=xor_lt32 (crcTo_lt _) (by decide)
 obtain ⟨x,ex⟩:∃x,crc s.data.toList=x:=⟨_,rfl⟩
 rw [ex] at CC hx ⊢
 clear ex
 go_enter Tryz.func101,Tryz.ntmps101
 go_wp2_with fail
 refine (uH CC _).mono ?_
 rintro e w1 ⟨rfl,hb⟩
 have HB:=hide hb
 clear hb
 have HC:=word_conv x hx _ _ (yD w1 #[.int .u8 ((x:Int) / 16777216),.int .u8 ((x:Int) / 65536 % 256),.int .u8 ((x:Int) / 256 % 256),.int .u8 ((x:Int) % 256)] 5)
 go_wp2
 go_ret
 exact ⟨rfl,yA (uH HB) _⟩
def entry (r:Rc):List UInt8:=word (crc (putRec r))++putText (putRec r)
def wrote (l:List UInt8) (r:Rc):List UInt8×Bool:=
 if putRec r=[]∨60000<l.length+(entry r).length then (l,false) else (l++entry r,true)
theorem entry_le (r:Rc):(entry r).length≤2009:=by
 have:=putText_le (putRec r)
 simp [entry,word];omega
theorem bs_app (a b:List UInt8):bs a++bs b=bs (a++b):=by
 apply ByteArray.ext
 simp [bs,ByteArray.data_append]
theorem specWrite_any (l:List UInt8) (r:Rc) (w:World) (hl:l.length≤1048576) (hq:r.queue.length≤1048576) :
  Calls Tryz.prog 14 #[.string (bs l),rcv r] w fun e w'=>e=.returned (.tuple #[.string (bs (wrote l r).1),.bool (wrote l r).2])∧Below w.heap.size w w':=by
 have hx:crc (putRec r)<4294967296:=xor_lt32 (crcTo_lt _) (by decide)
 have hpl:=putRec_le r
 have CP:=hide (fun wx=>specPutRec_any r wx hq)
 have CC:=hide (fun wx=>specCheckSum_any (bs (putRec r)) wx (by rw [bs_size];omega))
 have CW:=hide (fun wx=>l08Word_any (crc (putRec r)) wx hx)
 have CT:=hide (fun wx=>specPutText_any (bs (putRec r)) wx (by rw [bs_size];omega))
 have K0:=hide (yD w #[.int .i64 r.kind,.int .i64 r.app,.string (bs r.queue)] 54)
 have HB0:=hide (yA (yH _ w) (.cells #[.int .i64 r.kind,.int .i64 r.app,.string (bs r.queue)] 54))
 have HE:=hide (show bs (word (crc (putRec r)))++bs (putText (putRec r))=bs (entry r) from bs_app _ _)
 have hel:=entry_le r
 have hem:=bs_empty (putRec r)
 have hzl:=bs_size l
 have hze:=bs_size (entry r)
 rw [show crc (bs (putRec r)).data.toList=crc (putRec r) from rfl] at CC
 rw [show bs (putText (bs (putRec r)).data.toList)=bs (putText (putRec r)) from rfl] at CT
 have HW:wrote l r=if putRec r=[]∨60000<l.length+(entry r).length then (l,false) else (l++entry r,true):=rfl
 have hss:(bs (word (crc (putRec r)))).size=4:=by rw [bs_size];rfl
 have hst:(bs (putText (putRec r))).size≤2005:=by rw [bs_size];exact putText_le _
 have HA:=hide (bs_app l (entry r))
 obtain ⟨y,hy⟩:∃y,entry r=y:=⟨_,rfl⟩
 rw [hy] at HE hel hze HW HA
 obtain ⟨p,hp⟩:∃p,putRec r=p:=⟨_,rfl⟩
 rw [hp] at CP CC CW CT HE hem HW hss hst hx
 obtain ⟨c,hc⟩:∃c,crc p=c:=⟨_,rfl⟩
 rw [hc] at CC CW HE hss hx
 obtain ⟨s1,hs1⟩:∃s,bs (word c)=s:=⟨_,rfl⟩
 obtain ⟨s2,hs2⟩:∃s,bs (putText p)=s:=⟨_,rfl⟩
 obtain ⟨s3,hs3⟩:∃s,bs y=s:=⟨_,rfl⟩
 obtain ⟨sl,hsl⟩:∃s,bs l=s:=⟨_,rfl⟩
 rw [hs1] at CW HE hss
 rw [hs2] at CT HE hst
 rw [hs3] at HE hze HA
 rw [hsl] at hzl HA
 have HN:=hide hsl
 rw [hsl]
 obtain ⟨⟨o1,o2⟩,ho⟩:∃o,wrote l r=o:=⟨_,rfl⟩
 rw [ho] at HW ⊢
 have n0:¬9223372036854775807<s1.size+s2.size:=by omega
 have n1:¬9223372036854775807<4+s2.size:=by omega
 have n2:¬9223372036854775807<sl.size+s3.size:=by omega
 clear ho hy hp hc hs1 hs2 hs3 hsl hpl
 obtain ⟨k,a,q⟩:=r
 simp only at K0 HB0 CP
 go_enter Tryz.func14,Tryz.ntmps14
 go_wp2_with fail
 refine (uH CP _).mono ?_
 rintro e w1 ⟨rfl,hb⟩
 have HB1:=hide (yB (uH HB0) hb)
 clear hb CP HB0 K0
 go_wp2_with fail
 refine (uH CC _).mono ?_
 rintro e w2 ⟨rfl,rfl⟩
 go_wp2_with fail
 refine (uH CW _).mono ?_
 rintro e w2 ⟨rfl,hb⟩
 have HB2:=hide (yB (uH HB1) hb)
 clear hb CW CC HB1
 go_wp2_with fail
 refine (uH CT _).mono ?_
 rintro e w3 ⟨rfl,hb⟩
 have HB3:=hide (yB (uH HB2) hb)
 clear hb CT HB2
 have HE':=uH HE
 by_cases h1:p=[]
 ·rw [decide_eq_true h1] at hem
  rw [if_pos (.inl h1)] at HW
  cases HW
  clear h1
  go_wp2
  go_ret2
  refine ⟨?_,uH HB3⟩
  rw [uH HN];rfl
 ·rw [decide_eq_false h1] at hem
  by_cases h2:60000<l.length+y.length
  ·rw [if_pos (.inr h2)] at HW
   cases HW
   clear h1
   have t1:(60000:Int) - (s3.size:Int)<(sl.size:Int):=by omega
   go_wp2
   go_ret2
   refine ⟨?_,uH HB3⟩
   rw [uH HN];rfl
  ·rw [if_neg (by rintro (h | h);exact h1 h;exact h2 h)] at HW
   cases HW
   clear h1
   have t1:¬(60000:Int) - (s3.size:Int)<(sl.size:Int):=by omega
   go_wp2
   go_ret2
   refine ⟨?_,uH HB3⟩
   (try rw [uH HA]);rfl
theorem implWrite_any (l:List UInt8) (r:Rc) (w:World) (hl:l.length≤1048576) (hq:r.queue.length≤1048576) :
  Calls Tryz.prog 52 #[.string (bs l),rcv r] w fun e w'=>e=.returned (.tuple #[.string (bs (wrote l r).1),.bool (wrote l r).2])∧Below w.heap.size w w':=by
 have hx:crc (putRec r)<4294967296:=xor_lt32 (crcTo_lt _) (by decide)
 have hpl:=putRec_le r
 have CP:=hide (fun wx=>implPutRec_any r wx hq)
 have CW:=hide (fun wx=>sumText_any (bs (putRec r)) wx (by rw [bs_size];omega))
 have CL:=hide (fun wx=>clone_any (bs l) wx (by rw [bs_size];omega))
 have CT:=hide (fun wx=>implPutText_any (bs (putRec r)) wx (by rw [bs_size];omega))
 have K0:=hide (yD w #[.int .i64 r.kind,.int .i64 r.app,.string (bs r.queue)] 54)
 have HB0:=hide (yA (yH _ w) (.cells #[.int .i64 r.kind,.int .i64 r.app,.string (bs r.queue)] 54))
 have HE:=hide (show bs (word (crc (putRec r)))++bs (putText (putRec r))=bs (entry r) from bs_app _ _)
 have hel:=entry_le r
 have hem:=bs_empty (putRec r)
 have hzl:=bs_size l
 have hze:=bs_size (entry r)
 rw [show bs (word (crc (bs (putRec r)).data.toList))=bs (word (crc (putRec r))) from rfl] at CW
 rw [show bs (putText (bs (putRec r)).data.toList)=bs (putText (putRec r)) from rfl] at CT
 have HW:wrote l r=if putRec r=[]∨60000<l.length+(entry r).length then (l,false) else (l++entry r,true):=rfl
 have hss:(bs (word (crc (putRec r)))).size=4:=by rw [bs_size];rfl
 have hst:(bs (putText (putRec r))).size≤2005:=by rw [bs_size];exact putText_le _
 have HA:=hide (bs_app l (entry r))
 obtain ⟨y,hy⟩:∃y,entry r=y:=⟨_,rfl⟩
 rw [hy] at HE hel hze HW HA
 obtain ⟨p,hp⟩:∃p,putRec r=p:=⟨_,rfl⟩
 rw [hp] at CP CW CT HE hem HW hss hst hx
 obtain ⟨c,hc⟩:∃c,crc p=c:=⟨_,rfl⟩
 rw [hc] at CW HE hss hx
 obtain ⟨s1,hs1⟩:∃s,bs (word c)=s:=⟨_,rfl⟩
 obtain ⟨s2,hs2⟩:∃s,bs (putText p)=s:=⟨_,rfl⟩
 obtain ⟨s3,hs3⟩:∃s,bs y=s:=⟨_,rfl⟩
 obtain ⟨sl,hsl⟩:∃s,bs l=s:=⟨_,rfl⟩
 rw [hs1] at CW HE hss
 rw [hs2] at CT HE hst
 rw [hs3] at HE hze HA
 rw [hsl] at hzl HA CL
 have HN:=hide hsl
 rw [hsl]
 obtain ⟨⟨o1,o2⟩,ho⟩:∃o,wrote l r=o:=⟨_,rfl⟩
 rw [ho] at HW ⊢
 have n0:¬9223372036854775807<s1.size+s2.size:=by omega
 have n1:¬9223372036854775807<4+s2.size:=by omega
 have n2:¬9223372036854775807<sl.size+s3.size:=by omega
 clear ho hy hp hc hs1 hs2 hs3 hsl hpl
 obtain ⟨k,a,q⟩:=r
 simp only at K0 HB0 CP
 go_enter Tryz.func52,Tryz.ntmps52
 go_wp2_with fail
 refine (uH CP _).mono ?_
 rintro e w1 ⟨rfl,hb⟩
 have HB1:=hide (yB (uH HB0) hb)
 clear hb CP HB0 K0
 go_wp2_with fail
 refine (uH CW _).mono ?_
 rintro e w2 ⟨rfl,hb⟩
 have HB2:=hide (yB (uH HB1) hb)
 clear hb CW HB1
 go_wp2_with fail
 refine (uH CT _).mono ?_
 rintro e w3 ⟨rfl,hb⟩
 have HB3:=hide (yB (uH HB2) hb)
 clear hb CT HB2
 have HE':=uH HE
 by_cases h1:p=[]
 ·rw [decide_eq_true h1] at hem
  rw [if_pos (.inl h1)] at HW
  cases HW
  clear h1
  go_wp2_with fail
  refine (uH CL _).mono ?_
  rintro e w4 ⟨rfl,hb⟩
  have HB4:=hide (yB (uH HB3) hb)
  clear hb
  go_wp2
  go_ret2
  refine ⟨?_,uH HB4⟩
  rw [uH HN];rfl
 ·rw [decide_eq_false h1] at hem
  by_cases h2:60000<l.length+y.length
  ·rw [if_pos (.inr h2)] at HW
   cases HW
   clear h1
   have t1:(60000:Int)<(sl.size:Int)+(s3.size:Int):=by omega
   go_wp2_with fail
   refine (uH CL _).mono ?_
   rintro e w4 ⟨rfl,hb⟩
   have HB4:=hide (yB (uH HB3) hb)
   clear hb
   go_wp2
   go_ret2
   refine ⟨?_,uH HB4⟩
   rw [uH HN];rfl
  ·rw [if_neg (by rintro (h | h);exact h1 h;exact h2 h)] at HW
   cases HW
   clear h1
   have t1:¬(60000:Int)<(sl.size:Int)+(s3.size:Int):=by omega
   go_wp2
   go_ret2
   refine ⟨?_,uH HB3⟩
   (try rw [uH HA]);rfl
theorem pw_two (j:Nat):(2:Int) ^ (7*j)=(pw j:Int):=by
 have:(2:Nat) ^ (7*j)=pw j:=by rw [pw,Nat.pow_mul]
 rw [←this];simp
theorem next_bits (D B j:Nat) (hB:B≤255) (hj:j<5) (hD:D<pw j) :
  bits .or .u64 (D:Int) (IntKind.u64.wrap (IntKind.u64.wrap (bits .and .u8 (B:Int) 127)*2 ^ (7*j)))=((D+B % 128*pw j:Nat):Int):=by
 have e1:bits .and .u8 (B:Int) 127=(B:Int) % 128:=bits_mask .u8 8 (by decide) wraps_u8 7 (by decide) B (by omega) (by omega)
 have hp:=pw_le4 hj
 have hm:B % 128*pw j≤127*268435456:=Nat.mul_le_mul (by omega) hp
 have e2:IntKind.u64.wrap ((B:Int) % 128)=((B % 128:Nat):Int):=by rw [IntKind.wrap_u64];omega
 rw [e1,e2,pw_two]
 have e3:IntKind.u64.wrap (((B % 128:Nat):Int)*(pw j:Int))=((B % 128*pw j:Nat):Int):=by
  rw [IntKind.wrap_u64]
  have:((B % 128:Nat):Int)*(pw j:Int)=((B % 128*pw j:Nat):Int):=by simp
  rw [this];omega
 rw [e3,u64_or_nat _ _ (by omega) (by omega)]
 have h2:pw j=2 ^ (7*j):=by rw [pw,Nat.pow_mul]
 rw [Nat.or_comm,Nat.mul_comm,h2,←Nat.two_pow_add_eq_or_of_lt (by rw [←h2];exact hD)]
 rw [Nat.add_comm]
theorem dk_lt {s:ByteArray} {I j:Nat} (h:I+j≤s.size∨j=0):dk s I j<pw j:=by
 have h1:=dv_lt (pre s.data.toList I j)
 have h2:(pre s.data.toList I j).length=j:=by
  rcases h with h | rfl
  ·exact pre_len (by rw [len_eq];exact h)
  ·rw [pre_zero];rfl
 rw [h2] at h1
 exact h1
theorem implGetNum_pos (s:ByteArray) (I:Nat) (w:World) (hs:s.size≤1048576) (hI:(I:Int)≤9223372036854775807) :
  Calls Tryz.prog 180 #[.string s,.int .i64 (I:Int)] w fun e w'=>e=.returned (.tuple #[.int .i64 (getNum s.data.toList (I:Int)).1,.int .i64 (getNum s.data.toList (I:Int)).2])∧Below w.heap.size w w':=by
 go_enter Tryz.func180,Tryz.ntmps180
 go_wp2
 go_loop [6,7,8,9] (fun n a h _=>∃j:Nat,j≤5∧(I+j≤s.size∨j=0)∧n=.int .u64 (dk s I j:Int)∧a=.int .i64 ((I:Int)+(j:Int))∧h=.int .i64 (7*(j:Int))∧(pre s.data.toList I j).all hi=true) (fun _ a _ _=>I+5 - (intOf a).toNat)
 case atStart=>exact ⟨0,by omega,.inr rfl,by rw [dk_zero];rfl,by go_num,by go_num,by rw [pre_zero];rfl⟩
 case round=>
  obtain ⟨j,hj,hle,rfl,rfl,rfl,hall⟩:=hrel
  have hd:=dk_le (s:=s) hj hle
  have HA:=hide hall
  have HL:=hide hle
  clear hall hle
  by_cases hlt:I+j<s.size∧j<5
  ·obtain ⟨hlt,hj5⟩:=hlt
   have hb:(s[I+j].toNat:Int)≤255:=byte_le _
   have hE:bits .or .u64 (dk s I j:Int) (IntKind.u64.wrap (IntKind.u64.wrap (bits .and .u8 (s[I+j].toNat:Int) 127)*2 ^ (7*j)))=(dk s I (j+1):Int):=by
    rw [next_bits _ _ _ (by omega) hj5 (dk_lt (uH HL)),dk_succ hlt]
   have hd1:=dk_le (s:=s) (I:=I) (j:=j+1) (by omega) (.inl (by omega))
   by_cases h128:128≤(s[I+j].toNat:Int)
   ·go_wp2
    go_round
    case rel=>exact ⟨j+1,by omega,.inl (by omega),rfl,by go_num,by go_num,hi_snoc hlt (uH HA) (by omega)⟩
    case measure=>simp [intOf];omega
   ·have hlo:s[I+j].toNat<128:=by omega
    have hst:=getNum_stop (l:=s.data.toList) (I:=I) (j:=j) hj5 (uH HA) (by rw [len_eq];exact hlt) hlo
    have hok:=putNum_dv (uH HA) hlo
    rw [←pre_snoc' hlt] at hok
    have HS:=hide hst
    have HO:=hide hok
    clear hst hok
    by_cases h4:4000000000<(dk s I (j+1):Int)
    ·have hf:Hid (getNum s.data.toList (I:Int)=(0,-1)):=hide (by rw [uH HS];exact if_neg (fun h=>by have:=((uH HO).1 h).1;unfold dk at h4;omega))
     go_wp2
     go_ret2
     exact ⟨ret_two (by rw [uH hf]) (by rw [uH hf]),yH _ _⟩
    ·by_cases h0:s[I+j].toNat=0
     ·have hq:((s[I+j].toNat:Int)==0)=true:=by simp;omega
      by_cases hj0:j=0
      ·have hf:Hid (getNum s.data.toList (I:Int)=((dk s I (j+1):Int),(I:Int)+j+1)):=hide (by rw [uH HS];exact if_pos ((uH HO).2 ⟨by unfold dk at h4;omega,fun h=>h.2 (by rw [hj0,pre_zero])⟩))
       have hj1:¬0<7*(j:Int):=by omega
       clear h0 hj0
       go_wp2
       go_ret2
       exact ⟨ret_two (by rw [uH hf]) (by rw [uH hf]),yH _ _⟩
      ·have hf:Hid (getNum s.data.toList (I:Int)=(0,-1)):=hide (by rw [uH HS];exact if_neg (fun h=>((uH HO).1 h).2 ⟨h0,fun e=>by have h1:=pre_len (l:=s.data.toList) (I:=I) (j:=j) (by rw [len_eq];omega);rw [e] at h1;simp at h1;omega⟩))
       have hj1:0<7*(j:Int):=by omega
       clear h0
       go_wp2
       go_ret2
       exact ⟨ret_two (by rw [uH hf]) (by rw [uH hf]),yH _ _⟩
     ·have hf:Hid (getNum s.data.toList (I:Int)=((dk s I (j+1):Int),(I:Int)+j+1)):=hide (by rw [uH HS];exact if_pos ((uH HO).2 ⟨by unfold dk at h4;omega,fun h=>h0 h.1⟩))
      have hq:((s[I+j].toNat:Int)==0)=false:=by simp;omega
      clear h0
      go_wp2
      go_ret2
      exact ⟨ret_two (by rw [uH hf]) (by rw [uH hf]),yH _ _⟩
  ·have hf:Hid (getNum s.data.toList (I:Int)=(0,-1)):=hide (getNum_end hj (uH HA) (by rw [len_eq];exact uH HL) (by rw [len_eq];omega))
   clear hd
   by_cases h5:j<5
   ·go_wp2
    go_ret2
    exact ⟨ret_two (by rw [uH hf]) (by rw [uH hf]),yH _ _⟩
   ·go_wp2
    go_ret2
    exact ⟨ret_two (by rw [uH hf]) (by rw [uH hf]),yH _ _⟩
theorem implGetNum_neg (s:ByteArray) (i:Int) (w:World) (hs:s.size≤1048576) (h:i<0) :
  Calls Tryz.prog 180 #[.string s,.int .i64 i] w fun e w'=>e=.returned (.tuple #[.int .i64 (getNum s.data.toList i).1,.int .i64 (getNum s.data.toList i).2])∧Below w.heap.size w w':=by
 rw [getNum_neg h]
 go_enter Tryz.func180,Tryz.ntmps180
 go_wp2
 go_ret2
 exact ⟨rfl,yH _ _⟩
theorem implGetNum_any (s:ByteArray) (i:Int) (w:World) (hs:s.size≤1048576) (h0 : -9223372036854775808≤i) (h1:i≤9223372036854775807) :
  Calls Tryz.prog 180 #[.string s,.int .i64 i] w fun e w'=>e=.returned (.tuple #[.int .i64 (getNum s.data.toList i).1,.int .i64 (getNum s.data.toList i).2])∧Below w.heap.size w w':=by
 by_cases h:i<0
 ·exact implGetNum_neg s i w hs h
 ·obtain ⟨I,rfl⟩:=Int.eq_ofNat_of_zero_le (a:=i) (by omega)
  exact implGetNum_pos s I w hs h1
theorem specGetNum_any (s:ByteArray) (i:Int) (w:World) (hs:s.size≤1048576) (h0 : -9223372036854775808≤i) (h1:i≤9223372036854775807) :
  Calls Tryz.prog 74 #[.string s,.int .i64 i] w fun e w'=>e=.returned (.tuple #[.int .i64 (getNum s.data.toList i).1,.int .i64 (getNum s.data.toList i).2])∧Below w.heap.size w w':=by
 by_cases h:i<0
 ·exact specGetNum_neg s i w hs h h0
 ·obtain ⟨I,rfl⟩:=Int.eq_ofNat_of_zero_le (a:=i) (by omega)
  exact specGetNum_pos s I w hs h1
theorem getNum_le (s:ByteArray) (i:Int) (h:0≤(getNum s.data.toList i).2):0≤(getNum s.data.toList i).1∧(getNum s.data.toList i).1≤4000000000∧(getNum s.data.toList i).2≤s.size:=by
 unfold getNum at *
 by_cases hi:i<0
 ·rw [if_pos hi] at h;simp at h
 ·rw [if_neg hi] at *
  cases hs:stop 5 (s.data.toList.drop i.toNat) with
  | none=>rw [hs] at h;simp at h
  | some j=>
   rw [hs] at h
   simp only at *
   by_cases hp:putNum (dv ((s.data.toList.drop i.toNat).take (j+1)))=(s.data.toList.drop i.toNat).take (j+1)
   ·rw [if_pos hp] at *
    have hlt:=stop_lt _ _ _ hs
    rw [List.length_drop,len_eq] at hlt
    refine ⟨by simp,?_,by simp;omega⟩
    simp only
    unfold putNum at hp
    by_cases h4:(0:Int)≤(dv ((s.data.toList.drop i.toNat).take (j+1)):Int)∧(dv ((s.data.toList.drop i.toNat).take (j+1)):Int)≤4000000000
    ·exact h4.2
    ·rw [if_neg h4] at hp
     have:=congrArg List.length hp
     simp only [List.length_nil,List.length_take,List.length_drop,len_eq] at this
     omega
   ·rw [if_neg hp] at h;simp at h
def getText (l:List UInt8) (i:Int):List UInt8×Int:=
 let g:=getNum l i
 if g.2<0∨2000<g.1∨l.length - g.2<g.1 then ([],-1) else ((l.drop g.2.toNat).take g.1.toNat,g.2+g.1)
theorem getText_of {s:ByteArray} {i a b:Int} (h:getNum s.data.toList i=(a,b)) :
  getText s.data.toList i=if b<0∨2000<a∨(s.size:Int) - b<a then ([],-1) else ((s.data.toList.drop b.toNat).take a.toNat,b+a):=by
 unfold getText;rw [h];simp only [len_eq]
theorem ret_st {a b:ByteArray} {c d:Int} (h1:a=b) (h2:c=d):Ending.returned (.tuple #[.string a,.int .i64 c])=.returned (.tuple #[.string b,.int .i64 d]):=by rw [h1,h2]
theorem specGetText_any (s:ByteArray) (i:Int) (w:World) (hs:s.size≤1048576) (h0 : -9223372036854775808≤i) (h1:i≤9223372036854775807) :
  Calls Tryz.prog 32 #[.string s,.int .i64 i] w fun e w'=>e=.returned (.tuple #[.string (bs (getText s.data.toList i).1),.int .i64 (getText s.data.toList i).2])∧Below w.heap.size w w':=by
 have hle:=getNum_le s i
 have hcall:=specGetNum_any s i w hs h0 h1
 obtain ⟨a,b,hg⟩:∃a b,getNum s.data.toList i=(a,b):=⟨_,_,rfl⟩
 have hgt:=getText_of hg
 rw [hg] at hle hcall
 simp only at hle hcall
 have HG:=hide hgt
 have HC:=hide hcall
 clear hgt hcall hg
 by_cases hb:b<0
 ·have hf:Hid (getText s.data.toList i=([],-1)):=hide (by rw [uH HG];exact if_pos (.inl hb))
  clear hle
  go_enter Tryz.func32,Tryz.ntmps32
  go_wp2_with fail
  refine (uH HC).mono ?_
  rintro e w1 ⟨rfl,hb1⟩
  have HB:=hide hb1
  clear hb1
  go_wp2
  go_ret2
  exact ⟨ret_st (by rw [uH hf];rfl) (by rw [uH hf]),uH HB⟩
 obtain ⟨ha0,ha4,hbs⟩:=hle (by omega)
 clear hle
 have hb0:0≤b:=by omega
 by_cases ha:2000<a
 ·have hf:Hid (getText s.data.toList i=([],-1)):=hide (by rw [uH HG];exact if_pos (.inr (.inl ha)))
  go_enter Tryz.func32,Tryz.ntmps32
  go_wp2_with fail
  refine (uH HC).mono ?_
  rintro e w1 ⟨rfl,hb1⟩
  have HB:=hide hb1
  clear hb1
  go_wp2
  go_ret2
  exact ⟨ret_st (by rw [uH hf];rfl) (by rw [uH hf]),uH HB⟩
 by_cases hl:(s.size:Int) - b<a
 ·have hf:Hid (getText s.data.toList i=([],-1)):=hide (by rw [uH HG];exact if_pos (.inr (.inr hl)))
  go_enter Tryz.func32,Tryz.ntmps32
  go_wp2_with fail
  refine (uH HC).mono ?_
  rintro e w1 ⟨rfl,hb1⟩
  have HB:=hide hb1
  clear hb1
  go_wp2
  go_ret2
  exact ⟨ret_st (by rw [uH hf];rfl) (by rw [uH hf]),uH HB⟩
 ·have hf:Hid (getText s.data.toList i=((s.data.toList.drop b.toNat).take a.toNat,b+a)):=hide (by rw [uH HG];exact if_neg (by omega))
  obtain ⟨B,rfl⟩:=Int.eq_ofNat_of_zero_le hb0
  obtain ⟨A,rfl⟩:=Int.eq_ofNat_of_zero_le ha0
  have hx:Hid (s.extract B (B+A)=bs ((s.data.toList.drop B).take A)):=hide (extract_pre s B A)
  have hsz:(s.extract B (B+A)).size≤281474976710656:=by rw [uH hx,bs_size,List.length_take];omega
  go_enter Tryz.func32,Tryz.ntmps32
  go_wp2_with fail
  refine (uH HC).mono ?_
  rintro e w1 ⟨rfl,hb1⟩
  have HB:=hide hb1
  clear hb1
  go_wp2
  go_ret2
  exact ⟨ret_st (by rw [uH hf];exact uH hx) (by rw [uH hf]),uH HB⟩
theorem implGetText_any (s:ByteArray) (i:Int) (w:World) (hs:s.size≤1048576) (h0 : -9223372036854775808≤i) (h1:i≤9223372036854775807) :
  Calls Tryz.prog 167 #[.string s,.int .i64 i] w fun e w'=>e=.returned (.tuple #[.string (bs (getText s.data.toList i).1),.int .i64 (getText s.data.toList i).2])∧Below w.heap.size w w':=by
 have hle:=getNum_le s i
 have hcall:=implGetNum_any s i w hs h0 h1
 obtain ⟨a,b,hg⟩:∃a b,getNum s.data.toList i=(a,b):=⟨_,_,rfl⟩
 have hgt:=getText_of hg
 rw [hg] at hle hcall
 simp only at hle hcall
 have HG:=hide hgt
 have HC:=hide hcall
 clear hgt hcall hg
 by_cases hb:b<0
 ·have hf:Hid (getText s.data.toList i=([],-1)):=hide (by rw [uH HG];exact if_pos (.inl hb))
  clear hle
  go_enter Tryz.func167,Tryz.ntmps167
  go_wp2_with fail
  refine (uH HC).mono ?_
  rintro e w1 ⟨rfl,hb1⟩
  have HB:=hide hb1
  clear hb1
  go_wp2
  go_ret2
  exact ⟨ret_st (by rw [uH hf];rfl) (by rw [uH hf]),uH HB⟩
 obtain ⟨ha0,ha4,hbs⟩:=hle (by omega)
 clear hle
 have hb0:0≤b:=by omega
 by_cases ha:2000<a
 ·have hf:Hid (getText s.data.toList i=([],-1)):=hide (by rw [uH HG];exact if_pos (.inr (.inl ha)))
  go_enter Tryz.func167,Tryz.ntmps167
  go_wp2_with fail
  refine (uH HC).mono ?_
  rintro e w1 ⟨rfl,hb1⟩
  have HB:=hide hb1
  clear hb1
  go_wp2
  go_ret2
  exact ⟨ret_st (by rw [uH hf];rfl) (by rw [uH hf]),uH HB⟩
 by_cases hl:(s.size:Int) - b<a
 ·have hf:Hid (getText s.data.toList i=([],-1)):=hide (by rw [uH HG];exact if_pos (.inr (.inr hl)))
  go_enter Tryz.func167,Tryz.ntmps167
  go_wp2_with fail
  refine (uH HC).mono ?_
  rintro e w1 ⟨rfl,hb1⟩
  have HB:=hide hb1
  clear hb1
  go_wp2
  go_ret2
  exact ⟨ret_st (by rw [uH hf];rfl) (by rw [uH hf]),uH HB⟩
 ·have hf:Hid (getText s.data.toList i=((s.data.toList.drop b.toNat).take a.toNat,b+a)):=hide (by rw [uH HG];exact if_neg (by omega))
  obtain ⟨B,rfl⟩:=Int.eq_ofNat_of_zero_le hb0
  obtain ⟨A,rfl⟩:=Int.eq_ofNat_of_zero_le ha0
  have hx:Hid (s.extract B (B+A)=bs ((s.data.toList.drop B).take A)):=hide (extract_pre s B A)
  have hsz:(s.extract B (B+A)).size≤281474976710656:=by rw [uH hx,bs_size,List.length_take];omega
  go_enter Tryz.func167,Tryz.ntmps167
  go_wp2_with fail
  refine (uH HC).mono ?_
  rintro e w1 ⟨rfl,hb1⟩
  have HB:=hide hb1
  clear hb1
  go_wp2_with fail
  refine (clone_any _ _ hsz).mono ?_
  rintro e w2 ⟨rfl,hb2⟩
  have HB2:=hide (Below.trans (uH HB) (hb2.mono (uH HB).size))
  clear hb2
  go_wp2
  go_ret2
  exact ⟨ret_st (by rw [uH hf];exact uH hx) (by rw [uH hf]),uH HB2⟩
def tabLR (P:Value×Value×Value) (d m:Value) (k:Nat):List Value:=[P.1,P.2.1,P.2.2,d,m,.int .u32 0]++(List.range 16).map (fun i=>Value.int .u32 (if i<k then (hN 4 i:Int) else 0))
def tabR (P:Value×Value×Value) (d m:Value) (k:Nat):Array Value:=(tabLR P d m k).toArray
theorem tab_sizeR {P:Value×Value×Value} (d m:Value) (k:Nat):(tabR P d m k).size=22:=by simp [tabR,tabLR]
def HoldsR (w:World) (B:Nat) (C:Array Value):Prop:=w.heap[B]? = some (.cells C 172 (0,0))
theorem HoldsR.cell {w:World} {B:Nat} {C:Array Value} (h:HoldsR w B C) (j:Nat):w.cell? ⟨B,j,none⟩=C[j]?:=by
 unfold HoldsR at h;simp [World.cell?,h]
theorem HoldsR.frozen {w:World} {B:Nat} {C:Array Value} (h:HoldsR w B C) (j:Nat):w.frozen? ⟨B,j,none⟩=false:=by
 unfold HoldsR at h;simp [World.frozen?,h]
theorem HoldsR.set {w:World} {B:Nat} {C:Array Value} (h:HoldsR w B C) (j:Nat) (v:Value):HoldsR (w.setCell ⟨B,j,none⟩ v) B (C.setIfInBounds j v):=heap_setCell_same w B j C _ v h
theorem HoldsR.drew {w:World} {B:Nat} {C:Array Value} (h:HoldsR w B C):HoldsR w.drew B C:=h
theorem HoldsR.lt {w:World} {B:Nat} {C:Array Value} (h:HoldsR w B C):B<w.heap.size:=lt_of_block h
theorem tab_set0R {P:Value×Value×Value} (d d' m:Value) (k:Nat):(tabR P d m k).setIfInBounds 3 d'=tabR P d' m k:=by simp [tabR,tabLR]
theorem tab_set1R {P:Value×Value×Value} (d m m':Value) (k:Nat):(tabR P d m k).setIfInBounds 4 m'=tabR P d m' k:=by simp [tabR,tabLR]
theorem tab_at0R {P:Value×Value×Value} (d m:Value) (k:Nat):(tabR P d m k)[3]? = some d:=by simp [tabR,tabLR]
theorem tab_at1R {P:Value×Value×Value} (d m:Value) (k:Nat):(tabR P d m k)[4]? = some m:=by simp [tabR,tabLR]
theorem tab_atR {P:Value×Value×Value} (d m:Value) (k i:Nat) (h:i<16):(tabR P d m k)[6+i]? = some (.int .u32 (if i<k then (hN 4 i:Int) else 0)):=by
 simp only [tabR,tabLR,List.getElem?_toArray]
 rw [List.getElem?_append_right (by simp)]
 simp [h]
theorem tab_setR {P:Value×Value×Value} (d m:Value) (k:Nat) (h:k<16):(tabR P d m k).setIfInBounds (6+k) (.int .u32 (hN 4 k:Int))=tabR P d m (k+1):=by
 apply Array.ext_getElem?
 intro i
 rw [Array.getElem?_setIfInBounds]
 by_cases hi:6+k=i
 ·rw [if_pos hi,if_pos (by rw [tab_sizeR];omega),←hi,tab_atR _ _ _ _ h,if_pos (by omega)]
 ·rw [if_neg hi]
  by_cases h3:i<6
  ·match i,h3 with
   | 0,_=>simp [tabR,tabLR]
   | 1,_=>simp [tabR,tabLR]
   | 2,_=>simp [tabR,tabLR]
   | 3,_=>rw [tab_at0R,tab_at0R]
   | 4,_=>rw [tab_at1R,tab_at1R]
   | 5,_=>simp [tabR,tabLR]
  ·obtain ⟨n,rfl⟩:∃n,i=6+n:=⟨i - 6,by omega⟩
   by_cases hn:n<16
   ·rw [tab_atR _ _ _ _ hn,tab_atR _ _ _ _ hn]
    by_cases hk:n<k
    ·rw [if_pos hk,if_pos (by omega)]
    ·rw [if_neg hk,if_neg (by omega)]
   ·rw [Array.getElem?_eq_none (by rw [tab_sizeR];omega),Array.getElem?_eq_none (by rw [tab_sizeR];omega)]
theorem below_setR {B:Nat} {w wr:World} (h:w.grownBy wr (some B)) (j:Nat) (v:Value):w.grownBy (wr.setCell ⟨B,j,none⟩ v) (some B):=grownBy_set h j v
theorem fill_stepR {P:Value×Value×Value} {B k:Nat} {d m:Value} {w wr:World} (hk:k<16) (h:HoldsR wr B (tabR P d m k)) (hb:w.grownBy wr (some B)) :
  HoldsR ((wr.setCell ⟨B,6+k,none⟩ (.int .u32 (hN 4 k:Int))).drew) B (tabR P d m (k+1))∧w.grownBy ((wr.setCell ⟨B,6+k,none⟩ (.int .u32 (hN 4 k:Int))).drew) (some B):=by
 refine ⟨?_,grownBy_drewN (below_setR hb _ _) 1⟩
 have:=h.set (6+k) (.int .u32 (hN 4 k:Int))
 rw [tab_setR d m k hk] at this
 exact this.drew
theorem fill_anyR {P:Value×Value×Value} (B:Nat) (d m:Value) (w:World) (h:HoldsR w B (tabR P d m 0)) :
  Calls Tryz.prog 183 #[.pointer (some ⟨B,3,none⟩)] w fun e w'=>e=.returned (.tuple #[])∧HoldsR w' B (tabR P d m 16)∧w.grownBy w' (some B):=by
 go_enter Tryz.func183,Tryz.ntmps183
 go_wp2
 go_loopw [2,3] (fun _ i wr=>∃k:Nat,k≤16∧i=.int .i64 k∧HoldsR wr B (tabR P d m k)∧w.grownBy wr (some B)) (fun _ i _=>16 - (intOf i).toNat)
 case atStart=>exact ⟨0,Nat.zero_le _,rfl,h,grownBy_refl _ _⟩
 case round=>
  obtain ⟨k,hk,rfl,hh,hb⟩:=hrel
  have HH:=hide hh
  have HB:=hide hb
  by_cases hlt:k<16
  ·have hc:wr.cell? ⟨B,6+k,none⟩=some (.int .u32 0):=by rw [hh.cell,tab_atR _ _ _ _ hlt,if_neg (by omega)]
   have hf:wr.frozen? ⟨B,6+k,none⟩=false:=hh.frozen _
   have hlt2:(k:Int)<16:=by omega
   have hk32:k<4294967296:=by omega
   have hwr:IntKind.u32.wrap (k:Int)=(k:Int):=by rw [IntKind.wrap_u32];omega
   clear hh hb
   go_wp2_with fail
   go_region_with (go_at_call 200;refine (halveFour_any k _ hk32).mono ?_;rintro e w' ⟨rfl,rfl⟩)
   all_goals
    have R:=fill_stepR hlt (uH HH) (uH HB)
    go_wp2
    go_roundw
    case rel=>exact ⟨k+1,by omega,by go_num,R.1,R.2⟩
    case measure=>simp [intOf];omega
  ·have he:k=16:=by omega
   subst he
   clear hh hb
   go_wp2
   go_end0
   exact ⟨rfl,uH HH,uH HB⟩
abbrev fillFR (B:Nat):Value:=.func (.func 183) #[.pointer (some ⟨B,3,none⟩)] #[]
theorem slow_anyR {P:Value×Value×Value} (B:Nat) (w:World) (h:HoldsR w B (tabR P (.int .u32 0) (.int .i32 0) 0)) :
  Calls Tryz.prog 199 #[.pointer (some ⟨B,3,none⟩),fillFR B] w fun e w'=>e=.returned (.tuple #[])∧HoldsR w' B (tabR P (.int .u32 1) (.int .i32 0) 16)∧w.grownBy w' (some B):=by
 have h0:w.cell? ⟨B,3,none⟩=some (.int .u32 0):=by rw [h.cell,tab_at0R]
 have h1:w.cell? ⟨B,4,none⟩=some (.int .i32 0):=by rw [h.cell,tab_at1R]
 have f1:w.frozen? ⟨B,4,none⟩=false:=h.frozen _
 have hs1:=h.set 4 (.int .i32 1)
 rw [tab_set1R] at hs1
 have hb1:=below_setR (grownBy_refl w (some B)) 4 (.int .i32 1)
 have hl:=run_call_load (P:=Tryz.prog) Tryz.func217 (by kernel_rfl) (by kernel_rfl) (by kernel_rfl) .u32 (by kernel_rfl) (w:=w.setCell ⟨B,4,none⟩ (.int .i32 1)) (a:=⟨B,3,none⟩) (x:=0) (by rw [hs1.cell,tab_at0R])
 have hnot:∀(x:Bool) (w:World),(Op.unary .not (.bool x)).run Tryz.prog w=.ok (.bool (!x)) w:=fun _ _=>rfl
 have HS:=hide hs1
 have HB:=hide hb1
 clear hs1 hb1 h
 go_enter_defers Tryz.func199,Tryz.ntmps199
 go_wp2_with (first | (go_at_call 48;refine (lock_free ⟨B,4,none⟩ _ (by go_simp) (by go_simp)).mono ?_;rintro e w' ⟨rfl,rfl⟩) | (go_at_call 198;go_in))
 refine (fill_anyR B (.int .u32 0) (.int .i32 1) _ (uH HS)).mono ?_
 rintro e w2 ⟨rfl,hs2,hb2⟩
 have HS2:=hide hs2
 have HB2:=hide (grownBy_trans (uH HB) hb2)
 have g0:w2.cell? ⟨B,3,none⟩=some (.int .u32 0):=by rw [hs2.cell,tab_at0R]
 have z0:w2.frozen? ⟨B,3,none⟩=false:=hs2.frozen _
 have hs3:=(hs2.drew).set 3 (.int .u32 1)
 rw [tab_set0R] at hs3
 have g1:(w2.drew.setCell ⟨B,3,none⟩ (.int .u32 1)).cell? ⟨B,4,none⟩=some (.int .i32 1):=by rw [hs3.cell,tab_at1R]
 have z1:(w2.drew.setCell ⟨B,3,none⟩ (.int .u32 1)).frozen? ⟨B,4,none⟩=false:=hs3.frozen _
 have hs4:=hs3.set 4 (.int .i32 0)
 rw [tab_set1R] at hs4
 have HS4:=hide hs4
 have HB4:=hide (below_setR (below_setR (grownBy_drewN (uH HB2) 1) 3 (.int .u32 1)) 4 (.int .i32 0))
 clear hs2 hb2 hs3 hs4
 go_wp2
 refine leaves_cons (f:=218) (args:=#[.pointer (some ⟨B,3,none⟩),.bool true]) (by simp) (by simp [go_sem]) ?_
 refine (store_deferred ⟨B,3,none⟩ (.int .u32 0) .returning _ g0 z0).mono ?_
 rintro e u' w'' ⟨rfl,rfl,rfl⟩
 refine leaves_cons (f:=49) (args:=#[.pointer (some ⟨B,4,none⟩)]) (by simp [settle]) (by simp [go_sem]) ?_
 refine (unlock_deferred ⟨B,4,none⟩ _ _ g1 z1).mono ?_
 rintro e u' w'' ⟨rfl,rfl,rfl⟩
 simp [Leaves,settle,results,Tryz.results199]
 exact ⟨uH HS4,uH HB4⟩
theorem do_firstR {P:Value×Value×Value} (B:Nat) (w:World) (h:HoldsR w B (tabR P (.int .u32 0) (.int .i32 0) 0)) :
  Calls Tryz.prog 182 #[.pointer (some ⟨B,3,none⟩),fillFR B] w fun e w'=>e=.returned (.tuple #[])∧HoldsR w' B (tabR P (.int .u32 1) (.int .i32 0) 16)∧w.grownBy w' (some B):=by
 have hl:=run_call_load (P:=Tryz.prog) Tryz.func217 (by kernel_rfl) (by kernel_rfl) (by kernel_rfl) .u32 (by kernel_rfl) (w:=w) (a:=⟨B,3,none⟩) (x:=0) (by rw [h.cell,tab_at0R])
 have hnot:∀(x:Bool) (w:World),(Op.unary .not (.bool x)).run Tryz.prog w=.ok (.bool (!x)) w:=fun _ _=>rfl
 have HH:=hide h
 clear h
 go_enter Tryz.func182,Tryz.ntmps182
 go_wp2_with (first | (go_at_call 199;refine (slow_anyR B _ (uH HH)).mono ?_;rintro e w2 ⟨rfl,hs2,hb2⟩) | (go_at_call 198;go_in))
 go_end0
 exact ⟨rfl,hs2,hb2⟩
theorem do_doneR {P:Value×Value×Value} (B:Nat) (fv:Value) (w:World) (h:HoldsR w B (tabR P (.int .u32 1) (.int .i32 0) 16)) :
  Calls Tryz.prog 182 #[.pointer (some ⟨B,3,none⟩),fv] w fun e w'=>e=.returned (.tuple #[])∧HoldsR w' B (tabR P (.int .u32 1) (.int .i32 0) 16)∧w.grownBy w' (some B):=by
 have hl:=run_call_load (P:=Tryz.prog) Tryz.func217 (by kernel_rfl) (by kernel_rfl) (by kernel_rfl) .u32 (by kernel_rfl) (w:=w) (a:=⟨B,3,none⟩) (x:=1) (by rw [h.cell,tab_at0R])
 have hnot:∀(x:Bool) (w:World),(Op.unary .not (.bool x)).run Tryz.prog w=.ok (.bool (!x)) w:=fun _ _=>rfl
 have HH:=hide h
 clear h
 go_enter Tryz.func182,Tryz.ntmps182
 go_wp2
 go_end0
 exact ⟨rfl,uH HH,grownBy_refl _ _⟩
def TabledR (P:Value×Value×Value) (w:World) (B:Nat):Prop:=HoldsR w B (tabR P (.int .u32 0) (.int .i32 0) 0)∨HoldsR w B (tabR P (.int .u32 1) (.int .i32 0) 16)
theorem do_anyR {P:Value×Value×Value} (B:Nat) (w:World) (h:TabledR P w B) :
  Calls Tryz.prog 182 #[.pointer (some ⟨B,3,none⟩),fillFR B] w fun e w'=>e=.returned (.tuple #[])∧HoldsR w' B (tabR P (.int .u32 1) (.int .i32 0) 16)∧w.grownBy w' (some B):=by
 rcases h with h | h
 ·exact do_firstR B w h
 ·exact do_doneR B _ w h
theorem shiftFour_anyR {P:Value×Value×Value} (B x:Nat) (w:World) (hx:x<4294967296) (h:TabledR P w B) :
  Calls Tryz.prog 171 #[.pointer (some ⟨B,3,none⟩),.int .u32 (x:Int)] w fun e w'=>e=.returned (.int .u32 (hN 4 x:Int))∧TabledR P w' B∧w.grownBy w' (some B):=by
 have hmf:∀(fn:Fn) (first cap:Array Value) (w:World),(Instr.makeFunc fn first cap).run Tryz.prog w=.ok (.func fn first cap) w:=fun _ _ _ _=>rfl
 have HT:=hide h
 clear h
 have ha:bits .and .u32 (x:Int) 15=((x % 16:Nat):Int):=by
  rw [show (15:Int)=((15:Nat):Int) from rfl,u32_and_nat _ _ hx (by decide),show (15:Nat)=2 ^ 4 - 1 from rfl,Nat.and_two_pow_sub_one_eq_mod]
 have hxr:bits .xor .u32 (hN 4 (x % 16):Int) ((x:Int) / 16)=(hN 4 x:Int):=by
  rw [four_split x];exact xor_int _ (x / 16) (hN_lt 4 (by omega)) (by omega)
 go_enter Tryz.func171,Tryz.ntmps171
 go_wp2_with fail
 refine (do_anyR B _ (uH HT)).mono ?_
 rintro e w2 ⟨rfl,hs2,hb2⟩
 have HS:=hide hs2
 have HB:=hide hb2
 have hc:w2.cell? ⟨B,6+x % 16,none⟩=some (.int .u32 (hN 4 (x % 16):Int)):=by rw [hs2.cell,tab_atR _ _ _ _ (by omega),if_pos (by omega)]
 clear hs2 hb2
 go_wp2
 go_ret
 exact ⟨rfl,.inr (uH HS),uH HB⟩
theorem sumOf_anyR {P:Value×Value×Value} (B:Nat) (s:ByteArray) (w:World) (hs:s.size≤1048576) (h:TabledR P w B) :
  Calls Tryz.prog 140 #[.pointer (some ⟨B,3,none⟩),.string s] w fun e w'=>e=.returned (.int .u32 (crc s.data.toList:Int))∧TabledR P w' B∧w.grownBy w' (some B):=by
 have H0:=hide h
 clear h
 go_enter Tryz.func140,Tryz.ntmps140
 go_wp2
 go_loopw [5,6,9] (fun x _ i wr=>∃k:Nat,k≤s.size∧i=.int .i64 k∧x=.int .u32 (ck s k:Int)∧TabledR P wr B∧w.grownBy wr (some B)) (fun _ _ i _=>s.size - (intOf i).toNat)
 case atStart=>
  exact ⟨0,Nat.zero_le _,rfl,by rw [ck_zero];rfl,uH H0,grownBy_refl _ _⟩
 case round=>
  obtain ⟨k,hk,rfl,rfl,ht,hb0⟩:=hrel
  have hlt32:=ck_lt s k
  by_cases hlt:k<s.size
  ·have hb:(s[k].toNat:Int)≤255:=byte_le _
   have hx:bits .xor .u32 (ck s k:Int) (s[k].toNat:Int)=((ck s k ^^^ s[k].toNat:Nat):Int):=xor_int _ _ hlt32 (byte_lt32 _)
   have hX:ck s k ^^^ s[k].toNat<4294967296:=xor_lt32 hlt32 (byte_lt32 _)
   have hck:Hid (ck s (k+1)=hN 4 (hN 4 (ck s k ^^^ s[k].toNat))):=hide (by rw [ck_succ s k hlt,←hN_add])
   have hX4:=hN_lt 4 hX
   have HT:=hide ht
   have HB:=hide hb0
   clear ht hb0
   go_wp2_with fail
   refine (shiftFour_anyR B _ _ hX (uH HT)).mono ?_
   rintro e w1 ⟨rfl,ht1,hb1⟩
   have HT1:=hide ht1
   have HB1:=hide (grownBy_trans (uH HB) hb1)
   clear ht1 hb1
   go_wp2_with fail
   refine (shiftFour_anyR B _ _ hX4 (uH HT1)).mono ?_
   rintro e w2 ⟨rfl,ht2,hb2⟩
   have HT2:=hide ht2
   have HB2:=hide (grownBy_trans (uH HB1) hb2)
   clear ht2 hb2
   go_wp2
   go_roundw
   case rel=>exact ⟨k+1,by omega,by go_num,by rw [uH hck],uH HT2,uH HB2⟩
   case measure=>simp [intOf];omega
  ·have hx:bits .xor .u32 (ck s k:Int) 4294967295=((crc s.data.toList:Nat):Int):=by
    rw [crc,←ck_all s k (by omega)];exact xor_int _ 4294967295 hlt32 (by decide)
   have HB:=hide hb0
   have HT:=hide ht
   clear ht hb0
   go_wp2
   go_ret
   exact ⟨rfl,uH HT,uH HB⟩
def Rd (w:World) (g:Nat) (s:ByteArray) (at' bg:Int):Prop:=TabledR (.string s,.int .i64 at',.int .i64 bg) w g
theorem tabR_zero (a b c:Value):tabR (a,b,c) (.int .u32 0) (.int .i32 0) 0=#[a,b,c,.int .u32 0,.int .i32 0,.int .u32 0,.int .u32 0,.int .u32 0,.int .u32 0,.int .u32 0,.int .u32 0,.int .u32 0,.int .u32 0,.int .u32 0,.int .u32 0,.int .u32 0,.int .u32 0,.int .u32 0,.int .u32 0,.int .u32 0,.int .u32 0,.int .u32 0]:=by simp [tabR,tabLR,List.range,List.range.loop]
theorem Rd.new (w:World) (s:ByteArray):Rd (w.alloc (.cells #[.string s,.int .i64 0,.int .i64 0,.int .u32 0,.int .i32 0,.int .u32 0,.int .u32 0,.int .u32 0,.int .u32 0,.int .u32 0,.int .u32 0,.int .u32 0,.int .u32 0,.int .u32 0,.int .u32 0,.int .u32 0,.int .u32 0,.int .u32 0,.int .u32 0,.int .u32 0,.int .u32 0,.int .u32 0] 172)) w.heap.size s 0 0:=by
 refine .inl ?_
 unfold HoldsR
 rw [tabR_zero]
 exact yD w _ _
theorem Rd.at {w:World} {g:Nat} {s:ByteArray} {i bg:Int} (h:Rd w g s i bg) (j:Nat):w.cell? ⟨g,j,none⟩=if j=0 then some (.string s) else if j=1 then some (.int .i64 i) else if j=2 then some (.int .i64 bg) else w.cell? ⟨g,j,none⟩:=by
 rcases h with h | h
 all_goals
  match j with
  | 0=>rw [h.cell];simp [tabR,tabLR]
  | 1=>rw [h.cell];simp [tabR,tabLR]
  | 2=>rw [h.cell];simp [tabR,tabLR]
  | n+3=>simp
theorem Rd.f {w:World} {g:Nat} {s:ByteArray} {i bg:Int} (h:Rd w g s i bg) (j:Nat):w.frozen? ⟨g,j,none⟩=false:=by
 rcases h with h | h<;>exact h.frozen j
theorem Rd.lt {w:World} {g:Nat} {s:ByteArray} {i bg:Int} (h:Rd w g s i bg):g<w.heap.size:=by
 rcases h with h | h<;>exact h.lt
theorem Rd.move {w w':World} {g:Nat} {s:ByteArray} {i bg:Int} (h:Rd w g s i bg) (e:w'.heap[g]? = w.heap[g]?):Rd w' g s i bg:=by
 rcases h with h | h
 ·exact .inl (e.trans h)
 ·exact .inr (e.trans h)
theorem Rd.below {w w':World} {g:Nat} {s:ByteArray} {i bg:Int} (h:Rd w g s i bg) (hb:Below w.heap.size w w'):Rd w' g s i bg:=h.move (hb.block g h.lt)
theorem Rd.al {w:World} {g:Nat} {s:ByteArray} {i bg:Int} (h:Rd w g s i bg) (o:Obj):Rd (w.alloc o) g s i bg:=h.below (yA (yH _ w) o)
theorem Rd.other {w:World} {g:Nat} {s:ByteArray} {i bg:Int} (h:Rd w g s i bg) (k j:Nat) (v:Value) (hn:g≠k):Rd (w.setCell ⟨k,j,none⟩ v) g s i bg:=h.move (heap_setCell_other w ⟨k,j,none⟩ g v hn)
abbrev perr (bg:Int):PanicEntry:={ v:=.iface 160 (.agg #[.int .i64 bg]),recovered:=false }
abbrev rdp (g:Nat):Value:=.pointer (some ⟨g,0,none⟩)
theorem done_any (g:Nat) (s:ByteArray) (i bg:Int) (w:World) (h:Rd w g s i bg) (hs:s.size≤1048576) :
  Calls Tryz.prog 98 #[rdp g] w fun e w'=>e=.returned (.bool (decide ((s.size:Int)≤i)))∧Below w.heap.size w w':=by
 have k0:=h.at 0
 have k1:=h.at 1
 have k2:=h.at 2
 simp at k0 k1 k2
 clear h
 go_enter Tryz.func98,Tryz.ntmps98
 go_wp2_with fail
 go_quiet (fail)
 go_wp2
 go_ret
 exact ⟨rfl,below_drewN (yH _ _) _⟩
theorem fail_any (g:Nat) (s:ByteArray) (i bg:Int) (w:World) (h:Rd w g s i bg) :
  Calls Tryz.prog 141 #[rdp g] w fun e w'=>e=.panicked [perr bg]∧w=w':=by
 have k0:=h.at 0
 have k1:=h.at 1
 have k2:=h.at 2
 simp at k0 k1 k2
 clear h
 go_enter Tryz.func141,Tryz.ntmps141
 go_wp2
 exact ⟨rfl,rfl,rfl⟩
theorem Rd.to {w:World} {g:Nat} {s:ByteArray} {i bg:Int} (h:Rd w g s i bg) (j:Int):Rd (w.setCell ⟨g,1,none⟩ (.int .i64 j)) g s j bg:=by
 have e:∀d m k,(tabR (.string s,.int .i64 i,.int .i64 bg) d m k).setIfInBounds 1 (.int .i64 j)=tabR (.string s,.int .i64 j,.int .i64 bg) d m k:=fun d m k=>by simp [tabR,tabLR]
 rcases h with h | h
 ·have:=h.set 1 (.int .i64 j);rw [e] at this;exact .inl this
 ·have:=h.set 1 (.int .i64 j);rw [e] at this;exact .inr this
theorem Rd.begin {w:World} {g:Nat} {s:ByteArray} {i bg:Int} (h:Rd w g s i bg) (j:Int):Rd (w.setCell ⟨g,2,none⟩ (.int .i64 j)) g s i j:=by
 have e:∀d m k,(tabR (.string s,.int .i64 i,.int .i64 bg) d m k).setIfInBounds 2 (.int .i64 j)=tabR (.string s,.int .i64 i,.int .i64 j) d m k:=fun d m k=>by simp [tabR,tabLR]
 rcases h with h | h
 ·have:=h.set 2 (.int .i64 j);rw [e] at this;exact .inl this
 ·have:=h.set 2 (.int .i64 j);rw [e] at this;exact .inr this
theorem gby_below {w w':World} {r:Option Nat} (hb:Below w.heap.size w w'):w.grownBy w' r:=grownBy_below (grownBy_refl w r) hb
def Reads (w:World) (g:Nat) (s:ByteArray) (bg:Int) (x:Option (Value×Int)) (e:Ending) (w':World):Prop:=
 w.grownBy w' (some g)∧match x with
  | some (v,j)=>e=.returned v∧Rd w' g s j bg
  | none=>e=.panicked [perr bg]∧∃j,Rd w' g s j bg
theorem nextByte_any (g:Nat) (s:ByteArray) (i:Nat) (bg:Int) (w:World) (h:Rd w g s i bg) (hs:s.size≤1048576) (hi:i≤s.size) :
  Calls Tryz.prog 166 #[rdp g] w (Reads w g s bg (if hj:i<s.size then some (.int .u8 (s[i].toNat:Int),(i:Int)+1) else none)):=by
 have CD:=hide (fun wx (hb:Below w.heap.size w wx)=>done_any g s i bg wx (h.below hb) hs)
 have CF:=hide (fun wx (hb:Below w.heap.size w wx)=>fail_any g s i bg wx (h.below hb))
 have HR:=hide h
 clear h
 by_cases hj:i<s.size
 ·rw [dif_pos hj]
  have hd:decide ((s.size:Int)≤(i:Int))=false:=by simp;omega
  rw [hd] at CD
  go_enter Tryz.func166,Tryz.ntmps166
  go_wp2_with fail
  refine (uH CD _ (yH _ _)).mono ?_
  rintro e w1 ⟨rfl,hb⟩
  have HB:=hide hb
  have k0:=((uH HR).below hb).at 0
  have k1:=((uH HR).below hb).at 1
  have k2:=((uH HR).below hb).f 1
  simp at k0 k1
  clear hb hd
  have hlt:(i:Int)<(s.size:Int):=by omega
  go_wp2_with fail
  go_quiet (fail)
  go_wp2
  go_ret
  exact ⟨grownBy_set (grownBy_drewN (gby_below (uH HB)) _) _ _,rfl,Rd.to (Rd.below (Rd.below (uH HR) (uH HB)) (below_drewN (yH _ _) _)) _⟩
 ·rw [dif_neg hj]
  have hd:decide ((s.size:Int)≤(i:Int))=true:=by simp;omega
  rw [hd] at CD
  go_enter Tryz.func166,Tryz.ntmps166
  go_wp2_with fail
  refine (uH CD _ (yH _ _)).mono ?_
  rintro e w1 ⟨rfl,hb⟩
  have HB:=hide hb
  clear hb hd
  go_wp2_with fail
  refine (uH CF _ (uH HB)).mono ?_
  rintro e w2 ⟨rfl,rfl⟩
  go_wp2
  exact ⟨rfl,gby_below (uH HB),rfl,_,(uH HR).below (uH HB)⟩
theorem goOn_any (g:Nat) (s:ByteArray) (i bg j:Int) (w:World) (h:Rd w g s i bg) :
  Calls Tryz.prog 168 #[rdp g,.int .i64 j] w (Reads w g s bg (if j<0 then none else some (.tuple #[],j))):=by
 have CF:=hide (fun wx (hb:Below w.heap.size w wx)=>fail_any g s i bg wx (h.below hb))
 have HR:=hide h
 have k1:=h.at 1
 have k2:=h.f 1
 simp at k1
 clear h
 by_cases hj:j<0
 ·rw [if_pos hj]
  go_enter Tryz.func168,Tryz.ntmps168
  go_wp2_with fail
  refine (uH CF _ (yH _ _)).mono ?_
  rintro e w2 ⟨rfl,rfl⟩
  go_wp2
  exact ⟨rfl,grownBy_refl _ _,rfl,_,uH HR⟩
 ·rw [if_neg hj]
  go_enter Tryz.func168,Tryz.ntmps168
  go_wp2
  go_end0
  exact ⟨grownBy_set (grownBy_refl _ _) _ _,rfl,(uH HR).to _⟩
def RdB (w0:World) (g:Nat) (s:ByteArray) (i bg:Int) (wx:World):Prop:=Rd wx g s i bg∧Below w0.heap.size w0 wx
theorem RdB.call {w0 w1 w2:World} {g:Nat} {s:ByteArray} {i bg:Int} (h:RdB w0 g s i bg w1) (hb:Below w1.heap.size w1 w2):RdB w0 g s i bg w2:=⟨h.1.below hb,yB h.2 hb⟩
theorem RdB.drew {w0 w1:World} {g:Nat} {s:ByteArray} {i bg:Int} (h:RdB w0 g s i bg w1):RdB w0 g s i bg w1.drew:=h.call (yH _ _).drew
theorem RdB.read (w0:World) (g:Nat) (s:ByteArray) (i bg:Int):∀wx,RdB w0 g s i bg wx→wx.cell? ⟨g,0,none⟩=some (.string s)∧wx.cell? ⟨g,1,none⟩=some (.int .i64 i):=fun wx h=>⟨by simpa using Rd.at h.1 0,by simpa using Rd.at h.1 1⟩
theorem Reads.on {w w1 w2:World} {g:Nat} {s:ByteArray} {bg:Int} {x:Option (Value×Int)} {e:Ending} (h0:w.grownBy w1 (some g)) (h:Reads w1 g s bg x e w2):Reads w g s bg x e w2:=⟨grownBy_trans h0 h.1,h.2⟩
theorem nextNum_any (g:Nat) (s:ByteArray) (i bg:Int) (w:World) (h:Rd w g s i bg) (hs:s.size≤1048576) (h0 : -9223372036854775808≤i) (h1:i≤9223372036854775807) :
  Calls Tryz.prog 181 #[rdp g] w fun e w'=>Reads w g s bg (if (getNum s.data.toList i).2<0 then none else some (.int .i64 (getNum s.data.toList i).1,(getNum s.data.toList i).2)) e w':=by
 have CG:=hide (fun wx=>implGetNum_any s i wx hs h0 h1)
 have CO:=hide (fun wx (j:Int) (hr:Rd wx g s i bg)=>goOn_any g s i bg j wx hr)
 have A0:=hide (show RdB w g s i bg w from ⟨h,yH _ _⟩)
 have R:=RdB.read w g s i bg
 obtain ⟨⟨n,j⟩,hnj⟩:∃x,getNum s.data.toList i=x:=⟨_,rfl⟩
 rw [hnj] at CG ⊢
 simp only at CG ⊢
 clear h hnj
 by_cases hj:j<0
 ·rw [if_pos hj]
  have CP:=hide (fun wx hr=>by have:=uH CO wx j hr;rw [if_pos hj] at this;exact this)
  clear CO
  go_enter Tryz.func181,Tryz.ntmps181
  go_wp2_with fail
  go_region_held3 (fun wx=>RdB w g s i bg wx)
   (first | assumption | exact (uH A0).drew | exact RdB.call (by assumption) (by assumption))
   (first
   | (go_at_call 180;refine (uH CG _).mono ?_;rintro e wt ⟨rfl,hb⟩;have SA:=RdB.call (w0:=w) (g:=g) (s:=s) (i:=i) (bg:=bg) (by assumption) hb)
   | fail)
  have HA:=hide SA
  clear SA R A0
  go_wp2_with fail
  refine (uH CP _ (uH HA).1).mono ?_
  intro e w2 hr
  obtain ⟨hg,hr⟩:=hr
  have HG:=hide (grownBy_trans (gby_below (uH HA).2) hg)
  clear hg
  obtain ⟨rfl,hr⟩:=hr
  have HR:=hide hr
  clear hr
  go_wp2
  exact ⟨rfl,uH HG,rfl,uH HR⟩
 ·rw [if_neg hj]
  have CP:=hide (fun wx hr=>by have:=uH CO wx j hr;rw [if_neg hj] at this;exact this)
  clear CO
  go_enter Tryz.func181,Tryz.ntmps181
  go_wp2_with fail
  go_region_held3 (fun wx=>RdB w g s i bg wx)
   (first | assumption | exact (uH A0).drew | exact RdB.call (by assumption) (by assumption))
   (first
   | (go_at_call 180;refine (uH CG _).mono ?_;rintro e wt ⟨rfl,hb⟩;have SA:=RdB.call (w0:=w) (g:=g) (s:=s) (i:=i) (bg:=bg) (by assumption) hb)
   | fail)
  have HA:=hide SA
  clear SA R A0
  go_wp2_with fail
  refine (uH CP _ (uH HA).1).mono ?_
  intro e w2 hr
  obtain ⟨hg,hr⟩:=hr
  have HG:=hide (grownBy_trans (gby_below (uH HA).2) hg)
  clear hg
  obtain ⟨rfl,hr⟩:=hr
  have HR:=hide hr
  clear hr
  go_wp2
  go_ret
  exact ⟨uH HG,rfl,uH HR⟩
theorem nextText_any (g:Nat) (s:ByteArray) (i bg:Int) (w:World) (h:Rd w g s i bg) (hs:s.size≤1048576) (h0 : -9223372036854775808≤i) (h1:i≤9223372036854775807) :
  Calls Tryz.prog 138 #[rdp g] w fun e w'=>Reads w g s bg (if (getText s.data.toList i).2<0 then none else some (.string (bs (getText s.data.toList i).1),(getText s.data.toList i).2)) e w':=by
 have CG:=hide (fun wx=>implGetText_any s i wx hs h0 h1)
 have CO:=hide (fun wx (j:Int) (hr:Rd wx g s i bg)=>goOn_any g s i bg j wx hr)
 have A0:=hide (show RdB w g s i bg w from ⟨h,yH _ _⟩)
 have R:=RdB.read w g s i bg
 obtain ⟨⟨n,j⟩,hnj⟩:∃x,getText s.data.toList i=x:=⟨_,rfl⟩
 rw [hnj] at CG ⊢
 simp only at CG ⊢
 clear h hnj
 by_cases hj:j<0
 ·rw [if_pos hj]
  have CP:=hide (fun wx hr=>by have:=uH CO wx j hr;rw [if_pos hj] at this;exact this)
  clear CO
  go_enter Tryz.func138,Tryz.ntmps138
  go_wp2_with fail
  go_region_held3 (fun wx=>RdB w g s i bg wx)
   (first | assumption | exact (uH A0).drew | exact RdB.call (by assumption) (by assumption))
   (first
   | (go_at_call 167;refine (uH CG _).mono ?_;rintro e wt ⟨rfl,hb⟩;have SA:=RdB.call (w0:=w) (g:=g) (s:=s) (i:=i) (bg:=bg) (by assumption) hb)
   | fail)
  have HA:=hide SA
  clear SA R A0
  go_wp2_with fail
  refine (uH CP _ (uH HA).1).mono ?_
  intro e w2 hr
  obtain ⟨hg,hr⟩:=hr
  have HG:=hide (grownBy_trans (gby_below (uH HA).2) hg)
  clear hg
  obtain ⟨rfl,hr⟩:=hr
  have HR:=hide hr
  clear hr
  go_wp2
  exact ⟨rfl,uH HG,rfl,uH HR⟩
 ·rw [if_neg hj]
  have CP:=hide (fun wx hr=>by have:=uH CO wx j hr;rw [if_neg hj] at this;exact this)
  clear CO
  go_enter Tryz.func138,Tryz.ntmps138
  go_wp2_with fail
  go_region_held3 (fun wx=>RdB w g s i bg wx)
   (first | assumption | exact (uH A0).drew | exact RdB.call (by assumption) (by assumption))
   (first
   | (go_at_call 167;refine (uH CG _).mono ?_;rintro e wt ⟨rfl,hb⟩;have SA:=RdB.call (w0:=w) (g:=g) (s:=s) (i:=i) (bg:=bg) (by assumption) hb)
   | fail)
  have HA:=hide SA
  clear SA R A0
  go_wp2_with fail
  refine (uH CP _ (uH HA).1).mono ?_
  intro e w2 hr
  obtain ⟨hg,hr⟩:=hr
  have HG:=hide (grownBy_trans (gby_below (uH HA).2) hg)
  clear hg
  obtain ⟨rfl,hr⟩:=hr
  have HR:=hide hr
  clear hr
  go_wp2
  go_ret
  exact ⟨uH HG,rfl,uH HR⟩
def rdA (s:ByteArray):Array Value:=#[.string s,.int .i64 0,.int .i64 0,.int .u32 0,.int .i32 0,.int .u32 0,.int .u32 0,.int .u32 0,.int .u32 0,.int .u32 0,.int .u32 0,.int .u32 0,.int .u32 0,.int .u32 0,.int .u32 0,.int .u32 0,.int .u32 0,.int .u32 0,.int .u32 0,.int .u32 0,.int .u32 0,.int .u32 0]
theorem rdA_info:(Tryz.prog.info? 172).map (fun i=>(i.zero,i.size))=some (some (.agg (rdA ⟨#[]⟩)),22):=by kernel_rfl
theorem rdA_one (s:ByteArray):(rdA s).all (·.oneCell')=true:=by kernel_rfl
theorem rd_alloc (w:World) (v:Value):(Instr.alloc 172 true v).run Tryz.prog w=.ok (.pointer (some ⟨w.heap.size,0,none⟩)) (w.alloc (.cells (rdA ⟨#[]⟩) 172)):=by
 have h:=(zero_of_info rdA_info).1
 unfold Instr.alloc
 rw [Sem.run_bind,h]
 rfl
theorem rd_store (s:ByteArray) (w:World):(Instr.storeAt 172 (.pointer (some ⟨w.heap.size,0,none⟩)) (.agg (rdA s))).run Tryz.prog (w.alloc (.cells (rdA ⟨#[]⟩) 172))=.ok () (w.alloc (.cells (rdA s) 172)):=
 run_storeAt_new w 172 (rdA ⟨#[]⟩) (rdA s) (by rw [(zero_of_info rdA_info).2];rfl) rfl (rdA_one s)
theorem rd_build (s:ByteArray) (w:World):(Instr.build 172 #[(0,.string s)]).run Tryz.prog w=.ok (.agg (rdA s)) w:=by kernel_rfl
theorem Rd.newA (w:World) (s:ByteArray):Rd (w.alloc (.cells (rdA s) 172)) w.heap.size s 0 0:=Rd.new w s
end
section
theorem getNum_cases (l:List UInt8) (i:Int):getNum l i=(0,-1)∨∃I j:Nat,i=I∧stop 5 (l.drop I)=some j∧putNum (dv ((l.drop I).take (j+1)):Int)=(l.drop I).take (j+1)∧getNum l i=((dv ((l.drop I).take (j+1)):Int),(I:Int)+j+1):=by
 unfold getNum
 by_cases hi:i<0
 ·rw [if_pos hi];exact .inl rfl
 ·rw [if_neg hi]
  obtain ⟨I,rfl⟩:=Int.eq_ofNat_of_zero_le (a:=i) (by omega)
  rw [Int.toNat_natCast]
  cases hs:stop 5 (l.drop I) with
  | none=>exact .inl rfl
  | some j=>
   simp only
   by_cases hp:putNum (dv ((l.drop I).take (j+1)):Int)=(l.drop I).take (j+1)
   ·rw [if_pos hp];exact .inr ⟨I,j,rfl,hs,hp,rfl⟩
   ·rw [if_neg hp];exact .inl rfl
end
end Go.Proofs.YtjkfappkpopbdaaGreat
