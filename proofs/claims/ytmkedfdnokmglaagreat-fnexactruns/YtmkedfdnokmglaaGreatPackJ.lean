/-
  Texts in one: AgZ, RpE.
-/
import Derived.Test.YtmkedfdnokmglaaGreatPackG
set_option maxRecDepth 100000
set_option maxHeartbeats 16000000
set_option linter.unusedVariables false
set_option linter.unusedSimpArgs false
namespace Go.Proofs.YtmkedfdnokmglaaGreat
section
open Go.RowKit
def AgtBig (q:Agt):Prop:=q.name.length≤9223372036854775807∧q.cs.length≤9223372036854775807∧∀a ∈ q.cs,a.node.length≤9223372036854775807
def FitAgt1 (q:Agt):Prop:=q.name.length≤1048576∧FitCon q.cs
def FitAgt (l:List Agt):Prop:=l.length≤1048576∧∀q ∈ l,FitAgt1 q
theorem szAgent_any (name:List UInt8) (mem cpu:Int) (ao:Option Addr) (len cap:Nat) (l:List Con) (a:Int) (w:World) (h:ConRow w ao len l) (ha0:0≤a) (ha1:a≤1048576) (hn:AgtBig ⟨name,mem,cpu,l⟩) :
  Calls Tryz.prog 38 #[agtv name mem cpu ao len cap,.int .i64 a] w fun e w'=>∃r:Int,e=.returned (.int .i64 r)∧(r = -1∨(0≤r∧r≤a∧FitAgt1 ⟨name,mem,cpu,l⟩))∧Below w.heap.size w w':=by
 have z1:=bs_size name
 obtain ⟨hn1,hn2,hn3⟩:=hn
 simp only at hn1 hn2 hn3
 have hlen:len≤9223372036854775807:=by have:=h.1;omega
 have HB0:=hide (yA (yH _ w) (.cells #[.string (bs name),.int .i64 mem,.int .i64 cpu,.slice ao len cap] 89))
 have HR:=hide h
 have H3:=hide hn3
 clear h hn3 hn2
 by_cases h1:a - name.length<0
 ·go_enter Tryz.func38,Tryz.ntmps38
  go_wp2
  go_ret
  exact ⟨-1,rfl,.inl rfl,uH HB0⟩
 ·have C:=hide (szContS_any ao len cap l (a - name.length) _ ((uH HR).below (uH HB0)) hlen (uH H3) (by omega) (by omega))
  go_enter Tryz.func38,Tryz.ntmps38
  go_wp2_with fail
  refine (uH C).mono ?_
  rintro e w1 ⟨r,rfl,hr,hb⟩
  have HB1:=hide (yB (uH HB0) hb)
  clear hb C
  rcases hr with rfl | ⟨hr0,hr1,hf⟩
  ·go_wp2
   go_ret
   exact ⟨-1,rfl,.inl rfl,uH HB1⟩
  ·have HF:=hide hf
   clear hf
   go_wp2
   go_ret
   exact ⟨r,rfl,.inr ⟨hr0,by omega,by show name.length≤1048576;omega,uH HF⟩,uH HB1⟩
theorem szAgentS_any (ao:Option Addr) (len cap:Nat) (l:List Agt) (a0:Int) (w:World) (h:AgtRow w ao len l) (hlen:len≤9223372036854775807) (hm:∀q ∈ l,AgtBig q) (hA0:0≤a0) (hA1:a0≤1048576) :
  Calls Tryz.prog 15 #[.slice ao len cap,.int .i64 a0] w fun e w'=>∃r:Int,e=.returned (.int .i64 r)∧(r = -1∨(0≤r∧r≤a0∧FitAgt l))∧Below w.heap.size w w':=by
 have HR:=hide h
 have HL:=hide h.1
 have HM:=hide hm
 clear h hm
 by_cases hbig:(len:Int)≤a0
 ·have hb1:¬(a0:Int) - len<0:=by omega
  go_enter Tryz.func15,Tryz.ntmps15
  go_wp2
  go_loopw [1,5] (fun s i wr=>∃(k:Nat) (a:Int),k≤len∧i=.int .i64 k∧s=.int .i64 a∧0≤a∧a≤a0∧Hid (∀q ∈ l.take k,FitAgt1 q)∧Hid (Below w.heap.size w wr)) (fun _ i _=>len - (intOf i).toNat)
  case atStart=>exact ⟨0,a0 - len,Nat.zero_le _,rfl,rfl,by omega,by omega,hide (by simp),hide (yH _ _)⟩
  case round=>
   obtain ⟨k,a,hk,rfl,rfl,ha0,ha1,HP,HB⟩:=hrel
   by_cases hlt:k<len
   ·obtain ⟨b,off,rfl,hq⟩:=((uH HR).below (uH HB)).at hlt
    have hkl:k<l.length:=by have:=uH HL;omega
    obtain ⟨xo,xl,xc,c0,c1,c2,c3,hrow⟩:=hq hkl
    have n1:=uH HM l[k] (yM _)
    have htk:=List.take_succ_eq_append_getElem hkl
    obtain ⟨q,hs⟩:∃q,l[k]=q:=⟨_,rfl⟩
    rw [hs] at c0 c1 c2 n1 htk hrow
    obtain ⟨name,mem,cpu,cs⟩:=q
    simp only at c0 c1 c2 hrow
    have HTK:=hide htk
    have C:=hide (szAgent_any name mem cpu xo xl xc cs a wr hrow ha0 (by omega) n1)
    clear hq hs hkl htk n1 hrow
    go_wp2_with fail
    refine (uH C).mono ?_
    rintro e w1 ⟨r,rfl,hr,hb⟩
    have HB1:=hide (yB (uH HB) hb)
    clear hb C c0 c1 c2 c3
    rcases hr with rfl | ⟨r0,r1,r2⟩
    ·go_wp2
     go_ret
     exact ⟨-1,rfl,.inl rfl,uH HB1⟩
    ·have HN:=hide (show ∀q ∈ l.take (k+1),FitAgt1 q by
      rw [uH HTK]
      intro x hx
      rcases List.mem_append.1 hx with hx | hx
      ·exact uH HP x hx
      ·rw [List.mem_singleton.1 hx];exact r2)
     clear r2 HP HTK
     go_wp2
     go_roundw
     case rel=>exact ⟨k+1,r,by omega,by go_num,rfl,by omega,by omega,HN,HB1⟩
     case measure=>simp [intOf];omega
   ·have HF:=hide (show FitAgt l from ⟨by have:=uH HL;omega,fun q hq=>uH HP q (by rw [List.take_of_length_le (by have:=uH HL;omega)];exact hq)⟩)
    go_wp2
    go_ret
    exact ⟨a,rfl,.inr ⟨ha0,ha1,uH HF⟩,uH HB⟩
 ·have hb1:(a0:Int) - len<0:=by omega
  go_enter Tryz.func15,Tryz.ntmps15
  go_wp2
  go_ret
  exact ⟨-1,rfl,.inl rfl,yH _ _⟩
theorem eqReply_same (code app:Int) (xo xo':Option Addr) (xl xc xc':Nat) (yo yo':Option Addr) (yl yc yc':Nat) (cs:List Con) (kill:List Int) (w:World) (h:ConRow w xo xl cs) (h':ConRow w xo' xl cs) (k:NRow w yo yl kill) (k':NRow w yo' yl kill) (hl:xl≤1048576) (hl':yl≤1048576) :
  Calls Tryz.prog 62 #[rplv code app xo xl xc yo yl yc,rplv code app xo' xl xc' yo' yl yc'] w fun e w'=>e=.returned (.bool true)∧Below w.heap.size w w':=by
 have HB0:=hide (yA (yA (yH _ w) (.cells #[.int .i64 code,.int .i64 app,.slice xo xl xc,.slice yo yl yc] 110)) (.cells #[.int .i64 code,.int .i64 app,.slice xo' xl xc',.slice yo' yl yc'] 110))
 have P0:=hide ((yD w #[.int .i64 code,.int .i64 app,.slice xo xl xc,.slice yo yl yc] 110).al (.cells #[.int .i64 code,.int .i64 app,.slice xo' xl xc',.slice yo' yl yc'] 110))
 have P1:=hide (show Blk _ (w.heap.size+1) #[.int .i64 code,.int .i64 app,.slice xo' xl xc',.slice yo' yl yc'] 110 by have:=yD (w.alloc (.cells #[.int .i64 code,.int .i64 app,.slice xo xl xc,.slice yo yl yc] 110)) #[.int .i64 code,.int .i64 app,.slice xo' xl xc',.slice yo' yl yc'] 110;rwa [yE] at this)
 have C:=hide (fun wx (hb:Below w.heap.size w wx)=>eqContS_same xo xo' xl xc xc' cs wx (h.below hb) (h'.below hb) hl)
 have C2:=hide (fun wx (hb:Below w.heap.size w wx)=>eqIntS_same yo yo' yl yc yc' kill wx (k.below hb) (k'.below hb) hl')
 clear h h' k k'
 go_enter Tryz.func62,Tryz.ntmps62
 go_wp2_with fail
 refine (uH C _ ?_).mono ?_
 ·first | exact uH HB0 | exact (uH HB0).drew | exact (uH HB0).drew.drew | exact below_dn (uH HB0) _
 rintro e w1 ⟨rfl,hb⟩
 have HB1:=hide (show Below w.heap.size w w1 by first | exact yB (uH HB0) hb | exact yB (uH HB0).drew hb | exact yB (uH HB0).drew.drew hb | exact yB (below_dn (uH HB0) _) hb)
 have Q0:=hide (show Blk w1 w.heap.size _ _ from by first | exact (uH P0).below hb | exact Blk.below (w:=_) (uH P0) hb)
 have Q1:=hide (show Blk w1 (w.heap.size+1) _ _ from by first | exact (uH P1).below hb | exact Blk.below (w:=_) (uH P1) hb)
 clear hb C HB0 P0 P1
 have a3:=(uH Q0).at 3
 have b3:=(uH Q1).at 3
 simp at a3 b3
 go_wp2_with fail
 refine (uH C2 _ (uH HB1)).mono ?_
 rintro e w2 ⟨rfl,hb⟩
 have HB2:=hide (yB (uH HB1) hb)
 clear hb C2 HB1 Q0 Q1 a3 b3
 go_wp2
 go_ret
 exact ⟨rfl,uH HB2⟩
def RplTwo (w0:World) (b p c r:Nat) (q:Rpl) (xo:Option Addr) (xl xc:Nat) (yo:Option Addr) (yl yc:Nat) (xo':Option Addr) (xc':Nat) (yo':Option Addr) (yc':Nat) (w:World):Prop:=RplAt w b p q xo xl xc yo yl yc∧RplAt w c r q xo' xl xc' yo' yl yc'∧Below w0.heap.size w0 w
theorem RplTwo.call {w0 w w':World} {b p c r:Nat} {q:Rpl} {xo:Option Addr} {xl xc:Nat} {yo:Option Addr} {yl yc:Nat} {xo':Option Addr} {xc':Nat} {yo':Option Addr} {yc':Nat} (h:RplTwo w0 b p c r q xo xl xc yo yl yc xo' xc' yo' yc' w) (hb:Below w.heap.size w w'):RplTwo w0 b p c r q xo xl xc yo yl yc xo' xc' yo' yc' w':=⟨h.1.below hb,h.2.1.below hb,yB h.2.2 hb⟩
theorem RplTwo.drew {w0 w:World} {b p c r:Nat} {q:Rpl} {xo:Option Addr} {xl xc:Nat} {yo:Option Addr} {yl yc:Nat} {xo':Option Addr} {xc':Nat} {yo':Option Addr} {yc':Nat} (h:RplTwo w0 b p c r q xo xl xc yo yl yc xo' xc' yo' yc' w):RplTwo w0 b p c r q xo xl xc yo yl yc xo' xc' yo' yc' w.drew:=h.call (yH _ _).drew
theorem RplTwo.read (w0:World) (b p c r:Nat) (q:Rpl) (xo:Option Addr) (xl xc:Nat) (yo:Option Addr) (yl yc:Nat) (xo':Option Addr) (xc':Nat) (yo':Option Addr) (yc':Nat):∀wx,RplTwo w0 b p c r q xo xl xc yo yl yc xo' xc' yo' yc' wx→wx.cell? ⟨b,p,none⟩=some (.int .i64 q.code)∧wx.cell? ⟨b,p+1,none⟩=some (.int .i64 q.app)∧wx.cell? ⟨b,p+2,none⟩=some (.slice xo xl xc)∧wx.cell? ⟨b,p+3,none⟩=some (.slice yo yl yc)∧wx.cell? ⟨c,r,none⟩=some (.int .i64 q.code)∧wx.cell? ⟨c,r+1,none⟩=some (.int .i64 q.app)∧wx.cell? ⟨c,r+2,none⟩=some (.slice xo' xl xc')∧wx.cell? ⟨c,r+3,none⟩=some (.slice yo' yl yc'):=
 fun wx h=>⟨h.1.1,h.1.2.1,h.1.2.2.1,h.1.2.2.2.1,h.2.1.1,h.2.1.2.1,h.2.1.2.2.1,h.2.1.2.2.2.1⟩
theorem eqReplyS_same (ao bo:Option Addr) (len cap ccap:Nat) (l:List Rpl) (w:World) (h:RplRow w ao len l) (h':RplRow w bo len l) (hl:len≤1048576) (hk:∀q ∈ l,q.cs.length≤1048576∧q.kill.length≤1048576) :
  Calls Tryz.prog 34 #[.slice ao len cap,.slice bo len ccap] w fun e w'=>e=.returned (.bool true)∧Below w.heap.size w w':=by
 have HR:=hide h
 have HR':=hide h'
 have HL:=hide h.1
 have HK:=hide hk
 clear h h' hk
 go_enter Tryz.func34,Tryz.ntmps34
 go_wp2
 go_loopw [5] (fun i wr=>∃k:Nat,k≤len∧i=.int .i64 k∧Hid (Below w.heap.size w wr)) (fun i _=>len - (intOf i).toNat)
 case atStart=>exact ⟨0,Nat.zero_le _,rfl,hide (yH _ _)⟩
 case round=>
  obtain ⟨k,hk,rfl,HB⟩:=hrel
  by_cases hlt:k<len
  ·obtain ⟨b,off,rfl,hq⟩:=((uH HR).below (uH HB)).at hlt
   obtain ⟨c,coff,rfl,hq'⟩:=((uH HR').below (uH HB)).at hlt
   have hkl:k<l.length:=by have:=uH HL;omega
   obtain ⟨xo,xl,xc,yo,yl,yc,hx⟩:=hq hkl
   obtain ⟨xo',xl',xc',yo',yl',yc',hy⟩:=hq' hkl
   obtain rfl:xl=xl':=hx.2.2.2.2.1.1.trans hy.2.2.2.2.1.1.symm
   obtain rfl:yl=yl':=hx.2.2.2.2.2.1.trans hy.2.2.2.2.2.1.symm
   have hxl:xl≤1048576:=by have:=(uH HK l[k] (yM _)).1;have:=hx.2.2.2.2.1.1;omega
   have hyl:yl≤1048576:=by have:=(uH HK l[k] (yM _)).2;have:=hx.2.2.2.2.2.1;omega
   have A0:=hide (show RplTwo w b (off+k*4) c (coff+k*4) l[k] xo xl xc yo yl yc xo' xc' yo' yc' wr from ⟨hx,hy,uH HB⟩)
   obtain ⟨q,hs⟩:∃q,l[k]=q:=⟨_,rfl⟩
   rw [hs] at A0
   have R:=RplTwo.read w b (off+k*4) c (coff+k*4) q xo xl xc yo yl yc xo' xc' yo' yc'
   have k0:(0:Int)≤k:=by omega
   have k1:(k:Int)<len:=by omega
   clear hq hq' hs hkl hx hy
   go_wp2_with fail
   go_region_held3 (fun wx=>RplTwo w b (off+k*4) c (coff+k*4) q xo xl xc yo yl yc xo' xc' yo' yc' wx)
    (first | (with_reducible assumption) | exact (uH A0).drew | exact RplTwo.call (by assumption) (by assumption))
    (first
    | (go_at_call 62;refine (eqReply_same _ _ xo xo' xl xc xc' yo yo' yl yc yc' q.cs q.kill _ ?_ ?_ ?_ ?_ hxl hyl).mono ?_;(exact (show RplTwo w b (off+k*4) c (coff+k*4) q xo xl xc yo yl yc xo' xc' yo' yc' _ by assumption).1.2.2.2.2.1);(exact (show RplTwo w b (off+k*4) c (coff+k*4) q xo xl xc yo yl yc xo' xc' yo' yc' _ by assumption).2.1.2.2.2.2.1);(exact (show RplTwo w b (off+k*4) c (coff+k*4) q xo xl xc yo yl yc xo' xc' yo' yc' _ by assumption).1.2.2.2.2.2);(exact (show RplTwo w b (off+k*4) c (coff+k*4) q xo xl xc yo yl yc xo' xc' yo' yc' _ by assumption).2.1.2.2.2.2.2);rintro e wt ⟨rfl,hb⟩;have SA:=RplTwo.call (w0:=w) (b:=b) (p:=off+k*4) (c:=c) (r:=coff+k*4) (q:=q) (xo:=xo) (xl:=xl) (xc:=xc) (yo:=yo) (yl:=yl) (yc:=yc) (xo':=xo') (xc':=xc') (yo':=yo') (yc':=yc') (by assumption) hb))
   all_goals
    have HB2:=hide SA.2.2
    clear SA R A0
    go_wp2
    go_roundw
    case rel=>exact ⟨k+1,by omega,by go_num,HB2⟩
    case measure=>simp [intOf];omega
  ·go_wp2
   go_ret
   exact ⟨rfl,uH HB⟩
end
end Go.Proofs.YtmkedfdnokmglaaGreat
