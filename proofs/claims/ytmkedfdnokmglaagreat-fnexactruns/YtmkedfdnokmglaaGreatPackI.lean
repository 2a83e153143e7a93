/-
  Texts in one: RpZ, RpT.
-/
import Derived.Test.YtmkedfdnokmglaaGreatPackG
set_option maxRecDepth 100000
set_option maxHeartbeats 16000000
set_option linter.unusedVariables false
set_option linter.unusedSimpArgs false
namespace Go.Proofs.YtmkedfdnokmglaaGreat
section
open Go.RowKit
def RplBig (q:Rpl):Prop:=(q.cs.length≤9223372036854775807∧∀a ∈ q.cs,a.node.length≤9223372036854775807)∧q.kill.length≤9223372036854775807
def FitRpl1 (q:Rpl):Prop:=FitCon q.cs∧q.kill.length≤1048576
def FitRpl (l:List Rpl):Prop:=l.length≤1048576∧∀q ∈ l,FitRpl1 q
theorem szIntS_any (ao:Option Addr) (len cap:Nat) (a:Int) (w:World) (hn:len≤9223372036854775807) (ha0:0≤a) (ha1:a≤1048576) :
  Calls Tryz.prog 83 #[.slice ao len cap,.int .i64 a] w fun e w'=>∃r:Int,e=.returned (.int .i64 r)∧(r = -1∨(0≤r∧r≤a∧len≤1048576))∧Below w.heap.size w w':=by
 by_cases h1:a - len<0
 ·go_enter Tryz.func83,Tryz.ntmps83
  go_wp2
  go_ret
  exact ⟨-1,rfl,.inl rfl,yH _ _⟩
 ·go_enter Tryz.func83,Tryz.ntmps83
  go_wp2
  go_ret
  exact ⟨a - len,rfl,.inr ⟨by omega,by omega,by omega⟩,yH _ _⟩
theorem szReply_any (code app:Int) (xo:Option Addr) (xl xc:Nat) (yo:Option Addr) (yl yc:Nat) (cs:List Con) (kill:List Int) (a:Int) (w:World) (h:ConRow w xo xl cs) (h':NRow w yo yl kill) (ha0:0≤a) (ha1:a≤1048576) (hn:RplBig ⟨code,app,cs,kill⟩) :
  Calls Tryz.prog 56 #[rplv code app xo xl xc yo yl yc,.int .i64 a] w fun e w'=>∃r:Int,e=.returned (.int .i64 r)∧(r = -1∨(0≤r∧r≤a∧FitRpl1 ⟨code,app,cs,kill⟩))∧Below w.heap.size w w':=by
 obtain ⟨⟨hn1,hn2⟩,hn3⟩:=hn
 simp only at hn1 hn2 hn3
 have hxl:xl≤9223372036854775807:=by have:=h.1;omega
 have hyl:yl≤9223372036854775807:=by have:=h'.1;omega
 have HYL:=hide h'.1
 have HB0:=hide (yA (yH _ w) (.cells #[.int .i64 code,.int .i64 app,.slice xo xl xc,.slice yo yl yc] 107))
 have P0:=hide (yD w #[.int .i64 code,.int .i64 app,.slice xo xl xc,.slice yo yl yc] 107)
 have C:=hide (szContS_any xo xl xc cs a _ (h.below (uH HB0)) hxl hn2 ha0 ha1)
 clear h h' hn1 hn2 hn3
 go_enter Tryz.func56,Tryz.ntmps56
 go_wp2_with fail
 refine (uH C).mono ?_
 rintro e w1 ⟨r,rfl,hr,hb⟩
 have HB1:=hide (yB (uH HB0) hb)
 have P1:=hide ((uH P0).below hb)
 clear hb C HB0 P0
 rcases hr with rfl | ⟨hr0,hr1,hf⟩
 ·go_wp2
  go_ret
  exact ⟨-1,rfl,.inl rfl,uH HB1⟩
 ·have HF:=hide hf
  have p3:=(uH P1).at 3
  simp at p3
  have hr2:¬r<0:=by omega
  clear hf P1
  go_wp2_with fail
  refine (szIntS_any yo yl yc r _ hyl hr0 (by omega)).mono ?_
  rintro e w2 ⟨r2,rfl,hr3,hb⟩
  have HB2:=hide (yB (uH HB1) hb)
  clear hb p3 HB1
  rcases hr3 with rfl | ⟨hr4,hr5,hk⟩
  ·go_wp2
   go_ret
   exact ⟨-1,rfl,.inl rfl,uH HB2⟩
  ·have hr6:¬r2<0:=by omega
   have HK:=hide hk
   clear hk
   go_wp2
   go_ret
   exact ⟨r2,rfl,.inr ⟨hr4,by omega,uH HF,by have h1:=uH HYL;have h2:=uH HK;show kill.length≤1048576;omega⟩,uH HB2⟩
theorem szReplyS_any (ao:Option Addr) (len cap:Nat) (l:List Rpl) (a0:Int) (w:World) (h:RplRow w ao len l) (hlen:len≤9223372036854775807) (hm:∀q ∈ l,RplBig q) (hA0:0≤a0) (hA1:a0≤1048576) :
  Calls Tryz.prog 26 #[.slice ao len cap,.int .i64 a0] w fun e w'=>∃r:Int,e=.returned (.int .i64 r)∧(r = -1∨(0≤r∧r≤a0∧FitRpl l))∧Below w.heap.size w w':=by
 have HR:=hide h
 have HL:=hide h.1
 have HM:=hide hm
 clear h hm
 by_cases hbig:(len:Int)≤a0
 ·have hb1:¬(a0:Int) - len<0:=by omega
  go_enter Tryz.func26,Tryz.ntmps26
  go_wp2
  go_loopw [1,5] (fun s i wr=>∃(k:Nat) (a:Int),k≤len∧i=.int .i64 k∧s=.int .i64 a∧0≤a∧a≤a0∧Hid (∀q ∈ l.take k,FitRpl1 q)∧Hid (Below w.heap.size w wr)) (fun _ i _=>len - (intOf i).toNat)
  case atStart=>exact ⟨0,a0 - len,Nat.zero_le _,rfl,rfl,by omega,by omega,hide (by simp),hide (yH _ _)⟩
  case round=>
   obtain ⟨k,a,hk,rfl,rfl,ha0,ha1,HP,HB⟩:=hrel
   by_cases hlt:k<len
   ·obtain ⟨b,off,rfl,hq⟩:=((uH HR).below (uH HB)).at hlt
    have hkl:k<l.length:=by have:=uH HL;omega
    obtain ⟨xo,xl,xc,yo,yl,yc,c0,c1,c2,c3,hrow,hrow2⟩:=hq hkl
    have n1:=uH HM l[k] (yM _)
    have htk:=List.take_succ_eq_append_getElem hkl
    obtain ⟨q,hs⟩:∃q,l[k]=q:=⟨_,rfl⟩
    rw [hs] at c0 c1 n1 htk hrow hrow2
    obtain ⟨code,app,cs,kill⟩:=q
    simp only at c0 c1 hrow hrow2
    have HTK:=hide htk
    have C:=hide (szReply_any code app xo xl xc yo yl yc cs kill a wr hrow hrow2 ha0 (by omega) n1)
    clear hq hs hkl htk n1 hrow hrow2
    go_wp2_with fail
    refine (uH C).mono ?_
    rintro e w1 ⟨r,rfl,hr,hb⟩
    have HB1:=hide (yB (uH HB) hb)
    clear hb C c0 c1 c2 c3
    rcases hr with rfl | ⟨r0,r1,r2⟩
    ·go_wp2
     go_ret
     exact ⟨-1,rfl,.inl rfl,uH HB1⟩
    ·have HN:=hide (show ∀q ∈ l.take (k+1),FitRpl1 q by
      rw [uH HTK]
      intro x hx
      rcases List.mem_append.1 hx with hx | hx
      ·exact uH HP x hx
      ·rw [List.mem_singleton.1 hx];exact r2)
     clear r2 HP HTK
     go_wp2
     go_roundw
     case rel=>exact ⟨k+1,r,by omega,by go_num,rfl,by omega,by omega,HN,HB1⟩
     case measure=>simp [intOf];omega
   ·have HF:=hide (show FitRpl l from ⟨by have:=uH HL;omega,fun q hq=>uH HP q (by rw [List.take_of_length_le (by have:=uH HL;omega)];exact hq)⟩)
    go_wp2
    go_ret
    exact ⟨a,rfl,.inr ⟨ha0,ha1,uH HF⟩,uH HB⟩
 ·have hb1:(a0:Int) - len<0:=by omega
  go_enter Tryz.func26,Tryz.ntmps26
  go_wp2
  go_ret
  exact ⟨-1,rfl,.inl rfl,yH _ _⟩
theorem toReply_any (code app:Int) (xo:Option Addr) (xl xc:Nat) (yo:Option Addr) (yl yc:Nat) (cs:List Con) (kill:List Int) (w:World) (h:ConRow w xo xl cs) (h':NRow w yo yl kill) (hl:xl≤1048576) (hl':yl≤1048576) :
  Calls Tryz.prog 58 #[rplv code app xo xl xc yo yl yc] w fun e w'=>∃g1 g2,e=.returned (rplv code app (some ⟨g1,0,none⟩) xl xl (some ⟨g2,0,none⟩) yl yl)∧w.heap.size<g1∧w.heap.size<g2∧ConBlk w' 74 g1 xl xl cs∧IBlk w' 3 g2 yl yl kill∧Below w.heap.size w w':=by
 have HR:=hide h
 have HR':=hide h'
 clear h h'
 have HB0:=hide (yA (yA (yA (yH _ w) (.cells #[.int .i64 code,.int .i64 app,.slice xo xl xc,.slice yo yl yc] 107)) (.cells #[.int .i64 0,.int .i64 0,.slice none 0 0,.slice none 0 0] 110)) (.cells #[.int .i64 code,.int .i64 app,.slice none 0 0,.slice none 0 0] 110))
 have P0:=hide (((yD w #[.int .i64 code,.int .i64 app,.slice xo xl xc,.slice yo yl yc] 107).al (.cells #[.int .i64 0,.int .i64 0,.slice none 0 0,.slice none 0 0] 110)).al (.cells #[.int .i64 code,.int .i64 app,.slice none 0 0,.slice none 0 0] 110))
 have R0:=hide ((yD (w.alloc (.cells #[.int .i64 code,.int .i64 app,.slice xo xl xc,.slice yo yl yc] 107)) #[.int .i64 0,.int .i64 0,.slice none 0 0,.slice none 0 0] 110).al (.cells #[.int .i64 code,.int .i64 app,.slice none 0 0,.slice none 0 0] 110))
 have O0:=hide (yD ((w.alloc (.cells #[.int .i64 code,.int .i64 app,.slice xo xl xc,.slice yo yl yc] 107)).alloc (.cells #[.int .i64 0,.int .i64 0,.slice none 0 0,.slice none 0 0] 110)) #[.int .i64 code,.int .i64 app,.slice none 0 0,.slice none 0 0] 110)
 go_enter Tryz.func58,Tryz.ntmps58
 go_wp2_with fail
 refine (toContS_any xo xl xc cs _ ((uH HR).below (uH HB0)) hl).mono ?_
 rintro e w1 ⟨rfl,hq,hb⟩
 have P1:=hide ((uH P0).below hb)
 have r1:=(uH R0).below hb
 have o1:=(uH O0).below hb
 simp only [yE] at r1 o1 hq
 have R1:=hide r1
 have O1:=hide o1
 have HB1:=hide (yB (uH HB0) hb)
 have C1:=hide hq
 have z1:=hq.lt
 clear hb P0 R0 O0 HB0 HR hq r1 o1
 have p3:=(uH P1).at 3
 have o2:=(uH O1).at 2
 have of2:=(uH O1).f 2
 simp at p3 o2
 go_wp2_with fail
 refine (toIntS_any yo yl yc kill _ ((uH HR').below (yC (uH HB1) _ _ _ (by omega))) hl').mono ?_
 rintro e w2 ⟨rfl,hq,hb⟩
 simp only [set_size] at hq
 have HB2:=hide (yB (yC (uH HB1) _ _ _ (show w.heap.size≤w.heap.size+1+1 by omega)) hb)
 have R2:=hide (((uH R1).other _ _ _ (show w.heap.size+1≠w.heap.size+1+1 by omega)).below hb)
 have O2:=hide (show Blk w2 (w.heap.size+1+1) #[.int .i64 code,.int .i64 app,.slice (some ⟨w.heap.size+1+1+1,0,none⟩) xl xl,.slice none 0 0] 110 from ((uH O1).set 2 _).below hb)
 have C2:=hide (((uH C1).other _ _ _ (show w.heap.size+1+1+1≠w.heap.size+1+1 by omega)).below hb)
 obtain ⟨g2,hg2⟩:∃g,w1.heap.size=g:=⟨_,rfl⟩
 simp only [set_size]
 rw [hg2] at hq z1 ⊢
 have I2:=hide hq
 have z2:=hq.lt
 clear hb P1 R1 O1 HB1 HR' C1 hq p3 o2 of2 hg2
 have o3:=(uH O2).at 3
 have of3:=(uH O2).f 3
 simp at o3
 go_upto_region 6 with fail
 have HB3:=hide (yC (uH HB2) (w.heap.size+1+1) 3 (.slice (some ⟨g2,0,none⟩) yl yl) (by omega))
 have R3:=hide ((uH R2).other (w.heap.size+1+1) 3 (.slice (some ⟨g2,0,none⟩) yl yl) (by omega))
 have O3:=hide (show Blk (w2.setCell ⟨w.heap.size+1+1,3,none⟩ (.slice (some ⟨g2,0,none⟩) yl yl)) (w.heap.size+1+1) #[.int .i64 code,.int .i64 app,.slice (some ⟨w.heap.size+1+1+1,0,none⟩) xl xl,.slice (some ⟨g2,0,none⟩) yl yl] 110 from (uH O2).set 3 _)
 have C3:=hide ((uH C2).other (w.heap.size+1+1) 3 (.slice (some ⟨g2,0,none⟩) yl yl) (by omega))
 have I3:=hide (iblk_other (uH I2) (w.heap.size+1+1) 3 (.slice (some ⟨g2,0,none⟩) yl yl) (by omega))
 generalize w2.setCell ⟨w.heap.size+1+1,3,none⟩ (.slice (some ⟨g2,0,none⟩) yl yl)=w3 at HB3 R3 O3 C3 I3 ⊢
 clear o3 of3 HB2 R2 O2 C2 I2
 refine wp_region_lit ?_
 refine wpList_same (v:=.agg #[.int .i64 code,.int .i64 app,.slice (some ⟨w.heap.size+1+1+1,0,none⟩) xl xl,.slice (some ⟨g2,0,none⟩) yl yl]) (d:=some 18) rfl rfl (run_v (ns_load 110 (uH O3) Tryz.underlying110 rfl (by kernel_rfl))) ?_
 simp only [zW]
 refine wpList_none (d:=none) rfl rfl (run_u (ns_store 110 (uH R3) (by kernel_rfl) rfl (by kernel_rfl))) ?_
 simp only [Act.put]
 have M:=ns_mks (uH R3) #[.int .i64 code,.int .i64 app,.slice (some ⟨w.heap.size+1+1+1,0,none⟩) xl xl,.slice (some ⟨g2,0,none⟩) yl yl] rfl
 have R4:=hide (ns_blk (uH R3) #[.int .i64 code,.int .i64 app,.slice (some ⟨w.heap.size+1+1+1,0,none⟩) xl xl,.slice (some ⟨g2,0,none⟩) yl yl])
 have HB4:=hide ((uH HB3).trans (M.below (fun k e=>by subst e;omega) (uH HB3).size))
 have C4:=hide (conblk_mks (uH C3) M (by omega))
 have I4:=hide ((uH I3).mks M (by omega))
 clear M HB3 R3 O3 C3 I3
 generalize World.setRow w3 (w.heap.size+1) #[.int .i64 code,.int .i64 app,.slice (some ⟨w.heap.size+1+1+1,0,none⟩) xl xl,.slice (some ⟨g2,0,none⟩) yl yl]=w4 at R4 HB4 C4 I4 ⊢
 have r0:=(uH R4).at 0;have r1:=(uH R4).at 1;have r2:=(uH R4).at 2;have r3:=(uH R4).at 3
 simp at r0 r1 r2 r3
 clear R4
 go_wp2
 exact bodyPost_ret (v:=rplv code app (some ⟨w.heap.size+1+1+1,0,none⟩) xl xl (some ⟨g2,0,none⟩) yl yl) (by simp [results,Tryz.results58,go_sem,r0,r1,r2,r3]) rfl ⟨_,_,rfl,by omega,by omega,uH C4,uH I4,uH HB4⟩
theorem rplInfo:(Tryz.prog.info? 110).map (fun i=>(i.zero,i.size,i.bytes))=some (some (rplv 0 0 none 0 0 none 0 0),4,64):=by kernel_rfl
theorem make_rpls (n:Nat) (hn:n≤1048576) (w:World) :
  (Instr.makeSlice 43 (.int .i64 (n:Int)) (.int .i64 (n:Int))).run Tryz.prog w=.ok (.slice (some ⟨w.heap.size,0,none⟩) n n) (w.alloc (.cells (madeCells (rplv 0 0 none 0 0 none 0 0).cells (n*4)) 110)):=by
 obtain ⟨i,hi,hz⟩:=Option.map_eq_some_iff.1 rplInfo
 simp only [Prod.mk.injEq] at hz
 obtain ⟨hz,hs,hb⟩:=hz
 have hr:=run_make (P:=Tryz.prog) w 43 110 i _ Tryz.underlying43 hi hz .i64 .i64 n n (by omega) (Int.le_refl _) (by rw [hb];omega) (by omega)
 simp only [Int.toNat_natCast,hs] at hr
 exact hr
theorem toReplyS_any (ao:Option Addr) (len cap:Nat) (l:List Rpl) (w:World) (h:RplRow w ao len l) (hl:len≤1048576) (hk:∀q ∈ l,q.cs.length≤1048576∧q.kill.length≤1048576) :
  Calls Tryz.prog 30 #[.slice ao len cap] w fun e w'=>e=.returned (.slice (some ⟨w.heap.size,0,none⟩) len len)∧RplBlk w' 110 w.heap.size len len l∧Below w.heap.size w w':=by
 have HR:=hide h
 have HL:=hide h.1
 have HK:=hide hk
 have hmk:=make_rpls len hl w
 obtain ⟨zs,hzs⟩:∃z,z=(rplv 0 0 none 0 0 none 0 0).cells:=⟨_,rfl⟩
 rw [←hzs] at hmk
 clear h hzs hk
 go_enter Tryz.func30,Tryz.ntmps30
 go_wp2
 clear hmk
 go_loopw [4] (fun i wr=>∃k:Nat,k≤len∧i=.int .i64 k∧Hid (RplBlk wr 110 w.heap.size len k l)∧Hid (Below w.heap.size w wr)) (fun i _=>len - (intOf i).toNat)
 case atStart=>exact ⟨0,Nat.zero_le _,rfl,hide (rplblk_made w _ _ _ _),hide (yA (yH _ _) _)⟩
 case round=>
  obtain ⟨k,hk,rfl,HQ,HB⟩:=hrel
  by_cases hlt:k<len
  ·obtain ⟨b,off,rfl,hq⟩:=((uH HR).below (uH HB)).at hlt
   have hkl:k<l.length:=by have:=uH HL;omega
   have hkn:=uH HK l[k] (yM _)
   obtain ⟨xo,xl,xc,yo,yl,yc,c0,c1,c2,c3,hrow,hrow2⟩:=hq hkl
   have hst:=fun wx (hx:RplBlk wx 110 w.heap.size len k l) xo xl xc yo yl yc (h0:CsOwn wx w.heap.size xo xl xc l[k].cs) (h1:KlOwn wx w.heap.size yo yl yc l[k].kill)=>hx.step hlt hkl xo xl xc yo yl yc h0 h1
   obtain ⟨q,hs⟩:∃q,l[k]=q:=⟨_,rfl⟩
   rw [hs] at c0 c1 hst hrow hrow2 hkn
   obtain ⟨code,app,cs,kill⟩:=q
   simp only at c0 c1 hst hrow hrow2 hkn
   have HXL:=hide hrow.1
   have HYL:=hide hrow2.1
   have hxl:xl≤1048576:=by have:=hrow.1;omega
   have hyl:yl≤1048576:=by have:=hrow2.1;omega
   have HST:=hide hst
   have HROW:=hide hrow
   have HROW2:=hide hrow2
   have hsz:=(uH HQ).lt
   clear hst hq hs hkl hrow hrow2 hkn
   go_wp2_with fail
   refine (toReply_any code app xo xl xc yo yl yc cs kill _ (uH HROW) (uH HROW2) hxl hyl).mono ?_
   rintro e w1 ⟨g1,g2,rfl,hg1,hg2,hab,hib,hb⟩
   have HQ1:=hide ((uH HQ).below hb)
   have HB1:=hide (yB (uH HB) hb)
   have HO:=hide (show CsOwn w1 w.heap.size (some ⟨g1,0,none⟩) xl xl cs from ⟨hab.row (uH HXL),rfl,g1,rfl,by omega,conblk_any hab⟩)
   have HO2:=hide (show KlOwn w1 w.heap.size (some ⟨g2,0,none⟩) yl yl kill from ⟨hib.row (uH HYL),rfl,g2,rfl,by omega,iblk_any hib⟩)
   clear hb c0 c1 c2 c3 hab hib
   obtain ⟨v0,d0⟩:=(uH HQ1).cell (j:=k*4) (by omega)
   obtain ⟨v1,d1⟩:=(uH HQ1).cell (j:=k*4+1) (by omega)
   obtain ⟨v2,d2⟩:=(uH HQ1).cell (j:=k*4+2) (by omega)
   obtain ⟨v3,d3⟩:=(uH HQ1).cell (j:=k*4+3) (by omega)
   have f0:=(uH HQ1).frozen (k*4)
   have f1:=(uH HQ1).frozen (k*4+1)
   have f2:=(uH HQ1).frozen (k*4+2)
   have f3:=(uH HQ1).frozen (k*4+3)
   go_wp2
   go_roundw
   case rel=>exact ⟨k+1,by omega,by go_num,hide (uH HST _ (uH HQ1) _ _ _ _ _ _ (uH HO) (uH HO2)),hide (yC (yC (yC (yC (uH HB1) _ _ _ (by omega)) _ _ _ (by omega)) _ _ _ (by omega)) _ _ _ (by omega))⟩
   case measure=>simp [intOf];omega
  ·have hkk:k=len:=by omega
   subst hkk
   go_wp2
   go_ret
   exact ⟨rfl,uH HQ,uH HB⟩
end
end Go.Proofs.YtmkedfdnokmglaaGreat
