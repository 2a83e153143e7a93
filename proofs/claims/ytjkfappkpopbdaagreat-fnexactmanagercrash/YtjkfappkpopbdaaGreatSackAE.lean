/-
  What a keeper hands out: a manager; a walk over the dump.
-/
import Derived.Test.YtjkfappkpopbdaaGreatSackAC
set_option maxRecDepth 100000
set_option maxHeartbeats 16000000
set_option linter.unusedVariables false
set_option linter.unusedSimpArgs false
namespace Go.Proofs.YtjkfappkpopbdaaGreat
section
open Go.RowKit
theorem handOut_any (k:Nat) (x:Sls) (s:St) (log:List UInt8) (safe:Int) (wo:Option Addr) (wl wc:Nat) (l:List Rpl) (w:World) (h:Blk w k (kpc x s 0 log safe wo wl wc) 102) :
  Calls Tryz.prog 20 #[.pointer (some ⟨k,0,none⟩)] w fun e w'=>e=.returned (mgrv ⟨x,wo,wl,wc⟩ ⟨s,log,safe,l⟩)∧Mks (fun j=>j=k) w w':=by
 obtain ⟨qa,ql,qc,aa,al,ac,ma,ml,mc,ca,cl,cc⟩:=x
 obtain ⟨qs,clock,epoch,next,serial,apps,ms,cs⟩:=s
 have hkw:=h.lt
 have K0:=hide (h.al (.cells #[.slice none 0 0,.int .i64 0,.int .i64 0,.int .i64 0,.int .i64 0,.slice none 0 0,.slice none 0 0,.slice none 0 0,.string ⟨#[]⟩,.int .i64 0,.slice none 0 0] 40))
 have H0:=hide h
 have c0:(w.alloc (.cells #[.slice none 0 0,.int .i64 0,.int .i64 0,.int .i64 0,.int .i64 0,.slice none 0 0,.slice none 0 0,.slice none 0 0,.string ⟨#[]⟩,.int .i64 0,.slice none 0 0] 40)).cell? ⟨k,0,none⟩=some (.int .i32 0):=(uH K0).at 0
 have f0:=(uH K0).f 0
 clear h
 go_enter_defers Tryz.func20,Tryz.ntmps20
 go_wp2_with fail
 refine (lock_free ⟨k,0,none⟩ _ c0 f0).mono ?_
 rintro e w1 ⟨rfl,rfl⟩
 have K1:=hide (show Blk ((w.setCell ⟨k,0,none⟩ (.int .i32 1)).alloc (.cells #[.slice none 0 0,.int .i64 0,.int .i64 0,.int .i64 0,.int .i64 0,.slice none 0 0,.slice none 0 0,.slice none 0 0,.string ⟨#[]⟩,.int .i64 0,.slice none 0 0] 40)) k #[.int .i32 1,.int .u32 0,.slice qa ql qc,.int .i64 clock,.int .i64 epoch,.int .i64 next,.int .i64 serial,.slice aa al ac,.slice ma ml mc,.slice ca cl cc,.string (bs log),.int .i64 safe,.slice wo wl wc] 102 from ((uH H0).set 0 (.int .i32 1)).al _)
 have Z1:=hide (show Blk ((w.setCell ⟨k,0,none⟩ (.int .i32 1)).alloc (.cells #[.slice none 0 0,.int .i64 0,.int .i64 0,.int .i64 0,.int .i64 0,.slice none 0 0,.slice none 0 0,.slice none 0 0,.string ⟨#[]⟩,.int .i64 0,.slice none 0 0] 40)) w.heap.size #[.slice none 0 0,.int .i64 0,.int .i64 0,.int .i64 0,.int .i64 0,.slice none 0 0,.slice none 0 0,.slice none 0 0,.string ⟨#[]⟩,.int .i64 0,.slice none 0 0] 40 by have:=yD (w.setCell ⟨k,0,none⟩ (.int .i32 1)) #[.slice none 0 0,.int .i64 0,.int .i64 0,.int .i64 0,.int .i64 0,.slice none 0 0,.slice none 0 0,.slice none 0 0,.string ⟨#[]⟩,.int .i64 0,.slice none 0 0] 40;rwa [set_size] at this)
 have M1:=hide ((Mks.one (fun j=>j=k) w k 0 (.int .i32 1) rfl).on (yA (yH _ _) (.cells #[.slice none 0 0,.int .i64 0,.int .i64 0,.int .i64 0,.int .i64 0,.slice none 0 0,.slice none 0 0,.slice none 0 0,.string ⟨#[]⟩,.int .i64 0,.slice none 0 0] 40)))
 clear c0 f0 K0 H0
 go_upto_region 3 with fail
 obtain ⟨W,hW⟩:∃W,(w.setCell ⟨k,0,none⟩ (.int .i32 1)).alloc (.cells #[.slice none 0 0,.int .i64 0,.int .i64 0,.int .i64 0,.int .i64 0,.slice none 0 0,.slice none 0 0,.slice none 0 0,.string ⟨#[]⟩,.int .i64 0,.slice none 0 0] 40)=W:=⟨_,rfl⟩
 rw [hW] at K1 Z1 M1 ⊢
 clear hW
 obtain ⟨g,hg⟩:∃g,w.heap.size=g:=⟨_,rfl⟩
 have hgw:w.heap.size≤g:=by omega
 rw [hg] at Z1 hkw ⊢
 clear hg
 have R:∀wx,MkG g W wx→wx.cell? ⟨k,2,none⟩=some (.slice qa ql qc)∧wx.cell? ⟨k,3,none⟩=some (.int .i64 clock)∧wx.cell? ⟨k,4,none⟩=some (.int .i64 epoch)∧wx.cell? ⟨k,5,none⟩=some (.int .i64 next)∧wx.cell? ⟨k,6,none⟩=some (.int .i64 serial)∧wx.cell? ⟨k,7,none⟩=some (.slice aa al ac)∧wx.cell? ⟨k,8,none⟩=some (.slice ma ml mc)∧wx.cell? ⟨k,9,none⟩=some (.slice ca cl cc)∧wx.cell? ⟨k,10,none⟩=some (.string (bs log))∧wx.cell? ⟨k,11,none⟩=some (.int .i64 safe)∧wx.cell? ⟨k,12,none⟩=some (.slice wo wl wc):=fun wx hx=>
  have P:=hx.blk (uH K1) (by omega)
  ⟨P.at 2,P.at 3,P.at 4,P.at 5,P.at 6,P.at 7,P.at 8,P.at 9,P.at 10,P.at 11,P.at 12⟩
 refine wp_region_noPanic ?_
 refine wp_region_held_drew (S:=fun wx=>MkG g W wx) (by kernel_rfl) (Mks.of_below (yH _ W).drew) (fun S0=>?_)
 have Z1d:=hide (show Blk W.drew g #[.slice none 0 0,.int .i64 0,.int .i64 0,.int .i64 0,.int .i64 0,.slice none 0 0,.slice none 0 0,.slice none 0 0,.string ⟨#[]⟩,.int .i64 0,.slice none 0 0] 40 from uH Z1)
 clear Z1
 have Z1:=hide (uH Z1d)
 clear Z1d
 generalize W.drew=w1 at S0 Z1 ⊢
 refine tW 0 10 _ S0 ?_
 try simp only [zW]
 refine tW 1 11 _ S0 ?_
 try simp only [zW]
 refine tW 2 12 _ S0 ?_
 try simp only [zW]
 refine tW 3 13 (.agg #[.slice qa ql qc,.int .i64 clock,.int .i64 epoch,.int .i64 next,.int .i64 serial,.slice aa al ac,.slice ma ml mc,.slice ca cl cc]) S0 ?_
 try simp only [zW]
 refine tW 4 14 _ S0 ?_
 try simp only [zW]
 refine tW 5 15 _ S0 ?_
 try simp only [zW]
 refine tW 6 16 _ S0 ?_
 try simp only [zW]
 refine tW 7 17 (.string (bs log)) S0 ?_
 try simp only [zW]
 refine tW 8 18 _ S0 ?_
 try simp only [zW]
 refine tW 9 19 _ S0 ?_
 try simp only [zW]
 refine tW 10 20 _ S0 ?_
 try simp only [zW]
 refine tW 11 21 (.int .i64 safe) S0 ?_
 try simp only [zW]
 refine tW 12 22 _ S0 ?_
 try simp only [zW]
 refine tW 13 23 _ S0 ?_
 try simp only [zW]
 refine tW 14 24 _ S0 ?_
 try simp only [zW]
 refine tW 15 25 (.slice wo wl wc) S0 ?_
 try simp only [zW]
 clear R
 refine wpAnyH_ready (rs:=[16]) (by kernel_rfl) (by simp) (AllReadyH.cons rfl (fun K hK=>?_) AllReadyH.nil)
 refine op_nothing (by kernel_rfl) (run_u (ns_store 40 (uH Z1) (by kernel_rfl) rfl (by kernel_rfl))) ?_
 have Z2:=hide (show Blk (World.setRow w1 g #[.slice none 0 0,.int .i64 0,.int .i64 0,.int .i64 0,.int .i64 0,.slice none 0 0,.slice none 0 0,.slice none 0 0,.string ⟨#[]⟩,.int .i64 0,.slice none 0 0]) g #[.slice none 0 0,.int .i64 0,.int .i64 0,.int .i64 0,.int .i64 0,.slice none 0 0,.slice none 0 0,.slice none 0 0,.string ⟨#[]⟩,.int .i64 0,.slice none 0 0] 40 from ns_blk (uH Z1) _)
 have S1:MkG g W (World.setRow w1 g #[.slice none 0 0,.int .i64 0,.int .i64 0,.int .i64 0,.int .i64 0,.slice none 0 0,.slice none 0 0,.slice none 0 0,.string ⟨#[]⟩,.int .i64 0,.slice none 0 0]):=S0.trans ((ns_mks (uH Z1) #[.slice none 0 0,.int .i64 0,.int .i64 0,.int .i64 0,.int .i64 0,.slice none 0 0,.slice none 0 0,.slice none 0 0,.string ⟨#[]⟩,.int .i64 0,.slice none 0 0] rfl).mono (fun j e=>e))
 clear Z1 S0
 generalize World.setRow w1 g #[.slice none 0 0,.int .i64 0,.int .i64 0,.int .i64 0,.int .i64 0,.slice none 0 0,.slice none 0 0,.slice none 0 0,.string ⟨#[]⟩,.int .i64 0,.slice none 0 0]=w2 at Z2 S1 ⊢
 refine hK.out _ _ S1 (fun S0=>?_)
 clear hK K S1
 try simp only [zW]
 refine tW 17 26 _ S0 ?_
 try simp only [zW]
 refine wpAnyH_ready (rs:=[18]) (by kernel_rfl) (by simp) (AllReadyH.cons rfl (fun K hK=>?_) AllReadyH.nil)
 refine op_nothing (by kernel_rfl) (run_u (mid_store 37 0 #[.slice qa ql qc,.int .i64 clock,.int .i64 epoch,.int .i64 next,.int .i64 serial,.slice aa al ac,.slice ma ml mc,.slice ca cl cc] (uH Z2) (by simp) (by kernel_rfl) (by kernel_rfl))) ?_
 have Z3:=hide (show Blk (World.setCells w2 g 0 [.slice qa ql qc,.int .i64 clock,.int .i64 epoch,.int .i64 next,.int .i64 serial,.slice aa al ac,.slice ma ml mc,.slice ca cl cc]) g #[.slice qa ql qc,.int .i64 clock,.int .i64 epoch,.int .i64 next,.int .i64 serial,.slice aa al ac,.slice ma ml mc,.slice ca cl cc,.string ⟨#[]⟩,.int .i64 0,.slice none 0 0] 40 from blk_cells [.slice qa ql qc,.int .i64 clock,.int .i64 epoch,.int .i64 next,.int .i64 serial,.slice aa al ac,.slice ma ml mc,.slice ca cl cc] 0 _ _ (uH Z2) (by simp))
 have S1:MkG g W (World.setCells w2 g 0 [.slice qa ql qc,.int .i64 clock,.int .i64 epoch,.int .i64 next,.int .i64 serial,.slice aa al ac,.slice ma ml mc,.slice ca cl cc]):=S0.trans (mks_part (S:=fun j=>j=g) rfl [.slice qa ql qc,.int .i64 clock,.int .i64 epoch,.int .i64 next,.int .i64 serial,.slice aa al ac,.slice ma ml mc,.slice ca cl cc] 0 w2)
 clear Z2 S0
 generalize World.setCells w2 g 0 [.slice qa ql qc,.int .i64 clock,.int .i64 epoch,.int .i64 next,.int .i64 serial,.slice aa al ac,.slice ma ml mc,.slice ca cl cc]=w3 at Z3 S1 ⊢
 refine hK.out _ _ S1 (fun S0=>?_)
 clear hK K S1
 try simp only [zW]
 refine tW 19 27 _ S0 ?_
 try simp only [zW]
 refine wpAnyH_ready (rs:=[20]) (by kernel_rfl) (by simp) (AllReadyH.cons rfl (fun K hK=>?_) AllReadyH.nil)
 refine op_nothing (by kernel_rfl) (run_u (put_cell 9 (.string (bs log)) (uH Z3) (by simp) (by kernel_rfl) rfl)) ?_
 have Z4:=hide (show Blk (World.setCell w3 ⟨g,8,none⟩ (.string (bs log))) g #[.slice qa ql qc,.int .i64 clock,.int .i64 epoch,.int .i64 next,.int .i64 serial,.slice aa al ac,.slice ma ml mc,.slice ca cl cc,.string (bs log),.int .i64 0,.slice none 0 0] 40 from (uH Z3).set 8 (.string (bs log)))
 have S1:MkG g W (World.setCell w3 ⟨g,8,none⟩ (.string (bs log))):=S0.trans (Mks.one (fun j=>j=g) w3 g 8 (.string (bs log)) rfl)
 clear Z3 S0
 generalize World.setCell w3 ⟨g,8,none⟩ (.string (bs log))=w4 at Z4 S1 ⊢
 refine hK.out _ _ S1 (fun S0=>?_)
 clear hK K S1
 try simp only [zW]
 refine tW 21 28 _ S0 ?_
 try simp only [zW]
 refine wpAnyH_ready (rs:=[22]) (by kernel_rfl) (by simp) (AllReadyH.cons rfl (fun K hK=>?_) AllReadyH.nil)
 refine op_nothing (by kernel_rfl) (run_u (put_cell 3 (.int .i64 safe) (uH Z4) (by simp) (by kernel_rfl) rfl)) ?_
 have Z5:=hide (show Blk (World.setCell w4 ⟨g,9,none⟩ (.int .i64 safe)) g #[.slice qa ql qc,.int .i64 clock,.int .i64 epoch,.int .i64 next,.int .i64 serial,.slice aa al ac,.slice ma ml mc,.slice ca cl cc,.string (bs log),.int .i64 safe,.slice none 0 0] 40 from (uH Z4).set 9 (.int .i64 safe))
 have S1:MkG g W (World.setCell w4 ⟨g,9,none⟩ (.int .i64 safe)):=S0.trans (Mks.one (fun j=>j=g) w4 g 9 (.int .i64 safe) rfl)
 clear Z4 S0
 generalize World.setCell w4 ⟨g,9,none⟩ (.int .i64 safe)=w5 at Z5 S1 ⊢
 refine hK.out _ _ S1 (fun S0=>?_)
 clear hK K S1
 try simp only [zW]
 refine tW 23 29 _ S0 ?_
 try simp only [zW]
 refine wpAnyH_ready (rs:=[24]) (by kernel_rfl) (by simp) (AllReadyH.cons rfl (fun K hK=>?_) AllReadyH.nil)
 refine op_nothing (by kernel_rfl) (run_u (put_cell 38 (.slice wo wl wc) (uH Z5) (by simp) (by kernel_rfl) rfl)) ?_
 have Z6:=hide (show Blk (World.setCell w5 ⟨g,10,none⟩ (.slice wo wl wc)) g #[.slice qa ql qc,.int .i64 clock,.int .i64 epoch,.int .i64 next,.int .i64 serial,.slice aa al ac,.slice ma ml mc,.slice ca cl cc,.string (bs log),.int .i64 safe,.slice wo wl wc] 40 from (uH Z5).set 10 (.slice wo wl wc))
 have S1:MkG g W (World.setCell w5 ⟨g,10,none⟩ (.slice wo wl wc)):=S0.trans (Mks.one (fun j=>j=g) w5 g 10 (.slice wo wl wc) rfl)
 clear Z5 S0
 generalize World.setCell w5 ⟨g,10,none⟩ (.slice wo wl wc)=w6 at Z6 S1 ⊢
 refine hK.out _ _ S1 (fun S0=>?_)
 clear hK K S1
 try simp only [zW]
 refine wpAnyH_done (by kernel_rfl) ?_ _
 refine NoPanic.normal ?_
 have K6:=hide (S0.blk (uH K1) (show ¬k=g by omega))
 have M6:=hide (mks_beyond (uH M1) S0 hgw)
 clear S0 K1 M1
 have r0:=(uH Z6).at 0;have r1:=(uH Z6).at 1;have r2:=(uH Z6).at 2;have r3:=(uH Z6).at 3;have r4:=(uH Z6).at 4;have r5:=(uH Z6).at 5;have r6:=(uH Z6).at 6;have r7:=(uH Z6).at 7;have r8:=(uH Z6).at 8;have r9:=(uH Z6).at 9;have r10:=(uH Z6).at 10
 simp at r0 r1 r2 r3 r4 r5 r6 r7 r8 r9 r10
 have k0:=(uH K6).at 0
 have kf:=(uH K6).f 0
 simp at k0
 go_wp2
 refine leaves_cons (f:=49) (args:=#[.pointer (some ⟨k,0,none⟩)]) (by simp) (by simp [go_sem]) ?_
 refine (unlock_deferred ⟨k,0,none⟩ .returning _ k0 kf).mono ?_
 rintro e u' w7 ⟨rfl,rfl,rfl⟩
 have Z7:=hide ((uH Z6).other k 0 (.int .i32 0) (by omega))
 have M7:=hide ((uH M6).sc k 0 (.int .i32 0) rfl)
 have s0:=(uH Z7).at 0;have s1:=(uH Z7).at 1;have s2:=(uH Z7).at 2;have s3:=(uH Z7).at 3;have s4:=(uH Z7).at 4;have s5:=(uH Z7).at 5;have s6:=(uH Z7).at 6;have s7:=(uH Z7).at 7;have s8:=(uH Z7).at 8;have s9:=(uH Z7).at 9;have s10:=(uH Z7).at 10
 simp at s0 s1 s2 s3 s4 s5 s6 s7 s8 s9 s10
 refine ⟨mgrv ⟨⟨qa,ql,qc,aa,al,ac,ma,ml,mc,ca,cl,cc⟩,wo,wl,wc⟩ ⟨⟨qs,clock,epoch,next,serial,apps,ms,cs⟩,log,safe,l⟩,?_,rfl,uH M7⟩
 simp [results,Tryz.results20,go_sem,s0,s1,s2,s3,s4,s5,s6,s7,s8,s9,s10]
end
end Go.Proofs.YtjkfappkpopbdaaGreat
