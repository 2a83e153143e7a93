/-
  The laws' own toManager and toCluster: made anew; walks over the dump.
-/
import Derived.Test.YtmkedfdnokmglaaGreatPackL
set_option maxRecDepth 100000
set_option maxHeartbeats 16000000
set_option linter.unusedVariables false
set_option linter.unusedSimpArgs false
namespace Go.Proofs.YtmkedfdnokmglaaGreat
section
open Go.RowKit
theorem toManager_any (y:Mgs) (m:Mgr) (w:World) (h:MRow w y m) (hf:FitMgr m) :
  Calls Tryz.prog 29 #[mgrv y m] w fun e w'=>∃y',e=.returned (mgrv y' m)∧MMd w' w.heap.size w'.heap.size y' m∧Below w.heap.size w w':=by
 have HLEN:=hide h.1.len
 have HWL:=hide h.2.1
 obtain ⟨⟨qa,ql,qc,aa,al,ac,ma,ml,mc,ca,cl,cc⟩,wo,wl,wc⟩:=y
 obtain ⟨⟨qs,clock,epoch,next,serial,apps,ms,cs⟩,log,safe,wait⟩:=m
 obtain ⟨a1,a2⟩:=h
 simp only at a1 a2 HLEN HWL
 have hwl:wl≤1048576:=by have:=hf.2.2.1;have:=uH HWL;simp only at *;omega
 have HK:=hide (show ∀q ∈ apps,q.asks.length≤1048576 from fun q hq=>(hf.1.2.1.2 q hq).2.1)
 have HTWO:=hide hf.2.2.two
 have HB0:=hide (yA (yA (yA (yH _ w) (.cells #[.slice qa ql qc,.int .i64 clock,.int .i64 epoch,.int .i64 next,.int .i64 serial,.slice aa al ac,.slice ma ml mc,.slice ca cl cc,.string (bs log),.int .i64 safe,.slice wo wl wc] 30)) (.cells #[.slice none 0 0,.int .i64 0,.int .i64 0,.int .i64 0,.int .i64 0,.slice none 0 0,.slice none 0 0,.slice none 0 0,.string ⟨#[]⟩,.int .i64 0,.slice none 0 0] 45)) (.cells #[.slice none 0 0,.int .i64 0,.int .i64 0,.int .i64 0,.int .i64 0,.slice none 0 0,.slice none 0 0,.slice none 0 0,.string ⟨#[]⟩,.int .i64 0,.slice none 0 0] 45))
 have P0:=hide (((yD w #[.slice qa ql qc,.int .i64 clock,.int .i64 epoch,.int .i64 next,.int .i64 serial,.slice aa al ac,.slice ma ml mc,.slice ca cl cc,.string (bs log),.int .i64 safe,.slice wo wl wc] 30).al (.cells #[.slice none 0 0,.int .i64 0,.int .i64 0,.int .i64 0,.int .i64 0,.slice none 0 0,.slice none 0 0,.slice none 0 0,.string ⟨#[]⟩,.int .i64 0,.slice none 0 0] 45)).al (.cells #[.slice none 0 0,.int .i64 0,.int .i64 0,.int .i64 0,.int .i64 0,.slice none 0 0,.slice none 0 0,.slice none 0 0,.string ⟨#[]⟩,.int .i64 0,.slice none 0 0] 45))
 have R0:=hide (show Blk _ (w.heap.size+1) #[.slice none 0 0,.int .i64 0,.int .i64 0,.int .i64 0,.int .i64 0,.slice none 0 0,.slice none 0 0,.slice none 0 0,.string ⟨#[]⟩,.int .i64 0,.slice none 0 0] 45 by have:=(yD (w.alloc (.cells #[.slice qa ql qc,.int .i64 clock,.int .i64 epoch,.int .i64 next,.int .i64 serial,.slice aa al ac,.slice ma ml mc,.slice ca cl cc,.string (bs log),.int .i64 safe,.slice wo wl wc] 30)) #[.slice none 0 0,.int .i64 0,.int .i64 0,.int .i64 0,.int .i64 0,.slice none 0 0,.slice none 0 0,.slice none 0 0,.string ⟨#[]⟩,.int .i64 0,.slice none 0 0] 45).al (.cells #[.slice none 0 0,.int .i64 0,.int .i64 0,.int .i64 0,.int .i64 0,.slice none 0 0,.slice none 0 0,.slice none 0 0,.string ⟨#[]⟩,.int .i64 0,.slice none 0 0] 45);rwa [yE] at this)
 have O0:=hide (show Blk _ (w.heap.size+1+1) #[.slice none 0 0,.int .i64 0,.int .i64 0,.int .i64 0,.int .i64 0,.slice none 0 0,.slice none 0 0,.slice none 0 0,.string ⟨#[]⟩,.int .i64 0,.slice none 0 0] 45 by have:=yD ((w.alloc (.cells #[.slice qa ql qc,.int .i64 clock,.int .i64 epoch,.int .i64 next,.int .i64 serial,.slice aa al ac,.slice ma ml mc,.slice ca cl cc,.string (bs log),.int .i64 safe,.slice wo wl wc] 30)).alloc (.cells #[.slice none 0 0,.int .i64 0,.int .i64 0,.int .i64 0,.int .i64 0,.slice none 0 0,.slice none 0 0,.slice none 0 0,.string ⟨#[]⟩,.int .i64 0,.slice none 0 0] 45)) #[.slice none 0 0,.int .i64 0,.int .i64 0,.int .i64 0,.int .i64 0,.slice none 0 0,.slice none 0 0,.slice none 0 0,.string ⟨#[]⟩,.int .i64 0,.slice none 0 0] 45;rwa [yE,yE] at this)
 have CS:=hide (toState_any ⟨qa,ql,qc,aa,al,ac,ma,ml,mc,ca,cl,cc⟩ ⟨qs,clock,epoch,next,serial,apps,ms,cs⟩ _ (a1.below (uH HB0)) hf.1)
 have HW:=hide a2
 clear a1 a2 hf
 have p0:=(uH P0).at 0;have p1:=(uH P0).at 1;have p2:=(uH P0).at 2;have p3:=(uH P0).at 3;have p4:=(uH P0).at 4;have p5:=(uH P0).at 5;have p6:=(uH P0).at 6;have p7:=(uH P0).at 7
 simp at p0 p1 p2 p3 p4 p5 p6 p7
 go_enter Tryz.func29,Tryz.ntmps29
 go_wp2_with fail
 refine (uH CS).mono ?_
 rintro e w1 ⟨g1,g2,g3,g4,rfl,hq,hgs,hb⟩
 simp only [yE] at hgs
 obtain ⟨b1,b2,b3,b4⟩:=hgs
 have HB1:=hide (yB (uH HB0) hb)
 have P1:=hide ((uH P0).below hb)
 have R1:=hide ((uH R0).below hb)
 have O1:=hide ((uH O0).below hb)
 have SO1:=hide hq
 have AW1:=hide ((hq.2.1.wh (uH HLEN).2.1 (uH HK)).mono (show w.heap.size+1+1+1≤g2+1 by omega) (yJ _))
 have b5:g4<w1.heap.size:=hq.2.2.2.lt
 clear hb hq CS P0 R0 O0 HB0 HK p0 p1 p2 p3 p4 p5 p6 p7
 have p8:=(uH P1).at 8;have p9:=(uH P1).at 9
 simp at p8 p9
 have o0:=(uH O1).at 0;have o1:=(uH O1).at 1;have o2:=(uH O1).at 2;have o3:=(uH O1).at 3;have o4:=(uH O1).at 4;have o5:=(uH O1).at 5;have o6:=(uH O1).at 6;have o7:=(uH O1).at 7;have o8:=(uH O1).at 8;have o9:=(uH O1).at 9
 simp at o0 o1 o2 o3 o4 o5 o6 o7 o8 o9
 have of0:=(uH O1).f 0;have of1:=(uH O1).f 1;have of2:=(uH O1).f 2;have of3:=(uH O1).f 3;have of4:=(uH O1).f 4;have of5:=(uH O1).f 5;have of6:=(uH O1).f 6;have of7:=(uH O1).f 7;have of8:=(uH O1).f 8;have of9:=(uH O1).f 9
 go_upto_region 5 with fail
 have hh:Hi (w.heap.size+1+1) w1 ((((((((((w1.setCell ⟨w.heap.size+1+1,0,none⟩ (.slice (some ⟨g1,0,none⟩) ql ql)).setCell ⟨w.heap.size+1+1,1,none⟩ (.int .i64 clock)).setCell ⟨w.heap.size+1+1,2,none⟩ (.int .i64 epoch)).setCell ⟨w.heap.size+1+1,3,none⟩ (.int .i64 next)).setCell ⟨w.heap.size+1+1,4,none⟩ (.int .i64 serial)).setCell ⟨w.heap.size+1+1,5,none⟩ (.slice (some ⟨g2,0,none⟩) al al)).setCell ⟨w.heap.size+1+1,6,none⟩ (.slice (some ⟨g3,0,none⟩) ml ml)).setCell ⟨w.heap.size+1+1,7,none⟩ (.slice (some ⟨g4,0,none⟩) cl cl)).setCell ⟨w.heap.size+1+1,8,none⟩ (.string (bs log))).setCell ⟨w.heap.size+1+1,9,none⟩ (.int .i64 safe)):=hi_sets w1 (w.heap.size+1+1) 0 [.slice (some ⟨g1,0,none⟩) ql ql,.int .i64 clock,.int .i64 epoch,.int .i64 next,.int .i64 serial,.slice (some ⟨g2,0,none⟩) al al,.slice (some ⟨g3,0,none⟩) ml ml,.slice (some ⟨g4,0,none⟩) cl cl,.string (bs log),.int .i64 safe]
 have HB2:=hide (show Below w.heap.size w ((((((((((w1.setCell ⟨w.heap.size+1+1,0,none⟩ (.slice (some ⟨g1,0,none⟩) ql ql)).setCell ⟨w.heap.size+1+1,1,none⟩ (.int .i64 clock)).setCell ⟨w.heap.size+1+1,2,none⟩ (.int .i64 epoch)).setCell ⟨w.heap.size+1+1,3,none⟩ (.int .i64 next)).setCell ⟨w.heap.size+1+1,4,none⟩ (.int .i64 serial)).setCell ⟨w.heap.size+1+1,5,none⟩ (.slice (some ⟨g2,0,none⟩) al al)).setCell ⟨w.heap.size+1+1,6,none⟩ (.slice (some ⟨g3,0,none⟩) ml ml)).setCell ⟨w.heap.size+1+1,7,none⟩ (.slice (some ⟨g4,0,none⟩) cl cl)).setCell ⟨w.heap.size+1+1,8,none⟩ (.string (bs log))).setCell ⟨w.heap.size+1+1,9,none⟩ (.int .i64 safe)) from below_sets (uH HB1) (by omega) 0 [.slice (some ⟨g1,0,none⟩) ql ql,.int .i64 clock,.int .i64 epoch,.int .i64 next,.int .i64 serial,.slice (some ⟨g2,0,none⟩) al al,.slice (some ⟨g3,0,none⟩) ml ml,.slice (some ⟨g4,0,none⟩) cl cl,.string (bs log),.int .i64 safe])
 have P2:=hide (show Blk ((((((((((w1.setCell ⟨w.heap.size+1+1,0,none⟩ (.slice (some ⟨g1,0,none⟩) ql ql)).setCell ⟨w.heap.size+1+1,1,none⟩ (.int .i64 clock)).setCell ⟨w.heap.size+1+1,2,none⟩ (.int .i64 epoch)).setCell ⟨w.heap.size+1+1,3,none⟩ (.int .i64 next)).setCell ⟨w.heap.size+1+1,4,none⟩ (.int .i64 serial)).setCell ⟨w.heap.size+1+1,5,none⟩ (.slice (some ⟨g2,0,none⟩) al al)).setCell ⟨w.heap.size+1+1,6,none⟩ (.slice (some ⟨g3,0,none⟩) ml ml)).setCell ⟨w.heap.size+1+1,7,none⟩ (.slice (some ⟨g4,0,none⟩) cl cl)).setCell ⟨w.heap.size+1+1,8,none⟩ (.string (bs log))).setCell ⟨w.heap.size+1+1,9,none⟩ (.int .i64 safe)) w.heap.size #[.slice qa ql qc,.int .i64 clock,.int .i64 epoch,.int .i64 next,.int .i64 serial,.slice aa al ac,.slice ma ml mc,.slice ca cl cc,.string (bs log),.int .i64 safe,.slice wo wl wc] 30 from (uH P1).other_sets (by omega) 0 [.slice (some ⟨g1,0,none⟩) ql ql,.int .i64 clock,.int .i64 epoch,.int .i64 next,.int .i64 serial,.slice (some ⟨g2,0,none⟩) al al,.slice (some ⟨g3,0,none⟩) ml ml,.slice (some ⟨g4,0,none⟩) cl cl,.string (bs log),.int .i64 safe])
 have R2:=hide (show Blk ((((((((((w1.setCell ⟨w.heap.size+1+1,0,none⟩ (.slice (some ⟨g1,0,none⟩) ql ql)).setCell ⟨w.heap.size+1+1,1,none⟩ (.int .i64 clock)).setCell ⟨w.heap.size+1+1,2,none⟩ (.int .i64 epoch)).setCell ⟨w.heap.size+1+1,3,none⟩ (.int .i64 next)).setCell ⟨w.heap.size+1+1,4,none⟩ (.int .i64 serial)).setCell ⟨w.heap.size+1+1,5,none⟩ (.slice (some ⟨g2,0,none⟩) al al)).setCell ⟨w.heap.size+1+1,6,none⟩ (.slice (some ⟨g3,0,none⟩) ml ml)).setCell ⟨w.heap.size+1+1,7,none⟩ (.slice (some ⟨g4,0,none⟩) cl cl)).setCell ⟨w.heap.size+1+1,8,none⟩ (.string (bs log))).setCell ⟨w.heap.size+1+1,9,none⟩ (.int .i64 safe)) (w.heap.size+1) #[.slice none 0 0,.int .i64 0,.int .i64 0,.int .i64 0,.int .i64 0,.slice none 0 0,.slice none 0 0,.slice none 0 0,.string ⟨#[]⟩,.int .i64 0,.slice none 0 0] 45 from (uH R1).other_sets (by omega) 0 [.slice (some ⟨g1,0,none⟩) ql ql,.int .i64 clock,.int .i64 epoch,.int .i64 next,.int .i64 serial,.slice (some ⟨g2,0,none⟩) al al,.slice (some ⟨g3,0,none⟩) ml ml,.slice (some ⟨g4,0,none⟩) cl cl,.string (bs log),.int .i64 safe])
 have O2:=hide (show Blk ((((((((((w1.setCell ⟨w.heap.size+1+1,0,none⟩ (.slice (some ⟨g1,0,none⟩) ql ql)).setCell ⟨w.heap.size+1+1,1,none⟩ (.int .i64 clock)).setCell ⟨w.heap.size+1+1,2,none⟩ (.int .i64 epoch)).setCell ⟨w.heap.size+1+1,3,none⟩ (.int .i64 next)).setCell ⟨w.heap.size+1+1,4,none⟩ (.int .i64 serial)).setCell ⟨w.heap.size+1+1,5,none⟩ (.slice (some ⟨g2,0,none⟩) al al)).setCell ⟨w.heap.size+1+1,6,none⟩ (.slice (some ⟨g3,0,none⟩) ml ml)).setCell ⟨w.heap.size+1+1,7,none⟩ (.slice (some ⟨g4,0,none⟩) cl cl)).setCell ⟨w.heap.size+1+1,8,none⟩ (.string (bs log))).setCell ⟨w.heap.size+1+1,9,none⟩ (.int .i64 safe)) (w.heap.size+1+1) #[.slice (some ⟨g1,0,none⟩) ql ql,.int .i64 clock,.int .i64 epoch,.int .i64 next,.int .i64 serial,.slice (some ⟨g2,0,none⟩) al al,.slice (some ⟨g3,0,none⟩) ml ml,.slice (some ⟨g4,0,none⟩) cl cl,.string (bs log),.int .i64 safe,.slice none 0 0] 45 from blk_part [.slice (some ⟨g1,0,none⟩) ql ql,.int .i64 clock,.int .i64 epoch,.int .i64 next,.int .i64 serial,.slice (some ⟨g2,0,none⟩) al al,.slice (some ⟨g3,0,none⟩) ml ml,.slice (some ⟨g4,0,none⟩) cl cl,.string (bs log),.int .i64 safe] 0 w1 _ (uH O1) (by simp))
 have SO2:=hide ((uH SO1).hi hh ⟨by omega,by omega,by omega,by omega⟩)
 have AW2:=hide ((uH AW1).hi hh ⟨by omega,by omega⟩)
 have hs2:((((((((((w1.setCell ⟨w.heap.size+1+1,0,none⟩ (.slice (some ⟨g1,0,none⟩) ql ql)).setCell ⟨w.heap.size+1+1,1,none⟩ (.int .i64 clock)).setCell ⟨w.heap.size+1+1,2,none⟩ (.int .i64 epoch)).setCell ⟨w.heap.size+1+1,3,none⟩ (.int .i64 next)).setCell ⟨w.heap.size+1+1,4,none⟩ (.int .i64 serial)).setCell ⟨w.heap.size+1+1,5,none⟩ (.slice (some ⟨g2,0,none⟩) al al)).setCell ⟨w.heap.size+1+1,6,none⟩ (.slice (some ⟨g3,0,none⟩) ml ml)).setCell ⟨w.heap.size+1+1,7,none⟩ (.slice (some ⟨g4,0,none⟩) cl cl)).setCell ⟨w.heap.size+1+1,8,none⟩ (.string (bs log))).setCell ⟨w.heap.size+1+1,9,none⟩ (.int .i64 safe)).heap.size=w1.heap.size:=by simp only [set_size]
 clear hh HB1 P1 R1 O1 SO1 AW1 p8 p9 o0 o1 o2 o3 o4 o5 o6 o7 o8 o9 of0 of1 of2 of3 of4 of5 of6 of7 of8 of9
 generalize ((((((((((w1.setCell ⟨w.heap.size+1+1,0,none⟩ (.slice (some ⟨g1,0,none⟩) ql ql)).setCell ⟨w.heap.size+1+1,1,none⟩ (.int .i64 clock)).setCell ⟨w.heap.size+1+1,2,none⟩ (.int .i64 epoch)).setCell ⟨w.heap.size+1+1,3,none⟩ (.int .i64 next)).setCell ⟨w.heap.size+1+1,4,none⟩ (.int .i64 serial)).setCell ⟨w.heap.size+1+1,5,none⟩ (.slice (some ⟨g2,0,none⟩) al al)).setCell ⟨w.heap.size+1+1,6,none⟩ (.slice (some ⟨g3,0,none⟩) ml ml)).setCell ⟨w.heap.size+1+1,7,none⟩ (.slice (some ⟨g4,0,none⟩) cl cl)).setCell ⟨w.heap.size+1+1,8,none⟩ (.string (bs log))).setCell ⟨w.heap.size+1+1,9,none⟩ (.int .i64 safe))=w2 at HB2 P2 R2 O2 SO2 AW2 hs2 ⊢
 obtain ⟨M,hM⟩:∃M,w1.heap.size=M:=⟨_,rfl⟩
 rw [hM] at AW2 b5 hs2
 clear hM
 have p10:=(uH P2).at 10
 simp at p10
 go_wp2_with fail
 refine (toReplyS_any wo wl wc wait _ ((uH HW).below (uH HB2)) hwl (uH HTWO)).mono ?_
 rintro e w3 ⟨rfl,hq,hb⟩
 rw [hs2] at hq
 rw [hs2]
 have HB3:=hide (yB (uH HB2) hb)
 have R3:=hide ((uH R2).below hb)
 have O3:=hide ((uH O2).below hb)
 have SO3:=hide ((uH SO2).below hb)
 have AW3:=hide ((uH AW2).below hb)
 have RB3:=hide hq
 have RW3:=hide ((hq.wh (uH HWL) (uH HTWO)).mono (show M≤M+1 by omega) (yJ _))
 have b6:M<w3.heap.size:=hq.lt
 clear hb hq HB2 P2 R2 O2 SO2 AW2 hs2 HW p10
 have o10:=(uH O3).at 10
 have of10:=(uH O3).f 10
 simp at o10
 go_upto_region 6 with fail
 have hh:Hi (w.heap.size+1+1) w3 (w3.setCell ⟨w.heap.size+1+1,10,none⟩ (.slice (some ⟨M,0,none⟩) wl wl)):=hi_sets w3 (w.heap.size+1+1) 10 [.slice (some ⟨M,0,none⟩) wl wl]
 have HB4:=hide (yC (uH HB3) (w.heap.size+1+1) 10 (.slice (some ⟨M,0,none⟩) wl wl) (by omega))
 have R4:=hide ((uH R3).other (w.heap.size+1+1) 10 (.slice (some ⟨M,0,none⟩) wl wl) (by omega))
 have O4:=hide (show Blk (w3.setCell ⟨w.heap.size+1+1,10,none⟩ (.slice (some ⟨M,0,none⟩) wl wl)) (w.heap.size+1+1) #[.slice (some ⟨g1,0,none⟩) ql ql,.int .i64 clock,.int .i64 epoch,.int .i64 next,.int .i64 serial,.slice (some ⟨g2,0,none⟩) al al,.slice (some ⟨g3,0,none⟩) ml ml,.slice (some ⟨g4,0,none⟩) cl cl,.string (bs log),.int .i64 safe,.slice (some ⟨M,0,none⟩) wl wl] 45 from (uH O3).set 10 _)
 have SO4:=hide ((uH SO3).hi hh ⟨by omega,by omega,by omega,by omega⟩)
 have AW4:=hide ((uH AW3).hi hh ⟨by omega,by omega⟩)
 have RB4:=hide ((uH RB3).hi hh (by omega))
 have RW4:=hide ((uH RW3).hi hh ⟨by omega,by omega⟩)
 have hs4:(w3.setCell ⟨w.heap.size+1+1,10,none⟩ (.slice (some ⟨M,0,none⟩) wl wl)).heap.size=w3.heap.size:=by rw [set_size]
 clear hh HB3 R3 O3 SO3 AW3 RB3 RW3 o10 of10
 generalize w3.setCell ⟨w.heap.size+1+1,10,none⟩ (.slice (some ⟨M,0,none⟩) wl wl)=w4 at HB4 R4 O4 SO4 AW4 RB4 RW4 hs4 ⊢
 refine wp_region_lit ?_
 refine wpList_same (v:=.agg #[.slice (some ⟨g1,0,none⟩) ql ql,.int .i64 clock,.int .i64 epoch,.int .i64 next,.int .i64 serial,.slice (some ⟨g2,0,none⟩) al al,.slice (some ⟨g3,0,none⟩) ml ml,.slice (some ⟨g4,0,none⟩) cl cl,.string (bs log),.int .i64 safe,.slice (some ⟨M,0,none⟩) wl wl]) (d:=some 18) rfl rfl (run_v (ns_load 45 (uH O4) Tryz.underlying45 rfl (by kernel_rfl))) ?_
 simp only [zW]
 refine wpList_none (d:=none) rfl rfl (run_u (ns_store 45 (uH R4) (by kernel_rfl) rfl (by kernel_rfl))) ?_
 simp only [Act.put]
 have MM:=ns_mks (uH R4) #[.slice (some ⟨g1,0,none⟩) ql ql,.int .i64 clock,.int .i64 epoch,.int .i64 next,.int .i64 serial,.slice (some ⟨g2,0,none⟩) al al,.slice (some ⟨g3,0,none⟩) ml ml,.slice (some ⟨g4,0,none⟩) cl cl,.string (bs log),.int .i64 safe,.slice (some ⟨M,0,none⟩) wl wl] rfl
 have hh:=hi_row w4 (w.heap.size+1) #[.slice (some ⟨g1,0,none⟩) ql ql,.int .i64 clock,.int .i64 epoch,.int .i64 next,.int .i64 serial,.slice (some ⟨g2,0,none⟩) al al,.slice (some ⟨g3,0,none⟩) ml ml,.slice (some ⟨g4,0,none⟩) cl cl,.string (bs log),.int .i64 safe,.slice (some ⟨M,0,none⟩) wl wl]
 have R5:=hide (ns_blk (uH R4) #[.slice (some ⟨g1,0,none⟩) ql ql,.int .i64 clock,.int .i64 epoch,.int .i64 next,.int .i64 serial,.slice (some ⟨g2,0,none⟩) al al,.slice (some ⟨g3,0,none⟩) ml ml,.slice (some ⟨g4,0,none⟩) cl cl,.string (bs log),.int .i64 safe,.slice (some ⟨M,0,none⟩) wl wl])
 have HB5:=hide ((uH HB4).trans (MM.below (fun k e=>by subst e;omega) (uH HB4).size))
 have SO5:=hide ((uH SO4).hi hh ⟨by omega,by omega,by omega,by omega⟩)
 have AW5:=hide ((uH AW4).hi hh ⟨by omega,by omega⟩)
 have RB5:=hide ((uH RB4).hi hh (by omega))
 have RW5:=hide ((uH RW4).hi hh ⟨by omega,by omega⟩)
 have hs5:(World.setRow w4 (w.heap.size+1) #[.slice (some ⟨g1,0,none⟩) ql ql,.int .i64 clock,.int .i64 epoch,.int .i64 next,.int .i64 serial,.slice (some ⟨g2,0,none⟩) al al,.slice (some ⟨g3,0,none⟩) ml ml,.slice (some ⟨g4,0,none⟩) cl cl,.string (bs log),.int .i64 safe,.slice (some ⟨M,0,none⟩) wl wl]).heap.size=w3.heap.size:=by rw [setRow_size];exact hs4
 clear MM hh HB4 R4 O4 SO4 AW4 RB4 RW4 hs4
 generalize World.setRow w4 (w.heap.size+1) #[.slice (some ⟨g1,0,none⟩) ql ql,.int .i64 clock,.int .i64 epoch,.int .i64 next,.int .i64 serial,.slice (some ⟨g2,0,none⟩) al al,.slice (some ⟨g3,0,none⟩) ml ml,.slice (some ⟨g4,0,none⟩) cl cl,.string (bs log),.int .i64 safe,.slice (some ⟨M,0,none⟩) wl wl]=w5 at R5 HB5 SO5 AW5 RB5 RW5 hs5 ⊢
 have r0:=(uH R5).at 0;have r1:=(uH R5).at 1;have r2:=(uH R5).at 2;have r3:=(uH R5).at 3;have r4:=(uH R5).at 4;have r5:=(uH R5).at 5;have r6:=(uH R5).at 6;have r7:=(uH R5).at 7;have r8:=(uH R5).at 8;have r9:=(uH R5).at 9;have r10:=(uH R5).at 10
 simp at r0 r1 r2 r3 r4 r5 r6 r7 r8 r9 r10
 have HMD:=hide (show MMd w5 w.heap.size w5.heap.size ⟨⟨some ⟨g1,0,none⟩,ql,ql,some ⟨g2,0,none⟩,al,al,some ⟨g3,0,none⟩,ml,ml,some ⟨g4,0,none⟩,cl,cl⟩,some ⟨M,0,none⟩,wl,wl⟩ ⟨⟨qs,clock,epoch,next,serial,apps,ms,cs⟩,log,safe,wait⟩ from ⟨M,g1,g2,g3,g4,M,rfl,rfl,rfl,uH HLEN,uH HWL,uH SO5,(uH AW5).mono (by omega) (yJ _),⟨by omega,b2,b3,b4,b5⟩,uH RB5,by rw [hs5];exact uH RW5,yJ _,by rw [hs5];exact b6⟩)
 clear R5 SO5 AW5 RB5 RW5 hs5
 go_wp2
 exact bodyPost_ret (v:=mgrv ⟨⟨some ⟨g1,0,none⟩,ql,ql,some ⟨g2,0,none⟩,al,al,some ⟨g3,0,none⟩,ml,ml,some ⟨g4,0,none⟩,cl,cl⟩,some ⟨M,0,none⟩,wl,wl⟩ ⟨⟨qs,clock,epoch,next,serial,apps,ms,cs⟩,log,safe,wait⟩) (by simp [results,Tryz.results29,go_sem,r0,r1,r2,r3,r4,r5,r6,r7,r8,r9,r10]) rfl ⟨_,rfl,uH HMD,uH HB5⟩
theorem toCluster_any (z:Cls) (c:Clu) (w:World) (h:CRow w z c) (hf:FitClu c) :
  Calls Tryz.prog 7 #[cluv z c] w fun e w'=>∃z',e=.returned (cluv z' c)∧CMd w' w.heap.size w'.heap.size z' c∧Below w.heap.size w w':=by
 have HGL:=hide h.2.1.1
 have HTL:=hide h.2.2.1
 obtain ⟨⟨⟨qa,ql,qc,aa,al,ac,ma,ml,mc,ca,cl,cc⟩,wo,wl,wc⟩,go,gl,gc,eo,tl,tc⟩:=z
 obtain ⟨⟨⟨qs,clock,epoch,next,serial,apps,ms,cs⟩,log,safe,wait⟩,ags,told⟩:=c
 obtain ⟨a1,a2,a3⟩:=h
 simp only at a1 a2 a3 HGL HTL
 have hgl:gl≤1048576:=by have:=hf.2.1.1;have:=uH HGL;simp only at *;omega
 have htl:tl≤1048576:=by have:=hf.2.2.1;have:=uH HTL;simp only at *;omega
 have HONE:=hide hf.2.1.one
 have HTWO:=hide hf.2.2.two
 have HB0:=hide (yA (yA (yA (yH _ w) (.cells #[.slice qa ql qc,.int .i64 clock,.int .i64 epoch,.int .i64 next,.int .i64 serial,.slice aa al ac,.slice ma ml mc,.slice ca cl cc,.string (bs log),.int .i64 safe,.slice wo wl wc,.slice go gl gc,.slice eo tl tc] 33)) (.cells #[.slice none 0 0,.int .i64 0,.int .i64 0,.int .i64 0,.int .i64 0,.slice none 0 0,.slice none 0 0,.slice none 0 0,.string ⟨#[]⟩,.int .i64 0,.slice none 0 0,.slice none 0 0,.slice none 0 0] 48)) (.cells #[.slice none 0 0,.int .i64 0,.int .i64 0,.int .i64 0,.int .i64 0,.slice none 0 0,.slice none 0 0,.slice none 0 0,.string ⟨#[]⟩,.int .i64 0,.slice none 0 0,.slice none 0 0,.slice none 0 0] 48))
 have P0:=hide (((yD w #[.slice qa ql qc,.int .i64 clock,.int .i64 epoch,.int .i64 next,.int .i64 serial,.slice aa al ac,.slice ma ml mc,.slice ca cl cc,.string (bs log),.int .i64 safe,.slice wo wl wc,.slice go gl gc,.slice eo tl tc] 33).al (.cells #[.slice none 0 0,.int .i64 0,.int .i64 0,.int .i64 0,.int .i64 0,.slice none 0 0,.slice none 0 0,.slice none 0 0,.string ⟨#[]⟩,.int .i64 0,.slice none 0 0,.slice none 0 0,.slice none 0 0] 48)).al (.cells #[.slice none 0 0,.int .i64 0,.int .i64 0,.int .i64 0,.int .i64 0,.slice none 0 0,.slice none 0 0,.slice none 0 0,.string ⟨#[]⟩,.int .i64 0,.slice none 0 0,.slice none 0 0,.slice none 0 0] 48))
 have R0:=hide (show Blk _ (w.heap.size+1) #[.slice none 0 0,.int .i64 0,.int .i64 0,.int .i64 0,.int .i64 0,.slice none 0 0,.slice none 0 0,.slice none 0 0,.string ⟨#[]⟩,.int .i64 0,.slice none 0 0,.slice none 0 0,.slice none 0 0] 48 by have:=(yD (w.alloc (.cells #[.slice qa ql qc,.int .i64 clock,.int .i64 epoch,.int .i64 next,.int .i64 serial,.slice aa al ac,.slice ma ml mc,.slice ca cl cc,.string (bs log),.int .i64 safe,.slice wo wl wc,.slice go gl gc,.slice eo tl tc] 33)) #[.slice none 0 0,.int .i64 0,.int .i64 0,.int .i64 0,.int .i64 0,.slice none 0 0,.slice none 0 0,.slice none 0 0,.string ⟨#[]⟩,.int .i64 0,.slice none 0 0,.slice none 0 0,.slice none 0 0] 48).al (.cells #[.slice none 0 0,.int .i64 0,.int .i64 0,.int .i64 0,.int .i64 0,.slice none 0 0,.slice none 0 0,.slice none 0 0,.string ⟨#[]⟩,.int .i64 0,.slice none 0 0,.slice none 0 0,.slice none 0 0] 48);rwa [yE] at this)
 have O0:=hide (show Blk _ (w.heap.size+1+1) #[.slice none 0 0,.int .i64 0,.int .i64 0,.int .i64 0,.int .i64 0,.slice none 0 0,.slice none 0 0,.slice none 0 0,.string ⟨#[]⟩,.int .i64 0,.slice none 0 0,.slice none 0 0,.slice none 0 0] 48 by have:=yD ((w.alloc (.cells #[.slice qa ql qc,.int .i64 clock,.int .i64 epoch,.int .i64 next,.int .i64 serial,.slice aa al ac,.slice ma ml mc,.slice ca cl cc,.string (bs log),.int .i64 safe,.slice wo wl wc,.slice go gl gc,.slice eo tl tc] 33)).alloc (.cells #[.slice none 0 0,.int .i64 0,.int .i64 0,.int .i64 0,.int .i64 0,.slice none 0 0,.slice none 0 0,.slice none 0 0,.string ⟨#[]⟩,.int .i64 0,.slice none 0 0,.slice none 0 0,.slice none 0 0] 48)) #[.slice none 0 0,.int .i64 0,.int .i64 0,.int .i64 0,.int .i64 0,.slice none 0 0,.slice none 0 0,.slice none 0 0,.string ⟨#[]⟩,.int .i64 0,.slice none 0 0,.slice none 0 0,.slice none 0 0] 48;rwa [yE,yE] at this)
 have hs0:(((w.alloc (.cells #[.slice qa ql qc,.int .i64 clock,.int .i64 epoch,.int .i64 next,.int .i64 serial,.slice aa al ac,.slice ma ml mc,.slice ca cl cc,.string (bs log),.int .i64 safe,.slice wo wl wc,.slice go gl gc,.slice eo tl tc] 33)).alloc (.cells #[.slice none 0 0,.int .i64 0,.int .i64 0,.int .i64 0,.int .i64 0,.slice none 0 0,.slice none 0 0,.slice none 0 0,.string ⟨#[]⟩,.int .i64 0,.slice none 0 0,.slice none 0 0,.slice none 0 0] 48)).alloc (.cells #[.slice none 0 0,.int .i64 0,.int .i64 0,.int .i64 0,.int .i64 0,.slice none 0 0,.slice none 0 0,.slice none 0 0,.string ⟨#[]⟩,.int .i64 0,.slice none 0 0,.slice none 0 0,.slice none 0 0] 48)).heap.size=w.heap.size+1+1+1:=by simp only [yE]
 have CS:=hide (toManager_any ⟨⟨qa,ql,qc,aa,al,ac,ma,ml,mc,ca,cl,cc⟩,wo,wl,wc⟩ ⟨⟨qs,clock,epoch,next,serial,apps,ms,cs⟩,log,safe,wait⟩ _ (a1.below (uH HB0)) hf.1)
 rw [hs0] at CS
 have HG:=hide a2
 have HT:=hide a3
 clear a1 a2 a3 hf
 have p0:=(uH P0).at 0;have p1:=(uH P0).at 1;have p2:=(uH P0).at 2;have p3:=(uH P0).at 3;have p4:=(uH P0).at 4;have p5:=(uH P0).at 5;have p6:=(uH P0).at 6;have p7:=(uH P0).at 7;have p8:=(uH P0).at 8;have p9:=(uH P0).at 9;have p10:=(uH P0).at 10
 simp at p0 p1 p2 p3 p4 p5 p6 p7 p8 p9 p10
 go_enter Tryz.func7,Tryz.ntmps7
 go_wp2_with fail
 refine (uH CS).mono ?_
 rintro e w1 ⟨⟨⟨ra,rl,rc,ba,bl,bc,na,nl,nc,da,dl,dc⟩,vo,vl,vc⟩,rfl,hq,hb⟩
 rw [←hs0] at hb
 have HB1:=hide (yB (uH HB0) hb)
 have P1:=hide ((uH P0).below hb)
 have R1:=hide ((uH R0).below hb)
 have O1:=hide ((uH O0).below hb)
 have MD1:=hide hq
 have b1:w.heap.size+1+1+1≤w1.heap.size:=by have:=hb.size;rw [hs0] at this;exact this
 clear hb hq CS P0 R0 O0 HB0 hs0 p0 p1 p2 p3 p4 p5 p6 p7 p8 p9 p10
 have o0:=(uH O1).at 0;have o1:=(uH O1).at 1;have o2:=(uH O1).at 2;have o3:=(uH O1).at 3;have o4:=(uH O1).at 4;have o5:=(uH O1).at 5;have o6:=(uH O1).at 6;have o7:=(uH O1).at 7;have o8:=(uH O1).at 8;have o9:=(uH O1).at 9;have o10:=(uH O1).at 10
 simp at o0 o1 o2 o3 o4 o5 o6 o7 o8 o9 o10
 have of0:=(uH O1).f 0;have of1:=(uH O1).f 1;have of2:=(uH O1).f 2;have of3:=(uH O1).f 3;have of4:=(uH O1).f 4;have of5:=(uH O1).f 5;have of6:=(uH O1).f 6;have of7:=(uH O1).f 7;have of8:=(uH O1).f 8;have of9:=(uH O1).f 9;have of10:=(uH O1).f 10
 go_upto_region 3 with fail
 have hh:Hi (w.heap.size+1+1) w1 (((((((((((w1.setCell ⟨w.heap.size+1+1,0,none⟩ (.slice ra rl rc)).setCell ⟨w.heap.size+1+1,1,none⟩ (.int .i64 clock)).setCell ⟨w.heap.size+1+1,2,none⟩ (.int .i64 epoch)).setCell ⟨w.heap.size+1+1,3,none⟩ (.int .i64 next)).setCell ⟨w.heap.size+1+1,4,none⟩ (.int .i64 serial)).setCell ⟨w.heap.size+1+1,5,none⟩ (.slice ba bl bc)).setCell ⟨w.heap.size+1+1,6,none⟩ (.slice na nl nc)).setCell ⟨w.heap.size+1+1,7,none⟩ (.slice da dl dc)).setCell ⟨w.heap.size+1+1,8,none⟩ (.string (bs log))).setCell ⟨w.heap.size+1+1,9,none⟩ (.int .i64 safe)).setCell ⟨w.heap.size+1+1,10,none⟩ (.slice vo vl vc)):=hi_sets w1 (w.heap.size+1+1) 0 [.slice ra rl rc,.int .i64 clock,.int .i64 epoch,.int .i64 next,.int .i64 serial,.slice ba bl bc,.slice na nl nc,.slice da dl dc,.string (bs log),.int .i64 safe,.slice vo vl vc]
 have HB2:=hide (show Below w.heap.size w (((((((((((w1.setCell ⟨w.heap.size+1+1,0,none⟩ (.slice ra rl rc)).setCell ⟨w.heap.size+1+1,1,none⟩ (.int .i64 clock)).setCell ⟨w.heap.size+1+1,2,none⟩ (.int .i64 epoch)).setCell ⟨w.heap.size+1+1,3,none⟩ (.int .i64 next)).setCell ⟨w.heap.size+1+1,4,none⟩ (.int .i64 serial)).setCell ⟨w.heap.size+1+1,5,none⟩ (.slice ba bl bc)).setCell ⟨w.heap.size+1+1,6,none⟩ (.slice na nl nc)).setCell ⟨w.heap.size+1+1,7,none⟩ (.slice da dl dc)).setCell ⟨w.heap.size+1+1,8,none⟩ (.string (bs log))).setCell ⟨w.heap.size+1+1,9,none⟩ (.int .i64 safe)).setCell ⟨w.heap.size+1+1,10,none⟩ (.slice vo vl vc)) from below_sets (uH HB1) (by omega) 0 [.slice ra rl rc,.int .i64 clock,.int .i64 epoch,.int .i64 next,.int .i64 serial,.slice ba bl bc,.slice na nl nc,.slice da dl dc,.string (bs log),.int .i64 safe,.slice vo vl vc])
 have P2:=hide (show Blk (((((((((((w1.setCell ⟨w.heap.size+1+1,0,none⟩ (.slice ra rl rc)).setCell ⟨w.heap.size+1+1,1,none⟩ (.int .i64 clock)).setCell ⟨w.heap.size+1+1,2,none⟩ (.int .i64 epoch)).setCell ⟨w.heap.size+1+1,3,none⟩ (.int .i64 next)).setCell ⟨w.heap.size+1+1,4,none⟩ (.int .i64 serial)).setCell ⟨w.heap.size+1+1,5,none⟩ (.slice ba bl bc)).setCell ⟨w.heap.size+1+1,6,none⟩ (.slice na nl nc)).setCell ⟨w.heap.size+1+1,7,none⟩ (.slice da dl dc)).setCell ⟨w.heap.size+1+1,8,none⟩ (.string (bs log))).setCell ⟨w.heap.size+1+1,9,none⟩ (.int .i64 safe)).setCell ⟨w.heap.size+1+1,10,none⟩ (.slice vo vl vc)) w.heap.size #[.slice qa ql qc,.int .i64 clock,.int .i64 epoch,.int .i64 next,.int .i64 serial,.slice aa al ac,.slice ma ml mc,.slice ca cl cc,.string (bs log),.int .i64 safe,.slice wo wl wc,.slice go gl gc,.slice eo tl tc] 33 from (uH P1).other_sets (by omega) 0 [.slice ra rl rc,.int .i64 clock,.int .i64 epoch,.int .i64 next,.int .i64 serial,.slice ba bl bc,.slice na nl nc,.slice da dl dc,.string (bs log),.int .i64 safe,.slice vo vl vc])
 have R2:=hide (show Blk (((((((((((w1.setCell ⟨w.heap.size+1+1,0,none⟩ (.slice ra rl rc)).setCell ⟨w.heap.size+1+1,1,none⟩ (.int .i64 clock)).setCell ⟨w.heap.size+1+1,2,none⟩ (.int .i64 epoch)).setCell ⟨w.heap.size+1+1,3,none⟩ (.int .i64 next)).setCell ⟨w.heap.size+1+1,4,none⟩ (.int .i64 serial)).setCell ⟨w.heap.size+1+1,5,none⟩ (.slice ba bl bc)).setCell ⟨w.heap.size+1+1,6,none⟩ (.slice na nl nc)).setCell ⟨w.heap.size+1+1,7,none⟩ (.slice da dl dc)).setCell ⟨w.heap.size+1+1,8,none⟩ (.string (bs log))).setCell ⟨w.heap.size+1+1,9,none⟩ (.int .i64 safe)).setCell ⟨w.heap.size+1+1,10,none⟩ (.slice vo vl vc)) (w.heap.size+1) #[.slice none 0 0,.int .i64 0,.int .i64 0,.int .i64 0,.int .i64 0,.slice none 0 0,.slice none 0 0,.slice none 0 0,.string ⟨#[]⟩,.int .i64 0,.slice none 0 0,.slice none 0 0,.slice none 0 0] 48 from (uH R1).other_sets (by omega) 0 [.slice ra rl rc,.int .i64 clock,.int .i64 epoch,.int .i64 next,.int .i64 serial,.slice ba bl bc,.slice na nl nc,.slice da dl dc,.string (bs log),.int .i64 safe,.slice vo vl vc])
 have O2:=hide (show Blk (((((((((((w1.setCell ⟨w.heap.size+1+1,0,none⟩ (.slice ra rl rc)).setCell ⟨w.heap.size+1+1,1,none⟩ (.int .i64 clock)).setCell ⟨w.heap.size+1+1,2,none⟩ (.int .i64 epoch)).setCell ⟨w.heap.size+1+1,3,none⟩ (.int .i64 next)).setCell ⟨w.heap.size+1+1,4,none⟩ (.int .i64 serial)).setCell ⟨w.heap.size+1+1,5,none⟩ (.slice ba bl bc)).setCell ⟨w.heap.size+1+1,6,none⟩ (.slice na nl nc)).setCell ⟨w.heap.size+1+1,7,none⟩ (.slice da dl dc)).setCell ⟨w.heap.size+1+1,8,none⟩ (.string (bs log))).setCell ⟨w.heap.size+1+1,9,none⟩ (.int .i64 safe)).setCell ⟨w.heap.size+1+1,10,none⟩ (.slice vo vl vc)) (w.heap.size+1+1) #[.slice ra rl rc,.int .i64 clock,.int .i64 epoch,.int .i64 next,.int .i64 serial,.slice ba bl bc,.slice na nl nc,.slice da dl dc,.string (bs log),.int .i64 safe,.slice vo vl vc,.slice none 0 0,.slice none 0 0] 48 from blk_part [.slice ra rl rc,.int .i64 clock,.int .i64 epoch,.int .i64 next,.int .i64 serial,.slice ba bl bc,.slice na nl nc,.slice da dl dc,.string (bs log),.int .i64 safe,.slice vo vl vc] 0 w1 _ (uH O1) (by simp))
 have MD2:=hide ((uH MD1).hi hh (by omega))
 have hs2:(((((((((((w1.setCell ⟨w.heap.size+1+1,0,none⟩ (.slice ra rl rc)).setCell ⟨w.heap.size+1+1,1,none⟩ (.int .i64 clock)).setCell ⟨w.heap.size+1+1,2,none⟩ (.int .i64 epoch)).setCell ⟨w.heap.size+1+1,3,none⟩ (.int .i64 next)).setCell ⟨w.heap.size+1+1,4,none⟩ (.int .i64 serial)).setCell ⟨w.heap.size+1+1,5,none⟩ (.slice ba bl bc)).setCell ⟨w.heap.size+1+1,6,none⟩ (.slice na nl nc)).setCell ⟨w.heap.size+1+1,7,none⟩ (.slice da dl dc)).setCell ⟨w.heap.size+1+1,8,none⟩ (.string (bs log))).setCell ⟨w.heap.size+1+1,9,none⟩ (.int .i64 safe)).setCell ⟨w.heap.size+1+1,10,none⟩ (.slice vo vl vc)).heap.size=w1.heap.size:=by simp only [set_size]
 clear hh HB1 P1 R1 O1 MD1 o0 o1 o2 o3 o4 o5 o6 o7 o8 o9 o10 of0 of1 of2 of3 of4 of5 of6 of7 of8 of9 of10
 generalize (((((((((((w1.setCell ⟨w.heap.size+1+1,0,none⟩ (.slice ra rl rc)).setCell ⟨w.heap.size+1+1,1,none⟩ (.int .i64 clock)).setCell ⟨w.heap.size+1+1,2,none⟩ (.int .i64 epoch)).setCell ⟨w.heap.size+1+1,3,none⟩ (.int .i64 next)).setCell ⟨w.heap.size+1+1,4,none⟩ (.int .i64 serial)).setCell ⟨w.heap.size+1+1,5,none⟩ (.slice ba bl bc)).setCell ⟨w.heap.size+1+1,6,none⟩ (.slice na nl nc)).setCell ⟨w.heap.size+1+1,7,none⟩ (.slice da dl dc)).setCell ⟨w.heap.size+1+1,8,none⟩ (.string (bs log))).setCell ⟨w.heap.size+1+1,9,none⟩ (.int .i64 safe)).setCell ⟨w.heap.size+1+1,10,none⟩ (.slice vo vl vc))=w2 at HB2 P2 R2 O2 MD2 hs2 ⊢
 obtain ⟨M,hM⟩:∃M,w1.heap.size=M:=⟨_,rfl⟩
 rw [hM] at MD2 b1 hs2
 clear hM
 have p11:=(uH P2).at 11
 simp at p11
 go_wp2_with fail
 refine (toAgentS_any go gl gc ags _ ((uH HG).below (uH HB2)) hgl (uH HONE)).mono ?_
 rintro e w3 ⟨rfl,hq,hb⟩
 rw [hs2] at hq
 rw [hs2]
 have HB3:=hide (yB (uH HB2) hb)
 have P3:=hide ((uH P2).below hb)
 have R3:=hide ((uH R2).below hb)
 have O3:=hide ((uH O2).below hb)
 have MD3:=hide ((uH MD2).below hb)
 have AB3:=hide hq
 have AW3:=hide ((hq.wh (uH HGL) (uH HONE)).mono (show M≤M+1 by omega) (yJ _))
 have b2:M<w3.heap.size:=hq.lt
 clear hb hq HB2 P2 R2 O2 MD2 hs2 HG p11
 have o11:=(uH O3).at 11
 have of11:=(uH O3).f 11
 simp at o11
 go_upto_region 4 with fail
 have hh:Hi (w.heap.size+1+1) w3 (w3.setCell ⟨w.heap.size+1+1,11,none⟩ (.slice (some ⟨M,0,none⟩) gl gl)):=hi_sets w3 (w.heap.size+1+1) 11 [.slice (some ⟨M,0,none⟩) gl gl]
 have HB4:=hide (yC (uH HB3) (w.heap.size+1+1) 11 (.slice (some ⟨M,0,none⟩) gl gl) (by omega))
 have P4:=hide ((uH P3).other (w.heap.size+1+1) 11 (.slice (some ⟨M,0,none⟩) gl gl) (by omega))
 have R4:=hide ((uH R3).other (w.heap.size+1+1) 11 (.slice (some ⟨M,0,none⟩) gl gl) (by omega))
 have O4:=hide (show Blk (w3.setCell ⟨w.heap.size+1+1,11,none⟩ (.slice (some ⟨M,0,none⟩) gl gl)) (w.heap.size+1+1) #[.slice ra rl rc,.int .i64 clock,.int .i64 epoch,.int .i64 next,.int .i64 serial,.slice ba bl bc,.slice na nl nc,.slice da dl dc,.string (bs log),.int .i64 safe,.slice vo vl vc,.slice (some ⟨M,0,none⟩) gl gl,.slice none 0 0] 48 from (uH O3).set 11 _)
 have MD4:=hide ((uH MD3).hi hh (by omega))
 have AB4:=hide ((uH AB3).hi hh (by omega))
 have AW4:=hide ((uH AW3).hi hh ⟨by omega,by omega⟩)
 have hs4:(w3.setCell ⟨w.heap.size+1+1,11,none⟩ (.slice (some ⟨M,0,none⟩) gl gl)).heap.size=w3.heap.size:=by rw [set_size]
 clear hh HB3 P3 R3 O3 MD3 AB3 AW3 o11 of11
 generalize w3.setCell ⟨w.heap.size+1+1,11,none⟩ (.slice (some ⟨M,0,none⟩) gl gl)=w4 at HB4 P4 R4 O4 MD4 AB4 AW4 hs4 ⊢
 obtain ⟨N,hN⟩:∃N,w3.heap.size=N:=⟨_,rfl⟩
 rw [hN] at AW4 b2 hs4
 clear hN
 have p12:=(uH P4).at 12
 simp at p12
 go_wp2_with fail
 refine (toReplyS_any eo tl tc told _ ((uH HT).below (uH HB4)) htl (uH HTWO)).mono ?_
 rintro e w5 ⟨rfl,hq,hb⟩
 rw [hs4] at hq
 rw [hs4]
 have HB5:=hide (yB (uH HB4) hb)
 have R5:=hide ((uH R4).below hb)
 have O5:=hide ((uH O4).below hb)
 have MD5:=hide ((uH MD4).below hb)
 have AB5:=hide ((uH AB4).below hb)
 have AW5:=hide ((uH AW4).below hb)
 have RB5:=hide hq
 have RW5:=hide ((hq.wh (uH HTL) (uH HTWO)).mono (show N≤N+1 by omega) (yJ _))
 have b3:N<w5.heap.size:=hq.lt
 clear hb hq HB4 P4 R4 O4 MD4 AB4 AW4 hs4 HT p12
 have o12:=(uH O5).at 12
 have of12:=(uH O5).f 12
 simp at o12
 go_upto_region 5 with fail
 have hh:Hi (w.heap.size+1+1) w5 (w5.setCell ⟨w.heap.size+1+1,12,none⟩ (.slice (some ⟨N,0,none⟩) tl tl)):=hi_sets w5 (w.heap.size+1+1) 12 [.slice (some ⟨N,0,none⟩) tl tl]
 have HB6:=hide (yC (uH HB5) (w.heap.size+1+1) 12 (.slice (some ⟨N,0,none⟩) tl tl) (by omega))
 have R6:=hide ((uH R5).other (w.heap.size+1+1) 12 (.slice (some ⟨N,0,none⟩) tl tl) (by omega))
 have O6:=hide (show Blk (w5.setCell ⟨w.heap.size+1+1,12,none⟩ (.slice (some ⟨N,0,none⟩) tl tl)) (w.heap.size+1+1) #[.slice ra rl rc,.int .i64 clock,.int .i64 epoch,.int .i64 next,.int .i64 serial,.slice ba bl bc,.slice na nl nc,.slice da dl dc,.string (bs log),.int .i64 safe,.slice vo vl vc,.slice (some ⟨M,0,none⟩) gl gl,.slice (some ⟨N,0,none⟩) tl tl] 48 from (uH O5).set 12 _)
 have MD6:=hide ((uH MD5).hi hh (by omega))
 have AB6:=hide ((uH AB5).hi hh (by omega))
 have AW6:=hide ((uH AW5).hi hh ⟨by omega,by omega⟩)
 have RB6:=hide ((uH RB5).hi hh (by omega))
 have RW6:=hide ((uH RW5).hi hh ⟨by omega,by omega⟩)
 have hs6:(w5.setCell ⟨w.heap.size+1+1,12,none⟩ (.slice (some ⟨N,0,none⟩) tl tl)).heap.size=w5.heap.size:=by rw [set_size]
 clear hh HB5 R5 O5 MD5 AB5 AW5 RB5 RW5 o12 of12
 generalize w5.setCell ⟨w.heap.size+1+1,12,none⟩ (.slice (some ⟨N,0,none⟩) tl tl)=w6 at HB6 R6 O6 MD6 AB6 AW6 RB6 RW6 hs6 ⊢
 refine wp_region_lit ?_
 refine wpList_same (v:=.agg #[.slice ra rl rc,.int .i64 clock,.int .i64 epoch,.int .i64 next,.int .i64 serial,.slice ba bl bc,.slice na nl nc,.slice da dl dc,.string (bs log),.int .i64 safe,.slice vo vl vc,.slice (some ⟨M,0,none⟩) gl gl,.slice (some ⟨N,0,none⟩) tl tl]) (d:=some 16) rfl rfl (run_v (ns_load 48 (uH O6) Tryz.underlying48 rfl (by kernel_rfl))) ?_
 simp only [zW]
 refine wpList_none (d:=none) rfl rfl (run_u (ns_store 48 (uH R6) (by kernel_rfl) rfl (by kernel_rfl))) ?_
 simp only [Act.put]
 have MM:=ns_mks (uH R6) #[.slice ra rl rc,.int .i64 clock,.int .i64 epoch,.int .i64 next,.int .i64 serial,.slice ba bl bc,.slice na nl nc,.slice da dl dc,.string (bs log),.int .i64 safe,.slice vo vl vc,.slice (some ⟨M,0,none⟩) gl gl,.slice (some ⟨N,0,none⟩) tl tl] rfl
 have hh:=hi_row w6 (w.heap.size+1) #[.slice ra rl rc,.int .i64 clock,.int .i64 epoch,.int .i64 next,.int .i64 serial,.slice ba bl bc,.slice na nl nc,.slice da dl dc,.string (bs log),.int .i64 safe,.slice vo vl vc,.slice (some ⟨M,0,none⟩) gl gl,.slice (some ⟨N,0,none⟩) tl tl]
 have R7:=hide (ns_blk (uH R6) #[.slice ra rl rc,.int .i64 clock,.int .i64 epoch,.int .i64 next,.int .i64 serial,.slice ba bl bc,.slice na nl nc,.slice da dl dc,.string (bs log),.int .i64 safe,.slice vo vl vc,.slice (some ⟨M,0,none⟩) gl gl,.slice (some ⟨N,0,none⟩) tl tl])
 have HB7:=hide ((uH HB6).trans (MM.below (fun k e=>by subst e;omega) (uH HB6).size))
 have MD7:=hide ((uH MD6).hi hh (by omega))
 have AB7:=hide ((uH AB6).hi hh (by omega))
 have AW7:=hide ((uH AW6).hi hh ⟨by omega,by omega⟩)
 have RB7:=hide ((uH RB6).hi hh (by omega))
 have RW7:=hide ((uH RW6).hi hh ⟨by omega,by omega⟩)
 have hs7:(World.setRow w6 (w.heap.size+1) #[.slice ra rl rc,.int .i64 clock,.int .i64 epoch,.int .i64 next,.int .i64 serial,.slice ba bl bc,.slice na nl nc,.slice da dl dc,.string (bs log),.int .i64 safe,.slice vo vl vc,.slice (some ⟨M,0,none⟩) gl gl,.slice (some ⟨N,0,none⟩) tl tl]).heap.size=w5.heap.size:=by rw [setRow_size];exact hs6
 clear MM hh HB6 R6 O6 MD6 AB6 AW6 RB6 RW6 hs6
 generalize World.setRow w6 (w.heap.size+1) #[.slice ra rl rc,.int .i64 clock,.int .i64 epoch,.int .i64 next,.int .i64 serial,.slice ba bl bc,.slice na nl nc,.slice da dl dc,.string (bs log),.int .i64 safe,.slice vo vl vc,.slice (some ⟨M,0,none⟩) gl gl,.slice (some ⟨N,0,none⟩) tl tl]=w7 at R7 HB7 MD7 AB7 AW7 RB7 RW7 hs7 ⊢
 have r0:=(uH R7).at 0;have r1:=(uH R7).at 1;have r2:=(uH R7).at 2;have r3:=(uH R7).at 3;have r4:=(uH R7).at 4;have r5:=(uH R7).at 5;have r6:=(uH R7).at 6;have r7:=(uH R7).at 7;have r8:=(uH R7).at 8;have r9:=(uH R7).at 9;have r10:=(uH R7).at 10;have r11:=(uH R7).at 11;have r12:=(uH R7).at 12
 simp at r0 r1 r2 r3 r4 r5 r6 r7 r8 r9 r10 r11 r12
 have HMD:=hide (show CMd w7 w.heap.size w7.heap.size ⟨⟨⟨ra,rl,rc,ba,bl,bc,na,nl,nc,da,dl,dc⟩,vo,vl,vc⟩,some ⟨M,0,none⟩,gl,gl,some ⟨N,0,none⟩,tl,tl⟩ ⟨⟨⟨qs,clock,epoch,next,serial,apps,ms,cs⟩,log,safe,wait⟩,ags,told⟩ from ⟨M,N,M,N,(uH MD7).base (by omega),rfl,rfl,uH HGL,uH AB7,uH AW7,yJ _,b2,rfl,rfl,uH HTL,uH RB7,by rw [hs7];exact uH RW7,yJ _,by rw [hs7];exact b3,by omega⟩)
 clear R7 MD7 AB7 AW7 RB7 RW7 hs7
 go_wp2
 exact bodyPost_ret (v:=cluv ⟨⟨⟨ra,rl,rc,ba,bl,bc,na,nl,nc,da,dl,dc⟩,vo,vl,vc⟩,some ⟨M,0,none⟩,gl,gl,some ⟨N,0,none⟩,tl,tl⟩ ⟨⟨⟨qs,clock,epoch,next,serial,apps,ms,cs⟩,log,safe,wait⟩,ags,told⟩) (by simp [results,Tryz.results7,go_sem,r0,r1,r2,r3,r4,r5,r6,r7,r8,r9,r10,r11,r12]) rfl ⟨_,rfl,uH HMD,uH HB7⟩
end
end Go.Proofs.YtmkedfdnokmglaaGreat
