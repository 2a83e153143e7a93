/-
  The laws' own szManager and szCluster: how much is handed in; walks over the dump.
-/
import Derived.Test.YtmkedfdnokmglaaGreatPackL
set_option maxRecDepth 100000
set_option maxHeartbeats 16000000
set_option linter.unusedVariables false
set_option linter.unusedSimpArgs false
namespace Go.Proofs.YtmkedfdnokmglaaGreat
section
open Go.RowKit
theorem szState_le (x:Sls) (s:St) (w:World) (h:SRow w x s) (hn:StBig x s) :
  Calls Tryz.prog 55 #[sv x s,.int .i64 1048576] w fun e w'=>∃r:Int,e=.returned (.int .i64 r)∧(r = -1∨(0≤r∧r≤1048576∧FitSt s))∧Below w.heap.size w w':=by
 obtain ⟨qa,ql,qc,aa,al,ac,ma,ml,mc,ca,cl,cc⟩:=x
 obtain ⟨qs,clock,epoch,next,serial,apps,ms,cs⟩:=s
 obtain ⟨hq,ha,hm,hc⟩:=h
 obtain ⟨nq,na,nm,nc⟩:=hn
 simp only at hq ha hm hc nq na nm nc
 have HB0:=hide (yA (yH _ w) (.cells #[.slice qa ql qc,.int .i64 clock,.int .i64 epoch,.int .i64 next,.int .i64 serial,.slice aa al ac,.slice ma ml mc,.slice ca cl cc] 27))
 have P0:=hide (yD w #[.slice qa ql qc,.int .i64 clock,.int .i64 epoch,.int .i64 next,.int .i64 serial,.slice aa al ac,.slice ma ml mc,.slice ca cl cc] 27)
 have CQ:=hide (szQueueS_any qa ql qc qs _ (hq.below (uH HB0)) nq.1 nq.2)
 have CA:=hide (fun a0 wx (hb:Below w.heap.size w wx) h0 h1=>szAppS_any aa al ac apps a0 wx (ha.below hb) na.1 na.2 h0 h1)
 have CM:=hide (fun a0 wx (hb:Below w.heap.size w wx) h0 h1=>szMachineS_any ma ml mc ms a0 wx (hm.below hb) nm.1 nm.2 h0 h1)
 have CC:=hide (fun a0 wx (hb:Below w.heap.size w wx) h0 h1=>szContS_any ca cl cc cs a0 wx (hc.below hb) nc.1 nc.2 h0 h1)
 clear hq ha hm hc nq na nm nc
 go_enter Tryz.func55,Tryz.ntmps55
 go_wp2_with fail
 refine (uH CQ).mono ?_
 rintro e w1 ⟨r,rfl,hr,hb⟩
 have HB1:=hide (yB (uH HB0) hb)
 have P1:=hide ((uH P0).below hb)
 clear hb CQ P0 HB0
 rcases hr with rfl | ⟨r0,r1,hf⟩
 ·go_wp2
  go_ret
  exact ⟨-1,rfl,.inl rfl,uH HB1⟩
 have F1:=hide hf
 have p5:=(uH P1).at 5
 simp at p5
 clear hf
 go_wp2_with fail
 refine (uH CA _ _ (uH HB1) r0 r1).mono ?_
 rintro e w2 ⟨u,rfl,hr,hb⟩
 have HB2:=hide (yB (uH HB1) hb)
 have P2:=hide ((uH P1).below hb)
 clear hb CA P1 HB1 p5
 rcases hr with rfl | ⟨u0,u1,hf⟩
 ·go_wp2
  go_ret
  exact ⟨-1,rfl,.inl rfl,uH HB2⟩
 have F2:=hide hf
 have p6:=(uH P2).at 6
 simp at p6
 clear hf
 go_wp2_with fail
 refine (uH CM _ _ (uH HB2) u0 (by omega)).mono ?_
 rintro e w3 ⟨v,rfl,hr,hb⟩
 have HB3:=hide (yB (uH HB2) hb)
 have P3:=hide ((uH P2).below hb)
 clear hb CM P2 HB2 p6
 rcases hr with rfl | ⟨v0,v1,hf⟩
 ·go_wp2
  go_ret
  exact ⟨-1,rfl,.inl rfl,uH HB3⟩
 have F3:=hide hf
 have p7:=(uH P3).at 7
 simp at p7
 clear hf
 go_wp2_with fail
 refine (uH CC _ _ (uH HB3) v0 (by omega)).mono ?_
 rintro e w4 ⟨t,rfl,hr,hb⟩
 have HB4:=hide (yB (uH HB3) hb)
 clear hb CC P3 HB3 p7
 rcases hr with rfl | ⟨t0,t1,hf⟩
 ·go_wp2
  go_ret
  exact ⟨-1,rfl,.inl rfl,uH HB4⟩
 have F4:=hide hf
 clear hf
 go_wp2
 go_ret
 exact ⟨_,rfl,.inr ⟨t0,by omega,uH F1,uH F2,uH F3,uH F4⟩,uH HB4⟩
theorem szManager_any (y:Mgs) (m:Mgr) (w:World) (h:MRow w y m) (hn:MgrBig y m) :
  Calls Tryz.prog 25 #[mgrv y m,.int .i64 1048576] w fun e w'=>∃r:Int,e=.returned (.int .i64 r)∧(r = -1∨(0≤r∧r≤1048576∧FitMgr m))∧Below w.heap.size w w':=by
 obtain ⟨⟨qa,ql,qc,aa,al,ac,ma,ml,mc,ca,cl,cc⟩,wo,wl,wc⟩:=y
 obtain ⟨⟨qs,clock,epoch,next,serial,apps,ms,cs⟩,log,safe,wait⟩:=m
 obtain ⟨h1,h2⟩:=h
 obtain ⟨n1,n2,n3,n4⟩:=hn
 simp only at h1 h2 n1 n2 n3 n4
 have z1:=bs_size log
 have HB0:=hide (yA (yH _ w) (.cells #[.slice qa ql qc,.int .i64 clock,.int .i64 epoch,.int .i64 next,.int .i64 serial,.slice aa al ac,.slice ma ml mc,.slice ca cl cc,.string (bs log),.int .i64 safe,.slice wo wl wc] 30))
 have P0:=hide (yD w #[.slice qa ql qc,.int .i64 clock,.int .i64 epoch,.int .i64 next,.int .i64 serial,.slice aa al ac,.slice ma ml mc,.slice ca cl cc,.string (bs log),.int .i64 safe,.slice wo wl wc] 30)
 have CS:=hide (szState_le ⟨qa,ql,qc,aa,al,ac,ma,ml,mc,ca,cl,cc⟩ ⟨qs,clock,epoch,next,serial,apps,ms,cs⟩ _ (h1.below (uH HB0)) n1)
 have CR:=hide (fun a0 wx (hb:Below w.heap.size w wx) h0 h1=>szReplyS_any wo wl wc wait a0 wx (h2.below hb) n3 n4 h0 h1)
 clear h1 h2 n1 n3 n4
 have p0:=(uH P0).at 0;have p1:=(uH P0).at 1;have p2:=(uH P0).at 2;have p3:=(uH P0).at 3;have p4:=(uH P0).at 4;have p5:=(uH P0).at 5;have p6:=(uH P0).at 6;have p7:=(uH P0).at 7
 simp at p0 p1 p2 p3 p4 p5 p6 p7
 go_enter Tryz.func25,Tryz.ntmps25
 go_wp2_with fail
 refine (uH CS).mono ?_
 rintro e w1 ⟨r,rfl,hr,hb⟩
 have HB1:=hide (yB (uH HB0) hb)
 have P1:=hide ((uH P0).below hb)
 clear hb CS P0 HB0 p0 p1 p2 p3 p4 p5 p6 p7
 rcases hr with rfl | ⟨r0,r1,hf⟩
 ·go_wp2
  go_ret
  exact ⟨-1,rfl,.inl rfl,uH HB1⟩
 have F1:=hide hf
 clear hf
 have hr3:¬r<0:=by omega
 have p8:=(uH P1).at 8;have p10:=(uH P1).at 10
 simp at p8 p10
 by_cases hl:r - log.length<0
 ·go_wp2
  go_ret
  exact ⟨-1,rfl,.inl rfl,uH HB1⟩
 go_wp2_with fail
 refine (uH CR _ _ (uH HB1) (by omega) (by omega)).mono ?_
 rintro e w2 ⟨u,rfl,hr,hb⟩
 have HB2:=hide (yB (uH HB1) hb)
 clear hb CR P1 HB1 p8 p10
 rcases hr with rfl | ⟨u0,u1,hf⟩
 ·go_wp2
  go_ret
  exact ⟨-1,rfl,.inl rfl,uH HB2⟩
 have F2:=hide hf
 clear hf
 have hu3:¬u<0:=by omega
 go_wp2
 go_ret
 exact ⟨_,rfl,.inr ⟨u0,by omega,uH F1,by show log.length≤1048576;omega,uH F2⟩,uH HB2⟩
theorem szCluster_any (z:Cls) (c:Clu) (w:World) (h:CRow w z c) (hn:CluBig z c) :
  Calls Tryz.prog 5 #[cluv z c,.int .i64 1048576] w fun e w'=>∃r:Int,e=.returned (.int .i64 r)∧(r = -1∨(0≤r∧FitClu c))∧Below w.heap.size w w':=by
 obtain ⟨⟨⟨qa,ql,qc,aa,al,ac,ma,ml,mc,ca,cl,cc⟩,wo,wl,wc⟩,go,gl,gc,eo,tl,tc⟩:=z
 obtain ⟨⟨⟨qs,clock,epoch,next,serial,apps,ms,cs⟩,log,safe,wait⟩,ags,told⟩:=c
 obtain ⟨h1,h2,h3⟩:=h
 obtain ⟨n1,n2,n3,n4⟩:=hn
 simp only at h1 h2 h3 n1 n2 n3 n4
 have HB0:=hide (yA (yH _ w) (.cells #[.slice qa ql qc,.int .i64 clock,.int .i64 epoch,.int .i64 next,.int .i64 serial,.slice aa al ac,.slice ma ml mc,.slice ca cl cc,.string (bs log),.int .i64 safe,.slice wo wl wc,.slice go gl gc,.slice eo tl tc] 33))
 have P0:=hide (yD w #[.slice qa ql qc,.int .i64 clock,.int .i64 epoch,.int .i64 next,.int .i64 serial,.slice aa al ac,.slice ma ml mc,.slice ca cl cc,.string (bs log),.int .i64 safe,.slice wo wl wc,.slice go gl gc,.slice eo tl tc] 33)
 have CS:=hide (szManager_any ⟨⟨qa,ql,qc,aa,al,ac,ma,ml,mc,ca,cl,cc⟩,wo,wl,wc⟩ ⟨⟨qs,clock,epoch,next,serial,apps,ms,cs⟩,log,safe,wait⟩ _ (h1.below (uH HB0)) n1)
 have CA:=hide (fun a0 wx (hb:Below w.heap.size w wx) h0 h1=>szAgentS_any go gl gc ags a0 wx (h2.below hb) n2.1 n2.2 h0 h1)
 have CR:=hide (fun a0 wx (hb:Below w.heap.size w wx) h0 h1=>szReplyS_any eo tl tc told a0 wx (h3.below hb) n3 n4 h0 h1)
 clear h1 h2 h3 n1 n2 n3 n4
 have p0:=(uH P0).at 0;have p1:=(uH P0).at 1;have p2:=(uH P0).at 2;have p3:=(uH P0).at 3;have p4:=(uH P0).at 4;have p5:=(uH P0).at 5;have p6:=(uH P0).at 6;have p7:=(uH P0).at 7;have p8:=(uH P0).at 8;have p9:=(uH P0).at 9;have p10:=(uH P0).at 10
 simp at p0 p1 p2 p3 p4 p5 p6 p7 p8 p9 p10
 go_enter Tryz.func5,Tryz.ntmps5
 go_wp2_with fail
 refine (uH CS).mono ?_
 rintro e w1 ⟨r,rfl,hr,hb⟩
 have HB1:=hide (yB (uH HB0) hb)
 have P1:=hide ((uH P0).below hb)
 clear hb CS P0 HB0 p0 p1 p2 p3 p4 p5 p6 p7 p8 p9 p10
 rcases hr with rfl | ⟨r0,r1,hf⟩
 ·go_wp2
  go_ret
  exact ⟨-1,rfl,.inl rfl,uH HB1⟩
 have F1:=hide hf
 clear hf
 have hr3:¬r<0:=by omega
 have p11:=(uH P1).at 11
 simp at p11
 go_wp2_with fail
 refine (uH CA _ _ (uH HB1) r0 r1).mono ?_
 rintro e w2 ⟨u,rfl,hr,hb⟩
 have HB2:=hide (yB (uH HB1) hb)
 have P2:=hide ((uH P1).below hb)
 clear hb CA P1 HB1 p11
 rcases hr with rfl | ⟨u0,u1,hf⟩
 ·go_wp2
  go_ret
  exact ⟨-1,rfl,.inl rfl,uH HB2⟩
 have F2:=hide hf
 clear hf
 have hu3:¬u<0:=by omega
 have p12:=(uH P2).at 12
 simp at p12
 go_wp2_with fail
 refine (uH CR _ _ (uH HB2) u0 (by omega)).mono ?_
 rintro e w3 ⟨v,rfl,hr,hb⟩
 have HB3:=hide (yB (uH HB2) hb)
 clear hb CR P2 HB2 p12
 rcases hr with rfl | ⟨v0,v1,hf⟩
 ·go_wp2
  go_ret
  exact ⟨-1,rfl,.inl rfl,uH HB3⟩
 have F3:=hide hf
 clear hf
 have hv3:¬v<0:=by omega
 go_wp2
 go_ret
 exact ⟨_,rfl,.inr ⟨v0,uH F1,uH F2,uH F3⟩,uH HB3⟩
end
end Go.Proofs.YtmkedfdnokmglaaGreat
