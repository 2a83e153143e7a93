/-
  What the program's TakeBack answers: the state that is left, in memory of its own, and what is gone; walks over the dump.
-/
import Derived.Test.YtngkddhcmfbjnaaGreatSackAC
set_option maxRecDepth 100000
set_option maxHeartbeats 16000000
set_option linter.unusedVariables false
set_option linter.unusedSimpArgs false
namespace Go.Proofs.YtngkddhcmfbjnaaGreat
section
open Go.RowKit
theorem aBq (k:Nat) (io:Option Addr) (il ic:Nat) (ids:List Int) (q:Con) (w:World) (h:w.cell? ⟨k,0,none⟩=some (.slice io il ic)) (hi:aDG w io il ids) (hil:il≤1048576) :
  cP 60 #[conv q,.pointer (some ⟨k,0,none⟩)] w fun e w'=>e=.returned (.bool (wD q.id ids))∧Bw w w':=by
 obtain ⟨id,ap,nd,me,cp⟩:=q
 have hks:=yG h
 have hb:=yA (yH _ w) (.cells #[.int .i64 id,.int .i64 ap,.string (bs nd),.int .i64 me,.int .i64 cp] 52)
 have HB:=aA hb
 have CC:=aA (yZ io il ic ids id _ (hi.below hb) hil)
 clear hb hi
 go_enter Tryz.func60,Tryz.ntmps60
 go_wp2_with fail
 refine (uH CC).mono ?_
 rintro e w1 ⟨rfl,rfl⟩
 clear CC
 go_wp2
 go_ret
 exact ⟨rfl,uH HB⟩
theorem vQ (x:Sls) (s:St) (io:Option Addr) (il ic:Nat) (ids:List Int) (w:World) (h:gU w x s) (hf:dI s) (hc:x.ql≤x.qc) (hw:aAF s) (hi:aDG w io il ids) (hil:il≤1048576) :
  cP 17 #[sv x s,.slice io il ic] w (aLV w (aBo s ids).1 (aBo s ids).2):=by
 have hlc:s.cs.length≤1048576:=hf.2.2.2.1
 obtain ⟨o,ho⟩:∃o,aW s=o:=⟨_,rfl⟩
 have HO:=aA ho
 have HV:=aA (aAr s ids)
 have hb0:=yA (yA (yA (yH _ w) (.cells (svc x s) 29)) (.cells #[.slice io il ic] 32)) (.cells #[.slice none 0 0,.int .i64 0,.int .i64 0,.int .i64 0,.int .i64 0,.slice none 0 0,.slice none 0 0,.slice none 0 0] 29)
 have HB0:=aA hb0
 have P0:=aA (((yD w (svc x s) 29).al (.cells #[.slice io il ic] 32)).al (.cells #[.slice none 0 0,.int .i64 0,.int .i64 0,.int .i64 0,.int .i64 0,.slice none 0 0,.slice none 0 0,.slice none 0 0] 29))
 have PI:=aA (show Blk _ (w.heap.size+1) #[.slice io il ic] 32 by have:=(yD (w.alloc (.cells (svc x s) 29)) #[.slice io il ic] 32).al (.cells #[.slice none 0 0,.int .i64 0,.int .i64 0,.int .i64 0,.int .i64 0,.slice none 0 0,.slice none 0 0,.slice none 0 0] 29);rwa [yE] at this)
 have P1:=aA (show Blk _ (w.heap.size+2) #[.slice none 0 0,.int .i64 0,.int .i64 0,.int .i64 0,.int .i64 0,.slice none 0 0,.slice none 0 0,.slice none 0 0] 29 by have:=yD ((w.alloc (.cells (svc x s) 29)).alloc (.cells #[.slice io il ic] 32)) #[.slice none 0 0,.int .i64 0,.int .i64 0,.int .i64 0,.int .i64 0,.slice none 0 0,.slice none 0 0,.slice none 0 0] 29;rwa [yE,yE] at this)
 have CC:=aA (yU x s _ (h.below hb0) hf)
 have CO:=aA (fun wx (hb:Bw w wx)=>by have:=nJ x s wx (h.below hb) hf hc hw;rw [ho] at this;exact this)
 have HI:=aA hi
 obtain ⟨qa,ql,qc,aa,al,ac,ma,ml,mc,ca,cl,cc⟩:=x
 obtain ⟨qs,cv,ez,nv,sj,aj,ms,cs⟩:=s
 simp only at *
 clear h hb0 hf hc hw ho hi
 go_enter Tryz.func17,Tryz.ntmps17
 go_wp2_with fail
 refine (uH CC).mono ?_
 rintro e w2 ⟨y,hs,rfl,ha,hb⟩
 obtain ⟨yqa,yql,yqc,yaa,yal,yac,yma,yml,ymc,yca,ycl,ycc⟩:=y
 rw [yE,yE,yE] at ha
 have H2:=aA (ha.has (yJ _))
 have B2:=aA (yB (uH HB0) hb)
 have b3:=yA (yH _ w2) (.cells #[.slice yqa yql yqc,.int .i64 cv,.int .i64 ez,.int .i64 nv,.int .i64 sj,.slice yaa yal yac,.slice yma yml ymc,.slice yca ycl ycc] 29)
 have P3:=aA (((uH P0).below hb).al (.cells #[.slice yqa yql yqc,.int .i64 cv,.int .i64 ez,.int .i64 nv,.int .i64 sj,.slice yaa yal yac,.slice yma yml ymc,.slice yca ycl ycc] 29))
 have I3:=aA (((uH PI).below hb).al (.cells #[.slice yqa yql yqc,.int .i64 cv,.int .i64 ez,.int .i64 nv,.int .i64 sj,.slice yaa yal yac,.slice yma yml ymc,.slice yca ycl ycc] 29))
 have R3:=aA (((uH P1).below hb).al (.cells #[.slice yqa yql yqc,.int .i64 cv,.int .i64 ez,.int .i64 nv,.int .i64 sj,.slice yaa yal yac,.slice yma yml ymc,.slice yca ycl ycc] 29))
 have O3:=aA (yD w2 #[.slice yqa yql yqc,.int .i64 cv,.int .i64 ez,.int .i64 nv,.int .i64 sj,.slice yaa yal yac,.slice yma yml ymc,.slice yca ycl ycc] 29)
 have H3:=aA ((uH H2).below b3)
 have B3:=aA (yB (uH B2) b3)
 have hz2:w.heap.size+3≤w2.heap.size:=by have:=hb.size;rw [yE,yE,yE] at this;omega
 obtain ⟨b,hbb⟩:∃b,w2.heap.size=b:=⟨_,rfl⟩
 have Xv:=aA hbb
 obtain ⟨a0,a1,a2,a3,a4,a5,a6,a7⟩:=zq (uH P3)
 clear ha hb HB0 P0 P1 PI CC H2 B2 b3 hbb
 go_wp2_with fail
 refine (uH CO _ (uH B3)).mono ?_
 rintro e w4 ⟨rfl,hb⟩
 have B4:=aA (yB (uH B3) hb)
 have H4:=aA ((uH H3).below hb)
 have R4:=aA ((uH R3).below hb)
 have I4:=aA ((uH I3).below hb)
 have O4:=aA (show Blk w4 b _ 29 by have:=(uH O3).below hb;rw [uH Xv] at this;exact this)
 have Wz:b<w4.heap.size:=(uH O4).lt
 have hb2:w.heap.size+3≤b:=by have:=uH Xv;omega
 rw [uH Xv]
 clear hb B3 H3 R3 O3 P3 I3 a0 a1 a2 a3 a4 a5 a6 a7 CO
 cases o
 case false=>
  obtain ⟨c0,c1,c2,c3,c4,c5,c6,c7⟩:=zq (uH R4)
  have f0:=(uH R4).f 0;have f1:=(uH R4).f 1;have f2:=(uH R4).f 2;have f3:=(uH R4).f 3;have f4:=(uH R4).f 4;have f5:=(uH R4).f 5;have f6:=(uH R4).f 6;have f7:=(uH R4).f 7
  obtain ⟨a0,a1,a2,a3,a4,a5,a6,a7⟩:=zq (uH O4)
  go_wp2
  have R9:=aA (show Blk ((((((((w4.setCell ⟨w.heap.size+2,0,none⟩ (.slice yqa yql yqc)).setCell ⟨w.heap.size+2,1,none⟩ (.int .i64 cv)).setCell ⟨w.heap.size+2,2,none⟩ (.int .i64 ez)).setCell ⟨w.heap.size+2,3,none⟩ (.int .i64 nv)).setCell ⟨w.heap.size+2,4,none⟩ (.int .i64 sj)).setCell ⟨w.heap.size+2,5,none⟩ (.slice yaa yal yac)).setCell ⟨w.heap.size+2,6,none⟩ (.slice yma yml ymc)).setCell ⟨w.heap.size+2,7,none⟩ (.slice yca ycl ycc)) (w.heap.size+2) #[.slice yqa yql yqc,.int .i64 cv,.int .i64 ez,.int .i64 nv,.int .i64 sj,.slice yaa yal yac,.slice yma yml ymc,.slice yca ycl ycc] 29 from (((((((((uH R4).set 0 (.slice yqa yql yqc)).set 1 (.int .i64 cv)).set 2 (.int .i64 ez)).set 3 (.int .i64 nv)).set 4 (.int .i64 sj)).set 5 (.slice yaa yal yac)).set 6 (.slice yma yml ymc)).set 7 (.slice yca ycl ycc)))
  have H9:=aA (((((((((uH H4).sc (k:=w.heap.size+2) (j:=0) (v:=.slice yqa yql yqc) (by omega)).sc (k:=w.heap.size+2) (j:=1) (v:=.int .i64 cv) (by omega)).sc (k:=w.heap.size+2) (j:=2) (v:=.int .i64 ez) (by omega)).sc (k:=w.heap.size+2) (j:=3) (v:=.int .i64 nv) (by omega)).sc (k:=w.heap.size+2) (j:=4) (v:=.int .i64 sj) (by omega)).sc (k:=w.heap.size+2) (j:=5) (v:=.slice yaa yal yac) (by omega)).sc (k:=w.heap.size+2) (j:=6) (v:=.slice yma yml ymc) (by omega)).sc (k:=w.heap.size+2) (j:=7) (v:=.slice yca ycl ycc) (by omega))
  have B9:=aA (yC (yC (yC (yC (yC (yC (yC (yC (uH B4) (w.heap.size+2) 0 (.slice yqa yql yqc) (by omega)) (w.heap.size+2) 1 (.int .i64 cv) (by omega)) (w.heap.size+2) 2 (.int .i64 ez) (by omega)) (w.heap.size+2) 3 (.int .i64 nv) (by omega)) (w.heap.size+2) 4 (.int .i64 sj) (by omega)) (w.heap.size+2) 5 (.slice yaa yal yac) (by omega)) (w.heap.size+2) 6 (.slice yma yml ymc) (by omega)) (w.heap.size+2) 7 (.slice yca ycl ycc) (by omega))
  generalize ((((((((w4.setCell ⟨w.heap.size+2,0,none⟩ (.slice yqa yql yqc)).setCell ⟨w.heap.size+2,1,none⟩ (.int .i64 cv)).setCell ⟨w.heap.size+2,2,none⟩ (.int .i64 ez)).setCell ⟨w.heap.size+2,3,none⟩ (.int .i64 nv)).setCell ⟨w.heap.size+2,4,none⟩ (.int .i64 sj)).setCell ⟨w.heap.size+2,5,none⟩ (.slice yaa yal yac)).setCell ⟨w.heap.size+2,6,none⟩ (.slice yma yml ymc)).setCell ⟨w.heap.size+2,7,none⟩ (.slice yca ycl ycc))=W9 at R9 H9 B9 ⊢
  obtain ⟨z0,z1,z2,z3,z4,z5,z6,z7⟩:=zq (uH R9)
  refine bodyPost_ret (v:=.tuple #[.agg #[.slice yqa yql yqc,.int .i64 cv,.int .i64 ez,.int .i64 nv,.int .i64 sj,.slice yaa yal yac,.slice yma yml ymc,.slice yca ycl ycc],.slice none 0 0]) (by simp [results,Tryz.results17,go_sem,z0,z1,z2,z3,z4,z5,z6,z7]) rfl ?_
  rw [(uH HV).2 (uH HO)]
  exact ⟨⟨yqa,yql,yqc,yaa,yal,yac,yma,yml,ymc,yca,ycl,ycc⟩,hs,none,0,0,rfl,(uH H9).ans.mono (by omega) (yJ _),⟨⟨rfl,.inl rfl⟩,.inl rfl⟩,fun k hk=>absurd rfl hk.1,uH B9⟩
 have hcl:ycl≤1048576:=by have:=(uH H4).c.1.1;simp only at this;omega
 have CD:=aA (aBp 60 #[.pointer (some ⟨w.heap.size+1,0,none⟩)] (enters_of Tryz.func60 (by kernel_rfl) rfl) (fun q=>wD q.id ids) b ⟨yqa,yql,yqc,yaa,yal,yac,yma,yml,ymc,yca,ycl,ycc⟩ ⟨qs,cv,ez,nv,sj,aj,ms,cs⟩ hs w4 (uH O4) (uH H4) (by omega) hcl (fun wx q hq hbx=>aBq (w.heap.size+1) io il ic ids q wx (((uH I4).below hbx).at 0) ((uH HI).below (yB (uH B4) hbx)) hil))
 simp only at CD
 clear hcl
 go_wp2_with fail
 refine (uH CD).mono ?_
 rintro e w5 ⟨z,go,gn,gc,rfl,hk,hh,hg,hap,hm⟩
 obtain ⟨zqa,zql,zqc,zaa,zal,zac,zma,zml,zmc,zca,zcl,zcc⟩:=z
 have K5:=aA hk
 have H5:=aA hh
 have G5:=aA (hg.base (B':=w.heap.size+3) (by omega))
 have AP:=aA hap
 have R5:=aA (hm.blk1 (uH R4) (by omega))
 have B5:=aA (show Bw w w5 from (uH B4).trans (hm.below (fun k (hk:k=b)=>by omega) (by omega)))
 clear hk hh hg hap hm CD
 obtain ⟨c0,c1,c2,c3,c4,c5,c6,c7⟩:=zq (uH R5)
 have f0:=(uH R5).f 0;have f1:=(uH R5).f 1;have f2:=(uH R5).f 2;have f3:=(uH R5).f 3;have f4:=(uH R5).f 4;have f5:=(uH R5).f 5;have f6:=(uH R5).f 6;have f7:=(uH R5).f 7
 obtain ⟨a0,a1,a2,a3,a4,a5,a6,a7⟩:=zq (uH K5)
 go_wp2
 have R9:=aA (show Blk ((((((((w5.setCell ⟨w.heap.size+2,0,none⟩ (.slice zqa zql zqc)).setCell ⟨w.heap.size+2,1,none⟩ (.int .i64 cv)).setCell ⟨w.heap.size+2,2,none⟩ (.int .i64 ez)).setCell ⟨w.heap.size+2,3,none⟩ (.int .i64 nv)).setCell ⟨w.heap.size+2,4,none⟩ (.int .i64 sj)).setCell ⟨w.heap.size+2,5,none⟩ (.slice zaa zal zac)).setCell ⟨w.heap.size+2,6,none⟩ (.slice zma zml zmc)).setCell ⟨w.heap.size+2,7,none⟩ (.slice zca zcl zcc)) (w.heap.size+2) #[.slice zqa zql zqc,.int .i64 cv,.int .i64 ez,.int .i64 nv,.int .i64 sj,.slice zaa zal zac,.slice zma zml zmc,.slice zca zcl zcc] 29 from (((((((((uH R5).set 0 (.slice zqa zql zqc)).set 1 (.int .i64 cv)).set 2 (.int .i64 ez)).set 3 (.int .i64 nv)).set 4 (.int .i64 sj)).set 5 (.slice zaa zal zac)).set 6 (.slice zma zml zmc)).set 7 (.slice zca zcl zcc)))
 have H9:=aA (((((((((uH H5).sc (k:=w.heap.size+2) (j:=0) (v:=.slice zqa zql zqc) (by omega)).sc (k:=w.heap.size+2) (j:=1) (v:=.int .i64 cv) (by omega)).sc (k:=w.heap.size+2) (j:=2) (v:=.int .i64 ez) (by omega)).sc (k:=w.heap.size+2) (j:=3) (v:=.int .i64 nv) (by omega)).sc (k:=w.heap.size+2) (j:=4) (v:=.int .i64 sj) (by omega)).sc (k:=w.heap.size+2) (j:=5) (v:=.slice zaa zal zac) (by omega)).sc (k:=w.heap.size+2) (j:=6) (v:=.slice zma zml zmc) (by omega)).sc (k:=w.heap.size+2) (j:=7) (v:=.slice zca zcl zcc) (by omega))
 have G9:=aA (((((((((uH G5).sc (k:=w.heap.size+2) (j:=0) (v:=.slice zqa zql zqc) (by omega)).sc (k:=w.heap.size+2) (j:=1) (v:=.int .i64 cv) (by omega)).sc (k:=w.heap.size+2) (j:=2) (v:=.int .i64 ez) (by omega)).sc (k:=w.heap.size+2) (j:=3) (v:=.int .i64 nv) (by omega)).sc (k:=w.heap.size+2) (j:=4) (v:=.int .i64 sj) (by omega)).sc (k:=w.heap.size+2) (j:=5) (v:=.slice zaa zal zac) (by omega)).sc (k:=w.heap.size+2) (j:=6) (v:=.slice zma zml zmc) (by omega)).sc (k:=w.heap.size+2) (j:=7) (v:=.slice zca zcl zcc) (by omega))
 have B9:=aA (yC (yC (yC (yC (yC (yC (yC (yC (uH B5) (w.heap.size+2) 0 (.slice zqa zql zqc) (by omega)) (w.heap.size+2) 1 (.int .i64 cv) (by omega)) (w.heap.size+2) 2 (.int .i64 ez) (by omega)) (w.heap.size+2) 3 (.int .i64 nv) (by omega)) (w.heap.size+2) 4 (.int .i64 sj) (by omega)) (w.heap.size+2) 5 (.slice zaa zal zac) (by omega)) (w.heap.size+2) 6 (.slice zma zml zmc) (by omega)) (w.heap.size+2) 7 (.slice zca zcl zcc) (by omega))
 generalize ((((((((w5.setCell ⟨w.heap.size+2,0,none⟩ (.slice zqa zql zqc)).setCell ⟨w.heap.size+2,1,none⟩ (.int .i64 cv)).setCell ⟨w.heap.size+2,2,none⟩ (.int .i64 ez)).setCell ⟨w.heap.size+2,3,none⟩ (.int .i64 nv)).setCell ⟨w.heap.size+2,4,none⟩ (.int .i64 sj)).setCell ⟨w.heap.size+2,5,none⟩ (.slice zaa zal zac)).setCell ⟨w.heap.size+2,6,none⟩ (.slice zma zml zmc)).setCell ⟨w.heap.size+2,7,none⟩ (.slice zca zcl zcc))=W9 at R9 H9 G9 B9 ⊢
 obtain ⟨z0,z1,z2,z3,z4,z5,z6,z7⟩:=zq (uH R9)
 refine bodyPost_ret (v:=.tuple #[.agg #[.slice zqa zql zqc,.int .i64 cv,.int .i64 ez,.int .i64 nv,.int .i64 sj,.slice zaa zal zac,.slice zma zml zmc,.slice zca zcl zcc],.slice go gn gc]) (by simp [results,Tryz.results17,go_sem,z0,z1,z2,z3,z4,z5,z6,z7]) rfl ?_
 rw [(uH HV).1 (uH HO)]
 exact ⟨⟨zqa,zql,zqc,zaa,zal,zac,zma,zml,zmc,zca,zcl,zcc⟩,_,go,gn,gc,rfl,(uH H9).ans.mono (by omega) (yJ _),(uH G9).base (by omega),uH AP,uH B9⟩
end
end Go.Proofs.YtngkddhcmfbjnaaGreat
