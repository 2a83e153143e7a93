/-
  Texts in one: RcvD, KepS, KepM.
-/
import Derived.Test.YtjkfappkpopbdaaGreatSackAF
import Derived.Test.YtjkfappkpopbdaaGreatSackAG
import Derived.Test.YtjkfappkpopbdaaGreatSackAE
set_option maxRecDepth 100000
set_option maxHeartbeats 16000000
set_option linter.unusedVariables false
set_option linter.unusedSimpArgs false
namespace Go.Proofs.YtjkfappkpopbdaaGreat
section
open Go.RowKit
theorem jown_mks {B:Nat} {S:Nat→Prop} {w w':World} {v:Value} {l:List Rc} {t':TypeId} (h:JOwn B w v l) (hm:Mks S w w') (hS:∀k,S k→∃N,Cel w t' k N) (ht:t'≠54):JOwn B w' v l:=by
 obtain ⟨h1,h2⟩:=h
 refine ⟨h1,?_⟩
 rcases h2 with h2 | ⟨g,cap,cur,e,k1,k2,k3⟩
 ·exact .inl h2
 ·refine .inr ⟨g,cap,cur,e,k1,?_,k3⟩
  rw [hm.block g (lt_of_block k2) (fun hs=>by obtain ⟨N,hc⟩:=hS g hs;exact ht (hc.type ⟨_,k2,rfl⟩))]
  exact k2
theorem specRecover_any (ao:Option Addr) (len cap:Nat) (l:List Q) (log:ByteArray) (w:World) (h:QRow w ao len l) (hl:len≤1048576) (hf:FitQ l) (ha:∃ad,ao=some ad) (hs:log.size≤1048576) (hrl:(readV log).1.length≤60000) :
  Calls Tryz.prog 15 #[.slice ao len cap,.string log] w (RecAns w l (readV log).1):=by
 have CN:=hide (fun wx (hb:Below w.heap.size w wx)=>specStateNew_any ao len cap l wx (h.below hb) hl hf ha (fun qo n c wy hr _=>by have:=specStateOk_any (newX qo n c) (newSt l 1 1001 1) wy (new_row 1 1001 1 hr) (new_fit 1 1001 1 hf);rw [new_ok] at this;exact this))
 have CRD:=hide (fun wx=>specRead_any log wx hs)
 obtain ⟨⟨rs,rn⟩,hr⟩:∃p,readV log=p:=⟨_,rfl⟩
 rw [hr] at CRD hrl ⊢
 simp only at CRD hrl ⊢
 have HB0:=hide (yA (yH _ w) (.cells #[.slice none 0 0,.int .i64 0,.int .i64 0,.int .i64 0,.int .i64 0,.slice none 0 0,.slice none 0 0,.slice none 0 0] 37))
 have P0:=hide (yD w #[.slice none 0 0,.int .i64 0,.int .i64 0,.int .i64 0,.int .i64 0,.slice none 0 0,.slice none 0 0,.slice none 0 0] 37)
 have CA:=hide (fun (hq:queuesOk l=true) (x:Sls) (hs:List AV) (k:Nat) (wx:World) (hx:SHas (w.heap.size+1) wx x (recV l (rs.take k)) hs) (hB:w.heap.size+1≤wx.heap.size) (hk:k<rs.length)=>by
  have:=l08Apply_any l x (recV l (rs.take k)) hs rs[k] wx hx hB (rinv_rec hf _) hf hq
  rw [←recV_take hk] at this
  exact this)
 clear h hr hs
 go_enter Tryz.func15,Tryz.ntmps15
 go_wp2_with fail
 refine (uH CN _ (uH HB0)).mono ?_
 rintro e w1 ⟨hb,hcase⟩
 have HB1:=hide (yB (uH HB0) hb)
 have P1:=hide ((uH P0).below hb)
 have hz1:w.heap.size+1≤w1.heap.size:=(uH P1).lt
 clear hb P0 HB0 CN
 rcases hcase with ⟨hq,rfl⟩ | ⟨hq,v,rfl,hown⟩
 ·have hS:recSt l rs=⟨[],0,0,0,0,[],[],[]⟩:=by rw [recSt,if_neg (by simp [hq])]
  have HS:=hide hS
  have HQ:=hide hq
  have b2:=yA (yH _ w1) (.cells #[.slice none 0 0,.int .i64 0,.int .i64 0,.int .i64 0,.int .i64 0,.slice none 0 0,.slice none 0 0,.slice none 0 0] 37)
  have P2:=hide ((uH P1).below b2)
  have HB2:=hide (yB (uH HB1) b2)
  have hz2:=b2.size
  clear hS hq b2 P1
  go_upto_region 3 with fail
  generalize w1.alloc (.cells #[.slice none 0 0,.int .i64 0,.int .i64 0,.int .i64 0,.int .i64 0,.slice none 0 0,.slice none 0 0,.slice none 0 0] 37)=w2 at P2 HB2 hz2 ⊢
  refine wp_region_lit ?_
  refine wpList_same (v:=.agg #[.slice none 0 0,.int .i64 0,.int .i64 0,.int .i64 0,.int .i64 0,.slice none 0 0,.slice none 0 0,.slice none 0 0]) (d:=some 18) rfl rfl (by refine run_v ?_;simp only [List.map_toArray,List.map_nil];kernel_rfl) ?_
  simp only [zW]
  refine wpList_none (d:=none) rfl rfl (run_u (st_store (uH P2) rfl rfl (by kernel_rfl))) ?_
  simp only [Act.put]
  have RR:=hide (blk_row (uH P2) #[.slice none 0 0,.int .i64 0,.int .i64 0,.int .i64 0,.int .i64 0,.slice none 0 0,.slice none 0 0,.slice none 0 0])
  have MM:=hide (mks_row (uH P2) #[.slice none 0 0,.int .i64 0,.int .i64 0,.int .i64 0,.int .i64 0,.slice none 0 0,.slice none 0 0,.slice none 0 0] rfl)
  generalize World.setRow w2 w.heap.size #[.slice none 0 0,.int .i64 0,.int .i64 0,.int .i64 0,.int .i64 0,.slice none 0 0,.slice none 0 0,.slice none 0 0]=W9 at RR MM ⊢
  have B9:=hide ((uH HB2).trans ((uH MM).below (fun k e=>by rw [e];exact yJ _) (by omega)))
  obtain ⟨z0,z1,z2,z3,z4,z5,z6,z7⟩:=zq (uH RR)
  go_wp2
  refine bodyPost_ret (v:=.tuple #[.agg #[.slice none 0 0,.int .i64 0,.int .i64 0,.int .i64 0,.int .i64 0,.slice none 0 0,.slice none 0 0,.slice none 0 0],.bool false]) (by simp [results,Tryz.results15,go_sem,z0,z1,z2,z3,z4,z5,z6,z7]) rfl ?_
  unfold RecAns
  rw [uH HS,uH HQ]
  exact ⟨⟨none,0,0,none,0,0,none,0,0,none,0,0⟩,[],rfl,zero_has _ _,uH B9⟩
 have hS:recSt l rs=recV l rs:=by rw [recSt,if_pos hq]
 have HS:=hide hS
 have HQ:=hide hq
 obtain ⟨qo,qd,rfl,_,hqd,_⟩:=qown_rowx hown
 have b2:=yA (yH _ w1) (.cells (svc (newX qo l.length qd) (newSt l 1 1001 1)) 37)
 rw [yE] at hown
 have K2:=hide (yD w1 (svc (newX qo l.length qd) (newSt l 1 1001 1)) 37)
 have H2:=hide (show SHas (w.heap.size+1) _ (newX qo l.length qd) (recV l (rs.take 0)) [] from ((new_has 1 1001 1 hown rfl).base (B':=w.heap.size+1) (by omega)).below b2)
 have P2:=hide ((uH P1).below b2)
 have HB2:=hide (yB (uH HB1) b2)
 obtain ⟨b6,hb6⟩:∃b,w1.heap.size=b:=⟨_,rfl⟩
 rw [hb6] at K2 hz1
 clear hS hq b2 hown hqd P1 HB1
 go_upto_region 4 with fail
 generalize w1.alloc (.cells (svc (newX qo l.length qd) (newSt l 1 1001 1)) 37)=w2 at K2 H2 P2 HB2 ⊢
 have HB6:=hide hb6
 clear hb6
 go_wp2_with fail
 refine (uH CRD _).mono ?_
 rintro e w3 ⟨v,rfl,hj,hb⟩
 have J3:=hide (jown_base hj (B':=w.heap.size+1) (by have:=(uH K2).lt;omega))
 have K3:=hide ((uH K2).below hb)
 have H3:=hide ((uH H2).below hb)
 have P3:=hide ((uH P2).below hb)
 have HB3:=hide (yB (uH HB2) hb)
 clear hj hb K2 H2 P2 HB2 CRD
 obtain ⟨jo,jc,rfl,_,_,_⟩:=jown_row (uH J3)
 obtain ⟨jl,hjl⟩:∃n,rs.length=n:=⟨_,rfl⟩
 have HJL:=hide hjl
 rw [hjl] at J3 hrl ⊢
 clear hjl
 go_wp2
 go_loopw [10] (fun i wr=>∃k:Nat,k≤jl∧i=.int .i64 k∧Hid (∃y hs,Blk wr b6 (svc y (recV l (rs.take k))) 37∧SHas (w.heap.size+1) wr y (recV l (rs.take k)) hs)∧Hid (JOwn (w.heap.size+1) wr (.slice jo jl jc) rs)∧Hid (Blk wr w.heap.size #[.slice none 0 0,.int .i64 0,.int .i64 0,.int .i64 0,.int .i64 0,.slice none 0 0,.slice none 0 0,.slice none 0 0] 37)∧Hid (Below w.heap.size w wr)) (fun i _=>jl - (intOf i).toNat)
 case atStart=>exact ⟨0,Nat.zero_le _,rfl,hide ⟨_,_,uH K3,uH H3⟩,J3,P3,HB3⟩
 case round=>
  clear J3 K3 H3 P3 HB3
  obtain ⟨k,hk,rfl,HST,HJ,HP,HB⟩:=hrel
  obtain ⟨y,hs,hk6,hh6⟩:=uH HST
  have hzr:b6<wr.heap.size:=hk6.lt
  by_cases hlt:k<jl
  ·have hkl:k<rs.length:=by have:=uH HJL;omega
   obtain ⟨jo2,jc2,ej,hrow,_,_⟩:=jown_row (uH HJ)
   simp only [Value.slice.injEq] at ej
   obtain ⟨ej1,ej2,ej3⟩:=ej
   subst ej1 ej3
   clear ej2
   obtain ⟨b',off,rfl,hat⟩:=hrow.at (by rw [uH HJL];exact hlt)
   obtain ⟨c0,c1,c2⟩:=hat hkl
   have CX:=hide (fun wx (hb:Below wr.heap.size wr wx)=>(uH CA (uH HQ) y hs k wx (hh6.below hb) (by have:=hb.size;omega) hkl).mono (R':=fun e w'=>∃n hs4,e=.returned (sv n (recV l (rs.take (k+1))))∧SHas (w.heap.size+1) w' n (recV l (rs.take (k+1))) hs4∧Blk w' b6 (svc y (recV l (rs.take k))) 37∧JOwn (w.heap.size+1) w' (.slice (some ⟨b',off,none⟩) jl jc) rs∧Blk w' w.heap.size #[.slice none 0 0,.int .i64 0,.int .i64 0,.int .i64 0,.int .i64 0,.slice none 0 0,.slice none 0 0,.slice none 0 0] 37∧Below w.heap.size w w') (fun e w' ⟨n,hs4,he,hh,hm⟩=>⟨n,hs4,he,hh,hm.blk (hk6.below hb) (fun ⟨N,hc,_⟩=>absurd (hc.type ⟨_,hk6.below hb,rfl⟩) (by decide)),jown_mks (jown_below (uH HJ) hb) hm (fun k ⟨N,hc,_⟩=>⟨N,hc⟩) (by decide),hm.blk ((uH HP).below hb) (fun ⟨N,_,h⟩=>by omega),(yB (uH HB) hb).trans (hm.below (fun k ⟨N,_,h⟩=>by omega) (by have:=hb.size;omega))⟩))
   obtain ⟨⟨rk,ra,rq⟩,hr⟩:∃r,rs[k]=r:=⟨_,rfl⟩
   rw [hr] at CX c0 c1 c2
   simp only at c0 c1 c2
   obtain ⟨S2,hS2⟩:∃s,recV l (rs.take (k+1))=s:=⟨_,rfl⟩
   have HS2:=hide hS2
   rw [hS2] at CX
   obtain ⟨S1,hS1⟩:∃s,recV l (rs.take k)=s:=⟨_,rfl⟩
   rw [hS1] at hk6 CX
   have k0:(0:Int)≤k:=by omega
   have k1:(k:Int)<jl:=by omega
   have k2:k<jl:=hlt
   have hwk:IntKind.i64.wrap ((k:Int)+1)=(k:Int)+1:=by rw [IntKind.wrap_i64];omega
   obtain ⟨yqa,yql,yqc,yaa,yal,yac,yma,yml,ymc,yca,ycl,ycc⟩:=y
   obtain ⟨sqs,sck,sep,snx,sse,sap,sms,scs⟩:=S1
   have K6:=hide hk6
   obtain ⟨a0,a1,a2,a3,a4,a5,a6,a7⟩:=zq (uH K6)
   clear hat hr hS1 hS2 hh6 hk6 HST hrow hk
   go_wp2_with fail
   go_region_with (go_at_call 39;refine (uH CX _ ?_).mono ?_;(first | exact (yH _ _).drew | exact yH _ _);rintro e w4 ⟨n,hs4,rfl,hh4,hk4,hj4,hp4,hb4⟩;obtain ⟨nqa,nql,nqc,naa,nal,nac,nma,nml,nmc,nca,ncl,ncc⟩:=n;obtain ⟨tqs,tck,tep,tnx,tse,tap,tms,tcs⟩:=S2;have K4:=hide hk4;have X4:=hide (And.intro hh4 (And.intro hj4 (And.intro hp4 hb4)));clear hk4 hh4 hj4 hp4 hb4;obtain ⟨d0,d1,d2,d3,d4,d5,d6,d7⟩:=zq (uH K4);have g0:=(uH K4).f 0;have g1:=(uH K4).f 1;have g2:=(uH K4).f 2;have g3:=(uH K4).f 3;have g4:=(uH K4).f 4;have g5:=(uH K4).f 5;have g6:=(uH K4).f 6;have g7:=(uH K4).f 7;simp at d0 d1 d2 d3 d4 d5 d6 d7)
   all_goals
    have K5:=hide (show Blk ((((((((w4.setCell ⟨b6,0,none⟩ (.slice nqa nql nqc)).setCell ⟨b6,1,none⟩ (.int .i64 tck)).setCell ⟨b6,2,none⟩ (.int .i64 tep)).setCell ⟨b6,3,none⟩ (.int .i64 tnx)).setCell ⟨b6,4,none⟩ (.int .i64 tse)).setCell ⟨b6,5,none⟩ (.slice naa nal nac)).setCell ⟨b6,6,none⟩ (.slice nma nml nmc)).setCell ⟨b6,7,none⟩ (.slice nca ncl ncc)) b6 #[.slice nqa nql nqc,.int .i64 tck,.int .i64 tep,.int .i64 tnx,.int .i64 tse,.slice naa nal nac,.slice nma nml nmc,.slice nca ncl ncc] 37 from (((((((((uH K4).set 0 (.slice nqa nql nqc)).set 1 (.int .i64 tck)).set 2 (.int .i64 tep)).set 3 (.int .i64 tnx)).set 4 (.int .i64 tse)).set 5 (.slice naa nal nac)).set 6 (.slice nma nml nmc)).set 7 (.slice nca ncl ncc)))
    have M5:=hide (show Mks (fun k=>k=b6) w4 ((((((((w4.setCell ⟨b6,0,none⟩ (.slice nqa nql nqc)).setCell ⟨b6,1,none⟩ (.int .i64 tck)).setCell ⟨b6,2,none⟩ (.int .i64 tep)).setCell ⟨b6,3,none⟩ (.int .i64 tnx)).setCell ⟨b6,4,none⟩ (.int .i64 tse)).setCell ⟨b6,5,none⟩ (.slice naa nal nac)).setCell ⟨b6,6,none⟩ (.slice nma nml nmc)).setCell ⟨b6,7,none⟩ (.slice nca ncl ncc)) from ((((((((Mks.refl (fun k=>k=b6) _).sc (b6) 0 (.slice nqa nql nqc) rfl).sc (b6) 1 (.int .i64 tck) rfl).sc (b6) 2 (.int .i64 tep) rfl).sc (b6) 3 (.int .i64 tnx) rfl).sc (b6) 4 (.int .i64 tse) rfl).sc (b6) 5 (.slice naa nal nac) rfl).sc (b6) 6 (.slice nma nml nmc) rfl).sc (b6) 7 (.slice nca ncl ncc) rfl)
    generalize ((((((((w4.setCell ⟨b6,0,none⟩ (.slice nqa nql nqc)).setCell ⟨b6,1,none⟩ (.int .i64 tck)).setCell ⟨b6,2,none⟩ (.int .i64 tep)).setCell ⟨b6,3,none⟩ (.int .i64 tnx)).setCell ⟨b6,4,none⟩ (.int .i64 tse)).setCell ⟨b6,5,none⟩ (.slice naa nal nac)).setCell ⟨b6,6,none⟩ (.slice nma nml nmc)).setCell ⟨b6,7,none⟩ (.slice nca ncl ncc))=w5 at K5 M5 ⊢
    obtain ⟨hh4,hj4,hp4,hb4⟩:=uH X4
    have H5:=hide (hh4.mkt (uH M5) (uH K4))
    have J5:=hide (jown_mks hj4 (uH M5) (fun k e=>by rw [e];exact ⟨_,_,uH K4,rfl⟩) (by decide))
    have P5:=hide ((uH M5).blk hp4 (fun e=>by omega))
    have B5:=hide (hb4.trans ((uH M5).below (fun k e=>by rw [e];omega) hb4.size))
    clear hh4 hj4 hp4 hb4 X4 K4 M5 d0 d1 d2 d3 d4 d5 d6 d7
    go_wp2
    go_roundw
    case rel=>exact ⟨k+1,by omega,by go_num,hide ⟨⟨nqa,nql,nqc,naa,nal,nac,nma,nml,nmc,nca,ncl,ncc⟩,hs4,by rw [uH HS2];exact uH K5,by rw [uH HS2];exact uH H5⟩,J5,P5,B5⟩
    case measure=>simp [intOf];omega
  ·obtain rfl:k=jl:=by omega
   have hall:rs.take k=rs:=List.take_of_length_le (by have:=uH HJL;omega)
   have hST:recV l (rs.take k)=recSt l rs:=by rw [hall,uH HS]
   rw [hST] at hk6 hh6
   obtain ⟨S1,hS1⟩:∃s,recSt l rs=s:=⟨_,rfl⟩
   rw [hS1] at hk6 hh6
   have HS1:=hide hS1
   obtain ⟨yqa,yql,yqc,yaa,yal,yac,yma,yml,ymc,yca,ycl,ycc⟩:=y
   obtain ⟨sqs,sck,sep,snx,sse,sap,sms,scs⟩:=S1
   have K6:=hide hk6
   have H6:=hide (hh6.base (B':=w.heap.size) (by omega))
   clear HST hST hall hS1 hk6 hh6 CA
   go_upto_region 9 with fail
   refine wp_region_lit ?_
   refine wpList_same (v:=.agg #[.slice yqa yql yqc,.int .i64 sck,.int .i64 sep,.int .i64 snx,.int .i64 sse,.slice yaa yal yac,.slice yma yml ymc,.slice yca ycl ycc]) (d:=some 36) rfl rfl (run_v (st_load (uH K6) rfl)) ?_
   simp only [zW]
   refine wpList_none (d:=none) rfl rfl (run_u (st_store (uH HP) rfl rfl (by kernel_rfl))) ?_
   simp only [Act.put]
   have RR:=hide (blk_row (uH HP) #[.slice yqa yql yqc,.int .i64 sck,.int .i64 sep,.int .i64 snx,.int .i64 sse,.slice yaa yal yac,.slice yma yml ymc,.slice yca ycl ycc])
   have MM:=hide (mks_row (uH HP) #[.slice yqa yql yqc,.int .i64 sck,.int .i64 sep,.int .i64 snx,.int .i64 sse,.slice yaa yal yac,.slice yma yml ymc,.slice yca ycl ycc] rfl)
   generalize World.setRow wr (w.heap.size) #[.slice yqa yql yqc,.int .i64 sck,.int .i64 sep,.int .i64 snx,.int .i64 sse,.slice yaa yal yac,.slice yma yml ymc,.slice yca ycl ycc]=W9 at RR MM ⊢
   have H9:=hide ((uH H6).mkt (uH MM) (uH HP))
   have B9:=hide ((uH HB).trans ((uH MM).below (fun k e=>by rw [e];omega) (by omega)))
   obtain ⟨z0,z1,z2,z3,z4,z5,z6,z7⟩:=zq (uH RR)
   go_wp2
   refine bodyPost_ret (v:=.tuple #[.agg #[.slice yqa yql yqc,.int .i64 sck,.int .i64 sep,.int .i64 snx,.int .i64 sse,.slice yaa yal yac,.slice yma yml ymc,.slice yca ycl ycc],.bool true]) (by simp [results,Tryz.results15,go_sem,z0,z1,z2,z3,z4,z5,z6,z7]) rfl ?_
   exact (show RecAns w l rs _ _ from by unfold RecAns;rw [uH HS1,uH HQ];exact ⟨⟨yqa,yql,yqc,yaa,yal,yac,yma,yml,ymc,yca,ycl,ycc⟩,hs,rfl,uH H9,uH B9⟩)
def MCrAns (w:World) (s:St) (L:List UInt8) (e:Ending) (w':World):Prop:=∃z hs,e=.returned (mgrv ⟨z,none,0,0⟩ ⟨recSt s.qs (readV (bs L)).1,L,L.length,[]⟩)∧SHas w.heap.size w' z (recSt s.qs (readV (bs L)).1) hs∧Below w.heap.size w w'
theorem specManagerCrash_any (y:Mgs) (m:Mgr) (keep:Int) (w:World) (h:MRow w y m) (ha:∃ad,y.x.qa=some ad) (hf:FitMgr m) :
  Calls Tryz.prog 5 #[mgrv y m,.int .i64 keep] w (MCrAns w m.s (crLog m.log m.safe keep)):=by
 obtain ⟨⟨qa,ql,qc,aa,al,ac,ma,ml,mc,ca,cl,cc⟩,wo,wl,wc⟩:=y
 obtain ⟨⟨qs,clock,epoch,next,serial,apps,ms,cs⟩,log,safe,wait⟩:=m
 have hlog:log.length≤1048576:=hf.2.1
 have hq:QRow w qa ql qs:=h.1.1
 have hql:ql≤1048576:=by have h1:=hq.1;have h2:=hf.1.1.1;simp only at h1 h2;omega
 obtain ⟨n,hn⟩:∃n,log.length=n:=⟨_,rfl⟩
 obtain ⟨s1,hs1⟩:∃s1:Int,s1=max safe 0:=⟨_,rfl⟩
 obtain ⟨a,ha1⟩:∃a,fbN n safe=a:=⟨_,rfl⟩
 have hab:(a:Int)=min s1 n:=by rw [hs1,←ha1];unfold fbN;omega
 have han:a≤n:=by rw [←ha1];unfold fbN;omega
 obtain ⟨k1,hk1⟩:∃k1:Int,k1=min keep ((n:Int) - a):=⟨_,rfl⟩
 obtain ⟨b,hb1⟩:∃b,a+fbN (n - a) keep=b:=⟨_,rfl⟩
 have hbk:(b:Int)=a+max k1 0:=by rw [hk1,←hb1];unfold fbN;omega
 have hbn:b≤n:=by rw [←hb1];unfold fbN;omega
 obtain ⟨E,hE1,hE2⟩:=readV_end (bs (log.take b))
 have hEb:E≤b:=by rw [bs_size,List.length_take] at hE2;omega
 obtain ⟨L,hL⟩:∃L,crLog log safe keep=L:=⟨_,rfl⟩
 have hdl:(log.drop a).length=n - a:=by rw [List.length_drop,hn]
 have hcc:log.take a++(log.drop a).take (fbN (log.drop a).length keep)=log.take b:=by rw [hdl,cr_take _ _ _ (by omega),hb1]
 have hLc:(wrote (log.take E) ⟨2,0,[]⟩).1=L:=by
  have h1:=cr_log log safe keep E (by rw [hn,ha1,hcc];exact hE1)
  rw [hn,ha1,hcc,List.take_take,Nat.min_eq_left hEb] at h1
  rw [←hL,h1]
 have hLl:L.length≤1048576:=by rw [←hLc];exact wrote_le _ _ (by rw [List.length_take];omega)
 rw [hL]
 have CRd:=hide (fun wx=>specRead_any (bs (log.take b)) wx (by rw [bs_size,List.length_take];omega))
 have CW:=hide (fun wx=>specWrite_any (log.take E) ⟨2,0,[]⟩ wx (by rw [List.length_take];omega) (by simp))
 have CRc:=hide (fun wx (hb:Below w.heap.size w wx)=>specRecover_any qa ql qc qs (bs L) wx (hq.below hb) hql hf.1.1 ha (by rw [bs_size];omega) (readV_len _))
 rw [hE1] at CRd
 obtain ⟨wb,hwb⟩:∃p,(wrote (log.take E) ⟨2,0,[]⟩).2=p:=⟨_,rfl⟩
 rw [hLc,hwb] at CW
 have hcut1:(bs log).extract 0 b=bs (log.take b):=bs_cut log b
 have hcut2:(bs log).extract 0 E=bs (log.take E):=bs_cut log E
 obtain ⟨t,ht⟩:∃t,recSt qs (readV (bs L)).1=t:=⟨_,rfl⟩
 have HT:=hide ht
 have HSL:=hide (bs_size L)
 have hsz:(bs log).size=n:=by rw [bs_size,hn]
 have HK1:=hide hk1
 have HS1:=hide hs1
 have HAB:=hide hab
 have HBK:=hide hbk
 have HB0:=hide (yA (yA (yH _ w) (.cells #[.slice qa ql qc,.int .i64 clock,.int .i64 epoch,.int .i64 next,.int .i64 serial,.slice aa al ac,.slice ma ml mc,.slice ca cl cc,.string (bs log),.int .i64 safe,.slice wo wl wc] 40)) (.cells #[.slice none 0 0,.int .i64 0,.int .i64 0,.int .i64 0,.int .i64 0,.slice none 0 0,.slice none 0 0,.slice none 0 0,.string ⟨#[]⟩,.int .i64 0,.slice none 0 0] 40))
 have P0:=hide ((yD w #[.slice qa ql qc,.int .i64 clock,.int .i64 epoch,.int .i64 next,.int .i64 serial,.slice aa al ac,.slice ma ml mc,.slice ca cl cc,.string (bs log),.int .i64 safe,.slice wo wl wc] 40).al (.cells #[.slice none 0 0,.int .i64 0,.int .i64 0,.int .i64 0,.int .i64 0,.slice none 0 0,.slice none 0 0,.slice none 0 0,.string ⟨#[]⟩,.int .i64 0,.slice none 0 0] 40))
 have R0:=hide (show Blk _ (w.heap.size+1) #[.slice none 0 0,.int .i64 0,.int .i64 0,.int .i64 0,.int .i64 0,.slice none 0 0,.slice none 0 0,.slice none 0 0,.string ⟨#[]⟩,.int .i64 0,.slice none 0 0] 40 by have:=yD (w.alloc (.cells #[.slice qa ql qc,.int .i64 clock,.int .i64 epoch,.int .i64 next,.int .i64 serial,.slice aa al ac,.slice ma ml mc,.slice ca cl cc,.string (bs log),.int .i64 safe,.slice wo wl wc] 40)) #[.slice none 0 0,.int .i64 0,.int .i64 0,.int .i64 0,.int .i64 0,.slice none 0 0,.slice none 0 0,.slice none 0 0,.string ⟨#[]⟩,.int .i64 0,.slice none 0 0] 40;rwa [yE] at this)
 have hwr:IntKind.i64.wrap ((n:Int) - a)=(n:Int) - a:=by rw [IntKind.wrap_i64];omega
 have HWR2:=hide (show 0<k1→IntKind.i64.wrap ((a:Int)+k1)=(a:Int)+k1 from fun h0=>by rw [IntKind.wrap_i64];omega)
 have HN:=hide hn
 have han':(a:Int)≤n:=by omega
 have hbn':(b:Int)≤n:=by omega
 have hEn':(E:Int)≤n:=by omega
 have hb00:(0:Int)≤(b:Int):=by omega
 have hE00:(0:Int)≤(E:Int):=by omega
 clear h hf ha hq hlog hn hs1 ha1 hab hk1 hb1 hbk hE1 hE2 hL hdl hcc hLc hwb ht hql han hbn hEb
 go_enter Tryz.func5,Tryz.ntmps5
 go_upto_region 1 with fail
 obtain ⟨W,hW⟩:∃W,(w.alloc (.cells #[.slice qa ql qc,.int .i64 clock,.int .i64 epoch,.int .i64 next,.int .i64 serial,.slice aa al ac,.slice ma ml mc,.slice ca cl cc,.string (bs log),.int .i64 safe,.slice wo wl wc] 40)).alloc (.cells #[.slice none 0 0,.int .i64 0,.int .i64 0,.int .i64 0,.int .i64 0,.slice none 0 0,.slice none 0 0,.slice none 0 0,.string ⟨#[]⟩,.int .i64 0,.slice none 0 0] 40)=W:=⟨_,rfl⟩
 rw [hW] at P0 R0 HB0 ⊢
 clear hW
 have p8:=(uH P0).at 8;have p9:=(uH P0).at 9
 simp at p8 p9
 go_upto_if 15 with fail
 go_cut [5] from 14 to 15 (fun v wx=>v=.int .i64 s1∧W=wx)
 case first=>
  by_cases h1:safe<0
  ·go_wp2_with fail
   go_meet
   exact ⟨congrArg (Value.int .i64) (by have:=uH HS1;omega),rfl⟩
  ·go_wp2_with fail
   go_meet
   exact ⟨congrArg (Value.int .i64) (by have:=uH HS1;omega),rfl⟩
 case rest=>
 obtain ⟨rfl,rfl⟩:=hcut
 go_upto_if 20 with fail
 go_cut [5] from 16 to 23 (fun v wx=>v=.int .i64 (a:Int)∧W=wx)
 case first=>
  by_cases h1:(n:Int)<s1
  ·go_wp2_with fail
   go_meet
   exact ⟨congrArg (Value.int .i64) (by have:=uH HAB;omega),rfl⟩
  ·go_wp2_with fail
   go_meet
   exact ⟨congrArg (Value.int .i64) (by have:=uH HAB;omega),rfl⟩
 case rest=>
 obtain ⟨rfl,rfl⟩:=hcut
 go_upto_if 30 with fail
 go_cut [1] from 24 to 35 (fun v wx=>v=.int .i64 k1∧W=wx)
 case first=>
  by_cases h1:(n:Int) - a<keep
  ·go_wp2_with fail
   go_meet
   exact ⟨congrArg (Value.int .i64) (by have:=uH HK1;omega),rfl⟩
  ·go_wp2_with fail
   go_meet
   exact ⟨congrArg (Value.int .i64) (by have:=uH HK1;omega),rfl⟩
 case rest=>
 obtain ⟨rfl,rfl⟩:=hcut
 go_upto_if 37 with fail
 go_cut [5] from 36 to 40 (fun v wx=>v=.int .i64 (b:Int)∧W=wx)
 case first=>
  by_cases h1:0<k1
  ·have hwr2:=uH HWR2 h1
   go_wp2_with fail
   go_meet
   exact ⟨congrArg (Value.int .i64) (by have:=uH HBK;omega),rfl⟩
  ·go_wp2_with fail
   go_meet
   exact ⟨congrArg (Value.int .i64) (by have:=uH HBK;omega),rfl⟩
 case rest=>
 obtain ⟨rfl,rfl⟩:=hcut
 go_wp2_with fail
 try rw [hcut1]
 refine (uH CRd _).mono ?_
 rintro e w2 ⟨v,rfl,hj,hb⟩
 have P2:=hide ((uH P0).below hb)
 have R2:=hide ((uH R0).below hb)
 have HB2:=hide (yB (uH HB0) hb)
 clear hj hb P0 R0 HB0 p8 p9 CRd
 have p8:=(uH P2).at 8
 simp at p8
 go_wp2_with fail
 try rw [hcut2]
 refine (uH CW _).mono ?_
 rintro e w3 ⟨rfl,hb⟩
 have P3:=hide ((uH P2).below hb)
 have R3:=hide ((uH R2).below hb)
 have HB3:=hide (yB (uH HB2) hb)
 clear hb P2 R2 HB2 p8 CW
 have p0:=(uH P3).at 0
 simp at p0
 go_wp2_with fail
 refine (uH CRc _ (uH HB3)).mono ?_
 rintro e w4 ⟨⟨ra,rl,rc,ba,bl,bc,na,nl,nc,da,dl,dc⟩,hs,rfl,hh,hb⟩
 have HH:=hide (show SHas w3.heap.size w4 ⟨ra,rl,rc,ba,bl,bc,na,nl,nc,da,dl,dc⟩ t hs by rw [←uH HT];exact hh)
 have R4:=hide ((uH R3).below hb)
 have HB4:=hide (yB (uH HB3) hb)
 have hz3:w.heap.size+1<w3.heap.size:=(uH R3).lt
 have hts:=uH HT
 clear hh hb P3 R3 HB3 p0 CRc
 rw [hts]
 go_upto_region 13 with fail
 have T5:=hide (yD w4 #[.slice ra rl rc,.int .i64 t.clock,.int .i64 t.epoch,.int .i64 t.next,.int .i64 t.serial,.slice ba bl bc,.slice na nl nc,.slice da dl dc] 37)
 have R5:=hide ((uH R4).al (.cells #[.slice ra rl rc,.int .i64 t.clock,.int .i64 t.epoch,.int .i64 t.next,.int .i64 t.serial,.slice ba bl bc,.slice na nl nc,.slice da dl dc] 37))
 have HB5:=hide (yA (uH HB4) (.cells #[.slice ra rl rc,.int .i64 t.clock,.int .i64 t.epoch,.int .i64 t.next,.int .i64 t.serial,.slice ba bl bc,.slice na nl nc,.slice da dl dc] 37))
 have H5:=hide ((uH HH).below (yA (yH _ _) (.cells #[.slice ra rl rc,.int .i64 t.clock,.int .i64 t.epoch,.int .i64 t.next,.int .i64 t.serial,.slice ba bl bc,.slice na nl nc,.slice da dl dc] 37)))
 generalize w4.alloc (.cells #[.slice ra rl rc,.int .i64 t.clock,.int .i64 t.epoch,.int .i64 t.next,.int .i64 t.serial,.slice ba bl bc,.slice na nl nc,.slice da dl dc] 37)=w5 at T5 R5 HB5 H5 ⊢
 clear R4 HB4 HH hts
 refine wp_region_lit ?_
 refine wpList_same (v:=.agg #[.slice ra rl rc,.int .i64 t.clock,.int .i64 t.epoch,.int .i64 t.next,.int .i64 t.serial,.slice ba bl bc,.slice na nl nc,.slice da dl dc]) rfl rfl (run_v (ns_load 37 (uH T5) Tryz.underlying37 rfl (by kernel_rfl))) ?_
 try simp only [zW]
 refine wpList_same (v:=.string (bs L)) rfl rfl rfl ?_
 try simp only [zW]
 refine wpList_same (v:=.string (bs L)) rfl rfl rfl ?_
 try simp only [zW]
 have z1:=uH HSL
 refine wpList_plain rfl (fun K hK=>?_)
 go_simp
 refine hK _ _ ?_
 clear hK K
 try simp only [zW]
 refine wpList_same (v:=.agg #[.slice ra rl rc,.int .i64 t.clock,.int .i64 t.epoch,.int .i64 t.next,.int .i64 t.serial,.slice ba bl bc,.slice na nl nc,.slice da dl dc,.string (bs L),.int .i64 (L.length:Int),.slice none 0 0]) rfl rfl (by go_simp) ?_
 try simp only [zW]
 refine wpList_none (d:=none) rfl rfl (run_u (ns_store 40 (uH R5) (by kernel_rfl) rfl (by kernel_rfl))) ?_
 try simp only [Act.put]
 have MM:=ns_mks (uH R5) #[.slice ra rl rc,.int .i64 t.clock,.int .i64 t.epoch,.int .i64 t.next,.int .i64 t.serial,.slice ba bl bc,.slice na nl nc,.slice da dl dc,.string (bs L),.int .i64 (L.length:Int),.slice none 0 0] rfl
 have R6:=hide (ns_blk (uH R5) #[.slice ra rl rc,.int .i64 t.clock,.int .i64 t.epoch,.int .i64 t.next,.int .i64 t.serial,.slice ba bl bc,.slice na nl nc,.slice da dl dc,.string (bs L),.int .i64 (L.length:Int),.slice none 0 0])
 have HB6:=hide ((uH HB5).trans (MM.below (fun k e=>by subst e;omega) (uH HB5).size))
 have H6:=hide ((shas_low (uH H5) MM (fun k e=>by subst e;exact hz3)).base (show w.heap.size≤_ by omega))
 clear MM T5 R5 HB5 H5
 generalize World.setRow _ (w.heap.size+1) #[.slice ra rl rc,.int .i64 t.clock,.int .i64 t.epoch,.int .i64 t.next,.int .i64 t.serial,.slice ba bl bc,.slice na nl nc,.slice da dl dc,.string (bs L),.int .i64 (L.length:Int),.slice none 0 0]=w6 at R6 HB6 H6 ⊢
 have r0:=(uH R6).at 0;have r1:=(uH R6).at 1;have r2:=(uH R6).at 2;have r3:=(uH R6).at 3;have r4:=(uH R6).at 4;have r5:=(uH R6).at 5;have r6:=(uH R6).at 6;have r7:=(uH R6).at 7;have r8:=(uH R6).at 8;have r9:=(uH R6).at 9;have r10:=(uH R6).at 10
 simp at r0 r1 r2 r3 r4 r5 r6 r7 r8 r9 r10
 have HE:=hide (show MCrAns w ⟨qs,clock,epoch,next,serial,apps,ms,cs⟩ L (.returned (.agg #[.slice ra rl rc,.int .i64 t.clock,.int .i64 t.epoch,.int .i64 t.next,.int .i64 t.serial,.slice ba bl bc,.slice na nl nc,.slice da dl dc,.string (bs L),.int .i64 (L.length:Int),.slice none 0 0])) w6 from by unfold MCrAns;rw [uH HT];exact ⟨⟨ra,rl,rc,ba,bl,bc,na,nl,nc,da,dl,dc⟩,hs,rfl,uH H6,uH HB6⟩)
 clear R6 HB6 H6
 go_wp2
 exact bodyPost_ret (v:=.agg #[.slice ra rl rc,.int .i64 t.clock,.int .i64 t.epoch,.int .i64 t.next,.int .i64 t.serial,.slice ba bl bc,.slice na nl nc,.slice da dl dc,.string (bs L),.int .i64 (L.length:Int),.slice none 0 0]) (by simp [results,Tryz.results5,go_sem,r0,r1,r2,r3,r4,r5,r6,r7,r8,r9,r10]) rfl (uH HE)
theorem implManagerCrash_any (y:Mgs) (m:Mgr) (keep:Int) (w:World) (h:MRow w y m) (hf:FitMgr m) :
  Calls Tryz.prog 7 #[mgrv y m,.int .i64 keep] w (MCrAns w m.s (crLog m.log m.safe keep)):=by
 have CK:=hide (fun wx (hb:Below w.heap.size w wx)=>keeperOf_any y m wx (h.below hb) hf)
 obtain ⟨⟨qa,ql,qc,aa,al,ac,ma,ml,mc,ca,cl,cc⟩,wo,wl,wc⟩:=y
 obtain ⟨⟨qs,clock,epoch,next,serial,apps,ms,cs⟩,log,safe,wait⟩:=m
 have hlog:log.length≤1048576:=hf.2.1
 have hfq:FitQ qs:=hf.1.1
 have HB0:=hide (yA (yA (yH _ w) (.cells #[.slice qa ql qc,.int .i64 clock,.int .i64 epoch,.int .i64 next,.int .i64 serial,.slice aa al ac,.slice ma ml mc,.slice ca cl cc,.string (bs log),.int .i64 safe,.slice wo wl wc] 40)) (.cells #[.slice none 0 0,.int .i64 0,.int .i64 0,.int .i64 0,.int .i64 0,.slice none 0 0,.slice none 0 0,.slice none 0 0,.string ⟨#[]⟩,.int .i64 0,.slice none 0 0] 40))
 have P0:=hide ((yD w #[.slice qa ql qc,.int .i64 clock,.int .i64 epoch,.int .i64 next,.int .i64 serial,.slice aa al ac,.slice ma ml mc,.slice ca cl cc,.string (bs log),.int .i64 safe,.slice wo wl wc] 40).al (.cells #[.slice none 0 0,.int .i64 0,.int .i64 0,.int .i64 0,.int .i64 0,.slice none 0 0,.slice none 0 0,.slice none 0 0,.string ⟨#[]⟩,.int .i64 0,.slice none 0 0] 40))
 have R0:=hide (show Blk _ (w.heap.size+1) #[.slice none 0 0,.int .i64 0,.int .i64 0,.int .i64 0,.int .i64 0,.slice none 0 0,.slice none 0 0,.slice none 0 0,.string ⟨#[]⟩,.int .i64 0,.slice none 0 0] 40 by have:=yD (w.alloc (.cells #[.slice qa ql qc,.int .i64 clock,.int .i64 epoch,.int .i64 next,.int .i64 serial,.slice aa al ac,.slice ma ml mc,.slice ca cl cc,.string (bs log),.int .i64 safe,.slice wo wl wc] 40)) #[.slice none 0 0,.int .i64 0,.int .i64 0,.int .i64 0,.int .i64 0,.slice none 0 0,.slice none 0 0,.slice none 0 0,.string ⟨#[]⟩,.int .i64 0,.slice none 0 0] 40;rwa [yE] at this)
 clear h hf
 go_enter Tryz.func7,Tryz.ntmps7
 go_upto_region 1 with fail
 obtain ⟨W,hW⟩:∃W,(w.alloc (.cells #[.slice qa ql qc,.int .i64 clock,.int .i64 epoch,.int .i64 next,.int .i64 serial,.slice aa al ac,.slice ma ml mc,.slice ca cl cc,.string (bs log),.int .i64 safe,.slice wo wl wc] 40)).alloc (.cells #[.slice none 0 0,.int .i64 0,.int .i64 0,.int .i64 0,.int .i64 0,.slice none 0 0,.slice none 0 0,.slice none 0 0,.string ⟨#[]⟩,.int .i64 0,.slice none 0 0] 40)=W:=⟨_,rfl⟩
 rw [hW] at P0 R0 HB0 ⊢
 clear hW
 refine wp_region_lit ?_
 refine wpList_same (v:=.agg #[.slice qa ql qc,.int .i64 clock,.int .i64 epoch,.int .i64 next,.int .i64 serial,.slice aa al ac,.slice ma ml mc,.slice ca cl cc,.string (bs log),.int .i64 safe,.slice wo wl wc]) rfl rfl (run_v (ns_load 40 (uH P0) Tryz.underlying40 rfl (by kernel_rfl))) ?_
 try simp only [zW]
 refine wpList_plain rfl (fun K hK=>?_)
 go_simp
 refine (uH CK _ (uH HB0)).mono ?_
 rintro e w1 ⟨k,x,hs,vo,vc,rfl,hK1,hA,hk,hb⟩
 refine hK _ _ ?_
 clear hK K
 try simp only [zW]
 have R1:=hide ((uH R0).below hb)
 have HB1:=hide (yB (uH HB0) hb)
 have hgk:w.heap.size+1<k:=by have:=(uH R0).lt;omega
 have HK:=hide hK1
 have HA:=hide hA
 clear hb hk hK1 hA P0 R0 HB0 CK
 go_wp2_with fail
 refine (crash_any k x _ hs log safe keep vo wait.length vc _ _ (uH HK) (uH HA) hfq hlog).mono ?_
 rintro e w2 ⟨z,hz,rfl,hK2,hH,hm⟩
 have R2:=hide (hm.blk (uH R1) (show ¬w.heap.size+1=k by omega))
 have HB2:=hide ((uH HB1).trans (hm.below (fun j e=>by subst e;omega) (uH HB1).size))
 have HK2:=hide hK2
 have HH:=hide hH
 have hkl:k<w1.heap.size:=(uH HK).lt
 obtain ⟨L,hL⟩:∃L,crLog log safe keep=L:=⟨_,rfl⟩
 obtain ⟨t,ht⟩:∃t,recSt qs (readV (bs L)).1=t:=⟨_,rfl⟩
 simp only at HK2 HH
 rw [hL,ht] at HK2 HH
 have HLL:=hide hL
 have HT:=hide ht
 obtain ⟨ra,rl,rc,ba,bl,bc,na,nl,nc,da,dl,dc⟩:=z
 have hz1:w.heap.size≤w1.heap.size:=(uH HB1).size
 clear hK2 hH hm R1 HB1 HK HA hL ht
 go_upto_region 3 with fail
 refine wp_region_lit ?_
 refine wpList_same (v:=.pointer (some ⟨k,0,none⟩)) rfl rfl rfl ?_
 try simp only [zW]
 refine wpList_plain rfl (fun K hK=>?_)
 go_simp
 refine (handOut_any k ⟨ra,rl,rc,ba,bl,bc,na,nl,nc,da,dl,dc⟩ t L L.length none 0 0 [] _ (uH HK2)).mono ?_
 rintro e w3 ⟨rfl,hm⟩
 refine hK _ _ ?_
 clear hK K
 try simp only [zW]
 have R3:=hide (hm.blk (uH R2) (show ¬w.heap.size+1=k by omega))
 have HB3:=hide ((uH HB2).trans (hm.below (fun j e=>by subst e;omega) (uH HB2).size))
 have H3:=hide (shas_low (uH HH) hm (fun j e=>by subst e;exact hkl))
 clear hm R2 HB2 HK2 HH
 refine wpList_none (d:=none) rfl rfl (run_u (ns_store 40 (uH R3) (by kernel_rfl) rfl (by kernel_rfl))) ?_
 try simp only [Act.put]
 have MM:=ns_mks (uH R3) #[.slice ra rl rc,.int .i64 t.clock,.int .i64 t.epoch,.int .i64 t.next,.int .i64 t.serial,.slice ba bl bc,.slice na nl nc,.slice da dl dc,.string (bs L),.int .i64 (L.length:Int),.slice none 0 0] rfl
 have R4:=hide (ns_blk (uH R3) #[.slice ra rl rc,.int .i64 t.clock,.int .i64 t.epoch,.int .i64 t.next,.int .i64 t.serial,.slice ba bl bc,.slice na nl nc,.slice da dl dc,.string (bs L),.int .i64 (L.length:Int),.slice none 0 0])
 have HB4:=hide ((uH HB3).trans (MM.below (fun j e=>by subst e;omega) (uH HB3).size))
 have H4:=hide ((shas_low (uH H3) MM (fun j e=>by subst e;omega)).base hz1)
 clear MM R3 HB3 H3
 generalize World.setRow w3 (w.heap.size+1) #[.slice ra rl rc,.int .i64 t.clock,.int .i64 t.epoch,.int .i64 t.next,.int .i64 t.serial,.slice ba bl bc,.slice na nl nc,.slice da dl dc,.string (bs L),.int .i64 (L.length:Int),.slice none 0 0]=w4 at R4 HB4 H4 ⊢
 have r0:=(uH R4).at 0;have r1:=(uH R4).at 1;have r2:=(uH R4).at 2;have r3:=(uH R4).at 3;have r4:=(uH R4).at 4;have r5:=(uH R4).at 5;have r6:=(uH R4).at 6;have r7:=(uH R4).at 7;have r8:=(uH R4).at 8;have r9:=(uH R4).at 9;have r10:=(uH R4).at 10
 simp at r0 r1 r2 r3 r4 r5 r6 r7 r8 r9 r10
 have HE:=hide (show MCrAns w ⟨qs,clock,epoch,next,serial,apps,ms,cs⟩ L (.returned (.agg #[.slice ra rl rc,.int .i64 t.clock,.int .i64 t.epoch,.int .i64 t.next,.int .i64 t.serial,.slice ba bl bc,.slice na nl nc,.slice da dl dc,.string (bs L),.int .i64 (L.length:Int),.slice none 0 0])) w4 from by unfold MCrAns;rw [uH HT];exact ⟨⟨ra,rl,rc,ba,bl,bc,na,nl,nc,da,dl,dc⟩,hz,rfl,uH H4,uH HB4⟩)
 clear R4 HB4 H4
 go_wp2
 exact bodyPost_ret (v:=.agg #[.slice ra rl rc,.int .i64 t.clock,.int .i64 t.epoch,.int .i64 t.next,.int .i64 t.serial,.slice ba bl bc,.slice na nl nc,.slice da dl dc,.string (bs L),.int .i64 (L.length:Int),.slice none 0 0]) (by simp [results,Tryz.results7,go_sem,r0,r1,r2,r3,r4,r5,r6,r7,r8,r9,r10]) rfl (by rw [uH HLL];exact uH HE)
end
end Go.Proofs.YtjkfappkpopbdaaGreat
