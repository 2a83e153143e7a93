/-
  Texts in one: RcvC, KepC.
-/
import Derived.Test.YtjkfappkpopbdaaGreatSackAD
import Derived.Test.YtjkfappkpopbdaaGreatSackV
set_option maxRecDepth 100000
set_option maxHeartbeats 16000000
set_option linter.unusedVariables false
set_option linter.unusedSimpArgs false
namespace Go.Proofs.YtjkfappkpopbdaaGreat
section
open Go.RowKit
def recSt (l:List Q) (rs:List Rc):St:=if queuesOk l=true then recV l rs else ⟨[],0,0,0,0,[],[],[]⟩
def RecAns (w:World) (l:List Q) (rs:List Rc) (e:Ending) (w':World):Prop:=∃y hs,e=.returned (.tuple #[sv y (recSt l rs),.bool (queuesOk l)])∧SHas w.heap.size w' y (recSt l rs) hs∧Below w.heap.size w w'
theorem zero_has (B:Nat) (w:World):SHas B w ⟨none,0,0,none,0,0,none,0,0,none,0,0⟩ ⟨[],0,0,0,0,[],[],[]⟩ []:=
 ⟨⟨⟨rfl,.inl rfl⟩,.inl rfl⟩,⟨⟨rfl,.inl rfl⟩,.inl rfl⟩,KHas.nil _ _,⟨⟨rfl,.inl rfl⟩,.inl rfl⟩,⟨⟨rfl,.inl rfl⟩,.inl rfl⟩,⟨yJ _,yJ _,yJ _,yJ _⟩,.inl rfl,.inl rfl,.inl rfl,.inl rfl,fun v hv=>absurd hv (by simp)⟩
theorem StIn.below {B b:Nat} {w w1 w2:World} {s:St} (h:StIn B b w s w1) (hb:Below w1.heap.size w1 w2) (hB:B≤w1.heap.size):StIn B b w s w2:=let ⟨y,hs,h1,h2,h3⟩:=h;⟨y,hs,h1.below hb,h2.below hb,h3.trans (hb.mono hB)⟩
theorem implStateBy_any (ao:Option Addr) (len cap:Nat) (l:List Q) (jo:Option Addr) (jl jc:Nat) (rs:List Rc) (w:World) (h:QRow w ao len l) (hl:len≤1048576) (hf:FitQ l) (hc:len≤cap) (hj:RcRow w jo jl rs) (hjl:jl≤1048576) :
  Calls Tryz.prog 103 #[.slice ao len cap,.slice jo jl jc] w (RecAns w l rs):=by
 have CN:=hide (fun wx (hb:Below w.heap.size w wx)=>implStateNew_any ao len cap l wx (h.below hb) hl hf (fun qo n c wy hr hc=>by have:=implStateOk_any (newX qo n c) (newSt l 1 1001 1) wy (new_row 1 1001 1 hr) (new_fit 1 1001 1 hf) hc ⟨by simp,by simp⟩;rw [new_ok] at this;exact this) hc)
 have HB0:=hide (yA (yH _ w) (.cells #[.slice none 0 0,.int .i64 0,.int .i64 0,.int .i64 0,.int .i64 0,.slice none 0 0,.slice none 0 0,.slice none 0 0] 37))
 have P0:=hide (yD w #[.slice none 0 0,.int .i64 0,.int .i64 0,.int .i64 0,.int .i64 0,.slice none 0 0,.slice none 0 0,.slice none 0 0] 37)
 have RJ:=hide hj
 have HJL:=hide hj.1
 have CR:=hide (fun (b:Nat) (k:Nat) (w0 wx:World) (hs:StIn (w.heap.size+1) b w0 (recV l (rs.take k)) wx) (hb:w.heap.size+1≤b) (hk:k<rs.length)=>by
  have:=recall_st l b (recV l (rs.take k)) rs[k] w0 wx hs hb (rinv_rec hf _) hf
  rw [←recV_take hk] at this
  exact this)
 clear h hj
 go_enter Tryz.func103,Tryz.ntmps103
 go_wp2_with fail
 refine (uH CN _ (uH HB0)).mono ?_
 rintro e w1 ⟨hb,hcase⟩
 have HB1:=hide (yB (uH HB0) hb)
 have P1:=hide ((uH P0).below hb)
 have hz1:w.heap.size+1≤w1.heap.size:=(uH P1).lt
 clear hb P0 HB0 CN
 rcases hcase with ⟨hq,rfl⟩ | ⟨hq,v,rfl,hown⟩
 ·have hS:recSt l rs=⟨[],0,0,0,0,[],[],[]⟩:=by rw [recSt,if_neg (by simp [hq])]
  have HS:=hide hS
  have HQ:=hide hq
  have b2:=yA (yH _ w1) (.cells #[.slice none 0 0,.int .i64 0,.int .i64 0,.int .i64 0,.int .i64 0,.slice none 0 0,.slice none 0 0,.slice none 0 0] 37)
  have P2:=hide ((uH P1).below b2)
  have HB2:=hide (yB (uH HB1) b2)
  have hz2:=b2.size
  clear hS hq b2 P1
  go_upto_region 3 with fail
  generalize w1.alloc (.cells #[.slice none 0 0,.int .i64 0,.int .i64 0,.int .i64 0,.int .i64 0,.slice none 0 0,.slice none 0 0,.slice none 0 0] 37)=w2 at P2 HB2 hz2 ⊢
  refine wp_region_lit ?_
  refine wpList_same (v:=.agg #[.slice none 0 0,.int .i64 0,.int .i64 0,.int .i64 0,.int .i64 0,.slice none 0 0,.slice none 0 0,.slice none 0 0]) (d:=some 17) rfl rfl (by refine run_v ?_;simp only [List.map_toArray,List.map_nil];kernel_rfl) ?_
  simp only [zW]
  refine wpList_none (d:=none) rfl rfl (run_u (st_store (uH P2) rfl rfl (by kernel_rfl))) ?_
  simp only [Act.put]
  have RR:=hide (blk_row (uH P2) #[.slice none 0 0,.int .i64 0,.int .i64 0,.int .i64 0,.int .i64 0,.slice none 0 0,.slice none 0 0,.slice none 0 0])
  have MM:=hide (mks_row (uH P2) #[.slice none 0 0,.int .i64 0,.int .i64 0,.int .i64 0,.int .i64 0,.slice none 0 0,.slice none 0 0,.slice none 0 0] rfl)
  generalize World.setRow w2 w.heap.size #[.slice none 0 0,.int .i64 0,.int .i64 0,.int .i64 0,.int .i64 0,.slice none 0 0,.slice none 0 0,.slice none 0 0]=W9 at RR MM ⊢
  have B9:=hide ((uH HB2).trans ((uH MM).below (fun k e=>by rw [e];exact yJ _) (by omega)))
  obtain ⟨z0,z1,z2,z3,z4,z5,z6,z7⟩:=zq (uH RR)
  go_wp2
  refine bodyPost_ret (v:=.tuple #[.agg #[.slice none 0 0,.int .i64 0,.int .i64 0,.int .i64 0,.int .i64 0,.slice none 0 0,.slice none 0 0,.slice none 0 0],.bool false]) (by simp [results,Tryz.results103,go_sem,z0,z1,z2,z3,z4,z5,z6,z7]) rfl ?_
  unfold RecAns
  rw [uH HS,uH HQ]
  exact ⟨⟨none,0,0,none,0,0,none,0,0,none,0,0⟩,[],rfl,zero_has _ _,uH B9⟩
 have hS:recSt l rs=recV l rs:=by rw [recSt,if_pos hq]
 have HS:=hide hS
 have HQ:=hide hq
 obtain ⟨qo,qd,rfl,_,hqd,_⟩:=qown_rowx hown
 have b2:=yA (yH _ w1) (.cells (svc (newX qo l.length qd) (newSt l 1 1001 1)) 37)
 rw [yE] at hown
 have ST2:=hide (show StIn (w.heap.size+1) w1.heap.size w1 (recV l (rs.take 0)) (w1.alloc (.cells (svc (newX qo l.length qd) (newSt l 1 1001 1)) 37)) from ⟨newX qo l.length qd,[],yD w1 _ _,((new_has 1 1001 1 hown rfl).base (by omega)).below b2,b2.mono hz1⟩)
 obtain ⟨b6,hb6⟩:∃b,w1.heap.size=b:=⟨_,rfl⟩
 rw [hb6] at ST2 hz1
 clear hS hq b2 hown hqd
 go_upto_region 4 with fail
 generalize w1.alloc (.cells (svc (newX qo l.length qd) (newSt l 1 1001 1)) 37)=w2 at ST2 ⊢
 have HB6:=hide hb6
 clear hb6
 go_wp2
 go_loopw [20] (fun i wr=>∃k:Nat,k≤jl∧i=.int .i64 k∧Hid (StIn (w.heap.size+1) b6 w1 (recV l (rs.take k)) wr)) (fun i _=>jl - (intOf i).toNat)
 case atStart=>exact ⟨0,Nat.zero_le _,rfl,ST2⟩
 case round=>
  clear ST2
  obtain ⟨k,hk,rfl,HST⟩:=hrel
  have hst:=uH HST
  obtain ⟨y,hs,hk6,hh6,hb6⟩:=hst
  have hzr:b6<wr.heap.size:=hk6.lt
  have HB:=hide (show Below w.heap.size w wr from (uH HB1).trans (hb6.mono (by omega)))
  by_cases hlt:k<jl
  ·have hkl:k<rs.length:=by have:=uH HJL;omega
   obtain ⟨b',off,rfl,hat⟩:=((uH RJ).below (uH HB)).at hlt
   obtain ⟨c0,c1,c2⟩:=hat hkl
   have CR':=hide (uH CR b6 k)
   obtain ⟨⟨rk,ra,rq⟩,hr⟩:∃r,rs[k]=r:=⟨_,rfl⟩
   have CK:=hide (fun w0 wx hs=>by have:=uH CR' w0 wx hs hz1 hkl;rw [hr] at this;exact this)
   rw [hr] at c0 c1 c2
   simp only at c0 c1 c2
   have k0:(0:Int)≤k:=by omega
   have k1:(k:Int)<jl:=by omega
   have b3:=yA (yH _ wr) (.cells #[.int .i64 rk,.int .i64 ra,.string (bs rq)] 54)
   have ST3:=hide ((uH HST).below b3 (by omega))
   clear hat hr CR' b3 HST HB hk6 hh6 hb6
   go_wp2_with fail
   refine (uH CK _ _ (uH ST3)).mono ?_
   rintro e w4 ⟨rfl,h4,hz4⟩
   have ST4:=hide h4
   clear h4 ST3
   go_wp2
   go_roundw
   case rel=>exact ⟨k+1,by omega,by go_num,ST4⟩
   case measure=>simp [intOf];omega
  ·obtain rfl:k=jl:=by omega
   have hall:rs.take k=rs:=List.take_of_length_le (by have:=uH HJL;omega)
   have P9:=hide (show Blk wr w.heap.size #[.slice none 0 0,.int .i64 0,.int .i64 0,.int .i64 0,.int .i64 0,.slice none 0 0,.slice none 0 0,.slice none 0 0] 37 from (hb6.block _ (by omega)).trans (uH P1))
   have hST:recV l (rs.take k)=recSt l rs:=by rw [hall,uH HS]
   rw [hST] at hk6 hh6
   obtain ⟨S1,hS1⟩:∃s,recSt l rs=s:=⟨_,rfl⟩
   rw [hS1] at hk6 hh6
   have HS1:=hide hS1
   obtain ⟨yqa,yql,yqc,yaa,yal,yac,yma,yml,ymc,yca,ycl,ycc⟩:=y
   obtain ⟨sqs,sck,sep,snx,sse,sap,sms,scs⟩:=S1
   have K6:=hide hk6
   have H6:=hide (hh6.base (B':=w.heap.size) (by omega))
   clear hb6 HST hST hall hS1 hk6 hh6 CR
   go_upto_region 9 with fail
   refine wp_region_lit ?_
   refine wpList_same (v:=.agg #[.slice yqa yql yqc,.int .i64 sck,.int .i64 sep,.int .i64 snx,.int .i64 sse,.slice yaa yal yac,.slice yma yml ymc,.slice yca ycl ycc]) (d:=some 27) rfl rfl (run_v (st_load (uH K6) rfl)) ?_
   simp only [zW]
   refine wpList_none (d:=none) rfl rfl (run_u (st_store (uH P9) rfl rfl (by kernel_rfl))) ?_
   simp only [Act.put]
   have RR:=hide (blk_row (uH P9) #[.slice yqa yql yqc,.int .i64 sck,.int .i64 sep,.int .i64 snx,.int .i64 sse,.slice yaa yal yac,.slice yma yml ymc,.slice yca ycl ycc])
   have MM:=hide (mks_row (uH P9) #[.slice yqa yql yqc,.int .i64 sck,.int .i64 sep,.int .i64 snx,.int .i64 sse,.slice yaa yal yac,.slice yma yml ymc,.slice yca ycl ycc] rfl)
   generalize World.setRow wr (w.heap.size) #[.slice yqa yql yqc,.int .i64 sck,.int .i64 sep,.int .i64 snx,.int .i64 sse,.slice yaa yal yac,.slice yma yml ymc,.slice yca ycl ycc]=W9 at RR MM ⊢
   have H9:=hide ((uH H6).mkt (uH MM) (uH P9))
   have B9:=hide ((uH HB).trans ((uH MM).below (fun k e=>by rw [e];omega) (by omega)))
   obtain ⟨z0,z1,z2,z3,z4,z5,z6,z7⟩:=zq (uH RR)
   go_wp2
   refine bodyPost_ret (v:=.tuple #[.agg #[.slice yqa yql yqc,.int .i64 sck,.int .i64 sep,.int .i64 snx,.int .i64 sse,.slice yaa yal yac,.slice yma yml ymc,.slice yca ycl ycc],.bool true]) (by simp [results,Tryz.results103,go_sem,z0,z1,z2,z3,z4,z5,z6,z7]) rfl ?_
   exact (show RecAns w l rs _ _ from by unfold RecAns;rw [uH HS1,uH HQ];exact ⟨⟨yqa,yql,yqc,yaa,yal,yac,yma,yml,ymc,yca,ycl,ycc⟩,hs,rfl,uH H9,uH B9⟩)
theorem implRecover_any (ao:Option Addr) (len cap:Nat) (l:List Q) (log:ByteArray) (w:World) (h:QRow w ao len l) (hl:len≤1048576) (hf:FitQ l) (hc:len≤cap) (hs:log.size≤1048576) (hrl:(readV log).1.length≤60000) :
  Calls Tryz.prog 53 #[.slice ao len cap,.string log] w (RecAns w l (readV log).1):=by
 have CR:=hide (fun wx=>implRead_any log wx hs)
 have CB:=hide (fun wx (jo:Option Addr) (jl jc:Nat) (hb:Below w.heap.size w wx) (hj:RcRow wx jo jl (readV log).1) (hjl:jl≤1048576)=>implStateBy_any ao len cap l jo jl jc (readV log).1 wx (h.below hb) hl hf hc hj hjl)
 obtain ⟨⟨rs,rn⟩,hr⟩:∃p,readV log=p:=⟨_,rfl⟩
 rw [hr] at CR CB hrl ⊢
 simp only at CR CB hrl ⊢
 have HB0:=hide (yA (yH _ w) (.cells #[.slice none 0 0,.int .i64 0,.int .i64 0,.int .i64 0,.int .i64 0,.slice none 0 0,.slice none 0 0,.slice none 0 0] 37))
 have P0:=hide (yD w #[.slice none 0 0,.int .i64 0,.int .i64 0,.int .i64 0,.int .i64 0,.slice none 0 0,.slice none 0 0,.slice none 0 0] 37)
 clear h hr hs
 go_enter Tryz.func53,Tryz.ntmps53
 go_wp2_with fail
 refine (uH CR _).mono ?_
 rintro e w1 ⟨v,rfl,hown,hb⟩
 obtain ⟨jo,jc,rfl,hrow,_,_⟩:=jown_row hown
 have RW:=hide hrow
 have HB1:=hide (yB (uH HB0) hb)
 have P1:=hide ((uH P0).below hb)
 obtain ⟨jl,hjl⟩:∃n,rs.length=n:=⟨_,rfl⟩
 rw [hjl] at RW hrl ⊢
 clear hb hown hrow P0 HB0 CR hjl
 go_wp2_with fail
 refine (uH CB _ _ _ _ (uH HB1) (uH RW) (by omega)).mono ?_
 rintro e w2 ⟨y,hs,rfl,hh,hb⟩
 obtain ⟨S1,hS1⟩:∃s,recSt l rs=s:=⟨_,rfl⟩
 obtain ⟨q0,hq0⟩:∃s,queuesOk l=s:=⟨_,rfl⟩
 rw [hS1] at hh
 have HS1:=hide hS1
 have HQ0:=hide hq0
 rw [hS1,hq0]
 obtain ⟨yqa,yql,yqc,yaa,yal,yac,yma,yml,ymc,yca,ycl,ycc⟩:=y
 obtain ⟨sqs,sck,sep,snx,sse,sap,sms,scs⟩:=S1
 have HB2:=hide (yB (uH HB1) hb)
 have P2:=hide ((uH P1).below hb)
 have H2:=hide (hh.base (B':=w.heap.size) (uH HB1).size)
 have hz2:w.heap.size<w2.heap.size:=(uH P2).lt
 clear hb hh hS1 hq0 P1 HB1 RW CB
 obtain ⟨c0,c1,c2,c3,c4,c5,c6,c7⟩:=zq (uH P2)
 have f0:=(uH P2).f 0;have f1:=(uH P2).f 1;have f2:=(uH P2).f 2;have f3:=(uH P2).f 3;have f4:=(uH P2).f 4;have f5:=(uH P2).f 5;have f6:=(uH P2).f 6;have f7:=(uH P2).f 7
 go_wp2
 have RR:=hide (show Blk ((((((((w2.setCell ⟨w.heap.size,0,none⟩ (.slice yqa yql yqc)).setCell ⟨w.heap.size,1,none⟩ (.int .i64 sck)).setCell ⟨w.heap.size,2,none⟩ (.int .i64 sep)).setCell ⟨w.heap.size,3,none⟩ (.int .i64 snx)).setCell ⟨w.heap.size,4,none⟩ (.int .i64 sse)).setCell ⟨w.heap.size,5,none⟩ (.slice yaa yal yac)).setCell ⟨w.heap.size,6,none⟩ (.slice yma yml ymc)).setCell ⟨w.heap.size,7,none⟩ (.slice yca ycl ycc)) (w.heap.size) #[.slice yqa yql yqc,.int .i64 sck,.int .i64 sep,.int .i64 snx,.int .i64 sse,.slice yaa yal yac,.slice yma yml ymc,.slice yca ycl ycc] 37 from (((((((((uH P2).set 0 (.slice yqa yql yqc)).set 1 (.int .i64 sck)).set 2 (.int .i64 sep)).set 3 (.int .i64 snx)).set 4 (.int .i64 sse)).set 5 (.slice yaa yal yac)).set 6 (.slice yma yml ymc)).set 7 (.slice yca ycl ycc)))
 have MM:=hide (show Mks (fun k=>k=w.heap.size) w2 ((((((((w2.setCell ⟨w.heap.size,0,none⟩ (.slice yqa yql yqc)).setCell ⟨w.heap.size,1,none⟩ (.int .i64 sck)).setCell ⟨w.heap.size,2,none⟩ (.int .i64 sep)).setCell ⟨w.heap.size,3,none⟩ (.int .i64 snx)).setCell ⟨w.heap.size,4,none⟩ (.int .i64 sse)).setCell ⟨w.heap.size,5,none⟩ (.slice yaa yal yac)).setCell ⟨w.heap.size,6,none⟩ (.slice yma yml ymc)).setCell ⟨w.heap.size,7,none⟩ (.slice yca ycl ycc)) from ((((((((Mks.refl (fun k=>k=w.heap.size) _).sc (w.heap.size) 0 (.slice yqa yql yqc) rfl).sc (w.heap.size) 1 (.int .i64 sck) rfl).sc (w.heap.size) 2 (.int .i64 sep) rfl).sc (w.heap.size) 3 (.int .i64 snx) rfl).sc (w.heap.size) 4 (.int .i64 sse) rfl).sc (w.heap.size) 5 (.slice yaa yal yac) rfl).sc (w.heap.size) 6 (.slice yma yml ymc) rfl).sc (w.heap.size) 7 (.slice yca ycl ycc) rfl)
 generalize ((((((((w2.setCell ⟨w.heap.size,0,none⟩ (.slice yqa yql yqc)).setCell ⟨w.heap.size,1,none⟩ (.int .i64 sck)).setCell ⟨w.heap.size,2,none⟩ (.int .i64 sep)).setCell ⟨w.heap.size,3,none⟩ (.int .i64 snx)).setCell ⟨w.heap.size,4,none⟩ (.int .i64 sse)).setCell ⟨w.heap.size,5,none⟩ (.slice yaa yal yac)).setCell ⟨w.heap.size,6,none⟩ (.slice yma yml ymc)).setCell ⟨w.heap.size,7,none⟩ (.slice yca ycl ycc))=W9 at RR MM ⊢
 have H9:=hide ((uH H2).mkt (uH MM) (uH P2))
 have B9:=hide ((uH HB2).trans ((uH MM).below (fun k e=>by rw [e];exact yJ _) (by omega)))
 obtain ⟨z0,z1,z2,z3,z4,z5,z6,z7⟩:=zq (uH RR)
 refine bodyPost_ret (v:=.tuple #[.agg #[.slice yqa yql yqc,.int .i64 sck,.int .i64 sep,.int .i64 snx,.int .i64 sse,.slice yaa yal yac,.slice yma yml ymc,.slice yca ycl ycc],.bool q0]) (by simp [results,Tryz.results53,go_sem,z0,z1,z2,z3,z4,z5,z6,z7]) rfl ?_
 exact (show RecAns w l rs _ _ from by unfold RecAns;rw [uH HS1,uH HQ0];exact ⟨⟨yqa,yql,yqc,yaa,yal,yac,yma,yml,ymc,yca,ycl,ycc⟩,hs,rfl,uH H9,uH B9⟩)
theorem firstBytes_any (l:List UInt8) (n:Int) (w:World) (hl:l.length≤1048576) :
  Calls Tryz.prog 50 #[.string (bs l),.int .i64 n] w fun e w'=>e=.returned (.string (bs (l.take (fbN l.length n))))∧w=w':=by
 have hx:=hide (fun wx=>max_runR n 0 wx)
 have hm:=fun wx=>max_runR n 0 wx
 have hn:=fun wx=>min_run (max n 0) (l.length:Int) wx
 obtain ⟨m,hm0⟩:∃m:Int,max n 0=m:=⟨_,rfl⟩
 obtain ⟨k,hk⟩:∃k:Nat,k=fbN l.length n:=⟨_,rfl⟩
 have hkm:min m (l.length:Int)=(k:Int):=by rw [hk,←hm0];unfold fbN;omega
 have hkl:k≤l.length:=by rw [hk];unfold fbN;omega
 rw [←hk]
 rw [hm0,hkm] at hn
 rw [hm0] at hm
 have hsz:(bs l).size=l.length:=bs_size l
 have hcut:(bs l).extract 0 k=bs (l.take k):=bs_cut l k
 have h1:(k:Int)≤(l.length:Int):=by omega
 have h2:(0:Int)≤k:=by omega
 have HK:=hide hk
 clear hx hm0 hk hkm
 go_enter Tryz.func50,Tryz.ntmps50
 go_wp2
 go_ret
 exact ⟨by first | rw [hcut] | simp [hcut],rfl⟩
def CrAns (w:World) (k:Nat) (s:St) (L:List UInt8) (e:Ending) (w':World):Prop:=∃y hs,e=.returned (.tuple #[])∧Blk w' k (kpc y (recSt s.qs (readV (bs L)).1) 0 L L.length none 0 0) 102∧SHas w.heap.size w' y (recSt s.qs (readV (bs L)).1) hs∧Mks (fun j=>j=k) w w'
theorem crash_any (k:Nat) (x:Sls) (s:St) (hs0:List AV) (log:List UInt8) (safe keep:Int) (wo:Option Addr) (wl wc B:Nat) (w:World) (h:Blk w k (kpc x s 0 log safe wo wl wc) 102) (hA:SAns B k w x s hs0) (hf:FitQ s.qs) (hlog:log.length≤1048576) :
  Calls Tryz.prog 19 #[.pointer (some ⟨k,0,none⟩),.int .i64 keep] w (CrAns w k s (crLog log safe keep)):=by
 obtain ⟨qa,ql,qc,aa,al,ac,ma,ml,mc,ca,cl,cc⟩:=x
 obtain ⟨qs,clock,epoch,next,serial,apps,ms,cs⟩:=s
 have hkw:=h.lt
 have hql:ql≤1048576:=by have:=hA.row.1.1;have:=hf.1;simp only at *;omega
 have hqc:ql≤qc:=hA.cap.q
 obtain ⟨a,ha⟩:∃a,log.take (fbN log.length safe)=a:=⟨_,rfl⟩
 obtain ⟨b,hb0⟩:∃b,log.drop (fbN log.length safe)=b:=⟨_,rfl⟩
 obtain ⟨c,hc0⟩:∃c,a++b.take (fbN b.length keep)=c:=⟨_,rfl⟩
 obtain ⟨E,hE1,hE2⟩:=readV_end (bs c)
 obtain ⟨L,hL⟩:∃L,crLog log safe keep=L:=⟨_,rfl⟩
 have hLc:(wrote (c.take E) ⟨2,0,[]⟩).1=L:=by rw [←hL,←hc0,←ha,←hb0];exact (cr_log log safe keep E (by rw [hb0,ha,hc0];exact hE1)).symm
 have hal:a.length≤log.length:=by rw [←ha,List.length_take];omega
 have hbl:b.length≤log.length:=by rw [←hb0,List.length_drop];omega
 have hcl:c.length≤log.length:=by rw [←hc0,←ha,←hb0];exact cr_len log safe keep
 have hab:(bs log).extract a.length log.length=bs b:=by rw [←ha,←hb0];exact bs_rest log _ (by unfold fbN;omega)
 have hEl:E≤c.length:=by rwa [bs_size] at hE2
 have hLl:L.length≤1048576:=by rw [←hLc];exact wrote_le _ _ (by rw [List.length_take];omega)
 rw [hL]
 have CF1:=hide (fun wx=>firstBytes_any log safe wx hlog)
 have CF2:=hide (fun wx=>firstBytes_any b keep wx (by omega))
 have CRd:=hide (fun wx=>implRead_any (bs c) wx (by rw [bs_size];omega))
 have CW:=hide (fun wx=>implWrite_any (c.take E) ⟨2,0,[]⟩ wx (by rw [List.length_take];omega) (by simp))
 have CRc:=hide (fun wx (hx:QRow wx qa ql qs)=>implRecover_any qa ql qc qs (bs L) wx hx hql hf hqc (by rw [bs_size];omega) (readV_len _))
 rw [ha] at CF1
 rw [hE1] at CRd
 obtain ⟨wb,hwb⟩:∃p,(wrote (c.take E) ⟨2,0,[]⟩).2=p:=⟨_,rfl⟩
 rw [hLc,hwb] at CW
 have happ:bs a++bs (b.take (fbN b.length keep))=bs c:=by rw [bs_app,hc0]
 have hcut:(bs c).extract 0 E=bs (c.take E):=bs_cut c E
 obtain ⟨t,ht⟩:∃t,recSt qs (readV (bs L)).1=t:=⟨_,rfl⟩
 have HA:=hide hA
 have HT:=hide ht
 have HSA:=hide (bs_size a)
 have HSC:=hide (bs_size c)
 have HSL:=hide (bs_size L)
 have HSB:=hide (bs_size log)
 have K0:=hide h
 have c0:w.cell? ⟨k,0,none⟩=some (.int .i32 0):=h.at 0
 have f0:=h.f 0
 clear h hA hf ha hb0 hc0 hE1 hE2 hL hLc hwb ht hqc hql
 go_enter_defers Tryz.func19,Tryz.ntmps19
 go_wp2_with fail
 refine (lock_free ⟨k,0,none⟩ _ c0 f0).mono ?_
 rintro e w1 ⟨rfl,rfl⟩
 have K1:=hide (show Blk _ k #[.int .i32 1,.int .u32 0,.slice qa ql qc,.int .i64 clock,.int .i64 epoch,.int .i64 next,.int .i64 serial,.slice aa al ac,.slice ma ml mc,.slice ca cl cc,.string (bs log),.int .i64 safe,.slice wo wl wc] 102 from (uH K0).set 0 (.int .i32 1))
 have M1:=hide (Mks.one (fun j=>j=k) w k 0 (.int .i32 1) rfl)
 clear c0 f0 K0
 go_upto_region 2 with fail
 generalize w.setCell ⟨k,0,none⟩ (.int .i32 1)=W at K1 M1 ⊢
 have R:∀wx,Kp W wx→wx.cell? ⟨k,10,none⟩=some (.string (bs log))∧wx.cell? ⟨k,11,none⟩=some (.int .i64 safe):=fun wx hx=>
  have P:=(uH K1).below hx
  ⟨P.at 10,P.at 11⟩
 refine wp_region_noPanic ?_
 refine wp_region_held_drew (S:=fun wx=>Kp W wx) (by kernel_rfl) (yH _ W).drew (fun S0=>?_)
 generalize W.drew=w1 at S0 ⊢
 refine tW 0 15 _ S0 ?_
 try simp only [zW]
 refine tW 1 16 _ S0 ?_
 try simp only [zW]
 refine tW 2 17 _ S0 ?_
 try simp only [zW]
 refine tW 3 18 (.string (bs log)) S0 ?_
 try simp only [zW]
 refine tW 4 19 _ S0 ?_
 try simp only [zW]
 refine tW 5 20 _ S0 ?_
 try simp only [zW]
 refine tW 6 21 _ S0 ?_
 try simp only [zW]
 refine tW 7 22 (.int .i64 safe) S0 ?_
 try simp only [zW]
 clear R
 refine wpAnyH_ready (rs:=[8]) (by kernel_rfl) (by simp) (AllReadyH.cons rfl (fun K hK=>?_) AllReadyH.nil)
 go_simp
 refine (uH CF1 _).mono ?_
 rintro e wt ⟨rfl,rfl⟩
 go_wp2_with fail
 refine hK.out _ _ S0 (fun S0=>?_)
 clear hK K
 try simp only [zW]
 refine tW 9 4 _ S0 ?_
 try simp only [zW]
 refine wpAnyH_done (by kernel_rfl) ?_ _
 refine NoPanic.normal ?_
 have K2:=hide ((uH K1).below S0)
 have M2:=hide ((uH M1).on S0)
 clear S0 K1 M1 CF1
 have k10:=(uH K2).at 10
 simp at k10
 have g1:(a.length:Int)≤(log.length:Int):=by omega
 have g2:(0:Int)≤(a.length:Int):=by omega
 have z1:=uH HSA
 have z2:=uH HSB
 have dl:(b.take (fbN b.length keep)).length≤b.length:=by rw [List.length_take];omega
 obtain ⟨d,hd⟩:∃d,b.take (fbN b.length keep)=d:=⟨_,rfl⟩
 rw [hd] at CF2 happ dl
 have n0:¬9223372036854775807<a.length+(bs d).size:=by rw [bs_size];omega
 have n1:¬9223372036854775807<(bs a).size+(bs d).size:=by rw [bs_size,bs_size];omega
 have n2:¬9223372036854775807<a.length+d.length:=by omega
 clear hd
 go_wp2_with fail
 try rw [hab]
 refine (uH CF2 _).mono ?_
 rintro e w3 ⟨rfl,rfl⟩
 go_wp2_with fail
 try rw [happ]
 refine (uH CRd _).mono ?_
 rintro e w3 ⟨v,rfl,hj,hb⟩
 have K3:=hide ((uH K2).below hb)
 have M3:=hide ((uH M2).on hb)
 clear hj hb K2 M2 k10 g1 g2 z1 z2 CRd CF2 n0 n1 n2 dl
 have g1:(E:Int)≤(c.length:Int):=by omega
 have g2:(0:Int)≤(E:Int):=by omega
 have z1:=uH HSC
 go_wp2_with fail
 try rw [hcut]
 refine (uH CW _).mono ?_
 rintro e w4 ⟨rfl,hb⟩
 have K4:=hide ((uH K3).below hb)
 have M4:=hide ((uH M3).on hb)
 have k10:=(uH K4).at 10
 have kf:=(uH K4).f 10
 simp at k10
 clear hb K3 M3 g1 g2 z1 CW
 go_upto_region 6 with fail
 have K5:=hide (show Blk (w4.setCell ⟨k,10,none⟩ (.string (bs L))) k #[.int .i32 1,.int .u32 0,.slice qa ql qc,.int .i64 clock,.int .i64 epoch,.int .i64 next,.int .i64 serial,.slice aa al ac,.slice ma ml mc,.slice ca cl cc,.string (bs L),.int .i64 safe,.slice wo wl wc] 102 from (uH K4).set 10 (.string (bs L)))
 have M5:=hide ((uH M4).sc k 10 (.string (bs L)) rfl)
 clear K4 M4 k10 kf
 generalize w4.setCell ⟨k,10,none⟩ (.string (bs L))=W2 at K5 M5 ⊢
 have A5:=hide ((uH HA).mks (uH M5) (fun j e=>by subst e;exact .inr (yJ _)))
 have R:∀wx,Kp W2 wx→wx.cell? ⟨k,2,none⟩=some (.slice qa ql qc)∧wx.cell? ⟨k,10,none⟩=some (.string (bs L)):=fun wx hx=>
  have P:=(uH K5).below hx
  ⟨P.at 2,P.at 10⟩
 refine wp_region_noPanic ?_
 refine wp_region_x 16 (fun _=>True) (fun wx=>Kp W2 wx) (by kernel_rfl) trivial (yH _ W2).drew (fun S0 T0=>?_)
 generalize W2.drew=w1 at T0 ⊢
 refine takeXS 0 52 (.pointer (some ⟨k,0,none⟩)) rfl rfl trivial T0 ?_
 try simp only [zW]
 refine takeXS 1 53 (.pointer (some ⟨k,0,none⟩)) rfl rfl trivial T0 ?_
 try simp only [zW]
 refine takeXS 2 54 (.pointer (some ⟨k,0,none⟩)) rfl rfl trivial T0 ?_
 try simp only [zW]
 refine takeXS 3 55 (.pointer (some ⟨k,2,none⟩)) rfl rfl trivial T0 ?_
 try simp only [zW]
 refine takeXS 4 56 (.pointer (some ⟨k,2,none⟩)) rfl rfl trivial T0 ?_
 try simp only [zW]
 refine takeXT 5 57 (.slice qa ql qc) rfl rfl trivial T0 ?_
 try simp only [zW]
 refine takeXS 6 58 (.pointer (some ⟨k,0,none⟩)) rfl rfl trivial T0 ?_
 try simp only [zW]
 refine takeXS 7 59 (.pointer (some ⟨k,0,none⟩)) rfl rfl trivial T0 ?_
 try simp only [zW]
 refine takeXS 8 60 (.pointer (some ⟨k,10,none⟩)) rfl rfl trivial T0 ?_
 try simp only [zW]
 refine takeXT 9 61 (.string (bs L)) rfl rfl trivial T0 ?_
 try simp only [zW]
 clear R
 refine wpAnyX_ready [10] (AllReadyX.cons rfl (fun K hK=>?_) AllReadyX.nil)
 go_simp
 refine (uH CRc _ ((uH A5).row.1.below T0)).mono ?_
 rintro e wt ⟨⟨ra,rl,rc,ba,bl,bc,na,nl,nc,da,dl,dc⟩,hs,rfl,hh,hb⟩
 have HH:=hide (show SHas w1.heap.size wt ⟨ra,rl,rc,ba,bl,bc,na,nl,nc,da,dl,dc⟩ t hs by rw [←uH HT];exact hh)
 have hz1:W2.heap.size≤w1.heap.size:=T0.size
 have T1:Kp W2 wt:=yB T0 hb
 have hts:=uH HT
 clear T0 hb hh
 go_wp2_with fail
 try rw [hts]
 refine hK.out _ _ trivial (fun _=>T1) ?_
 clear hK K hts
 have T0:=T1
 clear T1
 try simp only [zW]
 refine takeXS 11 51 _ rfl rfl trivial T0 ?_
 try simp only [zW]
 refine takeXS 12 63 (.agg #[.slice ra rl rc,.int .i64 t.clock,.int .i64 t.epoch,.int .i64 t.next,.int .i64 t.serial,.slice ba bl bc,.slice na nl nc,.slice da dl dc]) rfl rfl trivial T0 ?_
 try simp only [zW]
 refine takeXS 13 64 _ rfl rfl trivial T0 ?_
 try simp only [zW]
 refine takeXS 14 65 (.pointer (some ⟨k,0,none⟩)) rfl rfl trivial T0 ?_
 try simp only [zW]
 refine takeXS 15 66 (.pointer (some ⟨k,2,none⟩)) rfl rfl trivial T0 ?_
 try simp only [zW]
 have K6:=hide ((uH K5).below T0)
 have M6:=hide ((uH M5).on T0)
 have hkt:k<w1.heap.size:=by have:=(uH K5).lt;omega
 have hzw:w.heap.size≤w1.heap.size:=Nat.le_trans (uH M5).size hz1
 clear K5 M5
 have MM:=mks_part (S:=fun j=>j=k) rfl [.slice ra rl rc,.int .i64 t.clock,.int .i64 t.epoch,.int .i64 t.next,.int .i64 t.serial,.slice ba bl bc,.slice na nl nc,.slice da dl dc] 2 wt
 have K7:=hide (show Blk (wt.setCells k 2 [.slice ra rl rc,.int .i64 t.clock,.int .i64 t.epoch,.int .i64 t.next,.int .i64 t.serial,.slice ba bl bc,.slice na nl nc,.slice da dl dc]) k #[.int .i32 1,.int .u32 0,.slice ra rl rc,.int .i64 t.clock,.int .i64 t.epoch,.int .i64 t.next,.int .i64 t.serial,.slice ba bl bc,.slice na nl nc,.slice da dl dc,.string (bs L),.int .i64 safe,.slice wo wl wc] 102 from blk_cells [.slice ra rl rc,.int .i64 t.clock,.int .i64 t.epoch,.int .i64 t.next,.int .i64 t.serial,.slice ba bl bc,.slice na nl nc,.slice da dl dc] 2 _ _ (uH K6) (by simp))
 have M7:=hide ((uH M6).trans MM)
 have H7:=hide (shas_low (uH HH) MM (fun j e=>by subst e;exact hkt))
 clear HH T0
 refine wpAnyX_ready [16] (AllReadyX.cons rfl (fun K hK=>readyU (by rfl) rfl (run_u (mid_store 37 2 #[.slice ra rl rc,.int .i64 t.clock,.int .i64 t.epoch,.int .i64 t.next,.int .i64 t.serial,.slice ba bl bc,.slice na nl nc,.slice da dl dc] (uH K6) (by simp) (by kernel_rfl) (by kernel_rfl))) ?_) AllReadyX.nil)
 refine hK.out _ _ trivial (xno3 (by kernel_rfl)) ?_
 clear hK K K6 M6 MM
 generalize wt.setCells k 2 [.slice ra rl rc,.int .i64 t.clock,.int .i64 t.epoch,.int .i64 t.next,.int .i64 t.serial,.slice ba bl bc,.slice na nl nc,.slice da dl dc]=w7 at K7 M7 H7 ⊢
 try simp only [zW]
 refine wpAnyX_on _ _ _ _ (by kernel_rfl) ?_
 refine wpAnyH_done (by kernel_rfl) ?_ _
 refine NoPanic.normal ?_
 have k10:=(uH K7).at 10;have k11:=(uH K7).at 11;have k12:=(uH K7).at 12
 have f11:=(uH K7).f 11;have f12:=(uH K7).f 12
 have z1:=uH HSL
 simp at k10 k11 k12
 go_wp2
 refine leaves_cons (f:=49) (args:=#[.pointer (some ⟨k,0,none⟩)]) (by simp) (by simp [go_sem]) ?_
 have K8:=hide (show Blk ((w7.setCell ⟨k,11,none⟩ (.int .i64 (L.length:Int))).setCell ⟨k,12,none⟩ (.slice none 0 0)) k #[.int .i32 1,.int .u32 0,.slice ra rl rc,.int .i64 t.clock,.int .i64 t.epoch,.int .i64 t.next,.int .i64 t.serial,.slice ba bl bc,.slice na nl nc,.slice da dl dc,.string (bs L),.int .i64 L.length,.slice none 0 0] 102 from ((uH K7).set 11 (.int .i64 (L.length:Int))).set 12 (.slice none 0 0))
 have M8:=hide (((uH M7).sc k 11 (.int .i64 (L.length:Int)) rfl).sc k 12 (.slice none 0 0) rfl)
 have H8:=hide ((shas_low (shas_low (uH H7) (Mks.one (fun j=>j=k) w7 k 11 (.int .i64 (L.length:Int)) rfl) (fun j e=>by subst e;exact hkt)) (Mks.one (fun j=>j=k) _ k 12 (.slice none 0 0) rfl) (fun j e=>by subst e;exact hkt)))
 refine (unlock_deferred ⟨k,0,none⟩ .returning _ ((uH K8).at 0) ((uH K8).f 0)).mono ?_
 rintro e u' w9 ⟨rfl,rfl,rfl⟩
 refine ⟨.tuple #[],?_,?_⟩
 ·first | exact results_none rfl _ _ _ | simp [results,Tryz.results19,go_sem]
 ·exact (show CrAns w k ⟨qs,clock,epoch,next,serial,apps,ms,cs⟩ L _ _ from ⟨⟨ra,rl,rc,ba,bl,bc,na,nl,nc,da,dl,dc⟩,hs,rfl,by rw [uH HT];exact (uH K8).set 0 (.int .i32 0),by rw [uH HT];exact (shas_low (uH H8) (Mks.one (fun j=>j=k) _ k 0 (.int .i32 0) rfl) (fun j e=>by subst e;exact hkt)).base hzw,(uH M8).sc k 0 (.int .i32 0) rfl⟩)
end
end Go.Proofs.YtjkfappkpopbdaaGreat
