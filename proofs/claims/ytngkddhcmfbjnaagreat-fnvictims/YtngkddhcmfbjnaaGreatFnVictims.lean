/-
  The law FnVictims answers true at every slice of bytes, and leaves it as it was: what is taken back for a queue that starves is what the model says, each is of a queue that has too much and not of the one that starves, and at the end it is enough or nobody has too much; no condition.
-/
import Derived.Test.YtngkddhcmfbjnaaGreatSackAH
import Derived.ShutString
import Derived.ChangeOld
namespace Go.Proofs.YtngkddhcmfbjnaaGreat.fnVictims
open Go.ChangeShapes Go.WideShapes Go.ChangeAt Go.RowKit
open Go.ChangeMaps (open_string shut_string)
set_option linter.unusedVariables false
theorem own:ownKnob Tryz.prog.godebug=none:=by kernel_rfl
theorem aJm:laidOutB Tryz.prog=true:=by kernel_rfl
set_option linter.unusedSimpArgs false in
set_option maxRecDepth 100000 in
set_option maxHeartbeats 16000000 in
theorem aBi (a0:Option Addr) (len0 cap0:Nat) (z0:List Int) (w:World) (w0:aHr w a0 len0 cap0 z0) :
  cP 3 #[.slice a0 len0 cap0] w fun e w'=>e=.returned (.bool true)∧Bw w w':=by
 have hl:=w0.len
 by_cases hbig:len0≤1048576
 case neg=>
  have hbb:aKp len0=true:=by simp [aKp];omega
  clear w0
  go_enter Tryz.func3,Tryz.ntmps3
  go_wp2_with fail
  refine (aH8 _ _ _ _ hl).mono ?_
  rintro e wb ⟨rfl,rfl⟩
  go_wp2
  go_ret
  exact ⟨rfl,yH _ _⟩
 have HK:=aA (aKB w0 hbig)
 have hbb:aKp len0=false:=by simp [aKp];omega
 clear w0
 go_enter Tryz.func3,Tryz.ntmps3
 go_wp2_with fail
 refine (aH8 _ _ _ _ hl).mono ?_
 rintro e wb ⟨rfl,rfl⟩
 have BW:=aA (yH w.heap.size w)
 go_wp2_with fail
 refine (yT w.heap.size _ _ _ _ ((uH HK).below (uH BW) (yJ _))).mono ?_
 rintro e w3 ⟨ya,sa,hsa,nm,rfl,hD,hnm,hb⟩
 replace BW:=aA (yB (uH BW) (uH hb))
 have D3:=hD
 clear hD hb
 have bb:=yA (yH _ w3) (.cells (svc ya sa) 29)
 have X3:=aA (yD w3 (svc ya sa) 29)
 replace BW:=aA (yB (uH BW) (bb))
 replace D3:=aA ((uH D3).below (bb))
 obtain ⟨b3,hb3⟩:∃g,w3.heap.size=g:=⟨_,rfl⟩
 rw [hb3] at X3
 clear bb
 have fita:=(uH D3).fit
 have wfa:=(uH D3).wf
 obtain ⟨vs,hvs⟩:∃l,iP sa nm=l:=⟨_,rfl⟩
 obtain ⟨n,hn⟩:∃n,vs.length=n:=⟨_,rfl⟩
 have hle:n≤1048576:=by have:=aDI sa nm;have h1:=fita.2.2.2.1;rw [hvs,hn] at this;omega
 obtain ⟨⟨l1,l2⟩,hlk⟩:∃p,sG sa nm=p:=⟨_,rfl⟩
 have BS:=aA (aIB hlk)
 obtain ⟨ok,hok⟩:∃q,aW sa=q:=⟨_,rfl⟩
 obtain ⟨st,hst⟩:∃q,(dJ sa).any (fun x=>decide (x=nm))=q:=⟨_,rfl⟩
 have CSO:=aA (fun wx (D:DrU wx ya sa hsa)=>iQ ya sa wx D.row D.fit)
 have CLI:=aA (fun wx (D:DrU wx ya sa hsa)=>uQ ya sa nm wx D.row D.fit D.cap D.wf)
 have CLS:=aA (fun wx (D:DrU wx ya sa hsa)=>uB ya sa nm wx D.row D.fit)
 have CHS:=aA (fun v B wx (h:bY B wx v (dJ sa))=>aDe v (dJ sa) nm B wx h (by have:=aDO sa;have:=fita.1.1;omega))
 have Zj:=aA hok
 have HST:=aA hst
 have ZA:=aA hvs
 have HN:=aA hn
 rw [hvs,hok,hst] at BS
 rw [hok] at CSO
 rw [hlk] at CLI CLS
 rw [hst] at CHS
 simp only at CLI CLS
 clear hvs hn hlk hok hst
 obtain ⟨u0,u1,u2,u3,u4,u5,u6,u7⟩:=zq (uH X3)
 go_wp2_with fail
 clear hb3
 refine (aCc (uH ZA) (uH HN) (uH D3)).mono ?_
 rintro e w4 ⟨io,ic,rfl,hI⟩
 clear u0 u1 u2 u3 u4 u5 u6 u7
 have hb:=(uH hI).2
 replace BW:=aA (yB (uH BW) (hb))
 replace D3:=aA ((uH D3).below (hb))
 replace X3:=aA ((uH X3).below (hb))
 have IV:=aA (uH hI).1
 clear hI hb
 go_wp2_with fail
 refine (aCk w.heap.size _ _ _ _ ((uH HK).below (uH BW) (yJ _))).mono ?_
 rintro e w6 ⟨yb,sb,hsb,lb,rfl,hD,hlb,hb⟩
 replace BW:=aA (yB (uH BW) (uH hb))
 replace D3:=aA ((uH D3).below (uH hb))
 replace X3:=aA ((uH X3).below (uH hb))
 replace IV:=aA ((uH IV).below (uH hb))
 have D6:=hD
 clear hD hb
 have bb:=yA (yH _ w6) (.cells (svc yb sb) 29)
 have X6:=aA (yD w6 (svc yb sb) 29)
 replace BW:=aA (yB (uH BW) (bb))
 replace D3:=aA ((uH D3).below (bb))
 replace X3:=aA ((uH X3).below (bb))
 replace IV:=aA ((uH IV).below (bb))
 replace D6:=aA ((uH D6).below (bb))
 obtain ⟨b6,hb6⟩:∃g,w6.heap.size=g:=⟨_,rfl⟩
 rw [hb6] at X6
 clear bb
 have CO1:=aA (fun wx (D:DrU wx yb sb hsb)=>kX yb sb lb wx D.row D.fit D.cap D.wf)
 have CO2:=aA (fun wx (D:DrU wx yb sb hsb)=>uA yb sb lb wx D.row D.fit)
 obtain ⟨ov,hov⟩:∃b,iM sb lb=b:=⟨_,rfl⟩
 rw [hov] at CO1 CO2
 clear hov
 go_upto_region 6 with fail
 clear hb6 HK
 generalize w6.alloc (.cells (svc yb sb) 29)=wA at BW D3 X3 IV D6 X6 ⊢
 go_cut [56] from 33 to 56 (fun v56 wx=>v56=.bool false∧Hid (Bw wA wx))
 case first=>
  refine wp_region_held_drew (S:=fun wx=>Kp wA wx) (by kernel_rfl) ((aK wA).drew (Kp.new wA)) (fun S0=>?_)
  generalize wA.drew=wn at S0 ⊢
  refine tW 0 33 _ S0 ?_
  simp only [zW]
  refine bW 1 34 (sv ya sa) rfl rfl S0 ?_ (hy:=Or.inl ⟨by rfl,fun wz hz=>bI (bF ((uH X3).below hz) rfl)⟩)
  try simp only [zW]
  refine tW 2 35 _ S0 ?_
  simp only [zW]
  refine yRq 3 rfl (fun K hK=>?_)
  go_simp
  refine (aBz (uH ZA) (uH HN) ((uH D3).below S0)).mono ?_
  rintro e wm ⟨jo,jc,rfl,hJ⟩
  have JV:=aA (uH hJ).1
  have hb:=(uH hJ).2
  clear hJ
  have S1:=(aK wA).call S0 hb
  clear S0 hb
  go_wp2_with fail
  refine hK.out _ _ S1 (fun S0=>?_)
  clear hK K S1
  try simp only [zW]
  obtain ⟨wn,rfl⟩:∃z,z=wm:=⟨_,rfl⟩
  refine yRq 4 rfl (fun K hK=>?_)
  go_simp
  refine (aBA io jo n ic jc vs _ ((uH IV).below S0) (uH JV) hle).mono ?_
  rintro e wm ⟨rfl,hb⟩
  have S1:=(aK wA).call S0 hb
  clear S0 hb
  go_wp2_with fail
  refine hK.out _ _ S1 (fun S0=>?_)
  clear hK K S1
  try simp only [zW]
  obtain ⟨wn,rfl⟩:∃z,z=wm:=⟨_,rfl⟩
  clear JV
  refine tW 5 38 (.bool false) S0 ?_
  simp only [zW]
  refine tW 6 39 (.bool false) S0 ?_
  simp only [zW]
  refine bW 7 40 (sv yb sb) rfl rfl S0 ?_ (hy:=Or.inl ⟨by rfl,fun wz hz=>bI (bF ((uH X6).below hz) rfl)⟩)
  try simp only [zW]
  refine tW 8 41 _ S0 ?_
  simp only [zW]
  refine bW 10 43 (sv yb sb) rfl rfl S0 ?_ (hy:=Or.inl ⟨by rfl,fun wz hz=>bI (bF ((uH X6).below hz) rfl)⟩)
  try simp only [zW]
  refine tW 11 44 _ S0 ?_
  simp only [zW]
  refine yRq 9 rfl (fun K hK=>?_)
  go_simp
  refine (uH CO1 _ ((uH D6).below S0)).mono ?_
  rintro e wm ⟨rfl,hb⟩
  have S1:=(aK wA).call S0 hb
  clear S0 hb
  go_wp2_with fail
  refine hK.out _ _ S1 (fun S0=>?_)
  clear hK K S1
  try simp only [zW]
  obtain ⟨wn,rfl⟩:∃z,z=wm:=⟨_,rfl⟩
  refine yRq 12 rfl (fun K hK=>?_)
  go_simp
  refine (uH CO2 _ ((uH D6).below S0)).mono ?_
  rintro e wm ⟨rfl,hb⟩
  have S1:=(aK wA).call S0 hb
  clear S0 hb
  go_wp2_with fail
  refine hK.out _ _ S1 (fun S0=>?_)
  clear hK K S1
  try simp only [zW]
  obtain ⟨wn,rfl⟩:∃z,z=wm:=⟨_,rfl⟩
  refine bW 13 46 (.bool false) rfl rfl S0 ?_ (hy:=Or.inl ⟨by rfl,fun wz hz=>by cases ov<;>rfl⟩)
  try simp only [zW]
  refine tW 14 47 (.bool false) S0 ?_
  simp only [zW]
  refine tW 15 48 (.bool false) S0 ?_
  simp only [zW]
  refine bW 16 49 (sv ya sa) rfl rfl S0 ?_ (hy:=Or.inl ⟨by rfl,fun wz hz=>bI (bF ((uH X3).below hz) rfl)⟩)
  try simp only [zW]
  refine tW 17 50 _ S0 ?_
  simp only [zW]
  refine bW 19 52 (sv ya sa) rfl rfl S0 ?_ (hy:=Or.inl ⟨by rfl,fun wz hz=>bI (bF ((uH X3).below hz) rfl)⟩)
  try simp only [zW]
  refine tW 20 53 _ S0 ?_
  simp only [zW]
  refine yRq 18 rfl (fun K hK=>?_)
  go_simp
  refine (uH CLI _ ((uH D3).below S0)).mono ?_
  rintro e wm ⟨rfl,hb⟩
  have S1:=(aK wA).call S0 hb
  clear S0 hb
  go_wp2_with fail
  refine hK.out _ _ S1 (fun S0=>?_)
  clear hK K S1
  try simp only [zW]
  obtain ⟨wn,rfl⟩:∃z,z=wm:=⟨_,rfl⟩
  refine yRq 21 rfl (fun K hK=>?_)
  go_simp
  refine (uH CLS _ ((uH D3).below S0)).mono ?_
  rintro e wm ⟨rfl,hb⟩
  have S1:=(aK wA).call S0 hb
  clear S0 hb
  go_wp2_with fail
  refine hK.out _ _ S1 (fun S0=>?_)
  clear hK K S1
  try simp only [zW]
  obtain ⟨wn,rfl⟩:∃z,z=wm:=⟨_,rfl⟩
  refine bW 22 55 (.bool false) rfl rfl S0 ?_ (hy:=Or.inl ⟨by rfl,fun wz hz=>by go_simp⟩)
  try simp only [zW]
  refine tW 23 56 (.bool false) S0 ?_
  simp only [zW]
  refine wpAnyH_done (by kernel_rfl) ?_ _
  go_wp2_with fail
  go_meet
  exact ⟨rfl,aA S0⟩
 case rest=>
  obtain ⟨rfl,hbz⟩:=hcut
  clear D6 X6 CO1 CO2 CLS
  replace BW:=aA (yB (uH BW) (uH hbz))
  replace D3:=aA ((uH D3).below (uH hbz))
  replace X3:=aA ((uH X3).below (uH hbz))
  replace IV:=aA ((uH IV).below (uH hbz))
  clear hbz
  obtain ⟨u0,u1,u2,u3,u4,u5,u6,u7⟩:=zq (uH X3)
  go_wp2_with fail
  refine (uH CSO _ (uH D3)).mono ?_
  rintro e w8 ⟨rfl,hb⟩
  clear u0 u1 u2 u3 u4 u5 u6 u7
  replace BW:=aA (yB (uH BW) (hb))
  replace D3:=aA ((uH D3).below (hb))
  replace X3:=aA ((uH X3).below (hb))
  replace IV:=aA ((uH IV).below (hb))
  clear hb CSO
  have QP:=aA (show ¬(ok=true∧st=true)→n=0 from fun h=>by have h1:=uH BS;rw [if_neg h] at h1;rw [←uH HN,h1];rfl)
  cases ok
  ·obtain rfl:n=0:=uH QP (by simp)
   go_wp2
   go_ret
   exact ⟨rfl,uH BW⟩
  obtain ⟨u0,u1,u2,u3,u4,u5,u6,u7⟩:=zq (uH X3)
  go_wp2_with fail
  refine (mK ya sa _ (uH D3).row (uH D3).fit).mono ?_
  rintro e w9 ⟨sv9,rfl,ht,hb⟩
  clear u0 u1 u2 u3 u4 u5 u6 u7
  have ST:=aA ht
  replace BW:=aA (yB (uH BW) (hb))
  replace D3:=aA ((uH D3).below (hb))
  replace X3:=aA ((uH X3).below (hb))
  replace IV:=aA ((uH IV).below (hb))
  clear hb ht
  go_wp2_with fail
  refine (uH CHS _ _ _ (uH ST)).mono ?_
  rintro e w9b ⟨rfl,JK⟩
  subst JK
  clear ST CHS
  cases st
  ·obtain rfl:n=0:=uH QP (by simp)
   go_wp2
   go_ret
   exact ⟨rfl,uH BW⟩
  clear QP
  obtain ⟨u0,u1,u2,u3,u4,u5,u6,u7⟩:=zq (uH X3)
  go_wp2_with fail
  refine (uH CLI _ (uH D3)).mono ?_
  rintro e w10 ⟨rfl,hb⟩
  clear u0 u1 u2 u3 u4 u5 u6 u7
  replace BW:=aA (yB (uH BW) (hb))
  replace D3:=aA ((uH D3).below (hb))
  replace X3:=aA ((uH X3).below (hb))
  replace IV:=aA ((uH IV).below (hb))
  clear hb CLI
  go_upto_region 11 with fail
  have bb:=yA (yH _ w10) (.cells #[.int .i64 l1,.int .i64 l2] 37)
  have X8:=aA (yD w10 #[.int .i64 l1,.int .i64 l2] 37)
  replace BW:=aA (yB (uH BW) (bb))
  replace D3:=aA ((uH D3).below (bb))
  replace X3:=aA ((uH X3).below (bb))
  replace IV:=aA ((uH IV).below (bb))
  obtain ⟨b8,Nw⟩:∃g,w10.heap.size=g:=⟨_,rfl⟩
  rw [Nw] at X8
  clear bb
  generalize w10.alloc (.cells #[.int .i64 l1,.int .i64 l2] 37)=wV at BW D3 X3 IV X8 ⊢
  simp only [Nw]
  clear Nw
  have h8V:=(uH X8).lt
  have h3V:=(uH X3).lt
  go_upto_region 12 with fail
  have bb:=yA (yH _ wV) (.cells #[.int .i64 0,.int .i64 0] 37)
  have X9:=aA (yD wV #[.int .i64 0,.int .i64 0] 37)
  have HB:=aA bb
  have YP:=yE wV (.cells #[.int .i64 0,.int .i64 0] 37)
  generalize wV.alloc (.cells #[.int .i64 0,.int .i64 0] 37)=wU at bb X9 HB YP ⊢
  have QQ:=(uH X3).below (uH HB)
  obtain ⟨u0,u1,u2,u3,u4,u5,u6,u7⟩:=zq QQ
  go_upto_region 13 with fail
  clear u0 u1 u2 u3 u4 u5 u6 u7 bb
  have bb:=yA (yH _ wU) (.cells (svc ya sa) 29)
  have X10:=aA (show Blk _ wU.heap.size (svc ya (aZ sa sa.cs)) 29 from yD wU (svc ya sa) 29)
  replace X9:=aA ((uH X9).below bb)
  replace HB:=aA (yB (uH HB) bb)
  generalize wU.alloc (.cells (svc ya sa) 29)=wB at X9 X10 HB ⊢
  rw [YP] at X10
  obtain ⟨b9,TK⟩:∃g,wV.heap.size=g:=⟨_,rfl⟩
  obtain ⟨b10,BK⟩:∃g,b9+1=g:=⟨_,rfl⟩
  have LF:=aA (Lf.of_low (b:=b9) (d:=b10) (show gU wV ya (aZ sa sa.cs) from (uH D3).row) (uH HB) (by omega) (by omega))
  have h9V:wV.heap.size≤b9:=by omega
  have h10:b9<b10:=by omega
  rw [TK] at X9 X10 ⊢
  rw [BK] at X10 ⊢
  clear TK BK YP bb
  have hqc:=(uH D3).cap
  have NE:=aA (fun c (hc:c ∈ sa.cs)=>wfa.2 c hc)
  obtain ⟨VS,ry⟩:∃l,tL sa (l1,l2) (sa.cs.length+1) sa.cs (0,0)=l:=⟨_,rfl⟩
  have VE:=aA (show VI sa nm l1 l2 VS 0 sa.cs 0 0 from ry ▸ VI.start (uH Zj))
  rw [if_pos (by simp),ry] at BS
  clear ry
  have WJ:=aA (show VS.length=n by have h1:=uH BS;have h2:=uH HN;rw [←h2,h1,List.length_map])
  go_wp2
  go_loopw [11] (fun i wr=>∃(k:Nat) (L:List Con) (yl:Sls) (g1 g2:Int),k≤n∧i=.int .i64 k∧Hid (Blk wr b9 #[.int .i64 g1,.int .i64 g2] 37)∧Hid (Blk wr b10 (svc yl (aZ sa L)) 29)∧Hid (Lf b9 b10 wr yl (aZ sa L))∧Hid (Bw wV wr)∧Hid (VI sa nm l1 l2 VS k L g1 g2)∧yl.ql≤yl.qc) (fun i _=>n - (intOf i).toNat)
  case atStart=>exact ⟨0,sa.cs,ya,0,0,Nat.zero_le _,rfl,X9,X10,LF,HB,VE,hqc⟩
  case round=>
   clear X9 X10 LF HB VE hqc
   obtain ⟨k,L,yl,g1,g2,hk,rfl,X9,X10,LF,HB,VE,hqc⟩:=hrel
   have Xk:=aA (yQ fita (uH VE).len (fun c hc=>(uH VE).sub.subset hc))
   have WA:=aA (aEG wfa (fun c hc=>(uH VE).sub.subset hc))
   by_cases hlt:k<n
   ·obtain ⟨c,L',hc,hcm,hwn,hco,hcq,htk,Sw⟩:=(uH VE).step (uH Zj) (uH HST) (show k<VS.length by have:=uH WJ;omega)
    have WC:=aA Sw
    have HWN:=aA hwn
    have Pj:=aA hco
    have qw:=aA htk
    obtain ⟨q,hq⟩:∃q,rQ (aZ sa L) c=q:=⟨_,rfl⟩
    rw [hq] at Pj hcq
    have UU:=aA hcq
    have HQ:=aA hq
    have J9:=aA (uH NE c hcm)
    obtain ⟨bi,off,rfl,hii⟩:∃bi off,io=some ⟨bi,off,none⟩∧wr.cell? ⟨bi,off+k,none⟩=some (.int .i64 c.id):=by
     obtain ⟨hl1,hl2⟩:=(uH IV).below (uH HB)
     rcases hl2 with h0 | ⟨bi,off,e,hh⟩
     ·omega
     ·refine ⟨bi,off,e,?_⟩
      have h3:=hh k (by omega)
      have h4:vs[k]'(by omega)=c.id:=by
       have:=uH BS
       subst this
       rw [List.getElem_map,hc]
      rw [h4] at h3
      exact h3
    have UG:=aA hii
    have k0:(0:Int)≤k:=by omega
    have k1:(k:Int)<n:=by omega
    clear Sw hwn hco htk hq hcq hii hc hcm VE hlt
    go_upto_region 16 with fail
    go_cut [12,13] from 81 to 91 (fun v12 v13 wx=>∃(b12 bg:Nat) (yn:Sls) (hsn:List AV) (gc:Nat),v12=.pointer (some ⟨b12,0,none⟩)∧v13=.slice (some ⟨bg,0,none⟩) 1 gc∧Hid (Blk wx b12 (svc yn (aZ sa L')) 29)∧wr.heap.size≤b12∧Hid (dQ wr.heap.size wx yn (aZ sa L') hsn)∧Hid (mQ wx bg 0 c)∧Hid (Bw wr wx))
    case first=>
     refine wp_region_held_drew (S:=fun wx=>Kp wr wx) (by kernel_rfl) ((aK wr).drew (Kp.new wr)) (fun S0=>?_)
     generalize wr.drew=wn at S0 ⊢
     refine bW 0 82 (sv yl (aZ sa L)) rfl rfl S0 ?_ (hy:=Or.inl ⟨by rfl,fun wz hz=>bI (bF ((uH X10).below hz) rfl)⟩)
     try simp only [zW]
     refine tW 1 83 _ S0 ?_
     simp only [zW]
     refine tW 2 84 _ S0 ?_
     simp only [zW]
     refine bW 3 85 (.pointer (some ⟨bi,off+k,none⟩)) rfl rfl S0 ?_ (hy:=Or.inl ⟨by rfl,fun wz hz=>by go_simp⟩)
     try simp only [zW]
     refine bW 4 86 (.int .i64 c.id) rfl rfl S0 ?_ (hy:=Or.inl ⟨by rfl,fun wz hz=>by (have ci:=Kp.cell hz (uH UG);go_simp)⟩)
     try simp only [zW]
     refine ySq 5 10 rfl rfl (fun K hK=>eG 87 (by rfl) rfl (bI (aG5 wn 32 3 _ (.int .i64 0) c.id Tryz.underlying32 (by kernel_rfl) (by simp only [List.map_toArray,List.map_cons,List.map_nil];rfl))) ?_) (fun K hK=>eG 12 (by rfl) rfl (bI (bS _ 29 #[.slice none 0 0,.int .i64 0,.int .i64 0,.int .i64 0,.int .i64 0,.slice none 0 0,.slice none 0 0,.slice none 0 0] (by kernel_rfl))) ?_)
     ·have JV:=aE9 wn c.id
      have bb:=yA (yH _ wn) (.cells #[.int .i64 c.id] 3)
      have S1:=(aK wr).call S0 bb
      refine hK.out _ _ S1 (fun S0=>?_)
      clear hK K S1 bb
      try simp only [zW]
      generalize wn.alloc (.cells #[.int .i64 c.id] 3)=wm at JV S0 ⊢
      generalize wn.heap.size=bj at JV ⊢
      obtain ⟨wn,rfl⟩:∃z,z=wm:=⟨_,rfl⟩
      refine ySq 6 10 rfl rfl (fun K hK=>?_) (fun K hK=>eG 12 (by rfl) rfl (bI (bS _ 29 #[.slice none 0 0,.int .i64 0,.int .i64 0,.int .i64 0,.int .i64 0,.slice none 0 0,.slice none 0 0,.slice none 0 0] (by kernel_rfl))) ?_)
      ·have hz0:=S0.size
       go_simp
       refine (wM (uH Xk) (uH WA) hqc (uH qw) ((uH LF).row.below S0) JV).mono ?_
       rintro e wm ⟨yn,hsn,go,gc,rfl,hA,hC,hb⟩
       have HA:=hA.base hz0
       have HC:=hC.base hz0
       clear hA hC hz0 JV
       have S1:=(aK wr).call S0 hb
       clear S0 hb
       go_wp2_with fail
       refine hK.out _ _ S1 (fun S0=>?_)
       clear hK K S1
       try simp only [zW]
       obtain ⟨wn,rfl⟩:∃z,z=wm:=⟨_,rfl⟩
       refine tW 7 81 (.tuple #[sv yn (aZ sa L'),.slice go 1 gc]) S0 ?_
       simp only [zW]
       refine tW 8 89 (sv yn (aZ sa L')) S0 ?_
       simp only [zW]
       refine tW 9 90 (.slice go 1 gc) S0 ?_
       simp only [zW]
       refine yRq 10 rfl (fun K hK=>eG 12 (by rfl) rfl (bI (bS _ 29 #[.slice none 0 0,.int .i64 0,.int .i64 0,.int .i64 0,.int .i64 0,.slice none 0 0,.slice none 0 0,.slice none 0 0] (by kernel_rfl))) ?_)
       have BA:=yD wn #[.slice none 0 0,.int .i64 0,.int .i64 0,.int .i64 0,.int .i64 0,.slice none 0 0,.slice none 0 0,.slice none 0 0] 29
       have GG:wr.heap.size≤wn.heap.size:=S0.size
       have bb:=yA (yH _ wn) (.cells #[.slice none 0 0,.int .i64 0,.int .i64 0,.int .i64 0,.int .i64 0,.slice none 0 0,.slice none 0 0,.slice none 0 0] 29)
       replace HA:=HA.below bb
       replace HC:=HC.below bb
       have S1:=(aK wr).call S0 bb
       refine hK.out _ _ S1 (fun S0=>?_)
       clear hK K S1 bb
       try simp only [zW]
       generalize wn.alloc (.cells #[.slice none 0 0,.int .i64 0,.int .i64 0,.int .i64 0,.int .i64 0,.slice none 0 0,.slice none 0 0,.slice none 0 0] 29)=wm at BA S0 HA HC ⊢
       generalize wn.heap.size=ba at BA GG ⊢
       obtain ⟨wn,rfl⟩:∃z,z=wm:=⟨_,rfl⟩
       refine yRq 11 rfl (fun K hK=>fQ (by rfl) rfl (fC (bP 29 (arr:=svc yn (aZ sa L')) BA (by kernel_rfl) rfl (by kernel_rfl))) ?_)
       have MM:=iV BA (svc yn (aZ sa L')) rfl
       have X12:=jT BA (svc yn (aZ sa L'))
       have of5:=nD (B:=wr.heap.size) BA (by decide) (by decide) (by decide) (by decide) (by decide)
       replace HA:=HA.off MM of5
       replace HC:=HC.off MM of5.c
       have S1:Kp wr _:=Below.trans S0 (MM.below (fun k e=>by subst e;exact GG) S0.size)
       refine hK.out _ _ S1 (fun S0=>?_)
       clear hK K S1 MM of5
       try simp only [zW]
       refine tW 12 13 _ S0 ?_
       simp only [zW]
       refine wpAnyH_done (by kernel_rfl) ?_ _
       obtain ⟨bg,rfl,hcg⟩:=y9 HC
       go_wp2_with fail
       go_meet
       exact ⟨ba,bg,yn,hsn,gc,rfl,rfl,aA X12,GG,aA HA,aA hcg,aA S0⟩
      ·have BA:=yD wn #[.slice none 0 0,.int .i64 0,.int .i64 0,.int .i64 0,.int .i64 0,.slice none 0 0,.slice none 0 0,.slice none 0 0] 29
       have GG:wr.heap.size≤wn.heap.size:=S0.size
       have bb:=yA (yH _ wn) (.cells #[.slice none 0 0,.int .i64 0,.int .i64 0,.int .i64 0,.int .i64 0,.slice none 0 0,.slice none 0 0,.slice none 0 0] 29)
       replace JV:=JV.below bb
       have S1:=(aK wr).call S0 bb
       refine hK.out _ _ S1 (fun S0=>?_)
       clear hK K S1 bb
       try simp only [zW]
       generalize wn.alloc (.cells #[.slice none 0 0,.int .i64 0,.int .i64 0,.int .i64 0,.int .i64 0,.slice none 0 0,.slice none 0 0,.slice none 0 0] 29)=wm at BA S0 JV ⊢
       generalize wn.heap.size=ba at BA GG ⊢
       obtain ⟨wn,rfl⟩:∃z,z=wm:=⟨_,rfl⟩
       refine yRq 6 rfl (fun K hK=>?_)
       have hz0:=S0.size
       go_simp
       refine (wM (uH Xk) (uH WA) hqc (uH qw) ((uH LF).row.below S0) JV).mono ?_
       rintro e wm ⟨yn,hsn,go,gc,rfl,hA,hC,hb⟩
       replace BA:=BA.below hb
       have HA:=hA.base hz0
       have HC:=hC.base hz0
       clear hA hC hz0 JV
       have S1:=(aK wr).call S0 hb
       clear S0 hb
       go_wp2_with fail
       refine hK.out _ _ S1 (fun S0=>?_)
       clear hK K S1
       try simp only [zW]
       obtain ⟨wn,rfl⟩:∃z,z=wm:=⟨_,rfl⟩
       refine tW 7 81 (.tuple #[sv yn (aZ sa L'),.slice go 1 gc]) S0 ?_
       simp only [zW]
       refine tW 8 89 (sv yn (aZ sa L')) S0 ?_
       simp only [zW]
       refine tW 9 90 (.slice go 1 gc) S0 ?_
       simp only [zW]
       refine yRq 11 rfl (fun K hK=>fQ (by rfl) rfl (fC (bP 29 (arr:=svc yn (aZ sa L')) BA (by kernel_rfl) rfl (by kernel_rfl))) ?_)
       have MM:=iV BA (svc yn (aZ sa L')) rfl
       have X12:=jT BA (svc yn (aZ sa L'))
       have of5:=nD (B:=wr.heap.size) BA (by decide) (by decide) (by decide) (by decide) (by decide)
       replace HA:=HA.off MM of5
       replace HC:=HC.off MM of5.c
       have S1:Kp wr _:=Below.trans S0 (MM.below (fun k e=>by subst e;exact GG) S0.size)
       refine hK.out _ _ S1 (fun S0=>?_)
       clear hK K S1 MM of5
       try simp only [zW]
       refine tW 12 13 _ S0 ?_
       simp only [zW]
       refine wpAnyH_done (by kernel_rfl) ?_ _
       obtain ⟨bg,rfl,hcg⟩:=y9 HC
       go_wp2_with fail
       go_meet
       exact ⟨ba,bg,yn,hsn,gc,rfl,rfl,aA X12,GG,aA HA,aA hcg,aA S0⟩
     ·have BA:=yD wn #[.slice none 0 0,.int .i64 0,.int .i64 0,.int .i64 0,.int .i64 0,.slice none 0 0,.slice none 0 0,.slice none 0 0] 29
      have GG:wr.heap.size≤wn.heap.size:=S0.size
      have bb:=yA (yH _ wn) (.cells #[.slice none 0 0,.int .i64 0,.int .i64 0,.int .i64 0,.int .i64 0,.slice none 0 0,.slice none 0 0,.slice none 0 0] 29)
      have S1:=(aK wr).call S0 bb
      refine hK.out _ _ S1 (fun S0=>?_)
      clear hK K S1 bb
      try simp only [zW]
      generalize wn.alloc (.cells #[.slice none 0 0,.int .i64 0,.int .i64 0,.int .i64 0,.int .i64 0,.slice none 0 0,.slice none 0 0,.slice none 0 0] 29)=wm at BA S0 ⊢
      generalize wn.heap.size=ba at BA GG ⊢
      obtain ⟨wn,rfl⟩:∃z,z=wm:=⟨_,rfl⟩
      refine yRq 5 rfl (fun K hK=>eG 87 (by rfl) rfl (bI (aG5 wn 32 3 _ (.int .i64 0) c.id Tryz.underlying32 (by kernel_rfl) (by simp only [List.map_toArray,List.map_cons,List.map_nil];rfl))) ?_)
      have JV:=aE9 wn c.id
      have bb:=yA (yH _ wn) (.cells #[.int .i64 c.id] 3)
      replace BA:=BA.below bb
      have S1:=(aK wr).call S0 bb
      refine hK.out _ _ S1 (fun S0=>?_)
      clear hK K S1 bb
      try simp only [zW]
      generalize wn.alloc (.cells #[.int .i64 c.id] 3)=wm at JV S0 BA ⊢
      generalize wn.heap.size=bj at JV ⊢
      obtain ⟨wn,rfl⟩:∃z,z=wm:=⟨_,rfl⟩
      refine yRq 6 rfl (fun K hK=>?_)
      have hz0:=S0.size
      go_simp
      refine (wM (uH Xk) (uH WA) hqc (uH qw) ((uH LF).row.below S0) JV).mono ?_
      rintro e wm ⟨yn,hsn,go,gc,rfl,hA,hC,hb⟩
      replace BA:=BA.below hb
      have HA:=hA.base hz0
      have HC:=hC.base hz0
      clear hA hC hz0 JV
      have S1:=(aK wr).call S0 hb
      clear S0 hb
      go_wp2_with fail
      refine hK.out _ _ S1 (fun S0=>?_)
      clear hK K S1
      try simp only [zW]
      obtain ⟨wn,rfl⟩:∃z,z=wm:=⟨_,rfl⟩
      refine tW 7 81 (.tuple #[sv yn (aZ sa L'),.slice go 1 gc]) S0 ?_
      simp only [zW]
      refine tW 8 89 (sv yn (aZ sa L')) S0 ?_
      simp only [zW]
      refine tW 9 90 (.slice go 1 gc) S0 ?_
      simp only [zW]
      refine yRq 11 rfl (fun K hK=>fQ (by rfl) rfl (fC (bP 29 (arr:=svc yn (aZ sa L')) BA (by kernel_rfl) rfl (by kernel_rfl))) ?_)
      have MM:=iV BA (svc yn (aZ sa L')) rfl
      have X12:=jT BA (svc yn (aZ sa L'))
      have of5:=nD (B:=wr.heap.size) BA (by decide) (by decide) (by decide) (by decide) (by decide)
      replace HA:=HA.off MM of5
      replace HC:=HC.off MM of5.c
      have S1:Kp wr _:=Below.trans S0 (MM.below (fun k e=>by subst e;exact GG) S0.size)
      refine hK.out _ _ S1 (fun S0=>?_)
      clear hK K S1 MM of5
      try simp only [zW]
      refine tW 12 13 _ S0 ?_
      simp only [zW]
      refine wpAnyH_done (by kernel_rfl) ?_ _
      obtain ⟨bg,rfl,hcg⟩:=y9 HC
      go_wp2_with fail
      go_meet
      exact ⟨ba,bg,yn,hsn,gc,rfl,rfl,aA X12,GG,aA HA,aA hcg,aA S0⟩
    case rest=>
     obtain ⟨b12,bg,yn,hsn,gc,rfl,rfl,X12,XT,HA,kw,hbz⟩:=hcut
     have hwr:=(uH X10).lt
     have X8r:=aA ((uH X8).below (uH HB))
     clear UG
     replace X9:=aA ((uH X9).below (uH hbz))
     replace X10:=aA ((uH X10).below (uH hbz))
     replace LF:=aA ((uH LF).below (uH hbz))
     replace HB:=aA (yB (uH HB) (uH hbz))
     replace X8r:=aA ((uH X8r).below (uH hbz))
     clear hbz
     have CW:=aA (fun wx=>fH l1 l2 g1 g2 wx)
     rw [uH HWN] at CW
     have e0:=(uH X8r).at 0;have e1:=(uH X8r).at 1;have f0:=(uH X9).at 0;have f1:=(uH X9).at 1
     simp at e0 e1 f0 f1
     go_wp2_with fail
     refine (uH CW _).mono ?_
     rintro e w17 ⟨rfl,hb⟩
     clear e0 e1 f0 f1
     replace X9:=aA ((uH X9).below (hb))
     replace X10:=aA ((uH X10).below (hb))
     replace LF:=aA ((uH LF).below (hb))
     replace HB:=aA (yB (uH HB) (hb))
     replace X8r:=aA ((uH X8r).below (hb))
     replace X12:=aA ((uH X12).below (hb))
     replace HA:=aA ((uH HA).below (hb))
     replace kw:=aA ((uH kw).below (hb))
     clear hb CW
     go_upto_region 19 with fail
     go_cut [14,15] from 99 to 108 (fun v14 v15 wx=>∃(b14:Nat) (ai:Int) (vo:Option Addr) (vn vc:Nat) (th:Bool),v14=.pointer (some ⟨b14,0,none⟩)∧v15=.bool th∧Hid (Blk wx b14 #[.int .i64 ai,.string (bs q),.slice vo vn vc] 48)∧Hid (Bw w17 wx))
     case first=>
      refine wp_region_held_drew (S:=fun wx=>Kp w17 wx) (by kernel_rfl) ((aK w17).drew (Kp.new w17)) (fun S0=>?_)
      generalize w17.drew=wn at S0 ⊢
      refine bW 0 100 (sv yl (aZ sa L)) rfl rfl S0 ?_ (hy:=Or.inl ⟨by rfl,fun wz hz=>bI (bF ((uH X10).below hz) rfl)⟩)
      try simp only [zW]
      refine tW 1 101 _ S0 ?_
      simp only [zW]
      refine bW 2 102 (.pointer (some ⟨bg,0,none⟩)) rfl rfl S0 ?_ (hy:=Or.inl ⟨by rfl,fun wz hz=>by go_simp⟩)
      try simp only [zW]
      refine bW 3 103 (.pointer (some ⟨bg,1,none⟩)) rfl rfl S0 ?_ (hy:=Or.inl ⟨by rfl,fun wz hz=>by go_simp⟩)
      try simp only [zW]
      refine bW 4 104 (.int .i64 c.app) rfl rfl S0 ?_ (hy:=Or.inl ⟨by rfl,fun wz hz=>by (have ci:=Kp.cell hz (uH kw).2.1;go_simp)⟩)
      try simp only [zW]
      refine ySq 5 9 rfl rfl (fun K hK=>?_) (fun K hK=>eG 14 (by rfl) rfl (bI (bS _ 48 #[.int .i64 0,.string ⟨#[]⟩,.slice none 0 0] (by kernel_rfl))) ?_)
      ·go_simp
       refine (aJU (uH Xk) (uH WA) (uH J9) (uH HQ) _ ((uH LF).row.below S0)).mono ?_
       rintro e wm ⟨ai,vo,vn,vc,th,rfl,hb⟩
       have S1:=(aK w17).call S0 hb
       clear S0 hb
       go_wp2_with fail
       refine hK.out _ _ S1 (fun S0=>?_)
       clear hK K S1
       try simp only [zW]
       obtain ⟨wn,rfl⟩:∃z,z=wm:=⟨_,rfl⟩
       refine tW 6 99 (.tuple #[.agg #[.int .i64 ai,.string (bs q),.slice vo vn vc],.bool th]) S0 ?_
       simp only [zW]
       refine tW 7 106 (.agg #[.int .i64 ai,.string (bs q),.slice vo vn vc]) S0 ?_
       simp only [zW]
       refine tW 8 107 (.bool th) S0 ?_
       simp only [zW]
       refine yRq 9 rfl (fun K hK=>eG 14 (by rfl) rfl (bI (bS _ 48 #[.int .i64 0,.string ⟨#[]⟩,.slice none 0 0] (by kernel_rfl))) ?_)
       have BA:=yD wn #[.int .i64 0,.string ⟨#[]⟩,.slice none 0 0] 48
       have GG:w17.heap.size≤wn.heap.size:=S0.size
       have bb:=yA (yH _ wn) (.cells #[.int .i64 0,.string ⟨#[]⟩,.slice none 0 0] 48)
       have S1:=(aK w17).call S0 bb
       refine hK.out _ _ S1 (fun S0=>?_)
       clear hK K S1 bb
       try simp only [zW]
       generalize wn.alloc (.cells #[.int .i64 0,.string ⟨#[]⟩,.slice none 0 0] 48)=wm at BA S0 ⊢
       generalize wn.heap.size=ba at BA GG ⊢
       obtain ⟨wn,rfl⟩:∃z,z=wm:=⟨_,rfl⟩
       refine yRq 10 rfl (fun K hK=>fQ (by rfl) rfl (fC (bP 48 (arr:=#[.int .i64 ai,.string (bs q),.slice vo vn vc]) BA (by kernel_rfl) rfl (by kernel_rfl))) ?_)
       have MM:=iV BA #[.int .i64 ai,.string (bs q),.slice vo vn vc] rfl
       have X14:=jT BA #[.int .i64 ai,.string (bs q),.slice vo vn vc]
       have S1:Kp w17 _:=Below.trans S0 (MM.below (fun k e=>by subst e;exact GG) S0.size)
       refine hK.out _ _ S1 (fun S0=>?_)
       clear hK K S1 MM
       try simp only [zW]
       refine tW 11 15 _ S0 ?_
       simp only [zW]
       refine wpAnyH_done (by kernel_rfl) ?_ _
       go_wp2_with fail
       go_meet
       exact ⟨ba,ai,vo,vn,vc,th,rfl,rfl,aA X14,aA S0⟩
      ·have BA:=yD wn #[.int .i64 0,.string ⟨#[]⟩,.slice none 0 0] 48
       have GG:w17.heap.size≤wn.heap.size:=S0.size
       have bb:=yA (yH _ wn) (.cells #[.int .i64 0,.string ⟨#[]⟩,.slice none 0 0] 48)
       have S1:=(aK w17).call S0 bb
       refine hK.out _ _ S1 (fun S0=>?_)
       clear hK K S1 bb
       try simp only [zW]
       generalize wn.alloc (.cells #[.int .i64 0,.string ⟨#[]⟩,.slice none 0 0] 48)=wm at BA S0 ⊢
       generalize wn.heap.size=ba at BA GG ⊢
       obtain ⟨wn,rfl⟩:∃z,z=wm:=⟨_,rfl⟩
       refine yRq 5 rfl (fun K hK=>?_)
       go_simp
       refine (aJU (uH Xk) (uH WA) (uH J9) (uH HQ) _ ((uH LF).row.below S0)).mono ?_
       rintro e wm ⟨ai,vo,vn,vc,th,rfl,hb⟩
       replace BA:=BA.below hb
       have S1:=(aK w17).call S0 hb
       clear S0 hb
       go_wp2_with fail
       refine hK.out _ _ S1 (fun S0=>?_)
       clear hK K S1
       try simp only [zW]
       obtain ⟨wn,rfl⟩:∃z,z=wm:=⟨_,rfl⟩
       refine tW 6 99 (.tuple #[.agg #[.int .i64 ai,.string (bs q),.slice vo vn vc],.bool th]) S0 ?_
       simp only [zW]
       refine tW 7 106 (.agg #[.int .i64 ai,.string (bs q),.slice vo vn vc]) S0 ?_
       simp only [zW]
       refine tW 8 107 (.bool th) S0 ?_
       simp only [zW]
       refine yRq 10 rfl (fun K hK=>fQ (by rfl) rfl (fC (bP 48 (arr:=#[.int .i64 ai,.string (bs q),.slice vo vn vc]) BA (by kernel_rfl) rfl (by kernel_rfl))) ?_)
       have MM:=iV BA #[.int .i64 ai,.string (bs q),.slice vo vn vc] rfl
       have X14:=jT BA #[.int .i64 ai,.string (bs q),.slice vo vn vc]
       have S1:Kp w17 _:=Below.trans S0 (MM.below (fun k e=>by subst e;exact GG) S0.size)
       refine hK.out _ _ S1 (fun S0=>?_)
       clear hK K S1 MM
       try simp only [zW]
       refine tW 11 15 _ S0 ?_
       simp only [zW]
       refine wpAnyH_done (by kernel_rfl) ?_ _
       go_wp2_with fail
       go_meet
       exact ⟨ba,ai,vo,vn,vc,th,rfl,rfl,aA X14,aA S0⟩
     case rest=>
      obtain ⟨b14,ai,vo,vn,vc,th,rfl,rfl,X14,hbz⟩:=hcut
      replace X9:=aA ((uH X9).below (uH hbz))
      replace X10:=aA ((uH X10).below (uH hbz))
      replace LF:=aA ((uH LF).below (uH hbz))
      replace HB:=aA (yB (uH HB) (uH hbz))
      replace X8r:=aA ((uH X8r).below (uH hbz))
      replace X12:=aA ((uH X12).below (uH hbz))
      replace HA:=aA ((uH HA).below (uH hbz))
      replace kw:=aA ((uH kw).below (uH hbz))
      clear hbz HQ J9
      have CV:=aA (fun wx (h:gU wx yl (aZ sa L))=>kX yl (aZ sa L) q wx h (uH Xk) hqc (uH WA))
      rw [uH Pj] at CV
      have QY:((bs q).toList==(bs nm).toList)=false:=by rw [lL];simpa using uH UU
      obtain ⟨u0,u1,u2,u3,u4,u5,u6,u7⟩:=zq (uH X10)
      have e1:=(uH X14).at 1
      simp at e1
      go_wp2_with fail
      refine (uH CV _ (uH LF).row).mono ?_
      rintro e w20 ⟨rfl,hb⟩
      clear u0 u1 u2 u3 u4 u5 u6 u7 e1
      replace X9:=aA ((uH X9).below (hb))
      replace X10:=aA ((uH X10).below (hb))
      replace LF:=aA ((uH LF).below (hb))
      replace HB:=aA (yB (uH HB) (hb))
      replace X8r:=aA ((uH X8r).below (hb))
      replace X12:=aA ((uH X12).below (hb))
      replace HA:=aA ((uH HA).below (hb))
      replace kw:=aA ((uH kw).below (hb))
      replace X14:=aA ((uH X14).below (hb))
      clear hb CV
      have e1:=(uH X14).at 1
      simp at e1
      go_upto_region 22 with fail
      clear e1 QY UU Pj
      refine jB 9 (fun _=>True) (fun wx=>Kp w20 wx) (by kernel_rfl) trivial ((aK w20).drew (Kp.new w20)) (fun S0 T0=>?_)
      generalize w20.drew=wn at T0 ⊢
      refine tT 0 120 (rv g1 g2) rfl rfl S0 T0 ?_ (hy:=Or.inl ⟨by rfl,fun wz hz=>bI (aCD ((uH X9).below hz))⟩)
      try simp only [zW]
      refine aX 1 121 _ rfl rfl S0 T0 ?_
      try simp only [zW]
      refine aX 2 122 (.pointer (some ⟨bg,0,none⟩)) rfl rfl S0 T0 ?_ (hy:=Or.inl ⟨by rfl,fun wz hz=>by go_simp⟩)
      try simp only [zW]
      refine aX 3 123 (.pointer (some ⟨bg,3,none⟩)) rfl rfl S0 T0 ?_ (hy:=Or.inl ⟨by rfl,fun wz hz=>by go_simp⟩)
      try simp only [zW]
      refine tT 4 124 (rv c.mem c.cpu) rfl rfl S0 T0 ?_ (hy:=Or.inl ⟨by rfl,fun wz hz=>by (have c3:=Kp.cell hz (uH kw).2.2.2.1;have c4:=Kp.cell hz (uH kw).2.2.2.2;simp at c3 c4;go_simp)⟩)
      try simp only [zW]
      refine aD [5] (aB.cons rfl (fun K hK=>?_) aB.nil)
      go_simp
      refine (aJD g1 g2 c _).mono ?_
      rintro e wm ⟨ab,rfl,hb⟩
      have T1:=(aK w20).call T0 hb
      clear S0 T0 hb
      go_wp2_with fail
      refine hK.out _ _ trivial (fun _=>T1) ?_
      clear hK K
      have S0:=trivial
      have T0:=T1
      clear T1
      try simp only [zW]
      obtain ⟨wn,rfl⟩:∃z,z=wm:=⟨_,rfl⟩
      generalize (aDF (g1,g2) c).1=n1 at WC ⊢
      generalize (aDF (g1,g2) c).2=n2 at WC ⊢
      refine aX 6 119 (.tuple #[rv n1 n2,.bool ab]) rfl rfl S0 T0 ?_
      try simp only [zW]
      refine aX 7 126 (rv n1 n2) rfl rfl S0 T0 ?_
      try simp only [zW]
      refine aX 8 127 (.bool ab) rfl rfl S0 T0 ?_
      try simp only [zW]
      replace X9:=aA ((uH X9).below (T0))
      replace X10:=aA ((uH X10).below (T0))
      replace LF:=aA ((uH LF).below (T0))
      replace HB:=aA (yB (uH HB) (T0))
      replace X8r:=aA ((uH X8r).below (T0))
      replace X12:=aA ((uH X12).below (T0))
      replace HA:=aA ((uH HA).below (T0))
      replace kw:=aA ((uH kw).below (T0))
      replace X14:=aA ((uH X14).below (T0))
      refine aD [9] (aB.cons rfl (fun K hK=>fQ (by rfl) rfl (fC (bP 37 (arr:=#[.int .i64 n1,.int .i64 n2]) (uH X9) (by kernel_rfl) rfl (by kernel_rfl))) ?_) aB.nil)
      have M9:=(iV (uH X9) #[.int .i64 n1,.int .i64 n2] rfl).mono (S':=fun k=>k=b9∨k=b10) (fun k e=>.inl e)
      have Y9:=aA (jT (uH X9) #[.int .i64 n1,.int .i64 n2])
      have Y10:=aA ((iV (uH X9) #[.int .i64 n1,.int .i64 n2] rfl).blk (uH X10) (by omega))
      have Y12:=aA ((iV (uH X9) #[.int .i64 n1,.int .i64 n2] rfl).blk (uH X12) (by omega))
      have LN:=aA ((Lf.of_has (uH HA) (show b9<wr.heap.size by omega) (show b10<wr.heap.size by omega)).mks M9)
      have HB2:=aA (Below.trans (uH HB) (M9.below (fun k e=>by omega) (uH HB).size))
      have QY:=(uH HA).cap.q
      refine hK.out _ _ trivial (xno (by kernel_rfl)) ?_
      clear hK K S0 T0 M9 X9 X10 X12 LF HB HA kw X14 X8r
      try simp only [zW]
      refine gK _ _ _ _ (by kernel_rfl) ?_
      refine wpAnyH_done (by kernel_rfl) ?_ _
      generalize World.setRow wn b9 #[.int .i64 n1,.int .i64 n2]=ws at Y9 Y10 Y12 LN HB2 ⊢
      go_upto_region 23 with fail
      refine wp_region_lit ?_
      refine aC (v:=.agg (svc yn (aZ sa L'))) (d:=some 128) rfl rfl (bI (bF (uH Y12) rfl)) ?_
      try simp only [zW]
      refine bM (d:=none) rfl rfl (fC (bP 29 (arr:=svc yn (aZ sa L')) (uH Y10) (by kernel_rfl) rfl (by kernel_rfl))) ?_
      try simp only [Act.put]
      have M10:=(iV (uH Y10) (svc yn (aZ sa L')) rfl).mono (S':=fun k=>k=b9∨k=b10) (fun k e=>.inr e)
      have Z10:=aA (jT (uH Y10) (svc yn (aZ sa L')))
      have Z9:=aA ((iV (uH Y10) (svc yn (aZ sa L')) rfl).blk (uH Y9) (by omega))
      replace LN:=aA ((uH LN).mks M10)
      replace HB2:=aA (Below.trans (uH HB2) (M10.below (fun k e=>by omega) (uH HB2).size))
      clear M10 Y9 Y10 Y12
      generalize World.setRow ws b10 (svc yn (aZ sa L'))=wt at Z9 Z10 LN HB2 ⊢
      go_wp2
      go_roundw
      case rel=>exact ⟨k+1,L',yn,n1,n2,by omega,by go_num,Z9,Z10,LN,HB2,WC,QY⟩
      case measure=>simp [intOf];omega
   ·have hkn:k=n:=by omega
    subst hkn
    have k1:¬(k:Int)<k:=by omega
    have Gw:=(uH VE).fin (by have:=uH WJ;omega)
    obtain ⟨wi,Gv⟩:∃b,within l1 l2 g1 g2=b:=⟨_,rfl⟩
    have CW:=aA (fun wx=>fH l1 l2 g1 g2 wx)
    rw [Gv] at Gw CW
    have UM:=aA Gw
    have CV:=aA (fun q wx (h:gU wx yl (aZ sa L))=>kX yl (aZ sa L) q wx h (uH Xk) hqc (uH WA))
    have GJ:ya.ql≤1048576:=(uH D3).row.ql fita
    clear Gw Gv hlt VE
    obtain ⟨wo,rfl⟩:∃z,z=wr:=⟨_,rfl⟩
    go_wp2
    go_loopw [16,17] (fun u v wx=>∃(b:Bool) (j:Nat),j≤ya.ql∧u=.bool b∧v=.int .i64 j∧Hid (wi=false→b=false)∧Hid (Bw wo wx)) (fun u v _=>ya.ql - (intOf v).toNat)
    case atStart=>exact ⟨false,0,Nat.zero_le _,rfl,rfl,aA (fun _=>rfl),aA (yH _ _)⟩
    case round=>
     obtain ⟨b,j,hj,rfl,rfl,Xv,BZ⟩:=hrel
     have HB3:=aA (yB (uH HB) (uH BZ))
     have c00:=((uH X3).below (uH HB3)).at 0
     simp at c00
     by_cases hlt:j<ya.ql
     ·have j1:(j:Int)<ya.ql:=by omega
      have j0:(0:Int)≤j:=by omega
      obtain ⟨bq,oq,TE,hqq⟩:=((uH D3).row.1.below (uH HB3)).at hlt
      have hjl:j<sa.qs.length:=by have:=(uH D3).row.1.1;omega
      have hq0:=(hqq hjl).1
      obtain ⟨qn,QY⟩:∃q,sa.qs[j].name=q:=⟨_,rfl⟩
      rw [QY] at hq0
      have Vk:=aA hq0
      have RS:=aA TE
      have RD:=aA ((uH X10).below (uH BZ))
      have ww:=aA ((uH X3).below (uH HB3))
      have PG:=aA ((uH LF).below (uH BZ))
      clear hqq hq0 QY TE hjl
      go_upto_region 28 with fail
      clear c00
      cases b
      ·refine wp_region_held_drew (S:=fun wx=>Kp wr wx) (by kernel_rfl) ((aK wr).drew (Kp.new wr)) (fun S0=>?_)
       generalize wr.drew=wn at S0 ⊢
       refine tW 0 136 (.bool false) S0 ?_
       simp only [zW]
       refine tW 1 137 (.bool false) S0 ?_
       simp only [zW]
       refine bW 2 138 (sv yl (aZ sa L)) rfl rfl S0 ?_ (hy:=Or.inl ⟨by rfl,fun wz hz=>bI (bF ((uH RD).below hz) rfl)⟩)
       try simp only [zW]
       refine tW 3 139 _ S0 ?_
       simp only [zW]
       refine bW 4 140 (.slice (some ⟨bq,oq,none⟩) ya.ql ya.qc) rfl rfl S0 ?_ (hy:=Or.inl ⟨by rfl,fun wz hz=>by (have c5:=((uH ww).below hz).at 0;simp at c5;rw [uH RS] at c5;go_simp)⟩)
       try simp only [zW]
       refine tW 5 141 _ S0 ?_
       simp only [zW]
       refine bW 6 142 (.pointer (some ⟨bq,oq+j*4,none⟩)) rfl rfl S0 ?_ (hy:=Or.inl ⟨by rfl,fun wz hz=>by go_simp⟩)
       try simp only [zW]
       refine tW 7 143 _ S0 ?_
       simp only [zW]
       refine bW 8 144 (.string (bs qn)) rfl rfl S0 ?_ (hy:=Or.inl ⟨by rfl,fun wz hz=>by (have c5:=Kp.cell hz (uH Vk);go_simp)⟩)
       try simp only [zW]
       refine yRq 9 rfl (fun K hK=>?_)
       go_simp
       refine (uH CV qn _ ((uH PG).row.below S0)).mono ?_
       rintro e wm ⟨rfl,hb⟩
       have S1:=(aK wr).call S0 hb
       clear S0 hb
       go_wp2_with fail
       refine hK.out _ _ S1 (fun S0=>?_)
       clear hK K S1
       try simp only [zW]
       obtain ⟨wn,rfl⟩:∃z,z=wm:=⟨_,rfl⟩
       generalize hov:iM (aZ sa L) qn=ov2
       have MQ:=aA hov
       clear hov
       refine bW 10 146 (.bool ov2) rfl rfl S0 ?_ (hy:=Or.inl ⟨by rfl,fun wz hz=>by cases ov2<;>rfl⟩)
       try simp only [zW]
       refine tW 11 16 _ S0 ?_
       simp only [zW]
       refine wpAnyH_done (by kernel_rfl) ?_ _
       replace BZ:=aA (yB (uH BZ) S0)
       clear S0 RD ww PG Vk RS HB3
       go_wp2
       go_roundw
       case rel=>exact ⟨ov2,j+1,by omega,rfl,by go_num,aA (fun h=>by rcases uH UM with h1 | h1;exact absurd (h1.symm.trans h) (by simp);rw [←uH MQ];exact h1 qn),BZ⟩
       case measure=>simp [intOf];omega
      ·refine wp_region_held_drew (S:=fun wx=>Kp wr wx) (by kernel_rfl) ((aK wr).drew (Kp.new wr)) (fun S0=>?_)
       generalize wr.drew=wn at S0 ⊢
       refine tW 0 136 (.bool true) S0 ?_
       simp only [zW]
       refine tW 1 137 (.bool true) S0 ?_
       simp only [zW]
       refine tU 2 138 S0 ?_
       simp only [zW]
       refine tU 3 139 S0 ?_
       simp only [zW]
       refine tU 4 140 S0 ?_
       simp only [zW]
       refine tU 5 141 S0 ?_
       simp only [zW]
       refine tU 6 142 S0 ?_
       simp only [zW]
       refine tU 7 143 S0 ?_
       simp only [zW]
       refine tU 8 144 S0 ?_
       simp only [zW]
       refine tU 9 145 S0 ?_
       simp only [zW]
       refine tW 10 146 (.bool true) S0 ?_
       simp only [zW]
       refine tW 11 16 _ S0 ?_
       simp only [zW]
       refine wpAnyH_done (by kernel_rfl) ?_ _
       replace BZ:=aA (yB (uH BZ) S0)
       clear S0 RD ww PG Vk RS HB3
       go_wp2
       go_roundw
       case rel=>exact ⟨true,j+1,by omega,rfl,by go_num,Xv,BZ⟩
       case measure=>simp [intOf];omega
     ·have j1:¬(j:Int)<ya.ql:=by omega
      clear hlt
      have X8r:=aA ((uH X8).below (uH HB3))
      have X9r:=aA ((uH X9).below (uH BZ))
      have e0:=(uH X8r).at 0;have e1:=(uH X8r).at 1;have f0:=(uH X9r).at 0;have f1:=(uH X9r).at 1
      simp at e0 e1 f0 f1
      have B3:=aA (yB (uH BW) (uH HB3))
      have PW:=aA (show wi=true∨b=false by cases Gv:wi;exact .inr (uH Xv Gv);exact .inl rfl)
      clear Xv UM CV
      go_wp2_with fail
      refine (uH CW _).mono ?_
      rintro e wz ⟨rfl,hb⟩
      replace B3:=aA (yB (uH B3) hb)
      clear hb CW
      cases wi
      ·obtain rfl:b=false:=by rcases uH PW with h | h;cases h;exact h
       go_wp2
       go_ret
       exact ⟨rfl,uH B3⟩
      ·go_wp2
       go_ret
       exact ⟨rfl,uH B3⟩
set_option maxRecDepth 100000 in
theorem aKa (os:Os) (started:os.Started) (H:Type) (enc:TypeId×Value→H) :
  ReturnsInHanded {} Tryz.checked os 3 .any (Rows.fnVictimsSpec.pre6 enc Tryz.prog Tryz.f3 Rows.fnVictimsRow.domain false) (Rows.fnVictimsSpec.post enc Tryz.prog Tryz.f3 false true false false):=by
 refine returnsInHanded_of_change (C:=Tryz.checked) own started (by kernel_rfl) Tryz.func3
  (ChangeSpec.witness6 (enc:=enc) (C:=Tryz.checked) false ⟨#[],#[.slice none 0 0],[]⟩ 8 (by kernel_rfl) (by kernel_rfl) (by kernel_rfl) (by kernel_rfl)) ?_
 intro W base args ds gs before hval0 hW hcnd _
 have JP:∀(j:Nat) t v,Tryz.f3.params[j]? = some t→args[j]? = some v→Value.okWide Tryz.prog W .any base t v:=hval0
 have hW':=hW
 obtain ⟨p,q,TU,hV,rfl,hfz,hnd⟩:=hW
 have hA:DataW.TrodAll enc Tryz.prog W 0 (fun _=>true) true Tryz.f3.params.toList args.toList ds p:=TU
 rw [Tryz.params3] at hA JP
 obtain ⟨v0,vs0,d0,ds0,p0,q0,TL,rfl,rfl,h0,r0⟩:=trodAll_cons hA
 obtain ⟨rfl,rfl,rfl⟩:=trodAll_nil r0
 obtain rfl:args=#[v0]:=by cases args;simp_all
 obtain ⟨rfl,rfl⟩:=trodVars_none hV
 obtain ⟨a0,len0,cap0,rfl⟩:=okWide_slice Tryz.underlying22 (JP 0 22 v0 rfl rfl)
 have k0:=h0
 have lt0:∀x ∈ p0,x.block<W.heap.size:=by obtain ⟨m,hm⟩:=k0;exact DataW.trod_lt m _ _ _ hm
 obtain ⟨z0,w0⟩:∃zs,aHr W a0 len0 cap0 zs:=by
  obtain ⟨fuel,hf⟩:=h0
  rcases open_ints Tryz.underlying22 Tryz.underlying5 (by kernel_rfl) hf with ⟨hcs,_⟩ | ⟨x,l,c,zs,hcs,_,hl,hm,hz,_,Q8,hwz⟩
  ·simp [Value.cells] at hcs
   obtain ⟨rfl,rfl,rfl⟩:=hcs
   exact ⟨[],.inl ⟨rfl,rfl,rfl,rfl⟩⟩
  ·simp [Value.cells] at hcs
   obtain ⟨rfl,rfl,rfl⟩:=hcs
   exact ⟨zs,.inr ⟨_,rfl,hl,hm,by simpa using hz,Q8,hwz⟩⟩
 clear TU hval0
 refine (aBi a0 len0 cap0 z0 W w0).mono fun e W' ⟨he,bel⟩=>?_
 subst he
 exact ⟨_,rfl,_,_,_,[],_,[],hW',trodAll_mk1 (shut_bool Tryz.underlying4 _),(trodAll_cons_mk (Below.trod aJm (by kernel_rfl) (of_decide_eq_true (by kernel_rfl)) k0 bel lt0) trodAll_mk0),rfl,bel.frame _,fun h=>by cases h⟩
set_option maxRecDepth 100000 in
set_option maxHeartbeats 16000000 in
theorem aKn:joinedFacts Tryz.prog 3 Tryz.f3 Rows.fnVictimsSpec Rows.fnVictimsRow=true:=by
 unfold joinedFacts
 repeat rw [yK]
 repeat' apply And.intro
 all_goals (as_aux_lemma=>kernel_rfl)
theorem over:Rows.fnVictimsRow.holds Tryz.pinned (OpenSpec.ofChange Rows.fnVictimsSpec):=
 OpenClaim.holds_of_wide 3 Tryz.f3 rfl rfl rfl rfl rfl rfl rfl ⟨rfl,rfl,rfl,rfl,rfl⟩ rfl rfl rfl rfl rfl (by kernel_rfl) Tryz.func3 aKn
  (of_decide_eq_true (by kernel_rfl)) (by unfold Func.isWrapper;first | (rw [if_pos (by decide +kernel)];kernel_rfl) | (rw [if_neg (by decide +kernel)];exact ⟨rfl,rfl⟩))
  (fun os started H enc _=>aKa os started H enc)
end Go.Proofs.YtngkddhcmfbjnaaGreat.fnVictims
namespace Go.Proofs.YtngkddhcmfbjnaaGreat
theorem fnVictims_holds:Rows.FnVictimsSaid:=fnVictims.over
#print axioms fnVictims_holds
end Go.Proofs.YtngkddhcmfbjnaaGreat
