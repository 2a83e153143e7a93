/-
  A state drawn, that is right, mostly: what l04State answers; a walk over the dump.
-/
import Derived.Test.YtngkddhcmfbjnaaGreatSackS
import Derived.Test.YtngkddhcmfbjnaaGreatSackAC
set_option maxRecDepth 100000
set_option maxHeartbeats 16000000
set_option linter.unusedVariables false
set_option linter.unusedSimpArgs false
namespace Go.Proofs.YtngkddhcmfbjnaaGreat
section
open Go.RowKit
theorem aCS {l:List Q} (hl:l.length≤5) (hb:aBh l):SmS (pG (qlN l) (epN l) (nxN l) (epN l)) 0 0 0:=by
  unfold qlN epN nxN
  split
  · exact ⟨⟨by simp;omega,hb⟩,by simp,by simp,by simp,by simp,by simp,by simp,by simp,by simp⟩
  · exact ⟨⟨by simp,by simp⟩,by simp,by simp,by simp,by simp,by simp,by simp,by simp,by simp⟩
theorem aIK {w0:World} {B g:Nat} {ao:Option Addr} {len cap:Nat} (w:World) (h:CSt w0 B g ao len cap w) :
    cP 70 #[.pointer (some ⟨g,0,none⟩)] w fun e w'=>∃y s hs,e=.returned (sv y s)∧Hid (dQ w.heap.size w' y s hs)∧Hid (SmS s 4 3 6)∧Hid (CSt w0 B g ao len cap w'):=by
  have HW:=aA h
  have hgl:=h.1.lt
  have C0:=aA (show CSt w B g ao len cap (w.alloc (.cells #[.slice none 0 0,.int .i64 0,.int .i64 0,.int .i64 0,.int .i64 0,.slice none 0 0,.slice none 0 0,.slice none 0 0] 29)) from h.rebase.alloc _)
  have R0:=aA (yD w #[.slice none 0 0,.int .i64 0,.int .i64 0,.int .i64 0,.int .i64 0,.slice none 0 0,.slice none 0 0,.slice none 0 0] 29)
  clear h
  go_enter Tryz.func70,Tryz.ntmps70
  go_wp2_with fail
  refine (aBD _ (uH C0).rebase).mono ?_
  rintro e w1 ⟨v,ls,rfl,hq,hl1,hl2,hbr,hc1⟩
  have hlt:ls≠[]:=fun e=>by rw [e] at hl1;simp at hl1
  obtain ⟨qb,qc,cur,rfl,Hw,hqc,_,_⟩:=(uH hq).row hlt
  have Yz:aKL ls:=⟨by omega,fun q hq=>by have:=uH hbr q hq;omega⟩
  have R1:=aA ((dW (uH C0).1 (uH hc1).1 (uH hc1).2.2.1).blk (uH R0) (by omega))
  have C1:=aA ((uH C0).step (uH hc1).1 (uH hc1).2.2.1)
  have hz1:w.heap.size+1≤w1.heap.size:=(uH R1).lt
  have CN:=aA (mJ (some ⟨qb,0,none⟩) ls.length qc ls w1 Hw (by omega) Yz ⟨_,rfl⟩ (fun qo n c wy hr _=>by have:=iQ (aHu qo n c) (pG ls 1 1001 1) wy (aGn 1 1001 1 hr) (aGp 1 1001 1 Yz);rw [aJN] at this;exact this))
  have SM:=aA (aCS hl2 (uH hbr))
  clear hlt hq Hw hqc Yz hc1 C0 R0 hbr
  go_wp2_with fail
  refine (uH CN).mono ?_
  rintro e w2 hN
  obtain ⟨qo,n,c,rfl,hn,Hq,hb⟩:=zN.one hN
  have R2:=aA ((uH R1).below hb)
  have C2:=aA ((uH C1).below hb)
  have hz2:w.heap.size+1≤w2.heap.size:=(uH R2).lt
  have H2:=aA ((aGo (epN ls) (nxN ls) (epN ls) Hq hn).base (show w.heap.size≤w1.heap.size+1 by omega))
  obtain ⟨x,hx⟩:∃x,aHu qo n c=x:=⟨_,rfl⟩
  obtain ⟨s,hs⟩:∃s,pG (qlN ls) (epN ls) (nxN ls) (epN ls)=s:=⟨_,rfl⟩
  rw [hs] at SM
  rw [hx,hs] at H2 ⊢
  generalize aH ls=okq at ⊢
  clear hN Hq hb hx hs R1 C1 CN hn hz1 hl1 hl2
  have R3:=aA (((uH R2).al (.cells (svc x s) 29)).al (.cells uG 9))
  have b3:=yA (yA (yH _ w2) (.cells (svc x s) 29)) (.cells uG 9)
  have X3:=aA ((yD w2 (svc x s) 29).al (.cells uG 9))
  have N3:=aA (show Blk _ (w2.heap.size+1) uG 9 by have:=yD (w2.alloc (.cells (svc x s) 29)) uG 9;rwa [yE] at this)
  have D3:=aA (show DSt w B g ao len cap w2.heap.size (w2.heap.size+1) (svc x s) _ from ⟨(uH C2).below b3,hgl,uH X3,by omega,uH R3,uH N3,by omega⟩)
  have H3:=aA ((uH H2).below b3)
  clear R3 X3 N3 b3 R2 C2 H2
  go_wp2_with fail
  refine (aU 4 _ (uH D3).c (by decide) (by decide)).mono ?_
  rintro e w4 ⟨n3,rfl,hn0,hn1,hc4,hg4⟩
  have D4:=aA ((uH D3).cur hc4 hg4)
  have H4:=aA ((uH D3).off hc4 hg4 (uH H3))
  obtain ⟨b,hbb⟩:∃b,w2.heap.size=b:=⟨_,rfl⟩
  obtain ⟨q,hqq⟩:∃q,b+1=q:=⟨_,rfl⟩
  obtain ⟨nm,rfl⟩:=Int.eq_ofNat_of_zero_le hn0
  rw [hbb,hqq] at D4 ⊢
  have hnm:nm≤3:=by omega
  clear D3 H3 hc4 hg4 hbb hqq hz2 hn0 hn1
  go_wp2
  go_loopw [7] (fun i wr=>∃(k:Nat) (y:Sls) (s:St),k≤nm∧i=.int .i64 k∧Hid (DSt w B g ao len cap b q (svc y s) wr)∧Hid (dQ w.heap.size wr y s [])∧Hid (SmS s 0 k 0)) (fun i _=>nm - (intOf i).toNat)
  case atStart=>exact ⟨0,x,s,Nat.zero_le _,rfl,D4,H4,SM⟩
  case round=>
    clear D4 H4 SM
    obtain ⟨k,y,s,hk,rfl,HD,HH,HS⟩:=hrel
    by_cases hlt:k<nm
    · obtain ⟨na,hna,hat⟩:=aEb k (by omega)
      have k0:(0:Int)≤k:=by omega
      have k1:(k:Int)<3:=by omega
      have k2:(k:Int)<nm:=by omega
      have MW:=aA (show y.ml≤1000 by have:=(uH HH).m.1.1;have:=(uH HS).ml;omega)
      go_upto_region 7 with fail
      refine jB 15 (fun wx=>Blk wx q uG 9) (fun wx=>DSt w B g ao len cap b q (svc y s) wx∧dQ w.heap.size wx y s []) (by kernel_rfl) ((uH HD).n.below (yH _ _).drew) ⟨(uH HD).below (yH _ _).drew,(uH HH).below (yH _ _).drew⟩ (fun S0 T0=>?_)
      refine aX 0 30 _ rfl rfl S0 T0 ?_
      try simp only [zW]
      refine tT 1 31 (.slice y.ma y.ml y.mc) rfl rfl S0 T0 ?_ (hy:=Or.inl ⟨by rfl,fun wz hz=>by (have c6:=hz.1.x.at 6;simp at c6;go_simp)⟩)
      try simp only [zW]
      refine aX 2 32 _ rfl rfl S0 T0 ?_
      try simp only [zW]
      refine aX 3 33 _ rfl rfl S0 T0 ?_
      try simp only [zW]
      refine aX 4 34 _ rfl rfl S0 T0 ?_
      try simp only [zW]
      refine aX 5 35 (.string (bs na)) rfl rfl S0 T0 ?_ (hy:=Or.inl ⟨by rfl,fun wz hz=>by (have ck:=hz.at k;rw [hat] at ck;go_simp)⟩)
      try simp only [zW]
      refine aX 6 36 _ rfl rfl S0 T0 ?_
      try simp only [zW]
      refine aX 9 39 _ rfl rfl S0 T0 ?_
      try simp only [zW]
      refine aD [7] (aB.cons rfl (fun K hK=>?_) aB.nil)
      go_simp
      refine (aU 30 _ T0.1.c (by decide) (by decide)).mono ?_
      rintro e wn ⟨x7,rfl,hx7a,hx7b,hcn,hgn⟩
      have T1:=And.intro (T0.1.cur hcn hgn) (T0.1.off hcn hgn T0.2)
      clear S0 T0 hcn hgn
      go_wp2_with fail
      refine hK.out _ _ T1.1.n (fun _=>T1) ?_
      clear hK K
      have S0:=T1.1.n
      have T0:=T1
      clear T1
      try simp only [zW]
      refine aX 8 38 _ rfl rfl S0 T0 ?_
      try simp only [zW]
      refine aD [10] (aB.cons rfl (fun K hK=>?_) aB.nil)
      go_simp
      refine (aU 12 _ T0.1.c (by decide) (by decide)).mono ?_
      rintro e wn ⟨x10,rfl,Sz,Sq,hcn,hgn⟩
      have T1:=And.intro (T0.1.cur hcn hgn) (T0.1.off hcn hgn T0.2)
      clear S0 T0 hcn hgn
      go_wp2_with fail
      refine hK.out _ _ T1.1.n (fun _=>T1) ?_
      clear hK K
      have S0:=T1.1.n
      have T0:=T1
      clear T1
      try simp only [zW]
      refine aX 11 41 _ rfl rfl S0 T0 ?_
      try simp only [zW]
      refine aX 12 42 _ rfl rfl S0 T0 ?_
      try simp only [zW]
      refine aX 13 43 _ rfl rfl S0 T0 ?_
      try simp only [zW]
      have hbn:=yA (yH _ wn) (.cells #[.string (bs na),.int .i64 (10+x7),.int .i64 (4+x10),.int .i64 0] 102)
      obtain ⟨g4,cp,w4,gq,HA⟩:=aL8 (B:=w.heap.size) T0.2.m.1 T0.2.rm.2.2.1 T0.2.cap.m (uH MW) T0.1.c.2.2.1.size ⟨na,10+x7,4+x10,0⟩
      simp only at gq HA
      have D3:=(T0.1.below hbn).mks (uH HA).mks (fun k ⟨N,hc,hB⟩=>⟨hB,_,N,hc,by decide,by decide⟩)
      have H3:=(T0.2.below hbn).addM ⟨na,10+x7,4+x10,0⟩ (uH HA)
      have D4:=aA (D3.set 6 (.slice (some ⟨g4,0,none⟩) (y.ml+1) cp))
      have H4:=aA (D3.setH 6 (.slice (some ⟨g4,0,none⟩) (y.ml+1) cp) H3)
      have X3:=D3.x
      refine aD [14] (aB.cons rfl (fun K hK=>?_) aB.nil)
      go_wp2_with fail
      refine hK.out _ _ (S0.below hbn) (fun _=>⟨T0.1.below hbn,T0.2.below hbn⟩) ?_
      clear hK K
      try simp only [zW]
      refine aD [15] (aB.cons rfl (fun K hK=>eG 45 (by rfl) rfl (eY rfl rfl rfl gq) ?_) aB.nil)
      refine hK.out _ _ D3.n (xno (by kernel_rfl)) ?_
      have S4:=D3.n
      clear hK K gq T0 S0 D3 H3 HA hbn
      try simp only [zW]
      refine gK _ _ _ _ (by kernel_rfl) ?_
      refine bW 16 46 _ rfl rfl S4 ?_
      try simp only [zW]
      refine yRq 17 rfl (fun K hK=>fQ (by rfl) rfl (fC (dP (26) (.slice (some ⟨g4,0,none⟩) (y.ml+1) cp) X3 (by show 6<8;decide) (by kernel_rfl) rfl)) ?_)
      refine hK.out _ _ (uH D4).n (fun _=>?_)
      clear hK K S4 X3
      try simp only [zW]
      refine wpAnyH_done (by kernel_rfl) ?_ _
      generalize w4.setCell ⟨b,6,none⟩ (.slice (some ⟨g4,0,none⟩) (y.ml+1) cp)=w5 at D4 H4 ⊢
      go_wp2
      go_roundw
      case rel=>exact ⟨k+1,⟨y.qa,y.ql,y.qc,y.aa,y.al,y.ac,some ⟨g4,0,none⟩,y.ml+1,cp,y.ca,y.cl,y.cc⟩,⟨s.qs,s.clock,s.epoch,s.next,s.serial,s.apps,s.ms++[⟨na,10+x7,4+x10,0⟩],s.cs⟩,by omega,by go_num,D4,H4,aA ((uH HS).addM ⟨na,10+x7,4+x10,0⟩ (by show na.length≤12;omega))⟩
      case measure=>simp [intOf];omega
    · have k2:¬(k:Int)<nm:=by omega
      obtain rfl:nm=k:=by omega
      clear hlt
      go_wp2_with fail
      refine (aU 5 _ (uH HD).c (by decide) (by decide)).mono ?_
      rintro e w6 ⟨na,rfl,hn0,hn1,hc6,Wj⟩
      have D6:=aA ((uH HD).cur hc6 Wj)
      have H6:=aA ((uH HD).off hc6 Wj (uH HH))
      have S6:=aA ((uH HS).mono (yJ 0) hnm (yJ 0))
      obtain ⟨nk,rfl⟩:=Int.eq_ofNat_of_zero_le hn0
      have hnk:nk≤4:=by omega
      clear HD HH HS hc6 Wj hn0 hn1 k2 hk
      go_wp2
      go_loopw [9] (fun i wr=>∃(k:Nat) (y:Sls) (s:St) (hs:List AV),k≤nk∧i=.int .i64 k∧Hid (DSt w B g ao len cap b q (svc y s) wr)∧Hid (dQ w.heap.size wr y s hs)∧Hid (SmS s k 3 0)) (fun i _=>nk - (intOf i).toNat)
      case atStart=>exact ⟨0,y,s,[],Nat.zero_le _,rfl,D6,H6,S6⟩
      case round=>
        clear D6 H6 S6
        obtain ⟨k,y,s,hs,hk,rfl,HD,HH,HS⟩:=hrel
        by_cases hlt:k<nk
        · have k2:(k:Int)<nk:=by omega
          obtain ⟨E,hE⟩:∃E,wr.heap.size=E:=⟨_,rfl⟩
          have DS0:=aA (show DS w B g ao len cap b q (svc y s) E y s hs wr by rw [←hE];exact DS.new (uH HD) (uH HH))
          have hEl:w.heap.size≤E:=(uH DS0).l
          clear HD HH hE
          go_upto_region 12 with fail
          go_cut [10] from 54 to 59 (fun v10 wx=>∃ba sq,v10=.pointer (some ⟨ba,0,none⟩)∧Hid (Blk wx ba #[.int .i64 s.next,.string sq,.slice none 0 0] 48)∧E≤ba∧sq.size≤12∧Hid (DS w B g ao len cap b q (svc y s) E y s hs wx))
          case first=>
            refine wp_region_held_drew (S:=fun wx=>DS w B g ao len cap b q (svc y s) E y s hs wx) (by kernel_rfl) (uH DS0).drew (fun S0=>?_)
            generalize wr.drew=wn at S0 ⊢
            refine tW 0 54 _ S0 ?_
            simp only [zW]
            refine bW 1 55 (.int .i64 s.next) rfl rfl S0 ?_ (hy:=Or.inl ⟨by rfl,fun wz hz=>by (have c3:=DSt.x (DS.d hz) |>.at 3;simp at c3;go_simp)⟩)
            try simp only [zW]
            refine tW 2 56 _ S0 ?_
            simp only [zW]
            refine ySq 3 6 rfl rfl (fun K hK=>?_) (fun K hK=>eG 10 (by rfl) rfl (bI (bS _ 48 #[.int .i64 0,.string ⟨#[]⟩,.slice none 0 0] (by kernel_rfl))) ?_)
            rotate_left
            have BA:=yD wn #[.int .i64 0,.string ⟨#[]⟩,.slice none 0 0] 48
            have GG:E≤wn.heap.size:=S0.e
            refine hK.out _ _ (S0.al _) (fun S1=>?_)
            clear hK K S0
            try simp only [zW]
            generalize wn.alloc (.cells #[.int .i64 0,.string ⟨#[]⟩,.slice none 0 0] 48)=wm at BA S1 ⊢
            generalize wn.heap.size=ba at BA GG ⊢
            have S0:=S1
            clear S1
            obtain ⟨wn,rfl⟩:∃z,z=wm:=⟨_,rfl⟩
            refine yRq 3 rfl (fun K hK=>?_)
            go_wp2_with fail
            have PT:rC (wn.alloc (.cells #[.string ⟨#[97]⟩,.string ⟨#[97]⟩,.string ⟨#[98]⟩,.string ⟨#[98,49]⟩,.string ⟨#[98,50]⟩] 9)) wn.heap.size 5:=dK wn 9 [⟨#[97]⟩,⟨#[97]⟩,⟨#[98]⟩,⟨#[98,49]⟩,⟨#[98,50]⟩] (by decide)
            have hqg:g<wn.heap.size:=S0.d.c.1.lt
            have BA:=BA.al (.cells #[.string ⟨#[97]⟩,.string ⟨#[97]⟩,.string ⟨#[98]⟩,.string ⟨#[98,49]⟩,.string ⟨#[98,50]⟩] 9)
            refine hK.out _ _ (S0.al _) (fun S1=>?_)
            clear hK K S0
            try simp only [zW]
            generalize wn.alloc (.cells #[.string ⟨#[97]⟩,.string ⟨#[97]⟩,.string ⟨#[98]⟩,.string ⟨#[98,49]⟩,.string ⟨#[98,50]⟩] 9)=wm at PT S1 BA ⊢
            generalize wn.heap.size=qq at PT hqg ⊢
            have S0:=S1
            clear S1
            obtain ⟨wn,rfl⟩:∃z,z=wm:=⟨_,rfl⟩
            rotate_left
            go_wp2_with fail
            have PT:rC (wn.alloc (.cells #[.string ⟨#[97]⟩,.string ⟨#[97]⟩,.string ⟨#[98]⟩,.string ⟨#[98,49]⟩,.string ⟨#[98,50]⟩] 9)) wn.heap.size 5:=dK wn 9 [⟨#[97]⟩,⟨#[97]⟩,⟨#[98]⟩,⟨#[98,49]⟩,⟨#[98,50]⟩] (by decide)
            have hqg:g<wn.heap.size:=S0.d.c.1.lt
            refine hK.out _ _ (S0.al _) (fun S1=>?_)
            clear hK K S0
            try simp only [zW]
            generalize wn.alloc (.cells #[.string ⟨#[97]⟩,.string ⟨#[97]⟩,.string ⟨#[98]⟩,.string ⟨#[98,49]⟩,.string ⟨#[98,50]⟩] 9)=wm at PT S1 ⊢
            generalize wn.heap.size=qq at PT hqg ⊢
            have S0:=S1
            clear S1
            obtain ⟨wn,rfl⟩:∃z,z=wm:=⟨_,rfl⟩
            refine ySq 4 6 rfl rfl (fun K hK=>?_) (fun K hK=>eG 10 (by rfl) rfl (bI (bS _ 48 #[.int .i64 0,.string ⟨#[]⟩,.slice none 0 0] (by kernel_rfl))) ?_)
            rotate_left
            have BA:=yD wn #[.int .i64 0,.string ⟨#[]⟩,.slice none 0 0] 48
            have GG:E≤wn.heap.size:=S0.e
            have PT:=PT.below (yA (yH _ wn) (.cells #[.int .i64 0,.string ⟨#[]⟩,.slice none 0 0] 48))
            refine hK.out _ _ (S0.al _) (fun S1=>?_)
            clear hK K S0
            try simp only [zW]
            generalize wn.alloc (.cells #[.int .i64 0,.string ⟨#[]⟩,.slice none 0 0] 48)=wm at BA S1 PT ⊢
            generalize wn.heap.size=ba at BA GG ⊢
            have S0:=S1
            clear S1
            obtain ⟨wn,rfl⟩:∃z,z=wm:=⟨_,rfl⟩
            rotate_left
            rotate_left
            go_simp
            refine (iT qq 5 5 _ S0.d.c.rebase PT (by omega) (by decide) (by decide)).mono ?_
            rintro e wm ⟨sq,rfl,QJ,hcm⟩
            have S1:=S0.cur hcm.1 hcm.2.2.1
            clear S0 hcm PT
            go_wp2_with fail
            refine hK.out _ _ S1 (fun S0=>?_)
            clear hK K S1
            try simp only [zW]
            obtain ⟨wn,rfl⟩:∃z,z=wm:=⟨_,rfl⟩
            refine tW 5 59 _ S0 ?_
            simp only [zW]
            refine yRq 6 rfl (fun K hK=>eG 10 (by rfl) rfl (bI (bS _ 48 #[.int .i64 0,.string ⟨#[]⟩,.slice none 0 0] (by kernel_rfl))) ?_)
            have BA:=yD wn #[.int .i64 0,.string ⟨#[]⟩,.slice none 0 0] 48
            have GG:E≤wn.heap.size:=S0.e
            refine hK.out _ _ (S0.al _) (fun S1=>?_)
            clear hK K S0
            try simp only [zW]
            generalize wn.alloc (.cells #[.int .i64 0,.string ⟨#[]⟩,.slice none 0 0] 48)=wm at BA S1 ⊢
            generalize wn.heap.size=ba at BA GG ⊢
            have S0:=S1
            clear S1
            obtain ⟨wn,rfl⟩:∃z,z=wm:=⟨_,rfl⟩
            all_goals first
              | (have hyp:=PT
                 clear hyp
                 refine yRq 4 rfl (fun K hK=>?_)
                 go_simp
                 refine (iT qq 5 5 _ S0.d.c.rebase PT (by omega) (by decide) (by decide)).mono ?_
                 rintro e wm ⟨sq,rfl,QJ,hcm⟩
                 have BA:=(dW S0.d.c.1 hcm.1 hcm.2.2.1).blk BA (by omega)
                 have S1:=S0.cur hcm.1 hcm.2.2.1
                 clear S0 hcm PT
                 go_wp2_with fail
                 refine hK.out _ _ S1 (fun S0=>?_)
                 clear hK K S1
                 try simp only [zW]
                 obtain ⟨wn,rfl⟩:∃z,z=wm:=⟨_,rfl⟩
                 refine tW 5 59 _ S0 ?_
                 try simp only [zW])
              | (skip)
            all_goals
              as_aux_lemma=>
                refine yRq 7 rfl (fun K hK=>fQ (by rfl) rfl (fC (bP 48 (arr:=#[.int .i64 s.next,.string sq,.slice none 0 0]) BA (by kernel_rfl) rfl (by kernel_rfl))) ?_)
                have B2:=jT BA #[.int .i64 s.next,.string sq,.slice none 0 0]
                refine hK.out _ _ (S0.out (iV BA #[.int .i64 s.next,.string sq,.slice none 0 0] rfl) (fun k e=>by subst e;exact ⟨GG,_,_,⟨_,BA,rfl⟩,by decide,by decide⟩)) (fun S1=>?_)
                clear hK K S0 BA
                try simp only [zW]
                refine wpAnyH_done (by kernel_rfl) ?_ _
                go_wp2_with fail
                go_meet
                exact ⟨ba,sq,rfl,aA B2,GG,QJ,aA S1⟩
          case rest=>
            obtain ⟨ba,sq,rfl,ZC,GG,QJ,kv⟩:=hcut
            obtain ⟨lq,rfl⟩:∃l,sq=bs l:=⟨_,(aDv _).symm⟩
            rw [dD] at QJ
            clear DS0
            have YK:=aA (fun wx (hx:DS w B g ao len cap b q (svc y s) E y s hs wx)=>fP y.qa y.ql y.qc s.qs lq wx hx.a.row.1 (by have:=hx.a.row.1.1;have:=(uH HS).q.1;omega) (fun z hz=>by have:=(uH HS).q.2 z hz;omega))
            have c0:=(uH kv).d.x.at 0
            have c1:=(uH ZC).at 1
            simp at c0 c1
            go_wp2_with fail
            refine (uH YK _ (uH kv)).mono ?_
            rintro e wd ⟨rfl,hb⟩
            have B2:=aA ((uH ZC).below hb)
            have S2:=aA ((uH kv).below hb)
            generalize oI s.qs lq=lf
            clear c0 c1 hb ZC kv
            go_upto_if 65 with fail
            go_cut [] from 60 to 66 (fun wx=>∃lz:List UInt8,lz.length≤12∧Hid (Blk wx ba #[.int .i64 s.next,.string (bs lz),.slice none 0 0] 48)∧Hid (DS w B g ao len cap b q (svc y s) E y s hs wx))
            case first=>
              cases lf
              · have c1:=(uH B2).at 1
                have f1:=(uH B2).f 1
                simp at c1
                go_wp2_with fail
                go_meet
                exact ⟨[97],by decide,aA ((uH B2).set 1 (.string (bs [97]))),aA ((uH S2).out (Mks.one (fun k=>k=ba) wd ba 1 _ rfl) (fun k e=>by subst e;exact ⟨GG,_,_,⟨_,uH B2,rfl⟩,by decide,by decide⟩))⟩
              · go_wp2_with fail
                go_meet
                exact ⟨lq,QJ,B2,S2⟩
            case rest=>
              clear B2 S2 YK QJ
              obtain ⟨lz,hlz,ZC,kv⟩:=hcut
              go_wp2_with fail
              refine (aU 3 _ (uH kv).d.c (by decide) (by decide)).mono ?_
              rintro e w7 ⟨nj,rfl,hn0,hn1,NZ,YY⟩
              have D7:=aA ((uH kv).cur NZ.1 YY)
              have B7:=aA ((dW (uH kv).d.c.1 NZ.1 YY).blk (uH ZC) (by omega))
              obtain ⟨nj,rfl⟩:=Int.eq_ofNat_of_zero_le hn0
              have hnj:nj≤2:=by omega
              clear ZC kv NZ YY hn0 hn1
              go_wp2
              go_loopw [12] (fun i wr=>∃(j:Nat) (ak:List Ask) (ko:Option Addr) (kc:Nat),j≤nj∧i=.int .i64 j∧Hid (Blk wr ba #[.int .i64 s.next,.string (bs lz),.slice ko j kc] 48)∧Hid (DS w B g ao len cap b q (svc y s) E y s hs wr)∧Hid (bE wr ko j ak∧dS E wr.heap.size wr 104 5 ko kc∧j≤kc)∧Hid (∀z ∈ ak,z.node.length≤12)) (fun i _=>nj - (intOf i).toNat)
              case atStart=>exact ⟨0,[],none,0,Nat.zero_le _,rfl,B7,D7,aA ⟨⟨rfl,.inl rfl⟩,.inl rfl,yJ _⟩,aA (fun z hz=>absurd hz (by simp))⟩
              case round=>
                clear B7 D7
                obtain ⟨j,ak,ko,kc,hj,rfl,HB,HD,HA,HN⟩:=hrel
                by_cases hlt:j<nj
                · have j2:(j:Int)<nj:=by omega
                  have TA:=aA (show AS w B g ao len cap b q (svc y s) E y s hs ba #[.int .i64 s.next,.string (bs lz),.slice ko j kc] ko j kc ak wr from ⟨uH HD,uH HB,GG,(uH HA).1,(uH HA).2.1,(uH HA).2.2⟩)
                  clear HB HD HA
                  go_upto_region 19 with fail
                  refine jB 18 (fun _=>True) (fun wx=>AS w B g ao len cap b q (svc y s) E y s hs ba #[.int .i64 s.next,.string (bs lz),.slice ko j kc] ko j kc ak wx) (by kernel_rfl) trivial (uH TA).drew (fun S0 T0=>?_)
                  generalize wr.drew=wn at T0 ⊢
                  refine aX 0 74 _ rfl rfl S0 T0 ?_
                  try simp only [zW]
                  refine tT 1 75 (.slice ko j kc) rfl rfl S0 T0 ?_ (hy:=Or.inl ⟨by rfl,fun wz hz=>by (have c2:=(AS.x hz).at 2;simp at c2;go_simp)⟩)
                  try simp only [zW]
                  refine aX 2 76 _ rfl rfl S0 T0 ?_
                  try simp only [zW]
                  refine aX 5 79 _ rfl rfl S0 T0 ?_
                  try simp only [zW]
                  refine aX 8 82 _ rfl rfl S0 T0 ?_
                  try simp only [zW]
                  refine aX 11 85 _ rfl rfl S0 T0 ?_
                  try simp only [zW]
                  refine aX 14 88 _ rfl rfl S0 T0 ?_
                  try simp only [zW]
                  refine aD [3,12] (aB.cons rfl (fun K hK=>?_) (aB.cons rfl (fun K hK=>?_) aB.nil))
                  · go_simp
                    refine (aU 6 _ T0.s.d.c.rebase (by decide) (by decide)).mono ?_
                    rintro e wm ⟨x3,rfl,JJ,JI,hcn,hgn⟩
                    have T1:=T0.cur hcn.1 hgn
                    clear S0 T0 hcn hgn
                    go_wp2_with fail
                    refine hK.out _ _ trivial (fun _=>T1) ?_
                    clear hK K
                    have S0:=trivial
                    have T0:=T1
                    clear T1
                    try simp only [zW]
                    obtain ⟨wn,rfl⟩:∃z,z=wm:=⟨_,rfl⟩
                    refine aX 4 78 (.int .i64 (1+x3)) rfl rfl S0 T0 ?_ (hy:=Or.inl ⟨by rfl,fun wz hz=>by (go_simp;rw [IntKind.wrap_i64];omega)⟩)
                    try simp only [zW]
                    refine aD [6,12] (aB.cons rfl (fun K hK=>?_) (aB.cons rfl (fun K hK=>?_) aB.nil))
                    · go_simp
                      refine (aU 3 _ T0.s.d.c.rebase (by decide) (by decide)).mono ?_
                      rintro e wm ⟨x6,rfl,JH,JG,hcn,hgn⟩
                      have T1:=T0.cur hcn.1 hgn
                      clear S0 T0 hcn hgn
                      go_wp2_with fail
                      refine hK.out _ _ trivial (fun _=>T1) ?_
                      clear hK K
                      have S0:=trivial
                      have T0:=T1
                      clear T1
                      try simp only [zW]
                      obtain ⟨wn,rfl⟩:∃z,z=wm:=⟨_,rfl⟩
                      refine aX 7 81 _ rfl rfl S0 T0 ?_
                      try simp only [zW]
                      refine aD [9,12] (aB.cons rfl (fun K hK=>?_) (aB.cons rfl (fun K hK=>?_) aB.nil))
                      · go_simp
                        refine (aU 4 _ T0.s.d.c.rebase (by decide) (by decide)).mono ?_
                        rintro e wm ⟨x9,rfl,KA,VU,hcn,hgn⟩
                        have T1:=T0.cur hcn.1 hgn
                        clear S0 T0 hcn hgn
                        go_wp2_with fail
                        refine hK.out _ _ trivial (fun _=>T1) ?_
                        clear hK K
                        have S0:=trivial
                        have T0:=T1
                        clear T1
                        try simp only [zW]
                        obtain ⟨wn,rfl⟩:∃z,z=wm:=⟨_,rfl⟩
                        refine aX 10 84 (.int .i64 (1+x9)) rfl rfl S0 T0 ?_ (hy:=Or.inl ⟨by rfl,fun wz hz=>by (go_simp;rw [IntKind.wrap_i64];omega)⟩)
                        try simp only [zW]
                        refine aD [12] (aB.cons rfl (fun K hK=>?_) aB.nil)
                        go_wp2_with fail
                        have PT:rC (wn.alloc (.cells #[.string ⟨#[]⟩,.string ⟨#[]⟩,.string ⟨#[109,49]⟩,.string ⟨#[109,50]⟩,.string ⟨#[122,122]⟩] 9)) wn.heap.size 5:=dK wn 9 [⟨#[]⟩,⟨#[]⟩,⟨#[109,49]⟩,⟨#[109,50]⟩,⟨#[122,122]⟩] (by decide)
                        have hqg:g<wn.heap.size:=T0.s.d.c.1.lt
                        have T1:=T0.al (.cells #[.string ⟨#[]⟩,.string ⟨#[]⟩,.string ⟨#[109,49]⟩,.string ⟨#[109,50]⟩,.string ⟨#[122,122]⟩] 9)
                        refine hK.out _ _ trivial (fun _=>T1) ?_
                        clear hK K T0
                        try simp only [zW]
                        generalize wn.alloc (.cells #[.string ⟨#[]⟩,.string ⟨#[]⟩,.string ⟨#[109,49]⟩,.string ⟨#[109,50]⟩,.string ⟨#[122,122]⟩] 9)=wm at PT T1 ⊢
                        generalize wn.heap.size=qq at PT hqg ⊢
                        have T0:=T1
                        clear T1
                        obtain ⟨wn,rfl⟩:∃z,z=wm:=⟨_,rfl⟩
                        refine aD [13] (aB.cons rfl (fun K hK=>?_) aB.nil)
                        go_simp
                        refine (iT qq 5 5 _ T0.s.d.c.rebase PT (by omega) (by decide) (by decide)).mono ?_
                        rintro e wm ⟨sq,rfl,QJ,hcm⟩
                        obtain ⟨ln,rfl⟩:∃l,sq=bs l:=⟨_,(aDv _).symm⟩
                        rw [dD] at QJ
                        have T1:=T0.cur hcm.1 hcm.2.2.1
                        clear S0 T0 hcm PT
                        go_wp2_with fail
                        refine hK.out _ _ trivial (fun _=>T1) ?_
                        clear hK K
                        have S0:=trivial
                        have T0:=T1
                        clear T1
                        try simp only [zW]
                        obtain ⟨wn,rfl⟩:∃z,z=wm:=⟨_,rfl⟩
                        refine aD [15] (aB.cons rfl (fun K hK=>?_) aB.nil)
                        go_simp
                        refine (aU 4 _ T0.s.d.c.rebase (by decide) (by decide)).mono ?_
                        rintro e wm ⟨x15,rfl,KD,KC,hcn,hgn⟩
                        have T1:=T0.cur hcn.1 hgn
                        clear S0 T0 hcn hgn
                        go_wp2_with fail
                        refine hK.out _ _ trivial (fun _=>T1) ?_
                        clear hK K
                        have S0:=trivial
                        have T0:=T1
                        clear T1
                        try simp only [zW]
                        obtain ⟨wn,rfl⟩:∃z,z=wm:=⟨_,rfl⟩
                        refine aX 16 90 (.agg #[.int .i64 (1+x3),.int .i64 x6,.int .i64 (1+x9),.string (bs ln),.int .i64 x15]) rfl rfl S0 T0 ?_ (hy:=Or.inl ⟨by rfl,fun wz hz=>by go_simp⟩)
                        try simp only [zW]
                        have hbn:=yA (yH _ wn) (.cells #[.int .i64 (1+x3),.int .i64 x6,.int .i64 (1+x9),.string (bs ln),.int .i64 x15] 104)
                        obtain ⟨g4,cp,w4,gq,HA⟩:=aLB (B:=E) T0.r T0.o T0.c (by omega) T0.s.e ⟨1+x3,x6,1+x9,ln,x15⟩
                        simp only at gq HA
                        have D3:=(T0.below hbn).app ⟨1+x3,x6,1+x9,ln,x15⟩ (uH HA)
                        have D4:=aA (D3.set 2 (.slice (some ⟨g4,0,none⟩) (j+1) cp))
                        have X3:=D3.x
                        refine aD [17] (aB.cons rfl (fun K hK=>eG 91 (by rfl) rfl (bI (mY wn 46 104 _ (.agg #[.int .i64 0,.int .i64 0,.int .i64 0,.string ByteArray.empty,.int .i64 0]) (.int .i64 (1+x3)) (.int .i64 x6) (.int .i64 (1+x9)) (.string (bs ln)) (.int .i64 x15) Tryz.underlying46 (by kernel_rfl) (by simp only [List.map_toArray,List.map_cons,List.map_nil];rfl))) ?_) aB.nil)
                        refine hK.out _ _ trivial (fun _=>T0.below hbn) ?_
                        clear hK K
                        try simp only [zW]
                        refine aD [18] (aB.cons rfl (fun K hK=>eG 92 (by rfl) rfl (eY rfl rfl rfl gq) ?_) aB.nil)
                        refine hK.out _ _ trivial (xno (by kernel_rfl)) ?_
                        clear hK K gq T0 D3 HA hbn
                        try simp only [zW]
                        refine gK _ _ _ _ (by kernel_rfl) ?_
                        refine bW 19 93 _ rfl rfl trivial ?_
                        try simp only [zW]
                        refine yRq 20 rfl (fun K hK=>fQ (by rfl) rfl (fC (dP 46 (.slice (some ⟨g4,0,none⟩) (j+1) cp) X3 (by show 2<3;decide) (by kernel_rfl) rfl)) ?_)
                        refine hK.out _ _ trivial (fun _=>?_)
                        clear hK K X3
                        try simp only [zW]
                        refine wpAnyH_done (by kernel_rfl) ?_ _
                        generalize w4.setCell ⟨ba,2,none⟩ (.slice (some ⟨g4,0,none⟩) (j+1) cp)=w5 at D4 ⊢
                        go_wp2
                        go_roundw
                        case rel=>exact ⟨j+1,ak++[⟨1+x3,x6,1+x9,ln,x15⟩],some ⟨g4,0,none⟩,cp,by omega,by go_num,aA (uH D4).x,aA (uH D4).s,aA ⟨(uH D4).r,(uH D4).o,(uH D4).c⟩,aA (fun z hz=>by rcases List.mem_append.1 hz with hz | hz;exact uH HN z hz;simp at hz;subst hz;exact QJ)⟩
                        case measure=>simp [intOf];omega
                      · go_wp2_with fail
                        have PT:rC (wn.alloc (.cells #[.string ⟨#[]⟩,.string ⟨#[]⟩,.string ⟨#[109,49]⟩,.string ⟨#[109,50]⟩,.string ⟨#[122,122]⟩] 9)) wn.heap.size 5:=dK wn 9 [⟨#[]⟩,⟨#[]⟩,⟨#[109,49]⟩,⟨#[109,50]⟩,⟨#[122,122]⟩] (by decide)
                        have hqg:g<wn.heap.size:=T0.s.d.c.1.lt
                        have T1:=T0.al (.cells #[.string ⟨#[]⟩,.string ⟨#[]⟩,.string ⟨#[109,49]⟩,.string ⟨#[109,50]⟩,.string ⟨#[122,122]⟩] 9)
                        refine hK.out _ _ trivial (fun _=>T1) ?_
                        clear hK K T0
                        try simp only [zW]
                        generalize wn.alloc (.cells #[.string ⟨#[]⟩,.string ⟨#[]⟩,.string ⟨#[109,49]⟩,.string ⟨#[109,50]⟩,.string ⟨#[122,122]⟩] 9)=wm at PT T1 ⊢
                        generalize wn.heap.size=qq at PT hqg ⊢
                        have T0:=T1
                        clear T1
                        obtain ⟨wn,rfl⟩:∃z,z=wm:=⟨_,rfl⟩
                        refine aD [9] (aB.cons rfl (fun K hK=>?_) aB.nil)
                        go_simp
                        refine (aU 4 _ T0.s.d.c.rebase (by decide) (by decide)).mono ?_
                        rintro e wm ⟨x9,rfl,KA,VU,hcn,hgn⟩
                        have PT:=PT.cur hgn (by omega)
                        have T1:=T0.cur hcn.1 hgn
                        clear S0 T0 hcn hgn
                        go_wp2_with fail
                        refine hK.out _ _ trivial (fun _=>T1) ?_
                        clear hK K
                        have S0:=trivial
                        have T0:=T1
                        clear T1
                        try simp only [zW]
                        obtain ⟨wn,rfl⟩:∃z,z=wm:=⟨_,rfl⟩
                        refine aX 10 84 (.int .i64 (1+x9)) rfl rfl S0 T0 ?_ (hy:=Or.inl ⟨by rfl,fun wz hz=>by (go_simp;rw [IntKind.wrap_i64];omega)⟩)
                        try simp only [zW]
                        refine aD [13] (aB.cons rfl (fun K hK=>?_) aB.nil)
                        go_simp
                        refine (iT qq 5 5 _ T0.s.d.c.rebase PT (by omega) (by decide) (by decide)).mono ?_
                        rintro e wm ⟨sq,rfl,QJ,hcm⟩
                        obtain ⟨ln,rfl⟩:∃l,sq=bs l:=⟨_,(aDv _).symm⟩
                        rw [dD] at QJ
                        have T1:=T0.cur hcm.1 hcm.2.2.1
                        clear S0 T0 hcm PT
                        go_wp2_with fail
                        refine hK.out _ _ trivial (fun _=>T1) ?_
                        clear hK K
                        have S0:=trivial
                        have T0:=T1
                        clear T1
                        try simp only [zW]
                        obtain ⟨wn,rfl⟩:∃z,z=wm:=⟨_,rfl⟩
                        refine aD [15] (aB.cons rfl (fun K hK=>?_) aB.nil)
                        go_simp
                        refine (aU 4 _ T0.s.d.c.rebase (by decide) (by decide)).mono ?_
                        rintro e wm ⟨x15,rfl,KD,KC,hcn,hgn⟩
                        have T1:=T0.cur hcn.1 hgn
                        clear S0 T0 hcn hgn
                        go_wp2_with fail
                        refine hK.out _ _ trivial (fun _=>T1) ?_
                        clear hK K
                        have S0:=trivial
                        have T0:=T1
                        clear T1
                        try simp only [zW]
                        obtain ⟨wn,rfl⟩:∃z,z=wm:=⟨_,rfl⟩
                        refine aX 16 90 (.agg #[.int .i64 (1+x3),.int .i64 x6,.int .i64 (1+x9),.string (bs ln),.int .i64 x15]) rfl rfl S0 T0 ?_ (hy:=Or.inl ⟨by rfl,fun wz hz=>by go_simp⟩)
                        try simp only [zW]
                        have hbn:=yA (yH _ wn) (.cells #[.int .i64 (1+x3),.int .i64 x6,.int .i64 (1+x9),.string (bs ln),.int .i64 x15] 104)
                        obtain ⟨g4,cp,w4,gq,HA⟩:=aLB (B:=E) T0.r T0.o T0.c (by omega) T0.s.e ⟨1+x3,x6,1+x9,ln,x15⟩
                        simp only at gq HA
                        have D3:=(T0.below hbn).app ⟨1+x3,x6,1+x9,ln,x15⟩ (uH HA)
                        have D4:=aA (D3.set 2 (.slice (some ⟨g4,0,none⟩) (j+1) cp))
                        have X3:=D3.x
                        refine aD [17] (aB.cons rfl (fun K hK=>eG 91 (by rfl) rfl (bI (mY wn 46 104 _ (.agg #[.int .i64 0,.int .i64 0,.int .i64 0,.string ByteArray.empty,.int .i64 0]) (.int .i64 (1+x3)) (.int .i64 x6) (.int .i64 (1+x9)) (.string (bs ln)) (.int .i64 x15) Tryz.underlying46 (by kernel_rfl) (by simp only [List.map_toArray,List.map_cons,List.map_nil];rfl))) ?_) aB.nil)
                        refine hK.out _ _ trivial (fun _=>T0.below hbn) ?_
                        clear hK K
                        try simp only [zW]
                        refine aD [18] (aB.cons rfl (fun K hK=>eG 92 (by rfl) rfl (eY rfl rfl rfl gq) ?_) aB.nil)
                        refine hK.out _ _ trivial (xno (by kernel_rfl)) ?_
                        clear hK K gq T0 D3 HA hbn
                        try simp only [zW]
                        refine gK _ _ _ _ (by kernel_rfl) ?_
                        refine bW 19 93 _ rfl rfl trivial ?_
                        try simp only [zW]
                        refine yRq 20 rfl (fun K hK=>fQ (by rfl) rfl (fC (dP 46 (.slice (some ⟨g4,0,none⟩) (j+1) cp) X3 (by show 2<3;decide) (by kernel_rfl) rfl)) ?_)
                        refine hK.out _ _ trivial (fun _=>?_)
                        clear hK K X3
                        try simp only [zW]
                        refine wpAnyH_done (by kernel_rfl) ?_ _
                        generalize w4.setCell ⟨ba,2,none⟩ (.slice (some ⟨g4,0,none⟩) (j+1) cp)=w5 at D4 ⊢
                        go_wp2
                        go_roundw
                        case rel=>exact ⟨j+1,ak++[⟨1+x3,x6,1+x9,ln,x15⟩],some ⟨g4,0,none⟩,cp,by omega,by go_num,aA (uH D4).x,aA (uH D4).s,aA ⟨(uH D4).r,(uH D4).o,(uH D4).c⟩,aA (fun z hz=>by rcases List.mem_append.1 hz with hz | hz;exact uH HN z hz;simp at hz;subst hz;exact QJ)⟩
                        case measure=>simp [intOf];omega
                    · go_wp2_with fail
                      have PT:rC (wn.alloc (.cells #[.string ⟨#[]⟩,.string ⟨#[]⟩,.string ⟨#[109,49]⟩,.string ⟨#[109,50]⟩,.string ⟨#[122,122]⟩] 9)) wn.heap.size 5:=dK wn 9 [⟨#[]⟩,⟨#[]⟩,⟨#[109,49]⟩,⟨#[109,50]⟩,⟨#[122,122]⟩] (by decide)
                      have hqg:g<wn.heap.size:=T0.s.d.c.1.lt
                      have T1:=T0.al (.cells #[.string ⟨#[]⟩,.string ⟨#[]⟩,.string ⟨#[109,49]⟩,.string ⟨#[109,50]⟩,.string ⟨#[122,122]⟩] 9)
                      refine hK.out _ _ trivial (fun _=>T1) ?_
                      clear hK K T0
                      try simp only [zW]
                      generalize wn.alloc (.cells #[.string ⟨#[]⟩,.string ⟨#[]⟩,.string ⟨#[109,49]⟩,.string ⟨#[109,50]⟩,.string ⟨#[122,122]⟩] 9)=wm at PT T1 ⊢
                      generalize wn.heap.size=qq at PT hqg ⊢
                      have T0:=T1
                      clear T1
                      obtain ⟨wn,rfl⟩:∃z,z=wm:=⟨_,rfl⟩
                      refine aD [6] (aB.cons rfl (fun K hK=>?_) aB.nil)
                      go_simp
                      refine (aU 3 _ T0.s.d.c.rebase (by decide) (by decide)).mono ?_
                      rintro e wm ⟨x6,rfl,JH,JG,hcn,hgn⟩
                      have PT:=PT.cur hgn (by omega)
                      have T1:=T0.cur hcn.1 hgn
                      clear S0 T0 hcn hgn
                      go_wp2_with fail
                      refine hK.out _ _ trivial (fun _=>T1) ?_
                      clear hK K
                      have S0:=trivial
                      have T0:=T1
                      clear T1
                      try simp only [zW]
                      obtain ⟨wn,rfl⟩:∃z,z=wm:=⟨_,rfl⟩
                      refine aX 7 81 _ rfl rfl S0 T0 ?_
                      try simp only [zW]
                      refine aD [9] (aB.cons rfl (fun K hK=>?_) aB.nil)
                      go_simp
                      refine (aU 4 _ T0.s.d.c.rebase (by decide) (by decide)).mono ?_
                      rintro e wm ⟨x9,rfl,KA,VU,hcn,hgn⟩
                      have PT:=PT.cur hgn (by omega)
                      have T1:=T0.cur hcn.1 hgn
                      clear S0 T0 hcn hgn
                      go_wp2_with fail
                      refine hK.out _ _ trivial (fun _=>T1) ?_
                      clear hK K
                      have S0:=trivial
                      have T0:=T1
                      clear T1
                      try simp only [zW]
                      obtain ⟨wn,rfl⟩:∃z,z=wm:=⟨_,rfl⟩
                      refine aX 10 84 (.int .i64 (1+x9)) rfl rfl S0 T0 ?_ (hy:=Or.inl ⟨by rfl,fun wz hz=>by (go_simp;rw [IntKind.wrap_i64];omega)⟩)
                      try simp only [zW]
                      refine aD [13] (aB.cons rfl (fun K hK=>?_) aB.nil)
                      go_simp
                      refine (iT qq 5 5 _ T0.s.d.c.rebase PT (by omega) (by decide) (by decide)).mono ?_
                      rintro e wm ⟨sq,rfl,QJ,hcm⟩
                      obtain ⟨ln,rfl⟩:∃l,sq=bs l:=⟨_,(aDv _).symm⟩
                      rw [dD] at QJ
                      have T1:=T0.cur hcm.1 hcm.2.2.1
                      clear S0 T0 hcm PT
                      go_wp2_with fail
                      refine hK.out _ _ trivial (fun _=>T1) ?_
                      clear hK K
                      have S0:=trivial
                      have T0:=T1
                      clear T1
                      try simp only [zW]
                      obtain ⟨wn,rfl⟩:∃z,z=wm:=⟨_,rfl⟩
                      refine aD [15] (aB.cons rfl (fun K hK=>?_) aB.nil)
                      go_simp
                      refine (aU 4 _ T0.s.d.c.rebase (by decide) (by decide)).mono ?_
                      rintro e wm ⟨x15,rfl,KD,KC,hcn,hgn⟩
                      have T1:=T0.cur hcn.1 hgn
                      clear S0 T0 hcn hgn
                      go_wp2_with fail
                      refine hK.out _ _ trivial (fun _=>T1) ?_
                      clear hK K
                      have S0:=trivial
                      have T0:=T1
                      clear T1
                      try simp only [zW]
                      obtain ⟨wn,rfl⟩:∃z,z=wm:=⟨_,rfl⟩
                      refine aX 16 90 (.agg #[.int .i64 (1+x3),.int .i64 x6,.int .i64 (1+x9),.string (bs ln),.int .i64 x15]) rfl rfl S0 T0 ?_ (hy:=Or.inl ⟨by rfl,fun wz hz=>by go_simp⟩)
                      try simp only [zW]
                      have hbn:=yA (yH _ wn) (.cells #[.int .i64 (1+x3),.int .i64 x6,.int .i64 (1+x9),.string (bs ln),.int .i64 x15] 104)
                      obtain ⟨g4,cp,w4,gq,HA⟩:=aLB (B:=E) T0.r T0.o T0.c (by omega) T0.s.e ⟨1+x3,x6,1+x9,ln,x15⟩
                      simp only at gq HA
                      have D3:=(T0.below hbn).app ⟨1+x3,x6,1+x9,ln,x15⟩ (uH HA)
                      have D4:=aA (D3.set 2 (.slice (some ⟨g4,0,none⟩) (j+1) cp))
                      have X3:=D3.x
                      refine aD [17] (aB.cons rfl (fun K hK=>eG 91 (by rfl) rfl (bI (mY wn 46 104 _ (.agg #[.int .i64 0,.int .i64 0,.int .i64 0,.string ByteArray.empty,.int .i64 0]) (.int .i64 (1+x3)) (.int .i64 x6) (.int .i64 (1+x9)) (.string (bs ln)) (.int .i64 x15) Tryz.underlying46 (by kernel_rfl) (by simp only [List.map_toArray,List.map_cons,List.map_nil];rfl))) ?_) aB.nil)
                      refine hK.out _ _ trivial (fun _=>T0.below hbn) ?_
                      clear hK K
                      try simp only [zW]
                      refine aD [18] (aB.cons rfl (fun K hK=>eG 92 (by rfl) rfl (eY rfl rfl rfl gq) ?_) aB.nil)
                      refine hK.out _ _ trivial (xno (by kernel_rfl)) ?_
                      clear hK K gq T0 D3 HA hbn
                      try simp only [zW]
                      refine gK _ _ _ _ (by kernel_rfl) ?_
                      refine bW 19 93 _ rfl rfl trivial ?_
                      try simp only [zW]
                      refine yRq 20 rfl (fun K hK=>fQ (by rfl) rfl (fC (dP 46 (.slice (some ⟨g4,0,none⟩) (j+1) cp) X3 (by show 2<3;decide) (by kernel_rfl) rfl)) ?_)
                      refine hK.out _ _ trivial (fun _=>?_)
                      clear hK K X3
                      try simp only [zW]
                      refine wpAnyH_done (by kernel_rfl) ?_ _
                      generalize w4.setCell ⟨ba,2,none⟩ (.slice (some ⟨g4,0,none⟩) (j+1) cp)=w5 at D4 ⊢
                      go_wp2
                      go_roundw
                      case rel=>exact ⟨j+1,ak++[⟨1+x3,x6,1+x9,ln,x15⟩],some ⟨g4,0,none⟩,cp,by omega,by go_num,aA (uH D4).x,aA (uH D4).s,aA ⟨(uH D4).r,(uH D4).o,(uH D4).c⟩,aA (fun z hz=>by rcases List.mem_append.1 hz with hz | hz;exact uH HN z hz;simp at hz;subst hz;exact QJ)⟩
                      case measure=>simp [intOf];omega
                  · go_wp2_with fail
                    have PT:rC (wn.alloc (.cells #[.string ⟨#[]⟩,.string ⟨#[]⟩,.string ⟨#[109,49]⟩,.string ⟨#[109,50]⟩,.string ⟨#[122,122]⟩] 9)) wn.heap.size 5:=dK wn 9 [⟨#[]⟩,⟨#[]⟩,⟨#[109,49]⟩,⟨#[109,50]⟩,⟨#[122,122]⟩] (by decide)
                    have hqg:g<wn.heap.size:=T0.s.d.c.1.lt
                    have T1:=T0.al (.cells #[.string ⟨#[]⟩,.string ⟨#[]⟩,.string ⟨#[109,49]⟩,.string ⟨#[109,50]⟩,.string ⟨#[122,122]⟩] 9)
                    refine hK.out _ _ trivial (fun _=>T1) ?_
                    clear hK K T0
                    try simp only [zW]
                    generalize wn.alloc (.cells #[.string ⟨#[]⟩,.string ⟨#[]⟩,.string ⟨#[109,49]⟩,.string ⟨#[109,50]⟩,.string ⟨#[122,122]⟩] 9)=wm at PT T1 ⊢
                    generalize wn.heap.size=qq at PT hqg ⊢
                    have T0:=T1
                    clear T1
                    obtain ⟨wn,rfl⟩:∃z,z=wm:=⟨_,rfl⟩
                    refine aD [3] (aB.cons rfl (fun K hK=>?_) aB.nil)
                    go_simp
                    refine (aU 6 _ T0.s.d.c.rebase (by decide) (by decide)).mono ?_
                    rintro e wm ⟨x3,rfl,JJ,JI,hcn,hgn⟩
                    have PT:=PT.cur hgn (by omega)
                    have T1:=T0.cur hcn.1 hgn
                    clear S0 T0 hcn hgn
                    go_wp2_with fail
                    refine hK.out _ _ trivial (fun _=>T1) ?_
                    clear hK K
                    have S0:=trivial
                    have T0:=T1
                    clear T1
                    try simp only [zW]
                    obtain ⟨wn,rfl⟩:∃z,z=wm:=⟨_,rfl⟩
                    refine aX 4 78 (.int .i64 (1+x3)) rfl rfl S0 T0 ?_ (hy:=Or.inl ⟨by rfl,fun wz hz=>by (go_simp;rw [IntKind.wrap_i64];omega)⟩)
                    try simp only [zW]
                    refine aD [6] (aB.cons rfl (fun K hK=>?_) aB.nil)
                    go_simp
                    refine (aU 3 _ T0.s.d.c.rebase (by decide) (by decide)).mono ?_
                    rintro e wm ⟨x6,rfl,JH,JG,hcn,hgn⟩
                    have PT:=PT.cur hgn (by omega)
                    have T1:=T0.cur hcn.1 hgn
                    clear S0 T0 hcn hgn
                    go_wp2_with fail
                    refine hK.out _ _ trivial (fun _=>T1) ?_
                    clear hK K
                    have S0:=trivial
                    have T0:=T1
                    clear T1
                    try simp only [zW]
                    obtain ⟨wn,rfl⟩:∃z,z=wm:=⟨_,rfl⟩
                    refine aX 7 81 _ rfl rfl S0 T0 ?_
                    try simp only [zW]
                    refine aD [9] (aB.cons rfl (fun K hK=>?_) aB.nil)
                    go_simp
                    refine (aU 4 _ T0.s.d.c.rebase (by decide) (by decide)).mono ?_
                    rintro e wm ⟨x9,rfl,KA,VU,hcn,hgn⟩
                    have PT:=PT.cur hgn (by omega)
                    have T1:=T0.cur hcn.1 hgn
                    clear S0 T0 hcn hgn
                    go_wp2_with fail
                    refine hK.out _ _ trivial (fun _=>T1) ?_
                    clear hK K
                    have S0:=trivial
                    have T0:=T1
                    clear T1
                    try simp only [zW]
                    obtain ⟨wn,rfl⟩:∃z,z=wm:=⟨_,rfl⟩
                    refine aX 10 84 (.int .i64 (1+x9)) rfl rfl S0 T0 ?_ (hy:=Or.inl ⟨by rfl,fun wz hz=>by (go_simp;rw [IntKind.wrap_i64];omega)⟩)
                    try simp only [zW]
                    refine aD [13] (aB.cons rfl (fun K hK=>?_) aB.nil)
                    go_simp
                    refine (iT qq 5 5 _ T0.s.d.c.rebase PT (by omega) (by decide) (by decide)).mono ?_
                    rintro e wm ⟨sq,rfl,QJ,hcm⟩
                    obtain ⟨ln,rfl⟩:∃l,sq=bs l:=⟨_,(aDv _).symm⟩
                    rw [dD] at QJ
                    have T1:=T0.cur hcm.1 hcm.2.2.1
                    clear S0 T0 hcm PT
                    go_wp2_with fail
                    refine hK.out _ _ trivial (fun _=>T1) ?_
                    clear hK K
                    have S0:=trivial
                    have T0:=T1
                    clear T1
                    try simp only [zW]
                    obtain ⟨wn,rfl⟩:∃z,z=wm:=⟨_,rfl⟩
                    refine aD [15] (aB.cons rfl (fun K hK=>?_) aB.nil)
                    go_simp
                    refine (aU 4 _ T0.s.d.c.rebase (by decide) (by decide)).mono ?_
                    rintro e wm ⟨x15,rfl,KD,KC,hcn,hgn⟩
                    have T1:=T0.cur hcn.1 hgn
                    clear S0 T0 hcn hgn
                    go_wp2_with fail
                    refine hK.out _ _ trivial (fun _=>T1) ?_
                    clear hK K
                    have S0:=trivial
                    have T0:=T1
                    clear T1
                    try simp only [zW]
                    obtain ⟨wn,rfl⟩:∃z,z=wm:=⟨_,rfl⟩
                    refine aX 16 90 (.agg #[.int .i64 (1+x3),.int .i64 x6,.int .i64 (1+x9),.string (bs ln),.int .i64 x15]) rfl rfl S0 T0 ?_ (hy:=Or.inl ⟨by rfl,fun wz hz=>by go_simp⟩)
                    try simp only [zW]
                    have hbn:=yA (yH _ wn) (.cells #[.int .i64 (1+x3),.int .i64 x6,.int .i64 (1+x9),.string (bs ln),.int .i64 x15] 104)
                    obtain ⟨g4,cp,w4,gq,HA⟩:=aLB (B:=E) T0.r T0.o T0.c (by omega) T0.s.e ⟨1+x3,x6,1+x9,ln,x15⟩
                    simp only at gq HA
                    have D3:=(T0.below hbn).app ⟨1+x3,x6,1+x9,ln,x15⟩ (uH HA)
                    have D4:=aA (D3.set 2 (.slice (some ⟨g4,0,none⟩) (j+1) cp))
                    have X3:=D3.x
                    refine aD [17] (aB.cons rfl (fun K hK=>eG 91 (by rfl) rfl (bI (mY wn 46 104 _ (.agg #[.int .i64 0,.int .i64 0,.int .i64 0,.string ByteArray.empty,.int .i64 0]) (.int .i64 (1+x3)) (.int .i64 x6) (.int .i64 (1+x9)) (.string (bs ln)) (.int .i64 x15) Tryz.underlying46 (by kernel_rfl) (by simp only [List.map_toArray,List.map_cons,List.map_nil];rfl))) ?_) aB.nil)
                    refine hK.out _ _ trivial (fun _=>T0.below hbn) ?_
                    clear hK K
                    try simp only [zW]
                    refine aD [18] (aB.cons rfl (fun K hK=>eG 92 (by rfl) rfl (eY rfl rfl rfl gq) ?_) aB.nil)
                    refine hK.out _ _ trivial (xno (by kernel_rfl)) ?_
                    clear hK K gq T0 D3 HA hbn
                    try simp only [zW]
                    refine gK _ _ _ _ (by kernel_rfl) ?_
                    refine bW 19 93 _ rfl rfl trivial ?_
                    try simp only [zW]
                    refine yRq 20 rfl (fun K hK=>fQ (by rfl) rfl (fC (dP 46 (.slice (some ⟨g4,0,none⟩) (j+1) cp) X3 (by show 2<3;decide) (by kernel_rfl) rfl)) ?_)
                    refine hK.out _ _ trivial (fun _=>?_)
                    clear hK K X3
                    try simp only [zW]
                    refine wpAnyH_done (by kernel_rfl) ?_ _
                    generalize w4.setCell ⟨ba,2,none⟩ (.slice (some ⟨g4,0,none⟩) (j+1) cp)=w5 at D4 ⊢
                    go_wp2
                    go_roundw
                    case rel=>exact ⟨j+1,ak++[⟨1+x3,x6,1+x9,ln,x15⟩],some ⟨g4,0,none⟩,cp,by omega,by go_num,aA (uH D4).x,aA (uH D4).s,aA ⟨(uH D4).r,(uH D4).o,(uH D4).c⟩,aA (fun z hz=>by rcases List.mem_append.1 hz with hz | hz;exact uH HN z hz;simp at hz;subst hz;exact QJ)⟩
                    case measure=>simp [intOf];omega
                · obtain rfl:nj=j:=by omega
                  have j2:¬(nj:Int)<nj:=by omega
                  have Z8:=aA (show y.al≤1000 by have:=(uH HD).a.av.1;have h1:=(uH HD).a.heads.1;have h2:=(uH HS).al;omega)
                  have Mj:=aA (uH HA).1.1
                  clear hlt
                  go_upto_region 20 with fail
                  have X0:=(uH HD).d.x
                  have hbn:=yA (yH _ wr) (.cells #[.int .i64 s.next,.string (bs lz),.slice ko nj kc] 48)
                  obtain ⟨g4,cp,w4,gq,HR⟩:=aL7 (B:=w.heap.size) (uH HD).a.av ((uH HD).a.rm.2.1.mono (yJ _) (uH HD).e) (uH HD).a.cap.a (uH Z8) (uH HD).d.c.2.2.1.size ⟨s.next,lz,ko,nj,kc⟩
                  simp only at gq HR
                  have H3:=dQ.addA ((uH HD).a.below hbn) (Nat.le_trans (uH HD).e hbn.size) hEl s.next (s.next+1) lz ko ak (uH Mj) (uH HA).2.2 ((uH HA).1.below hbn) ((uH HA).2.1.grow hbn (yJ _)) (uH HR)
                  have D3:=((uH HD).d.below hbn).mks (uH HR).mks (fun k ⟨N,hc,hB⟩=>⟨hB,_,N,hc,by decide,by decide⟩)
                  have D4:=aA (D3.set 5 (.slice (some ⟨g4,0,none⟩) (y.al+1) cp))
                  have H4:=aA (D3.setH 5 (.slice (some ⟨g4,0,none⟩) (y.al+1) cp) H3)
                  have D5:=aA ((uH D4).set 3 (.int .i64 (s.next+1)))
                  have H5:=aA ((uH D4).setH 3 (.int .i64 (s.next+1)) (uH H4))
                  have hnx : -1000≤s.next∧s.next≤100000:=by have:=(uH HS).nx;omega
                  have S5:=aA ((uH HS).addA ⟨s.next,lz,ak⟩ (s.next+1) (by omega) hlz (by have:=uH Mj;show ak.length≤3;omega) (uH HN) rfl rfl)
                  refine wp_region_lit ?_
                  refine aC (v:=.pointer (some ⟨b,5,none⟩)) (d:=some 94) rfl rfl (by go_simp) ?_
                  try simp only [zW]
                  refine aC (v:=.slice y.aa y.al y.ac) (d:=some 95) rfl rfl (by (have c5:=X0.at 5;simp at c5;go_simp)) ?_
                  try simp only [zW]
                  refine aC (v:=.agg #[.int .i64 s.next,.string (bs lz),.slice ko nj kc]) (d:=some 96) rfl rfl (bI (aIu (uH HB) rfl)) ?_
                  try simp only [zW]
                  refine eH (v:=.slice (some ⟨wr.heap.size,0,none⟩) 1 1) (d:=some 97) rfl rfl (bI (aJ7 wr 25 48 _ (.agg #[.int .i64 0,.string ByteArray.empty,.slice none 0 0]) (.int .i64 s.next) (.string (bs lz)) (.slice ko nj kc) Tryz.underlying25 (by kernel_rfl) (by simp only [List.map_toArray,List.map_cons,List.map_nil];rfl))) ?_
                  try simp only [zW]
                  refine eH (v:=.slice (some ⟨g4,0,none⟩) (y.al+1) cp) (d:=some 98) rfl rfl (eY rfl rfl rfl gq) ?_
                  try simp only [zW]
                  refine aC (v:=.pointer (some ⟨b,5,none⟩)) (d:=some 99) rfl rfl (by go_simp) ?_
                  try simp only [zW]
                  refine bM (d:=none) rfl rfl (fC (dP 25 (.slice (some ⟨g4,0,none⟩) (y.al+1) cp) D3.x (by show 5<8;decide) (by kernel_rfl) rfl)) ?_
                  try simp only [Act.put]
                  clear gq H3 D3 HR hbn X0
                  go_upto_region 21 with fail
                  generalize w4.setCell ⟨b,5,none⟩ (.slice (some ⟨g4,0,none⟩) (y.al+1) cp)=w5 at D4 H4 D5 H5 ⊢
                  refine wp_region_lit ?_
                  refine aC (v:=.pointer (some ⟨b,3,none⟩)) (d:=some 100) rfl rfl (by go_simp) ?_
                  try simp only [zW]
                  refine aC (v:=.int .i64 s.next) (d:=some 101) rfl rfl (by (have c3:=(uH D4).x.at 3;simp at c3;go_simp)) ?_
                  try simp only [zW]
                  refine aC (v:=.int .i64 (s.next+1)) (d:=some 102) rfl rfl (by (go_simp;rw [IntKind.wrap_i64];omega)) ?_
                  try simp only [zW]
                  refine aC (v:=.pointer (some ⟨b,3,none⟩)) (d:=some 103) rfl rfl (by go_simp) ?_
                  try simp only [zW]
                  refine bM (d:=none) rfl rfl (fC (dP 3 (.int .i64 (s.next+1)) (uH D4).x (by show 3<8;decide) (by kernel_rfl) rfl)) ?_
                  try simp only [Act.put]
                  generalize w5.setCell ⟨b,3,none⟩ (.int .i64 (s.next+1))=w6 at D5 H5 ⊢
                  clear D4 H4 HB HD HA HN
                  go_wp2
                  go_roundw
                  case rel=>exact ⟨k+1,⟨y.qa,y.ql,y.qc,some ⟨g4,0,none⟩,y.al+1,cp,y.ma,y.ml,y.mc,y.ca,y.cl,y.cc⟩,⟨s.qs,s.clock,s.epoch,s.next+1,s.serial,s.apps++[⟨s.next,lz,ak⟩],s.ms,s.cs⟩,hs++[⟨s.next,lz,ko,nj,kc⟩],by omega,by go_num,D5,H5,S5⟩
                  case measure=>simp [intOf];omega
        · have k2:¬(k:Int)<nk:=by omega
          obtain rfl:nk=k:=by omega
          clear hlt
          go_wp2_with fail
          refine (aU 7 _ (uH HD).c (by decide) (by decide)).mono ?_
          rintro e w8 ⟨nc,rfl,hn0,hn1,hc8,Y8⟩
          have D8:=aA ((uH HD).cur hc8 Y8)
          have H8:=aA ((uH HD).off hc8 Y8 (uH HH))
          have S8:=aA ((uH HS).mono hnk (yJ 3) (yJ 0))
          obtain ⟨nc,rfl⟩:=Int.eq_ofNat_of_zero_le hn0
          have hnc:nc≤6:=by omega
          clear HD HH HS hc8 Y8 hn0 hn1 k2 hk
          go_wp2
          go_loopw [14] (fun i wr=>∃(k:Nat) (y:Sls) (s:St) (hs:List AV),k≤nc∧i=.int .i64 k∧Hid (DSt w B g ao len cap b q (svc y s) wr)∧Hid (dQ w.heap.size wr y s hs)∧Hid (SmS s 4 3 k)) (fun i _=>nc - (intOf i).toNat)
          case atStart=>exact ⟨0,y,s,hs,Nat.zero_le _,rfl,D8,H8,S8⟩
          case round=>
            clear D8 H8 S8
            obtain ⟨k,y,s,hs,hk,rfl,HD,HH,HS⟩:=hrel
            by_cases hgo:k<nc∧0<nm∧0<nk
            · obtain ⟨hlt,hm0,hk0⟩:=hgo
              have k2:(k:Int)<nc:=by omega
              have m2:(0:Int)<nm:=by omega
              have q2:(0:Int)<nk:=by omega
              obtain ⟨E,hE⟩:∃E,wr.heap.size=E:=⟨_,rfl⟩
              have DS0:=aA (show DS w B g ao len cap b q (svc y s) E y s hs wr by rw [←hE];exact DS.new (uH HD) (uH HH))
              have hEl:w.heap.size≤E:=(uH DS0).l
              clear HD HH hE
              go_upto_region 26 with fail
              go_cut [15] from 119 to 137 (fun v15 wx=>∃(bx:Nat) (cc:Con),v15=.pointer (some ⟨bx,0,none⟩)∧Hid (Blk wx bx #[.int .i64 cc.id,.int .i64 cc.app,.string (bs cc.node),.int .i64 cc.mem,.int .i64 cc.cpu] 52)∧E≤bx∧cc.node.length≤12∧(0≤cc.app∧cc.app≤100000)∧Hid (DS w B g ao len cap b q (svc y s) E y s hs wx))
              case first=>
                refine wp_region_held_drew (S:=fun wx=>DS w B g ao len cap b q (svc y s) E y s hs wx) (by kernel_rfl) (uH DS0).drew (fun S0=>?_)
                generalize wr.drew=wn at S0 ⊢
                refine tW 0 119 _ S0 ?_
                simp only [zW]
                refine bW 1 120 (.int .i64 s.serial) rfl rfl S0 ?_ (hy:=Or.inl ⟨by rfl,fun wz hz=>by (have c4:=(DS.d hz).x.at 4;simp at c4;go_simp)⟩)
                try simp only [zW]
                refine tW 2 121 _ S0 ?_
                simp only [zW]
                refine tW 3 122 _ S0 ?_
                simp only [zW]
                refine tW 6 125 _ S0 ?_
                simp only [zW]
                refine tW 7 126 _ S0 ?_
                simp only [zW]
                refine tW 8 127 _ S0 ?_
                simp only [zW]
                refine tW 12 131 _ S0 ?_
                simp only [zW]
                refine tW 15 134 _ S0 ?_
                simp only [zW]
                refine ySq 4 19 rfl rfl (fun K hK=>?_) (fun K hK=>eG 15 (by rfl) rfl (bI (bS _ 52 #[.int .i64 0,.int .i64 0,.string ⟨#[]⟩,.int .i64 0,.int .i64 0] (by kernel_rfl))) ?_)
                rotate_left
                have BA:=yD wn #[.int .i64 0,.int .i64 0,.string ⟨#[]⟩,.int .i64 0,.int .i64 0] 52
                have GG:E≤wn.heap.size:=S0.e
                refine hK.out _ _ (S0.al _) (fun S1=>?_)
                clear hK K S0
                try simp only [zW]
                generalize wn.alloc (.cells #[.int .i64 0,.int .i64 0,.string ⟨#[]⟩,.int .i64 0,.int .i64 0] 52)=wm at BA S1 ⊢
                generalize wn.heap.size=ba at BA GG ⊢
                have S0:=S1
                clear S1
                obtain ⟨wn,rfl⟩:∃z,z=wm:=⟨_,rfl⟩
                refine yRq 4 rfl (fun K hK=>?_)
                rotate_left
                all_goals
                  go_simp
                  refine (aU (nk:Int) _ S0.d.c.rebase (by omega) (by omega)).mono ?_
                  rintro e wm ⟨x4,rfl,hx4a,hx4b,hcm,hgm⟩
                  try replace BA:=(dW S0.d.c.1 hcm.1 hgm).blk BA (by omega)
                  have S1:=S0.cur hcm.1 hgm
                  clear S0 hcm hgm
                  go_wp2_with fail
                  refine hK.out _ _ S1 (fun S0=>?_)
                  clear hK K S1
                  try simp only [zW]
                  obtain ⟨wn,rfl⟩:∃z,z=wm:=⟨_,rfl⟩
                  refine bW 5 124 (.int .i64 (1001+x4)) rfl rfl S0 ?_ (hy:=Or.inl ⟨by rfl,fun wz hz=>by (go_simp;rw [IntKind.wrap_i64];omega)⟩)
                  try simp only [zW]
                all_goals first
                  | (have hyp:=BA
                     clear hyp
                     refine yRq 9 rfl (fun K hK=>?_))
                  | (refine ySq 9 19 rfl rfl (fun K hK=>?_) (fun K hK=>eG 15 (by rfl) rfl (bI (bS _ 52 #[.int .i64 0,.int .i64 0,.string ⟨#[]⟩,.int .i64 0,.int .i64 0] (by kernel_rfl))) ?_)
                     rotate_left
                     have BA:=yD wn #[.int .i64 0,.int .i64 0,.string ⟨#[]⟩,.int .i64 0,.int .i64 0] 52
                     have GG:E≤wn.heap.size:=S0.e
                     refine hK.out _ _ (S0.al _) (fun S1=>?_)
                     clear hK K S0
                     try simp only [zW]
                     generalize wn.alloc (.cells #[.int .i64 0,.int .i64 0,.string ⟨#[]⟩,.int .i64 0,.int .i64 0] 52)=wm at BA S1 ⊢
                     generalize wn.heap.size=ba at BA GG ⊢
                     have S0:=S1
                     clear S1
                     obtain ⟨wn,rfl⟩:∃z,z=wm:=⟨_,rfl⟩
                     refine yRq 9 rfl (fun K hK=>?_)
                     rotate_left)
                all_goals
                  go_simp
                  refine (aU (nm:Int) _ S0.d.c.rebase (by omega) (by omega)).mono ?_
                  rintro e wm ⟨x9,rfl,KA,VU,hcm,hgm⟩
                  try replace BA:=(dW S0.d.c.1 hcm.1 hgm).blk BA (by omega)
                  have S1:=S0.cur hcm.1 hgm
                  clear S0 hcm hgm
                  go_wp2_with fail
                  refine hK.out _ _ S1 (fun S0=>?_)
                  clear hK K S1
                  try simp only [zW]
                  obtain ⟨wn,rfl⟩:∃z,z=wm:=⟨_,rfl⟩
                  obtain ⟨m9,rfl⟩:=Int.eq_ofNat_of_zero_le KA
                  obtain ⟨na,hna,hat⟩:=aEb m9 (by omega)
                  have i0:(0:Int)≤m9:=by omega
                  have i1:(m9:Int)<3:=by omega
                  refine tW 10 129 _ S0 ?_
                  simp only [zW]
                  refine bW 11 130 (.string (bs na)) rfl rfl S0 ?_ (hy:=Or.inl ⟨by rfl,fun wz hz=>by (have ck:=(DS.d hz).n.at m9;rw [hat] at ck;go_simp)⟩)
                  try simp only [zW]
                all_goals first
                  | (have hyp:=BA
                     clear hyp
                     refine yRq 13 rfl (fun K hK=>?_))
                  | (refine ySq 13 19 rfl rfl (fun K hK=>?_) (fun K hK=>eG 15 (by rfl) rfl (bI (bS _ 52 #[.int .i64 0,.int .i64 0,.string ⟨#[]⟩,.int .i64 0,.int .i64 0] (by kernel_rfl))) ?_)
                     rotate_left
                     have BA:=yD wn #[.int .i64 0,.int .i64 0,.string ⟨#[]⟩,.int .i64 0,.int .i64 0] 52
                     have GG:E≤wn.heap.size:=S0.e
                     refine hK.out _ _ (S0.al _) (fun S1=>?_)
                     clear hK K S0
                     try simp only [zW]
                     generalize wn.alloc (.cells #[.int .i64 0,.int .i64 0,.string ⟨#[]⟩,.int .i64 0,.int .i64 0] 52)=wm at BA S1 ⊢
                     generalize wn.heap.size=ba at BA GG ⊢
                     have S0:=S1
                     clear S1
                     obtain ⟨wn,rfl⟩:∃z,z=wm:=⟨_,rfl⟩
                     refine yRq 13 rfl (fun K hK=>?_)
                     rotate_left)
                all_goals
                  go_simp
                  refine (aU 6 _ S0.d.c.rebase (by omega) (by omega)).mono ?_
                  rintro e wm ⟨x13,rfl,SY,SX,hcm,hgm⟩
                  try replace BA:=(dW S0.d.c.1 hcm.1 hgm).blk BA (by omega)
                  have S1:=S0.cur hcm.1 hgm
                  clear S0 hcm hgm
                  go_wp2_with fail
                  refine hK.out _ _ S1 (fun S0=>?_)
                  clear hK K S1
                  try simp only [zW]
                  obtain ⟨wn,rfl⟩:∃z,z=wm:=⟨_,rfl⟩
                  refine bW 14 133 (.int .i64 (1+x13)) rfl rfl S0 ?_ (hy:=Or.inl ⟨by rfl,fun wz hz=>by (go_simp;rw [IntKind.wrap_i64];omega)⟩)
                  try simp only [zW]
                all_goals first
                  | (have hyp:=BA
                     clear hyp
                     refine yRq 16 rfl (fun K hK=>?_))
                  | (refine ySq 16 19 rfl rfl (fun K hK=>?_) (fun K hK=>eG 15 (by rfl) rfl (bI (bS _ 52 #[.int .i64 0,.int .i64 0,.string ⟨#[]⟩,.int .i64 0,.int .i64 0] (by kernel_rfl))) ?_)
                     rotate_left
                     have BA:=yD wn #[.int .i64 0,.int .i64 0,.string ⟨#[]⟩,.int .i64 0,.int .i64 0] 52
                     have GG:E≤wn.heap.size:=S0.e
                     refine hK.out _ _ (S0.al _) (fun S1=>?_)
                     clear hK K S0
                     try simp only [zW]
                     generalize wn.alloc (.cells #[.int .i64 0,.int .i64 0,.string ⟨#[]⟩,.int .i64 0,.int .i64 0] 52)=wm at BA S1 ⊢
                     generalize wn.heap.size=ba at BA GG ⊢
                     have S0:=S1
                     clear S1
                     obtain ⟨wn,rfl⟩:∃z,z=wm:=⟨_,rfl⟩
                     refine yRq 16 rfl (fun K hK=>?_)
                     rotate_left)
                all_goals
                  go_simp
                  refine (aU 3 _ S0.d.c.rebase (by omega) (by omega)).mono ?_
                  rintro e wm ⟨x16,rfl,SN,SL,hcm,hgm⟩
                  try replace BA:=(dW S0.d.c.1 hcm.1 hgm).blk BA (by omega)
                  have S1:=S0.cur hcm.1 hgm
                  clear S0 hcm hgm
                  go_wp2_with fail
                  refine hK.out _ _ S1 (fun S0=>?_)
                  clear hK K S1
                  try simp only [zW]
                  obtain ⟨wn,rfl⟩:∃z,z=wm:=⟨_,rfl⟩
                  refine tW 17 136 _ S0 ?_
                  simp only [zW]
                  refine bW 18 137 (.agg #[.int .i64 s.serial,.int .i64 (1001+x4),.string (bs na),.int .i64 (1+x13),.int .i64 x16]) rfl rfl S0 ?_ (hy:=Or.inl ⟨by rfl,fun wz hz=>by go_simp⟩)
                  try simp only [zW]
                all_goals first
                  | (have hyp:=BA
                     clear hyp
                     skip)
                  | (refine yRq 19 rfl (fun K hK=>eG 15 (by rfl) rfl (bI (bS _ 52 #[.int .i64 0,.int .i64 0,.string ⟨#[]⟩,.int .i64 0,.int .i64 0] (by kernel_rfl))) ?_)
                     have BA:=yD wn #[.int .i64 0,.int .i64 0,.string ⟨#[]⟩,.int .i64 0,.int .i64 0] 52
                     have GG:E≤wn.heap.size:=S0.e
                     refine hK.out _ _ (S0.al _) (fun S1=>?_)
                     clear hK K S0
                     try simp only [zW]
                     generalize wn.alloc (.cells #[.int .i64 0,.int .i64 0,.string ⟨#[]⟩,.int .i64 0,.int .i64 0] 52)=wm at BA S1 ⊢
                     generalize wn.heap.size=ba at BA GG ⊢
                     have S0:=S1
                     clear S1
                     obtain ⟨wn,rfl⟩:∃z,z=wm:=⟨_,rfl⟩)
                all_goals
                  as_aux_lemma=>
                    refine yRq 20 rfl (fun K hK=>fQ (by rfl) rfl (fC (bP 52 (arr:=#[.int .i64 s.serial,.int .i64 (1001+x4),.string (bs na),.int .i64 (1+x13),.int .i64 x16]) BA (by kernel_rfl) rfl (by kernel_rfl))) ?_)
                    have B2:=jT BA #[.int .i64 s.serial,.int .i64 (1001+x4),.string (bs na),.int .i64 (1+x13),.int .i64 x16]
                    refine hK.out _ _ (S0.out (iV BA #[.int .i64 s.serial,.int .i64 (1001+x4),.string (bs na),.int .i64 (1+x13),.int .i64 x16] rfl) (fun k e=>by subst e;exact ⟨GG,_,_,⟨_,BA,rfl⟩,by decide,by decide⟩)) (fun S1=>?_)
                    clear hK K S0 BA
                    try simp only [zW]
                    refine wpAnyH_done (by kernel_rfl) ?_ _
                    go_wp2_with fail
                    go_meet
                    exact ⟨ba,⟨s.serial,1001+x4,na,1+x13,x16⟩,rfl,aA B2,GG,by show na.length≤12;omega,by show 0≤1001+x4∧1001+x4≤100000;omega,aA S1⟩
              case rest=>
                obtain ⟨bx,⟨ci,ca,cn,cm,cp⟩,rfl,FM,hbx,hcn,ZZ,kv⟩:=hcut
                simp only at FM hcn ZZ
                clear DS0
                have Xk:=aA ((uH HS).fit (by decide) (by decide) (by omega))
                go_upto_region 27 with fail
                refine wp_region_held_drew (S:=fun wx=>DS w B g ao len cap b q (svc y s) E y s hs wx∧Blk wx bx #[.int .i64 ci,.int .i64 ca,.string (bs cn),.int .i64 cm,.int .i64 cp] 52) (by kernel_rfl) ⟨(uH kv).drew,(uH FM).drew⟩ (fun S0=>?_)
                generalize wc.drew=wn at S0 ⊢
                refine tW 0 138 _ S0 ?_
                simp only [zW]
                refine bW 1 139 (.agg #[.int .i64 cm,.int .i64 cp]) rfl rfl S0 ?_ (hy:=Or.inl ⟨by rfl,fun wz hz=>by (have c3:=hz.2.at 3;have c4:=hz.2.at 4;simp at c3 c4;go_simp)⟩)
                try simp only [zW]
                refine bW 2 140 (sv y s) rfl rfl S0 ?_ (hy:=Or.inl ⟨by rfl,fun wz hz=>bI (bF (DS.d hz.1).x rfl)⟩)
                try simp only [zW]
                refine tW 3 141 _ S0 ?_
                simp only [zW]
                refine bW 4 142 (.string (bs cn)) rfl rfl S0 ?_ (hy:=Or.inl ⟨by rfl,fun wz hz=>by (have c2:=hz.2.at 2;simp at c2;go_simp)⟩)
                try simp only [zW]
                refine yRq 5 rfl (fun K hK=>?_)
                go_simp
                refine (oN y s cn _ S0.1.a.row (uH Xk)).mono ?_
                rintro e wm ⟨rfl,QM⟩
                have S1:=And.intro (S0.1.below QM) (S0.2.below QM)
                clear S0 QM
                go_wp2_with fail
                refine hK.out _ _ S1 (fun S0=>?_)
                clear hK K S1
                try simp only [zW]
                obtain ⟨wn,rfl⟩:∃z,z=wm:=⟨_,rfl⟩
                generalize sI s cn=fr
                obtain ⟨fx,fy⟩:=fr
                refine yRq 6 rfl (fun K hK=>?_)
                go_simp
                refine (eD cm cp fx fy _).mono ?_
                rintro e wm ⟨rfl,QM⟩
                have S1:=And.intro (S0.1.below QM) (S0.2.below QM)
                clear S0 QM
                go_wp2_with fail
                refine hK.out _ _ S1 (fun S0=>?_)
                clear hK K S1
                try simp only [zW]
                obtain ⟨wn,rfl⟩:∃z,z=wm:=⟨_,rfl⟩
                refine wpAnyH_done (by kernel_rfl) ?_ _
                generalize within cm cp fx fy=aB4
                have HD:=aA S0.1
                have HX:=aA S0.2
                clear S0 kv FM Xk
                have hse : -1000≤s.serial∧s.serial≤100000:=by have:=(uH HS).se;omega
                cases aB4
                · have D3:=aA (uH HD).d
                  have H3:=aA ((uH HD).a.has (uH HD).e)
                  have S3:=aA ((uH HS).next s.cs (by have:=(uH HS).cl;omega) (uH HS).cn)
                  clear HD HX
                  go_upto_region 29 with fail
                  have D5:=aA ((uH D3).set 4 (.int .i64 (s.serial+1)))
                  have H5:=aA ((uH D3).setH 4 (.int .i64 (s.serial+1)) (uH H3))
                  refine wp_region_lit ?_
                  refine aC (v:=.pointer (some ⟨b,4,none⟩)) (d:=some 151) rfl rfl (by go_simp) ?_
                  try simp only [zW]
                  refine aC (v:=.int .i64 s.serial) (d:=some 152) rfl rfl (by (have c4:=(uH D3).x.at 4;simp at c4;go_simp)) ?_
                  try simp only [zW]
                  refine aC (v:=.int .i64 (s.serial+1)) (d:=some 153) rfl rfl (by (go_simp;rw [IntKind.wrap_i64];omega)) ?_
                  try simp only [zW]
                  refine aC (v:=.pointer (some ⟨b,4,none⟩)) (d:=some 154) rfl rfl (by go_simp) ?_
                  try simp only [zW]
                  refine bM (d:=none) rfl rfl (fC (dP 3 (.int .i64 (s.serial+1)) (uH D3).x (by show 4<8;decide) (by kernel_rfl) rfl)) ?_
                  try simp only [Act.put]
                  generalize wn.setCell ⟨b,4,none⟩ (.int .i64 (s.serial+1))=w6 at D5 H5 ⊢
                  clear D3
                  go_wp2
                  go_roundw
                  case rel=>exact ⟨k+1,y,⟨s.qs,s.clock,s.epoch,s.next,s.serial+1,s.apps,s.ms,s.cs⟩,hs,by omega,by go_num,D5,aA ⟨(uH H5).q,(uH H5).p,(uH H5).k,(uH H5).m,(uH H5).c,(uH H5).cap,(uH H5).rm⟩,S3⟩
                  case measure=>simp [intOf];omega
                · go_upto_region 28 with fail
                  have QC:=aA (show y.cl≤1000 by have:=(uH HD).a.row.2.2.2.1;have:=(uH HS).cl;omega)
                  have X0:=(uH HD).d.x
                  have hbn:=yA (yH _ wn) (.cells #[.int .i64 ci,.int .i64 ca,.string (bs cn),.int .i64 cm,.int .i64 cp] 52)
                  obtain ⟨g4,cq,w4,gq,HR⟩:=aLE (B:=w.heap.size) (uH HD).a.row.2.2.2 ((uH HD).a.rm.2.2.2.1.mono (yJ _) (uH HD).e) (uH HD).a.cap.c (uH QC) (uH HD).d.c.2.2.1.size ⟨ci,ca,cn,cm,cp⟩
                  simp only at gq HR
                  have H2:=(((uH HD).a.has (uH HD).e).below hbn).addC ⟨ci,ca,cn,cm,cp⟩ (uH HR)
                  have D2:=((uH HD).d.below hbn).mks (uH HR).mks (fun k ⟨N,hc,hB⟩=>⟨hB,_,N,hc,by decide,by decide⟩)
                  have D3:=aA (D2.set 7 (.slice (some ⟨g4,0,none⟩) (y.cl+1) cq))
                  have H3:=aA (D2.setH 7 (.slice (some ⟨g4,0,none⟩) (y.cl+1) cq) H2)
                  have S3:=aA ((uH HS).next (s.cs++[⟨ci,ca,cn,cm,cp⟩]) (by have:=(uH HS).cl;simp;omega) (fun z hz=>by rcases List.mem_append.1 hz with hz | hz;exact (uH HS).cn z hz;simp at hz;subst hz;exact ⟨hcn,ZZ⟩))
                  refine wp_region_lit ?_
                  refine aC (v:=.pointer (some ⟨b,7,none⟩)) (d:=some 145) rfl rfl (by go_simp) ?_
                  try simp only [zW]
                  refine aC (v:=.slice y.ca y.cl y.cc) (d:=some 146) rfl rfl (by (have c7:=X0.at 7;simp at c7;go_simp)) ?_
                  try simp only [zW]
                  refine aC (v:=.agg #[.int .i64 ci,.int .i64 ca,.string (bs cn),.int .i64 cm,.int .i64 cp]) (d:=some 147) rfl rfl (bI (aCr (uH HX) rfl)) ?_
                  try simp only [zW]
                  refine eH (v:=.slice (some ⟨wn.heap.size,0,none⟩) 1 1) (d:=some 148) rfl rfl (bI (mY wn 27 52 _ (.agg #[.int .i64 0,.int .i64 0,.string ByteArray.empty,.int .i64 0,.int .i64 0]) (.int .i64 ci) (.int .i64 ca) (.string (bs cn)) (.int .i64 cm) (.int .i64 cp) Tryz.underlying27 (by kernel_rfl) (by simp only [List.map_toArray,List.map_cons,List.map_nil];rfl))) ?_
                  try simp only [zW]
                  refine eH (v:=.slice (some ⟨g4,0,none⟩) (y.cl+1) cq) (d:=some 149) rfl rfl (eY rfl rfl rfl gq) ?_
                  try simp only [zW]
                  refine aC (v:=.pointer (some ⟨b,7,none⟩)) (d:=some 150) rfl rfl (by go_simp) ?_
                  try simp only [zW]
                  refine bM (d:=none) rfl rfl (fC (dP 27 (.slice (some ⟨g4,0,none⟩) (y.cl+1) cq) D2.x (by show 7<8;decide) (by kernel_rfl) rfl)) ?_
                  try simp only [Act.put]
                  clear gq H2 D2 HR hbn X0 HD HX
                  go_upto_region 29 with fail
                  generalize w4.setCell ⟨b,7,none⟩ (.slice (some ⟨g4,0,none⟩) (y.cl+1) cq)=w5 at D3 H3 ⊢
                  have D5:=aA ((uH D3).set 4 (.int .i64 (s.serial+1)))
                  have H5:=aA ((uH D3).setH 4 (.int .i64 (s.serial+1)) (uH H3))
                  refine wp_region_lit ?_
                  refine aC (v:=.pointer (some ⟨b,4,none⟩)) (d:=some 151) rfl rfl (by go_simp) ?_
                  try simp only [zW]
                  refine aC (v:=.int .i64 s.serial) (d:=some 152) rfl rfl (by (have c4:=(uH D3).x.at 4;simp at c4;go_simp)) ?_
                  try simp only [zW]
                  refine aC (v:=.int .i64 (s.serial+1)) (d:=some 153) rfl rfl (by (go_simp;rw [IntKind.wrap_i64];omega)) ?_
                  try simp only [zW]
                  refine aC (v:=.pointer (some ⟨b,4,none⟩)) (d:=some 154) rfl rfl (by go_simp) ?_
                  try simp only [zW]
                  refine bM (d:=none) rfl rfl (fC (dP 3 (.int .i64 (s.serial+1)) (uH D3).x (by show 4<8;decide) (by kernel_rfl) rfl)) ?_
                  try simp only [Act.put]
                  generalize w5.setCell ⟨b,4,none⟩ (.int .i64 (s.serial+1))=w6 at D5 H5 ⊢
                  clear D3
                  go_wp2
                  go_roundw
                  case rel=>exact ⟨k+1,⟨y.qa,y.ql,y.qc,y.aa,y.al,y.ac,y.ma,y.ml,y.mc,some ⟨g4,0,none⟩,y.cl+1,cq⟩,⟨s.qs,s.clock,s.epoch,s.next,s.serial+1,s.apps,s.ms,s.cs++[⟨ci,ca,cn,cm,cp⟩]⟩,hs,by omega,by go_num,D5,aA ⟨(uH H5).q,(uH H5).p,(uH H5).k,(uH H5).m,(uH H5).c,(uH H5).cap,(uH H5).rm⟩,S3⟩
                  case measure=>simp [intOf];omega
            · have HE:=aA ((uH HS).mono (yJ 4) (yJ 3) (show k≤6 by omega))
              rcases (show ¬(k:Int)<nc∨((k:Int)<nc∧¬(0:Int)<nm)∨((k:Int)<nc∧(0:Int)<nm∧¬(0:Int)<nk) by omega) with k2 | ⟨k2,m2⟩ | ⟨k2,m2,q2⟩
              all_goals
                as_aux_lemma=>
                  go_upto_region 30 with fail
                  refine wp_region_lit ?_
                  refine aC (v:=.agg (svc y s)) (d:=some 155) rfl rfl (bI (bF (uH HD).x rfl)) ?_
                  try simp only [zW]
                  refine bM (d:=none) rfl rfl (fC (bP 29 (arr:=svc y s) (uH HD).r (by kernel_rfl) rfl (by kernel_rfl))) ?_
                  try simp only [Act.put]
                  have RR:=aA (jT (uH HD).r (svc y s))
                  have MM:=iV (uH HD).r (svc y s) rfl
                  have H9:=aA ((uH HH).off MM (nD (uH HD).r (by decide) (by decide) (by decide) (by decide) (by decide)))
                  have C9:=(uH HD).c.mks MM (fun k e=>by subst e;omega)
                  have C8:=aA ((uH HW).step C9.1 C9.2.2.1)
                  clear MM C9 HD HH HS HW
                  generalize World.setRow wr w.heap.size (svc y s)=W9 at RR H9 C8 ⊢
                  obtain ⟨z0,z1,z2,z3,z4,z5,z6,z7⟩:=zq (uH RR)
                  go_wp2
                  refine bodyPost_ret (v:=sv y s) (by simp [results,Tryz.results70,go_sem,z0,z1,z2,z3,z4,z5,z6,z7]) rfl ?_
                  exact ⟨y,s,rfl,⟨hs,H9⟩,HE,C8⟩
end
end Go.Proofs.YtngkddhcmfbjnaaGreat
