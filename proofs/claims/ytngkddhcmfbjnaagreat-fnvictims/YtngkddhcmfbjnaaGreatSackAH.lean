/-
  Texts in one: DrF, DrG, DrJ, DrL, DrM, VicY, DrH.
-/
import Derived.Test.YtngkddhcmfbjnaaGreatSackAG
import Derived.Test.YtngkddhcmfbjnaaGreatSackAD
import Derived.Test.YtngkddhcmfbjnaaGreatSackAF
import Derived.Test.YtngkddhcmfbjnaaGreatSackAE
set_option maxRecDepth 100000
set_option maxHeartbeats 16000000
set_option linter.unusedVariables false
set_option linter.unusedSimpArgs false
namespace Go.Proofs.YtngkddhcmfbjnaaGreat
section
open Go.RowKit
variable {c:Con} {g1 g2 l1 l2:Int} {hs:List AV} {L VS:List Con} {vs:List Int} {nm:List UInt8} {B b cap g k n:Nat} {ao:Option Addr} {P:Program} {x y:Sls} {s t:St} {w w' w0:World}
theorem aGS (x:Sls) (s:St) (j:Nat) (b:ByteArray):(svc x s)[j]?≠some (.string b):=by
 match j with
 | 0 | 1 | 2 | 3 | 4 | 5 | 6 | 7=>simp
 | j+8=>simp
theorem aE1 {l:List Q} (h:gJ w ao n l) (hx:Blk w b (svc x s) 29):∀k,inR ao n k→¬k=b:=fun k hk e=>by
 subst e
 obtain ⟨hn,o,rfl⟩:=hk
 obtain ⟨h1,h2⟩:=h
 rcases h2 with h2 | ⟨b',off,e,h3⟩
 ·exact hn h2
 ·cases e
  have h4:=(h3 0 (by omega)).1
  rw [hx.at] at h4
  exact aGS _ _ _ _ h4
theorem DrS.mkb {x':Sls} {s':St} (h:DrS g w y s hs) (hm:Mks (fun k=>k=b) w w') (hx:Blk w b (svc x' s') 29):DrS g w' y s hs:=by
 have ho:=nD (B:=g+1) hx (by decide) (by decide) (by decide) (by decide) (by decide)
 exact ⟨h.q.mks hm (aE1 h.q hx),h.qg,h.p.off hm ho.p,h.k.off hm ho.a,h.m.off hm ho.m,h.c.off hm ho.c,h.cap,h.sm,h.fit,h.wf⟩
theorem aBy {len:Nat} (w:World) (h:CSt w0 B g ao len cap w) :
  cP 24 #[.pointer (some ⟨g,0,none⟩)] w fun e w'=>∃y s hs,e=.returned (sv y s)∧Hid (DrS g w' y s hs)∧Hid (CSt w0 B g ao len cap w'):=by
 have HW:=aA h
 have hgl:=h.1.lt
 have C0:=aA (show CSt w B g ao len cap (w.alloc (.cells #[.slice none 0 0,.int .i64 0,.int .i64 0,.int .i64 0,.int .i64 0,.slice none 0 0,.slice none 0 0,.slice none 0 0] 29)) from h.rebase.alloc _)
 have R0:=aA (yD w #[.slice none 0 0,.int .i64 0,.int .i64 0,.int .i64 0,.int .i64 0,.slice none 0 0,.slice none 0 0,.slice none 0 0] 29)
 clear h
 go_enter Tryz.func24,Tryz.ntmps24
 go_wp2_with fail
 refine (aIK _ (uH C0).rebase).mono ?_
 rintro e w1 ⟨y,s,hs,rfl,hh,hsm,hc1⟩
 have R1:=aA ((dW (uH C0).1 (uH hc1).1 (uH hc1).2.2.1).blk (uH R0) (by omega))
 have C1:=aA ((uH C0).step (uH hc1).1 (uH hc1).2.2.1)
 have H1:=aA ((uH hh).base (show w.heap.size≤(w.alloc (.cells #[.slice none 0 0,.int .i64 0,.int .i64 0,.int .i64 0,.int .i64 0,.slice none 0 0,.slice none 0 0,.slice none 0 0] 29)).heap.size by rw [yE];omega))
 have HF:=aA ((uH hsm).fit (by decide) (by decide) (by decide))
 have X7:=aA (uH hsm).wf
 have hz1:w.heap.size+1≤w1.heap.size:=(uH R1).lt
 have b2:=yA (yH _ w1) (.cells (svc y s) 29)
 have D2:=aA (show DT w B g ao len cap w1.heap.size (svc y s) (w1.alloc (.cells (svc y s) 29)) from ⟨(uH C1).below b2,hgl,yD w1 _ _,by omega,(uH R1).below b2⟩)
 have H2:=aA ((uH H1).below b2)
 have QC:=aA (show y.cl≤1000 by have:=(uH hh).c.1.1;have:=(uH hsm).cl;omega)
 have Tx:=hsm
 clear hh hc1 C0 R0 C1 R1 H1 b2 hsm
 go_wp2_with fail
 refine (aU 24 _ (uH D2).c (by decide) (by decide)).mono ?_
 rintro e w3 ⟨x7,rfl,hn0,hn1,hc3,hg3⟩
 have D3:=aA ((uH D2).cur hc3.1 hg3)
 have H3:=aA ((uH D2).off hc3.1 hg3 (uH H2))
 obtain ⟨b,hbb⟩:∃b,w1.heap.size=b:=⟨_,rfl⟩
 rw [hbb] at D3 ⊢
 clear D2 H2 hc3 hg3 hbb hz1
 go_upto_block 0 with fail
 go_cut [] from 8 to 73 (fun wx=>∃(y:Sls) (s:St) (hs:List AV),Hid (Blk wx b (svc y s) 29)∧Hid (DrS g wx y s hs)∧Hid (CSt w B g ao len cap wx)∧Hid (Blk wx w.heap.size aJY 29))
 case first=>
  have hcs:x7=0∨x7=1∨x7=2∨x7=3∨x7=4∨x7=5∨x7=6∨6<x7:=by omega
  rcases hcs with rfl | rfl | rfl | rfl | rfl | rfl | rfl | h6
  ·have hq:=aA (fG w3 3 [-1,1000000000,1000000001] (by decide))
   go_wp2_with fail
   refine (lG w3.heap.size 3 3 _ ((uH D3).c.alloc _).rebase (uH hq) (by have:=(uH D3).c.1.lt;omega) (by decide) (by decide)).mono ?_
   rintro e w4 ⟨x,rfl,hx0,hx1,hc4⟩
   have b4:=yA (yH _ w3) (.cells #[.int .i64 (-1),.int .i64 1000000000,.int .i64 1000000001] 3)
   have D4:=((uH D3).below b4).cur hc4.1 hc4.2.2.1
   have H4:=((uH D3).below b4).off hc4.1 hc4.2.2.1 ((uH H3).below b4)
   have D5:=aA (D4.set 1 (.int .i64 x))
   have H5:=aA (D4.setH 1 (.int .i64 x) H4)
   have cx:=D4.x.at 1
   have fx:=D4.x.f 1
   simp at cx
   clear D4 H4 D3 H3 hc4 b4 hq
   go_wp2_with fail
   go_meet
   exact ⟨y,⟨s.qs,x,s.epoch,s.next,s.serial,s.apps,s.ms,s.cs⟩,hs,aA (uH D5).x,aA (DrS.of (B:=w.heap.size) ⟨(uH H5).q,(uH H5).p,(uH H5).k,(uH H5).m,(uH H5).c,(uH H5).cap,(uH H5).rm⟩ hgl (uH HF) (uH X7)),aA (uH D5).c,aA (uH D5).r⟩
  ·have hq:=aA (fG w3 3 [0,2] (by decide))
   go_wp2_with fail
   refine (lG w3.heap.size 2 2 _ ((uH D3).c.alloc _).rebase (uH hq) (by have:=(uH D3).c.1.lt;omega) (by decide) (by decide)).mono ?_
   rintro e w4 ⟨x,rfl,hx0,hx1,hc4⟩
   have b4:=yA (yH _ w3) (.cells #[.int .i64 0,.int .i64 2] 3)
   have D4:=((uH D3).below b4).cur hc4.1 hc4.2.2.1
   have H4:=((uH D3).below b4).off hc4.1 hc4.2.2.1 ((uH H3).below b4)
   have D5:=aA (D4.set 2 (.int .i64 x))
   have H5:=aA (D4.setH 2 (.int .i64 x) H4)
   have cx:=D4.x.at 2
   have fx:=D4.x.f 2
   simp at cx
   clear D4 H4 D3 H3 hc4 b4 hq
   go_wp2_with fail
   go_meet
   exact ⟨y,⟨s.qs,s.clock,x,s.next,s.serial,s.apps,s.ms,s.cs⟩,hs,aA (uH D5).x,aA (DrS.of (B:=w.heap.size) ⟨(uH H5).q,(uH H5).p,(uH H5).k,(uH H5).m,(uH H5).c,(uH H5).cap,(uH H5).rm⟩ hgl (uH HF) (uH X7)),aA (uH D5).c,aA (uH D5).r⟩
  ·go_wp2_with fail
   refine (aG6 _ (uH D3).c.rebase).mono ?_
   rintro e w4 ⟨qb,n,c',ls,rfl,Hw,Fj,hnc,NM,hbr,hc4⟩
   have D4:=(uH D3).cur (uH hc4).1 (uH hc4).2.2.1
   have H4:=(uH D3).off (uH hc4).1 (uH hc4).2.2.1 (uH H3)
   have D5:=aA (D4.set 0 (.slice (some ⟨qb,0,none⟩) n c'))
   have H5:=aA (D4.setH 0 (.slice (some ⟨qb,0,none⟩) n c') H4)
   have Q5:=aA ((uH Hw).mks (Mks.one (fun k=>k=b) w4 b 0 (.slice (some ⟨qb,0,none⟩) n c') rfl) (aE1 (uH Hw) D4.x))
   have F5:=aA (show aKL ls from ⟨by have:=(uH Hw).1;omega,fun q hq=>by have:=uH hbr q hq;omega⟩)
   have cx:=D4.x.at 0
   have fx:=D4.x.f 0
   simp at cx
   clear D4 H4 D3 H3 hc4 Hw hbr
   go_wp2_with fail
   go_meet
   have O5:=DrS.of (g:=g) (uH H5) hgl (uH HF) (uH X7)
   exact ⟨⟨some ⟨qb,0,none⟩,n,c',y.aa,y.al,y.ac,y.ma,y.ml,y.mc,y.ca,y.cl,y.cc⟩,⟨ls,s.clock,s.epoch,s.next,s.serial,s.apps,s.ms,s.cs⟩,hs,aA (uH D5).x,aA ⟨uH Q5,fun k hk=>by obtain ⟨_,o,e⟩:=hk;cases e;exact Fj.1,O5.p,O5.k,O5.m,O5.c,hnc,⟨(fun e=>by cases e),O5.sm.m,O5.sm.c,O5.sm.k⟩,⟨uH F5,(uH HF).2⟩,uH X7⟩,aA (uH D5).c,aA (uH D5).r⟩
  ·cases hls:s.cs with
   | nil=>
    have h0:y.cl=0:=by have:=(uH H3).c.1.1;rw [hls] at this;simpa using this
    have cx:=(uH D3).x.at 7
    simp at cx
    rw [h0] at cx
    go_wp2_with fail
    go_meet
    exact ⟨y,s,hs,aA (uH D3).x,aA (DrS.of (uH H3) hgl (uH HF) (uH X7)),aA (uH D3).c,aA (uH D3).r⟩
   | cons c t=>
    have hl:0<y.cl:=by have:=(uH H3).c.1.1;rw [hls] at this;simp at this;omega
    obtain ⟨gC,M,hga,hgB,GV,hM⟩:=nC (uH H3).c.2 hl
    have l1:(0:Int)<y.cl:=by omega
    have cx:=(uH D3).x.at 7
    simp at cx
    rw [hga] at cx
    clear GV hM
    go_upto_region 11 with fail
    clear cx
    refine wp_region_held_drew (S:=fun wx=>DT w B g ao len cap b (svc y s) wx) (by kernel_rfl) ((uH D3).below (yH _ _).drew) (fun S0=>?_)
    have H4:=(uH H3).below (yH _ w3).drew
    generalize w3.drew=wn at S0 H4 ⊢
    refine tW 0 31 _ S0 ?_
    simp only [zW]
    refine bW 1 32 (.slice (some ⟨gC,0,none⟩) y.cl y.cc) rfl rfl S0 ?_ (hy:=Or.inl ⟨by rfl,fun wz hz=>by (have cz:=(DT.x hz).at 7;simp at cz;rw [hga] at cz;go_simp)⟩)
    try simp only [zW]
    refine tW 2 33 _ S0 ?_
    simp only [zW]
    refine yRq 3 rfl (fun K hK=>?_)
    go_wp2_with fail
    have PT:=fG wn 3 [0,100,-1] (by decide)
    have hqg:g<wn.heap.size:=S0.c.1.lt
    have b5:=yA (yH _ wn) (.cells #[.int .i64 0,.int .i64 100,.int .i64 (-1)] 3)
    refine hK.out _ _ (S0.below b5) (fun S1=>?_)
    have H5:=H4.below b5
    clear hK K S0 H4 b5
    try simp only [zW]
    simp only [List.map_cons,List.map_nil,List.length_cons,List.length_nil,Nat.zero_add,Nat.reduceAdd] at PT
    generalize wn.alloc (.cells #[.int .i64 0,.int .i64 100,.int .i64 (-1)] 3)=wm at PT S1 H5 ⊢
    generalize wn.heap.size=qq at PT hqg ⊢
    refine yRq 4 rfl (fun K hK=>?_)
    go_simp
    refine (lG qq 3 3 _ S1.c.rebase PT (by omega) (by decide) (by decide)).mono ?_
    rintro e wo ⟨x,rfl,hx0,hx1,hcm⟩
    have H6:=S1.off hcm.1 hcm.2.2.1 H5
    have S2:=S1.cur hcm.1 hcm.2.2.1
    clear S1 H5 hcm PT
    go_wp2_with fail
    refine hK.out _ _ S2 (fun S0=>?_)
    clear hK K S2
    try simp only [zW]
    obtain ⟨⟨arr,qx,KU,_⟩,H7⟩:=H6.mem0 hga hls x
    refine tW 5 36 _ S0 ?_
    simp only [zW]
    refine tW 6 37 _ S0 ?_
    simp only [zW]
    refine tW 7 38 _ S0 ?_
    simp only [zW]
    refine yRq 8 rfl (fun K hK=>fQ (by rfl) rfl (fC (dP 3 (.int .i64 x) qx KU (by kernel_rfl) rfl)) ?_)
    have D7:=S0.mks (Mks.one (fun k=>k=gC) wo gC 3 (.int .i64 x) rfl) (fun k e=>by subst e;exact ⟨hgB,_,_,⟨arr,qx,rfl⟩,by decide⟩)
    refine hK.out _ _ D7 (fun _=>?_)
    clear hK K S0
    try simp only [zW]
    refine wpAnyH_done (by kernel_rfl) ?_ _
    go_wp2_with fail
    go_meet
    exact ⟨y,⟨s.qs,s.clock,s.epoch,s.next,s.serial,s.apps,s.ms,⟨c.id,c.app,c.node,x,c.cpu⟩::t⟩,hs,aA D7.x,aA (DrS.of H7 hgl ⟨(uH HF).1,(uH HF).2.1,(uH HF).2.2.1,by have h8:=(uH HF).2.2.2;rw [hls] at h8;exact ⟨by simpa using h8.1,fun z hz=>by rcases List.mem_cons.1 hz with rfl | hz;exact h8.2 c (by simp);exact h8.2 z (by simp [hz])⟩⟩ ⟨(uH X7).1,fun z hz=>by have h8:=(uH X7).2;rw [hls] at h8;rcases List.mem_cons.1 hz with rfl | hz;exact h8 c (by simp);exact h8 z (by simp [hz])⟩),aA D7.c,aA D7.r⟩
  ·cases hls:s.apps with
   | nil=>
    have h0:y.al=0:=by have:=(uH H3).p.1.1.trans (uH H3).k.heads.1;rw [hls] at this;simpa using this
    have cx:=(uH D3).x.at 5
    simp at cx
    rw [h0] at cx
    go_wp2_with fail
    go_meet
    exact ⟨y,s,hs,aA (uH D3).x,aA (DrS.of (uH H3) hgl (uH HF) (uH X7)),aA (uH D3).c,aA (uH D3).r⟩
   | cons c t=>
    have hl:0<y.al:=by have:=(uH H3).p.1.1.trans (uH H3).k.heads.1;rw [hls] at this;simp at this;omega
    obtain ⟨gC,M,hga,hgB,GV,hM⟩:=nC (uH H3).p.2 hl
    have l1:(0:Int)<y.al:=by omega
    have cx:=(uH D3).x.at 5
    simp at cx
    rw [hga] at cx
    clear GV hM
    go_upto_region 14 with fail
    clear cx
    refine wp_region_held_drew (S:=fun wx=>DT w B g ao len cap b (svc y s) wx) (by kernel_rfl) ((uH D3).below (yH _ _).drew) (fun S0=>?_)
    have H4:=(uH H3).below (yH _ w3).drew
    generalize w3.drew=wn at S0 H4 ⊢
    refine tW 0 45 _ S0 ?_
    simp only [zW]
    refine bW 1 46 (.slice (some ⟨gC,0,none⟩) y.al y.ac) rfl rfl S0 ?_ (hy:=Or.inl ⟨by rfl,fun wz hz=>by (have cz:=(DT.x hz).at 5;simp at cz;rw [hga] at cz;go_simp)⟩)
    try simp only [zW]
    refine tW 2 47 _ S0 ?_
    simp only [zW]
    refine yRq 3 rfl (fun K hK=>?_)
    go_wp2_with fail
    have PT:=dK wn 9 [⟨#[114,111,111,116]⟩,⟨#[110,111,110,101]⟩] (by decide)
    have hqg:g<wn.heap.size:=S0.c.1.lt
    have b5:=yA (yH _ wn) (.cells #[.string ⟨#[114,111,111,116]⟩,.string ⟨#[110,111,110,101]⟩] 9)
    refine hK.out _ _ (S0.below b5) (fun S1=>?_)
    have H5:=H4.below b5
    clear hK K S0 H4 b5
    try simp only [zW]
    simp only [List.map_cons,List.map_nil,List.length_cons,List.length_nil,Nat.zero_add,Nat.reduceAdd] at PT
    generalize wn.alloc (.cells #[.string ⟨#[114,111,111,116]⟩,.string ⟨#[110,111,110,101]⟩] 9)=wm at PT S1 H5 ⊢
    generalize wn.heap.size=qq at PT hqg ⊢
    refine yRq 4 rfl (fun K hK=>?_)
    go_simp
    refine (iT qq 2 2 _ S1.c.rebase PT (by omega) (by decide) (by decide)).mono ?_
    rintro e wo ⟨sq,rfl,QJ,hcm⟩
    obtain ⟨x,rfl⟩:∃l,sq=bs l:=⟨_,(aDv _).symm⟩
    rw [dD] at QJ
    have H6:=S1.off hcm.1 hcm.2.2.1 H5
    have S2:=S1.cur hcm.1 hcm.2.2.1
    clear S1 H5 hcm PT
    go_wp2_with fail
    refine hK.out _ _ S2 (fun S0=>?_)
    clear hK K S2
    try simp only [zW]
    obtain ⟨v0,hs1,rfl⟩:∃v l,hs=v::l:=by
     cases hs with
     | nil=>have:=H6.k.heads.1;rw [hls] at this;simp at this
     | cons v l=>exact ⟨v,l,rfl⟩
    obtain ⟨⟨arr,qx,KU,_⟩,H7⟩:=H6.queue0 hga hls x
    refine tW 5 50 _ S0 ?_
    simp only [zW]
    refine tW 6 51 _ S0 ?_
    simp only [zW]
    refine yRq 7 rfl (fun K hK=>fQ (by rfl) rfl (fC (dP 9 (.string (bs x)) qx KU (by kernel_rfl) rfl)) ?_)
    have D7:=S0.mks (Mks.one (fun k=>k=gC) wo gC 1 (.string (bs x)) rfl) (fun k e=>by subst e;exact ⟨hgB,_,_,⟨arr,qx,rfl⟩,by decide⟩)
    refine hK.out _ _ D7 (fun _=>?_)
    clear hK K S0
    try simp only [zW]
    refine wpAnyH_done (by kernel_rfl) ?_ _
    go_wp2_with fail
    go_meet
    exact ⟨y,⟨s.qs,s.clock,s.epoch,s.next,s.serial,⟨c.id,x,c.asks⟩::t,s.ms,s.cs⟩,(⟨v0.id,x,v0.ao,v0.len,v0.cap⟩::hs1),aA D7.x,aA (DrS.of H7 hgl ⟨(uH HF).1,by have h8:=(uH HF).2.1;rw [hls] at h8;exact ⟨by simpa using h8.1,fun z hz=>by rcases List.mem_cons.1 hz with rfl | hz;exact ⟨by show x.length≤1048576;omega,(h8.2 c (by simp)).2⟩;exact h8.2 z (by simp [hz])⟩,(uH HF).2.2⟩ ⟨fun z hz=>by have h8:=(uH X7).1;rw [hls] at h8;rcases List.mem_cons.1 hz with rfl | hz;exact h8 c (by simp);exact h8 z (by simp [hz]),(uH X7).2⟩),aA D7.c,aA D7.r⟩
  ·cases hls:s.ms with
   | nil=>
    have h0:y.ml=0:=by have:=(uH H3).m.1.1;rw [hls] at this;simpa using this
    have cx:=(uH D3).x.at 6
    simp at cx
    rw [h0] at cx
    go_wp2_with fail
    go_meet
    exact ⟨y,s,hs,aA (uH D3).x,aA (DrS.of (uH H3) hgl (uH HF) (uH X7)),aA (uH D3).c,aA (uH D3).r⟩
   | cons c t=>
    have hl:0<y.ml:=by have:=(uH H3).m.1.1;rw [hls] at this;simp at this;omega
    obtain ⟨gC,M,hga,hgB,GV,hM⟩:=nC (uH H3).m.2 hl
    have l1:(0:Int)<y.ml:=by omega
    have cx:=(uH D3).x.at 6
    simp at cx
    rw [hga] at cx
    clear GV hM
    obtain ⟨⟨arr,qx,KU,_⟩,H7⟩:=(uH H3).seen0 hga hls 5
    have D7:=(uH D3).mks (Mks.one (fun k=>k=gC) w3 gC 3 (.int .i64 5) rfl) (fun k e=>by subst e;exact ⟨hgB,_,_,⟨arr,qx,rfl⟩,by decide⟩)
    have c3:w3.cell? ⟨gC,3,none⟩=some arr[3]:=by rw [qx.at];simp [KU]
    have f3:=qx.f 3
    go_wp2_with fail
    go_meet
    exact ⟨y,⟨s.qs,s.clock,s.epoch,s.next,s.serial,s.apps,⟨c.name,c.mem,c.cpu,5⟩::t,s.cs⟩,hs,aA D7.x,aA (DrS.of H7 hgl ⟨(uH HF).1,(uH HF).2.1,by have h8:=(uH HF).2.2.1;rw [hls] at h8;exact ⟨by simpa using h8.1,fun z hz=>by rcases List.mem_cons.1 hz with rfl | hz;exact h8.2 c (by simp);exact h8.2 z (by simp [hz])⟩,(uH HF).2.2.2⟩ (uH X7)),aA D7.c,aA D7.r⟩
  ·go_upto_region 19 with fail
   refine jB 8 (fun _=>True) (fun wx=>DT w B g ao len cap b (svc y s) wx∧dQ w.heap.size wx y s hs) (by kernel_rfl) trivial ⟨(uH D3).below (yH _ _).drew,(uH H3).below (yH _ _).drew⟩ (fun S0 T0=>?_)
   generalize w3.drew=wn at T0 ⊢
   refine aX 0 64 _ rfl rfl S0 T0 ?_
   try simp only [zW]
   refine tT 1 65 (.slice y.ca y.cl y.cc) rfl rfl S0 T0 ?_ (hy:=Or.inl ⟨by rfl,fun wz hz=>by (have cz:=hz.1.x.at 7;simp at cz;go_simp)⟩)
   try simp only [zW]
   refine aX 2 66 _ rfl rfl S0 T0 ?_
   try simp only [zW]
   refine aX 5 69 _ rfl rfl S0 T0 ?_
   try simp only [zW]
   refine aD [3] (aB.cons rfl (fun K hK=>?_) aB.nil)
   go_simp
   refine (aU 9 _ T0.1.c.rebase (by decide) (by decide)).mono ?_
   rintro e wm ⟨x3,rfl,JJ,JI,hcn,hgn⟩
   have T1:=And.intro (T0.1.cur hcn.1 hgn) (T0.1.off hcn.1 hgn T0.2)
   clear S0 T0 hcn hgn
   go_wp2_with fail
   refine hK.out _ _ trivial (fun _=>T1) ?_
   clear hK K
   have S0:=trivial
   have T0:=T1
   clear T1
   try simp only [zW]
   refine aX 4 68 (.int .i64 (1000+x3)) rfl rfl S0 T0 ?_ (hy:=Or.inl ⟨by rfl,fun wz hz=>by (go_simp;rw [IntKind.wrap_i64];omega)⟩)
   try simp only [zW]
   refine aX 6 70 (.agg #[.int .i64 900,.int .i64 (1000+x3),.string (bs [109,49]),.int .i64 1,.int .i64 0]) rfl rfl S0 T0 ?_ (hy:=Or.inl ⟨by rfl,fun wz hz=>by (go_simp;rfl)⟩)
   try simp only [zW]
   have hbn:=yA (yH _ wm) (.cells #[.int .i64 900,.int .i64 (1000+x3),.string (bs [109,49]),.int .i64 1,.int .i64 0] 52)
   obtain ⟨g4,cp,w4,gq,HA⟩:=aLE (B:=w.heap.size) T0.2.c.1 T0.2.rm.2.2.2.1 T0.2.cap.c (uH QC) T0.1.c.2.2.1.size ⟨900,1000+x3,[109,49],1,0⟩
   simp only at gq HA
   have D4:=(T0.1.below hbn).mks (uH HA).mks (fun k ⟨N,hc,hB⟩=>⟨hB,_,N,hc,by decide⟩)
   have H4:=(T0.2.below hbn).addC ⟨900,1000+x3,[109,49],1,0⟩ (uH HA)
   have D5:=aA (D4.set 7 (.slice (some ⟨g4,0,none⟩) (y.cl+1) cp))
   have H5:=aA (D4.setH 7 (.slice (some ⟨g4,0,none⟩) (y.cl+1) cp) H4)
   have X4:=D4.x
   have SM:=aA ((uH Tx).addC ⟨900,1000+x3,[109,49],1,0⟩ (by show ([109,49]:List UInt8).length≤12∧0≤1000+x3∧1000+x3≤100000;simp;omega))
   refine aD [7] (aB.cons rfl (fun K hK=>eG 71 (by rfl) rfl (bI (mY wm 27 52 _ (.agg #[.int .i64 0,.int .i64 0,.string ByteArray.empty,.int .i64 0,.int .i64 0]) (.int .i64 900) (.int .i64 (1000+x3)) (.string (bs [109,49])) (.int .i64 1) (.int .i64 0) Tryz.underlying27 (by kernel_rfl) (by simp only [List.map_toArray,List.map_cons,List.map_nil];rfl))) ?_) aB.nil)
   refine hK.out _ _ trivial (fun _=>⟨T0.1.below hbn,T0.2.below hbn⟩) ?_
   clear hK K
   try simp only [zW]
   refine aD [8] (aB.cons rfl (fun K hK=>eG 72 (by rfl) rfl (eY rfl rfl rfl gq) ?_) aB.nil)
   refine hK.out _ _ trivial (xno (by kernel_rfl)) ?_
   clear hK K gq T0 D4 H4 HA hbn
   try simp only [zW]
   refine gK _ _ _ _ (by kernel_rfl) ?_
   refine bW 9 73 _ rfl rfl trivial ?_
   try simp only [zW]
   refine yRq 10 rfl (fun K hK=>fQ (by rfl) rfl (fC (dP 27 (.slice (some ⟨g4,0,none⟩) (y.cl+1) cp) X4 (by show 7<8;decide) (by kernel_rfl) rfl)) ?_)
   refine hK.out _ _ trivial (fun _=>?_)
   clear hK K X4
   try simp only [zW]
   refine wpAnyH_done (by kernel_rfl) ?_ _
   go_wp2_with fail
   go_meet
   exact ⟨⟨y.qa,y.ql,y.qc,y.aa,y.al,y.ac,y.ma,y.ml,y.mc,some ⟨g4,0,none⟩,y.cl+1,cp⟩,⟨s.qs,s.clock,s.epoch,s.next,s.serial,s.apps,s.ms,s.cs++[⟨900,1000+x3,[109,49],1,0⟩]⟩,hs,aA (uH D5).x,aA (DrS.of (uH H5) hgl ((uH SM).fit (by decide) (by decide) (by decide)) (uH SM).wf),aA (uH D5).c,aA (uH D5).r⟩
  ·have n0:¬x7=0:=by omega
   have n1:¬x7=1:=by omega
   have n2:¬x7=2:=by omega
   have n3:¬x7=3:=by omega
   have n4:¬x7=4:=by omega
   have n5:¬x7=5:=by omega
   have n6:¬x7=6:=by omega
   go_wp2_with fail
   go_meet
   exact ⟨y,s,hs,aA (uH D3).x,aA (DrS.of (uH H3) hgl (uH HF) (uH X7)),aA (uH D3).c,aA (uH D3).r⟩
 case rest=>
  clear D3 H3 HF X7 QC Tx
  obtain ⟨y,s,hs,HX,HD,HC,HR⟩:=hcut
  have HZ:=aA (show Blk wc w.heap.size (svc ⟨none,0,0,none,0,0,none,0,0,none,0,0⟩ ⟨[],0,0,0,0,[],[],[]⟩) 29 from uH HR)
  go_upto_region 20 with fail
  refine wp_region_lit ?_
  refine aC (v:=.agg (svc y s)) (d:=some 74) rfl rfl (bI (bF (uH HX) rfl)) ?_
  try simp only [zW]
  refine bM (d:=none) rfl rfl (fC (bP 29 (arr:=svc y s) (uH HR) (by kernel_rfl) rfl (by kernel_rfl))) ?_
  try simp only [Act.put]
  have RR:=aA (jT (uH HR) (svc y s))
  have MM:=iV (uH HR) (svc y s) rfl
  have H9:=aA ((uH HD).mkb MM (uH HZ))
  have C9:=(uH HC).mks MM (fun k e=>by subst e;omega)
  have C8:=aA ((uH HW).step C9.1 C9.2.2.1)
  clear MM C9 HX HD HC HR HZ HW
  generalize World.setRow wc w.heap.size (svc y s)=W9 at RR H9 C8 ⊢
  obtain ⟨z0,z1,z2,z3,z4,z5,z6,z7⟩:=zq (uH RR)
  go_wp2
  refine bodyPost_ret (v:=sv y s) (by simp [results,Tryz.results24,go_sem,z0,z1,z2,z3,z4,z5,z6,z7]) rfl ?_
  exact ⟨y,s,hs,rfl,H9,C8⟩
structure DrU (w:World) (y:Sls) (s:St) (hs:List AV):Prop where
 row:gU w y s
 av:fK w y.aa y.al hs
 hd:jJ w hs s.apps
 sm:aED y hs
 cap:y.ql≤y.qc
 fit:dI s
 wf:aAF s
theorem DrS.use (h:DrS g w y s hs):DrU w y s hs:=⟨h.row,h.av,h.hd,h.sm,h.cap,h.fit,h.wf⟩
theorem DrU.below (h:DrU w y s hs) (hb:Bw w w'):DrU w' y s hs:=⟨h.row.below hb,h.av.below hb,h.hd.below hb,h.sm,h.cap,h.fit,h.wf⟩
theorem aE0 {len:Nat} (w:World) (h:CSt w0 B g ao len cap w) :
  cP 25 #[.pointer (some ⟨g,0,none⟩)] w fun e w'=>∃l:List UInt8,e=.returned (.string (bs l))∧l.length≤12∧CSt w0 B g ao len cap w':=by
 have HS:=aA h
 have hgl:=h.1.lt
 have hq:=aA (dK w 9 [⟨#[114,111,111,116]⟩,⟨#[97]⟩,⟨#[98]⟩,⟨#[98,49]⟩,⟨#[98,50]⟩,⟨#[110,111,110,101]⟩,⟨#[97]⟩] (by decide))
 clear h
 go_enter Tryz.func25,Tryz.ntmps25
 go_wp2_with fail
 refine (iT w.heap.size 7 7 _ ((uH HS).alloc _) (uH hq) (by omega) (by decide) (by decide)).mono ?_
 rintro e w1 ⟨sq,rfl,QJ,hc⟩
 obtain ⟨l,rfl⟩:∃l,sq=bs l:=⟨_,(aDv _).symm⟩
 rw [dD] at QJ
 have HC:=aA hc
 clear hc HS hq
 go_wp2
 go_ret
 exact ⟨l,rfl,QJ,uH HC⟩
theorem aLP (a b c d:Value) (base:Array Value) (hb:base.size=4):Instr.fill (fun i=>some (i*4,4)) base [(0,.agg #[a,b,c,d])]=some #[a,b,c,d]:=by
 obtain ⟨l⟩:=base
 match l,hb with
 | [_,_,_,_],_=>rfl
theorem aJ6 (w:World) (t e:TypeId) (parts:Array (Nat×Value)) (z:Value) (a b c d:Value) (hu:P.underlying t=some (.slice e)) (hi:(P.info? e).map (fun i=>(i.zero,i.size))=some (some z,4)) (hp:parts=#[(0,.agg #[a,b,c,d])]) :
  (Instr.buildSlice t 1 parts).run P w=.ok (.slice (some ⟨w.heap.size,0,none⟩) 1 1) (w.alloc (.cells #[a,b,c,d] e)):=by
 subst hp
 exact aCC w t e 1 4 _ z _ hu hi (by decide) (by decide) (aLP a b c d _ (by simp))
theorem aKj (a b c d f g:Value) (base:Array Value) (hb:base.size=6):Instr.fill (fun i=>some (i*3,3)) base [(0,.agg #[a,b,c]),(1,.agg #[d,f,g])]=some #[a,b,c,d,f,g]:=by
 obtain ⟨l⟩:=base
 match l,hb with
 | [_,_,_,_,_,_],_=>rfl
theorem aIN (w:World) (t e:TypeId) (parts:Array (Nat×Value)) (z:Value) (a b c d f g:Value) (hu:P.underlying t=some (.slice e)) (hi:(P.info? e).map (fun i=>(i.zero,i.size))=some (some z,3)) (hp:parts=#[(0,.agg #[a,b,c]),(1,.agg #[d,f,g])]) :
  (Instr.buildSlice t 2 parts).run P w=.ok (.slice (some ⟨w.heap.size,0,none⟩) 2 2) (w.alloc (.cells #[a,b,c,d,f,g] e)):=by
 subst hp
 exact aCC w t e 2 3 _ z _ hu hi (by decide) (by decide) (aKj a b c d f g _ (by simp))
theorem aIw {sz M:Nat} {t:TypeId} (cs:List Value) (hB:B≤w.heap.size) (hs:cs.length=M*sz) (hn:n≤M):aFA B w t sz ao n cs w.heap.size M (w.alloc (.cells cs.toArray t)):=by
 have hb:=yD w cs.toArray t
 have hbl:=yA (yH _ w) (.cells cs.toArray t)
 exact ⟨fun j u hj=>by rw [hb.at];simpa using hj,.inr ⟨_,M,rfl,hB,hb.lt,⟨_,hb,by simpa using hs⟩,yJ _⟩,hn,.of_below hbl,.inr ⟨yJ _,hbl⟩⟩
theorem dQ.two (h:dQ B w x s []) (hB:B≤w.heap.size) (i j:Int) (p q:List UInt8) (a:Ask) :
  dQ B ((w.alloc (.cells (oJ a).toArray 104)).alloc (.cells (jP ⟨i,p,none,0,0⟩++jP ⟨j,q,some ⟨w.heap.size,0,none⟩,1,1⟩).toArray 48))
   ⟨x.qa,x.ql,x.qc,some ⟨w.heap.size+1,0,none⟩,2,2,x.ma,x.ml,x.mc,x.ca,x.cl,x.cc⟩ ⟨s.qs,s.clock,s.epoch,s.next,s.serial,[⟨i,p,[]⟩,⟨j,q,[a]⟩],s.ms,s.cs⟩ [⟨i,p,none,0,0⟩,⟨j,q,some ⟨w.heap.size,0,none⟩,1,1⟩]:=by
 have b1:=yA (yH _ w) (.cells (oJ a).toArray 104)
 have b2:=yA (yH _ (w.alloc (.cells (oJ a).toArray 104))) (.cells (jP ⟨i,p,none,0,0⟩++jP ⟨j,q,some ⟨w.heap.size,0,none⟩,1,1⟩).toArray 48)
 have bb:=yB b1 b2
 have hA:=(yD w (oJ a).toArray 104).below b2
 have hP:=show Blk ((w.alloc (.cells (oJ a).toArray 104)).alloc (.cells (jP ⟨i,p,none,0,0⟩++jP ⟨j,q,some ⟨w.heap.size,0,none⟩,1,1⟩).toArray 48)) (w.heap.size+1) (jP ⟨i,p,none,0,0⟩++jP ⟨j,q,some ⟨w.heap.size,0,none⟩,1,1⟩).toArray 48 by
  have:=yD (w.alloc (.cells (oJ a).toArray 104)) (jP ⟨i,p,none,0,0⟩++jP ⟨j,q,some ⟨w.heap.size,0,none⟩,1,1⟩).toArray 48
  rwa [yE] at this
 obtain ⟨W,hW⟩:∃W,(w.alloc (.cells (oJ a).toArray 104)).alloc (.cells (jP ⟨i,p,none,0,0⟩++jP ⟨j,q,some ⟨w.heap.size,0,none⟩,1,1⟩).toArray 48)=W:=⟨_,rfl⟩
 rw [hW] at bb hA hP ⊢
 clear hW b1 b2
 have h':=h.below bb
 have oA:∀n,n≤1→dS B W.heap.size W 104 5 (some ⟨w.heap.size,0,none⟩) n:=fun n hn=>.inr ⟨_,1,rfl,hB,hA.lt,⟨_,hA,rfl⟩,hn⟩
 have oP:∀n,n≤2→dS B W.heap.size W 48 3 (some ⟨w.heap.size+1,0,none⟩) n:=fun n hn=>.inr ⟨_,2,rfl,by omega,hP.lt,⟨_,hP,rfl⟩,hn⟩
 refine ⟨h'.q,⟨⟨rfl,.inr ⟨_,0,rfl,fun k hk=>?_⟩⟩,oP 2 (yJ _)⟩,⟨⟨rfl,fun k h1 h2=>?_⟩,fun v hv=>?_,?_⟩,h'.m,h'.c,⟨h'.cap.q,yJ _,h'.cap.m,h'.cap.c⟩,h'.rm.1,oP 2 (yJ _),h'.rm.2.2.1,h'.rm.2.2.2.1,fun v hv=>?_⟩
 ·match k,hk with
  | 0,_=>exact ⟨hP.at 0,hP.at 1,hP.at 2⟩
  | 1,_=>exact ⟨hP.at 3,hP.at 4,hP.at 5⟩
 ·match k,h1 with
  | 0,_=>exact ⟨rfl,rfl,⟨rfl,.inl rfl⟩,yJ _⟩
  | 1,_=>exact ⟨rfl,rfl,⟨rfl,.inr ⟨_,0,rfl,fun n hn=>by
    match n,hn with
    | 0,_=>exact ⟨hA.at 0,hA.at 1,hA.at 2,hA.at 3,hA.at 4⟩⟩⟩,yJ _⟩
 ·simp only [List.mem_cons,List.not_mem_nil,or_false] at hv
  rcases hv with rfl | rfl
  ·exact .inl rfl
  ·exact oA 1 (yJ _)
 ·refine List.pairwise_cons.2 ⟨fun v hv=>.inl rfl,List.pairwise_singleton _ _⟩
 ·simp only [List.mem_cons,List.not_mem_nil,or_false] at hv
  rcases hv with rfl | rfl
  ·exact .inl rfl
  ·exact oA 1 (yJ _)
theorem SmS.two {c:Nat} (h:SmS s 0 1 c) (q:List UInt8) (n:Int) (hq:q.length≤12):SmS ⟨s.qs,s.clock,s.epoch,1003,s.serial,[⟨1001,[97],[]⟩,⟨1002,q,[⟨2,1,n,[],0⟩]⟩],s.ms,s.cs⟩ 2 1 c:=
 ⟨h.q,yJ 2,h.ml,h.cl,fun x hx=>by
  simp only [List.mem_cons,List.not_mem_nil,or_false] at hx
  rcases hx with rfl | rfl
  ·simp
  ·simp;omega,h.mn,h.cn,by show (0:Int)≤1003∧(1003:Int)≤1001+((2:Nat):Int);omega,h.se⟩
theorem aIJ {len:Nat} (w:World) (h:CSt w0 B g ao len cap w) :
  cP 23 #[.pointer (some ⟨g,0,none⟩)] w fun e w'=>∃y s hs,e=.returned (sv y s)∧Hid (dQ w.heap.size w' y s hs)∧Hid (SmS s 2 1 8)∧Hid (s.apps.length=2)∧Hid (CSt w0 B g ao len cap w'):=by
 have HW:=aA h
 have hgl:=h.1.lt
 have C0:=aA (show CSt w B g ao len cap (w.alloc (.cells #[.slice none 0 0,.int .i64 0,.int .i64 0,.int .i64 0,.int .i64 0,.slice none 0 0,.slice none 0 0,.slice none 0 0] 29)) from h.rebase.alloc _)
 have R0:=aA (yD w #[.slice none 0 0,.int .i64 0,.int .i64 0,.int .i64 0,.int .i64 0,.slice none 0 0,.slice none 0 0,.slice none 0 0] 29)
 clear h
 go_enter Tryz.func23,Tryz.ntmps23
 go_wp2_with fail
 refine (aBD _ (uH C0).rebase).mono ?_
 rintro e w1 ⟨v,ls,rfl,hq,hl1,hl2,hbr,hc1⟩
 have hlt:ls≠[]:=fun e=>by rw [e] at hl1;simp at hl1
 obtain ⟨qb,qc,cur,rfl,Hw,hqc,_,_⟩:=(uH hq).row hlt
 have Yz:aKL ls:=⟨by omega,fun q hq=>by have:=uH hbr q hq;omega⟩
 have R1:=aA ((dW (uH C0).1 (uH hc1).1 (uH hc1).2.2.1).blk (uH R0) (by omega))
 have C1:=aA ((uH C0).step (uH hc1).1 (uH hc1).2.2.1)
 have hz1:w.heap.size+1≤w1.heap.size:=(uH R1).lt
 have CN:=aA (mJ (some ⟨qb,0,none⟩) ls.length qc ls w1 Hw (by omega) Yz ⟨_,rfl⟩ (fun qo n c wy hr _=>by have:=iQ (aHu qo n c) (pG ls 1 1001 1) wy (aGn 1 1001 1 hr) (aGp 1 1001 1 Yz);rw [aJN] at this;exact this))
 have SM:=aA (aCS hl2 (uH hbr))
 clear hlt hq Hw hqc Yz hc1 C0 R0 hbr
 go_wp2_with fail
 refine (uH CN).mono ?_
 rintro e w2 hN
 obtain ⟨qo,n,c,rfl,hn,Hq,hb⟩:=zN.one hN
 have R2:=aA ((uH R1).below hb)
 have C2:=aA ((uH C1).below hb)
 have hz2:w.heap.size+1≤w2.heap.size:=(uH R2).lt
 have H2:=aA ((aGo (epN ls) (nxN ls) (epN ls) Hq hn).base (show w.heap.size≤w1.heap.size+1 by omega))
 generalize qlN ls=qs at SM H2 ⊢
 generalize epN ls=ep at SM H2 ⊢
 generalize nxN ls=nx at SM H2 ⊢
 generalize aH ls=okq at ⊢
 clear hN Hq hb R1 C1 CN hn hz1 hl1 hl2
 have b3:=yA (yH _ w2) (.cells (svc (aHu qo n c) (pG qs ep nx ep)) 29)
 have D3:=aA (show DT w B g ao len cap w2.heap.size (svc (aHu qo n c) (pG qs ep nx ep)) _ from ⟨(uH C2).below b3,hgl,yD w2 _ _,by omega,(uH R2).below b3⟩)
 have H3:=aA ((uH H2).below b3)
 clear b3 R2 C2 H2
 go_upto_region 2 with fail
 obtain ⟨w3,hw3⟩:∃W,w2.alloc (.cells (svc (aHu qo n c) (pG qs ep nx ep)) 29)=W:=⟨_,rfl⟩
 obtain ⟨b,hbb⟩:∃b,w2.heap.size=b:=⟨_,rfl⟩
 rw [hw3,hbb] at D3
 rw [hw3] at H3
 try simp only [hw3]
 try simp only [hbb]
 clear hw3 hbb hz2
 have hB3:w.heap.size≤w3.heap.size:=(uH D3).c.2.2.1.size
 have hM:=aIw (B:=w.heap.size) (sz:=4) (M:=1) (n:=0+1) (t:=102) (ao:=none) (w:=w3) (aD6 ⟨[109,49],20,10,0⟩) hB3 rfl (yJ _)
 have H4:=aA ((uH H3).addM ⟨[109,49],20,10,0⟩ hM)
 have hb4:=yA (yH _ w3) (.cells #[.string ⟨#[109,49]⟩,.int .i64 20,.int .i64 10,.int .i64 0] 102)
 have D4:=aA ((uH D3).below hb4)
 have SM4:=aA ((uH SM).addM ⟨[109,49],20,10,0⟩ (by decide))
 simp only [aHu,pG,List.nil_append] at H4 SM4 D4
 clear hM hb4 H3 SM D3
 refine wp_region_lit ?_
 refine aC (v:=.agg #[.int .i64 20,.int .i64 10]) (d:=some 15) rfl rfl (by first | rfl | (go_simp;done) | (go_simp;rfl) | (refine bI ?_;simp only [List.map_toArray,List.map_cons,List.map_nil];kernel_rfl)) ?_
 try simp only [zW]
 refine aC (v:=.agg #[.string ⟨#[109,49]⟩,.int .i64 20,.int .i64 10,.int .i64 0]) (d:=some 16) rfl rfl (by first | rfl | (go_simp;done) | (go_simp;rfl) | (refine bI ?_;simp only [List.map_toArray,List.map_cons,List.map_nil];kernel_rfl)) ?_
 try simp only [zW]
 refine eH (v:=.slice (some ⟨w3.heap.size,0,none⟩) 1 1) (d:=some 17) rfl rfl (bI (aJ6 w3 26 102 _ (.agg #[.string ByteArray.empty,.int .i64 0,.int .i64 0,.int .i64 0]) (.string ⟨#[109,49]⟩) (.int .i64 20) (.int .i64 10) (.int .i64 0) Tryz.underlying26 (by kernel_rfl) (by simp only [List.map_toArray,List.map_cons,List.map_nil];rfl))) ?_
 try simp only [zW]
 obtain ⟨w4,hw4⟩:∃W,w3.alloc (.cells #[.string ⟨#[109,49]⟩,.int .i64 20,.int .i64 10,.int .i64 0] 102)=W:=⟨_,rfl⟩
 have D4':=aA (show DT w B g ao len cap b _ w4 by rw [←hw4];exact uH D4)
 have H4':=aA (show dQ w.heap.size w4 _ _ [] by rw [←hw4];exact uH H4)
 rw [hw4]
 clear D4 H4 hw4
 obtain ⟨gm,hgm⟩:∃g,w3.heap.size=g:=⟨_,rfl⟩
 rw [hgm] at H4' ⊢
 clear hgm hB3
 refine aC (v:=.pointer (some ⟨b,6,none⟩)) (d:=some 18) rfl rfl (by go_simp) ?_
 try simp only [zW]
 have D5:=aA ((uH D4').set 6 (.slice (some ⟨gm,0,none⟩) 1 1))
 have H5:=aA ((uH D4').setH 6 (.slice (some ⟨gm,0,none⟩) 1 1) (uH H4'))
 simp only [svc] at D5
 refine bM (d:=none) rfl rfl (fC (dP 26 (.slice (some ⟨gm,0,none⟩) 1 1) (uH D4').x (by show 6<8;decide) (by kernel_rfl) rfl)) ?_
 try simp only [Act.put]
 generalize w4.setCell ⟨b,6,none⟩ (.slice (some ⟨gm,0,none⟩) 1 1)=w5 at D5 H5 ⊢
 clear D4' H4'
 obtain ⟨y,s,H6,D6,S6,ZZ⟩:∃y s,Hid (dQ w.heap.size w5 y s [])∧Hid (DT w B g ao len cap b (svc y s) w5)∧Hid (SmS s 0 1 0)∧y.cl=0:=⟨_,_,H5,aA (uH D5),SM4,rfl⟩
 clear H5 D5 SM4 ZZ
 have hbl:w.heap.size<b:=(uH D6).bl
 have YK:=aA (fun wx (hx:DT w B g ao len cap b (svc y s) wx) (hh:dQ w.heap.size wx y s [])=>fP y.qa y.ql y.qc s.qs [98] wx hh.q.1 (by have:=hh.q.1.1;have:=(uH S6).q.1;omega) (fun z hz=>by have:=(uH S6).q.2 z hz;omega))
 have c0:=(uH D6).x.at 0
 simp at c0
 go_wp2_with fail
 refine (uH YK _ (uH D6) (uH H6)).mono ?_
 rintro e wd ⟨rfl,hb⟩
 have D7:=aA ((uH D6).below hb)
 have H7:=aA ((uH H6).below hb)
 generalize oI s.qs [98]=lf
 clear c0 hb D6 H6 YK
 go_upto_if 22 with fail
 go_cut [5] from 9 to 23 (fun v5 wx=>∃lz:List UInt8,v5=.string (bs lz)∧lz.length≤12∧wd=wx)
 case first=>
  cases lf
  ·go_wp2_with fail
   go_meet
   exact ⟨[98,49],rfl,by decide,rfl⟩
  ·go_wp2_with fail
   go_meet
   exact ⟨[98],rfl,by decide,rfl⟩
 case rest=>
  obtain ⟨lz,rfl,hlz,rfl⟩:=hcut
  go_upto_region 6 with fail
  refine wp_region_lit ?_
  refine aC (v:=.agg #[.int .i64 1001,.string ⟨#[97]⟩,.slice none 0 0]) (d:=some 23) rfl rfl (by first | rfl | (go_simp;done) | (go_simp;rfl) | (refine bI ?_;simp only [List.map_toArray,List.map_cons,List.map_nil];kernel_rfl)) ?_
  try simp only [zW]
  refine aC (v:=.string (bs lz)) (d:=some 24) rfl rfl rfl ?_
  try simp only [zW]
  refine aC (v:=.agg #[.int .i64 2,.int .i64 1]) (d:=some 25) rfl rfl (by first | rfl | (go_simp;done) | (go_simp;rfl) | (refine bI ?_;simp only [List.map_toArray,List.map_cons,List.map_nil];kernel_rfl)) ?_
  try simp only [zW]
  refine aC (v:=.pointer (some ⟨g,0,none⟩)) (d:=some 26) rfl rfl rfl ?_
  try simp only [zW]
  refine wpList_plain rfl (fun K hK=>?_)
  go_simp
  refine (aU 3 _ (uH D7).c (by decide) (by decide)).mono ?_
  rintro e w8 ⟨x27,rfl,hxa,hxb,hc8,Y8⟩
  refine hK _ _ ?_
  clear hK K
  try simp only [zW]
  have D8:=aA ((uH D7).cur hc8.1 Y8)
  have H8:=aA ((uH D7).off hc8.1 Y8 (uH H7))
  clear D7 H7 hc8 Y8
  refine aC (v:=.int .i64 (1+x27)) (d:=some 28) rfl rfl (by go_simp;rw [IntKind.wrap_i64];omega) ?_
  try simp only [zW]
  refine aC (v:=.agg #[.int .i64 2,.int .i64 1,.int .i64 (1+x27),.string ⟨#[]⟩,.int .i64 0]) (d:=some 29) rfl rfl (by first | rfl | (go_simp;done) | (go_simp;rfl) | (refine bI ?_;simp only [List.map_toArray,List.map_cons,List.map_nil];kernel_rfl)) ?_
  try simp only [zW]
  have TW:=(uH H8).two (uH D8).c.2.2.1.size 1001 1002 [97] lz ⟨2,1,1+x27,[],0⟩
  have b9:=yA (yA (yH _ w8) (.cells (oJ ⟨2,1,1+x27,[],0⟩).toArray 104)) (.cells (jP ⟨1001,[97],none,0,0⟩++jP ⟨1002,lz,some ⟨w8.heap.size,0,none⟩,1,1⟩).toArray 48)
  have D9:=aA ((uH D8).below b9)
  have H9:=aA TW
  clear TW b9
  refine eH (v:=.slice (some ⟨w8.heap.size,0,none⟩) 1 1) (d:=some 30) rfl rfl (bI (mY w8 46 104 _ (.agg #[.int .i64 0,.int .i64 0,.int .i64 0,.string ByteArray.empty,.int .i64 0]) (.int .i64 2) (.int .i64 1) (.int .i64 (1+x27)) (.string (bs [])) (.int .i64 0) Tryz.underlying46 (by kernel_rfl) (by simp only [List.map_toArray,List.map_cons,List.map_nil];rfl))) ?_
  try simp only [zW]
  obtain ⟨w8b,VV⟩:∃W,w8.alloc (.cells (oJ ⟨2,1,1+x27,[],0⟩).toArray 104)=W:=⟨_,rfl⟩
  refine (show ∀W',w8b=W'→wpList _ _ _ _ _ w8b→wpList _ _ _ _ _ W' from fun W' e h=>e ▸ h) _ VV.symm ?_
  have hz8:w8b.heap.size=w8.heap.size+1:=by rw [←VV,yE]
  rw [VV] at D9 H9
  rw [←hz8] at H9
  clear VV
  refine aC (v:=.agg #[.int .i64 1002,.string (bs lz),.slice (some ⟨w8.heap.size,0,none⟩) 1 1]) (d:=some 31) rfl rfl (by first | rfl | (go_simp;done) | (go_simp;rfl) | (refine bI ?_;simp only [List.map_toArray,List.map_cons,List.map_nil];kernel_rfl)) ?_
  try simp only [zW]
  refine eH (v:=.slice (some ⟨w8b.heap.size,0,none⟩) 2 2) (d:=some 32) rfl rfl (bI (aIN w8b 25 48 _ (.agg #[.int .i64 0,.string ByteArray.empty,.slice none 0 0]) (.int .i64 1001) (.string ⟨#[97]⟩) (.slice none 0 0) (.int .i64 1002) (.string (bs lz)) (.slice (some ⟨w8.heap.size,0,none⟩) 1 1) Tryz.underlying25 (by kernel_rfl) (by simp only [List.map_toArray,List.map_cons,List.map_nil];rfl))) ?_
  try simp only [zW]
  obtain ⟨w9,JK⟩:∃W,w8b.alloc (.cells (jP ⟨1001,[97],none,0,0⟩++jP ⟨1002,lz,some ⟨w8.heap.size,0,none⟩,1,1⟩).toArray 48)=W:=⟨_,rfl⟩
  rw [JK] at D9 H9
  refine (show ∀W',w9=W'→wpList _ _ _ _ _ w9→wpList _ _ _ _ _ W' from fun W' e h=>e ▸ h) _ JK.symm ?_
  clear JK
  refine aC (v:=.pointer (some ⟨b,5,none⟩)) (d:=some 33) rfl rfl (by go_simp) ?_
  try simp only [zW]
  have D10:=aA ((uH D9).set 5 (.slice (some ⟨w8b.heap.size,0,none⟩) 2 2))
  have SK:=aA ((uH D9).setH 5 (.slice (some ⟨w8b.heap.size,0,none⟩) 2 2) (uH H9))
  refine bM (d:=none) rfl rfl (fC (dP 25 (.slice (some ⟨w8b.heap.size,0,none⟩) 2 2) (uH D9).x (by show 5<8;decide) (by kernel_rfl) rfl)) ?_
  try simp only [Act.put]
  generalize w9.setCell ⟨b,5,none⟩ (.slice (some ⟨w8b.heap.size,0,none⟩) 2 2)=w10 at D10 SK ⊢
  clear D9 H9 D8 H8
  go_upto_region 7 with fail
  have D11:=aA ((uH D10).set 3 (.int .i64 1003))
  have SI:=aA ((uH D10).setH 3 (.int .i64 1003) (uH SK))
  refine wp_region_lit ?_
  refine aC (v:=.pointer (some ⟨b,3,none⟩)) (d:=some 34) rfl rfl (by go_simp) ?_
  try simp only [zW]
  refine bM (d:=none) rfl rfl (fC (dP 3 (.int .i64 1003) (uH D10).x (by show 3<8;decide) (by kernel_rfl) rfl)) ?_
  try simp only [Act.put]
  generalize w10.setCell ⟨b,3,none⟩ (.int .i64 1003)=w11 at D11 SI ⊢
  have S11:=aA ((uH S6).two lz (1+x27) hlz)
  obtain ⟨y,s,hs,VT,D12,S12,h12⟩:∃y s hs,Hid (dQ w.heap.size w11 y s hs)∧Hid (DT w B g ao len cap b (svc y s) w11)∧Hid (SmS s 2 1 0)∧s.apps.length=2:=by
   have VT:=uH SI
   exact ⟨⟨y.qa,y.ql,y.qc,some ⟨w8b.heap.size,0,none⟩,2,2,y.ma,y.ml,y.mc,y.ca,y.cl,y.cc⟩,⟨s.qs,s.clock,s.epoch,1003,s.serial,[⟨1001,[97],[]⟩,⟨1002,lz,[⟨2,1,1+x27,[],0⟩]⟩],s.ms,s.cs⟩,_,aA ⟨VT.q,VT.p,VT.k,VT.m,VT.c,VT.cap,VT.rm⟩,aA (uH D11),S11,rfl⟩
  have Z8:=aA h12
  clear SI D11 S11 D10 SK S6 h12 hxa hxb hlz
  go_wp2_with fail
  refine (aU 9 _ (uH D12).c (by decide) (by decide)).mono ?_
  rintro e w13 ⟨nn,rfl,hn0,hn1,Yj,YZ⟩
  have D13:=aA ((uH D12).cur Yj.1 YZ)
  have Uw:=aA ((uH D12).off Yj.1 YZ (uH VT))
  obtain ⟨nc,rfl⟩:=Int.eq_ofNat_of_zero_le hn0
  have hnc:nc≤8:=by omega
  clear D12 VT Yj YZ hn0 hn1
  go_wp2
  go_loopw [7] (fun i wr=>∃(k:Nat) (y:Sls) (s:St) (hs:List AV),k≤nc∧i=.int .i64 k∧Hid (DT w B g ao len cap b (svc y s) wr)∧Hid (dQ w.heap.size wr y s hs)∧Hid (SmS s 2 1 k)∧Hid (s.apps.length=2)) (fun i _=>nc - (intOf i).toNat)
  case atStart=>exact ⟨0,y,s,hs,Nat.zero_le _,rfl,D13,Uw,S12,Z8⟩
  case round=>
   clear D13 Uw S12 Z8
   obtain ⟨k,y,s,hs,hk,rfl,HD,HH,HS,HL⟩:=hrel
   by_cases hlt:k<nc
   ·have k2:(k:Int)<nc:=by omega
    go_upto_region 12 with fail
    refine wp_region_lit ?_
    refine aC (v:=.int .i64 k) (d:=some 42) rfl rfl rfl ?_
    try simp only [zW]
    refine aC (v:=.int .i64 (1+k)) (d:=some 43) rfl rfl (by go_simp;rw [IntKind.wrap_i64];omega) ?_
    try simp only [zW]
    refine aC (v:=.pointer (some ⟨g,0,none⟩)) (d:=some 44) rfl rfl rfl ?_
    try simp only [zW]
    refine wpList_plain rfl (fun K hK=>?_)
    go_simp
    refine (aU 5 _ (uH HD).c (by decide) (by decide)).mono ?_
    rintro e wa ⟨x45,rfl,x45a,x45b,hcn,hgn⟩
    refine hK _ _ ?_
    clear hK K
    try simp only [zW]
    replace HH:=aA ((uH HD).off hcn.1 hgn (uH HH))
    replace HD:=aA ((uH HD).cur hcn.1 hgn)
    clear hcn hgn
    obtain ⟨dq,hdq,hda,hdb⟩:∃dq:Int,x45.tdiv 4=dq∧0≤dq∧dq≤1:=⟨_,rfl,by rcases (show x45=0∨x45=1∨x45=2∨x45=3∨x45=4 by omega) with rfl | rfl | rfl | rfl | rfl<;>decide⟩
    refine aC (v:=.int .i64 dq) (d:=some 46) rfl rfl (by rw [←hdq];rcases (show x45=0∨x45=1∨x45=2∨x45=3∨x45=4 by omega) with rfl | rfl | rfl | rfl | rfl<;>rfl) ?_
    try simp only [zW]
    refine aC (v:=.int .i64 (1001+dq)) (d:=some 47) rfl rfl (by go_simp;rw [IntKind.wrap_i64];omega) ?_
    try simp only [zW]
    refine aC (v:=.pointer (some ⟨g,0,none⟩)) (d:=some 48) rfl rfl rfl ?_
    try simp only [zW]
    refine wpList_plain rfl (fun K hK=>?_)
    go_simp
    refine (aU 4 _ (uH HD).c (by decide) (by decide)).mono ?_
    rintro e wb ⟨x49,rfl,x49a,x49b,hcn,hgn⟩
    refine hK _ _ ?_
    clear hK K
    try simp only [zW]
    replace HH:=aA ((uH HD).off hcn.1 hgn (uH HH))
    replace HD:=aA ((uH HD).cur hcn.1 hgn)
    clear hcn hgn
    refine aC (v:=.int .i64 (1+x49)) (d:=some 50) rfl rfl (by go_simp;rw [IntKind.wrap_i64];omega) ?_
    try simp only [zW]
    refine aC (v:=.pointer (some ⟨g,0,none⟩)) (d:=some 51) rfl rfl rfl ?_
    try simp only [zW]
    refine wpList_plain rfl (fun K hK=>?_)
    go_simp
    refine (aU 3 _ (uH HD).c (by decide) (by decide)).mono ?_
    rintro e wc ⟨x52,rfl,x52a,x52b,hcn,hgn⟩
    refine hK _ _ ?_
    clear hK K
    try simp only [zW]
    replace HH:=aA ((uH HD).off hcn.1 hgn (uH HH))
    replace HD:=aA ((uH HD).cur hcn.1 hgn)
    clear hcn hgn
    refine aC (v:=.agg #[.int .i64 (1+x49),.int .i64 x52]) (d:=some 53) rfl rfl (by first | rfl | (go_simp;done) | (go_simp;rfl) | (refine bI ?_;simp only [List.map_toArray,List.map_cons,List.map_nil];kernel_rfl)) ?_
    try simp only [zW]
    refine aC (v:=.agg #[.int .i64 (1+k),.int .i64 (1001+dq),.string ⟨#[109,49]⟩,.int .i64 (1+x49),.int .i64 x52]) (d:=some 54) rfl rfl (by first | rfl | (go_simp;done) | (go_simp;rfl) | (refine bI ?_;simp only [List.map_toArray,List.map_cons,List.map_nil];kernel_rfl)) ?_
    try simp only [zW]
    refine eH (v:=.pointer (some ⟨wc.heap.size,0,none⟩)) (d:=some 8) rfl rfl (bI (bS wc 52 #[.int .i64 0,.int .i64 0,.string ⟨#[]⟩,.int .i64 0,.int .i64 0] (by kernel_rfl))) ?_
    try simp only [zW]
    have hbx:=yA (yH _ wc) (.cells #[.int .i64 0,.int .i64 0,.string ⟨#[]⟩,.int .i64 0,.int .i64 0] 52)
    have BX:=yD wc #[.int .i64 0,.int .i64 0,.string ⟨#[]⟩,.int .i64 0,.int .i64 0] 52
    have hxl:b<wc.heap.size:=(uH HD).x.lt
    replace HD:=aA ((uH HD).below hbx)
    have AA:=(uH HH).ans.below hbx
    clear hbx HH
    generalize wc.alloc (.cells #[.int .i64 0,.int .i64 0,.string ⟨#[]⟩,.int .i64 0,.int .i64 0] 52)=wd at HD AA BX ⊢
    generalize wc.heap.size=bx at BX AA hxl ⊢
    refine bM (d:=none) rfl rfl (fC (bP 52 (arr:=#[.int .i64 (1+k),.int .i64 (1001+dq),.string ⟨#[109,49]⟩,.int .i64 (1+x49),.int .i64 x52]) BX (by kernel_rfl) rfl (by kernel_rfl))) ?_
    try simp only [Act.put]
    have MX:=iV BX #[.int .i64 (1+k),.int .i64 (1001+dq),.string ⟨#[109,49]⟩,.int .i64 (1+x49),.int .i64 x52] rfl
    have HX:=aA (jT BX #[.int .i64 (1+k),.int .i64 (1001+dq),.string ⟨#[109,49]⟩,.int .i64 (1+x49),.int .i64 x52])
    have HH:=aA ((AA.mks MX (fun k e=>.inr (by subst e;exact yJ _))).has (by have:=(uH HX).lt;omega))
    replace HD:=aA ((uH HD).mks MX (fun k e=>⟨by subst e;omega,_,_,⟨_,by subst e;exact BX,rfl⟩,by decide⟩))
    clear MX AA BX
    generalize World.setRow wd bx #[.int .i64 (1+k),.int .i64 (1001+dq),.string ⟨#[109,49]⟩,.int .i64 (1+x49),.int .i64 x52]=we at HD HH HX ⊢
    have Xk:=aA ((uH HS).fit (by decide) (by decide) (by omega))
    go_upto_region 13 with fail
    refine wp_region_held_drew (S:=fun wx=>(DT w B g ao len cap b (svc y s) wx∧dQ w.heap.size wx y s hs)∧Blk wx bx #[.int .i64 (1+k),.int .i64 (1001+dq),.string ⟨#[109,49]⟩,.int .i64 (1+x49),.int .i64 x52] 52) (by kernel_rfl) ⟨⟨(uH HD).below (yH _ _).drew,(uH HH).below (yH _ _).drew⟩,(uH HX).below (yH _ _).drew⟩ (fun S0=>?_)
    generalize we.drew=wn at S0 ⊢
    refine tW 0 55 _ S0 ?_
    simp only [zW]
    refine bW 1 56 (.agg #[.int .i64 (1+x49),.int .i64 x52]) rfl rfl S0 ?_ (hy:=Or.inl ⟨by rfl,fun wz hz=>by (have c3:=hz.2.at 3;have c4:=hz.2.at 4;simp at c3 c4;go_simp)⟩)
    try simp only [zW]
    refine bW 2 57 (sv y s) rfl rfl S0 ?_ (hy:=Or.inl ⟨by rfl,fun wz hz=>bI (bF (DT.x hz.1.1) rfl)⟩)
    try simp only [zW]
    refine yRq 3 rfl (fun K hK=>?_)
    go_simp
    refine (oN y s [109,49] _ S0.1.2.ans.row (uH Xk)).mono ?_
    rintro e wm ⟨rfl,QM⟩
    have S1:=And.intro (And.intro (S0.1.1.below QM) (S0.1.2.below QM)) (S0.2.below QM)
    clear S0 QM
    go_wp2_with fail
    refine hK.out _ _ S1 (fun S0=>?_)
    clear hK K S1
    try simp only [zW]
    obtain ⟨wn,rfl⟩:∃z,z=wm:=⟨_,rfl⟩
    generalize sI s [109,49]=fr
    obtain ⟨fx,fy⟩:=fr
    refine yRq 4 rfl (fun K hK=>?_)
    go_simp
    refine (eD (1+x49) x52 fx fy _).mono ?_
    rintro e wm ⟨rfl,QM⟩
    have S1:=And.intro (And.intro (S0.1.1.below QM) (S0.1.2.below QM)) (S0.2.below QM)
    clear S0 QM
    go_wp2_with fail
    refine hK.out _ _ S1 (fun S0=>?_)
    clear hK K S1
    try simp only [zW]
    obtain ⟨wn,rfl⟩:∃z,z=wm:=⟨_,rfl⟩
    refine wpAnyH_done (by kernel_rfl) ?_ _
    generalize within (1+x49) x52 fx fy=aB4
    replace HD:=aA S0.1.1
    replace HH:=aA S0.1.2
    replace HX:=aA S0.2
    clear S0 Xk
    cases aB4
    ·go_wp2_with fail
     go_wp2
     go_roundw
     case rel=>exact ⟨k+1,y,s,hs,by omega,by go_num,HD,HH,aA ((uH HS).mono (yJ 2) (yJ 1) (Nat.le_succ k)),HL⟩
     case measure=>simp [intOf];omega
    ·go_upto_region 14 with fail
     have QC:=aA (show y.cl≤1000 by have:=(uH HH).c.1.1;have:=(uH HS).cl;omega)
     have X0:=(uH HD).x
     have hbn:=yA (yH _ wn) (.cells #[.int .i64 (1+k),.int .i64 (1001+dq),.string ⟨#[109,49]⟩,.int .i64 (1+x49),.int .i64 x52] 52)
     obtain ⟨g4,cq,w4,gq,HR⟩:=aLE (B:=w.heap.size) (uH HH).c.1 (uH HH).rm.2.2.2.1 (uH HH).cap.c (uH QC) (uH HD).c.2.2.1.size ⟨1+k,1001+dq,[109,49],1+x49,x52⟩
     simp only at gq HR
     have H2:=((uH HH).below hbn).addC ⟨1+k,1001+dq,[109,49],1+x49,x52⟩ (uH HR)
     have D2:=((uH HD).below hbn).mks (uH HR).mks (fun k ⟨N,hc,hB⟩=>⟨hB,_,N,hc,by decide⟩)
     have D3:=aA (D2.set 7 (.slice (some ⟨g4,0,none⟩) (y.cl+1) cq))
     have H3:=aA (D2.setH 7 (.slice (some ⟨g4,0,none⟩) (y.cl+1) cq) H2)
     have S3:=aA ((uH HS).addC ⟨1+k,1001+dq,[109,49],1+x49,x52⟩ ⟨by show ([109,49]:List UInt8).length≤12;decide,by show 0≤1001+dq;omega,by show 1001+dq≤100000;omega⟩)
     refine wp_region_lit ?_
     refine aC (v:=.pointer (some ⟨b,7,none⟩)) (d:=some 60) rfl rfl (by go_simp) ?_
     try simp only [zW]
     refine aC (v:=.slice y.ca y.cl y.cc) (d:=some 61) rfl rfl (by (have c7:=X0.at 7;simp at c7;go_simp)) ?_
     try simp only [zW]
     refine aC (v:=.agg #[.int .i64 (1+k),.int .i64 (1001+dq),.string ⟨#[109,49]⟩,.int .i64 (1+x49),.int .i64 x52]) (d:=some 62) rfl rfl (bI (aCr (uH HX) rfl)) ?_
     try simp only [zW]
     refine eH (v:=.slice (some ⟨wn.heap.size,0,none⟩) 1 1) (d:=some 63) rfl rfl (bI (mY wn 27 52 _ (.agg #[.int .i64 0,.int .i64 0,.string ByteArray.empty,.int .i64 0,.int .i64 0]) (.int .i64 (1+k)) (.int .i64 (1001+dq)) (.string ⟨#[109,49]⟩) (.int .i64 (1+x49)) (.int .i64 x52) Tryz.underlying27 (by kernel_rfl) (by simp only [List.map_toArray,List.map_cons,List.map_nil];rfl))) ?_
     try simp only [zW]
     refine eH (v:=.slice (some ⟨g4,0,none⟩) (y.cl+1) cq) (d:=some 64) rfl rfl (eY rfl rfl rfl gq) ?_
     try simp only [zW]
     refine aC (v:=.pointer (some ⟨b,7,none⟩)) (d:=some 65) rfl rfl (by go_simp) ?_
     try simp only [zW]
     refine bM (d:=none) rfl rfl (fC (dP 27 (.slice (some ⟨g4,0,none⟩) (y.cl+1) cq) D2.x (by show 7<8;decide) (by kernel_rfl) rfl)) ?_
     try simp only [Act.put]
     clear gq H2 D2 HR hbn X0 HD HX HH
     generalize w4.setCell ⟨b,7,none⟩ (.slice (some ⟨g4,0,none⟩) (y.cl+1) cq)=w5 at D3 H3 ⊢
     go_wp2
     go_roundw
     case rel=>exact ⟨k+1,⟨y.qa,y.ql,y.qc,y.aa,y.al,y.ac,y.ma,y.ml,y.mc,some ⟨g4,0,none⟩,y.cl+1,cq⟩,⟨s.qs,s.clock,s.epoch,s.next,s.serial,s.apps,s.ms,s.cs++[⟨1+k,1001+dq,[109,49],1+x49,x52⟩]⟩,hs,by omega,by go_num,D3,H3,S3,HL⟩
     case measure=>simp [intOf];omega
   ·have k2:¬(k:Int)<nc:=by omega
    have HE:=aA ((uH HS).mono (yJ 2) (yJ 1) (show k≤8 by omega))
    go_upto_region 15 with fail
    refine wp_region_lit ?_
    refine aC (v:=.agg (svc y s)) (d:=some 66) rfl rfl (bI (bF (uH HD).x rfl)) ?_
    try simp only [zW]
    refine bM (d:=none) rfl rfl (fC (bP 29 (arr:=svc y s) (uH HD).r (by kernel_rfl) rfl (by kernel_rfl))) ?_
    try simp only [Act.put]
    have RR:=aA (jT (uH HD).r (svc y s))
    have MM:=iV (uH HD).r (svc y s) rfl
    have H9:=aA ((uH HH).off MM (nD (uH HD).r (by decide) (by decide) (by decide) (by decide) (by decide)))
    have C9:=(uH HD).c.mks MM (fun k e=>by subst e;omega)
    have C8:=aA ((uH HW).step C9.1 C9.2.2.1)
    clear MM C9 HD HH HS HW
    generalize World.setRow wr w.heap.size (svc y s)=W9 at RR H9 C8 ⊢
    obtain ⟨z0,z1,z2,z3,z4,z5,z6,z7⟩:=zq (uH RR)
    go_wp2
    refine bodyPost_ret (v:=sv y s) (by simp [results,Tryz.results23,go_sem,z0,z1,z2,z3,z4,z5,z6,z7]) rfl ?_
    exact ⟨y,s,rfl,⟨hs,H9⟩,HE,HL,C8⟩
theorem aCk (B:Nat) (ao:Option Addr) (len cap:Nat) (w:World) (hcode:Code w B ao len) :
  cP 7 #[.slice ao len cap] w fun e w'=>∃y s hs l,e=.returned (.tuple #[sv y s,.string (bs l)])∧Hid (DrU w' y s hs)∧l.length≤12∧Hid (Bw w w'):=by
 have b0:=yA (yH _ w) (.cells #[.slice none 0 0,.int .i64 0,.int .i64 0,.int .i64 0,.int .i64 0,.slice none 0 0,.slice none 0 0,.slice none 0 0] 29)
 have HK:=aA (hcode.below (B':=w.heap.size) (yA (yH _ w) (.cells #[.slice none 0 0,.int .i64 0,.int .i64 0,.int .i64 0,.int .i64 0,.slice none 0 0,.slice none 0 0,.slice none 0 0] 29)) hcode.1)
 have R0:=aA (yD w #[.slice none 0 0,.int .i64 0,.int .i64 0,.int .i64 0,.int .i64 0,.slice none 0 0,.slice none 0 0,.slice none 0 0] 29)
 have HB0:=aA b0
 clear hcode b0
 go_enter Tryz.func7,Tryz.ntmps7
 go_wp2_with fail
 refine (aJM B ao len cap _ (uH HK)).mono ?_
 rintro e w2 ⟨rfl,hc2⟩
 rw [yE] at hc2 ⊢
 obtain ⟨w1,hw1⟩:∃w1,w.alloc (.cells #[.slice none 0 0,.int .i64 0,.int .i64 0,.int .i64 0,.int .i64 0,.slice none 0 0,.slice none 0 0,.slice none 0 0] 29)=w1:=⟨_,rfl⟩
 have hz1:w1.heap.size=w.heap.size+1:=by rw [←hw1,yE]
 rw [hw1] at hc2 R0 HB0
 have C2:=aA hc2
 have R2:=aA (show Blk w2 w.heap.size #[.slice none 0 0,.int .i64 0,.int .i64 0,.int .i64 0,.int .i64 0,.slice none 0 0,.slice none 0 0,.slice none 0 0] 29 from (hc2.2.2.1.block w.heap.size (by omega) (fun e=>by simp at e)).trans (uH R0))
 clear hc2 HK hw1 R0
 go_wp2_with fail
 refine (aBy _ (uH C2).rebase).mono ?_
 rintro e w3 ⟨y,s,hs,rfl,hd,hc3⟩
 have C3:=aA ((uH C2).step (uH hc3).1 (uH hc3).2.2.1)
 have R3:=aA ((dW (uH C2).1 (uH hc3).1 (uH hc3).2.2.1).blk (uH R2) (by omega))
 have b4:=yA (yH _ w3) (.cells (svc y s) 29)
 have C4:=aA ((uH C3).below b4)
 have R4:=aA ((uH R3).below b4)
 have D4:=aA ((uH hd).below b4)
 have X4:=aA (yD w3 (svc y s) 29)
 have hz3:w.heap.size+1<w3.heap.size:=(uH C3).1.lt
 clear hd hc3 C2 C3 R2 R3 b4
 go_upto_region 3 with fail
 generalize w3.alloc (.cells (svc y s) 29)=w4 at C4 R4 D4 X4 ⊢
 generalize w3.heap.size=b at X4 hz3 ⊢
 refine wp_region_held_drew (S:=fun wx=>Blk wx b (svc y s) 29) (by kernel_rfl) ((uH X4).drew) (fun S0=>?_)
 have C5:=aA ((uH C4).below (yH _ w4).drew)
 have R5:=aA ((uH R4).below (yH _ w4).drew)
 have D5:=aA ((uH D4).below (yH _ w4).drew)
 clear C4 R4 D4 X4
 generalize w4.drew=wn at S0 C5 R5 D5 ⊢
 refine bW 0 10 (sv y s) rfl rfl S0 ?_ (hy:=Or.inl ⟨by rfl,fun wz hz=>bI (bF hz rfl)⟩)
 try simp only [zW]
 refine tW 1 11 _ S0 ?_
 simp only [zW]
 refine yRq 2 rfl (fun K hK=>?_)
 go_simp
 refine (aE0 _ (uH C5).rebase).mono ?_
 rintro e wm ⟨l,rfl,hx0,hcm⟩
 have hm:=dW (uH C5).1 hcm.1 hcm.2.2.1
 have S1:=hm.blk S0 (by omega)
 have C6:=aA ((uH C5).step hcm.1 hcm.2.2.1)
 have R6:=aA (hm.blk (uH R5) (by omega))
 have D6:=aA ((uH D5).cur (uH C5).1 hcm.1 hcm.2.2.1)
 clear S0 hcm hm C5 R5 D5
 go_wp2_with fail
 refine hK.out _ _ S1 (fun S0=>?_)
 clear hK K S1
 try simp only [zW]
 have HZ:=aA (show Blk wm w.heap.size (svc ⟨none,0,0,none,0,0,none,0,0,none,0,0⟩ ⟨[],0,0,0,0,[],[],[]⟩) 29 from uH R6)
 have MM:=iV (uH R6) (svc y s) rfl
 have S1:=MM.blk S0 (by omega)
 have RR:=aA (jT (uH R6) (svc y s))
 have D7:=aA ((uH D6).mkb MM (uH HZ)).use
 have B7:=aA (show Bw w _ from ((uH HB0).trans (((uH C6).done (by omega)).mono (by omega))).trans (MM.below (fun k e=>by subst e;exact yJ _) (by have:=(uH C6).2.2.1.size;omega)))
 refine yRq 3 rfl (fun K hK=>fQ (by rfl) rfl (fC (bP 29 (arr:=svc y s) (uH R6) (by kernel_rfl) rfl (by kernel_rfl))) ?_)
 refine hK.out _ _ S1 (fun S0=>?_)
 clear hK K S1
 try simp only [zW]
 refine tW 4 3 _ S0 ?_
 simp only [zW]
 refine wpAnyH_done (by kernel_rfl) ?_ _
 clear MM HZ R6 C6 D6 S0
 generalize World.setRow wm w.heap.size (svc y s)=W9 at RR D7 B7 ⊢
 obtain ⟨z0,z1,z2,z3,z4,z5,z6,z7⟩:=zq (uH RR)
 go_wp2
 refine bodyPost_ret (v:=.tuple #[sv y s,.string (bs l)]) (by simp [results,Tryz.results7,go_sem,z0,z1,z2,z3,z4,z5,z6,z7]) rfl ?_
 exact ⟨y,s,hs,l,rfl,D7,hx0,B7⟩
theorem aII {c:Nat} (h:dQ B w y s hs) (hl:s.apps.length=2) (hm:SmS s 2 1 c):∃ga lq,B≤ga∧y.aa=some ⟨ga,0,none⟩∧y.al=2∧lq.length≤12∧w.cell? ⟨ga,4,none⟩=some (.string (bs lq)):=by
 have h1:hs.length=2:=by rw [h.k.heads.1,hl]
 have h2:y.al=2:=by rw [h.p.1.1,h1]
 obtain ⟨ga,M,e,hBg,_,_⟩:=nC h.p.2 (by omega)
 rcases h.p.1.2 with h3 | ⟨b',off,e2,h4⟩
 ·omega
 ·rw [e] at e2
  cases e2
  have h5:=(h4 1 (by omega)).2.1
  have h6:=(h.k.heads.2 1 (by omega) (by omega)).2.1
  have h7:=(hm.ap s.apps[1] (yM _)).1
  exact ⟨ga,hs[1].queue,hBg,e,h2,by rw [h6];exact h7,h5⟩
theorem yT (B:Nat) (ao:Option Addr) (len cap:Nat) (w:World) (hcode:Code w B ao len) :
  cP 5 #[.slice ao len cap] w fun e w'=>∃y s hs l,e=.returned (.tuple #[sv y s,.string (bs l)])∧Hid (DrU w' y s hs)∧l.length≤12∧Hid (Bw w w'):=by
 have b0:=yA (yH _ w) (.cells #[.slice none 0 0,.int .i64 0,.int .i64 0,.int .i64 0,.int .i64 0,.slice none 0 0,.slice none 0 0,.slice none 0 0] 29)
 have HK:=aA (hcode.below (B':=w.heap.size) (yA (yH _ w) (.cells #[.slice none 0 0,.int .i64 0,.int .i64 0,.int .i64 0,.int .i64 0,.slice none 0 0,.slice none 0 0,.slice none 0 0] 29)) hcode.1)
 have R0:=aA (yD w #[.slice none 0 0,.int .i64 0,.int .i64 0,.int .i64 0,.int .i64 0,.slice none 0 0,.slice none 0 0,.slice none 0 0] 29)
 have HB0:=aA b0
 clear hcode b0
 go_enter Tryz.func5,Tryz.ntmps5
 go_wp2_with fail
 refine (aJM B ao len cap _ (uH HK)).mono ?_
 rintro e w2 ⟨rfl,hc2⟩
 rw [yE] at hc2 ⊢
 obtain ⟨w1,hw1⟩:∃w1,w.alloc (.cells #[.slice none 0 0,.int .i64 0,.int .i64 0,.int .i64 0,.int .i64 0,.slice none 0 0,.slice none 0 0,.slice none 0 0] 29)=w1:=⟨_,rfl⟩
 have hz1:w1.heap.size=w.heap.size+1:=by rw [←hw1,yE]
 rw [hw1] at hc2 R0 HB0
 have C2:=aA hc2
 have R2:=aA (show Blk w2 w.heap.size #[.slice none 0 0,.int .i64 0,.int .i64 0,.int .i64 0,.int .i64 0,.slice none 0 0,.slice none 0 0,.slice none 0 0] 29 from (hc2.2.2.1.block w.heap.size (by omega) (fun e=>by simp at e)).trans (uH R0))
 clear hc2 HK hw1 R0
 go_wp2_with fail
 refine (aD2 2 _ (uH C2).rebase (by decide) (by decide)).mono ?_
 rintro e wo ⟨on,rfl,hco⟩
 have Ro:=aA ((dW (uH C2).1 hco.1 hco.2.2.1).blk (uH R2) (by omega))
 have Co:=aA ((uH C2).step hco.1 hco.2.2.1)
 clear hco C2 R2
 cases on
 ·go_wp2_with fail
  refine (aBy _ (uH Co).rebase).mono ?_
  rintro e w3 ⟨y,s,hs,rfl,hd,hc3⟩
  have C3:=aA ((uH Co).step (uH hc3).1 (uH hc3).2.2.1)
  have R3:=aA ((dW (uH Co).1 (uH hc3).1 (uH hc3).2.2.1).blk (uH Ro) (by omega))
  have b4:=yA (yH _ w3) (.cells (svc y s) 29)
  have C4:=aA ((uH C3).below b4)
  have R4:=aA ((uH R3).below b4)
  have D4:=aA ((uH hd).below b4)
  have X4:=aA (yD w3 (svc y s) 29)
  have hz3:w.heap.size+1<w3.heap.size:=(uH C3).1.lt
  clear hd hc3 Co C3 Ro R3 b4
  go_upto_region 6 with fail
  generalize w3.alloc (.cells (svc y s) 29)=w4 at C4 R4 D4 X4 ⊢
  generalize w3.heap.size=b at X4 hz3 ⊢
  refine wp_region_held_drew (S:=fun wx=>Blk wx b (svc y s) 29) (by kernel_rfl) ((uH X4).drew) (fun S0=>?_)
  have C5:=aA ((uH C4).below (yH _ w4).drew)
  have R5:=aA ((uH R4).below (yH _ w4).drew)
  have D5:=aA ((uH D4).below (yH _ w4).drew)
  clear C4 R4 D4 X4
  generalize w4.drew=wn at S0 C5 R5 D5 ⊢
  refine bW 0 21 (sv y s) rfl rfl S0 ?_ (hy:=Or.inl ⟨by rfl,fun wz hz=>bI (bF hz rfl)⟩)
  try simp only [zW]
  refine tW 1 22 _ S0 ?_
  simp only [zW]
  refine yRq 2 rfl (fun K hK=>?_)
  go_simp
  refine (aE0 _ (uH C5).rebase).mono ?_
  rintro e wm ⟨l,rfl,hx0,hcm⟩
  have hm:=dW (uH C5).1 hcm.1 hcm.2.2.1
  have S1:=hm.blk S0 (by omega)
  have C6:=aA ((uH C5).step hcm.1 hcm.2.2.1)
  have R6:=aA (hm.blk (uH R5) (by omega))
  have D6:=aA ((uH D5).cur (uH C5).1 hcm.1 hcm.2.2.1)
  clear S0 hcm hm C5 R5 D5
  go_wp2_with fail
  refine hK.out _ _ S1 (fun S0=>?_)
  clear hK K S1
  try simp only [zW]
  have HZ:=aA (show Blk wm w.heap.size (svc ⟨none,0,0,none,0,0,none,0,0,none,0,0⟩ ⟨[],0,0,0,0,[],[],[]⟩) 29 from uH R6)
  have MM:=iV (uH R6) (svc y s) rfl
  have S1:=MM.blk S0 (by omega)
  have RR:=aA (jT (uH R6) (svc y s))
  have D7:=aA ((uH D6).mkb MM (uH HZ)).use
  have B7:=aA (show Bw w _ from ((uH HB0).trans (((uH C6).done (by omega)).mono (by omega))).trans (MM.below (fun k e=>by subst e;exact yJ _) (by have:=(uH C6).2.2.1.size;omega)))
  refine yRq 3 rfl (fun K hK=>fQ (by rfl) rfl (fC (bP 29 (arr:=svc y s) (uH R6) (by kernel_rfl) rfl (by kernel_rfl))) ?_)
  refine hK.out _ _ S1 (fun S0=>?_)
  clear hK K S1
  try simp only [zW]
  refine tW 4 3 _ S0 ?_
  simp only [zW]
  refine wpAnyH_done (by kernel_rfl) ?_ _
  clear MM HZ R6 C6 D6 S0
  generalize World.setRow wm w.heap.size (svc y s)=W9 at RR D7 B7 ⊢
  obtain ⟨z0,z1,z2,z3,z4,z5,z6,z7⟩:=zq (uH RR)
  go_wp2
  refine bodyPost_ret (v:=.tuple #[sv y s,.string (bs l)]) (by simp [results,Tryz.results5,go_sem,z0,z1,z2,z3,z4,z5,z6,z7]) rfl ?_
  exact ⟨y,s,hs,l,rfl,D7,hx0,B7⟩
 ·go_wp2_with fail
  refine (aIJ _ (uH Co).rebase).mono ?_
  rintro e w3 ⟨y,s,hs,rfl,hh,hsm,hal,hc3⟩
  have hd:=aA (DrS.of (uH hh) (uH Co).1.lt ((uH hsm).fit (by decide) (by decide) (by decide)) (uH hsm).wf)
  have C3:=aA ((uH Co).step (uH hc3).1 (uH hc3).2.2.1)
  have R3:=aA ((dW (uH Co).1 (uH hc3).1 (uH hc3).2.2.1).blk (uH Ro) (by omega))
  have b4:=yA (yH _ w3) (.cells (svc y s) 29)
  have C4:=aA ((uH C3).below b4)
  have R4:=aA ((uH R3).below b4)
  have D4:=aA ((uH hd).below b4)
  have X4:=aA (yD w3 (svc y s) 29)
  have hz3:w.heap.size+1<w3.heap.size:=(uH C3).1.lt
  obtain ⟨ga,lq,hgB,hga,hl2,hlq,Q8⟩:=aII (uH hh) (uH hal) (uH hsm)
  have CQ:=aA (iB Q8 b4)
  have hgw:w.heap.size<ga:=Nat.lt_of_lt_of_le (by have:=(uH Co).1.lt;omega) hgB
  have HGA:=aA hga
  have HL2:=aA hl2
  clear hh hsm hal Q8 hga hl2 hd hc3 Co C3 Ro R3 b4
  go_upto_region 4 with fail
  generalize w3.alloc (.cells (svc y s) 29)=w4 at C4 R4 D4 X4 CQ ⊢
  generalize w3.heap.size=b at X4 hz3 ⊢
  refine wp_region_held_drew (S:=fun wx=>Blk wx b (svc y s) 29∧wx.cell? ⟨ga,4,none⟩=some (.string (bs lq))) (by kernel_rfl) ⟨(uH X4).drew,uH CQ⟩ (fun S0=>?_)
  have R6:=aA ((uH R4).below (yH _ w4).drew)
  have C6:=aA ((uH C4).below (yH _ w4).drew)
  have D6:=aA ((uH D4).below (yH _ w4).drew)
  clear C4 R4 D4 X4 CQ
  generalize w4.drew=wm at S0 C6 R6 D6 ⊢
  refine bW 0 13 (sv y s) rfl rfl S0 ?_ (hy:=Or.inl ⟨by rfl,fun wz hz=>bI (bF hz.1 rfl)⟩)
  try simp only [zW]
  refine tW 1 14 _ S0 ?_
  simp only [zW]
  refine bW 2 15 (.slice (some ⟨ga,0,none⟩) y.al y.ac) rfl rfl S0 ?_ (hy:=Or.inl ⟨by rfl,fun wz hz=>by (have c5:=hz.1.at 5;simp at c5;rw [uH HGA] at c5;go_simp)⟩)
  try simp only [zW]
  refine bW 3 16 (.pointer (some ⟨ga,3,none⟩)) rfl rfl S0 ?_ (hy:=Or.inl ⟨by rfl,fun wz hz=>by (have i1:(1:Int)<y.al:=(by have:=uH HL2;omega);go_simp)⟩)
  try simp only [zW]
  refine tW 4 17 _ S0 ?_
  simp only [zW]
  refine bW 5 18 (.string (bs lq)) rfl rfl S0 ?_ (hy:=Or.inl ⟨by rfl,fun wz hz=>by (have c5:=hz.2;go_simp)⟩)
  try simp only [zW]
  have HZ:=aA (show Blk wm w.heap.size (svc ⟨none,0,0,none,0,0,none,0,0,none,0,0⟩ ⟨[],0,0,0,0,[],[],[]⟩) 29 from uH R6)
  have MM:=iV (uH R6) (svc y s) rfl
  have RR:=aA (jT (uH R6) (svc y s))
  have D7:=aA ((uH D6).mkb MM (uH HZ)).use
  have B7:=aA (show Bw w _ from ((uH HB0).trans (((uH C6).done (by omega)).mono (by omega))).trans (MM.below (fun k e=>by subst e;exact yJ _) (by have:=(uH C6).2.2.1.size;omega)))
  have S1:=show Blk (World.setRow wm w.heap.size (svc y s)) b (svc y s) 29∧(World.setRow wm w.heap.size (svc y s)).cell? ⟨ga,4,none⟩=some (.string (bs lq)) from ⟨MM.blk S0.1 (by omega),by
   have:=MM.block ga (yG S0.2) (by omega)
   have h2:=S0.2
   simp only [World.cell?] at h2 ⊢
   rw [this]
   exact h2⟩
  refine yRq 6 rfl (fun K hK=>fQ (by rfl) rfl (fC (bP 29 (arr:=svc y s) (uH R6) (by kernel_rfl) rfl (by kernel_rfl))) ?_)
  refine hK.out _ _ S1 (fun S0=>?_)
  clear hK K S1
  try simp only [zW]
  refine tW 7 3 _ S0 ?_
  simp only [zW]
  refine wpAnyH_done (by kernel_rfl) ?_ _
  clear MM HZ R6 C6 D6 S0
  generalize World.setRow wm w.heap.size (svc y s)=W9 at RR D7 B7 ⊢
  obtain ⟨z0,z1,z2,z3,z4,z5,z6,z7⟩:=zq (uH RR)
  go_wp2
  refine bodyPost_ret (v:=.tuple #[sv y s,.string (bs lq)]) (by simp [results,Tryz.results5,go_sem,z0,z1,z2,z3,z4,z5,z6,z7]) rfl ?_
  exact ⟨y,s,hs,lq,rfl,D7,hlq,B7⟩
structure VI (s:St) (nm:List UInt8) (l1 l2:Int) (VS:List Con) (k:Nat) (L:List Con) (g1 g2:Int):Prop where
 sub:L.Sublist s.cs
 ok:aW (aZ s L)=true
 m:∃m,L.length<m∧tL s (l1,l2) m L (g1,g2)=VS.drop k
theorem VI.start (h:aW s=true):VI s nm l1 l2 (tL s (l1,l2) (s.cs.length+1) s.cs (0,0)) 0 s.cs 0 0:=
 ⟨List.Sublist.refl _,h,_,Nat.lt_succ_self _,rfl⟩
theorem VI.step (hs:aW s=true) (hst:(dJ s).any (fun x=>decide (x=nm))=true) (h:VI s nm l1 l2 VS k L g1 g2) (hk:k<VS.length) :
  ∃(c:Con) (L':List Con),VS[k]=c∧c ∈ s.cs∧within l1 l2 g1 g2=false∧iM (aZ s L) (rQ (aZ s L) c)=true∧¬rQ (aZ s L) c=nm∧aBo (aZ s L) [c.id]=(aZ s L',[c])∧VI s nm l1 l2 VS (k+1) L' (aDF (g1,g2) c).1 (aDF (g1,g2) c).2:=by
 obtain ⟨h1,h2,m,h3,h4⟩:=h
 rw [List.drop_eq_getElem_cons hk] at h4
 obtain ⟨hw,i,hi,e,ho,n,rfl,et⟩:=aIA h4
 refine ⟨VS[k],L.eraseIdx i,rfl,e ▸ h1.subset (yM hi),hw,ho,fun hq=>?_,?_,(List.eraseIdx_sublist _ _).trans h1,aKM h2 hi,n,?_,et.symm⟩
 ·rw [hq,aGc hs h2 h1 (aFH hst)] at ho
  cases ho
 ·rw [e]
  exact aEQ h2 hi
 ·have:(L.eraseIdx i).length=L.length - 1:=by rw [List.length_eraseIdx];simp [hi]
  omega
theorem VI.fin (h:VI s nm l1 l2 VS k L g1 g2) (hk:k=VS.length):within l1 l2 g1 g2=true∨∀q,iM (aZ s L) q=false:=by
 obtain ⟨h1,h2,m,h3,h4⟩:=h
 rw [hk,List.drop_length] at h4
 exact aIC (by omega) h4
theorem VI.len (h:VI s nm l1 l2 VS k L g1 g2):L.length≤s.cs.length:=h.sub.length_le
theorem aIB (hlk:sG s nm=(l1,l2)):iP s nm=(if aW s=true∧(dJ s).any (fun x=>decide (x=nm))=true then tL s (l1,l2) (s.cs.length+1) s.cs (0,0) else []).map (·.id):=by
 unfold iP aAm
 rw [hlk]
def Lf (b d:Nat) (w:World) (y:Sls) (t:St):Prop:=∀wz,Mks (fun k=>k=b∨k=d) w wz→gU wz y t
section
variable {b d:Nat} {w w':World} {y:Sls} {t:St}
theorem Lf.row (h:Lf b d w y t):gU w y t:=h w (.refl _ _)
theorem Lf.mks (h:Lf b d w y t) (hm:Mks (fun k=>k=b∨k=d) w w'):Lf b d w' y t:=fun wz hz=>h wz (hm.trans hz)
theorem Lf.below (h:Lf b d w y t) (hb:Bw w w'):Lf b d w' y t:=h.mks (.of_below hb)
theorem Lf.of_low {wV:World} (h:gU wV y t) (hb:Bw wV w) (h1:wV.heap.size≤b) (h2:wV.heap.size≤d):Lf b d w y t:=
 fun wz hm=>h.below (Below.trans hb (hm.below (fun k e=>by rcases e with rfl | rfl<;>assumption) hb.size))
theorem Lf.of_has (h:dQ B w y t hs) (h1:b<B) (h2:d<B):Lf b d w y t:=fun wz hm=>by
 have hl:∀k,(k=b∨k=d)→k<B:=fun k e=>by rcases e with rfl | rfl<;>assumption
 exact (h.off hm ⟨fun k e=>.inl (hl k e),fun k e=>.inl (hl k e),fun k e=>.inl (hl k e),fun k e=>.inl (hl k e),fun k e=>.inl (hl k e)⟩).ans.row
end
theorem aCc (hv:iP s nm=vs) (hn:vs.length=n) (D:DrU w y s hs) :
  cP 6 #[sv y s,.string (bs nm)] w fun e w'=>∃io ic,e=.returned (.slice io n ic)∧Hid (aDG w' io n vs∧Bw w w'):=by
 refine (yI y s nm w D.row D.fit D.cap D.wf).mono ?_
 rintro e w' ⟨v,rfl,hh⟩
 obtain ⟨ho,hb⟩:=uH hh
 obtain ⟨io,ic,rfl,hr⟩:=aEh ho
 rw [hv,hn] at hr ⊢
 exact ⟨io,ic,rfl,aA ⟨hr,hb⟩⟩
theorem aBz (hv:iP s nm=vs) (hn:vs.length=n) (D:DrU w y s hs) :
  cP 9 #[sv y s,.string (bs nm)] w fun e w'=>∃io ic,e=.returned (.slice io n ic)∧Hid (aDG w' io n vs∧Bw w w'):=by
 refine (wP y s hs nm w D.row D.av D.hd D.sm D.fit).mono ?_
 rintro e w' ⟨v,rfl,hh⟩
 obtain ⟨ho,hb⟩:=uH hh
 obtain ⟨io,ic,rfl,hr⟩:=aEh ho
 rw [hv,hn] at hr ⊢
 exact ⟨io,ic,rfl,aA ⟨hr,hb⟩⟩
theorem aJU (hf:dI t) (hw:aAF t) (hi:(Lit.int .i64 c.app).wf=true) {q:List UInt8} (hq:rQ t c=q) (w:World) (h:gU w y t) :
  cP 19 #[sv y t,.int .i64 c.app] w fun e w'=>∃ai vo vn vc th,e=.returned (.tuple #[.agg #[.int .i64 ai,.string (bs q),.slice vo vn vc],.bool th])∧Bw w w':=by
 subst hq
 refine (aB0 y t c.app w h hf hw.1 hi).mono ?_
 rintro e w' ⟨v,rfl,hx⟩
 obtain ⟨ho,hb⟩:=uH hx
 obtain ⟨vo,vc,rfl,_⟩:=aBf ho
 exact ⟨_,vo,_,vc,_,rfl,hb⟩
theorem wM {t':St} (hf:dI t) (hw:aAF t) (hc:y.ql≤y.qc) (ht:aBo t [c.id]=(t',[c])) {io:Option Addr} (h:gU w y t) (hi:aDG w io 1 [c.id]) :
  cP 17 #[sv y t,.slice io 1 1] w fun e w'=>∃y' hs go gc,e=.returned (.tuple #[sv y' t',.slice go 1 gc])∧dQ w.heap.size w' y' t' hs∧kY w.heap.size w' go 1 [c]∧Bw w w':=by
 refine (vQ y t io 1 1 [c.id] w h hf hc hw hi (by decide)).mono ?_
 rintro e w' ⟨y',hs,go,gn,gc,rfl,hA,hC,-,hb⟩
 rw [ht] at hA hC ⊢
 obtain rfl:gn=1:=hC.1.1
 exact ⟨y',hs,go,gc,rfl,hA.has (yJ _),hC,hb⟩
theorem aJD (g1 g2:Int) (c:Con) (w:World):cP 20 #[rv g1 g2,rv c.mem c.cpu] w fun e w'=>∃b,e=.returned (.tuple #[rv (aDF (g1,g2) c).1 (aDF (g1,g2) c).2,.bool b])∧Bw w w':=by
 refine (pK g1 g2 c.mem c.cpu w).mono ?_
 rintro e w' ⟨rfl,hb⟩
 rw [zJ]
 exact ⟨_,rfl,hb⟩
theorem aLR (a:Int) (base:Array Value) (hb:base.size=1):Instr.fill (fun i=>some (i*1,1)) base [(0,.int .i64 a)]=some #[.int .i64 a]:=by
 obtain ⟨l⟩:=base
 match l,hb with
 | [_],_=>rfl
theorem aG5 (w:World) (t e:TypeId) (parts:Array (Nat×Value)) (z:Value) (a:Int) (hu:P.underlying t=some (.slice e)) (hi:(P.info? e).map (fun i=>(i.zero,i.size))=some (some z,1)) (hp:parts=#[(0,.int .i64 a)]) :
  (Instr.buildSlice t 1 parts).run P w=.ok (.slice (some ⟨w.heap.size,0,none⟩) 1 1) (w.alloc (.cells #[.int .i64 a] e)):=by
 subst hp
 exact aCC w t e 1 1 _ z _ hu hi (by decide) (by decide) (aLR a _ (by simp))
theorem aE9 (w:World) (a:Int):aDG (w.alloc (.cells #[.int .i64 a] 3)) (some ⟨w.heap.size,0,none⟩) 1 [a]:=
 ⟨rfl,.inr ⟨_,0,rfl,fun i h=>by
  match i,h with
  | 0,_=>exact (yD w #[.int .i64 a] 3).at 0⟩⟩
theorem y9 {go:Option Addr} (h:kY B w go 1 [c]):∃bg,go=some ⟨bg,0,none⟩∧mQ w bg 0 c:=by
 obtain ⟨g,M,e,_,_,_⟩:=nC h.2 (Nat.lt_succ_self 0)
 obtain ⟨b,off,e2,hq⟩:=h.1.at (Nat.lt_succ_self 0)
 rw [e] at e2
 cases e2
 have:=hq (Nat.lt_succ_self 0)
 exact ⟨g,e,by simpa using this⟩
theorem aDe (v:Value) (ps:List (List UInt8)) (nm:List UInt8) (B:Nat) (w:World) (h:bY B w v ps) (hl:ps.length≤1048576) :
  cP 15 #[v,.string (bs nm)] w fun e w'=>e=.returned (.bool (ps.any (fun x=>decide (x=nm))))∧w=w':=by
 obtain ⟨o,ho⟩:∃o,ps.any (fun x=>decide (x=nm))=o:=⟨_,rfl⟩
 have HO:=aA (show (ps.drop 0).any (fun x=>decide (x=nm))=o from ho)
 rw [ho]
 clear ho
 obtain ⟨ao,cap,rfl,HC⟩:∃ao cap,v=.slice ao ps.length cap∧Hid (∀j (hj:j<ps.length),∃g,ao=some ⟨g,0,none⟩∧w.cell? ⟨g,j,none⟩=some (.string (bs ps[j]))):=by
  by_cases hp:ps=[]
  ·subst hp
   obtain ⟨a,cap,rfl⟩:=kJ h
   exact ⟨a,cap,rfl,aA (fun j hj=>by simp at hj)⟩
  ·obtain ⟨g,cap,rfl,hs,_⟩:=kI h hp
   exact ⟨_,cap,rfl,aA (fun j hj=>⟨g,rfl,hs.text hj⟩)⟩
 clear h
 obtain ⟨n,hn⟩:∃n,ps.length=n:=⟨_,rfl⟩
 rw [hn] at hl ⊢
 have HN:=aA hn
 clear hn
 go_enter Tryz.func15,Tryz.ntmps15
 go_wp2
 go_loopw [5] (fun i wr=>∃(k:Nat),k≤n∧i=.int .i64 k∧Hid ((ps.drop k).any (fun x=>decide (x=nm))=o)∧wr=w) (fun i _=>n - (intOf i).toNat)
 case atStart=>exact ⟨0,Nat.zero_le _,rfl,HO,rfl⟩
 case round=>
  obtain ⟨k,hk,rfl,HQ,rfl⟩:=hrel
  by_cases hlt:k<n
  ·have hkl:k<ps.length:=by have:=uH HN;omega
   obtain ⟨g,rfl,c0⟩:=uH HC k hkl
   have hst:(ps.drop k).any (fun x=>decide (x=nm))=(decide (ps[k]=nm)||(ps.drop (k+1)).any (fun x=>decide (x=nm))):=by rw [List.drop_eq_getElem_cons hkl,List.any_cons]
   rw [uH HQ] at hst
   obtain ⟨s,hs⟩:∃s,ps[k]=s:=⟨_,rfl⟩
   rw [hs] at c0 hst
   have hbe:=lL s nm
   clear hs hkl
   by_cases he:s=nm
   ·rw [decide_eq_true he] at hbe hst
    have hot:o=true:=by rw [hst];rfl
    subst hot
    clear he hst
    go_wp2
    go_ret
    exact ⟨rfl,rfl⟩
   ·rw [decide_eq_false he] at hbe hst
    have ZR:=aA (show (ps.drop (k+1)).any (fun x=>decide (x=nm))=o by simpa using hst.symm)
    clear he hst
    go_wp2
    go_roundw
    case rel=>exact ⟨k+1,by omega,by go_num,ZR,trivial⟩
    case measure=>simp [intOf];omega
  ·have hof:o=false:=by rw [←uH HQ,List.drop_of_length_le (by have:=uH HN;omega)];rfl
   subst hof
   go_wp2
   go_ret
   exact ⟨rfl,rfl⟩
end
end Go.Proofs.YtngkddhcmfbjnaaGreat
