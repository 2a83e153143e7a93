/-
  Texts in one: OkI, OkM, NxM, GrM, GrO, GrN, GnM, SrvU, SrvI, NxW, TakE, NewLaw, NewHas.
-/
import Derived.Test.YtfndhndlkcijoaaGreatSackV
import Derived.Test.YtfndhndlkcijoaaGreatSackY
import Derived.Test.YtfndhndlkcijoaaGreatSackW
import Derived.Test.YtfndhndlkcijoaaGreatSackAB
import Derived.Test.YtfndhndlkcijoaaGreatSackL
set_option maxRecDepth 100000
set_option maxHeartbeats 16000000
set_option linter.unusedVariables false
set_option linter.unusedSimpArgs false
open Go.Proofs.Tryz
namespace Go.Proofs.YtfndhndlkcijoaaGreat
section
open Go.RowKit Go.Maps
variable {last:Int} {cs:List Con} {ms:List Mac} {k:Nat}
def dL (apps:List bW) (ms:List Mac):Int→List Con→Bool
  | _,[]=>true
  | last,c::t=>decide (last<c.id)&&(decide (c.id≤1000000000)&&((dH c.app apps).isSome&&((bI c.node ms).isSome&&(nD c.mem c.cpu&&dL apps ms c.id t))))
theorem aFs {apps:List bW} (h:cs.length≤k):dL apps ms last (cs.drop k)=true:=by
  rw [List.drop_of_length_le h];rfl
theorem aEK {apps:List bW} (h:k<cs.length):dL apps ms last (cs.drop k)=(decide (last<cs[k].id)&&(decide (cs[k].id≤1000000000)&&((dH cs[k].app apps).isSome&&((bI cs[k].node ms).isSome&&(nD cs[k].mem cs[k].cpu&&dL apps ms cs[k].id (cs.drop (k+1))))))):=by
  rw [List.drop_eq_getElem_cons h,dL]
def fV (s:St):Bool:=aH s.qs&&(inB s.clock 0 1000000000&&(inB s.epoch 1 1000000000&&(inB s.next 1 1000000000&&(inB s.serial 1 1000000000&&(fT s&&(jH s&&(decide (s.cs.length≤150)&&dL s.apps s.ms 0 s.cs)))))))
theorem aHo (l:List bW) (id:Int):decide (aJD l id<0) = !(dH id l).isSome:=by
  rcases aDQ id l with ⟨h1,h2⟩ | ⟨j,hj,h1,h2⟩
  · rw [h1,h2];rfl
  · rw [h1,h2];simp
theorem aFd (l:List Mac) (nm:List UInt8):decide (yN l nm<0) = !(bI nm l).isSome:=by
  rcases pQ nm l with ⟨h1,h2⟩ | ⟨j,hj,h1,h2⟩
  · rw [h1,h2];rfl
  · rw [h1,h2];simp
theorem aCE (x:Sls) (s:St) (w:World) (h:iL w x s) (hf:bH s) :
    cP 18 #[sv x s] w fun e w'=>e=.returned (.bool (fV s))∧Bw w w':=by
  have Gq:x.ql≤1048576:=by have:=h.len.1;have:=hf.1.1;omega
  have hal:x.al≤1048576:=by have:=h.len.2.1;have:=hf.2.1.1;omega
  have GJ:x.ml≤1048576:=by have:=h.len.2.2.1;have:=hf.2.2.1.1;omega
  have hcl:x.cl≤1048576:=by have:=h.len.2.2.2;have:=hf.2.2.2.1;omega
  have HR:=aA h.2.2.2;have HL:=aA h.2.2.2.1;have CQ:=aA (fun wx (hb:Bw w wx)=>kM x.qa x.ql x.qc s.qs wx (h.1.below hb) Gq (fun q hq=>(hf.1.2 q hq).1));have CAP:=aA (fun wx (hb:Bw w wx) (hq:aH s.qs=true) (h1:1≤s.next) (h2:s.next≤1000000000)=>aDy x s wx (h.below hb) hf hq h1 h2);have CMC:=aA (fun wx (hb:Bw w wx)=>yQ x s wx (h.below hb) hf);have CPI:=aA (fun wx (hb:Bw w wx) (id:Int)=>aAw x s id wx (h.2.1.below hb) hal);have CMI:=aA (fun wx (hb:Bw w wx) (nm:List UInt8)=>kE x s nm wx (h.2.2.1.below hb) GJ);obtain ⟨b1,e1⟩:∃b,aH s.qs=b:=⟨_,rfl⟩;obtain ⟨n1,f1⟩:∃b,inB s.clock 0 1000000000=b:=⟨_,rfl⟩;obtain ⟨n2,f2⟩:∃b,inB s.epoch 1 1000000000=b:=⟨_,rfl⟩;obtain ⟨n3,f3⟩:∃b,inB s.next 1 1000000000=b:=⟨_,rfl⟩;obtain ⟨n4,f4⟩:∃b,inB s.serial 1 1000000000=b:=⟨_,rfl⟩;obtain ⟨b3,e3⟩:∃b,fT s=b:=⟨_,rfl⟩;obtain ⟨b4,e4⟩:∃b,jH s=b:=⟨_,rfl⟩;have QQ:=aA (show fV s=(b1&&(n1&&(n2&&(n3&&(n4&&(b3&&(b4&&(decide (x.cl≤150)&&dL s.apps s.ms 0 (s.cs.drop 0))))))))) by rw [fV,e1,f1,f2,f3,f4,e3,e4,←h.2.2.2.1];rfl);obtain ⟨o,ho⟩:∃o,fV s=o:=⟨_,rfl⟩;rw [ho] at QQ ⊢;rw [e1] at CQ;rw [e3] at CAP;rw [e4] at CMC;have CI1:=aA (fun wx=>by have:=aS s.clock 0 1000000000 wx;rw [f1] at this;exact this);have CI2:=aA (fun wx=>by have:=aS s.epoch 1 1000000000 wx;rw [f2] at this;exact this);have CI3:=aA (fun wx=>by have:=aS s.next 1 1000000000 wx;rw [f3] at this;exact this);have CI4:=aA (fun wx=>by have:=aS s.serial 1 1000000000 wx;rw [f4] at this;exact this);have Sq:=aA e1;have YA:=aA (show n3=true→1≤s.next∧s.next≤1000000000 from fun e=>by rw [e] at f3;simpa [inB] using f3);clear h hf ho e1 f1 f2 f3 f4 e3 e4;obtain ⟨qa,ql,qc,aa,al,ac,ma,ml,mc,ca,cl,cc⟩:=x;obtain ⟨qs,cv,ez,nv,sj,aj,ms,cs⟩:=s;simp only at Gq hal GJ hcl HR HL CQ CAP CMC CPI CMI CI1 CI2 CI3 CI4 QQ Sq YA;have HB0:=aA (jX w (svc ⟨qa,ql,qc,aa,al,ac,ma,ml,mc,ca,cl,cc⟩ ⟨qs,cv,ez,nv,sj,aj,ms,cs⟩));have P0:=aA (gB w (svc ⟨qa,ql,qc,aa,al,ac,ma,ml,mc,ca,cl,cc⟩ ⟨qs,cv,ez,nv,sj,aj,ms,cs⟩));go_enter func18,ntmps18;go_wp2_with fail;refine (uH CQ _ (uH HB0)).mono ?_;rintro e w1 ⟨rfl,hb⟩;have HB1:=aA (yB (uH HB0) hb);have P1:=aA ((uH P0).below hb);obtain ⟨q0,q1,q2,q3,q4,q5,q6,q7⟩:_∧_∧_∧_∧_∧_∧_∧_:=⟨(uH P1).at 0,(uH P1).at 1,(uH P1).at 2,(uH P1).at 3,(uH P1).at 4,(uH P1).at 5,(uH P1).at 6,(uH P1).at 7⟩;simp at q0 q1 q2 q3 q4 q5 q6 q7;clear hb HB0 P0 CQ;cases b1;case false=>go_wp2;go_ret;exact ⟨yF (by rw [uH QQ];rfl),uH HB1⟩
  go_wp2_with fail
  refine (uH CI1 _).mono ?_;rintro e w' ⟨rfl,rfl⟩;cases n1;case false=>go_wp2;go_ret;exact ⟨yF (by rw [uH QQ];simp),uH HB1⟩
  go_wp2_with fail
  refine (uH CI2 _).mono ?_;rintro e w' ⟨rfl,rfl⟩;cases n2;case false=>go_wp2;go_ret;exact ⟨yF (by rw [uH QQ];simp),uH HB1⟩
  go_wp2_with fail
  refine (uH CI3 _).mono ?_;rintro e w' ⟨rfl,rfl⟩;cases n3;case false=>go_wp2;go_ret;exact ⟨yF (by rw [uH QQ];simp),uH HB1⟩
  go_wp2_with fail
  refine (uH CI4 _).mono ?_;rintro e w' ⟨rfl,rfl⟩;cases n4;case false=>go_wp2;go_ret;exact ⟨yF (by rw [uH QQ];simp),uH HB1⟩
  obtain ⟨hn1,hn2⟩:=uH YA (by simp);go_wp2_with fail;refine (uH CAP _ (uH HB1) (uH Sq) hn1 hn2).mono ?_;rintro e w2 ⟨rfl,hb⟩;have HB2:=aA (yB (uH HB1) hb);have P2:=aA ((uH P1).below hb);clear hb HB1 P1 CAP q0 q1 q2 q3 q4 q5 q6 q7 hn1 hn2;cases b3;case false=>go_wp2;go_ret;exact ⟨yF (by rw [uH QQ];simp),uH HB2⟩
  obtain ⟨q0,q1,q2,q3,q4,q5,q6,q7⟩:_∧_∧_∧_∧_∧_∧_∧_:=⟨(uH P2).at 0,(uH P2).at 1,(uH P2).at 2,(uH P2).at 3,(uH P2).at 4,(uH P2).at 5,(uH P2).at 6,(uH P2).at 7⟩;simp at q0 q1 q2 q3 q4 q5 q6 q7;go_wp2_with fail;refine (uH CMC _ (uH HB2)).mono ?_;rintro e w3 ⟨rfl,hb⟩;have HB3:=aA (yB (uH HB2) hb);have P3:=aA ((uH P2).below hb);clear hb HB2 P2 CMC q0 q1 q2 q3 q4 q5 q6 q7;cases b4;case false=>go_wp2;go_ret;exact ⟨yF (by rw [uH QQ];simp),uH HB3⟩
  have q7:=(uH P3).at 7;simp at q7;by_cases h150:cl≤150;case neg=>
    (have hi:(150:Int)<cl:=by omega);go_wp2;go_ret;exact ⟨yF (by rw [uH QQ,decide_eq_false h150];simp),uH HB3⟩
  have hi:¬(150:Int)<cl:=by omega
  have Zq:=aA (show o=dL aj ms 0 (cs.drop 0) by rw [uH QQ,decide_eq_true h150];simp);clear QQ CI1 CI2 CI3 CI4 YA Sq;go_wp2;clear q7 hi h150;go_loopw [3] (fun i wr=>∃(k:Nat) (last:Int),k≤cl∧i=.int .i64 k∧Hid (o=dL aj ms last (cs.drop k))∧Hid (0≤last∧(k=0→last=0)∧∀(k':Nat) (hk':k'<cs.length),k=k'+1→last=cs[k'].id)∧Hid (Kp w3 wr)) (fun i _=>cl - (intOf i).toNat);case atStart=>exact ⟨0,0,Nat.zero_le _,rfl,Zq,aA ⟨by omega,fun _=>rfl,fun k' _ e=>by omega⟩,aA (Kp.new w3)⟩
  case round=>
    obtain ⟨k,last,hk,rfl,HO,kv,HK⟩:=hrel;obtain ⟨wo,rfl⟩:∃wo:World,wo=wr:=⟨_,rfl⟩;clear Zq;have P1:=aA ((uH P3).below (uH HK));have q7:=(uH P1).at 7;simp at q7;have KW:=aA (show Kp w wo from yB (uH HB3) (uH HK));by_cases hlt:k<cl;case neg=>
      (have k1:¬(k:Int)<cl:=by omega);go_wp2;go_ret;exact ⟨yF (by rw [uH HO,aFs (by have:=uH HL;omega)]),uH KW⟩
    obtain ⟨b,off,rfl,hq⟩:=(uH HR).at hlt;(have hkl:k<cs.length:=by have:=uH HL;omega);have hst:=aEK (apps:=aj) (ms:=ms) (last:=last) hkl;obtain ⟨c0,c1,c2,c3,c4⟩:=hq hkl;replace c0:=(uH KW).cell c0;replace c1:=(uH KW).cell c1;replace c2:=(uH KW).cell c2;replace c3:=(uH KW).cell c3;replace c4:=(uH KW).cell c4;have WE:=aA (fun (k':Nat) (e:k=k'+1)=>show wo.cell? ⟨b,off+k'*5,none⟩=some (.int .i64 last) by
      (have hk'':k'<cs.length:=by omega);obtain ⟨b',off',eb,hq'⟩:=(uH HR).at (show k'<cl by omega);(obtain ⟨rfl,rfl⟩:b=b'∧off=off':=by simpa using eb);obtain ⟨d0,_⟩:=hq' hk'';rw [(uH kv).2.2 k' hk'' e];exact (uH KW).cell d0)
    obtain ⟨⟨id,ap,nd,me,cp⟩,hs⟩:∃s,cs[k]=s:=⟨_,rfl⟩;have ZY:=aA (show ∀(k':Nat) (hk':k'<cs.length),k+1=k'+1→id=cs[k'].id from fun k' hk' e=>by
      (have:k=k':=by omega);subst this;rw [hs])
    rw [hs] at c0 c1 c2 c3 c4 hst;simp only at c0 c1 c2 c3 c4 hst;(have k0:(0:Int)≤k:=by omega);(have k1:(k:Int)<cl:=by omega);have hap:=aHo aj ap;have YJ:=aFd ms nd;have CP:=aA (fun wx (hb:Bw w wx)=>uH CPI wx hb ap);have CMA:=aA (fun wx (hb:Bw w wx)=>uH CMI wx hb nd);obtain ⟨pa,QK⟩:∃p,aJD aj ap=p:=⟨_,rfl⟩;obtain ⟨pm,hpm⟩:∃p,yN ms nd=p:=⟨_,rfl⟩;rw [QK] at hap CP;rw [hpm] at YJ CMA;obtain ⟨fa,hfa⟩:∃b,(dH ap aj).isSome=b:=⟨_,rfl⟩;obtain ⟨fm,hfm⟩:∃b,(bI nd ms).isSome=b:=⟨_,rfl⟩;obtain ⟨sm,hsm⟩:∃b,nD me cp=b:=⟨_,rfl⟩;rw [hfa] at hap hst;rw [hfm] at YJ hst;rw [hsm] at hst;have XF:=aA hap;have WF:=aA YJ;have GL:=aA ((uH HO).trans hst);obtain ⟨ib,hib⟩:∃b,inB id 1 1000000000=b:=⟨_,rfl⟩;obtain ⟨hl0,hlz,_⟩:=uH kv;clear hq hs hkl hst hfa hfm hap YJ QK hpm HO CPI CMI;have b4:=yA (yH _ wo) (.cells #[.int .i64 id,.int .i64 ap,.string (bs nd),.int .i64 me,.int .i64 cp] 35);have GD:=aA (yB (uH KW) b4);have P4:=aA (yD wo #[.int .i64 id,.int .i64 ap,.string (bs nd),.int .i64 me,.int .i64 cp] 35);have Z4:=aA ((uH P1).below b4);have ZX:=aA (fun (k':Nat) (e:k=k'+1)=>Kp.cell b4 (uH WE k' e));have XI:=aA (show Kp w3 _ from yB (uH HK) b4);obtain ⟨W4,Ww⟩:∃W,wo.alloc (.cells #[.int .i64 id,.int .i64 ap,.string (bs nd),.int .i64 me,.int .i64 cp] 35)=W:=⟨_,rfl⟩;rw [Ww] at GD P4 Z4 ZX XI;obtain ⟨s0,s1,s2,s3,s4,s5,s6,s7⟩:_∧_∧_∧_∧_∧_∧_∧_:=⟨(uH Z4).at 0,(uH Z4).at 1,(uH Z4).at 2,(uH Z4).at 3,(uH Z4).at 4,(uH Z4).at 5,(uH Z4).at 6,(uH Z4).at 7⟩;obtain ⟨a0,a1,a2,a3,a4⟩:_∧_∧_∧_∧_:=⟨(uH P4).at 0,(uH P4).at 1,(uH P4).at 2,(uH P4).at 3,(uH P4).at 4⟩;simp at s0 s1 s2 s3 s4 s5 s6 s7 a0 a1 a2 a3 a4;have R:∀wx,Kp W4 wx→wx.cell? ⟨w.heap.size,0,none⟩=some (.slice qa ql qc)∧wx.cell? ⟨w.heap.size,1,none⟩=some (.int .i64 cv)∧wx.cell? ⟨w.heap.size,2,none⟩=some (.int .i64 ez)∧wx.cell? ⟨w.heap.size,3,none⟩=some (.int .i64 nv)∧wx.cell? ⟨w.heap.size,4,none⟩=some (.int .i64 sj)∧wx.cell? ⟨w.heap.size,5,none⟩=some (.slice aa al ac)∧wx.cell? ⟨w.heap.size,6,none⟩=some (.slice ma ml mc)∧wx.cell? ⟨w.heap.size,7,none⟩=some (.slice (some ⟨b,off,none⟩) cl cc)∧wx.cell? ⟨wo.heap.size,0,none⟩=some (.int .i64 id)∧wx.cell? ⟨wo.heap.size,1,none⟩=some (.int .i64 ap)∧wx.cell? ⟨wo.heap.size,2,none⟩=some (.string (bs nd))∧wx.cell? ⟨wo.heap.size,3,none⟩=some (.int .i64 me)∧wx.cell? ⟨wo.heap.size,4,none⟩=some (.int .i64 cp):=fun wx h=>
      ⟨h.cell s0,h.cell s1,h.cell s2,h.cell s3,h.cell s4,h.cell s5,h.cell s6,h.cell s7,h.cell a0,h.cell a1,h.cell a2,h.cell a3,h.cell a4⟩
    have A0:=aA (Kp.new W4);have HS:=aA (bK W4);clear b4 WE P1;(go_wp2_with fail);(first | (change Code.wp _ _ _ _ (wo.alloc (.cells #[.int .i64 id,.int .i64 ap,.string (bs nd),.int .i64 me,.int .i64 cp] 35));rw [Ww]) | skip);clear Ww c0 c1 c2 c3 c4 q7 s0 s1 s2 s3 s4 s5 s6 s7 a0 a1 a2 a3 a4 P4 Z4;refine wp_region_held_drew (S:=fun wx=>Kp W4 wx) (by kernel_rfl) ((uH HS).drew (uH A0)) (fun S0=>?_);refine tW 0 61 _ S0 ?_;simp only [zW];refine tW 1 62 _ S0 ?_;simp only [zW];cases ib;have DEAD:=trivial;refine yRq 2 rfl (fun K hK=>?_);go_simp;refine (aS id 1 1000000000 _).mono ?_;rw [hib];rintro e wt ⟨rfl,rfl⟩;have S1:=S0;(go_wp2_with fail);refine hK.out _ _ S1 (fun S0=>?_);clear hK K S1;(try simp only [zW]);refine tW 3 64 (.bool true) S0 ?_;simp only [zW];refine tW 4 65 (.bool true) S0 ?_;simp only [zW];(refine tU 5 66 S0 <| tU 6 67 S0 <| tU 7 68 S0 <| tU 8 69 S0 <| tU 9 70 S0 <| tU 10 71 S0 <| tU 11 72 S0 <| tU 12 73 S0 <| tU 13 74 S0 <| tU 14 75 S0 <| tU 15 76 S0 <| tU 16 77 S0 <| tU 17 78 S0 <| tU 18 79 S0 <| ?_);simp only [zW];(rotate_left);(have hin:1≤id∧id≤1000000000:=by simpa [inB] using hib);refine yRq 2 rfl (fun K hK=>?_);go_simp;refine (aS id 1 1000000000 _).mono ?_;rw [hib];rintro e wt ⟨rfl,rfl⟩;have S1:=S0;(go_wp2_with fail);refine hK.out _ _ S1 (fun S0=>?_);clear hK K S1;(try simp only [zW]);refine tW 3 64 (.bool false) S0 ?_;simp only [zW];refine tW 4 65 (.bool false) S0 ?_;simp only [zW];by_cases hk0:k=0;(have DJ:last<id:=by have:=hlz hk0;omega);have Zk:=aA hk0;clear hk0;refine tW 5 66 _ S0 ?_;simp only [zW];refine bU 6 67 (.bool false) rfl rfl S0 ?_ (hy:=Or.inl ⟨by rfl,fun wz hz=>by (go_simp;exact uH Zk)⟩);(try simp only [zW]);refine tW 7 68 (.bool false) S0 ?_;simp only [zW];(refine tU 8 69 S0 <| tU 9 70 S0 <| tU 10 71 S0 <| tU 11 72 S0 <| tU 12 73 S0 <| tU 13 74 S0 <| tU 14 75 S0 <| tU 15 76 S0 <| tU 16 77 S0 <| tU 17 78 S0 <| ?_);simp only [zW];refine tW 18 79 (.bool false) S0 ?_;simp only [zW];(rotate_left);obtain ⟨k',hk'⟩:∃k',k=k'+1:=⟨k - 1,by omega⟩;have hpv:=uH ZX k' hk';(have R2:∀wx,Kp W4 wx→wx.cell? ⟨b,off+k'*5,none⟩=some (.int .i64 last):=fun wx h=>h.cell hpv);(have Tq:IntKind.i64.wrap ((k:Int) - 1)=k':=by rw [IntKind.wrap_i64];omega);(have kp0:(0:Int)≤k':=by omega);(have kp1:(k':Int)<cl:=by omega);(have kp2:0<k:=by omega);clear hk0 hk';refine tW 5 66 _ S0 ?_;simp only [zW];refine tW 6 67 (.bool true) S0 ?_;simp only [zW];refine tW 7 68 (.bool true) S0 ?_;simp only [zW];refine tW 8 69 _ S0 ?_;simp only [zW];refine tW 9 70 _ S0 ?_;simp only [zW];refine tW 10 71 _ S0 ?_;simp only [zW];refine tW 11 72 _ S0 ?_;simp only [zW];refine tW 12 73 _ S0 ?_;simp only [zW];refine tW 13 74 (.int .i64 k') S0 ?_;simp only [zW];refine tW 14 75 (.pointer (some ⟨b,off+k'*5,none⟩)) S0 ?_;simp only [zW];refine tW 15 76 _ S0 ?_;simp only [zW];refine tW 16 77 (.int .i64 last) S0 ?_;simp only [zW];by_cases hle:id≤last;have DEAD:=trivial;refine tW 17 78 (.bool true) S0 ?_;simp only [zW];refine tW 18 79 (.bool true) S0 ?_;simp only [zW];(rotate_left);(have DJ:last<id:=by omega);refine tW 17 78 (.bool false) S0 ?_;simp only [zW];refine tW 18 79 (.bool false) S0 ?_;simp only [zW];all_goals first
      | (have hyp:=DEAD
         refine tW 19 80 (.bool true) S0 ?_;simp only [zW];refine tW 20 81 (.bool true) S0 ?_;simp only [zW];(refine tU 21 82 S0 <| tU 22 83 S0 <| tU 23 84 S0 <| tU 24 85 S0 <| tU 25 86 S0 <| ?_);simp only [zW];refine tW 26 87 (.bool true) S0 ?_;simp only [zW];refine tW 27 88 (.bool true) S0 ?_;simp only [zW];(refine tU 28 89 S0 <| tU 29 90 S0 <| tU 30 91 S0 <| tU 31 92 S0 <| tU 32 93 S0 <| ?_);simp only [zW];refine tW 33 94 (.bool true) S0 ?_;simp only [zW];refine tW 34 95 (.bool true) S0 ?_;simp only [zW];(refine tU 35 96 S0 <| tU 36 97 S0 <| tU 37 98 S0 <| tU 38 99 S0 <| ?_);simp only [zW];refine tW 39 100 (.bool true) S0 ?_;simp only [zW];refine wpAnyH_done (by kernel_rfl) ?_ _;have QL:=aA (yB (uH GD) ((uH HS).below S0));have HF:=aA (show o=false by
           first
           | (rw [uH GL];simp;done)
           | (rw [uH GL,decide_eq_false (show ¬last<id by omega)];simp;done)
           | (have hc:¬(1≤id∧id≤1000000000):=fun hc=>by rw [dG hc.1 hc.2] at hib;cases hib
              (have hz:decide (last<id)=false∨decide (id≤1000000000)=false:=by simp only [decide_eq_false_iff_not];omega);rw [uH GL];rcases hz with hz | hz<;>rw [hz]<;>simp))
         go_wp2;go_ret;exact ⟨yF (uH HF).symm,uH QL⟩)
      | skip
    all_goals
      refine tW 19 80 (.bool false) S0 ?_;simp only [zW];refine tW 20 81 (.bool false) S0 ?_;simp only [zW];refine tW 21 82 _ S0 ?_;simp only [zW];refine tW 22 83 _ S0 ?_;simp only [zW];refine tW 23 84 _ S0 ?_;simp only [zW];cases fa;(have hp:pa<0:=by simpa using uH XF);refine yRq 24 rfl (fun K hK=>?_);go_simp;refine (uH CP _ (yB (uH GD) ((uH HS).below S0))).mono ?_;rintro e wt ⟨rfl,hb⟩;have S1:=(uH HS).call S0 hb;clear hb;(go_wp2_with fail);refine hK.out _ _ S1 (fun S0=>?_);clear hK K S1;(try simp only [zW]);refine tW 25 86 (.bool true) S0 ?_;simp only [zW];refine tW 26 87 (.bool true) S0 ?_;simp only [zW];refine tW 27 88 (.bool true) S0 ?_;simp only [zW];(refine tU 28 89 S0 <| tU 29 90 S0 <| tU 30 91 S0 <| tU 31 92 S0 <| tU 32 93 S0 <| ?_);simp only [zW];refine tW 33 94 (.bool true) S0 ?_;simp only [zW];refine tW 34 95 (.bool true) S0 ?_;simp only [zW];(refine tU 35 96 S0 <| tU 36 97 S0 <| ?_);simp only [zW];(rotate_left);(have hp:¬pa<0:=by simpa using uH XF);refine yRq 24 rfl (fun K hK=>?_);go_simp;refine (uH CP _ (yB (uH GD) ((uH HS).below S0))).mono ?_;rintro e wt ⟨rfl,hb⟩;have S1:=(uH HS).call S0 hb;clear hb;(go_wp2_with fail);refine hK.out _ _ S1 (fun S0=>?_);clear hK K S1;(try simp only [zW]);refine tW 25 86 (.bool false) S0 ?_;simp only [zW];refine tW 26 87 (.bool false) S0 ?_;simp only [zW];refine tW 27 88 (.bool false) S0 ?_;simp only [zW];refine tW 28 89 _ S0 ?_;simp only [zW];refine tW 29 90 _ S0 ?_;simp only [zW];refine tW 30 91 _ S0 ?_;simp only [zW];cases fm;(have hm:pm<0:=by simpa using uH WF);refine yRq 31 rfl (fun K hK=>?_);go_simp;refine (uH CMA _ (yB (uH GD) ((uH HS).below S0))).mono ?_;rintro e wt ⟨rfl,hb⟩;have S1:=(uH HS).call S0 hb;clear hb;(go_wp2_with fail);refine hK.out _ _ S1 (fun S0=>?_);clear hK K S1;(try simp only [zW]);refine tW 32 93 (.bool true) S0 ?_;simp only [zW];refine tW 33 94 (.bool true) S0 ?_;simp only [zW];refine tW 34 95 (.bool true) S0 ?_;simp only [zW];(refine tU 35 96 S0 <| tU 36 97 S0 <| ?_);simp only [zW];(rotate_left);(have hm:¬pm<0:=by simpa using uH WF);refine yRq 31 rfl (fun K hK=>?_);go_simp;refine (uH CMA _ (yB (uH GD) ((uH HS).below S0))).mono ?_;rintro e wt ⟨rfl,hb⟩;have S1:=(uH HS).call S0 hb;clear hb;(go_wp2_with fail);refine hK.out _ _ S1 (fun S0=>?_);clear hK K S1;(try simp only [zW]);refine tW 32 93 (.bool false) S0 ?_;simp only [zW];refine tW 33 94 (.bool false) S0 ?_;simp only [zW];refine tW 34 95 (.bool false) S0 ?_;simp only [zW];refine tW 35 96 _ S0 ?_;simp only [zW];refine tW 36 97 _ S0 ?_;simp only [zW];cases sm;refine yRq 37 rfl (fun K hK=>?_);go_simp;refine (qQ me cp _).mono ?_;rw [hsm];rintro e wt ⟨rfl,hb⟩;have S1:=(uH HS).call S0 hb;clear hb;(go_wp2_with fail);refine hK.out _ _ S1 (fun S0=>?_);clear hK K S1;(try simp only [zW]);refine tW 38 99 (.bool true) S0 ?_;simp only [zW];(rotate_left);refine yRq 37 rfl (fun K hK=>?_);go_simp;refine (qQ me cp _).mono ?_;rw [hsm];rintro e wt ⟨rfl,hb⟩;have S1:=(uH HS).call S0 hb;clear hb;(go_wp2_with fail);refine hK.out _ _ S1 (fun S0=>?_);clear hK K S1;(try simp only [zW]);refine tW 38 99 (.bool false) S0 ?_;simp only [zW];refine tW 39 100 (.bool false) S0 ?_;simp only [zW];refine wpAnyH_done (by kernel_rfl) ?_ _;have Zx:=aA (show o=dL aj ms id (cs.drop (k+1)) by rw [uH GL,decide_eq_true DJ,decide_eq_true (show id≤1000000000 by omega)];simp);have Zj:=aA (show Kp w3 _ from yB (uH XI) S0);clear GL A0 HS R S0;go_wp2;go_roundw;(case rel=>exact ⟨k+1,id,by omega,by go_num,Zx,aA ⟨by omega,fun e=>by omega,uH ZY⟩,Zj⟩);(case measure=>simp [intOf];omega);iterate 2
        (refine tU 37 98 S0 <| tU 38 99 S0 <| ?_);simp only [zW];rotate_left
      all_goals
        refine tW 39 100 (.bool true) S0 ?_;simp only [zW];refine wpAnyH_done (by kernel_rfl) ?_ _;have QL:=aA (yB (uH GD) ((uH HS).below S0));have HF:=aA (show o=false by
          first
          | (rw [uH GL];simp;done)
          | (rw [uH GL,decide_eq_false (show ¬last<id by omega)];simp;done)
          | (have hc:¬(1≤id∧id≤1000000000):=fun hc=>by rw [dG hc.1 hc.2] at hib;cases hib
             (have hz:decide (last<id)=false∨decide (id≤1000000000)=false:=by simp only [decide_eq_false_iff_not];omega);rw [uH GL];rcases hz with hz | hz<;>rw [hz]<;>simp))
        go_wp2;go_ret;exact ⟨yF (uH HF).symm,uH QL⟩
end
section
open Go.RowKit
variable {a:Ask} {c:Con} {p:Con→Bool} {hs:List AV} {l:List Ask} {cs:List Con} {ms:List Mac} {nd:List UInt8} {m:Mac} {B M g ga i k n pg:Nat} {r:Nat×Nat} {ao:Option Addr} {s:St} {α:Type} {t:TypeId} {w w':World}
def qB:Int→Int→List (Int×Int)→Bool
 | _,_,[]=>true
 | x,y,r::t=>aN (-1) x y r.1 r.2&&qB (x + -1*r.1) (y + -1*r.2) t
theorem aK9:∀(l:List (Int×Int)) (x y:Int),aR x y=true→aR (aZ l x y).1 (aZ l x y).2.1=true
 | [],x,y,h=>h
 | r::t,x,y,h=>by
  rw [aZ];by_cases hb:aN 1 x y r.1 r.2=true
  ·rw [if_pos hb];refine aK9 t _ _ ?_;simp only [aN,yK] at hb;exact hb.2
  ·rw [if_neg hb];decide
theorem oG:∀(l:List (Int×Int)) (x y:Int),(aZ l x y).2.2=true→∀r ∈ l,aR r.1 r.2=true
 | [],x,y,_,r,h=>by simp at h
 | q::t,x,y,h,r,hr=>by
  rw [aZ] at h;by_cases hb:aN 1 x y q.1 q.2=true
  ·rw [if_pos hb] at h;rcases List.mem_cons.1 hr with rfl | hr
   ·simp only [aN,yK] at hb;exact hb.1.2
   ·exact oG t _ _ h r hr
  ·rw [if_neg hb] at h;cases h
theorem aA4:∀(l:List (Int×Int)) (x y:Int),(aZ l x y).2.2=true→x≤(aZ l x y).1∧y≤(aZ l x y).2.1
 | [],x,y,_=>⟨Int.le_refl _,Int.le_refl _⟩
 | r::t,x,y,h=>by
  rw [aZ] at h ⊢;by_cases hb:aN 1 x y r.1 r.2=true
  ·rw [if_pos hb] at h ⊢;have:=aA4 t _ _ h;(have hr:aR r.1 r.2=true:=by simp only [aN,yK] at hb;exact hb.1.2);have:=bY hr;omega
  ·rw [if_neg hb] at h;cases h
theorem aE3 {X Y:Int} (hX:aR X Y=true):∀(l:List (Int×Int)) (x y:Int),aR x y=true→x≤X→y≤Y→(qB (X + -1*x) (Y + -1*y) l=true↔(aZ l x y).2.2=true∧(aZ l x y).1≤X∧(aZ l x y).2.1≤Y)
 | [],x,y,h,h1,h2=>by simp [qB,aZ,h1,h2]
 | r::t,x,y,h,h1,h2=>by
  have bX:=bY hX;have bx:=bY h;rw [qB,aZ,yK];by_cases hs:aN (-1) (X + -1*x) (Y + -1*y) r.1 r.2=true
  ·have hs':=hs;simp only [aN,yK] at hs';have br:=bY hs'.1.2;have bs':=bY hs'.2;(have hr2:aR (x+1*r.1) (y+1*r.2)=true:=by simp only [aR,inB,yK,yL];omega);(have hp:aN 1 x y r.1 r.2=true:=by simp only [aN,yK];exact ⟨⟨h,hs'.1.2⟩,hr2⟩);rw [if_pos hp];have ih:=aE3 hX t (x+1*r.1) (y+1*r.2) hr2 (by omega) (by omega);rw [←ih];(have e1:X + -1*(x+1*r.1)=X + -1*x + -1*r.1:=by omega);(have e2:Y + -1*(y+1*r.2)=Y + -1*y + -1*r.2:=by omega);rw [e1,e2];exact ⟨fun hh=>hh.2,fun hh=>⟨hs,hh⟩⟩
  ·refine ⟨fun hh=>absurd hh.1 hs,fun ⟨g1,g2,g3⟩=>absurd ?_ hs⟩;by_cases hp:aN 1 x y r.1 r.2=true
   ·rw [if_pos hp] at g1 g2 g3;have ge:=aA4 t _ _ g1;have hp':=hp;simp only [aN,yK] at hp';have br:=bY hp'.1.2;simp only [aN,yK];refine ⟨⟨?_,hp'.1.2⟩,?_⟩<;>simp only [aR,inB,yK,yL]<;>omega
   ·rw [if_neg hp] at g1;cases g1
theorem aCu (hr:aR m.mem m.cpu=true):wC cs m=true↔qB m.mem m.cpu (aP (fun q=>decide (q.node=m.name)) cs)=true:=by
 have h:=aE3 hr (aP (fun q=>decide (q.node=m.name)) cs) 0 0 (by decide) (bY hr).1 (bY hr).2.2.1;rw [show m.mem + -1*0=m.mem by omega,show m.cpu + -1*0=m.cpu by omega] at h;rw [h];simp only [wC,hr,Bool.true_and,yK,iY,within];refine ⟨fun ⟨a,b⟩=>⟨a,of_decide_eq_true b.1.2,of_decide_eq_true b.2⟩,fun ⟨a,b,c⟩=>⟨a,⟨⟨⟨aK9 _ 0 0 (by decide),trivial⟩,decide_eq_true b⟩,decide_eq_true c⟩⟩⟩
theorem aKn {a b:List UInt8} (h:leT a b=false):Op.bytesLess (bs b).toList (bs a).toList=true:=by
 simp only [leT,Bool.or_eq_false_iff] at h;exact aFC _ _ h.1 (fun e=>by rw [e] at h;simp at h)
theorem xZ {ck:Int}:∀(l:List Mac) (last:List UInt8),cO ck last l=true→∀m ∈ l,Op.bytesLess (bs last).toList (bs m.name).toList=true
 | [],_,_,m,h=>by simp at h
 | q::t,last,h,m,hm=>by
  simp only [cO,yK,Bool.not_eq_true'] at h;have h1:=aKn h.1;rcases List.mem_cons.1 hm with rfl | hm
  ·exact h1
  ·exact wN _ _ _ h1 (xZ t q.name h.2.2.2.2 m hm)
theorem uB {ck:Int}:∀(l:List Mac) (last:List UInt8),cO ck last l=true→∀m ∈ l,bI m.name l=some m
 | [],_,_,m,h=>by simp at h
 | q::t,last,h,m,hm=>by
  simp only [cO,yK,Bool.not_eq_true'] at h;rcases List.mem_cons.1 hm with rfl | hm
  ·simp [bI]
  ·have hab:=xZ t q.name h.2.2.2.2 m hm;(have hne:¬q.name=m.name:=fun e=>by rw [e,aFD] at hab;cases hab);have:=uB t q.name h.2.2.2.2 m hm;simp only [bI] at this ⊢;rw [List.find?_cons_of_neg (by simpa using hne)];exact this
theorem pO {ck:Int} {cs:List Con}:∀(l:List Mac) (last:List UInt8),mK ck cs last l=true↔cO ck last l=true∧∀m ∈ l,wC cs m=true
 | [],_=>by simp [mK,cO]
 | q::t,last=>by
  simp only [mK,cO,yK,pO t q.name,List.mem_cons,forall_eq_or_imp];exact ⟨fun ⟨a,b,c,d,e,f,g⟩=>⟨⟨a,b,c,d,f⟩,e,g⟩,fun ⟨⟨a,b,c,d,f⟩,e,g⟩=>⟨a,b,c,d,e,f,g⟩⟩
theorem vK {apps:List bW} {l l':List Mac} (h:∀nm,(bI nm l').isSome=(bI nm l).isSome):∀(cs:List Con) (last:Int),dL apps l' last cs=dL apps l last cs
 | [],_=>rfl
 | c::t,last=>by rw [dL,dL,h,vK h t]
theorem wU {nm:List UInt8} {t:List Con}:aP (fun q=>decide (q.node=nm)) (c::t)=if c.node=nm then (c.mem,c.cpu)::aP (fun q=>decide (q.node=nm)) t else aP (fun q=>decide (q.node=nm)) t:=by
 by_cases h:c.node=nm
 ·simp [aP,h]
 ·simp [aP,h]
theorem aDF {apps:List bW}:∀(cs:List Con) (l:List Mac) (last:Int),eP apps l last cs=true↔dL apps l last cs=true∧∀nm m,bI nm l=some m→qB m.mem m.cpu (aP (fun q=>decide (q.node=nm)) cs)=true
 | [],l,last=>by simp [eP,dL,aP,qB]
 | c::t,l,last=>by
  cases hf:bI c.node l with
  | none=>simp [eP,dL,hf]
  | some m=>
   have hn:=uD hf;have ih:=aDF (apps:=apps) t (⟨m.name,m.mem + -1*c.mem,m.cpu + -1*c.cpu,m.seen⟩::l) c.id;have Xk:∀nm,bI nm (⟨m.name,m.mem + -1*c.mem,m.cpu + -1*c.cpu,m.seen⟩::l)=if c.node=nm then some ⟨m.name,m.mem + -1*c.mem,m.cpu + -1*c.cpu,m.seen⟩ else bI nm l:=fun nm=>by
    by_cases e:c.node=nm
    ·rw [if_pos e];simp [bI,hn,e]
    ·rw [if_neg e];simp [bI,hn,e]
   have BS:∀nm,(bI nm (⟨m.name,m.mem + -1*c.mem,m.cpu + -1*c.cpu,m.seen⟩::l)).isSome=(bI nm l).isSome:=fun nm=>by
    rw [Xk];by_cases e:c.node=nm
    ·rw [if_pos e,←e,hf];rfl
    ·rw [if_neg e]
   rw [vK BS] at ih;simp only [eP,dL,hf,Option.isSome_some,Option.getD_some,Bool.true_and,yK,ih];constructor
   ·rintro ⟨a,b,c1,d,e,f,g⟩;refine ⟨⟨a,b,d,c1,f⟩,fun nm m2 hm2=>?_⟩;rw [wU];by_cases en:c.node=nm
    ·rw [if_pos en];rw [←en,hf] at hm2;cases hm2;rw [qB,yK];exact ⟨e,g nm ⟨m.name,m.mem + -1*c.mem,m.cpu + -1*c.cpu,m.seen⟩ (by rw [Xk,if_pos en])⟩
    ·rw [if_neg en];exact g nm m2 (by rw [Xk,if_neg en];exact hm2)
   ·rintro ⟨⟨a,b,d,c1,f⟩,g⟩;have g0:=g c.node m hf;rw [wU,if_pos rfl,qB,yK] at g0;refine ⟨a,b,c1,d,g0.1,f,fun nm m2 hm2=>?_⟩;rw [Xk] at hm2;by_cases en:c.node=nm
    ·rw [if_pos en] at hm2;cases hm2;rw [←en];exact g0.2
    ·rw [if_neg en] at hm2;have:=g nm m2 hm2;rwa [wU,if_neg en] at this
theorem aFK (s:St):rC s=fV s:=by
 rw [Bool.eq_iff_iff];simp only [rC,fV,aC3,nI,jH,nR,yK,aDF,pO];have key:cO s.clock [] s.ms=true→(iY (bG s.ms)).2.2=true→((∀nm m,bI nm s.ms=some m→qB m.mem m.cpu (aP (fun q=>decide (q.node=nm)) s.cs)=true)↔∀m ∈ s.ms,wC s.cs m=true):=fun h1 h2=>by
  have hr:∀m ∈ s.ms,aR m.mem m.cpu=true:=fun m hm=>oG _ 0 0 h2 (m.mem,m.cpu) (by simp only [bG,List.mem_map];exact ⟨m,hm,rfl⟩)
  constructor
  ·intro h m hm;exact (aCu (hr m hm)).2 (h m.name m (uB _ _ h1 m hm))
  ·intro h nm m hf;have hm:m ∈ s.ms:=List.mem_of_find?_eq_some hf;have hn:=uD hf;have:=(aCu (hr m hm)).1 (h m hm);rwa [hn] at this
 constructor
 ·rintro ⟨a,⟨b1,b2,b3,b4⟩,c,⟨d1,d2,d3⟩,e1,e2,e3⟩;exact ⟨a,b1,b2,b3,b4,c,⟨⟨d2,(key d2 d3).1 e3⟩,d3,d1⟩,e1,e2⟩
 ·rintro ⟨a,b1,b2,b3,b4,c,⟨⟨d2,hh⟩,d3,d1⟩,e1,e2⟩;exact ⟨a,⟨b1,b2,b3,b4⟩,c,⟨d1,d2,d3⟩,e1,e2,(key d2 d3).2 hh⟩
def aQ (s:St):Bool:=fV s
theorem lF (x:Sls) (s:St) (w:World) (h:iL w x s) (hf:bH s) :
  cP 18 #[sv x s] w fun e w'=>e=.returned (.bool (aQ s))∧Bw w w':=aCE x s w h hf
theorem lL (x:Sls) (s:St) (w:World) (h:iL w x s) (hf:bH s) (hc:x.ql≤x.qc) (hw:nY s) :
  cP 24 #[sv x s] w fun e w'=>e=.returned (.bool (aQ s))∧Bw w w':=by
 have:=aCF x s w h hf hc hw;rwa [aFK] at this
theorem aBK {p:Ask→Bool} {qu:List UInt8}:∀{l:List bW} {i:Nat} {r:Nat×Nat},eB p qu l i=some r→i≤r.1∧∃h:r.1 - i<l.length,r.2<l[r.1 - i].asks.length
 | [],_,_,h=>by cases h
 | a::t,i,r,h=>by
  have go:eB p qu t (i+1)=some r→i≤r.1∧∃h:r.1 - i<(a::t).length,r.2<(a::t)[r.1 - i].asks.length:=fun h=>by
   obtain ⟨h1,h2,h3⟩:=aBK h;(have e:r.1 - i=(r.1 - (i+1))+1:=by omega);refine ⟨by omega,by simp only [List.length_cons];omega,?_⟩;simp only [e,List.getElem_cons_succ];exact h3
  rw [eB] at h;split at h
  ·split at h
   ·rename_i k hk;cases h;have:=pY hk;refine ⟨yJ _,by simp,?_⟩;simp only [Nat.sub_self,List.getElem_cons_zero];omega
   ·exact go h
  ·exact go h
theorem aAa {s:St} {nd:List UInt8} {r:Nat×Nat}:∀{l:List (List UInt8)},jC s nd l=some r→∃h:r.1<s.apps.length,r.2<s.apps[r.1].asks.length
 | [],h=>by cases h
 | q::t,h=>by
  rw [jC] at h;split at h
  ·rename_i r' hr;cases h;obtain ⟨_,h2,h3⟩:=aBK hr;simp only [Nat.sub_zero] at h2 h3;exact ⟨h2,h3⟩
  ·exact aAa h
theorem aDf (h:oL s nd=some r):∃h:r.1<s.apps.length,r.2<s.apps[r.1].asks.length:=aAa h
theorem zJ {apps:List bW} {ms:List Mac}:∀(cs:List Con) (last:Int),dL apps ms last cs=true→∀c ∈ cs,last<c.id
 | [],_,_,_,h=>by cases h
 | c::t,last,h,c',hc=>by
  rw [dL] at h;simp only [yK,yL] at h;rcases List.mem_cons.1 hc with rfl | hc
  ·exact h.1
  ·have:=zJ t c.id h.2.2.2.2.2 c' hc;omega
theorem aDG {apps:List bW} {ms:List Mac}:∀(cs:List Con) (last:Int),dL apps ms last cs=true→aLO cs
 | [],_,_=>fun i j hi=>absurd hi (by simp)
 | c::t,last,h=>by
  rw [dL] at h;simp only [yK,yL] at h;have h1:=zJ t c.id h.2.2.2.2.2;have h2:=aDG t c.id h.2.2.2.2.2;intro i j hi hj hij
  match i,j with
  | _,0=>omega
  | 0,j+1=>simp only [List.getElem_cons_zero,List.getElem_cons_succ];exact h1 _ (yM _)
  | i+1,j+1=>simp only [List.getElem_cons_succ];exact h2 i j (by simpa using hi) (by simpa using hj) (by omega)
theorem xV (h:aQ s=true):aLO s.cs∧(0≤s.epoch∧s.epoch≤1000000000)∧(0≤s.serial∧s.serial≤1000000000):=by
 rw [aQ,fV] at h;simp only [yK,inB,yL] at h;exact ⟨aDG _ _ h.2.2.2.2.2.2.2.2,by omega,by omega⟩
def zB (s:St) (nd:List UInt8) (r:Nat×Nat):Con:=
 match s.apps[r.1]? with
 | some a=>(match a.asks[r.2]? with | some k=>⟨idV s,a.id,nd,k.mem,k.cpu⟩ | none=>⟨0,0,[],0,0⟩)
 | none=>⟨0,0,[],0,0⟩
theorem zA (h1:r.1<s.apps.length) (h2:r.2<s.apps[r.1].asks.length):zB s nd r=⟨idV s,s.apps[r.1].id,nd,s.apps[r.1].asks[r.2].mem,s.apps[r.1].asks[r.2].cpu⟩:=by
 rw [zB,List.getElem?_eq_getElem h1];simp only;rw [List.getElem?_eq_getElem h2]
def aKe (s:St) (nd:List UInt8):Bool:=(bI nd s.ms).isSome&&(decide (s.cs.length<150)&&nP s)
def vW (s:St) (nd:List UInt8):Option ((Nat×Nat)×Con):=if aKe s nd=true then (oL s nd).map fun r=>(r,zB s nd r) else none
def aV (s:St) (nd:List UInt8):Option ((Nat×Nat)×Con):=if aQ s=true then vW s nd else none
def oQ:Option ((Nat×Nat)×Con)→Con
 | some r=>r.2
 | none=>⟨0,0,[],0,0⟩
def aIh (a:Ask):Ask:=⟨a.mem,a.cpu,a.count - 1,a.node,a.missed⟩
def iB (l:List Ask) (k:Nat):List Ask:=match l[k]? with
 | none=>l
 | some a=>if 1<a.count then l.set k (aIh a) else l.eraseIdx k
theorem xG (h:k<l.length) (hc:1<l[k].count):iB l k=l.set k (aIh l[k]):=by
 rw [iB,List.getElem?_eq_getElem h];simp only;rw [if_pos hc]
theorem xH (h:k<l.length) (hc:¬1<l[k].count):iB l k=l.eraseIdx k:=by
 rw [iB,List.getElem?_eq_getElem h];simp only;rw [if_neg hc]
theorem aA7 (l:List Ask) (k:Nat):(iB l k).length≤l.length:=by
 unfold iB;split
 ·exact yJ _
 ·split
  ·rw [List.length_set];exact yJ _
  ·exact List.length_eraseIdx_le _ _
theorem aFO (h:a ∈ iB l k):∃b ∈ l,a.node=b.node:=by
 unfold iB at h;split at h
 ·exact ⟨a,h,rfl⟩
 ·rename_i b hb;split at h
  ·rcases List.mem_or_eq_of_mem_set h with h | h
   ·exact ⟨a,h,rfl⟩
   ·exact ⟨b,List.mem_of_getElem? hb,by rw [h];rfl⟩
  ·exact ⟨a,List.mem_of_mem_eraseIdx h,rfl⟩
def aBY (a:bW) (k:Nat):bW:=⟨a.id,a.queue,iB a.asks k⟩
def bT (l:List bW) (r:Nat×Nat):List bW:=l.modify r.1 (fun a=>aBY a r.2)
theorem qM {l:List bW} {a:bW} (h:a ∈ bT l r):∃b ∈ l,a.id=b.id∧a.queue=b.queue∧(a.asks=b.asks∨a.asks=iB b.asks r.2):=by
 unfold bT at h;obtain ⟨i,hi,rfl⟩:=List.mem_iff_getElem.1 h;have hi':i<l.length:=by simpa using hi
 rw [List.getElem_modify];split
 ·exact ⟨l[i],yM hi',rfl,rfl,.inr rfl⟩
 ·exact ⟨l[i],yM hi',rfl,rfl,.inl rfl⟩
def fI (id:Int):List Con→Nat
 | []=>0
 | c::t=>if c.id<id then fI id t+1 else 0
theorem aCT (id:Int):∀l:List Con,fI id l≤l.length
 | []=>yJ _
 | c::t=>by
  rw [fI];have:=aCT id t;split<;>simp<;>omega
theorem aCU {id:Int}:∀{l:List Con} {p:Nat},p≤l.length→(∀i (hi:i<l.length),i<p→l[i].id<id)→(∀i (hi:i<l.length),p≤i→id≤l[i].id)→fI id l=p
 | [],p,h,_,_=>by simp at h;simp [fI,h]
 | c::t,p,h,h1,h2=>by
  rw [fI];cases p with
  | zero=>have:=h2 0 (by simp) (yJ _);simp only [List.getElem_cons_zero] at this;rw [if_neg (by omega)]
  | succ p=>have h0:=h1 0 (by simp) (by omega);simp only [List.getElem_cons_zero] at h0;rw [if_pos h0,aCU (l:=t) (p:=p) (by simpa using h) (fun i hi hp=>by have:=h1 (i+1) (by simpa using hi) (by omega);simpa using this) (fun i hi hp=>by have:=h2 (i+1) (by simpa using hi) (by omega);simpa using this)]
def mY (l:List Con) (c:Con):List Con:=l.take (fI c.id l)++c::l.drop (fI c.id l)
theorem aBh (l:List Con) (c:Con):(mY l c).length=l.length+1:=by
 have:=aCT c.id l;unfold mY;rw [List.length_append,List.length_cons,List.length_take,List.length_drop];omega
theorem aBg {l:List Con} {x:Con} (h:x ∈ mY l c):x=c∨x ∈ l:=by
 unfold mY at h;rcases List.mem_append.1 h with h | h
 ·exact .inr (List.mem_of_mem_take h)
 ·rcases List.mem_cons.1 h with h | h
  ·exact .inl h
  ·exact .inr (List.mem_of_mem_drop h)
def dO (x:Int):Int:=if 99999<x+1 then 1 else x+1
def bZ (s:St) (p:(Nat×Nat)×Con):St:=⟨s.qs,s.clock,s.epoch,s.next,dO s.serial,bT s.apps p.1,s.ms,mY s.cs p.2⟩
def gY (s:St) (nd:List UInt8):St:=match aV s nd with | none=>s | some p=>bZ s p
theorem nO (h:aV s nd=none):gY s nd=s:=by rw [gY,h]
theorem dX {p:(Nat×Nat)×Con} (h:aV s nd=some p):gY s nd=bZ s p:=by rw [gY,h]
theorem lC {p:(Nat×Nat)×Con} (h:aV s nd=some p):aQ s=true∧vW s nd=some p∧s.cs.length<150∧∃h1:p.1.1<s.apps.length,∃h2:p.1.2<s.apps[p.1.1].asks.length,p.2=⟨idV s,s.apps[p.1.1].id,nd,s.apps[p.1.1].asks[p.1.2].mem,s.apps[p.1.1].asks[p.1.2].cpu⟩:=by
 unfold aV at h;split at h
 ·rename_i hk;refine ⟨hk,h,?_⟩;unfold vW at h;split at h
  ·rename_i hm;simp only [aKe,yK,yL] at hm;refine ⟨hm.2.1,?_⟩;cases hp:oL s nd with
   | none=>rw [hp] at h;cases h
   | some r=>rw [hp] at h;obtain rfl:=Option.some.inj h;obtain ⟨h1,h2⟩:=aDf hp;exact ⟨h1,h2,zA h1 h2⟩
  ·cases h
 ·cases h
theorem sM (hf:bH s) (hn:nd.length≤1048576):bH (gY s nd):=by
 cases h:aV s nd with
 | none=>rw [nO h];exact hf
 | some p=>
  rw [dX h];obtain ⟨_,_,h3,h1,h2,e⟩:=lC h;refine ⟨hf.1,⟨by simp only [bZ,bT,List.length_modify];exact hf.2.1.1,fun a ha=>?_⟩,hf.2.2.1,by simp only [bZ,aBh];omega,fun c hc=>?_⟩
  ·obtain ⟨b,hb,_,e2,e3⟩:=qM ha;have hq:=hf.2.1.2 b hb;refine ⟨by rw [e2];exact hq.1,?_⟩;rcases e3 with e3 | e3
   ·rw [e3];exact hq.2
   ·rw [e3];refine ⟨Nat.le_trans (aA7 _ _) hq.2.1,fun x hx=>?_⟩;obtain ⟨y,hy,e4⟩:=aFO hx;rw [e4];exact hq.2.2 y hy
  ·rcases aBg hc with rfl | hc
   ·rw [e];exact hn
   ·exact hf.2.2.2.2 c hc
theorem aBN (hw:nY s) (nd:List UInt8):nY (gY s nd):=by
 cases h:aV s nd with
 | none=>rw [nO h];exact hw
 | some p=>
  rw [dX h];obtain ⟨_,_,_,h1,h2,e⟩:=lC h;refine ⟨fun a ha=>?_,fun c hc=>?_⟩
  ·obtain ⟨b,hb,e1,_⟩:=qM ha;rw [e1];exact hw.1 b hb
  ·rcases aBg hc with rfl | hc
   ·rw [e];exact hw.1 _ (yM h1)
   ·exact hw.2 c hc
def aAA:List (Int×Int)→Int
 | []=>0
 | r::t=>r.1+aAA t
def z8:List (Int×Int)→Int
 | []=>0
 | r::t=>r.2+z8 t
theorem aBR:∀a b:List (Int×Int),aAA (a++b)=aAA a+aAA b
 | [],b=>by simp [aAA]
 | r::t,b=>by rw [List.cons_append,aAA,aAA,aBR t b];omega
theorem aBQ:∀a b:List (Int×Int),z8 (a++b)=z8 a+z8 b
 | [],b=>by simp [z8]
 | r::t,b=>by rw [List.cons_append,z8,z8,aBQ t b];omega
theorem aDZ:∀l:List (Int×Int),(∀r ∈ l,aR r.1 r.2=true)→0≤aAA l∧0≤z8 l
 | [],_=>⟨Int.le_refl _,Int.le_refl _⟩
 | r::t,h=>by
  have i:=aDZ t (fun r hr=>h r (List.mem_cons_of_mem _ hr));have:=bY (h r List.mem_cons_self);rw [aAA,z8];omega
theorem aE1:∀(l:List (Int×Int)) (x y:Int),(aZ l x y).2.2=true→(aZ l x y).1=x+aAA l∧(aZ l x y).2.1=y+z8 l
 | [],x,y,_=>by simp [aZ,aAA,z8]
 | r::t,x,y,h=>by
  rw [aZ] at h ⊢;by_cases hb:aN 1 x y r.1 r.2=true
  ·rw [if_pos hb] at h ⊢;have:=aE1 t _ _ h;rw [aAA,z8];omega
  ·rw [if_neg hb] at h;cases h
theorem aJP:∀(l:List (Int×Int)) (x y:Int),aR x y=true→(∀r ∈ l,aR r.1 r.2=true)→x+aAA l≤1000000000→y+z8 l≤1000000000→(aZ l x y).2.2=true
 | [],x,y,_,_,_,_=>rfl
 | r::t,x,y,h,hr,h1,h2=>by
  rw [aAA] at h1;rw [z8] at h2;have ht:∀r ∈ t,aR r.1 r.2=true:=fun r h=>hr r (List.mem_cons_of_mem _ h)
  have hp:=aDZ t ht;have hq:=hr r List.mem_cons_self;have b1:=bY h;have b2:=bY hq;have hn:aR (x+1*r.1) (y+1*r.2)=true:=by simp only [aR,inB,yK,yL];omega
  rw [aZ,if_pos (by simp only [aN,yK];exact ⟨⟨h,hq⟩,hn⟩)];exact aJP t _ _ hn ht (by omega) (by omega)
theorem aIG:aAA (aP p (mY cs c))=aAA (aP p cs)+(if p c=true then c.mem else 0)∧z8 (aP p (mY cs c))=z8 (aP p cs)+(if p c=true then c.cpu else 0):=by
 have e:aAA (aP p cs)=aAA (aP p (cs.take (fI c.id cs)))+aAA (aP p (cs.drop (fI c.id cs)))∧z8 (aP p cs)=z8 (aP p (cs.take (fI c.id cs)))+z8 (aP p (cs.drop (fI c.id cs))):=by rw [←aBR,←aBQ,aP,aP,aP,←List.map_append,←List.filter_append,List.take_append_drop];exact ⟨rfl,rfl⟩
 rw [e.1,e.2,mY];unfold aP;rw [List.filter_append,List.map_append,aBR,aBQ,List.filter_cons];by_cases h:p c=true
 ·simp only [if_pos h,List.map_cons,aAA,z8];omega
 ·simp only [if_neg h];omega
theorem aIF {r:Int×Int} (h:r ∈ aP p (mY cs c)):r ∈ aP p cs∨r=(c.mem,c.cpu):=by
 obtain ⟨d,hd,rfl⟩:=List.mem_map.1 h;obtain ⟨h1,h2⟩:=List.mem_filter.1 hd;rcases aBg h1 with rfl | h1
 ·exact .inr rfl
 ·exact .inl (List.mem_map.2 ⟨d,List.mem_filter.2 ⟨h1,h2⟩,rfl⟩)
theorem aE9 {a b:Int} (h:0≤a∧a≤1000000000∧0≤b∧b≤1000000000):aR a b=true:=by
 simp only [aR,inB,yK,yL];omega
theorem aIm (h:wC cs m=true) (hr:aR c.mem c.cpu=true) (hf:c.node=m.name→c.mem+aAA (aP (fun q=>decide (q.node=m.name)) cs)≤m.mem∧c.cpu+z8 (aP (fun q=>decide (q.node=m.name)) cs)≤m.cpu):wC (mY cs c) m=true:=by
 simp only [wC,yK,within,yL] at h ⊢;obtain ⟨h1,h2,⟨⟨h3,_⟩,h4⟩,h5⟩:=h;have e:=aE1 _ _ _ h2;have ea:=oG _ _ _ h2;rw [iY] at h4 h5;have hb:=bY h1;have u:=aIG (p:=fun q=>decide (q.node=m.name)) (cs:=cs) (c:=c);have cb:=bY hr;have each:∀r ∈ aP (fun q=>decide (q.node=m.name)) (mY cs c),aR r.1 r.2=true:=fun r hx=>by
  rcases aIF hx with hx | rfl
  ·exact ea r hx
  ·exact hr
 have le:aAA (aP (fun q=>decide (q.node=m.name)) (mY cs c))≤m.mem∧z8 (aP (fun q=>decide (q.node=m.name)) (mY cs c))≤m.cpu:=by
  by_cases hn:c.node=m.name
  ·have:=hf hn;rw [if_pos (by simpa using hn),if_pos (by simpa using hn)] at u;omega
  ·rw [if_neg (by simpa using hn),if_neg (by simpa using hn)] at u;omega
 have ok:(aZ (aP (fun q=>decide (q.node=m.name)) (mY cs c)) 0 0).2.2=true:=aJP _ _ _ (by decide) each (by omega) (by omega);have e':=aE1 _ _ _ ok;have ps:=aDZ _ each;rw [iY];exact ⟨h1,ok,⟨⟨aE9 (by omega),h1⟩,by omega⟩,by omega⟩
theorem aBm {id:Int} {l:List bW}:(dH id (bT l r)).isSome=(dH id l).isSome:=by
 unfold dH bT;rw [Bool.eq_iff_iff,List.find?_isSome,List.find?_isSome];constructor
 ·rintro ⟨a,ha,e⟩;obtain ⟨b,hb,e1,_⟩:=qM (r:=r) ha;exact ⟨b,hb,by rw [←e1];exact e⟩
 ·rintro ⟨a,ha,e⟩;obtain ⟨i,hi,rfl⟩:=List.mem_iff_getElem.1 ha;refine ⟨(l.modify r.1 fun a=>aBY a r.2)[i]'(by simpa using hi),yM _,?_⟩;rw [List.getElem_modify];split<;>exact e
theorem aDE {apps apps':List bW} {ms:List Mac} {c:Con} (ha:∀id,(dH id apps').isSome=(dH id apps).isSome) (h1:c.id≤1000000000) (h2:(dH c.app apps).isSome=true) (h3:(bI c.node ms).isSome=true) (h4:nD c.mem c.cpu=true):∀(cs:List Con) (last:Int),last<c.id→(∀d ∈ cs,d.id≠c.id)→dL apps ms last cs=true→dL apps' ms last (mY cs c)=true
 | [],last,hl,_,_=>by
  simp only [mY,fI,List.take_nil,List.drop_nil,List.nil_append,dL,yK,yL];exact ⟨hl,h1,by rw [ha];exact h2,h3,h4,trivial⟩
 | d::t,last,hl,hn,h=>by
  have go:∀(t:List Con) (last:Int),dL apps ms last t=true→dL apps' ms last t=true:=fun t=>by
   induction t with
   | nil=>intro _ _;rfl
   | cons d t ih=>intro last h;simp only [dL,yK,yL] at h ⊢;exact ⟨h.1,h.2.1,by rw [ha];exact h.2.2.1,h.2.2.2.1,h.2.2.2.2.1,ih _ h.2.2.2.2.2⟩
  have hd:=hn d List.mem_cons_self;by_cases hc:d.id<c.id
  ·(have e:mY (d::t) c=d::mY t c:=by simp only [mY,fI,if_pos hc,List.take_succ_cons,List.drop_succ_cons,List.cons_append]);rw [e];simp only [dL,yK,yL] at h ⊢;exact ⟨h.1,h.2.1,by rw [ha];exact h.2.2.1,h.2.2.2.1,h.2.2.2.2.1,aDE ha h1 h2 h3 h4 t d.id hc (fun x hx=>hn x (List.mem_cons_of_mem _ hx)) h.2.2.2.2.2⟩
  ·(have e:mY (d::t) c=c::d::t:=by simp only [mY,fI,if_neg hc,List.take_zero,List.drop_zero,List.nil_append]);rw [e];simp only [dL,yK,yL] at h ⊢;exact ⟨hl,h1,by rw [ha];exact h2,h3,h4,by omega,h.2.1,by rw [ha];exact h.2.2.1,h.2.2.2.1,h.2.2.2.2.1,go _ _ h.2.2.2.2.2⟩
theorem aES (h:jP l=true):jP (iB l k)=true:=by
 simp only [jP,yK,yL,List.all_eq_true] at h ⊢;refine ⟨Nat.le_trans (aA7 l k) h.1,fun a ha=>?_⟩;unfold iB at ha;split at ha
 ·exact h.2 a ha
 ·rename_i b hb;split at ha
  ·rename_i hc;rcases List.mem_or_eq_of_mem_set ha with ha | rfl
   ·exact h.2 a ha
   ·have:=h.2 b (List.mem_of_getElem? hb);simp only [gU,aIh,yK,inB] at this ⊢;have c:=this.2.1;rw [yL] at c;exact ⟨this.1,decide_eq_true (by omega),this.2.2⟩
  ·exact h.2 a (List.mem_of_mem_eraseIdx ha)
theorem zO {qs:List Q} {nx:Int} {k:Nat}:∀(l:List bW) (i:Nat) (last:Int),bJ qs nx last l=true→bJ qs nx last (l.modify i fun a=>aBY a k)=true
 | [],i,last,h=>by cases i<;>simpa using h
 | a::t,0,last,h=>by
  rw [List.modify_zero_cons];simp only [bJ,yK,aBY] at h ⊢;exact ⟨h.1,h.2.1,h.2.2.1,aES h.2.2.2.1,h.2.2.2.2⟩
 | a::t,i+1,last,h=>by
  rw [List.modify_succ_cons];simp only [bJ,yK,yL] at h ⊢;exact ⟨h.1,h.2.1,h.2.2.1,h.2.2.2.1,zO t i _ h.2.2.2.2⟩
theorem aBI {p:Ask→Bool}:∀{l:List Ask} {k j:Nat},gI p l k=some j→∃h:j - k<l.length,p l[j - k]=true
 | [],_,_,h=>by cases h
 | a::t,k,j,h=>by
  have hb:=pY h;rw [gI] at h;split at h
  ·rename_i hp;cases h;exact ⟨by simp,by simpa using hp⟩
  ·have hb':=pY h;obtain ⟨h1,h2⟩:=aBI h;(have e:j - k=(j - (k+1))+1:=by omega);refine ⟨by simp only [List.length_cons];omega,?_⟩;simp only [e,List.getElem_cons_succ];exact h2
theorem aBJ {p:Ask→Bool} {qu:List UInt8}:∀{l:List bW} {i:Nat} {r:Nat×Nat},eB p qu l i=some r→i≤r.1∧∃h:r.1 - i<l.length,∃h2:r.2<l[r.1 - i].asks.length,p l[r.1 - i].asks[r.2]=true∧l[r.1 - i].queue=qu
 | [],_,_,h=>by cases h
 | a::t,i,r,h=>by
  have go:eB p qu t (i+1)=some r→i≤r.1∧∃h:r.1 - i<(a::t).length,∃h2:r.2<(a::t)[r.1 - i].asks.length,p (a::t)[r.1 - i].asks[r.2]=true∧(a::t)[r.1 - i].queue=qu:=fun h=>by
   obtain ⟨h1,h2,h3,h4,h5⟩:=aBJ h;(have e:r.1 - i=(r.1 - (i+1))+1:=by omega);refine ⟨by omega,by simp only [List.length_cons];omega,?_⟩;simp only [e,List.getElem_cons_succ];exact ⟨h3,h4,h5⟩
  rw [eB] at h;split at h
  ·rename_i hq;split at h
   ·rename_i k hk;cases h;obtain ⟨h1,h2⟩:=aBI hk;refine ⟨yJ _,by simp,?_⟩;simp only [Nat.sub_self,List.getElem_cons_zero,Nat.sub_zero] at h1 h2 ⊢;exact ⟨h1,h2,hq⟩
   ·exact go h
  ·exact go h
theorem aA9 {s:St} {nd:List UInt8} {r:Nat×Nat}:∀{l:List (List UInt8)},jC s nd l=some r→∃h:r.1<s.apps.length,∃h2:r.2<s.apps[r.1].asks.length,aIC s nd s.apps[r.1].queue s.apps[r.1].asks[r.2]=true
 | [],h=>by cases h
 | q::t,h=>by
  rw [jC] at h;split at h
  ·rename_i r' hr;cases h;obtain ⟨_,h2,h3,h4,h5⟩:=aBJ hr;simp only [Nat.sub_zero] at h2 h3 h4 h5;exact ⟨h2,h3,by rw [h5];exact h4⟩
  ·exact aA9 h
theorem aBl {p:(Nat×Nat)×Con} (h:aV s nd=some p):aQ (bZ s p)=true:=by
 obtain ⟨hk,hn,hl,h1,h2,e⟩:=lC h;have hk':=hk;simp only [aQ,fV,yK,fT,jH,yL] at hk;obtain ⟨k1,k2,k3,k4,k5,⟨k6,k7⟩,⟨k8,k9,k10⟩,k11,k12⟩:=hk;unfold vW at hn;split at hn;case isFalse=>cases hn
 rename_i hm;simp only [aKe,nP,yK,yL,Bool.not_eq_true',List.any_eq_false,beq_iff_eq] at hm;obtain ⟨m1,m2,m3,m4⟩:=hm;have can:aIC s nd s.apps[p.1.1].queue s.apps[p.1.1].asks[p.1.2]=true:=by
  cases hp:oL s nd with
  | none=>rw [hp] at hn;cases hn
  | some r=>rw [hp] at hn;obtain rfl:=Option.some.inj hn;obtain ⟨_,_,c⟩:=aA9 hp;exact c
 simp only [aIC,yK] at can;obtain ⟨mm,hmm⟩:=Option.isSome_iff_exists.1 m1;have mk:=(pO _ _).1 k8;have Dz:gU s.apps[p.1.1].asks[p.1.2]=true:=by
  have go:∀(l:List bW) (last:Int),bJ s.qs s.next last l=true→∀a ∈ l,jP a.asks=true:=fun l=>by
   induction l with
   | nil=>intro _ _ a ha;cases ha
   | cons b t ih=>
    intro last h a ha;simp only [bJ,yK,yL] at h;rcases List.mem_cons.1 ha with rfl | ha
    ·exact h.2.2.2.1
    ·exact ih _ h.2.2.2.2 a ha
  have:=go _ _ k7 _ (yM h1);simp only [jP,yK,List.all_eq_true] at this;exact this.2 _ (yM h2)
 simp only [gU,yK] at Dz;have Nk:=Dz.1;have hrs:aR s.apps[p.1.1].asks[p.1.2].mem s.apps[p.1.1].asks[p.1.2].cpu=true:=by simp only [nD,yK] at Nk;exact Nk.1
 have hid:0<idV s:=by simp only [inB,yL] at k3 k5;unfold idV;omega
 have hl':(mY s.cs p.2).length≤150:=by rw [aBh];omega
 simp only [aQ,fV,yK,fT,jH];refine ⟨k1,k2,k3,k4,?_,⟨decide_eq_true (by simpa [bZ,bT] using k6),zO _ _ _ k7⟩,⟨(pO _ _).2 ⟨mk.1,fun m hm=>?_⟩,k9,decide_eq_true k10⟩,decide_eq_true hl',?_⟩;all_goals simp only [bZ]
 ·simp only [inB,yL] at k5 ⊢;unfold dO;split<;>omega
 ·rw [e];refine aIm (mk.2 m hm) hrs (fun en=>?_);have hfm:=uB _ _ mk.1 m hm;have hw:=can.2.1;simp only [fQ] at hw;rw [show nd=m.name from en,hfm] at hw;have hh:=mk.2 m hm;simp only [wC,yK,within,yL] at hh;obtain ⟨a1,a2,⟨⟨a3,_⟩,a4⟩,a5⟩:=hh;have es:=aE1 _ _ _ a2;have b1:=bY a1;have b3:=bY a3;rw [iY] at a3 a4 a5 b3;have hb:aN (-1) m.mem m.cpu (gZ s m.name).1 (gZ s m.name).2=true:=by
   simp only [aN,yK];exact ⟨⟨a1,a3⟩,aE9 (by
    (show 0≤m.mem + -1*(aZ (aP (fun q=>decide (q.node=m.name)) s.cs) 0 0).1∧m.mem + -1*(aZ (aP (fun q=>decide (q.node=m.name)) s.cs) 0 0).1≤1000000000∧0≤m.cpu + -1*(aZ (aP (fun q=>decide (q.node=m.name)) s.cs) 0 0).2.1∧m.cpu + -1*(aZ (aP (fun q=>decide (q.node=m.name)) s.cs) 0 0).2.1≤1000000000);omega)⟩
  simp only [aCe] at hw;rw [if_pos hb] at hw;simp only [within,yK,yL] at hw;have w1:s.apps[p.1.1].asks[p.1.2].mem≤m.mem + -1*(aZ (aP (fun q=>decide (q.node=m.name)) s.cs) 0 0).1:=hw.1.2;have w2:s.apps[p.1.1].asks[p.1.2].cpu≤m.cpu + -1*(aZ (aP (fun q=>decide (q.node=m.name)) s.cs) 0 0).2.1:=hw.2;show s.apps[p.1.1].asks[p.1.2].mem+_≤_∧s.apps[p.1.1].asks[p.1.2].cpu+_≤_;omega
 ·rw [e];refine aDE (fun id=>aBm) m3 ?_ m1 Nk _ _ hid (fun d hd=>m4 d hd) k12;rw [dH,List.find?_isSome];exact ⟨_,yM h1,by simp⟩
def aM (nd:List UInt8):Nat→St→St×List Con
 | 0,s=>(s,[])
 | n+1,s=>match aV s nd with
  | none=>(s,[])
  | some p=>((aM nd n (bZ s p)).1,p.2::(aM nd n (bZ s p)).2)
theorem lM (h:aV s nd=none):aM nd n s=(s,[]):=by
 cases n with
 | zero=>rfl
 | succ n=>rw [aM,h]
theorem eT {p:(Nat×Nat)×Con} (h:aV s nd=some p):aM nd (n+1) s=((aM nd n (bZ s p)).1,p.2::(aM nd n (bZ s p)).2):=by
 rw [aM,h]
theorem sK {nd:List UInt8} (hn:nd.length≤1048576):∀(n:Nat) {s:St},aQ s=true→bH s→nY s→aQ (aM nd n s).1=true∧bH (aM nd n s).1∧nY (aM nd n s).1∧(aM nd n s).2.length≤n∧(∀c ∈ (aM nd n s).2,c.node=nd)
 | 0,s,h1,h2,h3=>⟨h1,h2,h3,yJ _,fun c hc=>by cases hc⟩
 | n+1,s,h1,h2,h3=>by
  cases h:aV s nd with
  | none=>rw [lM h];exact ⟨h1,h2,h3,Nat.zero_le _,fun c hc=>by cases hc⟩
  | some p=>
   have f:=sM h2 hn;have w:=aBN h3 nd;rw [dX h] at f w;obtain ⟨i1,i2,i3,i4,i5⟩:=sK hn n (aBl h) f w;rw [eT h];refine ⟨i1,i2,i3,by simp only [List.length_cons];omega,fun c hc=>?_⟩;rcases List.mem_cons.1 hc with rfl | hc
   ·obtain ⟨_,_,_,_,_,e⟩:=lC h;rw [e]
   ·exact i5 c hc
def iW (nd:List UInt8) (a:Ask):Ask:=if jA a nd=true then a else ⟨a.mem,a.cpu,a.count,a.node,min (a.missed+1) 1000⟩
def aGj (nd:List UInt8) (l:List Ask):List Ask:=l.map (iW nd)
def tO (nd:List UInt8) (a:bW):bW:=⟨a.id,a.queue,aGj nd a.asks⟩
def iV (s:St) (nd:List UInt8):St:=⟨s.qs,s.clock,s.epoch,s.next,s.serial,s.apps.map (tO nd),s.ms,s.cs⟩
theorem aFZ (nd:List UInt8) (a:Ask):(iW nd a).node=a.node:=by unfold iW;split<;>rfl
theorem aFY (h:gU a=true):iW nd a=if jA a nd=false∧a.missed<1000 then ⟨a.mem,a.cpu,a.count,a.node,a.missed+1⟩ else a:=by
 simp only [gU,yK,inB,yL] at h;have hm:=h.2.2.2;unfold iW;cases hs:jA a nd
 ·rw [if_neg (by simp)];by_cases hl:a.missed<1000
  ·rw [if_pos ⟨rfl,hl⟩,show min (a.missed+1) 1000=a.missed+1 by omega]
  ·rw [if_neg (fun h=>hl h.2),show min (a.missed+1) 1000=a.missed by omega]
 ·rw [if_pos rfl,if_neg (fun h=>by cases h.1)]
theorem aB3 (hf:bH s) (nd:List UInt8):bH (iV s nd):=by
 refine ⟨hf.1,⟨by simp only [iV,List.length_map];exact hf.2.1.1,fun a ha=>?_⟩,hf.2.2⟩;obtain ⟨b,hb,rfl⟩:=List.mem_map.1 ha;have:=hf.2.1.2 b hb;refine ⟨this.1,by simp only [tO,aGj,List.length_map];exact this.2.1,fun q hq=>?_⟩;obtain ⟨r,hr,rfl⟩:=List.mem_map.1 hq;rw [aFZ];exact this.2.2 r hr
theorem aDg (hw:nY s) (nd:List UInt8):nY (iV s nd):=by
 refine ⟨fun a ha=>?_,hw.2⟩;obtain ⟨b,hb,rfl⟩:=List.mem_map.1 ha;exact hw.1 b hb
theorem aDk (h:aQ s=true):∀a ∈ s.apps,a.asks.length≤10∧∀q ∈ a.asks,gU q=true:=by
 simp only [aQ,fV,yK,fT,yL] at h;have go:∀(l:List bW) (last:Int),bJ s.qs s.next last l=true→∀a ∈ l,jP a.asks=true:=fun l=>by
  induction l with
  | nil=>intro _ _ a ha;cases ha
  | cons b t ih=>
   intro last h a ha;simp only [bJ,yK,yL] at h;rcases List.mem_cons.1 ha with rfl | ha
   ·exact h.2.2.2.1
   ·exact ih _ h.2.2.2.2 a ha
 intro a ha;have:=go _ _ h.2.2.2.2.2.1.2 a ha;simp only [jP,yK,List.all_eq_true,yL] at this;exact this
def bL (s:St) (nd:List UInt8) (most:Int):St×List Con:=
 if aQ s=true∧(bI nd s.ms).isSome=true∧0≤most∧most≤50 then (iV (aM nd most.toNat s).1 nd,(aM nd most.toNat s).2) else (s,[])
def iX (f:α→α) (l:List α) (i:Nat):List α:=(l.take i).map f++l.drop i
theorem uA (f:α→α) (l:List α):iX f l 0=l:=by simp [iX]
theorem xY (f:α→α) (l:List α) (h:l.length≤i):iX f l i=l.map f:=by
 rw [iX,List.take_of_length_le h,List.drop_of_length_le h,List.append_nil]
theorem jG (f:α→α) (l:List α) (i:Nat):(iX f l i).length=l.length:=by
 rw [iX,List.length_append,List.length_map,List.length_take,List.length_drop];omega
theorem lV (f:α→α) (l:List α) (hk:k<l.length):(iX f l i)[k]'(by rw [jG];exact hk)=if k<i then f l[k] else l[k]:=by
 unfold iX;rw [List.getElem_append];split
 ·rename_i h;simp only [List.length_map,List.length_take] at h;rw [if_pos (by omega),List.getElem_map,List.getElem_take]
 ·rename_i h;simp only [List.length_map,List.length_take] at h;rw [if_neg (by omega)];simp only [List.length_map,List.length_take,List.getElem_drop];congr 1;omega
theorem pM (f:α→α) (l:List α) (h:i<l.length):iX f l (i+1)=(iX f l i).set i (f l[i]):=by
 refine List.ext_getElem (by rw [List.length_set,jG,jG]) (fun k h1 h2=>?_);rw [jG] at h1;rw [lV f l h1,List.getElem_set];split
 ·rename_i hk;split
  ·rename_i e;subst e;rfl
  ·rename_i e;rw [lV f l h1,if_pos (by omega)]
 ·rename_i hk;rw [if_neg (by omega),lV f l h1,if_neg (by omega)]
theorem aAu (f:α→α) (l:List α) (h:i<l.length) (e:f l[i]=l[i]):iX f l (i+1)=iX f l i:=by
 rw [pM f l h,e];have:l[i]=(iX f l i)[i]'(by rw [jG];exact h):=by rw [lV f l h,if_neg (Nat.lt_irrefl _)]
 rw [this,List.set_getElem_self]
theorem aKu {nd:List UInt8}:∀(n:Nat) (s:St) (i:Nat) (c:Con),(aM nd n s).2[i]? = some c→∃p,aV (aM nd i s).1 nd=some p∧c=p.2∧(aM nd (i+1) s).1=bZ (aM nd i s).1 p
 | 0,s,i,c,h=>by simp [aM] at h
 | n+1,s,i,c,h=>by
  cases hx:aV s nd with
  | none=>rw [lM hx] at h;simp at h
  | some p=>
   rw [eT hx] at h;cases i with
   | zero=>simp only [List.getElem?_cons_zero,Option.some.injEq] at h;exact ⟨p,hx,h.symm,by rw [eT hx];rfl⟩
   | succ i=>
    simp only [List.getElem?_cons_succ] at h;obtain ⟨q,a,b,e⟩:=aKu n (bZ s p) i c h;refine ⟨q,?_,b,?_⟩
    ·rw [eT hx];exact a
    ·rw [eT (n:=i+1) hx,eT (n:=i) hx];exact e
theorem aJV {nd:List UInt8}:∀(n:Nat) (s:St),(aM nd (aM nd n s).2.length s).1=(aM nd n s).1
 | 0,s=>rfl
 | n+1,s=>by
  cases hx:aV s nd with
  | none=>simp only [lM hx]
  | some p=>rw [eT (n:=n) hx,List.length_cons,eT hx];exact aJV n _
theorem aKt {nd:List UInt8}:∀(n:Nat) (s:St),(aM nd n s).1.ms=s.ms
 | 0,s=>rfl
 | n+1,s=>by
  cases hx:aV s nd with
  | none=>rw [lM hx]
  | some p=>rw [eT hx];exact (aKt n _).trans rfl
theorem aIX (h:gU a=true):gU (iW nd a)=true:=by
 unfold iW;split
 ·exact h
 ·simp only [gU,yK,inB,yL] at h ⊢;exact ⟨h.1,h.2.1,h.2.2.1,by omega⟩
theorem aCV {nd:List UInt8} {qs:List Q} {nx:Int}:∀(l:List bW) (last:Int),bJ qs nx last l=true→bJ qs nx last (l.map (tO nd))=true
 | [],_,_=>rfl
 | a::t,last,h=>by
  rw [List.map_cons];simp only [bJ,yK,tO] at h ⊢;refine ⟨h.1,h.2.1,h.2.2.1,?_,aCV t _ h.2.2.2.2⟩;have:=h.2.2.2.1;simp only [jP,aGj,List.length_map,yK,List.all_eq_true] at this ⊢;refine ⟨this.1,fun q hq=>?_⟩;obtain ⟨r,hr,rfl⟩:=List.mem_map.1 hq;exact aIX (this.2 r hr)
theorem aGi {id:Int} {l:List bW}:(dH id (l.map (tO nd))).isSome=(dH id l).isSome:=by
 unfold dH;rw [Bool.eq_iff_iff,List.find?_isSome,List.find?_isSome];constructor
 ·rintro ⟨a,ha,e⟩;obtain ⟨b,hb,rfl⟩:=List.mem_map.1 ha;exact ⟨b,hb,e⟩
 ·rintro ⟨b,hb,e⟩;exact ⟨tO nd b,List.mem_map_of_mem hb,e⟩
theorem aAk {nd:List UInt8} {apps:List bW} {ms:List Mac}:∀(t:List Con) (last:Int),dL apps ms last t=true→dL (apps.map (tO nd)) ms last t=true
 | [],_,_=>rfl
 | d::t,last,h=>by
  simp only [dL,yK,yL] at h ⊢;exact ⟨h.1,h.2.1,by rw [aGi];exact h.2.2.1,h.2.2.2.1,h.2.2.2.2.1,aAk t _ h.2.2.2.2.2⟩
theorem aGh (h:aQ s=true):aQ (iV s nd)=true:=by
 simp only [aQ,fV,fT,yK] at h ⊢;obtain ⟨k1,k2,k3,k4,k5,⟨k6,k7⟩,k8,k9,k10⟩:=h;exact ⟨k1,k2,k3,k4,k5,⟨by simpa [iV] using k6,aCV _ _ k7⟩,k8,k9,aAk _ _ k10⟩
def tQ (nd:List UInt8):Nat→St→St
 | 0,s=>s
 | n+1,s=>(bL (tQ nd n s) nd 0).1
theorem y9:bL s nd 0=if aQ s=true∧(bI nd s.ms).isSome=true then (iV s nd,[]) else (s,[]):=by
 unfold bL;by_cases h:aQ s=true∧(bI nd s.ms).isSome=true
 ·rw [if_pos h,if_pos ⟨h.1,h.2,by omega,by omega⟩];rfl
 ·rw [if_neg h,if_neg (fun e=>h ⟨e.1,e.2.1⟩)]
structure GOk (s:St) (ms:List Mac):Prop where
 ok:aQ s=true
 fit:bH s
 wf:nY s
 ms:s.ms=ms
theorem GOk.pass (h:GOk s ms) (nd:List UInt8):GOk (bL s nd 0).1 ms:=by
 rw [y9];split
 ·exact ⟨aGh h.ok,aB3 h.fit nd,aDg h.wf nd,h.ms⟩
 ·exact h
theorem GOk.passes (h:GOk s ms) (nd:List UInt8):∀n,GOk (tQ nd n s) ms
 | 0=>h
 | n+1=>(h.passes nd n).pass nd
theorem aAj {s:St} {ms:List Mac} (h:GOk s ms) {nd:List UInt8} (hm:(bI nd ms).isSome=true):∀n,n≤3→∀a ∈ (tQ nd n s).apps,∀q ∈ a.asks,jA q nd=true∨(n:Int)≤q.missed
 | 0,_,a,ha,q,hq=>by
  have:=(aDk h.ok a ha).2 q hq;simp only [gU,yK,inB,yL] at this;exact .inr (by have:=this.2.2.2;omega)
 | n+1,hn,a,ha,q,hq=>by
  have k:=h.passes nd n;rw [tQ,y9,if_pos ⟨k.ok,by rw [k.ms];exact hm⟩] at ha;obtain ⟨b,hb,rfl⟩:=List.mem_map.1 ha;obtain ⟨r,hr,rfl⟩:=List.mem_map.1 hq;have ih:=aAj h hm n (by omega) b hb r hr;unfold iW;split
  ·rename_i e;exact .inl e
  ·rename_i e;rcases ih with ih | ih
   ·exact absurd ih e
   ·exact .inr (by simp only;omega)
theorem aIW (h:GOk s ms) (hm:(bI nd ms).isSome=true):∀a ∈ (tQ nd 3 s).apps,∀q ∈ a.asks,jA q nd=true:=by
 intro a ha q hq;rcases aAj h hm 3 (by omega) a ha q hq with e | e
 ·exact e
 ·simp only [jA,Bool.or_eq_true,yL];exact .inr (.inr e)
theorem aFo {most:Int} (hn:nd.length≤1048576) (h:aQ s=true) (hf:bH s) (hw:nY s) :
  GOk (bL s nd most).1 s.ms∧(∀i,i≤(bL s nd most).2.length→GOk (aM nd i s).1 s.ms)
   ∧(∀i (hi:i<(bL s nd most).2.length),∃p,aV (aM nd i s).1 nd=some p∧(bL s nd most).2[i]=p.2∧(aM nd (i+1) s).1=gY (aM nd i s).1 nd)
   ∧(0≤most→((bL s nd most).2.length:Int)≤most)∧(aM nd (bL s nd most).2.length s).1.cs.length=(bL s nd most).1.cs.length:=by
 have base:∀i,GOk (aM nd i s).1 s.ms:=fun i=>by
  obtain ⟨a,b,c,_⟩:=sK hn i h hf hw;exact ⟨a,b,c,aKt i s⟩
 unfold bL;split
 ·rename_i hc;refine ⟨⟨aGh (base _).ok,aB3 (base _).fit nd,aDg (base _).wf nd,(base _).ms⟩,fun i _=>base i,fun i hi=>?_,fun hm=>?_,?_⟩
  ·obtain ⟨p,a,b,e⟩:=aKu most.toNat s i _ (List.getElem?_eq_getElem hi);exact ⟨p,a,b,by rw [e,dX a]⟩
  ·have:=(sK hn most.toNat h hf hw).2.2.2.1;simp only;omega
  ·simp only;rw [aJV];rfl
 ·exact ⟨⟨h,hf,hw,rfl⟩,fun i _=>base i,fun i hi=>absurd hi (Nat.not_lt_zero i),fun hm=>hm,rfl⟩
theorem Lay.len {cs:List Value} (h:Lay w t g M cs):cs.length≤M:=by
 obtain ⟨R,_,h2⟩:=h;rw [List.length_append] at h2;omega
theorem aBc {cs:List Value} (h:Lay w t g M cs) {p:Nat} (hp:p<cs.length) (v:Value):Lay (w.setCell ⟨g,p,none⟩ v) t g M (cs.set p v):=by
 have hl:=h.len;refine h.cells p [v] (by simp;omega) (cs.set p v) (by rw [List.length_set];exact hl) (fun j u hj=>⟨fun e=>?_,fun e=>?_⟩)
 ·obtain rfl:j=p:=by simp at e;omega
  rw [List.getElem?_set_self hp] at hj;simpa using hj
 ·rw [List.getElem?_set_ne (by simp at e;omega)] at hj;exact h.cell hj
theorem uL:∀(l:List Ask) (k:Nat) (h:k<l.length) (c:Int),aO (l.set k ⟨l[k].mem,l[k].cpu,c,l[k].node,l[k].missed⟩)=(aO l).set (k*5+2) (.int .i64 c)
 | [],k,h,_=>by simp at h
 | q::t,0,_,c=>by simp [aO,zU]
 | q::t,k+1,h,c=>by
  have ih:=uL t k (by simpa using h) c;simp only [sC,List.getElem_cons_succ,aO,zU] at ih ⊢;rw [ih,show (k+1)*5+2=k*5+2+1+1+1+1+1 by omega];simp
theorem aAg:∀(l:List AV) (k:Nat) (h:k<l.length) (ao:Option Addr) (n c:Nat),dF (l.set k ⟨l[k].id,l[k].queue,ao,n,c⟩)=(dF l).set (k*3+2) (.slice ao n c)
 | [],k,h,_,_,_=>by simp at h
 | q::t,0,_,ao,n,c=>by simp [dF,aAK]
 | q::t,k+1,h,ao,n,c=>by
  have ih:=aAg t k (by simpa using h) ao n c;simp only [sC,List.getElem_cons_succ,dF,aAK] at ih ⊢;rw [ih,show (k+1)*3+2=k*3+2+1+1+1 by omega];simp
theorem oD.lay (h:oD B w (some ⟨pg,0,none⟩) n hs) (hn:n≠0):∃M,B≤pg∧pg<w.heap.size∧Lay w 56 pg (M*3) (dF hs)∧n≤M∧n=hs.length:=by
 rcases h.2 with e | ⟨g,M,e,h1,h2,h3,h4⟩
 ·exact absurd e hn
 ·cases e;refine ⟨M,h1,h2,yP h3 (fun j u hj=>by have:=tN h.1 j u hj;rwa [Nat.zero_add] at this) (by rw [gT,←h.1.1];exact Nat.mul_le_mul_right _ h4),h4,h.1.1⟩
theorem Lay.phas (h:Lay w 56 pg (M*3) (dF hs)) (hB:B≤pg) (hn:n=hs.length) (hM:n≤M):oD B w (some ⟨pg,0,none⟩) n hs:=by
 subst hn;exact ⟨h.rowP,.inr ⟨pg,M,rfl,hB,h.lt,h.cel,hM⟩⟩
theorem oD.upd (h:oD B w (some ⟨pg,0,none⟩) n hs) (hi:i<hs.length) (ao:Option Addr) (m c:Nat) :
  oD B (w.setCell ⟨pg,i*3+2,none⟩ (.slice ao m c)) (some ⟨pg,0,none⟩) n (hs.set i ⟨hs[i].id,hs[i].queue,ao,m,c⟩):=by
 obtain ⟨M,h1,_,h2,h3,h4⟩:=h.lay (by have:=h.1.1;omega);refine Lay.phas (M:=M) ?_ h1 (by rw [List.length_set];exact h4) h3;rw [aAg hs i hi];exact aBc h2 (by rw [gT];omega) _
theorem bD.off (h:bD w ao n l) (hm:Mks (fun k=>k=ga) w w') (ho:∀o,n≠0→ao≠some ⟨ga,o,none⟩):bD w' ao n l:=
 h.mks hm (fun k hk e=>by subst e;obtain ⟨h1,o,h2⟩:=hk;exact ho o h1 h2)
theorem kC.upd {l:List bW} (h:kC B w hs l) {n':Nat} {ak:List Ask} (hi:i<hs.length) (hl:i<l.length) (hga:hs[i].ao=some ⟨ga,0,none⟩) (GU:hs[i].len≠0) (hm:Mks (fun k=>k=ga) w w')
  (hr:bD w' (some ⟨ga,0,none⟩) n' ak) (hn:n'≤hs[i].len):kC B w' (hs.set i ⟨hs[i].id,hs[i].queue,some ⟨ga,0,none⟩,n',hs[i].cap⟩) (l.modify i (fun a=>⟨a.id,a.queue,ak⟩)):=by
 have hne:∀j (hj:j<hs.length),j≠i→∀o,hs[j].len≠0→hs[j].ao≠some ⟨ga,o,none⟩:=fun j hj hji o h0 e=>by
  have hap:aJO hs[i] hs[j]∨aJO hs[j] hs[i]:=by
   rcases Nat.lt_or_gt_of_ne hji with hlt | hlt
   ·exact .inr (List.pairwise_iff_getElem.1 h.apart j i hj hi hlt)
   ·exact .inl (List.pairwise_iff_getElem.1 h.apart i j hi hj hlt)
  have ho:o=0:=by
   rcases h.own _ (yM hj) with e2 | ⟨g,M,e2,_⟩
   ·exact absurd e2 h0
   ·rw [e] at e2;cases e2;rfl
  subst ho;rcases hap with (a | a | a) | (a | a | a)
  ·exact GU a
  ·exact h0 a
  ·exact a (by rw [hga,e])
  ·exact h0 a
  ·exact GU a
  ·exact a (by rw [hga,e])
 refine ⟨⟨by simp [h.heads.1],fun j h1 h2=>?_⟩,fun v hv=>?_,?_⟩
 ·have hj:j<hs.length:=by simpa using h1
  have hj':j<l.length:=by simpa using h2
  obtain ⟨a,b,c,d⟩:=h.heads.2 j hj hj';rw [List.getElem_set,List.getElem_modify];by_cases e:i=j
  ·subst e;rw [if_pos rfl,if_pos rfl];exact ⟨a,b,hr,Nat.le_trans hn d⟩
  ·rw [if_neg e,if_neg e];exact ⟨a,b,c.off hm (hne j hj (fun e2=>e e2.symm)),d⟩
 ·rcases List.mem_or_eq_of_mem_set hv with hv | rfl
  ·exact ((h.own v hv).mks hm).mono (yJ _) hm.size
  ·have:=((h.own _ (yM hi)).mks hm).mono (yJ _) hm.size;rw [hga] at this;exact this.le hn
 ·rw [List.pairwise_iff_getElem];intro a b ha hb hab;have ha':a<hs.length:=by simpa using ha
  have hb':b<hs.length:=by simpa using hb
  have h0:=List.pairwise_iff_getElem.1 h.apart a b ha' hb' hab;rw [List.getElem_set,List.getElem_set];by_cases e1:i=a
  ·subst e1;rw [if_pos rfl,if_neg (by omega)];by_cases e2:hs[b].len=0
   ·exact .inr (.inl e2)
   ·exact .inr (.inr (fun e=>hne b hb' (by omega) 0 e2 e.symm))
  ·rw [if_neg e1];by_cases e2:i=b
   ·subst e2;rw [if_pos rfl];by_cases e3:hs[a].len=0
    ·exact .inl e3
    ·exact .inr (.inr (hne a ha' (fun e=>e1 e.symm) 0 e3))
   ·rw [if_neg e2];exact h0
section
variable {B:Nat} {S:Nat→Prop} {w w':World} {t':TypeId}
theorem tC.mkg {l:List Q} (h:tC B w ao n l) (hm:Mks S w w') (hS:∀k,S k→∃N,Cel w t' k N) (ht:t'≠105):tC B w' ao n l:=⟨h.1.mks hm (fP h.2 hm hS ht).1,(fP h.2 hm hS ht).2⟩
theorem qA.mkg {l:List Mac} (h:qA B w ao n l) (hm:Mks S w w') (hS:∀k,S k→∃N,Cel w t' k N) (ht:t'≠103):qA B w' ao n l:=⟨h.1.mks hm (fP h.2 hm hS ht).1,(fP h.2 hm hS ht).2⟩
theorem nU.mkg {l:List Con} (h:nU B w ao n l) (hm:Mks S w w') (hS:∀k,S k→∃N,Cel w t' k N) (ht:t'≠35):nU B w' ao n l:=⟨h.1.mks hm (fP h.2 hm hS ht).1,(fP h.2 hm hS ht).2⟩
theorem oD.mkg {l:List AV} (h:oD B w ao n l) (hm:Mks S w w') (hS:∀k,S k→∃N,Cel w t' k N) (ht:t'≠56):oD B w' ao n l:=⟨h.1.mks hm (fP h.2 hm hS ht).1,(fP h.2 hm hS ht).2⟩
theorem kC.mkg {l:List bW} (h:kC B w hs l) (hm:Mks S w w') (hS:∀k,S k→∃N,Cel w t' k N) (ht:t'≠43):kC B w' hs l:=
 ⟨⟨h.heads.1,fun i h1 h2=>let ⟨a,b',c,d⟩:=h.heads.2 i h1 h2;⟨a,b',c.mks hm (fP (h.own _ (yM h1)) hm hS ht).1,d⟩⟩,fun v hv=>(fP (h.own v hv) hm hS ht).2,h.apart⟩
theorem Mks.wide {S T:Nat→Prop} (h:Mks S w w') (hi:∀k,S k→T k):Mks T w w':=⟨h.os,h.tape,h.output,h.size,fun k hk hn=>h.block k hk (fun e=>hn (hi k e)),h.cel⟩
end
def aG7 (s:St) (r:Nat×Nat):St:=⟨s.qs,s.clock,s.epoch,s.next,s.serial,bT s.apps r,s.ms,s.cs⟩
def aJZ (B:Nat) (w:World) (k:Nat):Prop:=B≤k∧∃N,Cel w 56 k N∨Cel w 43 k N
def aHt (B:Nat) (y:Sls) (s:St) (r:Nat×Nat) (w:World) (e:Ending) (w':World):Prop:=e=.returned (.tuple #[])∧∃hs',bN B w' y (aG7 s r) hs'∧Mks (aJZ B w) w w'
theorem tH (l:List bW) (i k:Nat) (h:i<l.length):bT l (i,k)=l.modify i (fun a=>⟨a.id,a.queue,iB l[i].asks k⟩):=by
 unfold bT;apply List.ext_getElem
 ·simp
 ·intro j h1 h2;rw [List.getElem_modify,List.getElem_modify];by_cases e:i=j
  ·subst e;rw [if_pos rfl,if_pos rfl];rfl
  ·rw [if_neg e,if_neg e]
theorem aG6 {y:Sls} (h:bN B w y s hs) (QK:y.aa=some ⟨pg,0,none⟩) (hi:i<s.apps.length) (hk:k<s.apps[i].asks.length) (hf:bH s) (hct:0≤s.apps[i].asks[k].count∧s.apps[i].asks[k].count≤1000) :
  cP 111 #[.pointer (some ⟨pg,i*3,none⟩),.int .i64 (k:Int)] w (aHt B y s (i,k) w):=by
 have Yv:hs.length=s.apps.length:=h.k.heads.1;have hih:i<hs.length:=by omega
 have hal:y.al=hs.length:=h.p.1.1;obtain ⟨e0,e1,Hq,hlc⟩:=h.k.heads.2 i hih hi;have hln:hs[i].len=s.apps[i].asks.length:=Hq.1;have GU:hs[i].len≠0:=by omega
 obtain ⟨ga,M,hga,hB,hgl,GI,hM⟩:∃g M,hs[i].ao=some ⟨g,0,none⟩∧B≤g∧g<w.heap.size∧Cel w 43 g (M*5)∧hs[i].len≤M:=by
  rcases h.k.own _ (yM hih) with e | e
  ·exact absurd e GU
  ·exact e
 rw [hga] at Hq;have GH:Lay w 43 ga (M*5) (aO s.apps[i].asks):=Hq.lay GI (Nat.mul_le_mul_right _ (by omega));have hp:=h.p;rw [QK] at hp;obtain ⟨Mp,Wy,hpl,QF,uk,_⟩:=hp.lay (by omega);have hfl:s.apps[i].asks.length≤1048576:=(hf.2.1.2 _ (yM hi)).2.1;have hrm:=h.rm;have keep:∀(n':Nat) (ak:List Ask) (w1:World),Mks (fun b=>b=ga) w w1→bD w1 (some ⟨ga,0,none⟩) n' ak→n'≤hs[i].len→tC B w1 y.qa y.ql s.qs∧oD B w1 (some ⟨pg,0,none⟩) y.al hs∧kC B w1 (hs.set i ⟨hs[i].id,hs[i].queue,some ⟨ga,0,none⟩,n',hs[i].cap⟩) (s.apps.modify i (fun a=>⟨a.id,a.queue,ak⟩))∧qA B w1 y.ma y.ml s.ms∧nU B w1 y.ca y.cl s.cs∧RmS B w1.heap.size w1 y (hs.set i ⟨hs[i].id,hs[i].queue,some ⟨ga,0,none⟩,n',hs[i].cap⟩):=fun n' ak w1 hm hr hn=>by
  have hS:∀k,k=ga→∃N,Cel w 43 k N:=fun k e=>by subst e;exact ⟨_,GI⟩
  have hr2:=(hrm.mks hm).mono (yJ B) hm.size;refine ⟨h.q.mkg hm hS (by decide),hp.mkg hm hS (by decide),h.k.upd hih hi hga GU hm hr hn,h.m.mkg hm hS (by decide),h.c.mkg hm hS (by decide),hr2.1,hr2.2.1,hr2.2.2.1,hr2.2.2.2.1,fun v hv=>?_⟩;rcases List.mem_or_eq_of_mem_set hv with hv | rfl
  ·exact hr2.2.2.2.2 v hv
  ·have:=hr2.2.2.2.2 _ (yM hih);rw [hga] at this;exact this
 have xz:=(lI hs i hih).2.2;have c2:w.cell? ⟨pg,i*3+2,none⟩=some (.slice (some ⟨ga,0,none⟩) hs[i].len hs[i].cap):=by rw [←hga];exact QF.cell xz
 have hck:=(mV s.apps[i].asks k hk).2.2.1;have ck:w.cell? ⟨ga,k*5+2,none⟩=some (.int .i64 s.apps[i].asks[k].count):=GH.cell hck;have fk:w.frozen? ⟨ga,k*5+2,none⟩=false:=GH.frozen _;have fp:∀w1,Mks (fun b=>b=ga) w w1→w1.frozen? ⟨pg,i*3+2,none⟩=false:=fun w1 hm=>(hm.cel _ _ _ QF.cel).frozen _
 have CD:=aA (aBp ga (M*5) hs[i].cap k s.apps[i].asks w GH hk (by rw [←hln];exact hlc) hfl (Nat.mul_le_mul_right _ (by omega)));have k0:(0:Int)≤k:=by omega
 have k1:(k:Int)<hs[i].len:=by omega
 have hwk:IntKind.i64.wrap ((k:Int)+1)=(k:Int)+1:=by rw [IntKind.wrap_i64];omega
 have qx:hs.set i ⟨hs[i].id,hs[i].queue,some ⟨ga,0,none⟩,hs[i].len,hs[i].cap⟩=hs:=by rw [←hga];exact List.set_getElem_self hih
 by_cases hc:1<s.apps[i].asks[k].count
 ·have HA:=aA (show aHt B y s (i,k) w (.returned (.tuple #[])) (w.setCell ⟨ga,k*5+2,none⟩ (.int .i64 (s.apps[i].asks[k].count - 1))) from by
   have hl2:=aBc GH (p:=k*5+2) (by rw [bC];omega) (.int .i64 (s.apps[i].asks[k].count - 1));rw [←uL s.apps[i].asks k hk] at hl2;have hr:=hl2.rowA;rw [List.length_set,←hln] at hr;have hm:Mks (fun b=>b=ga) w (w.setCell ⟨ga,k*5+2,none⟩ (.int .i64 (s.apps[i].asks[k].count - 1))):=Mks.one _ _ _ _ _ rfl;obtain ⟨a1,a2,a3,a4,a5,a6⟩:=keep _ _ _ hm hr (yJ _);rw [qx] at a3 a6;refine ⟨rfl,hs,⟨a1,by rw [QK];exact a2,?_,a4,a5,h.cap,a6⟩,hm.wide (fun b e=>by subst e;exact ⟨hB,_,.inr GI⟩)⟩;(show kC B _ hs (bT s.apps (i,k)));rw [tH _ _ _ hi,xG hk hc];exact a3)
  obtain ⟨n,hn⟩:∃n,hs[i].len=n:=⟨_,rfl⟩;obtain ⟨c,hcc⟩:∃n,hs[i].cap=n:=⟨_,rfl⟩;obtain ⟨ct,VE⟩:∃n,s.apps[i].asks[k].count=n:=⟨_,rfl⟩;rw [hn,hcc] at c2;rw [hn] at k1;rw [VE] at ck HA hc hct;have hwc:IntKind.i64.wrap (ct - 1)=ct - 1:=by rw [IntKind.wrap_i64];omega
  clear h QK hf GH QF keep CD xz hck fp qx Hq GI hM Yv hih hal e0 e1 hlc hln GU hga hB hgl hp Wy hpl uk hfl hrm hn hcc VE hwk hct;go_enter func111,ntmps111;go_wp2;first | go_end0 | (simp only [Exit.inBlock,Exit.then];refine bodyPost_ret (results_none rfl _ _ _) rfl ?_) | refine bodyPost_ret (results_none rfl _ _ _) rfl ?_
  exact uH HA
 ·have HB:=aA (show ∀w1,Lay w1 43 ga (M*5) (aO (s.apps[i].asks.eraseIdx k))→Mks (fun b=>b=ga) w w1→aHt B y s (i,k) w (.returned (.tuple #[])) (w1.setCell ⟨pg,i*3+2,none⟩ (.slice (some ⟨ga,0,none⟩) (s.apps[i].asks.length - 1) hs[i].cap)) from fun w1 hl2 hm=>by
   have hr:=hl2.rowA;rw [List.length_eraseIdx_of_lt hk] at hr;obtain ⟨a1,a2,a3,a4,a5,a6⟩:=keep _ _ _ hm hr (by omega);have hm2:Mks (fun b=>b=pg) w1 (w1.setCell ⟨pg,i*3+2,none⟩ (.slice (some ⟨ga,0,none⟩) (s.apps[i].asks.length - 1) hs[i].cap)):=Mks.one _ _ _ _ _ rfl;(have hS:∀b,b=pg→∃N,Cel w1 56 b N:=fun b e=>by subst e;exact ⟨_,hm.cel _ _ _ QF.cel⟩);refine ⟨rfl,_,⟨a1.mkg hm2 hS (by decide),by rw [QK];exact a2.upd hih (some ⟨ga,0,none⟩) (s.apps[i].asks.length - 1) hs[i].cap,?_,a4.mkg hm2 hS (by decide),a5.mkg hm2 hS (by decide),h.cap,(a6.mks hm2).mono (yJ _) hm2.size⟩,(hm.wide (fun b e=>by subst e;exact ⟨hB,_,.inr GI⟩)).trans (hm2.wide (fun b e=>by subst e;exact ⟨Wy,_,.inl QF.cel⟩))⟩;(show kC B _ _ (bT s.apps (i,k)));rw [tH _ _ _ hi,xH hk hc];exact a3.mkg hm2 hS (by decide))
  have qz:=aA (show ∀w1,Mks (fun b=>b=ga) w w1→(w1.cell? ⟨pg,i*3+2,none⟩).isSome=true from fun w1 hm=>(hm.cel _ _ _ QF.cel).isThere (by have:=Nat.mul_le_mul_right 3 (show i+1≤Mp by omega);omega));have FP:=aA fp;rw [←hln] at CD HB;obtain ⟨n,hn⟩:∃n,hs[i].len=n:=⟨_,rfl⟩;obtain ⟨c,hcc⟩:∃n,hs[i].cap=n:=⟨_,rfl⟩;obtain ⟨ct,VE⟩:∃n,s.apps[i].asks[k].count=n:=⟨_,rfl⟩;rw [hn,hcc] at c2;rw [hn] at k1;rw [hn,hcc] at CD HB;rw [VE] at ck hc;clear h QK hf GH QF keep xz hck fp qx Hq GI hM Yv hih hal e0 e1 hlc hln GU hga hB hgl hp Wy hpl uk hfl hrm hn hcc VE hct fk;go_enter func111,ntmps111;go_wp2_with fail;refine (uH CD).mono ?_;rintro e w1 ⟨rfl,hl2,hm⟩;obtain ⟨old,QS⟩:=Option.isSome_iff_exists.1 (uH qz w1 hm);have f1:=uH FP w1 hm;have HA:=aA (uH HB w1 hl2 hm);clear hl2 hm CD qz FP HB c2 ck;go_wp2;first | go_end0 | (simp only [Exit.inBlock,Exit.then];refine bodyPost_ret (results_none rfl _ _ _) rfl ?_) | refine bodyPost_ret (results_none rfl _ _ _) rfl ?_
  exact uH HA
end
section
open Go.RowKit Go.Maps
variable {g1 g2:Nat} {ta tc:TypeId} {W:World}
def atR:Option ((Nat×Nat)×Con)→Int×Int
  | some r=>((r.1.1:Int),(r.1.2:Int))
  | none=>(0,0)
theorem pJ (h1:Blk W g1 #[.int .i64 0,.int .i64 0] ta) (h2:Blk W g2 #[.int .i64 0,.int .i64 0,.string .empty,.int .i64 0,.int .i64 0] tc) (hn:g1≠g2) (i k:Int) :
    W.cell? ⟨g1,0,none⟩=some (.int .i64 0)∧W.cell? ⟨g1,1,none⟩=some (.int .i64 0)∧W.frozen? ⟨g1,0,none⟩=false∧W.frozen? ⟨g1,1,none⟩=false∧((W.setCell ⟨g1,0,none⟩ (.int .i64 i)).setCell ⟨g1,1,none⟩ (.int .i64 k)).cell? ⟨g2,0,none⟩=some (.int .i64 0)∧((W.setCell ⟨g1,0,none⟩ (.int .i64 i)).setCell ⟨g1,1,none⟩ (.int .i64 k)).cell? ⟨g2,1,none⟩=some (.int .i64 0)∧((W.setCell ⟨g1,0,none⟩ (.int .i64 i)).setCell ⟨g1,1,none⟩ (.int .i64 k)).cell? ⟨g2,2,none⟩=some (.string .empty)∧((W.setCell ⟨g1,0,none⟩ (.int .i64 i)).setCell ⟨g1,1,none⟩ (.int .i64 k)).cell? ⟨g2,3,none⟩=some (.int .i64 0)∧((W.setCell ⟨g1,0,none⟩ (.int .i64 i)).setCell ⟨g1,1,none⟩ (.int .i64 k)).cell? ⟨g2,4,none⟩=some (.int .i64 0)∧((W.setCell ⟨g1,0,none⟩ (.int .i64 i)).setCell ⟨g1,1,none⟩ (.int .i64 k)).frozen? ⟨g2,0,none⟩=false∧((W.setCell ⟨g1,0,none⟩ (.int .i64 i)).setCell ⟨g1,1,none⟩ (.int .i64 k)).frozen? ⟨g2,1,none⟩=false∧((W.setCell ⟨g1,0,none⟩ (.int .i64 i)).setCell ⟨g1,1,none⟩ (.int .i64 k)).frozen? ⟨g2,2,none⟩=false∧((W.setCell ⟨g1,0,none⟩ (.int .i64 i)).setCell ⟨g1,1,none⟩ (.int .i64 k)).frozen? ⟨g2,3,none⟩=false∧((W.setCell ⟨g1,0,none⟩ (.int .i64 i)).setCell ⟨g1,1,none⟩ (.int .i64 k)).frozen? ⟨g2,4,none⟩=false:=by
  have h3:=(h2.other g1 0 (.int .i64 i) (fun e=>hn e.symm)).other g1 1 (.int .i64 k) (fun e=>hn e.symm);exact ⟨h1.at 0,h1.at 1,h1.f 0,h1.f 1,h3.at 0,h3.at 1,h3.at 2,h3.at 3,h3.at 4,h3.f 0,h3.f 1,h3.f 2,h3.f 3,h3.f 4⟩
theorem aAq (h1:Blk W g1 #[.int .i64 0,.int .i64 0] ta) (h2:Blk W g2 #[.int .i64 0,.int .i64 0,.string .empty,.int .i64 0,.int .i64 0] tc) (hn:g1≠g2) (i k id ap:Int) (sn:ByteArray) (me cp:Int) :
    Blk (((((((W.setCell ⟨g1,0,none⟩ (.int .i64 i)).setCell ⟨g1,1,none⟩ (.int .i64 k)).setCell ⟨g2,0,none⟩ (.int .i64 id)).setCell ⟨g2,1,none⟩ (.int .i64 ap)).setCell ⟨g2,2,none⟩ (.string sn)).setCell ⟨g2,3,none⟩ (.int .i64 me)).setCell ⟨g2,4,none⟩ (.int .i64 cp)) g1 #[.int .i64 i,.int .i64 k] ta∧Blk (((((((W.setCell ⟨g1,0,none⟩ (.int .i64 i)).setCell ⟨g1,1,none⟩ (.int .i64 k)).setCell ⟨g2,0,none⟩ (.int .i64 id)).setCell ⟨g2,1,none⟩ (.int .i64 ap)).setCell ⟨g2,2,none⟩ (.string sn)).setCell ⟨g2,3,none⟩ (.int .i64 me)).setCell ⟨g2,4,none⟩ (.int .i64 cp)) g2 #[.int .i64 id,.int .i64 ap,.string sn,.int .i64 me,.int .i64 cp] tc:=
  ⟨((((((h1.set 0 (.int .i64 i)).set 1 (.int .i64 k)).other g2 0 (.int .i64 id) hn).other g2 1 (.int .i64 ap) hn).other g2 2 (.string sn) hn).other g2 3 (.int .i64 me) hn).other g2 4 (.int .i64 cp) hn,
   ((((((h2.other g1 0 (.int .i64 i) (fun e=>hn e.symm)).other g1 1 (.int .i64 k) (fun e=>hn e.symm)).set 0 (.int .i64 id)).set 1 (.int .i64 ap)).set 2 (.string sn)).set 3 (.int .i64 me)).set 4 (.int .i64 cp)⟩
theorem pK {w:World} (h:Bw w W) (h1:w.heap.size≤g1) (h2:w.heap.size≤g2) (i k id ap:Int) (sn:ByteArray) (me cp:Int):Bw w (((((((W.setCell ⟨g1,0,none⟩ (.int .i64 i)).setCell ⟨g1,1,none⟩ (.int .i64 k)).setCell ⟨g2,0,none⟩ (.int .i64 id)).setCell ⟨g2,1,none⟩ (.int .i64 ap)).setCell ⟨g2,2,none⟩ (.string sn)).setCell ⟨g2,3,none⟩ (.int .i64 me)).setCell ⟨g2,4,none⟩ (.int .i64 cp)):=
  yC (yC (yC (yC (yC (yC (yC h g1 0 _ h1) g1 1 _ h1) g2 0 _ h2) g2 1 _ h2) g2 2 _ h2) g2 3 _ h2) g2 4 _ h2
end
section
open Go.RowKit
variable {l:List Q} {B n:Nat} {qo:Option Addr} {w w':World}
theorem bN.sc {k j:Nat} {v:Value} {x:Sls} {s:St} {hs:List AV} (h:bN B w x s hs) (hk:k<B):bN B (w.setCell ⟨k,j,none⟩ v) x s hs:=⟨h.q.sc hk,h.p.sc hk,h.k.sc (.inl hk),h.m.sc hk,h.c.sc hk,h.cap,(h.rm.sc k j v).mono (yJ _) (by rw [cK];exact yJ _)⟩
def aKS (w:World) (s:St) (gone:List Con) (e:Ending) (w':World):Prop:=
 ∃y hs go gn gc,e=.returned (.tuple #[sv y s,.slice go gn gc])∧wR w.heap.size w'.heap.size w' y s hs∧nU w.heap.size w' go gn gone∧(∀k,inR go gn k→¬inR y.ca y.cl k)∧Bw w w'
def qlN (l:List Q):List Q:=if aH l=true then l else []
def epN (l:List Q):Int:=if aH l=true then 1 else 0
def nxN (l:List Q):Int:=if aH l=true then 1001 else 0
theorem aKc (l:List Q):aQ (aAN l 1 1001 1)=aH l:=by
 have h1:fT (aAN l 1 1001 1)=true:=rfl;have h2:jH (aAN l 1 1001 1)=true:=rfl;simp only [aQ,fV,h1,h2];rw [show (inB 0 0 1000000000&&(inB 1 1 1000000000&&(inB 1001 1 1000000000&&(inB 1 1 1000000000&&(true&&(true&&(decide (([]:List Con).length≤150)&&dL [] [] 0 [])))))))=true from rfl,Bool.and_true]
theorem aBL.one {e:Ending} (h:aBL w l e w'):∃qo n c,e=.returned (.tuple #[.agg (svc (aKd qo n c) (aAN (qlN l) (epN l) (nxN l) (epN l))),.bool (aH l)])∧n=(qlN l).length∧p8 (w.heap.size+1) w' (.slice qo n c) (qlN l)∧Bw w w':=by
 obtain ⟨hb,⟨ho,rfl⟩ | ⟨ho,v,rfl,Hz⟩⟩:=h
 ·refine ⟨none,0,0,?_,?_,?_,hb⟩
  ·simp [qlN,epN,nxN,ho]
  ·simp [qlN,ho]
  ·simp only [qlN,ho];exact aEc _ _
 ·obtain ⟨qo,qc,rfl,_⟩:=oK Hz;refine ⟨qo,l.length,qc,?_,?_,?_,hb⟩
  ·simp [qlN,epN,nxN,ho]
  ·simp [qlN,ho]
  ·simp only [qlN,ho];exact Hz
def aHv (w:World) (qo:Option Addr) (n:Nat):Prop:=(n=0∨∃g,qo=some ⟨g,0,none⟩)∧gN w qo n (aJU n)
theorem aHv.below (h:aHv w qo n) (hb:Bw w w'):aHv w' qo n:=⟨h.1,h.2.below hb⟩
theorem aJn {c:Nat} (ep nx se:Int) (h:p8 B w (.slice qo n c) l) (hn:n=l.length):bN B w (aKd qo n c) (aAN l ep nx se) []:=by
 obtain ⟨ao,cap,e,hc,hh⟩:=p8.has h;cases e;exact ⟨hh,⟨⟨rfl,.inl rfl⟩,.inl rfl⟩,kC.nil _ _,⟨⟨rfl,.inl rfl⟩,.inl rfl⟩,⟨⟨rfl,.inl rfl⟩,.inl rfl⟩,⟨hc,yJ _,yJ _,yJ _⟩,jF h,.inl rfl,.inl rfl,.inl rfl,fun v hv=>absurd hv (by simp)⟩
end
end Go.Proofs.YtfndhndlkcijoaaGreat
