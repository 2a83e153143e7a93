/-
  The machines of a state are right, by the model: l04Machines; a walk over the dump.
-/
import Derived.Test.YtngkddhcmfbjnaaGreatSackV
set_option maxRecDepth 100000
set_option maxHeartbeats 16000000
set_option linter.unusedVariables false
set_option linter.unusedSimpArgs false
namespace Go.Proofs.YtngkddhcmfbjnaaGreat
section
open Go.RowKit
variable {ck:Int} {cs:List Con} {l:List Mac} {last:List UInt8} {k:Nat}
def vS (cs:List Con) (m:Mac):Bool:=aM m.mem m.cpu&&((iL (aV (fun q=>decide (q.node=m.name)) cs)).2.2&&within (iL (aV (fun q=>decide (q.node=m.name)) cs)).1 (iL (aV (fun q=>decide (q.node=m.name)) cs)).2.1 m.mem m.cpu)
def lS (ck:Int) (cs:List Con):List UInt8→List Mac→Bool
 | _,[]=>true
 | last,m::t=>!leT m.name last&&(bJ m.name&&(decide (0≤m.seen)&&(decide (m.seen≤ck)&&(vS cs m&&lS ck cs m.name t))))
def iW (s:St):Bool:=lS s.clock s.cs [] s.ms&&((iL (aT s.ms)).2.2&&decide (s.ms.length≤20))
theorem aD7 (h:k<l.length):lS ck cs last (l.drop k)=(!leT l[k].name last&&(bJ l[k].name&&(decide (0≤l[k].seen)&&(decide (l[k].seen≤ck)&&(vS cs l[k]&&lS ck cs l[k].name (l.drop (k+1))))))):=by
 rw [List.drop_eq_getElem_cons h,lS]
theorem aF3 (h:l.length≤k):lS ck cs last (l.drop k)=true:=by
 rw [List.drop_of_length_le h];rfl
theorem aJk {a:List UInt8} (h:bJ a=true):leT a []=false:=by
 cases a with
 | nil=>exact absurd h (by decide)
 | cons c t=>simp [leT,bs,Op.bytesLess]
theorem xN (x:Sls) (s:St) (w:World) (h:gU w x s) (hf:dI s) :
  cP 53 #[sv x s] w fun e w'=>e=.returned (.bool (iW s))∧Bw w w':=by
 have GN:x.ml≤1048576:=by have:=h.len.2.2.1;have:=hf.2.2.1.1;omega
 have hcl:x.cl≤1048576:=by have:=h.len.2.2.2;have:=hf.2.2.2.1;omega
 have hcs:s.cs.length≤1048576:=by have:=h.2.2.2.1;omega
 have hms:s.ms.length≤1048576:=by have:=h.2.2.1.1;omega
 have HR:=aA h.2.2.1
 have HL:=aA h.2.2.1.1
 have FE:=aA hf.2.2.1
 have CO:=aA (fun wx (hb:Bw w wx) (nm:List UInt8)=>aC5 x s nm wx (h.2.2.2.below hb) hcl)
 have CC:=aA (fun wx (hb:Bw w wx)=>xO x s wx (h.2.2.1.below hb) GN)
 obtain ⟨⟨kx,ky,ko⟩,hko⟩:∃r,iL (aT s.ms)=r:=⟨_,rfl⟩
 have QE:=aA (show iW s=(lS s.clock s.cs [] (s.ms.drop 0)&&(ko&&decide (x.ml≤20))) by rw [iW,hko,←h.2.2.1.1];rfl)
 have BH:(aT s.ms).length≤1048576:=by simp [aT];exact hms
 have CSC:=aA (fun (ao:Option Addr) (len cap:Nat) (wx:World) (hr:aGD wx ao len (aT s.ms))=>by have:=lT ao len cap (aT s.ms) wx hr (by rw [hr.1];exact BH);rw [hko] at this;exact this)
 obtain ⟨o,ho⟩:∃o,iW s=o:=⟨_,rfl⟩
 rw [ho] at QE ⊢
 clear h hf ho hko
 obtain ⟨qa,ql,qc,aa,al,ac,ma,ml,mc,ca,cl,cc⟩:=x
 obtain ⟨qs,clock,epoch,next,serial,apps,ms,cs⟩:=s
 simp only at GN hcl hcs hms HR HL FE CO CC QE CSC BH
 have HB0:=aA (gG w (svc ⟨qa,ql,qc,aa,al,ac,ma,ml,mc,ca,cl,cc⟩ ⟨qs,clock,epoch,next,serial,apps,ms,cs⟩))
 have P0:=aA (eB w (svc ⟨qa,ql,qc,aa,al,ac,ma,ml,mc,ca,cl,cc⟩ ⟨qs,clock,epoch,next,serial,apps,ms,cs⟩))
 obtain ⟨W0,hW0⟩:∃W,o5 w (svc ⟨qa,ql,qc,aa,al,ac,ma,ml,mc,ca,cl,cc⟩ ⟨qs,clock,epoch,next,serial,apps,ms,cs⟩)=W:=⟨_,rfl⟩
 rw [hW0] at HB0 P0
 go_enter Tryz.func53,Tryz.ntmps53
 go_wp2
 change Code.wp _ _ _ _ (o5 w (svc ⟨qa,ql,qc,aa,al,ac,ma,ml,mc,ca,cl,cc⟩ ⟨qs,clock,epoch,next,serial,apps,ms,cs⟩))
 rw [hW0]
 clear hW0
 go_loopw [3] (fun i wr=>∃(k:Nat) (last:List UInt8),k≤ml∧i=.int .i64 k∧Hid (o=(lS clock cs last (ms.drop k)&&(ko&&decide (ml≤20))))∧Hid ((k=0→last=[])∧∀(k':Nat) (hk':k'<ms.length),k=k'+1→last=ms[k'].name)∧Hid (Kp W0 wr)) (fun i _=>ml - (intOf i).toNat)
 case atStart=>exact ⟨0,[],Nat.zero_le _,rfl,QE,aA ⟨fun _=>rfl,fun k' _ e=>by omega⟩,aA (Kp.new W0)⟩
 case round=>
  obtain ⟨k,last,hk,rfl,HO,YL,HK⟩:=hrel
  obtain ⟨wo,rfl⟩:∃wo:World,wo=wr:=⟨_,rfl⟩
  clear QE
  have P1:=aA ((uH P0).below (uH HK))
  obtain ⟨q0,q1,q2,q3,q4,q5,q6,q7⟩:_∧_∧_∧_∧_∧_∧_∧_:=⟨(uH P1).at 0,(uH P1).at 1,(uH P1).at 2,(uH P1).at 3,(uH P1).at 4,(uH P1).at 5,(uH P1).at 6,(uH P1).at 7⟩
  simp at q0 q1 q2 q3 q4 q5 q6 q7
  have KW:=aA (show Kp w wo from yB (uH HB0) (uH HK))
  by_cases hlt:k<ml
  case neg=>
   have GD:=aA (show o=(ko&&decide (ml≤20)) by rw [uH HO,aF3 (by have:=uH HL;omega),Bool.true_and])
   have k1:¬(k:Int)<ml:=by omega
   go_wp2_with fail
   refine (uH CC _ (uH KW)).mono ?_
   rintro e w1 ⟨v,rfl,Hq,hb⟩
   have HB1:=aA (yB (uH KW) hb)
   have PX:=aA ((uH P1).below hb)
   obtain ⟨ao,cap,rfl,Hw,_⟩:=Hq.row
   clear hb q0 q1 q2 q3 q4 q5 q6 q7
   go_wp2_with fail
   refine (uH CSC ao _ cap _ Hw).mono ?_
   rintro e w2 ⟨rfl,hb⟩
   have HB2:=aA (yA (yB (uH HB1) hb) (.cells #[.int .i64 kx,.int .i64 ky] 37))
   have P2:=((uH PX).below hb).al (.cells #[.int .i64 kx,.int .i64 ky] 37)
   have p6:=P2.at 6
   simp at p6
   clear hb P2 PX
   cases ko with
   | false=>
    go_wp2
    go_ret
    exact ⟨yF (by rw [uH GD];simp),uH HB2⟩
   | true=>
    go_wp2
    go_ret
    exact ⟨yF (by rw [uH GD];simp;try omega),uH HB2⟩
  obtain ⟨b,off,rfl,hq⟩:=(uH HR).at hlt
  have hkl:k<ms.length:=by have:=uH HL;omega
  have hst:=aD7 (ck:=clock) (cs:=cs) (last:=last) (l:=ms) (k:=k) hkl
  have hfa:=(uH FE).2 _ (yM hkl)
  obtain ⟨c0,c1,c2,c3⟩:=hq hkl
  replace c0:=(uH KW).cell c0
  replace c1:=(uH KW).cell c1
  replace c2:=(uH KW).cell c2
  replace c3:=(uH KW).cell c3
  have YH:=aA (fun (k':Nat) (e:k=k'+1)=>show wo.cell? ⟨b,off+k'*4,none⟩=some (.string (bs last)) by
   have hk'':k'<ms.length:=by omega
   obtain ⟨b',off',eb,hq'⟩:=(uH HR).at (show k'<ml by omega)
   obtain ⟨rfl,rfl⟩:b=b'∧off=off':=by simpa using eb
   obtain ⟨d0,_⟩:=hq' hk''
   rw [(uH YL).2 k' hk'' e]
   exact (uH KW).cell d0)
  obtain ⟨⟨nm,me,cp,se⟩,hs⟩:∃s,ms[k]=s:=⟨_,rfl⟩
  have DV:=aA (show ∀(k':Nat) (hk':k'<ms.length),k+1=k'+1→nm=ms[k'].name from fun k' hk' e=>by
   have:k=k':=by omega
   subst this
   rw [hs])
  rw [hs] at c0 c1 c2 c3 hst hfa
  simp only at c0 c1 c2 c3 hst hfa
  have k0:(0:Int)≤k:=by omega
  have k1:(k:Int)<ml:=by omega
  have hlz:=(uH YL).1
  have Fx:(aV (fun q:Con=>decide (q.node=nm)) cs).length≤1048576:=by
   simp only [aV,List.length_map]
   exact Nat.le_trans (List.length_filter_le _ _) hcs
  obtain ⟨⟨ux,uy,uo⟩,hu⟩:∃r,iL (aV (fun q:Con=>decide (q.node=nm)) cs)=r:=⟨_,rfl⟩
  have CSU:=aA (fun (ao:Option Addr) (len cap:Nat) (wx:World) (hr:aGD wx ao len (aV (fun q:Con=>decide (q.node=nm)) cs))=>by have:=lT ao len cap _ wx hr (by rw [hr.1];exact Fx);rw [hu] at this;exact this)
  obtain ⟨no,hno⟩:∃b,bJ nm=b:=⟨_,rfl⟩
  have CN:=aA (fun wx=>by have:=lF (bs nm) wx (by rw [dD];exact hfa);rw [show bJ (bs nm).data.toList=no by rw [←hno];simp [bs]] at this;exact this)
  obtain ⟨ro,hro⟩:∃b,aM me cp=b:=⟨_,rfl⟩
  obtain ⟨wi,Gv⟩:∃b,within ux uy me cp=b:=⟨_,rfl⟩
  obtain ⟨ib,hib⟩:∃b,inB se 0 clock=b:=⟨_,rfl⟩
  have YU:k=0→no=true→leT nm last=false:=fun e e2=>by rw [hlz e];exact aJk (by rw [hno];exact e2)
  obtain ⟨l1,hl1⟩:∃b,Op.bytesLess (bs nm).toList (bs last).toList=b:=⟨_,rfl⟩
  obtain ⟨l2,hl2⟩:∃b,((bs nm).toList==(bs last).toList)=b:=⟨_,rfl⟩
  rw [show leT nm last=(l1||l2) by rw [leT,hl1,hl2]] at hst YU
  have PH:=aA YU
  clear YU
  have GD:=aA (show o=(!(l1||l2)&&(no&&(ib&&(ro&&(uo&&(wi&&(lS clock cs nm (ms.drop (k+1))&&(ko&&decide (ml≤20)))))))))  by
   have hh:vS cs ⟨nm,me,cp,se⟩=(ro&&(uo&&wi)):=by simp only [vS,hu,hro,Gv]
   have hi2:ib=(decide (0≤se)&&decide (se≤clock)):=by rw [←hib];simp [inB]
   rw [uH HO,hst,hno,hh,hi2]
   simp only [Bool.and_assoc])
  clear hq hs hkl hfa hst hno HO Fx hu hlz
  have b4:=yA (yH _ wo) (.cells #[.string (bs nm),.int .i64 me,.int .i64 cp,.int .i64 se] 102)
  have G8:=aA (yB (uH KW) b4)
  have P4:=aA (yD wo #[.string (bs nm),.int .i64 me,.int .i64 cp,.int .i64 se] 102)
  have Qy:=aA (show Kp W0 _ from yB (uH HK) b4)
  have Z4:=aA ((uH P1).below b4)
  obtain ⟨s0,s1,s2,s3,s4,s5,s6,s7⟩:_∧_∧_∧_∧_∧_∧_∧_:=⟨(uH Z4).at 0,(uH Z4).at 1,(uH Z4).at 2,(uH Z4).at 3,(uH Z4).at 4,(uH Z4).at 5,(uH Z4).at 6,(uH Z4).at 7⟩
  have a0:=(uH P4).at 0
  simp at s0 s1 s2 s3 s4 s5 s6 s7 a0
  have ZJ:=aA (fun (k':Nat) (e:k=k'+1)=>Kp.cell b4 (uH YH k' e))
  clear b4 YH P1
  go_wp2_with fail
  refine (uH CO _ (uH G8) nm).mono ?_
  rintro e w5 ⟨v,rfl,Hq,hb⟩
  have GR:=aA (yB (uH G8) hb)
  have XE:=aA (show Kp W0 _ from yB (uH Qy) hb)
  have P5:=aA ((uH P4).below hb)
  have Z5:=aA ((uH Z4).below hb)
  have DI:=aA (fun (k':Nat) (e:k=k'+1)=>Kp.cell hb (uH ZJ k' e))
  obtain ⟨ao,cap,rfl,Hw,_⟩:=Hq.row
  clear hb G8 Qy P4 Z4 ZJ CO s0 s1 s2 s3 s4 s5 s6 s7 a0 c0 c1 c2 c3 q0 q1 q2 q3 q4 q5 q6 q7
  go_wp2_with fail
  refine (uH CSU ao _ cap _ Hw).mono ?_
  rintro e w6 ⟨rfl,hb⟩
  have b6:=yA hb (.cells #[.int .i64 ux,.int .i64 uy] 37)
  have GY:=aA (yB (uH GR) b6)
  have Kw:=aA (show Kp W0 _ from yB (uH XE) b6)
  have P6:=aA ((uH P5).below b6)
  have Z6:=aA ((uH Z5).below b6)
  have DF:=aA (fun (k':Nat) (e:k=k'+1)=>Kp.cell b6 (uH DI k' e))
  have V6:=aA (bD w6 37 ux uy)
  obtain ⟨W6,rz⟩:∃W,w6.alloc (.cells #[.int .i64 ux,.int .i64 uy] 37)=W:=⟨_,rfl⟩
  rw [rz] at GY Kw P6 Z6 DF V6
  have a0:=(uH P6).at 0
  have a1:=(uH P6).at 1
  have a2:=(uH P6).at 2
  have a3:=(uH P6).at 3
  have z1:=(uH Z6).at 1
  have z6:=(uH Z6).at 6
  simp at a0 a1 a2 a3 z1 z6
  have v0:=(uH V6).c0
  have v1:=(uH V6).c1
  have R:∀wx,Kp W6 wx→wx.cell? ⟨w.heap.size,1,none⟩=some (.int .i64 clock)∧wx.cell? ⟨w.heap.size,6,none⟩=some (.slice (some ⟨b,off,none⟩) ml mc)∧wx.cell? ⟨wo.heap.size,0,none⟩=some (.string (bs nm))∧wx.cell? ⟨wo.heap.size,1,none⟩=some (.int .i64 me)∧wx.cell? ⟨wo.heap.size,2,none⟩=some (.int .i64 cp)∧wx.cell? ⟨wo.heap.size,3,none⟩=some (.int .i64 se)∧wx.cell? ⟨w6.heap.size,0,none⟩=some (.int .i64 ux)∧wx.cell? ⟨w6.heap.size,1,none⟩=some (.int .i64 uy):=fun wx h=>
   ⟨h.cell z1,h.cell z6,h.cell a0,h.cell a1,h.cell a2,h.cell a3,h.cell v0,h.cell v1⟩
  have A0:=aA (Kp.new W6)
  have HS:=aA (aK W6)
  clear hb b6 GR XE P5 Z5 DI CSU
  go_wp2_with fail
  first | (change Code.wp _ _ _ _ (w6.alloc (.cells #[.int .i64 ux,.int .i64 uy] 37));rw [rz]) | skip
  clear rz a0 a1 a2 a3 z1 z6 v0 v1 P6 Z6 V6
  refine wp_region_held_drew (S:=fun wx=>Kp W6 wx) (by kernel_rfl) ((uH HS).drew (uH A0)) (fun S0=>?_)
  refine tW 0 29 _ S0 ?_
  simp only [zW]
  refine tW 1 30 _ S0 ?_
  simp only [zW]
  cases no
  refine yRq 2 rfl (fun K hK=>?_)
  go_simp
  refine (uH CN _).mono ?_
  rintro e wt ⟨rfl,rfl⟩
  have S1:=S0
  go_wp2_with fail
  refine hK.out _ _ S1 (fun S0=>?_)
  clear hK K S1
  try simp only [zW]
  refine tW 3 32 (.bool true) S0 ?_
  simp only [zW]
  refine tW 4 33 (.bool true) S0 ?_
  simp only [zW]
  refine tU 5 34 S0 <| tU 6 35 S0 <| tU 7 36 S0 <| tU 8 37 S0 <| tU 9 38 S0 <| tU 10 39 S0 <| tU 11 40 S0 <| tU 12 41 S0 <| tU 13 42 S0 <| tU 14 43 S0 <| tU 15 44 S0 <| tU 16 45 S0 <| tU 17 46 S0 <| tU 18 47 S0 <| ?_
  simp only [zW]
  rotate_left
  refine yRq 2 rfl (fun K hK=>?_)
  go_simp
  refine (uH CN _).mono ?_
  rintro e wt ⟨rfl,rfl⟩
  have S1:=S0
  go_wp2_with fail
  refine hK.out _ _ S1 (fun S0=>?_)
  clear hK K S1
  try simp only [zW]
  refine tW 3 32 (.bool false) S0 ?_
  simp only [zW]
  refine tW 4 33 (.bool false) S0 ?_
  simp only [zW]
  by_cases hk0:k=0
  have HN:(l1||l2)=false:=uH PH hk0 (by simp)
  have QR:=aA hk0
  clear hk0
  refine tW 5 34 _ S0 ?_
  simp only [zW]
  refine bW 6 35 (.bool false) rfl rfl S0 ?_ (hy:=Or.inl ⟨by rfl,fun wz hz=>by (go_simp;exact uH QR)⟩)
  try simp only [zW]
  refine tW 7 36 (.bool false) S0 ?_
  simp only [zW]
  refine tU 8 37 S0 <| tU 9 38 S0 <| tU 10 39 S0 <| tU 11 40 S0 <| tU 12 41 S0 <| tU 13 42 S0 <| tU 14 43 S0 <| tU 15 44 S0 <| tU 16 45 S0 <| tU 17 46 S0 <| ?_
  simp only [zW]
  refine tW 18 47 (.bool false) S0 ?_
  simp only [zW]
  rotate_left
  obtain ⟨k',hk'⟩:∃k',k=k'+1:=⟨k - 1,by omega⟩
  have hpv:=uH DF k' hk'
  have R2:∀wx,Kp W6 wx→wx.cell? ⟨b,off+k'*4,none⟩=some (.string (bs last)):=fun wx h=>h.cell hpv
  have TH:IntKind.i64.wrap ((k:Int) - 1)=k':=by rw [IntKind.wrap_i64];omega
  have kp0:(0:Int)≤k':=by omega
  have kp1:(k':Int)<ml:=by omega
  have kp2:0<k:=by omega
  clear hk0 hk'
  refine tW 5 34 _ S0 ?_
  simp only [zW]
  refine tW 6 35 (.bool true) S0 ?_
  simp only [zW]
  refine tW 7 36 (.bool true) S0 ?_
  simp only [zW]
  refine tW 8 37 _ S0 ?_
  simp only [zW]
  refine tW 9 38 _ S0 ?_
  simp only [zW]
  refine tW 10 39 _ S0 ?_
  simp only [zW]
  refine tW 11 40 _ S0 ?_
  simp only [zW]
  refine tW 12 41 _ S0 ?_
  simp only [zW]
  refine tW 13 42 (.int .i64 k') S0 ?_
  simp only [zW]
  refine tW 14 43 (.pointer (some ⟨b,off+k'*4,none⟩)) S0 ?_
  simp only [zW]
  refine tW 15 44 _ S0 ?_
  simp only [zW]
  refine tW 16 45 (.string (bs last)) S0 ?_
  simp only [zW]
  cases HN:(l1||l2)
  refine tW 17 46 (.bool false) S0 ?_
  simp only [zW]
  refine tW 18 47 (.bool false) S0 ?_
  simp only [zW]
  rotate_left
  refine tW 17 46 (.bool true) S0 ?_
  simp only [zW]
  refine tW 18 47 (.bool true) S0 ?_
  simp only [zW]
  iterate 2
   refine tW 19 48 (.bool true) S0 ?_
   simp only [zW]
   refine tW 20 49 (.bool true) S0 ?_
   simp only [zW]
   refine tU 21 50 S0 <| tU 22 51 S0 <| tU 23 52 S0 <| tU 24 53 S0 <| ?_
   simp only [zW]
   refine tW 25 54 (.bool true) S0 ?_
   simp only [zW]
   refine tW 26 55 (.bool true) S0 ?_
   simp only [zW]
   refine tU 27 56 S0 <| tU 28 57 S0 <| tU 29 58 S0 <| tU 30 59 S0 <| tU 31 60 S0 <| tU 32 61 S0 <| ?_
   simp only [zW]
   refine tW 33 62 (.bool true) S0 ?_
   simp only [zW]
   refine tW 34 63 (.bool true) S0 ?_
   simp only [zW]
   refine tU 35 64 S0 <| tU 36 65 S0 <| ?_
   simp only [zW]
   refine tW 37 66 (.bool true) S0 ?_
   simp only [zW]
   refine tW 38 67 (.bool true) S0 ?_
   simp only [zW]
   refine tU 39 68 S0 <| tU 40 69 S0 <| tU 41 70 S0 <| tU 42 71 S0 <| tU 43 72 S0 <| ?_
   simp only [zW]
   refine tW 44 73 (.bool true) S0 ?_
   simp only [zW]
   refine wpAnyH_done (by kernel_rfl) ?_ _
   have GM:=aA (yB (uH GY) ((uH HS).below S0))
   have HF:=aA (show o=false by
    first | (rw [uH GD];simp;done) | (rw [uH GD,HN];simp))
   go_wp2
   go_ret
   exact ⟨yF (uH HF).symm,uH GM⟩
  all_goals
   refine tW 19 48 (.bool false) S0 ?_
   simp only [zW]
   refine tW 20 49 (.bool false) S0 ?_
   simp only [zW]
   refine tW 21 50 _ S0 ?_
   simp only [zW]
   refine tW 22 51 _ S0 ?_
   simp only [zW]
   cases ro
   refine yRq 23 rfl (fun K hK=>?_)
   go_simp
   refine (rM me cp _).mono ?_
   rw [hro]
   rintro e wt ⟨rfl,hb⟩
   have S1:=(uH HS).call S0 hb
   clear hb
   go_wp2_with fail
   refine hK.out _ _ S1 (fun S0=>?_)
   clear hK K S1
   try simp only [zW]
   refine tW 24 53 (.bool true) S0 ?_
   simp only [zW]
   refine tW 25 54 (.bool true) S0 ?_
   simp only [zW]
   refine tW 26 55 (.bool true) S0 ?_
   simp only [zW]
   refine tU 27 56 S0 <| tU 28 57 S0 <| tU 29 58 S0 <| tU 30 59 S0 <| tU 31 60 S0 <| tU 32 61 S0 <| ?_
   simp only [zW]
   refine tW 33 62 (.bool true) S0 ?_
   simp only [zW]
   refine tW 34 63 (.bool true) S0 ?_
   simp only [zW]
   refine tU 35 64 S0 <| tU 36 65 S0 <| ?_
   simp only [zW]
   rotate_left
   refine yRq 23 rfl (fun K hK=>?_)
   go_simp
   refine (rM me cp _).mono ?_
   rw [hro]
   rintro e wt ⟨rfl,hb⟩
   have S1:=(uH HS).call S0 hb
   clear hb
   go_wp2_with fail
   refine hK.out _ _ S1 (fun S0=>?_)
   clear hK K S1
   try simp only [zW]
   refine tW 24 53 (.bool false) S0 ?_
   simp only [zW]
   refine tW 25 54 (.bool false) S0 ?_
   simp only [zW]
   refine tW 26 55 (.bool false) S0 ?_
   simp only [zW]
   refine tW 27 56 _ S0 ?_
   simp only [zW]
   refine tW 28 57 _ S0 ?_
   simp only [zW]
   refine tW 29 58 _ S0 ?_
   simp only [zW]
   refine tW 30 59 _ S0 ?_
   simp only [zW]
   cases ib
   refine yRq 31 rfl (fun K hK=>?_)
   go_simp
   refine (aQ se 0 clock _).mono ?_
   rw [hib]
   rintro e wt ⟨rfl,rfl⟩
   have S1:=S0
   go_wp2_with fail
   refine hK.out _ _ S1 (fun S0=>?_)
   clear hK K S1
   try simp only [zW]
   refine tW 32 61 (.bool true) S0 ?_
   simp only [zW]
   refine tW 33 62 (.bool true) S0 ?_
   simp only [zW]
   refine tW 34 63 (.bool true) S0 ?_
   simp only [zW]
   refine tU 35 64 S0 <| tU 36 65 S0 <| ?_
   simp only [zW]
   rotate_left
   refine yRq 31 rfl (fun K hK=>?_)
   go_simp
   refine (aQ se 0 clock _).mono ?_
   rw [hib]
   rintro e wt ⟨rfl,rfl⟩
   have S1:=S0
   go_wp2_with fail
   refine hK.out _ _ S1 (fun S0=>?_)
   clear hK K S1
   try simp only [zW]
   refine tW 32 61 (.bool false) S0 ?_
   simp only [zW]
   refine tW 33 62 (.bool false) S0 ?_
   simp only [zW]
   refine tW 34 63 (.bool false) S0 ?_
   simp only [zW]
   cases uo
   refine tW 35 64 (.bool false) S0 ?_
   simp only [zW]
   refine tW 36 65 (.bool true) S0 ?_
   simp only [zW]
   rotate_left
   refine tW 35 64 (.bool true) S0 ?_
   simp only [zW]
   refine tW 36 65 (.bool false) S0 ?_
   simp only [zW]
   refine tW 37 66 (.bool false) S0 ?_
   simp only [zW]
   refine tW 38 67 (.bool false) S0 ?_
   simp only [zW]
   refine tW 39 68 _ S0 ?_
   simp only [zW]
   refine tW 40 69 _ S0 ?_
   simp only [zW]
   refine tW 41 70 _ S0 ?_
   simp only [zW]
   cases wi
   refine yRq 42 rfl (fun K hK=>?_)
   go_simp
   refine (eD ux uy me cp _).mono ?_
   rw [Gv]
   rintro e wt ⟨rfl,hb⟩
   have S1:=(uH HS).call S0 hb
   clear hb
   go_wp2_with fail
   refine hK.out _ _ S1 (fun S0=>?_)
   clear hK K S1
   try simp only [zW]
   refine tW 43 72 (.bool true) S0 ?_
   simp only [zW]
   rotate_left
   refine yRq 42 rfl (fun K hK=>?_)
   go_simp
   refine (eD ux uy me cp _).mono ?_
   rw [Gv]
   rintro e wt ⟨rfl,hb⟩
   have S1:=(uH HS).call S0 hb
   clear hb
   go_wp2_with fail
   refine hK.out _ _ S1 (fun S0=>?_)
   clear hK K S1
   try simp only [zW]
   refine tW 43 72 (.bool false) S0 ?_
   simp only [zW]
   refine tW 44 73 (.bool false) S0 ?_
   simp only [zW]
   refine wpAnyH_done (by kernel_rfl) ?_ _
   have ZQ:=aA (show o=(lS clock cs nm (ms.drop (k+1))&&(ko&&decide (ml≤20))) by rw [uH GD,HN];simp)
   have YM:=aA (show Kp W0 _ from yB (uH Kw) S0)
   clear GD A0 HS R S0 CN
   go_wp2
   go_roundw
   case rel=>exact ⟨k+1,nm,by omega,by go_num,ZQ,aA ⟨fun e=>by omega,uH DV⟩,YM⟩
   case measure=>simp [intOf];omega
   iterate 3
    refine tW 37 66 (.bool true) S0 ?_
    simp only [zW]
    refine tW 38 67 (.bool true) S0 ?_
    simp only [zW]
    refine tU 39 68 S0 <| tU 40 69 S0 <| tU 41 70 S0 <| tU 42 71 S0 <| tU 43 72 S0 <| ?_
    simp only [zW]
    rotate_left
   all_goals
    refine tW 44 73 (.bool true) S0 ?_
    simp only [zW]
    refine wpAnyH_done (by kernel_rfl) ?_ _
    have GM:=aA (yB (uH GY) ((uH HS).below S0))
    have HF:=aA (show o=false by
     first | (rw [uH GD];simp;done) | (rw [uH GD,HN];simp))
    go_wp2
    go_ret
    exact ⟨yF (uH HF).symm,uH GM⟩
end
end Go.Proofs.YtngkddhcmfbjnaaGreat
