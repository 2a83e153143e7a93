/-
  The containers of a state are right: contsOk, by the program; a aAC over the dump.
-/
import Derived.Test.YtdhibeclkdepiaaGreatPackT
import Derived.Test.YtdhibeclkdepiaaGreatPackV
set_option maxRecDepth 100000
set_option maxHeartbeats 16000000
set_option linter.unusedVariables false
set_option linter.unusedSimpArgs false
namespace Go.Proofs.YtdhibeclkdepiaaGreat
section
open Go.RowKit Go.Maps
def dI (apps:List dB):List Mac→Int→List Con→Bool
 | _,_,[]=>true
 | l,last,c::t=>decide (last<c.id)&&(decide (c.id≤1000000000)&&(mK c.mem c.cpu&&((dY c.app apps).isSome&&((bF c.node l).isSome&&(aK (-1) ((bF c.node l).getD ⟨[],0,0,0⟩).mem ((bF c.node l).getD ⟨[],0,0,0⟩).cpu c.mem c.cpu
   && dI apps (⟨((bF c.node l).getD ⟨[],0,0,0⟩).name,((bF c.node l).getD ⟨[],0,0,0⟩).mem + -1*c.mem,((bF c.node l).getD ⟨[],0,0,0⟩).cpu + -1*c.cpu,((bF c.node l).getD ⟨[],0,0,0⟩).seen⟩::l) c.id t)))))
def l5 (s:St):Bool:=decide (s.cs.length≤150)&&dI s.apps s.ms 0 s.cs
theorem aAk {apps:List dB} {l:List Mac} {last:Int} {cs:List Con} {k:Nat} (h:cs.length≤k):dI apps l last (cs.drop k)=true:=by
 rw [List.drop_of_length_le h];rfl
theorem xV {apps:List dB} {l:List Mac} {last:Int} {cs:List Con} {k:Nat} (h:k<cs.length) {m:Mac} {b:Bool} (hm:(bF cs[k].node l).getD ⟨[],0,0,0⟩=m) (hb:(bF cs[k].node l).isSome=b) :
  dI apps l last (cs.drop k)=(decide (last<cs[k].id)&&(decide (cs[k].id≤1000000000)&&(mK cs[k].mem cs[k].cpu&&((dY cs[k].app apps).isSome&&(b&&(aK (-1) m.mem m.cpu cs[k].mem cs[k].cpu
   && dI apps (⟨m.name,m.mem + -1*cs[k].mem,m.cpu + -1*cs[k].cpu,m.seen⟩::l) cs[k].id (cs.drop (k+1)))))))):=by
 rw [List.drop_eq_getElem_cons h,dI,hm,hb]
theorem qZ {nm:List UInt8} {l:List Mac} {m:Mac} (h:bF nm l=some m):m.name=nm:=by simpa using List.find?_some h
theorem aGr {s:List dB} {hs:List AV} {w:World} (hh:iP w hs s) (q:Con):aGs hs (fun _=>true) q=(dY q.app s).isSome:=by
 have:=zQ (id:=q.app) hh.1 (fun i h h'=>⟨(hh.2 i h h').1,(hh.2 i h h').2.1⟩)
 rw [aGs]
 cases h1:iZ q.app hs<;>cases h2:dY q.app s<;>rw [h1,h2] at this<;>simp [aJa] at this ⊢
theorem aAW (q:Con) (w:World) :
  Calls Tryz.prog 122 #[conv q] w fun e w'=>e=.returned (oL q.node 0)∧Below w.heap.size w w':=by
 obtain ⟨id,ap,nd,me,cp⟩:=q
 go_enter Tryz.func122,Tryz.ntmps122
 go_wp2
 refine bodyPost_ret (v:=oL nd 0) (by simp [results,Tryz.results122,go_sem];try rfl) rfl ⟨rfl,?_⟩
 repeat (first | exact Below.refl _ _ | refine yA ?_ _ | refine Below.drew ?_ | refine yC ?_ _ _ _ (by omega))
theorem aDZ (x:Sls) (s:St) (w:World) (h:iJ w x s) (hf:bS s) (hw:aEP s) :
  Calls Tryz.prog 83 #[sv x s] w fun e w'=>e=.returned (.bool (l5 s))∧Below w.heap.size w w':=by
 have hal:x.al≤1048576:=by have:=h.len.2.1;have:=hf.2.1.1;omega
 have hml:x.ml≤1048576:=by have:=h.len.2.2.1;have:=hf.2.2.1.1;omega
 have hcl:x.cl≤1048576:=by have:=h.len.2.2.2;have:=hf.2.2.2.1;omega
 have HR:=aA h.2.2.2
 have HL:=aA h.2.2.2.1
 have HFC:=aA hf.2.2.2
 have HWC:=aA hw.2
 have hmn:s.ms.length≤1048576:=by have:=h.2.2.1.1;omega
 obtain ⟨hs,hav,hhd⟩:=h.2.1.heads
 have HHB:=aA (fun q=>aGr hhd q)
 have CA:=aA (fun wx (hb:Below w.heap.size w wx)=>aHU x s hs wx (hav.below hb) hal (aEI hhd hw.1))
 have CM:=aA (fun wx (hb:Below w.heap.size w wx)=>oD x s wx (h.2.2.1.below hb) hml (fun m hm=>hf.2.2.1.2 m hm))
 have HS:=aA (show l5 s=(decide (x.cl≤150)&&dI s.apps s.ms 0 s.cs) by rw [l5,←h.2.2.2.1])
 obtain ⟨o,ho⟩:∃o,l5 s=o:=⟨_,rfl⟩
 rw [ho] at HS ⊢
 clear h hf hw ho hav hhd
 obtain ⟨qa,ql,qc,aa,al,ac,ma,ml,mc,ca,cl,cc⟩:=x
 obtain ⟨qs,clock,epoch,next,serial,apps,ms,cs⟩:=s
 simp only at hal hml hcl HR HL HFC HWC hmn CA CM HS HHB
 have HB0:=aA (gZ w (svc ⟨qa,ql,qc,aa,al,ac,ma,ml,mc,ca,cl,cc⟩ ⟨qs,clock,epoch,next,serial,apps,ms,cs⟩))
 have P0:=aA (eO w (svc ⟨qa,ql,qc,aa,al,ac,ma,ml,mc,ca,cl,cc⟩ ⟨qs,clock,epoch,next,serial,apps,ms,cs⟩))
 obtain ⟨q0,q1,q2,q3,q4,q5,q6,q7⟩:_∧_∧_∧_∧_∧_∧_∧_:=⟨(uH P0).at 0,(uH P0).at 1,(uH P0).at 2,(uH P0).at 3,(uH P0).at 4,(uH P0).at 5,(uH P0).at 6,(uH P0).at 7⟩
 simp at q0 q1 q2 q3 q4 q5 q6 q7
 by_cases h40:cl≤150
 case neg=>
  have hi:(150:Int)<cl:=by omega
  rw [decide_eq_false h40] at HS
  go_enter Tryz.func83,Tryz.ntmps83
  go_wp2
  go_ret
  exact ⟨yF (by rw [uH HS];simp),uH HB0⟩
 have hi:¬(150:Int)<cl:=by omega
 rw [decide_eq_true h40,Bool.true_and] at HS
 obtain ⟨W0,hW0⟩:∃W,qK w (svc ⟨qa,ql,qc,aa,al,ac,ma,ml,mc,ca,cl,cc⟩ ⟨qs,clock,epoch,next,serial,apps,ms,cs⟩)=W:=⟨_,rfl⟩
 have hsz0:W0.heap.size=w.heap.size+1:=by rw [←hW0,wL]
 go_enter Tryz.func83,Tryz.ntmps83
 go_wp2_with fail
 change Code.wp _ _ _ _ (qK w (svc ⟨qa,ql,qc,aa,al,ac,ma,ml,mc,ca,cl,cc⟩ ⟨qs,clock,epoch,next,serial,apps,ms,cs⟩))
 rw [hW0] at HB0 q0 q1 q2 q3 q4 q5 q6 q7 ⊢
 have R:∀wx,Kp W0 wx→wx.cell? ⟨w.heap.size,0,none⟩=some (.slice qa ql qc)∧wx.cell? ⟨w.heap.size,1,none⟩=some (.int .i64 clock)∧wx.cell? ⟨w.heap.size,2,none⟩=some (.int .i64 epoch)∧wx.cell? ⟨w.heap.size,3,none⟩=some (.int .i64 next)∧wx.cell? ⟨w.heap.size,4,none⟩=some (.int .i64 serial)∧wx.cell? ⟨w.heap.size,5,none⟩=some (.slice aa al ac)∧wx.cell? ⟨w.heap.size,6,none⟩=some (.slice ma ml mc)∧wx.cell? ⟨w.heap.size,7,none⟩=some (.slice ca cl cc):=fun wx h=>
  ⟨h.cell q0,h.cell q1,h.cell q2,h.cell q3,h.cell q4,h.cell q5,h.cell q6,h.cell q7⟩
 have A0:=aA (Kp.new W0)
 have HK:=aA (cB W0)
 have Q7:=aA q7
 clear q0 q1 q2 q3 q4 q5 q6 q7 P0 hW0 h40 hi
 go_cut [3,4] from 16 to 19 (fun v3 v4 wx=>∃ba bm n,v3=.map (some ba)∧v4=.map (some bm)∧W0.heap.size≤ba∧ba<bm∧Hid (∃D,wx.ownsMap Tryz.prog 133 eD ba n D∧eP hs aI4 D)∧Hid (∃D,wx.ownsMap Tryz.prog 133 gW bm ms.length D∧lF ms D)∧Kp W0 wx)
 case first=>
  go_region_held3 (fun wx=>Kp W0 wx)
   (first | (with_reducible assumption) | exact uH SA | exact (uH HK).drew (uH A0) | exact (uH HK).call (by assumption) (by assumption))
   (first
   | (go_at_call 121;refine (uH CA _ ?_).mono ?_;(exact yB (uH HB0) ((uH HK).below (by assumption)));rintro e wt ⟨ba,rfl,⟨hba,D1,hown1,hk1⟩,hb⟩;have HAP:=aA (And.intro hown1 hk1);have SZ:=(show W0.heap.size≤ba from Nat.le_trans ((uH HK).size (by assumption)) hba);have LT:=hown1.lt;have SA:=aA ((uH HK).call (by assumption) hb);clear hown1 hk1)
   | (go_at_call 84;refine (uH CM _ ?_).mono ?_;(exact yB (uH HB0) ((uH HK).below (by assumption)));rintro e wt2 ⟨bm,rfl,⟨hbm,D2,hown2,hk2⟩,hb⟩;have HMP:=aA (And.intro hown2 hk2);have HAP2:=aA (And.intro (bZ (uH HAP).1 hb) (uH HAP).2);have SA:=aA ((uH HK).call (by assumption) hb);clear hown2 hk2))
  all_goals
   go_wp2_with fail
   go_meet
   exact ⟨ba,bm,_,rfl,rfl,SZ,by omega,aA ⟨_,uH HAP2⟩,aA ⟨_,uH HMP⟩,by first | assumption | exact uH SA⟩
 case rest=>
  obtain ⟨ba,bm,n,rfl,rfl,hba,hbm,HAP,HMP,hA⟩:=hcut
  have HB1:=aA (yB (uH HB0) hA)
  have q7:=hA.cell (uH Q7)
  clear hA R A0 HK CA CM Q7
  go_wp2
  go_loopw [5,23] (fun la i wr=>∃(k:Nat) (last:Int) (l:List Mac),k≤cl∧i=.int .i64 k∧la=.int .i64 last∧l.length≤1048576+k∧Hid (o=dI apps l last (cs.drop k))∧Hid (∃D,wr.ownsMap Tryz.prog 133 eD ba n D∧eP hs aI4 D)∧Hid (∃D,wr.ownsMap Tryz.prog 133 gW bm l.length D∧lF l D)∧Hid (Below w.heap.size w wr)) (fun _ i _=>cl - (intOf i).toNat)
  case atStart=>exact ⟨0,0,ms,Nat.zero_le _,rfl,rfl,by omega,aA (by rw [uH HS];simp),HAP,HMP,HB1⟩
  case round=>
   obtain ⟨k,last,l,hk,rfl,rfl,hll,HO,HA,HM,HB⟩:=hrel
   clear HAP HMP HB1 HS
   by_cases hlt:k<cl
   ·obtain ⟨b,off,rfl,hq⟩:=((uH HR).below (uH HB)).at hlt
    have hkl:k<cs.length:=by have:=uH HL;omega
    have hfc:=(uH HFC).2 _ (List.getElem_mem hkl)
    have hwc:=uH HWC _ (List.getElem_mem hkl)
    obtain ⟨c0,c1,c2,c3,c4⟩:=hq hkl
    obtain ⟨m,hm⟩:∃m,(bF cs[k].node l).getD ⟨[],0,0,0⟩=m:=⟨_,rfl⟩
    obtain ⟨th,hth⟩:∃t,(bF cs[k].node l).isSome=t:=⟨_,rfl⟩
    have hst:=xV (apps:=apps) (l:=l) (last:=last) hkl hm hth
    have hname:th=true→m.name=cs[k].node:=fun ht=>by
     cases hf:bF cs[k].node l with
     | none=>rw [hf] at hth;subst ht;cases hth
     | some m'=>rw [hf] at hm;subst hm;exact qZ hf
    obtain ⟨q,hs'⟩:∃q,cs[k]=q:=⟨_,rfl⟩
    rw [hs'] at c0 c1 c2 c3 c4 hst hfc hwc hm hth hname
    have HST:=aA hst
    have HNAME:=aA hname
    obtain ⟨kl,hkey⟩:=zO (nm:=q.node) (k:=0) (by omega) (by decide)
    have HKEY:=aA hkey
    have CO:=aA (fun wx=>aAW q wx)
    have CH:=aA (fun (wx:World) (hx:∃D,wx.ownsMap Tryz.prog 133 eD ba n D∧eP hs aI4 D)=>by obtain ⟨D,h1,h2⟩:=hx;have:=aGq ba n D hs (fun _=>true) q wx h1 h2 hwc;rw [uH HHB q] at this;exact this)
    have HLK:=aA (fun (wx:World) (hx:∃D,wx.ownsMap Tryz.prog 133 gW bm l.length D∧lF l D)=>by obtain ⟨D,h1,h2⟩:=hx;have:=aJF h1 h2 hkey;rw [hm,hth] at this;exact this)
    have C1:=aA (fun wx=>oW q.mem q.cpu wx)
    have CS:=aA (fun wx=>oF m.mem m.cpu q.mem q.cpu wx)
    clear hq hs' hkl hfc hwc hst hname hkey hm hth
    obtain ⟨id,ap,nd,me,cp⟩:=q
    obtain ⟨mn,mm,mp,se⟩:=m
    simp only at c0 c1 c2 c3 c4 HST HNAME CH HLK C1 CS
    obtain ⟨sm,hsm⟩:∃r,mK me cp=r:=⟨_,rfl⟩
    obtain ⟨ha,hha⟩:∃r,(dY ap apps).isSome=r:=⟨_,rfl⟩
    obtain ⟨lx,ly,ok,hv⟩:∃x' y' ok,jA (-1) mm mp me cp=rv x' y'∧aK (-1) mm mp me cp=ok∧(ok=true→x'=mm + -1*me∧y'=mp + -1*cp):=by
     cases hb:aK (-1) mm mp me cp
     ·exact ⟨0,0,_,jS hb,rfl,by simp⟩
     ·exact ⟨_,_,_,kC hb,rfl,fun _=>⟨rfl,rfl⟩⟩
    have HVV:=aA hv.2.2
    rw [hv.1,hv.2.1] at CS
    rw [hsm,hha,hv.2.1] at HST
    rw [hsm] at C1
    rw [hha] at CH
    have HO2:=aA ((uH HO).trans (uH HST))
    clear hsm hha hv HO HST
    have P2:=aA (yD wr #[.int .i64 id,.int .i64 ap,.string (bs nd),.int .i64 me,.int .i64 cp] 38)
    have b2:=yA (Below.refl _ wr) (.cells #[.int .i64 id,.int .i64 ap,.string (bs nd),.int .i64 me,.int .i64 cp] 38)
    have HB2:=aA b2
    clear b2
    go_wp2_with fail
    refine (uH CO _).mono ?_
    rintro e w3 ⟨rfl,hb⟩
    have h3:wr.heap.size+1≤w3.heap.size:=by have:=hb.size;rw [yE] at this;exact this
    have HB3:=aA (yB (uH HB2) hb)
    have P3:=aA ((uH P2).below hb)
    have hlk:=uH HLK w3 (by obtain ⟨D,h1,h2⟩:=uH HM;exact ⟨D,bZ h1 (uH HB3),h2⟩)
    clear hb HB2 P2
    have HB4:=aA (yA (uH HB3) (rZ ⟨mn,mm,mp,se⟩))
    have P4:=aA ((uH P3).al (rZ ⟨mn,mm,mp,se⟩))
    have M4:=aA (yD w3 #[.string (bs mn),.int .i64 mm,.int .i64 mp,.int .i64 se] 104)
    have a3:=(uH P4).at 3
    have a4:=(uH P4).at 4
    simp at a3 a4
    go_wp2_with fail
    refine (uH CS _).mono ?_
    rintro e w5 ⟨rfl,hb⟩
    have HB6:=aA (yA (yB (uH HB4) hb) (.cells #[.int .i64 lx,.int .i64 ly] 36))
    have P6:=aA (((uH P4).below hb).al (.cells #[.int .i64 lx,.int .i64 ly] 36))
    have M6:=aA (((uH M4).below hb).al (.cells #[.int .i64 lx,.int .i64 ly] 36))
    have V6:=aA (aJ w5 36 lx ly)
    have h5:w3.heap.size+1≤w5.heap.size:=by have:=hb.size;rw [yE] at this;exact this
    have e0:=(uH P6).at 0
    have e3:=(uH P6).at 3
    have e4:=(uH P6).at 4
    simp at e0 e3 e4
    have HBW:=aA (yB (uH HB) (uH HB6))
    clear hb HB4 P4 M4 CS a3 a4 hlk c0 c1 c2 c3 c4 HLK
    by_cases h1:last<id
    case neg=>
     have h1':id≤last:=by omega
     go_wp2
     go_ret
     exact ⟨yF (by rw [uH HO2,decide_eq_false (show ¬last<id by omega)];simp),uH HBW⟩
    have h1':¬id≤last:=by omega
    by_cases h2:id≤1000000000
    case neg=>
     have h2':1000000000<id:=by omega
     go_wp2
     go_ret
     exact ⟨yF (by rw [uH HO2,decide_eq_false (show ¬id≤1000000000 by omega)];simp),uH HBW⟩
    have h2':¬1000000000<id:=by omega
    have HO3:=aA (show o=(sm&&(ha&&(th&&(ok&&dI apps (⟨mn,mm + -1*me,mp + -1*cp,se⟩::l) id (cs.drop (k+1)))))) by rw [uH HO2,decide_eq_true h1,decide_eq_true h2];simp)
    clear HO2
    go_wp2_with fail
    refine (uH C1 _).mono ?_
    rintro e w7 ⟨rfl,hb⟩
    have HB7:=aA (yB (uH HB6) hb)
    have P7:=aA ((uH P6).below hb)
    have M7:=aA ((uH M6).below hb)
    have V7:=aA ((uH V6).below hb)
    have h7:w5.heap.size+1≤w7.heap.size:=by have:=hb.size;rw [yE] at this;exact this
    have f0:=(uH P7).at 0
    have f1:=(uH P7).at 1
    have f2:=(uH P7).at 2
    have f3:=(uH P7).at 3
    have f4:=(uH P7).at 4
    simp at f0 f1 f2 f3 f4
    have HBW7:=aA (yB (uH HB) (uH HB7))
    clear hb HB6 P6 M6 V6 C1 HBW e0 e3 e4
    cases sm with
    | false=>
     go_wp2
     go_ret
     exact ⟨yF (by rw [uH HO3];simp),uH HBW7⟩
    | true=>
    go_wp2_with fail
    refine (uH CH _ ?_).mono ?_
    ·obtain ⟨D,g1,g2⟩:=uH HA
     exact ⟨D,bZ g1 (uH HB7),g2⟩
    rintro e w9 ⟨rfl,hb⟩
    have HB9:=aA (yB (uH HB7) hb)
    have P9:=aA ((uH P7).below hb)
    have M9:=aA ((uH M7).below hb)
    have V9:=aA ((uH V7).below hb)
    have h9:=hb.size
    have HBW9:=aA (yB (uH HB) (uH HB9))
    clear hb HB7 P7 M7 V7 CH HBW7 f0 f1 f2 f3 f4
    cases ha with
    | false=>
     go_wp2
     go_ret
     exact ⟨yF (by rw [uH HO3];simp),uH HBW9⟩
    | true=>
    cases th with
    | false=>
     go_wp2
     go_ret
     exact ⟨yF (by rw [uH HO3];simp),uH HBW9⟩
    | true=>
    cases ok with
    | false=>
     go_wp2
     go_ret
     exact ⟨yF (by rw [uH HO3];simp),uH HBW9⟩
    | true=>
    obtain ⟨hlx,hly⟩:=uH HVV rfl
    have HO4:=aA (show o=dI apps (⟨mn,lx,ly,se⟩::l) id (cs.drop (k+1)) by rw [uH HO3,hlx,hly];simp)
    have hmn2:=uH HNAME rfl
    have HKEY2:=aA (show keyOf Tryz.prog 133 (oL mn 0)=some kl by rw [hmn2];exact uH HKEY)
    clear HO3 HVV hlx hly HNAME hmn2
    have v0:=(uH V9).c0
    have v1:=(uH V9).c1
    have m1:=(uH M9).f 1
    have m2:=(uH M9).f 2
    have m3:=(uH M9).at 1
    have m4:=(uH M9).at 2
    simp at m3 m4
    have hbmr:bm<wr.heap.size:=by obtain ⟨D,g1,_⟩:=uH HM;exact g1.lt
    have hbar:ba<wr.heap.size:=by obtain ⟨D,g1,_⟩:=uH HA;exact g1.lt
    have hw3:=(uH HB3).size
    have hww:=(uH HB).size
    obtain ⟨W10,hW10⟩:∃W,(w9.setCell ⟨w3.heap.size,1,none⟩ (.int .i64 lx)).setCell ⟨w3.heap.size,2,none⟩ (.int .i64 ly)=W:=⟨_,rfl⟩
    have hM10:Blk W10 w3.heap.size #[.string (bs mn),.int .i64 lx,.int .i64 ly,.int .i64 se] 104:=by
     rw [←hW10]
     exact heap_setCell_same _ _ 2 _ _ (.int .i64 ly) (heap_setCell_same _ _ 1 _ _ (.int .i64 lx) (uH M9))
    have hP10:Blk W10 wr.heap.size #[.int .i64 id,.int .i64 ap,.string (bs nd),.int .i64 me,.int .i64 cp] 38:=by
     rw [←hW10]
     exact ((uH P9).other _ _ _ (by omega)).other _ _ _ (by omega)
    have HB10:=aA (show Below w.heap.size w W10 by rw [←hW10];exact yC (yC (uH HBW9) _ _ _ (by omega)) _ _ _ (by omega))
    have HM10:=aA (show ∃D,W10.ownsMap Tryz.prog 133 gW bm l.length D∧lF l D by
     obtain ⟨D,g1,g2⟩:=uH HM
     exact ⟨D,by rw [←hW10];exact ((bZ g1 (uH HB9)).setCell (by simp only;omega) _).setCell (by simp only;omega) _,g2⟩)
    have HA10:=aA (show ∃D,W10.ownsMap Tryz.prog 133 eD ba n D∧eP hs aI4 D by
     obtain ⟨D,g1,g2⟩:=uH HA
     exact ⟨D,by rw [←hW10];exact ((bZ g1 (uH HB9)).setCell (by simp only;omega) _).setCell (by simp only;omega) _,g2⟩)
    have p0:=hP10.at 0
    have p1:=hP10.at 1
    have p2:=hP10.at 2
    have p3:=hP10.at 3
    have p4:=hP10.at 4
    have z0:=hM10.at 0
    have z1:=hM10.at 1
    have z2:=hM10.at 2
    have z3:=hM10.at 3
    simp at p0 p1 p2 p3 p4 z0 z1 z2 z3
    have P10:=aA hP10
    have M10:=aA hM10
    clear hP10 hM10 P9 M9 V9 HB9 HBW9 HM HA HB HB3 P3
    go_wp2_with fail
    clear hW10 v0 v1 m1 m2 m3 m4
    go_region_with (first | (go_at_call 122;refine (uH CO _).mono ?_;rintro e wz ⟨rfl,hbc⟩;have HZ:=aA (yB (Below.refl _ W10).drew hbc);have y0:=((uH M10).below (uH HZ)).at 0;have y1:=((uH M10).below (uH HZ)).at 1;have y2:=((uH M10).below (uH HZ)).at 2;have y3:=((uH M10).below (uH HZ)).at 3;simp at y0 y1 y2 y3;obtain ⟨D,g1,g2⟩:=uH HM10;obtain ⟨w11,hrun,hown2,hgrow2⟩:=(bZ g1 (uH HZ)).update iT Tryz.underlying130 (by unfold maxLen;omega) (uH HKEY) (qX ⟨mn,lx,ly,se⟩);have HFIN:=aA (And.intro hown2 (And.intro hgrow2 (lF.put (m:=⟨mn,lx,ly,se⟩) g2 g1.isMap (uH HKEY2))));clear hown2 hgrow2 g1 g2 hbc))
    all_goals
     obtain ⟨f1,f2,f3⟩:=uH HFIN
     have hpz:=(uH P10).below (uH HZ)
     have P11:Blk w11 wr.heap.size #[.int .i64 id,.int .i64 ap,.string (bs nd),.int .i64 me,.int .i64 cp] 38:=(f2.block _ hpz.lt (by simp;omega)).trans hpz
     have g0:=P11.at 0
     simp at g0
     have HF1:=aA f1
     have HF2:=aA f2
     have HF3:=aA f3
     clear f1 f2 f3 hpz P11
     go_wp2
     have f1:=uH HF1
     have f2:=uH HF2
     have f3:=uH HF3
     go_roundw
     case rel=>
      refine ⟨k+1,id,⟨mn,lx,ly,se⟩::l,by omega,by go_num,rfl,by simp;omega,HO4,?_,aA ⟨_,f1,f3⟩,aA ?_⟩
      ·obtain ⟨D2,a1,a2⟩:=uH HA10
       exact aA ⟨D2,(bZ a1 (uH HZ)).kept f2 (by simp;omega),a2⟩
      ·exact (yB (uH HB10) (uH HZ)).grown f2 (by have:=(uH HB10).size;have:=(uH HZ).size;omega) (fun j e=>by cases e;omega)
     case measure=>simp [intOf];omega
   ·go_wp2
    go_ret
    exact ⟨yF (by rw [uH HO,aAk (by have:=uH HL;omega)]),uH HB⟩
end
end Go.Proofs.YtdhibeclkdepiaaGreat
