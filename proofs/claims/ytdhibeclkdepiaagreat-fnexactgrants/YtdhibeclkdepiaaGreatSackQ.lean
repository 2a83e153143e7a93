/-
  Texts in one: OkE, InsD.
-/
import Derived.Test.YtdhibeclkdepiaaGreatSackO
import Derived.Test.YtdhibeclkdepiaaGreatSackP
set_option maxRecDepth 100000
set_option maxHeartbeats 16000000
set_option linter.unusedVariables false
set_option linter.unusedSimpArgs false
namespace Go.Proofs.YtdhibeclkdepiaaGreat
section
open Go.RowKit Go.Maps
def dS (apps:List bY):List Mac→Int→List Con→Bool
 | _,_,[]=>true
 | l,last,c::t=>decide (last<c.id)&&(decide (c.id≤1000000000)&&(mG c.mem c.cpu&&((dK c.app apps).isSome&&((bF c.node l).isSome&&(aI (-1) ((bF c.node l).getD ⟨[],0,0,0⟩).mem ((bF c.node l).getD ⟨[],0,0,0⟩).cpu c.mem c.cpu
   && dS apps (⟨((bF c.node l).getD ⟨[],0,0,0⟩).name,((bF c.node l).getD ⟨[],0,0,0⟩).mem + -1*c.mem,((bF c.node l).getD ⟨[],0,0,0⟩).cpu + -1*c.cpu,((bF c.node l).getD ⟨[],0,0,0⟩).seen⟩::l) c.id t)))))
def mY (s:St):Bool:=decide (s.cs.length≤150)&&dS s.apps s.ms 0 s.cs
theorem aBc {apps:List bY} {l:List Mac} {last:Int} {cs:List Con} {k:Nat} (h:cs.length≤k):dS apps l last (cs.drop k)=true:=by
 rw [List.drop_of_length_le h];rfl
theorem zX {apps:List bY} {l:List Mac} {last:Int} {cs:List Con} {k:Nat} (h:k<cs.length) {m:Mac} {b:Bool} (hm:(bF cs[k].node l).getD ⟨[],0,0,0⟩=m) (hb:(bF cs[k].node l).isSome=b) :
  dS apps l last (cs.drop k)=(decide (last<cs[k].id)&&(decide (cs[k].id≤1000000000)&&(mG cs[k].mem cs[k].cpu&&((dK cs[k].app apps).isSome&&(b&&(aI (-1) m.mem m.cpu cs[k].mem cs[k].cpu
   && dS apps (⟨m.name,m.mem + -1*cs[k].mem,m.cpu + -1*cs[k].cpu,m.seen⟩::l) cs[k].id (cs.drop (k+1)))))))):=by
 rw [List.drop_eq_getElem_cons h,dS,hm,hb]
theorem sN {nm:List UInt8} {l:List Mac} {m:Mac} (h:bF nm l=some m):m.name=nm:=by simpa using List.find?_some h
theorem aHv {s:List bY} {hs:List AV} {w:World} (hh:jH w hs s) (q:Con):aHw hs (fun _=>true) q=(dK q.app s).isSome:=by
 have:=aAc (id:=q.app) hh.1 (fun i h h'=>⟨(hh.2 i h h').1,(hh.2 i h h').2.1⟩)
 rw [aHw]
 cases h1:jP q.app hs<;>cases h2:dK q.app s<;>rw [h1,h2] at this<;>simp [aKn] at this ⊢
theorem aBL (q:Con) (w:World) :
  Calls Tryz.prog 122 #[conv q] w fun e w'=>e=.returned (pW q.node 0)∧Below w.heap.size w w':=by
 obtain ⟨id,ap,nd,me,cp⟩:=q
 go_enter Tryz.func122,Tryz.ntmps122
 go_wp2
 refine bodyPost_ret (v:=pW nd 0) (by simp [results,Tryz.results122,go_sem];try rfl) rfl ⟨rfl,?_⟩
 repeat (first | exact yH _ _ | refine yA ?_ _ | refine Below.drew ?_ | refine yC ?_ _ _ _ (by omega))
theorem aEY (x:Sls) (s:St) (w:World) (h:jC w x s) (hf:bD s) (hw:pX s) :
  Calls Tryz.prog 83 #[sv x s] w fun e w'=>e=.returned (.bool (mY s))∧Below w.heap.size w w':=by
 have hal:x.al≤1048576:=by have:=h.len.2.1;have:=hf.2.1.1;omega
 have hml:x.ml≤1048576:=by have:=h.len.2.2.1;have:=hf.2.2.1.1;omega
 have hcl:x.cl≤1048576:=by have:=h.len.2.2.2;have:=hf.2.2.2.1;omega
 have HR:=aA h.2.2.2
 have HL:=aA h.2.2.2.1
 have HFC:=aA hf.2.2.2
 have HWC:=aA hw.2
 have hmn:s.ms.length≤1048576:=by have:=h.2.2.1.1;omega
 obtain ⟨hs,hav,hhd⟩:=h.2.1.heads
 have HHB:=aA (fun q=>aHv hhd q)
 have CA:=aA (fun wx (hb:Below w.heap.size w wx)=>aIZ x s hs wx (hav.below hb) hal (aFJ hhd hw.1))
 have CM:=aA (fun wx (hb:Below w.heap.size w wx)=>pM x s wx (h.2.2.1.below hb) hml (fun m hm=>hf.2.2.1.2 m hm))
 have HS:=aA (show mY s=(decide (x.cl≤150)&&dS s.apps s.ms 0 s.cs) by rw [mY,←h.2.2.2.1])
 obtain ⟨o,ho⟩:∃o,mY s=o:=⟨_,rfl⟩
 rw [ho] at HS ⊢
 clear h hf hw ho hav hhd
 obtain ⟨qa,ql,qc,aa,al,ac,ma,ml,mc,ca,cl,cc⟩:=x
 obtain ⟨qs,clock,epoch,next,serial,apps,ms,cs⟩:=s
 simp only at hal hml hcl HR HL HFC HWC hmn CA CM HS HHB
 have HB0:=aA (iQ w (svc ⟨qa,ql,qc,aa,al,ac,ma,ml,mc,ca,cl,cc⟩ ⟨qs,clock,epoch,next,serial,apps,ms,cs⟩))
 have P0:=aA (fD w (svc ⟨qa,ql,qc,aa,al,ac,ma,ml,mc,ca,cl,cc⟩ ⟨qs,clock,epoch,next,serial,apps,ms,cs⟩))
 obtain ⟨q0,q1,q2,q3,q4,q5,q6,q7⟩:_∧_∧_∧_∧_∧_∧_∧_:=⟨(uH P0).at 0,(uH P0).at 1,(uH P0).at 2,(uH P0).at 3,(uH P0).at 4,(uH P0).at 5,(uH P0).at 6,(uH P0).at 7⟩
 simp at q0 q1 q2 q3 q4 q5 q6 q7
 by_cases h40:cl≤150
 case neg=>
  have hi:(150:Int)<cl:=by omega
  rw [decide_eq_false h40] at HS
  go_enter Tryz.func83,Tryz.ntmps83
  go_wp2
  go_ret
  exact ⟨yF (by rw [uH HS];simp),uH HB0⟩
 have hi:¬(150:Int)<cl:=by omega
 rw [decide_eq_true h40,Bool.true_and] at HS
 obtain ⟨W0,hW0⟩:∃W,rU w (svc ⟨qa,ql,qc,aa,al,ac,ma,ml,mc,ca,cl,cc⟩ ⟨qs,clock,epoch,next,serial,apps,ms,cs⟩)=W:=⟨_,rfl⟩
 have hsz0:W0.heap.size=w.heap.size+1:=by rw [←hW0,xY]
 go_enter Tryz.func83,Tryz.ntmps83
 go_wp2_with fail
 change Code.wp _ _ _ _ (rU w (svc ⟨qa,ql,qc,aa,al,ac,ma,ml,mc,ca,cl,cc⟩ ⟨qs,clock,epoch,next,serial,apps,ms,cs⟩))
 rw [hW0] at HB0 q0 q1 q2 q3 q4 q5 q6 q7 ⊢
 have R:∀wx,Kp W0 wx→wx.cell? ⟨w.heap.size,0,none⟩=some (.slice qa ql qc)∧wx.cell? ⟨w.heap.size,1,none⟩=some (.int .i64 clock)∧wx.cell? ⟨w.heap.size,2,none⟩=some (.int .i64 epoch)∧wx.cell? ⟨w.heap.size,3,none⟩=some (.int .i64 next)∧wx.cell? ⟨w.heap.size,4,none⟩=some (.int .i64 serial)∧wx.cell? ⟨w.heap.size,5,none⟩=some (.slice aa al ac)∧wx.cell? ⟨w.heap.size,6,none⟩=some (.slice ma ml mc)∧wx.cell? ⟨w.heap.size,7,none⟩=some (.slice ca cl cc):=fun wx h=>
  ⟨h.cell q0,h.cell q1,h.cell q2,h.cell q3,h.cell q4,h.cell q5,h.cell q6,h.cell q7⟩
 have A0:=aA (Kp.new W0)
 have HK:=aA (dE W0)
 have Q7:=aA q7
 clear q0 q1 q2 q3 q4 q5 q6 q7 P0 hW0 h40 hi
 go_cut [3,4] from 16 to 19 (fun v3 v4 wx=>∃ba bm n,v3=.map (some ba)∧v4=.map (some bm)∧W0.heap.size≤ba∧ba<bm∧Hid (∃D,wx.ownsMap Tryz.prog 133 eZ ba n D∧fE hs aJg D)∧Hid (∃D,wx.ownsMap Tryz.prog 133 iO bm ms.length D∧l5 ms D)∧Kp W0 wx)
 case first=>
  go_region_held3 (fun wx=>Kp W0 wx)
   (first | (with_reducible assumption) | exact uH SA | exact (uH HK).drew (uH A0) | exact (uH HK).call (by assumption) (by assumption))
   (first
   | (go_at_call 121;refine (uH CA _ ?_).mono ?_;(exact yB (uH HB0) ((uH HK).below (by assumption)));rintro e wt ⟨ba,rfl,⟨hba,D1,hown1,hk1⟩,hb⟩;have HAP:=aA (And.intro hown1 hk1);have SZ:=(show W0.heap.size≤ba from Nat.le_trans ((uH HK).size (by assumption)) hba);have LT:=hown1.lt;have SA:=aA ((uH HK).call (by assumption) hb);clear hown1 hk1)
   | (go_at_call 84;refine (uH CM _ ?_).mono ?_;(exact yB (uH HB0) ((uH HK).below (by assumption)));rintro e wt2 ⟨bm,rfl,⟨hbm,D2,hown2,hk2⟩,hb⟩;have HMP:=aA (And.intro hown2 hk2);have HAP2:=aA (And.intro (dD (uH HAP).1 hb) (uH HAP).2);have SA:=aA ((uH HK).call (by assumption) hb);clear hown2 hk2))
  all_goals
   go_wp2_with fail
   go_meet
   exact ⟨ba,bm,_,rfl,rfl,SZ,by omega,aA ⟨_,uH HAP2⟩,aA ⟨_,uH HMP⟩,by first | assumption | exact uH SA⟩
 case rest=>
  obtain ⟨ba,bm,n,rfl,rfl,hba,hbm,HAP,HMP,hA⟩:=hcut
  have HB1:=aA (yB (uH HB0) hA)
  have q7:=hA.cell (uH Q7)
  clear hA R A0 HK CA CM Q7
  go_wp2
  go_loopw [5,23] (fun la i wr=>∃(k:Nat) (last:Int) (l:List Mac),k≤cl∧i=.int .i64 k∧la=.int .i64 last∧l.length≤1048576+k∧Hid (o=dS apps l last (cs.drop k))∧Hid (∃D,wr.ownsMap Tryz.prog 133 eZ ba n D∧fE hs aJg D)∧Hid (∃D,wr.ownsMap Tryz.prog 133 iO bm l.length D∧l5 l D)∧Hid (Below w.heap.size w wr)) (fun _ i _=>cl - (intOf i).toNat)
  case atStart=>exact ⟨0,0,ms,Nat.zero_le _,rfl,rfl,by omega,aA (by rw [uH HS];simp),HAP,HMP,HB1⟩
  case round=>
   obtain ⟨k,last,l,hk,rfl,rfl,hll,HO,HA,HM,HB⟩:=hrel
   clear HAP HMP HB1 HS
   by_cases hlt:k<cl
   ·obtain ⟨b,off,rfl,hq⟩:=((uH HR).below (uH HB)).at hlt
    have hkl:k<cs.length:=by have:=uH HL;omega
    have hfc:=(uH HFC).2 _ (yM hkl)
    have hwc:=uH HWC _ (yM hkl)
    obtain ⟨c0,c1,c2,c3,c4⟩:=hq hkl
    obtain ⟨m,hm⟩:∃m,(bF cs[k].node l).getD ⟨[],0,0,0⟩=m:=⟨_,rfl⟩
    obtain ⟨th,hth⟩:∃t,(bF cs[k].node l).isSome=t:=⟨_,rfl⟩
    have hst:=zX (apps:=apps) (l:=l) (last:=last) hkl hm hth
    have hname:th=true→m.name=cs[k].node:=fun ht=>by
     cases hf:bF cs[k].node l with
     | none=>rw [hf] at hth;subst ht;cases hth
     | some m'=>rw [hf] at hm;subst hm;exact sN hf
    obtain ⟨q,hs'⟩:∃q,cs[k]=q:=⟨_,rfl⟩
    rw [hs'] at c0 c1 c2 c3 c4 hst hfc hwc hm hth hname
    have HST:=aA hst
    have HNAME:=aA hname
    obtain ⟨kl,hkey⟩:=aAa (nm:=q.node) (k:=0) (by omega) (by decide)
    have HKEY:=aA hkey
    have CO:=aA (fun wx=>aBL q wx)
    have CH:=aA (fun (wx:World) (hx:∃D,wx.ownsMap Tryz.prog 133 eZ ba n D∧fE hs aJg D)=>by obtain ⟨D,h1,h2⟩:=hx;have:=aHu ba n D hs (fun _=>true) q wx h1 h2 hwc;rw [uH HHB q] at this;exact this)
    have HLK:=aA (fun (wx:World) (hx:∃D,wx.ownsMap Tryz.prog 133 iO bm l.length D∧l5 l D)=>by obtain ⟨D,h1,h2⟩:=hx;have:=aKT h1 h2 hkey;rw [hm,hth] at this;exact this)
    have C1:=aA (fun wx=>qH q.mem q.cpu wx)
    have CS:=aA (fun wx=>pO m.mem m.cpu q.mem q.cpu wx)
    clear hq hs' hkl hfc hwc hst hname hkey hm hth
    obtain ⟨id,ap,nd,me,cp⟩:=q
    obtain ⟨mn,mm,mp,se⟩:=m
    simp only at c0 c1 c2 c3 c4 HST HNAME CH HLK C1 CS
    obtain ⟨sm,hsm⟩:∃r,mG me cp=r:=⟨_,rfl⟩
    obtain ⟨ha,hha⟩:∃r,(dK ap apps).isSome=r:=⟨_,rfl⟩
    obtain ⟨lx,ly,ok,hv⟩:∃x' y' ok,jQ (-1) mm mp me cp=rv x' y'∧aI (-1) mm mp me cp=ok∧(ok=true→x'=mm + -1*me∧y'=mp + -1*cp):=by
     cases hb:aI (-1) mm mp me cp
     ·exact ⟨0,0,_,kL hb,rfl,by simp⟩
     ·exact ⟨_,_,_,kW hb,rfl,fun _=>⟨rfl,rfl⟩⟩
    have HVV:=aA hv.2.2
    rw [hv.1,hv.2.1] at CS
    rw [hsm,hha,hv.2.1] at HST
    rw [hsm] at C1
    rw [hha] at CH
    have HO2:=aA ((uH HO).trans (uH HST))
    clear hsm hha hv HO HST
    have P2:=aA (yD wr #[.int .i64 id,.int .i64 ap,.string (bs nd),.int .i64 me,.int .i64 cp] 38)
    have b2:=yA (yH _ wr) (.cells #[.int .i64 id,.int .i64 ap,.string (bs nd),.int .i64 me,.int .i64 cp] 38)
    have HB2:=aA b2
    clear b2
    go_wp2_with fail
    refine (uH CO _).mono ?_
    rintro e w3 ⟨rfl,hb⟩
    have h3:wr.heap.size+1≤w3.heap.size:=by have:=hb.size;rw [yE] at this;exact this
    have HB3:=aA (yB (uH HB2) hb)
    have P3:=aA ((uH P2).below hb)
    have hlk:=uH HLK w3 (by obtain ⟨D,h1,h2⟩:=uH HM;exact ⟨D,dD h1 (uH HB3),h2⟩)
    clear hb HB2 P2
    have HB4:=aA (yA (uH HB3) (tY ⟨mn,mm,mp,se⟩))
    have P4:=aA ((uH P3).al (tY ⟨mn,mm,mp,se⟩))
    have M4:=aA (yD w3 #[.string (bs mn),.int .i64 mm,.int .i64 mp,.int .i64 se] 104)
    have a3:=(uH P4).at 3
    have a4:=(uH P4).at 4
    simp at a3 a4
    go_wp2_with fail
    refine (uH CS _).mono ?_
    rintro e w5 ⟨rfl,hb⟩
    have HB6:=aA (yA (yB (uH HB4) hb) (.cells #[.int .i64 lx,.int .i64 ly] 36))
    have P6:=aA (((uH P4).below hb).al (.cells #[.int .i64 lx,.int .i64 ly] 36))
    have M6:=aA (((uH M4).below hb).al (.cells #[.int .i64 lx,.int .i64 ly] 36))
    have V6:=aA (aH w5 36 lx ly)
    have h5:w3.heap.size+1≤w5.heap.size:=by have:=hb.size;rw [yE] at this;exact this
    have e0:=(uH P6).at 0
    have e3:=(uH P6).at 3
    have e4:=(uH P6).at 4
    simp at e0 e3 e4
    have HBW:=aA (yB (uH HB) (uH HB6))
    clear hb HB4 P4 M4 CS a3 a4 hlk c0 c1 c2 c3 c4 HLK
    by_cases h1:last<id
    case neg=>
     have h1':id≤last:=by omega
     go_wp2
     go_ret
     exact ⟨yF (by rw [uH HO2,decide_eq_false (show ¬last<id by omega)];simp),uH HBW⟩
    have h1':¬id≤last:=by omega
    by_cases h2:id≤1000000000
    case neg=>
     have h2':1000000000<id:=by omega
     go_wp2
     go_ret
     exact ⟨yF (by rw [uH HO2,decide_eq_false (show ¬id≤1000000000 by omega)];simp),uH HBW⟩
    have h2':¬1000000000<id:=by omega
    have HO3:=aA (show o=(sm&&(ha&&(th&&(ok&&dS apps (⟨mn,mm + -1*me,mp + -1*cp,se⟩::l) id (cs.drop (k+1)))))) by rw [uH HO2,decide_eq_true h1,decide_eq_true h2];simp)
    clear HO2
    go_wp2_with fail
    refine (uH C1 _).mono ?_
    rintro e w7 ⟨rfl,hb⟩
    have HB7:=aA (yB (uH HB6) hb)
    have P7:=aA ((uH P6).below hb)
    have M7:=aA ((uH M6).below hb)
    have V7:=aA ((uH V6).below hb)
    have h7:w5.heap.size+1≤w7.heap.size:=by have:=hb.size;rw [yE] at this;exact this
    have f0:=(uH P7).at 0
    have f1:=(uH P7).at 1
    have f2:=(uH P7).at 2
    have f3:=(uH P7).at 3
    have f4:=(uH P7).at 4
    simp at f0 f1 f2 f3 f4
    have HBW7:=aA (yB (uH HB) (uH HB7))
    clear hb HB6 P6 M6 V6 C1 HBW e0 e3 e4
    cases sm with
    | false=>
     go_wp2
     go_ret
     exact ⟨yF (by rw [uH HO3];simp),uH HBW7⟩
    | true=>
    go_wp2_with fail
    refine (uH CH _ ?_).mono ?_
    ·obtain ⟨D,g1,g2⟩:=uH HA
     exact ⟨D,dD g1 (uH HB7),g2⟩
    rintro e w9 ⟨rfl,hb⟩
    have HB9:=aA (yB (uH HB7) hb)
    have P9:=aA ((uH P7).below hb)
    have M9:=aA ((uH M7).below hb)
    have V9:=aA ((uH V7).below hb)
    have h9:=hb.size
    have HBW9:=aA (yB (uH HB) (uH HB9))
    clear hb HB7 P7 M7 V7 CH HBW7 f0 f1 f2 f3 f4
    cases ha with
    | false=>
     go_wp2
     go_ret
     exact ⟨yF (by rw [uH HO3];simp),uH HBW9⟩
    | true=>
    cases th with
    | false=>
     go_wp2
     go_ret
     exact ⟨yF (by rw [uH HO3];simp),uH HBW9⟩
    | true=>
    cases ok with
    | false=>
     go_wp2
     go_ret
     exact ⟨yF (by rw [uH HO3];simp),uH HBW9⟩
    | true=>
    obtain ⟨hlx,hly⟩:=uH HVV rfl
    have HO4:=aA (show o=dS apps (⟨mn,lx,ly,se⟩::l) id (cs.drop (k+1)) by rw [uH HO3,hlx,hly];simp)
    have hmn2:=uH HNAME rfl
    have HKEY2:=aA (show keyOf Tryz.prog 133 (pW mn 0)=some kl by rw [hmn2];exact uH HKEY)
    clear HO3 HVV hlx hly HNAME hmn2
    have v0:=(uH V9).c0
    have v1:=(uH V9).c1
    have m1:=(uH M9).f 1
    have m2:=(uH M9).f 2
    have m3:=(uH M9).at 1
    have m4:=(uH M9).at 2
    simp at m3 m4
    have hbmr:bm<wr.heap.size:=by obtain ⟨D,g1,_⟩:=uH HM;exact g1.lt
    have hbar:ba<wr.heap.size:=by obtain ⟨D,g1,_⟩:=uH HA;exact g1.lt
    have hw3:=(uH HB3).size
    have hww:=(uH HB).size
    obtain ⟨W10,hW10⟩:∃W,(w9.setCell ⟨w3.heap.size,1,none⟩ (.int .i64 lx)).setCell ⟨w3.heap.size,2,none⟩ (.int .i64 ly)=W:=⟨_,rfl⟩
    have hM10:Blk W10 w3.heap.size #[.string (bs mn),.int .i64 lx,.int .i64 ly,.int .i64 se] 104:=by
     rw [←hW10]
     exact heap_setCell_same _ _ 2 _ _ (.int .i64 ly) (heap_setCell_same _ _ 1 _ _ (.int .i64 lx) (uH M9))
    have hP10:Blk W10 wr.heap.size #[.int .i64 id,.int .i64 ap,.string (bs nd),.int .i64 me,.int .i64 cp] 38:=by
     rw [←hW10]
     exact ((uH P9).other _ _ _ (by omega)).other _ _ _ (by omega)
    have HB10:=aA (show Below w.heap.size w W10 by rw [←hW10];exact yC (yC (uH HBW9) _ _ _ (by omega)) _ _ _ (by omega))
    have HM10:=aA (show ∃D,W10.ownsMap Tryz.prog 133 iO bm l.length D∧l5 l D by
     obtain ⟨D,g1,g2⟩:=uH HM
     exact ⟨D,by rw [←hW10];exact ((dD g1 (uH HB9)).setCell (by simp only;omega) _).setCell (by simp only;omega) _,g2⟩)
    have HA10:=aA (show ∃D,W10.ownsMap Tryz.prog 133 eZ ba n D∧fE hs aJg D by
     obtain ⟨D,g1,g2⟩:=uH HA
     exact ⟨D,by rw [←hW10];exact ((dD g1 (uH HB9)).setCell (by simp only;omega) _).setCell (by simp only;omega) _,g2⟩)
    have p0:=hP10.at 0
    have p1:=hP10.at 1
    have p2:=hP10.at 2
    have p3:=hP10.at 3
    have p4:=hP10.at 4
    have z0:=hM10.at 0
    have z1:=hM10.at 1
    have z2:=hM10.at 2
    have z3:=hM10.at 3
    simp at p0 p1 p2 p3 p4 z0 z1 z2 z3
    have P10:=aA hP10
    have M10:=aA hM10
    clear hP10 hM10 P9 M9 V9 HB9 HBW9 HM HA HB HB3 P3
    go_wp2_with fail
    clear hW10 v0 v1 m1 m2 m3 m4
    go_region_with (first | (go_at_call 122;refine (uH CO _).mono ?_;rintro e wz ⟨rfl,hbc⟩;have HZ:=aA (yB (yH _ W10).drew hbc);have y0:=((uH M10).below (uH HZ)).at 0;have y1:=((uH M10).below (uH HZ)).at 1;have y2:=((uH M10).below (uH HZ)).at 2;have y3:=((uH M10).below (uH HZ)).at 3;simp at y0 y1 y2 y3;obtain ⟨D,g1,g2⟩:=uH HM10;obtain ⟨w11,hrun,hown2,hgrow2⟩:=(dD g1 (uH HZ)).update jL Tryz.underlying130 (by unfold maxLen;omega) (uH HKEY) (sM ⟨mn,lx,ly,se⟩);have HFIN:=aA (And.intro hown2 (And.intro hgrow2 (l5.put (m:=⟨mn,lx,ly,se⟩) g2 g1.isMap (uH HKEY2))));clear hown2 hgrow2 g1 g2 hbc))
    all_goals
     obtain ⟨f1,f2,f3⟩:=uH HFIN
     have hpz:=(uH P10).below (uH HZ)
     have P11:Blk w11 wr.heap.size #[.int .i64 id,.int .i64 ap,.string (bs nd),.int .i64 me,.int .i64 cp] 38:=(f2.block _ hpz.lt (by simp;omega)).trans hpz
     have g0:=P11.at 0
     simp at g0
     have HF1:=aA f1
     have HF2:=aA f2
     have HF3:=aA f3
     clear f1 f2 f3 hpz P11
     go_wp2
     have f1:=uH HF1
     have f2:=uH HF2
     have f3:=uH HF3
     go_roundw
     case rel=>
      refine ⟨k+1,id,⟨mn,lx,ly,se⟩::l,by omega,by go_num,rfl,by simp;omega,HO4,?_,aA ⟨_,f1,f3⟩,aA ?_⟩
      ·obtain ⟨D2,a1,a2⟩:=uH HA10
       exact aA ⟨D2,(dD a1 (uH HZ)).kept f2 (by simp;omega),a2⟩
      ·exact (yB (uH HB10) (uH HZ)).grown f2 (by have:=(uH HB10).size;have:=(uH HZ).size;omega) (fun j e=>by cases e;omega)
     case measure=>simp [intOf];omega
   ·go_wp2
    go_ret
    exact ⟨yF (by rw [uH HO,aBc (by have:=uH HL;omega)]),uH HB⟩
end
section
open Go.RowKit
theorem jM {P:Program} (w:World) (dT sT ty elem:TypeId) (b o dLen dCap:Nat) (a:Addr) (sLen sCap:Nat) (cs:List Value) (sz:Nat)
  (hu:P.underlying dT=some (.slice elem)) (hs:(P.info? elem).map (·.size)=some sz) (hn:cs.length=Nat.min sLen dLen*sz)
  (hsrc:∀j v,cs[j]? = some v→w.cell? (a.add j)=some v) (hc:∀j,j<cs.length→(w.cell? ⟨b,o+j,none⟩).isSome=true) (hf:∀j,j<cs.length→w.frozen? ⟨b,o+j,none⟩=false) (h1:∀v ∈ cs,v.oneCell'=true) :
  (Builtin.copy_ #[dT,sT] ty #[.slice (some ⟨b,o,none⟩) dLen dCap,.slice (some a) sLen sCap]).run P w=.ok (goInt (Nat.min sLen dLen)) (w.setCells b o cs):=by
 have hl:=run_loadCells_list (P:=P) w a cs hsrc
 have hst:=run_storeCells_cells (P:=P) b o cs 0 w (by simpa using hc) (by simpa using hf) h1
 obtain ⟨m,hm⟩:∃m,Nat.min sLen dLen=m:=⟨_,rfl⟩
 rw [hm] at hn ⊢
 cases hq:P.info? elem with
 | none=>simp [hq] at hs
 | some i=>
  have hi:i.size=sz:=by simpa [hq] using hs
  rw [hn] at hl
  simp [Builtin.copy_,run_underlying hu,Builtin.lenOf,Builtin.firstCells,sizeOf,typeInfo,hq,hi,hm,hl,hst]
theorem aCy {P:Program} {a:Act} {o:Oper} {w w':World} {s x:Operand} {t t':TypeId} {v vs vx:Value} (ho:o.op=.call { callee:=.builtin .copy,args:=#[s,x],argTypes:=#[t,t'] }) (hs:a.eval s=vs) (hx:a.eval x=vx) (hrun:(Builtin.copy_ #[t,t'] o.type #[vs,vx]).run P w=.ok v w'):(execOp a.eval o).run P w=.ok (.value v) w':=by
 simp [execOp,ho,resolve,invoke,builtin,hs,hx,hrun,Result.andThen]
theorem aFE:(Tryz.prog.info? 38).map (·.size)=some 5:=by kernel_rfl
theorem aKv:∀w,(Go.sizeOf 38).run Tryz.prog w=.ok 5 w:=fun w=>by kernel_rfl
theorem gU (l:List Con) (i:Nat):aD l=aD (l.take i)++aD (l.drop i):=by rw [←dH,List.take_append_drop]
theorem dM (l:List Con) {i:Nat} (h:i≤l.length):(aD (l.take i)).length=i*5:=by rw [bP,List.length_take,Nat.min_eq_left h]
theorem fJ (l:List Con) (i:Nat):(aD (l.drop i)).length=(l.length - i)*5:=by rw [bP,List.length_drop]
theorem aHh {w:World} {g M i:Nat} {l:List Con} (h:Lay w 38 g (M*5) (aD l)) (hi:i<l.length) (hM:l.length+1≤M):Lay (w.setCells g ((i+1)*5) (aD (l.drop i))) 38 g (M*5) (aD (l.take (i+1)++l.drop i)):=by
 have ht:(aD (l.take (i+1))).length=(i+1)*5:=dM l (by omega)
 have hd:=fJ l i
 have hm:=Nat.mul_le_mul_right 5 hM
 refine h.cells _ _ (by rw [hd];omega) _ (by rw [dH,List.length_append,ht,hd];omega) (fun j u hj=>?_)
 rw [dH] at hj
 rw [hd]
 refine ⟨fun e=>?_,fun e=>?_⟩
 ·rw [List.getElem?_append_right (by omega),ht] at hj
  exact hj
 ·by_cases e2:j<(i+1)*5
  ·rw [List.getElem?_append_left (by omega)] at hj
   refine h.cell ?_
   rw [gU l (i+1),List.getElem?_append_left (by omega)]
   exact hj
  ·have:=(List.getElem?_eq_some_iff.1 hj).1
   rw [List.length_append,ht,hd] at this
   omega
theorem aKV {w:World} {g M i:Nat} {l:List Con} {q:Con} (h:Lay w 38 g (M*5) (aD (l.take (i+1)++l.drop i))) (hi:i<l.length) (hM:l.length+1≤M):Lay (w.setCells g (i*5) (fG q)) 38 g (M*5) (aD (l.take i++q::l.drop i)):=by
 have ht1:(aD (l.take (i+1))).length=(i+1)*5:=dM l (by omega)
 have ht:(aD (l.take i)).length=i*5:=dM l (by omega)
 have hd:=fJ l i
 have hm:=Nat.mul_le_mul_right 5 hM
 have hq:(fG q).length=5:=rfl
 refine h.cells _ _ (by rw [hq];omega) _ (by rw [oL,List.length_append,List.length_append,ht,hd,hq];omega) (fun j u hj=>?_)
 rw [oL] at hj
 rw [hq]
 refine ⟨fun e=>?_,fun e=>?_⟩
 ·rw [List.getElem?_append_right (by omega),ht,List.getElem?_append_left (by omega)] at hj
  exact hj
 ·refine h.cell ?_
  rw [dH]
  by_cases e2:j<i*5
  ·rw [List.getElem?_append_left (by omega)] at hj ⊢
   have e3:aD (l.take (i+1))=aD (l.take i)++fG l[i]:=by rw [List.take_succ_eq_append_getElem hi,dH];simp [aD]
   rw [e3,List.getElem?_append_left (by omega)]
   exact hj
  ·rw [List.getElem?_append_right (by omega),ht,List.getElem?_append_right (by omega),hq] at hj
   rw [List.getElem?_append_right (by omega),ht1]
   rw [show j - (i+1)*5=j - i*5 - 5 by omega]
   exact hj
theorem aBY {B:Nat} (g n cap gv m i:Nat) (hm:m=1) (l:List Con) (q:Con) (w:World) (h:CRm B w (some ⟨g,0,none⟩) n cap l) (hv:Blk w gv (fG q).toArray 38) (hne:g≠gv) (hi:i<n) (hroom:n+1≤cap) (hn:n≤1048576) :
  Calls Tryz.prog 72 #[.slice (some ⟨g,0,none⟩) n cap,.int .i64 (i:Int),.slice (some ⟨gv,0,none⟩) m m] w (lG B (some ⟨g,0,none⟩) n cap (l.take i++q::l.drop i) w):=by
 obtain ⟨M,hB,hlay,hM,hl,hnc⟩:=h.cells (by omega)
 have hil:i<l.length:=by omega
 have hq5:(fG q).length=5:=rfl
 have hd:=fJ l i
 have hm5:=Nat.mul_le_mul_right 5 (show n+1≤M by omega)
 have hov:∀lb cb,(callFunc 111 #[.slice (some ⟨gv,0,none⟩) m m,.slice (some ⟨g,(i+m)*5,none⟩) lb cb]).run Tryz.prog w=.ok (.value (.bool false)) w:=fun lb cb=>by
  obtain ⟨arr,ha,hs⟩:=hlay.cel
  rw [run_callFunc_extern Tryz.func111 (by kernel_rfl) (by kernel_rfl) (by kernel_rfl) (e:=Extern.SlicesOverlaps.overlaps #[32,32] #[4]) (by kernel_rfl),
   Lib.run_overlaps_apart w 32 4 38 Tryz.underlying32 5 aKv ⟨gv,0,none⟩ ⟨g,(i+m)*5,none⟩ m m lb cb (fun e=>hne e.symm) 38 38 5 arr.size (by simp [World.shape?,show w.heap[gv]? = _ from hv,fG]) (by simp [World.shape?,ha]) (by omega) (hv.f 0) (hv.f 5)]
  rfl
 obtain ⟨W1,hW1⟩:∃W1,W1=w.drew.setCells g ((i+m)*5) (aD (l.drop i)):=⟨_,rfl⟩
 have hlay1:Lay W1 38 g (M*5) (aD (l.take (i+1)++l.drop i)):=by rw [hW1,hm];exact aHh hlay.drew hil (by omega)
 have hcp1:∀ty dc sc,(Builtin.copy_ #[32,32] ty #[.slice (some ⟨g,(i+m)*5,none⟩) (n+m - (i+m)) dc,.slice (some ⟨g,i*5,none⟩) (n+m - i) sc]).run Tryz.prog w.drew=.ok (goInt (Nat.min (n+m - i) (n+m - (i+m)))) W1:=fun ty dc sc=>by
  rw [hW1]
  exact jM w.drew _ _ ty 38 g ((i+m)*5) (n+m - (i+m)) dc ⟨g,i*5,none⟩ (n+m - i) sc (aD (l.drop i)) 5 Tryz.underlying32 aFE (by rw [hd,show Nat.min (n+m - i) (n+m - (i+m))=l.length - i by simp only [Nat.min_def];split<;>omega])
   (fun j v hj=>by
    rw [Lib.add_plain]
    refine hlay.drew.cell ?_
    rw [gU l i,List.getElem?_append_right (by rw [dM l (by omega)];omega),dM l (by omega),Nat.add_sub_cancel_left]
    exact hj)
   (fun j hj=>hlay.drew.isThere (by rw [hd] at hj;omega)) (fun j hj=>hlay.drew.frozen _) (fun v hv=>dQ _ v hv)
 have hcp2:∀ty dc,(Builtin.copy_ #[32,32] ty #[.slice (some ⟨g,i*5,none⟩) (n+m - i) dc,.slice (some ⟨gv,0,none⟩) m m]).run Tryz.prog W1=.ok (goInt (Nat.min m (n+m - i))) (W1.setCells g (i*5) (fG q)):=fun ty dc=>
  jM W1 _ _ ty 38 g (i*5) (n+m - i) dc ⟨gv,0,none⟩ m m (fG q) 5 Tryz.underlying32 aFE (by rw [hq5,show Nat.min m (n+m - i)=1 by simp only [Nat.min_def];split<;>omega])
   (fun j v hj=>by
    rw [Lib.add_plain,hW1,World.cell?_setCells_out g _ _ _ _ (fun e _=>absurd e.symm hne)]
    have h1:=hv.at j
    rw [List.getElem?_toArray,hj] at h1
    rw [Nat.zero_add]
    exact h1)
   (fun j hj=>hlay1.isThere (by rw [hq5] at hj;omega)) (fun j hj=>hlay1.frozen _) (fun v hv=>dQ [q] v (by simpa [aD] using hv))
 have HA:=aA (show lG B (some ⟨g,0,none⟩) n cap (l.take i++q::l.drop i) w (.returned (.slice (some ⟨g,0,none⟩) (n+m) cap)) (W1.setCells g (i*5) (fG q)) from by
  rw [hm]
  refine ⟨some ⟨g,0,none⟩,cap,rfl,Lay.Crm (M:=M) (aKV hlay1 hil (by omega)) hB hM (by simp;omega) (by omega),?_,.inl ⟨by omega,rfl⟩⟩
  rw [hW1]
  exact eT ⟨by omega,_,hlay.cel,hB,0,rfl⟩ _ _ _ _ (eT ⟨by omega,_,hlay.cel,hB,0,rfl⟩ _ _ _ _ (.of_below (yH _ w).drew)))
 have HC1:=aA hcp1
 have HC2:=aA hcp2
 have hz1:¬((m:Int)=0):=by omega
 have hz2:¬((i:Int)=(n:Int)):=by omega
 have hw1:IntKind.i64.wrap ((i:Int)+(m:Int))=(i:Int)+(m:Int):=by rw [IntKind.wrap_i64];omega
 have hw2:IntKind.i64.wrap ((n:Int)+(m:Int))=(n:Int)+(m:Int):=by rw [IntKind.wrap_i64];omega
 have hb1:(0:Int)≤(i:Int)+(m:Int):=by omega
 have hc1:¬((cap:Int)<(n:Int)+(m:Int)):=by omega
 have hc2:(n:Int)+(m:Int)≤(cap:Int):=by omega
 have hc3:(0:Int)≤(n:Int)+(m:Int):=by omega
 have hin:i≤n:=by omega
 have hic:i≤cap:=by omega
 have htn:((i:Int)+(m:Int)).toNat=i+m:=by omega
 have htm:((n:Int)+(m:Int)).toNat=n+m:=by omega
 have hb2:¬(cap=i+m):=by omega
 have hb3:(i:Int)+(m:Int)≤(n:Int)+(m:Int):=by omega
 have hb5:(i:Int)≤(n:Int)+(m:Int):=by omega
 have hb4:¬(cap=i):=by omega
 have hncap:n+m≤cap:=by omega
 clear hm h hv hlay hlay1 hcp1 hcp2 hq5 hd hm5 hl hM hB hil hroom hnc hW1 hi
 go_enter Tryz.func72,Tryz.ntmps72
 go_wp2_with (simp only [hov])
 go_upto_region 15 with fail
 refine wp_region_held_drew (S:=fun _=>True) (by kernel_rfl) trivial (fun _=>?_)
 refine fP 0 69 _ rfl rfl trivial ?_
 try simp only [zW]
 refine fP 1 70 _ rfl rfl trivial ?_
 try simp only [zW]
 refine fP 2 71 _ rfl rfl trivial ?_
 try simp only [zW]
 refine fP 3 72 (.int .i64 ((i:Int)+(m:Int))) rfl rfl trivial ?_
 try simp only [zW]
 refine fP 4 73 (.slice (some ⟨g,(i+m)*5,none⟩) (n+m - (i+m)) (cap - (i+m))) rfl rfl trivial ?_
 try simp only [zW]
 refine fP 5 74 _ rfl rfl trivial ?_
 try simp only [zW]
 refine fP 6 75 _ rfl rfl trivial ?_
 try simp only [zW]
 refine fP 7 76 (.slice (some ⟨g,i*5,none⟩) (n+m - i) (cap - i)) rfl rfl trivial ?_
 try simp only [zW]
 refine wpAnyH_ready (rs:=[8]) (by kernel_rfl) (by simp) (AllReadyH.cons rfl (fun K hK=>aHL 77 (by rfl) rfl (aCy rfl rfl rfl (uH HC1 _ _ _)) ?_) AllReadyH.nil)
 refine hK.out _ _ trivial (fun _=>?_)
 clear hK K
 try simp only [zW]
 refine wpAnyH_done (by kernel_rfl) ?_ _
 go_wp2_with fail
 rw [uH HC2]
 go_wp2
 go_ret
 exact uH HA
theorem aFC {w:World} {t:TypeId} {g N:Nat} {cs vs:List Value} (h:Lay w t g N cs) (o:Nat) (ho:o=cs.length) (hN:cs.length+vs.length≤N):Lay (w.setCells g o vs) t g N (cs++vs):=by
 subst ho
 refine h.cells _ _ hN _ (by rw [List.length_append];exact hN) (fun j u hj=>⟨fun e=>?_,fun e=>?_⟩)
 ·rw [List.getElem?_append_right e.1] at hj
  exact hj
 ·by_cases e2:j<cs.length
  ·rw [List.getElem?_append_left e2] at hj
   exact h.cell hj
  ·have:=(List.getElem?_eq_some_iff.1 hj).1
   rw [List.length_append] at this
   omega
theorem aEK {B:Nat} (g n cap gv m i:Nat) (hm:m=1) (l:List Con) (q:Con) (w:World) (h:CRm B w (some ⟨g,0,none⟩) n cap l) (hv:Blk w gv (fG q).toArray 38) (hi:i<n) (hroom:¬n+1≤cap) (hn:n≤1048576) (hBw:B≤w.heap.size) :
  Calls Tryz.prog 72 #[.slice (some ⟨g,0,none⟩) n cap,.int .i64 (i:Int),.slice (some ⟨gv,0,none⟩) m m] w (lG B (some ⟨g,0,none⟩) n cap (l.take i++q::l.drop i) w):=by
 obtain ⟨i0,z,hi0,hsz,hz0,hzc,hb0,hb1⟩:=aK4
 obtain ⟨M,hB,hlay,hM,hl,hnc⟩:=h.cells (by have:=h.2.1;omega)
 have hgl:g<w.heap.size:=hlay.lt
 have hgv:gv<w.heap.size:=hv.lt
 have hil:i<l.length:=by omega
 have hq5:(fG q).length=5:=rfl
 have hd:=fJ l i
 have ht:=dM l (show i≤l.length by omega)
 obtain ⟨K,hK⟩:∃K,K=n+m - i:=⟨_,rfl⟩
 have hG1:=grownCap_ge w (i+K) cap 38
 obtain ⟨G,hG⟩:∃G,grownCap w (i+K) cap 38=G:=⟨_,rfl⟩
 have hold:(Builtin.firstCells i0.size i (.slice (some ⟨g,0,none⟩) i cap)).run Tryz.prog w.drew=.ok (aD (l.take i)).toArray w.drew:=
  run_firstCells_some w.drew _ i ⟨g,0,none⟩ i cap (aD (l.take i)) (by rw [ht,hsz]) (fun j v hj=>by
   rw [Lib.add_plain,Nat.zero_add]
   refine hlay.drew.cell ?_
   rw [gU l i,List.getElem?_append_left (List.getElem?_eq_some_iff.1 hj).1]
   exact hj)
 obtain ⟨W0,hW0⟩:∃W,W=w.drew.alloc (.cells ((aD (l.take i)).toArray++Builtin.zeroCells z.cells K++Builtin.zeroCells z.cells (G - (i+K))) 38):=⟨_,rfl⟩
 have hrun:∀ty,(Builtin.append_ #[32,3] ty #[.slice (some ⟨g,0,none⟩) i cap,.int .i64 (K:Int)]).run Tryz.prog w=.ok (.slice (some ⟨w.heap.size,0,none⟩) (i+K) G) W0:=fun ty=>by
  rw [hW0,←hG]
  exact Lib.run_append_grow_zeros w 32 3 ty 38 i0 z .i64 .i64 Tryz.underlying32 Tryz.underlying3 hi0 hz0 (some ⟨g,0,none⟩) i cap (aD (l.take i)) hold K (by omega) (by omega) (by omega) (by omega) (by
   have:=Nat.mul_le_mul (show K≤2000000 by omega) hb1
   omega) (growslice_fits_wide (by omega) (by
   have h1:(i+K+(i+K) / 4+192)≤2000000:=by omega
   have:=Nat.mul_le_mul h1 hb1
   omega))
 rw [hG] at hG1
 have hlay0:Lay W0 38 w.heap.size (G*5) (aD (l.take i)):=by
  rw [hW0]
  refine ⟨(Builtin.zeroCells z.cells K).toList++(Builtin.zeroCells z.cells (G - (i+K))).toList,?_,?_⟩
  ·have e:(aD (l.take i)++((Builtin.zeroCells z.cells K).toList++(Builtin.zeroCells z.cells (G - (i+K))).toList)).toArray=(aD (l.take i)).toArray++Builtin.zeroCells z.cells K++Builtin.zeroCells z.cells (G - (i+K)):=by simp
   rw [e]
   show (w.heap.push _)[w.heap.size]? = _
   rw [Array.getElem?_push,if_pos rfl]
  ·have h1:=vN z K 5 hzc
   have h2:=vN z (G - (i+K)) 5 hzc
   rw [List.length_append,List.length_append,ht,Array.length_toList,Array.length_toList,h1,h2,←Nat.add_mul,←Nat.add_mul]
   congr 1
   omega
 have hb0':Below w.heap.size w W0:=by rw [hW0];exact yA (yH _ w).drew _
 obtain ⟨W1,hW1⟩:∃W1,W1=W0.setCells w.heap.size (i*5) (fG q):=⟨_,rfl⟩
 have hGm:=Nat.mul_le_mul_right 5 hG1
 have hlay1:Lay W1 38 w.heap.size (G*5) (aD (l.take i)++fG q):=by rw [hW1];exact aFC hlay0 _ ht.symm (by rw [ht,hq5];omega)
 obtain ⟨W2,hW2⟩:∃W2,W2=W1.drew.setCells w.heap.size ((i+m)*5) (aD (l.drop i)):=⟨_,rfl⟩
 have hlay2:Lay W2 38 w.heap.size (G*5) (aD (l.take i++q::l.drop i)):=by
  rw [hW2,oL,←List.append_assoc]
  exact aFC hlay1.drew _ (by rw [List.length_append,ht,hq5,hm];omega) (by rw [List.length_append,ht,hq5,hd];omega)
 have hm1:Mks (fun k=>k=w.heap.size) W0 W1:=by rw [hW1];exact eT (S:=fun k=>k=w.heap.size) rfl _ _ _ _ (Mks.refl _ _)
 have hm2:Mks (fun k=>k=w.heap.size) W0 W2:=by rw [hW2];exact eT (S:=fun k=>k=w.heap.size) rfl _ _ _ _ (hm1.trans (.of_below (yH _ W1).drew))
 have hcp1:∀ty dc,(Builtin.copy_ #[32,32] ty #[.slice (some ⟨w.heap.size,i*5,none⟩) K dc,.slice (some ⟨gv,0,none⟩) m m]).run Tryz.prog W0=.ok (goInt (Nat.min m K)) W1:=fun ty dc=>by
  rw [hW1]
  exact jM W0 _ _ ty 38 w.heap.size (i*5) K dc ⟨gv,0,none⟩ m m (fG q) 5 Tryz.underlying32 aFE (by rw [hq5,show Nat.min m K=1 by simp only [Nat.min_def];split<;>omega])
   (fun j v hj=>by
    rw [Lib.add_plain,Nat.zero_add]
    have h1:=(hv.below hb0').at j
    rw [List.getElem?_toArray,hj] at h1
    exact h1)
   (fun j hj=>hlay0.isThere (by rw [hq5] at hj;omega)) (fun j hj=>hlay0.frozen _) (fun v hv=>dQ [q] v (by simpa [aD] using hv))
 have hcp2:∀ty dc sc,(Builtin.copy_ #[32,32] ty #[.slice (some ⟨w.heap.size,(i+m)*5,none⟩) (i+K - (i+m)) dc,.slice (some ⟨g,i*5,none⟩) (n - i) sc]).run Tryz.prog W1.drew=.ok (goInt (Nat.min (n - i) (i+K - (i+m)))) W2:=fun ty dc sc=>by
  rw [hW2]
  exact jM W1.drew _ _ ty 38 w.heap.size ((i+m)*5) (i+K - (i+m)) dc ⟨g,i*5,none⟩ (n - i) sc (aD (l.drop i)) 5 Tryz.underlying32 aFE (by rw [hd,show Nat.min (n - i) (i+K - (i+m))=l.length - i by simp only [Nat.min_def];split<;>omega])
   (fun j v hj=>by
    rw [Lib.add_plain]
    have hg1:Lay W1.drew 38 g (M*5) (aD l):=by
     obtain ⟨R,e1,e2⟩:=hlay
     exact ⟨R,(hm1.block g (Nat.lt_of_lt_of_le hgl hb0'.size) (by omega)).trans ((hb0'.block g hgl).trans e1),e2⟩
    refine hg1.cell ?_
    rw [gU l i,List.getElem?_append_right (by rw [ht];omega),ht,Nat.add_sub_cancel_left]
    exact hj)
   (fun j hj=>hlay1.drew.isThere (by rw [hd] at hj;omega)) (fun j hj=>hlay1.drew.frozen _) (fun v hv=>dQ _ v hv)
 have HA:=aA (show lG B (some ⟨g,0,none⟩) n cap (l.take i++q::l.drop i) w (.returned (.slice (some ⟨w.heap.size,0,none⟩) (i+K) G)) W2 from by
  rw [show i+K=n+1 by omega]
  refine ⟨some ⟨w.heap.size,0,none⟩,G,rfl,Lay.Crm (M:=G) hlay2 hBw (yJ _) (by simp;omega) (by omega),?_,.inr ⟨_,rfl,yJ _⟩⟩
  exact .of_below (hb0'.trans (hm2.below (fun k e=>by subst e;exact yJ _) hb0'.size)))
 have HC0:=aA hrun
 have HC1:=aA hcp1
 have HC2:=aA hcp2
 have hz1:¬((m:Int)=0):=by omega
 have hz2:¬((i:Int)=(n:Int)):=by omega
 have hw1:IntKind.i64.wrap ((i:Int)+(m:Int))=(i:Int)+(m:Int):=by rw [IntKind.wrap_i64];omega
 have hw2:IntKind.i64.wrap ((n:Int)+(m:Int))=(n:Int)+(m:Int):=by rw [IntKind.wrap_i64];omega
 have hw3:IntKind.i64.wrap ((n:Int)+(m:Int) - (i:Int))=(K:Int):=by rw [IntKind.wrap_i64]<;>omega
 have hb1':(0:Int)≤(i:Int)+(m:Int):=by omega
 have hc1:(cap:Int)<(n:Int)+(m:Int):=by omega
 have hin:i≤n:=by omega
 have hic:i≤cap:=by omega
 have htn:((i:Int)+(m:Int)).toNat=i+m:=by omega
 have hb2:¬(G=i+m):=by omega
 have hb3:(i:Int)+(m:Int)≤(i:Int)+(K:Int):=by omega
 have hb5:(i:Int)≤(i:Int)+(K:Int):=by omega
 have hb4:¬(cap=i):=by omega
 have hb6:¬(G=i):=by omega
 obtain ⟨gg,hgg⟩:∃k,w.heap.size=k:=⟨_,rfl⟩
 rw [hgg] at HA HC0 HC1 HC2
 clear hm h hv hlay hlay0 hlay1 hlay2 hrun hcp1 hcp2 hq5 hd ht hGm hl hM hB hil hroom hnc hW0 hW1 hW2 hi hm1 hm2 hb0' hold hG hG1 hK hgl hgv hi0 hz0 hzc hb0 hb1 hsz hBw hgg
 go_enter Tryz.func72,Tryz.ntmps72
 go_wp2_with (at_builtin;refine Lib.wpList_append_run _ rfl _ _ _ _ rfl _ _ rfl rfl _ _ (uH HC0 _) ?_)
 go_wp2_with fail
 rw [uH HC1]
 go_upto_region 11 with fail
 refine wp_region_held_drew (S:=fun _=>True) (by kernel_rfl) trivial (fun _=>?_)
 refine fP 0 46 _ rfl rfl trivial ?_
 try simp only [zW]
 refine fP 1 47 _ rfl rfl trivial ?_
 try simp only [zW]
 refine fP 2 48 _ rfl rfl trivial ?_
 try simp only [zW]
 refine fP 3 49 (.int .i64 ((i:Int)+(m:Int))) rfl rfl trivial ?_
 try simp only [zW]
 refine fP 4 50 (.slice (some ⟨gg,(i+m)*5,none⟩) (i+K - (i+m)) (G - (i+m))) rfl rfl trivial ?_
 try simp only [zW]
 refine fP 5 51 _ rfl rfl trivial ?_
 try simp only [zW]
 refine fP 6 52 _ rfl rfl trivial ?_
 try simp only [zW]
 refine fP 7 53 (.slice (some ⟨g,i*5,none⟩) (n - i) (cap - i)) rfl rfl trivial ?_
 try simp only [zW]
 refine wpAnyH_ready (rs:=[8]) (by kernel_rfl) (by simp) (AllReadyH.cons rfl (fun K hK=>aHL 54 (by rfl) rfl (aCy rfl rfl rfl (uH HC2 _ _ _)) ?_) AllReadyH.nil)
 refine hK.out _ _ trivial (fun _=>?_)
 clear hK K
 try simp only [zW]
 refine wpAnyH_done (by kernel_rfl) ?_ _
 go_wp2
 go_ret
 exact uH HA
theorem aEM {B:Nat} (ao:Option Addr) (n cap gv i:Nat) (l:List Con) (q:Con) (w:World) (h:CRm B w ao n cap l) (hv:Blk w gv (fG q).toArray 38) (hne:cap≠0→∀o,ao≠some ⟨gv,o,none⟩) (hi:i≤n) (hn:n≤1048576) (hBw:B≤w.heap.size) :
  Calls Tryz.prog 72 #[.slice ao n cap,.int .i64 (i:Int),.slice (some ⟨gv,0,none⟩) 1 1] w (lG B ao n cap (l.take i++q::l.drop i) w):=by
 have hl:=h.1.1
 by_cases e:i=n
 ·subst e
  rw [List.take_of_length_le (by omega),List.drop_of_length_le (by omega)]
  by_cases hr:i+1≤cap
  ·rcases h.2.2 with h0 | ⟨g,M,rfl,_⟩
   ·omega
   ·exact aEL g i cap gv 1 rfl l q w h hv (fun e=>hne (by omega) 0 (by rw [e])) hr hn
  ·exact aCn ao i cap gv 1 rfl l q w h hv hr hn hBw
 ·have:=h.2.1
  rcases h.2.2 with h0 | ⟨g,M,rfl,_⟩
  ·omega
  ·by_cases hr:n+1≤cap
   ·exact aBY g n cap gv 1 i rfl l q w h hv (fun e=>hne (by omega) 0 (by rw [e])) (by omega) hr hn
   ·exact aEK g n cap gv 1 i rfl l q w h hv (by omega) hr hn hBw
end
end Go.Proofs.YtdhibeclkdepiaaGreat
