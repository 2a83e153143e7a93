/-
  Texts in one: OkE, OkF, TkaC, TakP, TakB, StEnd, InsC.
-/
import Derived.Test.YtokabeokclpljaaGreatSackP
import Derived.Test.YtokabeokclpljaaGreatSackO
import Derived.Laws.Rows
import Derived.Lib.Overlaps
import Derived.Lib.AppendZerosOnto
import Derived.Lib.JoinLaws
import Derived.Deep.AppendSrc
import Derived.Deep.DeepAppendWide
import Derived.Laws.Externs
set_option maxRecDepth 100000
set_option maxHeartbeats 16000000
set_option linter.unusedVariables false
set_option linter.unusedSimpArgs false
namespace Go.Proofs.YtokabeokclpljaaGreat
section
open Go.RowKit Go.Maps
def contsFrom (apps:List Appl):List Mac→Int→List Con→Bool
 | _,_,[]=>true
 | l,last,c::t=>decide (last<c.id)&&(decide (c.id≤1000000000)&&(someR c.mem c.cpu&&((findAp c.app apps).isSome&&((findM c.node l).isSome&&(bothOk (-1) ((findM c.node l).getD ⟨[],0,0,0⟩).mem ((findM c.node l).getD ⟨[],0,0,0⟩).cpu c.mem c.cpu
   && contsFrom apps (⟨((findM c.node l).getD ⟨[],0,0,0⟩).name,((findM c.node l).getD ⟨[],0,0,0⟩).mem + -1*c.mem,((findM c.node l).getD ⟨[],0,0,0⟩).cpu + -1*c.cpu,((findM c.node l).getD ⟨[],0,0,0⟩).seen⟩::l) c.id t)))))
def contsOkV (s:St):Bool:=decide (s.cs.length≤150)&&contsFrom s.apps s.ms 0 s.cs
theorem contsFrom_end {apps:List Appl} {l:List Mac} {last:Int} {cs:List Con} {k:Nat} (h:cs.length≤k):contsFrom apps l last (cs.drop k)=true:=by
 rw [List.drop_of_length_le h];rfl
theorem contsFrom_step {apps:List Appl} {l:List Mac} {last:Int} {cs:List Con} {k:Nat} (h:k<cs.length) {m:Mac} {b:Bool} (hm:(findM cs[k].node l).getD ⟨[],0,0,0⟩=m) (hb:(findM cs[k].node l).isSome=b) :
  contsFrom apps l last (cs.drop k)=(decide (last<cs[k].id)&&(decide (cs[k].id≤1000000000)&&(someR cs[k].mem cs[k].cpu&&((findAp cs[k].app apps).isSome&&(b&&(bothOk (-1) m.mem m.cpu cs[k].mem cs[k].cpu
   && contsFrom apps (⟨m.name,m.mem + -1*cs[k].mem,m.cpu + -1*cs[k].cpu,m.seen⟩::l) cs[k].id (cs.drop (k+1)))))))):=by
 rw [List.drop_eq_getElem_cons h,contsFrom,hm,hb]
theorem findM_name {nm:List UInt8} {l:List Mac} {m:Mac} (h:findM nm l=some m):m.name=nm:=by simpa using List.find?_some h
theorem hasB_find {s:List Appl} {hs:List AV} {w:World} (hh:Heads w hs s) (q:Con):hasB hs (fun _=>true) q=(findAp q.app s).isSome:=by
 have:=heads_find (id:=q.app) hh.1 (fun i h h'=>⟨(hh.2 i h h').1,(hh.2 i h h').2.1⟩)
 rw [hasB]
 cases h1:findA q.app hs<;>cases h2:findAp q.app s<;>rw [h1,h2] at this<;>simp [optB] at this ⊢
theorem onMachine_any (q:Con) (w:World) :
  Calls Tryz.prog 123 #[conv q] w fun e w'=>e=.returned (keyv q.node 0)∧Below w.heap.size w w':=by
 obtain ⟨id,ap,nd,me,cp⟩:=q
 go_enter Tryz.func123,Tryz.ntmps123
 go_wp2
 refine bodyPost_ret (v:=keyv nd 0) (by simp [results,Tryz.results123,go_sem];try rfl) rfl ⟨rfl,?_⟩
 repeat (first | exact yH _ _ | refine yA ?_ _ | refine Below.drew ?_ | refine yC ?_ _ _ _ (by omega))
theorem contsOk_any (x:Sls) (s:St) (w:World) (h:SRow w x s) (hf:FitSt s) (hw:WfSt s) :
  Calls Tryz.prog 78 #[sv x s] w fun e w'=>e=.returned (.bool (contsOkV s))∧Below w.heap.size w w':=by
 have hal:x.al≤1048576:=by have:=h.len.2.1;have:=hf.2.1.1;omega
 have hml:x.ml≤1048576:=by have:=h.len.2.2.1;have:=hf.2.2.1.1;omega
 have hcl:x.cl≤1048576:=by have:=h.len.2.2.2;have:=hf.2.2.2.1;omega
 have HR:=hide h.2.2.2
 have HL:=hide h.2.2.2.1
 have HFC:=hide hf.2.2.2
 have HWC:=hide hw.2
 have hmn:s.ms.length≤1048576:=by have:=h.2.2.1.1;omega
 obtain ⟨hs,hav,hhd⟩:=h.2.1.heads
 have HHB:=hide (fun q=>hasB_find hhd q)
 have CA:=hide (fun wx (hb:Below w.heap.size w wx)=>apps_ex x s hs wx (hav.below hb) hal (heads_wf hhd hw.1))
 have CM:=hide (fun wx (hb:Below w.heap.size w wx)=>machines_ex x s wx (h.2.2.1.below hb) hml (fun m hm=>hf.2.2.1.2 m hm))
 have HS:=hide (show contsOkV s=(decide (x.cl≤150)&&contsFrom s.apps s.ms 0 s.cs) by rw [contsOkV,←h.2.2.2.1])
 obtain ⟨o,ho⟩:∃o,contsOkV s=o:=⟨_,rfl⟩
 rw [ho] at HS ⊢
 clear h hf hw ho hav hhd
 obtain ⟨qa,ql,qc,aa,al,ac,ma,ml,mc,ca,cl,cc⟩:=x
 obtain ⟨qs,clock,epoch,next,serial,apps,ms,cs⟩:=s
 simp only at hal hml hcl HR HL HFC HWC hmn CA CM HS HHB
 have HB0:=hide (boxW_below w (svc ⟨qa,ql,qc,aa,al,ac,ma,ml,mc,ca,cl,cc⟩ ⟨qs,clock,epoch,next,serial,apps,ms,cs⟩))
 have P0:=hide (boxW_blk w (svc ⟨qa,ql,qc,aa,al,ac,ma,ml,mc,ca,cl,cc⟩ ⟨qs,clock,epoch,next,serial,apps,ms,cs⟩))
 obtain ⟨q0,q1,q2,q3,q4,q5,q6,q7⟩:_∧_∧_∧_∧_∧_∧_∧_:=⟨(uH P0).at 0,(uH P0).at 1,(uH P0).at 2,(uH P0).at 3,(uH P0).at 4,(uH P0).at 5,(uH P0).at 6,(uH P0).at 7⟩
 simp at q0 q1 q2 q3 q4 q5 q6 q7
 by_cases h40:cl≤150
 case neg=>
  have hi:(150:Int)<cl:=by omega
  rw [decide_eq_false h40] at HS
  go_enter Tryz.func78,Tryz.ntmps78
  go_wp2
  go_ret
  exact ⟨yF (by rw [uH HS];simp),uH HB0⟩
 have hi:¬(150:Int)<cl:=by omega
 rw [decide_eq_true h40,Bool.true_and] at HS
 obtain ⟨W0,hW0⟩:∃W,boxW w (svc ⟨qa,ql,qc,aa,al,ac,ma,ml,mc,ca,cl,cc⟩ ⟨qs,clock,epoch,next,serial,apps,ms,cs⟩)=W:=⟨_,rfl⟩
 have hsz0:W0.heap.size=w.heap.size+1:=by rw [←hW0,boxW_size]
 go_enter Tryz.func78,Tryz.ntmps78
 go_wp2_with fail
 change Code.wp _ _ _ _ (boxW w (svc ⟨qa,ql,qc,aa,al,ac,ma,ml,mc,ca,cl,cc⟩ ⟨qs,clock,epoch,next,serial,apps,ms,cs⟩))
 rw [hW0] at HB0 q0 q1 q2 q3 q4 q5 q6 q7 ⊢
 have R:∀wx,Kp W0 wx→wx.cell? ⟨w.heap.size,0,none⟩=some (.slice qa ql qc)∧wx.cell? ⟨w.heap.size,1,none⟩=some (.int .i64 clock)∧wx.cell? ⟨w.heap.size,2,none⟩=some (.int .i64 epoch)∧wx.cell? ⟨w.heap.size,3,none⟩=some (.int .i64 next)∧wx.cell? ⟨w.heap.size,4,none⟩=some (.int .i64 serial)∧wx.cell? ⟨w.heap.size,5,none⟩=some (.slice aa al ac)∧wx.cell? ⟨w.heap.size,6,none⟩=some (.slice ma ml mc)∧wx.cell? ⟨w.heap.size,7,none⟩=some (.slice ca cl cc):=fun wx h=>
  ⟨h.cell q0,h.cell q1,h.cell q2,h.cell q3,h.cell q4,h.cell q5,h.cell q6,h.cell q7⟩
 have A0:=hide (Kp.new W0)
 have HK:=hide (kp_holds W0)
 have Q7:=hide q7
 clear q0 q1 q2 q3 q4 q5 q6 q7 P0 hW0 h40 hi
 go_cut [3,4] from 16 to 19 (fun v3 v4 wx=>∃ba bm n,v3=.map (some ba)∧v4=.map (some bm)∧W0.heap.size≤ba∧ba<bm∧Hid (∃D,wx.ownsMap Tryz.prog 160 appElem ba n D∧KnownA hs allA D)∧Hid (∃D,wx.ownsMap Tryz.prog 160 macElem bm ms.length D∧KnownM ms D)∧Kp W0 wx)
 case first=>
  go_region_held3 (fun wx=>Kp W0 wx)
   (first | (with_reducible assumption) | exact uH SA | exact (uH HK).drew (uH A0) | exact (uH HK).call (by assumption) (by assumption))
   (first
   | (go_at_call 121;refine (uH CA _ ?_).mono ?_;(exact yB (uH HB0) ((uH HK).below (by assumption)));rintro e wt ⟨ba,rfl,⟨hba,D1,hown1,hk1⟩,hb⟩;have HAP:=hide (And.intro hown1 hk1);have SZ:=(show W0.heap.size≤ba from Nat.le_trans ((uH HK).size (by assumption)) hba);have LT:=hown1.lt;have SA:=hide ((uH HK).call (by assumption) hb);clear hown1 hk1)
   | (go_at_call 122;refine (uH CM _ ?_).mono ?_;(exact yB (uH HB0) ((uH HK).below (by assumption)));rintro e wt2 ⟨bm,rfl,⟨hbm,D2,hown2,hk2⟩,hb⟩;have HMP:=hide (And.intro hown2 hk2);have HAP2:=hide (And.intro (ownsMap_below (uH HAP).1 hb) (uH HAP).2);have SA:=hide ((uH HK).call (by assumption) hb);clear hown2 hk2))
  all_goals
   go_wp2_with fail
   go_meet
   exact ⟨ba,bm,_,rfl,rfl,SZ,by omega,hide ⟨_,uH HAP2⟩,hide ⟨_,uH HMP⟩,by first | assumption | exact uH SA⟩
 case rest=>
  obtain ⟨ba,bm,n,rfl,rfl,hba,hbm,HAP,HMP,hA⟩:=hcut
  have HB1:=hide (yB (uH HB0) hA)
  have q7:=hA.cell (uH Q7)
  clear hA R A0 HK CA CM Q7
  go_wp2
  go_loopw [5,23] (fun la i wr=>∃(k:Nat) (last:Int) (l:List Mac),k≤cl∧i=.int .i64 k∧la=.int .i64 last∧l.length≤1048576+k∧Hid (o=contsFrom apps l last (cs.drop k))∧Hid (∃D,wr.ownsMap Tryz.prog 160 appElem ba n D∧KnownA hs allA D)∧Hid (∃D,wr.ownsMap Tryz.prog 160 macElem bm l.length D∧KnownM l D)∧Hid (Below w.heap.size w wr)) (fun _ i _=>cl - (intOf i).toNat)
  case atStart=>exact ⟨0,0,ms,Nat.zero_le _,rfl,rfl,by omega,hide (by rw [uH HS];simp),HAP,HMP,HB1⟩
  case round=>
   obtain ⟨k,last,l,hk,rfl,rfl,hll,HO,HA,HM,HB⟩:=hrel
   clear HAP HMP HB1 HS
   by_cases hlt:k<cl
   ·obtain ⟨b,off,rfl,hq⟩:=((uH HR).below (uH HB)).at hlt
    have hkl:k<cs.length:=by have:=uH HL;omega
    have hfc:=(uH HFC).2 _ (yM hkl)
    have hwc:=uH HWC _ (yM hkl)
    obtain ⟨c0,c1,c2,c3,c4⟩:=hq hkl
    obtain ⟨m,hm⟩:∃m,(findM cs[k].node l).getD ⟨[],0,0,0⟩=m:=⟨_,rfl⟩
    obtain ⟨th,hth⟩:∃t,(findM cs[k].node l).isSome=t:=⟨_,rfl⟩
    have hst:=contsFrom_step (apps:=apps) (l:=l) (last:=last) hkl hm hth
    have hname:th=true→m.name=cs[k].node:=fun ht=>by
     cases hf:findM cs[k].node l with
     | none=>rw [hf] at hth;subst ht;cases hth
     | some m'=>rw [hf] at hm;subst hm;exact findM_name hf
    obtain ⟨q,hs'⟩:∃q,cs[k]=q:=⟨_,rfl⟩
    rw [hs'] at c0 c1 c2 c3 c4 hst hfc hwc hm hth hname
    have HST:=hide hst
    have HNAME:=hide hname
    obtain ⟨kl,hkey⟩:=keyKey (nm:=q.node) (k:=0) (by omega) (by decide)
    have HKEY:=hide hkey
    have CO:=hide (fun wx=>onMachine_any q wx)
    have CH:=hide (fun (wx:World) (hx:∃D,wx.ownsMap Tryz.prog 160 appElem ba n D∧KnownA hs allA D)=>by obtain ⟨D,h1,h2⟩:=hx;have:=has_any ba n D hs (fun _=>true) q wx h1 h2 hwc;rw [uH HHB q] at this;exact this)
    have HLK:=hide (fun (wx:World) (hx:∃D,wx.ownsMap Tryz.prog 160 macElem bm l.length D∧KnownM l D)=>by obtain ⟨D,h1,h2⟩:=hx;have:=lookM h1 h2 hkey;rw [hm,hth] at this;exact this)
    have C1:=hide (fun wx=>something_any q.mem q.cpu wx)
    have CS:=hide (fun wx=>implSub_any m.mem m.cpu q.mem q.cpu wx)
    clear hq hs' hkl hfc hwc hst hname hkey hm hth
    obtain ⟨id,ap,nd,me,cp⟩:=q
    obtain ⟨mn,mm,mp,se⟩:=m
    simp only at c0 c1 c2 c3 c4 HST HNAME CH HLK C1 CS
    obtain ⟨sm,hsm⟩:∃r,someR me cp=r:=⟨_,rfl⟩
    obtain ⟨ha,hha⟩:∃r,(findAp ap apps).isSome=r:=⟨_,rfl⟩
    obtain ⟨lx,ly,ok,hv⟩:∃x' y' ok,bothV (-1) mm mp me cp=rv x' y'∧bothOk (-1) mm mp me cp=ok∧(ok=true→x'=mm + -1*me∧y'=mp + -1*cp):=by
     cases hb:bothOk (-1) mm mp me cp
     ·exact ⟨0,0,_,both_no hb,rfl,by simp⟩
     ·exact ⟨_,_,_,both_yes hb,rfl,fun _=>⟨rfl,rfl⟩⟩
    have HVV:=hide hv.2.2
    rw [hv.1,hv.2.1] at CS
    rw [hsm,hha,hv.2.1] at HST
    rw [hsm] at C1
    rw [hha] at CH
    have HO2:=hide ((uH HO).trans (uH HST))
    clear hsm hha hv HO HST
    have P2:=hide (yD wr #[.int .i64 id,.int .i64 ap,.string (bs nd),.int .i64 me,.int .i64 cp] 58)
    have b2:=yA (yH _ wr) (.cells #[.int .i64 id,.int .i64 ap,.string (bs nd),.int .i64 me,.int .i64 cp] 58)
    have HB2:=hide b2
    clear b2
    go_wp2_with fail
    refine (uH CO _).mono ?_
    rintro e w3 ⟨rfl,hb⟩
    have h3:wr.heap.size+1≤w3.heap.size:=by have:=hb.size;rw [yE] at this;exact this
    have HB3:=hide (yB (uH HB2) hb)
    have P3:=hide ((uH P2).below hb)
    have hlk:=uH HLK w3 (by obtain ⟨D,h1,h2⟩:=uH HM;exact ⟨D,ownsMap_below h1 (uH HB3),h2⟩)
    clear hb HB2 P2
    have HB4:=hide (yA (uH HB3) (macobj ⟨mn,mm,mp,se⟩))
    have P4:=hide ((uH P3).al (macobj ⟨mn,mm,mp,se⟩))
    have M4:=hide (yD w3 #[.string (bs mn),.int .i64 mm,.int .i64 mp,.int .i64 se] 113)
    have a3:=(uH P4).at 3
    have a4:=(uH P4).at 4
    simp at a3 a4
    go_wp2_with fail
    refine (uH CS _).mono ?_
    rintro e w5 ⟨rfl,hb⟩
    have HB6:=hide (yA (yB (uH HB4) hb) (.cells #[.int .i64 lx,.int .i64 ly] 52))
    have P6:=hide (((uH P4).below hb).al (.cells #[.int .i64 lx,.int .i64 ly] 52))
    have M6:=hide (((uH M4).below hb).al (.cells #[.int .i64 lx,.int .i64 ly] 52))
    have V6:=hide (var_new w5 52 lx ly)
    have h5:w3.heap.size+1≤w5.heap.size:=by have:=hb.size;rw [yE] at this;exact this
    have e0:=(uH P6).at 0
    have e3:=(uH P6).at 3
    have e4:=(uH P6).at 4
    simp at e0 e3 e4
    have HBW:=hide (yB (uH HB) (uH HB6))
    clear hb HB4 P4 M4 CS a3 a4 hlk c0 c1 c2 c3 c4 HLK
    by_cases h1:last<id
    case neg=>
     have h1':id≤last:=by omega
     go_wp2
     go_ret
     exact ⟨yF (by rw [uH HO2,decide_eq_false (show ¬last<id by omega)];simp),uH HBW⟩
    have h1':¬id≤last:=by omega
    by_cases h2:id≤1000000000
    case neg=>
     have h2':1000000000<id:=by omega
     go_wp2
     go_ret
     exact ⟨yF (by rw [uH HO2,decide_eq_false (show ¬id≤1000000000 by omega)];simp),uH HBW⟩
    have h2':¬1000000000<id:=by omega
    have HO3:=hide (show o=(sm&&(ha&&(th&&(ok&&contsFrom apps (⟨mn,mm + -1*me,mp + -1*cp,se⟩::l) id (cs.drop (k+1)))))) by rw [uH HO2,decide_eq_true h1,decide_eq_true h2];simp)
    clear HO2
    go_wp2_with fail
    refine (uH C1 _).mono ?_
    rintro e w7 ⟨rfl,hb⟩
    have HB7:=hide (yB (uH HB6) hb)
    have P7:=hide ((uH P6).below hb)
    have M7:=hide ((uH M6).below hb)
    have V7:=hide ((uH V6).below hb)
    have h7:w5.heap.size+1≤w7.heap.size:=by have:=hb.size;rw [yE] at this;exact this
    have f0:=(uH P7).at 0
    have f1:=(uH P7).at 1
    have f2:=(uH P7).at 2
    have f3:=(uH P7).at 3
    have f4:=(uH P7).at 4
    simp at f0 f1 f2 f3 f4
    have HBW7:=hide (yB (uH HB) (uH HB7))
    clear hb HB6 P6 M6 V6 C1 HBW e0 e3 e4
    cases sm with
    | false=>
     go_wp2
     go_ret
     exact ⟨yF (by rw [uH HO3];simp),uH HBW7⟩
    | true=>
    go_wp2_with fail
    refine (uH CH _ ?_).mono ?_
    ·obtain ⟨D,g1,g2⟩:=uH HA
     exact ⟨D,ownsMap_below g1 (uH HB7),g2⟩
    rintro e w9 ⟨rfl,hb⟩
    have HB9:=hide (yB (uH HB7) hb)
    have P9:=hide ((uH P7).below hb)
    have M9:=hide ((uH M7).below hb)
    have V9:=hide ((uH V7).below hb)
    have h9:=hb.size
    have HBW9:=hide (yB (uH HB) (uH HB9))
    clear hb HB7 P7 M7 V7 CH HBW7 f0 f1 f2 f3 f4
    cases ha with
    | false=>
     go_wp2
     go_ret
     exact ⟨yF (by rw [uH HO3];simp),uH HBW9⟩
    | true=>
    cases th with
    | false=>
     go_wp2
     go_ret
     exact ⟨yF (by rw [uH HO3];simp),uH HBW9⟩
    | true=>
    cases ok with
    | false=>
     go_wp2
     go_ret
     exact ⟨yF (by rw [uH HO3];simp),uH HBW9⟩
    | true=>
    obtain ⟨hlx,hly⟩:=uH HVV rfl
    have HO4:=hide (show o=contsFrom apps (⟨mn,lx,ly,se⟩::l) id (cs.drop (k+1)) by rw [uH HO3,hlx,hly];simp)
    have hmn2:=uH HNAME rfl
    have HKEY2:=hide (show keyOf Tryz.prog 160 (keyv mn 0)=some kl by rw [hmn2];exact uH HKEY)
    clear HO3 HVV hlx hly HNAME hmn2
    have v0:=(uH V9).c0
    have v1:=(uH V9).c1
    have m1:=(uH M9).f 1
    have m2:=(uH M9).f 2
    have m3:=(uH M9).at 1
    have m4:=(uH M9).at 2
    simp at m3 m4
    have hbmr:bm<wr.heap.size:=by obtain ⟨D,g1,_⟩:=uH HM;exact g1.lt
    have hbar:ba<wr.heap.size:=by obtain ⟨D,g1,_⟩:=uH HA;exact g1.lt
    have hw3:=(uH HB3).size
    have hww:=(uH HB).size
    obtain ⟨W10,hW10⟩:∃W,(w9.setCell ⟨w3.heap.size,1,none⟩ (.int .i64 lx)).setCell ⟨w3.heap.size,2,none⟩ (.int .i64 ly)=W:=⟨_,rfl⟩
    have hM10:Blk W10 w3.heap.size #[.string (bs mn),.int .i64 lx,.int .i64 ly,.int .i64 se] 113:=by
     rw [←hW10]
     exact heap_setCell_same _ _ 2 _ _ (.int .i64 ly) (heap_setCell_same _ _ 1 _ _ (.int .i64 lx) (uH M9))
    have hP10:Blk W10 wr.heap.size #[.int .i64 id,.int .i64 ap,.string (bs nd),.int .i64 me,.int .i64 cp] 58:=by
     rw [←hW10]
     exact ((uH P9).other _ _ _ (by omega)).other _ _ _ (by omega)
    have HB10:=hide (show Below w.heap.size w W10 by rw [←hW10];exact yC (yC (uH HBW9) _ _ _ (by omega)) _ _ _ (by omega))
    have HM10:=hide (show ∃D,W10.ownsMap Tryz.prog 160 macElem bm l.length D∧KnownM l D by
     obtain ⟨D,g1,g2⟩:=uH HM
     exact ⟨D,by rw [←hW10];exact ((ownsMap_below g1 (uH HB9)).setCell (by simp only;omega) _).setCell (by simp only;omega) _,g2⟩)
    have HA10:=hide (show ∃D,W10.ownsMap Tryz.prog 160 appElem ba n D∧KnownA hs allA D by
     obtain ⟨D,g1,g2⟩:=uH HA
     exact ⟨D,by rw [←hW10];exact ((ownsMap_below g1 (uH HB9)).setCell (by simp only;omega) _).setCell (by simp only;omega) _,g2⟩)
    have p0:=hP10.at 0
    have p1:=hP10.at 1
    have p2:=hP10.at 2
    have p3:=hP10.at 3
    have p4:=hP10.at 4
    have z0:=hM10.at 0
    have z1:=hM10.at 1
    have z2:=hM10.at 2
    have z3:=hM10.at 3
    simp at p0 p1 p2 p3 p4 z0 z1 z2 z3
    have P10:=hide hP10
    have M10:=hide hM10
    clear hP10 hM10 P9 M9 V9 HB9 HBW9 HM HA HB HB3 P3
    go_wp2_with fail
    clear hW10 v0 v1 m1 m2 m3 m4
    go_region_with (first | (go_at_call 123;refine (uH CO _).mono ?_;rintro e wz ⟨rfl,hbc⟩;have HZ:=hide (yB (yH _ W10).drew hbc);have y0:=((uH M10).below (uH HZ)).at 0;have y1:=((uH M10).below (uH HZ)).at 1;have y2:=((uH M10).below (uH HZ)).at 2;have y3:=((uH M10).below (uH HZ)).at 3;simp at y0 y1 y2 y3;obtain ⟨D,g1,g2⟩:=uH HM10;obtain ⟨w11,hrun,hown2,hgrow2⟩:=(ownsMap_below g1 (uH HZ)).update keyLaw Tryz.underlying156 (by unfold maxLen;omega) (uH HKEY) (macElem_mk ⟨mn,lx,ly,se⟩);have HFIN:=hide (And.intro hown2 (And.intro hgrow2 (KnownM.put (m:=⟨mn,lx,ly,se⟩) g2 g1.isMap (uH HKEY2))));clear hown2 hgrow2 g1 g2 hbc))
    all_goals
     obtain ⟨f1,f2,f3⟩:=uH HFIN
     have hpz:=(uH P10).below (uH HZ)
     have P11:Blk w11 wr.heap.size #[.int .i64 id,.int .i64 ap,.string (bs nd),.int .i64 me,.int .i64 cp] 58:=(f2.block _ hpz.lt (by simp;omega)).trans hpz
     have g0:=P11.at 0
     simp at g0
     have HF1:=hide f1
     have HF2:=hide f2
     have HF3:=hide f3
     clear f1 f2 f3 hpz P11
     go_wp2
     have f1:=uH HF1
     have f2:=uH HF2
     have f3:=uH HF3
     go_roundw
     case rel=>
      refine ⟨k+1,id,⟨mn,lx,ly,se⟩::l,by omega,by go_num,rfl,by simp;omega,HO4,?_,hide ⟨_,f1,f3⟩,hide ?_⟩
      ·obtain ⟨D2,a1,a2⟩:=uH HA10
       exact hide ⟨D2,(ownsMap_below a1 (uH HZ)).kept f2 (by simp;omega),a2⟩
      ·exact (yB (uH HB10) (uH HZ)).grown f2 (by have:=(uH HB10).size;have:=(uH HZ).size;omega) (fun j e=>by cases e;omega)
     case measure=>simp [intOf];omega
   ·go_wp2
    go_ret
    exact ⟨yF (by rw [uH HO,contsFrom_end (by have:=uH HL;omega)]),uH HB⟩
end
section
open Go.RowKit
def stateOkI (s:St):Bool:=queuesOk s.qs&&(numsOk s&&(appsOkV s&&(machsOkV s&&contsOkV s)))
theorem stateOkI_any (x:Sls) (s:St) (w:World) (h:SRow w x s) (hf:FitSt s) (hc:x.ql≤x.qc) (hw:WfSt s) :
  Calls Tryz.prog 29 #[sv x s] w fun e w'=>e=.returned (.bool (stateOkI s))∧Below w.heap.size w w':=by
 have hql:x.ql≤1048576:=by have:=h.len.1;have:=hf.1.1;omega
 have C1:=hide (fun wx (hb:Below w.heap.size w wx)=>implQueuesOk_any x.qa x.ql x.qc s.qs wx (h.1.below hb) hql (fun q hq=>(hf.1.2 q hq).1) hc)
 have C2:=hide (fun wx=>numbersOk_any x s wx)
 have C3:=hide (fun wx (hb:Below w.heap.size w wx)=>appsOk_any x s wx (h.below hb) hf)
 have C4:=hide (fun wx (hb:Below w.heap.size w wx)=>machinesOk_any x s wx (h.below hb) hf)
 have C5:=hide (fun wx (hb:Below w.heap.size w wx)=>contsOk_any x s wx (h.below hb) hf hw)
 obtain ⟨b1,e1⟩:∃b,queuesOk s.qs=b:=⟨_,rfl⟩
 obtain ⟨b2,e2⟩:∃b,numsOk s=b:=⟨_,rfl⟩
 obtain ⟨b3,e3⟩:∃b,appsOkV s=b:=⟨_,rfl⟩
 obtain ⟨b4,e4⟩:∃b,machsOkV s=b:=⟨_,rfl⟩
 obtain ⟨b5,e5⟩:∃b,contsOkV s=b:=⟨_,rfl⟩
 rw [show stateOkI s=(b1&&(b2&&(b3&&(b4&&b5)))) by rw [stateOkI,e1,e2,e3,e4,e5]]
 rw [e1] at C1
 rw [e2] at C2
 rw [e3] at C3
 rw [e4] at C4
 rw [e5] at C5
 clear h hf hc hw e1 e2 e3 e4 e5
 obtain ⟨qa,ql,qc,aa,al,ac,ma,ml,mc,ca,cl,cc⟩:=x
 obtain ⟨qs,clock,epoch,next,serial,apps,ms,cs⟩:=s
 simp only at C1 C2 C3 C4 C5 hql
 have HB0:=hide (boxW_below w (svc ⟨qa,ql,qc,aa,al,ac,ma,ml,mc,ca,cl,cc⟩ ⟨qs,clock,epoch,next,serial,apps,ms,cs⟩))
 have P0:=hide (boxW_blk w (svc ⟨qa,ql,qc,aa,al,ac,ma,ml,mc,ca,cl,cc⟩ ⟨qs,clock,epoch,next,serial,apps,ms,cs⟩))
 go_enter Tryz.func29,Tryz.ntmps29
 go_wp2_with fail
 refine (uH C1 _ (uH HB0)).mono ?_
 rintro e w1 ⟨rfl,hb⟩
 have HB1:=hide (yB (uH HB0) hb)
 have P1:=hide ((uH P0).below hb)
 clear hb HB0 P0 C1
 cases b1 with
 | false=>
  go_wp2
  go_ret
  exact ⟨rfl,uH HB1⟩
 | true=>
 obtain ⟨q0,q1,q2,q3,q4,q5,q6,q7⟩:_∧_∧_∧_∧_∧_∧_∧_:=⟨(uH P1).at 0,(uH P1).at 1,(uH P1).at 2,(uH P1).at 3,(uH P1).at 4,(uH P1).at 5,(uH P1).at 6,(uH P1).at 7⟩
 simp at q0 q1 q2 q3 q4 q5 q6 q7
 go_wp2_with fail
 refine (uH C2 _).mono ?_
 rintro e w2 ⟨rfl,hb⟩
 have HB2:=hide (yB (uH HB1) hb)
 have P2:=hide ((uH P1).below hb)
 clear hb HB1 P1 C2 q0 q1 q2 q3 q4 q5 q6 q7
 cases b2 with
 | false=>
  go_wp2
  go_ret
  exact ⟨rfl,uH HB2⟩
 | true=>
 obtain ⟨q0,q1,q2,q3,q4,q5,q6,q7⟩:_∧_∧_∧_∧_∧_∧_∧_:=⟨(uH P2).at 0,(uH P2).at 1,(uH P2).at 2,(uH P2).at 3,(uH P2).at 4,(uH P2).at 5,(uH P2).at 6,(uH P2).at 7⟩
 simp at q0 q1 q2 q3 q4 q5 q6 q7
 go_wp2_with fail
 refine (uH C3 _ (uH HB2)).mono ?_
 rintro e w3 ⟨rfl,hb⟩
 have HB3:=hide (yB (uH HB2) hb)
 have P3:=hide ((uH P2).below hb)
 clear hb HB2 P2 C3 q0 q1 q2 q3 q4 q5 q6 q7
 cases b3 with
 | false=>
  go_wp2
  go_ret
  exact ⟨rfl,uH HB3⟩
 | true=>
 obtain ⟨q0,q1,q2,q3,q4,q5,q6,q7⟩:_∧_∧_∧_∧_∧_∧_∧_:=⟨(uH P3).at 0,(uH P3).at 1,(uH P3).at 2,(uH P3).at 3,(uH P3).at 4,(uH P3).at 5,(uH P3).at 6,(uH P3).at 7⟩
 simp at q0 q1 q2 q3 q4 q5 q6 q7
 go_wp2_with fail
 refine (uH C4 _ (uH HB3)).mono ?_
 rintro e w4 ⟨rfl,hb⟩
 have HB4:=hide (yB (uH HB3) hb)
 have P4:=hide ((uH P3).below hb)
 clear hb HB3 P3 C4 q0 q1 q2 q3 q4 q5 q6 q7
 cases b4 with
 | false=>
  go_wp2
  go_ret
  exact ⟨rfl,uH HB4⟩
 | true=>
 obtain ⟨q0,q1,q2,q3,q4,q5,q6,q7⟩:_∧_∧_∧_∧_∧_∧_∧_:=⟨(uH P4).at 0,(uH P4).at 1,(uH P4).at 2,(uH P4).at 3,(uH P4).at 4,(uH P4).at 5,(uH P4).at 6,(uH P4).at 7⟩
 simp at q0 q1 q2 q3 q4 q5 q6 q7
 go_wp2_with fail
 refine (uH C5 _ (uH HB4)).mono ?_
 rintro e w5 ⟨rfl,hb⟩
 have HB5:=hide (yB (uH HB4) hb)
 clear hb HB4 P4 C5 q0 q1 q2 q3 q4 q5 q6 q7
 cases b5
 all_goals
  go_wp2
  go_ret
  exact ⟨rfl,uH HB5⟩
def stLenC (w:World) (p:Nat):Nat:=match w.cell? ⟨p,0,none⟩ with | some (.slice _ n _)=>n | _=>0
theorem stLenC_of {w:World} {p n c:Nat} {ao:Option Addr} (h:w.cell? ⟨p,0,none⟩=some (.slice ao n c)):stLenC w p=n:=by simp [stLenC,h]
theorem TakC.len {w:World} {g M:Nat} {l gl:List Con} (h:TakC w g M l gl):stLenC w (g+1)=l.length:=by
 obtain ⟨v,hb,_⟩:=h
 have:=hb.at 0
 simp at this
 exact stLenC_of this
theorem Lay.rowP {w:World} {g M:Nat} {l:List AV} (h:Lay w 106 g M (pcells l)):AVRow w (some ⟨g,0,none⟩) l.length l:=by
 refine ⟨rfl,.inr ⟨g,0,rfl,fun i hi=>?_⟩⟩
 obtain ⟨a,b,c⟩:=pcells_at l i hi
 unfold AVAt
 simp only [Nat.zero_add]
 exact ⟨h.cell a,h.cell b,h.cell c⟩
theorem own_mkt {B b N:Nat} {w w':World} {t t':TypeId} {sz n:Nat} {ao:Option Addr} (h:Own1 B w.heap.size w t sz ao n) (hm:Mks (fun k=>k=b) w w') (hc:Cel w t' b N) (ht:t'≠t):(∀k,inR ao n k→¬(k=b))∧Own1 B w'.heap.size w' t sz ao n:=by
 refine ⟨fun k hk e=>?_,(h.mks hm).mono (yJ _) hm.size⟩
 obtain ⟨_,_,N',h2⟩:=h.lies k hk
 subst e
 exact ht (hc.type h2)
theorem QHas.mkt {B b n:Nat} {w w':World} {ao:Option Addr} {l:List Q} {arr:Array Value} (h:QHas B w ao n l) (hm:Mks (fun k=>k=b) w w') (hc:Blk w b arr 36):QHas B w' ao n l:=
 ⟨h.1.mks hm (own_mkt h.2 hm ⟨_,hc,rfl⟩ (by decide)).1,(own_mkt h.2 hm ⟨_,hc,rfl⟩ (by decide)).2⟩
theorem MHas.mkt {B b n:Nat} {w w':World} {ao:Option Addr} {l:List Mac} {arr:Array Value} (h:MHas B w ao n l) (hm:Mks (fun k=>k=b) w w') (hc:Blk w b arr 36):MHas B w' ao n l:=
 ⟨h.1.mks hm (own_mkt h.2 hm ⟨_,hc,rfl⟩ (by decide)).1,(own_mkt h.2 hm ⟨_,hc,rfl⟩ (by decide)).2⟩
theorem CHas.mkt {B b n:Nat} {w w':World} {ao:Option Addr} {l:List Con} {arr:Array Value} (h:CHas B w ao n l) (hm:Mks (fun k=>k=b) w w') (hc:Blk w b arr 36):CHas B w' ao n l:=
 ⟨h.1.mks hm (own_mkt h.2 hm ⟨_,hc,rfl⟩ (by decide)).1,(own_mkt h.2 hm ⟨_,hc,rfl⟩ (by decide)).2⟩
theorem PHas.mkt {B b n:Nat} {w w':World} {ao:Option Addr} {l:List AV} {arr:Array Value} (h:PHas B w ao n l) (hm:Mks (fun k=>k=b) w w') (hc:Blk w b arr 36):PHas B w' ao n l:=
 ⟨h.1.mks hm (own_mkt h.2 hm ⟨_,hc,rfl⟩ (by decide)).1,(own_mkt h.2 hm ⟨_,hc,rfl⟩ (by decide)).2⟩
theorem KHas.mkt {B b:Nat} {w w':World} {hs:List AV} {l:List Appl} {arr:Array Value} (h:KHas B w hs l) (hm:Mks (fun k=>k=b) w w') (hc:Blk w b arr 36):KHas B w' hs l:=
 ⟨⟨h.heads.1,fun i h1 h2=>let ⟨a,b',c,d⟩:=h.heads.2 i h1 h2;⟨a,b',c.mks hm (own_mkt (h.own _ (yM h1)) hm ⟨_,hc,rfl⟩ (by decide)).1,d⟩⟩,fun v hv=>(own_mkt (h.own v hv) hm ⟨_,hc,rfl⟩ (by decide)).2,h.apart⟩
theorem QHas.base {B B' n:Nat} {w:World} {ao:Option Addr} {l:List Q} (h:QHas B w ao n l) (hb:B'≤B):QHas B' w ao n l:=⟨h.1,h.2.mono hb (yJ _)⟩
theorem MHas.base {B B' n:Nat} {w:World} {ao:Option Addr} {l:List Mac} (h:MHas B w ao n l) (hb:B'≤B):MHas B' w ao n l:=⟨h.1,h.2.mono hb (yJ _)⟩
theorem PHas.base {B B' n:Nat} {w:World} {ao:Option Addr} {l:List AV} (h:PHas B w ao n l) (hb:B'≤B):PHas B' w ao n l:=⟨h.1,h.2.mono hb (yJ _)⟩
theorem KHas.base {B B':Nat} {w:World} {hs:List AV} {l:List Appl} (h:KHas B w hs l) (hb:B'≤B):KHas B' w hs l:=⟨h.heads,fun v hv=>(h.own v hv).mono hb (yJ _),h.apart⟩
theorem heads_nil (w:World):Heads w [] []:=⟨rfl,fun i h=>absurd h (by simp)⟩
theorem heads_cons {w:World} {v:AV} {t:List AV} {a:Appl} {s:List Appl} (h:Heads w (v::t) (a::s)):(v.id=a.id∧v.queue=a.queue∧AskRow w v.ao v.len a.asks∧v.len≤v.cap)∧Heads w t s:=
 ⟨h.2 0 (by simp) (by simp),by simpa using h.1,fun i h1 h2=>by have:=h.2 (i+1) (by simpa using h1) (by simpa using h2);simpa using this⟩
theorem heads_put {w:World} {v:AV} {t:List AV} {a:Appl} {s:List Appl} (h:v.id=a.id∧v.queue=a.queue∧AskRow w v.ao v.len a.asks∧v.len≤v.cap) (h':Heads w t s):Heads w (v::t) (a::s):=
 ⟨by simp [h'.1],fun i h1 h2=>by
  cases i with
  | zero=>exact h
  | succ i=>exact h'.2 i (by simpa using h1) (by simpa using h2)⟩
theorem heads_filter {w:World} (f:Int→Bool):∀(hs:List AV) (l:List Appl),Heads w hs l→Heads w (hs.filter (fun v=>f v.id)) (l.filter (fun a=>f a.id))
 | [],[],_=>heads_nil w
 | [],a::s,h=>absurd h.1 (by simp)
 | v::t,[],h=>absurd h.1 (by simp)
 | v::t,a::s,h=>by
  obtain ⟨h1,h2⟩:=heads_cons h
  have ih:=heads_filter f t s h2
  cases hf:f a.id with
  | true=>rw [List.filter_cons_of_pos (by simpa [h1.1] using hf),List.filter_cons_of_pos (by simpa using hf)];exact heads_put h1 ih
  | false=>rw [List.filter_cons_of_neg (by simp [h1.1,hf]),List.filter_cons_of_neg (by simp [hf])];exact ih
theorem KHas.filter {B:Nat} {w:World} {hs:List AV} {l:List Appl} (h:KHas B w hs l) (f:Int→Bool):KHas B w (hs.filter (fun v=>f v.id)) (l.filter (fun a=>f a.id)):=
 ⟨heads_filter f hs l h.heads,fun v hv=>h.own v (List.mem_filter.1 hv).1,h.apart.filter _⟩
structure SHas (B:Nat) (w:World) (x:Sls) (s:St) (hs:List AV):Prop where
 q:QHas B w x.qa x.ql s.qs
 p:PHas B w x.aa x.al hs
 k:KHas B w hs s.apps
 m:MHas B w x.ma x.ml s.ms
 c:CHas B w x.ca x.cl s.cs
 cap:SCap x
 rm:RmS B w.heap.size w x hs
theorem SHas.below {B:Nat} {w w':World} {x:Sls} {s:St} {hs:List AV} (h:SHas B w x s hs) (hb:Below w.heap.size w w'):SHas B w' x s hs:=⟨h.q.below hb,h.p.below hb,h.k.below hb,h.m.below hb,h.c.below hb,h.cap,(h.rm.below hb).mono (yJ _) hb.size⟩
theorem SHas.mkt {B b:Nat} {w w':World} {x:Sls} {s:St} {hs:List AV} {arr:Array Value} (h:SHas B w x s hs) (hm:Mks (fun k=>k=b) w w') (hc:Blk w b arr 36):SHas B w' x s hs:=⟨h.q.mkt hm hc,h.p.mkt hm hc,h.k.mkt hm hc,h.m.mkt hm hc,h.c.mkt hm hc,h.cap,(h.rm.mks hm).mono (yJ _) hm.size⟩
theorem SHas.base {B B':Nat} {w:World} {x:Sls} {s:St} {hs:List AV} (h:SHas B w x s hs) (hb:B'≤B):SHas B' w x s hs:=⟨h.q.base hb,h.p.base hb,h.k.base hb,h.m.base hb,h.c.base hb,h.cap,h.rm.mono hb (yJ _)⟩
theorem SHas.ans {B:Nat} {w:World} {x:Sls} {s:St} {hs:List AV} (h:SHas B w x s hs):SAns B w.heap.size w x s hs:=sans_of h.q h.p h.k h.m h.c h.cap h.rm
theorem SAns.has {B E:Nat} {w:World} {x:Sls} {s:St} {hs:List AV} (h:SAns B E w x s hs) (hE:E≤w.heap.size):SHas B w x s hs:=
 ⟨⟨h.row.1,h.q.mono (yJ _) hE⟩,⟨h.av,h.a.mono (yJ _) hE⟩,⟨h.heads,fun v hv=>(h.asks v hv).mono (yJ _) hE,h.apart⟩,⟨h.row.2.2.1,h.m.mono (yJ _) hE⟩,⟨h.row.2.2.2,h.c.mono (yJ _) hE⟩,h.cap,h.rm.mono (yJ _) hE⟩
theorem blk_row {w:World} {b:Nat} {old:Array Value} {t:TypeId} (h:Blk w b old t) (arr:Array Value):Blk (w.setRow b arr) b arr t:=setRow_heap w b old arr t (0,0) h
theorem mks_row {w:World} {b:Nat} {old:Array Value} {t:TypeId} (h:Blk w b old t) (arr:Array Value) (hs:arr.size=old.size):Mks (fun k=>k=b) w (w.setRow b arr):=by
 refine ⟨rfl,rfl,rfl,by rw [setRow_size];exact yJ _,fun k _ hk=>setRow_other w b k arr hk,fun t' g N hc=>?_⟩
 by_cases e:g=b
 ·subst e
  obtain ⟨c,h1,h2⟩:=hc
  rw [h] at h1
  cases h1
  exact ⟨arr,blk_row h arr,by omega⟩
 ·exact hc.of_block (setRow_other w b g arr e)
theorem own_mkc {B:Nat} {S:Nat→Prop} {w w':World} {t t':TypeId} {sz n:Nat} {ao:Option Addr} (h:Own1 B w.heap.size w t sz ao n) (hm:Mks S w w') (hS:∀k,S k→∃N,Cel w t' k N) (ht:t'≠t):(∀k,inR ao n k→¬S k)∧Own1 B w'.heap.size w' t sz ao n:=by
 refine ⟨fun k hk e=>?_,(h.mks hm).mono (yJ _) hm.size⟩
 obtain ⟨_,_,N',h2⟩:=h.lies k hk
 obtain ⟨N,h3⟩:=hS k e
 exact ht (h3.type h2)
section
variable {B:Nat} {S:Nat→Prop} {w w':World}
theorem QHas.mkc {n:Nat} {ao:Option Addr} {l:List Q} (h:QHas B w ao n l) (hm:Mks S w w') (hS:∀k,S k→∃N,Cel w 106 k N):QHas B w' ao n l:=
 ⟨h.1.mks hm (own_mkc h.2 hm hS (by decide)).1,(own_mkc h.2 hm hS (by decide)).2⟩
theorem MHas.mkc {n:Nat} {ao:Option Addr} {l:List Mac} (h:MHas B w ao n l) (hm:Mks S w w') (hS:∀k,S k→∃N,Cel w 106 k N):MHas B w' ao n l:=
 ⟨h.1.mks hm (own_mkc h.2 hm hS (by decide)).1,(own_mkc h.2 hm hS (by decide)).2⟩
theorem CHas.mkc {n:Nat} {ao:Option Addr} {l:List Con} (h:CHas B w ao n l) (hm:Mks S w w') (hS:∀k,S k→∃N,Cel w 106 k N):CHas B w' ao n l:=
 ⟨h.1.mks hm (own_mkc h.2 hm hS (by decide)).1,(own_mkc h.2 hm hS (by decide)).2⟩
theorem KHas.mkc {hs:List AV} {l:List Appl} (h:KHas B w hs l) (hm:Mks S w w') (hS:∀k,S k→∃N,Cel w 106 k N):KHas B w' hs l:=
 ⟨⟨h.heads.1,fun i h1 h2=>let ⟨a,b',c,d⟩:=h.heads.2 i h1 h2;⟨a,b',c.mks hm (own_mkc (h.own _ (yM h1)) hm hS (by decide)).1,d⟩⟩,fun v hv=>(own_mkc (h.own v hv) hm hS (by decide)).2,h.apart⟩
end
theorem Own1.le {B E:Nat} {w:World} {t:TypeId} {sz n m:Nat} {ao:Option Addr} (h:Own1 B E w t sz ao n) (hm:m≤n):Own1 B E w t sz ao m:=by
 rcases h with h | ⟨g,M,h1,h2,h3,h4,h5⟩
 ·exact .inl (by omega)
 ·exact .inr ⟨g,M,h1,h2,h3,h4,by omega⟩
theorem SHas.add {B g cap:Nat} {w w':World} {x:Sls} {s:St} {hs:List AV} (h:SHas B w x s hs) (hB:B≤w.heap.size) (app nx:Int) (qu:List UInt8)
  (ha:AppR B w 106 3 x.aa (x.al+1) (pcells hs++pcell ⟨app,qu,none,0,0⟩) g cap w') :
  SHas B w' ⟨x.qa,x.ql,x.qc,some ⟨g,0,none⟩,x.al+1,cap,x.ma,x.ml,x.mc,x.ca,x.cl,x.cc⟩ ⟨s.qs,s.clock,s.epoch,nx,s.serial,s.apps++[⟨app,qu,[]⟩],s.ms,s.cs⟩ (hs++[⟨app,qu,none,0,0⟩]):=by
 have hS:∀k,(∃N,Cel w 106 k N∧B≤k)→∃N,Cel w 106 k N:=fun k hk=>let ⟨N,a,_⟩:=hk;⟨N,a⟩
 have hal:x.al=hs.length:=h.p.1.1
 have hrm:=(h.rm.mks ha.mks).mono (yJ B) ha.mks.size
 have hk:=h.k.mkc ha.mks hS
 refine ⟨h.q.mkc ha.mks hS,⟨?_,ha.own.le ha.cap⟩,?_,h.m.mkc ha.mks hS,h.c.mkc ha.mks hS,⟨h.cap.q,ha.cap,h.cap.m,h.cap.c⟩,⟨hrm.1,ha.own,hrm.2.2.1,hrm.2.2.2.1,fun v hv=>?_⟩⟩
 ·rcases ha.own with e | ⟨g',M,e,_,_,hc,hM⟩
  ·have:=ha.cap;omega
  ·cases e
   have hl:(pcells (hs++[⟨app,qu,none,0,0⟩])).length≤M*3:=by
    rw [pcells_len,List.length_append]
    exact Nat.mul_le_mul_right _ (by have:=ha.cap;simp;omega)
   have:=(lay_of hc (cs:=pcells (hs++[⟨app,qu,none,0,0⟩])) (by rw [pcells_app];exact ha.cells) hl).rowP
   rw [List.length_append] at this
   rw [hal]
   exact this
 ·exact hk.snoc (yH _ _) (Nat.le_trans hB ha.mks.size) app qu none 0 [] (yJ _) ⟨rfl,.inl rfl⟩ (.inl rfl)
 ·rcases List.mem_append.1 hv with hv | hv
  ·exact hrm.2.2.2.2 v hv
  ·obtain rfl:=List.mem_singleton.1 hv
   exact .inl rfl
def CRm (B:Nat) (w:World) (ao:Option Addr) (n cap:Nat) (l:List Con):Prop:=ConRow w ao n l∧Room1 B w 58 5 ao n cap
theorem CRm.cells {B g n cap:Nat} {w:World} {l:List Con} (h:CRm B w (some ⟨g,0,none⟩) n cap l) (h0:0<cap):∃M,B≤g∧Lay w 58 g (M*5) (ccells l)∧cap≤M∧n=l.length∧n≤cap:=by
 obtain ⟨h1,h2,h4⟩:=h
 rcases h4 with e | ⟨g',M,e,hB,hc,hM⟩
 ·omega
 ·cases e
  have hl:=h1.1
  exact ⟨M,hB,lay_of hc (fun j u hj=>by have:=ccells_row h1 j u hj;rwa [Nat.zero_add] at this) (by rw [ccells_len,←hl];exact Nat.mul_le_mul_right _ (by omega)),hM,hl,h2⟩
end
end Go.Proofs.YtokabeokclpljaaGreat
