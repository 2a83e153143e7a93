/-
  Texts in one: OkD, OkE.
-/
import Derived.Test.YtjkfappkpopbdaaGreatSackS
set_option maxRecDepth 100000
set_option maxHeartbeats 16000000
set_option linter.unusedVariables false
set_option linter.unusedSimpArgs false
namespace Go.Proofs.YtjkfappkpopbdaaGreat
section
open Go.RowKit
def leT (a b:List UInt8):Bool:=Op.bytesLess (bs a).toList (bs b).toList||((bs a).toList==(bs b).toList)
def machsFrom (ck:Int):List UInt8→List Mac→Bool
 | _,[]=>true
 | last,m::t=>!leT m.name last&&(nameOk m.name&&(decide (0≤m.seen)&&(decide (m.seen≤ck)&&machsFrom ck m.name t)))
def machsOkV (s:St):Bool:=decide (s.ms.length≤20)&&(machsFrom s.clock [] s.ms&&(sumR (capsOf s.ms)).2.2)
theorem machsFrom_step {ck:Int} {last:List UInt8} {l:List Mac} {k:Nat} (h:k<l.length):machsFrom ck last (l.drop k)=(!leT l[k].name last&&(nameOk l[k].name&&(decide (0≤l[k].seen)&&(decide (l[k].seen≤ck)&&machsFrom ck l[k].name (l.drop (k+1)))))):=by
 rw [List.drop_eq_getElem_cons h,machsFrom]
theorem machsFrom_end {ck:Int} {last:List UInt8} {l:List Mac} {k:Nat} (h:l.length≤k):machsFrom ck last (l.drop k)=true:=by
 rw [List.drop_of_length_le h];rfl
theorem machinesOk_any (x:Sls) (s:St) (w:World) (h:SRow w x s) (hf:FitSt s) :
  Calls Tryz.prog 188 #[sv x s] w fun e w'=>e=.returned (.bool (machsOkV s))∧Below w.heap.size w w':=by
 have hml:x.ml≤1048576:=by have:=h.len.2.2.1;have:=hf.2.2.1.1;omega
 have HR:=hide h.2.2.1
 have HL:=hide h.2.2.1.1
 have HFM:=hide hf.2.2.1
 obtain ⟨⟨cx,cy,co⟩,hco⟩:∃r,sumR (capsOf s.ms)=r:=⟨_,rfl⟩
 have CC:=hide (fun wx (hb:Below w.heap.size w wx)=>by have:=caps_any x s wx (h.2.2.1.below hb) hml;rw [hco] at this;exact this)
 have HS:=hide (show machsOkV s=(decide (x.ml≤20)&&(machsFrom s.clock [] s.ms&&co)) by rw [machsOkV,←h.2.2.1.1,hco])
 obtain ⟨o,ho⟩:∃o,machsOkV s=o:=⟨_,rfl⟩
 rw [ho] at HS ⊢
 clear h hf ho hco
 have hb0:=yA (yH _ w) (.cells (svc x s) 37)
 have P0:=hide (yD w (svc x s) 37)
 obtain ⟨qa,ql,qc,aa,al,ac,ma,ml,mc,ca,cl,cc⟩:=x
 obtain ⟨qs,clock,epoch,next,serial,apps,ms,cs⟩:=s
 simp only at hml HR HL HFM CC HS P0 hb0
 have HB0:=hide hb0
 clear hb0
 by_cases h40:ml≤20
 case neg=>
  have hi:(20:Int)<ml:=by omega
  rw [decide_eq_false h40] at HS
  go_enter Tryz.func188,Tryz.ntmps188
  go_wp2
  go_ret
  exact ⟨yF (by rw [uH HS];simp),uH HB0⟩
 have hi:¬(20:Int)<ml:=by omega
 rw [decide_eq_true h40,Bool.true_and] at HS
 clear h40
 go_enter Tryz.func188,Tryz.ntmps188
 go_wp2
 go_loopw [3,15] (fun la i wr=>∃(k:Nat) (last:List UInt8),k≤ml∧i=.int .i64 k∧la=.string (bs last)∧Hid (o=(machsFrom clock last (ms.drop k)&&co))∧Hid (Blk wr w.heap.size (svc ⟨qa,ql,qc,aa,al,ac,ma,ml,mc,ca,cl,cc⟩ ⟨qs,clock,epoch,next,serial,apps,ms,cs⟩) 37)∧Hid (Below w.heap.size w wr)) (fun _ i _=>ml - (intOf i).toNat)
 case atStart=>exact ⟨0,[],Nat.zero_le _,rfl,rfl,hide (by rw [uH HS];simp),P0,HB0⟩
 case round=>
  obtain ⟨k,last,hk,rfl,rfl,HO,P1,HB⟩:=hrel
  clear P0 HB0 HS
  by_cases hlt:k<ml
  ·obtain ⟨b,off,rfl,hq⟩:=((uH HR).below (uH HB)).at hlt
   have hkl:k<ms.length:=by have:=uH HL;omega
   have hst:=hide (machsFrom_step (ck:=clock) (last:=last) (l:=ms) (k:=k) hkl)
   have hfa:=(uH HFM).2 _ (yM hkl)
   obtain ⟨c0,c1,c2,c3⟩:=hq hkl
   obtain ⟨⟨nm,me,cp,se⟩,hs⟩:∃s,ms[k]=s:=⟨_,rfl⟩
   rw [hs] at c0 c1 c2 c3 hst hfa
   simp only at c0 c1 c2 c3 hst hfa
   obtain ⟨no,hno⟩:∃b,nameOk nm=b:=⟨_,rfl⟩
   have C1:=hide (fun wx=>by have:=implNameOk_any (bs nm) wx (by rw [bs_size];exact hfa);rw [show nameOk (bs nm).data.toList=no by rw [←hno];simp [bs]] at this;exact this)
   obtain ⟨l1,hl1⟩:∃b,Op.bytesLess (bs nm).toList (bs last).toList=b:=⟨_,rfl⟩
   obtain ⟨l2,hl2⟩:∃b,((bs nm).toList==(bs last).toList)=b:=⟨_,rfl⟩
   have hst2:=hide (show machsFrom clock last (ms.drop k)=(!(l1||l2)&&(no&&(decide (0≤se)&&(decide (se≤clock)&&machsFrom clock nm (ms.drop (k+1)))))) by rw [uH hst,leT,hl1,hl2,hno])
   have hb2:=yA (yH _ wr) (.cells #[.string (bs nm),.int .i64 me,.int .i64 cp,.int .i64 se] 147)
   have P2:=hide ((uH P1).below hb2)
   have HB2:=hide (yB (uH HB) hb2)
   have p1:=(uH P2).at 1
   simp at p1
   clear hq hs hkl hfa hb2 hno hst CC
   cases l1<;>cases l2
   case false.false=>
    go_wp2_with fail
    refine (uH C1 _).mono ?_
    rintro e w1 ⟨rfl,rfl⟩
    cases no with
    | false=>
     go_wp2
     go_ret
     exact ⟨yF (by rw [uH HO,uH hst2];simp),uH HB2⟩
    | true=>
    by_cases h1:0≤se
    case neg=>
     have h1':se<0:=by omega
     go_wp2
     go_ret
     exact ⟨yF (by rw [uH HO,uH hst2,decide_eq_false (show ¬0≤se by omega)];simp),uH HB2⟩
    by_cases h2:se≤clock
    case neg=>
     have h1':¬se<0:=by omega
     have h2':clock<se:=by omega
     go_wp2
     go_ret
     exact ⟨yF (by rw [uH HO,uH hst2,decide_eq_false (show ¬se≤clock by omega)];simp),uH HB2⟩
    have h1':¬se<0:=by omega
    have h2':¬clock<se:=by omega
    have HO2:=hide (show o=(machsFrom clock nm (ms.drop (k+1))&&co) by rw [uH HO,uH hst2,decide_eq_true h1,decide_eq_true h2];simp)
    go_wp2
    go_roundw
    case rel=>exact ⟨k+1,nm,by omega,by go_num,rfl,HO2,P2,HB2⟩
    case measure=>simp [intOf];omega
   all_goals
    go_wp2
    go_ret
    exact ⟨yF (by rw [uH HO,uH hst2];simp),uH HB2⟩
  ·have HO2:=hide (show o=co by rw [uH HO,machsFrom_end (by have:=uH HL;omega)];simp)
   have p0:=(uH P1).at 0;have p1:=(uH P1).at 1;have p2:=(uH P1).at 2;have p3:=(uH P1).at 3
   have p4:=(uH P1).at 4;have p5:=(uH P1).at 5;have p6:=(uH P1).at 6;have p7:=(uH P1).at 7
   simp at p0 p1 p2 p3 p4 p5 p6 p7
   go_wp2_with fail
   refine (uH CC _ (uH HB)).mono ?_
   rintro e w1 ⟨rfl,hb⟩
   have HB2:=hide (yA (yB (uH HB) hb) (.cells #[.int .i64 cx,.int .i64 cy] 145))
   clear hb CC
   go_wp2
   go_ret
   exact ⟨yF (by rw [uH HO2]),uH HB2⟩
end
section
open Go.RowKit Go.Maps
def contsFrom (apps:List Appl):List Mac→Int→List Con→Bool
 | _,_,[]=>true
 | l,last,c::t=>decide (last<c.id)&&(decide (c.id≤1000000000)&&(someR c.mem c.cpu&&((findAp c.app apps).isSome&&((findM c.node l).isSome&&(bothOk (-1) ((findM c.node l).getD ⟨[],0,0,0⟩).mem ((findM c.node l).getD ⟨[],0,0,0⟩).cpu c.mem c.cpu
   && contsFrom apps (⟨((findM c.node l).getD ⟨[],0,0,0⟩).name,((findM c.node l).getD ⟨[],0,0,0⟩).mem + -1*c.mem,((findM c.node l).getD ⟨[],0,0,0⟩).cpu + -1*c.cpu,((findM c.node l).getD ⟨[],0,0,0⟩).seen⟩::l) c.id t)))))
def contsOkV (s:St):Bool:=decide (s.cs.length≤150)&&contsFrom s.apps s.ms 0 s.cs
theorem contsFrom_end {apps:List Appl} {l:List Mac} {last:Int} {cs:List Con} {k:Nat} (h:cs.length≤k):contsFrom apps l last (cs.drop k)=true:=by
 rw [List.drop_of_length_le h];rfl
theorem contsFrom_step {apps:List Appl} {l:List Mac} {last:Int} {cs:List Con} {k:Nat} (h:k<cs.length) {m:Mac} {b:Bool} (hm:(findM cs[k].node l).getD ⟨[],0,0,0⟩=m) (hb:(findM cs[k].node l).isSome=b) :
  contsFrom apps l last (cs.drop k)=(decide (last<cs[k].id)&&(decide (cs[k].id≤1000000000)&&(someR cs[k].mem cs[k].cpu&&((findAp cs[k].app apps).isSome&&(b&&(bothOk (-1) m.mem m.cpu cs[k].mem cs[k].cpu
   && contsFrom apps (⟨m.name,m.mem + -1*cs[k].mem,m.cpu + -1*cs[k].cpu,m.seen⟩::l) cs[k].id (cs.drop (k+1)))))))):=by
 rw [List.drop_eq_getElem_cons h,contsFrom,hm,hb]
theorem findM_name {nm:List UInt8} {l:List Mac} {m:Mac} (h:findM nm l=some m):m.name=nm:=by simpa using List.find?_some h
theorem hasB_find {s:List Appl} {hs:List AV} {w:World} (hh:Heads w hs s) (q:Con):hasB hs (fun _=>true) q=(findAp q.app s).isSome:=by
 have:=heads_find (id:=q.app) hh.1 (fun i h h'=>⟨(hh.2 i h h').1,(hh.2 i h h').2.1⟩)
 rw [hasB]
 cases h1:findA q.app hs<;>cases h2:findAp q.app s<;>rw [h1,h2] at this<;>simp [optB] at this ⊢
theorem onMachine_any (q:Con) (w:World) :
  Calls Tryz.prog 207 #[conv q] w fun e w'=>e=.returned (keyv q.node 0)∧Below w.heap.size w w':=by
 obtain ⟨id,ap,nd,me,cp⟩:=q
 go_enter Tryz.func207,Tryz.ntmps207
 go_wp2
 refine bodyPost_ret (v:=keyv nd 0) (by simp [results,Tryz.results207,go_sem];try rfl) rfl ⟨rfl,?_⟩
 repeat (first | exact yH _ _ | refine yA ?_ _ | refine Below.drew ?_ | refine yC ?_ _ _ _ (by omega))
theorem contsOk_any (x:Sls) (s:St) (w:World) (h:SRow w x s) (hf:FitSt s) (hw:WfSt s) :
  Calls Tryz.prog 189 #[sv x s] w fun e w'=>e=.returned (.bool (contsOkV s))∧Below w.heap.size w w':=by
 have hal:x.al≤1048576:=by have:=h.len.2.1;have:=hf.2.1.1;omega
 have hml:x.ml≤1048576:=by have:=h.len.2.2.1;have:=hf.2.2.1.1;omega
 have hcl:x.cl≤1048576:=by have:=h.len.2.2.2;have:=hf.2.2.2.1;omega
 have HR:=hide h.2.2.2
 have HL:=hide h.2.2.2.1
 have HFC:=hide hf.2.2.2
 have HWC:=hide hw.2
 have hmn:s.ms.length≤1048576:=by have:=h.2.2.1.1;omega
 obtain ⟨hs,hav,hhd⟩:=h.2.1.heads
 have HHB:=hide (fun q=>hasB_find hhd q)
 have CA:=hide (fun wx (hb:Below w.heap.size w wx)=>apps_ex x s hs wx (hav.below hb) hal (heads_wf hhd hw.1))
 have CM:=hide (fun wx (hb:Below w.heap.size w wx)=>machines_ex x s wx (h.2.2.1.below hb) hml (fun m hm=>hf.2.2.1.2 m hm))
 have HS:=hide (show contsOkV s=(decide (x.cl≤150)&&contsFrom s.apps s.ms 0 s.cs) by rw [contsOkV,←h.2.2.2.1])
 obtain ⟨o,ho⟩:∃o,contsOkV s=o:=⟨_,rfl⟩
 rw [ho] at HS ⊢
 clear h hf hw ho hav hhd
 obtain ⟨qa,ql,qc,aa,al,ac,ma,ml,mc,ca,cl,cc⟩:=x
 obtain ⟨qs,clock,epoch,next,serial,apps,ms,cs⟩:=s
 simp only at hal hml hcl HR HL HFC HWC hmn CA CM HS HHB
 have HB0:=hide (boxW_below w (svc ⟨qa,ql,qc,aa,al,ac,ma,ml,mc,ca,cl,cc⟩ ⟨qs,clock,epoch,next,serial,apps,ms,cs⟩))
 have P0:=hide (boxW_blk w (svc ⟨qa,ql,qc,aa,al,ac,ma,ml,mc,ca,cl,cc⟩ ⟨qs,clock,epoch,next,serial,apps,ms,cs⟩))
 obtain ⟨q0,q1,q2,q3,q4,q5,q6,q7⟩:_∧_∧_∧_∧_∧_∧_∧_:=⟨(uH P0).at 0,(uH P0).at 1,(uH P0).at 2,(uH P0).at 3,(uH P0).at 4,(uH P0).at 5,(uH P0).at 6,(uH P0).at 7⟩
 simp at q0 q1 q2 q3 q4 q5 q6 q7
 by_cases h40:cl≤150
 case neg=>
  have hi:(150:Int)<cl:=by omega
  rw [decide_eq_false h40] at HS
  go_enter Tryz.func189,Tryz.ntmps189
  go_wp2
  go_ret
  exact ⟨yF (by rw [uH HS];simp),uH HB0⟩
 have hi:¬(150:Int)<cl:=by omega
 rw [decide_eq_true h40,Bool.true_and] at HS
 obtain ⟨W0,hW0⟩:∃W,boxW w (svc ⟨qa,ql,qc,aa,al,ac,ma,ml,mc,ca,cl,cc⟩ ⟨qs,clock,epoch,next,serial,apps,ms,cs⟩)=W:=⟨_,rfl⟩
 have hsz0:W0.heap.size=w.heap.size+1:=by rw [←hW0,boxW_size]
 go_enter Tryz.func189,Tryz.ntmps189
 go_wp2_with fail
 change Code.wp _ _ _ _ (boxW w (svc ⟨qa,ql,qc,aa,al,ac,ma,ml,mc,ca,cl,cc⟩ ⟨qs,clock,epoch,next,serial,apps,ms,cs⟩))
 rw [hW0] at HB0 q0 q1 q2 q3 q4 q5 q6 q7 ⊢
 have R:∀wx,Kp W0 wx→wx.cell? ⟨w.heap.size,0,none⟩=some (.slice qa ql qc)∧wx.cell? ⟨w.heap.size,1,none⟩=some (.int .i64 clock)∧wx.cell? ⟨w.heap.size,2,none⟩=some (.int .i64 epoch)∧wx.cell? ⟨w.heap.size,3,none⟩=some (.int .i64 next)∧wx.cell? ⟨w.heap.size,4,none⟩=some (.int .i64 serial)∧wx.cell? ⟨w.heap.size,5,none⟩=some (.slice aa al ac)∧wx.cell? ⟨w.heap.size,6,none⟩=some (.slice ma ml mc)∧wx.cell? ⟨w.heap.size,7,none⟩=some (.slice ca cl cc):=fun wx h=>
  ⟨h.cell q0,h.cell q1,h.cell q2,h.cell q3,h.cell q4,h.cell q5,h.cell q6,h.cell q7⟩
 have A0:=hide (Kp.new W0)
 have HK:=hide (kp_holds W0)
 have Q7:=hide q7
 clear q0 q1 q2 q3 q4 q5 q6 q7 P0 hW0 h40 hi
 go_cut [3,4] from 16 to 19 (fun v3 v4 wx=>∃ba bm n,v3=.map (some ba)∧v4=.map (some bm)∧W0.heap.size≤ba∧ba<bm∧Hid (∃D,wx.ownsMap Tryz.prog 259 appElem ba n D∧KnownA hs allA D)∧Hid (∃D,wx.ownsMap Tryz.prog 259 macElem bm ms.length D∧KnownM ms D)∧Kp W0 wx)
 case first=>
  go_region_held3 (fun wx=>Kp W0 wx)
   (first | (with_reducible assumption) | exact uH SA | exact (uH HK).drew (uH A0) | exact (uH HK).call (by assumption) (by assumption))
   (first
   | (go_at_call 205;refine (uH CA _ ?_).mono ?_;(exact yB (uH HB0) ((uH HK).below (by assumption)));rintro e wt ⟨ba,rfl,⟨hba,D1,hown1,hk1⟩,hb⟩;have HAP:=hide (And.intro hown1 hk1);have SZ:=(show W0.heap.size≤ba from Nat.le_trans ((uH HK).size (by assumption)) hba);have LT:=hown1.lt;have SA:=hide ((uH HK).call (by assumption) hb);clear hown1 hk1)
   | (go_at_call 206;refine (uH CM _ ?_).mono ?_;(exact yB (uH HB0) ((uH HK).below (by assumption)));rintro e wt2 ⟨bm,rfl,⟨hbm,D2,hown2,hk2⟩,hb⟩;have HMP:=hide (And.intro hown2 hk2);have HAP2:=hide (And.intro (ownsMap_below (uH HAP).1 hb) (uH HAP).2);have SA:=hide ((uH HK).call (by assumption) hb);clear hown2 hk2))
  all_goals
   go_wp2_with fail
   go_meet
   exact ⟨ba,bm,_,rfl,rfl,SZ,by omega,hide ⟨_,uH HAP2⟩,hide ⟨_,uH HMP⟩,by first | assumption | exact uH SA⟩
 case rest=>
  obtain ⟨ba,bm,n,rfl,rfl,hba,hbm,HAP,HMP,hA⟩:=hcut
  have HB1:=hide (yB (uH HB0) hA)
  have q7:=hA.cell (uH Q7)
  clear hA R A0 HK CA CM Q7
  go_wp2
  go_loopw [5,23] (fun la i wr=>∃(k:Nat) (last:Int) (l:List Mac),k≤cl∧i=.int .i64 k∧la=.int .i64 last∧l.length≤1048576+k∧Hid (o=contsFrom apps l last (cs.drop k))∧Hid (∃D,wr.ownsMap Tryz.prog 259 appElem ba n D∧KnownA hs allA D)∧Hid (∃D,wr.ownsMap Tryz.prog 259 macElem bm l.length D∧KnownM l D)∧Hid (Below w.heap.size w wr)) (fun _ i _=>cl - (intOf i).toNat)
  case atStart=>exact ⟨0,0,ms,Nat.zero_le _,rfl,rfl,by omega,hide (by rw [uH HS];simp),HAP,HMP,HB1⟩
  case round=>
   obtain ⟨k,last,l,hk,rfl,rfl,hll,HO,HA,HM,HB⟩:=hrel
   clear HAP HMP HB1 HS
   by_cases hlt:k<cl
   ·obtain ⟨b,off,rfl,hq⟩:=((uH HR).below (uH HB)).at hlt
    have hkl:k<cs.length:=by have:=uH HL;omega
    have hfc:=(uH HFC).2 _ (yM hkl)
    have hwc:=uH HWC _ (yM hkl)
    obtain ⟨c0,c1,c2,c3,c4⟩:=hq hkl
    obtain ⟨m,hm⟩:∃m,(findM cs[k].node l).getD ⟨[],0,0,0⟩=m:=⟨_,rfl⟩
    obtain ⟨th,hth⟩:∃t,(findM cs[k].node l).isSome=t:=⟨_,rfl⟩
    have hst:=contsFrom_step (apps:=apps) (l:=l) (last:=last) hkl hm hth
    have hname:th=true→m.name=cs[k].node:=fun ht=>by
     cases hf:findM cs[k].node l with
     | none=>rw [hf] at hth;subst ht;cases hth
     | some m'=>rw [hf] at hm;subst hm;exact findM_name hf
    obtain ⟨q,hs'⟩:∃q,cs[k]=q:=⟨_,rfl⟩
    rw [hs'] at c0 c1 c2 c3 c4 hst hfc hwc hm hth hname
    have HST:=hide hst
    have HNAME:=hide hname
    obtain ⟨kl,hkey⟩:=keyKey (nm:=q.node) (k:=0) (by omega) (by decide)
    have HKEY:=hide hkey
    have CO:=hide (fun wx=>onMachine_any q wx)
    have CH:=hide (fun (wx:World) (hx:∃D,wx.ownsMap Tryz.prog 259 appElem ba n D∧KnownA hs allA D)=>by obtain ⟨D,h1,h2⟩:=hx;have:=has_any ba n D hs (fun _=>true) q wx h1 h2 hwc;rw [uH HHB q] at this;exact this)
    have HLK:=hide (fun (wx:World) (hx:∃D,wx.ownsMap Tryz.prog 259 macElem bm l.length D∧KnownM l D)=>by obtain ⟨D,h1,h2⟩:=hx;have:=lookM h1 h2 hkey;rw [hm,hth] at this;exact this)
    have C1:=hide (fun wx=>something_any q.mem q.cpu wx)
    have CS:=hide (fun wx=>implSub_any m.mem m.cpu q.mem q.cpu wx)
    clear hq hs' hkl hfc hwc hst hname hkey hm hth
    obtain ⟨id,ap,nd,me,cp⟩:=q
    obtain ⟨mn,mm,mp,se⟩:=m
    simp only at c0 c1 c2 c3 c4 HST HNAME CH HLK C1 CS
    obtain ⟨sm,hsm⟩:∃r,someR me cp=r:=⟨_,rfl⟩
    obtain ⟨ha,hha⟩:∃r,(findAp ap apps).isSome=r:=⟨_,rfl⟩
    obtain ⟨lx,ly,ok,hv⟩:∃x' y' ok,bothV (-1) mm mp me cp=rv x' y'∧bothOk (-1) mm mp me cp=ok∧(ok=true→x'=mm + -1*me∧y'=mp + -1*cp):=by
     cases hb:bothOk (-1) mm mp me cp
     ·exact ⟨0,0,_,both_no hb,rfl,by simp⟩
     ·exact ⟨_,_,_,both_yes hb,rfl,fun _=>⟨rfl,rfl⟩⟩
    have HVV:=hide hv.2.2
    rw [hv.1,hv.2.1] at CS
    rw [hsm,hha,hv.2.1] at HST
    rw [hsm] at C1
    rw [hha] at CH
    have HO2:=hide ((uH HO).trans (uH HST))
    clear hsm hha hv HO HST
    have P2:=hide (yD wr #[.int .i64 id,.int .i64 ap,.string (bs nd),.int .i64 me,.int .i64 cp] 150)
    have b2:=yA (yH _ wr) (.cells #[.int .i64 id,.int .i64 ap,.string (bs nd),.int .i64 me,.int .i64 cp] 150)
    have HB2:=hide b2
    clear b2
    go_wp2_with fail
    refine (uH CO _).mono ?_
    rintro e w3 ⟨rfl,hb⟩
    have h3:wr.heap.size+1≤w3.heap.size:=by have:=hb.size;rw [yE] at this;exact this
    have HB3:=hide (yB (uH HB2) hb)
    have P3:=hide ((uH P2).below hb)
    have hlk:=uH HLK w3 (by obtain ⟨D,h1,h2⟩:=uH HM;exact ⟨D,ownsMap_below h1 (uH HB3),h2⟩)
    clear hb HB2 P2
    have HB4:=hide (yA (uH HB3) (macobj ⟨mn,mm,mp,se⟩))
    have P4:=hide ((uH P3).al (macobj ⟨mn,mm,mp,se⟩))
    have M4:=hide (yD w3 #[.string (bs mn),.int .i64 mm,.int .i64 mp,.int .i64 se] 147)
    have a3:=(uH P4).at 3
    have a4:=(uH P4).at 4
    simp at a3 a4
    go_wp2_with fail
    refine (uH CS _).mono ?_
    rintro e w5 ⟨rfl,hb⟩
    have HB6:=hide (yA (yB (uH HB4) hb) (.cells #[.int .i64 lx,.int .i64 ly] 145))
    have P6:=hide (((uH P4).below hb).al (.cells #[.int .i64 lx,.int .i64 ly] 145))
    have M6:=hide (((uH M4).below hb).al (.cells #[.int .i64 lx,.int .i64 ly] 145))
    have V6:=hide (var_new w5 145 lx ly)
    have h5:w3.heap.size+1≤w5.heap.size:=by have:=hb.size;rw [yE] at this;exact this
    have e0:=(uH P6).at 0
    have e3:=(uH P6).at 3
    have e4:=(uH P6).at 4
    simp at e0 e3 e4
    have HBW:=hide (yB (uH HB) (uH HB6))
    clear hb HB4 P4 M4 CS a3 a4 hlk c0 c1 c2 c3 c4 HLK
    by_cases h1:last<id
    case neg=>
     have h1':id≤last:=by omega
     go_wp2
     go_ret
     exact ⟨yF (by rw [uH HO2,decide_eq_false (show ¬last<id by omega)];simp),uH HBW⟩
    have h1':¬id≤last:=by omega
    by_cases h2:id≤1000000000
    case neg=>
     have h2':1000000000<id:=by omega
     go_wp2
     go_ret
     exact ⟨yF (by rw [uH HO2,decide_eq_false (show ¬id≤1000000000 by omega)];simp),uH HBW⟩
    have h2':¬1000000000<id:=by omega
    have HO3:=hide (show o=(sm&&(ha&&(th&&(ok&&contsFrom apps (⟨mn,mm + -1*me,mp + -1*cp,se⟩::l) id (cs.drop (k+1)))))) by rw [uH HO2,decide_eq_true h1,decide_eq_true h2];simp)
    clear HO2
    go_wp2_with fail
    refine (uH C1 _).mono ?_
    rintro e w7 ⟨rfl,hb⟩
    have HB7:=hide (yB (uH HB6) hb)
    have P7:=hide ((uH P6).below hb)
    have M7:=hide ((uH M6).below hb)
    have V7:=hide ((uH V6).below hb)
    have h7:w5.heap.size+1≤w7.heap.size:=by have:=hb.size;rw [yE] at this;exact this
    have f0:=(uH P7).at 0
    have f1:=(uH P7).at 1
    have f2:=(uH P7).at 2
    have f3:=(uH P7).at 3
    have f4:=(uH P7).at 4
    simp at f0 f1 f2 f3 f4
    have HBW7:=hide (yB (uH HB) (uH HB7))
    clear hb HB6 P6 M6 V6 C1 HBW e0 e3 e4
    cases sm with
    | false=>
     go_wp2
     go_ret
     exact ⟨yF (by rw [uH HO3];simp),uH HBW7⟩
    | true=>
    go_wp2_with fail
    refine (uH CH _ ?_).mono ?_
    ·obtain ⟨D,g1,g2⟩:=uH HA
     exact ⟨D,ownsMap_below g1 (uH HB7),g2⟩
    rintro e w9 ⟨rfl,hb⟩
    have HB9:=hide (yB (uH HB7) hb)
    have P9:=hide ((uH P7).below hb)
    have M9:=hide ((uH M7).below hb)
    have V9:=hide ((uH V7).below hb)
    have h9:=hb.size
    have HBW9:=hide (yB (uH HB) (uH HB9))
    clear hb HB7 P7 M7 V7 CH HBW7 f0 f1 f2 f3 f4
    cases ha with
    | false=>
     go_wp2
     go_ret
     exact ⟨yF (by rw [uH HO3];simp),uH HBW9⟩
    | true=>
    cases th with
    | false=>
     go_wp2
     go_ret
     exact ⟨yF (by rw [uH HO3];simp),uH HBW9⟩
    | true=>
    cases ok with
    | false=>
     go_wp2
     go_ret
     exact ⟨yF (by rw [uH HO3];simp),uH HBW9⟩
    | true=>
    obtain ⟨hlx,hly⟩:=uH HVV rfl
    have HO4:=hide (show o=contsFrom apps (⟨mn,lx,ly,se⟩::l) id (cs.drop (k+1)) by rw [uH HO3,hlx,hly];simp)
    have hmn2:=uH HNAME rfl
    have HKEY2:=hide (show keyOf Tryz.prog 259 (keyv mn 0)=some kl by rw [hmn2];exact uH HKEY)
    clear HO3 HVV hlx hly HNAME hmn2
    have v0:=(uH V9).c0
    have v1:=(uH V9).c1
    have m1:=(uH M9).f 1
    have m2:=(uH M9).f 2
    have m3:=(uH M9).at 1
    have m4:=(uH M9).at 2
    simp at m3 m4
    have hbmr:bm<wr.heap.size:=by obtain ⟨D,g1,_⟩:=uH HM;exact g1.lt
    have hbar:ba<wr.heap.size:=by obtain ⟨D,g1,_⟩:=uH HA;exact g1.lt
    have hw3:=(uH HB3).size
    have hww:=(uH HB).size
    obtain ⟨W10,hW10⟩:∃W,(w9.setCell ⟨w3.heap.size,1,none⟩ (.int .i64 lx)).setCell ⟨w3.heap.size,2,none⟩ (.int .i64 ly)=W:=⟨_,rfl⟩
    have hM10:Blk W10 w3.heap.size #[.string (bs mn),.int .i64 lx,.int .i64 ly,.int .i64 se] 147:=by
     rw [←hW10]
     exact heap_setCell_same _ _ 2 _ _ (.int .i64 ly) (heap_setCell_same _ _ 1 _ _ (.int .i64 lx) (uH M9))
    have hP10:Blk W10 wr.heap.size #[.int .i64 id,.int .i64 ap,.string (bs nd),.int .i64 me,.int .i64 cp] 150:=by
     rw [←hW10]
     exact ((uH P9).other _ _ _ (by omega)).other _ _ _ (by omega)
    have HB10:=hide (show Below w.heap.size w W10 by rw [←hW10];exact yC (yC (uH HBW9) _ _ _ (by omega)) _ _ _ (by omega))
    have HM10:=hide (show ∃D,W10.ownsMap Tryz.prog 259 macElem bm l.length D∧KnownM l D by
     obtain ⟨D,g1,g2⟩:=uH HM
     exact ⟨D,by rw [←hW10];exact ((ownsMap_below g1 (uH HB9)).setCell (by simp only;omega) _).setCell (by simp only;omega) _,g2⟩)
    have HA10:=hide (show ∃D,W10.ownsMap Tryz.prog 259 appElem ba n D∧KnownA hs allA D by
     obtain ⟨D,g1,g2⟩:=uH HA
     exact ⟨D,by rw [←hW10];exact ((ownsMap_below g1 (uH HB9)).setCell (by simp only;omega) _).setCell (by simp only;omega) _,g2⟩)
    have p0:=hP10.at 0
    have p1:=hP10.at 1
    have p2:=hP10.at 2
    have p3:=hP10.at 3
    have p4:=hP10.at 4
    have z0:=hM10.at 0
    have z1:=hM10.at 1
    have z2:=hM10.at 2
    have z3:=hM10.at 3
    simp at p0 p1 p2 p3 p4 z0 z1 z2 z3
    have P10:=hide hP10
    have M10:=hide hM10
    clear hP10 hM10 P9 M9 V9 HB9 HBW9 HM HA HB HB3 P3
    go_wp2_with fail
    clear hW10 v0 v1 m1 m2 m3 m4
    go_region_with (first | (go_at_call 207;refine (uH CO _).mono ?_;rintro e wz ⟨rfl,hbc⟩;have HZ:=hide (yB (yH _ W10).drew hbc);have y0:=((uH M10).below (uH HZ)).at 0;have y1:=((uH M10).below (uH HZ)).at 1;have y2:=((uH M10).below (uH HZ)).at 2;have y3:=((uH M10).below (uH HZ)).at 3;simp at y0 y1 y2 y3;obtain ⟨D,g1,g2⟩:=uH HM10;obtain ⟨w11,hrun,hown2,hgrow2⟩:=(ownsMap_below g1 (uH HZ)).update keyLaw Tryz.underlying255 (by unfold maxLen;omega) (uH HKEY) (macElem_mk ⟨mn,lx,ly,se⟩);have HFIN:=hide (And.intro hown2 (And.intro hgrow2 (KnownM.put (m:=⟨mn,lx,ly,se⟩) g2 g1.isMap (uH HKEY2))));clear hown2 hgrow2 g1 g2 hbc))
    all_goals
     obtain ⟨f1,f2,f3⟩:=uH HFIN
     have hpz:=(uH P10).below (uH HZ)
     have P11:Blk w11 wr.heap.size #[.int .i64 id,.int .i64 ap,.string (bs nd),.int .i64 me,.int .i64 cp] 150:=(f2.block _ hpz.lt (by simp;omega)).trans hpz
     have g0:=P11.at 0
     simp at g0
     have HF1:=hide f1
     have HF2:=hide f2
     have HF3:=hide f3
     clear f1 f2 f3 hpz P11
     go_wp2
     have f1:=uH HF1
     have f2:=uH HF2
     have f3:=uH HF3
     go_roundw
     case rel=>
      refine ⟨k+1,id,⟨mn,lx,ly,se⟩::l,by omega,by go_num,rfl,by simp;omega,HO4,?_,hide ⟨_,f1,f3⟩,hide ?_⟩
      ·obtain ⟨D2,a1,a2⟩:=uH HA10
       exact hide ⟨D2,(ownsMap_below a1 (uH HZ)).kept f2 (by simp;omega),a2⟩
      ·exact (yB (uH HB10) (uH HZ)).grown f2 (by have:=(uH HB10).size;have:=(uH HZ).size;omega) (fun j e=>by cases e;omega)
     case measure=>simp [intOf];omega
   ·go_wp2
    go_ret
    exact ⟨yF (by rw [uH HO,contsFrom_end (by have:=uH HL;omega)]),uH HB⟩
end
end Go.Proofs.YtjkfappkpopbdaaGreat
