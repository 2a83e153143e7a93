/-
  Texts in one: UsedOnI, FreeOnM, HmI, OkB, OnS, RowE, DelA, FreeOnI, UsedOnS, UsedOnB, FreeOnS.
-/
import Derived.Test.YtfndhndlkcijoaaGreatSackC
import Derived.Test.YtfndhndlkcijoaaGreatSackB
import Derived.Test.YtfndhndlkcijoaaGreatSackD
set_option maxRecDepth 100000
set_option maxHeartbeats 16000000
set_option linter.unusedVariables false
set_option linter.unusedSimpArgs false
open Go.Proofs.Tryz
namespace Go.Proofs.YtfndhndlkcijoaaGreat
section
open Go.RowKit
theorem aI1 (B:Nat) (nm:List UInt8) (q:Con) (w:World) (hc:w.cell? ⟨B,0,none⟩=some (.string (bs nm))) :
  cP 224 #[conv q,.pointer (some ⟨B,0,none⟩)] w fun e w'=>e=.returned (.bool (decide (q.node=nm)))∧Bw w w':=by
 have hlt:=yG hc;have hc2:(w.alloc (aDH q)).cell? ⟨B,0,none⟩=some (.string (bs nm)):=by rw [World.cell?_alloc_lt _ _ ⟨B,0,none⟩ hlt];exact hc
 have hbe:=mQ q.node nm;clear hc hlt;go_enter func224,ntmps224;go_wp2;go_ret;exact ⟨rfl,yA (yH _ _) _⟩
def aGn (nm:List UInt8) (q:Con):Bool:=decide (q.node=nm)
def gZ (s:St) (nm:List UInt8):Int×Int:=((iY (aP (aGn nm) s.cs)).1,(iY (aP (aGn nm) s.cs)).2.1)
def onW (w:World) (c:Array Value) (nm:List UInt8):World:=((w.alloc (.cells c 29)).alloc (.cells #[.string (bs nm)] 9)).alloc (.cells #[.int .i64 0,.int .i64 0] 33)
theorem aC2 (w:World) (c:Array Value) (nm:List UInt8):Bw w (onW w c nm):=yA (yA (yA (yH _ w) _) _) _
theorem aEi (w:World) (c:Array Value) (nm:List UInt8):(onW w c nm).cell? ⟨w.heap.size+1,0,none⟩=some (.string (bs nm)):=by
 have:=((yD (w.alloc (.cells c 29)) #[.string (bs nm)] 9).al (.cells #[.int .i64 0,.int .i64 0] 33)).at 0;rw [yE] at this;exact this
theorem aJj (w:World) (c:Array Value) (nm:List UInt8):Var (onW w c nm) 33 (w.heap.size+1+1) 0 0:=by
 have:=aK ((w.alloc (.cells c 29)).alloc (.cells #[.string (bs nm)] 9)) 33 0 0;rwa [yE,yE] at this
theorem aAS (x:Sls) (s:St) (nm:List UInt8) (w:World) (h:dC w x.ca x.cl s.cs) (hl:x.cl≤1048576) :
  cP 210 #[sv x s,.string (bs nm)] w fun e w'=>e=.returned (rv (gZ s nm).1 (gZ s nm).2)∧Bw w w':=by
 have ZK:∀(fn:Fn) (first cap:Array Value) (w:World),(Instr.makeFunc fn first cap).run Tryz.prog w=.ok (.func fn first cap) w:=fun _ _ _ _=>rfl
 obtain ⟨⟨sx,sy⟩,hs⟩:∃s',gZ s nm=s':=⟨_,rfl⟩;have h1:=congrArg Prod.fst hs;have h2:=congrArg Prod.snd hs;simp only [gZ] at h1 h2;have CU:=aA (by
  have:=aIH 224 #[.pointer (some ⟨w.heap.size+1,0,none⟩)] (enters_of func224 (by kernel_rfl) rfl) (aGn nm) x s (onW w (svc x s) nm) (h.below (aC2 w _ nm)) hl
   (fun wy q hy=>aI1 (w.heap.size+1) nm q wy ((hy.cell (p:=⟨w.heap.size+1,0,none⟩) (yG (aEi w _ nm))).trans (aEi w _ nm)))
  rw [h1,h2] at this;exact this)
 rw [hs];clear hs h1 h2 h;obtain ⟨qa,ql,qc,aa,al,ac,ma,ml,mc,ca,cl,cc⟩:=x;obtain ⟨qs,cv,ez,nv,sj,aj,ms,cs⟩:=s;go_enter func210,ntmps210;go_wp2_with fail;refine (uH CU).mono ?_;rintro e w1 ⟨rfl,hb⟩;have V1:=(aJj w _ nm).below hb;have HB1:=aA (yB (aC2 w _ nm) hb);have t0:=V1.c0;have t1:=V1.c1;have f0:=V1.f 0;have f1:=V1.f 1;have VG:=V1.set sx sy;have k6:=VG.c0;have k7:=VG.c1;clear hb V1 VG CU;go_wp2;refine bodyPost_ret (v:=rv sx sy) (by simp [results,results210,go_sem,k6,k7]) rfl ⟨rfl,?_⟩;repeat (first | exact uH HB1 | refine yA ?_ _ | refine yC ?_ _ _ _ (by omega))
end
section
open Go.RowKit Go.Maps
def aCe (a b c d:Int):Int×Int:=if aN (-1) a b c d then (a + -1*c,b + -1*d) else (0,0)
theorem aCd (a b c d:Int):kY (-1) a b c d=rv (aCe a b c d).1 (aCe a b c d).2:=by
 cases h:aN (-1) a b c d
 ·rw [lN h,aCe,h];rfl
 ·rw [lW h,aCe,h];rfl
def fQ (s:St) (nm:List UInt8):Int×Int:=match bI nm s.ms with
 | none=>(0,0)
 | some m=>aCe m.mem m.cpu (gZ s nm).1 (gZ s nm).2
def idV (s:St):Int:=s.epoch*100000+s.serial % 100000
def nP (s:St):Bool:=decide (idV s≤1000000000)&&!(s.cs.any fun c=>c.id==idV s)
theorem qH (x:Sls) (s:St) (nm:List UInt8) (w:World) (h:iL w x s) (hf:bH s) (hnm:nm.length≤1048576) :
  cP 96 #[sv x s,.string (bs nm)] w fun e w'=>e=.returned (.bool (bI nm s.ms).isSome)∧Bw w w':=by
 have GJ:x.ml≤1048576:=by have:=h.len.2.2.1;have:=hf.2.2.1.1;omega
 have CM:=aA (fun wx (hb:Bw w wx)=>qP x s wx (h.2.2.1.below hb) GJ (fun m hm=>hf.2.2.1.2 m hm));obtain ⟨kl,GG⟩:=aAx (nm:=nm) (k:=0) (by omega) (by decide);have QD:=aA GG;obtain ⟨o,ho⟩:∃o,(bI nm s.ms).isSome=o:=⟨_,rfl⟩;have HO:=aA ho;rw [ho];clear h hf GG ho;obtain ⟨qa,ql,qc,aa,al,ac,ma,ml,mc,ca,cl,cc⟩:=x;obtain ⟨qs,cv,ez,nv,sj,aj,ms,cs⟩:=s;have HB0:=aA (yA (yH _ w) (.cells (svc ⟨qa,ql,qc,aa,al,ac,ma,ml,mc,ca,cl,cc⟩ ⟨qs,cv,ez,nv,sj,aj,ms,cs⟩) 29));go_enter func96,ntmps96;go_wp2_with fail;refine (uH CM _ (uH HB0)).mono ?_;rintro e w1 ⟨bm,rfl,⟨Xw,D,Hz,hk⟩,hb⟩;have hlk:=aJr Hz hk (uH QD);have HB1:=aA (yB (uH HB0) hb);clear hb HB0 CM Hz hk Xw;rw [uH HO] at hlk;go_wp2;go_ret;exact ⟨rfl,by repeat (first | exact uH HB1 | refine yA ?_ _)⟩
theorem aF5 (x:Sls) (s:St) (w:World) (h:iL w x s) (hf:bH s) (ha:aLO s.cs) (he:0≤s.epoch∧s.epoch≤1000000000) (hs:0≤s.serial∧s.serial≤1000000000) :
  cP 103 #[sv x s] w fun e w'=>e=.returned (.tuple #[.int .i64 (idV s),.bool (nP s)])∧Bw w w':=by
 have C:=aA (fun wx (hb:Bw w wx)=>sO x s (idV s) wx (h.below hb) hf ha);have HI:=aA (show idV s=s.epoch*100000+s.serial % 100000 from rfl);have hm:=Int.emod_nonneg s.serial (show (100000:Int)≠0 by decide);have hm2:=Int.emod_lt_of_pos s.serial (show (0:Int)<100000 by decide);obtain ⟨d,hd⟩:∃d,idV s=d:=⟨_,rfl⟩;have HF:=aA (show ∀f:Bool,(f=true↔∃c ∈ s.cs,c.id=d)→(decide (d≤1000000000)&&!f)=nP s from fun f hf=>by
  have:f=s.cs.any (fun c=>c.id==d):=by rw [Bool.eq_iff_iff,hf,List.any_eq_true];simp
  rw [nP,hd,this])
 obtain ⟨fr,hfr⟩:∃d,nP s=d:=⟨_,rfl⟩;rw [hfr] at HF ⊢;rw [hd] at C HI ⊢;clear h hf ha hd hfr;obtain ⟨qa,ql,qc,aa,al,ac,ma,ml,mc,ca,cl,cc⟩:=x;obtain ⟨qs,cv,ez,nv,sj,aj,ms,cs⟩:=s;simp only at C HI HF he hs hm hm2;have HB0:=aA (yA (yH _ w) (.cells (svc ⟨qa,ql,qc,aa,al,ac,ma,ml,mc,ca,cl,cc⟩ ⟨qs,cv,ez,nv,sj,aj,ms,cs⟩) 29));have hmt:sj.tmod 100000=sj % 100000:=Int.tmod_eq_emod_of_nonneg hs.1;obtain ⟨sm,hsm⟩:∃z,sj % 100000=z:=⟨_,rfl⟩;rw [hsm] at hmt hm hm2 HI;go_enter func103,ntmps103;go_wp2_with fail;rw [←uH HI];refine (uH C _ (uH HB0)).mono ?_;rintro e w1 ⟨p,f,rfl,_,_,_,h4,hb⟩;have HB1:=aA (yB (uH HB0) hb);have HZ:=aA (uH HF f h4);clear h4 hb HB0 C HF HI;by_cases hd:d≤1000000000
 ·have HZ2:=aA (show (!f)=fr by have:=uH HZ;rwa [decide_eq_true hd,Bool.true_and] at this);go_wp2;refine bodyPost_ret (v:=.tuple #[.int .i64 d,.bool fr]) (by simp [results,results103,go_sem,←uH HZ2]) rfl ⟨rfl,uH HB1⟩
 ·have HZ2:=aA (show false=fr by have:=uH HZ;rwa [decide_eq_false hd,Bool.false_and] at this);go_wp2;refine bodyPost_ret (v:=.tuple #[.int .i64 d,.bool fr]) (by simp [results,results103,go_sem,←uH HZ2]) rfl ⟨rfl,uH HB1⟩
end
section
open Go.RowKit
variable {p:Ask→Bool} {l:List Ask} {cs:List Value} {B M N cap g k n sz:Nat} {ao:Option Addr} {t:TypeId} {w w':World}
def aGM (p:Ask→Bool):List Ask→Nat→Int
 | [],_=>-1
 | q::t,k=>if p q=true then (k:Int) else aGM p t (k+1)
theorem aHN (h:k<l.length):aGM p (l.drop k) k=if p l[k]=true then (k:Int) else aGM p (l.drop (k+1)) (k+1):=by
 rw [List.drop_eq_getElem_cons h,aGM]
theorem aIk (h:l.length≤k):aGM p (l.drop k) k = -1:=by
 rw [List.drop_of_length_le h];rfl
theorem aEu (p:Ask→Bool):∀(l:List Ask) (k:Nat),decide (0≤aGM p l k)=l.any p
 | [],_=>by simp [aGM]
 | q::t,k=>by
  rw [aGM,List.any_cons];by_cases h:p q=true
  ·rw [if_pos h,h];simp
  ·rw [if_neg h,aEu p t (k+1)];simp [h]
theorem aAQ (g:Nat) (lb:Array Value) (eg:∀args w,(callFunc g args).run Tryz.prog w=.ok (.enter g args) w) (p:Ask→Bool) (ao:Option Addr) (len cap:Nat) (l:List Ask) (w:World) (h:bD w ao len l) (hl:len≤1048576)
  (hp:∀wx (q:Ask),q ∈ l→Bw w wx→Calls Tryz.prog g (#[aKN q]++lb) wx fun e w'=>e=.returned (.bool (p q))∧Bw wx w') :
  cP 215 #[.slice ao len cap,.func (.func g) #[] lb] w fun e w'=>e=.returned (.int .i64 (aGM p l 0))∧Bw w w':=by
 have HR:=aA h;have HL:=aA h.1;have HP:=aA hp;clear h hp;go_enter func215,ntmps215;go_wp2;go_loopw [5,8] (fun _ i wr=>∃k:Nat,k≤len∧i=.int .i64 k∧Hid (aGM p l 0=aGM p (l.drop k) k)∧Hid (Bw w wr)) (fun _ i _=>len - (intOf i).toNat);case atStart=>exact ⟨0,Nat.zero_le _,rfl,aA (by simp),aA (yH _ _)⟩
 case round=>
  obtain ⟨k,hk,rfl,hq,HB⟩:=hrel;by_cases hlt:k<len
  ·obtain ⟨b,off,rfl,hx⟩:=((uH HR).below (uH HB)).at hlt;(have hkl:k<l.length:=by have:=uH HL;omega);have hst:=aA (aHN (p:=p) (l:=l) (k:=k) hkl);obtain ⟨c0,c1,c2,c3,c4⟩:=hx hkl;clear hx;have HC:=aA (uH HP wr l[k] (yM _) (uH HB));obtain ⟨⟨y0,y1,y2,nd,y4⟩,hs⟩:∃s,l[k]=s:=⟨_,rfl⟩;rw [hs] at c0 c1 c2 c3 c4 hst HC;simp only at c0 c1 c2 c3 c4;clear hs hkl HP;cases hpq:p ⟨y0,y1,y2,nd,y4⟩ with
   | true=>rw [hpq] at HC;have HQ:=aA hpq;clear hpq;(go_wp2_with (go_at_fn g;refine (uH HC).mono ?_;rintro e w' ⟨rfl,hb⟩));go_ret;exact ⟨iJ (by rw [uH hq,uH hst,if_pos (uH HQ)]),yB (uH HB) hb⟩
   | false=>rw [hpq] at HC;have HQ:=aA hpq;clear hpq;(go_wp2_with (go_at_fn g;refine (uH HC).mono ?_;rintro e w' ⟨rfl,hb⟩));go_roundw;(case rel=>exact ⟨k+1,by omega,by go_num,aA (by rw [uH hq,uH hst,if_neg (by rw [uH HQ];simp)]),aA (yB (uH HB) hb)⟩);case measure=>simp [intOf];omega
  ·go_wp2;go_ret;exact ⟨iJ (by rw [uH hq,aIk (by have:=uH HL;omega)]),uH HB⟩
theorem uF (g:Nat) (lb:Array Value) (eg:∀args w,(callFunc g args).run Tryz.prog w=.ok (.enter g args) w) (p:Ask→Bool) (ao:Option Addr) (len cap:Nat) (l:List Ask) (w:World) (h:bD w ao len l) (hl:len≤1048576)
  (hp:∀wx (q:Ask),q ∈ l→Bw w wx→Calls Tryz.prog g (#[aKN q]++lb) wx fun e w'=>e=.returned (.bool (p q))∧Bw wx w') :
  cP 183 #[.slice ao len cap,.func (.func g) #[] lb] w fun e w'=>e=.returned (.bool (l.any p))∧Bw w w':=by
 have C:=aA (aAQ g lb eg p ao len cap l w h hl hp);have HS:=aA (aEu p l 0);obtain ⟨i,hi⟩:∃i,aGM p l 0=i:=⟨_,rfl⟩;obtain ⟨b,hb⟩:∃b,l.any p=b:=⟨_,rfl⟩;rw [hi] at C HS;rw [hb] at HS ⊢;clear h hp hi hb;go_enter func183,ntmps183;go_wp2_with fail;refine (uH C).mono ?_;rintro e w1 ⟨rfl,hb⟩;have HB:=aA hb;clear hb;by_cases h0:0≤i
 ·go_wp2;go_ret;exact ⟨yF (by first | exact uH HS | (rw [←uH HS];simp [h0])),uH HB⟩
 ·go_wp2;go_ret;exact ⟨yF (by first | exact uH HS | (rw [←uH HS];simp [h0])),uH HB⟩
theorem aGB (q:Ask) (w:World) (hn:q.node.length≤1048576) :
  cP 184 #[aKN q] w fun e w'=>e=.returned (.bool (!gU q))∧Bw w w':=by
 have C:=aA (aHl q (w.alloc (.cells #[.int .i64 q.mem,.int .i64 q.cpu,.int .i64 q.count,.string (bs q.node),.int .i64 q.missed] 43)) hn);obtain ⟨o,ho⟩:∃o,gU q=o:=⟨_,rfl⟩;rw [ho] at C ⊢;obtain ⟨y0,y1,y2,nd,y4⟩:=q;clear ho;go_enter func184,ntmps184;go_wp2_with fail;refine (uH C).mono ?_;rintro e w1 ⟨rfl,hb⟩;have HB:=aA (yB (yA (yH _ w) _) hb);clear hb C;cases o
 ·go_wp2;go_ret;exact ⟨rfl,uH HB⟩
 ·go_wp2;go_ret;exact ⟨rfl,uH HB⟩
def jP (l:List Ask):Bool:=decide (l.length≤10)&&l.all gU
theorem aFz (id:Int) (qu:List UInt8) (ao:Option Addr) (len cap:Nat) (l:List Ask) (w:World) (h:bD w ao len l) (hl:len≤1048576) (hn:∀q ∈ l,q.node.length≤1048576) :
  cP 138 #[aET id qu ao len cap] w fun e w'=>e=.returned (.bool (jP l))∧Bw w w':=by
 have hb0:=yA (yH _ w) (.cells #[.int .i64 id,.string (bs qu),.slice ao len cap] 56);have C:=aA (uF 184 #[] (enters_of func184 (by kernel_rfl) rfl) (fun q=>!gU q) ao len cap l _ (h.below hb0) hl (fun wx q hq _=>aGB q wx (hn q hq)));have HS:=aA (show jP l=(decide (len≤10)&&!(l.any fun q=>!gU q)) by rw [jP,←h.1];congr 1;rw [List.not_any_eq_all_not];simp);obtain ⟨o,ho⟩:∃o,jP l=o:=⟨_,rfl⟩;obtain ⟨b,hb⟩:∃o,(l.any fun q=>!gU q)=o:=⟨_,rfl⟩;rw [ho] at HS ⊢;rw [hb] at HS C;have HB0:=aA hb0;clear ho hb h hn hb0;by_cases h10:len≤10
 ·have hi:(len:Int)≤10:=by omega
  rw [decide_eq_true h10] at HS;clear h10;go_enter func138,ntmps138;go_wp2_with fail;refine (uH C).mono ?_;rintro e w1 ⟨rfl,hb⟩;have HB:=aA (yB (uH HB0) hb);clear hb C HB0;go_wp2;go_ret;exact ⟨yF (by rw [uH HS];simp),uH HB⟩
 ·have hi:¬(len:Int)≤10:=by omega
  rw [decide_eq_false h10] at HS;clear h10 C;go_enter func138,ntmps138;go_wp2;go_ret;exact ⟨yF (by rw [uH HS];simp),uH HB0⟩
def aC3 (s:St):Bool:=inB s.clock 0 1000000000&&(inB s.epoch 1 1000000000&&(inB s.next 1 1000000000&&inB s.serial 1 1000000000))
theorem aB8 (x:Sls) (s:St) (w:World) :
  cP 79 #[sv x s] w fun e w'=>e=.returned (.bool (aC3 s))∧Bw w w':=by
 obtain ⟨qa,ql,qc,aa,al,ac,ma,ml,mc,ca,cl,cc⟩:=x;obtain ⟨qs,cv,ez,nv,sj,aj,ms,cs⟩:=s;have HB0:=aA (yA (yH _ w) (.cells (svc ⟨qa,ql,qc,aa,al,ac,ma,ml,mc,ca,cl,cc⟩ ⟨qs,cv,ez,nv,sj,aj,ms,cs⟩) 29));simp only [aC3];obtain ⟨b0,h0⟩:∃b,inB cv 0 1000000000=b:=⟨_,rfl⟩;obtain ⟨b1,h1⟩:∃b,inB ez 1 1000000000=b:=⟨_,rfl⟩;obtain ⟨b2,h2⟩:∃b,inB nv 1 1000000000=b:=⟨_,rfl⟩;obtain ⟨b3,h3⟩:∃b,inB sj 1 1000000000=b:=⟨_,rfl⟩;have C0:=aA (fun wx=>by have:=oM cv wx;rw [h0] at this;exact this);have C1:=aA (fun wx=>by have:=qW ez wx;rw [h1] at this;exact this);have C2:=aA (fun wx=>by have:=qW nv wx;rw [h2] at this;exact this);have C3:=aA (fun wx=>by have:=qW sj wx;rw [h3] at this;exact this);rw [h0,h1,h2,h3];clear h0 h1 h2 h3;go_enter func79,ntmps79;go_wp2_with fail;refine (uH C0 _).mono ?_;rintro e w1 ⟨rfl,rfl⟩;cases b0 with
 | false=>go_wp2;go_ret;exact ⟨rfl,uH HB0⟩
 | true=>
 go_wp2_with fail
 refine (uH C1 _).mono ?_;rintro e w1 ⟨rfl,rfl⟩;cases b1 with
 | false=>go_wp2;go_ret;exact ⟨rfl,uH HB0⟩
 | true=>
 go_wp2_with fail
 refine (uH C2 _).mono ?_;rintro e w1 ⟨rfl,rfl⟩;cases b2 with
 | false=>go_wp2;go_ret;exact ⟨rfl,uH HB0⟩
 | true=>
 go_wp2_with fail
 refine (uH C3 _).mono ?_;rintro e w1 ⟨rfl,rfl⟩;go_wp2;go_ret;exact ⟨yF (by simp),uH HB0⟩
theorem aCj (x:Sls) (s:St) (nd:List UInt8) (w:World) (h:dC w x.ca x.cl s.cs) (hl:x.cl≤1048576) :
  cP 126 #[sv x s,.string (bs nd)] w fun e w'=>∃v,e=.returned v∧aAB w.heap.size w' v (aP (fun q=>decide (q.node=nd)) s.cs)∧Bw w w':=by
 obtain ⟨i0,hi,hz0,hz1,hz2⟩:=info_parts Tryz.infoR;obtain ⟨qa,ql,qc,aa,al,ac,ma,ml,mc,ca,cl,cc⟩:=x;obtain ⟨qs,cv,ez,nv,sj,aj,ms,cs⟩:=s;simp only at h hl ⊢;have HR:=aA h;have HL:=aA h.1;have HB0:=aA (jX w #[.slice qa ql qc,.int .i64 cv,.int .i64 ez,.int .i64 nv,.int .i64 sj,.slice aa al ac,.slice ma ml mc,.slice ca cl cc]);have P0:=aA (gB w #[.slice qa ql qc,.int .i64 cv,.int .i64 ez,.int .i64 nv,.int .i64 sj,.slice aa al ac,.slice ma ml mc,.slice ca cl cc]);have HW:=aA (zL w #[.slice qa ql qc,.int .i64 cv,.int .i64 ez,.int .i64 nv,.int .i64 sj,.slice aa al ac,.slice ma ml mc,.slice ca cl cc]);have WG:=aA (tJ (sZ w #[.slice qa ql qc,.int .i64 cv,.int .i64 ez,.int .i64 nv,.int .i64 sj,.slice aa al ac,.slice ma ml mc,.slice ca cl cc]));obtain ⟨c,hc⟩:∃c:Array Value,#[.slice qa ql qc,.int .i64 cv,.int .i64 ez,.int .i64 nv,.int .i64 sj,.slice aa al ac,.slice ma ml mc,.slice ca cl cc]=c:=⟨_,rfl⟩;rw [hc] at HB0 HW WG;have P0:=aA (show Blk (sZ w c) w.heap.size #[.slice qa ql qc,.int .i64 cv,.int .i64 ez,.int .i64 nv,.int .i64 sj,.slice aa al ac,.slice ma ml mc,.slice ca cl cc] 29 by rw [hc];exact gB w c);have HC:=aA hc;clear h hc;go_enter func126,ntmps126;go_wp2;go_loopw [5,6] (fun v i wr=>∃(k:Nat),k≤cl∧i=.int .i64 k∧Hid (aAB (sZ w c).heap.size wr v (aP (fun q=>decide (q.node=nd)) (cs.take k)))∧Hid (Below (sZ w c).heap.size (sZ w c) wr)) (fun _ i _=>cl - (intOf i).toNat);case atStart=>obtain rfl:=uH HC;have h1:=uH HW;refine ⟨0,Nat.zero_le _,rfl,aA ?_,aA (yA (yH _ _) _)⟩;have:=uH WG;rw [h1] at this;rw [h1];exact this
 case round=>
  obtain ⟨k,hk,rfl,HO,HB⟩:=hrel;have hn1:w.heap.size<(sZ w c).heap.size:=by have:=uH HW;omega
  have p7:=Blk.at (show Blk wr w.heap.size _ 29 from ((uH HB).block _ hn1).trans (uH P0)) 7;simp at p7;by_cases hlt:k<cl
  ·obtain ⟨b,off,rfl,hq⟩:=(((uH HR).below (uH HB0)).below (uH HB)).at hlt;(have hkl:k<cs.length:=by have:=uH HL;omega);have hst:=o7 (p:=fun q=>decide (q.node=nd)) hkl;obtain ⟨c0,c1,c2,c3,c4⟩:=hq hkl;obtain ⟨m,hs⟩:∃q,cs[k]=q:=⟨_,rfl⟩;rw [hs] at c0 c1 c2 c3 c4 hst;(have hal:(aP (fun q=>decide (q.node=nd)) (cs.take k)).length≤1048576:=by have:(aP (fun q:Con=>decide (q.node=nd)) (cs.take k)).length≤(cs.take k).length:=(by simp only [aP,List.length_map];exact List.length_filter_le _ _);simp at this;omega);obtain ⟨acc,QC⟩:∃a,aP (fun q=>decide (q.node=nd)) (cs.take k)=a:=⟨_,rfl⟩;rw [QC] at hst hal HO;obtain ⟨id,ap,no,me,cp⟩:=m;simp only at c0 c1 c2 c3 c4 hst;have hs2:(sZ w c).heap.size≤wr.heap.size:=(uH HB).size;have Hz:wr.ownsRow (sZ w c).heap.size 33 2 _ acc.length (jB acc):=uH HO;have hbe:=mQ no nd;clear hq hs hkl QC;by_cases hnd:no=nd
   ·rw [decide_eq_true hnd] at hbe hst;have HST:=aA (show aP (fun q=>decide (q.node=nd)) (cs.take (k+1))=acc++[(me,cp)] by have:=hst;rw [if_pos rfl] at this;exact this);clear hst hnd;(go_wp2_with (at_builtin;refine wpList_append_own _ rfl _ _ 114 rfl (sZ w c).heap.size 33 i0 (.agg #[.int .i64 0,.int .i64 0]) 2 16 underlying114 hi hz0 hz1 hz2 rfl (by decide) _ _ _ rfl (Hz.alloc _) ⟨wr.heap.size,0,none⟩ 1 1 (aAH (me,cp)) rfl rfl ?c1 ?c2 ?c3 ?c4 ?c5 ?_));case c1=>
     intro j x hj
     match j,hj with
     | 0,hj=>simp at hj;subst hj;simp [Addr.add]
     | 1,hj=>simp at hj;subst hj;simp [Addr.add]
     | _+2,hj=>simp at hj
    (case c2=>intro x hx;simp at hx;rcases hx with rfl | rfl<;>rfl);(case c3=>unfold maxLen;omega);(case c4=>omega);(case c5=>simp at hs2 ⊢;omega);intro v' w3 Hy Hw _;have R:=mH (q:=(me,cp)) (uH HB) (uH HO) Hy Hw hs2;have HR3:=aA R;clear Hy Hw Hz c0 c1 c2 c3 c4 R p7;go_wp2;go_roundw;(case rel=>exact ⟨k+1,by omega,by go_num,aA (by rw [uH HST];exact (uH HR3).1),aA (uH HR3).2⟩);case measure=>simp [intOf];omega
   ·rw [decide_eq_false hnd] at hbe hst;have HST:=aA (show aP (fun q=>decide (q.node=nd)) (cs.take (k+1))=acc by have:=hst;rw [if_neg (by simp)] at this;exact this);clear hst hnd Hz;go_wp2;go_roundw;(case rel=>exact ⟨k+1,by omega,by go_num,aA (by rw [uH HST];exact uH HO),HB⟩);case measure=>simp [intOf];omega
  ·have htk:cs.take k=cs:=List.take_of_length_le (by have:=uH HL;omega);rw [htk] at HO;go_wp2;go_ret;exact ⟨_,rfl,(uH HO).base (by omega),yB (uH HB0) (uH HB)⟩
theorem Lay.frozen (h:Lay w t g M cs) (j:Nat):w.frozen? ⟨g,j,none⟩=false:=h.cel.frozen j
theorem Lay.isThere (h:Lay w t g M cs) {j:Nat} (hj:j<M):(w.cell? ⟨g,j,none⟩).isSome=true:=by
 obtain ⟨R,h1,h2⟩:=h;have h3:j<(cs++R).length:=by omega
 simp [World.cell?,h1,List.getElem?_eq_getElem h3]
theorem Lay.drew (h:Lay w t g M cs):Lay w.drew t g M cs:=h
theorem Lay.cells (h:Lay w t g M cs) (o:Nat) (vs:List Value) (hf:o+vs.length≤M) (new:List Value) (hn:new.length≤M)
  (hi:∀j u,new[j]? = some u→(o≤j∧j<o+vs.length→vs[j - o]? = some u)∧(¬(o≤j∧j<o+vs.length)→w.cell? ⟨g,j,none⟩=some u)):Lay (w.setCells g o vs) t g M new:=by
 refine yP ?_ (fun j u hj=>?_) hn
 ·exact (dV (S:=fun k=>k=g) rfl vs o w w (Mks.refl _ _)).cel _ _ _ h.cel
 ·by_cases e:o≤j∧j<o+vs.length
  ·have h1:=World.cell?_setCells_in g vs o w (fun k hk=>h.isThere (by omega)) (j - o) (by omega);rw [show o+(j - o)=j by omega] at h1;rw [h1];have h2:=(hi j u hj).1 e;rw [List.getElem?_eq_getElem (by omega)] at h2;exact h2
  ·rw [World.cell?_setCells_out g vs o w ⟨g,j,none⟩ (fun _ _=>by show j<o∨o+vs.length≤j;omega)];exact (hi j u hj).2 e
theorem bD.lay (h:bD w (some ⟨g,0,none⟩) n l) (hc:Cel w 43 g N) (hn:l.length*5≤N):Lay w 43 g N (aO l):=
 yP hc (fun j u hj=>by have:=mU h j u hj;rwa [Nat.zero_add] at this) (by rw [bC];exact hn)
theorem Lay.rowA (h:Lay w 43 g M (aO l)):bD w (some ⟨g,0,none⟩) l.length l:=by
 refine ⟨rfl,.inr ⟨g,0,rfl,fun i hi=>?_⟩⟩;obtain ⟨a,b,c,d,e⟩:=mV l i hi;rw [Nat.zero_add];exact ⟨h.cell a,h.cell b,h.cell c,h.cell d,h.cell e⟩
theorem dC.lay {l:List Con} (h:dC w (some ⟨g,0,none⟩) n l) (hc:Cel w 35 g N) (hn:l.length*5≤N):Lay w 35 g N (aJ l):=
 yP hc (fun j u hj=>by have:=fO h j u hj;rwa [Nat.zero_add] at this) (by rw [bO];exact hn)
def wH (B:Nat) (w:World) (t:TypeId) (sz:Nat) (ao:Option Addr) (n cap:Nat):Prop:=n≤cap∧(cap=0∨∃g M,ao=some ⟨g,0,none⟩∧B≤g∧Cel w t g (M*sz)∧cap≤M)
theorem wH.mks {S:Nat→Prop} (h:wH B w t sz ao n cap) (hm:Mks S w w'):wH B w' t sz ao n cap:=by
 obtain ⟨h1,h3⟩:=h;refine ⟨h1,?_⟩;rcases h3 with h3 | ⟨g,M,e,hB,hc,hM⟩
 ·exact .inl h3
 ·exact .inr ⟨g,M,e,hB,hm.cel _ _ _ hc,hM⟩
theorem wH.below (h:wH B w t sz ao n cap) (hb:Bw w w'):wH B w' t sz ao n cap:=h.mks (S:=fun _=>False) (.of_below hb)
theorem wH.own (h:wH B w t sz ao n cap):eU B w.heap.size w t sz ao n:=by
 obtain ⟨h1,h3⟩:=h;rcases h3 with h3 | ⟨g,M,e,hB,hc,hM⟩
 ·exact .inl (by omega)
 ·exact .inr ⟨g,M,e,hB,hc.lt,hc,by omega⟩
theorem wH.all (h:wH B w t sz ao n cap):eU B w.heap.size w t sz ao cap:=by
 rcases h.2 with h3 | ⟨g,M,e,hB,hc,hM⟩
 ·exact .inl h3
 ·exact .inr ⟨g,M,e,hB,hc.lt,hc,hM⟩
theorem aJ7 {E:Nat} (h:eU B E w t sz ao cap) (hn:n≤cap):wH B w t sz ao n cap:=by
 refine ⟨hn,?_⟩;rcases h with h | ⟨g,M,h1,h2,h3,h4,h5⟩
 ·exact .inl h
 ·exact .inr ⟨g,M,h1,h2,h4,h5⟩
theorem aBZ {P:Program} (w:World) (t e ty:TypeId) (z:Value) (ht:P.underlying t=some (.slice e)) (hv:∀w,(zeroValue e).run P w=.ok z w) (zs:List Value) (hz:(Builtin.zeroCells z.cells 1).toList=zs) (h1:∀v ∈ zs,v.oneCell'=true) (b o c:Nat)
  (hc:∀j,j<zs.length→(w.cell? ⟨b,o+j,none⟩).isSome=true) (hf:∀j,j<zs.length→w.frozen? ⟨b,o+j,none⟩=false) :
  (Builtin.clear_ #[t] ty #[.slice (some ⟨b,o,none⟩) 1 c]).run P w=.ok (.tuple #[]) (w.setCells b o zs):=by
 have hst:=run_storeCells_cells (P:=P) b o zs 0 w (by simpa using hc) (by simpa using hf) h1;simp only [Nat.add_zero] at hst;simp [Builtin.clear_,run_underlying ht,hv,hz,hst]
theorem gV:∀a b:List Ask,aO (a++b)=aO a++aO b
 | [],b=>rfl
 | q::t,b=>by rw [List.cons_append,aO,aO,gV t b,List.append_assoc]
theorem vQ (l:List Ask) (k:Nat) (h:k<l.length):aO (l.eraseIdx k)=aO (l.take k)++aO (l.drop (k+1)):=by
 rw [List.eraseIdx_eq_take_drop_succ,gV]
theorem aJ0:∀w,(zeroValue 43).run Tryz.prog w=.ok (.agg #[.int .i64 0,.int .i64 0,.int .i64 0,.string .empty,.int .i64 0]) w:=fun w=>by kernel_rfl
theorem aKD:(Tryz.prog.info? 43).map (fun i=>i.size)=some 5:=by kernel_rfl
theorem aBp (g N cap k:Nat) (l:List Ask) (w:World) (h:Lay w 43 g N (aO l)) (hk:k<l.length) (QT:l.length≤cap) (hl:l.length≤1048576) (hN:l.length*5≤N) :
  cP 166 #[.slice (some ⟨g,0,none⟩) l.length cap,.int .i64 (k:Int),.int .i64 ((k:Int)+1)] w fun e w'=>e=.returned (.slice (some ⟨g,0,none⟩) (l.length - 1) cap)∧Lay w' 43 g N (aO (l.eraseIdx k))∧Mks (fun b=>b=g) w w':=by
 obtain ⟨i0,hi0,hsz⟩:∃i0,Tryz.prog.info? 43=some i0∧i0.size=5:=by
  have:=aKD;cases hq:Tryz.prog.info? 43 with
  | none=>rw [hq] at this;simp at this
  | some i=>rw [hq] at this;exact ⟨i,rfl,by simpa using this⟩
 obtain ⟨n,hn⟩:∃n,l.length=n:=⟨_,rfl⟩;rw [hn] at hk QT hl hN ⊢;have HN:=aA hn;have H:=aA h;obtain ⟨news,qj⟩:∃x,aO (l.drop (k+1))=x:=⟨_,rfl⟩;have hnl:news.length=(n - (k+1))*5:=by rw [←qj,bC,List.length_drop,hn]
 have HC:=aA (show ∀j u,news[j]? = some u→w.cell? ⟨g,(k+1)*5+j,none⟩=some u from fun j u hj=>by
  refine h.cell ?_;have e:aO l=aO (l.take (k+1))++news:=by rw [←qj,←gV,List.take_append_drop]
  rw [e,List.getElem?_append_right (by rw [bC,List.length_take];omega),bC,List.length_take];rw [show (k+1)*5+j - min (k+1) l.length*5=j by omega];exact hj)
 have H1:=aA (show ∀u ∈ news,u.oneCell'=true from fun u hu=>jY _ u (by rw [qj];exact hu));have HS:=aA (show ∀j,j<news.length→(w.cell? ⟨g,0+k*5+j,none⟩).isSome=true∧w.frozen? ⟨g,0+k*5+j,none⟩=false from fun j hj=>⟨by rw [Nat.zero_add];exact h.isThere (by omega),h.frozen _⟩);have k0:(0:Int)≤k:=by omega
 have k1:(k:Int)≤(k:Int)+1:=by omega
 have k2:(k:Int)+1≤n:=by omega
 have k3:(n:Int)≤cap:=by omega
 have k4:¬(k:Int)=(k:Int)+1:=by omega
 have k5:(k:Int)≤n:=by omega
 have k6:(0:Int)≤(k:Int)+1:=by omega
 have k7:((k:Int)+1).toNat=k+1:=by omega
 have hz:(Builtin.zeroCells (Value.agg #[.int .i64 0,.int .i64 0,.int .i64 0,.string .empty,.int .i64 0]).cells 1).toList=[.int .i64 0,.int .i64 0,.int .i64 0,.string .empty,.int .i64 0]:=by kernel_rfl
 obtain ⟨W1,hW1⟩:∃W1,W1=w.drew.setCells g (0+k*5) news:=⟨_,rfl⟩;have hL1:Lay W1 43 g N (aO (l.eraseIdx k)):=by
  rw [hW1];refine h.drew.cells _ _ (by omega) _ (by rw [bC,List.length_eraseIdx_of_lt (by omega)];omega) (fun j u hj=>?_);rw [vQ l k (by omega),qj] at hj;have hcl:(aO (l.take k)).length=k*5:=by rw [bC,List.length_take];omega
  rw [Nat.zero_add];refine ⟨fun e=>?_,fun e=>?_⟩
  ·rw [List.getElem?_append_right (by omega),hcl] at hj;exact hj
  ·have hlt:=(List.getElem?_eq_some_iff.1 hj).1;rw [List.length_append,hcl] at hlt;rw [List.getElem?_append_left (by omega)] at hj;refine h.drew.cell ?_;(have e2:aO l=aO (l.take k)++aO (l.drop k):=by rw [←gV,List.take_append_drop]);rw [e2,List.getElem?_append_left (by omega)];exact hj
 have hM1:Mks (fun b=>b=g) w W1:=by rw [hW1];exact dV (S:=fun b=>b=g) rfl _ _ _ _ (.of_below (yH _ w).drew)
 have hcl:∀ty,(Builtin.clear_ #[54] ty #[.slice (some ⟨g,(k+(n - (k+1)))*5,none⟩) (n - (k+(n - (k+1)))) (cap - (k+(n - (k+1))))]).run Tryz.prog W1=.ok (.tuple #[]) (W1.setCells g ((n - 1)*5) [.int .i64 0,.int .i64 0,.int .i64 0,.string .empty,.int .i64 0]):=fun ty=>by
  rw [show n - (k+(n - (k+1)))=1 by omega,show k+(n - (k+1))=n - 1 by omega];exact aBZ W1 _ _ ty _ underlying54 aJ0 _ hz (fun v hv=>by simp at hv;rcases hv with rfl | rfl | rfl<;>rfl) g _ _ (fun j hj=>hL1.isThere (by simp at hj;omega)) (fun j hj=>hL1.frozen _)
 have HA:=aA (show Lay (W1.setCells g ((n - 1)*5) [.int .i64 0,.int .i64 0,.int .i64 0,.string .empty,.int .i64 0]) 43 g N (aO (l.eraseIdx k))∧Mks (fun b=>b=g) w (W1.setCells g ((n - 1)*5) [.int .i64 0,.int .i64 0,.int .i64 0,.string .empty,.int .i64 0]) from by
  refine ⟨hL1.cells _ _ (by simp;omega) _ (by rw [bC,List.length_eraseIdx_of_lt (by omega)];omega) (fun j u hj=>⟨fun e=>?_,fun e=>hL1.cell hj⟩),dV (S:=fun b=>b=g) rfl _ _ _ _ hM1⟩;have hlt:=(List.getElem?_eq_some_iff.1 hj).1;rw [bC,List.length_eraseIdx_of_lt (by omega)] at hlt;omega)
 have HW:=aA hW1;have j1:((k+(n - (k+1)):Nat):Int)≤n:=by omega
 have j2:k+(n - (k+1))≤n:=by omega
 have j3:¬cap=k+(n - (k+1)):=by omega
 have j4:n≤cap:=by omega
 have j6:k≤cap:=by omega
 have j7:k+1≤cap:=by omega
 have j8:k+1≤n:=by omega
 clear h hn hW1 hL1 hM1;by_cases hcc:cap=k+1
 ·subst hcc;have hnk:n=k+1:=by omega
  have DC:news.length=0*5:=by rw [hnl];omega
  have e1:k+(n - (k+1))=k:=by omega
  rw [e1] at hcl j1 j2 j3;subst hnk;rw [show k+1 - k=1 by omega] at hcl;go_enter func166,ntmps166;go_wp2_with fail;go_region_law (refine step_append_room rfl (.tmp 22) (.tmp 25) 54 rfl 43 i0 5 underlying54 hi0 hsz g 0 k (k+1) (by simp [Act.eval,Act.put]) ⟨g,0,none⟩ 0 0 news (by simp [Act.eval,Act.put]) DC (fun j u hj=>absurd (List.getElem?_eq_some_iff.1 hj).1 (by rw [DC];omega)) (uH H1) (by omega) (uH HS) ?_;rw [←uH HW])
  go_wp2;go_ret;exact ⟨rfl,uH HA⟩
 have j5:¬(k+1=cap):=by omega
 go_enter func166,ntmps166
 go_wp2_with fail
 go_region_law (refine step_append_room rfl (.tmp 22) (.tmp 25) 54 rfl 43 i0 5 underlying54 hi0 hsz g 0 k cap (by simp [Act.eval,Act.put]) ⟨g,(k+1)*5,none⟩ (n - (k+1)) (cap - (k+1)) news (by simp [Act.eval,Act.put]) hnl (fun j u hj=>by rw [Addr.add_lit];exact uH HC j u hj) (uH H1) (by omega) (uH HS) ?_;rw [←uH HW])
 go_wp2;go_ret;exact ⟨by rw [show k+(n - (k+1))=n - 1 by omega];rfl,uH HA⟩
end
section
open Go.RowKit Go.Maps
theorem aAW (x:Sls) (s:St) (nm:List UInt8) (w:World) (h:iL w x s) (hf:bH s) (hnm:nm.length≤1048576) :
    cP 162 #[sv x s,.string (bs nm)] w fun e w'=>e=.returned (rv (fQ s nm).1 (fQ s nm).2)∧Bw w w':=by
  have GJ:x.ml≤1048576:=by have:=h.len.2.2.1;have:=hf.2.2.1.1;omega
  have hcl:x.cl≤1048576:=by have:=h.len.2.2.2;have:=hf.2.2.2.1;omega
  have CM:=aA (fun wx (hb:Bw w wx)=>qP x s wx (h.2.2.1.below hb) GJ (fun m hm=>hf.2.2.1.2 m hm));have CU:=aA (fun wx (hb:Bw w wx)=>aAS x s nm wx (h.2.2.2.below hb) hcl);obtain ⟨kl,GG⟩:=aAx (nm:=nm) (k:=0) (by omega) (by decide);have QD:=aA GG;have zk:=aA (show fQ s nm=match bI nm s.ms with | none=>(0,0) | some m=>aCe m.mem m.cpu (gZ s nm).1 (gZ s nm).2 from rfl);obtain ⟨⟨ux,uy⟩,hu⟩:∃u,gZ s nm=u:=⟨_,rfl⟩;obtain ⟨⟨fx,fy⟩,hfr⟩:∃u,fQ s nm=u:=⟨_,rfl⟩;rw [hu] at CU zk;rw [hfr] at zk ⊢;clear h hf hu hfr GG;obtain ⟨qa,ql,qc,aa,al,ac,ma,ml,mc,ca,cl,cc⟩:=x;obtain ⟨qs,cv,ez,nv,sj,aj,ms,cs⟩:=s;simp only at zk;have HB0:=aA (dM w (svc ⟨qa,ql,qc,aa,al,ac,ma,ml,mc,ca,cl,cc⟩ ⟨qs,cv,ez,nv,sj,aj,ms,cs⟩));have V0:=aA (jL w (svc ⟨qa,ql,qc,aa,al,ac,ma,ml,mc,ca,cl,cc⟩ ⟨qs,cv,ez,nv,sj,aj,ms,cs⟩));have P0:=aA ((gB w (svc ⟨qa,ql,qc,aa,al,ac,ma,ml,mc,ca,cl,cc⟩ ⟨qs,cv,ez,nv,sj,aj,ms,cs⟩)).al (.cells #[.int .i64 0,.int .i64 0] 33));go_enter func162,ntmps162;go_wp2_with fail;refine (uH CM _ (uH HB0)).mono ?_;rintro e w1 ⟨bm,rfl,⟨Xw,D,Hz,hk⟩,hb⟩;have hlk:=aJr Hz hk (uH QD);have HB1:=aA (yB (uH HB0) hb);have V1:=aA ((uH V0).below hb);have P1:=aA ((uH P0).below hb);clear hb HB0 V0 P0 CM Hz hk Xw;cases hfm:bI nm ms with
  | none=>rw [hfm] at hlk zk;simp only at zk;have hz:=uH zk;simp only [Prod.mk.injEq] at hz;obtain ⟨rfl,rfl⟩:=hz;rw [show (none:Option Mac).getD ⟨[],0,0,0⟩=⟨[],0,0,0⟩ from rfl,show (none:Option Mac).isSome=false from rfl] at hlk;have V2:=(uH V1).al (uX ⟨[],0,0,0⟩);have t0:=V2.c0;have t1:=V2.c1;have f0:=V2.f 0;have f1:=V2.f 1;have k4:=V2.s0 (.int .i64 0);have k5:=V2.s1 (.int .i64 0) (.int .i64 0);clear V2;go_wp2;refine bodyPost_ret (v:=rv 0 0) (by simp [results,results162,go_sem,k4,k5]) rfl ⟨rfl,?_⟩;repeat (first | exact uH HB1 | refine yA ?_ _ | refine yC ?_ _ _ _ (by omega))
  | some m=>
    rw [hfm] at hlk zk;rw [show (some m).getD ⟨[],0,0,0⟩=m from rfl,show (some m).isSome=true from rfl] at hlk;obtain ⟨mn,me,mp,se⟩:=m;simp only at zk;have FI:=aA (show kY (-1) me mp ux uy=rv fx fy by rw [aCd,←uH zk]);have CB:=aA (fun wx=>by have:=qV me mp ux uy wx;rw [uH FI] at this;exact this);obtain ⟨ok,hok⟩:∃o,aN (-1) me mp ux uy=o:=⟨_,rfl⟩;rw [hok] at CB;clear hok FI zk hfm;obtain ⟨L,R,VR,h0⟩:∃L:List (Nat×Array Value×TypeId),(∀wx,aJI w (w1.heap.size+1) L wx→wx.cell? ⟨w1.heap.size,1,none⟩=some (.int .i64 me)∧wx.cell? ⟨w1.heap.size,2,none⟩=some (.int .i64 mp)∧wx.cell? ⟨w.heap.size,0,none⟩=some (.slice qa ql qc)∧wx.cell? ⟨w.heap.size,1,none⟩=some (.int .i64 cv)∧wx.cell? ⟨w.heap.size,2,none⟩=some (.int .i64 ez)∧wx.cell? ⟨w.heap.size,3,none⟩=some (.int .i64 nv)∧wx.cell? ⟨w.heap.size,4,none⟩=some (.int .i64 sj)∧wx.cell? ⟨w.heap.size,5,none⟩=some (.slice aa al ac)∧wx.cell? ⟨w.heap.size,6,none⟩=some (.slice ma ml mc)∧wx.cell? ⟨w.heap.size,7,none⟩=some (.slice ca cl cc))
        ∧(∀wx,aJI w (w1.heap.size+1) L wx→Var wx 33 (w.heap.size+1) 0 0)∧aJI w (w1.heap.size+1) L (w1.alloc (uX ⟨mn,me,mp,se⟩)):=by
      have l1:=(uH V1).lt;have l2:=(uH P1).lt;refine ⟨[(w.heap.size,svc ⟨qa,ql,qc,aa,al,ac,ma,ml,mc,ca,cl,cc⟩ ⟨qs,cv,ez,nv,sj,aj,ms,cs⟩,29),(w.heap.size+1,#[.int .i64 0,.int .i64 0],33),(w1.heap.size,#[.string (bs mn),.int .i64 me,.int .i64 mp,.int .i64 se],103)],fun wx h=>?_,fun wx h=>?_,?_⟩
      · have a:=h.blk (p:=(w.heap.size,svc ⟨qa,ql,qc,aa,al,ac,ma,ml,mc,ca,cl,cc⟩ ⟨qs,cv,ez,nv,sj,aj,ms,cs⟩,29)) (by simp);have b:=h.blk (p:=(w1.heap.size,#[.string (bs mn),.int .i64 me,.int .i64 mp,.int .i64 se],103)) (by simp);exact ⟨b.at 1,b.at 2,a.at 0,a.at 1,a.at 2,a.at 3,a.at 4,a.at 5,a.at 6,a.at 7⟩
      · exact (h.blk (p:=(w.heap.size+1,#[.int .i64 0,.int .i64 0],33)) (by simp)).var
      · refine ⟨fun p hp=>?_,by rw [yE];omega,by omega,yA (uH HB1) _⟩;simp only [List.mem_cons,List.not_mem_nil,or_false] at hp;rcases hp with rfl | rfl | rfl
        · exact ⟨by simp only;omega,(uH P1).al _⟩
        · exact ⟨by simp only;omega,(uH V1).blk.al _⟩
        · exact ⟨by simp only;omega,yD _ _ _⟩
    have A0:=aA h0;have HS:=aA (aFm w (w1.heap.size+1) L);clear h0;(go_wp2_with fail);(go_cut [7,8] from 20 to 28 (fun v7 v8 wx=>∃g,v7=.pointer (some ⟨g,0,none⟩)∧v8=.bool ok∧aJI w (w1.heap.size+1) L wx∧Var wx 33 g fx fy∧w1.heap.size+1≤g));case first=>
      go_region_held3 (fun wx=>aJI w (w1.heap.size+1) L wx)
        (first | (with_reducible assumption) | exact uH SA | exact (uH HS).drew (uH A0) | exact (uH HS).al (uH SA) _ | exact (uH HS).al (by assumption) _ | exact (uH HS).al ((uH HS).drew (uH A0)) _ | exact (uH HS).call (by assumption) (by assumption) | exact (uH HS).set2 (uH SA) _ _ _ (by first | omega | (simp<;>omega)) | exact (uH HS).set2 (by assumption) _ _ _ (by first | omega | (simp<;>omega)))
        (first
        | (go_at_call 210;refine (uH CU _ ?_).mono ?_;(exact (uH HS).below (by assumption));rintro e wt ⟨rfl,hb⟩;have SA:=aA ((uH HS).call (by assumption) hb);have sz:=(uH HS).size (uH SA)
           first
             | (have V5:=(aK _ 33 0 0).below hb;(try simp at V5);have c50:=V5.c0;have c51:=V5.c1;have f50:=V5.f 0;have f51:=V5.f 1;have V5:=aA V5)
             | (have V5:=(aK _ 33 0 0).drew.below hb;(try simp at V5);have c50:=V5.c0;have c51:=V5.c1;have f50:=V5.f 0;have f51:=V5.f 1;have V5:=aA V5)
             | skip)
        | (go_at_call 142;refine (uH CB _).mono ?_;rintro e wt ⟨rfl,hb⟩;have SA:=aA ((uH HS).call (by assumption) hb);have sz:=(uH HS).size (uH SA)
           first
             | (have V5:=(aK _ 33 0 0).below hb;(try simp at V5);have c50:=V5.c0;have c51:=V5.c1;have f50:=V5.f 0;have f51:=V5.f 1;have V5:=aA V5)
             | (have V5:=(aK _ 33 0 0).drew.below hb;(try simp at V5);have c50:=V5.c0;have c51:=V5.c1;have f50:=V5.f 0;have f51:=V5.f 1;have V5:=aA V5)
             | (have V5:=aA ((uH V5).below hb);have c50:=(uH V5).c0;have c51:=(uH V5).c1;have f50:=(uH V5).f 0;have f51:=(uH V5).f 1)
             | skip))
      all_goals
        (go_wp2_with fail);go_meet;exact ⟨_,rfl,rfl,by first | assumption | exact uH SA | exact (uH HS).al (uH SA) _,by first | exact aK _ _ _ _ | exact (uH V5).set _ _,by first | omega | (simp<;>omega)⟩
    case rest=>obtain ⟨g,rfl,rfl,hA,hV,hg⟩:=hcut;have HB2:=aA ((uH HS).below hA);have v0:=hV.c0;have v1:=hV.c1;have V2:=VR _ hA;have t0:=V2.c0;have t1:=V2.c1;have f0:=V2.f 0;have f1:=V2.f 1;have k4:=V2.s0 (.int .i64 fx);have k5:=V2.s1 (.int .i64 fx) (.int .i64 fy);clear hA hV A0 CB CU R VR V2 V1 P1 HB1;go_wp2;refine bodyPost_ret (v:=rv fx fy) (by simp [results,results162,go_sem,k4,k5]) rfl ⟨rfl,?_⟩;repeat (first | exact uH HB2 | refine yA ?_ _ | refine yC ?_ _ _ _ (by omega))
end
section
open Go.RowKit
theorem aAD (x:Sls) (s:St) (nd:List UInt8) (w:World) (h:dC w x.ca x.cl s.cs) (hl:x.cl≤1048576) :
  cP 145 #[sv x s,.string (bs nd)] w fun e w'=>e=.returned (rv (iY (aP (fun q=>decide (q.node=nd)) s.cs)).1 (iY (aP (fun q=>decide (q.node=nd)) s.cs)).2.1)∧Bw w w':=by
 have hlc:(aP (fun q=>decide (q.node=nd)) s.cs).length≤1048576:=by have:=h.1;have:(aP (fun q:Con=>decide (q.node=nd)) s.cs).length≤s.cs.length:=(by simp only [aP,List.length_map];exact List.length_filter_le _ _);omega
 have HR:=aA h;clear h;obtain ⟨⟨sx,sy,so⟩,hs⟩:∃y,iY (aP (fun q=>decide (q.node=nd)) s.cs)=y:=⟨_,rfl⟩;have CC:=aA (fun wx (hb:Bw w wx)=>aCj x s nd wx ((uH HR).below hb) hl);have CS:=aA (fun ao cap wx (h:aGH wx ao (aP (fun q=>decide (q.node=nd)) s.cs).length (aP (fun q=>decide (q.node=nd)) s.cs))=>by have:=mM ao _ cap (aP (fun q=>decide (q.node=nd)) s.cs) wx h hlc;rw [hs] at this;exact this);rw [hs];clear hs;obtain ⟨qa,ql,qc,aa,al,ac,ma,ml,mc,ca,cl,cc⟩:=x;obtain ⟨qs,cv,ez,nv,sj,aj,ms,cs⟩:=s;simp only at CC CS hlc;go_enter func145,ntmps145;go_wp2_with fail;refine (uH CC _ (dM w _)).mono ?_;rintro e w1 ⟨v,rfl,ho,hb⟩;obtain ⟨ao,cp,rfl,Hq,_⟩:=ho.row;have V1:=(jL w _).below hb;have GQ:=aA V1;have HB1:=aA (yB (dM w _) hb);have GX:=aA Hq;obtain ⟨n,hn⟩:∃n,(aP (fun q=>decide (q.node=nd)) cs).length=n:=⟨_,rfl⟩;rw [hn] at CS GX ⊢;clear hb V1 CC ho Hq hn hlc;go_wp2_with fail;refine (uH CS _ _ _ (uH GX)).mono ?_;rintro e w2 ⟨rfl,hb⟩;have V1:=(uH GQ).below hb;have HB2:=aA (yB (uH HB1) hb);have V2:=V1.al (.cells #[.int .i64 sx,.int .i64 sy] 33);have t0:=V2.c0;have t1:=V2.c1;have f0:=V2.f 0;have f1:=V2.f 1;have VG:=V2.set sx sy;have k6:=VG.c0;have k7:=VG.c1;clear hb V1 V2 VG CS GQ HB1 GX;go_wp2;refine bodyPost_ret (v:=rv sx sy) (by simp [results,results145,go_sem,k6,k7]) rfl ⟨rfl,?_⟩;repeat (first | exact uH HB2 | refine yA ?_ _ | refine yC ?_ _ _ _ (by omega))
theorem iL.cl {w:World} {x:Sls} {s:St} (h:iL w x s) (hf:bH s):x.cl≤1048576:=by have:=h.len.2.2.2;have:=hf.2.2.2.1;omega
theorem aCJ (x:Sls) (s:St) (nd:List UInt8) (w:World) (h:dC w x.ca x.cl s.cs) (hl:x.cl≤1048576) :
  cP 145 #[sv x s,.string (bs nd)] w fun e w'=>e=.returned (rv (gZ s nd).1 (gZ s nd).2)∧Bw w w':=aAD x s nd w h hl
end
section
open Go.RowKit Go.Maps
theorem qC (x:Sls) (s:St) (nm:List UInt8) (w:World) (h:iL w x s) (hf:bH s) :
    cP 84 #[sv x s,.string (bs nm)] w fun e w'=>e=.returned (rv (fQ s nm).1 (fQ s nm).2)∧Bw w w':=by
  have GJ:x.ml≤1048576:=by have:=h.len.2.2.1;have:=hf.2.2.1.1;omega
  have hcl:x.cl≤1048576:=by have:=h.len.2.2.2;have:=hf.2.2.2.1;omega
  have CM:=aA (fun wx (hb:Bw w wx)=>kE x s nm wx (h.2.2.1.below hb) GJ);have CU:=aA (fun wx (hb:Bw w wx)=>aCJ x s nm wx (h.2.2.2.below hb) hcl);have zk:=aA (show fQ s nm=match bI nm s.ms with | none=>(0,0) | some m=>aCe m.mem m.cpu (gZ s nm).1 (gZ s nm).2 from rfl);have UU:=aA (fun wx (hb:Bw w wx)=>h.2.2.1.below hb);have J8:=aA h.2.2.1.1;have hat:=pQ nm s.ms;obtain ⟨⟨ux,uy⟩,hu⟩:∃u,gZ s nm=u:=⟨_,rfl⟩;obtain ⟨⟨fx,fy⟩,hfr⟩:∃u,fQ s nm=u:=⟨_,rfl⟩;obtain ⟨at0,ha⟩:∃p,yN s.ms nm=p:=⟨_,rfl⟩;rw [hu] at CU zk;rw [hfr] at zk ⊢;rw [ha] at CM hat;clear h hf hu hfr ha;obtain ⟨qa,ql,qc,aa,al,ac,ma,ml,mc,ca,cl,cc⟩:=x;obtain ⟨qs,cv,ez,nv,sj,aj,ms,cs⟩:=s;simp only at zk UU J8 hat;have HB0:=aA (dM w (svc ⟨qa,ql,qc,aa,al,ac,ma,ml,mc,ca,cl,cc⟩ ⟨qs,cv,ez,nv,sj,aj,ms,cs⟩));have V0:=aA (jL w (svc ⟨qa,ql,qc,aa,al,ac,ma,ml,mc,ca,cl,cc⟩ ⟨qs,cv,ez,nv,sj,aj,ms,cs⟩));have P0:=aA ((gB w (svc ⟨qa,ql,qc,aa,al,ac,ma,ml,mc,ca,cl,cc⟩ ⟨qs,cv,ez,nv,sj,aj,ms,cs⟩)).al (.cells #[.int .i64 0,.int .i64 0] 33));go_enter func84,ntmps84;go_wp2_with fail;refine (uH CM _ (uH HB0)).mono ?_;rintro e w1 ⟨rfl,hb⟩;have HB1:=aA (yB (uH HB0) hb);have V1:=aA ((uH V0).below hb);have P1:=aA ((uH P0).below hb);clear hb HB0 V0 P0 CM;rcases hat with ⟨hfm,rfl⟩ | ⟨j,hj,hfm,rfl⟩
  · rw [hfm] at zk;simp only at zk;have hz:=uH zk;simp only [Prod.mk.injEq] at hz;obtain ⟨rfl,rfl⟩:=hz;have V2:=uH V1;have t0:=V2.c0;have t1:=V2.c1;have f0:=V2.f 0;have f1:=V2.f 1;have k4:=V2.s0 (.int .i64 0);have k5:=V2.s1 (.int .i64 0) (.int .i64 0);clear V2;go_wp2;refine bodyPost_ret (v:=rv 0 0) (by simp [results,results84,go_sem,k4,k5]) rfl ⟨rfl,?_⟩;repeat (first | exact uH HB1 | refine yA ?_ _ | refine yC ?_ _ _ _ (by omega))
  · rw [hfm] at zk;(have hjl:j<ml:=by have:=uH J8;omega);obtain ⟨mb,mo,rfl,hq⟩:=(uH UU _ (uH HB1)).at hjl;have HQ:=aA (hq hj);obtain ⟨⟨mn,me,mp,se⟩,hs⟩:∃m,ms[j]=m:=⟨_,rfl⟩;rw [hs] at HQ zk;simp only at zk;have FI:=aA (show kY (-1) me mp ux uy=rv fx fy by rw [aCd,←uH zk]);have CB:=aA (fun wx=>by have:=aD7 me mp ux uy wx;rw [uH FI] at this;exact this);obtain ⟨ok,hok⟩:∃o,aN (-1) me mp ux uy=o:=⟨_,rfl⟩;rw [hok] at CB;(have j0:(0:Int)≤j:=by omega);(have j1:(j:Int)<ml:=by omega);clear hok FI zk hfm hq hs hj;have R:∀wx,Kp w1 wx→wx.cell? ⟨w.heap.size,0,none⟩=some (.slice qa ql qc)∧wx.cell? ⟨w.heap.size,1,none⟩=some (.int .i64 cv)∧wx.cell? ⟨w.heap.size,2,none⟩=some (.int .i64 ez)∧wx.cell? ⟨w.heap.size,3,none⟩=some (.int .i64 nv)∧wx.cell? ⟨w.heap.size,4,none⟩=some (.int .i64 sj)∧wx.cell? ⟨w.heap.size,5,none⟩=some (.slice aa al ac)∧wx.cell? ⟨w.heap.size,6,none⟩=some (.slice (some ⟨mb,mo,none⟩) ml mc)∧wx.cell? ⟨w.heap.size,7,none⟩=some (.slice ca cl cc)∧wx.cell? ⟨mb,mo+j*4+1,none⟩=some (.int .i64 me)∧wx.cell? ⟨mb,mo+j*4+2,none⟩=some (.int .i64 mp):=fun wx h=>
      ⟨h.cell ((uH P1).at 0),h.cell ((uH P1).at 1),h.cell ((uH P1).at 2),h.cell ((uH P1).at 3),h.cell ((uH P1).at 4),h.cell ((uH P1).at 5),h.cell ((uH P1).at 6),h.cell ((uH P1).at 7),h.cell (uH HQ).2.1,h.cell (uH HQ).2.2.1⟩
    have A0:=aA (Kp.new w1);have HS:=aA (bK w1);have hw1:=(uH V1).lt;(go_wp2_with fail);(go_cut [6,7] from 14 to 26 (fun v7 v8 wx=>∃g,v7=.pointer (some ⟨g,0,none⟩)∧v8=.bool ok∧Kp w1 wx∧Var wx 33 g fx fy∧w1.heap.size≤g));case first=>
      go_region_held3 (fun wx=>Kp w1 wx)
        (first | (with_reducible assumption) | exact uH SA | exact (uH HS).drew (uH A0) | exact (uH HS).al (uH SA) _ | exact (uH HS).al (by assumption) _ | exact (uH HS).al ((uH HS).drew (uH A0)) _ | exact (uH HS).call (by assumption) (by assumption) | exact (uH HS).set2 (uH SA) _ _ _ (by first | omega | (simp<;>omega)) | exact (uH HS).set2 (by assumption) _ _ _ (by first | omega | (simp<;>omega)))
        (first
        | (go_at_call 145;refine (uH CU _ ?_).mono ?_;(exact yB (uH HB1) ((uH HS).below (by assumption)));rintro e wt ⟨rfl,hb⟩;have SA:=aA ((uH HS).call (by assumption) hb);have sz:=(uH HS).size (uH SA)
           first
             | (have V5:=(aK _ 33 0 0).below hb;(try simp at V5);have c50:=V5.c0;have c51:=V5.c1;have f50:=V5.f 0;have f51:=V5.f 1;have V5:=aA V5)
             | (have V5:=(aK _ 33 0 0).drew.below hb;(try simp at V5);have c50:=V5.c0;have c51:=V5.c1;have f50:=V5.f 0;have f51:=V5.f 1;have V5:=aA V5)
             | skip)
        | (go_at_call 144;refine (uH CB _).mono ?_;rintro e wt ⟨rfl,hb⟩;have SA:=aA ((uH HS).call (by assumption) hb);have sz:=(uH HS).size (uH SA)
           first
             | (have V5:=(aK _ 33 0 0).below hb;(try simp at V5);have c50:=V5.c0;have c51:=V5.c1;have f50:=V5.f 0;have f51:=V5.f 1;have V5:=aA V5)
             | (have V5:=(aK _ 33 0 0).drew.below hb;(try simp at V5);have c50:=V5.c0;have c51:=V5.c1;have f50:=V5.f 0;have f51:=V5.f 1;have V5:=aA V5)
             | (have V5:=aA ((uH V5).below hb);have c50:=(uH V5).c0;have c51:=(uH V5).c1;have f50:=(uH V5).f 0;have f51:=(uH V5).f 1)
             | skip))
      all_goals
        (go_wp2_with fail);go_meet;exact ⟨_,rfl,rfl,by first | assumption | exact uH SA | exact (uH HS).al (uH SA) _,by first | exact aK _ _ _ _ | exact (uH V5).set _ _,by first | omega | (simp<;>omega)⟩
    case rest=>obtain ⟨g,rfl,rfl,hA,hV,hg⟩:=hcut;have HB2:=aA (yB (uH HB1) hA);have v0:=hV.c0;have v1:=hV.c1;have V2:=(uH V1).below hA;have t0:=V2.c0;have t1:=V2.c1;have f0:=V2.f 0;have f1:=V2.f 1;have k4:=V2.s0 (.int .i64 fx);have k5:=V2.s1 (.int .i64 fx) (.int .i64 fy);clear hA hV A0 CB CU R V2 V1 P1 HB1;go_wp2;refine bodyPost_ret (v:=rv fx fy) (by simp [results,results84,go_sem,k4,k5]) rfl ⟨rfl,?_⟩;repeat (first | exact uH HB2 | refine yA ?_ _ | refine yC ?_ _ _ _ (by omega))
end
end Go.Proofs.YtfndhndlkcijoaaGreat
