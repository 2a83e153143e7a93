/-
  Several texts of this claim in one, made short by program: BsI, Held, HmI, OkA, CountI, OkB, OkC.
-/
import Derived.Test.YtdhibeclkdepiaaGreatPackL
set_option maxRecDepth 100000
set_option maxHeartbeats 16000000
set_option linter.unusedVariables false
set_option linter.unusedSimpArgs false
namespace Go.Proofs.YtdhibeclkdepiaaGreat
section
open Go.RowKit
def cmpI (a b:Int):Int:=if a<b then -1 else if b<a then 1 else 0
theorem isNaN_any (a:Int) (w:World):Calls Tryz.prog 138 #[.int .i64 a] w fun e w'=>e=.returned (.bool false)∧w=w':=by
 go_enter Tryz.func138,Tryz.ntmps138
 go_wp2
 go_ret
 exact ⟨rfl,rfl⟩
theorem ccompare_any (a b:Int) (w:World):Calls Tryz.prog 110 #[.int .i64 a,.int .i64 b] w fun e w'=>e=.returned (.int .i64 (cmpI a b))∧w=w':=by
 have hc:cmpI a b=if a<b then -1 else if b<a then 1 else 0:=rfl
 have C1:=hide (isNaN_any a w)
 have C2:=hide (isNaN_any b w)
 by_cases h1:a<b
 ·rw [if_pos h1] at hc
  rw [hc]
  clear hc
  go_enter Tryz.func110,Tryz.ntmps110
  go_wp2_with fail
  refine (uH C1).mono ?_
  rintro e w1 ⟨rfl,rfl⟩
  go_wp2_with fail
  refine (uH C2).mono ?_
  rintro e w2 ⟨rfl,rfl⟩
  go_wp2
  go_ret
  exact ⟨rfl,rfl⟩
 ·rw [if_neg h1] at hc
  by_cases h2:b<a
  ·rw [if_pos h2] at hc
   rw [hc]
   clear hc
   go_enter Tryz.func110,Tryz.ntmps110
   go_wp2_with fail
   refine (uH C1).mono ?_
   rintro e w1 ⟨rfl,rfl⟩
   go_wp2_with fail
   refine (uH C2).mono ?_
   rintro e w2 ⟨rfl,rfl⟩
   go_wp2
   go_ret
   exact ⟨rfl,rfl⟩
  ·rw [if_neg h2] at hc
   rw [hc]
   clear hc
   go_enter Tryz.func110,Tryz.ntmps110
   go_wp2_with fail
   refine (uH C1).mono ?_
   rintro e w1 ⟨rfl,rfl⟩
   go_wp2_with fail
   refine (uH C2).mono ?_
   rintro e w2 ⟨rfl,rfl⟩
   go_wp2
   go_ret
   exact ⟨rfl,rfl⟩
theorem cplFn_any (c:Con) (id:Int) (w:World):Calls Tryz.prog 109 #[.agg #[.int .i64 c.id,.int .i64 c.app,.string (bs c.node),.int .i64 c.mem,.int .i64 c.cpu],.int .i64 id] w fun e w'=>e=.returned (.int .i64 (cmpI c.id id))∧Below w.heap.size w w':=by
 have C:=hide (fun wx=>ccompare_any c.id id wx)
 obtain ⟨o,ho⟩:∃o,cmpI c.id id=o:=⟨_,rfl⟩
 rw [ho] at C ⊢
 obtain ⟨ci,cap,cn,me,cp⟩:=c
 simp only at C ho
 clear ho
 go_enter Tryz.func109,Tryz.ntmps109
 go_wp2_with fail
 refine (uH C _).mono ?_
 rintro e w1 ⟨rfl,rfl⟩
 go_wp2
 go_ret
 exact ⟨rfl,yA (Below.refl _ _) _⟩
def AscC (l:List Con):Prop:=∀i j (hi:i<l.length) (hj:j<l.length),i<j→l[i].id<l[j].id
def SrAns (l:List Con) (id:Int) (n:Nat) (w:World) (e:Ending) (w':World):Prop:=
 ∃(p:Nat) (f:Bool),e=.returned (.tuple #[.int .i64 (p:Int),.bool f])∧p≤l.length∧(∀i (hi:i<l.length),i<p→l[i].id<id)∧(∀i (hi:i<l.length),p≤i→id≤l[i].id)∧(f=true↔∃c ∈ l,c.id=id)∧Below n w w'
theorem csearch_any (ao:Option Addr) (len cap:Nat) (l:List Con) (id:Int) (w:World) (h:ConRow w ao len l) (hl:len≤1048576) (ha:AscC l) :
  Calls Tryz.prog 108 #[.slice ao len cap,.int .i64 id,.func (.func 109) #[] #[]] w (SrAns l id w.heap.size w):=by
 have HR:=hide h
 have HL:=hide h.1
 have HA:=hide ha
 have C:=hide (fun c wx=>cplFn_any c id wx)
 clear h ha
 go_enter Tryz.func108,Tryz.ntmps108
 go_wp2
 go_loopw [9,10,11] (fun i j _ wr=>∃a b:Nat,a≤b∧b≤len∧i=.int .i64 a∧j=.int .i64 b∧Hid (∀k (hk:k<l.length),k<a→l[k].id<id)∧Hid (∀k (hk:k<l.length),b≤k→id≤l[k].id)∧Hid (Below w.heap.size w wr)) (fun i j _ _=>(intOf j).toNat - (intOf i).toNat)
 case atStart=>exact ⟨0,len,Nat.zero_le _,Nat.le_refl _,rfl,rfl,hide (fun k _ h=>absurd h (by omega)),hide (fun k hk h=>absurd hk (by have:=uH HL;omega)),hide (Below.refl _ _)⟩
 case round=>
  obtain ⟨a,b,hab,hbl,rfl,rfl,H1,H2,HB⟩:=hrel
  by_cases hlt:a<b
  ·obtain ⟨m,hm⟩:∃m:Nat,(a+b) / 2=m:=⟨_,rfl⟩
   have hq:((a:Int)+(b:Int)) / 2=(m:Int):=by omega
   have hma:a≤m:=by omega
   have hmb:m<b:=by omega
   have hml:m<len:=by omega
   obtain ⟨bb,off,rfl,hat⟩:=((uH HR).below (uH HB)).at hml
   have hmk:m<l.length:=by have:=uH HL;omega
   obtain ⟨c0,c1,c2,c3,c4⟩:=hat hmk
   have H1b:=hide (show l[m].id<id→∀k (hk:k<l.length),k<m+1→l[k].id<id from fun hx k hk hkm=>by
    by_cases e:k=m
    ·subst e;exact hx
    ·have:=uH HA k m hk hmk (by omega);omega)
   have H2b:=hide (show id≤l[m].id→∀k (hk:k<l.length),m≤k→id≤l[k].id from fun hx k hk hkm=>by
    by_cases e:k=m
    ·subst e;exact hx
    ·have:=uH HA m k hmk hk (by omega);omega)
   obtain ⟨c,hc⟩:∃c,l[m]=c:=⟨_,rfl⟩
   rw [hc] at c0 c1 c2 c3 c4 H1b H2b
   have C1:=hide (uH C c)
   have m0:(0:Int)≤m:=by omega
   have m1:(m:Int)<len:=by omega
   obtain ⟨ci,cap',cn,me,cp⟩:=c
   simp only at c0 c1 c2 c3 c4 C1 H1b H2b
   clear hat hc hm hmk
   by_cases hci:ci<id
   ·have hr:cmpI ci id = -1:=by rw [cmpI,if_pos hci]
    rw [hr] at C1
    have HN:=hide (uH H1b hci)
    clear hr H1b H2b
    go_wp2_with fail
    refine (uH C1 _).mono ?_
    rintro e w2 ⟨rfl,hb⟩
    have HB2:=hide (yB (uH HB) hb)
    clear hb
    go_wp2
    go_roundw
    case rel=>exact ⟨m+1,b,by omega,hbl,by go_num,rfl,HN,H2,HB2⟩
    case measure=>simp [intOf];omega
   ·obtain ⟨r,hr⟩:∃r,cmpI ci id=r:=⟨_,rfl⟩
    have hr0:¬r<0:=by rw [←hr,cmpI,if_neg hci];split<;>omega
    rw [hr] at C1
    have HN:=hide (uH H2b (by omega))
    clear hr H1b H2b
    go_wp2_with fail
    refine (uH C1 _).mono ?_
    rintro e w2 ⟨rfl,hb⟩
    have HB2:=hide (yB (uH HB) hb)
    clear hb
    go_wp2
    go_roundw
    case rel=>exact ⟨a,m,hma,by omega,rfl,rfl,H1,HN,HB2⟩
    case measure=>simp [intOf];omega
  ·obtain rfl:a=b:=by omega
   by_cases hal:a<len
   ·obtain ⟨bb,off,rfl,hat⟩:=((uH HR).below (uH HB)).at hal
    have hmk:a<l.length:=by have:=uH HL;omega
    obtain ⟨c0,c1,c2,c3,c4⟩:=hat hmk
    have HF:=hide (show (∃c ∈ l,c.id=id)↔l[a].id=id from ⟨fun ⟨c,hc,e⟩=>by
     obtain ⟨k,hk,rfl⟩:=List.mem_iff_getElem.1 hc
     by_cases e1:k<a
     ·have:=uH H1 k hk e1;omega
     ·by_cases e2:k=a
      ·subst e2;exact e
      ·have h1:=uH HA a k hmk hk (by omega)
       have h2:=uH H2 a hmk (Nat.le_refl _)
       omega,fun e=>⟨_,List.getElem_mem hmk,e⟩⟩)
    have HG:=hide (uH H2 a hmk (Nat.le_refl _))
    obtain ⟨c,hc⟩:∃c,l[a]=c:=⟨_,rfl⟩
    rw [hc] at c0 c1 c2 c3 c4 HF HG
    have C1:=hide (uH C c)
    obtain ⟨ci,cap',cn,me,cp⟩:=c
    simp only at c0 c1 c2 c3 c4 C1 HF HG
    obtain ⟨r,hr⟩:∃r,cmpI ci id=r:=⟨_,rfl⟩
    have hr1:r=0↔ci=id:=by
     have:=uH HG
     rw [←hr,cmpI,if_neg (by omega)]
     split<;>omega
    rw [hr] at C1
    have HR1:=hide hr1
    have m0:(0:Int)≤a:=by omega
    have m1:(a:Int)<len:=by omega
    have hpl:a≤l.length:=by omega
    clear hat hc hmk hr hr1
    by_cases hz:r=0
    ·subst hz
     go_wp2_with fail
     refine (uH C1 _).mono ?_
     rintro e w2 ⟨rfl,hb⟩
     have HB2:=hide (yB (uH HB) hb)
     clear hb
     have HZ:=hide (show SrAns l id w.heap.size w _ w2 from ⟨a,true,rfl,hpl,uH H1,uH H2,⟨fun _=>(uH HF).2 ((uH HR1).1 (by first | rfl | trivial)),fun _=>rfl⟩,uH HB2⟩)
     go_wp2
     refine bodyPost_ret (v:=.tuple #[.int .i64 (a:Int),.bool true]) (by simp [results,Tryz.results108,go_sem]) rfl (uH HZ)
    ·go_wp2_with fail
     refine (uH C1 _).mono ?_
     rintro e w2 ⟨rfl,hb⟩
     have HB2:=hide (yB (uH HB) hb)
     clear hb
     have HZ:=hide (show SrAns l id w.heap.size w _ w2 from ⟨a,false,rfl,hpl,uH H1,uH H2,⟨fun h=>absurd h Bool.false_ne_true,fun h=>absurd ((uH HR1).2 ((uH HF).1 h)) hz⟩,uH HB2⟩)
     go_wp2
     refine bodyPost_ret (v:=.tuple #[.int .i64 (a:Int),.bool false]) (by simp [results,Tryz.results108,go_sem,hz]) rfl (uH HZ)
   ·have hal2:¬(a:Int)<len:=by omega
    have hpl:a≤l.length:=by have:=uH HL;omega
    have HNO:=hide (show ¬ ∃c ∈ l,c.id=id by
     rintro ⟨c,hc,e⟩
     obtain ⟨k,hk,rfl⟩:=List.mem_iff_getElem.1 hc
     have h9:=uH HL
     have h8:=uH H1 k hk (by omega)
     omega)
    have HZ:=hide (fun wx (hb:Below w.heap.size w wx)=>show SrAns l id w.heap.size w _ wx from ⟨a,false,rfl,hpl,uH H1,uH H2,⟨fun h=>absurd h Bool.false_ne_true,fun h=>absurd h (uH HNO)⟩,hb⟩)
    go_wp2
    refine bodyPost_ret (v:=.tuple #[.int .i64 (a:Int),.bool false]) (by simp [results,Tryz.results108,go_sem]) rfl (uH HZ _ (uH HB))
theorem contPlace_any (x:Sls) (s:St) (id:Int) (w:World) (h:SRow w x s) (hf:FitSt s) (ha:AscC s.cs) :
  Calls Tryz.prog 71 #[sv x s,.int .i64 id] w (SrAns s.cs id w.heap.size w):=by
 have hcl:x.cl≤1048576:=by have:=h.len.2.2.2;have:=hf.2.2.2.1;omega
 have hb0:=yA (Below.refl _ w) (.cells (svc x s) 34)
 have C:=hide (csearch_any x.ca x.cl x.cc s.cs id _ (h.2.2.2.below hb0) hcl ha)
 have HB0:=hide hb0
 clear h hf ha hb0
 obtain ⟨qa,ql,qc,aa,al,ac,ma,ml,mc,ca,cl,cc⟩:=x
 obtain ⟨qs,clock,epoch,next,serial,apps,ms,cs⟩:=s
 simp only at C ⊢
 have hmf:∀(fn:Fn) (first cap:Array Value) (w:World),(Instr.makeFunc fn first cap).run Tryz.prog w=.ok (.func fn first cap) w:=fun _ _ _ _=>rfl
 go_enter Tryz.func71,Tryz.ntmps71
 go_wp2_with fail
 refine (uH C).mono ?_
 rintro e w1 ⟨p,f,rfl,h1,h2,h3,h4,hb⟩
 have HZ:=hide (show SrAns cs id w.heap.size w _ w1 from ⟨p,f,rfl,h1,h2,h3,h4,yB (uH HB0) hb⟩)
 clear h1 h2 h3 h4 hb C HB0
 go_wp2
 refine bodyPost_ret (v:=.tuple #[.int .i64 (p:Int),.bool f]) (by simp [results,Tryz.results71,go_sem]) rfl (uH HZ)
def Held (w0:World) (n:Nat) (L:List (Nat×Array Value×TypeId)) (wx:World):Prop:=
 (∀p ∈ L,p.1<n∧Blk wx p.1 p.2.1 p.2.2)∧n≤wx.heap.size∧w0.heap.size≤n∧Below w0.heap.size w0 wx
theorem held_holds (w0:World) (n:Nat) (L:List (Nat×Array Value×TypeId)):Holds (Held w0 n L) w0 n where
 call:=fun h hb=>⟨fun p hp=>⟨(h.1 p hp).1,(h.1 p hp).2.below hb⟩,Nat.le_trans h.2.1 hb.size,h.2.2.1,yB h.2.2.2 hb⟩
 set:=fun k j v h hk=>⟨fun p hp=>⟨(h.1 p hp).1,(h.1 p hp).2.other k j v (by have:=(h.1 p hp).1;omega)⟩,by rw [set_size];exact h.2.1,h.2.2.1,yC h.2.2.2 _ _ _ (Nat.le_trans h.2.2.1 hk)⟩
 size:=fun h=>h.2.1
 below:=fun h=>h.2.2.2
theorem Held.blk {w0:World} {n:Nat} {L:List (Nat×Array Value×TypeId)} {wx:World} (h:Held w0 n L wx) {p:Nat×Array Value×TypeId} (hp:p ∈ L):Blk wx p.1 p.2.1 p.2.2:=(h.1 p hp).2
theorem Var.blk {w:World} {t:TypeId} {g:Nat} {x y:Int} (h:Var w t g x y):Blk w g #[.int .i64 x,.int .i64 y] t:=h
theorem Blk.var {w:World} {t:TypeId} {g:Nat} {x y:Int} (h:Blk w g #[.int .i64 x,.int .i64 y] t):Var w t g x y:=h
end
section
open Go.RowKit Go.Maps
def idV (s:St):Int:=s.epoch*100000+s.serial % 100000
def freeIdV (s:St):Bool:=decide (idV s≤1000000000)&&!(s.cs.any fun c=>c.id==idV s)
theorem hasMachine_any (x:Sls) (s:St) (nm:List UInt8) (w:World) (h:SRow w x s) (hf:FitSt s) (hnm:nm.length≤1048576) :
  Calls Tryz.prog 45 #[sv x s,.string (bs nm)] w fun e w'=>e=.returned (.bool (findM nm s.ms).isSome)∧Below w.heap.size w w':=by
 have hml:x.ml≤1048576:=by have:=h.len.2.2.1;have:=hf.2.2.1.1;omega
 have CM:=hide (fun wx (hb:Below w.heap.size w wx)=>machines_ex x s wx (h.2.2.1.below hb) hml (fun m hm=>hf.2.2.1.2 m hm))
 obtain ⟨kl,hkey⟩:=keyKey (nm:=nm) (k:=0) (by omega) (by decide)
 have HKEY:=hide hkey
 obtain ⟨o,ho⟩:∃o,(findM nm s.ms).isSome=o:=⟨_,rfl⟩
 have HO:=hide ho
 rw [ho]
 clear h hf hkey ho
 obtain ⟨qa,ql,qc,aa,al,ac,ma,ml,mc,ca,cl,cc⟩:=x
 obtain ⟨qs,clock,epoch,next,serial,apps,ms,cs⟩:=s
 have HB0:=hide (yA (Below.refl _ w) (.cells (svc ⟨qa,ql,qc,aa,al,ac,ma,ml,mc,ca,cl,cc⟩ ⟨qs,clock,epoch,next,serial,apps,ms,cs⟩) 34))
 go_enter Tryz.func45,Tryz.ntmps45
 go_wp2_with fail
 refine (uH CM _ (uH HB0)).mono ?_
 rintro e w1 ⟨bm,rfl,⟨hbm,D,hown,hk⟩,hb⟩
 have hlk:=lookM hown hk (uH HKEY)
 have HB1:=hide (yB (uH HB0) hb)
 clear hb HB0 CM hown hk hbm
 rw [uH HO] at hlk
 go_wp2
 go_ret
 exact ⟨rfl,by repeat (first | exact uH HB1 | refine yA ?_ _)⟩
theorem nextId_any (x:Sls) (s:St) (w:World) (h:SRow w x s) (hf:FitSt s) (ha:AscC s.cs) (he:0≤s.epoch∧s.epoch≤1000000000) (hs:0≤s.serial∧s.serial≤1000000000) :
  Calls Tryz.prog 105 #[sv x s] w fun e w'=>e=.returned (.tuple #[.int .i64 (idV s),.bool (freeIdV s)])∧Below w.heap.size w w':=by
 have C:=hide (fun wx (hb:Below w.heap.size w wx)=>contPlace_any x s (idV s) wx (h.below hb) hf ha)
 have HI:=hide (show idV s=s.epoch*100000+s.serial % 100000 from rfl)
 have hm:=Int.emod_nonneg s.serial (show (100000:Int)≠0 by decide)
 have hm2:=Int.emod_lt_of_pos s.serial (show (0:Int)<100000 by decide)
 obtain ⟨d,hd⟩:∃d,idV s=d:=⟨_,rfl⟩
 have HF:=hide (show ∀f:Bool,(f=true↔∃c ∈ s.cs,c.id=d)→(decide (d≤1000000000)&&!f)=freeIdV s from fun f hf=>by
  have:f=s.cs.any (fun c=>c.id==d):=by
   rw [Bool.eq_iff_iff,hf,List.any_eq_true]
   simp
  rw [freeIdV,hd,this])
 obtain ⟨fr,hfr⟩:∃d,freeIdV s=d:=⟨_,rfl⟩
 rw [hfr] at HF ⊢
 rw [hd] at C HI ⊢
 clear h hf ha hd hfr
 obtain ⟨qa,ql,qc,aa,al,ac,ma,ml,mc,ca,cl,cc⟩:=x
 obtain ⟨qs,clock,epoch,next,serial,apps,ms,cs⟩:=s
 simp only at C HI HF he hs hm hm2
 have HB0:=hide (yA (Below.refl _ w) (.cells (svc ⟨qa,ql,qc,aa,al,ac,ma,ml,mc,ca,cl,cc⟩ ⟨qs,clock,epoch,next,serial,apps,ms,cs⟩) 34))
 have hmt:serial.tmod 100000=serial % 100000:=Int.tmod_eq_emod_of_nonneg hs.1
 obtain ⟨sm,hsm⟩:∃z,serial % 100000=z:=⟨_,rfl⟩
 rw [hsm] at hmt hm hm2 HI
 go_enter Tryz.func105,Tryz.ntmps105
 go_wp2_with fail
 rw [←uH HI]
 refine (uH C _ (uH HB0)).mono ?_
 rintro e w1 ⟨p,f,rfl,_,_,_,h4,hb⟩
 have HB1:=hide (yB (uH HB0) hb)
 have HZ:=hide (uH HF f h4)
 clear h4 hb HB0 C HF HI
 by_cases hd:d≤1000000000
 ·have HZ2:=hide (show (!f)=fr by have:=uH HZ;rwa [decide_eq_true hd,Bool.true_and] at this)
  go_wp2
  refine bodyPost_ret (v:=.tuple #[.int .i64 d,.bool fr]) (by simp [results,Tryz.results105,go_sem,←uH HZ2]) rfl ⟨rfl,uH HB1⟩
 ·have HZ2:=hide (show false=fr by have:=uH HZ;rwa [decide_eq_false hd,Bool.false_and] at this)
  go_wp2
  refine bodyPost_ret (v:=.tuple #[.int .i64 d,.bool fr]) (by simp [results,Tryz.results105,go_sem,←uH HZ2]) rfl ⟨rfl,uH HB1⟩
end
section
open Go.RowKit
def someR (a b:Int):Bool:=resOk a b&&!(decide (a=0)&&decide (b=0))
theorem something_any (a b:Int) (w:World) :
  Calls Tryz.prog 124 #[rv a b] w fun e w'=>e=.returned (.bool (someR a b))∧Below w.heap.size w w':=by
 have HB0:=hide (yA (Below.refl _ w) (.cells #[.int .i64 a,.int .i64 b] 36))
 have P0:=hide (yD w #[.int .i64 a,.int .i64 b] 36)
 obtain ⟨r,hr⟩:∃r,resOk a b=r:=⟨_,rfl⟩
 have C:=hide (fun wx=>by have:=ok_bel a b wx;rw [hr] at this;exact this)
 have HS:=hide (show someR a b=(r&&!(decide (a=0)&&decide (b=0))) by rw [someR,hr])
 obtain ⟨o,ho⟩:∃o,someR a b=o:=⟨_,rfl⟩
 rw [ho] at HS ⊢
 clear hr ho
 go_enter Tryz.func124,Tryz.ntmps124
 go_wp2_with fail
 refine (uH C _).mono ?_
 rintro e w1 ⟨rfl,hb⟩
 have HB1:=hide (yB (uH HB0) hb)
 have P1:=(uH P0).below hb
 have p0:=P1.at 0
 have p1:=P1.at 1
 simp at p0 p1
 clear hb P1 P0 HB0 C
 cases r with
 | false=>
  go_wp2
  go_ret
  exact ⟨yF (by rw [uH HS];simp),uH HB1⟩
 | true=>
  by_cases ha:a=0
  ·by_cases hbz:b=0
   ·subst ha hbz
    go_wp2
    go_ret
    exact ⟨yF (by rw [uH HS];simp),uH HB1⟩
   ·subst ha
    go_wp2
    go_ret
    exact ⟨yF (by rw [uH HS];simp [hbz]),uH HB1⟩
  ·go_wp2
   go_ret
   exact ⟨yF (by rw [uH HS];simp [ha]),uH HB1⟩
theorem specOk_bel (a b:Int) (w:World) :
  Calls Tryz.prog 94 #[rv a b] w fun e w'=>e=.returned (.bool (resOk a b))∧Below w.heap.size w w':=
 (specResOk_any a b w).mono fun e w' h=>⟨h.1,by rw [h.2];exact yA (Below.refl _ _) _⟩
theorem l04Some_any (a b:Int) (w:World) :
  Calls Tryz.prog 56 #[rv a b] w fun e w'=>e=.returned (.bool (someR a b))∧Below w.heap.size w w':=by
 have HB0:=hide (yA (Below.refl _ w) (.cells #[.int .i64 a,.int .i64 b] 36))
 have P0:=hide (yD w #[.int .i64 a,.int .i64 b] 36)
 obtain ⟨r,hr⟩:∃r,resOk a b=r:=⟨_,rfl⟩
 have C:=hide (fun wx=>by have:=specOk_bel a b wx;rw [hr] at this;exact this)
 have HS:=hide (show someR a b=(r&&!(decide (a=0)&&decide (b=0))) by rw [someR,hr])
 obtain ⟨o,ho⟩:∃o,someR a b=o:=⟨_,rfl⟩
 rw [ho] at HS ⊢
 clear hr ho
 go_enter Tryz.func56,Tryz.ntmps56
 go_wp2_with fail
 refine (uH C _).mono ?_
 rintro e w1 ⟨rfl,hb⟩
 have HB1:=hide (yB (uH HB0) hb)
 have P1:=(uH P0).below hb
 have p0:=P1.at 0
 have p1:=P1.at 1
 simp at p0 p1
 clear hb P1 P0 HB0 C
 cases r with
 | false=>
  go_wp2
  go_ret
  exact ⟨yF (by rw [uH HS];simp),uH HB1⟩
 | true=>
  by_cases ha:a=0
  ·by_cases hbz:b=0
   ·subst ha hbz
    go_wp2
    go_ret
    exact ⟨yF (by rw [uH HS];simp),uH HB1⟩
   ·subst ha
    go_wp2
    go_ret
    exact ⟨yF (by rw [uH HS];simp [hbz]),uH HB1⟩
  ·go_wp2
   go_ret
   exact ⟨yF (by rw [uH HS];simp [ha]),uH HB1⟩
def askOk (q:Ask):Bool:=someR q.mem q.cpu&&(inB q.count 1 1000&&((decide (q.node=[])||nameOk q.node)&&inB q.missed 0 1000))
theorem askOk_any (q:Ask) (w:World) (hn:q.node.length≤1048576) :
  Calls Tryz.prog 148 #[askv q] w fun e w'=>e=.returned (.bool (askOk q))∧Below w.heap.size w w':=by
 obtain ⟨x0,x1,ct,nd,ms⟩:=q
 simp only at hn
 have HB0:=hide (yA (Below.refl _ w) (.cells #[.int .i64 x0,.int .i64 x1,.int .i64 ct,.string (bs nd),.int .i64 ms] 77))
 have P0:=hide (yD w #[.int .i64 x0,.int .i64 x1,.int .i64 ct,.string (bs nd),.int .i64 ms] 77)
 obtain ⟨sm,hsm⟩:∃r,someR x0 x1=r:=⟨_,rfl⟩
 obtain ⟨nk,hnk⟩:∃r,nameOk nd=r:=⟨_,rfl⟩
 have C:=hide (fun wx=>by have:=something_any x0 x1 wx;rw [hsm] at this;exact this)
 have CN:=hide (fun wx=>by have:=implNameOk_any (bs nd) wx (by rw [bs_size];exact hn);rw [show nameOk (bs nd).data.toList=nk by rw [←hnk];simp [bs]] at this;exact this)
 have HS:=hide (show askOk ⟨x0,x1,ct,nd,ms⟩=(sm&&(inB ct 1 1000&&((decide (nd=[])||nk)&&inB ms 0 1000))) by rw [askOk];simp only [hsm,hnk])
 obtain ⟨o,ho⟩:∃o,askOk ⟨x0,x1,ct,nd,ms⟩=o:=⟨_,rfl⟩
 have hbz:=bs_empty nd
 rw [ho] at HS ⊢
 clear hsm hnk ho hn
 go_enter Tryz.func148,Tryz.ntmps148
 go_wp2_with fail
 refine (uH C _).mono ?_
 rintro e w1 ⟨rfl,hb⟩
 have HB1:=hide (yB (uH HB0) hb)
 have P1:=(uH P0).below hb
 have p2:=P1.at 2
 have p3:=P1.at 3
 have p4:=P1.at 4
 simp at p2 p3 p4
 clear hb P1 P0 HB0 C
 cases sm with
 | false=>
  go_wp2
  go_ret
  exact ⟨yF (by rw [uH HS];simp),uH HB1⟩
 | true=>
 by_cases h1:1≤ct
 case neg=>
  go_wp2
  go_ret
  exact ⟨yF (by rw [uH HS,inB_false (by omega)];simp),uH HB1⟩
 by_cases h2:ct≤1000
 case neg=>
  go_wp2
  go_ret
  exact ⟨yF (by rw [uH HS,inB_false (by omega)];simp),uH HB1⟩
 by_cases hz:nd=[]
 ·rw [decide_eq_true hz] at hbz HS
  clear hz
  by_cases m1:0≤ms
  case neg=>
   go_wp2
   go_ret
   exact ⟨yF (by rw [uH HS,inB_true h1 h2,inB_false (by omega)];simp),uH HB1⟩
  by_cases m2:ms≤1000
  case neg=>
   go_wp2
   go_ret
   exact ⟨yF (by rw [uH HS,inB_true h1 h2,inB_false (x:=ms) (by omega)];simp;omega),uH HB1⟩
  go_wp2
  go_ret
  exact ⟨yF (by rw [uH HS,inB_true h1 h2,inB_true m1 m2];simp),uH HB1⟩
 ·rw [decide_eq_false hz] at hbz HS
  clear hz
  go_wp2_with fail
  refine (uH CN _).mono ?_
  rintro e w2 ⟨rfl,rfl⟩
  clear CN
  cases nk with
  | false=>
   go_wp2
   go_ret
   exact ⟨yF (by rw [uH HS];simp),uH HB1⟩
  | true=>
  by_cases m1:0≤ms
  case neg=>
   go_wp2
   go_ret
   exact ⟨yF (by rw [uH HS,inB_true h1 h2,inB_false (by omega)];simp),uH HB1⟩
  by_cases m2:ms≤1000
  case neg=>
   go_wp2
   go_ret
   exact ⟨yF (by rw [uH HS,inB_true h1 h2,inB_false (by omega)];simp;omega),uH HB1⟩
  go_wp2
  go_ret
  exact ⟨yF (by rw [uH HS,inB_true h1 h2,inB_true m1 m2];simp),uH HB1⟩
theorem l04Ask_any (q:Ask) (w:World) (hn:q.node.length≤1048576) :
  Calls Tryz.prog 91 #[askv q] w fun e w'=>e=.returned (.bool (askOk q))∧Below w.heap.size w w':=by
 obtain ⟨x0,x1,ct,nd,ms⟩:=q
 simp only at hn
 have HB0:=hide (yA (Below.refl _ w) (.cells #[.int .i64 x0,.int .i64 x1,.int .i64 ct,.string (bs nd),.int .i64 ms] 77))
 have P0:=hide (yD w #[.int .i64 x0,.int .i64 x1,.int .i64 ct,.string (bs nd),.int .i64 ms] 77)
 obtain ⟨sm,hsm⟩:∃r,someR x0 x1=r:=⟨_,rfl⟩
 obtain ⟨nk,hnk⟩:∃r,nameOk nd=r:=⟨_,rfl⟩
 obtain ⟨ic,hic⟩:∃r,inB ct 1 1000=r:=⟨_,rfl⟩
 obtain ⟨im,him⟩:∃r,inB ms 0 1000=r:=⟨_,rfl⟩
 have C:=hide (fun wx=>by have:=l04Some_any x0 x1 wx;rw [hsm] at this;exact this)
 have CN:=hide (fun wx=>by have:=specNameOk_any (bs nd) wx (by rw [bs_size];exact hn);rw [show nameOk (bs nd).data.toList=nk by rw [←hnk];simp [bs]] at this;exact this)
 have CC:=hide (fun wx=>by have:=l01In_any ct 1 1000 wx;rw [hic] at this;exact this)
 have CD:=hide (fun wx=>by have:=l01In_any ms 0 1000 wx;rw [him] at this;exact this)
 have HS:=hide (show askOk ⟨x0,x1,ct,nd,ms⟩=(sm&&(ic&&((decide (nd=[])||nk)&&im))) by rw [askOk];simp only [hsm,hnk,hic,him])
 obtain ⟨o,ho⟩:∃o,askOk ⟨x0,x1,ct,nd,ms⟩=o:=⟨_,rfl⟩
 have hbz:=bs_empty nd
 rw [ho] at HS ⊢
 clear hsm hnk ho hn hic him
 go_enter Tryz.func91,Tryz.ntmps91
 go_wp2_with fail
 refine (uH C _).mono ?_
 rintro e w1 ⟨rfl,hb⟩
 have HB1:=hide (yB (uH HB0) hb)
 have P1:=(uH P0).below hb
 have p2:=P1.at 2
 have p3:=P1.at 3
 have p4:=P1.at 4
 simp at p2 p3 p4
 clear hb P1 P0 HB0 C
 cases sm with
 | false=>
  go_wp2
  go_ret
  exact ⟨yF (by rw [uH HS];simp),uH HB1⟩
 | true=>
 go_wp2_with fail
 refine (uH CC _).mono ?_
 rintro e w2 ⟨rfl,rfl⟩
 clear CC
 cases ic with
 | false=>
  go_wp2
  go_ret
  exact ⟨yF (by rw [uH HS];simp),uH HB1⟩
 | true=>
 by_cases hz:nd=[]
 ·rw [decide_eq_true hz] at hbz HS
  clear hz CN
  go_wp2_with fail
  refine (uH CD _).mono ?_
  rintro e w3 ⟨rfl,rfl⟩
  clear CD
  go_wp2
  go_ret
  exact ⟨yF (by rw [uH HS];simp),uH HB1⟩
 ·rw [decide_eq_false hz] at hbz HS
  clear hz
  go_wp2_with fail
  refine (uH CN _).mono ?_
  rintro e w3 ⟨rfl,rfl⟩
  clear CN
  cases nk with
  | false=>
   go_wp2
   go_ret
   exact ⟨yF (by rw [uH HS];simp),uH HB1⟩
  | true=>
  go_wp2_with fail
  refine (uH CD _).mono ?_
  rintro e w4 ⟨rfl,rfl⟩
  clear CD
  go_wp2
  go_ret
  exact ⟨yF (by rw [uH HS];simp),uH HB1⟩
theorem countOk_any (n:Int) (w:World) :
  Calls Tryz.prog 116 #[.int .i64 n] w fun e w'=>e=.returned (.bool (inB n 1 1000000000))∧w=w':=by
 by_cases h1:1≤n
 ·by_cases h2:n≤1000000000
  ·go_enter Tryz.func116,Tryz.ntmps116
   go_wp2
   go_ret
   exact ⟨yF (inB_true h1 h2).symm,rfl⟩
  ·go_enter Tryz.func116,Tryz.ntmps116
   go_wp2
   go_ret
   exact ⟨yF (inB_false (by omega)).symm,rfl⟩
 ·go_enter Tryz.func116,Tryz.ntmps116
  go_wp2
  go_ret
  exact ⟨yF (inB_false (by omega)).symm,rfl⟩
def idxK (p:Ask→Bool):List Ask→Nat→Int
 | [],_=>-1
 | q::t,k=>if p q=true then (k:Int) else idxK p t (k+1)
theorem idxK_step {p:Ask→Bool} {l:List Ask} {k:Nat} (h:k<l.length):idxK p (l.drop k) k=if p l[k]=true then (k:Int) else idxK p (l.drop (k+1)) (k+1):=by
 rw [List.drop_eq_getElem_cons h,idxK]
theorem idxK_end {p:Ask→Bool} {l:List Ask} {k:Nat} (h:l.length≤k):idxK p (l.drop k) k = -1:=by
 rw [List.drop_of_length_le h];rfl
theorem idxK_has (p:Ask→Bool):∀(l:List Ask) (k:Nat),decide (0≤idxK p l k)=l.any p
 | [],_=>by simp [idxK]
 | q::t,k=>by
  rw [idxK,List.any_cons]
  by_cases h:p q=true
  ·rw [if_pos h,h];simp
  ·rw [if_neg h,idxK_has p t (k+1)];simp [h]
theorem indexFuncK_any (g:Nat) (lb:Array Value) (eg:∀args w,(callFunc g args).run Tryz.prog w=.ok (.enter g args) w) (p:Ask→Bool) (ao:Option Addr) (len cap:Nat) (l:List Ask) (w:World) (h:AskRow w ao len l) (hl:len≤1048576)
  (hp:∀wx (q:Ask),q ∈ l→Below w.heap.size w wx→Calls Tryz.prog g (#[askv q]++lb) wx fun e w'=>e=.returned (.bool (p q))∧Below wx.heap.size wx w') :
  Calls Tryz.prog 180 #[.slice ao len cap,.func (.func g) #[] lb] w fun e w'=>e=.returned (.int .i64 (idxK p l 0))∧Below w.heap.size w w':=by
 have HR:=hide h
 have HL:=hide h.1
 have HP:=hide hp
 clear h hp
 go_enter Tryz.func180,Tryz.ntmps180
 go_wp2
 go_loopw [5,8] (fun _ i wr=>∃k:Nat,k≤len∧i=.int .i64 k∧Hid (idxK p l 0=idxK p (l.drop k) k)∧Hid (Below w.heap.size w wr)) (fun _ i _=>len - (intOf i).toNat)
 case atStart=>exact ⟨0,Nat.zero_le _,rfl,hide (by simp),hide (Below.refl _ _)⟩
 case round=>
  obtain ⟨k,hk,rfl,hq,HB⟩:=hrel
  by_cases hlt:k<len
  ·obtain ⟨b,off,rfl,hx⟩:=((uH HR).below (uH HB)).at hlt
   have hkl:k<l.length:=by have:=uH HL;omega
   have hst:=hide (idxK_step (p:=p) (l:=l) (k:=k) hkl)
   obtain ⟨c0,c1,c2,c3,c4⟩:=hx hkl
   clear hx
   have HC:=hide (uH HP wr l[k] (List.getElem_mem _) (uH HB))
   obtain ⟨⟨y0,y1,y2,nd,y4⟩,hs⟩:∃s,l[k]=s:=⟨_,rfl⟩
   rw [hs] at c0 c1 c2 c3 c4 hst HC
   simp only at c0 c1 c2 c3 c4
   clear hs hkl HP
   cases hpq:p ⟨y0,y1,y2,nd,y4⟩ with
   | true=>
    rw [hpq] at HC
    have HQ:=hide hpq
    clear hpq
    go_wp2_with (go_at_fn g;refine (uH HC).mono ?_;rintro e w' ⟨rfl,hb⟩)
    go_ret
    exact ⟨ret_int (by rw [uH hq,uH hst,if_pos (uH HQ)]),yB (uH HB) hb⟩
   | false=>
    rw [hpq] at HC
    have HQ:=hide hpq
    clear hpq
    go_wp2_with (go_at_fn g;refine (uH HC).mono ?_;rintro e w' ⟨rfl,hb⟩)
    go_roundw
    case rel=>exact ⟨k+1,by omega,by go_num,hide (by rw [uH hq,uH hst,if_neg (by rw [uH HQ];simp)]),hide (yB (uH HB) hb)⟩
    case measure=>simp [intOf];omega
  ·go_wp2
   go_ret
   exact ⟨ret_int (by rw [uH hq,idxK_end (by have:=uH HL;omega)]),uH HB⟩
theorem containsFuncK_any (g:Nat) (lb:Array Value) (eg:∀args w,(callFunc g args).run Tryz.prog w=.ok (.enter g args) w) (p:Ask→Bool) (ao:Option Addr) (len cap:Nat) (l:List Ask) (w:World) (h:AskRow w ao len l) (hl:len≤1048576)
  (hp:∀wx (q:Ask),q ∈ l→Below w.heap.size w wx→Calls Tryz.prog g (#[askv q]++lb) wx fun e w'=>e=.returned (.bool (p q))∧Below wx.heap.size wx w') :
  Calls Tryz.prog 146 #[.slice ao len cap,.func (.func g) #[] lb] w fun e w'=>e=.returned (.bool (l.any p))∧Below w.heap.size w w':=by
 have C:=hide (indexFuncK_any g lb eg p ao len cap l w h hl hp)
 have HS:=hide (idxK_has p l 0)
 obtain ⟨i,hi⟩:∃i,idxK p l 0=i:=⟨_,rfl⟩
 obtain ⟨b,hb⟩:∃b,l.any p=b:=⟨_,rfl⟩
 rw [hi] at C HS
 rw [hb] at HS ⊢
 clear h hp hi hb
 go_enter Tryz.func146,Tryz.ntmps146
 go_wp2_with fail
 refine (uH C).mono ?_
 rintro e w1 ⟨rfl,hb⟩
 have HB:=hide hb
 clear hb
 by_cases h0:0≤i
 ·go_wp2
  go_ret
  exact ⟨yF (by first | exact uH HS | (rw [←uH HS];simp [h0])),uH HB⟩
 ·go_wp2
  go_ret
  exact ⟨yF (by first | exact uH HS | (rw [←uH HS];simp [h0])),uH HB⟩
theorem askNot_any (q:Ask) (w:World) (hn:q.node.length≤1048576) :
  Calls Tryz.prog 147 #[askv q] w fun e w'=>e=.returned (.bool (!askOk q))∧Below w.heap.size w w':=by
 have C:=hide (askOk_any q (w.alloc (.cells #[.int .i64 q.mem,.int .i64 q.cpu,.int .i64 q.count,.string (bs q.node),.int .i64 q.missed] 77)) hn)
 obtain ⟨o,ho⟩:∃o,askOk q=o:=⟨_,rfl⟩
 rw [ho] at C ⊢
 obtain ⟨y0,y1,y2,nd,y4⟩:=q
 clear ho
 go_enter Tryz.func147,Tryz.ntmps147
 go_wp2_with fail
 refine (uH C).mono ?_
 rintro e w1 ⟨rfl,hb⟩
 have HB:=hide (yB (yA (Below.refl _ w) _) hb)
 clear hb C
 cases o
 ·go_wp2
  go_ret
  exact ⟨rfl,uH HB⟩
 ·go_wp2
  go_ret
  exact ⟨rfl,uH HB⟩
def asksOk (l:List Ask):Bool:=decide (l.length≤10)&&l.all askOk
theorem asksOk_any (id:Int) (qu:List UInt8) (ao:Option Addr) (len cap:Nat) (l:List Ask) (w:World) (h:AskRow w ao len l) (hl:len≤1048576) (hn:∀q ∈ l,q.node.length≤1048576) :
  Calls Tryz.prog 118 #[applv id qu ao len cap] w fun e w'=>e=.returned (.bool (asksOk l))∧Below w.heap.size w w':=by
 have hb0:=yA (Below.refl _ w) (.cells #[.int .i64 id,.string (bs qu),.slice ao len cap] 74)
 have C:=hide (containsFuncK_any 147 #[] (enters_of Tryz.func147 (by kernel_rfl) rfl) (fun q=>!askOk q) ao len cap l _ (h.below hb0) hl (fun wx q hq _=>askNot_any q wx (hn q hq)))
 have HS:=hide (show asksOk l=(decide (len≤10)&&!(l.any fun q=>!askOk q)) by rw [asksOk,←h.1];congr 1;rw [List.not_any_eq_all_not];simp)
 obtain ⟨o,ho⟩:∃o,asksOk l=o:=⟨_,rfl⟩
 obtain ⟨b,hb⟩:∃o,(l.any fun q=>!askOk q)=o:=⟨_,rfl⟩
 rw [ho] at HS ⊢
 rw [hb] at HS C
 have HB0:=hide hb0
 clear ho hb h hn hb0
 by_cases h10:len≤10
 ·have hi:(len:Int)≤10:=by omega
  rw [decide_eq_true h10] at HS
  clear h10
  go_enter Tryz.func118,Tryz.ntmps118
  go_wp2_with fail
  refine (uH C).mono ?_
  rintro e w1 ⟨rfl,hb⟩
  have HB:=hide (yB (uH HB0) hb)
  clear hb C HB0
  go_wp2
  go_ret
  exact ⟨yF (by rw [uH HS];simp),uH HB⟩
 ·have hi:¬(len:Int)≤10:=by omega
  rw [decide_eq_false h10] at HS
  clear h10 C
  go_enter Tryz.func118,Tryz.ntmps118
  go_wp2
  go_ret
  exact ⟨yF (by rw [uH HS];simp),uH HB0⟩
def numsOk (s:St):Bool:=inB s.clock 0 1000000000&&(inB s.epoch 1 1000000000&&(inB s.next 1 1000000000&&inB s.serial 1 1000000000))
theorem numbersOk_any (x:Sls) (s:St) (w:World) :
  Calls Tryz.prog 80 #[sv x s] w fun e w'=>e=.returned (.bool (numsOk s))∧Below w.heap.size w w':=by
 obtain ⟨qa,ql,qc,aa,al,ac,ma,ml,mc,ca,cl,cc⟩:=x
 obtain ⟨qs,clock,epoch,next,serial,apps,ms,cs⟩:=s
 have HB0:=hide (yA (Below.refl _ w) (.cells (svc ⟨qa,ql,qc,aa,al,ac,ma,ml,mc,ca,cl,cc⟩ ⟨qs,clock,epoch,next,serial,apps,ms,cs⟩) 34))
 simp only [numsOk]
 obtain ⟨b0,h0⟩:∃b,inB clock 0 1000000000=b:=⟨_,rfl⟩
 obtain ⟨b1,h1⟩:∃b,inB epoch 1 1000000000=b:=⟨_,rfl⟩
 obtain ⟨b2,h2⟩:∃b,inB next 1 1000000000=b:=⟨_,rfl⟩
 obtain ⟨b3,h3⟩:∃b,inB serial 1 1000000000=b:=⟨_,rfl⟩
 have C0:=hide (fun wx=>by have:=numberOk_any clock wx;rw [h0] at this;exact this)
 have C1:=hide (fun wx=>by have:=countOk_any epoch wx;rw [h1] at this;exact this)
 have C2:=hide (fun wx=>by have:=countOk_any next wx;rw [h2] at this;exact this)
 have C3:=hide (fun wx=>by have:=countOk_any serial wx;rw [h3] at this;exact this)
 rw [h0,h1,h2,h3]
 clear h0 h1 h2 h3
 go_enter Tryz.func80,Tryz.ntmps80
 go_wp2_with fail
 refine (uH C0 _).mono ?_
 rintro e w1 ⟨rfl,rfl⟩
 cases b0 with
 | false=>
  go_wp2
  go_ret
  exact ⟨rfl,uH HB0⟩
 | true=>
 go_wp2_with fail
 refine (uH C1 _).mono ?_
 rintro e w1 ⟨rfl,rfl⟩
 cases b1 with
 | false=>
  go_wp2
  go_ret
  exact ⟨rfl,uH HB0⟩
 | true=>
 go_wp2_with fail
 refine (uH C2 _).mono ?_
 rintro e w1 ⟨rfl,rfl⟩
 cases b2 with
 | false=>
  go_wp2
  go_ret
  exact ⟨rfl,uH HB0⟩
 | true=>
 go_wp2_with fail
 refine (uH C3 _).mono ?_
 rintro e w1 ⟨rfl,rfl⟩
 go_wp2
 go_ret
 exact ⟨yF (by simp),uH HB0⟩
def appsFrom (qs:List Q) (nx:Int):Int→List Appl→Bool
 | _,[]=>true
 | last,a::t=>decide (last<a.id)&&(decide (a.id<nx)&&(lone qs a.queue&&(asksOk a.asks&&appsFrom qs nx a.id t)))
def appsOkV (s:St):Bool:=decide (s.apps.length≤40)&&appsFrom s.qs s.next 0 s.apps
theorem appsFrom_step {qs:List Q} {nx last:Int} {l:List Appl} {k:Nat} (h:k<l.length):appsFrom qs nx last (l.drop k)=(decide (last<l[k].id)&&(decide (l[k].id<nx)&&(lone qs l[k].queue&&(asksOk l[k].asks&&appsFrom qs nx l[k].id (l.drop (k+1)))))):=by
 rw [List.drop_eq_getElem_cons h,appsFrom]
theorem appsFrom_end {qs:List Q} {nx last:Int} {l:List Appl} {k:Nat} (h:l.length≤k):appsFrom qs nx last (l.drop k)=true:=by
 rw [List.drop_of_length_le h];rfl
theorem appsOk_any (x:Sls) (s:St) (w:World) (h:SRow w x s) (hf:FitSt s) :
  Calls Tryz.prog 81 #[sv x s] w fun e w'=>e=.returned (.bool (appsOkV s))∧Below w.heap.size w w':=by
 have hql:x.ql≤1048576:=by have:=h.len.1;have:=hf.1.1;omega
 have hal:x.al≤1048576:=by have:=h.len.2.1;have:=hf.2.1.1;omega
 have HR:=hide h.2.1
 have HL:=hide h.2.1.1
 have HFA:=hide hf.2.1
 have CL:=hide (fun wx (hb:Below w.heap.size w wx) (nm:List UInt8)=>lone_any x.qa x.ql x.qc s.qs nm wx (h.1.below hb) hql)
 have HS:=hide (show appsOkV s=(decide (x.al≤40)&&appsFrom s.qs s.next 0 s.apps) by rw [appsOkV,←h.2.1.1])
 obtain ⟨o,ho⟩:∃o,appsOkV s=o:=⟨_,rfl⟩
 rw [ho] at HS ⊢
 clear h hf ho
 have hb0:=yA (Below.refl _ w) (.cells (svc x s) 34)
 have P0:=hide (yD w (svc x s) 34)
 obtain ⟨qa,ql,qc,aa,al,ac,ma,ml,mc,ca,cl,cc⟩:=x
 obtain ⟨qs,clock,epoch,next,serial,apps,ms,cs⟩:=s
 simp only at hql hal HR HL HFA CL HS P0 hb0
 have HB0:=hide hb0
 clear hb0
 by_cases h40:al≤40
 case neg=>
  have hi:(40:Int)<al:=by omega
  rw [decide_eq_false h40] at HS
  go_enter Tryz.func81,Tryz.ntmps81
  go_wp2
  go_ret
  exact ⟨yF (by rw [uH HS];simp),uH HB0⟩
 have hi:¬(40:Int)<al:=by omega
 rw [decide_eq_true h40,Bool.true_and] at HS
 clear h40
 go_enter Tryz.func81,Tryz.ntmps81
 go_wp2
 go_loopw [3,13] (fun la i wr=>∃(k:Nat) (last:Int),k≤al∧i=.int .i64 k∧la=.int .i64 last∧Hid (o=appsFrom qs next last (apps.drop k))∧Hid (Blk wr w.heap.size (svc ⟨qa,ql,qc,aa,al,ac,ma,ml,mc,ca,cl,cc⟩ ⟨qs,clock,epoch,next,serial,apps,ms,cs⟩) 34)∧Hid (Below w.heap.size w wr)) (fun _ i _=>al - (intOf i).toNat)
 case atStart=>exact ⟨0,0,Nat.zero_le _,rfl,rfl,hide (by rw [uH HS];simp),P0,HB0⟩
 case round=>
  obtain ⟨k,last,hk,rfl,rfl,HO,P1,HB⟩:=hrel
  clear P0 HB0 HS
  by_cases hlt:k<al
  ·obtain ⟨b,off,rfl,hq⟩:=((uH HR).below (uH HB)).at hlt
   have hkl:k<apps.length:=by have:=uH HL;omega
   have hst:=hide (appsFrom_step (qs:=qs) (nx:=next) (last:=last) (l:=apps) (k:=k) hkl)
   have hfa:=(uH HFA).2 _ (List.getElem_mem hkl)
   obtain ⟨xo,xl,xc,c0,c1,c2,hrow,_⟩:=hq hkl
   obtain ⟨⟨id,qu,asks⟩,hs⟩:∃s,apps[k]=s:=⟨_,rfl⟩
   rw [hs] at c0 c1 hst hrow hfa
   simp only at c0 c1 hst hrow
   have hxl:xl≤1048576:=by have h1:=hrow.1;have h2:=hfa.2.1;simp only at h2;omega
   obtain ⟨lo,hlo⟩:∃b,lone qs qu=b:=⟨_,rfl⟩
   obtain ⟨so,hso⟩:∃b,asksOk asks=b:=⟨_,rfl⟩
   have C1:=hide (fun wx (hb:Below w.heap.size w wx)=>by have:=uH CL wx hb qu;rw [hlo] at this;exact this)
   have C2:=hide (fun wx (hb:Below wr.heap.size wr wx)=>by have:=asksOk_any id qu xo xl xc asks wx (hrow.below hb) hxl hfa.2.2;rw [hso] at this;exact this)
   rw [hlo,hso] at hst
   have hb2:=yA (Below.refl _ wr) (.cells #[.int .i64 id,.string (bs qu),.slice xo xl xc] 74)
   have P2:=hide ((uH P1).below hb2)
   have V2:=hide (yD wr #[.int .i64 id,.string (bs qu),.slice xo xl xc] 74)
   have HB2:=hide (yB (uH HB) hb2)
   have HW2:=hide hb2
   have p0:=(uH P2).at 0
   have p3:=(uH P2).at 3
   have q5:=(uH P1).at 5
   simp at p0 p3 q5
   clear hq hs hkl hrow hfa hb2 hlo hso CL
   by_cases h1:last<id
   case neg=>
    have h1':id≤last:=by omega
    go_wp2
    go_ret
    exact ⟨yF (by rw [uH HO,uH hst,decide_eq_false (show ¬last<id by omega)];simp),uH HB2⟩
   by_cases h2:id<next
   case neg=>
    have h2':next≤id:=by omega
    have h1':¬id≤last:=by omega
    go_wp2
    go_ret
    exact ⟨yF (by rw [uH HO,uH hst,decide_eq_false (show ¬id<next by omega)];simp),uH HB2⟩
   have h2':¬next≤id:=by omega
   have h1':¬id≤last:=by omega
   have HO2:=hide (show o=(lo&&(so&&appsFrom qs next id (apps.drop (k+1)))) by rw [uH HO,uH hst,decide_eq_true h1,decide_eq_true h2];simp)
   clear HO hst
   go_wp2_with fail
   refine (uH C1 _ (uH HB2)).mono ?_
   rintro e w1 ⟨rfl,hb⟩
   have P3:=hide ((uH P2).below hb)
   have V3:=hide ((uH V2).below hb)
   have HB3:=hide (yB (uH HB2) hb)
   have HW3:=hide (yB (uH HW2) hb)
   have a0:=(uH V3).at 0
   have a1:=(uH V3).at 1
   have a2:=(uH V3).at 2
   simp at a0 a1 a2
   clear hb P2 V2 HB2 HW2 C1 p0 p3 q5
   cases lo with
   | false=>
    go_wp2
    go_ret
    exact ⟨yF (by rw [uH HO2];simp),uH HB3⟩
   | true=>
   go_wp2_with fail
   refine (uH C2 _ (uH HW3)).mono ?_
   rintro e w2 ⟨rfl,hb⟩
   have P4:=hide ((uH P3).below hb)
   have V4:=hide ((uH V3).below hb)
   have HB4:=hide (yB (uH HB3) hb)
   have d0:=(uH V4).at 0
   simp at d0
   clear hb P3 V3 HB3 HW3 C2 a0 a1 a2
   cases so with
   | false=>
    go_wp2
    go_ret
    exact ⟨yF (by rw [uH HO2];simp),uH HB4⟩
   | true=>
   go_wp2
   go_roundw
   case rel=>exact ⟨k+1,id,by omega,by go_num,rfl,hide (by rw [uH HO2];simp),P4,HB4⟩
   case measure=>simp [intOf];omega
  ·go_wp2
   go_ret
   exact ⟨yF (by rw [uH HO,appsFrom_end (by have:=uH HL;omega)]),uH HB⟩
end
end Go.Proofs.YtdhibeclkdepiaaGreat
