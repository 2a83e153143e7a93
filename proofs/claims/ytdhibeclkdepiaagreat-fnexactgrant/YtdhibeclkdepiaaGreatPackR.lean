/-
  bI in one: BsI, OkA, MarkX.
-/
import Derived.Test.YtdhibeclkdepiaaGreatPackE
import Derived.Test.YtdhibeclkdepiaaGreatPackL
set_option maxRecDepth 100000
set_option maxHeartbeats 16000000
set_option linter.unusedVariables false
set_option linter.unusedSimpArgs false
namespace Go.Proofs.YtdhibeclkdepiaaGreat
section
open Go.RowKit
def aH9 (a b:Int):Int:=if a<b then -1 else if b<a then 1 else 0
theorem aBp (a:Int) (w:World):Calls Tryz.prog 138 #[.int .i64 a] w fun e w'=>e=.returned (.bool false)∧w=w':=by
 go_enter Tryz.func138,Tryz.ntmps138
 go_wp2
 go_ret
 exact ⟨rfl,rfl⟩
theorem aCM (a b:Int) (w:World):Calls Tryz.prog 110 #[.int .i64 a,.int .i64 b] w fun e w'=>e=.returned (.int .i64 (aH9 a b))∧w=w':=by
 have hc:aH9 a b=if a<b then -1 else if b<a then 1 else 0:=rfl
 have C1:=aA (aBp a w)
 have C2:=aA (aBp b w)
 by_cases h1:a<b
 ·rw [if_pos h1] at hc
  rw [hc]
  clear hc
  go_enter Tryz.func110,Tryz.ntmps110
  go_wp2_with fail
  refine (uH C1).mono ?_
  rintro e w1 ⟨rfl,rfl⟩
  go_wp2_with fail
  refine (uH C2).mono ?_
  rintro e w2 ⟨rfl,rfl⟩
  go_wp2
  go_ret
  exact ⟨rfl,rfl⟩
 ·rw [if_neg h1] at hc
  by_cases h2:b<a
  ·rw [if_pos h2] at hc
   rw [hc]
   clear hc
   go_enter Tryz.func110,Tryz.ntmps110
   go_wp2_with fail
   refine (uH C1).mono ?_
   rintro e w1 ⟨rfl,rfl⟩
   go_wp2_with fail
   refine (uH C2).mono ?_
   rintro e w2 ⟨rfl,rfl⟩
   go_wp2
   go_ret
   exact ⟨rfl,rfl⟩
  ·rw [if_neg h2] at hc
   rw [hc]
   clear hc
   go_enter Tryz.func110,Tryz.ntmps110
   go_wp2_with fail
   refine (uH C1).mono ?_
   rintro e w1 ⟨rfl,rfl⟩
   go_wp2_with fail
   refine (uH C2).mono ?_
   rintro e w2 ⟨rfl,rfl⟩
   go_wp2
   go_ret
   exact ⟨rfl,rfl⟩
theorem aHA (c:Con) (id:Int) (w:World):Calls Tryz.prog 109 #[.agg #[.int .i64 c.id,.int .i64 c.app,.string (bs c.node),.int .i64 c.mem,.int .i64 c.cpu],.int .i64 id] w fun e w'=>e=.returned (.int .i64 (aH9 c.id id))∧Below w.heap.size w w':=by
 have C:=aA (fun wx=>aCM c.id id wx)
 obtain ⟨o,ho⟩:∃o,aH9 c.id id=o:=⟨_,rfl⟩
 rw [ho] at C ⊢
 obtain ⟨ci,cap,cn,me,cp⟩:=c
 simp only at C ho
 clear ho
 go_enter Tryz.func109,Tryz.ntmps109
 go_wp2_with fail
 refine (uH C _).mono ?_
 rintro e w1 ⟨rfl,rfl⟩
 go_wp2
 go_ret
 exact ⟨rfl,yA (Below.refl _ _) _⟩
def aKL (l:List Con):Prop:=∀i j (hi:i<l.length) (hj:j<l.length),i<j→l[i].id<l[j].id
def aF8 (l:List Con) (id:Int) (n:Nat) (w:World) (e:Ending) (w':World):Prop:=
 ∃(p:Nat) (f:Bool),e=.returned (.tuple #[.int .i64 (p:Int),.bool f])∧p≤l.length∧(∀i (hi:i<l.length),i<p→l[i].id<id)∧(∀i (hi:i<l.length),p≤i→id≤l[i].id)∧(f=true↔∃c ∈ l,c.id=id)∧Below n w w'
theorem aDX (ao:Option Addr) (len cap:Nat) (l:List Con) (id:Int) (w:World) (h:aY w ao len l) (hl:len≤1048576) (ha:aKL l) :
  Calls Tryz.prog 108 #[.slice ao len cap,.int .i64 id,.func (.func 109) #[] #[]] w (aF8 l id w.heap.size w):=by
 have HR:=aA h
 have HL:=aA h.1
 have HA:=aA ha
 have C:=aA (fun c wx=>aHA c id wx)
 clear h ha
 go_enter Tryz.func108,Tryz.ntmps108
 go_wp2
 go_loopw [9,10,11] (fun i j _ wr=>∃a b:Nat,a≤b∧b≤len∧i=.int .i64 a∧j=.int .i64 b∧Hid (∀k (hk:k<l.length),k<a→l[k].id<id)∧Hid (∀k (hk:k<l.length),b≤k→id≤l[k].id)∧Hid (Below w.heap.size w wr)) (fun i j _ _=>(intOf j).toNat - (intOf i).toNat)
 case atStart=>exact ⟨0,len,Nat.zero_le _,Nat.le_refl _,rfl,rfl,aA (fun k _ h=>absurd h (by omega)),aA (fun k hk h=>absurd hk (by have:=uH HL;omega)),aA (Below.refl _ _)⟩
 case round=>
  obtain ⟨a,b,hab,hbl,rfl,rfl,H1,H2,HB⟩:=hrel
  by_cases hlt:a<b
  ·obtain ⟨m,hm⟩:∃m:Nat,(a+b) / 2=m:=⟨_,rfl⟩
   have hq:((a:Int)+(b:Int)) / 2=(m:Int):=by omega
   have hma:a≤m:=by omega
   have hmb:m<b:=by omega
   have hml:m<len:=by omega
   obtain ⟨bb,off,rfl,hat⟩:=((uH HR).below (uH HB)).at hml
   have hmk:m<l.length:=by have:=uH HL;omega
   obtain ⟨c0,c1,c2,c3,c4⟩:=hat hmk
   have H1b:=aA (show l[m].id<id→∀k (hk:k<l.length),k<m+1→l[k].id<id from fun hx k hk hkm=>by
    by_cases e:k=m
    ·subst e;exact hx
    ·have:=uH HA k m hk hmk (by omega);omega)
   have H2b:=aA (show id≤l[m].id→∀k (hk:k<l.length),m≤k→id≤l[k].id from fun hx k hk hkm=>by
    by_cases e:k=m
    ·subst e;exact hx
    ·have:=uH HA m k hmk hk (by omega);omega)
   obtain ⟨c,hc⟩:∃c,l[m]=c:=⟨_,rfl⟩
   rw [hc] at c0 c1 c2 c3 c4 H1b H2b
   have C1:=aA (uH C c)
   have m0:(0:Int)≤m:=by omega
   have m1:(m:Int)<len:=by omega
   obtain ⟨ci,cap',cn,me,cp⟩:=c
   simp only at c0 c1 c2 c3 c4 C1 H1b H2b
   clear hat hc hm hmk
   by_cases hci:ci<id
   ·have hr:aH9 ci id = -1:=by rw [aH9,if_pos hci]
    rw [hr] at C1
    have HN:=aA (uH H1b hci)
    clear hr H1b H2b
    go_wp2_with fail
    refine (uH C1 _).mono ?_
    rintro e w2 ⟨rfl,hb⟩
    have HB2:=aA (yB (uH HB) hb)
    clear hb
    go_wp2
    go_roundw
    case rel=>exact ⟨m+1,b,by omega,hbl,by go_num,rfl,HN,H2,HB2⟩
    case measure=>simp [intOf];omega
   ·obtain ⟨r,hr⟩:∃r,aH9 ci id=r:=⟨_,rfl⟩
    have hr0:¬r<0:=by rw [←hr,aH9,if_neg hci];split<;>omega
    rw [hr] at C1
    have HN:=aA (uH H2b (by omega))
    clear hr H1b H2b
    go_wp2_with fail
    refine (uH C1 _).mono ?_
    rintro e w2 ⟨rfl,hb⟩
    have HB2:=aA (yB (uH HB) hb)
    clear hb
    go_wp2
    go_roundw
    case rel=>exact ⟨a,m,hma,by omega,rfl,rfl,H1,HN,HB2⟩
    case measure=>simp [intOf];omega
  ·obtain rfl:a=b:=by omega
   by_cases hal:a<len
   ·obtain ⟨bb,off,rfl,hat⟩:=((uH HR).below (uH HB)).at hal
    have hmk:a<l.length:=by have:=uH HL;omega
    obtain ⟨c0,c1,c2,c3,c4⟩:=hat hmk
    have HF:=aA (show (∃c ∈ l,c.id=id)↔l[a].id=id from ⟨fun ⟨c,hc,e⟩=>by
     obtain ⟨k,hk,rfl⟩:=List.mem_iff_getElem.1 hc
     by_cases e1:k<a
     ·have:=uH H1 k hk e1;omega
     ·by_cases e2:k=a
      ·subst e2;exact e
      ·have h1:=uH HA a k hmk hk (by omega)
       have h2:=uH H2 a hmk (Nat.le_refl _)
       omega,fun e=>⟨_,List.getElem_mem hmk,e⟩⟩)
    have HG:=aA (uH H2 a hmk (Nat.le_refl _))
    obtain ⟨c,hc⟩:∃c,l[a]=c:=⟨_,rfl⟩
    rw [hc] at c0 c1 c2 c3 c4 HF HG
    have C1:=aA (uH C c)
    obtain ⟨ci,cap',cn,me,cp⟩:=c
    simp only at c0 c1 c2 c3 c4 C1 HF HG
    obtain ⟨r,hr⟩:∃r,aH9 ci id=r:=⟨_,rfl⟩
    have hr1:r=0↔ci=id:=by
     have:=uH HG
     rw [←hr,aH9,if_neg (by omega)]
     split<;>omega
    rw [hr] at C1
    have HR1:=aA hr1
    have m0:(0:Int)≤a:=by omega
    have m1:(a:Int)<len:=by omega
    have hpl:a≤l.length:=by omega
    clear hat hc hmk hr hr1
    by_cases hz:r=0
    ·subst hz
     go_wp2_with fail
     refine (uH C1 _).mono ?_
     rintro e w2 ⟨rfl,hb⟩
     have HB2:=aA (yB (uH HB) hb)
     clear hb
     have HZ:=aA (show aF8 l id w.heap.size w _ w2 from ⟨a,true,rfl,hpl,uH H1,uH H2,⟨fun _=>(uH HF).2 ((uH HR1).1 (by first | rfl | trivial)),fun _=>rfl⟩,uH HB2⟩)
     go_wp2
     refine bodyPost_ret (v:=.tuple #[.int .i64 (a:Int),.bool true]) (by simp [results,Tryz.results108,go_sem]) rfl (uH HZ)
    ·go_wp2_with fail
     refine (uH C1 _).mono ?_
     rintro e w2 ⟨rfl,hb⟩
     have HB2:=aA (yB (uH HB) hb)
     clear hb
     have HZ:=aA (show aF8 l id w.heap.size w _ w2 from ⟨a,false,rfl,hpl,uH H1,uH H2,⟨fun h=>absurd h Bool.false_ne_true,fun h=>absurd ((uH HR1).2 ((uH HF).1 h)) hz⟩,uH HB2⟩)
     go_wp2
     refine bodyPost_ret (v:=.tuple #[.int .i64 (a:Int),.bool false]) (by simp [results,Tryz.results108,go_sem,hz]) rfl (uH HZ)
   ·have hal2:¬(a:Int)<len:=by omega
    have hpl:a≤l.length:=by have:=uH HL;omega
    have HNO:=aA (show ¬ ∃c ∈ l,c.id=id by
     rintro ⟨c,hc,e⟩
     obtain ⟨k,hk,rfl⟩:=List.mem_iff_getElem.1 hc
     have h9:=uH HL
     have h8:=uH H1 k hk (by omega)
     omega)
    have HZ:=aA (fun wx (hb:Below w.heap.size w wx)=>show aF8 l id w.heap.size w _ wx from ⟨a,false,rfl,hpl,uH H1,uH H2,⟨fun h=>absurd h Bool.false_ne_true,fun h=>absurd h (uH HNO)⟩,hb⟩)
    go_wp2
    refine bodyPost_ret (v:=.tuple #[.int .i64 (a:Int),.bool false]) (by simp [results,Tryz.results108,go_sem]) rfl (uH HZ _ (uH HB))
theorem qA (x:Sls) (s:St) (id:Int) (w:World) (h:iJ w x s) (hf:bS s) (ha:aKL s.cs) :
  Calls Tryz.prog 71 #[sv x s,.int .i64 id] w (aF8 s.cs id w.heap.size w):=by
 have hcl:x.cl≤1048576:=by have:=h.len.2.2.2;have:=hf.2.2.2.1;omega
 have hb0:=yA (Below.refl _ w) (.cells (svc x s) 34)
 have C:=aA (aDX x.ca x.cl x.cc s.cs id _ (h.2.2.2.below hb0) hcl ha)
 have HB0:=aA hb0
 clear h hf ha hb0
 obtain ⟨qa,ql,qc,aa,al,ac,ma,ml,mc,ca,cl,cc⟩:=x
 obtain ⟨qs,clock,epoch,next,serial,apps,ms,cs⟩:=s
 simp only at C ⊢
 have hmf:∀(fn:Fn) (first cap:Array Value) (w:World),(Instr.makeFunc fn first cap).run Tryz.prog w=.ok (.func fn first cap) w:=fun _ _ _ _=>rfl
 go_enter Tryz.func71,Tryz.ntmps71
 go_wp2_with fail
 refine (uH C).mono ?_
 rintro e w1 ⟨p,f,rfl,h1,h2,h3,h4,hb⟩
 have HZ:=aA (show aF8 cs id w.heap.size w _ w1 from ⟨p,f,rfl,h1,h2,h3,h4,yB (uH HB0) hb⟩)
 clear h1 h2 h3 h4 hb C HB0
 go_wp2
 refine bodyPost_ret (v:=.tuple #[.int .i64 (p:Int),.bool f]) (by simp [results,Tryz.results71,go_sem]) rfl (uH HZ)
def mK (a b:Int):Bool:=aR a b&&!(decide (a=0)&&decide (b=0))
theorem oW (a b:Int) (w:World) :
  Calls Tryz.prog 124 #[rv a b] w fun e w'=>e=.returned (.bool (mK a b))∧Below w.heap.size w w':=by
 have HB0:=aA (yA (Below.refl _ w) (.cells #[.int .i64 a,.int .i64 b] 36))
 have P0:=aA (yD w #[.int .i64 a,.int .i64 b] 36)
 obtain ⟨r,hr⟩:∃r,aR a b=r:=⟨_,rfl⟩
 have C:=aA (fun wx=>by have:=aIf a b wx;rw [hr] at this;exact this)
 have HS:=aA (show mK a b=(r&&!(decide (a=0)&&decide (b=0))) by rw [mK,hr])
 obtain ⟨o,ho⟩:∃o,mK a b=o:=⟨_,rfl⟩
 rw [ho] at HS ⊢
 clear hr ho
 go_enter Tryz.func124,Tryz.ntmps124
 go_wp2_with fail
 refine (uH C _).mono ?_
 rintro e w1 ⟨rfl,hb⟩
 have HB1:=aA (yB (uH HB0) hb)
 have P1:=(uH P0).below hb
 have p0:=P1.at 0
 have p1:=P1.at 1
 simp at p0 p1
 clear hb P1 P0 HB0 C
 cases r with
 | false=>
  go_wp2
  go_ret
  exact ⟨yF (by rw [uH HS];simp),uH HB1⟩
 | true=>
  by_cases ha:a=0
  ·by_cases hbz:b=0
   ·subst ha hbz
    go_wp2
    go_ret
    exact ⟨yF (by rw [uH HS];simp),uH HB1⟩
   ·subst ha
    go_wp2
    go_ret
    exact ⟨yF (by rw [uH HS];simp [hbz]),uH HB1⟩
  ·go_wp2
   go_ret
   exact ⟨yF (by rw [uH HS];simp [ha]),uH HB1⟩
theorem kN (a b:Int) (w:World) :
  Calls Tryz.prog 94 #[rv a b] w fun e w'=>e=.returned (.bool (aR a b))∧Below w.heap.size w w':=
 (aQ a b w).mono fun e w' h=>⟨h.1,by rw [h.2];exact yA (Below.refl _ _) _⟩
theorem jO (a b:Int) (w:World) :
  Calls Tryz.prog 56 #[rv a b] w fun e w'=>e=.returned (.bool (mK a b))∧Below w.heap.size w w':=by
 have HB0:=aA (yA (Below.refl _ w) (.cells #[.int .i64 a,.int .i64 b] 36))
 have P0:=aA (yD w #[.int .i64 a,.int .i64 b] 36)
 obtain ⟨r,hr⟩:∃r,aR a b=r:=⟨_,rfl⟩
 have C:=aA (fun wx=>by have:=kN a b wx;rw [hr] at this;exact this)
 have HS:=aA (show mK a b=(r&&!(decide (a=0)&&decide (b=0))) by rw [mK,hr])
 obtain ⟨o,ho⟩:∃o,mK a b=o:=⟨_,rfl⟩
 rw [ho] at HS ⊢
 clear hr ho
 go_enter Tryz.func56,Tryz.ntmps56
 go_wp2_with fail
 refine (uH C _).mono ?_
 rintro e w1 ⟨rfl,hb⟩
 have HB1:=aA (yB (uH HB0) hb)
 have P1:=(uH P0).below hb
 have p0:=P1.at 0
 have p1:=P1.at 1
 simp at p0 p1
 clear hb P1 P0 HB0 C
 cases r with
 | false=>
  go_wp2
  go_ret
  exact ⟨yF (by rw [uH HS];simp),uH HB1⟩
 | true=>
  by_cases ha:a=0
  ·by_cases hbz:b=0
   ·subst ha hbz
    go_wp2
    go_ret
    exact ⟨yF (by rw [uH HS];simp),uH HB1⟩
   ·subst ha
    go_wp2
    go_ret
    exact ⟨yF (by rw [uH HS];simp [hbz]),uH HB1⟩
  ·go_wp2
   go_ret
   exact ⟨yF (by rw [uH HS];simp [ha]),uH HB1⟩
def iI (q:Ask):Bool:=mK q.mem q.cpu&&(inB q.count 1 1000&&((decide (q.node=[])||bC q.node)&&inB q.missed 0 1000))
theorem aHT (q:Ask) (w:World) (hn:q.node.length≤1048576) :
  Calls Tryz.prog 148 #[aCX q] w fun e w'=>e=.returned (.bool (iI q))∧Below w.heap.size w w':=by
 obtain ⟨x0,x1,ct,nd,ms⟩:=q
 simp only at hn
 have HB0:=aA (yA (Below.refl _ w) (.cells #[.int .i64 x0,.int .i64 x1,.int .i64 ct,.string (bs nd),.int .i64 ms] 77))
 have P0:=aA (yD w #[.int .i64 x0,.int .i64 x1,.int .i64 ct,.string (bs nd),.int .i64 ms] 77)
 obtain ⟨sm,hsm⟩:∃r,mK x0 x1=r:=⟨_,rfl⟩
 obtain ⟨nk,hnk⟩:∃r,bC nd=r:=⟨_,rfl⟩
 have C:=aA (fun wx=>by have:=oW x0 x1 wx;rw [hsm] at this;exact this)
 have CN:=aA (fun wx=>by have:=kJ (bs nd) wx (by rw [dA];exact hn);rw [show bC (bs nd).data.toList=nk by rw [←hnk];simp [bs]] at this;exact this)
 have HS:=aA (show iI ⟨x0,x1,ct,nd,ms⟩=(sm&&(inB ct 1 1000&&((decide (nd=[])||nk)&&inB ms 0 1000))) by rw [iI];simp only [hsm,hnk])
 obtain ⟨o,ho⟩:∃o,iI ⟨x0,x1,ct,nd,ms⟩=o:=⟨_,rfl⟩
 have hbz:=l7 nd
 rw [ho] at HS ⊢
 clear hsm hnk ho hn
 go_enter Tryz.func148,Tryz.ntmps148
 go_wp2_with fail
 refine (uH C _).mono ?_
 rintro e w1 ⟨rfl,hb⟩
 have HB1:=aA (yB (uH HB0) hb)
 have P1:=(uH P0).below hb
 have p2:=P1.at 2
 have p3:=P1.at 3
 have p4:=P1.at 4
 simp at p2 p3 p4
 clear hb P1 P0 HB0 C
 cases sm with
 | false=>
  go_wp2
  go_ret
  exact ⟨yF (by rw [uH HS];simp),uH HB1⟩
 | true=>
 by_cases h1:1≤ct
 case neg=>
  go_wp2
  go_ret
  exact ⟨yF (by rw [uH HS,bD (by omega)];simp),uH HB1⟩
 by_cases h2:ct≤1000
 case neg=>
  go_wp2
  go_ret
  exact ⟨yF (by rw [uH HS,bD (by omega)];simp),uH HB1⟩
 by_cases hz:nd=[]
 ·rw [decide_eq_true hz] at hbz HS
  clear hz
  by_cases m1:0≤ms
  case neg=>
   go_wp2
   go_ret
   exact ⟨yF (by rw [uH HS,bT h1 h2,bD (by omega)];simp),uH HB1⟩
  by_cases m2:ms≤1000
  case neg=>
   go_wp2
   go_ret
   exact ⟨yF (by rw [uH HS,bT h1 h2,bD (x:=ms) (by omega)];simp;omega),uH HB1⟩
  go_wp2
  go_ret
  exact ⟨yF (by rw [uH HS,bT h1 h2,bT m1 m2];simp),uH HB1⟩
 ·rw [decide_eq_false hz] at hbz HS
  clear hz
  go_wp2_with fail
  refine (uH CN _).mono ?_
  rintro e w2 ⟨rfl,rfl⟩
  clear CN
  cases nk with
  | false=>
   go_wp2
   go_ret
   exact ⟨yF (by rw [uH HS];simp),uH HB1⟩
  | true=>
  by_cases m1:0≤ms
  case neg=>
   go_wp2
   go_ret
   exact ⟨yF (by rw [uH HS,bT h1 h2,bD (by omega)];simp),uH HB1⟩
  by_cases m2:ms≤1000
  case neg=>
   go_wp2
   go_ret
   exact ⟨yF (by rw [uH HS,bT h1 h2,bD (by omega)];simp;omega),uH HB1⟩
  go_wp2
  go_ret
  exact ⟨yF (by rw [uH HS,bT h1 h2,bT m1 m2];simp),uH HB1⟩
theorem zM (q:Ask) (w:World) (hn:q.node.length≤1048576) :
  Calls Tryz.prog 91 #[aCX q] w fun e w'=>e=.returned (.bool (iI q))∧Below w.heap.size w w':=by
 obtain ⟨x0,x1,ct,nd,ms⟩:=q
 simp only at hn
 have HB0:=aA (yA (Below.refl _ w) (.cells #[.int .i64 x0,.int .i64 x1,.int .i64 ct,.string (bs nd),.int .i64 ms] 77))
 have P0:=aA (yD w #[.int .i64 x0,.int .i64 x1,.int .i64 ct,.string (bs nd),.int .i64 ms] 77)
 obtain ⟨sm,hsm⟩:∃r,mK x0 x1=r:=⟨_,rfl⟩
 obtain ⟨nk,hnk⟩:∃r,bC nd=r:=⟨_,rfl⟩
 obtain ⟨ic,hic⟩:∃r,inB ct 1 1000=r:=⟨_,rfl⟩
 obtain ⟨im,him⟩:∃r,inB ms 0 1000=r:=⟨_,rfl⟩
 have C:=aA (fun wx=>by have:=jO x0 x1 wx;rw [hsm] at this;exact this)
 have CN:=aA (fun wx=>by have:=kG (bs nd) wx (by rw [dA];exact hn);rw [show bC (bs nd).data.toList=nk by rw [←hnk];simp [bs]] at this;exact this)
 have CC:=aA (fun wx=>by have:=aM ct 1 1000 wx;rw [hic] at this;exact this)
 have CD:=aA (fun wx=>by have:=aM ms 0 1000 wx;rw [him] at this;exact this)
 have HS:=aA (show iI ⟨x0,x1,ct,nd,ms⟩=(sm&&(ic&&((decide (nd=[])||nk)&&im))) by rw [iI];simp only [hsm,hnk,hic,him])
 obtain ⟨o,ho⟩:∃o,iI ⟨x0,x1,ct,nd,ms⟩=o:=⟨_,rfl⟩
 have hbz:=l7 nd
 rw [ho] at HS ⊢
 clear hsm hnk ho hn hic him
 go_enter Tryz.func91,Tryz.ntmps91
 go_wp2_with fail
 refine (uH C _).mono ?_
 rintro e w1 ⟨rfl,hb⟩
 have HB1:=aA (yB (uH HB0) hb)
 have P1:=(uH P0).below hb
 have p2:=P1.at 2
 have p3:=P1.at 3
 have p4:=P1.at 4
 simp at p2 p3 p4
 clear hb P1 P0 HB0 C
 cases sm with
 | false=>
  go_wp2
  go_ret
  exact ⟨yF (by rw [uH HS];simp),uH HB1⟩
 | true=>
 go_wp2_with fail
 refine (uH CC _).mono ?_
 rintro e w2 ⟨rfl,rfl⟩
 clear CC
 cases ic with
 | false=>
  go_wp2
  go_ret
  exact ⟨yF (by rw [uH HS];simp),uH HB1⟩
 | true=>
 by_cases hz:nd=[]
 ·rw [decide_eq_true hz] at hbz HS
  clear hz CN
  go_wp2_with fail
  refine (uH CD _).mono ?_
  rintro e w3 ⟨rfl,rfl⟩
  clear CD
  go_wp2
  go_ret
  exact ⟨yF (by rw [uH HS];simp),uH HB1⟩
 ·rw [decide_eq_false hz] at hbz HS
  clear hz
  go_wp2_with fail
  refine (uH CN _).mono ?_
  rintro e w3 ⟨rfl,rfl⟩
  clear CN
  cases nk with
  | false=>
   go_wp2
   go_ret
   exact ⟨yF (by rw [uH HS];simp),uH HB1⟩
  | true=>
  go_wp2_with fail
  refine (uH CD _).mono ?_
  rintro e w4 ⟨rfl,rfl⟩
  clear CD
  go_wp2
  go_ret
  exact ⟨yF (by rw [uH HS];simp),uH HB1⟩
def AWh (w:World) (B E g n:Nat):Prop:=Cel w 74 g (n*3)∧∀i,i<n→∃b len,w.cell? ⟨g,i*3+2,none⟩=some (.slice (some ⟨b,0,none⟩) len len)∧Cel w 77 b (len*5)∧len≤1048576∧B≤b∧b<E∧b≠g
theorem AWh.below {w w':World} {B E g n:Nat} (h:AWh w B E g n) (hb:Below w.heap.size w w'):AWh w' B E g n:=
 ⟨h.1.below hb,fun i hi=>let ⟨b,len,a,c,d⟩:=h.2 i hi;⟨b,len,fD a hb,c.below hb,d⟩⟩
theorem AWh.sc {w:World} {B E g n:Nat} (h:AWh w B E g n) (j:Nat) (v:Value) (hj:∀i,j≠i*3+2):AWh (w.setCell ⟨g,j,none⟩ v) B E g n:=
 ⟨h.1.set _ _ _,fun i hi=>let ⟨b,len,a,c,d⟩:=h.2 i hi;⟨b,len,bB a (hj i),c.set _ _ _,d⟩⟩
theorem AWh.mkd {w w':World} {B E g n b:Nat} (h:AWh w B E g n) (hm:Mkd b (b+1) w w') (hn:b≠g):AWh w' B E g n:=
 ⟨hm.cel _ _ _ h.1,fun i hi=>let ⟨b',len,a,c,d⟩:=h.2 i hi;⟨b',len,(World.cell?_of_block (w:=w) (a:=⟨g,i*3+2,none⟩) (hm.block g h.1.lt (by omega))).trans a,hm.cel _ _ _ c,d⟩⟩
theorem bM.wh {w:World} {g n:Nat} {l:List dB} (h:bM w 74 g n n l) (hl:n=l.length) (hk:∀q ∈ l,q.asks.length≤1048576):AWh w (g+1) w.heap.size g n:=by
 refine ⟨h.cel,fun i hi=>?_⟩
 obtain ⟨arr,h1,h2,h3⟩:=h
 have hil:i<l.length:=by omega
 obtain ⟨_,_,ao,len,cap,e,ho⟩:=h3 i hil hi
 obtain ⟨b,rfl,rfl,hb⟩:=ho.2.2.2
 have hg:=ho.2.2.1 b 0 rfl
 have hlen:=hk l[i] (List.getElem_mem _)
 have:=ho.1.1
 exact ⟨b,cap,by simp [World.cell?,h1,e],hb.cel,by omega,by omega,hb.lt,by omega⟩
theorem aA2 (B E g n:Nat) (k0:Int) (w:World) (h:AWh w B E g n) (hB:B≤g) (hE:g<E) (hn:n≤1048576) (h0:0<k0) (h1:k0≤100000000000000) :
  Calls Tryz.prog 36 #[.slice (some ⟨g,0,none⟩) n n,.int .i64 k0] w fun e w'=>∃k',e=.returned (.int .i64 k')∧k0≤k'∧k'≤k0+5242882*(n:Int)∧Mkd B E w w':=by
 have HQ0:=aA h
 clear h
 go_enter Tryz.func36,Tryz.ntmps36
 go_wp2
 go_loopw [1,5] (fun s i wr=>∃(j:Nat) (k:Int),j≤n∧i=.int .i64 j∧s=.int .i64 k∧k0≤k∧k≤k0+5242882*(j:Int)∧Hid (AWh wr B E g n)∧Hid (Mkd B E w wr)) (fun _ i _=>n - (intOf i).toNat)
 case atStart=>exact ⟨0,k0,Nat.zero_le _,rfl,rfl,by omega,by omega,HQ0,aA (Mkd.refl _ _ _)⟩
 case round=>
  obtain ⟨j,k,hj,rfl,rfl,hk,hk',HQ,HG⟩:=hrel
  by_cases hlt:j<n
  ·have hk0:0<k:=by omega
   have hk1:k≤105500000000000:=by omega
   have HK:=aA hk'
   clear hk'
   obtain ⟨v0,d0⟩:=(uH HQ).1.cell (j:=j*3) (by omega)
   have f0:=(uH HQ).1.frozen (j*3)
   have HQ1:=aA ((uH HQ).sc (j*3) (.int .i64 k) (by omega))
   have HG1:=aA ((uH HG).sc g (j*3) (.int .i64 k) hB hE)
   clear HQ HG
   go_wp2_with fail
   refine (aU (k+1) _ (by omega) (by omega)).mono ?_
   rintro e w1 ⟨rfl,hb⟩
   have HQ2:=aA ((uH HQ1).below hb)
   have HG2:=aA ((uH HG1).on hb)
   clear hb d0 f0 HQ1 HG1
   obtain ⟨v1,d1⟩:=(uH HQ2).1.cell (j:=j*3+1) (by omega)
   have f1:=(uH HQ2).1.frozen (j*3+1)
   have HQ3:=aA ((uH HQ2).sc (j*3+1) (.string (mk (k+1).toNat)) (by omega))
   have HG3:=aA ((uH HG2).sc g (j*3+1) (.string (mk (k+1).toNat)) hB hE)
   clear HQ2 HG2
   obtain ⟨b,len,d2,hcel,hlen,hb1,hb2,hbg⟩:=(uH HQ3).2 j hlt
   obtain ⟨K,hK⟩:=Int.eq_ofNat_of_zero_le (a:=k+1+1) (by omega)
   have CA:=aA (fun (e:k+1+1=(K:Int))=>by have:=pQ b len len K (d:=len) _ hcel (Nat.le_refl _) hlen (by omega) (by omega);rw [←e] at this;exact this)
   have HKK:=aA hK
   clear hcel hK
   go_wp2_with fail
   refine (uH CA (uH HKK)).mono ?_
   rintro e w2 ⟨rfl,_,hm⟩
   have HQ4:=aA ((uH HQ3).mkd hm hbg)
   have HG4:=aA ((uH HG3).trans (hm.mono hb1 (by omega)))
   clear hm CA HQ3 HG3 d1 f1 d2
   go_wp2
   go_roundw
   case rel=>exact ⟨j+1,k+1+1+5*(len:Int),by omega,by go_num,by go_num,by omega,by have:=uH HK;omega,HQ4,HG4⟩
   case measure=>simp [intOf];omega
  ·have hjn:j=n:=by omega
   subst hjn
   go_wp2
   go_ret
   exact ⟨k,rfl,hk,hk',uH HG⟩
theorem aAY (B E g1 g2 g3 g4 ql al ml cl:Nat) (s:St) (w:World) (hq:Cel w 100 g1 (ql*4)) (ha:AWh w B E g2 al) (hm:Cel w 104 g3 (ml*4)) (hc:Cel w 38 g4 (cl*5))
  (b1:B≤g1∧g1<g2∧g2<g3∧g3<g4∧g4<E) (hE:E≤w.heap.size) (hql:ql≤1048576) (hal:al≤1048576) (hml:ml≤1048576) (hcl:cl≤1048576) :
  Calls Tryz.prog 11 #[sv (aCV g1 g2 g3 g4 ql al ml cl) s,.int .i64 1] w fun e w'=>∃k,e=.returned (.int .i64 k)∧0<k∧Mkd B E w w':=by
 have hb0:=yA (Below.refl _ w) (.cells (svc (aCV g1 g2 g3 g4 ql al ml cl) s) 34)
 have P0:=aA (yD w (svc (aCV g1 g2 g3 g4 ql al ml cl) s) 34)
 have CQ:=aA (hq.below hb0)
 have CA:=aA (ha.below hb0)
 have CM:=aA (hm.below hb0)
 have CC:=aA (hc.below hb0)
 have HG0:=aA (show Mkd B E w _ from .of_below hb0)
 obtain ⟨qs,clock,epoch,next,serial,apps,ms,cs⟩:=s
 clear hq ha hm hc hb0
 go_enter Tryz.func11,Tryz.ntmps11
 go_wp2_with fail
 refine (vH g1 ql ql 1 _ (uH CQ) (Nat.le_refl _) hql (by omega) (by omega)).mono ?_
 rintro e w1 ⟨rfl,hm1⟩
 have P1:=aA (hm1.blk (uH P0) (.inr (by omega)))
 have CA1:=aA ((uH CA).mkd hm1 (by omega))
 have CM1:=aA (hm1.cel _ _ _ (uH CM))
 have CC1:=aA (hm1.cel _ _ _ (uH CC))
 have HG1:=aA ((uH HG0).trans (hm1.mono b1.1 (by omega)))
 have p5:=(uH P1).at 5
 simp at p5
 clear hm1 P0 CQ CA CM CC HG0
 go_wp2_with fail
 refine (aA2 B E g2 al (1+4*(ql:Int)) _ (uH CA1) (by omega) (by omega) hal (by omega) (by omega)).mono ?_
 rintro e w2 ⟨k2,rfl,hk2,hk2',hm2⟩
 have P2:=aA (hm2.blk (uH P1) (.inr (by omega)))
 have CM2:=aA (hm2.cel _ _ _ (uH CM1))
 have CC2:=aA (hm2.cel _ _ _ (uH CC1))
 have HG2:=aA ((uH HG1).trans hm2)
 have p6:=(uH P2).at 6
 simp at p6
 have hk2a:0<k2:=by omega
 have hk2b:k2≤10000000000000:=by omega
 clear hm2 P1 CA1 CM1 CC1 HG1 p5 hk2 hk2'
 go_wp2_with fail
 refine (qW g3 ml ml k2 _ (uH CM2) (Nat.le_refl _) hml (by omega) (by omega)).mono ?_
 rintro e w3 ⟨rfl,hm3⟩
 have P3:=aA (hm3.blk (uH P2) (.inr (by omega)))
 have CC3:=aA (hm3.cel _ _ _ (uH CC2))
 have HG3:=aA ((uH HG2).trans (hm3.mono (by omega) (by omega)))
 have p7:=(uH P3).at 7
 simp at p7
 clear hm3 P2 CM2 CC2 HG2 p6
 go_wp2_with fail
 refine (xJ g4 cl cl (k2+4*(ml:Int)) _ (uH CC3) (Nat.le_refl _) hcl (by omega) (by omega)).mono ?_
 rintro e w4 ⟨rfl,hm4⟩
 have HG4:=aA ((uH HG3).trans (hm4.mono (by omega) (by omega)))
 clear hm4 P3 CC3 HG3 p7
 go_wp2
 go_ret
 exact ⟨_,rfl,by omega,uH HG4⟩
theorem AWh.mono {w:World} {B E B' E' g n:Nat} (h:AWh w B E g n) (h1:B'≤B) (h2:E≤E'):AWh w B' E' g n:=
 ⟨h.1,fun i hi=>let ⟨b,len,a,c,d,e,f,k⟩:=h.2 i hi;⟨b,len,a,c,d,by omega,by omega,k⟩⟩
theorem iK.mkd {w wx wy:World} {x:Sls} {s:St} {B E:Nat} (h:iK w x s wx) (hm:Mkd B E wx wy) (h1:w.heap.size<B) (h2:B≤wx.heap.size):iK w x s wy:=⟨hm.blk h.1 (.inl h1),h.2.trans ((hm.below h2).mono (by omega))⟩
theorem iK.low {w wx wy:World} {x:Sls} {s:St} {B:Nat} (h:iK w x s wx) (hm:Below B wx wy) (h1:w.heap.size<B):iK w x s wy:=⟨(hm.block _ h1).trans h.1,h.2.trans (hm.mono (by omega))⟩
def kE (w9 w:World) (x:Sls) (s:St) (g g1 g2 g3 g4:Nat) (wx:World):Prop:=oK w x s g g1 g2 g3 g4 wx∧Below w9.heap.size w9 wx
theorem kE.call {w9 w wx wy:World} {x:Sls} {s:St} {g g1 g2 g3 g4:Nat} (h:kE w9 w x s g g1 g2 g3 g4 wx) (hb:Below wx.heap.size wx wy):kE w9 w x s g g1 g2 g3 g4 wy:=⟨h.1.call hb,yB h.2 hb⟩
theorem kE.drew {w9 w wx:World} {x:Sls} {s:St} {g g1 g2 g3 g4:Nat} (h:kE w9 w x s g g1 g2 g3 g4 wx):kE w9 w x s g g1 g2 g3 g4 wx.drew:=h.call (Below.refl _ _).drew
end
end Go.Proofs.YtdhibeclkdepiaaGreat
