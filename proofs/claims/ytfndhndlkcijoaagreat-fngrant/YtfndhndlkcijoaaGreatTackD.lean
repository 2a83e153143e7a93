/-
  Texts in one: SumS4, SuitB, BsI, OkA, MarkN.
-/
import Derived.Test.YtfndhndlkcijoaaGreatTackA
set_option maxRecDepth 100000
set_option maxHeartbeats 16000000
set_option linter.unusedVariables false
set_option linter.unusedSimpArgs false
open Go.Proofs.Tryz
namespace Go.Proofs.YtfndhndlkcijoaaGreat
section
open Go.RowKit
variable {x y:Int} {r:Int×Int} {b p:Nat} {w w0:World}
def cO (w0:World) (b p:Nat) (r:Int×Int) (x y:Int) (w:World):Prop:=RAt w b p r∧Var w 33 (w0.heap.size+1) x y∧Var w 33 w0.heap.size 0 0∧Bw w0 w
theorem cO.call {w':World} (h:cO w0 b p r x y w) (hb:Bw w w'):cO w0 b p r x y w':=⟨h.1.below hb,h.2.1.below hb,h.2.2.1.below hb,yB h.2.2.2 hb⟩
theorem cO.drew (h:cO w0 b p r x y w):cO w0 b p r x y w.drew:=h.call (yH _ _).drew
theorem cO.al (h:cO w0 b p r x y w) (o:Obj):cO w0 b p r x y (w.alloc o):=h.call (yA (yH _ _) o)
theorem cO.set (h:cO w0 b p r x y w) (k j:Nat) (v:Value) (h1:w0.heap.size+1<k) (h2:b≠k):cO w0 b p r x y (w.setCell ⟨k,j,none⟩ v):=by
  have hc:∀q,(w.setCell ⟨k,j,none⟩ v).cell? ⟨b,q,none⟩=w.cell? ⟨b,q,none⟩:=fun q=>by unfold World.cell?;rw [heap_setCell_other w ⟨k,j,none⟩ b v h2]
  exact ⟨⟨(hc _).trans h.1.1,(hc _).trans h.1.2⟩,h.2.1.other _ _ _ (by omega),h.2.2.1.other _ _ _ (by omega),yC h.2.2.2 _ _ _ (by omega)⟩
theorem cO.read (w0:World) (b p:Nat) (r:Int×Int) (x y:Int):∀wx,cO w0 b p r x y wx→wx.cell? ⟨b,p,none⟩=some (.int .i64 r.1)∧wx.cell? ⟨b,p+1,none⟩=some (.int .i64 r.2)∧wx.cell? ⟨w0.heap.size+1,0,none⟩=some (.int .i64 x)∧wx.cell? ⟨w0.heap.size+1,1,none⟩=some (.int .i64 y):=
  fun wx h=>⟨h.1.1,h.1.2,h.2.1.c0,h.2.1.c1⟩
theorem lZ (ao:Option Addr) (len cap:Nat) (l:List (Int×Int)) (w:World) (h:aF2 w ao len l) (hl:len≤1048576) :
    cP 70 #[.slice ao len cap] w fun e w'=>e=.returned (.tuple #[rv (iC l).1 (iC l).2.1,.bool (iC l).2.2])∧Bw w w':=by
  have HR:=aA h;have HL:=aA h.1;obtain ⟨⟨sx,sy,so⟩,hs⟩:∃s,iC l=s:=⟨_,rfl⟩;have HS:=aA (show aT l 0 0=(sx,sy,so) from hs);rw [hs];clear h hs;go_enter func70,ntmps70;go_wp2;go_loopw [5] (fun i wr=>∃(k:Nat) (x y:Int),k≤len∧i=.int .i64 k∧Hid (aT (l.drop k) x y=(sx,sy,so))∧Hid (Var wr 33 w.heap.size 0 0)∧Hid (Var wr 33 (w.heap.size+1) x y)∧Hid (Bw w wr)) (fun i _=>len - (intOf i).toNat);case atStart=>exact ⟨0,0,0,Nat.zero_le _,rfl,aA (by simpa using uH HS),aA ((aM w _ _ _).al _),aA (iB w _ _ 0 0 0 0),aA (yA (yA (yH _ _) _) _)⟩
  case round=>
    obtain ⟨k,x,y,hk,rfl,HQ,Z0,GM,HB⟩:=hrel;by_cases hlt:k<len
    · obtain ⟨b,off,rfl,hq⟩:=((uH HR).below (uH HB)).at hlt;(have hkl:k<l.length:=by have:=uH HL;omega);have hst:=tV hkl x y;have A0:=aA (show cO w b (off+k*2) l[k] x y wr from ⟨hq hkl,uH GM,uH Z0,uH HB⟩);obtain ⟨⟨a,d⟩,hs⟩:∃q,l[k]=q:=⟨_,rfl⟩;rw [hs] at A0 hst;simp only at hst;have HST:=aA hst;have R:=cO.read w b (off+k*2) (a,d) x y;simp only at R;(have k0:(0:Int)≤k:=by omega);(have k1:(k:Int)<len:=by omega);clear hq hs hkl hst Z0 GM HB;have CA:=aA (fun wx=>vY x y a d wx);obtain ⟨x',y',ok,hv⟩:∃x' y' ok,jY 1 x y a d=rv x' y'∧aN 1 x y a d=ok:=by
        cases ho:aN 1 x y a d
        · exact ⟨0,0,_,kQ ho,rfl⟩
        · exact ⟨_,_,_,kW ho,rfl⟩
      have Qz:=aA hv;rw [hv.1,hv.2] at CA;clear hv;have sz1:=(uH A0).2.1.lt;have sb1:=(uH A0).1.lt;(go_wp2_with fail);(go_cut [6,7] from 15 to 24 (fun v6 v7 wx=>∃g,v6=.pointer (some ⟨g,0,none⟩)∧v7=.bool ok∧cO w b (off+k*2) (a,d) x y wx∧Var wx 33 g x' y'∧w.heap.size+1<g));case first=>
        go_region_held3 (fun wx=>cO w b (off+k*2) (a,d) x y wx)
          (first | (with_reducible assumption) | exact uH SA | exact (uH A0).drew | exact cO.al (uH SA) _ | exact cO.al (by assumption) _ | exact cO.al (uH A0).drew _ | exact cO.call (by assumption) (by assumption) | exact cO.set (cO.set (uH SA) _ _ _ (by first | omega | (simp<;>omega)) (by first | omega | (simp<;>omega))) _ _ _ (by first | omega | (simp<;>omega)) (by first | omega | (simp<;>omega)) | exact cO.set (cO.set (by assumption) _ _ _ (by first | omega | (simp<;>omega)) (by first | omega | (simp<;>omega))) _ _ _ (by first | omega | (simp<;>omega)) (by first | omega | (simp<;>omega)))
          (first
          | (go_at_call 128;refine (uH CA _).mono ?_;rintro e wt ⟨rfl,hb⟩;have SA:=aA (cO.call (w0:=w) (b:=b) (p:=off+k*2) (r:=(a,d)) (x:=x) (y:=y) (by assumption) hb);have sz:=(uH SA).2.1.lt;have sb:=(uH SA).1.lt
             first
               | (have V5:=(aM _ 33 0 0).below hb;(try simp at V5);have c50:=V5.c0;have c51:=V5.c1;have f50:=V5.f 0;have f51:=V5.f 1;have V5:=aA V5)
               | (have V5:=(aM _ 33 0 0).drew.below hb;(try simp at V5);have c50:=V5.c0;have c51:=V5.c1;have f50:=V5.f 0;have f51:=V5.f 1;have V5:=aA V5)
               | skip))
        all_goals
          (go_wp2_with fail);go_meet;exact ⟨_,rfl,rfl,by first | assumption | exact uH SA | exact cO.al (uH SA) _,by first | exact aM _ _ _ _ | exact (uH V5).set _ _,by first | omega | (simp<;>omega)⟩
      case rest=>
        obtain ⟨g,rfl,rfl,hA,hV,hg⟩:=hcut;have A1:=aA hA;have W1:=aA hV;clear hA hV A0 CA R;have v0:=(uH W1).c0;have v1:=(uH W1).c1;have s0:=(uH A1).2.1.c0;have s1:=(uH A1).2.1.c1;have sf0:=(uH A1).2.1.f 0;have sf1:=(uH A1).2.1.f 1;have t0:=(uH A1).2.2.1.c0;have t1:=(uH A1).2.2.1.c1;have tf0:=(uH A1).2.2.1.f 0;have tf1:=(uH A1).2.2.1.f 1;cases ok with
        | true=>have hxy:=kW (uH Qz).2;rw [(uH Qz).1] at hxy;simp only [rv,Value.agg.injEq,Array.mk.injEq,List.cons.injEq,Value.int.injEq,and_true,true_and] at hxy;rw [if_pos (uH Qz).2,←hxy.1,←hxy.2] at HST;clear hxy Qz;go_wp2;go_roundw;(case rel=>exact ⟨k+1,x',y',by omega,by go_num,aA (by rw [←uH HST];exact uH HQ),aA (((uH A1).2.2.1.other _ _ _ (show w.heap.size≠w.heap.size+1 by omega)).other _ _ _ (show w.heap.size≠w.heap.size+1 by omega)),aA ((uH A1).2.1.set _ _),aA (yC (yC (uH A1).2.2.2 _ _ _ (show w.heap.size≤w.heap.size+1 by omega)) _ _ _ (show w.heap.size≤w.heap.size+1 by omega))⟩);case measure=>simp [intOf];omega
        | false=>rw [if_neg (by rw [(uH Qz).2];simp)] at HST;have QA:=(uH HST).symm.trans (uH HQ);simp only [Prod.mk.injEq] at QA;obtain ⟨rfl,rfl,rfl⟩:=QA;have k4:=(uH A1).2.2.1.s0 (.int .i64 0);have k5:=(uH A1).2.2.1.s1 (.int .i64 0) (.int .i64 0);have HB1:=aA (uH A1).2.2.2;clear HST HS Qz;go_wp2;refine bodyPost_ret (v:=.tuple #[rv 0 0,.bool false]) (by simp [results,results70,go_sem,k4,k5]) rfl ⟨rfl,?_⟩;repeat (first | exact uH HB1 | refine yC ?_ _ _ _ (by omega))
    · (have QA:(x,y,true)=(sx,sy,so):=by rw [←uH HQ,vU (by have:=uH HL;omega)]);simp only [Prod.mk.injEq] at QA;obtain ⟨rfl,rfl,rfl⟩:=QA;have s0:=(uH GM).c0;have s1:=(uH GM).c1;have t0:=(uH Z0).c0;have t1:=(uH Z0).c1;have f0:=(uH Z0).f 0;have f1:=(uH Z0).f 1;have k4:=(uH Z0).s0 (.int .i64 x);have k5:=(uH Z0).s1 (.int .i64 x) (.int .i64 y);go_wp2;refine bodyPost_ret (v:=.tuple #[rv x y,.bool true]) (by simp [results,results70,go_sem,k4,k5]) rfl ⟨rfl,?_⟩;repeat (first | exact uH HB | refine yC ?_ _ _ _ (by omega))
end
section
open Go.ChangeShapes Go.WideShapes Go.ChangeAt Go.RowKit
def mX (q:Ask) (nm:List UInt8):Bool:=decide (q.node=[])||(decide (q.node=nm)||decide (3≤q.missed))
theorem rA (q:Ask) (nm:List UInt8) (w:World) :
  cP 16 #[aF9 q,.string (bs nm)] w fun e w'=>e=.returned (.bool (mX q nm))∧Bw w w':=by
 obtain ⟨x0,x1,x2,nd,x4⟩:=q;have hbe:=l6 nd nm;have hbz:=mV nd;simp only [mX];by_cases h1:nd=[]<;>by_cases h2:nd=nm<;>by_cases h3:3≤x4
 all_goals
  first | rw [decide_eq_true h1] at hbz ⊢ | rw [decide_eq_false h1] at hbz ⊢
  first | rw [decide_eq_true h2] at hbe ⊢ | rw [decide_eq_false h2] at hbe ⊢
  first | rw [decide_eq_true h3] | rw [decide_eq_false h3]
  clear h1 h2;go_enter func16,ntmps16;go_wp2;go_ret;refine ⟨rfl,?_⟩;repeat (first | exact yH _ _ | refine yA ?_ _ | refine Below.drew ?_ | refine yC ?_ _ _ _ (by omega))
theorem mI (q:Ask) (nm:List UInt8) (w:World) :
  cP 17 #[aF9 q,.string (bs nm)] w fun e w'=>e=.returned (.bool (mX q nm))∧Bw w w':=by
 obtain ⟨x0,x1,x2,nd,x4⟩:=q;have hbe:=l6 nd nm;have hbz:=mV nd;simp only [mX];by_cases h1:nd=[]<;>by_cases h2:nd=nm<;>by_cases h3:3≤x4
 all_goals
  first | rw [decide_eq_true h1] at hbz ⊢ | rw [decide_eq_false h1] at hbz ⊢
  first | rw [decide_eq_true h2] at hbe ⊢ | rw [decide_eq_false h2] at hbe ⊢
  first | rw [decide_eq_true h3] | rw [decide_eq_false h3]
  clear h1 h2;go_enter func17,ntmps17;go_wp2;go_ret;refine ⟨rfl,?_⟩;repeat (first | exact yH _ _ | refine yA ?_ _ | refine Below.drew ?_ | refine yC ?_ _ _ _ (by omega))
end
section
open Go.RowKit
variable {l:List Q}
def aH2 (a b:Int):Int:=if a<b then -1 else if b<a then 1 else 0
theorem aBz (a:Int) (w:World):cP 211 #[.int .i64 a] w fun e w'=>e=.returned (.bool false)∧w=w':=by
 go_enter func211,ntmps211
 go_wp2;go_ret;exact ⟨rfl,rfl⟩
theorem aCV (a b:Int) (w:World):cP 169 #[.int .i64 a,.int .i64 b] w fun e w'=>e=.returned (.int .i64 (aH2 a b))∧w=w':=by
 have hc:aH2 a b=if a<b then -1 else if b<a then 1 else 0:=rfl
 have C1:=aA (aBz a w);have C2:=aA (aBz b w);by_cases h1:a<b
 ·rw [if_pos h1] at hc;rw [hc];clear hc;go_enter func169,ntmps169;go_wp2_with fail;refine (uH C1).mono ?_;rintro e w1 ⟨rfl,rfl⟩;go_wp2_with fail;refine (uH C2).mono ?_;rintro e w2 ⟨rfl,rfl⟩;go_wp2;go_ret;exact ⟨rfl,rfl⟩
 ·rw [if_neg h1] at hc;by_cases h2:b<a
  ·rw [if_pos h2] at hc;rw [hc];clear hc;(go_enter func169,ntmps169);(go_wp2_with fail);refine (uH C1).mono ?_;rintro e w1 ⟨rfl,rfl⟩;(go_wp2_with fail);refine (uH C2).mono ?_;rintro e w2 ⟨rfl,rfl⟩;go_wp2;go_ret;exact ⟨rfl,rfl⟩
  ·rw [if_neg h2] at hc;rw [hc];clear hc;(go_enter func169,ntmps169);(go_wp2_with fail);refine (uH C1).mono ?_;rintro e w1 ⟨rfl,rfl⟩;(go_wp2_with fail);refine (uH C2).mono ?_;rintro e w2 ⟨rfl,rfl⟩;go_wp2;go_ret;exact ⟨rfl,rfl⟩
theorem aGu (c:Con) (id:Int) (w:World):cP 168 #[.agg #[.int .i64 c.id,.int .i64 c.app,.string (bs c.node),.int .i64 c.mem,.int .i64 c.cpu],.int .i64 id] w fun e w'=>e=.returned (.int .i64 (aH2 c.id id))∧Bw w w':=by
 have C:=aA (fun wx=>aCV c.id id wx);obtain ⟨o,ho⟩:∃o,aH2 c.id id=o:=⟨_,rfl⟩;rw [ho] at C ⊢;obtain ⟨ci,cap,cn,me,cp⟩:=c;simp only at C ho;clear ho;go_enter func168,ntmps168;go_wp2_with fail;refine (uH C _).mono ?_;rintro e w1 ⟨rfl,rfl⟩;go_wp2;go_ret;exact ⟨rfl,yA (yH _ _) _⟩
def aKj (l:List Con):Prop:=∀i j (hi:i<l.length) (hj:j<l.length),i<j→l[i].id<l[j].id
def aF1 (l:List Con) (id:Int) (n:Nat) (w:World) (e:Ending) (w':World):Prop:=
 ∃(p:Nat) (f:Bool),e=.returned (.tuple #[.int .i64 (p:Int),.bool f])∧p≤l.length∧(∀i (hi:i<l.length),i<p→l[i].id<id)∧(∀i (hi:i<l.length),p≤i→id≤l[i].id)∧(f=true↔∃c ∈ l,c.id=id)∧Below n w w'
theorem aDT (ao:Option Addr) (len cap:Nat) (l:List Con) (id:Int) (w:World) (h:bR w ao len l) (hl:len≤1048576) (ha:aKj l) :
  cP 167 #[.slice ao len cap,.int .i64 id,.func (.func 168) #[] #[]] w (aF1 l id w.heap.size w):=by
 have HR:=aA h;have HL:=aA h.1;have HA:=aA ha;have C:=aA (fun c wx=>aGu c id wx);clear h ha;go_enter func167,ntmps167;go_wp2;go_loopw [9,10,11] (fun i j _ wr=>∃a b:Nat,a≤b∧b≤len∧i=.int .i64 a∧j=.int .i64 b∧Hid (∀k (hk:k<l.length),k<a→l[k].id<id)∧Hid (∀k (hk:k<l.length),b≤k→id≤l[k].id)∧Hid (Bw w wr)) (fun i j _ _=>(intOf j).toNat - (intOf i).toNat);case atStart=>exact ⟨0,len,Nat.zero_le _,yJ _,rfl,rfl,aA (fun k _ h=>absurd h (by omega)),aA (fun k hk h=>absurd hk (by have:=uH HL;omega)),aA (yH _ _)⟩
 case round=>
  obtain ⟨a,b,hab,hbl,rfl,rfl,H1,H2,HB⟩:=hrel;by_cases hlt:a<b
  ·obtain ⟨m,hm⟩:∃m:Nat,(a+b) / 2=m:=⟨_,rfl⟩;(have hq:((a:Int)+(b:Int)) / 2=(m:Int):=by omega);(have WJ:a≤m:=by omega);(have hmb:m<b:=by omega);(have GN:m<len:=by omega);obtain ⟨bb,off,rfl,hat⟩:=((uH HR).below (uH HB)).at GN;(have hmk:m<l.length:=by have:=uH HL;omega);obtain ⟨c0,c1,c2,c3,c4⟩:=hat hmk;have Dw:=aA (show l[m].id<id→∀k (hk:k<l.length),k<m+1→l[k].id<id from fun hx k hk hkm=>by
    by_cases e:k=m
    ·subst e;exact hx
    ·have:=uH HA k m hk hmk (by omega);omega)
   have Dv:=aA (show id≤l[m].id→∀k (hk:k<l.length),m≤k→id≤l[k].id from fun hx k hk hkm=>by
    by_cases e:k=m
    ·subst e;exact hx
    ·have:=uH HA m k hmk hk (by omega);omega)
   obtain ⟨c,hc⟩:∃c,l[m]=c:=⟨_,rfl⟩;rw [hc] at c0 c1 c2 c3 c4 Dw Dv;have C1:=aA (uH C c);(have m0:(0:Int)≤m:=by omega);(have m1:(m:Int)<len:=by omega);obtain ⟨ci,cap',cn,me,cp⟩:=c;simp only at c0 c1 c2 c3 c4 C1 Dw Dv;clear hat hc hm hmk;by_cases hci:ci<id
   ·(have hr:aH2 ci id = -1:=by rw [aH2,if_pos hci]);rw [hr] at C1;have HN:=aA (uH Dw hci);clear hr Dw Dv;(go_wp2_with fail);refine (uH C1 _).mono ?_;rintro e w2 ⟨rfl,hb⟩;have HB2:=aA (yB (uH HB) hb);clear hb;go_wp2;go_roundw;(case rel=>exact ⟨m+1,b,by omega,hbl,by go_num,rfl,HN,H2,HB2⟩);case measure=>simp [intOf];omega
   ·obtain ⟨r,hr⟩:∃r,aH2 ci id=r:=⟨_,rfl⟩;(have hr0:¬r<0:=by rw [←hr,aH2,if_neg hci];split<;>omega);rw [hr] at C1;have HN:=aA (uH Dv (by omega));clear hr Dw Dv;(go_wp2_with fail);refine (uH C1 _).mono ?_;rintro e w2 ⟨rfl,hb⟩;have HB2:=aA (yB (uH HB) hb);clear hb;go_wp2;go_roundw;(case rel=>exact ⟨a,m,WJ,by omega,rfl,rfl,H1,HN,HB2⟩);case measure=>simp [intOf];omega
  ·(obtain rfl:a=b:=by omega);by_cases hal:a<len
   ·obtain ⟨bb,off,rfl,hat⟩:=((uH HR).below (uH HB)).at hal;(have hmk:a<l.length:=by have:=uH HL;omega);obtain ⟨c0,c1,c2,c3,c4⟩:=hat hmk;have HF:=aA (show (∃c ∈ l,c.id=id)↔l[a].id=id from ⟨fun ⟨c,hc,e⟩=>by
     obtain ⟨k,hk,rfl⟩:=List.mem_iff_getElem.1 hc;by_cases e1:k<a
     ·have:=uH H1 k hk e1;omega
     ·by_cases e2:k=a
      ·subst e2;exact e
      ·have h1:=uH HA a k hmk hk (by omega);have h2:=uH H2 a hmk (yJ _);omega,fun e=>⟨_,yM hmk,e⟩⟩)
    (have HG:=aA (uH H2 a hmk (yJ _));obtain ⟨c,hc⟩:∃c,l[a]=c:=⟨_,rfl⟩;rw [hc] at c0 c1 c2 c3 c4 HF HG;have C1:=aA (uH C c);obtain ⟨ci,cap',cn,me,cp⟩:=c;simp only at c0 c1 c2 c3 c4 C1 HF HG;obtain ⟨r,hr⟩:∃r,aH2 ci id=r:=⟨_,rfl⟩;have hr1:r=0↔ci=id:=by have:=uH HG;rw [←hr,aH2,if_neg (by omega)];split<;>omega);rw [hr] at C1;have HR1:=aA hr1;(have m0:(0:Int)≤a:=by omega);(have m1:(a:Int)<len:=by omega);(have hpl:a≤l.length:=by omega);clear hat hc hmk hr hr1;by_cases hz:r=0
    ·subst hz;(go_wp2_with fail);refine (uH C1 _).mono ?_;rintro e w2 ⟨rfl,hb⟩;have HB2:=aA (yB (uH HB) hb);clear hb;have HZ:=aA (show aF1 l id w.heap.size w _ w2 from ⟨a,true,rfl,hpl,uH H1,uH H2,⟨fun _=>(uH HF).2 ((uH HR1).1 (by first | rfl | trivial)),fun _=>rfl⟩,uH HB2⟩);go_wp2;refine bodyPost_ret (v:=.tuple #[.int .i64 (a:Int),.bool true]) (by simp [results,results167,go_sem]) rfl (uH HZ)
    ·(go_wp2_with fail);refine (uH C1 _).mono ?_;rintro e w2 ⟨rfl,hb⟩;have HB2:=aA (yB (uH HB) hb);clear hb;have HZ:=aA (show aF1 l id w.heap.size w _ w2 from ⟨a,false,rfl,hpl,uH H1,uH H2,⟨fun h=>absurd h Bool.false_ne_true,fun h=>absurd ((uH HR1).2 ((uH HF).1 h)) hz⟩,uH HB2⟩);go_wp2;refine bodyPost_ret (v:=.tuple #[.int .i64 (a:Int),.bool false]) (by simp [results,results167,go_sem,hz]) rfl (uH HZ)
   ·(have JU:¬(a:Int)<len:=by omega);(have hpl:a≤l.length:=by have:=uH HL;omega);have xk:=aA (show ¬ ∃c ∈ l,c.id=id by
     rintro ⟨c,hc,e⟩;obtain ⟨k,hk,rfl⟩:=List.mem_iff_getElem.1 hc;have h9:=uH HL;have h8:=uH H1 k hk (by omega);omega)
    have HZ:=aA (fun wx (hb:Bw w wx)=>show aF1 l id w.heap.size w _ wx from ⟨a,false,rfl,hpl,uH H1,uH H2,⟨fun h=>absurd h Bool.false_ne_true,fun h=>absurd h (uH xk)⟩,hb⟩);go_wp2;refine bodyPost_ret (v:=.tuple #[.int .i64 (a:Int),.bool false]) (by simp [results,results167,go_sem]) rfl (uH HZ _ (uH HB))
theorem rF (x:Sls) (s:St) (id:Int) (w:World) (h:gW w x s) (hf:dB s) (ha:aKj s.cs) :
  cP 112 #[sv x s,.int .i64 id] w (aF1 s.cs id w.heap.size w):=by
 have hcl:x.cl≤1048576:=by have:=h.len.2.2.2;have:=hf.2.2.2.1;omega
 have hb0:=yA (yH _ w) (.cells (svc x s) 29);have C:=aA (aDT x.ca x.cl x.cc s.cs id _ (h.2.2.2.below hb0) hcl ha);have HB0:=aA hb0;clear h hf ha hb0;obtain ⟨qa,ql,qc,aa,al,ac,ma,ml,mc,ca,cl,cc⟩:=x;obtain ⟨qs,cv,ez,ny,sj,aj,ms,cs⟩:=s;simp only at C ⊢;have ZE:∀(fn:Fn) (first cap:Array Value) (w:World),(Instr.makeFunc fn first cap).run Tryz.prog w=.ok (.func fn first cap) w:=fun _ _ _ _=>rfl
 go_enter func112,ntmps112
 go_wp2_with fail
 refine (uH C).mono ?_;rintro e w1 ⟨p,f,rfl,h1,h2,h3,h4,hb⟩;have HZ:=aA (show aF1 cs id w.heap.size w _ w1 from ⟨p,f,rfl,h1,h2,h3,h4,yB (uH HB0) hb⟩);clear h1 h2 h3 h4 hb C HB0;go_wp2;refine bodyPost_ret (v:=.tuple #[.int .i64 (p:Int),.bool f]) (by simp [results,results112,go_sem]) rfl (uH HZ)
def lT (a b:Int):Bool:=aQ a b&&!(decide (a=0)&&decide (b=0))
theorem qI (a b:Int) (w:World) :
  cP 143 #[rv a b] w fun e w'=>e=.returned (.bool (lT a b))∧Bw w w':=by
 have HB0:=aA (yA (yH _ w) (.cells #[.int .i64 a,.int .i64 b] 33));have P0:=aA (yD w #[.int .i64 a,.int .i64 b] 33);obtain ⟨r,hr⟩:∃r,aQ a b=r:=⟨_,rfl⟩;have C:=aA (fun wx=>by have:=aIm a b wx;rw [hr] at this;exact this);have HS:=aA (show lT a b=(r&&!(decide (a=0)&&decide (b=0))) by rw [lT,hr]);obtain ⟨o,ho⟩:∃o,lT a b=o:=⟨_,rfl⟩;rw [ho] at HS ⊢;clear hr ho;go_enter func143,ntmps143;go_wp2_with fail;refine (uH C _).mono ?_;rintro e w1 ⟨rfl,hb⟩;have HB1:=aA (yB (uH HB0) hb);have P1:=(uH P0).below hb;have p0:=P1.at 0;have p1:=P1.at 1;simp at p0 p1;clear hb P1 P0 HB0 C;cases r with
 | false=>go_wp2;go_ret;exact ⟨yF (by rw [uH HS];simp),uH HB1⟩
 | true=>
  by_cases ha:a=0
  ·by_cases hbz:b=0
   ·subst ha hbz;go_wp2;go_ret;exact ⟨yF (by rw [uH HS];simp),uH HB1⟩
   ·subst ha;go_wp2;go_ret;exact ⟨yF (by rw [uH HS];simp [hbz]),uH HB1⟩
  ·go_wp2;go_ret;exact ⟨yF (by rw [uH HS];simp [ha]),uH HB1⟩
theorem rT (a b:Int) (w:World) :
  cP 127 #[rv a b] w fun e w'=>e=.returned (.bool (aQ a b))∧Bw w w':=
 (aW a b w).mono fun e w' h=>⟨h.1,by rw [h.2];exact yA (yH _ _) _⟩
theorem pX (a b:Int) (w:World) :
  cP 69 #[rv a b] w fun e w'=>e=.returned (.bool (lT a b))∧Bw w w':=by
 have HB0:=aA (yA (yH _ w) (.cells #[.int .i64 a,.int .i64 b] 33));have P0:=aA (yD w #[.int .i64 a,.int .i64 b] 33);obtain ⟨r,hr⟩:∃r,aQ a b=r:=⟨_,rfl⟩;have C:=aA (fun wx=>by have:=rT a b wx;rw [hr] at this;exact this);have HS:=aA (show lT a b=(r&&!(decide (a=0)&&decide (b=0))) by rw [lT,hr]);obtain ⟨o,ho⟩:∃o,lT a b=o:=⟨_,rfl⟩;rw [ho] at HS ⊢;clear hr ho;go_enter func69,ntmps69;go_wp2_with fail;refine (uH C _).mono ?_;rintro e w1 ⟨rfl,hb⟩;have HB1:=aA (yB (uH HB0) hb);have P1:=(uH P0).below hb;have p0:=P1.at 0;have p1:=P1.at 1;simp at p0 p1;clear hb P1 P0 HB0 C;cases r with
 | false=>go_wp2;go_ret;exact ⟨yF (by rw [uH HS];simp),uH HB1⟩
 | true=>
  by_cases ha:a=0
  ·by_cases hbz:b=0
   ·subst ha hbz;go_wp2;go_ret;exact ⟨yF (by rw [uH HS];simp),uH HB1⟩
   ·subst ha;go_wp2;go_ret;exact ⟨yF (by rw [uH HS];simp [hbz]),uH HB1⟩
  ·go_wp2;go_ret;exact ⟨yF (by rw [uH HS];simp [ha]),uH HB1⟩
def kC (q:Ask):Bool:=lT q.mem q.cpu&&(inB q.count 1 1000&&((decide (q.node=[])||bN q.node)&&inB q.missed 0 1000))
theorem aHL (q:Ask) (w:World) (hn:q.node.length≤1048576) :
  cP 185 #[aF9 q] w fun e w'=>e=.returned (.bool (kC q))∧Bw w w':=by
 obtain ⟨x0,x1,ct,nd,ms⟩:=q;simp only at hn;have HB0:=aA (yA (yH _ w) (.cells #[.int .i64 x0,.int .i64 x1,.int .i64 ct,.string (bs nd),.int .i64 ms] 43));have P0:=aA (yD w #[.int .i64 x0,.int .i64 x1,.int .i64 ct,.string (bs nd),.int .i64 ms] 43);obtain ⟨sm,hsm⟩:∃r,lT x0 x1=r:=⟨_,rfl⟩;obtain ⟨nk,hnk⟩:∃r,bN nd=r:=⟨_,rfl⟩;have C:=aA (fun wx=>by have:=qI x0 x1 wx;rw [hsm] at this;exact this);have CN:=aA (fun wx=>by have:=lK (bs nd) wx (by rw [cK];exact hn);rw [show bN (bs nd).data.toList=nk by rw [←hnk];simp [bs]] at this;exact this);have HS:=aA (show kC ⟨x0,x1,ct,nd,ms⟩=(sm&&(inB ct 1 1000&&((decide (nd=[])||nk)&&inB ms 0 1000))) by rw [kC];simp only [hsm,hnk]);obtain ⟨o,ho⟩:∃o,kC ⟨x0,x1,ct,nd,ms⟩=o:=⟨_,rfl⟩;have hbz:=mV nd;rw [ho] at HS ⊢;clear hsm hnk ho hn;go_enter func185,ntmps185;go_wp2_with fail;refine (uH C _).mono ?_;rintro e w1 ⟨rfl,hb⟩;have HB1:=aA (yB (uH HB0) hb);have P1:=(uH P0).below hb;have p2:=P1.at 2;have p3:=P1.at 3;have p4:=P1.at 4;simp at p2 p3 p4;clear hb P1 P0 HB0 C;cases sm with
 | false=>go_wp2;go_ret;exact ⟨yF (by rw [uH HS];simp),uH HB1⟩
 | true=>
 by_cases h1:1≤ct;case neg=>go_wp2;go_ret;exact ⟨yF (by rw [uH HS,bP (by omega)];simp),uH HB1⟩
 by_cases h2:ct≤1000;case neg=>go_wp2;go_ret;exact ⟨yF (by rw [uH HS,bP (by omega)];simp),uH HB1⟩
 by_cases hz:nd=[]
 ·rw [decide_eq_true hz] at hbz HS;clear hz;by_cases m1:0≤ms;case neg=>go_wp2;go_ret;exact ⟨yF (by rw [uH HS,dD h1 h2,bP (by omega)];simp),uH HB1⟩
  by_cases m2:ms≤1000;case neg=>go_wp2;go_ret;exact ⟨yF (by rw [uH HS,dD h1 h2,bP (x:=ms) (by omega)];simp;omega),uH HB1⟩
  go_wp2;go_ret;exact ⟨yF (by rw [uH HS,dD h1 h2,dD m1 m2];simp),uH HB1⟩
 ·rw [decide_eq_false hz] at hbz HS;clear hz;go_wp2_with fail;refine (uH CN _).mono ?_;rintro e w2 ⟨rfl,rfl⟩;clear CN;cases nk with
  | false=>go_wp2;go_ret;exact ⟨yF (by rw [uH HS];simp),uH HB1⟩
  | true=>
  by_cases m1:0≤ms;case neg=>go_wp2;go_ret;exact ⟨yF (by rw [uH HS,dD h1 h2,bP (by omega)];simp),uH HB1⟩
  by_cases m2:ms≤1000;case neg=>go_wp2;go_ret;exact ⟨yF (by rw [uH HS,dD h1 h2,bP (by omega)];simp;omega),uH HB1⟩
  go_wp2;go_ret;exact ⟨yF (by rw [uH HS,dD h1 h2,dD m1 m2];simp),uH HB1⟩
theorem aEx (q:Ask) (w:World) (hn:q.node.length≤1048576) :
  cP 125 #[aF9 q] w fun e w'=>e=.returned (.bool (kC q))∧Bw w w':=by
 obtain ⟨x0,x1,ct,nd,ms⟩:=q;simp only at hn;have HB0:=aA (yA (yH _ w) (.cells #[.int .i64 x0,.int .i64 x1,.int .i64 ct,.string (bs nd),.int .i64 ms] 43));have P0:=aA (yD w #[.int .i64 x0,.int .i64 x1,.int .i64 ct,.string (bs nd),.int .i64 ms] 43);obtain ⟨sm,hsm⟩:∃r,lT x0 x1=r:=⟨_,rfl⟩;obtain ⟨nk,hnk⟩:∃r,bN nd=r:=⟨_,rfl⟩;obtain ⟨ic,hic⟩:∃r,inB ct 1 1000=r:=⟨_,rfl⟩;obtain ⟨im,him⟩:∃r,inB ms 0 1000=r:=⟨_,rfl⟩;have C:=aA (fun wx=>by have:=pX x0 x1 wx;rw [hsm] at this;exact this);have CN:=aA (fun wx=>by have:=kY (bs nd) wx (by rw [cK];exact hn);rw [show bN (bs nd).data.toList=nk by rw [←hnk];simp [bs]] at this;exact this);have CC:=aA (fun wx=>by have:=aV ct 1 1000 wx;rw [hic] at this;exact this);have CD:=aA (fun wx=>by have:=aV ms 0 1000 wx;rw [him] at this;exact this);have HS:=aA (show kC ⟨x0,x1,ct,nd,ms⟩=(sm&&(ic&&((decide (nd=[])||nk)&&im))) by rw [kC];simp only [hsm,hnk,hic,him]);obtain ⟨o,ho⟩:∃o,kC ⟨x0,x1,ct,nd,ms⟩=o:=⟨_,rfl⟩;have hbz:=mV nd;rw [ho] at HS ⊢;clear hsm hnk ho hn hic him;go_enter func125,ntmps125;go_wp2_with fail;refine (uH C _).mono ?_;rintro e w1 ⟨rfl,hb⟩;have HB1:=aA (yB (uH HB0) hb);have P1:=(uH P0).below hb;have p2:=P1.at 2;have p3:=P1.at 3;have p4:=P1.at 4;simp at p2 p3 p4;clear hb P1 P0 HB0 C;cases sm with
 | false=>go_wp2;go_ret;exact ⟨yF (by rw [uH HS];simp),uH HB1⟩
 | true=>
 go_wp2_with fail
 refine (uH CC _).mono ?_;rintro e w2 ⟨rfl,rfl⟩;clear CC;cases ic with
 | false=>go_wp2;go_ret;exact ⟨yF (by rw [uH HS];simp),uH HB1⟩
 | true=>
 by_cases hz:nd=[]
 ·rw [decide_eq_true hz] at hbz HS;clear hz CN;go_wp2_with fail;refine (uH CD _).mono ?_;rintro e w3 ⟨rfl,rfl⟩;clear CD;go_wp2;go_ret;exact ⟨yF (by rw [uH HS];simp),uH HB1⟩
 ·rw [decide_eq_false hz] at hbz HS;clear hz;go_wp2_with fail;refine (uH CN _).mono ?_;rintro e w3 ⟨rfl,rfl⟩;clear CN;cases nk with
  | false=>go_wp2;go_ret;exact ⟨yF (by rw [uH HS];simp),uH HB1⟩
  | true=>
  go_wp2_with fail
  refine (uH CD _).mono ?_;rintro e w4 ⟨rfl,rfl⟩;clear CD;go_wp2;go_ret;exact ⟨yF (by rw [uH HS];simp),uH HB1⟩
abbrev aKK (qo:Option Addr) (n c:Nat):Sls:=⟨qo,n,c,none,0,0,none,0,0,none,0,0⟩
abbrev zC (l:List Q) (ep nx se:Int):St:=⟨l,0,ep,nx,se,[],[],[]⟩
theorem aJR {w:World} {qo:Option Addr} {n c:Nat} (ep nx se:Int) (h:gH w qo n l):gW w (aKK qo n c) (zC l ep nx se):=⟨h,⟨rfl,.inl rfl⟩,⟨rfl,.inl rfl⟩,⟨rfl,.inl rfl⟩⟩
theorem aJT (ep nx se:Int) (h:aKd l):dB (zC l ep nx se):=⟨h,⟨by simp,by simp⟩,⟨by simp,by simp⟩,⟨by simp,by simp⟩⟩
end
end Go.Proofs.YtfndhndlkcijoaaGreat
