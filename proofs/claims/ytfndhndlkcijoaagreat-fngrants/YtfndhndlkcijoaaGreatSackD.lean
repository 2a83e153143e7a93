/-
  Texts in one: SumS4, UpM, SuitB, BsI, VarB, RegM, PendB.
-/
import Derived.Test.YtfndhndlkcijoaaGreatSackA
set_option maxRecDepth 100000
set_option maxHeartbeats 16000000
set_option linter.unusedVariables false
set_option linter.unusedSimpArgs false
open Go.Proofs.Tryz
namespace Go.Proofs.YtfndhndlkcijoaaGreat
section
open Go.RowKit
variable {x y:Int} {r:Int×Int} {l:List Q} {b p:Nat} {w w0:World}
def dE (w0:World) (b p:Nat) (r:Int×Int) (x y:Int) (w:World):Prop:=RAt w b p r∧Var w 33 (w0.heap.size+1) x y∧Var w 33 w0.heap.size 0 0∧Bw w0 w
theorem dE.call {w':World} (h:dE w0 b p r x y w) (hb:Bw w w'):dE w0 b p r x y w':=⟨h.1.below hb,h.2.1.below hb,h.2.2.1.below hb,yB h.2.2.2 hb⟩
theorem dE.drew (h:dE w0 b p r x y w):dE w0 b p r x y w.drew:=h.call (yH _ _).drew
theorem dE.al (h:dE w0 b p r x y w) (o:Obj):dE w0 b p r x y (w.alloc o):=h.call (yA (yH _ _) o)
theorem dE.set (h:dE w0 b p r x y w) (k j:Nat) (v:Value) (h1:w0.heap.size+1<k) (h2:b≠k):dE w0 b p r x y (w.setCell ⟨k,j,none⟩ v):=by
  have hc:∀q,(w.setCell ⟨k,j,none⟩ v).cell? ⟨b,q,none⟩=w.cell? ⟨b,q,none⟩:=fun q=>by unfold World.cell?;rw [heap_setCell_other w ⟨k,j,none⟩ b v h2]
  exact ⟨⟨(hc _).trans h.1.1,(hc _).trans h.1.2⟩,h.2.1.other _ _ _ (by omega),h.2.2.1.other _ _ _ (by omega),yC h.2.2.2 _ _ _ (by omega)⟩
theorem dE.read (w0:World) (b p:Nat) (r:Int×Int) (x y:Int):∀wx,dE w0 b p r x y wx→wx.cell? ⟨b,p,none⟩=some (.int .i64 r.1)∧wx.cell? ⟨b,p+1,none⟩=some (.int .i64 r.2)∧wx.cell? ⟨w0.heap.size+1,0,none⟩=some (.int .i64 x)∧wx.cell? ⟨w0.heap.size+1,1,none⟩=some (.int .i64 y):=
  fun wx h=>⟨h.1.1,h.1.2,h.2.1.c0,h.2.1.c1⟩
theorem mM (ao:Option Addr) (len cap:Nat) (l:List (Int×Int)) (w:World) (h:aGH w ao len l) (hl:len≤1048576) :
    cP 70 #[.slice ao len cap] w fun e w'=>e=.returned (.tuple #[rv (iY l).1 (iY l).2.1,.bool (iY l).2.2])∧Bw w w':=by
  have HR:=aA h;have HL:=aA h.1;obtain ⟨⟨sx,sy,so⟩,hs⟩:∃s,iY l=s:=⟨_,rfl⟩;have HS:=aA (show aZ l 0 0=(sx,sy,so) from hs);rw [hs];clear h hs;go_enter func70,ntmps70;go_wp2;go_loopw [5] (fun i wr=>∃(k:Nat) (x y:Int),k≤len∧i=.int .i64 k∧Hid (aZ (l.drop k) x y=(sx,sy,so))∧Hid (Var wr 33 w.heap.size 0 0)∧Hid (Var wr 33 (w.heap.size+1) x y)∧Hid (Bw w wr)) (fun i _=>len - (intOf i).toNat);case atStart=>exact ⟨0,0,0,Nat.zero_le _,rfl,aA (by simpa using uH HS),aA ((aK w _ _ _).al _),aA (iH w _ _ 0 0 0 0),aA (yA (yA (yH _ _) _) _)⟩
  case round=>
    obtain ⟨k,x,y,hk,rfl,HQ,ZH,GQ,HB⟩:=hrel;by_cases hlt:k<len
    · obtain ⟨b,off,rfl,hq⟩:=((uH HR).below (uH HB)).at hlt;(have hkl:k<l.length:=by have:=uH HL;omega);have hst:=uR hkl x y;have A0:=aA (show dE w b (off+k*2) l[k] x y wr from ⟨hq hkl,uH GQ,uH ZH,uH HB⟩);obtain ⟨⟨a,d⟩,hs⟩:∃q,l[k]=q:=⟨_,rfl⟩;rw [hs] at A0 hst;simp only at hst;have HST:=aA hst;have R:=dE.read w b (off+k*2) (a,d) x y;simp only at R;(have k0:(0:Int)≤k:=by omega);(have k1:(k:Int)<len:=by omega);clear hq hs hkl hst ZH GQ HB;have CA:=aA (fun wx=>xE x y a d wx);obtain ⟨x',y',ok,hv⟩:∃x' y' ok,kY 1 x y a d=rv x' y'∧aN 1 x y a d=ok:=by
        cases ho:aN 1 x y a d
        · exact ⟨0,0,_,lN ho,rfl⟩
        · exact ⟨_,_,_,lW ho,rfl⟩
      have Z7:=aA hv;rw [hv.1,hv.2] at CA;clear hv;have sz1:=(uH A0).2.1.lt;have sb1:=(uH A0).1.lt;(go_wp2_with fail);(go_cut [6,7] from 15 to 24 (fun v6 v7 wx=>∃g,v6=.pointer (some ⟨g,0,none⟩)∧v7=.bool ok∧dE w b (off+k*2) (a,d) x y wx∧Var wx 33 g x' y'∧w.heap.size+1<g));case first=>
        go_region_held3 (fun wx=>dE w b (off+k*2) (a,d) x y wx)
          (first | (with_reducible assumption) | exact uH SA | exact (uH A0).drew | exact dE.al (uH SA) _ | exact dE.al (by assumption) _ | exact dE.al (uH A0).drew _ | exact dE.call (by assumption) (by assumption) | exact dE.set (dE.set (uH SA) _ _ _ (by first | omega | (simp<;>omega)) (by first | omega | (simp<;>omega))) _ _ _ (by first | omega | (simp<;>omega)) (by first | omega | (simp<;>omega)) | exact dE.set (dE.set (by assumption) _ _ _ (by first | omega | (simp<;>omega)) (by first | omega | (simp<;>omega))) _ _ _ (by first | omega | (simp<;>omega)) (by first | omega | (simp<;>omega)))
          (first
          | (go_at_call 128;refine (uH CA _).mono ?_;rintro e wt ⟨rfl,hb⟩;have SA:=aA (dE.call (w0:=w) (b:=b) (p:=off+k*2) (r:=(a,d)) (x:=x) (y:=y) (by assumption) hb);have sz:=(uH SA).2.1.lt;have sb:=(uH SA).1.lt
             first
               | (have V5:=(aK _ 33 0 0).below hb;(try simp at V5);have c50:=V5.c0;have c51:=V5.c1;have f50:=V5.f 0;have f51:=V5.f 1;have V5:=aA V5)
               | (have V5:=(aK _ 33 0 0).drew.below hb;(try simp at V5);have c50:=V5.c0;have c51:=V5.c1;have f50:=V5.f 0;have f51:=V5.f 1;have V5:=aA V5)
               | skip))
        all_goals
          (go_wp2_with fail);go_meet;exact ⟨_,rfl,rfl,by first | assumption | exact uH SA | exact dE.al (uH SA) _,by first | exact aK _ _ _ _ | exact (uH V5).set _ _,by first | omega | (simp<;>omega)⟩
      case rest=>
        obtain ⟨g,rfl,rfl,hA,hV,hg⟩:=hcut;have A1:=aA hA;have W1:=aA hV;clear hA hV A0 CA R;have v0:=(uH W1).c0;have v1:=(uH W1).c1;have s0:=(uH A1).2.1.c0;have s1:=(uH A1).2.1.c1;have sf0:=(uH A1).2.1.f 0;have sf1:=(uH A1).2.1.f 1;have t0:=(uH A1).2.2.1.c0;have t1:=(uH A1).2.2.1.c1;have tf0:=(uH A1).2.2.1.f 0;have tf1:=(uH A1).2.2.1.f 1;cases ok with
        | true=>have hxy:=lW (uH Z7).2;rw [(uH Z7).1] at hxy;simp only [rv,Value.agg.injEq,Array.mk.injEq,List.cons.injEq,Value.int.injEq,and_true,true_and] at hxy;rw [if_pos (uH Z7).2,←hxy.1,←hxy.2] at HST;clear hxy Z7;go_wp2;go_roundw;(case rel=>exact ⟨k+1,x',y',by omega,by go_num,aA (by rw [←uH HST];exact uH HQ),aA (((uH A1).2.2.1.other _ _ _ (show w.heap.size≠w.heap.size+1 by omega)).other _ _ _ (show w.heap.size≠w.heap.size+1 by omega)),aA ((uH A1).2.1.set _ _),aA (yC (yC (uH A1).2.2.2 _ _ _ (show w.heap.size≤w.heap.size+1 by omega)) _ _ _ (show w.heap.size≤w.heap.size+1 by omega))⟩);case measure=>simp [intOf];omega
        | false=>rw [if_neg (by rw [(uH Z7).2];simp)] at HST;have QJ:=(uH HST).symm.trans (uH HQ);simp only [Prod.mk.injEq] at QJ;obtain ⟨rfl,rfl,rfl⟩:=QJ;have k4:=(uH A1).2.2.1.s0 (.int .i64 0);have k5:=(uH A1).2.2.1.s1 (.int .i64 0) (.int .i64 0);have HB1:=aA (uH A1).2.2.2;clear HST HS Z7;go_wp2;refine bodyPost_ret (v:=.tuple #[rv 0 0,.bool false]) (by simp [results,results70,go_sem,k4,k5]) rfl ⟨rfl,?_⟩;repeat (first | exact uH HB1 | refine yC ?_ _ _ _ (by omega))
    · (have QJ:(x,y,true)=(sx,sy,so):=by rw [←uH HQ,wX (by have:=uH HL;omega)]);simp only [Prod.mk.injEq] at QJ;obtain ⟨rfl,rfl,rfl⟩:=QJ;have s0:=(uH GQ).c0;have s1:=(uH GQ).c1;have t0:=(uH ZH).c0;have t1:=(uH ZH).c1;have f0:=(uH ZH).f 0;have f1:=(uH ZH).f 1;have k4:=(uH ZH).s0 (.int .i64 x);have k5:=(uH ZH).s1 (.int .i64 x) (.int .i64 y);go_wp2;refine bodyPost_ret (v:=.tuple #[rv x y,.bool true]) (by simp [results,results70,go_sem,k4,k5]) rfl ⟨rfl,?_⟩;repeat (first | exact uH HB | refine yC ?_ _ _ _ (by omega))
def mI (t:Int×Int):List Int→Int×Int
 | []=>t
 | n::r=>(fF (mI t r).1 (mI t r).2 n,fG (mI t r).1 (mI t r).2 n)
def kK (most:Bool) (u:List Q):List Int:=(u.takeWhile (fun q=>decide (q.parent≠[]))).map (dY most)
theorem aCB {l:List Q} (h:aH l=true) (most:Bool) (t:Int×Int):∀(n:Nat) (p:Int),p<n→mI t (kK most (aE0 l n p))=ofP l most t ((aE0 l n p).map Q.name)
 | 0,_,_=>rfl
 | n+1,p,hn=>by
  rw [aE0];split
  ·rename_i hp;have hq:=aI2 h p.toNat hp.2;have ha:=kG h hp.2;simp only [qOk,yK,yL] at hq;(have hb:vL l l[p.toNat].name=l[p.toNat]:=by rw [vL,hq.1.1.1.2,Int.toNat_natCast,List.getD_eq_getElem?_getD,List.getElem?_eq_getElem hp.2];rfl);by_cases hz:l[p.toNat].parent=[]
   ·(have hm:place l l[p.toNat].parent = -1:=by rw [hz];exact kD (aEj h));have hu:aE0 l n (place l l[p.toNat].parent)=[]:=by
     rw [hm];cases n with
     | zero=>rfl
     | succ n=>rw [aE0,dif_neg (by omega)]
    rw [hu];simp [kK,hz,mI,ofP]
   ·have hi:p.toNat≠0:=fun e=>by
     have:=hq.2;rw [if_pos e] at this;simp only [yK,yL] at this;exact hz this.1
    have hpl:=hq.2;rw [if_neg hi] at hpl;simp only [inB,yL] at hpl;have ih:=aCB h most t n (place l l[p.toNat].parent) (by omega);obtain ⟨r,hr⟩:∃r,aE0 l n (place l l[p.toNat].parent)=r:=⟨_,rfl⟩;have hne:r≠[]:=by
     rw [←hr];cases n with
     | zero=>omega
     | succ n=>rw [aE0,dif_pos ⟨hpl.1,by omega⟩];simp
    rw [hr] at ih ⊢;cases r with
    | nil=>exact absurd rfl hne
    | cons y r=>rw [List.map_cons,List.map_cons,ofP,hb];rw [List.map_cons] at ih;rw [←ih];simp only [kK,List.takeWhile_cons (a:=l[p.toNat])];simp only [hz,ne_eq,not_false_eq_true,decide_true,if_true,List.map_cons,mI]
  ·simp [kK,mI,ofP]
theorem aIJ (h:aH l=true) (nm:List UInt8) (a b:Int) (most:Bool) (hp:0≤place l nm) (hr:aR a b=true):ofR l nm a b most=mI (a,b) (kK most (ups l nm)):=by
 have hr':=fE l nm;have e:=aBO h nm;have hne:path l nm≠[]:=by rw [←e,aGP h,aE0,dif_pos ⟨hp,by omega⟩];simp
 rw [ofR,if_neg (by simp [hne,hr]),←e,aGP h,aCB h most (a,b) _ _ (by omega)]
theorem aGq (h:aH l=false) (nm:List UInt8) (a b:Int) (most:Bool):ofR l nm a b most=(0,0):=by rw [ofR,path,h];simp
theorem aGp {nm:List UInt8} (h:place l nm<0) (a b:Int) (most:Bool):ofR l nm a b most=(0,0):=by
 have:path l nm=[]:=by rw [path];split;exact aEf h;rfl
 rw [ofR,this];simp
theorem aGo (l:List Q) (nm:List UInt8) {a b:Int} (h:aR a b=false) (most:Bool):ofR l nm a b most=(0,0):=by rw [ofR,h];simp
end
section
open Go.ChangeShapes Go.WideShapes Go.ChangeAt Go.RowKit
def jA (q:Ask) (nm:List UInt8):Bool:=decide (q.node=[])||(decide (q.node=nm)||decide (3≤q.missed))
theorem nM (q:Ask) (nm:List UInt8) (w:World) :
  cP 16 #[aKN q,.string (bs nm)] w fun e w'=>e=.returned (.bool (jA q nm))∧Bw w w':=by
 obtain ⟨x0,x1,x2,nd,x4⟩:=q;have hbe:=mQ nd nm;have hbz:=nS nd;simp only [jA];by_cases h1:nd=[]<;>by_cases h2:nd=nm<;>by_cases h3:3≤x4
 all_goals
  first | rw [decide_eq_true h1] at hbz ⊢ | rw [decide_eq_false h1] at hbz ⊢
  first | rw [decide_eq_true h2] at hbe ⊢ | rw [decide_eq_false h2] at hbe ⊢
  first | rw [decide_eq_true h3] | rw [decide_eq_false h3]
  clear h1 h2;go_enter func16,ntmps16;go_wp2;go_ret;refine ⟨rfl,?_⟩;repeat (first | exact yH _ _ | refine yA ?_ _ | refine Below.drew ?_ | refine yC ?_ _ _ _ (by omega))
theorem rF (q:Ask) (nm:List UInt8) (w:World) :
  cP 17 #[aKN q,.string (bs nm)] w fun e w'=>e=.returned (.bool (jA q nm))∧Bw w w':=by
 obtain ⟨x0,x1,x2,nd,x4⟩:=q;have hbe:=mQ nd nm;have hbz:=nS nd;simp only [jA];by_cases h1:nd=[]<;>by_cases h2:nd=nm<;>by_cases h3:3≤x4
 all_goals
  first | rw [decide_eq_true h1] at hbz ⊢ | rw [decide_eq_false h1] at hbz ⊢
  first | rw [decide_eq_true h2] at hbe ⊢ | rw [decide_eq_false h2] at hbe ⊢
  first | rw [decide_eq_true h3] | rw [decide_eq_false h3]
  clear h1 h2;go_enter func17,ntmps17;go_wp2;go_ret;refine ⟨rfl,?_⟩;repeat (first | exact yH _ _ | refine yA ?_ _ | refine Below.drew ?_ | refine yC ?_ _ _ _ (by omega))
end
section
open Go.RowKit
variable {ops:Array Oper} {a b x y:Int} {g k:Nat} {P:Program} {α:Type} {u v:Value} {w w1:World}
def aIB (a b:Int):Int:=if a<b then -1 else if b<a then 1 else 0
theorem aCo (a:Int) (w:World):cP 211 #[.int .i64 a] w fun e w'=>e=.returned (.bool false)∧w=w':=by
 go_enter func211,ntmps211
 go_wp2;go_ret;exact ⟨rfl,rfl⟩
theorem aDK (a b:Int) (w:World):cP 169 #[.int .i64 a,.int .i64 b] w fun e w'=>e=.returned (.int .i64 (aIB a b))∧w=w':=by
 have hc:aIB a b=if a<b then -1 else if b<a then 1 else 0:=rfl
 have C1:=aA (aCo a w);have C2:=aA (aCo b w);by_cases h1:a<b
 ·rw [if_pos h1] at hc;rw [hc];clear hc;go_enter func169,ntmps169;go_wp2_with fail;refine (uH C1).mono ?_;rintro e w1 ⟨rfl,rfl⟩;go_wp2_with fail;refine (uH C2).mono ?_;rintro e w2 ⟨rfl,rfl⟩;go_wp2;go_ret;exact ⟨rfl,rfl⟩
 ·rw [if_neg h1] at hc;by_cases h2:b<a
  ·rw [if_pos h2] at hc;rw [hc];clear hc;(go_enter func169,ntmps169);(go_wp2_with fail);refine (uH C1).mono ?_;rintro e w1 ⟨rfl,rfl⟩;(go_wp2_with fail);refine (uH C2).mono ?_;rintro e w2 ⟨rfl,rfl⟩;go_wp2;go_ret;exact ⟨rfl,rfl⟩
  ·rw [if_neg h2] at hc;rw [hc];clear hc;(go_enter func169,ntmps169);(go_wp2_with fail);refine (uH C1).mono ?_;rintro e w1 ⟨rfl,rfl⟩;(go_wp2_with fail);refine (uH C2).mono ?_;rintro e w2 ⟨rfl,rfl⟩;go_wp2;go_ret;exact ⟨rfl,rfl⟩
theorem aH6 (c:Con) (id:Int) (w:World):cP 168 #[.agg #[.int .i64 c.id,.int .i64 c.app,.string (bs c.node),.int .i64 c.mem,.int .i64 c.cpu],.int .i64 id] w fun e w'=>e=.returned (.int .i64 (aIB c.id id))∧Bw w w':=by
 have C:=aA (fun wx=>aDK c.id id wx);obtain ⟨o,ho⟩:∃o,aIB c.id id=o:=⟨_,rfl⟩;rw [ho] at C ⊢;obtain ⟨ci,cap,cn,me,cp⟩:=c;simp only at C ho;clear ho;go_enter func168,ntmps168;go_wp2_with fail;refine (uH C _).mono ?_;rintro e w1 ⟨rfl,rfl⟩;go_wp2;go_ret;exact ⟨rfl,yA (yH _ _) _⟩
def aLO (l:List Con):Prop:=∀i j (hi:i<l.length) (hj:j<l.length),i<j→l[i].id<l[j].id
def aGG (l:List Con) (id:Int) (n:Nat) (w:World) (e:Ending) (w':World):Prop:=
 ∃(p:Nat) (f:Bool),e=.returned (.tuple #[.int .i64 (p:Int),.bool f])∧p≤l.length∧(∀i (hi:i<l.length),i<p→l[i].id<id)∧(∀i (hi:i<l.length),p≤i→id≤l[i].id)∧(f=true↔∃c ∈ l,c.id=id)∧Below n w w'
theorem aEJ (ao:Option Addr) (len cap:Nat) (l:List Con) (id:Int) (w:World) (h:dC w ao len l) (hl:len≤1048576) (ha:aLO l) :
  cP 167 #[.slice ao len cap,.int .i64 id,.func (.func 168) #[] #[]] w (aGG l id w.heap.size w):=by
 have HR:=aA h;have HL:=aA h.1;have HA:=aA ha;have C:=aA (fun c wx=>aH6 c id wx);clear h ha;go_enter func167,ntmps167;go_wp2;go_loopw [9,10,11] (fun i j _ wr=>∃a b:Nat,a≤b∧b≤len∧i=.int .i64 a∧j=.int .i64 b∧Hid (∀k (hk:k<l.length),k<a→l[k].id<id)∧Hid (∀k (hk:k<l.length),b≤k→id≤l[k].id)∧Hid (Bw w wr)) (fun i j _ _=>(intOf j).toNat - (intOf i).toNat);case atStart=>exact ⟨0,len,Nat.zero_le _,yJ _,rfl,rfl,aA (fun k _ h=>absurd h (by omega)),aA (fun k hk h=>absurd hk (by have:=uH HL;omega)),aA (yH _ _)⟩
 case round=>
  obtain ⟨a,b,hab,hbl,rfl,rfl,H1,H2,HB⟩:=hrel;by_cases hlt:a<b
  ·obtain ⟨m,hm⟩:∃m:Nat,(a+b) / 2=m:=⟨_,rfl⟩;(have hq:((a:Int)+(b:Int)) / 2=(m:Int):=by omega);(have YJ:a≤m:=by omega);(have hmb:m<b:=by omega);(have GJ:m<len:=by omega);obtain ⟨bb,off,rfl,hat⟩:=((uH HR).below (uH HB)).at GJ;(have hmk:m<l.length:=by have:=uH HL;omega);obtain ⟨c0,c1,c2,c3,c4⟩:=hat hmk;have MW:=aA (show l[m].id<id→∀k (hk:k<l.length),k<m+1→l[k].id<id from fun hx k hk YK=>by
    by_cases e:k=m
    ·subst e;exact hx
    ·have:=uH HA k m hk hmk (by omega);omega)
   have MV:=aA (show id≤l[m].id→∀k (hk:k<l.length),m≤k→id≤l[k].id from fun hx k hk YK=>by
    by_cases e:k=m
    ·subst e;exact hx
    ·have:=uH HA m k hmk hk (by omega);omega)
   obtain ⟨c,hc⟩:∃c,l[m]=c:=⟨_,rfl⟩;rw [hc] at c0 c1 c2 c3 c4 MW MV;have C1:=aA (uH C c);(have m0:(0:Int)≤m:=by omega);(have m1:(m:Int)<len:=by omega);obtain ⟨ci,cap',cn,me,cp⟩:=c;simp only at c0 c1 c2 c3 c4 C1 MW MV;clear hat hc hm hmk;by_cases hci:ci<id
   ·(have hr:aIB ci id = -1:=by rw [aIB,if_pos hci]);rw [hr] at C1;have HN:=aA (uH MW hci);clear hr MW MV;(go_wp2_with fail);refine (uH C1 _).mono ?_;rintro e w2 ⟨rfl,hb⟩;have HB2:=aA (yB (uH HB) hb);clear hb;go_wp2;go_roundw;(case rel=>exact ⟨m+1,b,by omega,hbl,by go_num,rfl,HN,H2,HB2⟩);case measure=>simp [intOf];omega
   ·obtain ⟨r,hr⟩:∃r,aIB ci id=r:=⟨_,rfl⟩;(have hr0:¬r<0:=by rw [←hr,aIB,if_neg hci];split<;>omega);rw [hr] at C1;have HN:=aA (uH MV (by omega));clear hr MW MV;(go_wp2_with fail);refine (uH C1 _).mono ?_;rintro e w2 ⟨rfl,hb⟩;have HB2:=aA (yB (uH HB) hb);clear hb;go_wp2;go_roundw;(case rel=>exact ⟨a,m,YJ,by omega,rfl,rfl,H1,HN,HB2⟩);case measure=>simp [intOf];omega
  ·(obtain rfl:a=b:=by omega);by_cases hal:a<len
   ·obtain ⟨bb,off,rfl,hat⟩:=((uH HR).below (uH HB)).at hal;(have hmk:a<l.length:=by have:=uH HL;omega);obtain ⟨c0,c1,c2,c3,c4⟩:=hat hmk;have HF:=aA (show (∃c ∈ l,c.id=id)↔l[a].id=id from ⟨fun ⟨c,hc,e⟩=>by
     obtain ⟨k,hk,rfl⟩:=List.mem_iff_getElem.1 hc;by_cases e1:k<a
     ·have:=uH H1 k hk e1;omega
     ·by_cases e2:k=a
      ·subst e2;exact e
      ·have h1:=uH HA a k hmk hk (by omega);have h2:=uH H2 a hmk (yJ _);omega,fun e=>⟨_,yM hmk,e⟩⟩)
    (have HG:=aA (uH H2 a hmk (yJ _));obtain ⟨c,hc⟩:∃c,l[a]=c:=⟨_,rfl⟩;rw [hc] at c0 c1 c2 c3 c4 HF HG;have C1:=aA (uH C c);obtain ⟨ci,cap',cn,me,cp⟩:=c;simp only at c0 c1 c2 c3 c4 C1 HF HG;obtain ⟨r,hr⟩:∃r,aIB ci id=r:=⟨_,rfl⟩;have hr1:r=0↔ci=id:=by have:=uH HG;rw [←hr,aIB,if_neg (by omega)];split<;>omega);rw [hr] at C1;have HR1:=aA hr1;(have m0:(0:Int)≤a:=by omega);(have m1:(a:Int)<len:=by omega);(have hpl:a≤l.length:=by omega);clear hat hc hmk hr hr1;by_cases hz:r=0
    ·subst hz;(go_wp2_with fail);refine (uH C1 _).mono ?_;rintro e w2 ⟨rfl,hb⟩;have HB2:=aA (yB (uH HB) hb);clear hb;have HZ:=aA (show aGG l id w.heap.size w _ w2 from ⟨a,true,rfl,hpl,uH H1,uH H2,⟨fun _=>(uH HF).2 ((uH HR1).1 (by first | rfl | trivial)),fun _=>rfl⟩,uH HB2⟩);go_wp2;refine bodyPost_ret (v:=.tuple #[.int .i64 (a:Int),.bool true]) (by simp [results,results167,go_sem]) rfl (uH HZ)
    ·(go_wp2_with fail);refine (uH C1 _).mono ?_;rintro e w2 ⟨rfl,hb⟩;have HB2:=aA (yB (uH HB) hb);clear hb;have HZ:=aA (show aGG l id w.heap.size w _ w2 from ⟨a,false,rfl,hpl,uH H1,uH H2,⟨fun h=>absurd h Bool.false_ne_true,fun h=>absurd ((uH HR1).2 ((uH HF).1 h)) hz⟩,uH HB2⟩);go_wp2;refine bodyPost_ret (v:=.tuple #[.int .i64 (a:Int),.bool false]) (by simp [results,results167,go_sem,hz]) rfl (uH HZ)
   ·(have KN:¬(a:Int)<len:=by omega);(have hpl:a≤l.length:=by have:=uH HL;omega);have JU:=aA (show ¬ ∃c ∈ l,c.id=id by
     rintro ⟨c,hc,e⟩;obtain ⟨k,hk,rfl⟩:=List.mem_iff_getElem.1 hc;have h9:=uH HL;have h8:=uH H1 k hk (by omega);omega)
    have HZ:=aA (fun wx (hb:Bw w wx)=>show aGG l id w.heap.size w _ wx from ⟨a,false,rfl,hpl,uH H1,uH H2,⟨fun h=>absurd h Bool.false_ne_true,fun h=>absurd h (uH JU)⟩,hb⟩);go_wp2;refine bodyPost_ret (v:=.tuple #[.int .i64 (a:Int),.bool false]) (by simp [results,results167,go_sem]) rfl (uH HZ _ (uH HB))
theorem sO (x:Sls) (s:St) (id:Int) (w:World) (h:iL w x s) (hf:bH s) (ha:aLO s.cs) :
  cP 112 #[sv x s,.int .i64 id] w (aGG s.cs id w.heap.size w):=by
 have hcl:x.cl≤1048576:=by have:=h.len.2.2.2;have:=hf.2.2.2.1;omega
 have hb0:=yA (yH _ w) (.cells (svc x s) 29);have C:=aA (aEJ x.ca x.cl x.cc s.cs id _ (h.2.2.2.below hb0) hcl ha);have HB0:=aA hb0;clear h hf ha hb0;obtain ⟨qa,ql,qc,aa,al,ac,ma,ml,mc,ca,cl,cc⟩:=x;obtain ⟨qs,cv,ez,nv,sj,aj,ms,cs⟩:=s;simp only at C ⊢;have ZK:∀(fn:Fn) (first cap:Array Value) (w:World),(Instr.makeFunc fn first cap).run Tryz.prog w=.ok (.func fn first cap) w:=fun _ _ _ _=>rfl
 go_enter func112,ntmps112
 go_wp2_with fail
 refine (uH C).mono ?_;rintro e w1 ⟨p,f,rfl,h1,h2,h3,h4,hb⟩;have HZ:=aA (show aGG cs id w.heap.size w _ w1 from ⟨p,f,rfl,h1,h2,h3,h4,yB (uH HB0) hb⟩);clear h1 h2 h3 h4 hb C HB0;go_wp2;refine bodyPost_ret (v:=.tuple #[.int .i64 (p:Int),.bool f]) (by simp [results,results112,go_sem]) rfl (uH HZ)
def VB (w1 w:World) (g:Nat) (x y:Int):Prop:=w1.heap.size≤g∧Var w 33 g x y
theorem VB.below {w':World} (h:VB w1 w g x y) (hb:Bw w w'):VB w1 w' g x y:=⟨h.1,h.2.below hb⟩
theorem VB.al (h:VB w1 w g x y) (o:Obj):VB w1 (w.alloc o) g x y:=⟨h.1,h.2.al o⟩
theorem VB.ne (h:VB w1 w g x y):g≠w.heap.size:=Nat.ne_of_lt h.2.lt
theorem aKY (h:Bw w1 w):VB w1 (w.alloc (.cells #[.int .i64 0,.int .i64 0] 33)) w.heap.size 0 0:=⟨h.size,aK w _ 0 0⟩
theorem VB.set (h:VB w1 w g a b) (x y:Int):VB w1 ((w.setCell ⟨g,0,none⟩ (.int .i64 x)).setCell ⟨g,1,none⟩ (.int .i64 y)) g x y:=⟨h.1,h.2.set x y⟩
theorem VB.off (h:VB w1 w g a b) (hn:g≠k):VB w1 ((w.setCell ⟨k,0,none⟩ u).setCell ⟨k,1,none⟩ v) g a b:=⟨h.1,(h.2.other k 0 u hn).other k 1 v hn⟩
theorem VB.kp (h:VB w1 w g a b) (hk:Bw w1 w):Bw w1 ((w.setCell ⟨g,0,none⟩ u).setCell ⟨g,1,none⟩ v):=yC (yC hk _ _ _ h.1) _ _ _ h.1
def aFp:Nat→List (List Bool)
 | 0=>[[]]
 | k+1=>(aFp k).map (false :: ·)++(aFp k).map (true :: ·)
theorem aC7:∀(f:List Bool),f ∈ aFp f.length
 | []=>by simp [aFp]
 | b::t=>by
  have:=aC7 t;cases b<;>simp [aFp,this]
structure Mul where
 n:Nat
 cs:List Nat
 al:List Nat
 st:List Nat
 l0:List Bool
def Mul.lst (M:Mul) (c:Nat) (f:List Bool) (s:Nat):Array Bool:=
 ((List.range M.n).map fun i=>M.l0.getD i false||((M.cs.take c).contains i||(((M.al.zip f).any fun p=>p.1==i&&p.2)||(M.st.take s).contains i))).toArray
def Mul.nxt (M:Mul) (c:Nat) (f:List Bool) (s:Nat):List (Nat×Nat):=
 (List.range M.n).filterMap fun i=>
  if M.cs[c]? = some i then some (i,0)
  else match (List.range M.al.length).find? (fun j=>M.al[j]? == some i&&f[j]? == some false) with
   | some j=>some (i,j+2)
   | none=>if decide (c=M.cs.length)&&(f.all id&&decide (M.st[s]? = some i)) then some (i,1) else none
def Mul.to (c:Nat) (f:List Bool) (s:Nat):Nat→Nat×List Bool×Nat
 | 0=>(c+1,f,s)
 | 1=>(c,f,s+1)
 | j+2=>(c,f.set j true,s)
def Mul.one (M:Mul) (md:Region.Mode) (ops:Array Oper) (c:Nat) (f:List Bool) (s:Nat):Bool:=
 decide (Region.ready md ops (M.lst c f s)=(M.nxt c f s).map (·.1)) &&
 ((M.nxt c f s).isEmpty==(decide (c=M.cs.length)&&(f.all id&&decide (s=M.st.length)))) &&
 (M.nxt c f s).all fun p=>decide ((M.lst c f s).setIfInBounds p.1 true=M.lst (Mul.to c f s p.2).1 (Mul.to c f s p.2).2.1 (Mul.to c f s p.2).2.2) &&
  (match p.2 with | 0=>decide (M.cs[c]? = some p.1) | 1=>decide (c=M.cs.length)&&(f.all id&&decide (M.st[s]? = some p.1)) | j+2=>decide (M.al[j]? = some p.1)&&f[j]? == some false)
def Mul.ok (M:Mul) (md:Region.Mode) (ops:Array Oper):Bool:=
 decide (M.al.length=M.st.length)&&((List.range (M.cs.length+1)).all fun c=>(aFp M.al.length).all fun f=>M.one md ops c f 0)&&(List.range (M.st.length+1)).all fun s=>M.one md ops M.cs.length (List.replicate M.al.length true) s
theorem sS {f:List Bool} (h:f.all id=true):f=List.replicate f.length true:=by
 induction f with
 | nil=>rfl
 | cons b t ih=>simp only [List.all_cons,id,yK] at h;rw [List.length_cons,List.replicate_succ,←ih h.2,h.1]
theorem Mul.at {M:Mul} {md:Region.Mode} (h:M.ok md ops=true) {c:Nat} {f:List Bool} {s:Nat} (hc:c≤M.cs.length) (hf:f.length=M.al.length) (hs:s≤M.st.length) (h0:0<s→c=M.cs.length∧f.all id=true):M.one md ops c f s=true:=by
 simp only [Mul.ok,yK,List.all_eq_true,List.mem_range] at h;obtain ⟨⟨_,h1⟩,h2⟩:=h;by_cases e:s=0
 ·subst e;exact h1 c (by omega) f (by rw [←hf];exact aC7 f)
 ·obtain ⟨rfl,h3⟩:=h0 (by omega);have:=sS h3;rw [hf] at this;rw [this];exact h2 s (by omega)
def Mul.step (P:Program) (ops:Array Oper) (Q:Exit→Act→World→Prop) (i:Nat) (a:Act) (w:World) (K:Act→World→Prop):Prop:=
 ∃o,ops[i]? = some o∧(if Region.wanted o (yielded ops a.tmps)=true then Oper.wp P o a w K Q else K (a.put o.dst undef) w)
theorem aH8 {f:List Bool} {j:Nat} (h:f[j]? = some false):(f.set j true).count false+1=f.count false:=by
 induction f generalizing j with
 | nil=>simp at h
 | cons b t ih=>
  cases j with
  | zero=>simp at h;subst h;simp
  | succ j=>simp at h;have:=ih h;simp only [sC,List.count_cons];omega
theorem aBE {f:List Bool} (h:f.all id=true):f.count false=0:=by rw [sS h];simp [List.count_replicate]
theorem wT {md:Region.Mode} {Q:Exit→Act→World→Prop} {S:World→Prop} {n n':Nat} {l l':Array Bool} {a a':Act} (hn:n=n') (hl:l=l') (ha:a=a') (h:wpAnyH P md ops Q S n' l' a' w):wpAnyH P md ops Q S n l a w:=by
 subst hn hl ha;exact h
def aIb (b:Bool) (g:Nat):Value:=match b with | true=>.pointer (some ⟨g,0,none⟩) | false=>undef
def mkV (b:Bool) (v u:Value):Value:=match b with | true=>v | false=>u
def aIa (b:Bool) (v:Value):Value:=match b with | true=>v | false=>undef
theorem aFe {l:List α} (h:l.length=4):∃a b c d,l=[a,b,c,d]:=by
 match l,h with
 | [a,b,c,d],_=>exact ⟨a,b,c,d,rfl⟩
theorem vX {l:List α} (h:l.length=2):∃a b,l=[a,b]:=by
 match l,h with
 | [a,b],_=>exact ⟨a,b,rfl⟩
theorem oJ {md:Region.Mode} {Q:Exit→Act→World→Prop} (M:Mul) (Fr:Nat→List Bool→List Nat→Act) (vals:List (Int×Int)) (hv:vals.length=M.al.length)
  (hok:M.ok md ops=true)
  (hcall:∀c f us w K,c<M.cs.length→f.length=M.al.length→us.length=M.al.length→Kp w1 w→(∀w',Bw w w'→K (Fr (c+1) f us) w')→Mul.step P ops Q (M.cs.getD c 0) (Fr c f us) w K)
  (hal:∀j c f us w K,c≤M.cs.length→f.length=M.al.length→us.length=M.al.length→f[j]? = some false→K (Fr c (f.set j true) (us.set j w.heap.size)) (w.alloc (.cells #[.int .i64 0,.int .i64 0] 33))→Mul.step P ops Q (M.al.getD j 0) (Fr c f us) w K)
  (hst:∀s us w K,s<M.al.length→us.length=M.al.length→Var w 33 (us.getD s 0) 0 0→K (Fr M.cs.length (List.replicate M.al.length true) us) ((w.setCell ⟨us.getD s 0,0,none⟩ (.int .i64 (vals.getD s (0,0)).1)).setCell ⟨us.getD s 0,1,none⟩ (.int .i64 (vals.getD s (0,0)).2))→Mul.step P ops Q (M.st.getD s 0) (Fr M.cs.length (List.replicate M.al.length true) us) w K)
  (fin:∀us w,us.length=M.al.length→(∀j,j<M.al.length→VB w1 w (us.getD j 0) (vals.getD j (0,0)).1 (vals.getD j (0,0)).2)→Kp w1 w→Q .normal (Fr M.cs.length (List.replicate M.al.length true) us) w)
  (w:World) (hw:Kp w1 w):wpAnyH P md ops Q (Kp w1) (M.cs.length+M.al.length+M.al.length) (M.lst 0 (List.replicate M.al.length false) 0) (Fr 0 (List.replicate M.al.length false) (List.replicate M.al.length 0)) w:=by
 have hla:M.al.length=M.st.length:=by have:=hok;simp only [Mul.ok,yK,yL] at this;exact this.1.1
 refine mF (fun n lz az wz=>∃c f us s,c≤M.cs.length∧f.length=M.al.length∧us.length=M.al.length∧s≤M.al.length∧(0<s→c=M.cs.length∧f.all id=true)∧n=(M.cs.length - c)+f.count false+(M.al.length - s)∧lz=M.lst c f s∧az=Fr c f us
   ∧(∀j,f[j]? = some true→VB w1 wz (us.getD j 0) (if j<s then (vals.getD j (0,0)).1 else 0) (if j<s then (vals.getD j (0,0)).2 else 0))∧(∀i j,f[i]? = some true→f[j]? = some true→i≠j→us.getD i 0≠us.getD j 0)∧Kp w1 wz) ?_ ?_ _ _ _ _ ⟨0,_,_,0,Nat.zero_le _,by simp,by simp,Nat.zero_le _,fun h=>absurd h (by omega),by simp,rfl,rfl,fun j hj=>by simp [List.getElem?_replicate] at hj,fun i j hi=>by simp [List.getElem?_replicate] at hi,hw⟩
 ·rintro n lz az wz ⟨c,f,us,s,hc,hf,hu,hs,h0,hn,rfl,rfl,hV,hD,hk⟩;have gy:=Mul.at hok hc hf (by omega) h0;simp only [Mul.one,yK,yL,List.all_eq_true] at gy;obtain ⟨⟨hr,he⟩,Qj⟩:=gy;have hne:(M.nxt c f s).map (·.1)≠[]:=fun e=>by
   have e':M.nxt c f s=[]:=List.map_eq_nil_iff.1 e;rw [e'] at he;simp only [List.isEmpty_nil,beq_iff_eq] at he;have he':=he.symm;simp only [yK,yL] at he';have:=aBE he'.2.1;omega
  refine aX hr hne (fun i hi=>?_);obtain ⟨⟨i',k⟩,hp,rfl⟩:=List.mem_map.1 hi;obtain ⟨qx,hk'⟩:=Qj _ hp;simp only at qx hk'
  match k,qx,hk' with
  | 0,qx,hk'=>
   simp only [yL] at hk';have hlt:c<M.cs.length:=(List.getElem?_eq_some_iff.1 hk').1;(have hcd:M.cs.getD c 0=i':=by rw [List.getD_eq_getElem?_getD,hk'];rfl);obtain ⟨o,ho,hh⟩:=hcall c f us wz (fun a' w'=>Kp w1 w'∧∃c' f' us' s',c'≤M.cs.length∧f'.length=M.al.length∧us'.length=M.al.length∧s'≤M.al.length∧(0<s'→c'=M.cs.length∧f'.all id=true)∧n=(M.cs.length - c')+f'.count false+(M.al.length - s')∧(M.lst c f s).setIfInBounds i' true=M.lst c' f' s'∧a'=Fr c' f' us'∧(∀j,f'[j]? = some true→VB w1 w' (us'.getD j 0) (if j<s' then (vals.getD j (0,0)).1 else 0) (if j<s' then (vals.getD j (0,0)).2 else 0))∧(∀i j,f'[i]? = some true→f'[j]? = some true→i≠j→us'.getD i 0≠us'.getD j 0)∧Kp w1 w') hlt hf hu hk
    (fun w' hb=>⟨yB hk hb,c+1,f,us,s,hlt,hf,hu,hs,fun h=>absurd (h0 h).1 (by omega),by omega,qx,rfl,fun j hj=>(hV j hj).below hb,hD,yB hk hb⟩)
   rw [hcd] at ho;exact wpOp_step ho (fun K' hK=>by
    split
    ·rename_i hw;rw [if_pos hw] at hh;exact Oper.wp_mono (fun _ _ h=>hK _ _ h) hh
    ·rename_i hw;rw [if_neg hw] at hh;exact hK _ _ hh)
  | 1,qx,hk'=>
   simp only [yK,yL] at hk';obtain ⟨rfl,hft,BO⟩:=hk';(have hsl:s<M.al.length:=by rw [hla];exact (List.getElem?_eq_some_iff.1 BO).1);have xq:=sS hft;rw [hf] at xq;(have hj:f[s]? = some true:=by rw [xq,List.getElem?_replicate,if_pos hsl]);(have hcd:M.st.getD s 0=i':=by rw [List.getD_eq_getElem?_getD,BO];rfl);have hvs:=hV s hj;rw [if_neg (by omega),if_neg (by omega)] at hvs;obtain ⟨o,ho,hh⟩:=hst s us wz (fun a' w'=>Kp w1 w'∧∃c' f' us' s',c'≤M.cs.length∧f'.length=M.al.length∧us'.length=M.al.length∧s'≤M.al.length∧(0<s'→c'=M.cs.length∧f'.all id=true)∧n=(M.cs.length - c')+f'.count false+(M.al.length - s')∧(M.lst M.cs.length f s).setIfInBounds i' true=M.lst c' f' s'∧a'=Fr c' f' us'∧(∀j,f'[j]? = some true→VB w1 w' (us'.getD j 0) (if j<s' then (vals.getD j (0,0)).1 else 0) (if j<s' then (vals.getD j (0,0)).2 else 0))∧(∀i j,f'[i]? = some true→f'[j]? = some true→i≠j→us'.getD i 0≠us'.getD j 0)∧Kp w1 w') hsl hu hvs.2
    ⟨hvs.kp hk,M.cs.length,f,us,s+1,yJ _,hf,hu,hsl,fun _=>⟨rfl,hft⟩,by have:=aBE hft;omega,qx,by rw [←xq],fun j hj'=>by
     by_cases e:j=s
     ·subst e;rw [if_pos (by omega),if_pos (by omega)];exact hvs.set _ _
     ·have h1:=(hV j hj').off (hD j s hj' hj e) (u:=.int .i64 (vals.getD s (0,0)).1) (v:=.int .i64 (vals.getD s (0,0)).2);by_cases e2:j<s
      ·rw [if_pos e2,if_pos e2] at h1;rw [if_pos (by omega),if_pos (by omega)];exact h1
      ·rw [if_neg e2,if_neg e2] at h1;rw [if_neg (by omega),if_neg (by omega)];exact h1,hD,hvs.kp hk⟩
   rw [hcd] at ho;rw [xq];rw [←xq] at hh ⊢;exact wpOp_step ho (fun K' hK=>by
    rw [xq] at hK ⊢;rw [xq] at hh;split
    ·rename_i hw;rw [if_pos hw] at hh;exact Oper.wp_mono (fun _ _ h=>hK _ _ h) hh
    ·rename_i hw;rw [if_neg hw] at hh;exact hK _ _ hh)
  | j+2,qx,hk'=>
   simp only [yK,yL,beq_iff_eq] at hk';obtain ⟨ha,hfj⟩:=hk';have hjl:j<M.al.length:=(List.getElem?_eq_some_iff.1 ha).1;(have hcd:M.al.getD j 0=i':=by rw [List.getD_eq_getElem?_getD,ha];rfl);have hs0:s=0:=by
    by_cases e:s=0
    ·exact e
    ·have h1:=sS (h0 (by omega)).2;rw [h1,List.getElem?_replicate,if_pos (by omega)] at hfj;cases hfj
   obtain ⟨o,ho,hh⟩:=hal j c f us wz (fun a' w'=>Kp w1 w'∧∃c' f' us' s',c'≤M.cs.length∧f'.length=M.al.length∧us'.length=M.al.length∧s'≤M.al.length∧(0<s'→c'=M.cs.length∧f'.all id=true)∧n=(M.cs.length - c')+f'.count false+(M.al.length - s')∧(M.lst c f s).setIfInBounds i' true=M.lst c' f' s'∧a'=Fr c' f' us'∧(∀j,f'[j]? = some true→VB w1 w' (us'.getD j 0) (if j<s' then (vals.getD j (0,0)).1 else 0) (if j<s' then (vals.getD j (0,0)).2 else 0))∧(∀i j,f'[i]? = some true→f'[j]? = some true→i≠j→us'.getD i 0≠us'.getD j 0)∧Kp w1 w') hc hf hu hfj
    ⟨yA hk _,c,f.set j true,us.set j wz.heap.size,s,hc,by simpa using hf,by simpa using hu,hs,fun h=>absurd h (by omega),by have:=aH8 hfj;omega,qx,rfl,fun x hx=>by
     subst hs0;rw [if_neg (by omega),if_neg (by omega)];by_cases e:x=j
     ·subst e;rw [List.getD_eq_getElem?_getD,List.getElem?_set_self (by omega)];exact aKY hk
     ·rw [List.getElem?_set_ne (fun h=>e h.symm)] at hx;rw [List.getD_eq_getElem?_getD,List.getElem?_set_ne (fun h=>e h.symm),←List.getD_eq_getElem?_getD];have:=hV x hx;rw [if_neg (by omega),if_neg (by omega)] at this;exact this.al _,fun x y hx hy WT=>by
     by_cases e:x=j
     ·subst e;by_cases e2:y=x
      ·exact absurd e2.symm WT
      ·rw [List.getElem?_set_ne (fun h=>e2 h.symm)] at hy;rw [List.getD_eq_getElem?_getD,List.getElem?_set_self (by omega),List.getD_eq_getElem?_getD,List.getElem?_set_ne (fun h=>e2 h.symm),←List.getD_eq_getElem?_getD];exact (hV y hy).ne.symm
     ·rw [List.getElem?_set_ne (fun h=>e h.symm)] at hx;rw [List.getD_eq_getElem?_getD (l:=us.set j wz.heap.size) (i:=x),List.getElem?_set_ne (fun h=>e h.symm),←List.getD_eq_getElem?_getD];by_cases e2:y=j
      ·subst e2;rw [List.getD_eq_getElem?_getD (l:=us.set y wz.heap.size),List.getElem?_set_self (by omega)];exact (hV x hx).ne
      ·rw [List.getElem?_set_ne (fun h=>e2 h.symm)] at hy;rw [List.getD_eq_getElem?_getD (l:=us.set j wz.heap.size),List.getElem?_set_ne (fun h=>e2 h.symm),←List.getD_eq_getElem?_getD];exact hD x y hx hy WT,yA hk _⟩
   rw [hcd] at ho;exact wpOp_step ho (fun K' hK=>by
    split
    ·rename_i hw;rw [if_pos hw] at hh;exact Oper.wp_mono (fun _ _ h=>hK _ _ h) hh
    ·rename_i hw;rw [if_neg hw] at hh;exact hK _ _ hh)
 ·rintro lz az wz ⟨c,f,us,s,hc,hf,hu,hs,h0,hn,rfl,rfl,hV,hD,hk⟩;have gy:=Mul.at hok hc hf (by omega) h0;simp only [Mul.one,yK,yL,List.all_eq_true] at gy;obtain ⟨⟨hr,he⟩,_⟩:=gy;have hcc:c=M.cs.length:=by omega
  have hfa:f.all id=true:=by
   rw [List.all_eq_true];intro b hb;cases b with
   | true=>rfl
   | false=>have:=List.count_pos_iff.2 hb;omega
  have hss:s=M.al.length:=by omega
  subst hcc hss;have hf':=sS hfa;rw [hf] at hf';refine ⟨?_,?_⟩
  ·(rw [hr];have:(M.nxt M.cs.length f M.al.length).isEmpty=true:=by simp only [beq_iff_eq] at he;rw [he,hfa,hla];simp);rw [List.isEmpty_iff.1 this];rfl
  ·rw [hf'];refine fin us wz hu (fun j hj=>?_) hk;have:=hV j (by rw [hf',List.getElem?_replicate,if_pos hj]);rw [if_pos hj,if_pos hj] at this;exact this
def aGN (p:bW→Bool):List bW→Nat→Int
 | [],_=>-1
 | q::t,k=>if p q=true then (k:Int) else aGN p t (k+1)
theorem aHO {p:bW→Bool} {l:List bW} (h:k<l.length):aGN p (l.drop k) k=if p l[k]=true then (k:Int) else aGN p (l.drop (k+1)) (k+1):=by
 rw [List.drop_eq_getElem_cons h,aGN]
theorem aIl {p:bW→Bool} {l:List bW} (h:l.length≤k):aGN p (l.drop k) k = -1:=by
 rw [List.drop_of_length_le h];rfl
theorem aEv (p:bW→Bool):∀(l:List bW) (k:Nat),decide (0≤aGN p l k)=l.any p
 | [],_=>by simp [aGN]
 | q::t,k=>by
  rw [aGN,List.any_cons];by_cases h:p q=true
  ·rw [if_pos h,h];simp
  ·rw [if_neg h,aEv p t (k+1)];simp [h]
theorem aAR (g:Nat) (lb:Array Value) (eg:∀args w,(callFunc g args).run Tryz.prog w=.ok (.enter g args) w) (p:bW→Bool) (ao:Option Addr) (len cap:Nat) (l:List bW) (w:World) (h:gL w ao len l) (hl:len≤1048576)
  (hp:∀wx (q:bW) xo xl xc,Bw w wx→xl=q.asks.length→Calls Tryz.prog g (#[aET q.id q.queue xo xl xc]++lb) wx fun e w'=>e=.returned (.bool (p q))∧Bw wx w') :
  cP 198 #[.slice ao len cap,.func (.func g) #[] lb] w fun e w'=>e=.returned (.int .i64 (aGN p l 0))∧Bw w w':=by
 have HR:=aA h;have HL:=aA h.1;have HP:=aA hp;clear h hp;go_enter func198,ntmps198;go_wp2;go_loopw [5,8] (fun _ i wr=>∃k:Nat,k≤len∧i=.int .i64 k∧Hid (aGN p l 0=aGN p (l.drop k) k)∧Hid (Bw w wr)) (fun _ i _=>len - (intOf i).toNat);case atStart=>exact ⟨0,Nat.zero_le _,rfl,aA (by simp),aA (yH _ _)⟩
 case round=>
  obtain ⟨k,hk,rfl,hq,HB⟩:=hrel;by_cases hlt:k<len
  ·obtain ⟨b,off,rfl,hx⟩:=((uH HR).below (uH HB)).at hlt;(have hkl:k<l.length:=by have:=uH HL;omega);have hst:=aA (aHO (p:=p) (l:=l) (k:=k) hkl);obtain ⟨xo,xl,xc,c0,c1,c2,Hq,_⟩:=hx hkl;clear hx;obtain ⟨⟨id,qu,asks⟩,hs⟩:∃s,l[k]=s:=⟨_,rfl⟩;rw [hs] at c0 c1 hst Hq;simp only at c0 c1;have HC:=aA (uH HP wr ⟨id,qu,asks⟩ xo xl xc (uH HB) Hq.1);clear hs hkl HP Hq;cases hpq:p ⟨id,qu,asks⟩ with
   | true=>rw [hpq] at HC;have HQ:=aA hpq;clear hpq;(go_wp2_with (go_at_fn g;refine (uH HC).mono ?_;rintro e w' ⟨rfl,hb⟩));go_ret;exact ⟨iJ (by rw [uH hq,uH hst,if_pos (uH HQ)]),yB (uH HB) hb⟩
   | false=>rw [hpq] at HC;have HQ:=aA hpq;clear hpq;(go_wp2_with (go_at_fn g;refine (uH HC).mono ?_;rintro e w' ⟨rfl,hb⟩));go_roundw;(case rel=>exact ⟨k+1,by omega,by go_num,aA (by rw [uH hq,uH hst,if_neg (by rw [uH HQ];simp)]),aA (yB (uH HB) hb)⟩);case measure=>simp [intOf];omega
  ·go_wp2;go_ret;exact ⟨iJ (by rw [uH hq,aIl (by have:=uH HL;omega)]),uH HB⟩
theorem uG (g:Nat) (lb:Array Value) (eg:∀args w,(callFunc g args).run Tryz.prog w=.ok (.enter g args) w) (p:bW→Bool) (ao:Option Addr) (len cap:Nat) (l:List bW) (w:World) (h:gL w ao len l) (hl:len≤1048576)
  (hp:∀wx (q:bW) xo xl xc,Bw w wx→xl=q.asks.length→Calls Tryz.prog g (#[aET q.id q.queue xo xl xc]++lb) wx fun e w'=>e=.returned (.bool (p q))∧Bw wx w') :
  cP 158 #[.slice ao len cap,.func (.func g) #[] lb] w fun e w'=>e=.returned (.bool (l.any p))∧Bw w w':=by
 have C:=aA (aAR g lb eg p ao len cap l w h hl hp);have HS:=aA (aEv p l 0);obtain ⟨i,hi⟩:∃i,aGN p l 0=i:=⟨_,rfl⟩;obtain ⟨b,hb⟩:∃b,l.any p=b:=⟨_,rfl⟩;rw [hi] at C HS;rw [hb] at HS ⊢;clear h hp hi hb;go_enter func158,ntmps158;go_wp2_with fail;refine (uH C).mono ?_;rintro e w1 ⟨rfl,hb⟩;have HB:=aA hb;clear hb;by_cases h0:0≤i
 ·go_wp2;go_ret;exact ⟨yF (by first | exact uH HS | (rw [←uH HS];simp [h0])),uH HB⟩
 ·go_wp2;go_ret;exact ⟨yF (by first | exact uH HS | (rw [←uH HS];simp [h0])),uH HB⟩
def aAJ (nm:List UInt8) (q:bW):Bool:=decide (q.queue=nm)&&decide (0<q.asks.length)
def kV (s:St) (nm:List UInt8):Bool:=s.apps.any (aAJ nm)
theorem aFT (B:Nat) (nm:List UInt8) (id:Int) (qu:List UInt8) (xo:Option Addr) (xl xc:Nat) (w:World) (hc:w.cell? ⟨B,0,none⟩=some (.string (bs nm))) :
  cP 159 #[aET id qu xo xl xc,.pointer (some ⟨B,0,none⟩)] w fun e w'=>e=.returned (.bool (decide (qu=nm)&&decide (0<xl)))∧Bw w w':=by
 have hlt:=yG hc;have hc2:(w.alloc (.cells #[.int .i64 id,.string (bs qu),.slice xo xl xc] 56)).cell? ⟨B,0,none⟩=some (.string (bs nm)):=by rw [World.cell?_alloc_lt _ _ ⟨B,0,none⟩ hlt];exact hc
 have hbe:=mQ qu nm;clear hc hlt;by_cases h1:qu=nm
 ·rw [decide_eq_true h1] at hbe ⊢;by_cases h2:0<xl
  ·(have h3:(0:Int)<xl:=by omega);rw [decide_eq_true h2];clear h1 h2;(go_enter func159,ntmps159);go_wp2;go_ret;exact ⟨yF (by simp;omega),yA (yH _ _) _⟩
  ·(have h3:¬(0:Int)<xl:=by omega);rw [decide_eq_false h2];clear h1 h2;(go_enter func159,ntmps159);go_wp2;go_ret;exact ⟨yF (by simp;omega),yA (yH _ _) _⟩
 ·rw [decide_eq_false h1] at hbe ⊢;rw [Bool.false_and];clear h1;go_enter func159,ntmps159;go_wp2;go_ret;exact ⟨rfl,yA (yH _ _) _⟩
def aJe (w:World) (c:Array Value) (nm:List UInt8):World:=(w.alloc (.cells c 29)).alloc (.cells #[.string (bs nm)] 9)
theorem xN (w:World) (c:Array Value) (nm:List UInt8):Bw w (aJe w c nm):=yA (yA (yH _ w) _) _
theorem aAf (w:World) (c:Array Value) (nm:List UInt8):(aJe w c nm).cell? ⟨w.heap.size+1,0,none⟩=some (.string (bs nm)):=by
 have:=(yD (w.alloc (.cells c 29)) #[.string (bs nm)] 9).at 0;rw [yE] at this;exact this
theorem y8 (x:Sls) (s:St) (nm:List UInt8) (w:World) (h:iL w x s) (hf:bH s) :
  cP 100 #[sv x s,.string (bs nm)] w fun e w'=>e=.returned (.bool (kV s nm))∧Bw w w':=by
 have ZK:∀(fn:Fn) (first cap:Array Value) (w:World),(Instr.makeFunc fn first cap).run Tryz.prog w=.ok (.func fn first cap) w:=fun _ _ _ _=>rfl
 have hal:x.al≤1048576:=by have:=h.len.2.1;have:=hf.2.1.1;omega
 have CU:=aA (uG 159 #[.pointer (some ⟨w.heap.size+1,0,none⟩)] (enters_of func159 (by kernel_rfl) rfl) (aAJ nm) x.aa x.al x.ac s.apps (aJe w (svc x s) nm) (h.2.1.below (xN w _ nm)) hal
   (fun wy q xo xl xc hy hx=>by
    have:=aFT (w.heap.size+1) nm q.id q.queue xo xl xc wy ((hy.cell (p:=⟨w.heap.size+1,0,none⟩) (yG (aAf w _ nm))).trans (aAf w _ nm));rw [hx] at this ⊢;exact this))
 obtain ⟨o,ho⟩:∃o,kV s nm=o:=⟨_,rfl⟩;rw [show s.apps.any (aAJ nm)=o from ho] at CU;rw [ho];clear ho h hf;obtain ⟨qa,ql,qc,aa,al,ac,ma,ml,mc,ca,cl,cc⟩:=x;obtain ⟨qs,cv,ez,nv,sj,aj,ms,cs⟩:=s;go_enter func100,ntmps100;go_wp2_with fail;refine (uH CU).mono ?_;rintro e w1 ⟨rfl,hb⟩;have HB1:=aA (yB (xN w _ nm) hb);clear hb CU;go_wp2;go_ret;exact ⟨rfl,uH HB1⟩
theorem aJF {p:bW→Bool} {l:List bW} (h:k<l.length):(l.drop k).any p=(p l[k]||(l.drop (k+1)).any p):=by
 rw [List.drop_eq_getElem_cons h,List.any_cons]
theorem wZ (x:Sls) (s:St) (nm:List UInt8) (w:World) (h:iL w x s) (hf:bH s) :
  cP 102 #[sv x s,.string (bs nm)] w fun e w'=>e=.returned (.bool (kV s nm))∧Bw w w':=by
 have hal:x.al≤1048576:=by have:=h.len.2.1;have:=hf.2.1.1;omega
 have HR:=aA h.2.1;have HL:=aA h.len.2.1;have HB0:=aA (yA (yH _ w) (.cells (svc x s) 29));have P0:=aA (yD w (svc x s) 29);obtain ⟨o,ho⟩:∃o,kV s nm=o:=⟨_,rfl⟩;have HO:=aA (show (s.apps.drop 0).any (aAJ nm)=o from ho);rw [ho];clear ho h hf;obtain ⟨qa,ql,qc,aa,al,ac,ma,ml,mc,ca,cl,cc⟩:=x;obtain ⟨qs,cv,ez,nv,sj,aj,ms,cs⟩:=s;simp only at hal HR HL HO;go_enter func102,ntmps102;go_wp2;go_loopw [5] (fun i wr=>∃(k:Nat),k≤al∧i=.int .i64 k∧Hid ((aj.drop k).any (aAJ nm)=o)∧Hid (Blk wr w.heap.size (svc ⟨qa,ql,qc,aa,al,ac,ma,ml,mc,ca,cl,cc⟩ ⟨qs,cv,ez,nv,sj,aj,ms,cs⟩) 29)∧Hid (Bw w wr)) (fun i _=>al - (intOf i).toNat);case atStart=>exact ⟨0,Nat.zero_le _,rfl,HO,P0,HB0⟩
 case round=>
  obtain ⟨k,hk,rfl,HQ,HP,HB⟩:=hrel;have p5:=(uH HP).at 5;simp at p5;by_cases hlt:k<al
  ·obtain ⟨b,off,rfl,hx⟩:=((uH HR).below (uH HB)).at hlt;(have hkl:k<aj.length:=by have:=uH HL;omega);have hst:=aJF (p:=aAJ nm) hkl;obtain ⟨xo,xl,xc,c0,c1,c2,Hq,_⟩:=hx hkl;clear hx;obtain ⟨⟨id,qu,asks⟩,hs⟩:∃s,aj[k]=s:=⟨_,rfl⟩;rw [hs] at c0 c1 hst Hq;simp only at c0 c1;have hbe:=mQ qu nm;(have MZ:aAJ nm ⟨id,qu,asks⟩=(decide (qu=nm)&&decide (0<xl)):=by simp [aAJ,Hq.1]);rw [MZ] at hst;rw [uH HQ] at hst;clear hs hkl Hq MZ;by_cases h1:qu=nm
   ·rw [decide_eq_true h1] at hbe hst;by_cases h2:0<xl
    ·(have h3:(0:Int)<xl:=by omega);(have hot:o=true:=by rw [hst,decide_eq_true h2];simp);subst hot;clear h1 h2 hst;go_wp2;go_ret;exact ⟨rfl,uH HB⟩
    ·(have h3:¬(0:Int)<xl:=by omega);rw [decide_eq_false h2] at hst;have HN:=aA (show (aj.drop (k+1)).any (aAJ nm)=o by simpa using hst.symm);clear h1 h2 hst;go_wp2;go_roundw;(case rel=>exact ⟨k+1,by omega,by go_num,HN,HP,HB⟩);case measure=>simp [intOf];omega
   ·rw [decide_eq_false h1] at hbe hst;have HN:=aA (show (aj.drop (k+1)).any (aAJ nm)=o by simpa using hst.symm);clear h1 hst;go_wp2;go_roundw;(case rel=>exact ⟨k+1,by omega,by go_num,HN,HP,HB⟩);case measure=>simp [intOf];omega
  ·(have hof:o=false:=by rw [←uH HQ,List.drop_of_length_le (by have:=uH HL;omega)];rfl);subst hof;go_wp2;go_ret;exact ⟨rfl,uH HB⟩
end
end Go.Proofs.YtfndhndlkcijoaaGreat
