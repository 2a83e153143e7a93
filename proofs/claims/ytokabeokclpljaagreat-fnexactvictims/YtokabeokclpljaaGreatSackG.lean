/-
  Texts in one: ROwn, Caps, SumI4, CapI, VarB, StdP, UsedI, Held, OwnC, RegM.
-/
import Derived.Test.YtokabeokclpljaaGreatSackE
import Derived.Test.YtokabeokclpljaaGreatSackF
import Derived.Lib.SliceRun
set_option maxRecDepth 100000
set_option maxHeartbeats 16000000
set_option linter.unusedVariables false
set_option linter.unusedSimpArgs false
namespace Go.Proofs.YtokabeokclpljaaGreat
section
open Go.RowKit
def RAt (w:World) (b p:Nat) (r:Int×Int):Prop:=w.cell? ⟨b,p,none⟩=some (.int .i64 r.1)∧w.cell? ⟨b,p+1,none⟩=some (.int .i64 r.2)
def RRow (w:World) (ao:Option Addr) (len:Nat) (l:List (Int×Int)):Prop:=
 len=l.length∧(len=0∨∃b off,ao=some ⟨b,off,none⟩∧∀i (h:i<l.length),RAt w b (off+i*2) l[i])
theorem RAt.lt {w:World} {b p:Nat} {r:Int×Int} (h:RAt w b p r):b<w.heap.size:=yG h.1
theorem RAt.below {w w':World} {b p:Nat} {r:Int×Int} (h:RAt w b p r) (hb:Below w.heap.size w w'):RAt w' b p r:=⟨(hb.cell h.lt).trans h.1,(hb.cell h.lt).trans h.2⟩
theorem RRow.below {w w':World} {ao:Option Addr} {len:Nat} {l:List (Int×Int)} (h:RRow w ao len l) (hb:Below w.heap.size w w'):RRow w' ao len l:=by
 obtain ⟨h1,h2⟩:=h
 refine ⟨h1,?_⟩
 rcases h2 with h2 | ⟨b,off,h3,h4⟩
 ·exact .inl h2
 ·exact .inr ⟨b,off,h3,fun i h=>(h4 i h).below hb⟩
theorem RRow.at {w:World} {ao:Option Addr} {len:Nat} {l:List (Int×Int)} (h:RRow w ao len l) {i:Nat} (hi:i<len):∃b off,ao=some ⟨b,off,none⟩∧∀(h:i<l.length),RAt w b (off+i*2) l[i]:=by
 obtain ⟨h1,h2⟩:=h
 rcases h2 with h2 | ⟨b,off,h3,h4⟩
 ·omega
 ·exact ⟨b,off,h3,fun hi=>h4 i hi⟩
abbrev rcell (r:Int×Int):List Value:=[.int .i64 r.1,.int .i64 r.2]
def rcells:List (Int×Int)→List Value
 | []=>[]
 | q::t=>rcell q++rcells t
theorem rcells_app (a:List (Int×Int)) (q:Int×Int):rcells (a++[q])=rcells a++rcell q:=by
 induction a with
 | nil=>rfl
 | cons x t ih=>rw [List.cons_append,rcells,rcells,ih,List.append_assoc]
theorem rcells_at:∀(l:List (Int×Int)) (i:Nat) (h:i<l.length),(rcells l)[i*2]? = some (.int .i64 l[i].1)∧(rcells l)[i*2+1]? = some (.int .i64 l[i].2)
 | q::t,0,_=>⟨rfl,rfl⟩
 | q::t,i+1,h=>by
  have e:=rcells_at t i (by simpa using h)
  have k:∀j,(rcells (q::t))[(i+1)*2+j]? = (rcells t)[i*2+j]?:=fun j=>by
   rw [rcells,show (i+1)*2+j=(rcell q).length+(i*2+j) by simp;omega,List.getElem?_append_right (by omega)]
   congr 1
   omega
  have k0:=k 0
  simp only [Nat.add_zero] at k0
  rw [k0,k 1]
  simpa using e
def ROwn (B:Nat) (w:World) (v:Value) (l:List (Int×Int)):Prop:=w.ownsRow B 52 2 v l.length (rcells l)
theorem rown_nil (B:Nat) (w:World):ROwn B w (.slice none 0 0) []:=World.ownsRow_nil _ _ _ _
theorem rown_empty (w:World):ROwn w.heap.size (w.alloc (.cells #[] 52)) (.slice (some ⟨w.heap.size,0,none⟩) 0 0) []:=
 ⟨rfl,.inr ⟨w.heap.size,0,#[],rfl,yJ _,by show (w.heap.push _)[w.heap.size]? = _;simp,yJ _,by unfold maxLen;omega,rfl,rfl⟩⟩
theorem ROwn.base {w:World} {B B':Nat} {v:Value} {l:List (Int×Int)} (h:ROwn B w v l) (hb:B'≤B):ROwn B' w v l:=by
 obtain ⟨h1,h2⟩:=h
 refine ⟨h1,?_⟩
 rcases h2 with h2 | ⟨g,cap,cur,a,b,c⟩
 ·exact .inl h2
 ·exact .inr ⟨g,cap,cur,a,Nat.le_trans hb b,c⟩
theorem ROwn.below {w w':World} {B:Nat} {v:Value} {l:List (Int×Int)} (h:ROwn B w v l) (hb:Below w.heap.size w w'):ROwn B w' v l:=
 h.kept (grownBy_below (grownBy_refl w none) hb) (by by_cases e:v.ownBlock=none;exact .inl e;exact .inr e)
theorem ROwn.row {w:World} {B:Nat} {v:Value} {l:List (Int×Int)} (h:ROwn B w v l):∃ao cap,v=.slice ao l.length cap∧RRow w ao l.length l∧l.length≤cap:=by
 rcases h.2 with ⟨rfl,h0⟩ | ⟨g,cap,cur,rfl,h1,h2,h3,h4,h5,h6⟩
 ·exact ⟨none,0,by rw [h0],⟨rfl,.inl h0⟩,by omega⟩
 ·refine ⟨some ⟨g,0,none⟩,cap,rfl,⟨rfl,.inr ⟨g,0,rfl,fun i hi=>?_⟩⟩,h3⟩
  obtain ⟨a,b⟩:=rcells_at l i hi
  have k:∀j (v:Value),j<l.length*2→(rcells l)[j]? = some v→w.cell? ⟨g,j,none⟩=some v:=fun j v hj hv=>by
   rw [←h6,List.getElem?_take_of_lt hj] at hv
   simp [World.cell?,h2]
   simpa using hv
  unfold RAt
  rw [Nat.zero_add]
  exact ⟨k _ _ (by omega) a,k _ _ (by omega) b⟩
theorem rown_step {w wr w1:World} {B:Nat} {v v':Value} {l:List (Int×Int)} {q:Int×Int} {ob:Obj} (hb:Below B w wr) (hown:ROwn B wr v l)
  (h1:w1.ownsRow B 52 2 v' (l.length+1) (rcells l++rcell q)) (hg:(wr.alloc ob).grownBy w1 v.ownBlock) (hB:B≤wr.heap.size) :
  ROwn B w1 v' (l++[q])∧Below B w w1:=by
 refine ⟨?_,(hb.alloc hB ob).grown hg (by simp;omega) ?_⟩
 ·unfold ROwn
  rw [rcells_app,List.length_append]
  exact h1
 ·intro k hk
  rcases hown.2 with ⟨rfl,_⟩ | ⟨g,cap,cur,rfl,hg',_⟩
  ·simp [Value.ownBlock] at hk
  ·simp [Value.ownBlock] at hk;omega
theorem Tryz.infoR:(Tryz.prog.info? 52).map (fun i=>(i.zero,i.size,i.bytes))=some (some (.agg #[.int .i64 0,.int .i64 0]),2,16):=by kernel_rfl
def sumFrom:List (Int×Int)→Int→Int→Int×Int×Bool
 | [],x,y=>(x,y,true)
 | r::t,x,y=>if bothOk 1 x y r.1 r.2=true then sumFrom t (x+1*r.1) (y+1*r.2) else (0,0,false)
def sumR (l:List (Int×Int)):Int×Int×Bool:=sumFrom l 0 0
theorem sumFrom_step {l:List (Int×Int)} {k:Nat} (h:k<l.length) (x y:Int):sumFrom (l.drop k) x y=if bothOk 1 x y l[k].1 l[k].2=true then sumFrom (l.drop (k+1)) (x+1*l[k].1) (y+1*l[k].2) else (0,0,false):=by
 rw [List.drop_eq_getElem_cons h,sumFrom]
theorem sumFrom_end {l:List (Int×Int)} {k:Nat} (h:l.length≤k) (x y:Int):sumFrom (l.drop k) x y=(x,y,true):=by
 rw [List.drop_of_length_le h];rfl
def capsOf (l:List Mac):List (Int×Int):=l.map (fun m=>(m.mem,m.cpu))
theorem capsOf_step {l:List Mac} {k:Nat} (h:k<l.length):capsOf (l.take (k+1))=capsOf (l.take k)++[(l[k].mem,l[k].cpu)]:=by
 rw [List.take_succ_eq_append_getElem h,capsOf,List.map_append];rfl
def usedL (p:Con→Bool) (l:List Con):List (Int×Int):=(l.filter p).map (fun c=>(c.mem,c.cpu))
theorem usedL_step {p:Con→Bool} {l:List Con} {k:Nat} (h:k<l.length):usedL p (l.take (k+1))=if p l[k]=true then usedL p (l.take k)++[(l[k].mem,l[k].cpu)] else usedL p (l.take k):=by
 rw [List.take_succ_eq_append_getElem h]
 simp only [usedL,List.filter_append,List.map_append]
 by_cases hp:p l[k]=true<;>simp [hp]
def capW (w:World) (c:Array Value):World:=(w.alloc (.cells c 36)).alloc (.cells #[.int .i64 0,.int .i64 0] 52)
theorem capW_size (w:World) (c:Array Value):(capW w c).heap.size=w.heap.size+1+1:=by simp only [capW,yE]
theorem capW_below (w:World) (c:Array Value):Below w.heap.size w (capW w c):=yA (yA (yH _ w) _) _
theorem capW_var (w:World) (c:Array Value):Var (capW w c) 52 (w.heap.size+1) 0 0:=by
 have:=var_new (w.alloc (.cells c 36)) 52 0 0
 rwa [yE] at this
abbrev macobj (m:Mac):Obj:=.cells #[.string (bs m.name),.int .i64 m.mem,.int .i64 m.cpu,.int .i64 m.seen] 113
def boxW (w:World) (c:Array Value):World:=w.alloc (.cells c 36)
theorem boxW_size (w:World) (c:Array Value):(boxW w c).heap.size=w.heap.size+1:=by simp only [boxW,yE]
theorem boxW_below (w:World) (c:Array Value):Below w.heap.size w (boxW w c):=yA (yH _ w) _
theorem boxW_blk (w:World) (c:Array Value):Blk (boxW w c) w.heap.size c 36:=yD w c _
theorem together_any (ao:Option Addr) (len cap:Nat) (l:List (Int×Int)) (w:World) (h:RRow w ao len l) (hl:len≤1048576) :
  Calls Tryz.prog 161 #[.slice ao len cap] w fun e w'=>e=.returned (.tuple #[rv (sumR l).1 (sumR l).2.1,.bool (sumR l).2.2])∧Below w.heap.size w w':=by
 have HR:=hide h
 have HL:=hide h.1
 obtain ⟨⟨sx,sy,so⟩,hs⟩:∃s,sumR l=s:=⟨_,rfl⟩
 have HS:=hide (show sumFrom l 0 0=(sx,sy,so) from hs)
 rw [hs]
 clear h hs
 go_enter Tryz.func161,Tryz.ntmps161
 go_wp2
 go_loopw [12] (fun i wr=>∃(k:Nat) (x y:Int),k≤len∧i=.int .i64 k∧Hid (sumFrom (l.drop k) x y=(sx,sy,so))∧Hid (Var wr 52 w.heap.size 0 0)∧Hid (Var wr 52 (w.heap.size+1) x y)∧Hid (Below w.heap.size w wr)) (fun i _=>len - (intOf i).toNat)
 case atStart=>exact ⟨0,0,0,Nat.zero_le _,rfl,hide (by simpa using uH HS),hide ((var_new w _ _ _).al _),hide (var_new2 w _ _ 0 0 0 0),hide (yA (yA (yH _ _) _) _)⟩
 case round=>
  obtain ⟨k,x,y,hk,rfl,HQ,HV0,HV1,HB⟩:=hrel
  by_cases hlt:k<len
  ·obtain ⟨b,off,rfl,hq⟩:=((uH HR).below (uH HB)).at hlt
   have hkl:k<l.length:=by have:=uH HL;omega
   have hst:=sumFrom_step hkl x y
   obtain ⟨c0,c1⟩:=hq hkl
   obtain ⟨⟨a,d⟩,hs⟩:∃q,l[k]=q:=⟨_,rfl⟩
   rw [hs] at c0 c1 hst
   simp only at c0 c1 hst
   have HST:=hide hst
   have s0:=(uH HV1).c0
   have s1:=(uH HV1).c1
   have hsz:=(uH HV1).lt
   have hl2:=World.cell?_alloc_lt wr (.cells #[.int .i64 a,.int .i64 d] 52) ⟨w.heap.size+1,0,none⟩ hsz
   have hl3:=World.cell?_alloc_lt wr (.cells #[.int .i64 a,.int .i64 d] 52) ⟨w.heap.size+1,1,none⟩ hsz
   rw [s0] at hl2
   rw [s1] at hl3
   clear hq hs hkl hst
   have CA:=hide (fun wx=>implAdd_any x y a d wx)
   have HA:=hide (yA (yH _ wr) (.cells #[.int .i64 a,.int .i64 d] 52))
   cases ho:bothOk 1 x y a d with
   | true=>
    rw [both_yes ho,ho] at CA
    rw [if_pos ho] at HST
    clear ho
    go_wp2_with fail
    refine (uH CA _).mono ?_
    rintro e w1 ⟨rfl,hb⟩
    have W0:=hide (((uH HV0).below (uH HA)).below hb)
    have W1:=hide (((uH HV1).below (uH HA)).below hb)
    have HB1:=hide (yB (yB (uH HB) (uH HA)) hb)
    have hsz1:=(uH W1).lt
    have t0:=(uH W1).c0
    have t1:=(uH W1).c1
    have f0:=(uH W1).f 0
    have f1:=(uH W1).f 1
    have g0:=World.cell?_alloc_lt w1 (.cells #[.int .i64 (x+1*a),.int .i64 (y+1*d)] 52) ⟨w.heap.size+1,0,none⟩ hsz1
    have g1:=World.cell?_alloc_lt w1 (.cells #[.int .i64 (x+1*a),.int .i64 (y+1*d)] 52) ⟨w.heap.size+1,1,none⟩ hsz1
    rw [t0] at g0
    rw [t1] at g1
    clear hb CA HA c0 c1 s0 s1 hl2 hl3 HV0 HV1 HB
    obtain ⟨x',hx'⟩:∃x',x+1*a=x':=⟨_,rfl⟩
    obtain ⟨y',hy'⟩:∃y',y+1*d=y':=⟨_,rfl⟩
    rw [hx',hy'] at HST g0 g1
    rw [hx',hy']
    clear hx' hy'
    have h2:=(uH W1).al (.cells #[.int .i64 x',.int .i64 y'] 52)
    have ff0:=h2.f 0
    have ff1:=h2.f 1
    have W2:=hide h2
    clear h2
    go_wp2
    go_roundw
    case rel=>exact ⟨k+1,x',y',by omega,by go_num,hide (by rw [←uH HST];exact uH HQ),hide ((((uH W0).other _ _ _ (show w.heap.size≠w.heap.size+1 by omega)).other _ _ _ (show w.heap.size≠w.heap.size+1 by omega)).al _),hide (((uH W1).set _ _).al _),hide (yA (yC (yC (uH HB1) _ _ _ (show w.heap.size≤w.heap.size+1 by omega)) _ _ _ (show w.heap.size≤w.heap.size+1 by omega)) _)⟩
    case measure=>simp [intOf];omega
   | false=>
    rw [both_no ho,ho] at CA
    rw [if_neg (by rw [ho];simp)] at HST
    have hres:=(uH HST).symm.trans (uH HQ)
    simp only [Prod.mk.injEq] at hres
    obtain ⟨rfl,rfl,rfl⟩:=hres
    clear ho HST HS
    go_wp2_with fail
    refine (uH CA _).mono ?_
    rintro e w1 ⟨rfl,hb⟩
    have W0:=hide ((((uH HV0).below (uH HA)).below hb).al (.cells #[.int .i64 0,.int .i64 0] 52))
    have HB1:=hide (yA (yB (yB (uH HB) (uH HA)) hb) (.cells #[.int .i64 0,.int .i64 0] 52))
    clear hb CA HA c0 c1 s0 s1 hl2 hl3 HV0 HV1 HB
    have t0:=(uH W0).c0
    have t1:=(uH W0).c1
    have f0:=(uH W0).f 0
    have f1:=(uH W0).f 1
    have k4:=(uH W0).s0 (.int .i64 0)
    have k5:=(uH W0).s1 (.int .i64 0) (.int .i64 0)
    go_wp2
    refine bodyPost_ret (v:=.tuple #[rv 0 0,.bool false]) (by simp [results,Tryz.results161,go_sem,k4,k5]) rfl ⟨rfl,?_⟩
    repeat (first | exact uH HB1 | refine yC ?_ _ _ _ (by omega))
  ·have hres:(x,y,true)=(sx,sy,so):=by rw [←uH HQ,sumFrom_end (by have:=uH HL;omega)]
   simp only [Prod.mk.injEq] at hres
   obtain ⟨rfl,rfl,rfl⟩:=hres
   have s0:=(uH HV1).c0
   have s1:=(uH HV1).c1
   have t0:=(uH HV0).c0
   have t1:=(uH HV0).c1
   have f0:=(uH HV0).f 0
   have f1:=(uH HV0).f 1
   have k4:=(uH HV0).s0 (.int .i64 x)
   have k5:=(uH HV0).s1 (.int .i64 x) (.int .i64 y)
   go_wp2
   refine bodyPost_ret (v:=.tuple #[rv x y,.bool true]) (by simp [results,Tryz.results161,go_sem,k4,k5]) rfl ⟨rfl,?_⟩
   repeat (first | exact uH HB | refine yC ?_ _ _ _ (by omega))
theorem caps_any (x:Sls) (s:St) (w:World) (h:MacRow w x.ma x.ml s.ms) (hl:x.ml≤1048576) :
  Calls Tryz.prog 120 #[sv x s] w fun e w'=>e=.returned (.tuple #[rv (sumR (capsOf s.ms)).1 (sumR (capsOf s.ms)).2.1,.bool (sumR (capsOf s.ms)).2.2])∧Below w.heap.size w w':=by
 obtain ⟨i0,hi,hz0,hz1,hz2⟩:=info_parts Tryz.infoR
 obtain ⟨qa,ql,qc,aa,al,ac,ma,ml,mc,ca,cl,cc⟩:=x
 obtain ⟨qs,clock,epoch,next,serial,apps,ms,cs⟩:=s
 simp only at h hl ⊢
 have HR:=hide h
 have HL:=hide h.1
 obtain ⟨c,hc⟩:∃c:Array Value,#[.slice qa ql qc,.int .i64 clock,.int .i64 epoch,.int .i64 next,.int .i64 serial,.slice aa al ac,.slice ma ml mc,.slice ca cl cc]=c:=⟨_,rfl⟩
 have HC:=hide hc
 have HB0:=hide (capW_below w c)
 have V0:=hide (capW_var w c)
 have hW:=capW_size w c
 have HW:=hide hW
 clear h hc hW
 obtain ⟨⟨sx,sy,so⟩,hs⟩:∃s,sumR (capsOf ms)=s:=⟨_,rfl⟩
 have HS:=hide hs
 rw [hs]
 clear hs
 go_enter Tryz.func120,Tryz.ntmps120
 go_wp2
 go_loopw [4,10] (fun v i wr=>∃(k:Nat),k≤ml∧i=.int .i64 k∧Hid (ROwn (capW w c).heap.size wr v (capsOf (ms.take k)))∧Hid (Below (capW w c).heap.size (capW w c) wr)) (fun _ i _=>ml - (intOf i).toNat)
 case atStart=>
  obtain rfl:=uH HC
  exact ⟨0,Nat.zero_le _,rfl,hide (by simpa [capsOf] using rown_nil _ _),hide (yH _ _)⟩
 case round=>
  obtain ⟨k,hk,rfl,HO,HB⟩:=hrel
  by_cases hlt:k<ml
  ·obtain ⟨b,off,rfl,hq⟩:=(((uH HR).below (uH HB0)).below (uH HB)).at hlt
   have hkl:k<ms.length:=by have:=uH HL;omega
   have hst:=hide (capsOf_step hkl)
   obtain ⟨c0,c1,c2,c3⟩:=hq hkl
   obtain ⟨m,hs⟩:∃q,ms[k]=q:=⟨_,rfl⟩
   rw [hs] at c0 c1 c2 c3 hst
   have hal:(capsOf (ms.take k)).length≤1048576:=by simp [capsOf];omega
   obtain ⟨acc,hacc⟩:∃a,capsOf (ms.take k)=a:=⟨_,rfl⟩
   rw [hacc] at hst hal HO
   obtain ⟨nm,me,cp,se⟩:=m
   simp only at c0 c1 c2 c3 hst
   have HB2:=hide (yA (uH HB) (macobj ⟨nm,me,cp,se⟩))
   have HO2:=hide ((uH HO).below (yA (yH _ wr) (macobj ⟨nm,me,cp,se⟩)))
   have hs2:(capW w c).heap.size≤(wr.alloc (macobj ⟨nm,me,cp,se⟩)).heap.size:=(uH HB2).size
   have hown:(wr.alloc (macobj ⟨nm,me,cp,se⟩)).ownsRow (capW w c).heap.size 52 2 _ acc.length (rcells acc):=uH HO2
   clear hq hs hkl hacc HO HB
   go_wp2_with (at_builtin;refine wpList_append_own _ rfl _ _ 142 rfl (capW w c).heap.size 52 i0 (.agg #[.int .i64 0,.int .i64 0]) 2 16 Tryz.underlying142 hi hz0 hz1 hz2 rfl (by decide) _ _ _ rfl (hown.alloc _) ⟨wr.heap.size+1,0,none⟩ 1 1 (rcell (me,cp)) rfl rfl ?c1 ?c2 ?c3 ?c4 ?c5 ?_)
   case c1=>
    intro j x hj
    match j,hj with
    | 0,hj=>simp at hj;subst hj;simp [Addr.add]
    | 1,hj=>simp at hj;subst hj;simp [Addr.add]
    | _+2,hj=>simp at hj
   case c2=>intro x hx;simp at hx;rcases hx with rfl | rfl<;>rfl
   case c3=>unfold maxLen;omega
   case c4=>omega
   case c5=>simp at hs2 ⊢;omega
   intro v' w3 hown' hgrow _
   have R:=rown_step (q:=(me,cp)) (uH HB2) (uH HO2) hown' hgrow hs2
   have HR3:=hide R
   clear hown' hgrow hown c0 c1 c2 c3 R
   go_wp2
   go_roundw
   case rel=>exact ⟨k+1,by omega,by go_num,hide (by rw [uH hst];exact (uH HR3).1),hide (uH HR3).2⟩
   case measure=>simp [intOf];omega
  ·have htk:ms.take k=ms:=List.take_of_length_le (by have:=uH HL;omega)
   rw [htk] at HO
   obtain ⟨ao,cp,rfl,hrow,hcp⟩:=(uH HO).row
   have hlc:(capsOf ms).length≤1048576:=by have:=uH HL;simp [capsOf];omega
   have CT:=hide (together_any ao _ cp (capsOf ms) wr hrow hlc)
   rw [uH HS] at CT
   obtain ⟨n,hn⟩:∃n,(capsOf ms).length=n:=⟨_,rfl⟩
   rw [hn] at CT ⊢
   clear hrow hn htk hcp hlc HO
   go_wp2_with fail
   refine (uH CT).mono ?_
   rintro e w1 ⟨rfl,hb⟩
   have hsz:w.heap.size+1<(capW w c).heap.size:=by have:=uH HW;omega
   have V1:Var w1 52 (w.heap.size+1) 0 0:=Var.below ((uH HB).block _ hsz |>.trans (uH V0)) hb
   have HB1:=hide (yB (yB (uH HB0) (uH HB)) hb)
   have t0:=V1.c0
   have t1:=V1.c1
   have f0:=V1.f 0
   have f1:=V1.f 1
   have k4:=V1.s0 (.int .i64 sx)
   have k5:=V1.s1 (.int .i64 sx) (.int .i64 sy)
   clear hb V1 CT HB HB0
   go_wp2
   refine bodyPost_ret (v:=.tuple #[rv sx sy,.bool so]) (by simp [results,Tryz.results120,go_sem,k4,k5]) rfl ⟨rfl,?_⟩
   repeat (first | exact uH HB1 | refine yC ?_ _ _ _ (by omega))
def VB (w1 w:World) (g:Nat) (x y:Int):Prop:=w1.heap.size≤g∧Var w 52 g x y
theorem VB.below {w1 w w':World} {g:Nat} {x y:Int} (h:VB w1 w g x y) (hb:Below w.heap.size w w'):VB w1 w' g x y:=⟨h.1,h.2.below hb⟩
theorem VB.al {w1 w:World} {g:Nat} {x y:Int} (h:VB w1 w g x y) (o:Obj):VB w1 (w.alloc o) g x y:=⟨h.1,h.2.al o⟩
theorem VB.ne {w1 w:World} {g:Nat} {x y:Int} (h:VB w1 w g x y):g≠w.heap.size:=Nat.ne_of_lt h.2.lt
theorem vb_new {w1 w:World} (h:Below w1.heap.size w1 w):VB w1 (w.alloc (.cells #[.int .i64 0,.int .i64 0] 52)) w.heap.size 0 0:=⟨h.size,var_new w _ 0 0⟩
theorem VB.set {w1 w:World} {g:Nat} {a b:Int} (h:VB w1 w g a b) (x y:Int):VB w1 ((w.setCell ⟨g,0,none⟩ (.int .i64 x)).setCell ⟨g,1,none⟩ (.int .i64 y)) g x y:=⟨h.1,h.2.set x y⟩
theorem VB.off {w1 w:World} {g k:Nat} {a b:Int} (h:VB w1 w g a b) (hn:g≠k) {u v:Value}:VB w1 ((w.setCell ⟨k,0,none⟩ u).setCell ⟨k,1,none⟩ v) g a b:=⟨h.1,(h.2.other k 0 u hn).other k 1 v hn⟩
theorem VB.kp {w1 w:World} {g:Nat} {a b:Int} (h:VB w1 w g a b) (hk:Below w1.heap.size w1 w) {u v:Value}:Below w1.heap.size w1 ((w.setCell ⟨g,0,none⟩ u).setCell ⟨g,1,none⟩ v):=yC (yC hk _ _ _ h.1) _ _ _ h.1
end
section
open Go.RowKit Go.Maps
theorem HSt.pushed {K:List P4} {F:List Fr3} {w0 w:World} {bm bk g:Nat} {l:List SE} {v:Value} {z:SE} (h:HSt K F w0 bm bk g w l) (hF:∀f ∈ F,f.2.2≠183) (hz:z.2 ∈ K) {v':Value} {w1 w2:World} (hb:Below w.heap.size w w1) (hown:w1.ownsRow (g+1) 183 5 v l.length (stcs l))
  (ho:w2.ownsRow (g+1) 183 5 v' (l.length+1) (stcs l++stc z)) (hg:w1.grownBy w2 v.ownBlock):HSt K F w0 bm bk g (w2.setCell ⟨g,0,none⟩ v') (l++[z]):=by
 have hlow:∀k,k≤g→k<w1.heap.size→w2.heap[k]? = w1.heap[k]?:=fun k hk hlt=>hg.block k hlt (fun e=>by
  have:=(hown.lt k e.symm).1
  omega)
 obtain ⟨⟨v0,b1,_,_⟩,h3,h4,h5,h6,h7,h8⟩:=h
 have hFv:∀f ∈ F,∀k,v.ownBlock=some k→f.1≠k:=fun f hf k hk e=>by
  rcases hown.2 with ⟨e2,_⟩ | ⟨b2,_,cur,e2,_,hc,_⟩
  ·rw [e2] at hk;simp [Value.ownBlock] at hk
  ·rw [e2] at hk
   simp [Value.ownBlock] at hk
   have:=(h8 f hf).1.below hb
   unfold Blk at this
   rw [e,←hk,hc] at this
   simp at this
   exact hF f hf this.2.symm
 have fr2:∀f ∈ F,Blk w2 f.1 f.2.1 f.2.2:=fun f hf=>(hg.block f.1 ((h8 f hf).1.below hb).lt (fun e=>hFv f hf f.1 e.symm rfl)).trans ((h8 f hf).1.below hb)
 have b2:Blk w1 g _ _:=b1.below hb
 have b3:Blk w2 g _ _:=(hlow g (yJ _) b2.lt).trans b2
 have c3:Blk w2 bk _ _:=(hlow bk (by omega) (h3.below hb).lt).trans (h3.below hb)
 have k2:HoldsK K bm w2:=(h4.below hb).grown hg (fun e=>by have:=(hown.lt bm e.symm).1;omega)
 have hFn:∀f ∈ F,some f.1≠v'.ownBlock:=fun f hf e=>by
  rcases ho.2 with ⟨e2,_⟩ | ⟨b2,_,cur,e2,_,hc,_⟩
  ·rw [e2] at e;simp [Value.ownBlock] at e
  ·rw [e2] at e
   simp [Value.ownBlock] at e
   have:=fr2 f hf
   unfold Blk at this
   rw [e,hc] at this
   simp at this
   exact hF f hf this.2.symm
 have hlen:(l++[z]).length=l.length+1:=by simp
 refine ⟨⟨v',?_,?_,hFn⟩,c3.other g 0 v' (by omega),k2.grown (grownBy_set (grownBy_refl w2 (some g)) 0 v') (by simp;omega),h5,?_,?_,fun f hf=>⟨(fr2 f hf).other g 0 v' (h8 f hf).2.2,(h8 f hf).2⟩⟩
 ·have:=b3.set 0 v'
  simpa using this
 ·rw [hlen,stcs_app]
  have e:stcs [z]=stc z:=by simp [stcs]
  rw [e]
  exact ho.kept (grownBy_set (grownBy_refl w2 (some g)) 0 v') (.inr (fun e=>by have:=(ho.lt g e).1;omega))
 ·intro x hx
  rcases List.mem_append.1 hx with hx | hx
  ·exact h6 x hx
  ·simp at hx;subst hx;exact hz
 ·have h8:Below w0.heap.size w0 w1:=yB h7 hb
  have h9:Below w0.heap.size w0 w2:=h8.grown hg h8.size (fun k e=>by have:=(hown.lt k e).1;omega)
  exact yC h9 _ _ _ (by omega)
theorem assertS (x:SE) (xt:TypeId) (wx:World):(Instr.typeAssert (.iface 183 (stv x)) xt 183 false).run Tryz.prog wx=.ok (stv x) wx:=by
 simp [Instr.typeAssert,go_sem]
theorem Tryz.infoStd:(Tryz.prog.info? 183).map (fun i=>(i.zero,i.size,i.bytes))=some (some (.agg #[.string ByteArray.empty,.int .i64 0,.int .i64 0,.int .i64 0,.int .i64 0]),5,48):=by kernel_rfl
theorem stPush_any (K:List P4) (F:List Fr3) (w0:World) (bm bk g:Nat) (w:World) (l:List SE) (z:SE) (h:HSt K F w0 bm bk g w l) (hF:∀f ∈ F,f.2.2≠183) (hz:z.2 ∈ K) (hl:l.length<1000000) :
  Calls Tryz.prog 231 #[.pointer (some ⟨g,0,none⟩),.iface 183 (stv z)] w fun e w'=>e=.returned (.tuple #[])∧HSt K F w0 bm bk g w' (l++[z]):=by
 obtain ⟨i0,hi,hz0,hz1,hz2⟩:=info_parts Tryz.infoStd
 obtain ⟨v,b1,hown,_⟩:=h.1
 have hb1:=(yA (yH _ w) (.cells #[.string (bs z.1),.int .i64 z.2.1,.int .i64 z.2.2.1,.int .i64 z.2.2.2.1,.int .i64 z.2.2.2.2] 183)).drew
 obtain ⟨W,hW⟩:∃W,(w.alloc (.cells #[.string (bs z.1),.int .i64 z.2.1,.int .i64 z.2.2.1,.int .i64 z.2.2.2.1,.int .i64 z.2.2.2.2] 183)).drew=W:=⟨_,rfl⟩
 rw [hW] at hb1
 have hbk:Blk W w.heap.size #[.string (bs z.1),.int .i64 z.2.1,.int .i64 z.2.2.1,.int .i64 z.2.2.2.1,.int .i64 z.2.2.2.2] 183:=by rw [←hW];exact yD _ _ _
 have hownW:W.ownsRow (g+1) 183 5 v l.length (stcs l):=hown.kept (grownBy_below (grownBy_refl w none) hb1) (by by_cases e:v.ownBlock=none;exact .inl e;exact .inr e)
 have hnews:∀j u,(stc z)[j]? = some u→W.cell? (Addr.add ⟨w.heap.size,0,none⟩ j)=some u:=fun j u hu=>by
  rw [Lib.add_plain,Nat.zero_add,hbk.at j]
  simp only [stc] at hu
  simpa using hu
 obtain ⟨v',w2,hrun,hown',hgrow,_⟩:=run_append_own (P:=Tryz.prog) W (g+1) 178 178 183 i0 (.agg #[.string ByteArray.empty,.int .i64 0,.int .i64 0,.int .i64 0,.int .i64 0]) 5 48 Tryz.underlying178 hi hz0 hz1 hz2 rfl (by decide) v l.length (stcs l) hownW ⟨w.heap.size,0,none⟩ 1 1 (stc z) (by simp [stc]) hnews (fun u hu=>by simp [stc] at hu;rcases hu with rfl | rfl | rfl | rfl | rfl<;>rfl) (by unfold maxLen;omega) (by omega) (by have:=b1.lt;have:=hb1.size;omega)
 obtain ⟨b9,cap9,rfl⟩:∃b9 cap9,v'=.slice (some ⟨b9,0,none⟩) (l.length+1) cap9:=by
  rcases hown'.2 with ⟨_,e⟩ | ⟨b9,cap9,_,e,_⟩
  ·omega
  ·exact ⟨b9,cap9,e⟩
 have HH:=hide (h.pushed hF hz hb1 hownW hown' hgrow)
 have hlow:w2.heap[g]? = W.heap[g]?:=hgrow.block g (b1.below hb1).lt (fun e=>by have:=(hownW.lt g e.symm).1;omega)
 have b3:Blk w2 g _ _:=hlow.trans (b1.below hb1)
 have c0:=b1.at 0
 simp at c0
 have c1:=(b1.al (.cells #[.string (bs z.1),.int .i64 z.2.1,.int .i64 z.2.2.1,.int .i64 z.2.2.2.1,.int .i64 z.2.2.2.2] 183)).at 0
 simp at c1
 have c2:=b3.at 0
 simp at c2
 have f2:=b3.f 0
 have HV:=hide hown.2
 have hwg:¬w.heap.size=g:=by have:=b1.lt;omega
 have hgw:¬g=w.heap.size:=by omega
 rw [←hW] at hrun
 clear hown hownW hown' hgrow hnews hbk hb1 hW hlow b3 h b1
 obtain ⟨n1,p1,p2,p3,p4⟩:=z
 simp only at hrun c1
 have hta:=assertS (n1,p1,p2,p3,p4)
 rcases uH HV with ⟨rfl,hl0⟩ | ⟨b,cap,cur,rfl,_,_,hcap,_⟩
 all_goals
  clear HV
  simp [go_sem] at hrun
  go_enter Tryz.func231,Tryz.ntmps231
  go_wp2_with fail
  go_region
  all_goals
   go_wp2
   go_end0
   first
   | exact ⟨rfl,uH HH⟩
   | (have hx:=uH HH;rw [hl0] at hx;exact ⟨rfl,hx⟩)
theorem HSt.popped {K:List P4} {F:List Fr3} {w0 w:World} {bm bk g b cap:Nat} {l:List SE} (h:HSt K F w0 bm bk g w l) (hb:Blk w g #[.slice (some ⟨b,0,none⟩) l.length cap,cloV bk] 180) {n:Nat} (hn:n≤l.length) :
  HSt K F w0 bm bk g (w.setCell ⟨g,0,none⟩ (.slice (some ⟨b,0,none⟩) n cap)) (l.take n):=by
 obtain ⟨_,hown,hFx⟩:=h.obj hb
 obtain ⟨_,h3,h4,h5,h6,h7,h8⟩:=h
 have hlen:(l.take n).length=n:=by simp;omega
 refine ⟨⟨.slice (some ⟨b,0,none⟩) n cap,?_,?_,hFx⟩,h3.other g 0 _ (by omega),h4.grown (grownBy_set (grownBy_refl w (some g)) 0 _) (by simp;omega),h5,fun x hx=>h6 x (List.mem_of_mem_take hx),yC h7 _ _ _ (by omega),fun f hf=>⟨(h8 f hf).1.other g 0 _ (h8 f hf).2.2,(h8 f hf).2⟩⟩
 ·have:=hb.set 0 (.slice (some ⟨b,0,none⟩) n cap)
  simpa using this
 ·rw [hlen,stcs_take]
  obtain ⟨o1,o2⟩:=hown
  refine ⟨by rw [List.length_take,stcs_len];omega,?_⟩
  rcases o2 with ⟨e,_⟩ | ⟨g',cap',cur,e,hb',hc,k1,k2,k3,k4⟩
  ·cases e
  ·cases e
   refine .inr ⟨b,cap,cur,rfl,hb',?_,by omega,k2,k3,?_⟩
   ·rw [heap_setCell_other _ ⟨g,0,none⟩ b _ (by simp;omega)];exact hc
   ·rw [←k4,List.take_take,Nat.min_eq_left (by omega)]
theorem cutSt (g n cap k:Nat) (hk:k≤cap) (wx:World):(Instr.slice 178 (.slice (some ⟨g,0,none⟩) n cap) none (some (.int .i64 (k:Int))) none).run Tryz.prog wx=.ok (.slice (some ⟨g,0,none⟩) k cap) wx:=by
 rw [run_slice_h (P:=Tryz.prog) (w:=wx) 178 (some ⟨g,0,none⟩) n cap Tryz.underlying178 .i64 (k:Int) (by omega) (by omega)]
 rw [show (sizeOf (Tryz.prog.elem 178)).run Tryz.prog wx=.ok 5 wx from by kernel_rfl]
 simp [Result.andThen,sliced,Addr.add]
theorem stPop_any (K:List P4) (F:List Fr3) (w0:World) (bm bk g:Nat) (w:World) (l:List SE) (h:HSt K F w0 bm bk g w l) (h0:0<l.length) (hl:l.length≤1000000) :
  Calls Tryz.prog 230 #[.pointer (some ⟨g,0,none⟩)] w fun e w'=>e=.returned (.iface 183 (stv (HeapM.at' seD l (l.length - 1))))∧HSt K F w0 bm bk g w' (l.take (l.length - 1)):=by
 obtain ⟨v,b1,hown,_⟩:=h.1
 obtain ⟨b,cap,rfl,hbb,hcap⟩:=own_open (n:=0) hown h0
 obtain ⟨m,hm⟩:∃m,l.length - 1=m:=⟨_,rfl⟩
 have hml:m<l.length:=by omega
 obtain ⟨a0,a1,a2,a3,a4⟩:=own_elt hown hml
 rw [hm]
 obtain ⟨⟨n1,p1,p2,p3,p4⟩,hs1⟩:∃s,HeapM.at' seD l m=s:=⟨_,rfl⟩
 rw [hs1] at a0 a1 a2 a3 a4 ⊢
 simp only at a0 a1 a2 a3 a4
 have hlm:(l.length:Int) - 1=(m:Int):=by omega
 have hwr:IntKind.i64.wrap ((l.length:Int) - 1)=(m:Int):=by rw [IntKind.wrap_i64];omega
 have hcut:=cutSt b l.length cap m (by omega)
 have hb1:=yA (yH _ w) (.cells #[.string (bs n1),.int .i64 p1,.int .i64 p2,.int .i64 p3,.int .i64 p4] 183)
 have HH:=hide ((h.below hb1).popped (b1.below hb1) (n:=m) (by omega))
 have c0:=b1.at 0
 simp at c0
 have c1:=(b1.below hb1).at 0
 simp at c1
 have f1:=(b1.below hb1).f 0
 have hne:¬w.heap.size=g:=by have:=b1.lt;omega
 have hne2:¬g=w.heap.size:=by omega
 have hmi:(m:Int)<(l.length:Int):=by omega
 clear h b1 hown hs1 hb1 hm
 go_enter Tryz.func230,Tryz.ntmps230
 go_wp2
 go_ret
 exact ⟨rfl,uH HH⟩
end
section
open Go.RowKit
abbrev conobj (m:Con):Obj:=.cells #[.int .i64 m.id,.int .i64 m.app,.string (bs m.node),.int .i64 m.mem,.int .i64 m.cpu] 58
theorem used_len {p:Con→Bool} (l:List Con):(usedL p l).length≤l.length:=by simp [usedL];exact List.length_filter_le _ _
def Held (w0:World) (n:Nat) (L:List (Nat×Array Value×TypeId)) (wx:World):Prop:=
 (∀p ∈ L,p.1<n∧Blk wx p.1 p.2.1 p.2.2)∧n≤wx.heap.size∧w0.heap.size≤n∧Below w0.heap.size w0 wx
theorem Held.blk {w0:World} {n:Nat} {L:List (Nat×Array Value×TypeId)} {wx:World} (h:Held w0 n L wx) {p:Nat×Array Value×TypeId} (hp:p ∈ L):Blk wx p.1 p.2.1 p.2.2:=(h.1 p hp).2
theorem Var.blk {w:World} {t:TypeId} {g:Nat} {x y:Int} (h:Var w t g x y):Blk w g #[.int .i64 x,.int .i64 y] t:=h
abbrev ccell (q:Con):List Value:=[.int .i64 q.id,.int .i64 q.app,.string (bs q.node),.int .i64 q.mem,.int .i64 q.cpu]
def ccells:List Con→List Value
 | []=>[]
 | q::t=>ccell q++ccells t
theorem ccells_app (a:List Con) (q:Con):ccells (a++[q])=ccells a++ccell q:=by
 induction a with
 | nil=>rfl
 | cons x t ih=>rw [List.cons_append,ccells,ccells,ih,List.append_assoc]
theorem ccells_len:∀l:List Con,(ccells l).length=l.length*5
 | []=>rfl
 | q::t=>by rw [ccells,List.length_append,ccells_len t];simp;omega
theorem ccells_at:∀(l:List Con) (i:Nat) (h:i<l.length),(ccells l)[i*5]? = some (.int .i64 l[i].id)∧(ccells l)[i*5+1]? = some (.int .i64 l[i].app)∧(ccells l)[i*5+2]? = some (.string (bs l[i].node))∧(ccells l)[i*5+3]? = some (.int .i64 l[i].mem)∧(ccells l)[i*5+4]? = some (.int .i64 l[i].cpu)
 | q::t,0,_=>⟨rfl,rfl,rfl,rfl,rfl⟩
 | q::t,i+1,h=>by
  have e:=ccells_at t i (by simpa using h)
  have k:∀j,(ccells (q::t))[(i+1)*5+j]? = (ccells t)[i*5+j]?:=fun j=>by
   rw [ccells,show (i+1)*5+j=(ccell q).length+(i*5+j) by simp;omega,List.getElem?_append_right (by omega)]
   congr 1
   omega
  have k0:=k 0
  simp only [Nat.add_zero] at k0
  rw [k0,k 1,k 2,k 3,k 4]
  simpa using e
theorem ccells_row {w:World} {b off len:Nat} {l:List Con} (h:ConRow w (some ⟨b,off,none⟩) len l):∀j u,(ccells l)[j]? = some u→w.cell? ⟨b,off+j,none⟩=some u:=fun j u hj=>by
 have hjl:j<l.length*5:=by rw [←ccells_len];exact (List.getElem?_eq_some_iff.1 hj).1
 obtain ⟨h1,h2⟩:=h
 rcases h2 with h2 | ⟨b',off',e,h4⟩
 ·omega
 ·cases e
  have hi:j / 5<l.length:=by omega
  obtain ⟨a0,a1,a2,a3,a4⟩:=ccells_at l (j / 5) hi
  obtain ⟨c0,c1,c2,c3,c4⟩:=h4 (j / 5) hi
  rcases (show j % 5=0∨j % 5=1∨j % 5=2∨j % 5=3∨j % 5=4 by omega) with e | e | e | e | e
  ·rw [show j=j / 5*5 by omega] at hj ⊢;rw [a0] at hj;cases hj;exact c0
  ·rw [show j=j / 5*5+1 by omega] at hj ⊢;rw [a1] at hj;cases hj;rw [←Nat.add_assoc];exact c1
  ·rw [show j=j / 5*5+2 by omega] at hj ⊢;rw [a2] at hj;cases hj;rw [←Nat.add_assoc];exact c2
  ·rw [show j=j / 5*5+3 by omega] at hj ⊢;rw [a3] at hj;cases hj;rw [←Nat.add_assoc];exact c3
  ·rw [show j=j / 5*5+4 by omega] at hj ⊢;rw [a4] at hj;cases hj;rw [←Nat.add_assoc];exact c4
theorem ccells_one:∀(l:List Con),∀u ∈ ccells l,u.oneCell'=true
 | [],u,h=>by simp [ccells] at h
 | q::t,u,h=>by
  rw [ccells,List.mem_append] at h
  rcases h with h | h
  ·simp at h
   rcases h with rfl | rfl | rfl | rfl | rfl<;>rfl
  ·exact ccells_one t u h
def COwn (B:Nat) (w:World) (v:Value) (l:List Con):Prop:=w.ownsRow B 58 5 v l.length (ccells l)
theorem cown_nil (B:Nat) (w:World):COwn B w (.slice none 0 0) []:=World.ownsRow_nil _ _ _ _
theorem cown_empty (w:World):w.alloc (.cells #[] 58) |>.ownsRow w.heap.size 58 5 (.slice (some ⟨w.heap.size,0,none⟩) 0 0) 0 []:=
 ⟨rfl,.inr ⟨w.heap.size,0,#[],rfl,yJ _,by show (w.heap.push _)[w.heap.size]? = _;simp,yJ _,by unfold maxLen;omega,rfl,rfl⟩⟩
theorem cown_below {w w':World} {B:Nat} {v:Value} {l:List Con} (h:COwn B w v l) (hb:Below w.heap.size w w'):COwn B w' v l:=
 World.ownsRow.kept h (grownBy_below (grownBy_refl w none) hb) (by by_cases e:v.ownBlock=none;exact .inl e;exact .inr e)
theorem cown_base {w:World} {B B':Nat} {v:Value} {l:List Con} (h:COwn B w v l) (hb:B'≤B):COwn B' w v l:=by
 obtain ⟨h1,h2⟩:=h
 refine ⟨h1,?_⟩
 rcases h2 with h2 | ⟨g,cap,cur,a,b,c⟩
 ·exact .inl h2
 ·exact .inr ⟨g,cap,cur,a,Nat.le_trans hb b,c⟩
theorem cown_row {w:World} {B:Nat} {v:Value} {l:List Con} (h:COwn B w v l):∃ao cap,v=.slice ao l.length cap∧ConRow w ao l.length l∧l.length≤cap∧(l≠[]→∃g cur,ao=some ⟨g,0,none⟩∧B≤g∧w.heap[g]? = some (.cells cur 58 (0,0))∧cur.size=cap*5):=by
 rcases h.2 with ⟨rfl,h0⟩ | ⟨g,cap,cur,rfl,h1,h2,h3,h4,h5,h6⟩
 ·exact ⟨none,0,by rw [h0],⟨rfl,.inl h0⟩,by omega,fun hn=>absurd (List.length_eq_zero_iff.1 h0) hn⟩
 ·refine ⟨some ⟨g,0,none⟩,cap,rfl,⟨rfl,.inr ⟨g,0,rfl,fun i hi=>?_⟩⟩,h3,fun _=>⟨g,cur,rfl,h1,h2,h5⟩⟩
  obtain ⟨a,b,c,d,e⟩:=ccells_at l i hi
  have k:∀j (v:Value),j<l.length*5→(ccells l)[j]? = some v→w.cell? ⟨g,j,none⟩=some v:=fun j v hj hv=>by
   rw [←h6,List.getElem?_take_of_lt hj] at hv
   simp [World.cell?,h2]
   simpa using hv
  unfold ConAt
  rw [Nat.zero_add]
  exact ⟨k _ _ (by omega) a,k _ _ (by omega) b,k _ _ (by omega) c,k _ _ (by omega) d,k _ _ (by omega) e⟩
theorem cown_other {w:World} {B:Nat} {v:Value} {l:List Con} (h:COwn B w v l) (k j:Nat) (x:Value) (hk:k<B):COwn B (w.setCell ⟨k,j,none⟩ x) v l:=by
 obtain ⟨h1,h2⟩:=h
 refine ⟨h1,?_⟩
 rcases h2 with h2 | ⟨g,cap,cur,a,b,c,d⟩
 ·exact .inl h2
 ·exact .inr ⟨g,cap,cur,a,b,(heap_setCell_other w ⟨k,j,none⟩ g x (show g≠k by omega)).trans c,d⟩
theorem Tryz.infoCont:(Tryz.prog.info? 58).map (fun i=>(i.zero,i.size,i.bytes))=some (some (.agg #[.int .i64 0,.int .i64 0,.string ByteArray.empty,.int .i64 0,.int .i64 0]),5,48):=by kernel_rfl
def flags:Nat→List (List Bool)
 | 0=>[[]]
 | k+1=>(flags k).map (false :: ·)++(flags k).map (true :: ·)
theorem mem_flags:∀(f:List Bool),f ∈ flags f.length
 | []=>by simp [flags]
 | b::t=>by
  have:=mem_flags t
  cases b<;>simp [flags,this]
structure Mul where
 n:Nat
 cs:List Nat
 al:List Nat
 st:List Nat
 l0:List Bool
def Mul.lst (M:Mul) (c:Nat) (f:List Bool) (s:Nat):Array Bool:=
 ((List.range M.n).map fun i=>M.l0.getD i false||((M.cs.take c).contains i||(((M.al.zip f).any fun p=>p.1==i&&p.2)||(M.st.take s).contains i))).toArray
def Mul.nxt (M:Mul) (c:Nat) (f:List Bool) (s:Nat):List (Nat×Nat):=
 (List.range M.n).filterMap fun i=>
  if M.cs[c]? = some i then some (i,0)
  else match (List.range M.al.length).find? (fun j=>M.al[j]? == some i&&f[j]? == some false) with
   | some j=>some (i,j+2)
   | none=>if decide (c=M.cs.length)&&(f.all id&&decide (M.st[s]? = some i)) then some (i,1) else none
def Mul.to (c:Nat) (f:List Bool) (s:Nat):Nat→Nat×List Bool×Nat
 | 0=>(c+1,f,s)
 | 1=>(c,f,s+1)
 | j+2=>(c,f.set j true,s)
def Mul.one (M:Mul) (md:Region.Mode) (ops:Array Oper) (c:Nat) (f:List Bool) (s:Nat):Bool:=
 decide (Region.ready md ops (M.lst c f s)=(M.nxt c f s).map (·.1)) &&
 ((M.nxt c f s).isEmpty==(decide (c=M.cs.length)&&(f.all id&&decide (s=M.st.length)))) &&
 (M.nxt c f s).all fun p=>decide ((M.lst c f s).setIfInBounds p.1 true=M.lst (Mul.to c f s p.2).1 (Mul.to c f s p.2).2.1 (Mul.to c f s p.2).2.2) &&
  (match p.2 with | 0=>decide (M.cs[c]? = some p.1) | 1=>decide (c=M.cs.length)&&(f.all id&&decide (M.st[s]? = some p.1)) | j+2=>decide (M.al[j]? = some p.1)&&f[j]? == some false)
def Mul.ok (M:Mul) (md:Region.Mode) (ops:Array Oper):Bool:=
 decide (M.al.length=M.st.length)&&((List.range (M.cs.length+1)).all fun c=>(flags M.al.length).all fun f=>M.one md ops c f 0)&&(List.range (M.st.length+1)).all fun s=>M.one md ops M.cs.length (List.replicate M.al.length true) s
theorem all_true {f:List Bool} (h:f.all id=true):f=List.replicate f.length true:=by
 induction f with
 | nil=>rfl
 | cons b t ih=>
  simp only [List.all_cons,id,yK] at h
  rw [List.length_cons,List.replicate_succ,←ih h.2,h.1]
theorem Mul.at {M:Mul} {md:Region.Mode} {ops:Array Oper} (h:M.ok md ops=true) {c:Nat} {f:List Bool} {s:Nat} (hc:c≤M.cs.length) (hf:f.length=M.al.length) (hs:s≤M.st.length) (h0:0<s→c=M.cs.length∧f.all id=true):M.one md ops c f s=true:=by
 simp only [Mul.ok,yK,List.all_eq_true,List.mem_range] at h
 obtain ⟨⟨_,h1⟩,h2⟩:=h
 by_cases e:s=0
 ·subst e
  exact h1 c (by omega) f (by rw [←hf];exact mem_flags f)
 ·obtain ⟨rfl,h3⟩:=h0 (by omega)
  have:=all_true h3
  rw [hf] at this
  rw [this]
  exact h2 s (by omega)
def Mul.step (P:Program) (ops:Array Oper) (Q:Exit→Act→World→Prop) (i:Nat) (a:Act) (w:World) (K:Act→World→Prop):Prop:=
 ∃o,ops[i]? = some o∧(if Region.wanted o (yielded ops a.tmps)=true then Oper.wp P o a w K Q else K (a.put o.dst undef) w)
theorem count_set {f:List Bool} {j:Nat} (h:f[j]? = some false):(f.set j true).count false+1=f.count false:=by
 induction f generalizing j with
 | nil=>simp at h
 | cons b t ih=>
  cases j with
  | zero=>simp at h;subst h;simp
  | succ j=>simp at h;have:=ih h;simp only [sC,List.count_cons];omega
theorem count_none {f:List Bool} (h:f.all id=true):f.count false=0:=by rw [all_true h];simp [List.count_replicate]
theorem wpAnyH_is {P:Program} {md:Region.Mode} {ops:Array Oper} {Q:Exit→Act→World→Prop} {S:World→Prop} {n n':Nat} {l l':Array Bool} {a a':Act} {w:World} (hn:n=n') (hl:l=l') (ha:a=a') (h:wpAnyH P md ops Q S n' l' a' w):wpAnyH P md ops Q S n l a w:=by
 subst hn hl ha
 exact h
def mkPtr (b:Bool) (g:Nat):Value:=match b with | true=>.pointer (some ⟨g,0,none⟩) | false=>undef
def mkV (b:Bool) (v u:Value):Value:=match b with | true=>v | false=>u
def mkRes (b:Bool) (v:Value):Value:=match b with | true=>v | false=>undef
theorem list4 {α:Type} {l:List α} (h:l.length=4):∃a b c d,l=[a,b,c,d]:=by
 match l,h with
 | [a,b,c,d],_=>exact ⟨a,b,c,d,rfl⟩
theorem list2 {α:Type} {l:List α} (h:l.length=2):∃a b,l=[a,b]:=by
 match l,h with
 | [a,b],_=>exact ⟨a,b,rfl⟩
theorem list3 {α:Type} {l:List α} (h:l.length=3):∃a b c,l=[a,b,c]:=by
 match l,h with
 | [a,b,c],_=>exact ⟨a,b,c,rfl⟩
theorem region_multi {P:Program} {md:Region.Mode} {ops:Array Oper} {Q:Exit→Act→World→Prop} {w1:World} (M:Mul) (Fr:Nat→List Bool→List Nat→Act) (vals:List (Int×Int)) (hv:vals.length=M.al.length)
  (hok:M.ok md ops=true)
  (hcall:∀c f us w K,c<M.cs.length→f.length=M.al.length→us.length=M.al.length→Kp w1 w→(∀w',Below w.heap.size w w'→K (Fr (c+1) f us) w')→Mul.step P ops Q (M.cs.getD c 0) (Fr c f us) w K)
  (hal:∀j c f us w K,c≤M.cs.length→f.length=M.al.length→us.length=M.al.length→f[j]? = some false→K (Fr c (f.set j true) (us.set j w.heap.size)) (w.alloc (.cells #[.int .i64 0,.int .i64 0] 52))→Mul.step P ops Q (M.al.getD j 0) (Fr c f us) w K)
  (hst:∀s us w K,s<M.al.length→us.length=M.al.length→Var w 52 (us.getD s 0) 0 0→K (Fr M.cs.length (List.replicate M.al.length true) us) ((w.setCell ⟨us.getD s 0,0,none⟩ (.int .i64 (vals.getD s (0,0)).1)).setCell ⟨us.getD s 0,1,none⟩ (.int .i64 (vals.getD s (0,0)).2))→Mul.step P ops Q (M.st.getD s 0) (Fr M.cs.length (List.replicate M.al.length true) us) w K)
  (fin:∀us w,us.length=M.al.length→(∀j,j<M.al.length→VB w1 w (us.getD j 0) (vals.getD j (0,0)).1 (vals.getD j (0,0)).2)→Kp w1 w→Q .normal (Fr M.cs.length (List.replicate M.al.length true) us) w)
  (w:World) (hw:Kp w1 w):wpAnyH P md ops Q (Kp w1) (M.cs.length+M.al.length+M.al.length) (M.lst 0 (List.replicate M.al.length false) 0) (Fr 0 (List.replicate M.al.length false) (List.replicate M.al.length 0)) w:=by
 have hla:M.al.length=M.st.length:=by have:=hok;simp only [Mul.ok,yK,yL] at this;exact this.1.1
 refine wpAnyH_inv (fun n lz az wz=>∃c f us s,c≤M.cs.length∧f.length=M.al.length∧us.length=M.al.length∧s≤M.al.length∧(0<s→c=M.cs.length∧f.all id=true)∧n=(M.cs.length - c)+f.count false+(M.al.length - s)∧lz=M.lst c f s∧az=Fr c f us
   ∧(∀j,f[j]? = some true→VB w1 wz (us.getD j 0) (if j<s then (vals.getD j (0,0)).1 else 0) (if j<s then (vals.getD j (0,0)).2 else 0))∧(∀i j,f[i]? = some true→f[j]? = some true→i≠j→us.getD i 0≠us.getD j 0)∧Kp w1 wz) ?_ ?_ _ _ _ _ ⟨0,_,_,0,Nat.zero_le _,by simp,by simp,Nat.zero_le _,fun h=>absurd h (by omega),by simp,rfl,rfl,fun j hj=>by simp [List.getElem?_replicate] at hj,fun i j hi=>by simp [List.getElem?_replicate] at hi,hw⟩
 ·rintro n lz az wz ⟨c,f,us,s,hc,hf,hu,hs,h0,hn,rfl,rfl,hV,hD,hk⟩
  have hone:=Mul.at hok hc hf (by omega) h0
  simp only [Mul.one,yK,yL,List.all_eq_true] at hone
  obtain ⟨⟨hr,he⟩,hall⟩:=hone
  have hne:(M.nxt c f s).map (·.1)≠[]:=fun e=>by
   have e':M.nxt c f s=[]:=List.map_eq_nil_iff.1 e
   rw [e'] at he
   simp only [List.isEmpty_nil,beq_iff_eq] at he
   have he':=he.symm
   simp only [yK,yL] at he'
   have:=count_none he'.2.1
   omega
  refine ready_step hr hne (fun i hi=>?_)
  obtain ⟨⟨i',k⟩,hp,rfl⟩:=List.mem_map.1 hi
  obtain ⟨hset,hk'⟩:=hall _ hp
  simp only at hset hk'
  match k,hset,hk' with
  | 0,hset,hk'=>
   simp only [yL] at hk'
   have hlt:c<M.cs.length:=(List.getElem?_eq_some_iff.1 hk').1
   have hcd:M.cs.getD c 0=i':=by rw [List.getD_eq_getElem?_getD,hk'];rfl
   obtain ⟨o,ho,hh⟩:=hcall c f us wz (fun a' w'=>Kp w1 w'∧∃c' f' us' s',c'≤M.cs.length∧f'.length=M.al.length∧us'.length=M.al.length∧s'≤M.al.length∧(0<s'→c'=M.cs.length∧f'.all id=true)∧n=(M.cs.length - c')+f'.count false+(M.al.length - s')∧(M.lst c f s).setIfInBounds i' true=M.lst c' f' s'∧a'=Fr c' f' us'∧(∀j,f'[j]? = some true→VB w1 w' (us'.getD j 0) (if j<s' then (vals.getD j (0,0)).1 else 0) (if j<s' then (vals.getD j (0,0)).2 else 0))∧(∀i j,f'[i]? = some true→f'[j]? = some true→i≠j→us'.getD i 0≠us'.getD j 0)∧Kp w1 w') hlt hf hu hk
    (fun w' hb=>⟨yB hk hb,c+1,f,us,s,hlt,hf,hu,hs,fun h=>absurd (h0 h).1 (by omega),by omega,hset,rfl,fun j hj=>(hV j hj).below hb,hD,yB hk hb⟩)
   rw [hcd] at ho
   exact wpOp_step ho (fun K' hK=>by
    split
    ·rename_i hw;rw [if_pos hw] at hh;exact Oper.wp_mono (fun _ _ h=>hK _ _ h) hh
    ·rename_i hw;rw [if_neg hw] at hh;exact hK _ _ hh)
  | 1,hset,hk'=>
   simp only [yK,yL] at hk'
   obtain ⟨rfl,hft,hst'⟩:=hk'
   have hsl:s<M.al.length:=by rw [hla];exact (List.getElem?_eq_some_iff.1 hst').1
   have hft':=all_true hft
   rw [hf] at hft'
   have hj:f[s]? = some true:=by rw [hft',List.getElem?_replicate,if_pos hsl]
   have hcd:M.st.getD s 0=i':=by rw [List.getD_eq_getElem?_getD,hst'];rfl
   have hvs:=hV s hj
   rw [if_neg (by omega),if_neg (by omega)] at hvs
   obtain ⟨o,ho,hh⟩:=hst s us wz (fun a' w'=>Kp w1 w'∧∃c' f' us' s',c'≤M.cs.length∧f'.length=M.al.length∧us'.length=M.al.length∧s'≤M.al.length∧(0<s'→c'=M.cs.length∧f'.all id=true)∧n=(M.cs.length - c')+f'.count false+(M.al.length - s')∧(M.lst M.cs.length f s).setIfInBounds i' true=M.lst c' f' s'∧a'=Fr c' f' us'∧(∀j,f'[j]? = some true→VB w1 w' (us'.getD j 0) (if j<s' then (vals.getD j (0,0)).1 else 0) (if j<s' then (vals.getD j (0,0)).2 else 0))∧(∀i j,f'[i]? = some true→f'[j]? = some true→i≠j→us'.getD i 0≠us'.getD j 0)∧Kp w1 w') hsl hu hvs.2
    ⟨hvs.kp hk,M.cs.length,f,us,s+1,yJ _,hf,hu,hsl,fun _=>⟨rfl,hft⟩,by have:=count_none hft;omega,hset,by rw [←hft'],fun j hj'=>by
     by_cases e:j=s
     ·subst e
      rw [if_pos (by omega),if_pos (by omega)]
      exact hvs.set _ _
     ·have h1:=(hV j hj').off (hD j s hj' hj e) (u:=.int .i64 (vals.getD s (0,0)).1) (v:=.int .i64 (vals.getD s (0,0)).2)
      by_cases e2:j<s
      ·rw [if_pos e2,if_pos e2] at h1
       rw [if_pos (by omega),if_pos (by omega)]
       exact h1
      ·rw [if_neg e2,if_neg e2] at h1
       rw [if_neg (by omega),if_neg (by omega)]
       exact h1,hD,hvs.kp hk⟩
   rw [hcd] at ho
   rw [hft']
   rw [←hft'] at hh ⊢
   exact wpOp_step ho (fun K' hK=>by
    rw [hft'] at hK ⊢
    rw [hft'] at hh
    split
    ·rename_i hw;rw [if_pos hw] at hh;exact Oper.wp_mono (fun _ _ h=>hK _ _ h) hh
    ·rename_i hw;rw [if_neg hw] at hh;exact hK _ _ hh)
  | j+2,hset,hk'=>
   simp only [yK,yL,beq_iff_eq] at hk'
   obtain ⟨ha,hfj⟩:=hk'
   have hjl:j<M.al.length:=(List.getElem?_eq_some_iff.1 ha).1
   have hcd:M.al.getD j 0=i':=by rw [List.getD_eq_getElem?_getD,ha];rfl
   have hs0:s=0:=by
    by_cases e:s=0
    ·exact e
    ·have h1:=all_true (h0 (by omega)).2
     rw [h1,List.getElem?_replicate,if_pos (by omega)] at hfj
     cases hfj
   obtain ⟨o,ho,hh⟩:=hal j c f us wz (fun a' w'=>Kp w1 w'∧∃c' f' us' s',c'≤M.cs.length∧f'.length=M.al.length∧us'.length=M.al.length∧s'≤M.al.length∧(0<s'→c'=M.cs.length∧f'.all id=true)∧n=(M.cs.length - c')+f'.count false+(M.al.length - s')∧(M.lst c f s).setIfInBounds i' true=M.lst c' f' s'∧a'=Fr c' f' us'∧(∀j,f'[j]? = some true→VB w1 w' (us'.getD j 0) (if j<s' then (vals.getD j (0,0)).1 else 0) (if j<s' then (vals.getD j (0,0)).2 else 0))∧(∀i j,f'[i]? = some true→f'[j]? = some true→i≠j→us'.getD i 0≠us'.getD j 0)∧Kp w1 w') hc hf hu hfj
    ⟨yA hk _,c,f.set j true,us.set j wz.heap.size,s,hc,by simpa using hf,by simpa using hu,hs,fun h=>absurd h (by omega),by have:=count_set hfj;omega,hset,rfl,fun x hx=>by
     subst hs0
     rw [if_neg (by omega),if_neg (by omega)]
     by_cases e:x=j
     ·subst e
      rw [List.getD_eq_getElem?_getD,List.getElem?_set_self (by omega)]
      exact vb_new hk
     ·rw [List.getElem?_set_ne (fun h=>e h.symm)] at hx
      rw [List.getD_eq_getElem?_getD,List.getElem?_set_ne (fun h=>e h.symm),←List.getD_eq_getElem?_getD]
      have:=hV x hx
      rw [if_neg (by omega),if_neg (by omega)] at this
      exact this.al _,fun x y hx hy hne2=>by
     by_cases e:x=j
     ·subst e
      by_cases e2:y=x
      ·exact absurd e2.symm hne2
      ·rw [List.getElem?_set_ne (fun h=>e2 h.symm)] at hy
       rw [List.getD_eq_getElem?_getD,List.getElem?_set_self (by omega),List.getD_eq_getElem?_getD,List.getElem?_set_ne (fun h=>e2 h.symm),←List.getD_eq_getElem?_getD]
       exact (hV y hy).ne.symm
     ·rw [List.getElem?_set_ne (fun h=>e h.symm)] at hx
      rw [List.getD_eq_getElem?_getD (l:=us.set j wz.heap.size) (i:=x),List.getElem?_set_ne (fun h=>e h.symm),←List.getD_eq_getElem?_getD]
      by_cases e2:y=j
      ·subst e2
       rw [List.getD_eq_getElem?_getD (l:=us.set y wz.heap.size),List.getElem?_set_self (by omega)]
       exact (hV x hx).ne
      ·rw [List.getElem?_set_ne (fun h=>e2 h.symm)] at hy
       rw [List.getD_eq_getElem?_getD (l:=us.set j wz.heap.size),List.getElem?_set_ne (fun h=>e2 h.symm),←List.getD_eq_getElem?_getD]
       exact hD x y hx hy hne2,yA hk _⟩
   rw [hcd] at ho
   exact wpOp_step ho (fun K' hK=>by
    split
    ·rename_i hw;rw [if_pos hw] at hh;exact Oper.wp_mono (fun _ _ h=>hK _ _ h) hh
    ·rename_i hw;rw [if_neg hw] at hh;exact hK _ _ hh)
 ·rintro lz az wz ⟨c,f,us,s,hc,hf,hu,hs,h0,hn,rfl,rfl,hV,hD,hk⟩
  have hone:=Mul.at hok hc hf (by omega) h0
  simp only [Mul.one,yK,yL,List.all_eq_true] at hone
  obtain ⟨⟨hr,he⟩,_⟩:=hone
  have hcc:c=M.cs.length:=by omega
  have hfa:f.all id=true:=by
   rw [List.all_eq_true]
   intro b hb
   cases b with
   | true=>rfl
   | false=>have:=List.count_pos_iff.2 hb;omega
  have hss:s=M.al.length:=by omega
  subst hcc hss
  have hf':=all_true hfa
  rw [hf] at hf'
  refine ⟨?_,?_⟩
  ·rw [hr]
   have:(M.nxt M.cs.length f M.al.length).isEmpty=true:=by
    simp only [beq_iff_eq] at he
    rw [he,hfa,hla]
    simp
   rw [List.isEmpty_iff.1 this]
   rfl
  ·rw [hf']
   refine fin us wz hu (fun j hj=>?_) hk
   have:=hV j (by rw [hf',List.getElem?_replicate,if_pos hj])
   rw [if_pos hj,if_pos hj] at this
   exact this
end
end Go.Proofs.YtokabeokclpljaaGreat
