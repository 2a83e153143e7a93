/-
  Texts in one: FindAp, MarkA.
-/
import Derived.Test.YtdhibeclkdepiaaGreatSackJ
set_option maxRecDepth 100000
set_option maxHeartbeats 16000000
set_option linter.unusedVariables false
set_option linter.unusedSimpArgs false
namespace Go.Proofs.YtdhibeclkdepiaaGreat
section
open Go.RowKit Go.Maps
def dK (id:Int) (l:List bY):Option bY:=l.find? (fun a=>decide (a.id=id))
def nT (id:Int):List bY→Nat→Int
 | [],_=>-1
 | q::t,k=>if q.id=id then k else nT id t (k+1)
def aJe (l:List bY) (id:Int):Int:=nT id l 0
theorem aE9 {id:Int} {l:List bY} {k:Nat} (h:k<l.length):nT id (l.drop k) k=if l[k].id=id then (k:Int) else nT id (l.drop (k+1)) (k+1):=by
 rw [List.drop_eq_getElem_cons h,nT]
theorem aG9 {id:Int} {l:List bY} {k:Nat} (h:l.length≤k):nT id (l.drop k) k = -1:=by
 rw [List.drop_of_length_le h];rfl
theorem yQ (id:Int):∀(l:List bY) (k:Nat),(dK id l=none∧nT id l k = -1)∨(∃(j:Nat) (h:j<l.length),dK id l=some l[j]∧nT id l k=((k+j:Nat):Int))
 | [],k=>.inl ⟨rfl,rfl⟩
 | q::t,k=>by
  by_cases h:q.id=id
  ·right
   exact ⟨0,by simp,by simp [dK,h],by rw [nT,if_pos h];simp⟩
  ·have hf:dK id (q::t)=dK id t:=by simp [dK,h]
   rw [hf,nT,if_neg h]
   rcases yQ id t (k+1) with ⟨a,b⟩ | ⟨j,hj,a,b⟩
   ·exact .inl ⟨a,b⟩
   ·exact .inr ⟨j+1,by simpa using hj,by simpa using a,by rw [b];congr 1;omega⟩
theorem aDR (id:Int) (l:List bY):(dK id l=none∧aJe l id = -1)∨(∃(j:Nat) (h:j<l.length),dK id l=some l[j]∧aJe l id=(j:Int)):=by
 rcases yQ id l 0 with h | ⟨j,h,a,b⟩
 ·exact .inl h
 ·exact .inr ⟨j,h,a,by rw [aJe,b];congr 1;omega⟩
theorem aAc {hs:List AV} {l:List bY} {id:Int}:hs.length=l.length→(∀i (h:i<hs.length) (h':i<l.length),hs[i].id=l[i].id∧hs[i].queue=l[i].queue)→(jP id hs).map AV.queue=(dK id l).map bY.queue:=by
 induction hs generalizing l with
 | nil=>
  intro h _
  have:l=[]:=List.length_eq_zero_iff.1 h.symm
  subst this
  rfl
 | cons v t ih=>
  intro h1 h2
  cases l with
  | nil=>simp at h1
  | cons a r=>
   have h0:=h2 0 (by simp) (by simp)
   simp only [List.getElem_cons_zero] at h0
   by_cases e:a.id=id
   ·have e':v.id=id:=h0.1.trans e
    simp [jP,dK,e,e',h0.2]
   ·have e':¬v.id=id:=fun x=>e (h0.1.symm.trans x)
    have:=ih (l:=r) (by simpa using h1) (fun i a b=>by have:=h2 (i+1) (by simpa using a) (by simpa using b);simpa using this)
    simpa [jP,dK,e,e'] using this
theorem aA9 (x:Sls) (s:St) (id:Int) (w:World) (h:eO w x.aa x.al s.apps) (hl:x.al≤1048576) :
  Calls Tryz.prog 55 #[sv x s,.int .i64 id] w fun e w'=>e=.returned (.int .i64 (aJe s.apps id))∧Below w.heap.size w w':=by
 have HR:=aA h
 have HL:=aA h.1
 have HB0:=aA (yA (yH _ w) (.cells (svc x s) 34))
 have P0:=aA (yD w (svc x s) 34)
 clear h
 obtain ⟨qa,ql,qc,aa,al,ac,ma,ml,mc,ca,cl,cc⟩:=x
 obtain ⟨qs,clock,epoch,next,serial,apps,ms,cs⟩:=s
 simp only at hl HR HL ⊢
 go_enter Tryz.func55,Tryz.ntmps55
 go_wp2
 go_loopw [5] (fun i wr=>∃(k:Nat),k≤al∧i=.int .i64 k∧Hid (aJe apps id=nT id (apps.drop k) k)∧Hid (Blk wr w.heap.size (svc ⟨qa,ql,qc,aa,al,ac,ma,ml,mc,ca,cl,cc⟩ ⟨qs,clock,epoch,next,serial,apps,ms,cs⟩) 34)∧Hid (Below w.heap.size w wr)) (fun i _=>al - (intOf i).toNat)
 case atStart=>exact ⟨0,Nat.zero_le _,rfl,aA (by simp [aJe]),P0,HB0⟩
 case round=>
  obtain ⟨k,hk,rfl,HQ,HP,HB⟩:=hrel
  have p5:=(uH HP).at 5
  simp at p5
  by_cases hlt:k<al
  ·obtain ⟨b,off,rfl,hq⟩:=((uH HR).below (uH HB)).at hlt
   have hkl:k<apps.length:=by have:=uH HL;omega
   have hst:=aA (aE9 (id:=id) hkl)
   obtain ⟨xo,xl,xc,hxx⟩:=hq hkl
   have c0:=hxx.1
   clear hq hxx
   obtain ⟨s,hs⟩:∃s,apps[k].id=s:=⟨_,rfl⟩
   rw [hs] at c0 hst
   clear hs hkl
   by_cases he:s=id
   ·have HE:=aA he
    have hbe:(s==id)=true:=by simp [he]
    clear he
    go_wp2
    go_ret
    exact ⟨bV (by rw [uH HQ,uH hst,if_pos (uH HE)]),uH HB⟩
   ·have HE:=aA he
    have hbe:(s==id)=false:=by simp [he]
    clear he
    go_wp2
    go_roundw
    case rel=>exact ⟨k+1,by omega,by go_num,aA (by rw [uH HQ,uH hst,if_neg (uH HE)]),HP,HB⟩
    case measure=>simp [intOf];omega
  ·go_wp2
   go_ret
   exact ⟨bV (by rw [uH HQ,aG9 (by have:=uH HL;omega)]),uH HB⟩
end
section
open Go.RowKit
def mD (w0:World) (b p:Nat) (q:Ask) (w:World):Prop:=pV w b p q∧Below w0.heap.size w0 w
theorem mD.call {w0 w w':World} {b p:Nat} {q:Ask} (h:mD w0 b p q w) (hb:Below w.heap.size w w'):mD w0 b p q w':=⟨h.1.below hb,yB h.2 hb⟩
theorem mD.drew {w0 w:World} {b p:Nat} {q:Ask} (h:mD w0 b p q w):mD w0 b p q w.drew:=h.call (yH _ _).drew
theorem mD.read (w0:World) (b p:Nat) (q:Ask):∀wx,mD w0 b p q wx→wx.cell? ⟨b,p,none⟩=some (.int .i64 q.mem)∧wx.cell? ⟨b,p+1,none⟩=some (.int .i64 q.cpu)∧wx.cell? ⟨b,p+2,none⟩=some (.int .i64 q.count)∧wx.cell? ⟨b,p+3,none⟩=some (.string (bs q.node))∧wx.cell? ⟨b,p+4,none⟩=some (.int .i64 q.missed):=
 fun wx h=>h.1
theorem aCu (ao:Option Addr) (n c K:Nat) (w:World) (h:aO w ao n (kF K n)) (hn:n≤1048576) (h0:0<K) (h1:K≤1000000000000000) :
  Calls Tryz.prog 78 #[.slice ao n c,.int .i64 (K:Int)] w fun e w'=>e=.returned (.int .i64 ((K:Int)+5*(n:Int)))∧Below w.heap.size w w':=by
 have HR:=aA h
 clear h
 go_enter Tryz.func78,Tryz.ntmps78
 go_wp2
 go_loopw [1,5] (fun s i wr=>∃(j:Nat) (k:Int),j≤n∧i=.int .i64 j∧s=.int .i64 k∧k=(K:Int)+5*(j:Int)∧Hid (Below w.heap.size w wr)) (fun _ i _=>n - (intOf i).toNat)
 case atStart=>exact ⟨0,K,Nat.zero_le _,rfl,rfl,by omega,aA (yH _ _)⟩
 case round=>
  obtain ⟨j,k,hj,rfl,rfl,hk,HB⟩:=hrel
  by_cases hlt:j<n
  ·obtain ⟨b,off,rfl,hq⟩:=((uH HR).below (uH HB)).at hlt
   have hqq:=hq (by rw [aA5];exact hlt)
   rw [aC0] at hqq
   have T0:∀wx,Calls Tryz.prog 47 #[.int .i64 (k+1+1+1)] wx fun e w'=>e=.returned (.string (bs (aC5 K j).node))∧Below wx.heap.size wx w':=fun wx=>by
    have:=aV (k+1+1+1) wx (by omega) (by omega)
    rw [show (k+1+1+1).toNat=K+5*j+1+1+1 by omega] at this
    exact this
   have hd:(aC5 K j).mem=k:=by rw [hk];rfl
   have hm:(aC5 K j).cpu=k+1:=by rw [hk];rfl
   have hp:(aC5 K j).count=k+1+1:=by rw [hk];rfl
   have hr:(aC5 K j).missed=k+1+1+1+1:=by rw [hk];rfl
   obtain ⟨q,hqe⟩:∃q,aC5 K j=q:=⟨_,rfl⟩
   rw [hqe] at hqq T0 hd hm hp hr
   have A0:=aA (show mD w b (off+j*5) q wr from ⟨hqq,uH HB⟩)
   have C0:=aA T0
   have HK:=aA hk
   have HR4:=aA hr
   have R:=mD.read w b (off+j*5) q
   have R':=aA R
   obtain ⟨r0,r1,r2,_,_⟩:=R _ (uH A0)
   rw [hd] at r0
   rw [hm] at r1
   rw [hp] at r2
   have j0:(0:Int)≤j:=by omega
   have j1:(j:Int)<n:=by omega
   have hk0:0<k:=by omega
   have hk1:k≤1000000010000000:=by omega
   have hw1:IntKind.i64.wrap (k+1)=k+1:=by rw [IntKind.wrap_i64];omega
   have hw2:IntKind.i64.wrap (k+1+1)=k+1+1:=by rw [IntKind.wrap_i64];omega
   have hw3:IntKind.i64.wrap (k+1+1+1)=k+1+1+1:=by rw [IntKind.wrap_i64];omega
   clear hq hqq T0 hqe hk hd hm hp hr R
   go_wp2_with fail
   have R:=uH R'
   clear r0 r1 r2
   go_region_held3 (fun wx=>mD w b (off+j*5) q wx)
    (first | (with_reducible assumption) | exact (uH A0).drew | exact mD.call (by assumption) (by assumption))
    (first
    | (go_at_call 47;refine (uH C0 _).mono ?_;rintro e wt ⟨rfl,hb⟩;have SA:=mD.call (w0:=w) (b:=b) (p:=off+j*5) (q:=q) (by assumption) hb))
   obtain ⟨_,_,_,_,r4⟩:=R _ SA
   rw [uH HR4] at r4
   have HB2:=aA SA.2
   clear SA A0 R C0 R'
   go_wp2
   go_roundw
   case rel=>exact ⟨j+1,k+1+1+1+1+1,by omega,by go_num,by go_num,by have:=uH HK;omega,HB2⟩
   case measure=>simp [intOf];omega
  ·have hjn:j=n:=by omega
   subst hjn
   go_wp2
   go_ret
   exact ⟨bV (by omega),uH HB⟩
end
end Go.Proofs.YtdhibeclkdepiaaGreat
