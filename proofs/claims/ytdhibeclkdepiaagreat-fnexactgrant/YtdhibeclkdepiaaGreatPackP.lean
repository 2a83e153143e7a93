/-
  bI in one: FindAp, HasI, nN, MarkA.
-/
import Derived.Test.YtdhibeclkdepiaaGreatPackM
import Derived.Test.YtdhibeclkdepiaaGreatPackL
set_option maxRecDepth 100000
set_option maxHeartbeats 16000000
set_option linter.unusedVariables false
set_option linter.unusedSimpArgs false
namespace Go.Proofs.YtdhibeclkdepiaaGreat
section
open Go.RowKit Go.Maps
def dY (id:Int) (l:List dB):Option dB:=l.find? (fun a=>decide (a.id=id))
def mW (id:Int):List dB→Nat→Int
 | [],_=>-1
 | q::t,k=>if q.id=id then k else mW id t (k+1)
def aI2 (l:List dB) (id:Int):Int:=mW id l 0
theorem aD9 {id:Int} {l:List dB} {k:Nat} (h:k<l.length):mW id (l.drop k) k=if l[k].id=id then (k:Int) else mW id (l.drop (k+1)) (k+1):=by
 rw [List.drop_eq_getElem_cons h,mW]
theorem aF6 {id:Int} {l:List dB} {k:Nat} (h:l.length≤k):mW id (l.drop k) k = -1:=by
 rw [List.drop_of_length_le h];rfl
theorem wP (id:Int):∀(l:List dB) (k:Nat),(dY id l=none∧mW id l k = -1)∨(∃(j:Nat) (h:j<l.length),dY id l=some l[j]∧mW id l k=((k+j:Nat):Int))
 | [],k=>.inl ⟨rfl,rfl⟩
 | q::t,k=>by
  by_cases h:q.id=id
  ·right
   exact ⟨0,by simp,by simp [dY,h],by rw [mW,if_pos h];simp⟩
  ·have hf:dY id (q::t)=dY id t:=by simp [dY,h]
   rw [hf,mW,if_neg h]
   rcases wP id t (k+1) with ⟨a,b⟩ | ⟨j,hj,a,b⟩
   ·exact .inl ⟨a,b⟩
   ·exact .inr ⟨j+1,by simpa using hj,by simpa using a,by rw [b];congr 1;omega⟩
theorem aCS (id:Int) (l:List dB):(dY id l=none∧aI2 l id = -1)∨(∃(j:Nat) (h:j<l.length),dY id l=some l[j]∧aI2 l id=(j:Int)):=by
 rcases wP id l 0 with h | ⟨j,h,a,b⟩
 ·exact .inl h
 ·exact .inr ⟨j,h,a,by rw [aI2,b];congr 1;omega⟩
theorem zQ {hs:List AV} {l:List dB} {id:Int}:hs.length=l.length→(∀i (h:i<hs.length) (h':i<l.length),hs[i].id=l[i].id∧hs[i].queue=l[i].queue)→(iZ id hs).map AV.queue=(dY id l).map dB.queue:=by
 induction hs generalizing l with
 | nil=>
  intro h _
  have:l=[]:=List.length_eq_zero_iff.1 h.symm
  subst this
  rfl
 | cons v t ih=>
  intro h1 h2
  cases l with
  | nil=>simp at h1
  | cons a r=>
   have h0:=h2 0 (by simp) (by simp)
   simp only [List.getElem_cons_zero] at h0
   by_cases e:a.id=id
   ·have e':v.id=id:=h0.1.trans e
    simp [iZ,dY,e,e',h0.2]
   ·have e':¬v.id=id:=fun x=>e (h0.1.symm.trans x)
    have:=ih (l:=r) (by simpa using h1) (fun i a b=>by have:=h2 (i+1) (by simpa using a) (by simpa using b);simpa using this)
    simpa [iZ,dY,e,e'] using this
theorem zN (x:Sls) (s:St) (id:Int) (w:World) (h:dV w x.aa x.al s.apps) (hl:x.al≤1048576) :
  Calls Tryz.prog 55 #[sv x s,.int .i64 id] w fun e w'=>e=.returned (.int .i64 (aI2 s.apps id))∧Below w.heap.size w w':=by
 have HR:=aA h
 have HL:=aA h.1
 have HB0:=aA (yA (Below.refl _ w) (.cells (svc x s) 34))
 have P0:=aA (yD w (svc x s) 34)
 clear h
 obtain ⟨qa,ql,qc,aa,al,ac,ma,ml,mc,ca,cl,cc⟩:=x
 obtain ⟨qs,clock,epoch,next,serial,apps,ms,cs⟩:=s
 simp only at hl HR HL ⊢
 go_enter Tryz.func55,Tryz.ntmps55
 go_wp2
 go_loopw [5] (fun i wr=>∃(k:Nat),k≤al∧i=.int .i64 k∧Hid (aI2 apps id=mW id (apps.drop k) k)∧Hid (Blk wr w.heap.size (svc ⟨qa,ql,qc,aa,al,ac,ma,ml,mc,ca,cl,cc⟩ ⟨qs,clock,epoch,next,serial,apps,ms,cs⟩) 34)∧Hid (Below w.heap.size w wr)) (fun i _=>al - (intOf i).toNat)
 case atStart=>exact ⟨0,Nat.zero_le _,rfl,aA (by simp [aI2]),P0,HB0⟩
 case round=>
  obtain ⟨k,hk,rfl,HQ,HP,HB⟩:=hrel
  have p5:=(uH HP).at 5
  simp at p5
  by_cases hlt:k<al
  ·obtain ⟨b,off,rfl,hq⟩:=((uH HR).below (uH HB)).at hlt
   have hkl:k<apps.length:=by have:=uH HL;omega
   have hst:=aA (aD9 (id:=id) hkl)
   obtain ⟨xo,xl,xc,hxx⟩:=hq hkl
   have c0:=hxx.1
   clear hq hxx
   obtain ⟨s,hs⟩:∃s,apps[k].id=s:=⟨_,rfl⟩
   rw [hs] at c0 hst
   clear hs hkl
   by_cases he:s=id
   ·have HE:=aA he
    have hbe:(s==id)=true:=by simp [he]
    clear he
    go_wp2
    go_ret
    exact ⟨bQ (by rw [uH HQ,uH hst,if_pos (uH HE)]),uH HB⟩
   ·have HE:=aA he
    have hbe:(s==id)=false:=by simp [he]
    clear he
    go_wp2
    go_roundw
    case rel=>exact ⟨k+1,by omega,by go_num,aA (by rw [uH HQ,uH hst,if_neg (uH HE)]),HP,HB⟩
    case measure=>simp [intOf];omega
  ·go_wp2
   go_ret
   exact ⟨bQ (by rw [uH HQ,aF6 (by have:=uH HL;omega)]),uH HB⟩
def aGs (hs:List AV) (keep:AV→Bool) (q:Con):Bool:=aJa (iZ q.app hs) keep
theorem aG3 (q:Con) (w:World) :
  Calls Tryz.prog 156 #[conv q] w fun e w'=>e=.returned (.agg #[.string (bs []),.int .i64 q.app])∧Below w.heap.size w w':=by
 obtain ⟨id,ap,nd,me,cp⟩:=q
 go_enter Tryz.func156,Tryz.ntmps156
 go_wp2
 refine bodyPost_ret (v:=.agg #[.string (bs []),.int .i64 ap]) (by simp [results,Tryz.results156,go_sem];rfl) rfl ⟨rfl,?_⟩
 repeat (first | exact Below.refl _ _ | refine yA ?_ _ | refine Below.drew ?_ | refine yC ?_ _ _ _ (by omega))
theorem bZ {w w':World} {k:TypeId} {R:Value→Option (DataW Unit×List MemPlace)} {b n:Nat} {D:DataW Unit} (h:w.ownsMap Tryz.prog k R b n D) (hb:Below w.heap.size w w'):w'.ownsMap Tryz.prog k R b n D:=h.kept (aH (aF w none) hb) (by simp)
theorem aGq (bm n:Nat) (D:DataW Unit) (hs:List AV) (keep:AV→Bool) (q:Con) (w:World) (hown:w.ownsMap Tryz.prog 133 eD bm n D) (hk:eP hs (fun _ v=>keep v) D) (hwf:(Lit.int .i64 q.app).wf=true) :
  Calls Tryz.prog 125 #[.map (some bm),conv q] w fun e w'=>e=.returned (.bool (aGs hs keep q))∧Below w.heap.size w w':=by
 obtain ⟨kl,hkey⟩:=zO (nm:=[]) (k:=q.app) (by decide) hwf
 have HL:=aA (fun wx (hb:Below w.heap.size w wx)=>aKV (bZ hown hb) hk hkey)
 obtain ⟨o,ho⟩:∃o,aGs hs keep q=o:=⟨_,rfl⟩
 have HO:=aA (show aJa (iZ q.app hs) keep=o from ho)
 rw [ho]
 clear ho hkey hown hk hwf
 have CO:=aA (fun wx=>aG3 q wx)
 obtain ⟨id,ap,nd,me,cp⟩:=q
 simp only at HL HO
 have HB0:=aA (yA (Below.refl _ w) (.cells #[.int .i64 id,.int .i64 ap,.string (bs nd),.int .i64 me,.int .i64 cp] 38))
 go_enter Tryz.func125,Tryz.ntmps125
 go_wp2_with fail
 refine (uH CO _).mono ?_
 rintro e w1 ⟨rfl,hb⟩
 have HB1:=aA (yB (uH HB0) hb)
 obtain ⟨v,hlk,_,_⟩:=uH HL _ (uH HB1)
 rw [show aJa (iZ ap hs) (fun v=>keep v)=o from uH HO] at hlk
 obtain ⟨v1,v2,v3,v4,v5⟩:=v
 clear hb HB0 HL HO
 go_wp2
 go_ret
 refine ⟨rfl,?_⟩
 repeat (first | exact uH HB1 | refine yA ?_ _ | refine Below.drew ?_ | refine yC ?_ _ _ _ (by omega))
def jN (nm:List UInt8):List Mac→Nat→Int
 | [],_=>-1
 | q::t,k=>if q.name=nm then k else jN nm t (k+1)
def xM (l:List Mac) (nm:List UInt8):Int:=jN nm l 0
theorem aBc {nm:List UInt8} {l:List Mac} {k:Nat} (h:k<l.length):jN nm (l.drop k) k=if l[k].name=nm then (k:Int) else jN nm (l.drop (k+1)) (k+1):=by
 rw [List.drop_eq_getElem_cons h,jN]
theorem aDB {nm:List UInt8} {l:List Mac} {k:Nat} (h:l.length≤k):jN nm (l.drop k) k = -1:=by
 rw [List.drop_of_length_le h];rfl
theorem r9 (nm:List UInt8):∀(l:List Mac) (k:Nat),(bF nm l=none∧jN nm l k = -1)∨(∃(j:Nat) (h:j<l.length),bF nm l=some l[j]∧jN nm l k=((k+j:Nat):Int))
 | [],k=>.inl ⟨rfl,rfl⟩
 | q::t,k=>by
  by_cases h:q.name=nm
  ·right
   exact ⟨0,by simp,by simp [bF,h],by rw [jN,if_pos h];simp⟩
  ·have hf:bF nm (q::t)=bF nm t:=by simp [bF,h]
   rw [hf,jN,if_neg h]
   rcases r9 nm t (k+1) with ⟨a,b⟩ | ⟨j,hj,a,b⟩
   ·exact .inl ⟨a,b⟩
   ·exact .inr ⟨j+1,by simpa using hj,by simpa using a,by rw [b];congr 1;omega⟩
theorem qY (nm:List UInt8) (l:List Mac):(bF nm l=none∧xM l nm = -1)∨(∃(j:Nat) (h:j<l.length),bF nm l=some l[j]∧xM l nm=(j:Int)):=by
 rcases r9 nm l 0 with h | ⟨j,h,a,b⟩
 ·exact .inl h
 ·exact .inr ⟨j,h,a,by rw [xM,b];congr 1;omega⟩
theorem kI (x:Sls) (s:St) (nm:List UInt8) (w:World) (h:aZ w x.ma x.ml s.ms) (hl:x.ml≤1048576) :
  Calls Tryz.prog 41 #[sv x s,.string (bs nm)] w fun e w'=>e=.returned (.int .i64 (xM s.ms nm))∧Below w.heap.size w w':=by
 have HR:=aA h
 have HL:=aA h.1
 have HB0:=aA (yA (Below.refl _ w) (.cells (svc x s) 34))
 have P0:=aA (yD w (svc x s) 34)
 clear h
 obtain ⟨qa,ql,qc,aa,al,ac,ma,ml,mc,ca,cl,cc⟩:=x
 obtain ⟨qs,clock,epoch,next,serial,apps,ms,cs⟩:=s
 simp only at hl HR HL ⊢
 go_enter Tryz.func41,Tryz.ntmps41
 go_wp2
 go_loopw [5] (fun i wr=>∃(k:Nat),k≤ml∧i=.int .i64 k∧Hid (xM ms nm=jN nm (ms.drop k) k)∧Hid (Blk wr w.heap.size (svc ⟨qa,ql,qc,aa,al,ac,ma,ml,mc,ca,cl,cc⟩ ⟨qs,clock,epoch,next,serial,apps,ms,cs⟩) 34)∧Hid (Below w.heap.size w wr)) (fun i _=>ml - (intOf i).toNat)
 case atStart=>exact ⟨0,Nat.zero_le _,rfl,aA (by simp [xM]),P0,HB0⟩
 case round=>
  obtain ⟨k,hk,rfl,HQ,HP,HB⟩:=hrel
  have p6:=(uH HP).at 6
  simp at p6
  by_cases hlt:k<ml
  ·obtain ⟨b,off,rfl,hq⟩:=((uH HR).below (uH HB)).at hlt
   have hkl:k<ms.length:=by have:=uH HL;omega
   have hst:=aA (aBc (nm:=nm) hkl)
   have c0:=(hq hkl).1
   clear hq
   obtain ⟨s,hs⟩:∃s,ms[k].name=s:=⟨_,rfl⟩
   rw [hs] at c0 hst
   have hbe:=mV s nm
   clear hs hkl
   by_cases he:s=nm
   ·have HE:=aA he
    rw [decide_eq_true he] at hbe
    clear he
    go_wp2
    go_ret
    exact ⟨bQ (by rw [uH HQ,uH hst,if_pos (uH HE)]),uH HB⟩
   ·have HE:=aA he
    rw [decide_eq_false he] at hbe
    clear he
    go_wp2
    go_roundw
    case rel=>exact ⟨k+1,by omega,by go_num,aA (by rw [uH HQ,uH hst,if_neg (uH HE)]),HP,HB⟩
    case measure=>simp [intOf];omega
  ·go_wp2
   go_ret
   exact ⟨bQ (by rw [uH HQ,aDB (by have:=uH HL;omega)]),uH HB⟩
end
section
open Go.RowKit
def lK (w0:World) (b p:Nat) (q:Ask) (w:World):Prop:=qJ w b p q∧Below w0.heap.size w0 w
theorem lK.call {w0 w w':World} {b p:Nat} {q:Ask} (h:lK w0 b p q w) (hb:Below w.heap.size w w'):lK w0 b p q w':=⟨h.1.below hb,yB h.2 hb⟩
theorem lK.drew {w0 w:World} {b p:Nat} {q:Ask} (h:lK w0 b p q w):lK w0 b p q w.drew:=h.call (Below.refl _ _).drew
theorem lK.read (w0:World) (b p:Nat) (q:Ask):∀wx,lK w0 b p q wx→wx.cell? ⟨b,p,none⟩=some (.int .i64 q.mem)∧wx.cell? ⟨b,p+1,none⟩=some (.int .i64 q.cpu)∧wx.cell? ⟨b,p+2,none⟩=some (.int .i64 q.count)∧wx.cell? ⟨b,p+3,none⟩=some (.string (bs q.node))∧wx.cell? ⟨b,p+4,none⟩=some (.int .i64 q.missed):=
 fun wx h=>h.1
theorem aBx (ao:Option Addr) (n c K:Nat) (w:World) (h:aO w ao n (jM K n)) (hn:n≤1048576) (h0:0<K) (h1:K≤1000000000000000) :
  Calls Tryz.prog 78 #[.slice ao n c,.int .i64 (K:Int)] w fun e w'=>e=.returned (.int .i64 ((K:Int)+5*(n:Int)))∧Below w.heap.size w w':=by
 have HR:=aA h
 clear h
 go_enter Tryz.func78,Tryz.ntmps78
 go_wp2
 go_loopw [1,5] (fun s i wr=>∃(j:Nat) (k:Int),j≤n∧i=.int .i64 j∧s=.int .i64 k∧k=(K:Int)+5*(j:Int)∧Hid (Below w.heap.size w wr)) (fun _ i _=>n - (intOf i).toNat)
 case atStart=>exact ⟨0,K,Nat.zero_le _,rfl,rfl,by omega,aA (Below.refl _ _)⟩
 case round=>
  obtain ⟨j,k,hj,rfl,rfl,hk,HB⟩:=hrel
  by_cases hlt:j<n
  ·obtain ⟨b,off,rfl,hq⟩:=((uH HR).below (uH HB)).at hlt
   have hqq:=hq (by rw [zI];exact hlt)
   rw [aB4] at hqq
   have T0:∀wx,Calls Tryz.prog 47 #[.int .i64 (k+1+1+1)] wx fun e w'=>e=.returned (.string (bs (aB9 K j).node))∧Below wx.heap.size wx w':=fun wx=>by
    have:=aU (k+1+1+1) wx (by omega) (by omega)
    rw [show (k+1+1+1).toNat=K+5*j+1+1+1 by omega] at this
    exact this
   have hd:(aB9 K j).mem=k:=by rw [hk];rfl
   have hm:(aB9 K j).cpu=k+1:=by rw [hk];rfl
   have hp:(aB9 K j).count=k+1+1:=by rw [hk];rfl
   have hr:(aB9 K j).missed=k+1+1+1+1:=by rw [hk];rfl
   obtain ⟨q,hqe⟩:∃q,aB9 K j=q:=⟨_,rfl⟩
   rw [hqe] at hqq T0 hd hm hp hr
   have A0:=aA (show lK w b (off+j*5) q wr from ⟨hqq,uH HB⟩)
   have C0:=aA T0
   have HK:=aA hk
   have HR4:=aA hr
   have R:=lK.read w b (off+j*5) q
   have R':=aA R
   obtain ⟨r0,r1,r2,_,_⟩:=R _ (uH A0)
   rw [hd] at r0
   rw [hm] at r1
   rw [hp] at r2
   have j0:(0:Int)≤j:=by omega
   have j1:(j:Int)<n:=by omega
   have hk0:0<k:=by omega
   have hk1:k≤1000000010000000:=by omega
   have hw1:IntKind.i64.wrap (k+1)=k+1:=by rw [IntKind.wrap_i64];omega
   have hw2:IntKind.i64.wrap (k+1+1)=k+1+1:=by rw [IntKind.wrap_i64];omega
   have hw3:IntKind.i64.wrap (k+1+1+1)=k+1+1+1:=by rw [IntKind.wrap_i64];omega
   clear hq hqq T0 hqe hk hd hm hp hr R
   go_wp2_with fail
   have R:=uH R'
   clear r0 r1 r2
   go_region_held3 (fun wx=>lK w b (off+j*5) q wx)
    (first | (with_reducible assumption) | exact (uH A0).drew | exact lK.call (by assumption) (by assumption))
    (first
    | (go_at_call 47;refine (uH C0 _).mono ?_;rintro e wt ⟨rfl,hb⟩;have SA:=lK.call (w0:=w) (b:=b) (p:=off+j*5) (q:=q) (by assumption) hb))
   obtain ⟨_,_,_,_,r4⟩:=R _ SA
   rw [uH HR4] at r4
   have HB2:=aA SA.2
   clear SA A0 R C0 R'
   go_wp2
   go_roundw
   case rel=>exact ⟨j+1,k+1+1+1+1+1,by omega,by go_num,by go_num,by have:=uH HK;omega,HB2⟩
   case measure=>simp [intOf];omega
  ·have hjn:j=n:=by omega
   subst hjn
   go_wp2
   go_ret
   exact ⟨bQ (by omega),uH HB⟩
end
end Go.Proofs.YtdhibeclkdepiaaGreat
