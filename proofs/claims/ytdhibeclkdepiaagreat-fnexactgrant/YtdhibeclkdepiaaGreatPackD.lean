/-
  bI in one: ToQ, EqQ, IdxI, ShareI, HeldQ, MarkZ.
-/
import Derived.Test.YtdhibeclkdepiaaGreatPackA
import Derived.Shelf.Abstract
set_option maxRecDepth 100000
set_option maxHeartbeats 16000000
set_option linter.unusedVariables false
set_option linter.unusedSimpArgs false
namespace Go.Proofs.YtdhibeclkdepiaaGreat
section
open Go.RowKit
theorem aC4 (q:Q) (w:World) :
  Calls Tryz.prog 59 #[qv q] w fun e w'=>e=.returned (qv q)∧Below w.heap.size w w':=by
 obtain ⟨nm,pa,du,mo⟩:=q
 go_enter Tryz.func59,Tryz.ntmps59
 go_wp2
 refine bodyPost_ret (v:=qv ⟨nm,pa,du,mo⟩) (by simp [results,Tryz.results59,go_sem]) rfl ⟨rfl,?_⟩
 repeat (first | exact Below.refl _ _ | refine yA ?_ _ | refine Below.drew ?_ | refine yC ?_ _ _ _ (by omega))
theorem aGJ:(Tryz.prog.info? 100).map (fun i=>(i.zero,i.size,i.bytes))=some (some (qv ⟨[],[],0,0⟩),4,48):=by kernel_rfl
theorem aCy (n:Nat) (hn:n≤1048576) (w:World) :
  (Instr.makeSlice 29 (.int .i64 (n:Int)) (.int .i64 (n:Int))).run Tryz.prog w=.ok (.slice (some ⟨w.heap.size,0,none⟩) n n) (w.alloc (.cells (madeCells (qv ⟨[],[],0,0⟩).cells (n*4)) 100)):=by
 obtain ⟨i,hi,hz⟩:=Option.map_eq_some_iff.1 aGJ
 simp only [Prod.mk.injEq] at hz
 obtain ⟨hz,hs,hb⟩:=hz
 have hr:=run_make (P:=Tryz.prog) w 29 100 i _ Tryz.underlying29 hi hz .i64 .i64 n n (by omega) (Int.le_refl _) (by rw [hb];omega) (by omega)
 simp only [Int.toNat_natCast,hs] at hr
 exact hr
theorem aAw (ao:Option Addr) (len cap:Nat) (l:List Q) (w:World) (h:gM w ao len l) (hl:len≤1048576) :
  Calls Tryz.prog 25 #[.slice ao len cap] w fun e w'=>e=.returned (.slice (some ⟨w.heap.size,0,none⟩) len len)∧kZ w' 100 w.heap.size len len l∧Below w.heap.size w w':=by
 have HR:=aA h
 have HL:=aA h.1
 have hmk:=aCy len hl w
 obtain ⟨zs,hzs⟩:∃z,z=(qv ⟨[],[],0,0⟩).cells:=⟨_,rfl⟩
 rw [←hzs] at hmk
 clear h hzs
 go_enter Tryz.func25,Tryz.ntmps25
 go_wp2
 clear hmk
 go_loopw [4] (fun i wr=>∃k:Nat,k≤len∧i=.int .i64 k∧Hid (kZ wr 100 w.heap.size len k l)∧Hid (Below w.heap.size w wr)) (fun i _=>len - (intOf i).toNat)
 case atStart=>exact ⟨0,Nat.zero_le _,rfl,aA (aGL w _ _ _ _),aA (yA (Below.refl _ _) _)⟩
 case round=>
  obtain ⟨k,hk,rfl,HQ,HB⟩:=hrel
  by_cases hlt:k<len
  ·obtain ⟨b,off,rfl,hq⟩:=((uH HR).below (uH HB)).at hlt
   have hkl:k<l.length:=by have:=uH HL;omega
   obtain ⟨c0,c1,c2,c3⟩:=hq hkl
   obtain ⟨q,hs⟩:∃q,l[k]=q:=⟨_,rfl⟩
   rw [hs] at c0 c1 c2 c3
   have hst:∀wx,kZ wx 100 w.heap.size len k l→kZ (aK3 wx w.heap.size (k*4) q) 100 w.heap.size len (k+1) l:=fun wx hx=>by have:=hx.step hlt hkl;rw [hs] at this;exact this
   have HST:=aA hst
   clear hst hq hs hkl
   go_wp2_with fail
   refine (aC4 q _).mono ?_
   rintro e w1 ⟨rfl,hb⟩
   have HQ1:=aA ((uH HQ).below hb)
   have HB1:=aA (yB (uH HB) hb)
   clear hb c0 c1 c2 c3
   obtain ⟨v0,d0⟩:=(uH HQ1).cell (j:=k*4) (by omega)
   obtain ⟨v1,d1⟩:=(uH HQ1).cell (j:=k*4+1) (by omega)
   obtain ⟨v2,d2⟩:=(uH HQ1).cell (j:=k*4+2) (by omega)
   obtain ⟨v3,d3⟩:=(uH HQ1).cell (j:=k*4+3) (by omega)
   have f0:=(uH HQ1).frozen (k*4)
   have f1:=(uH HQ1).frozen (k*4+1)
   have f2:=(uH HQ1).frozen (k*4+2)
   have f3:=(uH HQ1).frozen (k*4+3)
   go_wp2
   go_roundw
   case rel=>exact ⟨k+1,by omega,by go_num,aA (uH HST _ (uH HQ1)),aA (yC (yC (yC (yC (uH HB1) _ _ _ (by omega)) _ _ _ (by omega)) _ _ _ (by omega)) _ _ _ (by omega))⟩
   case measure=>simp [intOf];omega
  ·have hkk:k=len:=by omega
   subst hkk
   go_wp2
   go_ret
   exact ⟨rfl,uH HQ,uH HB⟩
theorem aCC (q:Q) (w:World) :
  Calls Tryz.prog 74 #[qv q,qv q] w fun e w'=>e=.returned (.bool true)∧Below w.heap.size w w':=by
 obtain ⟨nm,pa,du,mo⟩:=q
 go_enter Tryz.func74,Tryz.ntmps74
 go_wp2
 go_ret
 refine ⟨rfl,?_⟩
 repeat (first | exact Below.refl _ _ | refine yA ?_ _ | refine Below.drew ?_ | refine yC ?_ _ _ _ (by omega))
def aFa (w0:World) (b p c r:Nat) (q:Q) (w:World):Prop:=QAt w b p q∧QAt w c r q∧Below w0.heap.size w0 w
theorem aFa.call {w0 w w':World} {b p c r:Nat} {q:Q} (h:aFa w0 b p c r q w) (hb:Below w.heap.size w w'):aFa w0 b p c r q w':=⟨h.1.below hb,h.2.1.below hb,yB h.2.2 hb⟩
theorem aFa.drew {w0 w:World} {b p c r:Nat} {q:Q} (h:aFa w0 b p c r q w):aFa w0 b p c r q w.drew:=h.call (Below.refl _ _).drew
theorem aFa.read (w0:World) (b p c r:Nat) (q:Q):∀wx,aFa w0 b p c r q wx→wx.cell? ⟨b,p,none⟩=some (.string (bs q.name))∧wx.cell? ⟨b,p+1,none⟩=some (.string (bs q.parent))∧wx.cell? ⟨b,p+2,none⟩=some (.int .i64 q.due)∧wx.cell? ⟨b,p+3,none⟩=some (.int .i64 q.most)
  ∧wx.cell? ⟨c,r,none⟩=some (.string (bs q.name))∧wx.cell? ⟨c,r+1,none⟩=some (.string (bs q.parent))∧wx.cell? ⟨c,r+2,none⟩=some (.int .i64 q.due)∧wx.cell? ⟨c,r+3,none⟩=some (.int .i64 q.most):=
 fun wx h=>⟨h.1.1,h.1.2.1,h.1.2.2.1,h.1.2.2.2,h.2.1.1,h.2.1.2.1,h.2.1.2.2.1,h.2.1.2.2.2⟩
theorem aAe (ao bo:Option Addr) (len cap ccap:Nat) (l:List Q) (w:World) (h:gM w ao len l) (h':gM w bo len l) (hl:len≤1048576) :
  Calls Tryz.prog 31 #[.slice ao len cap,.slice bo len ccap] w fun e w'=>e=.returned (.bool true)∧Below w.heap.size w w':=by
 have HR:=aA h
 have HR':=aA h'
 have HL:=aA h.1
 clear h h'
 go_enter Tryz.func31,Tryz.ntmps31
 go_wp2
 go_loopw [5] (fun i wr=>∃k:Nat,k≤len∧i=.int .i64 k∧Hid (Below w.heap.size w wr)) (fun i _=>len - (intOf i).toNat)
 case atStart=>exact ⟨0,Nat.zero_le _,rfl,aA (Below.refl _ _)⟩
 case round=>
  obtain ⟨k,hk,rfl,HB⟩:=hrel
  by_cases hlt:k<len
  ·obtain ⟨b,off,rfl,hq⟩:=((uH HR).below (uH HB)).at hlt
   obtain ⟨c,coff,rfl,hq'⟩:=((uH HR').below (uH HB)).at hlt
   have hkl:k<l.length:=by have:=uH HL;omega
   have A0:=aA (show aFa w b (off+k*4) c (coff+k*4) l[k] wr from ⟨hq hkl,hq' hkl,uH HB⟩)
   obtain ⟨q,hs⟩:∃q,l[k]=q:=⟨_,rfl⟩
   rw [hs] at A0
   have R:=aFa.read w b (off+k*4) c (coff+k*4) q
   have k0:(0:Int)≤k:=by omega
   have k1:(k:Int)<len:=by omega
   clear hq hq' hs hkl
   go_wp2_with fail
   go_region_held3 (fun wx=>aFa w b (off+k*4) c (coff+k*4) q wx)
    (first | (with_reducible assumption) | exact (uH A0).drew | exact aFa.call (by assumption) (by assumption))
    (first
    | (go_at_call 74;refine (aCC _ _).mono ?_;rintro e wt ⟨rfl,hb⟩;have SA:=aFa.call (w0:=w) (b:=b) (p:=off+k*4) (c:=c) (r:=coff+k*4) (q:=q) (by assumption) hb))
   have HB2:=aA SA.2.2
   clear SA R A0
   go_wp2
   go_roundw
   case rel=>exact ⟨k+1,by omega,by go_num,HB2⟩
   case measure=>simp [intOf];omega
  ·go_wp2
   go_ret
   exact ⟨rfl,uH HB⟩
def gJ (p:Q→Bool):List Q→Nat→Int
 | [],_=>-1
 | q::t,k=>if p q=true then (k:Int) else gJ p t (k+1)
theorem aBu {p:Q→Bool} {l:List Q} {k:Nat} (h:k<l.length):gJ p (l.drop k) k=if p l[k]=true then (k:Int) else gJ p (l.drop (k+1)) (k+1):=by
 rw [List.drop_eq_getElem_cons h,gJ]
theorem aDR {p:Q→Bool} {l:List Q} {k:Nat} (h:l.length≤k):gJ p (l.drop k) k = -1:=by
 rw [List.drop_of_length_le h];rfl
theorem aBt (nm:List UInt8):∀(l:List Q) (k:Nat),gJ (fun q=>decide (q.name=nm)) l k=aP nm l k
 | [],_=>rfl
 | q::t,k=>by
  rw [gJ,aP,aBt nm t (k+1)]
  by_cases h:q.name=nm<;>simp [h]
theorem aGl (p:Q→Bool):∀(l:List Q) (k:Nat),decide (0≤gJ p l k)=l.any p
 | [],_=>by simp [gJ]
 | q::t,k=>by
  rw [gJ,List.any_cons]
  by_cases h:p q=true
  ·rw [if_pos h,h];simp
  ·rw [if_neg h,aGl p t (k+1)];simp [h]
theorem pU (g:Nat) (lb:Array Value) (eg:∀args w,(callFunc g args).run Tryz.prog w=.ok (.enter g args) w) (p:Q→Bool) (ao:Option Addr) (len cap:Nat) (l:List Q) (w:World) (h:gM w ao len l) (hl:len≤1048576)
  (hp:∀wx q,Below w.heap.size w wx→Calls Tryz.prog g (#[qv q]++lb) wx fun e w'=>e=.returned (.bool (p q))∧Below wx.heap.size wx w') :
  Calls Tryz.prog 178 #[.slice ao len cap,.func (.func g) #[] lb] w fun e w'=>e=.returned (.int .i64 (gJ p l 0))∧Below w.heap.size w w':=by
 have HR:=aA h
 have HL:=aA h.1
 have HP:=aA hp
 clear h hp
 go_enter Tryz.func178,Tryz.ntmps178
 go_wp2
 go_loopw [5,8] (fun _ i wr=>∃k:Nat,k≤len∧i=.int .i64 k∧Hid (gJ p l 0=gJ p (l.drop k) k)∧Hid (Below w.heap.size w wr)) (fun _ i _=>len - (intOf i).toNat)
 case atStart=>exact ⟨0,Nat.zero_le _,rfl,aA (by simp),aA (Below.refl _ _)⟩
 case round=>
  obtain ⟨k,hk,rfl,hq,HB⟩:=hrel
  by_cases hlt:k<len
  ·obtain ⟨b,off,rfl,hx⟩:=((uH HR).below (uH HB)).at hlt
   have hkl:k<l.length:=by have:=uH HL;omega
   have hst:=aA (aBu (p:=p) (l:=l) (k:=k) hkl)
   obtain ⟨c0,c1,c2,c3⟩:=hx hkl
   clear hx
   obtain ⟨⟨nm,pa,du,mo⟩,hs⟩:∃s,l[k]=s:=⟨_,rfl⟩
   rw [hs] at c0 c1 c2 c3 hst
   simp only at c0 c1 c2 c3
   have HC:=aA (uH HP wr ⟨nm,pa,du,mo⟩ (uH HB))
   clear hs hkl HP
   cases hpq:p ⟨nm,pa,du,mo⟩ with
   | true=>
    rw [hpq] at HC
    have HQ:=aA hpq
    clear hpq
    go_wp2_with (go_at_fn g;refine (uH HC).mono ?_;rintro e w' ⟨rfl,hb⟩)
    go_ret
    exact ⟨bQ (by rw [uH hq,uH hst,if_pos (uH HQ)]),yB (uH HB) hb⟩
   | false=>
    rw [hpq] at HC
    have HQ:=aA hpq
    clear hpq
    go_wp2_with (go_at_fn g;refine (uH HC).mono ?_;rintro e w' ⟨rfl,hb⟩)
    go_roundw
    case rel=>exact ⟨k+1,by omega,by go_num,aA (by rw [uH hq,uH hst,if_neg (by rw [uH HQ];simp)]),aA (yB (uH HB) hb)⟩
    case measure=>simp [intOf];omega
  ·go_wp2
   go_ret
   exact ⟨bQ (by rw [uH hq,aDR (by have:=uH HL;omega)]),uH HB⟩
theorem aCl (B:Nat) (nm:List UInt8) (q:Q) (w:World) (hc:w.cell? ⟨B,0,none⟩=some (.string (bs nm))) :
  Calls Tryz.prog 179 #[qv q,.pointer (some ⟨B,0,none⟩)] w fun e w'=>e=.returned (.bool (decide (q.name=nm)))∧Below w.heap.size w w':=by
 have hlt:=yG hc
 have hc2:(w.alloc (.cells #[.string (bs q.name),.string (bs q.parent),.int .i64 q.due,.int .i64 q.most] 100)).cell? ⟨B,0,none⟩=some (.string (bs nm)):=by rw [World.cell?_alloc_lt _ _ ⟨B,0,none⟩ hlt];exact hc
 have hbe:=mV q.name nm
 clear hc hlt
 go_enter Tryz.func179,Tryz.ntmps179
 go_wp2
 go_ret
 exact ⟨rfl,yA (Below.refl _ _) _⟩
theorem o9 (ao:Option Addr) (len cap:Nat) (l:List Q) (nm:List UInt8) (w:World) (h:gM w ao len l) (hl:len≤1048576) :
  Calls Tryz.prog 141 #[.slice ao len cap,.string (bs nm)] w fun e w'=>e=.returned (.int .i64 (place l nm))∧Below w.heap.size w w':=by
 have hmf:∀(fn:Fn) (first cap:Array Value) (w:World),(Instr.makeFunc fn first cap).run Tryz.prog w=.ok (.func fn first cap) w:=fun _ _ _ _=>rfl
 have hb0:=yA (Below.refl _ w) (.cells #[.string (bs nm)] 9)
 have C:=aA (pU 179 #[.pointer (some ⟨w.heap.size,0,none⟩)] (enters_of Tryz.func179 (by kernel_rfl) rfl) (fun q=>decide (q.name=nm)) ao len cap l _ (h.below hb0) hl
  (fun wx q hb=>aCl w.heap.size nm q wx ((hb.cell (p:=⟨w.heap.size,0,none⟩) (by simp)).trans (by simp))))
 rw [aBt] at C
 obtain ⟨p,hp⟩:∃p,aP nm l 0=p:=⟨_,rfl⟩
 rw [show place l nm=p from hp]
 rw [hp] at C
 have HB0:=aA hb0
 clear h hb0 hp
 go_enter Tryz.func141,Tryz.ntmps141
 go_wp2_with fail
 refine (uH C).mono ?_
 rintro e w1 ⟨rfl,hb⟩
 have HB:=aA (yB (uH HB0) hb)
 clear hb
 go_wp2
 go_ret
 exact ⟨rfl,uH HB⟩
theorem pW (a b n:Int) (w:World) :
  Calls Tryz.prog 208 #[rv a b,.int .i64 n] w fun e w'=>e=.returned (rv (dO a b n) (dP a b n))∧Below w.heap.size w w':=by
 cases h1:aR a b
 ·rw [show dO a b n=0 by simp [dO,fB,h1],show dP a b n=0 by simp [dP,fB,h1]]
  go_enter Tryz.func208,Tryz.ntmps208
  go_wp2_with (go_at_call 155;refine (pI _ _ _).mono ?_;rintro e w' ⟨rfl,rfl⟩)
  refine bodyPost_ret (v:=rv 0 0) (by simp [results,Tryz.results208,go_sem]) rfl ⟨rfl,?_⟩
  repeat (first | exact Below.refl _ _ | refine yA ?_ _ | refine Below.drew ?_ | refine yC ?_ _ _ _ (by omega))
 ·cases h2:inB n 0 10000
  ·rw [show dO a b n=0 by simp [dO,fB,h2],show dP a b n=0 by simp [dP,fB,h2]]
   by_cases n0:n<0
   ·go_enter Tryz.func208,Tryz.ntmps208
    go_wp2_with (go_at_call 155;refine (pI _ _ _).mono ?_;rintro e w' ⟨rfl,rfl⟩)
    refine bodyPost_ret (v:=rv 0 0) (by simp [results,Tryz.results208,go_sem]) rfl ⟨rfl,?_⟩
    repeat (first | exact Below.refl _ _ | refine yA ?_ _ | refine Below.drew ?_ | refine yC ?_ _ _ _ (by omega))
   ·have n1:10000<n:=by
     apply Int.not_le.1
     intro h
     have:inB n 0 10000=true:=bT (by omega) h
     rw [this] at h2;cases h2
    go_enter Tryz.func208,Tryz.ntmps208
    go_wp2_with (go_at_call 155;refine (pI _ _ _).mono ?_;rintro e w' ⟨rfl,rfl⟩)
    refine bodyPost_ret (v:=rv 0 0) (by simp [results,Tryz.results208,go_sem]) rfl ⟨rfl,?_⟩
    repeat (first | exact Below.refl _ _ | refine yA ?_ _ | refine Below.drew ?_ | refine yC ?_ _ _ _ (by omega))
  ·rw [show dO a b n=a*n / 10000 by simp [dO,fB,h1,h2],show dP a b n=b*n / 10000 by simp [dP,fB,h1,h2]]
   obtain ⟨q1,q2,q3,q4⟩:=dH h1
   have hn:0≤n∧n≤10000:=by simpa [inB] using h2
   obtain ⟨m1,m2⟩:=zB q1 q2 hn.1 hn.2
   obtain ⟨m3,m4⟩:=zB q3 q4 hn.1 hn.2
   go_enter Tryz.func208,Tryz.ntmps208
   go_wp2_with (go_at_call 155;refine (pI _ _ _).mono ?_;rintro e w' ⟨rfl,rfl⟩)
   refine bodyPost_ret (v:=rv (a*n / 10000) (b*n / 10000)) (by simp [results,Tryz.results208,go_sem]) rfl ⟨rfl,?_⟩
   repeat (first | exact Below.refl _ _ | refine yA ?_ _ | refine Below.drew ?_ | refine yC ?_ _ _ _ (by omega))
def aCY (w0:World) (b p:Nat) (q:Q) (w:World):Prop:=QAt w b p q∧Below w0.heap.size w0 w
theorem aCY.call {w0 w w':World} {b p:Nat} {q:Q} (h:aCY w0 b p q w) (hb:Below w.heap.size w w'):aCY w0 b p q w':=⟨h.1.below hb,yB h.2 hb⟩
theorem aCY.drew {w0 w:World} {b p:Nat} {q:Q} (h:aCY w0 b p q w):aCY w0 b p q w.drew:=h.call (Below.refl _ _).drew
theorem aCY.read (w0:World) (b p:Nat) (q:Q):∀wx,aCY w0 b p q wx→wx.cell? ⟨b,p,none⟩=some (.string (bs q.name))∧wx.cell? ⟨b,p+1,none⟩=some (.string (bs q.parent))∧wx.cell? ⟨b,p+2,none⟩=some (.int .i64 q.due)∧wx.cell? ⟨b,p+3,none⟩=some (.int .i64 q.most):=
 fun wx h=>⟨h.1.1,h.1.2.1,h.1.2.2.1,h.1.2.2.2⟩
theorem xR (g n c:Nat) (w:World) (h:gM w (some ⟨g,0,none⟩) n (mE n)) (hn:n≤1048576) :
  Calls Tryz.prog 38 #[.slice (some ⟨g,0,none⟩) n c,.int .i64 1] w fun e w'=>e=.returned (.int .i64 (1+4*(n:Int)))∧Below w.heap.size w w':=by
 have HR:=aA h
 clear h
 go_enter Tryz.func38,Tryz.ntmps38
 go_wp2
 go_loopw [1,5] (fun s i wr=>∃(j:Nat) (k:Int),j≤n∧i=.int .i64 j∧s=.int .i64 k∧k=1+4*(j:Int)∧Hid (Below w.heap.size w wr)) (fun _ i _=>n - (intOf i).toNat)
 case atStart=>exact ⟨0,1,Nat.zero_le _,rfl,rfl,by omega,aA (Below.refl _ _)⟩
 case round=>
  obtain ⟨j,k,hj,rfl,rfl,hk,HB⟩:=hrel
  by_cases hlt:j<n
  ·obtain ⟨b,off,e,hq⟩:=((uH HR).below (uH HB)).at hlt
   simp only [Option.some.injEq,Addr.mk.injEq,and_true] at e
   obtain ⟨rfl,rfl⟩:=e
   have hqq:=hq (by rw [zF];exact hlt)
   rw [aB1] at hqq
   have T0:∀wx,Calls Tryz.prog 47 #[.int .i64 k] wx fun e w'=>e=.returned (.string (bs (aCw j).name))∧Below wx.heap.size wx w':=fun wx=>by
    have:=aU k wx (by omega) (by omega)
    rw [show k.toNat=1+4*j by omega] at this
    exact this
   have T1:∀wx,Calls Tryz.prog 47 #[.int .i64 (k+1)] wx fun e w'=>e=.returned (.string (bs (aCw j).parent))∧Below wx.heap.size wx w':=fun wx=>by
    have:=aU (k+1) wx (by omega) (by omega)
    rw [show (k+1).toNat=1+4*j+1 by omega] at this
    exact this
   have hd:(aCw j).due=k+1+1:=by rw [hk];rfl
   have hm:(aCw j).most=k+1+1+1:=by rw [hk];rfl
   obtain ⟨q,hqe⟩:∃q,aCw j=q:=⟨_,rfl⟩
   rw [hqe] at hqq T0 T1 hd hm
   have A0:=aA (show aCY w g (0+j*4) q wr from ⟨hqq,uH HB⟩)
   have C0:=aA T0
   have C1:=aA T1
   have HK:=aA hk
   have HD:=aA hd
   have HM:=aA hm
   have R:=aCY.read w g (0+j*4) q
   simp only [Nat.zero_add] at A0 R
   have j0:(0:Int)≤j:=by omega
   have j1:(j:Int)<n:=by omega
   have hk0:0<k:=by omega
   have hk1:k≤4194305:=by omega
   have hw1:IntKind.i64.wrap (k+1)=k+1:=by rw [IntKind.wrap_i64];omega
   clear hq hqq T0 T1 hqe hk hd hm
   go_wp2_with fail
   go_region_held3 (fun wx=>aCY w g (j*4) q wx)
    (first | (with_reducible assumption) | exact (uH A0).drew | exact aCY.call (by assumption) (by assumption))
    (first
    | (go_at_call 47;refine (uH C0 _).mono ?_;rintro e wt ⟨rfl,hb⟩;have SA:=aCY.call (w0:=w) (b:=g) (p:=j*4) (q:=q) (by assumption) hb))
   have A1:=aA SA
   clear SA A0
   go_wp2_with fail
   go_region_held3 (fun wx=>aCY w g (j*4) q wx)
    (first | (with_reducible assumption) | exact (uH A1).drew | exact aCY.call (by assumption) (by assumption))
    (first
    | (go_at_call 47;refine (uH C1 _).mono ?_;rintro e wt2 ⟨rfl,hb⟩;have SA:=aCY.call (w0:=w) (b:=g) (p:=j*4) (q:=q) (by assumption) hb))
   obtain ⟨_,_,r2,r3⟩:=R _ SA
   rw [uH HD] at r2
   rw [uH HM] at r3
   have HB2:=aA SA.2
   clear SA A1 R C0 C1
   go_wp2
   go_roundw
   case rel=>exact ⟨j+1,k+1+1+1+1,by omega,by go_num,by go_num,by have:=uH HK;omega,HB2⟩
   case measure=>simp [intOf];omega
  ·have hjn:j=n:=by omega
   subst hjn
   go_wp2
   go_ret
   exact ⟨bQ (by omega),uH HB⟩
theorem vF (ao:Option Addr) (c:Nat) (w:World) :
  Calls Tryz.prog 35 #[.slice ao 0 c,.int .i64 1] w fun e w'=>e=.returned (.int .i64 1)∧w=w':=by
 go_enter Tryz.func35,Tryz.ntmps35
 go_wp2
 go_loopw [1,5] (fun s i wr=>i=.int .i64 0∧s=.int .i64 1∧wr=w) (fun _ _ _=>0)
 case atStart=>exact ⟨rfl,rfl,rfl⟩
 case round=>
  obtain ⟨rfl,rfl,rfl⟩:=hrel
  go_wp2
  go_ret
  exact ⟨rfl,rfl⟩
theorem vW (ao:Option Addr) (c:Nat) (w:World) :
  Calls Tryz.prog 38 #[.slice ao 0 c,.int .i64 1] w fun e w'=>e=.returned (.int .i64 1)∧w=w':=by
 go_enter Tryz.func38,Tryz.ntmps38
 go_wp2
 go_loopw [1,5] (fun s i wr=>i=.int .i64 0∧s=.int .i64 1∧wr=w) (fun _ _ _=>0)
 case atStart=>exact ⟨rfl,rfl,rfl⟩
 case round=>
  obtain ⟨rfl,rfl,rfl⟩:=hrel
  go_wp2
  go_ret
  exact ⟨rfl,rfl⟩
end
end Go.Proofs.YtdhibeclkdepiaaGreat
