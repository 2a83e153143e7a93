/-
  Texts in one: EqQ, Both, AddS, IdxI, Name, ShareI, SubI, HeldQ, MarkZ, SubS.
-/
import Derived.Test.YtdhibeclkdepiaaGreatSackA
import Derived.Shelf.Abstract
set_option maxRecDepth 100000
set_option maxHeartbeats 16000000
set_option linter.unusedVariables false
set_option linter.unusedSimpArgs false
namespace Go.Proofs.YtdhibeclkdepiaaGreat
section
open Go.RowKit
theorem aCz (q:Q) (w:World) :
  Calls Tryz.prog 74 #[qv q,qv q] w fun e w'=>e=.returned (.bool true)∧Below w.heap.size w w':=by
 obtain ⟨nm,pa,du,mo⟩:=q
 go_enter Tryz.func74,Tryz.ntmps74
 go_wp2
 go_ret
 refine ⟨rfl,?_⟩
 repeat (first | exact yH _ _ | refine yA ?_ _ | refine Below.drew ?_ | refine yC ?_ _ _ _ (by omega))
def aGe (w0:World) (b p c r:Nat) (q:Q) (w:World):Prop:=QAt w b p q∧QAt w c r q∧Below w0.heap.size w0 w
theorem aGe.call {w0 w w':World} {b p c r:Nat} {q:Q} (h:aGe w0 b p c r q w) (hb:Below w.heap.size w w'):aGe w0 b p c r q w':=⟨h.1.below hb,h.2.1.below hb,yB h.2.2 hb⟩
theorem aGe.drew {w0 w:World} {b p c r:Nat} {q:Q} (h:aGe w0 b p c r q w):aGe w0 b p c r q w.drew:=h.call (yH _ _).drew
theorem aGe.read (w0:World) (b p c r:Nat) (q:Q):∀wx,aGe w0 b p c r q wx→wx.cell? ⟨b,p,none⟩=some (.string (bs q.name))∧wx.cell? ⟨b,p+1,none⟩=some (.string (bs q.parent))∧wx.cell? ⟨b,p+2,none⟩=some (.int .i64 q.due)∧wx.cell? ⟨b,p+3,none⟩=some (.int .i64 q.most)
  ∧wx.cell? ⟨c,r,none⟩=some (.string (bs q.name))∧wx.cell? ⟨c,r+1,none⟩=some (.string (bs q.parent))∧wx.cell? ⟨c,r+2,none⟩=some (.int .i64 q.due)∧wx.cell? ⟨c,r+3,none⟩=some (.int .i64 q.most):=
 fun wx h=>⟨h.1.1,h.1.2.1,h.1.2.2.1,h.1.2.2.2,h.2.1.1,h.2.1.2.1,h.2.1.2.2.1,h.2.1.2.2.2⟩
theorem aB6 (ao bo:Option Addr) (len cap ccap:Nat) (l:List Q) (w:World) (h:iG w ao len l) (h':iG w bo len l) (hl:len≤1048576) :
  Calls Tryz.prog 31 #[.slice ao len cap,.slice bo len ccap] w fun e w'=>e=.returned (.bool true)∧Below w.heap.size w w':=by
 have HR:=aA h
 have HR':=aA h'
 have HL:=aA h.1
 clear h h'
 go_enter Tryz.func31,Tryz.ntmps31
 go_wp2
 go_loopw [5] (fun i wr=>∃k:Nat,k≤len∧i=.int .i64 k∧Hid (Below w.heap.size w wr)) (fun i _=>len - (intOf i).toNat)
 case atStart=>exact ⟨0,Nat.zero_le _,rfl,aA (yH _ _)⟩
 case round=>
  obtain ⟨k,hk,rfl,HB⟩:=hrel
  by_cases hlt:k<len
  ·obtain ⟨b,off,rfl,hq⟩:=((uH HR).below (uH HB)).at hlt
   obtain ⟨c,coff,rfl,hq'⟩:=((uH HR').below (uH HB)).at hlt
   have hkl:k<l.length:=by have:=uH HL;omega
   have A0:=aA (show aGe w b (off+k*4) c (coff+k*4) l[k] wr from ⟨hq hkl,hq' hkl,uH HB⟩)
   obtain ⟨q,hs⟩:∃q,l[k]=q:=⟨_,rfl⟩
   rw [hs] at A0
   have R:=aGe.read w b (off+k*4) c (coff+k*4) q
   have k0:(0:Int)≤k:=by omega
   have k1:(k:Int)<len:=by omega
   clear hq hq' hs hkl
   go_wp2_with fail
   go_region_held3 (fun wx=>aGe w b (off+k*4) c (coff+k*4) q wx)
    (first | (with_reducible assumption) | exact (uH A0).drew | exact aGe.call (by assumption) (by assumption))
    (first
    | (go_at_call 74;refine (aCz _ _).mono ?_;rintro e wt ⟨rfl,hb⟩;have SA:=aGe.call (w0:=w) (b:=b) (p:=off+k*4) (c:=c) (r:=coff+k*4) (q:=q) (by assumption) hb))
   have HB2:=aA SA.2.2
   clear SA R A0
   go_wp2
   go_roundw
   case rel=>exact ⟨k+1,by omega,by go_num,HB2⟩
   case measure=>simp [intOf];omega
  ·go_wp2
   go_ret
   exact ⟨rfl,uH HB⟩
theorem wY (a b c d s:Int) (w:World) (hs:s=1∨s = -1) :
  Calls Tryz.prog 158 #[rv a b,rv c d,.int .i64 s] w fun e w'=>e=.returned (.tuple #[jQ s a b c d,.bool (aI s a b c d)])∧Below w.heap.size w w':=by
 cases h1:aL a b
 ·have hb:aI s a b c d=false:=by simp [aI,h1]
  rw [kL hb,hb]
  go_enter Tryz.func158,Tryz.ntmps158
  go_wp2_with (go_at_call 94;refine (aQ _ _ _).mono ?_;rintro e w' ⟨rfl,rfl⟩)
  refine bodyPost_ret (v:=.tuple #[rv 0 0,.bool false]) (by simp [results,Tryz.results158,go_sem]) rfl ⟨rfl,?_⟩
  repeat (first | exact yH _ _ | refine yA ?_ _ | refine yC ?_ _ _ _ (by omega))
 ·cases h2:aL c d
  ·have hb:aI s a b c d=false:=by simp [aI,h2]
   rw [kL hb,hb]
   go_enter Tryz.func158,Tryz.ntmps158
   go_wp2_with (go_at_call 94;refine (aQ _ _ _).mono ?_;rintro e w' ⟨rfl,rfl⟩)
   refine bodyPost_ret (v:=.tuple #[rv 0 0,.bool false]) (by simp [results,Tryz.results158,go_sem]) rfl ⟨rfl,?_⟩
   repeat (first | exact yH _ _ | refine yA ?_ _ | refine yC ?_ _ _ _ (by omega))
  ·obtain ⟨q1,q2,q3,q4⟩:=bN h1
   obtain ⟨q5,q6,q7,q8⟩:=bN h2
   have m1:IntKind.i64.wrap (s*c)=s*c:=by rw [IntKind.wrap_i64];rcases hs with rfl | rfl<;>omega
   have m2:IntKind.i64.wrap (s*d)=s*d:=by rw [IntKind.wrap_i64];rcases hs with rfl | rfl<;>omega
   have m3:IntKind.i64.wrap (a+s*c)=a+s*c:=by rw [IntKind.wrap_i64];rcases hs with rfl | rfl<;>omega
   have m4:IntKind.i64.wrap (b+s*d)=b+s*d:=by rw [IntKind.wrap_i64];rcases hs with rfl | rfl<;>omega
   cases h3:aL (a+s*c) (b+s*d)
   ·have hb:aI s a b c d=false:=by simp [aI,h3]
    rw [kL hb,hb]
    go_enter Tryz.func158,Tryz.ntmps158
    go_wp2_with (go_at_call 94;refine (aQ _ _ _).mono ?_;rintro e w' ⟨rfl,rfl⟩)
    refine bodyPost_ret (v:=.tuple #[rv 0 0,.bool false]) (by simp [results,Tryz.results158,go_sem]) rfl ⟨rfl,?_⟩
    repeat (first | exact yH _ _ | refine yA ?_ _ | refine yC ?_ _ _ _ (by omega))
   ·have hb:aI s a b c d=true:=by simp [aI,h1,h2,h3]
    rw [kW hb,hb]
    go_enter Tryz.func158,Tryz.ntmps158
    go_wp2_with (go_at_call 94;refine (aQ _ _ _).mono ?_;rintro e w' ⟨rfl,rfl⟩)
    refine bodyPost_ret (v:=.tuple #[rv (a+s*c) (b+s*d),.bool true]) (by simp [results,Tryz.results158,go_sem]) rfl ⟨rfl,?_⟩
    repeat (first | exact yH _ _ | refine yA ?_ _ | refine yC ?_ _ _ _ (by omega))
theorem vV (a b c d:Int) (w:World) :
  Calls Tryz.prog 129 #[rv a b,rv c d] w fun e w'=>e=.returned (.tuple #[jQ 1 a b c d,.bool (aI 1 a b c d)])∧Below w.heap.size w w':=by
 have hv:∃x y,jQ 1 a b c d=rv x y:=by unfold jQ;split<;>exact ⟨_,_,rfl⟩
 obtain ⟨x,y,hv⟩:=hv
 have hc:=wY a b c d 1 ((w.alloc (.cells #[.int .i64 a,.int .i64 b] 36)).alloc (.cells #[.int .i64 c,.int .i64 d] 36) |>.alloc (.cells #[.int .i64 0,.int .i64 0] 36)) (by decide)
 rw [hv] at hc ⊢
 go_enter Tryz.func129,Tryz.ntmps129
 go_wp2_with fail
 refine hc.mono ?_
 rintro e w1 ⟨rfl,hb⟩
 have hk:Var w1 36 (w.heap.size+1+1) 0 0:=Var.below (by simpa using aH ((w.alloc (.cells #[.int .i64 a,.int .i64 b] 36)).alloc (.cells #[.int .i64 c,.int .i64 d] 36)) 36 0 0) hb
 have k0:=hk.c0
 have k1:=hk.c1
 have k2:=hk.f 0
 have k3:=hk.f 1
 have k4:=hk.s0 (.int .i64 x)
 have k5:=hk.s1 (.int .i64 x) (.int .i64 y)
 have HB:=aA (yB (yA (yA (yA (yH _ _) _) _) _) hb)
 clear hb hc hk
 go_wp2
 refine bodyPost_ret (v:=.tuple #[rv x y,.bool (aI 1 a b c d)]) (by simp [results,Tryz.results129,go_sem,k4,k5]) rfl ⟨rfl,?_⟩
 repeat (first | exact uH HB | refine yA ?_ _ | refine yC ?_ _ _ _ (by omega))
def iD (p:Q→Bool):List Q→Nat→Int
 | [],_=>-1
 | q::t,k=>if p q=true then (k:Int) else iD p t (k+1)
theorem aCr {p:Q→Bool} {l:List Q} {k:Nat} (h:k<l.length):iD p (l.drop k) k=if p l[k]=true then (k:Int) else iD p (l.drop (k+1)) (k+1):=by
 rw [List.drop_eq_getElem_cons h,iD]
theorem aEO {p:Q→Bool} {l:List Q} {k:Nat} (h:l.length≤k):iD p (l.drop k) k = -1:=by
 rw [List.drop_of_length_le h];rfl
theorem aCq (nm:List UInt8):∀(l:List Q) (k:Nat),iD (fun q=>decide (q.name=nm)) l k=aP nm l k
 | [],_=>rfl
 | q::t,k=>by
  rw [iD,aP,aCq nm t (k+1)]
  by_cases h:q.name=nm<;>simp [h]
theorem aHp (p:Q→Bool):∀(l:List Q) (k:Nat),decide (0≤iD p l k)=l.any p
 | [],_=>by simp [iD]
 | q::t,k=>by
  rw [iD,List.any_cons]
  by_cases h:p q=true
  ·rw [if_pos h,h];simp
  ·rw [if_neg h,aHp p t (k+1)];simp [h]
theorem qX (g:Nat) (lb:Array Value) (eg:∀args w,(callFunc g args).run Tryz.prog w=.ok (.enter g args) w) (p:Q→Bool) (ao:Option Addr) (len cap:Nat) (l:List Q) (w:World) (h:iG w ao len l) (hl:len≤1048576)
  (hp:∀wx q,Below w.heap.size w wx→Calls Tryz.prog g (#[qv q]++lb) wx fun e w'=>e=.returned (.bool (p q))∧Below wx.heap.size wx w') :
  Calls Tryz.prog 178 #[.slice ao len cap,.func (.func g) #[] lb] w fun e w'=>e=.returned (.int .i64 (iD p l 0))∧Below w.heap.size w w':=by
 have HR:=aA h
 have HL:=aA h.1
 have HP:=aA hp
 clear h hp
 go_enter Tryz.func178,Tryz.ntmps178
 go_wp2
 go_loopw [5,8] (fun _ i wr=>∃k:Nat,k≤len∧i=.int .i64 k∧Hid (iD p l 0=iD p (l.drop k) k)∧Hid (Below w.heap.size w wr)) (fun _ i _=>len - (intOf i).toNat)
 case atStart=>exact ⟨0,Nat.zero_le _,rfl,aA (by simp),aA (yH _ _)⟩
 case round=>
  obtain ⟨k,hk,rfl,hq,HB⟩:=hrel
  by_cases hlt:k<len
  ·obtain ⟨b,off,rfl,hx⟩:=((uH HR).below (uH HB)).at hlt
   have hkl:k<l.length:=by have:=uH HL;omega
   have hst:=aA (aCr (p:=p) (l:=l) (k:=k) hkl)
   obtain ⟨c0,c1,c2,c3⟩:=hx hkl
   clear hx
   obtain ⟨⟨nm,pa,du,mo⟩,hs⟩:∃s,l[k]=s:=⟨_,rfl⟩
   rw [hs] at c0 c1 c2 c3 hst
   simp only at c0 c1 c2 c3
   have HC:=aA (uH HP wr ⟨nm,pa,du,mo⟩ (uH HB))
   clear hs hkl HP
   cases hpq:p ⟨nm,pa,du,mo⟩ with
   | true=>
    rw [hpq] at HC
    have HQ:=aA hpq
    clear hpq
    go_wp2_with (go_at_fn g;refine (uH HC).mono ?_;rintro e w' ⟨rfl,hb⟩)
    go_ret
    exact ⟨bV (by rw [uH hq,uH hst,if_pos (uH HQ)]),yB (uH HB) hb⟩
   | false=>
    rw [hpq] at HC
    have HQ:=aA hpq
    clear hpq
    go_wp2_with (go_at_fn g;refine (uH HC).mono ?_;rintro e w' ⟨rfl,hb⟩)
    go_roundw
    case rel=>exact ⟨k+1,by omega,by go_num,aA (by rw [uH hq,uH hst,if_neg (by rw [uH HQ];simp)]),aA (yB (uH HB) hb)⟩
    case measure=>simp [intOf];omega
  ·go_wp2
   go_ret
   exact ⟨bV (by rw [uH hq,aEO (by have:=uH HL;omega)]),uH HB⟩
theorem aDi (B:Nat) (nm:List UInt8) (q:Q) (w:World) (hc:w.cell? ⟨B,0,none⟩=some (.string (bs nm))) :
  Calls Tryz.prog 179 #[qv q,.pointer (some ⟨B,0,none⟩)] w fun e w'=>e=.returned (.bool (decide (q.name=nm)))∧Below w.heap.size w w':=by
 have hlt:=yG hc
 have hc2:(w.alloc (.cells #[.string (bs q.name),.string (bs q.parent),.int .i64 q.due,.int .i64 q.most] 100)).cell? ⟨B,0,none⟩=some (.string (bs nm)):=by rw [World.cell?_alloc_lt _ _ ⟨B,0,none⟩ hlt];exact hc
 have hbe:=nS q.name nm
 clear hc hlt
 go_enter Tryz.func179,Tryz.ntmps179
 go_wp2
 go_ret
 exact ⟨rfl,yA (yH _ _) _⟩
theorem qK (ao:Option Addr) (len cap:Nat) (l:List Q) (nm:List UInt8) (w:World) (h:iG w ao len l) (hl:len≤1048576) :
  Calls Tryz.prog 141 #[.slice ao len cap,.string (bs nm)] w fun e w'=>e=.returned (.int .i64 (place l nm))∧Below w.heap.size w w':=by
 have hmf:∀(fn:Fn) (first cap:Array Value) (w:World),(Instr.makeFunc fn first cap).run Tryz.prog w=.ok (.func fn first cap) w:=fun _ _ _ _=>rfl
 have hb0:=yA (yH _ w) (.cells #[.string (bs nm)] 9)
 have C:=aA (qX 179 #[.pointer (some ⟨w.heap.size,0,none⟩)] (enters_of Tryz.func179 (by kernel_rfl) rfl) (fun q=>decide (q.name=nm)) ao len cap l _ (h.below hb0) hl
  (fun wx q hb=>aDi w.heap.size nm q wx ((hb.cell (p:=⟨w.heap.size,0,none⟩) (by simp)).trans (by simp))))
 rw [aCq] at C
 obtain ⟨p,hp⟩:∃p,aP nm l 0=p:=⟨_,rfl⟩
 rw [show place l nm=p from hp]
 rw [hp] at C
 have HB0:=aA hb0
 clear h hb0 hp
 go_enter Tryz.func141,Tryz.ntmps141
 go_wp2_with fail
 refine (uH C).mono ?_
 rintro e w1 ⟨rfl,hb⟩
 have HB:=aA (yB (uH HB0) hb)
 clear hb
 go_wp2
 go_ret
 exact ⟨rfl,uH HB⟩
theorem lF (s:ByteArray) (w:World) (hs:s.size≤1048576) :
  Calls Tryz.prog 119 #[.string s] w fun e w'=>e=.returned (.bool (bJ s.data.toList))∧w'=w:=by
 by_cases h0:1≤s.size
 ·by_cases h1:s.size≤10
  ·have hin:Hid (inB (s.data.toList.length:Int) 1 10=true):=aA (by rw [aFA];exact bZ (by omega) (by omega))
   go_enter Tryz.func119,Tryz.ntmps119
   go_wp2
   go_loop [14] (fun i=>∃k:Nat,k≤s.size∧i=.int .i64 k∧(s.data.toList.take k).all qR=true) (fun i=>s.size - (intOf i).toNat)
   case atStart=>exact ⟨0,Nat.zero_le _,rfl,by simp⟩
   case round=>
    obtain ⟨k,hk,rfl,hall⟩:=hrel
    have HA:=aA hall
    clear hall
    by_cases hlt:k<s.size
    ·have hb:(s[k].toNat:Int)≤255:=aIO _
     by_cases h3:48≤(s[k].toNat:Int)∧(s[k].toNat:Int)≤57
     ·have e1:inB (s[k].toNat:Int) 48 57=true:=bZ h3.1 h3.2
      clear h3
      go_wp2_with (go_at_call 149;refine (mR _ _).mono ?_;rintro e w' ⟨rfl,rfl⟩)
      go_round
      case rel=>exact ⟨k+1,by omega,by go_num,vK s k hlt _ (uH HA) (by simp [qR,e1])⟩
      case measure=>simp [intOf];omega
     ·have e1:inB (s[k].toNat:Int) 48 57=false:=bK h3
      clear h3
      by_cases h4:97≤(s[k].toNat:Int)
      ·by_cases h5:(s[k].toNat:Int)≤122
       ·have HN:Hid (qR s[k]=true):=aA (by simp [qR,e1,bZ h4 h5])
        go_wp2_with (go_at_call 149;refine (mR _ _).mono ?_;rintro e w' ⟨rfl,rfl⟩)
        go_round
        case rel=>exact ⟨k+1,by omega,by go_num,vK s k hlt _ (uH HA) (uH HN)⟩
        case measure=>simp [intOf];omega
       ·have hf:Hid (bJ s.data.toList=false):=aA (by rw [bJ,aDt s k hlt qR (by simp [qR,e1,bK (x:=(s[k].toNat:Int)) (a:=97) (b:=122) (by omega)])];simp)
        go_wp2_with (go_at_call 149;refine (mR _ _).mono ?_;rintro e w' ⟨rfl,rfl⟩)
        go_ret
        exact ⟨yF (uH hf).symm,rfl⟩
      ·have hf:Hid (bJ s.data.toList=false):=aA (by rw [bJ,aDt s k hlt qR (by simp [qR,e1,bK (x:=(s[k].toNat:Int)) (a:=97) (b:=122) (by omega)])];simp)
       go_wp2_with (go_at_call 149;refine (mR _ _).mono ?_;rintro e w' ⟨rfl,rfl⟩)
       go_ret
       exact ⟨yF (uH hf).symm,rfl⟩
    ·have hf:Hid (bJ s.data.toList=true):=aA (by rw [bJ,uH hin,←aAx s k (by omega),uH HA];rfl)
     go_wp2
     go_ret
     exact ⟨yF (uH hf).symm,rfl⟩
  ·have hf:Hid (bJ s.data.toList=false):=aA (by rw [bJ,aFA,bK (by omega)];simp)
   go_enter Tryz.func119,Tryz.ntmps119
   go_wp2
   go_ret
   exact ⟨yF (uH hf).symm,rfl⟩
 ·have hf:Hid (bJ s.data.toList=false):=aA (by rw [bJ,aFA,bK (by omega)];simp)
  go_enter Tryz.func119,Tryz.ntmps119
  go_wp2
  go_ret
  exact ⟨yF (uH hf).symm,rfl⟩
theorem q9 (a b n:Int) (w:World) :
  Calls Tryz.prog 208 #[rv a b,.int .i64 n] w fun e w'=>e=.returned (rv (dZ a b n) (d9 a b n))∧Below w.heap.size w w':=by
 cases h1:aL a b
 ·rw [show dZ a b n=0 by simp [dZ,fZ,h1],show d9 a b n=0 by simp [d9,fZ,h1]]
  go_enter Tryz.func208,Tryz.ntmps208
  go_wp2_with (go_at_call 155;refine (qO _ _ _).mono ?_;rintro e w' ⟨rfl,rfl⟩)
  refine bodyPost_ret (v:=rv 0 0) (by simp [results,Tryz.results208,go_sem]) rfl ⟨rfl,?_⟩
  repeat (first | exact yH _ _ | refine yA ?_ _ | refine Below.drew ?_ | refine yC ?_ _ _ _ (by omega))
 ·cases h2:inB n 0 10000
  ·rw [show dZ a b n=0 by simp [dZ,fZ,h2],show d9 a b n=0 by simp [d9,fZ,h2]]
   by_cases n0:n<0
   ·go_enter Tryz.func208,Tryz.ntmps208
    go_wp2_with (go_at_call 155;refine (qO _ _ _).mono ?_;rintro e w' ⟨rfl,rfl⟩)
    refine bodyPost_ret (v:=rv 0 0) (by simp [results,Tryz.results208,go_sem]) rfl ⟨rfl,?_⟩
    repeat (first | exact yH _ _ | refine yA ?_ _ | refine Below.drew ?_ | refine yC ?_ _ _ _ (by omega))
   ·have n1:10000<n:=by
     apply Int.not_le.1
     intro h
     have:inB n 0 10000=true:=bZ (by omega) h
     rw [this] at h2;cases h2
    go_enter Tryz.func208,Tryz.ntmps208
    go_wp2_with (go_at_call 155;refine (qO _ _ _).mono ?_;rintro e w' ⟨rfl,rfl⟩)
    refine bodyPost_ret (v:=rv 0 0) (by simp [results,Tryz.results208,go_sem]) rfl ⟨rfl,?_⟩
    repeat (first | exact yH _ _ | refine yA ?_ _ | refine Below.drew ?_ | refine yC ?_ _ _ _ (by omega))
  ·rw [show dZ a b n=a*n / 10000 by simp [dZ,fZ,h1,h2],show d9 a b n=b*n / 10000 by simp [d9,fZ,h1,h2]]
   obtain ⟨q1,q2,q3,q4⟩:=bN h1
   have hn:0≤n∧n≤10000:=by simpa [inB] using h2
   obtain ⟨m1,m2⟩:=aAZ q1 q2 hn.1 hn.2
   obtain ⟨m3,m4⟩:=aAZ q3 q4 hn.1 hn.2
   go_enter Tryz.func208,Tryz.ntmps208
   go_wp2_with (go_at_call 155;refine (qO _ _ _).mono ?_;rintro e w' ⟨rfl,rfl⟩)
   refine bodyPost_ret (v:=rv (a*n / 10000) (b*n / 10000)) (by simp [results,Tryz.results208,go_sem]) rfl ⟨rfl,?_⟩
   repeat (first | exact yH _ _ | refine yA ?_ _ | refine Below.drew ?_ | refine yC ?_ _ _ _ (by omega))
theorem pO (a b c d:Int) (w:World) :
  Calls Tryz.prog 123 #[rv a b,rv c d] w fun e w'=>e=.returned (.tuple #[jQ (-1) a b c d,.bool (aI (-1) a b c d)])∧Below w.heap.size w w':=by
 have V1:=((aH w 36 a b).al (.cells #[.int .i64 c,.int .i64 d] 36)).al (.cells #[.int .i64 0,.int .i64 0] 36)
 have V2:=(gL w 36 36 a b c d).al (.cells #[.int .i64 0,.int .i64 0] 36)
 have V3:=gL (w.alloc (.cells #[.int .i64 a,.int .i64 b] 36)) 36 36 c d 0 0
 have B3:=yA (yA (yA (yH _ w) (.cells #[.int .i64 a,.int .i64 b] 36)) (.cells #[.int .i64 c,.int .i64 d] 36)) (.cells #[.int .i64 0,.int .i64 0] 36)
 simp at V3
 have HV1:=aA V1
 have HV2:=aA V2
 have HV3:=aA V3
 have HB3:=aA B3
 have hc:=aA (oC a b c d)
 clear V1 V2 V3 B3
 cases h0:aL a b&&aL c d
 ·have hb:aI (-1) a b c d=false:=by rw [aI,h0];rfl
  rw [kL hb,hb]
  go_enter Tryz.func123,Tryz.ntmps123
  go_wp2_with fail
  refine (uH hc _).mono ?_
  rw [h0]
  rintro e w1 ⟨rfl,hb⟩
  have V3:=(uH HV3).below hb
  have k2:=V3.f 0
  have k3:=V3.f 1
  have k0:=V3.c0
  have k1:=V3.c1
  have k4:=V3.s0 (.int .i64 0)
  have k5:=V3.s1 (.int .i64 0) (.int .i64 0)
  have HB:=aA (yB (uH HB3) hb)
  clear hb HV1 HV2 HV3 HB3 V3 hc
  go_wp2
  refine bodyPost_ret (v:=.tuple #[rv 0 0,.bool false]) (by simp [results,Tryz.results123,go_sem,k4,k5]) rfl ⟨rfl,?_⟩
  repeat (first | exact uH HB | refine yA ?_ _ | refine Below.drew ?_ | refine yC ?_ _ _ _ (by omega))
 ·have h0':=h0
  simp only [yK] at h0'
  obtain ⟨q1,q2,q3,q4⟩:=bN h0'.1
  obtain ⟨q5,q6,q7,q8⟩:=bN h0'.2
  obtain ⟨x,hx⟩:∃x,a - c=x:=⟨_,rfl⟩
  obtain ⟨y,hy⟩:∃y,b - d=y:=⟨_,rfl⟩
  have m3:IntKind.i64.wrap (a - c)=x:=by rw [IntKind.wrap_i64];omega
  have m4:IntKind.i64.wrap (b - d)=y:=by rw [IntKind.wrap_i64];omega
  have e1:aI (-1) a b c d=aL x y:=by rw [aI,h0,show a+(-1)*c=x by omega,show b+(-1)*d=y by omega];rfl
  have e2:jQ (-1) a b c d=orV x y:=by rw [jQ,orV,e1,show a+(-1)*c=x by omega,show b+(-1)*d=y by omega]
  obtain ⟨u,v,hv⟩:∃u v,orV x y=rv u v:=by unfold orV;split<;>exact ⟨_,_,rfl⟩
  obtain ⟨o,ho⟩:∃o,aL x y=o:=⟨_,rfl⟩
  have ho2:∀wx,Calls Tryz.prog 154 #[rv x y] wx fun e w'=>e=.returned (.tuple #[rv u v,.bool o])∧Below wx.heap.size wx w':=fun wx=>by have:=aJs x y wx;rw [hv,ho] at this;exact this
  rw [e1,e2,hv,ho]
  have HO:=aA ho2
  clear e1 e2 hv ho ho2 h0' q1 q2 q3 q4 q5 q6 q7 q8 hx hy
  go_enter Tryz.func123,Tryz.ntmps123
  go_wp2_with fail
  refine (uH hc _).mono ?_
  rw [h0]
  rintro e w1 ⟨rfl,hb⟩
  have V1:=(uH HV1).below hb
  have V2:=(uH HV2).below hb
  have V3:=aA ((uH HV3).below hb)
  have a1:=V1.c0
  have a2:=V1.c1
  have a3:=V2.c0
  have a4:=V2.c1
  have HB:=aA (yB (uH HB3) hb)
  clear hb HV1 HV2 HV3 HB3 V1 V2 hc
  go_wp2_with fail
  refine (uH HO _).mono ?_
  rintro e w2 ⟨rfl,hb⟩
  have V4:=(uH V3).below hb
  have k0:=V4.c0
  have k1:=V4.c1
  have k2:=V4.f 0
  have k3:=V4.f 1
  have k4:=V4.s0 (.int .i64 u)
  have k5:=V4.s1 (.int .i64 u) (.int .i64 v)
  have HB2:=aA (yB (uH HB) hb)
  clear hb V4 V3 HB HO a1 a2 a3 a4
  go_wp2
  refine bodyPost_ret (v:=.tuple #[rv u v,.bool o]) (by simp [results,Tryz.results123,go_sem,k4,k5]) rfl ⟨rfl,?_⟩
  repeat (first | exact uH HB2 | refine yA ?_ _ | refine Below.drew ?_ | refine yC ?_ _ _ _ (by omega))
def aDV (w0:World) (b p:Nat) (q:Q) (w:World):Prop:=QAt w b p q∧Below w0.heap.size w0 w
theorem aDV.call {w0 w w':World} {b p:Nat} {q:Q} (h:aDV w0 b p q w) (hb:Below w.heap.size w w'):aDV w0 b p q w':=⟨h.1.below hb,yB h.2 hb⟩
theorem aDV.drew {w0 w:World} {b p:Nat} {q:Q} (h:aDV w0 b p q w):aDV w0 b p q w.drew:=h.call (yH _ _).drew
theorem aDV.read (w0:World) (b p:Nat) (q:Q):∀wx,aDV w0 b p q wx→wx.cell? ⟨b,p,none⟩=some (.string (bs q.name))∧wx.cell? ⟨b,p+1,none⟩=some (.string (bs q.parent))∧wx.cell? ⟨b,p+2,none⟩=some (.int .i64 q.due)∧wx.cell? ⟨b,p+3,none⟩=some (.int .i64 q.most):=
 fun wx h=>⟨h.1.1,h.1.2.1,h.1.2.2.1,h.1.2.2.2⟩
theorem zU (g n c:Nat) (w:World) (h:iG w (some ⟨g,0,none⟩) n (nH n)) (hn:n≤1048576) :
  Calls Tryz.prog 38 #[.slice (some ⟨g,0,none⟩) n c,.int .i64 1] w fun e w'=>e=.returned (.int .i64 (1+4*(n:Int)))∧Below w.heap.size w w':=by
 have HR:=aA h
 clear h
 go_enter Tryz.func38,Tryz.ntmps38
 go_wp2
 go_loopw [1,5] (fun s i wr=>∃(j:Nat) (k:Int),j≤n∧i=.int .i64 j∧s=.int .i64 k∧k=1+4*(j:Int)∧Hid (Below w.heap.size w wr)) (fun _ i _=>n - (intOf i).toNat)
 case atStart=>exact ⟨0,1,Nat.zero_le _,rfl,rfl,by omega,aA (yH _ _)⟩
 case round=>
  obtain ⟨j,k,hj,rfl,rfl,hk,HB⟩:=hrel
  by_cases hlt:j<n
  ·obtain ⟨b,off,e,hq⟩:=((uH HR).below (uH HB)).at hlt
   simp only [Option.some.injEq,Addr.mk.injEq,and_true] at e
   obtain ⟨rfl,rfl⟩:=e
   have hqq:=hq (by rw [aA2];exact hlt)
   rw [aCX] at hqq
   have T0:∀wx,Calls Tryz.prog 47 #[.int .i64 k] wx fun e w'=>e=.returned (.string (bs (aDv j).name))∧Below wx.heap.size wx w':=fun wx=>by
    have:=aV k wx (by omega) (by omega)
    rw [show k.toNat=1+4*j by omega] at this
    exact this
   have T1:∀wx,Calls Tryz.prog 47 #[.int .i64 (k+1)] wx fun e w'=>e=.returned (.string (bs (aDv j).parent))∧Below wx.heap.size wx w':=fun wx=>by
    have:=aV (k+1) wx (by omega) (by omega)
    rw [show (k+1).toNat=1+4*j+1 by omega] at this
    exact this
   have hd:(aDv j).due=k+1+1:=by rw [hk];rfl
   have hm:(aDv j).most=k+1+1+1:=by rw [hk];rfl
   obtain ⟨q,hqe⟩:∃q,aDv j=q:=⟨_,rfl⟩
   rw [hqe] at hqq T0 T1 hd hm
   have A0:=aA (show aDV w g (0+j*4) q wr from ⟨hqq,uH HB⟩)
   have C0:=aA T0
   have C1:=aA T1
   have HK:=aA hk
   have HD:=aA hd
   have HM:=aA hm
   have R:=aDV.read w g (0+j*4) q
   simp only [Nat.zero_add] at A0 R
   have j0:(0:Int)≤j:=by omega
   have j1:(j:Int)<n:=by omega
   have hk0:0<k:=by omega
   have hk1:k≤4194305:=by omega
   have hw1:IntKind.i64.wrap (k+1)=k+1:=by rw [IntKind.wrap_i64];omega
   clear hq hqq T0 T1 hqe hk hd hm
   go_wp2_with fail
   go_region_held3 (fun wx=>aDV w g (j*4) q wx)
    (first | (with_reducible assumption) | exact (uH A0).drew | exact aDV.call (by assumption) (by assumption))
    (first
    | (go_at_call 47;refine (uH C0 _).mono ?_;rintro e wt ⟨rfl,hb⟩;have SA:=aDV.call (w0:=w) (b:=g) (p:=j*4) (q:=q) (by assumption) hb))
   have A1:=aA SA
   clear SA A0
   go_wp2_with fail
   go_region_held3 (fun wx=>aDV w g (j*4) q wx)
    (first | (with_reducible assumption) | exact (uH A1).drew | exact aDV.call (by assumption) (by assumption))
    (first
    | (go_at_call 47;refine (uH C1 _).mono ?_;rintro e wt2 ⟨rfl,hb⟩;have SA:=aDV.call (w0:=w) (b:=g) (p:=j*4) (q:=q) (by assumption) hb))
   obtain ⟨_,_,r2,r3⟩:=R _ SA
   rw [uH HD] at r2
   rw [uH HM] at r3
   have HB2:=aA SA.2
   clear SA A1 R C0 C1
   go_wp2
   go_roundw
   case rel=>exact ⟨j+1,k+1+1+1+1,by omega,by go_num,by go_num,by have:=uH HK;omega,HB2⟩
   case measure=>simp [intOf];omega
  ·have hjn:j=n:=by omega
   subst hjn
   go_wp2
   go_ret
   exact ⟨bV (by omega),uH HB⟩
theorem wO (ao:Option Addr) (c:Nat) (w:World) :
  Calls Tryz.prog 35 #[.slice ao 0 c,.int .i64 1] w fun e w'=>e=.returned (.int .i64 1)∧w=w':=by
 go_enter Tryz.func35,Tryz.ntmps35
 go_wp2
 go_loopw [1,5] (fun s i wr=>i=.int .i64 0∧s=.int .i64 1∧wr=w) (fun _ _ _=>0)
 case atStart=>exact ⟨rfl,rfl,rfl⟩
 case round=>
  obtain ⟨rfl,rfl,rfl⟩:=hrel
  go_wp2
  go_ret
  exact ⟨rfl,rfl⟩
theorem xG (ao:Option Addr) (c:Nat) (w:World) :
  Calls Tryz.prog 38 #[.slice ao 0 c,.int .i64 1] w fun e w'=>e=.returned (.int .i64 1)∧w=w':=by
 go_enter Tryz.func38,Tryz.ntmps38
 go_wp2
 go_loopw [1,5] (fun s i wr=>i=.int .i64 0∧s=.int .i64 1∧wr=w) (fun _ _ _=>0)
 case atStart=>exact ⟨rfl,rfl,rfl⟩
 case round=>
  obtain ⟨rfl,rfl,rfl⟩:=hrel
  go_wp2
  go_ret
  exact ⟨rfl,rfl⟩
theorem aDc (a b c d:Int) (w:World) :
  Calls Tryz.prog 160 #[rv a b,rv c d] w fun e w'=>e=.returned (.tuple #[jQ (-1) a b c d,.bool (aI (-1) a b c d)])∧Below w.heap.size w w':=by
 have hv:∃x y,jQ (-1) a b c d=rv x y:=by unfold jQ;split<;>exact ⟨_,_,rfl⟩
 obtain ⟨x,y,hv⟩:=hv
 have hc:=wY a b c d (-1) ((w.alloc (.cells #[.int .i64 a,.int .i64 b] 36)).alloc (.cells #[.int .i64 c,.int .i64 d] 36) |>.alloc (.cells #[.int .i64 0,.int .i64 0] 36)) (by decide)
 rw [hv] at hc ⊢
 go_enter Tryz.func160,Tryz.ntmps160
 go_wp2_with fail
 refine hc.mono ?_
 rintro e w1 ⟨rfl,hb⟩
 have hk:Var w1 36 (w.heap.size+1+1) 0 0:=Var.below (by simpa using aH ((w.alloc (.cells #[.int .i64 a,.int .i64 b] 36)).alloc (.cells #[.int .i64 c,.int .i64 d] 36)) 36 0 0) hb
 have k0:=hk.c0
 have k1:=hk.c1
 have k2:=hk.f 0
 have k3:=hk.f 1
 have k4:=hk.s0 (.int .i64 x)
 have k5:=hk.s1 (.int .i64 x) (.int .i64 y)
 have HB:=aA (yB (yA (yA (yA (yH _ _) _) _) _) hb)
 clear hb hc hk
 go_wp2
 refine bodyPost_ret (v:=.tuple #[rv x y,.bool (aI (-1) a b c d)]) (by simp [results,Tryz.results160,go_sem,k4,k5]) rfl ⟨rfl,?_⟩
 repeat (first | exact uH HB | refine yA ?_ _ | refine yC ?_ _ _ _ (by omega))
end
end Go.Proofs.YtdhibeclkdepiaaGreat
