/-
  Several texts of this claim in one, made short by program: FitsI, QueuesOkI, LoneI, LvM, UpM1, AboveI, UsedI, KpAB.
-/
import Derived.Test.YtdhibeclkdepiaaGreatPackG
import Derived.RangeFuncNested
import Derived.RangeFuncBound
import Derived.RangeFuncCalls
import Derived.RangeFuncLeaves
import Derived.Shelf.AbstractIn
import Derived.Shelf.RegionOpen
import Derived.OwnWalkIn
import Derived.TacticsInMore
import Derived.LoopNIn
import Derived.LoopIn
set_option maxRecDepth 100000
set_option maxHeartbeats 16000000
set_option linter.unusedVariables false
set_option linter.unusedSimpArgs false
namespace Go.Proofs.YtdhibeclkdepiaaGreat
section
open Go.RowKit
def pointsOk (q:Q):Bool:=decide (0≤q.due∧q.due≤q.most∧q.most≤10000)
theorem pointsOk_any (q:Q) (w:World) :
  Calls Tryz.prog 142 #[qv q] w fun e w'=>e=.returned (.bool (pointsOk q))∧Below w.heap.size w w':=by
 obtain ⟨nm,pa,d,m⟩:=q
 by_cases h1:0≤d
 ·by_cases h2:d≤m
  ·by_cases h3:m≤10000
   ·go_enter Tryz.func142,Tryz.ntmps142
    go_wp2
    go_ret
    exact ⟨yF (by simp [pointsOk,h1,h2,h3]),yA (Below.refl _ _) _⟩
   ·go_enter Tryz.func142,Tryz.ntmps142
    go_wp2
    go_ret
    exact ⟨yF (by simp [pointsOk];omega),yA (Below.refl _ _) _⟩
  ·go_enter Tryz.func142,Tryz.ntmps142
   go_wp2
   go_ret
   exact ⟨yF (by simp [pointsOk];omega),yA (Below.refl _ _) _⟩
 ·go_enter Tryz.func142,Tryz.ntmps142
  go_wp2
  go_ret
  exact ⟨yF (by simp [pointsOk];omega),yA (Below.refl _ _) _⟩
theorem dueOfKids_any (ao:Option Addr) (len cap:Nat) (l:List Q) (nm:List UInt8) (w:World) (h:QRow w ao len l) (hl:len≤1048576) (hd:∀q ∈ l,0≤q.due∧q.due≤10000) :
  Calls Tryz.prog 143 #[.slice ao len cap,.string (bs nm)] w fun e w'=>e=.returned (.int .i64 (dueSum nm l))∧Below w.heap.size w w':=by
 have HR:=hide h
 have HL:=hide h.1
 have HD:=hide hd
 clear h hd
 go_enter Tryz.func143,Tryz.ntmps143
 go_wp2
 go_loopw [5,7,10] (fun s _ i wr=>∃(k:Nat) (a:Int),k≤len∧i=.int .i64 k∧s=.int .i64 a∧0≤a∧a≤10000*k∧Hid (dueSum nm l=a+dueSum nm (l.drop k))∧Hid (Below w.heap.size w wr)) (fun _ _ i _=>len - (intOf i).toNat)
 case atStart=>exact ⟨0,0,by omega,rfl,rfl,by omega,by omega,hide (by simp),hide (Below.refl _ _)⟩
 case round=>
  obtain ⟨k,a,hk,rfl,rfl,ha0,ha1,hp,HB⟩:=hrel
  by_cases hlt:k<len
  ·obtain ⟨b,off,rfl,hq⟩:=((uH HR).below (uH HB)).at hlt
   have hkl:k<l.length:=by have:=uH HL;omega
   have hst:=hide (dueSum_step (nm:=nm) (l:=l) (k:=k) hkl)
   obtain ⟨c0,c1,c2,c3⟩:=hq hkl
   obtain ⟨d0,d1⟩:=uH HD l[k] (List.getElem_mem _)
   clear hq
   obtain ⟨⟨qn,pa,d,mo⟩,hs⟩:∃s,l[k]=s:=⟨_,rfl⟩
   rw [hs] at c0 c1 c2 c3 hst d0 d1
   simp only at c0 c1 c2 c3 d0 d1
   have hbe:=bs_eq pa nm
   have HB2:=hide (yA (uH HB) (qobj ⟨qn,pa,d,mo⟩))
   clear hs hkl
   by_cases he:pa=nm
   ·have HE:=hide he
    rw [decide_eq_true he] at hbe
    clear he
    go_wp2
    go_roundw
    case rel=>exact ⟨k+1,a+d,by omega,by go_num,by go_num,by omega,by omega,hide (by have e:=uH hst;simp only at e;rw [uH hp,e,if_pos (uH HE)];omega),HB2⟩
    case measure=>simp [intOf];omega
   ·have HE:=hide he
    rw [decide_eq_false he] at hbe
    clear he
    go_wp2
    go_roundw
    case rel=>exact ⟨k+1,a,by omega,by go_num,rfl,by omega,by omega,hide (by have e:=uH hst;simp only at e;rw [uH hp,e,if_neg (uH HE)];omega),HB2⟩
    case measure=>simp [intOf];omega
  ·go_wp2
   go_ret
   exact ⟨ret_int (by rw [uH hp,dueSum_end (by have:=uH HL;omega)];omega),uH HB⟩
theorem dueSum_bound {nm:List UInt8}:∀{l:List Q},(∀q ∈ l,0≤q.due∧q.due≤10000)→0≤dueSum nm l∧dueSum nm l≤10000*l.length
 | [],_=>by simp [dueSum]
 | x::t,h=>by
  have h1:=h x (by simp)
  have h2:=dueSum_bound (nm:=nm) (l:=t) (fun q hq=>h q (by simp [hq]))
  rw [dueSum]
  simp only [List.length_cons]
  split<;>omega
theorem fits_no {l:List Q} {q:Q} (h:20≤l.length∨nameOk q.name=false∨0≤place l q.name∨pointsOk q=false):fits l q=false:=by
 cases e:fits l q with
 | false=>rfl
 | true=>
  simp only [fits,Bool.and_eq_true,decide_eq_true_eq] at e
  simp only [pointsOk] at h
  obtain ⟨⟨⟨⟨a,b⟩,c⟩,d⟩,_⟩:=e
  rcases h with h | h | h | h
  ·omega
  ·rw [b] at h;cases h
  ·omega
  ·rw [decide_eq_false_iff_not] at h;exact absurd d h
theorem fits_first {l:List Q} {q:Q} (h0:l.length<20) (h1:nameOk q.name=true) (h2:place l q.name<0) (h3:pointsOk q=true) (h:l.length=0):fits l q=decide (q.parent=[]∧q.due=10000∧q.most=10000):=by
 simp only [pointsOk] at h3
 rw [fits,h1,h3,decide_eq_true h0,decide_eq_true h2,if_pos h];rfl
theorem fits_next {l:List Q} {q:Q} (h0:l.length<20) (h1:nameOk q.name=true) (h2:place l q.name<0) (h3:pointsOk q=true) (h:l.length≠0):fits l q=decide (0≤place l q.parent∧dueSum q.parent l+q.due≤10000):=by
 simp only [pointsOk] at h3
 rw [fits,h1,h3,decide_eq_true h0,decide_eq_true h2,if_neg h];rfl
theorem fits_any (ao:Option Addr) (len cap:Nat) (l:List Q) (q:Q) (w:World) (h:QRow w ao len l) (hl:len≤1048576) (hn:q.name.length≤1048576) (hd:∀q ∈ l,0≤q.due∧q.due≤10000) :
  Calls Tryz.prog 114 #[.slice ao len cap,qv q] w fun e w'=>e=.returned (.bool (fits l q))∧Below w.heap.size w w':=by
 have hb0:=yA (Below.refl _ w) (qobj q)
 have HX:=hide (QBox.new w q)
 have CN:=hide (fun wx=>by have:=implNameOk_any (bs q.name) wx (by rw [bs_size];exact hn);rw [show (bs q.name).data.toList=q.name by simp [bs]] at this;exact this)
 have CP:=hide (fun wx (hb:Below w.heap.size w wx) (nm:List UInt8)=>place_any ao len cap l nm wx (h.below hb) hl)
 have CK:=hide (fun wx=>pointsOk_any q wx)
 have CD:=hide (fun wx (hb:Below w.heap.size w wx)=>dueOfKids_any ao len cap l q.parent wx (h.below hb) hl hd)
 have HL:=hide h.1
 have HB0:=hide hb0
 have HF0:=hide (@fits_no l q)
 have HF1:=hide (@fits_first l q)
 have HF2:=hide (@fits_next l q)
 have HS0:=hide (show 0≤dueSum q.parent l∧dueSum q.parent l≤10000*l.length from dueSum_bound hd)
 clear h hn hd hb0
 obtain ⟨b1,g1⟩:∃b,nameOk q.name=b:=⟨_,rfl⟩
 obtain ⟨p1,g2⟩:∃p,place l q.name=p:=⟨_,rfl⟩
 obtain ⟨b2,g3⟩:∃b,pointsOk q=b:=⟨_,rfl⟩
 obtain ⟨p2,g4⟩:∃p,place l q.parent=p:=⟨_,rfl⟩
 obtain ⟨s,g5⟩:∃s,dueSum q.parent l=s:=⟨_,rfl⟩
 obtain ⟨r,g6⟩:∃r,fits l q=r:=⟨_,rfl⟩
 rw [g1] at CN HF0 HF1 HF2
 rw [g2] at HF0 HF1 HF2
 rw [g3] at CK HF0 HF1 HF2
 rw [g4] at HF2
 rw [g5] at CD HF2 HS0
 rw [g6] at HF0 HF1 HF2 ⊢
 have CP1:=hide (fun wx hb=>by have:=uH CP wx hb q.name;rw [g2] at this;exact this)
 have CP2:=hide (fun wx hb=>by have:=uH CP wx hb q.parent;rw [g4] at this;exact this)
 have hsb:0≤s∧s≤10000*1048576:=by have:=uH HS0;have:=uH HL;omega
 have hdu:b2=true→0≤q.due∧q.due≤q.most∧q.most≤10000:=fun e=>by rw [←g3,pointsOk,decide_eq_true_eq] at e;exact e
 have HPR:=hide (show p2 = -1∨0≤p2 by have:=place_range l q.parent;rw [g4] at this;omega)
 clear g1 g2 g3 g4 g5 g6 CP HS0
 obtain ⟨nm,pa,d,m⟩:=q
 simp only at CN CP1 CP2 CD hdu HF1 HF2
 have k0:=(uH HX).c0
 have k1:=(uH HX).c1
 have k2:=(uH HX).c2
 have k3:=(uH HX).c3
 simp only [qobj] at k0 k1 k2 k3
 by_cases hA:20≤len
 ·go_enter Tryz.func114,Tryz.ntmps114
  go_wp2
  go_ret
  exact ⟨yF (uH HF0 (.inl (by have:=uH HL;omega))).symm,uH HB0⟩
 ·cases b1 with
  | false=>
   go_enter Tryz.func114,Tryz.ntmps114
   go_wp2_with (go_at_call 119;refine (uH CN _).mono ?_;rintro e w' ⟨rfl,rfl⟩)
   go_ret
   exact ⟨yF (uH HF0 (by simp)).symm,uH HB0⟩
  | true=>
   go_enter Tryz.func114,Tryz.ntmps114
   go_wp2_with (go_at_call 119;refine (uH CN _).mono ?_;rintro e w' ⟨rfl,rfl⟩)
   refine (uH CP1 _ (uH HB0)).mono ?_
   rintro e w1 ⟨rfl,hb1⟩
   have HB1:=hide (yB (uH HB0) hb1)
   have HX1:=hide ((uH HX).below hb1)
   clear k0 k1 k2 k3 hb1 HX HB0 CP1
   have k0:=(uH HX1).c0
   have k1:=(uH HX1).c1
   have k2:=(uH HX1).c2
   have k3:=(uH HX1).c3
   simp only at k0 k1 k2 k3
   by_cases hp:0≤p1
   ·go_wp2
    go_ret
    exact ⟨yF (uH HF0 (by simp [hp])).symm,uH HB1⟩
   ·go_wp2_with fail
    refine (uH CK _).mono ?_
    rintro e w2 ⟨rfl,hb2⟩
    have HB2:=hide (yB (uH HB1) hb2)
    have HX2:=hide ((uH HX1).below hb2)
    clear k0 k1 k2 k3 hb2 HX1 HB1 CK
    have k0:=(uH HX2).c0
    have k1:=(uH HX2).c1
    have k2:=(uH HX2).c2
    have k3:=(uH HX2).c3
    simp only at k0 k1 k2 k3
    cases b2 with
    | false=>
     go_wp2
     go_ret
     exact ⟨yF (uH HF0 (by simp)).symm,uH HB2⟩
    | true=>
     obtain ⟨d0,d1,d2⟩:=hdu rfl
     clear hdu
     have hbe:=bs_empty pa
     by_cases hz:len=0
     ·have z1:((len:Int)==0)=true:=by simp [hz]
      have HZ:=hide (uH HF1 (by have:=uH HL;omega) (by simp) (by omega) (by simp) (by have:=uH HL;omega))
      clear HF0 HF1 HF2 hz
      by_cases e1:pa=[]
      ·have E1:=hide e1
       rw [decide_eq_true e1] at hbe
       clear e1
       by_cases e2:d=10000
       ·have f2:(d==10000)=true:=by simp [e2]
        have E2:=hide e2
        clear e2
        by_cases e3:m=10000
        ·have f3:(m==10000)=true:=by simp [e3]
         have E3:=hide e3
         clear e3
         go_wp2
         go_ret
         exact ⟨yF (by rw [uH HZ];simp [uH E1,uH E2,uH E3]),uH HB2⟩
        ·have f3:(m==10000)=false:=by simp [e3]
         have E3:=hide e3
         clear e3
         go_wp2
         go_ret
         exact ⟨yF (by rw [uH HZ];simp [uH E1,uH E2,uH E3]),uH HB2⟩
       ·have f2:(d==10000)=false:=by simp [e2]
        have E2:=hide e2
        clear e2
        go_wp2
        go_ret
        exact ⟨yF (by rw [uH HZ];simp [uH E1,uH E2]),uH HB2⟩
      ·have E1:=hide e1
       rw [decide_eq_false e1] at hbe
       clear e1
       go_wp2
       go_ret
       exact ⟨yF (by rw [uH HZ];simp [uH E1]),uH HB2⟩
     ·have z1:((len:Int)==0)=false:=by simp [hz]
      have HZ:=hide (uH HF2 (by have:=uH HL;omega) (by simp) (by omega) (by simp) (by have:=uH HL;omega))
      have hwr:IntKind.i64.wrap (s+d)=s+d:=by rw [IntKind.wrap_i64];omega
      have A0:=hide (show QB w w.heap.size ⟨nm,pa,d,m⟩ w2 from ⟨uH HX2,uH HB2⟩)
      clear HF0 HF1 HF2 hbe
      by_cases hp2:0≤p2
      ·have R:=QB.read w w.heap.size ⟨nm,pa,d,m⟩
       simp only at R
       clear k0 k1 k2 k3
       go_wp2_with fail
       go_region_held3 (fun wx=>QB w w.heap.size ⟨nm,pa,d,m⟩ wx)
        (first | (with_reducible assumption) | exact (uH A0).drew | exact QB.call (by assumption) (by assumption))
        (first
        | (go_at_call 141;refine (uH CP2 _ (QB.call (w0:=w) (g:=w.heap.size) (q:=⟨nm,pa,d,m⟩) (by assumption) (Below.refl _ _)).2).mono ?_;rintro e wt ⟨rfl,hb⟩;have SA:=QB.call (w0:=w) (g:=w.heap.size) (q:=⟨nm,pa,d,m⟩) (by assumption) hb)
        | (go_at_call 143;refine (uH CD _ (QB.call (w0:=w) (g:=w.heap.size) (q:=⟨nm,pa,d,m⟩) (by assumption) (Below.refl _ _)).2).mono ?_;rintro e wt2 ⟨rfl,hb⟩;have SB:=QB.call (w0:=w) (g:=w.heap.size) (q:=⟨nm,pa,d,m⟩) (by assumption) hb))
       all_goals
        have HB3:=hide SB.2
        clear SA SB R A0
        go_wp2
        go_ret
        exact ⟨yF (by rw [uH HZ];simp [hp2]),uH HB3⟩
      ·have hpf:decide ((0:Int)≤p2)=false:=by simp;omega
       have HP2:=hide hp2
       clear hp2
       go_wp2_with fail
       first | (go_region_with (go_at_call 141;refine (uH CP2 _ ?_).mono ?_;(exact (uH HB2).drew);rintro e w3 ⟨rfl,hb⟩)) | fail
       all_goals
        have HB3:=hide (yB (uH HB2).drew hb)
        clear hb
        go_wp2
        go_ret
        exact ⟨yF (by rw [uH HZ,decide_eq_false (by have:=uH HP2;omega)]),uH HB3⟩
theorem QRow.take {w:World} {ao:Option Addr} {len:Nat} {l:List Q} (h:QRow w ao len l) {k:Nat} (hk:k≤len):QRow w ao k (l.take k):=by
 obtain ⟨h1,h2⟩:=h
 refine ⟨by simp;omega,?_⟩
 rcases h2 with h2 | ⟨b,off,h3,h4⟩
 ·exact .inl (by omega)
 ·refine .inr ⟨b,off,h3,fun i hi=>?_⟩
  have:i<l.length:=by simp at hi;omega
  rw [List.getElem_take]
  exact h4 i this
theorem cut_q (b off len cap k:Nat) (hk:k≤cap) (wx:World):(Instr.slice 29 (.slice (some ⟨b,off,none⟩) len cap) none (some (.int .i64 (k:Int))) none).run Tryz.prog wx=.ok (.slice (some ⟨b,off,none⟩) k cap) wx:=by
 rw [run_slice_h (P:=Tryz.prog) (w:=wx) 29 (some ⟨b,off,none⟩) len cap Tryz.underlying29 .i64 (k:Int) (by omega) (by omega)]
 rw [show (sizeOf (Tryz.prog.elem 29)).run Tryz.prog wx=.ok 4 wx from by kernel_rfl]
 simp [Result.andThen,sliced,Addr.add]
theorem implQueuesOk_any (ao:Option Addr) (len cap:Nat) (l:List Q) (w:World) (h:QRow w ao len l) (hl:len≤1048576) (hn:∀q ∈ l,q.name.length≤1048576) (hc:len≤cap) :
  Calls Tryz.prog 79 #[.slice ao len cap] w fun e w'=>e=.returned (.bool (queuesOk l))∧Below w.heap.size w w':=by
 have HR:=hide h
 have HL:=hide h.1
 have HN:=hide hn
 have HQ:=hide (queuesOk_okT l)
 clear h hn
 go_enter Tryz.func79,Tryz.ntmps79
 go_wp2
 go_loopw [3,4,7] (fun _ _ i wr=>∃k:Nat,k≤len∧i=.int .i64 k∧Hid (okT (l.take k)=true)∧Hid (Below w.heap.size w wr)) (fun _ _ i _=>len - (intOf i).toNat)
 case atStart=>exact ⟨0,Nat.zero_le _,rfl,hide (by rw [List.take_zero];rfl),hide (Below.refl _ _)⟩
 case round=>
  obtain ⟨k,hk,rfl,HK,HB⟩:=hrel
  by_cases hlt:k<len
  ·have HR2:=hide ((uH HR).below (uH HB))
   obtain ⟨b,off,rfl,hq⟩:=(uH HR2).at hlt
   have hkl:k<l.length:=by have:=uH HL;omega
   have hst:=hide (okT_take_succ (l:=l) (k:=k) hkl)
   have hbad:=hide (@okT_take_false l (k+1))
   obtain ⟨c0,c1,c2,c3⟩:=hq hkl
   have hz:=uH HN l[k] (List.getElem_mem _)
   clear hq
   obtain ⟨⟨nm,pa,du,mo⟩,hs⟩:∃s,l[k]=s:=⟨_,rfl⟩
   rw [hs] at c0 c1 c2 c3 hst hz
   simp only at c0 c1 c2 c3
   have HA:=hide (QBox.new wr ⟨nm,pa,du,mo⟩)
   have hb1:=yA (uH HB) (qobj ⟨nm,pa,du,mo⟩)
   have CF:=hide (fun wx (hb:Below w.heap.size w wx)=>fits_any (some ⟨b,off,none⟩) k cap (l.take k) ⟨nm,pa,du,mo⟩ wx (((uH HR).below hb).take hk) (by omega) hz (okT_due (uH HK)))
   obtain ⟨f,hf⟩:∃f,fits (l.take k) ⟨nm,pa,du,mo⟩=f:=⟨_,rfl⟩
   rw [hf] at CF hst
   have hcut:=cut_q b off len cap k (by omega)
   have HB1:=hide hb1
   have k0:=(uH HA).c0
   have k1:=(uH HA).c1
   have k2:=(uH HA).c2
   have k3:=(uH HA).c3
   simp only at k0 k1 k2 k3
   have hkc:(k:Int)≤cap:=by omega
   clear hs hkl hz hf HR2 hb1
   cases f with
   | false=>
    go_wp2_with fail
    go_region_with (go_at_call 114;refine (uH CF _ ?_).mono ?_;(exact (uH HB1).drew);rintro e w2 ⟨rfl,hb⟩)
    all_goals
     have HB2:=hide (yB (uH HB1).drew hb)
     clear hb
     go_wp2
     go_ret
     exact ⟨yF (by rw [uH HQ,uH hbad (by rw [uH hst];simp)];rfl),uH HB2⟩
   | true=>
    go_wp2_with fail
    go_region_with (go_at_call 114;refine (uH CF _ ?_).mono ?_;(exact (uH HB1).drew);rintro e w2 ⟨rfl,hb⟩)
    all_goals
     have HB2:=hide (yB (uH HB1).drew hb)
     clear hb
     go_wp2
     go_roundw
     case rel=>exact ⟨k+1,by omega,by go_num,hide (by rw [uH hst,uH HK];rfl),HB2⟩
     case measure=>simp [intOf];omega
  ·have hfin:=hide (show queuesOk l=decide (0<len) by
    have e:k=l.length:=by have:=uH HL;omega
    have ho:=uH HK
    rw [e,List.take_length] at ho
    rw [uH HQ,ho,uH HL];rfl)
   by_cases h0:0<len
   ·go_wp2
    go_ret
    exact ⟨yF (by rw [uH hfin];simp [h0]),uH HB⟩
   ·go_wp2
    go_ret
    exact ⟨yF (by rw [uH hfin];simp [h0]),uH HB⟩
theorem noKid_any (nm:List UInt8):∀l:List Q,noKid nm l = !(l.any (fun q=>decide (q.parent=nm)))
 | []=>rfl
 | q::t=>by rw [noKid,noKid_any nm t,List.any_cons];by_cases h:q.parent=nm<;>simp [h]
theorem kidFn_any (B:Nat) (nm:List UInt8) (q:Q) (w:World) (hc:w.cell? ⟨B,0,none⟩=some (.string (bs nm))) :
  Calls Tryz.prog 145 #[qv q,.pointer (some ⟨B,0,none⟩)] w fun e w'=>e=.returned (.bool (decide (q.parent=nm)))∧Below w.heap.size w w':=by
 have hlt:=yG hc
 have hc2:(w.alloc (.cells #[.string (bs q.name),.string (bs q.parent),.int .i64 q.due,.int .i64 q.most] 100)).cell? ⟨B,0,none⟩=some (.string (bs nm)):=by rw [World.cell?_alloc_lt _ _ ⟨B,0,none⟩ hlt];exact hc
 have hbe:=bs_eq q.parent nm
 clear hc hlt
 go_enter Tryz.func145,Tryz.ntmps145
 go_wp2
 go_ret
 exact ⟨rfl,yA (Below.refl _ _) _⟩
theorem containsFunc_any (g:Nat) (lb:Array Value) (eg:∀args w,(callFunc g args).run Tryz.prog w=.ok (.enter g args) w) (p:Q→Bool) (ao:Option Addr) (len cap:Nat) (l:List Q) (w:World) (h:QRow w ao len l) (hl:len≤1048576)
  (hp:∀wx q,Below w.heap.size w wx→Calls Tryz.prog g (#[qv q]++lb) wx fun e w'=>e=.returned (.bool (p q))∧Below wx.heap.size wx w') :
  Calls Tryz.prog 144 #[.slice ao len cap,.func (.func g) #[] lb] w fun e w'=>e=.returned (.bool (l.any p))∧Below w.heap.size w w':=by
 have C:=hide (indexFunc_any g lb eg p ao len cap l w h hl hp)
 have HS:=hide (idx_has p l 0)
 obtain ⟨i,hi⟩:∃i,idxFrom p l 0=i:=⟨_,rfl⟩
 obtain ⟨b,hb⟩:∃b,l.any p=b:=⟨_,rfl⟩
 rw [hi] at C HS
 rw [hb] at HS ⊢
 clear h hp hi hb
 go_enter Tryz.func144,Tryz.ntmps144
 go_wp2_with fail
 refine (uH C).mono ?_
 rintro e w1 ⟨rfl,hb⟩
 have HB:=hide hb
 clear hb
 by_cases h0:0≤i
 ·go_wp2
  go_ret
  exact ⟨yF (by first | exact uH HS | (rw [←uH HS];simp [h0])),uH HB⟩
 ·go_wp2
  go_ret
  exact ⟨yF (by first | exact uH HS | (rw [←uH HS];simp [h0])),uH HB⟩
def lone (l:List Q) (nm:List UInt8):Bool:=!(l.any (fun q=>decide (q.parent=nm)))&&decide (0≤place l nm)
theorem leaf_lone (l:List Q) (nm:List UInt8):leaf l nm=(queuesOk l&&lone l nm):=by
 rw [leaf,noKid_any,lone]
 cases queuesOk l<;>cases l.any (fun q=>decide (q.parent=nm))<;>simp
theorem lone_any (ao:Option Addr) (len cap:Nat) (l:List Q) (nm:List UInt8) (w:World) (h:QRow w ao len l) (hl:len≤1048576) :
  Calls Tryz.prog 117 #[.slice ao len cap,.string (bs nm)] w fun e w'=>e=.returned (.bool (lone l nm))∧Below w.heap.size w w':=by
 have hmf:∀(fn:Fn) (first cap:Array Value) (w:World),(Instr.makeFunc fn first cap).run Tryz.prog w=.ok (.func fn first cap) w:=fun _ _ _ _=>rfl
 have hb0:=yA (Below.refl _ w) (.cells #[.string (bs nm)] 9)
 have hcell:(w.alloc (.cells #[.string (bs nm)] 9)).cell? ⟨w.heap.size,0,none⟩=some (.string (bs nm)):=by simp
 have CP:=hide (fun wx (hb:Below w.heap.size w wx)=>place_any ao len cap l nm wx (h.below hb) hl)
 have CC:=hide (fun wx (hb:Below w.heap.size w wx) (hx:wx.cell? ⟨w.heap.size,0,none⟩=some (.string (bs nm)))=>containsFunc_any 145 #[.pointer (some ⟨w.heap.size,0,none⟩)] (enters_of Tryz.func145 (by kernel_rfl) rfl) (fun q=>decide (q.parent=nm)) ao len cap l wx (h.below hb) hl
  (fun wy q hy=>kidFn_any w.heap.size nm q wy ((hy.cell (p:=⟨w.heap.size,0,none⟩) (yG hx)).trans hx)))
 have HF:=hide (show lone l nm=(!(l.any (fun q=>decide (q.parent=nm)))&&decide (0≤place l nm)) from rfl)
 obtain ⟨p,hp⟩:∃p,place l nm=p:=⟨_,rfl⟩
 obtain ⟨k,hk⟩:∃k,l.any (fun q=>decide (q.parent=nm))=k:=⟨_,rfl⟩
 obtain ⟨r,hr⟩:∃r,lone l nm=r:=⟨_,rfl⟩
 rw [hp] at CP HF
 rw [hk] at CC HF
 rw [hr] at HF ⊢
 have HB0:=hide hb0
 have HC:=hide hcell
 clear h hb0 hp hk hr hcell
 go_enter Tryz.func117,Tryz.ntmps117
 go_wp2_with fail
 refine (uH CP _ (uH HB0)).mono ?_
 rintro e w2 ⟨rfl,hb⟩
 have HB2:=hide (yB (uH HB0) hb)
 have HC2:=hide ((hb.cell (p:=⟨w.heap.size,0,none⟩) (yG (uH HC))).trans (uH HC))
 clear hb HC HB0 CP
 by_cases h0:0≤p
 ·go_wp2_with fail
  refine (uH CC _ (uH HB2) (uH HC2)).mono ?_
  rintro e w3 ⟨rfl,hb⟩
  have HB3:=hide (yB (uH HB2) hb)
  clear hb
  go_wp2
  go_ret
  exact ⟨yF (by rw [uH HF];simp [h0]),uH HB3⟩
 ·go_wp2
  go_ret
  exact ⟨yF (by rw [uH HF];simp [h0]),uH HB2⟩
def leavesOf (l:List Q):List (List UInt8):=(l.map Q.name).filter (leaf l)
theorem leavesOf_len (l:List Q):(leavesOf l).length≤l.length:=by
 have:=List.length_filter_le (leaf l) (l.map Q.name)
 rw [List.length_map] at this
 exact this
theorem leavesOf_bad {l:List Q} (h:queuesOk l=false):leavesOf l=[]:=by
 rw [leavesOf,List.filter_eq_nil_iff]
 intro a _
 rw [leaf_lone,h];simp
def upsFrom:Nat→List Q→List UInt8→List Q
 | 0,_,_=>[]
 | n+1,l,nm=>if h:0≤place l nm∧(place l nm).toNat<l.length then l[(place l nm).toNat]::upsFrom n (l.take (place l nm).toNat) l[(place l nm).toNat].parent else []
def ups (l:List Q) (nm:List UInt8):List Q:=upsFrom (l.length+1) l nm
theorem upsFrom_more:∀(n m:Nat) (l:List Q) (nm:List UInt8),l.length<n→l.length<m→upsFrom n l nm=upsFrom m l nm
 | 0,_,_,_,h,_=>by omega
 | _+1,0,_,_,_,h=>by omega
 | n+1,m+1,l,nm,h1,h2=>by
  rw [upsFrom,upsFrom]
  split
  ·rename_i h
   rw [upsFrom_more n m _ _ (by simp;omega) (by simp;omega)]
  ·rfl
theorem ups_none {l:List Q} {nm:List UInt8} (h:place l nm<0):ups l nm=[]:=by
 rw [ups,upsFrom,dif_neg (by omega)]
theorem ups_step {l:List Q} {nm:List UInt8} {k:Nat} (hk:k<l.length) (h:place l nm=k):ups l nm=l[k]::ups (l.take k) l[k].parent:=by
 rw [ups,upsFrom]
 simp only [h,Int.toNat_natCast]
 rw [dif_pos (by simp;omega),ups,upsFrom_more l.length ((l.take k).length+1) _ _ (by simp;omega) (by simp)]
theorem ups_len:∀(n:Nat) (l:List Q) (nm:List UInt8),(upsFrom n l nm).length≤l.length
 | 0,l,nm=>by simp [upsFrom]
 | n+1,l,nm=>by
  rw [upsFrom]
  split
  ·rename_i h
   have:=ups_len n (l.take (place l nm).toNat) l[(place l nm).toNat].parent
   simp at this ⊢
   omega
  ·simp
theorem placeFrom_take (nm:List UInt8):∀(l:List Q) (k j:Nat),placeFrom nm (l.take j) k=if placeFrom nm l k<((k+j:Nat):Int) then placeFrom nm l k else -1
 | [],k,j=>by simp [placeFrom];omega
 | x::t,k,0=>by
  rw [List.take_zero,placeFrom]
  rcases placeFrom_range nm (x::t) k with h | h
  ·rw [h,if_pos (by omega)]
  ·rw [if_neg (by omega)]
 | x::t,k,j+1=>by
  rw [List.take_succ_cons,placeFrom,placeFrom]
  by_cases h:x.name=nm
  ·rw [if_pos h,if_pos h,if_pos (by omega)]
  ·rw [if_neg h,if_neg h,placeFrom_take nm t (k+1) j,show k+1+j=k+(j+1) by omega]
theorem place_take (l:List Q) (nm:List UInt8) (j:Nat):place (l.take j) nm=if place l nm<j then place l nm else -1:=by
 have:=placeFrom_take nm l 0 j
 rw [Nat.zero_add] at this
 exact this
def upAt (l:List Q):Nat→Int→List Q
 | 0,_=>[]
 | n+1,p=>if h:0≤p∧p.toNat<l.length then l[p.toNat]::upAt l n (place l l[p.toNat].parent) else []
theorem upAt_names (l:List Q):∀(n:Nat) (p:Int),(upAt l n p).map Q.name=pathAt l n p
 | 0,_=>rfl
 | n+1,p=>by
  rw [upAt,pathAt]
  split
  ·rw [List.map_cons,upAt_names l n]
  ·rfl
theorem upsFrom_upAt {l:List Q} (h:queuesOk l=true):∀(n j:Nat) (nm:List UInt8),place l nm<j→upsFrom n (l.take j) nm=upAt l n (place l nm)
 | 0,_,_,_=>rfl
 | n+1,j,nm,hj=>by
  have hp:place (l.take j) nm=place l nm:=by rw [place_take,if_pos hj]
  have hr:=place_range l nm
  rw [upsFrom,upAt]
  simp only [hp]
  by_cases h0:0≤place l nm
  ·rw [dif_pos ⟨h0,by simp;omega⟩,dif_pos ⟨h0,by omega⟩]
   rw [List.getElem_take,List.take_take,show min (place l nm).toNat j=(place l nm).toNat by omega]
   rw [upsFrom_upAt h n _ _ (parent_ahead h (by omega))]
  ·rw [dif_neg (by omega),dif_neg (by omega)]
theorem ups_up {l:List Q} (h:queuesOk l=true) (nm:List UInt8):ups l nm=upAt l (l.length+1) (place l nm):=by
 have hr:=place_range l nm
 have:=upsFrom_upAt h (l.length+1) l.length nm (by omega)
 rwa [List.take_length] at this
theorem ups_path {l:List Q} (h:queuesOk l=true) (nm:List UInt8):(ups l nm).map Q.name=path l nm:=by
 rw [ups_up h,upAt_names,path,h];rfl
end
section
open Go.RowKit Go.Shelf
attribute [local go_sem] Oper.semAt_some
def KpQ (n:Nat) (W W':World):Prop:=Below n W W'∧∀k q,QBox W k q→QBox W' k q
theorem kpq_t {n:Nat} {A B C:World} (h:KpQ n A B) (k:KpQ n B C):KpQ n A C:=⟨h.1.trans k.1,fun i q hq=>k.2 i q (h.2 i q hq)⟩
theorem kpq_b {n:Nat} {w:World} (hn:n≤w.heap.size) (W:World) (l:Nat) (o o':Obj) (hl:w.heap.size≤l) (h:W.heap[l]? = some o) (h1:o.isCells=false) (h2:o.isWalk=false):KpQ n W (W.putObj l o'):=by
 refine ⟨belowK_b hn W l o o' hl h h1 h2,fun k q hq=>?_⟩
 have hne:k≠l:=fun e=>by
  subst e
  rw [show W.heap[k]? = _ from hq] at h
  cases h
  cases h1
 exact ((grownBy_putObj' W l o').block k hq.lt (by simp;omega)).trans hq
theorem kpq_of {n:Nat} {W W':World} (hn:n≤W.heap.size) (h:Below W.heap.size W W'):KpQ n W W':=⟨h.mono hn,fun k q hq=>hq.below h⟩
def sliceLen:Value→Nat
 | .slice _ n _=>n
 | _=>0
theorem abide {J:List Q→World→Prop} {B:Nat} (hJ:AbidesFrom B J) {pre:List Q} {W W':World} (h:J pre W) (hb:Below W.heap.size W W'):J pre W':=
 hJ pre W W' none h (grownBy_below (grownBy_refl W none) hb) (fun r e=>by cases e)
theorem above1_in (n l Bq Bn:Nat) (ao:Option Addr) (len cap:Nat) (ls:List Q) (nm:List UInt8) (w0 W:World) (J Jx:List Q→World→Prop) (hJ:AbidesFrom W.heap.size J)
  (hY:∀pre x W1,x ∈ ls→J pre W1→pre.length<ls.length→YieldAt Fence.wide (n - 1) Tryz.prog l #[qv x] W1 fun e W'=>
   (e=.returned (.bool true)∧J (pre++[x]) W'∧KpQ w0.heap.size W1 W')∨(e=.returned (.bool false)∧Jx (pre++[x]) W'))
  (hq:W.cell? ⟨Bq,0,none⟩=some (.slice ao len cap)) (hnm:W.cell? ⟨Bn,0,none⟩=some (.string (bs nm))) (h:QRow w0 ao len ls) (hb:Below w0.heap.size w0 W) (hl:len≤1048576) (hc:len≤cap) (h0:J [] W) :
  CallsIn Fence.wide n Tryz.prog 206 #[.func (.yield l) #[] #[],.pointer (some ⟨Bq,0,none⟩),.pointer (some ⟨Bn,0,none⟩)] W fun e W'=>(∃v,e=.returned v)∧
   ((∃ys,ys=ups ls nm∧J ys W')∨(∃pre,pre <+: ups ls nm∧Jx pre W')):=by
 have HR:=hide h
 have HL:=hide h.1
 have HB:=hide hb
 have HJ:=hide hJ
 have HY:=hide hY
 have H0:=hide h0
 have CP:=hide (fun wx (hb:Below w0.heap.size w0 wx) (k:Nat) (hk:k≤len) (x:List UInt8)=>place_any ao k cap (ls.take k) x wx ((h.below hb).take hk) (by omega))
 obtain ⟨p0,hp0⟩:∃p,place (ls.take len) nm=p:=⟨_,rfl⟩
 have CP0:=hide (by have:=uH CP W.drew hb.drew len (Nat.le_refl _) nm;rw [hp0] at this;exact this)
 have HU0:=hide (show ups ls nm=[]++ups (ls.take len) nm by rw [show ls.take len=ls by rw [h.1];exact List.take_length];rfl)
 have HP0:=hide hp0
 have HN:=hide (ups_len (ls.length+1) ls nm)
 clear h hb hJ hY h0 hp0
 have hmx:Tryz.prog.follows .mixedOrders=true:=by kernel_rfl
 refine callsIn_of_wp Tryz.func206 rfl trivial ?_ rfl
 simp only [Tryz.ntmps206,List.size_toArray,List.length_cons,List.length_nil,Nat.reduceAdd,Nat.reduceSub,Array.replicate_succ,Array.replicate_zero,List.push_toArray,List.append_toArray,List.nil_append,List.cons_append]
 gi_wp2_with fail
 gi_region_o
 gi_wp2_with fail
 refine ⟨trivial,(by intro e;cases e),?_⟩
 refine (callsIn_wide.2 (uH CP0)).mono ?_
 rintro e w1 ⟨rfl,hb⟩
 have HB1:=hide (yB (uH HB).drew hb)
 have H1:=hide (abide (uH HJ) (uH H0) (yB (Below.refl _ W).drew hb))
 clear hb HB H0 CP0 hq hnm
 gi_wp2
 gi_loopw [4,5,6,7] (fun a s i _ wr=>∃(k:Nat) (x:List UInt8) (pre:List Q) (p:Int),k≤len∧a=.slice ao k cap∧s=.string (bs x)∧i=.int .i64 p∧Hid (place (ls.take k) x=p)∧Hid (ups ls nm=pre++ups (ls.take k) x)∧Hid (J pre wr)∧Hid (Below w0.heap.size w0 wr)) (fun a _ _ _ _=>sliceLen a)
 case atStart=>exact ⟨len,nm,[],p0,Nat.le_refl _,rfl,rfl,rfl,HP0,HU0,H1,HB1⟩
 case round=>
  obtain ⟨k,x,pre,p,hk,rfl,rfl,rfl,HP,HU,HJ1,HBr⟩:=hrel
  clear HB1 H1 HP0 HU0
  by_cases h0:0≤p
  ·obtain ⟨j,rfl⟩:∃j:Nat,p=j:=⟨p.toNat,by omega⟩
   have hjk:j<k:=by have:=place_range (ls.take k) x;rw [uH HP] at this;simp at this;omega
   have hjl:j<(ls.take k).length:=by simp;have:=uH HL;omega
   have hst:=ups_step hjl (uH HP)
   obtain ⟨b,off,rfl,hq⟩:=(((uH HR).below (uH HBr)).take hk).at hjk
   obtain ⟨c0,c1,c2,c3⟩:=hq hjl
   rw [List.take_take,show min j k=j by omega] at hst
   obtain ⟨⟨qn,pa,du,mo⟩,hs⟩:∃s,(ls.take k)[j]=s:=⟨_,rfl⟩
   have hin:(⟨qn,pa,du,mo⟩:Q) ∈ ls:=by rw [←hs];exact List.mem_of_mem_take (List.getElem_mem _)
   rw [hs] at c0 c1 c2 c3 hst
   simp only at c0 c1 c2 c3 hst
   have HA:=hide (QBox.new wr ⟨qn,pa,du,mo⟩)
   have HB2:=hide (yA (uH HBr) (qobj ⟨qn,pa,du,mo⟩))
   have hlt:pre.length<ls.length:=by
    have e:=congrArg List.length (uH HU)
    rw [hst] at e
    have:=uH HN
    rw [show upsFrom (ls.length+1) ls nm=ups ls nm from rfl,e] at this
    simp at this
    omega
   obtain ⟨fn,tmps,assign,body,hy,hR⟩:=uH HY pre ⟨qn,pa,du,mo⟩ _ hin (abide (uH HJ) (uH HJ1) (yA (Below.refl _ wr) (qobj ⟨qn,pa,du,mo⟩))) hlt
   have HRR:=hide hR
   have HST:=hide hst
   have k0:=(uH HA).c0
   have k1:=(uH HA).c1
   have k2:=(uH HA).c2
   have k3:=(uH HA).c3
   simp only at k0 k1 k2 k3
   clear hq hR hst hs hjl hlt hin
   gi_wp2
   refine ⟨(by intro e;cases e),?_⟩
   refine (uH HRR).mono ?_
   rintro e W3 (⟨rfl,hJ3,hk3⟩ | ⟨rfl,hJx3⟩)
   ·have HA3:=hide (hk3.2 _ _ (uH HA))
    have HB3:=hide ((uH HB2).trans hk3.1)
    have HJ3:=hide hJ3
    clear k0 k1 k2 k3 hJ3 hk3 hy HRR c0 c1 c2 c3
    have k1:=(uH HA3).c1
    simp only at k1
    have hcut:=cut_q b off k cap j (by omega)
    have hjc:(j:Int)≤cap:=by omega
    obtain ⟨p',hp'⟩:∃p,place (ls.take j) pa=p:=⟨_,rfl⟩
    have CPj:=hide (by have:=uH CP W3.drew (uH HB3).drew j (by omega) pa;rw [hp'] at this;exact this)
    have HP':=hide hp'
    clear hp'
    gi_wp2_with fail
    gi_region_o
    gi_wp2_with fail
    refine ⟨trivial,(by intro e;cases e),?_⟩
    refine (callsIn_wide.2 (uH CPj)).mono ?_
    rintro e w4 ⟨rfl,hb⟩
    have HB4:=hide (yB (uH HB3).drew hb)
    have HJ4:=hide (abide (uH HJ) (uH HJ3) (yB (Below.refl _ W3).drew hb))
    clear hb CPj k1
    gi_wp2
    go_roundw
    case rel=>exact ⟨j,pa,pre++[⟨qn,pa,du,mo⟩],p',by omega,rfl,rfl,rfl,HP',hide (by rw [uH HU,uH HST];simp),HJ4,HB4⟩
    case measure=>simp [sliceLen];omega
   ·gi_wp2
    refine bodyPost_ret (results_none rfl _ _ _) rfl ?_
    exact ⟨⟨_,rfl⟩,.inr ⟨pre++[⟨qn,pa,du,mo⟩],⟨ups (ls.take j) pa,by rw [uH HU,uH HST];simp⟩,hJx3⟩⟩
  ·gi_wp2
   go_end0
   have he:pre=ups ls nm:=by rw [uH HU,ups_none (by rw [uH HP];omega)];simp
   subst he
   exact ⟨⟨_,rfl⟩,.inl (by first | exact uH HJ1 | exact ⟨_,rfl,uH HJ1⟩)⟩
theorem above_any (ao:Option Addr) (len cap:Nat) (nm:List UInt8) (w:World) :
  Calls Tryz.prog 194 #[.slice ao len cap,.string (bs nm)] w fun e w'=>e=.returned (.func (.func 206) #[] #[.pointer (some ⟨w.heap.size,0,none⟩),.pointer (some ⟨w.heap.size+1,0,none⟩)])∧(w.alloc (.cells #[.slice ao len cap] 29)).alloc (.cells #[.string (bs nm)] 9)=w':=by
 have hmf:∀(fn:Fn) (first cap:Array Value) (w:World),(Instr.makeFunc fn first cap).run Tryz.prog w=.ok (.func fn first cap) w:=fun _ _ _ _=>rfl
 go_enter Tryz.func194,Tryz.ntmps194
 go_wp2
 go_ret
 exact ⟨rfl,rfl⟩
theorem above_stops (n Bq Bn:Nat) (ao:Option Addr) (len cap:Nat) (ls:List Q) (nm:List UInt8) (w0 w:World) (h:QRow w0 ao len ls) (hb:Below w0.heap.size w0 w) (hl:len≤1048576) (hc:len≤cap)
  (hq:w.cell? ⟨Bq,0,none⟩=some (.slice ao len cap)) (hn:w.cell? ⟨Bn,0,none⟩=some (.string (bs nm))) :
  SeqStopsK Fence.wide n Tryz.prog 206 #[.pointer (some ⟨Bq,0,none⟩),.pointer (some ⟨Bn,0,none⟩)] (fun x : { q:Q // q ∈ ls }=>#[qv x.1]) (KpQ w0.heap.size) (fun ys=>ys.map Subtype.val=ups ls nm) (fun pre=>pre.map Subtype.val <+: ups ls nm) ls.length w:=by
 intro l J Jx W hW hJ hJx hY h0
 refine (above1_in n l Bq Bn ao len cap ls nm w0 W (fun pre W=>∃p:List { q:Q // q ∈ ls },p.map Subtype.val=pre∧J p W) (fun pre W=>∃p:List { q:Q // q ∈ ls },p.map Subtype.val=pre∧Jx p W)
  (fun s A B row hs hg hr=>by obtain ⟨p,e,hj⟩:=hs;exact ⟨p,e,hJ p A B row hj hg hr⟩) ?_ ((hW.cell (p:=⟨Bq,0,none⟩) (yG hq)).trans hq) ((hW.cell (p:=⟨Bn,0,none⟩) (yG hn)).trans hn) h (yB hb hW) hl hc ⟨[],rfl,h0⟩).mono ?_
 ·rintro pre x W1 hx ⟨p,rfl,hj⟩ hlt
  obtain ⟨fn,tmps,assign,body,hy,hR⟩:=hY p ⟨x,hx⟩ W1 hj (by simpa using hlt)
  refine ⟨fn,tmps,assign,body,hy,hR.mono ?_⟩
  rintro e W' (⟨rfl,hj',hk⟩ | ⟨rfl,hj'⟩)
  ·exact .inl ⟨rfl,⟨p++[⟨x,hx⟩],by simp,hj'⟩,hk⟩
  ·exact .inr ⟨rfl,⟨p++[⟨x,hx⟩],by simp,hj'⟩⟩
 ·rintro e W' ⟨hv,⟨ys,hy,p,hp,hj⟩ | ⟨pre,hpre,p,hp,hj⟩⟩
  ·exact ⟨hv,.inl ⟨p,hp.trans hy,hj⟩⟩
  ·exact ⟨hv,.inr ⟨p,(show p.map Subtype.val <+: ups ls nm by rw [hp];exact hpre),hj⟩⟩
end
section
open Go.RowKit
abbrev conobj (m:Con):Obj:=.cells #[.int .i64 m.id,.int .i64 m.app,.string (bs m.node),.int .i64 m.mem,.int .i64 m.cpu] 38
theorem used_len {p:Con→Bool} (l:List Con):(usedL p l).length≤l.length:=by simp [usedL];exact List.length_filter_le _ _
theorem used_any (g:Nat) (lb:Array Value) (eg:∀args w,(callFunc g args).run Tryz.prog w=.ok (.enter g args) w) (p:Con→Bool) (x:Sls) (s:St) (w:World) (h:ConRow w x.ca x.cl s.cs) (hl:x.cl≤1048576)
  (hp:∀wx q,Below w.heap.size w wx→Calls Tryz.prog g (#[conv q]++lb) wx fun e w'=>e=.returned (.bool (p q))∧Below wx.heap.size wx w') :
  Calls Tryz.prog 187 #[sv x s,.func (.func g) #[] lb] w fun e w'=>e=.returned (rv (sumR (usedL p s.cs)).1 (sumR (usedL p s.cs)).2.1)∧Below w.heap.size w w':=by
 obtain ⟨i0,hi,hz0,hz1,hz2⟩:=info_parts Tryz.infoR
 obtain ⟨qa,ql,qc,aa,al,ac,ma,ml,mc,ca,cl,cc⟩:=x
 obtain ⟨qs,clock,epoch,next,serial,apps,ms,cs⟩:=s
 simp only at h hl ⊢
 have HR:=hide h
 have HL:=hide h.1
 have HP:=hide hp
 obtain ⟨c,hc⟩:∃c:Array Value,#[.slice qa ql qc,.int .i64 clock,.int .i64 epoch,.int .i64 next,.int .i64 serial,.slice aa al ac,.slice ma ml mc,.slice ca cl cc]=c:=⟨_,rfl⟩
 have HC:=hide hc
 have HB0:=hide (capW_below w c)
 have V0:=hide (capW_var w c)
 have HW:=hide (capW_size w c)
 clear h hc hp
 obtain ⟨⟨sx,sy,so⟩,hs⟩:∃s,sumR (usedL p cs)=s:=⟨_,rfl⟩
 have HS:=hide hs
 rw [hs]
 clear hs
 go_enter Tryz.func187,Tryz.ntmps187
 go_wp2
 go_loopw [5,13] (fun v i wr=>∃(k:Nat),k≤cl∧i=.int .i64 k∧Hid (ROwn (capW w c).heap.size wr v (usedL p (cs.take k)))∧Hid (Below (capW w c).heap.size (capW w c) wr)) (fun _ i _=>cl - (intOf i).toNat)
 case atStart=>
  obtain rfl:=uH HC
  exact ⟨0,Nat.zero_le _,rfl,hide (by simpa [usedL] using rown_nil _ _),hide (Below.refl _ _)⟩
 case round=>
  obtain ⟨k,hk,rfl,HO,HB⟩:=hrel
  by_cases hlt:k<cl
  ·obtain ⟨b,off,rfl,hq⟩:=(((uH HR).below (uH HB0)).below (uH HB)).at hlt
   have hkl:k<cs.length:=by have:=uH HL;omega
   have hst:=usedL_step (p:=p) hkl
   obtain ⟨c0,c1,c2,c3,c4⟩:=hq hkl
   obtain ⟨m,hs⟩:∃q,cs[k]=q:=⟨_,rfl⟩
   rw [hs] at c0 c1 c2 c3 c4 hst
   have hal:(usedL p (cs.take k)).length≤1048576:=by have:=used_len (p:=p) (cs.take k);simp at this;omega
   obtain ⟨acc,hacc⟩:∃a,usedL p (cs.take k)=a:=⟨_,rfl⟩
   rw [hacc] at hst hal HO
   obtain ⟨id,ap,nd,me,cp⟩:=m
   simp only at c0 c1 c2 c3 c4 hst
   have HBA:=hide (yA (Below.refl _ wr) (conobj ⟨id,ap,nd,me,cp⟩))
   have HCL:=hide (uH HP (wr.alloc (conobj ⟨id,ap,nd,me,cp⟩)) ⟨id,ap,nd,me,cp⟩ (yB (yB (uH HB0) (uH HB)) (uH HBA)))
   have KB:=hide (yD wr #[.int .i64 id,.int .i64 ap,.string (bs nd),.int .i64 me,.int .i64 cp] 38)
   clear hq hs hkl hacc
   cases hpq:p ⟨id,ap,nd,me,cp⟩ with
   | true=>
    rw [hpq] at HCL
    rw [hpq,if_pos rfl] at hst
    have HST:=hide hst
    clear hpq hst
    go_wp2_with (first
     | (go_at_fn g;refine (uH HCL).mono ?_;rintro e w1 ⟨rfl,hb⟩;have HB1:=hide (yB (yB (uH HB) (uH HBA)) hb);have HO1:=hide (((uH HO).below (uH HBA)).below hb);have b1:=(uH KB).below hb;have q3:=b1.at 3;have q4:=b1.at 4;simp at q3 q4;have hs2:(capW w c).heap.size≤w1.heap.size:=(uH HB1).size;have hown:w1.ownsRow (capW w c).heap.size 36 2 _ acc.length (rcells acc):=uH HO1;clear b1 hb HCL c0 c1 c2 c3 c4 HO HB)
     | (at_builtin;refine wpList_append_own _ rfl _ _ 141 rfl (capW w c).heap.size 36 i0 (.agg #[.int .i64 0,.int .i64 0]) 2 16 Tryz.underlying141 hi hz0 hz1 hz2 rfl (by decide) _ _ _ rfl (hown.alloc _) ⟨w1.heap.size,0,none⟩ 1 1 (rcell (me,cp)) rfl rfl ?c1 ?c2 ?c3 ?c4 ?c5 ?_))
    case c1=>
     intro j x hj
     match j,hj with
     | 0,hj=>simp at hj;subst hj;simp [Addr.add]
     | 1,hj=>simp at hj;subst hj;simp [Addr.add]
     | _+2,hj=>simp at hj
    case c2=>intro x hx;simp at hx;rcases hx with rfl | rfl<;>rfl
    case c3=>unfold maxLen;omega
    case c4=>omega
    case c5=>simp at hs2 ⊢;omega
    intro v' w3 hown' hgrow _
    have R:=rown_step (q:=(me,cp)) (uH HB1) (uH HO1) hown' hgrow hs2
    have HR3:=hide R
    clear hown' hgrow hown R q3 q4
    go_wp2
    go_roundw
    case rel=>exact ⟨k+1,by omega,by go_num,hide (by rw [uH HST];exact (uH HR3).1),hide (uH HR3).2⟩
    case measure=>simp [intOf];omega
   | false=>
    rw [hpq] at HCL
    rw [hpq,if_neg (by simp)] at hst
    have HST:=hide hst
    clear hpq hst
    go_wp2_with (go_at_fn g;refine (uH HCL).mono ?_;rintro e w1 ⟨rfl,hb⟩;have HB1:=hide (yB (yB (uH HB) (uH HBA)) hb);have HO1:=hide (((uH HO).below (uH HBA)).below hb);clear hb HCL c0 c1 c2 c3 c4 HO HB)
    go_roundw
    case rel=>exact ⟨k+1,by omega,by go_num,hide (by rw [uH HST];exact uH HO1),HB1⟩
    case measure=>simp [intOf];omega
  ·have htk:cs.take k=cs:=List.take_of_length_le (by have:=uH HL;omega)
   rw [htk] at HO
   obtain ⟨ao,cp,rfl,hrow,hcp⟩:=(uH HO).row
   have hlc:(usedL p cs).length≤1048576:=by have:=used_len (p:=p) cs;have:=uH HL;omega
   have CT:=hide (together_any ao _ cp (usedL p cs) wr hrow hlc)
   rw [uH HS] at CT
   obtain ⟨n,hn⟩:∃n,(usedL p cs).length=n:=⟨_,rfl⟩
   rw [hn] at CT ⊢
   clear hrow hn htk hcp hlc HO
   go_wp2_with fail
   refine (uH CT).mono ?_
   rintro e w1 ⟨rfl,hb⟩
   have hsz:w.heap.size+1<(capW w c).heap.size:=by have:=uH HW;omega
   have V1:Var w1 36 (w.heap.size+1) 0 0:=Var.below ((uH HB).block _ hsz |>.trans (uH V0)) hb
   have HB1:=hide (yB (yB (uH HB0) (uH HB)) hb)
   have V2:=V1.al (.cells #[.int .i64 sx,.int .i64 sy] 36)
   have t0:=V2.c0
   have t1:=V2.c1
   have f0:=V2.f 0
   have f1:=V2.f 1
   have VG:=V2.set sx sy
   have k6:=VG.c0
   have k7:=VG.c1
   clear hb V1 V2 VG CT HB HB0
   go_wp2
   refine bodyPost_ret (v:=rv sx sy) (by simp [results,Tryz.results187,go_sem,k6,k7]) rfl ⟨rfl,?_⟩
   repeat (first | exact uH HB1 | refine yA ?_ _ | refine yC ?_ _ _ _ (by omega))
end
section
open Go.RowKit Go.Shelf
def KpA (W W':World):Prop:=∀(k:Nat) (o:Obj),W.heap[k]? = some o→o.isCells=true→W'.heap[k]? = some o
theorem kpa_t {A B C:World} (h:KpA A B) (k:KpA B C):KpA A C:=fun i o ho hc=>k i o (h i o ho hc) hc
theorem kpa_b {w:World} (W:World) (l:Nat) (o o':Obj) (hl:w.heap.size≤l) (h:W.heap[l]? = some o) (h1:o.isCells=false) (h2:o.isWalk=false):KpA W (W.putObj l o'):=fun k q hq hc=>by
 have hne:k≠l:=fun e=>by
  subst e
  rw [hq] at h
  cases h
  rw [h1] at hc
  cases hc
 exact ((grownBy_putObj' W l o').block k (lt_of_block hq) (by simp;omega)).trans hq
theorem kpa_below {W W':World} (h:Below W.heap.size W W'):KpA W W':=fun k o ho _=>(h.block k (lt_of_block ho)).trans ho
theorem cell_cells {W:World} {b j:Nat} {v:Value} (hc:W.cell? ⟨b,j,none⟩=some v):∃o,W.heap[b]? = some o∧o.isCells=true:=by
 cases h:W.heap[b]? with
 | none=>simp [World.cell?,h] at hc
 | some o=>
  refine ⟨o,rfl,?_⟩
  cases o<;>simp [World.cell?,h] at hc<;>rfl
theorem KpA.cell {W W':World} (h:KpA W W') {b j:Nat} {v:Value} (hc:W.cell? ⟨b,j,none⟩=some v):W'.cell? ⟨b,j,none⟩=some v:=by
 obtain ⟨o,h1,h2⟩:=cell_cells hc
 have h3:=h b o h1 h2
 unfold World.cell? at hc ⊢
 rw [h1] at hc
 rw [h3]
 exact hc
theorem keepsO_below {w w':World} (hb:Below w.heap.size w w'):KeepsOthers w w':=KeepsOthers.of_grownBy (row:=none) (grownBy_below (grownBy_refl w none) hb) (fun j o e=>by cases e)
end
end Go.Proofs.YtdhibeclkdepiaaGreat
