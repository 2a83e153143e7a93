/-
  What is due to a queue of a total, and the most that it may have: what the program's DueOf and MostOf answer; walks over the dump.
-/
import Derived.Test.YtfndhndlkcijoaaGreatTackX
set_option maxRecDepth 100000
set_option maxHeartbeats 16000000
set_option linter.unusedVariables false
set_option linter.unusedSimpArgs false
open Go.Proofs.Tryz
namespace Go.Proofs.YtfndhndlkcijoaaGreat
section
open Go.RowKit
theorem aEl (w:World) (q:Q) :
  cP 93 #[qv q] w fun e w'=>e=.returned (.int .i64 (dQ true q))∧Bw w w':=by
 go_enter func93,ntmps93
 go_wp2;go_ret;exact ⟨rfl,yA (yH _ _) _⟩
theorem pF (ao:Option Addr) (len cap:Nat) (l:List Q) (nm:List UInt8) (a b:Int) (w:World) (h:gH w ao len l) (hl:len≤1048576) (hn:∀q ∈ l,q.name.length≤1048576) (hc:len≤cap) :
  cP 29 #[.slice ao len cap,.string (bs nm),rv a b] w fun e w'=>e=.returned (rv (ofR l nm a b true).1 (ofR l nm a b true).2)∧Bw w w':=by
 have ZE:∀(fn:Fn) (first cap:Array Value) (w:World),(Instr.makeFunc fn first cap).run Tryz.prog w=.ok (.func fn first cap) w:=fun _ _ _ _=>rfl
 have HB0:=aA (yA (yA (yH _ w) (.cells #[.int .i64 a,.int .i64 b] 33)) (.cells #[.int .i64 0,.int .i64 0] 33));have GR:=aA (iB w 33 33 a b 0 0);have C:=aA (aAH 93 (enters_of func93 (by kernel_rfl) rfl) true (fun wx q=>aEl wx q) ao len cap l nm a b _ (h.below (uH HB0)) hl hn hc);obtain ⟨⟨x,y⟩,hxy⟩:∃p,ofR l nm a b true=p:=⟨_,rfl⟩;rw [hxy] at C ⊢;clear hxy h hn;go_enter func29,ntmps29;go_wp2_with fail
 refine (uH C).mono ?_;rintro e w1 ⟨rfl,hb⟩;have V2:=(uH GR).below hb;have k0:=V2.c0;have k1:=V2.c1;have k2:=V2.f 0;have k3:=V2.f 1;have k4:=V2.s0 (.int .i64 x);have k5:=V2.s1 (.int .i64 x) (.int .i64 y);have HB:=aA (yB (uH HB0) hb);clear hb V2 GR HB0 C;go_wp2;refine bodyPost_ret (v:=rv x y) (by simp [results,results29,go_sem,k4,k5]) rfl ⟨rfl,?_⟩;repeat (first | exact uH HB | refine yA ?_ _ | refine Below.drew ?_ | refine yC ?_ _ _ _ (by omega))
end
end Go.Proofs.YtfndhndlkcijoaaGreat
