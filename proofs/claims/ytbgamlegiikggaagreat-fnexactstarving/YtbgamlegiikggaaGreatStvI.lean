/-
  The leaves that starve, in order: what the program's Starving answers; a walk over the dump.
-/
import Derived.Test.YtbgamlegiikggaaGreatLeavesI
import Derived.Test.YtbgamlegiikggaaGreatPackI
import Derived.Test.YtbgamlegiikggaaGreatUByI
import Derived.Test.YtbgamlegiikggaaGreatPackM
import Derived.Test.YtbgamlegiikggaaGreatSortT
import Derived.Deep.RegionHeld3
import Derived.Deep.CutRange
namespace Go.Proofs.YtbgamlegiikggaaGreat
open Go.RowKit Go.Maps
set_option linter.unusedVariables false
set_option linter.unusedSimpArgs false

def SVI0 (w w1 : World) (nm : List UInt8) (ux uy tx ty dx dy : Int) (gv n0 k vc : Nat) (u3 u6 u7 u18 u23 u24 u25 u26 u27 u28 u29 u30 u31 u32 u33 u34 u35 u36 u37 u38 u39 u40 u41 u42 : Value) (qa : Option Addr) (ql qc : Nat) (aa : Option Addr) (al ac : Nat) (ma : Option Addr) (ml mc : Nat) (ca : Option Addr) (cl cc : Nat) (qs : List Q) (clock epoch next serial : Int) (apps : List Appl) (ms : List Mac) (cs : List Con) (n : Nat) (lz : Array Bool) (az : Act) (wz : World) : Prop := (n = 7 ∧ lz = #[true, true, false, true, true, true, true, false, false, false, false, false, false] ∧ az = { tmps := #[sv ⟨qa, ql, qc, aa, al, ac, ma, ml, mc, ca, cl, cc⟩ ⟨qs, clock, epoch, next, serial, apps, ms, cs⟩, .pointer (some ⟨w.heap.size, 0, none⟩), .slice none 0 0, u3, undef, .string (bs nm), u6, u7, .pointer (some ⟨w.heap.size, 0, none⟩), .slice qa ql qc, .slice (some ⟨gv, 0, none⟩) n0 vc, .int .i64 (n0 : Int), .int .i64 (k : Int), .bool true, .pointer (some ⟨gv, k, none⟩), .string (bs nm), .agg #[.slice qa ql qc, .int .i64 clock, .int .i64 epoch, .int .i64 next, .int .i64 serial, .slice aa al ac, .slice ma ml mc, .slice ca cl cc], .string (bs nm), u18, .pointer (some ⟨w.heap.size, 0, none⟩), .slice qa ql qc, .string (bs nm), .agg #[.slice qa ql qc, .int .i64 clock, .int .i64 epoch, .int .i64 next, .int .i64 serial, .slice aa al ac, .slice ma ml mc, .slice ca cl cc], u23, u24, u25, u26, u27, u28, u29, u30, u31, u32, u33, u34, u35, u36, u37, u38, u39, u40, u41, u42, undef, undef, undef], defers := [] } ∧ Kp w1 wz)
def SVI1 (w w1 : World) (nm : List UInt8) (ux uy tx ty dx dy : Int) (gv n0 k vc : Nat) (u3 u6 u7 u18 u23 u24 u25 u26 u27 u28 u29 u30 u31 u32 u33 u34 u35 u36 u37 u38 u39 u40 u41 u42 : Value) (qa : Option Addr) (ql qc : Nat) (aa : Option Addr) (al ac : Nat) (ma : Option Addr) (ml mc : Nat) (ca : Option Addr) (cl cc : Nat) (qs : List Q) (clock epoch next serial : Int) (apps : List Appl) (ms : List Mac) (cs : List Con) (n : Nat) (lz : Array Bool) (az : Act) (wz : World) : Prop := (∃ g7 : Nat, n = 6 ∧ lz = #[true, true, false, true, true, true, true, false, false, false, true, false, false] ∧ az = { tmps := #[sv ⟨qa, ql, qc, aa, al, ac, ma, ml, mc, ca, cl, cc⟩ ⟨qs, clock, epoch, next, serial, apps, ms, cs⟩, .pointer (some ⟨w.heap.size, 0, none⟩), .slice none 0 0, u3, undef, .string (bs nm), u6, .pointer (some ⟨g7, 0, none⟩), .pointer (some ⟨w.heap.size, 0, none⟩), .slice qa ql qc, .slice (some ⟨gv, 0, none⟩) n0 vc, .int .i64 (n0 : Int), .int .i64 (k : Int), .bool true, .pointer (some ⟨gv, k, none⟩), .string (bs nm), .agg #[.slice qa ql qc, .int .i64 clock, .int .i64 epoch, .int .i64 next, .int .i64 serial, .slice aa al ac, .slice ma ml mc, .slice ca cl cc], .string (bs nm), u18, .pointer (some ⟨w.heap.size, 0, none⟩), .slice qa ql qc, .string (bs nm), .agg #[.slice qa ql qc, .int .i64 clock, .int .i64 epoch, .int .i64 next, .int .i64 serial, .slice aa al ac, .slice ma ml mc, .slice ca cl cc], u23, u24, u25, u26, u27, u28, u29, u30, u31, u32, u33, u34, u35, u36, u37, u38, u39, u40, u41, u42, undef, undef, undef], defers := [] } ∧ VB w1 wz g7 0 0 ∧ Kp w1 wz)
def SVI2 (w w1 : World) (nm : List UInt8) (ux uy tx ty dx dy : Int) (gv n0 k vc : Nat) (u3 u6 u7 u18 u23 u24 u25 u26 u27 u28 u29 u30 u31 u32 u33 u34 u35 u36 u37 u38 u39 u40 u41 u42 : Value) (qa : Option Addr) (ql qc : Nat) (aa : Option Addr) (al ac : Nat) (ma : Option Addr) (ml mc : Nat) (ca : Option Addr) (cl cc : Nat) (qs : List Q) (clock epoch next serial : Int) (apps : List Appl) (ms : List Mac) (cs : List Con) (n : Nat) (lz : Array Bool) (az : Act) (wz : World) : Prop := (∃ g6 : Nat, n = 6 ∧ lz = #[true, true, false, true, true, true, true, false, false, true, false, false, false] ∧ az = { tmps := #[sv ⟨qa, ql, qc, aa, al, ac, ma, ml, mc, ca, cl, cc⟩ ⟨qs, clock, epoch, next, serial, apps, ms, cs⟩, .pointer (some ⟨w.heap.size, 0, none⟩), .slice none 0 0, u3, undef, .string (bs nm), .pointer (some ⟨g6, 0, none⟩), u7, .pointer (some ⟨w.heap.size, 0, none⟩), .slice qa ql qc, .slice (some ⟨gv, 0, none⟩) n0 vc, .int .i64 (n0 : Int), .int .i64 (k : Int), .bool true, .pointer (some ⟨gv, k, none⟩), .string (bs nm), .agg #[.slice qa ql qc, .int .i64 clock, .int .i64 epoch, .int .i64 next, .int .i64 serial, .slice aa al ac, .slice ma ml mc, .slice ca cl cc], .string (bs nm), u18, .pointer (some ⟨w.heap.size, 0, none⟩), .slice qa ql qc, .string (bs nm), .agg #[.slice qa ql qc, .int .i64 clock, .int .i64 epoch, .int .i64 next, .int .i64 serial, .slice aa al ac, .slice ma ml mc, .slice ca cl cc], u23, u24, u25, u26, u27, u28, u29, u30, u31, u32, u33, u34, u35, u36, u37, u38, u39, u40, u41, u42, undef, undef, undef], defers := [] } ∧ VB w1 wz g6 0 0 ∧ Kp w1 wz)
def SVI3 (w w1 : World) (nm : List UInt8) (ux uy tx ty dx dy : Int) (gv n0 k vc : Nat) (u3 u6 u7 u18 u23 u24 u25 u26 u27 u28 u29 u30 u31 u32 u33 u34 u35 u36 u37 u38 u39 u40 u41 u42 : Value) (qa : Option Addr) (ql qc : Nat) (aa : Option Addr) (al ac : Nat) (ma : Option Addr) (ml mc : Nat) (ca : Option Addr) (cl cc : Nat) (qs : List Q) (clock epoch next serial : Int) (apps : List Appl) (ms : List Mac) (cs : List Con) (n : Nat) (lz : Array Bool) (az : Act) (wz : World) : Prop := (∃ g6 g7 : Nat, n = 5 ∧ lz = #[true, true, false, true, true, true, true, false, false, true, true, false, false] ∧ az = { tmps := #[sv ⟨qa, ql, qc, aa, al, ac, ma, ml, mc, ca, cl, cc⟩ ⟨qs, clock, epoch, next, serial, apps, ms, cs⟩, .pointer (some ⟨w.heap.size, 0, none⟩), .slice none 0 0, u3, undef, .string (bs nm), .pointer (some ⟨g6, 0, none⟩), .pointer (some ⟨g7, 0, none⟩), .pointer (some ⟨w.heap.size, 0, none⟩), .slice qa ql qc, .slice (some ⟨gv, 0, none⟩) n0 vc, .int .i64 (n0 : Int), .int .i64 (k : Int), .bool true, .pointer (some ⟨gv, k, none⟩), .string (bs nm), .agg #[.slice qa ql qc, .int .i64 clock, .int .i64 epoch, .int .i64 next, .int .i64 serial, .slice aa al ac, .slice ma ml mc, .slice ca cl cc], .string (bs nm), u18, .pointer (some ⟨w.heap.size, 0, none⟩), .slice qa ql qc, .string (bs nm), .agg #[.slice qa ql qc, .int .i64 clock, .int .i64 epoch, .int .i64 next, .int .i64 serial, .slice aa al ac, .slice ma ml mc, .slice ca cl cc], u23, u24, u25, u26, u27, u28, u29, u30, u31, u32, u33, u34, u35, u36, u37, u38, u39, u40, u41, u42, undef, undef, undef], defers := [] } ∧ VB w1 wz g6 0 0 ∧ VB w1 wz g7 0 0 ∧ g6 ≠ g7 ∧ Kp w1 wz)
def SVI4 (w w1 : World) (nm : List UInt8) (ux uy tx ty dx dy : Int) (gv n0 k vc : Nat) (u3 u6 u7 u18 u23 u24 u25 u26 u27 u28 u29 u30 u31 u32 u33 u34 u35 u36 u37 u38 u39 u40 u41 u42 : Value) (qa : Option Addr) (ql qc : Nat) (aa : Option Addr) (al ac : Nat) (ma : Option Addr) (ml mc : Nat) (ca : Option Addr) (cl cc : Nat) (qs : List Q) (clock epoch next serial : Int) (apps : List Appl) (ms : List Mac) (cs : List Con) (n : Nat) (lz : Array Bool) (az : Act) (wz : World) : Prop := (n = 6 ∧ lz = #[true, true, true, true, true, true, true, false, false, false, false, false, false] ∧ az = { tmps := #[sv ⟨qa, ql, qc, aa, al, ac, ma, ml, mc, ca, cl, cc⟩ ⟨qs, clock, epoch, next, serial, apps, ms, cs⟩, .pointer (some ⟨w.heap.size, 0, none⟩), .slice none 0 0, u3, undef, .string (bs nm), u6, u7, .pointer (some ⟨w.heap.size, 0, none⟩), .slice qa ql qc, .slice (some ⟨gv, 0, none⟩) n0 vc, .int .i64 (n0 : Int), .int .i64 (k : Int), .bool true, .pointer (some ⟨gv, k, none⟩), .string (bs nm), .agg #[.slice qa ql qc, .int .i64 clock, .int .i64 epoch, .int .i64 next, .int .i64 serial, .slice aa al ac, .slice ma ml mc, .slice ca cl cc], .string (bs nm), rv ux uy, .pointer (some ⟨w.heap.size, 0, none⟩), .slice qa ql qc, .string (bs nm), .agg #[.slice qa ql qc, .int .i64 clock, .int .i64 epoch, .int .i64 next, .int .i64 serial, .slice aa al ac, .slice ma ml mc, .slice ca cl cc], u23, u24, u25, u26, u27, u28, u29, u30, u31, u32, u33, u34, u35, u36, u37, u38, u39, u40, u41, u42, undef, undef, undef], defers := [] } ∧ Kp w1 wz)
def SVI5 (w w1 : World) (nm : List UInt8) (ux uy tx ty dx dy : Int) (gv n0 k vc : Nat) (u3 u6 u7 u18 u23 u24 u25 u26 u27 u28 u29 u30 u31 u32 u33 u34 u35 u36 u37 u38 u39 u40 u41 u42 : Value) (qa : Option Addr) (ql qc : Nat) (aa : Option Addr) (al ac : Nat) (ma : Option Addr) (ml mc : Nat) (ca : Option Addr) (cl cc : Nat) (qs : List Q) (clock epoch next serial : Int) (apps : List Appl) (ms : List Mac) (cs : List Con) (n : Nat) (lz : Array Bool) (az : Act) (wz : World) : Prop := (∃ g7 : Nat, n = 5 ∧ lz = #[true, true, true, true, true, true, true, false, false, false, true, false, false] ∧ az = { tmps := #[sv ⟨qa, ql, qc, aa, al, ac, ma, ml, mc, ca, cl, cc⟩ ⟨qs, clock, epoch, next, serial, apps, ms, cs⟩, .pointer (some ⟨w.heap.size, 0, none⟩), .slice none 0 0, u3, undef, .string (bs nm), u6, .pointer (some ⟨g7, 0, none⟩), .pointer (some ⟨w.heap.size, 0, none⟩), .slice qa ql qc, .slice (some ⟨gv, 0, none⟩) n0 vc, .int .i64 (n0 : Int), .int .i64 (k : Int), .bool true, .pointer (some ⟨gv, k, none⟩), .string (bs nm), .agg #[.slice qa ql qc, .int .i64 clock, .int .i64 epoch, .int .i64 next, .int .i64 serial, .slice aa al ac, .slice ma ml mc, .slice ca cl cc], .string (bs nm), rv ux uy, .pointer (some ⟨w.heap.size, 0, none⟩), .slice qa ql qc, .string (bs nm), .agg #[.slice qa ql qc, .int .i64 clock, .int .i64 epoch, .int .i64 next, .int .i64 serial, .slice aa al ac, .slice ma ml mc, .slice ca cl cc], u23, u24, u25, u26, u27, u28, u29, u30, u31, u32, u33, u34, u35, u36, u37, u38, u39, u40, u41, u42, undef, undef, undef], defers := [] } ∧ VB w1 wz g7 0 0 ∧ Kp w1 wz)
def SVI6 (w w1 : World) (nm : List UInt8) (ux uy tx ty dx dy : Int) (gv n0 k vc : Nat) (u3 u6 u7 u18 u23 u24 u25 u26 u27 u28 u29 u30 u31 u32 u33 u34 u35 u36 u37 u38 u39 u40 u41 u42 : Value) (qa : Option Addr) (ql qc : Nat) (aa : Option Addr) (al ac : Nat) (ma : Option Addr) (ml mc : Nat) (ca : Option Addr) (cl cc : Nat) (qs : List Q) (clock epoch next serial : Int) (apps : List Appl) (ms : List Mac) (cs : List Con) (n : Nat) (lz : Array Bool) (az : Act) (wz : World) : Prop := (∃ g6 : Nat, n = 5 ∧ lz = #[true, true, true, true, true, true, true, false, false, true, false, false, false] ∧ az = { tmps := #[sv ⟨qa, ql, qc, aa, al, ac, ma, ml, mc, ca, cl, cc⟩ ⟨qs, clock, epoch, next, serial, apps, ms, cs⟩, .pointer (some ⟨w.heap.size, 0, none⟩), .slice none 0 0, u3, undef, .string (bs nm), .pointer (some ⟨g6, 0, none⟩), u7, .pointer (some ⟨w.heap.size, 0, none⟩), .slice qa ql qc, .slice (some ⟨gv, 0, none⟩) n0 vc, .int .i64 (n0 : Int), .int .i64 (k : Int), .bool true, .pointer (some ⟨gv, k, none⟩), .string (bs nm), .agg #[.slice qa ql qc, .int .i64 clock, .int .i64 epoch, .int .i64 next, .int .i64 serial, .slice aa al ac, .slice ma ml mc, .slice ca cl cc], .string (bs nm), rv ux uy, .pointer (some ⟨w.heap.size, 0, none⟩), .slice qa ql qc, .string (bs nm), .agg #[.slice qa ql qc, .int .i64 clock, .int .i64 epoch, .int .i64 next, .int .i64 serial, .slice aa al ac, .slice ma ml mc, .slice ca cl cc], u23, u24, u25, u26, u27, u28, u29, u30, u31, u32, u33, u34, u35, u36, u37, u38, u39, u40, u41, u42, undef, undef, undef], defers := [] } ∧ VB w1 wz g6 0 0 ∧ Kp w1 wz)
def SVI7 (w w1 : World) (nm : List UInt8) (ux uy tx ty dx dy : Int) (gv n0 k vc : Nat) (u3 u6 u7 u18 u23 u24 u25 u26 u27 u28 u29 u30 u31 u32 u33 u34 u35 u36 u37 u38 u39 u40 u41 u42 : Value) (qa : Option Addr) (ql qc : Nat) (aa : Option Addr) (al ac : Nat) (ma : Option Addr) (ml mc : Nat) (ca : Option Addr) (cl cc : Nat) (qs : List Q) (clock epoch next serial : Int) (apps : List Appl) (ms : List Mac) (cs : List Con) (n : Nat) (lz : Array Bool) (az : Act) (wz : World) : Prop := (∃ g6 g7 : Nat, n = 4 ∧ lz = #[true, true, true, true, true, true, true, false, false, true, true, false, false] ∧ az = { tmps := #[sv ⟨qa, ql, qc, aa, al, ac, ma, ml, mc, ca, cl, cc⟩ ⟨qs, clock, epoch, next, serial, apps, ms, cs⟩, .pointer (some ⟨w.heap.size, 0, none⟩), .slice none 0 0, u3, undef, .string (bs nm), .pointer (some ⟨g6, 0, none⟩), .pointer (some ⟨g7, 0, none⟩), .pointer (some ⟨w.heap.size, 0, none⟩), .slice qa ql qc, .slice (some ⟨gv, 0, none⟩) n0 vc, .int .i64 (n0 : Int), .int .i64 (k : Int), .bool true, .pointer (some ⟨gv, k, none⟩), .string (bs nm), .agg #[.slice qa ql qc, .int .i64 clock, .int .i64 epoch, .int .i64 next, .int .i64 serial, .slice aa al ac, .slice ma ml mc, .slice ca cl cc], .string (bs nm), rv ux uy, .pointer (some ⟨w.heap.size, 0, none⟩), .slice qa ql qc, .string (bs nm), .agg #[.slice qa ql qc, .int .i64 clock, .int .i64 epoch, .int .i64 next, .int .i64 serial, .slice aa al ac, .slice ma ml mc, .slice ca cl cc], u23, u24, u25, u26, u27, u28, u29, u30, u31, u32, u33, u34, u35, u36, u37, u38, u39, u40, u41, u42, undef, undef, undef], defers := [] } ∧ VB w1 wz g6 0 0 ∧ VB w1 wz g7 0 0 ∧ g6 ≠ g7 ∧ Kp w1 wz)
def SVI8 (w w1 : World) (nm : List UInt8) (ux uy tx ty dx dy : Int) (gv n0 k vc : Nat) (u3 u6 u7 u18 u23 u24 u25 u26 u27 u28 u29 u30 u31 u32 u33 u34 u35 u36 u37 u38 u39 u40 u41 u42 : Value) (qa : Option Addr) (ql qc : Nat) (aa : Option Addr) (al ac : Nat) (ma : Option Addr) (ml mc : Nat) (ca : Option Addr) (cl cc : Nat) (qs : List Q) (clock epoch next serial : Int) (apps : List Appl) (ms : List Mac) (cs : List Con) (n : Nat) (lz : Array Bool) (az : Act) (wz : World) : Prop := (n = 5 ∧ lz = #[true, true, true, true, true, true, true, true, false, false, false, false, false] ∧ az = { tmps := #[sv ⟨qa, ql, qc, aa, al, ac, ma, ml, mc, ca, cl, cc⟩ ⟨qs, clock, epoch, next, serial, apps, ms, cs⟩, .pointer (some ⟨w.heap.size, 0, none⟩), .slice none 0 0, u3, undef, .string (bs nm), u6, u7, .pointer (some ⟨w.heap.size, 0, none⟩), .slice qa ql qc, .slice (some ⟨gv, 0, none⟩) n0 vc, .int .i64 (n0 : Int), .int .i64 (k : Int), .bool true, .pointer (some ⟨gv, k, none⟩), .string (bs nm), .agg #[.slice qa ql qc, .int .i64 clock, .int .i64 epoch, .int .i64 next, .int .i64 serial, .slice aa al ac, .slice ma ml mc, .slice ca cl cc], .string (bs nm), rv ux uy, .pointer (some ⟨w.heap.size, 0, none⟩), .slice qa ql qc, .string (bs nm), .agg #[.slice qa ql qc, .int .i64 clock, .int .i64 epoch, .int .i64 next, .int .i64 serial, .slice aa al ac, .slice ma ml mc, .slice ca cl cc], rv tx ty, u24, u25, u26, u27, u28, u29, u30, u31, u32, u33, u34, u35, u36, u37, u38, u39, u40, u41, u42, undef, undef, undef], defers := [] } ∧ Kp w1 wz)
def SVI9 (w w1 : World) (nm : List UInt8) (ux uy tx ty dx dy : Int) (gv n0 k vc : Nat) (u3 u6 u7 u18 u23 u24 u25 u26 u27 u28 u29 u30 u31 u32 u33 u34 u35 u36 u37 u38 u39 u40 u41 u42 : Value) (qa : Option Addr) (ql qc : Nat) (aa : Option Addr) (al ac : Nat) (ma : Option Addr) (ml mc : Nat) (ca : Option Addr) (cl cc : Nat) (qs : List Q) (clock epoch next serial : Int) (apps : List Appl) (ms : List Mac) (cs : List Con) (n : Nat) (lz : Array Bool) (az : Act) (wz : World) : Prop := (∃ g7 : Nat, n = 4 ∧ lz = #[true, true, true, true, true, true, true, true, false, false, true, false, false] ∧ az = { tmps := #[sv ⟨qa, ql, qc, aa, al, ac, ma, ml, mc, ca, cl, cc⟩ ⟨qs, clock, epoch, next, serial, apps, ms, cs⟩, .pointer (some ⟨w.heap.size, 0, none⟩), .slice none 0 0, u3, undef, .string (bs nm), u6, .pointer (some ⟨g7, 0, none⟩), .pointer (some ⟨w.heap.size, 0, none⟩), .slice qa ql qc, .slice (some ⟨gv, 0, none⟩) n0 vc, .int .i64 (n0 : Int), .int .i64 (k : Int), .bool true, .pointer (some ⟨gv, k, none⟩), .string (bs nm), .agg #[.slice qa ql qc, .int .i64 clock, .int .i64 epoch, .int .i64 next, .int .i64 serial, .slice aa al ac, .slice ma ml mc, .slice ca cl cc], .string (bs nm), rv ux uy, .pointer (some ⟨w.heap.size, 0, none⟩), .slice qa ql qc, .string (bs nm), .agg #[.slice qa ql qc, .int .i64 clock, .int .i64 epoch, .int .i64 next, .int .i64 serial, .slice aa al ac, .slice ma ml mc, .slice ca cl cc], rv tx ty, u24, u25, u26, u27, u28, u29, u30, u31, u32, u33, u34, u35, u36, u37, u38, u39, u40, u41, u42, undef, undef, undef], defers := [] } ∧ VB w1 wz g7 0 0 ∧ Kp w1 wz)
def SVI10 (w w1 : World) (nm : List UInt8) (ux uy tx ty dx dy : Int) (gv n0 k vc : Nat) (u3 u6 u7 u18 u23 u24 u25 u26 u27 u28 u29 u30 u31 u32 u33 u34 u35 u36 u37 u38 u39 u40 u41 u42 : Value) (qa : Option Addr) (ql qc : Nat) (aa : Option Addr) (al ac : Nat) (ma : Option Addr) (ml mc : Nat) (ca : Option Addr) (cl cc : Nat) (qs : List Q) (clock epoch next serial : Int) (apps : List Appl) (ms : List Mac) (cs : List Con) (n : Nat) (lz : Array Bool) (az : Act) (wz : World) : Prop := (∃ g6 : Nat, n = 4 ∧ lz = #[true, true, true, true, true, true, true, true, false, true, false, false, false] ∧ az = { tmps := #[sv ⟨qa, ql, qc, aa, al, ac, ma, ml, mc, ca, cl, cc⟩ ⟨qs, clock, epoch, next, serial, apps, ms, cs⟩, .pointer (some ⟨w.heap.size, 0, none⟩), .slice none 0 0, u3, undef, .string (bs nm), .pointer (some ⟨g6, 0, none⟩), u7, .pointer (some ⟨w.heap.size, 0, none⟩), .slice qa ql qc, .slice (some ⟨gv, 0, none⟩) n0 vc, .int .i64 (n0 : Int), .int .i64 (k : Int), .bool true, .pointer (some ⟨gv, k, none⟩), .string (bs nm), .agg #[.slice qa ql qc, .int .i64 clock, .int .i64 epoch, .int .i64 next, .int .i64 serial, .slice aa al ac, .slice ma ml mc, .slice ca cl cc], .string (bs nm), rv ux uy, .pointer (some ⟨w.heap.size, 0, none⟩), .slice qa ql qc, .string (bs nm), .agg #[.slice qa ql qc, .int .i64 clock, .int .i64 epoch, .int .i64 next, .int .i64 serial, .slice aa al ac, .slice ma ml mc, .slice ca cl cc], rv tx ty, u24, u25, u26, u27, u28, u29, u30, u31, u32, u33, u34, u35, u36, u37, u38, u39, u40, u41, u42, undef, undef, undef], defers := [] } ∧ VB w1 wz g6 0 0 ∧ Kp w1 wz)
def SVI11 (w w1 : World) (nm : List UInt8) (ux uy tx ty dx dy : Int) (gv n0 k vc : Nat) (u3 u6 u7 u18 u23 u24 u25 u26 u27 u28 u29 u30 u31 u32 u33 u34 u35 u36 u37 u38 u39 u40 u41 u42 : Value) (qa : Option Addr) (ql qc : Nat) (aa : Option Addr) (al ac : Nat) (ma : Option Addr) (ml mc : Nat) (ca : Option Addr) (cl cc : Nat) (qs : List Q) (clock epoch next serial : Int) (apps : List Appl) (ms : List Mac) (cs : List Con) (n : Nat) (lz : Array Bool) (az : Act) (wz : World) : Prop := (∃ g6 g7 : Nat, n = 3 ∧ lz = #[true, true, true, true, true, true, true, true, false, true, true, false, false] ∧ az = { tmps := #[sv ⟨qa, ql, qc, aa, al, ac, ma, ml, mc, ca, cl, cc⟩ ⟨qs, clock, epoch, next, serial, apps, ms, cs⟩, .pointer (some ⟨w.heap.size, 0, none⟩), .slice none 0 0, u3, undef, .string (bs nm), .pointer (some ⟨g6, 0, none⟩), .pointer (some ⟨g7, 0, none⟩), .pointer (some ⟨w.heap.size, 0, none⟩), .slice qa ql qc, .slice (some ⟨gv, 0, none⟩) n0 vc, .int .i64 (n0 : Int), .int .i64 (k : Int), .bool true, .pointer (some ⟨gv, k, none⟩), .string (bs nm), .agg #[.slice qa ql qc, .int .i64 clock, .int .i64 epoch, .int .i64 next, .int .i64 serial, .slice aa al ac, .slice ma ml mc, .slice ca cl cc], .string (bs nm), rv ux uy, .pointer (some ⟨w.heap.size, 0, none⟩), .slice qa ql qc, .string (bs nm), .agg #[.slice qa ql qc, .int .i64 clock, .int .i64 epoch, .int .i64 next, .int .i64 serial, .slice aa al ac, .slice ma ml mc, .slice ca cl cc], rv tx ty, u24, u25, u26, u27, u28, u29, u30, u31, u32, u33, u34, u35, u36, u37, u38, u39, u40, u41, u42, undef, undef, undef], defers := [] } ∧ VB w1 wz g6 0 0 ∧ VB w1 wz g7 0 0 ∧ g6 ≠ g7 ∧ Kp w1 wz)
def SVI12 (w w1 : World) (nm : List UInt8) (ux uy tx ty dx dy : Int) (gv n0 k vc : Nat) (u3 u6 u7 u18 u23 u24 u25 u26 u27 u28 u29 u30 u31 u32 u33 u34 u35 u36 u37 u38 u39 u40 u41 u42 : Value) (qa : Option Addr) (ql qc : Nat) (aa : Option Addr) (al ac : Nat) (ma : Option Addr) (ml mc : Nat) (ca : Option Addr) (cl cc : Nat) (qs : List Q) (clock epoch next serial : Int) (apps : List Appl) (ms : List Mac) (cs : List Con) (n : Nat) (lz : Array Bool) (az : Act) (wz : World) : Prop := (n = 4 ∧ lz = #[true, true, true, true, true, true, true, true, true, false, false, false, false] ∧ az = { tmps := #[sv ⟨qa, ql, qc, aa, al, ac, ma, ml, mc, ca, cl, cc⟩ ⟨qs, clock, epoch, next, serial, apps, ms, cs⟩, .pointer (some ⟨w.heap.size, 0, none⟩), .slice none 0 0, u3, undef, .string (bs nm), u6, u7, .pointer (some ⟨w.heap.size, 0, none⟩), .slice qa ql qc, .slice (some ⟨gv, 0, none⟩) n0 vc, .int .i64 (n0 : Int), .int .i64 (k : Int), .bool true, .pointer (some ⟨gv, k, none⟩), .string (bs nm), .agg #[.slice qa ql qc, .int .i64 clock, .int .i64 epoch, .int .i64 next, .int .i64 serial, .slice aa al ac, .slice ma ml mc, .slice ca cl cc], .string (bs nm), rv ux uy, .pointer (some ⟨w.heap.size, 0, none⟩), .slice qa ql qc, .string (bs nm), .agg #[.slice qa ql qc, .int .i64 clock, .int .i64 epoch, .int .i64 next, .int .i64 serial, .slice aa al ac, .slice ma ml mc, .slice ca cl cc], rv tx ty, rv dx dy, u25, u26, u27, u28, u29, u30, u31, u32, u33, u34, u35, u36, u37, u38, u39, u40, u41, u42, undef, undef, undef], defers := [] } ∧ Kp w1 wz)
def SVI13 (w w1 : World) (nm : List UInt8) (ux uy tx ty dx dy : Int) (gv n0 k vc : Nat) (u3 u6 u7 u18 u23 u24 u25 u26 u27 u28 u29 u30 u31 u32 u33 u34 u35 u36 u37 u38 u39 u40 u41 u42 : Value) (qa : Option Addr) (ql qc : Nat) (aa : Option Addr) (al ac : Nat) (ma : Option Addr) (ml mc : Nat) (ca : Option Addr) (cl cc : Nat) (qs : List Q) (clock epoch next serial : Int) (apps : List Appl) (ms : List Mac) (cs : List Con) (n : Nat) (lz : Array Bool) (az : Act) (wz : World) : Prop := (∃ g7 : Nat, n = 3 ∧ lz = #[true, true, true, true, true, true, true, true, true, false, true, false, false] ∧ az = { tmps := #[sv ⟨qa, ql, qc, aa, al, ac, ma, ml, mc, ca, cl, cc⟩ ⟨qs, clock, epoch, next, serial, apps, ms, cs⟩, .pointer (some ⟨w.heap.size, 0, none⟩), .slice none 0 0, u3, undef, .string (bs nm), u6, .pointer (some ⟨g7, 0, none⟩), .pointer (some ⟨w.heap.size, 0, none⟩), .slice qa ql qc, .slice (some ⟨gv, 0, none⟩) n0 vc, .int .i64 (n0 : Int), .int .i64 (k : Int), .bool true, .pointer (some ⟨gv, k, none⟩), .string (bs nm), .agg #[.slice qa ql qc, .int .i64 clock, .int .i64 epoch, .int .i64 next, .int .i64 serial, .slice aa al ac, .slice ma ml mc, .slice ca cl cc], .string (bs nm), rv ux uy, .pointer (some ⟨w.heap.size, 0, none⟩), .slice qa ql qc, .string (bs nm), .agg #[.slice qa ql qc, .int .i64 clock, .int .i64 epoch, .int .i64 next, .int .i64 serial, .slice aa al ac, .slice ma ml mc, .slice ca cl cc], rv tx ty, rv dx dy, u25, u26, u27, u28, u29, u30, u31, u32, u33, u34, u35, u36, u37, u38, u39, u40, u41, u42, undef, undef, undef], defers := [] } ∧ VB w1 wz g7 0 0 ∧ Kp w1 wz)
def SVI14 (w w1 : World) (nm : List UInt8) (ux uy tx ty dx dy : Int) (gv n0 k vc : Nat) (u3 u6 u7 u18 u23 u24 u25 u26 u27 u28 u29 u30 u31 u32 u33 u34 u35 u36 u37 u38 u39 u40 u41 u42 : Value) (qa : Option Addr) (ql qc : Nat) (aa : Option Addr) (al ac : Nat) (ma : Option Addr) (ml mc : Nat) (ca : Option Addr) (cl cc : Nat) (qs : List Q) (clock epoch next serial : Int) (apps : List Appl) (ms : List Mac) (cs : List Con) (n : Nat) (lz : Array Bool) (az : Act) (wz : World) : Prop := (∃ g6 : Nat, n = 3 ∧ lz = #[true, true, true, true, true, true, true, true, true, true, false, false, false] ∧ az = { tmps := #[sv ⟨qa, ql, qc, aa, al, ac, ma, ml, mc, ca, cl, cc⟩ ⟨qs, clock, epoch, next, serial, apps, ms, cs⟩, .pointer (some ⟨w.heap.size, 0, none⟩), .slice none 0 0, u3, undef, .string (bs nm), .pointer (some ⟨g6, 0, none⟩), u7, .pointer (some ⟨w.heap.size, 0, none⟩), .slice qa ql qc, .slice (some ⟨gv, 0, none⟩) n0 vc, .int .i64 (n0 : Int), .int .i64 (k : Int), .bool true, .pointer (some ⟨gv, k, none⟩), .string (bs nm), .agg #[.slice qa ql qc, .int .i64 clock, .int .i64 epoch, .int .i64 next, .int .i64 serial, .slice aa al ac, .slice ma ml mc, .slice ca cl cc], .string (bs nm), rv ux uy, .pointer (some ⟨w.heap.size, 0, none⟩), .slice qa ql qc, .string (bs nm), .agg #[.slice qa ql qc, .int .i64 clock, .int .i64 epoch, .int .i64 next, .int .i64 serial, .slice aa al ac, .slice ma ml mc, .slice ca cl cc], rv tx ty, rv dx dy, u25, u26, u27, u28, u29, u30, u31, u32, u33, u34, u35, u36, u37, u38, u39, u40, u41, u42, undef, undef, undef], defers := [] } ∧ VB w1 wz g6 0 0 ∧ Kp w1 wz)
def SVI15 (w w1 : World) (nm : List UInt8) (ux uy tx ty dx dy : Int) (gv n0 k vc : Nat) (u3 u6 u7 u18 u23 u24 u25 u26 u27 u28 u29 u30 u31 u32 u33 u34 u35 u36 u37 u38 u39 u40 u41 u42 : Value) (qa : Option Addr) (ql qc : Nat) (aa : Option Addr) (al ac : Nat) (ma : Option Addr) (ml mc : Nat) (ca : Option Addr) (cl cc : Nat) (qs : List Q) (clock epoch next serial : Int) (apps : List Appl) (ms : List Mac) (cs : List Con) (n : Nat) (lz : Array Bool) (az : Act) (wz : World) : Prop := (∃ g6 g7 : Nat, n = 2 ∧ lz = #[true, true, true, true, true, true, true, true, true, true, true, false, false] ∧ az = { tmps := #[sv ⟨qa, ql, qc, aa, al, ac, ma, ml, mc, ca, cl, cc⟩ ⟨qs, clock, epoch, next, serial, apps, ms, cs⟩, .pointer (some ⟨w.heap.size, 0, none⟩), .slice none 0 0, u3, undef, .string (bs nm), .pointer (some ⟨g6, 0, none⟩), .pointer (some ⟨g7, 0, none⟩), .pointer (some ⟨w.heap.size, 0, none⟩), .slice qa ql qc, .slice (some ⟨gv, 0, none⟩) n0 vc, .int .i64 (n0 : Int), .int .i64 (k : Int), .bool true, .pointer (some ⟨gv, k, none⟩), .string (bs nm), .agg #[.slice qa ql qc, .int .i64 clock, .int .i64 epoch, .int .i64 next, .int .i64 serial, .slice aa al ac, .slice ma ml mc, .slice ca cl cc], .string (bs nm), rv ux uy, .pointer (some ⟨w.heap.size, 0, none⟩), .slice qa ql qc, .string (bs nm), .agg #[.slice qa ql qc, .int .i64 clock, .int .i64 epoch, .int .i64 next, .int .i64 serial, .slice aa al ac, .slice ma ml mc, .slice ca cl cc], rv tx ty, rv dx dy, u25, u26, u27, u28, u29, u30, u31, u32, u33, u34, u35, u36, u37, u38, u39, u40, u41, u42, undef, undef, undef], defers := [] } ∧ VB w1 wz g6 0 0 ∧ VB w1 wz g7 0 0 ∧ g6 ≠ g7 ∧ Kp w1 wz)
def SVI16 (w w1 : World) (nm : List UInt8) (ux uy tx ty dx dy : Int) (gv n0 k vc : Nat) (u3 u6 u7 u18 u23 u24 u25 u26 u27 u28 u29 u30 u31 u32 u33 u34 u35 u36 u37 u38 u39 u40 u41 u42 : Value) (qa : Option Addr) (ql qc : Nat) (aa : Option Addr) (al ac : Nat) (ma : Option Addr) (ml mc : Nat) (ca : Option Addr) (cl cc : Nat) (qs : List Q) (clock epoch next serial : Int) (apps : List Appl) (ms : List Mac) (cs : List Con) (n : Nat) (lz : Array Bool) (az : Act) (wz : World) : Prop := (∃ g6 g7 : Nat, n = 1 ∧ lz = #[true, true, true, true, true, true, true, true, true, true, true, true, false] ∧ az = { tmps := #[sv ⟨qa, ql, qc, aa, al, ac, ma, ml, mc, ca, cl, cc⟩ ⟨qs, clock, epoch, next, serial, apps, ms, cs⟩, .pointer (some ⟨w.heap.size, 0, none⟩), .slice none 0 0, u3, undef, .string (bs nm), .pointer (some ⟨g6, 0, none⟩), .pointer (some ⟨g7, 0, none⟩), .pointer (some ⟨w.heap.size, 0, none⟩), .slice qa ql qc, .slice (some ⟨gv, 0, none⟩) n0 vc, .int .i64 (n0 : Int), .int .i64 (k : Int), .bool true, .pointer (some ⟨gv, k, none⟩), .string (bs nm), .agg #[.slice qa ql qc, .int .i64 clock, .int .i64 epoch, .int .i64 next, .int .i64 serial, .slice aa al ac, .slice ma ml mc, .slice ca cl cc], .string (bs nm), rv ux uy, .pointer (some ⟨w.heap.size, 0, none⟩), .slice qa ql qc, .string (bs nm), .agg #[.slice qa ql qc, .int .i64 clock, .int .i64 epoch, .int .i64 next, .int .i64 serial, .slice aa al ac, .slice ma ml mc, .slice ca cl cc], rv tx ty, rv dx dy, u25, u26, u27, u28, u29, u30, u31, u32, u33, u34, u35, u36, u37, u38, u39, u40, u41, u42, undef, undef, undef], defers := [] } ∧ VB w1 wz g6 ux uy ∧ VB w1 wz g7 0 0 ∧ g6 ≠ g7 ∧ Kp w1 wz)
def SVI17 (w w1 : World) (nm : List UInt8) (ux uy tx ty dx dy : Int) (gv n0 k vc : Nat) (u3 u6 u7 u18 u23 u24 u25 u26 u27 u28 u29 u30 u31 u32 u33 u34 u35 u36 u37 u38 u39 u40 u41 u42 : Value) (qa : Option Addr) (ql qc : Nat) (aa : Option Addr) (al ac : Nat) (ma : Option Addr) (ml mc : Nat) (ca : Option Addr) (cl cc : Nat) (qs : List Q) (clock epoch next serial : Int) (apps : List Appl) (ms : List Mac) (cs : List Con) (n : Nat) (lz : Array Bool) (az : Act) (wz : World) : Prop := (∃ g6 g7 : Nat, n = 0 ∧ lz = #[true, true, true, true, true, true, true, true, true, true, true, true, true] ∧ az = { tmps := #[sv ⟨qa, ql, qc, aa, al, ac, ma, ml, mc, ca, cl, cc⟩ ⟨qs, clock, epoch, next, serial, apps, ms, cs⟩, .pointer (some ⟨w.heap.size, 0, none⟩), .slice none 0 0, u3, undef, .string (bs nm), .pointer (some ⟨g6, 0, none⟩), .pointer (some ⟨g7, 0, none⟩), .pointer (some ⟨w.heap.size, 0, none⟩), .slice qa ql qc, .slice (some ⟨gv, 0, none⟩) n0 vc, .int .i64 (n0 : Int), .int .i64 (k : Int), .bool true, .pointer (some ⟨gv, k, none⟩), .string (bs nm), .agg #[.slice qa ql qc, .int .i64 clock, .int .i64 epoch, .int .i64 next, .int .i64 serial, .slice aa al ac, .slice ma ml mc, .slice ca cl cc], .string (bs nm), rv ux uy, .pointer (some ⟨w.heap.size, 0, none⟩), .slice qa ql qc, .string (bs nm), .agg #[.slice qa ql qc, .int .i64 clock, .int .i64 epoch, .int .i64 next, .int .i64 serial, .slice aa al ac, .slice ma ml mc, .slice ca cl cc], rv tx ty, rv dx dy, u25, u26, u27, u28, u29, u30, u31, u32, u33, u34, u35, u36, u37, u38, u39, u40, u41, u42, undef, undef, undef], defers := [] } ∧ VB w1 wz g6 ux uy ∧ VB w1 wz g7 dx dy ∧ g6 ≠ g7 ∧ Kp w1 wz)
def SVI (w w1 : World) (nm : List UInt8) (ux uy tx ty dx dy : Int) (gv n0 k vc : Nat) (u3 u6 u7 u18 u23 u24 u25 u26 u27 u28 u29 u30 u31 u32 u33 u34 u35 u36 u37 u38 u39 u40 u41 u42 : Value) (qa : Option Addr) (ql qc : Nat) (aa : Option Addr) (al ac : Nat) (ma : Option Addr) (ml mc : Nat) (ca : Option Addr) (cl cc : Nat) (qs : List Q) (clock epoch next serial : Int) (apps : List Appl) (ms : List Mac) (cs : List Con) (n : Nat) (lz : Array Bool) (az : Act) (wz : World) : Prop := SVI0 w w1 nm ux uy tx ty dx dy gv n0 k vc u3 u6 u7 u18 u23 u24 u25 u26 u27 u28 u29 u30 u31 u32 u33 u34 u35 u36 u37 u38 u39 u40 u41 u42 qa ql qc aa al ac ma ml mc ca cl cc qs clock epoch next serial apps ms cs n lz az wz ∨ SVI1 w w1 nm ux uy tx ty dx dy gv n0 k vc u3 u6 u7 u18 u23 u24 u25 u26 u27 u28 u29 u30 u31 u32 u33 u34 u35 u36 u37 u38 u39 u40 u41 u42 qa ql qc aa al ac ma ml mc ca cl cc qs clock epoch next serial apps ms cs n lz az wz ∨ SVI2 w w1 nm ux uy tx ty dx dy gv n0 k vc u3 u6 u7 u18 u23 u24 u25 u26 u27 u28 u29 u30 u31 u32 u33 u34 u35 u36 u37 u38 u39 u40 u41 u42 qa ql qc aa al ac ma ml mc ca cl cc qs clock epoch next serial apps ms cs n lz az wz ∨ SVI3 w w1 nm ux uy tx ty dx dy gv n0 k vc u3 u6 u7 u18 u23 u24 u25 u26 u27 u28 u29 u30 u31 u32 u33 u34 u35 u36 u37 u38 u39 u40 u41 u42 qa ql qc aa al ac ma ml mc ca cl cc qs clock epoch next serial apps ms cs n lz az wz ∨ SVI4 w w1 nm ux uy tx ty dx dy gv n0 k vc u3 u6 u7 u18 u23 u24 u25 u26 u27 u28 u29 u30 u31 u32 u33 u34 u35 u36 u37 u38 u39 u40 u41 u42 qa ql qc aa al ac ma ml mc ca cl cc qs clock epoch next serial apps ms cs n lz az wz ∨ SVI5 w w1 nm ux uy tx ty dx dy gv n0 k vc u3 u6 u7 u18 u23 u24 u25 u26 u27 u28 u29 u30 u31 u32 u33 u34 u35 u36 u37 u38 u39 u40 u41 u42 qa ql qc aa al ac ma ml mc ca cl cc qs clock epoch next serial apps ms cs n lz az wz ∨ SVI6 w w1 nm ux uy tx ty dx dy gv n0 k vc u3 u6 u7 u18 u23 u24 u25 u26 u27 u28 u29 u30 u31 u32 u33 u34 u35 u36 u37 u38 u39 u40 u41 u42 qa ql qc aa al ac ma ml mc ca cl cc qs clock epoch next serial apps ms cs n lz az wz ∨ SVI7 w w1 nm ux uy tx ty dx dy gv n0 k vc u3 u6 u7 u18 u23 u24 u25 u26 u27 u28 u29 u30 u31 u32 u33 u34 u35 u36 u37 u38 u39 u40 u41 u42 qa ql qc aa al ac ma ml mc ca cl cc qs clock epoch next serial apps ms cs n lz az wz ∨ SVI8 w w1 nm ux uy tx ty dx dy gv n0 k vc u3 u6 u7 u18 u23 u24 u25 u26 u27 u28 u29 u30 u31 u32 u33 u34 u35 u36 u37 u38 u39 u40 u41 u42 qa ql qc aa al ac ma ml mc ca cl cc qs clock epoch next serial apps ms cs n lz az wz ∨ SVI9 w w1 nm ux uy tx ty dx dy gv n0 k vc u3 u6 u7 u18 u23 u24 u25 u26 u27 u28 u29 u30 u31 u32 u33 u34 u35 u36 u37 u38 u39 u40 u41 u42 qa ql qc aa al ac ma ml mc ca cl cc qs clock epoch next serial apps ms cs n lz az wz ∨ SVI10 w w1 nm ux uy tx ty dx dy gv n0 k vc u3 u6 u7 u18 u23 u24 u25 u26 u27 u28 u29 u30 u31 u32 u33 u34 u35 u36 u37 u38 u39 u40 u41 u42 qa ql qc aa al ac ma ml mc ca cl cc qs clock epoch next serial apps ms cs n lz az wz ∨ SVI11 w w1 nm ux uy tx ty dx dy gv n0 k vc u3 u6 u7 u18 u23 u24 u25 u26 u27 u28 u29 u30 u31 u32 u33 u34 u35 u36 u37 u38 u39 u40 u41 u42 qa ql qc aa al ac ma ml mc ca cl cc qs clock epoch next serial apps ms cs n lz az wz ∨ SVI12 w w1 nm ux uy tx ty dx dy gv n0 k vc u3 u6 u7 u18 u23 u24 u25 u26 u27 u28 u29 u30 u31 u32 u33 u34 u35 u36 u37 u38 u39 u40 u41 u42 qa ql qc aa al ac ma ml mc ca cl cc qs clock epoch next serial apps ms cs n lz az wz ∨ SVI13 w w1 nm ux uy tx ty dx dy gv n0 k vc u3 u6 u7 u18 u23 u24 u25 u26 u27 u28 u29 u30 u31 u32 u33 u34 u35 u36 u37 u38 u39 u40 u41 u42 qa ql qc aa al ac ma ml mc ca cl cc qs clock epoch next serial apps ms cs n lz az wz ∨ SVI14 w w1 nm ux uy tx ty dx dy gv n0 k vc u3 u6 u7 u18 u23 u24 u25 u26 u27 u28 u29 u30 u31 u32 u33 u34 u35 u36 u37 u38 u39 u40 u41 u42 qa ql qc aa al ac ma ml mc ca cl cc qs clock epoch next serial apps ms cs n lz az wz ∨ SVI15 w w1 nm ux uy tx ty dx dy gv n0 k vc u3 u6 u7 u18 u23 u24 u25 u26 u27 u28 u29 u30 u31 u32 u33 u34 u35 u36 u37 u38 u39 u40 u41 u42 qa ql qc aa al ac ma ml mc ca cl cc qs clock epoch next serial apps ms cs n lz az wz ∨ SVI16 w w1 nm ux uy tx ty dx dy gv n0 k vc u3 u6 u7 u18 u23 u24 u25 u26 u27 u28 u29 u30 u31 u32 u33 u34 u35 u36 u37 u38 u39 u40 u41 u42 qa ql qc aa al ac ma ml mc ca cl cc qs clock epoch next serial apps ms cs n lz az wz ∨ SVI17 w w1 nm ux uy tx ty dx dy gv n0 k vc u3 u6 u7 u18 u23 u24 u25 u26 u27 u28 u29 u30 u31 u32 u33 u34 u35 u36 u37 u38 u39 u40 u41 u42 qa ql qc aa al ac ma ml mc ca cl cc qs clock epoch next serial apps ms cs n lz az wz

set_option maxRecDepth 100000 in
set_option maxHeartbeats 8000000 in
theorem implStarving_any (x : Sls) (s : St) (w : World) (h : SRow w x s) (hf : FitSt s) (hc : x.ql ≤ x.qc) (hw : WfSt s) :
    Calls Tryz.prog 15 #[sv x s] w fun e w' => ∃ v, e = .returned v ∧ Texts w.heap.size w' v (starveV s) ∧ Below w.heap.size w w' := by
  obtain ⟨i0, hi, hz0, hz1, hz2⟩ := info_parts Tryz.infoS
  have hql : x.ql ≤ 1048576 := h.ql hf
  have hml : x.ml ≤ 1048576 := h.ml hf
  have CV := hide (fun wx (hb : Below w.heap.size w wx) => leaves_any x.qa x.ql x.qc s.qs wx (h.1.below hb) hql (fun q hq => (hf.1.2 q hq).1) hc)
  have CT := hide (fun wx (hb : Below w.heap.size w wx) => show Calls Tryz.prog 48 #[sv x s] wx (fun e w' => e = .returned (rv (totalV s).1 (totalV s).2) ∧ Below wx.heap.size wx w') from implTotal_any x s wx (h.2.2.1.below hb) hml)
  have CD := hide (fun nm wx (hb : Below w.heap.size w wx) => show Calls Tryz.prog 47 #[.slice x.qa x.ql x.qc, .string (bs nm), rv (totalV s).1 (totalV s).2] wx (fun e w' => e = .returned (rv (dueV s nm).1 (dueV s nm).2) ∧ Below wx.heap.size wx w') from implDueOf_any x.qa x.ql x.qc s.qs nm (totalV s).1 (totalV s).2 wx (h.1.below hb) hql (fun q hq => (hf.1.2 q hq).1) hc)
  have CU := hide (fun nm wx (hb : Below w.heap.size w wx) => implUsedBy_any x s nm wx (h.below hb) hf hc hw)
  have CP := hide (fun nm wx (hb : Below w.heap.size w wx) => implPending_any x s nm wx (h.below hb) hf)
  have HPS := hide (fun nm => show starveP s nm = (pendingV s nm && (within (usedByV s nm).1 (usedByV s nm).2 (dueV s nm).1 (dueV s nm).2 && !decide (usedByV s nm = dueV s nm))) from rfl)
  have HLV := hide (leavesOf_len s.qs)
  have HLQ := hide (show s.qs.length = x.ql from h.1.1.symm)
  obtain ⟨lv, hlv⟩ : ∃ l, leavesOf s.qs = l := ⟨_, rfl⟩
  have HSV := hide (show starveV s = (lv.filter (starveP s)).mergeSort (fun x y => decide (x ≤ y)) by rw [starveV, starveL, hlv])
  rw [hlv] at CV HLV
  obtain ⟨⟨tx, ty⟩, ht⟩ : ∃ t, totalV s = t := ⟨_, rfl⟩
  rw [ht] at CT CD
  have hlq : lv.length ≤ 1048576 := by have := unhide HLV; have := unhide HLQ; omega
  clear hlv ht h hf hc hw HLV HLQ
  obtain ⟨sp, hsp⟩ : ∃ p, starveP s = p := ⟨_, rfl⟩
  obtain ⟨sV, hsV⟩ : ∃ p, starveV s = p := ⟨_, rfl⟩
  obtain ⟨us, hus⟩ : ∃ p, usedByV s = p := ⟨_, rfl⟩
  obtain ⟨ds, hds⟩ : ∃ p, dueV s = p := ⟨_, rfl⟩
  obtain ⟨ps, hps⟩ : ∃ p, pendingV s = p := ⟨_, rfl⟩
  rw [hsp, hsV] at HSV
  rw [hsp, hus, hds, hps] at HPS
  rw [hsV]
  rw [hus] at CU
  rw [hds] at CD
  rw [hps] at CP
  clear hsp hsV hus hds hps
  obtain ⟨qa, ql, qc, aa, al, ac, ma, ml, mc, ca, cl, cc⟩ := x
  obtain ⟨qs, clock, epoch, next, serial, apps, ms, cs⟩ := s
  simp only at CV CT CD CU CP hql hml
  have HB0 := hide (below_al (Below.refl _ w) (.cells (svc ⟨qa, ql, qc, aa, al, ac, ma, ml, mc, ca, cl, cc⟩ ⟨qs, clock, epoch, next, serial, apps, ms, cs⟩) 36))
  have P0 := hide (blk_new w (svc ⟨qa, ql, qc, aa, al, ac, ma, ml, mc, ca, cl, cc⟩ ⟨qs, clock, epoch, next, serial, apps, ms, cs⟩) 36)
  go_enter Tryz.func15, Tryz.ntmps15
  go_wp2_with fail
  refine (unhide CV _ (unhide HB0)).mono ?_
  rintro e w1 ⟨v0, rfl, ht, hb⟩
  rw [al_size] at ht
  obtain ⟨vo, vc, rfl, hrow⟩ := ht.open
  have HROW := hide hrow
  have HB1 := hide (below_on (unhide HB0) hb)
  have P1 := hide ((unhide P0).below hb)
  have W1 := hide (Below.refl w1.heap.size w1)
  clear hb ht hrow HB0 P0 CV
  go_wp2
  go_loopw [3, 5, 6, 7, 12] (fun v _ _ _ i wr => ∃ (k : Nat) (o : List ByteArray), k ≤ lv.length ∧ i = .int .i64 k ∧ o.length ≤ k ∧ Hid (o = ((lv.take k).filter sp).map bs) ∧ Hid (wr.ownsRow w1.heap.size 9 1 v o.length (scells o)) ∧ Hid (Below w1.heap.size w1 wr)) (fun _ _ _ _ i _ => lv.length - (intOf i).toNat)
  case atStart => exact ⟨0, [], Nat.zero_le _, rfl, Nat.le_refl _, hide (by simp), hide (World.ownsRow_nil _ _ _ _), W1⟩
  case round =>
    obtain ⟨k, o, hk, rfl, hol, HO, HW, HB⟩ := hrel
    by_cases hlt : k < lv.length
    · obtain ⟨gv, rfl, hcv⟩ := unhide HROW k hlt
      have htk := List.take_succ_eq_append_getElem hlt
      have hcv2 := ((unhide HB).cell (cell_lt hcv)).trans hcv
      obtain ⟨nm, hnm⟩ : ∃ nm, lv[k] = nm := ⟨_, rfl⟩
      rw [hnm] at htk hcv2
      have HTK := hide htk
      have hst := unhide HPS nm
      obtain ⟨⟨ux, uy⟩, hu⟩ : ∃ t, us nm = t := ⟨_, rfl⟩
      obtain ⟨⟨dx, dy⟩, hd⟩ : ∃ t, ds nm = t := ⟨_, rfl⟩
      obtain ⟨pe, hpe⟩ : ∃ t, ps nm = t := ⟨_, rfl⟩
      rw [hu, hd, hpe] at hst
      have HST := hide hst
      have CU1 := hide (fun wx hb => by have := unhide CU nm wx hb; rw [hu] at this; exact this)
      have CD1 := hide (fun wx hb => by have := unhide CD nm wx hb; rw [hd] at this; exact this)
      have CP1 := hide (fun wx hb => by have := unhide CP nm wx hb; rw [hpe] at this; exact this)
      have HB2 := hide (below_on (unhide HB1) (unhide HB))
      have P2 := hide ((unhide P1).below (unhide HB))
      obtain ⟨q0, q1, q2, q3, q4, q5, q6, q7⟩ : _ ∧ _ ∧ _ ∧ _ ∧ _ ∧ _ ∧ _ ∧ _ := ⟨(unhide P2).at 0, (unhide P2).at 1, (unhide P2).at 2, (unhide P2).at 3, (unhide P2).at 4, (unhide P2).at 5, (unhide P2).at 6, (unhide P2).at 7⟩
      simp at q0 q1 q2 q3 q4 q5 q6 q7
      simp only at CU1 CD1 CP1
      clear hnm htk hst hu hd hpe hcv
      have R : ∀ wx, Kp wr wx → wx.cell? ⟨w.heap.size, 0, none⟩ = some (.slice qa ql qc) ∧ wx.cell? ⟨w.heap.size, 1, none⟩ = some (.int .i64 clock) ∧ wx.cell? ⟨w.heap.size, 2, none⟩ = some (.int .i64 epoch) ∧ wx.cell? ⟨w.heap.size, 3, none⟩ = some (.int .i64 next) ∧ wx.cell? ⟨w.heap.size, 4, none⟩ = some (.int .i64 serial) ∧ wx.cell? ⟨w.heap.size, 5, none⟩ = some (.slice aa al ac) ∧ wx.cell? ⟨w.heap.size, 6, none⟩ = some (.slice ma ml mc) ∧ wx.cell? ⟨w.heap.size, 7, none⟩ = some (.slice ca cl cc) := fun wx h =>
        ⟨h.cell q0, h.cell q1, h.cell q2, h.cell q3, h.cell q4, h.cell q5, h.cell q6, h.cell q7⟩
      have A0 := hide (Kp.new wr)
      have HS := hide (kp_holds wr)
      clear q0 q1 q2 q3 q4 q5 q6 q7
      go_wp2_with fail
      clear hcv2
      go_cut [6, 7] from 16 to 24 (fun v6 v7 wx => ∃ g6 g7, v6 = .pointer (some ⟨g6, 0, none⟩) ∧ v7 = .pointer (some ⟨g7, 0, none⟩) ∧ Var wx 64 g6 ux uy ∧ Var wx 64 g7 dx dy ∧ wr.heap.size ≤ g6 ∧ wr.heap.size ≤ g7 ∧ Kp wr wx)
      case first =>
        refine wp_region_held_drew (S := fun wx => Kp wr wx) (by kernel_rfl) ((unhide HS).drew (unhide A0)) (fun S0 => ?_)
        refine takeD (i := 0) (d := some 16) (v := _) rfl rfl (by kernel_rfl) (by kernel_rfl) (by kernel_rfl) (fun _ _ _ h => h) (Or.inl ⟨by rfl, fun wz hz => by (go_simp; try with_reducible rfl)⟩) S0 ?_
        try simp only [Act.put, List.setIfInBounds_toArray, List.set_cons_zero, List.set_cons_succ]
        refine takeD (i := 1) (d := some 17) (v := _) rfl rfl (by kernel_rfl) (by kernel_rfl) (by kernel_rfl) (fun _ _ _ h => h) (Or.inl ⟨by rfl, fun wz hz => by (go_simp; try with_reducible rfl)⟩) S0 ?_
        try simp only [Act.put, List.setIfInBounds_toArray, List.set_cons_zero, List.set_cons_succ]
        refine takeD (i := 3) (d := some 19) (v := _) rfl rfl (by kernel_rfl) (by kernel_rfl) (by kernel_rfl) (fun _ _ _ h => h) (Or.inl ⟨by rfl, fun wz hz => by (go_simp; try with_reducible rfl)⟩) S0 ?_
        try simp only [Act.put, List.setIfInBounds_toArray, List.set_cons_zero, List.set_cons_succ]
        refine takeD (i := 4) (d := some 20) (v := _) rfl rfl (by kernel_rfl) (by kernel_rfl) (by kernel_rfl) (fun _ _ _ h => h) (Or.inl ⟨by rfl, fun wz hz => by (go_simp; try with_reducible rfl)⟩) S0 ?_
        try simp only [Act.put, List.setIfInBounds_toArray, List.set_cons_zero, List.set_cons_succ]
        refine takeD (i := 5) (d := some 21) (v := _) rfl rfl (by kernel_rfl) (by kernel_rfl) (by kernel_rfl) (fun _ _ _ h => h) (Or.inl ⟨by rfl, fun wz hz => by (go_simp; try with_reducible rfl)⟩) S0 ?_
        try simp only [Act.put, List.setIfInBounds_toArray, List.set_cons_zero, List.set_cons_succ]
        refine takeD (i := 6) (d := some 22) (v := _) rfl rfl (by kernel_rfl) (by kernel_rfl) (by kernel_rfl) (fun _ _ _ h => h) (Or.inl ⟨by rfl, fun wz hz => by (go_simp; try with_reducible rfl)⟩) S0 ?_
        try simp only [Act.put, List.setIfInBounds_toArray, List.set_cons_zero, List.set_cons_succ]
        refine wpAnyH_inv (SVI w wr nm ux uy tx ty dx dy gv lv.length k vc u3 u6 u7 u18 u23 u24 u25 u26 u27 u28 u29 u30 u31 u32 u33 u34 u35 u36 u37 u38 u39 u40 u41 u42 qa ql qc aa al ac ma ml mc ca cl cc qs clock epoch next serial apps ms cs) ?step ?fin 7 _ _ _ (.inl (⟨rfl, by kernel_rfl, rfl, S0⟩))
        case fin =>
          intro lz az wz hI
          rcases hI with h | h | h | h | h | h | h | h | h | h | h | h | h | h | h | h | h | h
          · obtain ⟨hn, _⟩ := h
            cases hn
          · obtain ⟨_, hn, _⟩ := h
            cases hn
          · obtain ⟨_, hn, _⟩ := h
            cases hn
          · obtain ⟨_, _, hn, _⟩ := h
            cases hn
          · obtain ⟨hn, _⟩ := h
            cases hn
          · obtain ⟨_, hn, _⟩ := h
            cases hn
          · obtain ⟨_, hn, _⟩ := h
            cases hn
          · obtain ⟨_, _, hn, _⟩ := h
            cases hn
          · obtain ⟨hn, _⟩ := h
            cases hn
          · obtain ⟨_, hn, _⟩ := h
            cases hn
          · obtain ⟨_, hn, _⟩ := h
            cases hn
          · obtain ⟨_, _, hn, _⟩ := h
            cases hn
          · obtain ⟨hn, _⟩ := h
            cases hn
          · obtain ⟨_, hn, _⟩ := h
            cases hn
          · obtain ⟨_, hn, _⟩ := h
            cases hn
          · obtain ⟨_, _, hn, _⟩ := h
            cases hn
          · obtain ⟨_, _, hn, _⟩ := h
            cases hn
          · obtain ⟨g6, g7, -, rfl, rfl, vg6, vg7, _, kp⟩ := h
            refine ⟨by kernel_rfl, ?_⟩
            go_wp2_with fail
            go_meet
            exact ⟨g6, g7, rfl, rfl, vg6.2, vg7.2, vg6.1, vg7.1, kp⟩
        case step =>
          intro n lz az wz hI
          rcases hI with h | h | h | h | h | h | h | h | h | h | h | h | h | h | h | h | h | h
          · obtain ⟨hn, rfl, rfl, kp⟩ := h
            obtain rfl : n = 6 := by omega
            refine ready_step (rs := [2, 9, 10]) (by kernel_rfl) (by simp) ?_
            refine AllReadyI.cons rfl (fun K hK => ?_) ?_
            · go_simp
              refine (unhide CU1 _ (below_on (unhide HB2) kp)).mono ?_
              rintro e w2 ⟨rfl, hb⟩
              go_wp2_with fail
              exact hK.out _ _ (below_on kp hb) (.inr (.inr (.inr (.inr (.inl (⟨rfl, rfl, rfl, below_on kp hb⟩))))))
            refine AllReadyI.cons rfl (fun K hK => ?_) ?_
            · go_simp
              go_wp2_with fail
              exact hK.out _ _ (below_al kp _) (.inr (.inr (.inl (⟨wz.heap.size, rfl, rfl, rfl, vb_new kp, below_al kp _⟩))))
            refine AllReadyI.cons rfl (fun K hK => ?_) ?_
            · go_simp
              go_wp2_with fail
              exact hK.out _ _ (below_al kp _) (.inr (.inl (⟨wz.heap.size, rfl, rfl, rfl, vb_new kp, below_al kp _⟩)))
            exact AllReadyI.nil
          · obtain ⟨g7, hn, rfl, rfl, vg7, kp⟩ := h
            obtain rfl : n = 5 := by omega
            refine ready_step (rs := [2, 9]) (by kernel_rfl) (by simp) ?_
            refine AllReadyI.cons rfl (fun K hK => ?_) ?_
            · go_simp
              refine (unhide CU1 _ (below_on (unhide HB2) kp)).mono ?_
              rintro e w2 ⟨rfl, hb⟩
              go_wp2_with fail
              exact hK.out _ _ (below_on kp hb) (.inr (.inr (.inr (.inr (.inr (.inl (⟨g7, rfl, rfl, rfl, vg7.below hb, below_on kp hb⟩)))))))
            refine AllReadyI.cons rfl (fun K hK => ?_) ?_
            · go_simp
              go_wp2_with fail
              exact hK.out _ _ (below_al kp _) (.inr (.inr (.inr (.inl (⟨wz.heap.size, g7, rfl, rfl, rfl, vb_new kp, vg7.al _, vg7.ne.symm, below_al kp _⟩)))))
            exact AllReadyI.nil
          · obtain ⟨g6, hn, rfl, rfl, vg6, kp⟩ := h
            obtain rfl : n = 5 := by omega
            refine ready_step (rs := [2, 10]) (by kernel_rfl) (by simp) ?_
            refine AllReadyI.cons rfl (fun K hK => ?_) ?_
            · go_simp
              refine (unhide CU1 _ (below_on (unhide HB2) kp)).mono ?_
              rintro e w2 ⟨rfl, hb⟩
              go_wp2_with fail
              exact hK.out _ _ (below_on kp hb) (.inr (.inr (.inr (.inr (.inr (.inr (.inl (⟨g6, rfl, rfl, rfl, vg6.below hb, below_on kp hb⟩))))))))
            refine AllReadyI.cons rfl (fun K hK => ?_) ?_
            · go_simp
              go_wp2_with fail
              exact hK.out _ _ (below_al kp _) (.inr (.inr (.inr (.inl (⟨g6, wz.heap.size, rfl, rfl, rfl, vg6.al _, vb_new kp, vg6.ne, below_al kp _⟩)))))
            exact AllReadyI.nil
          · obtain ⟨g6, g7, hn, rfl, rfl, vg6, vg7, eg6g7, kp⟩ := h
            obtain rfl : n = 4 := by omega
            refine ready_step (rs := [2]) (by kernel_rfl) (by simp) ?_
            refine AllReadyI.cons rfl (fun K hK => ?_) ?_
            · go_simp
              refine (unhide CU1 _ (below_on (unhide HB2) kp)).mono ?_
              rintro e w2 ⟨rfl, hb⟩
              go_wp2_with fail
              exact hK.out _ _ (below_on kp hb) (.inr (.inr (.inr (.inr (.inr (.inr (.inr (.inl (⟨g6, g7, rfl, rfl, rfl, vg6.below hb, vg7.below hb, eg6g7, below_on kp hb⟩)))))))))
            exact AllReadyI.nil
          · obtain ⟨hn, rfl, rfl, kp⟩ := h
            obtain rfl : n = 5 := by omega
            refine ready_step (rs := [7, 9, 10]) (by kernel_rfl) (by simp) ?_
            refine AllReadyI.cons rfl (fun K hK => ?_) ?_
            · go_simp
              refine (unhide CT _ (below_on (unhide HB2) kp)).mono ?_
              rintro e w2 ⟨rfl, hb⟩
              go_wp2_with fail
              exact hK.out _ _ (below_on kp hb) (.inr (.inr (.inr (.inr (.inr (.inr (.inr (.inr (.inl (⟨rfl, rfl, rfl, below_on kp hb⟩))))))))))
            refine AllReadyI.cons rfl (fun K hK => ?_) ?_
            · go_simp
              go_wp2_with fail
              exact hK.out _ _ (below_al kp _) (.inr (.inr (.inr (.inr (.inr (.inr (.inl (⟨wz.heap.size, rfl, rfl, rfl, vb_new kp, below_al kp _⟩))))))))
            refine AllReadyI.cons rfl (fun K hK => ?_) ?_
            · go_simp
              go_wp2_with fail
              exact hK.out _ _ (below_al kp _) (.inr (.inr (.inr (.inr (.inr (.inl (⟨wz.heap.size, rfl, rfl, rfl, vb_new kp, below_al kp _⟩)))))))
            exact AllReadyI.nil
          · obtain ⟨g7, hn, rfl, rfl, vg7, kp⟩ := h
            obtain rfl : n = 4 := by omega
            refine ready_step (rs := [7, 9]) (by kernel_rfl) (by simp) ?_
            refine AllReadyI.cons rfl (fun K hK => ?_) ?_
            · go_simp
              refine (unhide CT _ (below_on (unhide HB2) kp)).mono ?_
              rintro e w2 ⟨rfl, hb⟩
              go_wp2_with fail
              exact hK.out _ _ (below_on kp hb) (.inr (.inr (.inr (.inr (.inr (.inr (.inr (.inr (.inr (.inl (⟨g7, rfl, rfl, rfl, vg7.below hb, below_on kp hb⟩)))))))))))
            refine AllReadyI.cons rfl (fun K hK => ?_) ?_
            · go_simp
              go_wp2_with fail
              exact hK.out _ _ (below_al kp _) (.inr (.inr (.inr (.inr (.inr (.inr (.inr (.inl (⟨wz.heap.size, g7, rfl, rfl, rfl, vb_new kp, vg7.al _, vg7.ne.symm, below_al kp _⟩)))))))))
            exact AllReadyI.nil
          · obtain ⟨g6, hn, rfl, rfl, vg6, kp⟩ := h
            obtain rfl : n = 4 := by omega
            refine ready_step (rs := [7, 10]) (by kernel_rfl) (by simp) ?_
            refine AllReadyI.cons rfl (fun K hK => ?_) ?_
            · go_simp
              refine (unhide CT _ (below_on (unhide HB2) kp)).mono ?_
              rintro e w2 ⟨rfl, hb⟩
              go_wp2_with fail
              exact hK.out _ _ (below_on kp hb) (.inr (.inr (.inr (.inr (.inr (.inr (.inr (.inr (.inr (.inr (.inl (⟨g6, rfl, rfl, rfl, vg6.below hb, below_on kp hb⟩))))))))))))
            refine AllReadyI.cons rfl (fun K hK => ?_) ?_
            · go_simp
              go_wp2_with fail
              exact hK.out _ _ (below_al kp _) (.inr (.inr (.inr (.inr (.inr (.inr (.inr (.inl (⟨g6, wz.heap.size, rfl, rfl, rfl, vg6.al _, vb_new kp, vg6.ne, below_al kp _⟩)))))))))
            exact AllReadyI.nil
          · obtain ⟨g6, g7, hn, rfl, rfl, vg6, vg7, eg6g7, kp⟩ := h
            obtain rfl : n = 3 := by omega
            refine ready_step (rs := [7]) (by kernel_rfl) (by simp) ?_
            refine AllReadyI.cons rfl (fun K hK => ?_) ?_
            · go_simp
              refine (unhide CT _ (below_on (unhide HB2) kp)).mono ?_
              rintro e w2 ⟨rfl, hb⟩
              go_wp2_with fail
              exact hK.out _ _ (below_on kp hb) (.inr (.inr (.inr (.inr (.inr (.inr (.inr (.inr (.inr (.inr (.inr (.inl (⟨g6, g7, rfl, rfl, rfl, vg6.below hb, vg7.below hb, eg6g7, below_on kp hb⟩)))))))))))))
            exact AllReadyI.nil
          · obtain ⟨hn, rfl, rfl, kp⟩ := h
            obtain rfl : n = 4 := by omega
            refine ready_step (rs := [8, 9, 10]) (by kernel_rfl) (by simp) ?_
            refine AllReadyI.cons rfl (fun K hK => ?_) ?_
            · go_simp
              refine (unhide CD1 _ (below_on (unhide HB2) kp)).mono ?_
              rintro e w2 ⟨rfl, hb⟩
              go_wp2_with fail
              exact hK.out _ _ (below_on kp hb) (.inr (.inr (.inr (.inr (.inr (.inr (.inr (.inr (.inr (.inr (.inr (.inr (.inl (⟨rfl, rfl, rfl, below_on kp hb⟩))))))))))))))
            refine AllReadyI.cons rfl (fun K hK => ?_) ?_
            · go_simp
              go_wp2_with fail
              exact hK.out _ _ (below_al kp _) (.inr (.inr (.inr (.inr (.inr (.inr (.inr (.inr (.inr (.inr (.inl (⟨wz.heap.size, rfl, rfl, rfl, vb_new kp, below_al kp _⟩))))))))))))
            refine AllReadyI.cons rfl (fun K hK => ?_) ?_
            · go_simp
              go_wp2_with fail
              exact hK.out _ _ (below_al kp _) (.inr (.inr (.inr (.inr (.inr (.inr (.inr (.inr (.inr (.inl (⟨wz.heap.size, rfl, rfl, rfl, vb_new kp, below_al kp _⟩)))))))))))
            exact AllReadyI.nil
          · obtain ⟨g7, hn, rfl, rfl, vg7, kp⟩ := h
            obtain rfl : n = 3 := by omega
            refine ready_step (rs := [8, 9]) (by kernel_rfl) (by simp) ?_
            refine AllReadyI.cons rfl (fun K hK => ?_) ?_
            · go_simp
              refine (unhide CD1 _ (below_on (unhide HB2) kp)).mono ?_
              rintro e w2 ⟨rfl, hb⟩
              go_wp2_with fail
              exact hK.out _ _ (below_on kp hb) (.inr (.inr (.inr (.inr (.inr (.inr (.inr (.inr (.inr (.inr (.inr (.inr (.inr (.inl (⟨g7, rfl, rfl, rfl, vg7.below hb, below_on kp hb⟩)))))))))))))))
            refine AllReadyI.cons rfl (fun K hK => ?_) ?_
            · go_simp
              go_wp2_with fail
              exact hK.out _ _ (below_al kp _) (.inr (.inr (.inr (.inr (.inr (.inr (.inr (.inr (.inr (.inr (.inr (.inl (⟨wz.heap.size, g7, rfl, rfl, rfl, vb_new kp, vg7.al _, vg7.ne.symm, below_al kp _⟩)))))))))))))
            exact AllReadyI.nil
          · obtain ⟨g6, hn, rfl, rfl, vg6, kp⟩ := h
            obtain rfl : n = 3 := by omega
            refine ready_step (rs := [8, 10]) (by kernel_rfl) (by simp) ?_
            refine AllReadyI.cons rfl (fun K hK => ?_) ?_
            · go_simp
              refine (unhide CD1 _ (below_on (unhide HB2) kp)).mono ?_
              rintro e w2 ⟨rfl, hb⟩
              go_wp2_with fail
              exact hK.out _ _ (below_on kp hb) (.inr (.inr (.inr (.inr (.inr (.inr (.inr (.inr (.inr (.inr (.inr (.inr (.inr (.inr (.inl (⟨g6, rfl, rfl, rfl, vg6.below hb, below_on kp hb⟩))))))))))))))))
            refine AllReadyI.cons rfl (fun K hK => ?_) ?_
            · go_simp
              go_wp2_with fail
              exact hK.out _ _ (below_al kp _) (.inr (.inr (.inr (.inr (.inr (.inr (.inr (.inr (.inr (.inr (.inr (.inl (⟨g6, wz.heap.size, rfl, rfl, rfl, vg6.al _, vb_new kp, vg6.ne, below_al kp _⟩)))))))))))))
            exact AllReadyI.nil
          · obtain ⟨g6, g7, hn, rfl, rfl, vg6, vg7, eg6g7, kp⟩ := h
            obtain rfl : n = 2 := by omega
            refine ready_step (rs := [8]) (by kernel_rfl) (by simp) ?_
            refine AllReadyI.cons rfl (fun K hK => ?_) ?_
            · go_simp
              refine (unhide CD1 _ (below_on (unhide HB2) kp)).mono ?_
              rintro e w2 ⟨rfl, hb⟩
              go_wp2_with fail
              exact hK.out _ _ (below_on kp hb) (.inr (.inr (.inr (.inr (.inr (.inr (.inr (.inr (.inr (.inr (.inr (.inr (.inr (.inr (.inr (.inl (⟨g6, g7, rfl, rfl, rfl, vg6.below hb, vg7.below hb, eg6g7, below_on kp hb⟩)))))))))))))))))
            exact AllReadyI.nil
          · obtain ⟨hn, rfl, rfl, kp⟩ := h
            obtain rfl : n = 3 := by omega
            refine ready_step (rs := [9, 10]) (by kernel_rfl) (by simp) ?_
            refine AllReadyI.cons rfl (fun K hK => ?_) ?_
            · go_simp
              go_wp2_with fail
              exact hK.out _ _ (below_al kp _) (.inr (.inr (.inr (.inr (.inr (.inr (.inr (.inr (.inr (.inr (.inr (.inr (.inr (.inr (.inl (⟨wz.heap.size, rfl, rfl, rfl, vb_new kp, below_al kp _⟩))))))))))))))))
            refine AllReadyI.cons rfl (fun K hK => ?_) ?_
            · go_simp
              go_wp2_with fail
              exact hK.out _ _ (below_al kp _) (.inr (.inr (.inr (.inr (.inr (.inr (.inr (.inr (.inr (.inr (.inr (.inr (.inr (.inl (⟨wz.heap.size, rfl, rfl, rfl, vb_new kp, below_al kp _⟩)))))))))))))))
            exact AllReadyI.nil
          · obtain ⟨g7, hn, rfl, rfl, vg7, kp⟩ := h
            obtain rfl : n = 2 := by omega
            refine ready_step (rs := [9]) (by kernel_rfl) (by simp) ?_
            refine AllReadyI.cons rfl (fun K hK => ?_) ?_
            · go_simp
              go_wp2_with fail
              exact hK.out _ _ (below_al kp _) (.inr (.inr (.inr (.inr (.inr (.inr (.inr (.inr (.inr (.inr (.inr (.inr (.inr (.inr (.inr (.inl (⟨wz.heap.size, g7, rfl, rfl, rfl, vb_new kp, vg7.al _, vg7.ne.symm, below_al kp _⟩)))))))))))))))))
            exact AllReadyI.nil
          · obtain ⟨g6, hn, rfl, rfl, vg6, kp⟩ := h
            obtain rfl : n = 2 := by omega
            refine ready_step (rs := [10]) (by kernel_rfl) (by simp) ?_
            refine AllReadyI.cons rfl (fun K hK => ?_) ?_
            · go_simp
              go_wp2_with fail
              exact hK.out _ _ (below_al kp _) (.inr (.inr (.inr (.inr (.inr (.inr (.inr (.inr (.inr (.inr (.inr (.inr (.inr (.inr (.inr (.inl (⟨g6, wz.heap.size, rfl, rfl, rfl, vg6.al _, vb_new kp, vg6.ne, below_al kp _⟩)))))))))))))))))
            exact AllReadyI.nil
          · obtain ⟨g6, g7, hn, rfl, rfl, vg6, vg7, eg6g7, kp⟩ := h
            obtain rfl : n = 1 := by omega
            refine ready_step (rs := [11]) (by kernel_rfl) (by simp) ?_
            refine AllReadyI.cons rfl (fun K hK => ?_) ?_
            · have y0 := vg6.2.c0
              have y1 := vg6.2.c1
              have y2 := vg6.2.f 0
              have y3 := vg6.2.f 1
              go_simp
              go_wp2_with fail
              exact hK.out _ _ (vg6.kp kp) (.inr (.inr (.inr (.inr (.inr (.inr (.inr (.inr (.inr (.inr (.inr (.inr (.inr (.inr (.inr (.inr (.inl (⟨g6, g7, rfl, rfl, rfl, vg6.set ux uy, vg7.off eg6g7.symm, eg6g7, vg6.kp kp⟩))))))))))))))))))
            exact AllReadyI.nil
          · obtain ⟨g6, g7, hn, rfl, rfl, vg6, vg7, eg6g7, kp⟩ := h
            obtain rfl : n = 0 := by omega
            refine ready_step (rs := [12]) (by kernel_rfl) (by simp) ?_
            refine AllReadyI.cons rfl (fun K hK => ?_) ?_
            · have y0 := vg7.2.c0
              have y1 := vg7.2.c1
              have y2 := vg7.2.f 0
              have y3 := vg7.2.f 1
              go_simp
              go_wp2_with fail
              exact hK.out _ _ (vg7.kp kp) (.inr (.inr (.inr (.inr (.inr (.inr (.inr (.inr (.inr (.inr (.inr (.inr (.inr (.inr (.inr (.inr (.inr (⟨g6, g7, rfl, rfl, rfl, vg6.off eg6g7, vg7.set dx dy, eg6g7, vg7.kp kp⟩))))))))))))))))))
            exact AllReadyI.nil
          · obtain ⟨_, _, hn, _⟩ := h
            cases hn
      case rest =>
        obtain ⟨g6, g7, rfl, rfl, hv6, hv7, hg6, hg7, hA⟩ := hcut
        obtain ⟨w4, rfl⟩ : ∃ w4, w4 = wc := ⟨wc, rfl⟩
        obtain ⟨q0, q1, q2, q3, q4, q5, q6, q7⟩ := R _ hA
        have V6 := hide hv6
        have V7 := hide hv7
        have HW4 := hide (sown_below (unhide HW) hA)
        have HB4 := hide (below_on (unhide HB2) hA)
        have HL4 := hide (below_on (unhide HB) hA)
        clear hv6 hv7 hA R A0 HS HW HB HB2 P2
        go_wp2_with fail
        refine (unhide CP1 _ (unhide HB4)).mono ?_
        rintro e w5 ⟨rfl, hb⟩
        have V65 := hide ((unhide V6).below hb)
        have V75 := hide ((unhide V7).below hb)
        have HW5 := hide (sown_below (unhide HW4) hb)
        have HL5 := hide (below_on (unhide HL4) hb)
        clear hb V6 V7 HW4 HB4 HL4 q0 q1 q2 q3 q4 q5 q6 q7 CP1 CU1 CD1
        cases pe
        case false =>
          go_wp2
          go_roundw
          case rel => exact ⟨k + 1, o, by omega, by go_num, by omega, hide (by rw [unhide HTK, List.filter_append]; simp only [List.filter_cons, List.filter_nil]; rw [if_neg (by rw [unhide HST]; simp), List.append_nil]; exact unhide HO), HW5, HL5⟩
          case measure => simp [intOf]; omega
        case true =>
          by_cases h1 : ux = dx
          · subst h1
            by_cases h2 : uy = dy
            · subst h2
              have c0 := (unhide V65).c0
              have c1 := (unhide V65).c1
              have d0 := (unhide V75).c0
              have d1 := (unhide V75).c1
              go_wp2
              go_roundw
              case rel => exact ⟨k + 1, o, by omega, by go_num, by omega, hide (by rw [unhide HTK, List.filter_append]; simp only [List.filter_cons, List.filter_nil]; rw [if_neg (by rw [unhide HST]; simp), List.append_nil]; exact unhide HO), HW5, HL5⟩
              case measure => simp [intOf]; omega
            · have c0 := (unhide V65).c0
              have c1 := (unhide V65).c1
              have d0 := (unhide V75).c0
              have d1 := (unhide V75).c1
              obtain ⟨wi, hwi⟩ : ∃ b, within ux uy ux dy = b := ⟨_, rfl⟩
              have CW := hide (fun wx => by have := implWithin_any ux uy ux dy wx; rw [hwi] at this; exact this)
              have HWI := hide hwi
              clear hwi
              go_wp2_with fail
              refine (unhide CW _).mono ?_
              rintro e w6 ⟨rfl, hb⟩
              have HW6 := hide (sown_below (unhide HW5) hb)
              have HL6 := hide (below_on (unhide HL5) hb)
              clear hb HW5 HL5 V65 V75 c0 c1 d0 d1 CW
              cases wi
              case false =>
                go_wp2
                go_roundw
                case rel => exact ⟨k + 1, o, by omega, by go_num, by omega, hide (by rw [unhide HTK, List.filter_append]; simp only [List.filter_cons, List.filter_nil]; rw [if_neg (by rw [unhide HST]; rw [unhide HWI]; simp), List.append_nil]; exact unhide HO), HW6, HL6⟩
                case measure => simp [intOf]; omega
              case true =>
                have hown := unhide HW6
                have hbel := unhide HL6
                have hwz := hbel.size
                clear HW6 HL6
                go_wp2_with (at_builtin; refine wpList_append_own _ rfl _ _ 29 rfl w1.heap.size 9 i0 (.string ByteArray.empty) 1 16 Tryz.underlying29 hi hz0 hz1 hz2 rfl (by decide) _ _ _ rfl (hown.alloc _) ⟨w6.heap.size, 0, none⟩ 1 1 [.string (bs nm)] rfl rfl ?c1 ?c2 ?c3 ?c4 ?c5 ?_)
                case c1 => intro j v hj; match j, hj with | 0, hj => simp at hj; subst hj; simp [Addr.add]
                case c2 => intro v hv; simp at hv; subst hv; rfl
                case c3 => unfold maxLen; omega
                case c4 => omega
                case c5 => simp; omega
                intro v' w7 hown' hgrow _
                have RR := hide (srow_step hbel hown hown' hgrow (by omega))
                clear hown' hgrow hown hbel
                go_wp2
                go_roundw
                case rel => exact ⟨k + 1, o ++ [bs nm], by omega, by go_num, by simp; omega, hide (by rw [unhide HTK, List.filter_append]; simp only [List.filter_cons, List.filter_nil]; rw [if_pos (by rw [unhide HST, unhide HWI]; first | rfl | (simp; omega) | simp [*]), List.map_append, ← unhide HO]; rfl), hide (unhide RR).1, hide (unhide RR).2⟩
                case measure => simp [intOf]; omega
          · have c0 := (unhide V65).c0
            have c1 := (unhide V65).c1
            have d0 := (unhide V75).c0
            have d1 := (unhide V75).c1
            obtain ⟨wi, hwi⟩ : ∃ b, within ux uy dx dy = b := ⟨_, rfl⟩
            have CW := hide (fun wx => by have := implWithin_any ux uy dx dy wx; rw [hwi] at this; exact this)
            have HWI := hide hwi
            clear hwi
            go_wp2_with fail
            refine (unhide CW _).mono ?_
            rintro e w6 ⟨rfl, hb⟩
            have HW6 := hide (sown_below (unhide HW5) hb)
            have HL6 := hide (below_on (unhide HL5) hb)
            clear hb HW5 HL5 V65 V75 c0 c1 d0 d1 CW
            cases wi
            case false =>
              go_wp2
              go_roundw
              case rel => exact ⟨k + 1, o, by omega, by go_num, by omega, hide (by rw [unhide HTK, List.filter_append]; simp only [List.filter_cons, List.filter_nil]; rw [if_neg (by rw [unhide HST]; rw [unhide HWI]; simp), List.append_nil]; exact unhide HO), HW6, HL6⟩
              case measure => simp [intOf]; omega
            case true =>
              have hown := unhide HW6
              have hbel := unhide HL6
              have hwz := hbel.size
              clear HW6 HL6
              go_wp2_with (at_builtin; refine wpList_append_own _ rfl _ _ 29 rfl w1.heap.size 9 i0 (.string ByteArray.empty) 1 16 Tryz.underlying29 hi hz0 hz1 hz2 rfl (by decide) _ _ _ rfl (hown.alloc _) ⟨w6.heap.size, 0, none⟩ 1 1 [.string (bs nm)] rfl rfl ?c1 ?c2 ?c3 ?c4 ?c5 ?_)
              case c1 => intro j v hj; match j, hj with | 0, hj => simp at hj; subst hj; simp [Addr.add]
              case c2 => intro v hv; simp at hv; subst hv; rfl
              case c3 => unfold maxLen; omega
              case c4 => omega
              case c5 => simp; omega
              intro v' w7 hown' hgrow _
              have RR := hide (srow_step hbel hown hown' hgrow (by omega))
              clear hown' hgrow hown hbel
              go_wp2
              go_roundw
              case rel => exact ⟨k + 1, o ++ [bs nm], by omega, by go_num, by simp; omega, hide (by rw [unhide HTK, List.filter_append]; simp only [List.filter_cons, List.filter_nil]; rw [if_pos (by rw [unhide HST, unhide HWI]; first | rfl | (simp; omega) | simp [*]), List.map_append, ← unhide HO]; rfl), hide (unhide RR).1, hide (unhide RR).2⟩
              case measure => simp [intOf]; omega
    · have hkk : k = lv.length := by omega
      subst hkk
      have ho := unhide HO
      rw [List.take_length] at ho
      obtain ⟨sl, hsl⟩ : ∃ sl, lv.filter sp = sl := ⟨_, rfl⟩
      rw [hsl] at ho
      have HSV2 := hide (show sV = sl.mergeSort (fun x y => decide (x ≤ y)) by rw [unhide HSV, hsl])
      subst ho
      have HT := hide (show Texts w1.heap.size wr u3 sl from unhide HW)
      have hsn : sl.length ≤ 1048576 := by rw [List.length_map] at hol; omega
      have HB5 := hide (below_on (unhide HB1) (unhide HB))
      clear hsl hol HO HW HSV
      by_cases h0 : sl = []
      · subst h0
        obtain ⟨po, pc, rfl⟩ := texts_none (unhide HT)
        have CN := hide (Tryz.slices_Sort_string_none po pc wr)
        go_wp2_with fail
        refine (unhide CN).mono ?_
        rintro e w8 ⟨rfl, rfl⟩
        go_wp2
        go_ret
        refine ⟨_, rfl, ?_, unhide HB5⟩
        rw [unhide HSV2]
        simp only [List.mergeSort_nil]
        exact (unhide HT).base (unhide HB1).size
      · obtain ⟨g, cap, rfl, hs, hg⟩ := texts_some (unhide HT) h0
        have CN := hide (sort_any g cap sl wr hs (by omega))
        have HG := hide hg
        clear hs hg h0
        go_wp2_with fail
        refine (unhide CN).mono ?_
        rintro e w8 ⟨rfl, ht, hgr⟩
        have HT8 := hide ht
        have HB8 := hide (below_grownBy (unhide HB5) hgr (by have := (unhide HB5).size; omega) (by have := unhide HG; have := (unhide HB1).size; omega))
        have hsz1 := (unhide HB1).size
        have hg := unhide HG
        clear ht hgr CN HT HB5
        go_wp2
        go_ret
        refine ⟨_, rfl, ?_, unhide HB8⟩
        rw [unhide HSV2]
        have hfin := ((unhide HT8).own).base (B' := w.heap.size) (by omega)
        rw [List.length_mergeSort] at hfin
        exact hfin
end Go.Proofs.YtbgamlegiikggaaGreat
