/-
  What a leaf lacks, by the model: Lack; a walk over the dump.
-/
import Derived.Test.YtgfdfaaemhdcaaaGreatLackM
import Derived.Test.YtgfdfaaemhdcaaaGreatPackD
import Derived.Test.YtgfdfaaemhdcaaaGreatUsedByS
import Derived.Test.YtgfdfaaemhdcaaaGreatOfSD
import Derived.Test.YtgfdfaaemhdcaaaGreatWantS
import Derived.Test.YtgfdfaaemhdcaaaGreatLeafS
import Derived.Deep.RegionHeld3
import Derived.Deep.CutRange
namespace Go.Proofs.YtgfdfaaemhdcaaaGreat
open Go.RowKit Go.Maps
set_option linter.unusedVariables false
set_option linter.unusedSimpArgs false

def LWS0 (w w1 : World) (nm : List UInt8) (ux uy tx ty dx dy nx ny : Int) (qa : Option Addr) (ql qc : Nat) (aa : Option Addr) (al ac : Nat) (ma : Option Addr) (ml mc : Nat) (ca : Option Addr) (cl cc : Nat) (qs : List Q) (clock epoch next serial : Int) (apps : List Appl) (ms : List Mac) (cs : List Con) (n : Nat) (lz : Array Bool) (az : Act) (wz : World) : Prop := (n = 10 ∧ lz = #[true, true, false, true, true, true, true, false, false, true, true, false, false, false, false, false, false, false] ∧ az = { tmps := #[sv ⟨qa, ql, qc, aa, al, ac, ma, ml, mc, ca, cl, cc⟩ ⟨qs, clock, epoch, next, serial, apps, ms, cs⟩, .string (bs nm), .pointer (some ⟨w.heap.size, 0, none⟩), undef, .pointer (some ⟨w.heap.size + 1, 0, none⟩), undef, undef, undef, undef, .pointer (some ⟨w.heap.size, 0, none⟩), .slice qa ql qc, .string (bs nm), .bool true, .bool false, undef, .agg #[.slice qa ql qc, .int .i64 clock, .int .i64 epoch, .int .i64 next, .int .i64 serial, .slice aa al ac, .slice ma ml mc, .slice ca cl cc], .string (bs nm), undef, .pointer (some ⟨w.heap.size, 0, none⟩), .slice qa ql qc, .string (bs nm), .agg #[.slice qa ql qc, .int .i64 clock, .int .i64 epoch, .int .i64 next, .int .i64 serial, .slice aa al ac, .slice ma ml mc, .slice ca cl cc], undef, undef, .agg #[.slice qa ql qc, .int .i64 clock, .int .i64 epoch, .int .i64 next, .int .i64 serial, .slice aa al ac, .slice ma ml mc, .slice ca cl cc], .string (bs nm), undef, undef, undef, undef, undef, undef, undef, undef, undef, undef, undef, undef, undef, undef, undef, undef, undef, undef, undef, undef, undef, undef, undef, undef, undef, undef, undef, undef, undef, undef, undef], defers := [] } ∧ Kp w1 wz)
def LWS1 (w w1 : World) (nm : List UInt8) (ux uy tx ty dx dy nx ny : Int) (qa : Option Addr) (ql qc : Nat) (aa : Option Addr) (al ac : Nat) (ma : Option Addr) (ml mc : Nat) (ca : Option Addr) (cl cc : Nat) (qs : List Q) (clock epoch next serial : Int) (apps : List Appl) (ms : List Mac) (cs : List Con) (n : Nat) (lz : Array Bool) (az : Act) (wz : World) : Prop := (∃ g7 : Nat, n = 9 ∧ lz = #[true, true, false, true, true, true, true, false, false, true, true, false, false, false, true, false, false, false] ∧ az = { tmps := #[sv ⟨qa, ql, qc, aa, al, ac, ma, ml, mc, ca, cl, cc⟩ ⟨qs, clock, epoch, next, serial, apps, ms, cs⟩, .string (bs nm), .pointer (some ⟨w.heap.size, 0, none⟩), undef, .pointer (some ⟨w.heap.size + 1, 0, none⟩), undef, undef, .pointer (some ⟨g7, 0, none⟩), undef, .pointer (some ⟨w.heap.size, 0, none⟩), .slice qa ql qc, .string (bs nm), .bool true, .bool false, undef, .agg #[.slice qa ql qc, .int .i64 clock, .int .i64 epoch, .int .i64 next, .int .i64 serial, .slice aa al ac, .slice ma ml mc, .slice ca cl cc], .string (bs nm), undef, .pointer (some ⟨w.heap.size, 0, none⟩), .slice qa ql qc, .string (bs nm), .agg #[.slice qa ql qc, .int .i64 clock, .int .i64 epoch, .int .i64 next, .int .i64 serial, .slice aa al ac, .slice ma ml mc, .slice ca cl cc], undef, undef, .agg #[.slice qa ql qc, .int .i64 clock, .int .i64 epoch, .int .i64 next, .int .i64 serial, .slice aa al ac, .slice ma ml mc, .slice ca cl cc], .string (bs nm), undef, undef, undef, undef, undef, undef, undef, undef, undef, undef, undef, undef, undef, undef, undef, undef, undef, undef, undef, undef, undef, undef, undef, undef, undef, undef, undef, undef, undef, undef, undef], defers := [] } ∧ VB w1 wz g7 0 0 ∧ Kp w1 wz)
def LWS2 (w w1 : World) (nm : List UInt8) (ux uy tx ty dx dy nx ny : Int) (qa : Option Addr) (ql qc : Nat) (aa : Option Addr) (al ac : Nat) (ma : Option Addr) (ml mc : Nat) (ca : Option Addr) (cl cc : Nat) (qs : List Q) (clock epoch next serial : Int) (apps : List Appl) (ms : List Mac) (cs : List Con) (n : Nat) (lz : Array Bool) (az : Act) (wz : World) : Prop := (∃ g6 : Nat, n = 9 ∧ lz = #[true, true, false, true, true, true, true, false, false, true, true, false, false, true, false, false, false, false] ∧ az = { tmps := #[sv ⟨qa, ql, qc, aa, al, ac, ma, ml, mc, ca, cl, cc⟩ ⟨qs, clock, epoch, next, serial, apps, ms, cs⟩, .string (bs nm), .pointer (some ⟨w.heap.size, 0, none⟩), undef, .pointer (some ⟨w.heap.size + 1, 0, none⟩), undef, .pointer (some ⟨g6, 0, none⟩), undef, undef, .pointer (some ⟨w.heap.size, 0, none⟩), .slice qa ql qc, .string (bs nm), .bool true, .bool false, undef, .agg #[.slice qa ql qc, .int .i64 clock, .int .i64 epoch, .int .i64 next, .int .i64 serial, .slice aa al ac, .slice ma ml mc, .slice ca cl cc], .string (bs nm), undef, .pointer (some ⟨w.heap.size, 0, none⟩), .slice qa ql qc, .string (bs nm), .agg #[.slice qa ql qc, .int .i64 clock, .int .i64 epoch, .int .i64 next, .int .i64 serial, .slice aa al ac, .slice ma ml mc, .slice ca cl cc], undef, undef, .agg #[.slice qa ql qc, .int .i64 clock, .int .i64 epoch, .int .i64 next, .int .i64 serial, .slice aa al ac, .slice ma ml mc, .slice ca cl cc], .string (bs nm), undef, undef, undef, undef, undef, undef, undef, undef, undef, undef, undef, undef, undef, undef, undef, undef, undef, undef, undef, undef, undef, undef, undef, undef, undef, undef, undef, undef, undef, undef, undef], defers := [] } ∧ VB w1 wz g6 0 0 ∧ Kp w1 wz)
def LWS3 (w w1 : World) (nm : List UInt8) (ux uy tx ty dx dy nx ny : Int) (qa : Option Addr) (ql qc : Nat) (aa : Option Addr) (al ac : Nat) (ma : Option Addr) (ml mc : Nat) (ca : Option Addr) (cl cc : Nat) (qs : List Q) (clock epoch next serial : Int) (apps : List Appl) (ms : List Mac) (cs : List Con) (n : Nat) (lz : Array Bool) (az : Act) (wz : World) : Prop := (∃ g6 g7 : Nat, n = 8 ∧ lz = #[true, true, false, true, true, true, true, false, false, true, true, false, false, true, true, false, false, false] ∧ az = { tmps := #[sv ⟨qa, ql, qc, aa, al, ac, ma, ml, mc, ca, cl, cc⟩ ⟨qs, clock, epoch, next, serial, apps, ms, cs⟩, .string (bs nm), .pointer (some ⟨w.heap.size, 0, none⟩), undef, .pointer (some ⟨w.heap.size + 1, 0, none⟩), undef, .pointer (some ⟨g6, 0, none⟩), .pointer (some ⟨g7, 0, none⟩), undef, .pointer (some ⟨w.heap.size, 0, none⟩), .slice qa ql qc, .string (bs nm), .bool true, .bool false, undef, .agg #[.slice qa ql qc, .int .i64 clock, .int .i64 epoch, .int .i64 next, .int .i64 serial, .slice aa al ac, .slice ma ml mc, .slice ca cl cc], .string (bs nm), undef, .pointer (some ⟨w.heap.size, 0, none⟩), .slice qa ql qc, .string (bs nm), .agg #[.slice qa ql qc, .int .i64 clock, .int .i64 epoch, .int .i64 next, .int .i64 serial, .slice aa al ac, .slice ma ml mc, .slice ca cl cc], undef, undef, .agg #[.slice qa ql qc, .int .i64 clock, .int .i64 epoch, .int .i64 next, .int .i64 serial, .slice aa al ac, .slice ma ml mc, .slice ca cl cc], .string (bs nm), undef, undef, undef, undef, undef, undef, undef, undef, undef, undef, undef, undef, undef, undef, undef, undef, undef, undef, undef, undef, undef, undef, undef, undef, undef, undef, undef, undef, undef, undef, undef], defers := [] } ∧ VB w1 wz g6 0 0 ∧ VB w1 wz g7 0 0 ∧ g6 ≠ g7 ∧ Kp w1 wz)
def LWS4 (w w1 : World) (nm : List UInt8) (ux uy tx ty dx dy nx ny : Int) (qa : Option Addr) (ql qc : Nat) (aa : Option Addr) (al ac : Nat) (ma : Option Addr) (ml mc : Nat) (ca : Option Addr) (cl cc : Nat) (qs : List Q) (clock epoch next serial : Int) (apps : List Appl) (ms : List Mac) (cs : List Con) (n : Nat) (lz : Array Bool) (az : Act) (wz : World) : Prop := (∃ g5 : Nat, n = 9 ∧ lz = #[true, true, false, true, true, true, true, false, false, true, true, false, true, false, false, false, false, false] ∧ az = { tmps := #[sv ⟨qa, ql, qc, aa, al, ac, ma, ml, mc, ca, cl, cc⟩ ⟨qs, clock, epoch, next, serial, apps, ms, cs⟩, .string (bs nm), .pointer (some ⟨w.heap.size, 0, none⟩), undef, .pointer (some ⟨w.heap.size + 1, 0, none⟩), .pointer (some ⟨g5, 0, none⟩), undef, undef, undef, .pointer (some ⟨w.heap.size, 0, none⟩), .slice qa ql qc, .string (bs nm), .bool true, .bool false, undef, .agg #[.slice qa ql qc, .int .i64 clock, .int .i64 epoch, .int .i64 next, .int .i64 serial, .slice aa al ac, .slice ma ml mc, .slice ca cl cc], .string (bs nm), undef, .pointer (some ⟨w.heap.size, 0, none⟩), .slice qa ql qc, .string (bs nm), .agg #[.slice qa ql qc, .int .i64 clock, .int .i64 epoch, .int .i64 next, .int .i64 serial, .slice aa al ac, .slice ma ml mc, .slice ca cl cc], undef, undef, .agg #[.slice qa ql qc, .int .i64 clock, .int .i64 epoch, .int .i64 next, .int .i64 serial, .slice aa al ac, .slice ma ml mc, .slice ca cl cc], .string (bs nm), undef, undef, undef, undef, undef, undef, undef, undef, undef, undef, undef, undef, undef, undef, undef, undef, undef, undef, undef, undef, undef, undef, undef, undef, undef, undef, undef, undef, undef, undef, undef], defers := [] } ∧ VB w1 wz g5 0 0 ∧ Kp w1 wz)
def LWS5 (w w1 : World) (nm : List UInt8) (ux uy tx ty dx dy nx ny : Int) (qa : Option Addr) (ql qc : Nat) (aa : Option Addr) (al ac : Nat) (ma : Option Addr) (ml mc : Nat) (ca : Option Addr) (cl cc : Nat) (qs : List Q) (clock epoch next serial : Int) (apps : List Appl) (ms : List Mac) (cs : List Con) (n : Nat) (lz : Array Bool) (az : Act) (wz : World) : Prop := (∃ g5 g7 : Nat, n = 8 ∧ lz = #[true, true, false, true, true, true, true, false, false, true, true, false, true, false, true, false, false, false] ∧ az = { tmps := #[sv ⟨qa, ql, qc, aa, al, ac, ma, ml, mc, ca, cl, cc⟩ ⟨qs, clock, epoch, next, serial, apps, ms, cs⟩, .string (bs nm), .pointer (some ⟨w.heap.size, 0, none⟩), undef, .pointer (some ⟨w.heap.size + 1, 0, none⟩), .pointer (some ⟨g5, 0, none⟩), undef, .pointer (some ⟨g7, 0, none⟩), undef, .pointer (some ⟨w.heap.size, 0, none⟩), .slice qa ql qc, .string (bs nm), .bool true, .bool false, undef, .agg #[.slice qa ql qc, .int .i64 clock, .int .i64 epoch, .int .i64 next, .int .i64 serial, .slice aa al ac, .slice ma ml mc, .slice ca cl cc], .string (bs nm), undef, .pointer (some ⟨w.heap.size, 0, none⟩), .slice qa ql qc, .string (bs nm), .agg #[.slice qa ql qc, .int .i64 clock, .int .i64 epoch, .int .i64 next, .int .i64 serial, .slice aa al ac, .slice ma ml mc, .slice ca cl cc], undef, undef, .agg #[.slice qa ql qc, .int .i64 clock, .int .i64 epoch, .int .i64 next, .int .i64 serial, .slice aa al ac, .slice ma ml mc, .slice ca cl cc], .string (bs nm), undef, undef, undef, undef, undef, undef, undef, undef, undef, undef, undef, undef, undef, undef, undef, undef, undef, undef, undef, undef, undef, undef, undef, undef, undef, undef, undef, undef, undef, undef, undef], defers := [] } ∧ VB w1 wz g5 0 0 ∧ VB w1 wz g7 0 0 ∧ g5 ≠ g7 ∧ Kp w1 wz)
def LWS6 (w w1 : World) (nm : List UInt8) (ux uy tx ty dx dy nx ny : Int) (qa : Option Addr) (ql qc : Nat) (aa : Option Addr) (al ac : Nat) (ma : Option Addr) (ml mc : Nat) (ca : Option Addr) (cl cc : Nat) (qs : List Q) (clock epoch next serial : Int) (apps : List Appl) (ms : List Mac) (cs : List Con) (n : Nat) (lz : Array Bool) (az : Act) (wz : World) : Prop := (∃ g5 g6 : Nat, n = 8 ∧ lz = #[true, true, false, true, true, true, true, false, false, true, true, false, true, true, false, false, false, false] ∧ az = { tmps := #[sv ⟨qa, ql, qc, aa, al, ac, ma, ml, mc, ca, cl, cc⟩ ⟨qs, clock, epoch, next, serial, apps, ms, cs⟩, .string (bs nm), .pointer (some ⟨w.heap.size, 0, none⟩), undef, .pointer (some ⟨w.heap.size + 1, 0, none⟩), .pointer (some ⟨g5, 0, none⟩), .pointer (some ⟨g6, 0, none⟩), undef, undef, .pointer (some ⟨w.heap.size, 0, none⟩), .slice qa ql qc, .string (bs nm), .bool true, .bool false, undef, .agg #[.slice qa ql qc, .int .i64 clock, .int .i64 epoch, .int .i64 next, .int .i64 serial, .slice aa al ac, .slice ma ml mc, .slice ca cl cc], .string (bs nm), undef, .pointer (some ⟨w.heap.size, 0, none⟩), .slice qa ql qc, .string (bs nm), .agg #[.slice qa ql qc, .int .i64 clock, .int .i64 epoch, .int .i64 next, .int .i64 serial, .slice aa al ac, .slice ma ml mc, .slice ca cl cc], undef, undef, .agg #[.slice qa ql qc, .int .i64 clock, .int .i64 epoch, .int .i64 next, .int .i64 serial, .slice aa al ac, .slice ma ml mc, .slice ca cl cc], .string (bs nm), undef, undef, undef, undef, undef, undef, undef, undef, undef, undef, undef, undef, undef, undef, undef, undef, undef, undef, undef, undef, undef, undef, undef, undef, undef, undef, undef, undef, undef, undef, undef], defers := [] } ∧ VB w1 wz g5 0 0 ∧ VB w1 wz g6 0 0 ∧ g5 ≠ g6 ∧ Kp w1 wz)
def LWS7 (w w1 : World) (nm : List UInt8) (ux uy tx ty dx dy nx ny : Int) (qa : Option Addr) (ql qc : Nat) (aa : Option Addr) (al ac : Nat) (ma : Option Addr) (ml mc : Nat) (ca : Option Addr) (cl cc : Nat) (qs : List Q) (clock epoch next serial : Int) (apps : List Appl) (ms : List Mac) (cs : List Con) (n : Nat) (lz : Array Bool) (az : Act) (wz : World) : Prop := (∃ g5 g6 g7 : Nat, n = 7 ∧ lz = #[true, true, false, true, true, true, true, false, false, true, true, false, true, true, true, false, false, false] ∧ az = { tmps := #[sv ⟨qa, ql, qc, aa, al, ac, ma, ml, mc, ca, cl, cc⟩ ⟨qs, clock, epoch, next, serial, apps, ms, cs⟩, .string (bs nm), .pointer (some ⟨w.heap.size, 0, none⟩), undef, .pointer (some ⟨w.heap.size + 1, 0, none⟩), .pointer (some ⟨g5, 0, none⟩), .pointer (some ⟨g6, 0, none⟩), .pointer (some ⟨g7, 0, none⟩), undef, .pointer (some ⟨w.heap.size, 0, none⟩), .slice qa ql qc, .string (bs nm), .bool true, .bool false, undef, .agg #[.slice qa ql qc, .int .i64 clock, .int .i64 epoch, .int .i64 next, .int .i64 serial, .slice aa al ac, .slice ma ml mc, .slice ca cl cc], .string (bs nm), undef, .pointer (some ⟨w.heap.size, 0, none⟩), .slice qa ql qc, .string (bs nm), .agg #[.slice qa ql qc, .int .i64 clock, .int .i64 epoch, .int .i64 next, .int .i64 serial, .slice aa al ac, .slice ma ml mc, .slice ca cl cc], undef, undef, .agg #[.slice qa ql qc, .int .i64 clock, .int .i64 epoch, .int .i64 next, .int .i64 serial, .slice aa al ac, .slice ma ml mc, .slice ca cl cc], .string (bs nm), undef, undef, undef, undef, undef, undef, undef, undef, undef, undef, undef, undef, undef, undef, undef, undef, undef, undef, undef, undef, undef, undef, undef, undef, undef, undef, undef, undef, undef, undef, undef], defers := [] } ∧ VB w1 wz g5 0 0 ∧ VB w1 wz g6 0 0 ∧ VB w1 wz g7 0 0 ∧ g5 ≠ g6 ∧ g5 ≠ g7 ∧ g6 ≠ g7 ∧ Kp w1 wz)
def LWS8 (w w1 : World) (nm : List UInt8) (ux uy tx ty dx dy nx ny : Int) (qa : Option Addr) (ql qc : Nat) (aa : Option Addr) (al ac : Nat) (ma : Option Addr) (ml mc : Nat) (ca : Option Addr) (cl cc : Nat) (qs : List Q) (clock epoch next serial : Int) (apps : List Appl) (ms : List Mac) (cs : List Con) (n : Nat) (lz : Array Bool) (az : Act) (wz : World) : Prop := (n = 9 ∧ lz = #[true, true, true, true, true, true, true, false, false, true, true, false, false, false, false, false, false, false] ∧ az = { tmps := #[sv ⟨qa, ql, qc, aa, al, ac, ma, ml, mc, ca, cl, cc⟩ ⟨qs, clock, epoch, next, serial, apps, ms, cs⟩, .string (bs nm), .pointer (some ⟨w.heap.size, 0, none⟩), undef, .pointer (some ⟨w.heap.size + 1, 0, none⟩), undef, undef, undef, undef, .pointer (some ⟨w.heap.size, 0, none⟩), .slice qa ql qc, .string (bs nm), .bool true, .bool false, undef, .agg #[.slice qa ql qc, .int .i64 clock, .int .i64 epoch, .int .i64 next, .int .i64 serial, .slice aa al ac, .slice ma ml mc, .slice ca cl cc], .string (bs nm), rv ux uy, .pointer (some ⟨w.heap.size, 0, none⟩), .slice qa ql qc, .string (bs nm), .agg #[.slice qa ql qc, .int .i64 clock, .int .i64 epoch, .int .i64 next, .int .i64 serial, .slice aa al ac, .slice ma ml mc, .slice ca cl cc], undef, undef, .agg #[.slice qa ql qc, .int .i64 clock, .int .i64 epoch, .int .i64 next, .int .i64 serial, .slice aa al ac, .slice ma ml mc, .slice ca cl cc], .string (bs nm), undef, undef, undef, undef, undef, undef, undef, undef, undef, undef, undef, undef, undef, undef, undef, undef, undef, undef, undef, undef, undef, undef, undef, undef, undef, undef, undef, undef, undef, undef, undef], defers := [] } ∧ Kp w1 wz)
def LWS9 (w w1 : World) (nm : List UInt8) (ux uy tx ty dx dy nx ny : Int) (qa : Option Addr) (ql qc : Nat) (aa : Option Addr) (al ac : Nat) (ma : Option Addr) (ml mc : Nat) (ca : Option Addr) (cl cc : Nat) (qs : List Q) (clock epoch next serial : Int) (apps : List Appl) (ms : List Mac) (cs : List Con) (n : Nat) (lz : Array Bool) (az : Act) (wz : World) : Prop := (∃ g7 : Nat, n = 8 ∧ lz = #[true, true, true, true, true, true, true, false, false, true, true, false, false, false, true, false, false, false] ∧ az = { tmps := #[sv ⟨qa, ql, qc, aa, al, ac, ma, ml, mc, ca, cl, cc⟩ ⟨qs, clock, epoch, next, serial, apps, ms, cs⟩, .string (bs nm), .pointer (some ⟨w.heap.size, 0, none⟩), undef, .pointer (some ⟨w.heap.size + 1, 0, none⟩), undef, undef, .pointer (some ⟨g7, 0, none⟩), undef, .pointer (some ⟨w.heap.size, 0, none⟩), .slice qa ql qc, .string (bs nm), .bool true, .bool false, undef, .agg #[.slice qa ql qc, .int .i64 clock, .int .i64 epoch, .int .i64 next, .int .i64 serial, .slice aa al ac, .slice ma ml mc, .slice ca cl cc], .string (bs nm), rv ux uy, .pointer (some ⟨w.heap.size, 0, none⟩), .slice qa ql qc, .string (bs nm), .agg #[.slice qa ql qc, .int .i64 clock, .int .i64 epoch, .int .i64 next, .int .i64 serial, .slice aa al ac, .slice ma ml mc, .slice ca cl cc], undef, undef, .agg #[.slice qa ql qc, .int .i64 clock, .int .i64 epoch, .int .i64 next, .int .i64 serial, .slice aa al ac, .slice ma ml mc, .slice ca cl cc], .string (bs nm), undef, undef, undef, undef, undef, undef, undef, undef, undef, undef, undef, undef, undef, undef, undef, undef, undef, undef, undef, undef, undef, undef, undef, undef, undef, undef, undef, undef, undef, undef, undef], defers := [] } ∧ VB w1 wz g7 0 0 ∧ Kp w1 wz)
def LWS10 (w w1 : World) (nm : List UInt8) (ux uy tx ty dx dy nx ny : Int) (qa : Option Addr) (ql qc : Nat) (aa : Option Addr) (al ac : Nat) (ma : Option Addr) (ml mc : Nat) (ca : Option Addr) (cl cc : Nat) (qs : List Q) (clock epoch next serial : Int) (apps : List Appl) (ms : List Mac) (cs : List Con) (n : Nat) (lz : Array Bool) (az : Act) (wz : World) : Prop := (∃ g6 : Nat, n = 8 ∧ lz = #[true, true, true, true, true, true, true, false, false, true, true, false, false, true, false, false, false, false] ∧ az = { tmps := #[sv ⟨qa, ql, qc, aa, al, ac, ma, ml, mc, ca, cl, cc⟩ ⟨qs, clock, epoch, next, serial, apps, ms, cs⟩, .string (bs nm), .pointer (some ⟨w.heap.size, 0, none⟩), undef, .pointer (some ⟨w.heap.size + 1, 0, none⟩), undef, .pointer (some ⟨g6, 0, none⟩), undef, undef, .pointer (some ⟨w.heap.size, 0, none⟩), .slice qa ql qc, .string (bs nm), .bool true, .bool false, undef, .agg #[.slice qa ql qc, .int .i64 clock, .int .i64 epoch, .int .i64 next, .int .i64 serial, .slice aa al ac, .slice ma ml mc, .slice ca cl cc], .string (bs nm), rv ux uy, .pointer (some ⟨w.heap.size, 0, none⟩), .slice qa ql qc, .string (bs nm), .agg #[.slice qa ql qc, .int .i64 clock, .int .i64 epoch, .int .i64 next, .int .i64 serial, .slice aa al ac, .slice ma ml mc, .slice ca cl cc], undef, undef, .agg #[.slice qa ql qc, .int .i64 clock, .int .i64 epoch, .int .i64 next, .int .i64 serial, .slice aa al ac, .slice ma ml mc, .slice ca cl cc], .string (bs nm), undef, undef, undef, undef, undef, undef, undef, undef, undef, undef, undef, undef, undef, undef, undef, undef, undef, undef, undef, undef, undef, undef, undef, undef, undef, undef, undef, undef, undef, undef, undef], defers := [] } ∧ VB w1 wz g6 0 0 ∧ Kp w1 wz)
def LWS11 (w w1 : World) (nm : List UInt8) (ux uy tx ty dx dy nx ny : Int) (qa : Option Addr) (ql qc : Nat) (aa : Option Addr) (al ac : Nat) (ma : Option Addr) (ml mc : Nat) (ca : Option Addr) (cl cc : Nat) (qs : List Q) (clock epoch next serial : Int) (apps : List Appl) (ms : List Mac) (cs : List Con) (n : Nat) (lz : Array Bool) (az : Act) (wz : World) : Prop := (∃ g6 g7 : Nat, n = 7 ∧ lz = #[true, true, true, true, true, true, true, false, false, true, true, false, false, true, true, false, false, false] ∧ az = { tmps := #[sv ⟨qa, ql, qc, aa, al, ac, ma, ml, mc, ca, cl, cc⟩ ⟨qs, clock, epoch, next, serial, apps, ms, cs⟩, .string (bs nm), .pointer (some ⟨w.heap.size, 0, none⟩), undef, .pointer (some ⟨w.heap.size + 1, 0, none⟩), undef, .pointer (some ⟨g6, 0, none⟩), .pointer (some ⟨g7, 0, none⟩), undef, .pointer (some ⟨w.heap.size, 0, none⟩), .slice qa ql qc, .string (bs nm), .bool true, .bool false, undef, .agg #[.slice qa ql qc, .int .i64 clock, .int .i64 epoch, .int .i64 next, .int .i64 serial, .slice aa al ac, .slice ma ml mc, .slice ca cl cc], .string (bs nm), rv ux uy, .pointer (some ⟨w.heap.size, 0, none⟩), .slice qa ql qc, .string (bs nm), .agg #[.slice qa ql qc, .int .i64 clock, .int .i64 epoch, .int .i64 next, .int .i64 serial, .slice aa al ac, .slice ma ml mc, .slice ca cl cc], undef, undef, .agg #[.slice qa ql qc, .int .i64 clock, .int .i64 epoch, .int .i64 next, .int .i64 serial, .slice aa al ac, .slice ma ml mc, .slice ca cl cc], .string (bs nm), undef, undef, undef, undef, undef, undef, undef, undef, undef, undef, undef, undef, undef, undef, undef, undef, undef, undef, undef, undef, undef, undef, undef, undef, undef, undef, undef, undef, undef, undef, undef], defers := [] } ∧ VB w1 wz g6 0 0 ∧ VB w1 wz g7 0 0 ∧ g6 ≠ g7 ∧ Kp w1 wz)
def LWS12 (w w1 : World) (nm : List UInt8) (ux uy tx ty dx dy nx ny : Int) (qa : Option Addr) (ql qc : Nat) (aa : Option Addr) (al ac : Nat) (ma : Option Addr) (ml mc : Nat) (ca : Option Addr) (cl cc : Nat) (qs : List Q) (clock epoch next serial : Int) (apps : List Appl) (ms : List Mac) (cs : List Con) (n : Nat) (lz : Array Bool) (az : Act) (wz : World) : Prop := (∃ g5 : Nat, n = 8 ∧ lz = #[true, true, true, true, true, true, true, false, false, true, true, false, true, false, false, false, false, false] ∧ az = { tmps := #[sv ⟨qa, ql, qc, aa, al, ac, ma, ml, mc, ca, cl, cc⟩ ⟨qs, clock, epoch, next, serial, apps, ms, cs⟩, .string (bs nm), .pointer (some ⟨w.heap.size, 0, none⟩), undef, .pointer (some ⟨w.heap.size + 1, 0, none⟩), .pointer (some ⟨g5, 0, none⟩), undef, undef, undef, .pointer (some ⟨w.heap.size, 0, none⟩), .slice qa ql qc, .string (bs nm), .bool true, .bool false, undef, .agg #[.slice qa ql qc, .int .i64 clock, .int .i64 epoch, .int .i64 next, .int .i64 serial, .slice aa al ac, .slice ma ml mc, .slice ca cl cc], .string (bs nm), rv ux uy, .pointer (some ⟨w.heap.size, 0, none⟩), .slice qa ql qc, .string (bs nm), .agg #[.slice qa ql qc, .int .i64 clock, .int .i64 epoch, .int .i64 next, .int .i64 serial, .slice aa al ac, .slice ma ml mc, .slice ca cl cc], undef, undef, .agg #[.slice qa ql qc, .int .i64 clock, .int .i64 epoch, .int .i64 next, .int .i64 serial, .slice aa al ac, .slice ma ml mc, .slice ca cl cc], .string (bs nm), undef, undef, undef, undef, undef, undef, undef, undef, undef, undef, undef, undef, undef, undef, undef, undef, undef, undef, undef, undef, undef, undef, undef, undef, undef, undef, undef, undef, undef, undef, undef], defers := [] } ∧ VB w1 wz g5 0 0 ∧ Kp w1 wz)
def LWS13 (w w1 : World) (nm : List UInt8) (ux uy tx ty dx dy nx ny : Int) (qa : Option Addr) (ql qc : Nat) (aa : Option Addr) (al ac : Nat) (ma : Option Addr) (ml mc : Nat) (ca : Option Addr) (cl cc : Nat) (qs : List Q) (clock epoch next serial : Int) (apps : List Appl) (ms : List Mac) (cs : List Con) (n : Nat) (lz : Array Bool) (az : Act) (wz : World) : Prop := (∃ g5 g7 : Nat, n = 7 ∧ lz = #[true, true, true, true, true, true, true, false, false, true, true, false, true, false, true, false, false, false] ∧ az = { tmps := #[sv ⟨qa, ql, qc, aa, al, ac, ma, ml, mc, ca, cl, cc⟩ ⟨qs, clock, epoch, next, serial, apps, ms, cs⟩, .string (bs nm), .pointer (some ⟨w.heap.size, 0, none⟩), undef, .pointer (some ⟨w.heap.size + 1, 0, none⟩), .pointer (some ⟨g5, 0, none⟩), undef, .pointer (some ⟨g7, 0, none⟩), undef, .pointer (some ⟨w.heap.size, 0, none⟩), .slice qa ql qc, .string (bs nm), .bool true, .bool false, undef, .agg #[.slice qa ql qc, .int .i64 clock, .int .i64 epoch, .int .i64 next, .int .i64 serial, .slice aa al ac, .slice ma ml mc, .slice ca cl cc], .string (bs nm), rv ux uy, .pointer (some ⟨w.heap.size, 0, none⟩), .slice qa ql qc, .string (bs nm), .agg #[.slice qa ql qc, .int .i64 clock, .int .i64 epoch, .int .i64 next, .int .i64 serial, .slice aa al ac, .slice ma ml mc, .slice ca cl cc], undef, undef, .agg #[.slice qa ql qc, .int .i64 clock, .int .i64 epoch, .int .i64 next, .int .i64 serial, .slice aa al ac, .slice ma ml mc, .slice ca cl cc], .string (bs nm), undef, undef, undef, undef, undef, undef, undef, undef, undef, undef, undef, undef, undef, undef, undef, undef, undef, undef, undef, undef, undef, undef, undef, undef, undef, undef, undef, undef, undef, undef, undef], defers := [] } ∧ VB w1 wz g5 0 0 ∧ VB w1 wz g7 0 0 ∧ g5 ≠ g7 ∧ Kp w1 wz)
def LWS14 (w w1 : World) (nm : List UInt8) (ux uy tx ty dx dy nx ny : Int) (qa : Option Addr) (ql qc : Nat) (aa : Option Addr) (al ac : Nat) (ma : Option Addr) (ml mc : Nat) (ca : Option Addr) (cl cc : Nat) (qs : List Q) (clock epoch next serial : Int) (apps : List Appl) (ms : List Mac) (cs : List Con) (n : Nat) (lz : Array Bool) (az : Act) (wz : World) : Prop := (∃ g5 g6 : Nat, n = 7 ∧ lz = #[true, true, true, true, true, true, true, false, false, true, true, false, true, true, false, false, false, false] ∧ az = { tmps := #[sv ⟨qa, ql, qc, aa, al, ac, ma, ml, mc, ca, cl, cc⟩ ⟨qs, clock, epoch, next, serial, apps, ms, cs⟩, .string (bs nm), .pointer (some ⟨w.heap.size, 0, none⟩), undef, .pointer (some ⟨w.heap.size + 1, 0, none⟩), .pointer (some ⟨g5, 0, none⟩), .pointer (some ⟨g6, 0, none⟩), undef, undef, .pointer (some ⟨w.heap.size, 0, none⟩), .slice qa ql qc, .string (bs nm), .bool true, .bool false, undef, .agg #[.slice qa ql qc, .int .i64 clock, .int .i64 epoch, .int .i64 next, .int .i64 serial, .slice aa al ac, .slice ma ml mc, .slice ca cl cc], .string (bs nm), rv ux uy, .pointer (some ⟨w.heap.size, 0, none⟩), .slice qa ql qc, .string (bs nm), .agg #[.slice qa ql qc, .int .i64 clock, .int .i64 epoch, .int .i64 next, .int .i64 serial, .slice aa al ac, .slice ma ml mc, .slice ca cl cc], undef, undef, .agg #[.slice qa ql qc, .int .i64 clock, .int .i64 epoch, .int .i64 next, .int .i64 serial, .slice aa al ac, .slice ma ml mc, .slice ca cl cc], .string (bs nm), undef, undef, undef, undef, undef, undef, undef, undef, undef, undef, undef, undef, undef, undef, undef, undef, undef, undef, undef, undef, undef, undef, undef, undef, undef, undef, undef, undef, undef, undef, undef], defers := [] } ∧ VB w1 wz g5 0 0 ∧ VB w1 wz g6 0 0 ∧ g5 ≠ g6 ∧ Kp w1 wz)
def LWS15 (w w1 : World) (nm : List UInt8) (ux uy tx ty dx dy nx ny : Int) (qa : Option Addr) (ql qc : Nat) (aa : Option Addr) (al ac : Nat) (ma : Option Addr) (ml mc : Nat) (ca : Option Addr) (cl cc : Nat) (qs : List Q) (clock epoch next serial : Int) (apps : List Appl) (ms : List Mac) (cs : List Con) (n : Nat) (lz : Array Bool) (az : Act) (wz : World) : Prop := (∃ g5 g6 g7 : Nat, n = 6 ∧ lz = #[true, true, true, true, true, true, true, false, false, true, true, false, true, true, true, false, false, false] ∧ az = { tmps := #[sv ⟨qa, ql, qc, aa, al, ac, ma, ml, mc, ca, cl, cc⟩ ⟨qs, clock, epoch, next, serial, apps, ms, cs⟩, .string (bs nm), .pointer (some ⟨w.heap.size, 0, none⟩), undef, .pointer (some ⟨w.heap.size + 1, 0, none⟩), .pointer (some ⟨g5, 0, none⟩), .pointer (some ⟨g6, 0, none⟩), .pointer (some ⟨g7, 0, none⟩), undef, .pointer (some ⟨w.heap.size, 0, none⟩), .slice qa ql qc, .string (bs nm), .bool true, .bool false, undef, .agg #[.slice qa ql qc, .int .i64 clock, .int .i64 epoch, .int .i64 next, .int .i64 serial, .slice aa al ac, .slice ma ml mc, .slice ca cl cc], .string (bs nm), rv ux uy, .pointer (some ⟨w.heap.size, 0, none⟩), .slice qa ql qc, .string (bs nm), .agg #[.slice qa ql qc, .int .i64 clock, .int .i64 epoch, .int .i64 next, .int .i64 serial, .slice aa al ac, .slice ma ml mc, .slice ca cl cc], undef, undef, .agg #[.slice qa ql qc, .int .i64 clock, .int .i64 epoch, .int .i64 next, .int .i64 serial, .slice aa al ac, .slice ma ml mc, .slice ca cl cc], .string (bs nm), undef, undef, undef, undef, undef, undef, undef, undef, undef, undef, undef, undef, undef, undef, undef, undef, undef, undef, undef, undef, undef, undef, undef, undef, undef, undef, undef, undef, undef, undef, undef], defers := [] } ∧ VB w1 wz g5 0 0 ∧ VB w1 wz g6 0 0 ∧ VB w1 wz g7 0 0 ∧ g5 ≠ g6 ∧ g5 ≠ g7 ∧ g6 ≠ g7 ∧ Kp w1 wz)
def LWS16 (w w1 : World) (nm : List UInt8) (ux uy tx ty dx dy nx ny : Int) (qa : Option Addr) (ql qc : Nat) (aa : Option Addr) (al ac : Nat) (ma : Option Addr) (ml mc : Nat) (ca : Option Addr) (cl cc : Nat) (qs : List Q) (clock epoch next serial : Int) (apps : List Appl) (ms : List Mac) (cs : List Con) (n : Nat) (lz : Array Bool) (az : Act) (wz : World) : Prop := (n = 8 ∧ lz = #[true, true, true, true, true, true, true, true, false, true, true, false, false, false, false, false, false, false] ∧ az = { tmps := #[sv ⟨qa, ql, qc, aa, al, ac, ma, ml, mc, ca, cl, cc⟩ ⟨qs, clock, epoch, next, serial, apps, ms, cs⟩, .string (bs nm), .pointer (some ⟨w.heap.size, 0, none⟩), undef, .pointer (some ⟨w.heap.size + 1, 0, none⟩), undef, undef, undef, undef, .pointer (some ⟨w.heap.size, 0, none⟩), .slice qa ql qc, .string (bs nm), .bool true, .bool false, undef, .agg #[.slice qa ql qc, .int .i64 clock, .int .i64 epoch, .int .i64 next, .int .i64 serial, .slice aa al ac, .slice ma ml mc, .slice ca cl cc], .string (bs nm), rv ux uy, .pointer (some ⟨w.heap.size, 0, none⟩), .slice qa ql qc, .string (bs nm), .agg #[.slice qa ql qc, .int .i64 clock, .int .i64 epoch, .int .i64 next, .int .i64 serial, .slice aa al ac, .slice ma ml mc, .slice ca cl cc], rv tx ty, undef, .agg #[.slice qa ql qc, .int .i64 clock, .int .i64 epoch, .int .i64 next, .int .i64 serial, .slice aa al ac, .slice ma ml mc, .slice ca cl cc], .string (bs nm), undef, undef, undef, undef, undef, undef, undef, undef, undef, undef, undef, undef, undef, undef, undef, undef, undef, undef, undef, undef, undef, undef, undef, undef, undef, undef, undef, undef, undef, undef, undef], defers := [] } ∧ Kp w1 wz)
def LWS17 (w w1 : World) (nm : List UInt8) (ux uy tx ty dx dy nx ny : Int) (qa : Option Addr) (ql qc : Nat) (aa : Option Addr) (al ac : Nat) (ma : Option Addr) (ml mc : Nat) (ca : Option Addr) (cl cc : Nat) (qs : List Q) (clock epoch next serial : Int) (apps : List Appl) (ms : List Mac) (cs : List Con) (n : Nat) (lz : Array Bool) (az : Act) (wz : World) : Prop := (∃ g7 : Nat, n = 7 ∧ lz = #[true, true, true, true, true, true, true, true, false, true, true, false, false, false, true, false, false, false] ∧ az = { tmps := #[sv ⟨qa, ql, qc, aa, al, ac, ma, ml, mc, ca, cl, cc⟩ ⟨qs, clock, epoch, next, serial, apps, ms, cs⟩, .string (bs nm), .pointer (some ⟨w.heap.size, 0, none⟩), undef, .pointer (some ⟨w.heap.size + 1, 0, none⟩), undef, undef, .pointer (some ⟨g7, 0, none⟩), undef, .pointer (some ⟨w.heap.size, 0, none⟩), .slice qa ql qc, .string (bs nm), .bool true, .bool false, undef, .agg #[.slice qa ql qc, .int .i64 clock, .int .i64 epoch, .int .i64 next, .int .i64 serial, .slice aa al ac, .slice ma ml mc, .slice ca cl cc], .string (bs nm), rv ux uy, .pointer (some ⟨w.heap.size, 0, none⟩), .slice qa ql qc, .string (bs nm), .agg #[.slice qa ql qc, .int .i64 clock, .int .i64 epoch, .int .i64 next, .int .i64 serial, .slice aa al ac, .slice ma ml mc, .slice ca cl cc], rv tx ty, undef, .agg #[.slice qa ql qc, .int .i64 clock, .int .i64 epoch, .int .i64 next, .int .i64 serial, .slice aa al ac, .slice ma ml mc, .slice ca cl cc], .string (bs nm), undef, undef, undef, undef, undef, undef, undef, undef, undef, undef, undef, undef, undef, undef, undef, undef, undef, undef, undef, undef, undef, undef, undef, undef, undef, undef, undef, undef, undef, undef, undef], defers := [] } ∧ VB w1 wz g7 0 0 ∧ Kp w1 wz)
def LWS18 (w w1 : World) (nm : List UInt8) (ux uy tx ty dx dy nx ny : Int) (qa : Option Addr) (ql qc : Nat) (aa : Option Addr) (al ac : Nat) (ma : Option Addr) (ml mc : Nat) (ca : Option Addr) (cl cc : Nat) (qs : List Q) (clock epoch next serial : Int) (apps : List Appl) (ms : List Mac) (cs : List Con) (n : Nat) (lz : Array Bool) (az : Act) (wz : World) : Prop := (∃ g6 : Nat, n = 7 ∧ lz = #[true, true, true, true, true, true, true, true, false, true, true, false, false, true, false, false, false, false] ∧ az = { tmps := #[sv ⟨qa, ql, qc, aa, al, ac, ma, ml, mc, ca, cl, cc⟩ ⟨qs, clock, epoch, next, serial, apps, ms, cs⟩, .string (bs nm), .pointer (some ⟨w.heap.size, 0, none⟩), undef, .pointer (some ⟨w.heap.size + 1, 0, none⟩), undef, .pointer (some ⟨g6, 0, none⟩), undef, undef, .pointer (some ⟨w.heap.size, 0, none⟩), .slice qa ql qc, .string (bs nm), .bool true, .bool false, undef, .agg #[.slice qa ql qc, .int .i64 clock, .int .i64 epoch, .int .i64 next, .int .i64 serial, .slice aa al ac, .slice ma ml mc, .slice ca cl cc], .string (bs nm), rv ux uy, .pointer (some ⟨w.heap.size, 0, none⟩), .slice qa ql qc, .string (bs nm), .agg #[.slice qa ql qc, .int .i64 clock, .int .i64 epoch, .int .i64 next, .int .i64 serial, .slice aa al ac, .slice ma ml mc, .slice ca cl cc], rv tx ty, undef, .agg #[.slice qa ql qc, .int .i64 clock, .int .i64 epoch, .int .i64 next, .int .i64 serial, .slice aa al ac, .slice ma ml mc, .slice ca cl cc], .string (bs nm), undef, undef, undef, undef, undef, undef, undef, undef, undef, undef, undef, undef, undef, undef, undef, undef, undef, undef, undef, undef, undef, undef, undef, undef, undef, undef, undef, undef, undef, undef, undef], defers := [] } ∧ VB w1 wz g6 0 0 ∧ Kp w1 wz)
def LWS19 (w w1 : World) (nm : List UInt8) (ux uy tx ty dx dy nx ny : Int) (qa : Option Addr) (ql qc : Nat) (aa : Option Addr) (al ac : Nat) (ma : Option Addr) (ml mc : Nat) (ca : Option Addr) (cl cc : Nat) (qs : List Q) (clock epoch next serial : Int) (apps : List Appl) (ms : List Mac) (cs : List Con) (n : Nat) (lz : Array Bool) (az : Act) (wz : World) : Prop := (∃ g6 g7 : Nat, n = 6 ∧ lz = #[true, true, true, true, true, true, true, true, false, true, true, false, false, true, true, false, false, false] ∧ az = { tmps := #[sv ⟨qa, ql, qc, aa, al, ac, ma, ml, mc, ca, cl, cc⟩ ⟨qs, clock, epoch, next, serial, apps, ms, cs⟩, .string (bs nm), .pointer (some ⟨w.heap.size, 0, none⟩), undef, .pointer (some ⟨w.heap.size + 1, 0, none⟩), undef, .pointer (some ⟨g6, 0, none⟩), .pointer (some ⟨g7, 0, none⟩), undef, .pointer (some ⟨w.heap.size, 0, none⟩), .slice qa ql qc, .string (bs nm), .bool true, .bool false, undef, .agg #[.slice qa ql qc, .int .i64 clock, .int .i64 epoch, .int .i64 next, .int .i64 serial, .slice aa al ac, .slice ma ml mc, .slice ca cl cc], .string (bs nm), rv ux uy, .pointer (some ⟨w.heap.size, 0, none⟩), .slice qa ql qc, .string (bs nm), .agg #[.slice qa ql qc, .int .i64 clock, .int .i64 epoch, .int .i64 next, .int .i64 serial, .slice aa al ac, .slice ma ml mc, .slice ca cl cc], rv tx ty, undef, .agg #[.slice qa ql qc, .int .i64 clock, .int .i64 epoch, .int .i64 next, .int .i64 serial, .slice aa al ac, .slice ma ml mc, .slice ca cl cc], .string (bs nm), undef, undef, undef, undef, undef, undef, undef, undef, undef, undef, undef, undef, undef, undef, undef, undef, undef, undef, undef, undef, undef, undef, undef, undef, undef, undef, undef, undef, undef, undef, undef], defers := [] } ∧ VB w1 wz g6 0 0 ∧ VB w1 wz g7 0 0 ∧ g6 ≠ g7 ∧ Kp w1 wz)
def LWS20 (w w1 : World) (nm : List UInt8) (ux uy tx ty dx dy nx ny : Int) (qa : Option Addr) (ql qc : Nat) (aa : Option Addr) (al ac : Nat) (ma : Option Addr) (ml mc : Nat) (ca : Option Addr) (cl cc : Nat) (qs : List Q) (clock epoch next serial : Int) (apps : List Appl) (ms : List Mac) (cs : List Con) (n : Nat) (lz : Array Bool) (az : Act) (wz : World) : Prop := (∃ g5 : Nat, n = 7 ∧ lz = #[true, true, true, true, true, true, true, true, false, true, true, false, true, false, false, false, false, false] ∧ az = { tmps := #[sv ⟨qa, ql, qc, aa, al, ac, ma, ml, mc, ca, cl, cc⟩ ⟨qs, clock, epoch, next, serial, apps, ms, cs⟩, .string (bs nm), .pointer (some ⟨w.heap.size, 0, none⟩), undef, .pointer (some ⟨w.heap.size + 1, 0, none⟩), .pointer (some ⟨g5, 0, none⟩), undef, undef, undef, .pointer (some ⟨w.heap.size, 0, none⟩), .slice qa ql qc, .string (bs nm), .bool true, .bool false, undef, .agg #[.slice qa ql qc, .int .i64 clock, .int .i64 epoch, .int .i64 next, .int .i64 serial, .slice aa al ac, .slice ma ml mc, .slice ca cl cc], .string (bs nm), rv ux uy, .pointer (some ⟨w.heap.size, 0, none⟩), .slice qa ql qc, .string (bs nm), .agg #[.slice qa ql qc, .int .i64 clock, .int .i64 epoch, .int .i64 next, .int .i64 serial, .slice aa al ac, .slice ma ml mc, .slice ca cl cc], rv tx ty, undef, .agg #[.slice qa ql qc, .int .i64 clock, .int .i64 epoch, .int .i64 next, .int .i64 serial, .slice aa al ac, .slice ma ml mc, .slice ca cl cc], .string (bs nm), undef, undef, undef, undef, undef, undef, undef, undef, undef, undef, undef, undef, undef, undef, undef, undef, undef, undef, undef, undef, undef, undef, undef, undef, undef, undef, undef, undef, undef, undef, undef], defers := [] } ∧ VB w1 wz g5 0 0 ∧ Kp w1 wz)
def LWS21 (w w1 : World) (nm : List UInt8) (ux uy tx ty dx dy nx ny : Int) (qa : Option Addr) (ql qc : Nat) (aa : Option Addr) (al ac : Nat) (ma : Option Addr) (ml mc : Nat) (ca : Option Addr) (cl cc : Nat) (qs : List Q) (clock epoch next serial : Int) (apps : List Appl) (ms : List Mac) (cs : List Con) (n : Nat) (lz : Array Bool) (az : Act) (wz : World) : Prop := (∃ g5 g7 : Nat, n = 6 ∧ lz = #[true, true, true, true, true, true, true, true, false, true, true, false, true, false, true, false, false, false] ∧ az = { tmps := #[sv ⟨qa, ql, qc, aa, al, ac, ma, ml, mc, ca, cl, cc⟩ ⟨qs, clock, epoch, next, serial, apps, ms, cs⟩, .string (bs nm), .pointer (some ⟨w.heap.size, 0, none⟩), undef, .pointer (some ⟨w.heap.size + 1, 0, none⟩), .pointer (some ⟨g5, 0, none⟩), undef, .pointer (some ⟨g7, 0, none⟩), undef, .pointer (some ⟨w.heap.size, 0, none⟩), .slice qa ql qc, .string (bs nm), .bool true, .bool false, undef, .agg #[.slice qa ql qc, .int .i64 clock, .int .i64 epoch, .int .i64 next, .int .i64 serial, .slice aa al ac, .slice ma ml mc, .slice ca cl cc], .string (bs nm), rv ux uy, .pointer (some ⟨w.heap.size, 0, none⟩), .slice qa ql qc, .string (bs nm), .agg #[.slice qa ql qc, .int .i64 clock, .int .i64 epoch, .int .i64 next, .int .i64 serial, .slice aa al ac, .slice ma ml mc, .slice ca cl cc], rv tx ty, undef, .agg #[.slice qa ql qc, .int .i64 clock, .int .i64 epoch, .int .i64 next, .int .i64 serial, .slice aa al ac, .slice ma ml mc, .slice ca cl cc], .string (bs nm), undef, undef, undef, undef, undef, undef, undef, undef, undef, undef, undef, undef, undef, undef, undef, undef, undef, undef, undef, undef, undef, undef, undef, undef, undef, undef, undef, undef, undef, undef, undef], defers := [] } ∧ VB w1 wz g5 0 0 ∧ VB w1 wz g7 0 0 ∧ g5 ≠ g7 ∧ Kp w1 wz)
def LWS22 (w w1 : World) (nm : List UInt8) (ux uy tx ty dx dy nx ny : Int) (qa : Option Addr) (ql qc : Nat) (aa : Option Addr) (al ac : Nat) (ma : Option Addr) (ml mc : Nat) (ca : Option Addr) (cl cc : Nat) (qs : List Q) (clock epoch next serial : Int) (apps : List Appl) (ms : List Mac) (cs : List Con) (n : Nat) (lz : Array Bool) (az : Act) (wz : World) : Prop := (∃ g5 g6 : Nat, n = 6 ∧ lz = #[true, true, true, true, true, true, true, true, false, true, true, false, true, true, false, false, false, false] ∧ az = { tmps := #[sv ⟨qa, ql, qc, aa, al, ac, ma, ml, mc, ca, cl, cc⟩ ⟨qs, clock, epoch, next, serial, apps, ms, cs⟩, .string (bs nm), .pointer (some ⟨w.heap.size, 0, none⟩), undef, .pointer (some ⟨w.heap.size + 1, 0, none⟩), .pointer (some ⟨g5, 0, none⟩), .pointer (some ⟨g6, 0, none⟩), undef, undef, .pointer (some ⟨w.heap.size, 0, none⟩), .slice qa ql qc, .string (bs nm), .bool true, .bool false, undef, .agg #[.slice qa ql qc, .int .i64 clock, .int .i64 epoch, .int .i64 next, .int .i64 serial, .slice aa al ac, .slice ma ml mc, .slice ca cl cc], .string (bs nm), rv ux uy, .pointer (some ⟨w.heap.size, 0, none⟩), .slice qa ql qc, .string (bs nm), .agg #[.slice qa ql qc, .int .i64 clock, .int .i64 epoch, .int .i64 next, .int .i64 serial, .slice aa al ac, .slice ma ml mc, .slice ca cl cc], rv tx ty, undef, .agg #[.slice qa ql qc, .int .i64 clock, .int .i64 epoch, .int .i64 next, .int .i64 serial, .slice aa al ac, .slice ma ml mc, .slice ca cl cc], .string (bs nm), undef, undef, undef, undef, undef, undef, undef, undef, undef, undef, undef, undef, undef, undef, undef, undef, undef, undef, undef, undef, undef, undef, undef, undef, undef, undef, undef, undef, undef, undef, undef], defers := [] } ∧ VB w1 wz g5 0 0 ∧ VB w1 wz g6 0 0 ∧ g5 ≠ g6 ∧ Kp w1 wz)
def LWS23 (w w1 : World) (nm : List UInt8) (ux uy tx ty dx dy nx ny : Int) (qa : Option Addr) (ql qc : Nat) (aa : Option Addr) (al ac : Nat) (ma : Option Addr) (ml mc : Nat) (ca : Option Addr) (cl cc : Nat) (qs : List Q) (clock epoch next serial : Int) (apps : List Appl) (ms : List Mac) (cs : List Con) (n : Nat) (lz : Array Bool) (az : Act) (wz : World) : Prop := (∃ g5 g6 g7 : Nat, n = 5 ∧ lz = #[true, true, true, true, true, true, true, true, false, true, true, false, true, true, true, false, false, false] ∧ az = { tmps := #[sv ⟨qa, ql, qc, aa, al, ac, ma, ml, mc, ca, cl, cc⟩ ⟨qs, clock, epoch, next, serial, apps, ms, cs⟩, .string (bs nm), .pointer (some ⟨w.heap.size, 0, none⟩), undef, .pointer (some ⟨w.heap.size + 1, 0, none⟩), .pointer (some ⟨g5, 0, none⟩), .pointer (some ⟨g6, 0, none⟩), .pointer (some ⟨g7, 0, none⟩), undef, .pointer (some ⟨w.heap.size, 0, none⟩), .slice qa ql qc, .string (bs nm), .bool true, .bool false, undef, .agg #[.slice qa ql qc, .int .i64 clock, .int .i64 epoch, .int .i64 next, .int .i64 serial, .slice aa al ac, .slice ma ml mc, .slice ca cl cc], .string (bs nm), rv ux uy, .pointer (some ⟨w.heap.size, 0, none⟩), .slice qa ql qc, .string (bs nm), .agg #[.slice qa ql qc, .int .i64 clock, .int .i64 epoch, .int .i64 next, .int .i64 serial, .slice aa al ac, .slice ma ml mc, .slice ca cl cc], rv tx ty, undef, .agg #[.slice qa ql qc, .int .i64 clock, .int .i64 epoch, .int .i64 next, .int .i64 serial, .slice aa al ac, .slice ma ml mc, .slice ca cl cc], .string (bs nm), undef, undef, undef, undef, undef, undef, undef, undef, undef, undef, undef, undef, undef, undef, undef, undef, undef, undef, undef, undef, undef, undef, undef, undef, undef, undef, undef, undef, undef, undef, undef], defers := [] } ∧ VB w1 wz g5 0 0 ∧ VB w1 wz g6 0 0 ∧ VB w1 wz g7 0 0 ∧ g5 ≠ g6 ∧ g5 ≠ g7 ∧ g6 ≠ g7 ∧ Kp w1 wz)
def LWS24 (w w1 : World) (nm : List UInt8) (ux uy tx ty dx dy nx ny : Int) (qa : Option Addr) (ql qc : Nat) (aa : Option Addr) (al ac : Nat) (ma : Option Addr) (ml mc : Nat) (ca : Option Addr) (cl cc : Nat) (qs : List Q) (clock epoch next serial : Int) (apps : List Appl) (ms : List Mac) (cs : List Con) (n : Nat) (lz : Array Bool) (az : Act) (wz : World) : Prop := (n = 7 ∧ lz = #[true, true, true, true, true, true, true, true, true, true, true, false, false, false, false, false, false, false] ∧ az = { tmps := #[sv ⟨qa, ql, qc, aa, al, ac, ma, ml, mc, ca, cl, cc⟩ ⟨qs, clock, epoch, next, serial, apps, ms, cs⟩, .string (bs nm), .pointer (some ⟨w.heap.size, 0, none⟩), undef, .pointer (some ⟨w.heap.size + 1, 0, none⟩), undef, undef, undef, undef, .pointer (some ⟨w.heap.size, 0, none⟩), .slice qa ql qc, .string (bs nm), .bool true, .bool false, undef, .agg #[.slice qa ql qc, .int .i64 clock, .int .i64 epoch, .int .i64 next, .int .i64 serial, .slice aa al ac, .slice ma ml mc, .slice ca cl cc], .string (bs nm), rv ux uy, .pointer (some ⟨w.heap.size, 0, none⟩), .slice qa ql qc, .string (bs nm), .agg #[.slice qa ql qc, .int .i64 clock, .int .i64 epoch, .int .i64 next, .int .i64 serial, .slice aa al ac, .slice ma ml mc, .slice ca cl cc], rv tx ty, rv dx dy, .agg #[.slice qa ql qc, .int .i64 clock, .int .i64 epoch, .int .i64 next, .int .i64 serial, .slice aa al ac, .slice ma ml mc, .slice ca cl cc], .string (bs nm), undef, undef, undef, undef, undef, undef, undef, undef, undef, undef, undef, undef, undef, undef, undef, undef, undef, undef, undef, undef, undef, undef, undef, undef, undef, undef, undef, undef, undef, undef, undef], defers := [] } ∧ Kp w1 wz)
def LWS25 (w w1 : World) (nm : List UInt8) (ux uy tx ty dx dy nx ny : Int) (qa : Option Addr) (ql qc : Nat) (aa : Option Addr) (al ac : Nat) (ma : Option Addr) (ml mc : Nat) (ca : Option Addr) (cl cc : Nat) (qs : List Q) (clock epoch next serial : Int) (apps : List Appl) (ms : List Mac) (cs : List Con) (n : Nat) (lz : Array Bool) (az : Act) (wz : World) : Prop := (∃ g7 : Nat, n = 6 ∧ lz = #[true, true, true, true, true, true, true, true, true, true, true, false, false, false, true, false, false, false] ∧ az = { tmps := #[sv ⟨qa, ql, qc, aa, al, ac, ma, ml, mc, ca, cl, cc⟩ ⟨qs, clock, epoch, next, serial, apps, ms, cs⟩, .string (bs nm), .pointer (some ⟨w.heap.size, 0, none⟩), undef, .pointer (some ⟨w.heap.size + 1, 0, none⟩), undef, undef, .pointer (some ⟨g7, 0, none⟩), undef, .pointer (some ⟨w.heap.size, 0, none⟩), .slice qa ql qc, .string (bs nm), .bool true, .bool false, undef, .agg #[.slice qa ql qc, .int .i64 clock, .int .i64 epoch, .int .i64 next, .int .i64 serial, .slice aa al ac, .slice ma ml mc, .slice ca cl cc], .string (bs nm), rv ux uy, .pointer (some ⟨w.heap.size, 0, none⟩), .slice qa ql qc, .string (bs nm), .agg #[.slice qa ql qc, .int .i64 clock, .int .i64 epoch, .int .i64 next, .int .i64 serial, .slice aa al ac, .slice ma ml mc, .slice ca cl cc], rv tx ty, rv dx dy, .agg #[.slice qa ql qc, .int .i64 clock, .int .i64 epoch, .int .i64 next, .int .i64 serial, .slice aa al ac, .slice ma ml mc, .slice ca cl cc], .string (bs nm), undef, undef, undef, undef, undef, undef, undef, undef, undef, undef, undef, undef, undef, undef, undef, undef, undef, undef, undef, undef, undef, undef, undef, undef, undef, undef, undef, undef, undef, undef, undef], defers := [] } ∧ VB w1 wz g7 0 0 ∧ Kp w1 wz)
def LWS26 (w w1 : World) (nm : List UInt8) (ux uy tx ty dx dy nx ny : Int) (qa : Option Addr) (ql qc : Nat) (aa : Option Addr) (al ac : Nat) (ma : Option Addr) (ml mc : Nat) (ca : Option Addr) (cl cc : Nat) (qs : List Q) (clock epoch next serial : Int) (apps : List Appl) (ms : List Mac) (cs : List Con) (n : Nat) (lz : Array Bool) (az : Act) (wz : World) : Prop := (∃ g6 : Nat, n = 6 ∧ lz = #[true, true, true, true, true, true, true, true, true, true, true, false, false, true, false, false, false, false] ∧ az = { tmps := #[sv ⟨qa, ql, qc, aa, al, ac, ma, ml, mc, ca, cl, cc⟩ ⟨qs, clock, epoch, next, serial, apps, ms, cs⟩, .string (bs nm), .pointer (some ⟨w.heap.size, 0, none⟩), undef, .pointer (some ⟨w.heap.size + 1, 0, none⟩), undef, .pointer (some ⟨g6, 0, none⟩), undef, undef, .pointer (some ⟨w.heap.size, 0, none⟩), .slice qa ql qc, .string (bs nm), .bool true, .bool false, undef, .agg #[.slice qa ql qc, .int .i64 clock, .int .i64 epoch, .int .i64 next, .int .i64 serial, .slice aa al ac, .slice ma ml mc, .slice ca cl cc], .string (bs nm), rv ux uy, .pointer (some ⟨w.heap.size, 0, none⟩), .slice qa ql qc, .string (bs nm), .agg #[.slice qa ql qc, .int .i64 clock, .int .i64 epoch, .int .i64 next, .int .i64 serial, .slice aa al ac, .slice ma ml mc, .slice ca cl cc], rv tx ty, rv dx dy, .agg #[.slice qa ql qc, .int .i64 clock, .int .i64 epoch, .int .i64 next, .int .i64 serial, .slice aa al ac, .slice ma ml mc, .slice ca cl cc], .string (bs nm), undef, undef, undef, undef, undef, undef, undef, undef, undef, undef, undef, undef, undef, undef, undef, undef, undef, undef, undef, undef, undef, undef, undef, undef, undef, undef, undef, undef, undef, undef, undef], defers := [] } ∧ VB w1 wz g6 0 0 ∧ Kp w1 wz)
def LWS27 (w w1 : World) (nm : List UInt8) (ux uy tx ty dx dy nx ny : Int) (qa : Option Addr) (ql qc : Nat) (aa : Option Addr) (al ac : Nat) (ma : Option Addr) (ml mc : Nat) (ca : Option Addr) (cl cc : Nat) (qs : List Q) (clock epoch next serial : Int) (apps : List Appl) (ms : List Mac) (cs : List Con) (n : Nat) (lz : Array Bool) (az : Act) (wz : World) : Prop := (∃ g6 g7 : Nat, n = 5 ∧ lz = #[true, true, true, true, true, true, true, true, true, true, true, false, false, true, true, false, false, false] ∧ az = { tmps := #[sv ⟨qa, ql, qc, aa, al, ac, ma, ml, mc, ca, cl, cc⟩ ⟨qs, clock, epoch, next, serial, apps, ms, cs⟩, .string (bs nm), .pointer (some ⟨w.heap.size, 0, none⟩), undef, .pointer (some ⟨w.heap.size + 1, 0, none⟩), undef, .pointer (some ⟨g6, 0, none⟩), .pointer (some ⟨g7, 0, none⟩), undef, .pointer (some ⟨w.heap.size, 0, none⟩), .slice qa ql qc, .string (bs nm), .bool true, .bool false, undef, .agg #[.slice qa ql qc, .int .i64 clock, .int .i64 epoch, .int .i64 next, .int .i64 serial, .slice aa al ac, .slice ma ml mc, .slice ca cl cc], .string (bs nm), rv ux uy, .pointer (some ⟨w.heap.size, 0, none⟩), .slice qa ql qc, .string (bs nm), .agg #[.slice qa ql qc, .int .i64 clock, .int .i64 epoch, .int .i64 next, .int .i64 serial, .slice aa al ac, .slice ma ml mc, .slice ca cl cc], rv tx ty, rv dx dy, .agg #[.slice qa ql qc, .int .i64 clock, .int .i64 epoch, .int .i64 next, .int .i64 serial, .slice aa al ac, .slice ma ml mc, .slice ca cl cc], .string (bs nm), undef, undef, undef, undef, undef, undef, undef, undef, undef, undef, undef, undef, undef, undef, undef, undef, undef, undef, undef, undef, undef, undef, undef, undef, undef, undef, undef, undef, undef, undef, undef], defers := [] } ∧ VB w1 wz g6 0 0 ∧ VB w1 wz g7 0 0 ∧ g6 ≠ g7 ∧ Kp w1 wz)
def LWS28 (w w1 : World) (nm : List UInt8) (ux uy tx ty dx dy nx ny : Int) (qa : Option Addr) (ql qc : Nat) (aa : Option Addr) (al ac : Nat) (ma : Option Addr) (ml mc : Nat) (ca : Option Addr) (cl cc : Nat) (qs : List Q) (clock epoch next serial : Int) (apps : List Appl) (ms : List Mac) (cs : List Con) (n : Nat) (lz : Array Bool) (az : Act) (wz : World) : Prop := (∃ g5 : Nat, n = 6 ∧ lz = #[true, true, true, true, true, true, true, true, true, true, true, false, true, false, false, false, false, false] ∧ az = { tmps := #[sv ⟨qa, ql, qc, aa, al, ac, ma, ml, mc, ca, cl, cc⟩ ⟨qs, clock, epoch, next, serial, apps, ms, cs⟩, .string (bs nm), .pointer (some ⟨w.heap.size, 0, none⟩), undef, .pointer (some ⟨w.heap.size + 1, 0, none⟩), .pointer (some ⟨g5, 0, none⟩), undef, undef, undef, .pointer (some ⟨w.heap.size, 0, none⟩), .slice qa ql qc, .string (bs nm), .bool true, .bool false, undef, .agg #[.slice qa ql qc, .int .i64 clock, .int .i64 epoch, .int .i64 next, .int .i64 serial, .slice aa al ac, .slice ma ml mc, .slice ca cl cc], .string (bs nm), rv ux uy, .pointer (some ⟨w.heap.size, 0, none⟩), .slice qa ql qc, .string (bs nm), .agg #[.slice qa ql qc, .int .i64 clock, .int .i64 epoch, .int .i64 next, .int .i64 serial, .slice aa al ac, .slice ma ml mc, .slice ca cl cc], rv tx ty, rv dx dy, .agg #[.slice qa ql qc, .int .i64 clock, .int .i64 epoch, .int .i64 next, .int .i64 serial, .slice aa al ac, .slice ma ml mc, .slice ca cl cc], .string (bs nm), undef, undef, undef, undef, undef, undef, undef, undef, undef, undef, undef, undef, undef, undef, undef, undef, undef, undef, undef, undef, undef, undef, undef, undef, undef, undef, undef, undef, undef, undef, undef], defers := [] } ∧ VB w1 wz g5 0 0 ∧ Kp w1 wz)
def LWS29 (w w1 : World) (nm : List UInt8) (ux uy tx ty dx dy nx ny : Int) (qa : Option Addr) (ql qc : Nat) (aa : Option Addr) (al ac : Nat) (ma : Option Addr) (ml mc : Nat) (ca : Option Addr) (cl cc : Nat) (qs : List Q) (clock epoch next serial : Int) (apps : List Appl) (ms : List Mac) (cs : List Con) (n : Nat) (lz : Array Bool) (az : Act) (wz : World) : Prop := (∃ g5 g7 : Nat, n = 5 ∧ lz = #[true, true, true, true, true, true, true, true, true, true, true, false, true, false, true, false, false, false] ∧ az = { tmps := #[sv ⟨qa, ql, qc, aa, al, ac, ma, ml, mc, ca, cl, cc⟩ ⟨qs, clock, epoch, next, serial, apps, ms, cs⟩, .string (bs nm), .pointer (some ⟨w.heap.size, 0, none⟩), undef, .pointer (some ⟨w.heap.size + 1, 0, none⟩), .pointer (some ⟨g5, 0, none⟩), undef, .pointer (some ⟨g7, 0, none⟩), undef, .pointer (some ⟨w.heap.size, 0, none⟩), .slice qa ql qc, .string (bs nm), .bool true, .bool false, undef, .agg #[.slice qa ql qc, .int .i64 clock, .int .i64 epoch, .int .i64 next, .int .i64 serial, .slice aa al ac, .slice ma ml mc, .slice ca cl cc], .string (bs nm), rv ux uy, .pointer (some ⟨w.heap.size, 0, none⟩), .slice qa ql qc, .string (bs nm), .agg #[.slice qa ql qc, .int .i64 clock, .int .i64 epoch, .int .i64 next, .int .i64 serial, .slice aa al ac, .slice ma ml mc, .slice ca cl cc], rv tx ty, rv dx dy, .agg #[.slice qa ql qc, .int .i64 clock, .int .i64 epoch, .int .i64 next, .int .i64 serial, .slice aa al ac, .slice ma ml mc, .slice ca cl cc], .string (bs nm), undef, undef, undef, undef, undef, undef, undef, undef, undef, undef, undef, undef, undef, undef, undef, undef, undef, undef, undef, undef, undef, undef, undef, undef, undef, undef, undef, undef, undef, undef, undef], defers := [] } ∧ VB w1 wz g5 0 0 ∧ VB w1 wz g7 0 0 ∧ g5 ≠ g7 ∧ Kp w1 wz)
def LWS30 (w w1 : World) (nm : List UInt8) (ux uy tx ty dx dy nx ny : Int) (qa : Option Addr) (ql qc : Nat) (aa : Option Addr) (al ac : Nat) (ma : Option Addr) (ml mc : Nat) (ca : Option Addr) (cl cc : Nat) (qs : List Q) (clock epoch next serial : Int) (apps : List Appl) (ms : List Mac) (cs : List Con) (n : Nat) (lz : Array Bool) (az : Act) (wz : World) : Prop := (∃ g5 g6 : Nat, n = 5 ∧ lz = #[true, true, true, true, true, true, true, true, true, true, true, false, true, true, false, false, false, false] ∧ az = { tmps := #[sv ⟨qa, ql, qc, aa, al, ac, ma, ml, mc, ca, cl, cc⟩ ⟨qs, clock, epoch, next, serial, apps, ms, cs⟩, .string (bs nm), .pointer (some ⟨w.heap.size, 0, none⟩), undef, .pointer (some ⟨w.heap.size + 1, 0, none⟩), .pointer (some ⟨g5, 0, none⟩), .pointer (some ⟨g6, 0, none⟩), undef, undef, .pointer (some ⟨w.heap.size, 0, none⟩), .slice qa ql qc, .string (bs nm), .bool true, .bool false, undef, .agg #[.slice qa ql qc, .int .i64 clock, .int .i64 epoch, .int .i64 next, .int .i64 serial, .slice aa al ac, .slice ma ml mc, .slice ca cl cc], .string (bs nm), rv ux uy, .pointer (some ⟨w.heap.size, 0, none⟩), .slice qa ql qc, .string (bs nm), .agg #[.slice qa ql qc, .int .i64 clock, .int .i64 epoch, .int .i64 next, .int .i64 serial, .slice aa al ac, .slice ma ml mc, .slice ca cl cc], rv tx ty, rv dx dy, .agg #[.slice qa ql qc, .int .i64 clock, .int .i64 epoch, .int .i64 next, .int .i64 serial, .slice aa al ac, .slice ma ml mc, .slice ca cl cc], .string (bs nm), undef, undef, undef, undef, undef, undef, undef, undef, undef, undef, undef, undef, undef, undef, undef, undef, undef, undef, undef, undef, undef, undef, undef, undef, undef, undef, undef, undef, undef, undef, undef], defers := [] } ∧ VB w1 wz g5 0 0 ∧ VB w1 wz g6 0 0 ∧ g5 ≠ g6 ∧ Kp w1 wz)
def LWS31 (w w1 : World) (nm : List UInt8) (ux uy tx ty dx dy nx ny : Int) (qa : Option Addr) (ql qc : Nat) (aa : Option Addr) (al ac : Nat) (ma : Option Addr) (ml mc : Nat) (ca : Option Addr) (cl cc : Nat) (qs : List Q) (clock epoch next serial : Int) (apps : List Appl) (ms : List Mac) (cs : List Con) (n : Nat) (lz : Array Bool) (az : Act) (wz : World) : Prop := (∃ g5 g6 g7 : Nat, n = 4 ∧ lz = #[true, true, true, true, true, true, true, true, true, true, true, false, true, true, true, false, false, false] ∧ az = { tmps := #[sv ⟨qa, ql, qc, aa, al, ac, ma, ml, mc, ca, cl, cc⟩ ⟨qs, clock, epoch, next, serial, apps, ms, cs⟩, .string (bs nm), .pointer (some ⟨w.heap.size, 0, none⟩), undef, .pointer (some ⟨w.heap.size + 1, 0, none⟩), .pointer (some ⟨g5, 0, none⟩), .pointer (some ⟨g6, 0, none⟩), .pointer (some ⟨g7, 0, none⟩), undef, .pointer (some ⟨w.heap.size, 0, none⟩), .slice qa ql qc, .string (bs nm), .bool true, .bool false, undef, .agg #[.slice qa ql qc, .int .i64 clock, .int .i64 epoch, .int .i64 next, .int .i64 serial, .slice aa al ac, .slice ma ml mc, .slice ca cl cc], .string (bs nm), rv ux uy, .pointer (some ⟨w.heap.size, 0, none⟩), .slice qa ql qc, .string (bs nm), .agg #[.slice qa ql qc, .int .i64 clock, .int .i64 epoch, .int .i64 next, .int .i64 serial, .slice aa al ac, .slice ma ml mc, .slice ca cl cc], rv tx ty, rv dx dy, .agg #[.slice qa ql qc, .int .i64 clock, .int .i64 epoch, .int .i64 next, .int .i64 serial, .slice aa al ac, .slice ma ml mc, .slice ca cl cc], .string (bs nm), undef, undef, undef, undef, undef, undef, undef, undef, undef, undef, undef, undef, undef, undef, undef, undef, undef, undef, undef, undef, undef, undef, undef, undef, undef, undef, undef, undef, undef, undef, undef], defers := [] } ∧ VB w1 wz g5 0 0 ∧ VB w1 wz g6 0 0 ∧ VB w1 wz g7 0 0 ∧ g5 ≠ g6 ∧ g5 ≠ g7 ∧ g6 ≠ g7 ∧ Kp w1 wz)
def LWS32 (w w1 : World) (nm : List UInt8) (ux uy tx ty dx dy nx ny : Int) (qa : Option Addr) (ql qc : Nat) (aa : Option Addr) (al ac : Nat) (ma : Option Addr) (ml mc : Nat) (ca : Option Addr) (cl cc : Nat) (qs : List Q) (clock epoch next serial : Int) (apps : List Appl) (ms : List Mac) (cs : List Con) (n : Nat) (lz : Array Bool) (az : Act) (wz : World) : Prop := (n = 6 ∧ lz = #[true, true, true, true, true, true, true, true, true, true, true, true, false, false, false, false, false, false] ∧ az = { tmps := #[sv ⟨qa, ql, qc, aa, al, ac, ma, ml, mc, ca, cl, cc⟩ ⟨qs, clock, epoch, next, serial, apps, ms, cs⟩, .string (bs nm), .pointer (some ⟨w.heap.size, 0, none⟩), undef, .pointer (some ⟨w.heap.size + 1, 0, none⟩), undef, undef, undef, undef, .pointer (some ⟨w.heap.size, 0, none⟩), .slice qa ql qc, .string (bs nm), .bool true, .bool false, undef, .agg #[.slice qa ql qc, .int .i64 clock, .int .i64 epoch, .int .i64 next, .int .i64 serial, .slice aa al ac, .slice ma ml mc, .slice ca cl cc], .string (bs nm), rv ux uy, .pointer (some ⟨w.heap.size, 0, none⟩), .slice qa ql qc, .string (bs nm), .agg #[.slice qa ql qc, .int .i64 clock, .int .i64 epoch, .int .i64 next, .int .i64 serial, .slice aa al ac, .slice ma ml mc, .slice ca cl cc], rv tx ty, rv dx dy, .agg #[.slice qa ql qc, .int .i64 clock, .int .i64 epoch, .int .i64 next, .int .i64 serial, .slice aa al ac, .slice ma ml mc, .slice ca cl cc], .string (bs nm), rv nx ny, undef, undef, undef, undef, undef, undef, undef, undef, undef, undef, undef, undef, undef, undef, undef, undef, undef, undef, undef, undef, undef, undef, undef, undef, undef, undef, undef, undef, undef, undef], defers := [] } ∧ Kp w1 wz)
def LWS33 (w w1 : World) (nm : List UInt8) (ux uy tx ty dx dy nx ny : Int) (qa : Option Addr) (ql qc : Nat) (aa : Option Addr) (al ac : Nat) (ma : Option Addr) (ml mc : Nat) (ca : Option Addr) (cl cc : Nat) (qs : List Q) (clock epoch next serial : Int) (apps : List Appl) (ms : List Mac) (cs : List Con) (n : Nat) (lz : Array Bool) (az : Act) (wz : World) : Prop := (∃ g7 : Nat, n = 5 ∧ lz = #[true, true, true, true, true, true, true, true, true, true, true, true, false, false, true, false, false, false] ∧ az = { tmps := #[sv ⟨qa, ql, qc, aa, al, ac, ma, ml, mc, ca, cl, cc⟩ ⟨qs, clock, epoch, next, serial, apps, ms, cs⟩, .string (bs nm), .pointer (some ⟨w.heap.size, 0, none⟩), undef, .pointer (some ⟨w.heap.size + 1, 0, none⟩), undef, undef, .pointer (some ⟨g7, 0, none⟩), undef, .pointer (some ⟨w.heap.size, 0, none⟩), .slice qa ql qc, .string (bs nm), .bool true, .bool false, undef, .agg #[.slice qa ql qc, .int .i64 clock, .int .i64 epoch, .int .i64 next, .int .i64 serial, .slice aa al ac, .slice ma ml mc, .slice ca cl cc], .string (bs nm), rv ux uy, .pointer (some ⟨w.heap.size, 0, none⟩), .slice qa ql qc, .string (bs nm), .agg #[.slice qa ql qc, .int .i64 clock, .int .i64 epoch, .int .i64 next, .int .i64 serial, .slice aa al ac, .slice ma ml mc, .slice ca cl cc], rv tx ty, rv dx dy, .agg #[.slice qa ql qc, .int .i64 clock, .int .i64 epoch, .int .i64 next, .int .i64 serial, .slice aa al ac, .slice ma ml mc, .slice ca cl cc], .string (bs nm), rv nx ny, undef, undef, undef, undef, undef, undef, undef, undef, undef, undef, undef, undef, undef, undef, undef, undef, undef, undef, undef, undef, undef, undef, undef, undef, undef, undef, undef, undef, undef, undef], defers := [] } ∧ VB w1 wz g7 0 0 ∧ Kp w1 wz)
def LWS34 (w w1 : World) (nm : List UInt8) (ux uy tx ty dx dy nx ny : Int) (qa : Option Addr) (ql qc : Nat) (aa : Option Addr) (al ac : Nat) (ma : Option Addr) (ml mc : Nat) (ca : Option Addr) (cl cc : Nat) (qs : List Q) (clock epoch next serial : Int) (apps : List Appl) (ms : List Mac) (cs : List Con) (n : Nat) (lz : Array Bool) (az : Act) (wz : World) : Prop := (∃ g6 : Nat, n = 5 ∧ lz = #[true, true, true, true, true, true, true, true, true, true, true, true, false, true, false, false, false, false] ∧ az = { tmps := #[sv ⟨qa, ql, qc, aa, al, ac, ma, ml, mc, ca, cl, cc⟩ ⟨qs, clock, epoch, next, serial, apps, ms, cs⟩, .string (bs nm), .pointer (some ⟨w.heap.size, 0, none⟩), undef, .pointer (some ⟨w.heap.size + 1, 0, none⟩), undef, .pointer (some ⟨g6, 0, none⟩), undef, undef, .pointer (some ⟨w.heap.size, 0, none⟩), .slice qa ql qc, .string (bs nm), .bool true, .bool false, undef, .agg #[.slice qa ql qc, .int .i64 clock, .int .i64 epoch, .int .i64 next, .int .i64 serial, .slice aa al ac, .slice ma ml mc, .slice ca cl cc], .string (bs nm), rv ux uy, .pointer (some ⟨w.heap.size, 0, none⟩), .slice qa ql qc, .string (bs nm), .agg #[.slice qa ql qc, .int .i64 clock, .int .i64 epoch, .int .i64 next, .int .i64 serial, .slice aa al ac, .slice ma ml mc, .slice ca cl cc], rv tx ty, rv dx dy, .agg #[.slice qa ql qc, .int .i64 clock, .int .i64 epoch, .int .i64 next, .int .i64 serial, .slice aa al ac, .slice ma ml mc, .slice ca cl cc], .string (bs nm), rv nx ny, undef, undef, undef, undef, undef, undef, undef, undef, undef, undef, undef, undef, undef, undef, undef, undef, undef, undef, undef, undef, undef, undef, undef, undef, undef, undef, undef, undef, undef, undef], defers := [] } ∧ VB w1 wz g6 0 0 ∧ Kp w1 wz)
def LWS35 (w w1 : World) (nm : List UInt8) (ux uy tx ty dx dy nx ny : Int) (qa : Option Addr) (ql qc : Nat) (aa : Option Addr) (al ac : Nat) (ma : Option Addr) (ml mc : Nat) (ca : Option Addr) (cl cc : Nat) (qs : List Q) (clock epoch next serial : Int) (apps : List Appl) (ms : List Mac) (cs : List Con) (n : Nat) (lz : Array Bool) (az : Act) (wz : World) : Prop := (∃ g6 g7 : Nat, n = 4 ∧ lz = #[true, true, true, true, true, true, true, true, true, true, true, true, false, true, true, false, false, false] ∧ az = { tmps := #[sv ⟨qa, ql, qc, aa, al, ac, ma, ml, mc, ca, cl, cc⟩ ⟨qs, clock, epoch, next, serial, apps, ms, cs⟩, .string (bs nm), .pointer (some ⟨w.heap.size, 0, none⟩), undef, .pointer (some ⟨w.heap.size + 1, 0, none⟩), undef, .pointer (some ⟨g6, 0, none⟩), .pointer (some ⟨g7, 0, none⟩), undef, .pointer (some ⟨w.heap.size, 0, none⟩), .slice qa ql qc, .string (bs nm), .bool true, .bool false, undef, .agg #[.slice qa ql qc, .int .i64 clock, .int .i64 epoch, .int .i64 next, .int .i64 serial, .slice aa al ac, .slice ma ml mc, .slice ca cl cc], .string (bs nm), rv ux uy, .pointer (some ⟨w.heap.size, 0, none⟩), .slice qa ql qc, .string (bs nm), .agg #[.slice qa ql qc, .int .i64 clock, .int .i64 epoch, .int .i64 next, .int .i64 serial, .slice aa al ac, .slice ma ml mc, .slice ca cl cc], rv tx ty, rv dx dy, .agg #[.slice qa ql qc, .int .i64 clock, .int .i64 epoch, .int .i64 next, .int .i64 serial, .slice aa al ac, .slice ma ml mc, .slice ca cl cc], .string (bs nm), rv nx ny, undef, undef, undef, undef, undef, undef, undef, undef, undef, undef, undef, undef, undef, undef, undef, undef, undef, undef, undef, undef, undef, undef, undef, undef, undef, undef, undef, undef, undef, undef], defers := [] } ∧ VB w1 wz g6 0 0 ∧ VB w1 wz g7 0 0 ∧ g6 ≠ g7 ∧ Kp w1 wz)
def LWS36 (w w1 : World) (nm : List UInt8) (ux uy tx ty dx dy nx ny : Int) (qa : Option Addr) (ql qc : Nat) (aa : Option Addr) (al ac : Nat) (ma : Option Addr) (ml mc : Nat) (ca : Option Addr) (cl cc : Nat) (qs : List Q) (clock epoch next serial : Int) (apps : List Appl) (ms : List Mac) (cs : List Con) (n : Nat) (lz : Array Bool) (az : Act) (wz : World) : Prop := (∃ g5 : Nat, n = 5 ∧ lz = #[true, true, true, true, true, true, true, true, true, true, true, true, true, false, false, false, false, false] ∧ az = { tmps := #[sv ⟨qa, ql, qc, aa, al, ac, ma, ml, mc, ca, cl, cc⟩ ⟨qs, clock, epoch, next, serial, apps, ms, cs⟩, .string (bs nm), .pointer (some ⟨w.heap.size, 0, none⟩), undef, .pointer (some ⟨w.heap.size + 1, 0, none⟩), .pointer (some ⟨g5, 0, none⟩), undef, undef, undef, .pointer (some ⟨w.heap.size, 0, none⟩), .slice qa ql qc, .string (bs nm), .bool true, .bool false, undef, .agg #[.slice qa ql qc, .int .i64 clock, .int .i64 epoch, .int .i64 next, .int .i64 serial, .slice aa al ac, .slice ma ml mc, .slice ca cl cc], .string (bs nm), rv ux uy, .pointer (some ⟨w.heap.size, 0, none⟩), .slice qa ql qc, .string (bs nm), .agg #[.slice qa ql qc, .int .i64 clock, .int .i64 epoch, .int .i64 next, .int .i64 serial, .slice aa al ac, .slice ma ml mc, .slice ca cl cc], rv tx ty, rv dx dy, .agg #[.slice qa ql qc, .int .i64 clock, .int .i64 epoch, .int .i64 next, .int .i64 serial, .slice aa al ac, .slice ma ml mc, .slice ca cl cc], .string (bs nm), rv nx ny, undef, undef, undef, undef, undef, undef, undef, undef, undef, undef, undef, undef, undef, undef, undef, undef, undef, undef, undef, undef, undef, undef, undef, undef, undef, undef, undef, undef, undef, undef], defers := [] } ∧ VB w1 wz g5 0 0 ∧ Kp w1 wz)
def LWS37 (w w1 : World) (nm : List UInt8) (ux uy tx ty dx dy nx ny : Int) (qa : Option Addr) (ql qc : Nat) (aa : Option Addr) (al ac : Nat) (ma : Option Addr) (ml mc : Nat) (ca : Option Addr) (cl cc : Nat) (qs : List Q) (clock epoch next serial : Int) (apps : List Appl) (ms : List Mac) (cs : List Con) (n : Nat) (lz : Array Bool) (az : Act) (wz : World) : Prop := (∃ g5 g7 : Nat, n = 4 ∧ lz = #[true, true, true, true, true, true, true, true, true, true, true, true, true, false, true, false, false, false] ∧ az = { tmps := #[sv ⟨qa, ql, qc, aa, al, ac, ma, ml, mc, ca, cl, cc⟩ ⟨qs, clock, epoch, next, serial, apps, ms, cs⟩, .string (bs nm), .pointer (some ⟨w.heap.size, 0, none⟩), undef, .pointer (some ⟨w.heap.size + 1, 0, none⟩), .pointer (some ⟨g5, 0, none⟩), undef, .pointer (some ⟨g7, 0, none⟩), undef, .pointer (some ⟨w.heap.size, 0, none⟩), .slice qa ql qc, .string (bs nm), .bool true, .bool false, undef, .agg #[.slice qa ql qc, .int .i64 clock, .int .i64 epoch, .int .i64 next, .int .i64 serial, .slice aa al ac, .slice ma ml mc, .slice ca cl cc], .string (bs nm), rv ux uy, .pointer (some ⟨w.heap.size, 0, none⟩), .slice qa ql qc, .string (bs nm), .agg #[.slice qa ql qc, .int .i64 clock, .int .i64 epoch, .int .i64 next, .int .i64 serial, .slice aa al ac, .slice ma ml mc, .slice ca cl cc], rv tx ty, rv dx dy, .agg #[.slice qa ql qc, .int .i64 clock, .int .i64 epoch, .int .i64 next, .int .i64 serial, .slice aa al ac, .slice ma ml mc, .slice ca cl cc], .string (bs nm), rv nx ny, undef, undef, undef, undef, undef, undef, undef, undef, undef, undef, undef, undef, undef, undef, undef, undef, undef, undef, undef, undef, undef, undef, undef, undef, undef, undef, undef, undef, undef, undef], defers := [] } ∧ VB w1 wz g5 0 0 ∧ VB w1 wz g7 0 0 ∧ g5 ≠ g7 ∧ Kp w1 wz)
def LWS38 (w w1 : World) (nm : List UInt8) (ux uy tx ty dx dy nx ny : Int) (qa : Option Addr) (ql qc : Nat) (aa : Option Addr) (al ac : Nat) (ma : Option Addr) (ml mc : Nat) (ca : Option Addr) (cl cc : Nat) (qs : List Q) (clock epoch next serial : Int) (apps : List Appl) (ms : List Mac) (cs : List Con) (n : Nat) (lz : Array Bool) (az : Act) (wz : World) : Prop := (∃ g5 g6 : Nat, n = 4 ∧ lz = #[true, true, true, true, true, true, true, true, true, true, true, true, true, true, false, false, false, false] ∧ az = { tmps := #[sv ⟨qa, ql, qc, aa, al, ac, ma, ml, mc, ca, cl, cc⟩ ⟨qs, clock, epoch, next, serial, apps, ms, cs⟩, .string (bs nm), .pointer (some ⟨w.heap.size, 0, none⟩), undef, .pointer (some ⟨w.heap.size + 1, 0, none⟩), .pointer (some ⟨g5, 0, none⟩), .pointer (some ⟨g6, 0, none⟩), undef, undef, .pointer (some ⟨w.heap.size, 0, none⟩), .slice qa ql qc, .string (bs nm), .bool true, .bool false, undef, .agg #[.slice qa ql qc, .int .i64 clock, .int .i64 epoch, .int .i64 next, .int .i64 serial, .slice aa al ac, .slice ma ml mc, .slice ca cl cc], .string (bs nm), rv ux uy, .pointer (some ⟨w.heap.size, 0, none⟩), .slice qa ql qc, .string (bs nm), .agg #[.slice qa ql qc, .int .i64 clock, .int .i64 epoch, .int .i64 next, .int .i64 serial, .slice aa al ac, .slice ma ml mc, .slice ca cl cc], rv tx ty, rv dx dy, .agg #[.slice qa ql qc, .int .i64 clock, .int .i64 epoch, .int .i64 next, .int .i64 serial, .slice aa al ac, .slice ma ml mc, .slice ca cl cc], .string (bs nm), rv nx ny, undef, undef, undef, undef, undef, undef, undef, undef, undef, undef, undef, undef, undef, undef, undef, undef, undef, undef, undef, undef, undef, undef, undef, undef, undef, undef, undef, undef, undef, undef], defers := [] } ∧ VB w1 wz g5 0 0 ∧ VB w1 wz g6 0 0 ∧ g5 ≠ g6 ∧ Kp w1 wz)
def LWS39 (w w1 : World) (nm : List UInt8) (ux uy tx ty dx dy nx ny : Int) (qa : Option Addr) (ql qc : Nat) (aa : Option Addr) (al ac : Nat) (ma : Option Addr) (ml mc : Nat) (ca : Option Addr) (cl cc : Nat) (qs : List Q) (clock epoch next serial : Int) (apps : List Appl) (ms : List Mac) (cs : List Con) (n : Nat) (lz : Array Bool) (az : Act) (wz : World) : Prop := (∃ g5 g6 g7 : Nat, n = 3 ∧ lz = #[true, true, true, true, true, true, true, true, true, true, true, true, true, true, true, false, false, false] ∧ az = { tmps := #[sv ⟨qa, ql, qc, aa, al, ac, ma, ml, mc, ca, cl, cc⟩ ⟨qs, clock, epoch, next, serial, apps, ms, cs⟩, .string (bs nm), .pointer (some ⟨w.heap.size, 0, none⟩), undef, .pointer (some ⟨w.heap.size + 1, 0, none⟩), .pointer (some ⟨g5, 0, none⟩), .pointer (some ⟨g6, 0, none⟩), .pointer (some ⟨g7, 0, none⟩), undef, .pointer (some ⟨w.heap.size, 0, none⟩), .slice qa ql qc, .string (bs nm), .bool true, .bool false, undef, .agg #[.slice qa ql qc, .int .i64 clock, .int .i64 epoch, .int .i64 next, .int .i64 serial, .slice aa al ac, .slice ma ml mc, .slice ca cl cc], .string (bs nm), rv ux uy, .pointer (some ⟨w.heap.size, 0, none⟩), .slice qa ql qc, .string (bs nm), .agg #[.slice qa ql qc, .int .i64 clock, .int .i64 epoch, .int .i64 next, .int .i64 serial, .slice aa al ac, .slice ma ml mc, .slice ca cl cc], rv tx ty, rv dx dy, .agg #[.slice qa ql qc, .int .i64 clock, .int .i64 epoch, .int .i64 next, .int .i64 serial, .slice aa al ac, .slice ma ml mc, .slice ca cl cc], .string (bs nm), rv nx ny, undef, undef, undef, undef, undef, undef, undef, undef, undef, undef, undef, undef, undef, undef, undef, undef, undef, undef, undef, undef, undef, undef, undef, undef, undef, undef, undef, undef, undef, undef], defers := [] } ∧ VB w1 wz g5 0 0 ∧ VB w1 wz g6 0 0 ∧ VB w1 wz g7 0 0 ∧ g5 ≠ g6 ∧ g5 ≠ g7 ∧ g6 ≠ g7 ∧ Kp w1 wz)
def LWS40 (w w1 : World) (nm : List UInt8) (ux uy tx ty dx dy nx ny : Int) (qa : Option Addr) (ql qc : Nat) (aa : Option Addr) (al ac : Nat) (ma : Option Addr) (ml mc : Nat) (ca : Option Addr) (cl cc : Nat) (qs : List Q) (clock epoch next serial : Int) (apps : List Appl) (ms : List Mac) (cs : List Con) (n : Nat) (lz : Array Bool) (az : Act) (wz : World) : Prop := (∃ g5 g6 g7 : Nat, n = 2 ∧ lz = #[true, true, true, true, true, true, true, true, true, true, true, true, true, true, true, true, false, false] ∧ az = { tmps := #[sv ⟨qa, ql, qc, aa, al, ac, ma, ml, mc, ca, cl, cc⟩ ⟨qs, clock, epoch, next, serial, apps, ms, cs⟩, .string (bs nm), .pointer (some ⟨w.heap.size, 0, none⟩), undef, .pointer (some ⟨w.heap.size + 1, 0, none⟩), .pointer (some ⟨g5, 0, none⟩), .pointer (some ⟨g6, 0, none⟩), .pointer (some ⟨g7, 0, none⟩), undef, .pointer (some ⟨w.heap.size, 0, none⟩), .slice qa ql qc, .string (bs nm), .bool true, .bool false, undef, .agg #[.slice qa ql qc, .int .i64 clock, .int .i64 epoch, .int .i64 next, .int .i64 serial, .slice aa al ac, .slice ma ml mc, .slice ca cl cc], .string (bs nm), rv ux uy, .pointer (some ⟨w.heap.size, 0, none⟩), .slice qa ql qc, .string (bs nm), .agg #[.slice qa ql qc, .int .i64 clock, .int .i64 epoch, .int .i64 next, .int .i64 serial, .slice aa al ac, .slice ma ml mc, .slice ca cl cc], rv tx ty, rv dx dy, .agg #[.slice qa ql qc, .int .i64 clock, .int .i64 epoch, .int .i64 next, .int .i64 serial, .slice aa al ac, .slice ma ml mc, .slice ca cl cc], .string (bs nm), rv nx ny, undef, undef, undef, undef, undef, undef, undef, undef, undef, undef, undef, undef, undef, undef, undef, undef, undef, undef, undef, undef, undef, undef, undef, undef, undef, undef, undef, undef, undef, undef], defers := [] } ∧ VB w1 wz g5 ux uy ∧ VB w1 wz g6 0 0 ∧ VB w1 wz g7 0 0 ∧ g5 ≠ g6 ∧ g5 ≠ g7 ∧ g6 ≠ g7 ∧ Kp w1 wz)
def LWS41 (w w1 : World) (nm : List UInt8) (ux uy tx ty dx dy nx ny : Int) (qa : Option Addr) (ql qc : Nat) (aa : Option Addr) (al ac : Nat) (ma : Option Addr) (ml mc : Nat) (ca : Option Addr) (cl cc : Nat) (qs : List Q) (clock epoch next serial : Int) (apps : List Appl) (ms : List Mac) (cs : List Con) (n : Nat) (lz : Array Bool) (az : Act) (wz : World) : Prop := (∃ g5 g6 g7 : Nat, n = 1 ∧ lz = #[true, true, true, true, true, true, true, true, true, true, true, true, true, true, true, true, true, false] ∧ az = { tmps := #[sv ⟨qa, ql, qc, aa, al, ac, ma, ml, mc, ca, cl, cc⟩ ⟨qs, clock, epoch, next, serial, apps, ms, cs⟩, .string (bs nm), .pointer (some ⟨w.heap.size, 0, none⟩), undef, .pointer (some ⟨w.heap.size + 1, 0, none⟩), .pointer (some ⟨g5, 0, none⟩), .pointer (some ⟨g6, 0, none⟩), .pointer (some ⟨g7, 0, none⟩), undef, .pointer (some ⟨w.heap.size, 0, none⟩), .slice qa ql qc, .string (bs nm), .bool true, .bool false, undef, .agg #[.slice qa ql qc, .int .i64 clock, .int .i64 epoch, .int .i64 next, .int .i64 serial, .slice aa al ac, .slice ma ml mc, .slice ca cl cc], .string (bs nm), rv ux uy, .pointer (some ⟨w.heap.size, 0, none⟩), .slice qa ql qc, .string (bs nm), .agg #[.slice qa ql qc, .int .i64 clock, .int .i64 epoch, .int .i64 next, .int .i64 serial, .slice aa al ac, .slice ma ml mc, .slice ca cl cc], rv tx ty, rv dx dy, .agg #[.slice qa ql qc, .int .i64 clock, .int .i64 epoch, .int .i64 next, .int .i64 serial, .slice aa al ac, .slice ma ml mc, .slice ca cl cc], .string (bs nm), rv nx ny, undef, undef, undef, undef, undef, undef, undef, undef, undef, undef, undef, undef, undef, undef, undef, undef, undef, undef, undef, undef, undef, undef, undef, undef, undef, undef, undef, undef, undef, undef], defers := [] } ∧ VB w1 wz g5 ux uy ∧ VB w1 wz g6 dx dy ∧ VB w1 wz g7 0 0 ∧ g5 ≠ g6 ∧ g5 ≠ g7 ∧ g6 ≠ g7 ∧ Kp w1 wz)
def LWS42 (w w1 : World) (nm : List UInt8) (ux uy tx ty dx dy nx ny : Int) (qa : Option Addr) (ql qc : Nat) (aa : Option Addr) (al ac : Nat) (ma : Option Addr) (ml mc : Nat) (ca : Option Addr) (cl cc : Nat) (qs : List Q) (clock epoch next serial : Int) (apps : List Appl) (ms : List Mac) (cs : List Con) (n : Nat) (lz : Array Bool) (az : Act) (wz : World) : Prop := (∃ g5 g6 g7 : Nat, n = 0 ∧ lz = #[true, true, true, true, true, true, true, true, true, true, true, true, true, true, true, true, true, true] ∧ az = { tmps := #[sv ⟨qa, ql, qc, aa, al, ac, ma, ml, mc, ca, cl, cc⟩ ⟨qs, clock, epoch, next, serial, apps, ms, cs⟩, .string (bs nm), .pointer (some ⟨w.heap.size, 0, none⟩), undef, .pointer (some ⟨w.heap.size + 1, 0, none⟩), .pointer (some ⟨g5, 0, none⟩), .pointer (some ⟨g6, 0, none⟩), .pointer (some ⟨g7, 0, none⟩), undef, .pointer (some ⟨w.heap.size, 0, none⟩), .slice qa ql qc, .string (bs nm), .bool true, .bool false, undef, .agg #[.slice qa ql qc, .int .i64 clock, .int .i64 epoch, .int .i64 next, .int .i64 serial, .slice aa al ac, .slice ma ml mc, .slice ca cl cc], .string (bs nm), rv ux uy, .pointer (some ⟨w.heap.size, 0, none⟩), .slice qa ql qc, .string (bs nm), .agg #[.slice qa ql qc, .int .i64 clock, .int .i64 epoch, .int .i64 next, .int .i64 serial, .slice aa al ac, .slice ma ml mc, .slice ca cl cc], rv tx ty, rv dx dy, .agg #[.slice qa ql qc, .int .i64 clock, .int .i64 epoch, .int .i64 next, .int .i64 serial, .slice aa al ac, .slice ma ml mc, .slice ca cl cc], .string (bs nm), rv nx ny, undef, undef, undef, undef, undef, undef, undef, undef, undef, undef, undef, undef, undef, undef, undef, undef, undef, undef, undef, undef, undef, undef, undef, undef, undef, undef, undef, undef, undef, undef], defers := [] } ∧ VB w1 wz g5 ux uy ∧ VB w1 wz g6 dx dy ∧ VB w1 wz g7 nx ny ∧ g5 ≠ g6 ∧ g5 ≠ g7 ∧ g6 ≠ g7 ∧ Kp w1 wz)
def LWS (w w1 : World) (nm : List UInt8) (ux uy tx ty dx dy nx ny : Int) (qa : Option Addr) (ql qc : Nat) (aa : Option Addr) (al ac : Nat) (ma : Option Addr) (ml mc : Nat) (ca : Option Addr) (cl cc : Nat) (qs : List Q) (clock epoch next serial : Int) (apps : List Appl) (ms : List Mac) (cs : List Con) (n : Nat) (lz : Array Bool) (az : Act) (wz : World) : Prop := LWS0 w w1 nm ux uy tx ty dx dy nx ny qa ql qc aa al ac ma ml mc ca cl cc qs clock epoch next serial apps ms cs n lz az wz ∨ LWS1 w w1 nm ux uy tx ty dx dy nx ny qa ql qc aa al ac ma ml mc ca cl cc qs clock epoch next serial apps ms cs n lz az wz ∨ LWS2 w w1 nm ux uy tx ty dx dy nx ny qa ql qc aa al ac ma ml mc ca cl cc qs clock epoch next serial apps ms cs n lz az wz ∨ LWS3 w w1 nm ux uy tx ty dx dy nx ny qa ql qc aa al ac ma ml mc ca cl cc qs clock epoch next serial apps ms cs n lz az wz ∨ LWS4 w w1 nm ux uy tx ty dx dy nx ny qa ql qc aa al ac ma ml mc ca cl cc qs clock epoch next serial apps ms cs n lz az wz ∨ LWS5 w w1 nm ux uy tx ty dx dy nx ny qa ql qc aa al ac ma ml mc ca cl cc qs clock epoch next serial apps ms cs n lz az wz ∨ LWS6 w w1 nm ux uy tx ty dx dy nx ny qa ql qc aa al ac ma ml mc ca cl cc qs clock epoch next serial apps ms cs n lz az wz ∨ LWS7 w w1 nm ux uy tx ty dx dy nx ny qa ql qc aa al ac ma ml mc ca cl cc qs clock epoch next serial apps ms cs n lz az wz ∨ LWS8 w w1 nm ux uy tx ty dx dy nx ny qa ql qc aa al ac ma ml mc ca cl cc qs clock epoch next serial apps ms cs n lz az wz ∨ LWS9 w w1 nm ux uy tx ty dx dy nx ny qa ql qc aa al ac ma ml mc ca cl cc qs clock epoch next serial apps ms cs n lz az wz ∨ LWS10 w w1 nm ux uy tx ty dx dy nx ny qa ql qc aa al ac ma ml mc ca cl cc qs clock epoch next serial apps ms cs n lz az wz ∨ LWS11 w w1 nm ux uy tx ty dx dy nx ny qa ql qc aa al ac ma ml mc ca cl cc qs clock epoch next serial apps ms cs n lz az wz ∨ LWS12 w w1 nm ux uy tx ty dx dy nx ny qa ql qc aa al ac ma ml mc ca cl cc qs clock epoch next serial apps ms cs n lz az wz ∨ LWS13 w w1 nm ux uy tx ty dx dy nx ny qa ql qc aa al ac ma ml mc ca cl cc qs clock epoch next serial apps ms cs n lz az wz ∨ LWS14 w w1 nm ux uy tx ty dx dy nx ny qa ql qc aa al ac ma ml mc ca cl cc qs clock epoch next serial apps ms cs n lz az wz ∨ LWS15 w w1 nm ux uy tx ty dx dy nx ny qa ql qc aa al ac ma ml mc ca cl cc qs clock epoch next serial apps ms cs n lz az wz ∨ LWS16 w w1 nm ux uy tx ty dx dy nx ny qa ql qc aa al ac ma ml mc ca cl cc qs clock epoch next serial apps ms cs n lz az wz ∨ LWS17 w w1 nm ux uy tx ty dx dy nx ny qa ql qc aa al ac ma ml mc ca cl cc qs clock epoch next serial apps ms cs n lz az wz ∨ LWS18 w w1 nm ux uy tx ty dx dy nx ny qa ql qc aa al ac ma ml mc ca cl cc qs clock epoch next serial apps ms cs n lz az wz ∨ LWS19 w w1 nm ux uy tx ty dx dy nx ny qa ql qc aa al ac ma ml mc ca cl cc qs clock epoch next serial apps ms cs n lz az wz ∨ LWS20 w w1 nm ux uy tx ty dx dy nx ny qa ql qc aa al ac ma ml mc ca cl cc qs clock epoch next serial apps ms cs n lz az wz ∨ LWS21 w w1 nm ux uy tx ty dx dy nx ny qa ql qc aa al ac ma ml mc ca cl cc qs clock epoch next serial apps ms cs n lz az wz ∨ LWS22 w w1 nm ux uy tx ty dx dy nx ny qa ql qc aa al ac ma ml mc ca cl cc qs clock epoch next serial apps ms cs n lz az wz ∨ LWS23 w w1 nm ux uy tx ty dx dy nx ny qa ql qc aa al ac ma ml mc ca cl cc qs clock epoch next serial apps ms cs n lz az wz ∨ LWS24 w w1 nm ux uy tx ty dx dy nx ny qa ql qc aa al ac ma ml mc ca cl cc qs clock epoch next serial apps ms cs n lz az wz ∨ LWS25 w w1 nm ux uy tx ty dx dy nx ny qa ql qc aa al ac ma ml mc ca cl cc qs clock epoch next serial apps ms cs n lz az wz ∨ LWS26 w w1 nm ux uy tx ty dx dy nx ny qa ql qc aa al ac ma ml mc ca cl cc qs clock epoch next serial apps ms cs n lz az wz ∨ LWS27 w w1 nm ux uy tx ty dx dy nx ny qa ql qc aa al ac ma ml mc ca cl cc qs clock epoch next serial apps ms cs n lz az wz ∨ LWS28 w w1 nm ux uy tx ty dx dy nx ny qa ql qc aa al ac ma ml mc ca cl cc qs clock epoch next serial apps ms cs n lz az wz ∨ LWS29 w w1 nm ux uy tx ty dx dy nx ny qa ql qc aa al ac ma ml mc ca cl cc qs clock epoch next serial apps ms cs n lz az wz ∨ LWS30 w w1 nm ux uy tx ty dx dy nx ny qa ql qc aa al ac ma ml mc ca cl cc qs clock epoch next serial apps ms cs n lz az wz ∨ LWS31 w w1 nm ux uy tx ty dx dy nx ny qa ql qc aa al ac ma ml mc ca cl cc qs clock epoch next serial apps ms cs n lz az wz ∨ LWS32 w w1 nm ux uy tx ty dx dy nx ny qa ql qc aa al ac ma ml mc ca cl cc qs clock epoch next serial apps ms cs n lz az wz ∨ LWS33 w w1 nm ux uy tx ty dx dy nx ny qa ql qc aa al ac ma ml mc ca cl cc qs clock epoch next serial apps ms cs n lz az wz ∨ LWS34 w w1 nm ux uy tx ty dx dy nx ny qa ql qc aa al ac ma ml mc ca cl cc qs clock epoch next serial apps ms cs n lz az wz ∨ LWS35 w w1 nm ux uy tx ty dx dy nx ny qa ql qc aa al ac ma ml mc ca cl cc qs clock epoch next serial apps ms cs n lz az wz ∨ LWS36 w w1 nm ux uy tx ty dx dy nx ny qa ql qc aa al ac ma ml mc ca cl cc qs clock epoch next serial apps ms cs n lz az wz ∨ LWS37 w w1 nm ux uy tx ty dx dy nx ny qa ql qc aa al ac ma ml mc ca cl cc qs clock epoch next serial apps ms cs n lz az wz ∨ LWS38 w w1 nm ux uy tx ty dx dy nx ny qa ql qc aa al ac ma ml mc ca cl cc qs clock epoch next serial apps ms cs n lz az wz ∨ LWS39 w w1 nm ux uy tx ty dx dy nx ny qa ql qc aa al ac ma ml mc ca cl cc qs clock epoch next serial apps ms cs n lz az wz ∨ LWS40 w w1 nm ux uy tx ty dx dy nx ny qa ql qc aa al ac ma ml mc ca cl cc qs clock epoch next serial apps ms cs n lz az wz ∨ LWS41 w w1 nm ux uy tx ty dx dy nx ny qa ql qc aa al ac ma ml mc ca cl cc qs clock epoch next serial apps ms cs n lz az wz ∨ LWS42 w w1 nm ux uy tx ty dx dy nx ny qa ql qc aa al ac ma ml mc ca cl cc qs clock epoch next serial apps ms cs n lz az wz

set_option maxRecDepth 100000 in
set_option maxHeartbeats 8000000 in
theorem specLack_any (x : Sls) (s : St) (nm : List UInt8) (w : World) (h : SRow w x s) (hf : FitSt s) :
    Calls Tryz.prog 10 #[sv x s, .string (bs nm)] w fun e w' => e = .returned (rv (lackV s nm).1 (lackV s nm).2) ∧ Below w.heap.size w w' := by
  have hql : x.ql ≤ 1048576 := h.ql hf
  have hml : x.ml ≤ 1048576 := h.ml hf
  have CL := hide (fun wx (hb : Below w.heap.size w wx) => specLeaf_any x.qa x.ql x.qc s.qs nm wx (h.1.below hb) hql (fun q hq => (hf.1.2 q hq).1))
  have CT := hide (fun wx (hb : Below w.heap.size w wx) => specTotal_any x s wx (h.2.2.1.below hb) hml)
  have CD := hide (fun wx (hb : Below w.heap.size w wx) => show Calls Tryz.prog 20 #[.slice x.qa x.ql x.qc, .string (bs nm), rv (totalV s).1 (totalV s).2] wx (fun e w' => e = .returned (rv (dueV s nm).1 (dueV s nm).2) ∧ Below wx.heap.size wx w') from specDueOf_any x.qa x.ql x.qc s.qs nm (totalV s).1 (totalV s).2 wx (h.1.below hb) hql (fun q hq => (hf.1.2 q hq).1))
  have CU := hide (fun wx (hb : Below w.heap.size w wx) => specUsedBy_any x s nm wx (h.below hb) hf)
  have CW := hide (fun wx (hb : Below w.heap.size w wx) => l06Wants_any x s nm wx (h.below hb) hf)
  have HU := hide (used_ok s nm)
  have HD := hide (due_ok s nm)
  have HW := hide (want_ok s nm)
  obtain ⟨lf, hlf⟩ : ∃ b, leaf s.qs nm = b := ⟨_, rfl⟩
  obtain ⟨⟨tx, ty⟩, ht⟩ : ∃ t, totalV s = t := ⟨_, rfl⟩
  obtain ⟨⟨dx, dy⟩, hd⟩ : ∃ t, dueV s nm = t := ⟨_, rfl⟩
  obtain ⟨⟨ux, uy⟩, hu⟩ : ∃ t, usedByV s nm = t := ⟨_, rfl⟩
  obtain ⟨⟨nx, ny⟩, hn⟩ : ∃ t, wantV s nm = t := ⟨_, rfl⟩
  have HO : lackV s nm = if lf = true then (lack1 dx ux nx, lack1 dy uy ny) else (0, 0) := by simp only [lackV, hlf, hu, hd, hn]
  rw [show (sumR (capsOf s.ms)).1 = tx from congrArg Prod.fst ht, show (sumR (capsOf s.ms)).2.1 = ty from congrArg Prod.snd ht] at CT
  rw [hlf] at CL
  rw [ht, hd] at CD
  rw [hu] at CU HU
  rw [hd] at HD
  rw [hn] at CW HW
  obtain ⟨⟨zx, zy⟩, hz⟩ : ∃ z, (if lf = true then (lack1 dx ux nx, lack1 dy uy ny) else (0, 0)) = z := ⟨_, rfl⟩
  rw [HO, hz]
  have HZ := hide hz
  clear hz
  simp only at CD CU CW HU HD HW
  obtain ⟨u0, u1, u2, u3⟩ := resOk_bd (unhide HU)
  obtain ⟨d0, d1, d2, d3⟩ := resOk_bd (unhide HD)
  obtain ⟨n0, n1, n2, n3⟩ := resOk_bd (unhide HW)
  clear h hf hlf ht hd hu hn HO HU HD HW
  obtain ⟨qa, ql, qc, aa, al, ac, ma, ml, mc, ca, cl, cc⟩ := x
  obtain ⟨qs, clock, epoch, next, serial, apps, ms, cs⟩ := s
  simp only at CL CT CD CU CW hql hml
  have HB0 := hide (capW_below w (svc ⟨qa, ql, qc, aa, al, ac, ma, ml, mc, ca, cl, cc⟩ ⟨qs, clock, epoch, next, serial, apps, ms, cs⟩))
  have V0 := hide (capW_var w (svc ⟨qa, ql, qc, aa, al, ac, ma, ml, mc, ca, cl, cc⟩ ⟨qs, clock, epoch, next, serial, apps, ms, cs⟩))
  have P0 := hide ((boxW_blk w (svc ⟨qa, ql, qc, aa, al, ac, ma, ml, mc, ca, cl, cc⟩ ⟨qs, clock, epoch, next, serial, apps, ms, cs⟩)).al (.cells #[.int .i64 0, .int .i64 0] 40))
  go_enter Tryz.func10, Tryz.ntmps10
  go_wp2_with fail
  refine (unhide CL _ (unhide HB0)).mono ?_
  rintro e w1 ⟨rfl, hb⟩
  have HB1 := hide (below_on (unhide HB0) hb)
  have V1 := hide ((unhide V0).below hb)
  have P1 := hide ((unhide P0).below hb)
  clear hb HB0 V0 P0 CL
  cases lf
  case false =>
    have hz := unhide HZ
    simp at hz
    obtain ⟨rfl, rfl⟩ := hz
    have k0 := (unhide V1).c0
    have k1 := (unhide V1).c1
    have k2 := (unhide V1).f 0
    have k3 := (unhide V1).f 1
    have k4 := (unhide V1).s0 (.int .i64 0)
    have k5 := (unhide V1).s1 (.int .i64 0) (.int .i64 0)
    go_wp2
    refine bodyPost_ret (v := rv 0 0) (by simp [results, Tryz.results10, go_sem, k4, k5]) rfl ⟨rfl, ?_⟩
    repeat (first | exact unhide HB1 | refine below_al ?_ _ | refine Below.drew ?_ | refine below_sc ?_ _ _ _ (by omega))
  have hz := unhide HZ
  rw [if_pos rfl] at hz
  simp only [Prod.mk.injEq] at hz
  have HZX := hide hz.1
  have HZY := hide hz.2
  clear hz HZ
  obtain ⟨q0, q1, q2, q3, q4, q5, q6, q7⟩ : _ ∧ _ ∧ _ ∧ _ ∧ _ ∧ _ ∧ _ ∧ _ := ⟨(unhide P1).at 0, (unhide P1).at 1, (unhide P1).at 2, (unhide P1).at 3, (unhide P1).at 4, (unhide P1).at 5, (unhide P1).at 6, (unhide P1).at 7⟩
  simp at q0 q1 q2 q3 q4 q5 q6 q7
  have R : ∀ wx, Kp w1 wx → wx.cell? ⟨w.heap.size, 0, none⟩ = some (.slice qa ql qc) ∧ wx.cell? ⟨w.heap.size, 1, none⟩ = some (.int .i64 clock) ∧ wx.cell? ⟨w.heap.size, 2, none⟩ = some (.int .i64 epoch) ∧ wx.cell? ⟨w.heap.size, 3, none⟩ = some (.int .i64 next) ∧ wx.cell? ⟨w.heap.size, 4, none⟩ = some (.int .i64 serial) ∧ wx.cell? ⟨w.heap.size, 5, none⟩ = some (.slice aa al ac) ∧ wx.cell? ⟨w.heap.size, 6, none⟩ = some (.slice ma ml mc) ∧ wx.cell? ⟨w.heap.size, 7, none⟩ = some (.slice ca cl cc) := fun wx h =>
    ⟨h.cell q0, h.cell q1, h.cell q2, h.cell q3, h.cell q4, h.cell q5, h.cell q6, h.cell q7⟩
  have A0 := hide (Kp.new w1)
  have HS := hide (kp_holds w1)
  clear P1 q0 q1 q2 q3 q4 q5 q6 q7
  go_wp2_with fail
  go_cut [5, 6, 7] from 15 to 26 (fun v5 v6 v7 wx => ∃ g5 g6 g7, v5 = .pointer (some ⟨g5, 0, none⟩) ∧ v6 = .pointer (some ⟨g6, 0, none⟩) ∧ v7 = .pointer (some ⟨g7, 0, none⟩) ∧ Var wx 40 g5 ux uy ∧ Var wx 40 g6 dx dy ∧ Var wx 40 g7 nx ny ∧ w1.heap.size ≤ g5 ∧ w1.heap.size ≤ g6 ∧ w1.heap.size ≤ g7 ∧ Kp w1 wx)
  case first =>
    refine wp_region_held_drew (S := fun wx => Kp w1 wx) (by kernel_rfl) ((unhide HS).drew (unhide A0)) (fun S0 => ?_)
    refine takeD (i := 0) (d := some 15) (v := _) rfl rfl (by kernel_rfl) (by kernel_rfl) (by kernel_rfl) (fun _ _ _ h => h) (Or.inl ⟨by rfl, fun wz hz => by (go_simp; try with_reducible rfl)⟩) S0 ?_
    try simp only [Act.put, List.setIfInBounds_toArray, List.set_cons_zero, List.set_cons_succ]
    refine takeD (i := 1) (d := some 16) (v := _) rfl rfl (by kernel_rfl) (by kernel_rfl) (by kernel_rfl) (fun _ _ _ h => h) (Or.inl ⟨by rfl, fun wz hz => by (go_simp; try with_reducible rfl)⟩) S0 ?_
    try simp only [Act.put, List.setIfInBounds_toArray, List.set_cons_zero, List.set_cons_succ]
    refine takeD (i := 3) (d := some 18) (v := _) rfl rfl (by kernel_rfl) (by kernel_rfl) (by kernel_rfl) (fun _ _ _ h => h) (Or.inl ⟨by rfl, fun wz hz => by (go_simp; try with_reducible rfl)⟩) S0 ?_
    try simp only [Act.put, List.setIfInBounds_toArray, List.set_cons_zero, List.set_cons_succ]
    refine takeD (i := 4) (d := some 19) (v := _) rfl rfl (by kernel_rfl) (by kernel_rfl) (by kernel_rfl) (fun _ _ _ h => h) (Or.inl ⟨by rfl, fun wz hz => by (go_simp; try with_reducible rfl)⟩) S0 ?_
    try simp only [Act.put, List.setIfInBounds_toArray, List.set_cons_zero, List.set_cons_succ]
    refine takeD (i := 5) (d := some 20) (v := _) rfl rfl (by kernel_rfl) (by kernel_rfl) (by kernel_rfl) (fun _ _ _ h => h) (Or.inl ⟨by rfl, fun wz hz => by (go_simp; try with_reducible rfl)⟩) S0 ?_
    try simp only [Act.put, List.setIfInBounds_toArray, List.set_cons_zero, List.set_cons_succ]
    refine takeD (i := 6) (d := some 21) (v := _) rfl rfl (by kernel_rfl) (by kernel_rfl) (by kernel_rfl) (fun _ _ _ h => h) (Or.inl ⟨by rfl, fun wz hz => by (go_simp; try with_reducible rfl)⟩) S0 ?_
    try simp only [Act.put, List.setIfInBounds_toArray, List.set_cons_zero, List.set_cons_succ]
    refine takeD (i := 9) (d := some 24) (v := _) rfl rfl (by kernel_rfl) (by kernel_rfl) (by kernel_rfl) (fun _ _ _ h => h) (Or.inl ⟨by rfl, fun wz hz => by (go_simp; try with_reducible rfl)⟩) S0 ?_
    try simp only [Act.put, List.setIfInBounds_toArray, List.set_cons_zero, List.set_cons_succ]
    refine takeD (i := 10) (d := some 25) (v := _) rfl rfl (by kernel_rfl) (by kernel_rfl) (by kernel_rfl) (fun _ _ _ h => h) (Or.inl ⟨by rfl, fun wz hz => by (go_simp; try with_reducible rfl)⟩) S0 ?_
    try simp only [Act.put, List.setIfInBounds_toArray, List.set_cons_zero, List.set_cons_succ]
    refine wpAnyH_inv (LWS w w1 nm ux uy tx ty dx dy nx ny qa ql qc aa al ac ma ml mc ca cl cc qs clock epoch next serial apps ms cs) ?step ?fin 10 _ _ _ (.inl (⟨rfl, by kernel_rfl, rfl, S0⟩))
    case fin =>
      intro lz az wz hI
      rcases hI with h | h | h | h | h | h | h | h | h | h | h | h | h | h | h | h | h | h | h | h | h | h | h | h | h | h | h | h | h | h | h | h | h | h | h | h | h | h | h | h | h | h | h
      · obtain ⟨hn, _⟩ := h
        cases hn
      · obtain ⟨_, hn, _⟩ := h
        cases hn
      · obtain ⟨_, hn, _⟩ := h
        cases hn
      · obtain ⟨_, _, hn, _⟩ := h
        cases hn
      · obtain ⟨_, hn, _⟩ := h
        cases hn
      · obtain ⟨_, _, hn, _⟩ := h
        cases hn
      · obtain ⟨_, _, hn, _⟩ := h
        cases hn
      · obtain ⟨_, _, _, hn, _⟩ := h
        cases hn
      · obtain ⟨hn, _⟩ := h
        cases hn
      · obtain ⟨_, hn, _⟩ := h
        cases hn
      · obtain ⟨_, hn, _⟩ := h
        cases hn
      · obtain ⟨_, _, hn, _⟩ := h
        cases hn
      · obtain ⟨_, hn, _⟩ := h
        cases hn
      · obtain ⟨_, _, hn, _⟩ := h
        cases hn
      · obtain ⟨_, _, hn, _⟩ := h
        cases hn
      · obtain ⟨_, _, _, hn, _⟩ := h
        cases hn
      · obtain ⟨hn, _⟩ := h
        cases hn
      · obtain ⟨_, hn, _⟩ := h
        cases hn
      · obtain ⟨_, hn, _⟩ := h
        cases hn
      · obtain ⟨_, _, hn, _⟩ := h
        cases hn
      · obtain ⟨_, hn, _⟩ := h
        cases hn
      · obtain ⟨_, _, hn, _⟩ := h
        cases hn
      · obtain ⟨_, _, hn, _⟩ := h
        cases hn
      · obtain ⟨_, _, _, hn, _⟩ := h
        cases hn
      · obtain ⟨hn, _⟩ := h
        cases hn
      · obtain ⟨_, hn, _⟩ := h
        cases hn
      · obtain ⟨_, hn, _⟩ := h
        cases hn
      · obtain ⟨_, _, hn, _⟩ := h
        cases hn
      · obtain ⟨_, hn, _⟩ := h
        cases hn
      · obtain ⟨_, _, hn, _⟩ := h
        cases hn
      · obtain ⟨_, _, hn, _⟩ := h
        cases hn
      · obtain ⟨_, _, _, hn, _⟩ := h
        cases hn
      · obtain ⟨hn, _⟩ := h
        cases hn
      · obtain ⟨_, hn, _⟩ := h
        cases hn
      · obtain ⟨_, hn, _⟩ := h
        cases hn
      · obtain ⟨_, _, hn, _⟩ := h
        cases hn
      · obtain ⟨_, hn, _⟩ := h
        cases hn
      · obtain ⟨_, _, hn, _⟩ := h
        cases hn
      · obtain ⟨_, _, hn, _⟩ := h
        cases hn
      · obtain ⟨_, _, _, hn, _⟩ := h
        cases hn
      · obtain ⟨_, _, _, hn, _⟩ := h
        cases hn
      · obtain ⟨_, _, _, hn, _⟩ := h
        cases hn
      · obtain ⟨g5, g6, g7, -, rfl, rfl, v5, v6, v7, _, _, _, kp⟩ := h
        refine ⟨by kernel_rfl, ?_⟩
        go_wp2_with fail
        go_meet
        exact ⟨g5, g6, g7, rfl, rfl, rfl, v5.2, v6.2, v7.2, v5.1, v6.1, v7.1, kp⟩
    case step =>
      intro n lz az wz hI
      rcases hI with h | h | h | h | h | h | h | h | h | h | h | h | h | h | h | h | h | h | h | h | h | h | h | h | h | h | h | h | h | h | h | h | h | h | h | h | h | h | h | h | h | h | h
      · obtain ⟨hn, rfl, rfl, kp⟩ := h
        obtain rfl : n = 9 := by omega
        refine ready_step (rs := [2, 12, 13, 14]) (by kernel_rfl) (by simp) ?_
        refine AllReadyI.cons rfl (fun K hK => ?_) ?_
        · go_simp
          refine (unhide CU _ (below_on (unhide HB1) kp)).mono ?_
          rintro e w2 ⟨rfl, hb⟩
          go_wp2_with fail
          exact hK.out _ _ (below_on kp hb) (.inr (.inr (.inr (.inr (.inr (.inr (.inr (.inr (.inl (⟨rfl, rfl, rfl, below_on kp hb⟩))))))))))
        refine AllReadyI.cons rfl (fun K hK => ?_) ?_
        · go_simp
          go_wp2_with fail
          exact hK.out _ _ (below_al kp _) (.inr (.inr (.inr (.inr (.inl (⟨wz.heap.size, rfl, rfl, rfl, vb_new kp, below_al kp _⟩))))))
        refine AllReadyI.cons rfl (fun K hK => ?_) ?_
        · go_simp
          go_wp2_with fail
          exact hK.out _ _ (below_al kp _) (.inr (.inr (.inl (⟨wz.heap.size, rfl, rfl, rfl, vb_new kp, below_al kp _⟩))))
        refine AllReadyI.cons rfl (fun K hK => ?_) ?_
        · go_simp
          go_wp2_with fail
          exact hK.out _ _ (below_al kp _) (.inr (.inl (⟨wz.heap.size, rfl, rfl, rfl, vb_new kp, below_al kp _⟩)))
        exact AllReadyI.nil
      · obtain ⟨g7, hn, rfl, rfl, v7, kp⟩ := h
        obtain rfl : n = 8 := by omega
        refine ready_step (rs := [2, 12, 13]) (by kernel_rfl) (by simp) ?_
        refine AllReadyI.cons rfl (fun K hK => ?_) ?_
        · go_simp
          refine (unhide CU _ (below_on (unhide HB1) kp)).mono ?_
          rintro e w2 ⟨rfl, hb⟩
          go_wp2_with fail
          exact hK.out _ _ (below_on kp hb) (.inr (.inr (.inr (.inr (.inr (.inr (.inr (.inr (.inr (.inl (⟨g7, rfl, rfl, rfl, v7.below hb, below_on kp hb⟩)))))))))))
        refine AllReadyI.cons rfl (fun K hK => ?_) ?_
        · go_simp
          go_wp2_with fail
          exact hK.out _ _ (below_al kp _) (.inr (.inr (.inr (.inr (.inr (.inl (⟨wz.heap.size, g7, rfl, rfl, rfl, vb_new kp, v7.al _, v7.ne.symm, below_al kp _⟩)))))))
        refine AllReadyI.cons rfl (fun K hK => ?_) ?_
        · go_simp
          go_wp2_with fail
          exact hK.out _ _ (below_al kp _) (.inr (.inr (.inr (.inl (⟨wz.heap.size, g7, rfl, rfl, rfl, vb_new kp, v7.al _, v7.ne.symm, below_al kp _⟩)))))
        exact AllReadyI.nil
      · obtain ⟨g6, hn, rfl, rfl, v6, kp⟩ := h
        obtain rfl : n = 8 := by omega
        refine ready_step (rs := [2, 12, 14]) (by kernel_rfl) (by simp) ?_
        refine AllReadyI.cons rfl (fun K hK => ?_) ?_
        · go_simp
          refine (unhide CU _ (below_on (unhide HB1) kp)).mono ?_
          rintro e w2 ⟨rfl, hb⟩
          go_wp2_with fail
          exact hK.out _ _ (below_on kp hb) (.inr (.inr (.inr (.inr (.inr (.inr (.inr (.inr (.inr (.inr (.inl (⟨g6, rfl, rfl, rfl, v6.below hb, below_on kp hb⟩))))))))))))
        refine AllReadyI.cons rfl (fun K hK => ?_) ?_
        · go_simp
          go_wp2_with fail
          exact hK.out _ _ (below_al kp _) (.inr (.inr (.inr (.inr (.inr (.inr (.inl (⟨wz.heap.size, g6, rfl, rfl, rfl, vb_new kp, v6.al _, v6.ne.symm, below_al kp _⟩))))))))
        refine AllReadyI.cons rfl (fun K hK => ?_) ?_
        · go_simp
          go_wp2_with fail
          exact hK.out _ _ (below_al kp _) (.inr (.inr (.inr (.inl (⟨g6, wz.heap.size, rfl, rfl, rfl, v6.al _, vb_new kp, v6.ne, below_al kp _⟩)))))
        exact AllReadyI.nil
      · obtain ⟨g6, g7, hn, rfl, rfl, v6, v7, e67, kp⟩ := h
        obtain rfl : n = 7 := by omega
        refine ready_step (rs := [2, 12]) (by kernel_rfl) (by simp) ?_
        refine AllReadyI.cons rfl (fun K hK => ?_) ?_
        · go_simp
          refine (unhide CU _ (below_on (unhide HB1) kp)).mono ?_
          rintro e w2 ⟨rfl, hb⟩
          go_wp2_with fail
          exact hK.out _ _ (below_on kp hb) (.inr (.inr (.inr (.inr (.inr (.inr (.inr (.inr (.inr (.inr (.inr (.inl (⟨g6, g7, rfl, rfl, rfl, v6.below hb, v7.below hb, e67, below_on kp hb⟩)))))))))))))
        refine AllReadyI.cons rfl (fun K hK => ?_) ?_
        · go_simp
          go_wp2_with fail
          exact hK.out _ _ (below_al kp _) (.inr (.inr (.inr (.inr (.inr (.inr (.inr (.inl (⟨wz.heap.size, g6, g7, rfl, rfl, rfl, vb_new kp, v6.al _, v7.al _, v6.ne.symm, v7.ne.symm, e67, below_al kp _⟩)))))))))
        exact AllReadyI.nil
      · obtain ⟨g5, hn, rfl, rfl, v5, kp⟩ := h
        obtain rfl : n = 8 := by omega
        refine ready_step (rs := [2, 13, 14]) (by kernel_rfl) (by simp) ?_
        refine AllReadyI.cons rfl (fun K hK => ?_) ?_
        · go_simp
          refine (unhide CU _ (below_on (unhide HB1) kp)).mono ?_
          rintro e w2 ⟨rfl, hb⟩
          go_wp2_with fail
          exact hK.out _ _ (below_on kp hb) (.inr (.inr (.inr (.inr (.inr (.inr (.inr (.inr (.inr (.inr (.inr (.inr (.inl (⟨g5, rfl, rfl, rfl, v5.below hb, below_on kp hb⟩))))))))))))))
        refine AllReadyI.cons rfl (fun K hK => ?_) ?_
        · go_simp
          go_wp2_with fail
          exact hK.out _ _ (below_al kp _) (.inr (.inr (.inr (.inr (.inr (.inr (.inl (⟨g5, wz.heap.size, rfl, rfl, rfl, v5.al _, vb_new kp, v5.ne, below_al kp _⟩))))))))
        refine AllReadyI.cons rfl (fun K hK => ?_) ?_
        · go_simp
          go_wp2_with fail
          exact hK.out _ _ (below_al kp _) (.inr (.inr (.inr (.inr (.inr (.inl (⟨g5, wz.heap.size, rfl, rfl, rfl, v5.al _, vb_new kp, v5.ne, below_al kp _⟩)))))))
        exact AllReadyI.nil
      · obtain ⟨g5, g7, hn, rfl, rfl, v5, v7, e57, kp⟩ := h
        obtain rfl : n = 7 := by omega
        refine ready_step (rs := [2, 13]) (by kernel_rfl) (by simp) ?_
        refine AllReadyI.cons rfl (fun K hK => ?_) ?_
        · go_simp
          refine (unhide CU _ (below_on (unhide HB1) kp)).mono ?_
          rintro e w2 ⟨rfl, hb⟩
          go_wp2_with fail
          exact hK.out _ _ (below_on kp hb) (.inr (.inr (.inr (.inr (.inr (.inr (.inr (.inr (.inr (.inr (.inr (.inr (.inr (.inl (⟨g5, g7, rfl, rfl, rfl, v5.below hb, v7.below hb, e57, below_on kp hb⟩)))))))))))))))
        refine AllReadyI.cons rfl (fun K hK => ?_) ?_
        · go_simp
          go_wp2_with fail
          exact hK.out _ _ (below_al kp _) (.inr (.inr (.inr (.inr (.inr (.inr (.inr (.inl (⟨g5, wz.heap.size, g7, rfl, rfl, rfl, v5.al _, vb_new kp, v7.al _, v5.ne, e57, v7.ne.symm, below_al kp _⟩)))))))))
        exact AllReadyI.nil
      · obtain ⟨g5, g6, hn, rfl, rfl, v5, v6, e56, kp⟩ := h
        obtain rfl : n = 7 := by omega
        refine ready_step (rs := [2, 14]) (by kernel_rfl) (by simp) ?_
        refine AllReadyI.cons rfl (fun K hK => ?_) ?_
        · go_simp
          refine (unhide CU _ (below_on (unhide HB1) kp)).mono ?_
          rintro e w2 ⟨rfl, hb⟩
          go_wp2_with fail
          exact hK.out _ _ (below_on kp hb) (.inr (.inr (.inr (.inr (.inr (.inr (.inr (.inr (.inr (.inr (.inr (.inr (.inr (.inr (.inl (⟨g5, g6, rfl, rfl, rfl, v5.below hb, v6.below hb, e56, below_on kp hb⟩))))))))))))))))
        refine AllReadyI.cons rfl (fun K hK => ?_) ?_
        · go_simp
          go_wp2_with fail
          exact hK.out _ _ (below_al kp _) (.inr (.inr (.inr (.inr (.inr (.inr (.inr (.inl (⟨g5, g6, wz.heap.size, rfl, rfl, rfl, v5.al _, v6.al _, vb_new kp, e56, v5.ne, v6.ne, below_al kp _⟩)))))))))
        exact AllReadyI.nil
      · obtain ⟨g5, g6, g7, hn, rfl, rfl, v5, v6, v7, e56, e57, e67, kp⟩ := h
        obtain rfl : n = 6 := by omega
        refine ready_step (rs := [2]) (by kernel_rfl) (by simp) ?_
        refine AllReadyI.cons rfl (fun K hK => ?_) ?_
        · go_simp
          refine (unhide CU _ (below_on (unhide HB1) kp)).mono ?_
          rintro e w2 ⟨rfl, hb⟩
          go_wp2_with fail
          exact hK.out _ _ (below_on kp hb) (.inr (.inr (.inr (.inr (.inr (.inr (.inr (.inr (.inr (.inr (.inr (.inr (.inr (.inr (.inr (.inl (⟨g5, g6, g7, rfl, rfl, rfl, v5.below hb, v6.below hb, v7.below hb, e56, e57, e67, below_on kp hb⟩)))))))))))))))))
        exact AllReadyI.nil
      · obtain ⟨hn, rfl, rfl, kp⟩ := h
        obtain rfl : n = 8 := by omega
        refine ready_step (rs := [7, 12, 13, 14]) (by kernel_rfl) (by simp) ?_
        refine AllReadyI.cons rfl (fun K hK => ?_) ?_
        · go_simp
          refine (unhide CT _ (below_on (unhide HB1) kp)).mono ?_
          rintro e w2 ⟨rfl, hb⟩
          go_wp2_with fail
          exact hK.out _ _ (below_on kp hb) (.inr (.inr (.inr (.inr (.inr (.inr (.inr (.inr (.inr (.inr (.inr (.inr (.inr (.inr (.inr (.inr (.inl (⟨rfl, rfl, rfl, below_on kp hb⟩))))))))))))))))))
        refine AllReadyI.cons rfl (fun K hK => ?_) ?_
        · go_simp
          go_wp2_with fail
          exact hK.out _ _ (below_al kp _) (.inr (.inr (.inr (.inr (.inr (.inr (.inr (.inr (.inr (.inr (.inr (.inr (.inl (⟨wz.heap.size, rfl, rfl, rfl, vb_new kp, below_al kp _⟩))))))))))))))
        refine AllReadyI.cons rfl (fun K hK => ?_) ?_
        · go_simp
          go_wp2_with fail
          exact hK.out _ _ (below_al kp _) (.inr (.inr (.inr (.inr (.inr (.inr (.inr (.inr (.inr (.inr (.inl (⟨wz.heap.size, rfl, rfl, rfl, vb_new kp, below_al kp _⟩))))))))))))
        refine AllReadyI.cons rfl (fun K hK => ?_) ?_
        · go_simp
          go_wp2_with fail
          exact hK.out _ _ (below_al kp _) (.inr (.inr (.inr (.inr (.inr (.inr (.inr (.inr (.inr (.inl (⟨wz.heap.size, rfl, rfl, rfl, vb_new kp, below_al kp _⟩)))))))))))
        exact AllReadyI.nil
      · obtain ⟨g7, hn, rfl, rfl, v7, kp⟩ := h
        obtain rfl : n = 7 := by omega
        refine ready_step (rs := [7, 12, 13]) (by kernel_rfl) (by simp) ?_
        refine AllReadyI.cons rfl (fun K hK => ?_) ?_
        · go_simp
          refine (unhide CT _ (below_on (unhide HB1) kp)).mono ?_
          rintro e w2 ⟨rfl, hb⟩
          go_wp2_with fail
          exact hK.out _ _ (below_on kp hb) (.inr (.inr (.inr (.inr (.inr (.inr (.inr (.inr (.inr (.inr (.inr (.inr (.inr (.inr (.inr (.inr (.inr (.inl (⟨g7, rfl, rfl, rfl, v7.below hb, below_on kp hb⟩)))))))))))))))))))
        refine AllReadyI.cons rfl (fun K hK => ?_) ?_
        · go_simp
          go_wp2_with fail
          exact hK.out _ _ (below_al kp _) (.inr (.inr (.inr (.inr (.inr (.inr (.inr (.inr (.inr (.inr (.inr (.inr (.inr (.inl (⟨wz.heap.size, g7, rfl, rfl, rfl, vb_new kp, v7.al _, v7.ne.symm, below_al kp _⟩)))))))))))))))
        refine AllReadyI.cons rfl (fun K hK => ?_) ?_
        · go_simp
          go_wp2_with fail
          exact hK.out _ _ (below_al kp _) (.inr (.inr (.inr (.inr (.inr (.inr (.inr (.inr (.inr (.inr (.inr (.inl (⟨wz.heap.size, g7, rfl, rfl, rfl, vb_new kp, v7.al _, v7.ne.symm, below_al kp _⟩)))))))))))))
        exact AllReadyI.nil
      · obtain ⟨g6, hn, rfl, rfl, v6, kp⟩ := h
        obtain rfl : n = 7 := by omega
        refine ready_step (rs := [7, 12, 14]) (by kernel_rfl) (by simp) ?_
        refine AllReadyI.cons rfl (fun K hK => ?_) ?_
        · go_simp
          refine (unhide CT _ (below_on (unhide HB1) kp)).mono ?_
          rintro e w2 ⟨rfl, hb⟩
          go_wp2_with fail
          exact hK.out _ _ (below_on kp hb) (.inr (.inr (.inr (.inr (.inr (.inr (.inr (.inr (.inr (.inr (.inr (.inr (.inr (.inr (.inr (.inr (.inr (.inr (.inl (⟨g6, rfl, rfl, rfl, v6.below hb, below_on kp hb⟩))))))))))))))))))))
        refine AllReadyI.cons rfl (fun K hK => ?_) ?_
        · go_simp
          go_wp2_with fail
          exact hK.out _ _ (below_al kp _) (.inr (.inr (.inr (.inr (.inr (.inr (.inr (.inr (.inr (.inr (.inr (.inr (.inr (.inr (.inl (⟨wz.heap.size, g6, rfl, rfl, rfl, vb_new kp, v6.al _, v6.ne.symm, below_al kp _⟩))))))))))))))))
        refine AllReadyI.cons rfl (fun K hK => ?_) ?_
        · go_simp
          go_wp2_with fail
          exact hK.out _ _ (below_al kp _) (.inr (.inr (.inr (.inr (.inr (.inr (.inr (.inr (.inr (.inr (.inr (.inl (⟨g6, wz.heap.size, rfl, rfl, rfl, v6.al _, vb_new kp, v6.ne, below_al kp _⟩)))))))))))))
        exact AllReadyI.nil
      · obtain ⟨g6, g7, hn, rfl, rfl, v6, v7, e67, kp⟩ := h
        obtain rfl : n = 6 := by omega
        refine ready_step (rs := [7, 12]) (by kernel_rfl) (by simp) ?_
        refine AllReadyI.cons rfl (fun K hK => ?_) ?_
        · go_simp
          refine (unhide CT _ (below_on (unhide HB1) kp)).mono ?_
          rintro e w2 ⟨rfl, hb⟩
          go_wp2_with fail
          exact hK.out _ _ (below_on kp hb) (.inr (.inr (.inr (.inr (.inr (.inr (.inr (.inr (.inr (.inr (.inr (.inr (.inr (.inr (.inr (.inr (.inr (.inr (.inr (.inl (⟨g6, g7, rfl, rfl, rfl, v6.below hb, v7.below hb, e67, below_on kp hb⟩)))))))))))))))))))))
        refine AllReadyI.cons rfl (fun K hK => ?_) ?_
        · go_simp
          go_wp2_with fail
          exact hK.out _ _ (below_al kp _) (.inr (.inr (.inr (.inr (.inr (.inr (.inr (.inr (.inr (.inr (.inr (.inr (.inr (.inr (.inr (.inl (⟨wz.heap.size, g6, g7, rfl, rfl, rfl, vb_new kp, v6.al _, v7.al _, v6.ne.symm, v7.ne.symm, e67, below_al kp _⟩)))))))))))))))))
        exact AllReadyI.nil
      · obtain ⟨g5, hn, rfl, rfl, v5, kp⟩ := h
        obtain rfl : n = 7 := by omega
        refine ready_step (rs := [7, 13, 14]) (by kernel_rfl) (by simp) ?_
        refine AllReadyI.cons rfl (fun K hK => ?_) ?_
        · go_simp
          refine (unhide CT _ (below_on (unhide HB1) kp)).mono ?_
          rintro e w2 ⟨rfl, hb⟩
          go_wp2_with fail
          exact hK.out _ _ (below_on kp hb) (.inr (.inr (.inr (.inr (.inr (.inr (.inr (.inr (.inr (.inr (.inr (.inr (.inr (.inr (.inr (.inr (.inr (.inr (.inr (.inr (.inl (⟨g5, rfl, rfl, rfl, v5.below hb, below_on kp hb⟩))))))))))))))))))))))
        refine AllReadyI.cons rfl (fun K hK => ?_) ?_
        · go_simp
          go_wp2_with fail
          exact hK.out _ _ (below_al kp _) (.inr (.inr (.inr (.inr (.inr (.inr (.inr (.inr (.inr (.inr (.inr (.inr (.inr (.inr (.inl (⟨g5, wz.heap.size, rfl, rfl, rfl, v5.al _, vb_new kp, v5.ne, below_al kp _⟩))))))))))))))))
        refine AllReadyI.cons rfl (fun K hK => ?_) ?_
        · go_simp
          go_wp2_with fail
          exact hK.out _ _ (below_al kp _) (.inr (.inr (.inr (.inr (.inr (.inr (.inr (.inr (.inr (.inr (.inr (.inr (.inr (.inl (⟨g5, wz.heap.size, rfl, rfl, rfl, v5.al _, vb_new kp, v5.ne, below_al kp _⟩)))))))))))))))
        exact AllReadyI.nil
      · obtain ⟨g5, g7, hn, rfl, rfl, v5, v7, e57, kp⟩ := h
        obtain rfl : n = 6 := by omega
        refine ready_step (rs := [7, 13]) (by kernel_rfl) (by simp) ?_
        refine AllReadyI.cons rfl (fun K hK => ?_) ?_
        · go_simp
          refine (unhide CT _ (below_on (unhide HB1) kp)).mono ?_
          rintro e w2 ⟨rfl, hb⟩
          go_wp2_with fail
          exact hK.out _ _ (below_on kp hb) (.inr (.inr (.inr (.inr (.inr (.inr (.inr (.inr (.inr (.inr (.inr (.inr (.inr (.inr (.inr (.inr (.inr (.inr (.inr (.inr (.inr (.inl (⟨g5, g7, rfl, rfl, rfl, v5.below hb, v7.below hb, e57, below_on kp hb⟩)))))))))))))))))))))))
        refine AllReadyI.cons rfl (fun K hK => ?_) ?_
        · go_simp
          go_wp2_with fail
          exact hK.out _ _ (below_al kp _) (.inr (.inr (.inr (.inr (.inr (.inr (.inr (.inr (.inr (.inr (.inr (.inr (.inr (.inr (.inr (.inl (⟨g5, wz.heap.size, g7, rfl, rfl, rfl, v5.al _, vb_new kp, v7.al _, v5.ne, e57, v7.ne.symm, below_al kp _⟩)))))))))))))))))
        exact AllReadyI.nil
      · obtain ⟨g5, g6, hn, rfl, rfl, v5, v6, e56, kp⟩ := h
        obtain rfl : n = 6 := by omega
        refine ready_step (rs := [7, 14]) (by kernel_rfl) (by simp) ?_
        refine AllReadyI.cons rfl (fun K hK => ?_) ?_
        · go_simp
          refine (unhide CT _ (below_on (unhide HB1) kp)).mono ?_
          rintro e w2 ⟨rfl, hb⟩
          go_wp2_with fail
          exact hK.out _ _ (below_on kp hb) (.inr (.inr (.inr (.inr (.inr (.inr (.inr (.inr (.inr (.inr (.inr (.inr (.inr (.inr (.inr (.inr (.inr (.inr (.inr (.inr (.inr (.inr (.inl (⟨g5, g6, rfl, rfl, rfl, v5.below hb, v6.below hb, e56, below_on kp hb⟩))))))))))))))))))))))))
        refine AllReadyI.cons rfl (fun K hK => ?_) ?_
        · go_simp
          go_wp2_with fail
          exact hK.out _ _ (below_al kp _) (.inr (.inr (.inr (.inr (.inr (.inr (.inr (.inr (.inr (.inr (.inr (.inr (.inr (.inr (.inr (.inl (⟨g5, g6, wz.heap.size, rfl, rfl, rfl, v5.al _, v6.al _, vb_new kp, e56, v5.ne, v6.ne, below_al kp _⟩)))))))))))))))))
        exact AllReadyI.nil
      · obtain ⟨g5, g6, g7, hn, rfl, rfl, v5, v6, v7, e56, e57, e67, kp⟩ := h
        obtain rfl : n = 5 := by omega
        refine ready_step (rs := [7]) (by kernel_rfl) (by simp) ?_
        refine AllReadyI.cons rfl (fun K hK => ?_) ?_
        · go_simp
          refine (unhide CT _ (below_on (unhide HB1) kp)).mono ?_
          rintro e w2 ⟨rfl, hb⟩
          go_wp2_with fail
          exact hK.out _ _ (below_on kp hb) (.inr (.inr (.inr (.inr (.inr (.inr (.inr (.inr (.inr (.inr (.inr (.inr (.inr (.inr (.inr (.inr (.inr (.inr (.inr (.inr (.inr (.inr (.inr (.inl (⟨g5, g6, g7, rfl, rfl, rfl, v5.below hb, v6.below hb, v7.below hb, e56, e57, e67, below_on kp hb⟩)))))))))))))))))))))))))
        exact AllReadyI.nil
      · obtain ⟨hn, rfl, rfl, kp⟩ := h
        obtain rfl : n = 7 := by omega
        refine ready_step (rs := [8, 12, 13, 14]) (by kernel_rfl) (by simp) ?_
        refine AllReadyI.cons rfl (fun K hK => ?_) ?_
        · go_simp
          refine (unhide CD _ (below_on (unhide HB1) kp)).mono ?_
          rintro e w2 ⟨rfl, hb⟩
          go_wp2_with fail
          exact hK.out _ _ (below_on kp hb) (.inr (.inr (.inr (.inr (.inr (.inr (.inr (.inr (.inr (.inr (.inr (.inr (.inr (.inr (.inr (.inr (.inr (.inr (.inr (.inr (.inr (.inr (.inr (.inr (.inl (⟨rfl, rfl, rfl, below_on kp hb⟩))))))))))))))))))))))))))
        refine AllReadyI.cons rfl (fun K hK => ?_) ?_
        · go_simp
          go_wp2_with fail
          exact hK.out _ _ (below_al kp _) (.inr (.inr (.inr (.inr (.inr (.inr (.inr (.inr (.inr (.inr (.inr (.inr (.inr (.inr (.inr (.inr (.inr (.inr (.inr (.inr (.inl (⟨wz.heap.size, rfl, rfl, rfl, vb_new kp, below_al kp _⟩))))))))))))))))))))))
        refine AllReadyI.cons rfl (fun K hK => ?_) ?_
        · go_simp
          go_wp2_with fail
          exact hK.out _ _ (below_al kp _) (.inr (.inr (.inr (.inr (.inr (.inr (.inr (.inr (.inr (.inr (.inr (.inr (.inr (.inr (.inr (.inr (.inr (.inr (.inl (⟨wz.heap.size, rfl, rfl, rfl, vb_new kp, below_al kp _⟩))))))))))))))))))))
        refine AllReadyI.cons rfl (fun K hK => ?_) ?_
        · go_simp
          go_wp2_with fail
          exact hK.out _ _ (below_al kp _) (.inr (.inr (.inr (.inr (.inr (.inr (.inr (.inr (.inr (.inr (.inr (.inr (.inr (.inr (.inr (.inr (.inr (.inl (⟨wz.heap.size, rfl, rfl, rfl, vb_new kp, below_al kp _⟩)))))))))))))))))))
        exact AllReadyI.nil
      · obtain ⟨g7, hn, rfl, rfl, v7, kp⟩ := h
        obtain rfl : n = 6 := by omega
        refine ready_step (rs := [8, 12, 13]) (by kernel_rfl) (by simp) ?_
        refine AllReadyI.cons rfl (fun K hK => ?_) ?_
        · go_simp
          refine (unhide CD _ (below_on (unhide HB1) kp)).mono ?_
          rintro e w2 ⟨rfl, hb⟩
          go_wp2_with fail
          exact hK.out _ _ (below_on kp hb) (.inr (.inr (.inr (.inr (.inr (.inr (.inr (.inr (.inr (.inr (.inr (.inr (.inr (.inr (.inr (.inr (.inr (.inr (.inr (.inr (.inr (.inr (.inr (.inr (.inr (.inl (⟨g7, rfl, rfl, rfl, v7.below hb, below_on kp hb⟩)))))))))))))))))))))))))))
        refine AllReadyI.cons rfl (fun K hK => ?_) ?_
        · go_simp
          go_wp2_with fail
          exact hK.out _ _ (below_al kp _) (.inr (.inr (.inr (.inr (.inr (.inr (.inr (.inr (.inr (.inr (.inr (.inr (.inr (.inr (.inr (.inr (.inr (.inr (.inr (.inr (.inr (.inl (⟨wz.heap.size, g7, rfl, rfl, rfl, vb_new kp, v7.al _, v7.ne.symm, below_al kp _⟩)))))))))))))))))))))))
        refine AllReadyI.cons rfl (fun K hK => ?_) ?_
        · go_simp
          go_wp2_with fail
          exact hK.out _ _ (below_al kp _) (.inr (.inr (.inr (.inr (.inr (.inr (.inr (.inr (.inr (.inr (.inr (.inr (.inr (.inr (.inr (.inr (.inr (.inr (.inr (.inl (⟨wz.heap.size, g7, rfl, rfl, rfl, vb_new kp, v7.al _, v7.ne.symm, below_al kp _⟩)))))))))))))))))))))
        exact AllReadyI.nil
      · obtain ⟨g6, hn, rfl, rfl, v6, kp⟩ := h
        obtain rfl : n = 6 := by omega
        refine ready_step (rs := [8, 12, 14]) (by kernel_rfl) (by simp) ?_
        refine AllReadyI.cons rfl (fun K hK => ?_) ?_
        · go_simp
          refine (unhide CD _ (below_on (unhide HB1) kp)).mono ?_
          rintro e w2 ⟨rfl, hb⟩
          go_wp2_with fail
          exact hK.out _ _ (below_on kp hb) (.inr (.inr (.inr (.inr (.inr (.inr (.inr (.inr (.inr (.inr (.inr (.inr (.inr (.inr (.inr (.inr (.inr (.inr (.inr (.inr (.inr (.inr (.inr (.inr (.inr (.inr (.inl (⟨g6, rfl, rfl, rfl, v6.below hb, below_on kp hb⟩))))))))))))))))))))))))))))
        refine AllReadyI.cons rfl (fun K hK => ?_) ?_
        · go_simp
          go_wp2_with fail
          exact hK.out _ _ (below_al kp _) (.inr (.inr (.inr (.inr (.inr (.inr (.inr (.inr (.inr (.inr (.inr (.inr (.inr (.inr (.inr (.inr (.inr (.inr (.inr (.inr (.inr (.inr (.inl (⟨wz.heap.size, g6, rfl, rfl, rfl, vb_new kp, v6.al _, v6.ne.symm, below_al kp _⟩))))))))))))))))))))))))
        refine AllReadyI.cons rfl (fun K hK => ?_) ?_
        · go_simp
          go_wp2_with fail
          exact hK.out _ _ (below_al kp _) (.inr (.inr (.inr (.inr (.inr (.inr (.inr (.inr (.inr (.inr (.inr (.inr (.inr (.inr (.inr (.inr (.inr (.inr (.inr (.inl (⟨g6, wz.heap.size, rfl, rfl, rfl, v6.al _, vb_new kp, v6.ne, below_al kp _⟩)))))))))))))))))))))
        exact AllReadyI.nil
      · obtain ⟨g6, g7, hn, rfl, rfl, v6, v7, e67, kp⟩ := h
        obtain rfl : n = 5 := by omega
        refine ready_step (rs := [8, 12]) (by kernel_rfl) (by simp) ?_
        refine AllReadyI.cons rfl (fun K hK => ?_) ?_
        · go_simp
          refine (unhide CD _ (below_on (unhide HB1) kp)).mono ?_
          rintro e w2 ⟨rfl, hb⟩
          go_wp2_with fail
          exact hK.out _ _ (below_on kp hb) (.inr (.inr (.inr (.inr (.inr (.inr (.inr (.inr (.inr (.inr (.inr (.inr (.inr (.inr (.inr (.inr (.inr (.inr (.inr (.inr (.inr (.inr (.inr (.inr (.inr (.inr (.inr (.inl (⟨g6, g7, rfl, rfl, rfl, v6.below hb, v7.below hb, e67, below_on kp hb⟩)))))))))))))))))))))))))))))
        refine AllReadyI.cons rfl (fun K hK => ?_) ?_
        · go_simp
          go_wp2_with fail
          exact hK.out _ _ (below_al kp _) (.inr (.inr (.inr (.inr (.inr (.inr (.inr (.inr (.inr (.inr (.inr (.inr (.inr (.inr (.inr (.inr (.inr (.inr (.inr (.inr (.inr (.inr (.inr (.inl (⟨wz.heap.size, g6, g7, rfl, rfl, rfl, vb_new kp, v6.al _, v7.al _, v6.ne.symm, v7.ne.symm, e67, below_al kp _⟩)))))))))))))))))))))))))
        exact AllReadyI.nil
      · obtain ⟨g5, hn, rfl, rfl, v5, kp⟩ := h
        obtain rfl : n = 6 := by omega
        refine ready_step (rs := [8, 13, 14]) (by kernel_rfl) (by simp) ?_
        refine AllReadyI.cons rfl (fun K hK => ?_) ?_
        · go_simp
          refine (unhide CD _ (below_on (unhide HB1) kp)).mono ?_
          rintro e w2 ⟨rfl, hb⟩
          go_wp2_with fail
          exact hK.out _ _ (below_on kp hb) (.inr (.inr (.inr (.inr (.inr (.inr (.inr (.inr (.inr (.inr (.inr (.inr (.inr (.inr (.inr (.inr (.inr (.inr (.inr (.inr (.inr (.inr (.inr (.inr (.inr (.inr (.inr (.inr (.inl (⟨g5, rfl, rfl, rfl, v5.below hb, below_on kp hb⟩))))))))))))))))))))))))))))))
        refine AllReadyI.cons rfl (fun K hK => ?_) ?_
        · go_simp
          go_wp2_with fail
          exact hK.out _ _ (below_al kp _) (.inr (.inr (.inr (.inr (.inr (.inr (.inr (.inr (.inr (.inr (.inr (.inr (.inr (.inr (.inr (.inr (.inr (.inr (.inr (.inr (.inr (.inr (.inl (⟨g5, wz.heap.size, rfl, rfl, rfl, v5.al _, vb_new kp, v5.ne, below_al kp _⟩))))))))))))))))))))))))
        refine AllReadyI.cons rfl (fun K hK => ?_) ?_
        · go_simp
          go_wp2_with fail
          exact hK.out _ _ (below_al kp _) (.inr (.inr (.inr (.inr (.inr (.inr (.inr (.inr (.inr (.inr (.inr (.inr (.inr (.inr (.inr (.inr (.inr (.inr (.inr (.inr (.inr (.inl (⟨g5, wz.heap.size, rfl, rfl, rfl, v5.al _, vb_new kp, v5.ne, below_al kp _⟩)))))))))))))))))))))))
        exact AllReadyI.nil
      · obtain ⟨g5, g7, hn, rfl, rfl, v5, v7, e57, kp⟩ := h
        obtain rfl : n = 5 := by omega
        refine ready_step (rs := [8, 13]) (by kernel_rfl) (by simp) ?_
        refine AllReadyI.cons rfl (fun K hK => ?_) ?_
        · go_simp
          refine (unhide CD _ (below_on (unhide HB1) kp)).mono ?_
          rintro e w2 ⟨rfl, hb⟩
          go_wp2_with fail
          exact hK.out _ _ (below_on kp hb) (.inr (.inr (.inr (.inr (.inr (.inr (.inr (.inr (.inr (.inr (.inr (.inr (.inr (.inr (.inr (.inr (.inr (.inr (.inr (.inr (.inr (.inr (.inr (.inr (.inr (.inr (.inr (.inr (.inr (.inl (⟨g5, g7, rfl, rfl, rfl, v5.below hb, v7.below hb, e57, below_on kp hb⟩)))))))))))))))))))))))))))))))
        refine AllReadyI.cons rfl (fun K hK => ?_) ?_
        · go_simp
          go_wp2_with fail
          exact hK.out _ _ (below_al kp _) (.inr (.inr (.inr (.inr (.inr (.inr (.inr (.inr (.inr (.inr (.inr (.inr (.inr (.inr (.inr (.inr (.inr (.inr (.inr (.inr (.inr (.inr (.inr (.inl (⟨g5, wz.heap.size, g7, rfl, rfl, rfl, v5.al _, vb_new kp, v7.al _, v5.ne, e57, v7.ne.symm, below_al kp _⟩)))))))))))))))))))))))))
        exact AllReadyI.nil
      · obtain ⟨g5, g6, hn, rfl, rfl, v5, v6, e56, kp⟩ := h
        obtain rfl : n = 5 := by omega
        refine ready_step (rs := [8, 14]) (by kernel_rfl) (by simp) ?_
        refine AllReadyI.cons rfl (fun K hK => ?_) ?_
        · go_simp
          refine (unhide CD _ (below_on (unhide HB1) kp)).mono ?_
          rintro e w2 ⟨rfl, hb⟩
          go_wp2_with fail
          exact hK.out _ _ (below_on kp hb) (.inr (.inr (.inr (.inr (.inr (.inr (.inr (.inr (.inr (.inr (.inr (.inr (.inr (.inr (.inr (.inr (.inr (.inr (.inr (.inr (.inr (.inr (.inr (.inr (.inr (.inr (.inr (.inr (.inr (.inr (.inl (⟨g5, g6, rfl, rfl, rfl, v5.below hb, v6.below hb, e56, below_on kp hb⟩))))))))))))))))))))))))))))))))
        refine AllReadyI.cons rfl (fun K hK => ?_) ?_
        · go_simp
          go_wp2_with fail
          exact hK.out _ _ (below_al kp _) (.inr (.inr (.inr (.inr (.inr (.inr (.inr (.inr (.inr (.inr (.inr (.inr (.inr (.inr (.inr (.inr (.inr (.inr (.inr (.inr (.inr (.inr (.inr (.inl (⟨g5, g6, wz.heap.size, rfl, rfl, rfl, v5.al _, v6.al _, vb_new kp, e56, v5.ne, v6.ne, below_al kp _⟩)))))))))))))))))))))))))
        exact AllReadyI.nil
      · obtain ⟨g5, g6, g7, hn, rfl, rfl, v5, v6, v7, e56, e57, e67, kp⟩ := h
        obtain rfl : n = 4 := by omega
        refine ready_step (rs := [8]) (by kernel_rfl) (by simp) ?_
        refine AllReadyI.cons rfl (fun K hK => ?_) ?_
        · go_simp
          refine (unhide CD _ (below_on (unhide HB1) kp)).mono ?_
          rintro e w2 ⟨rfl, hb⟩
          go_wp2_with fail
          exact hK.out _ _ (below_on kp hb) (.inr (.inr (.inr (.inr (.inr (.inr (.inr (.inr (.inr (.inr (.inr (.inr (.inr (.inr (.inr (.inr (.inr (.inr (.inr (.inr (.inr (.inr (.inr (.inr (.inr (.inr (.inr (.inr (.inr (.inr (.inr (.inl (⟨g5, g6, g7, rfl, rfl, rfl, v5.below hb, v6.below hb, v7.below hb, e56, e57, e67, below_on kp hb⟩)))))))))))))))))))))))))))))))))
        exact AllReadyI.nil
      · obtain ⟨hn, rfl, rfl, kp⟩ := h
        obtain rfl : n = 6 := by omega
        refine ready_step (rs := [11, 12, 13, 14]) (by kernel_rfl) (by simp) ?_
        refine AllReadyI.cons rfl (fun K hK => ?_) ?_
        · go_simp
          refine (unhide CW _ (below_on (unhide HB1) kp)).mono ?_
          rintro e w2 ⟨rfl, hb⟩
          go_wp2_with fail
          exact hK.out _ _ (below_on kp hb) (.inr (.inr (.inr (.inr (.inr (.inr (.inr (.inr (.inr (.inr (.inr (.inr (.inr (.inr (.inr (.inr (.inr (.inr (.inr (.inr (.inr (.inr (.inr (.inr (.inr (.inr (.inr (.inr (.inr (.inr (.inr (.inr (.inl (⟨rfl, rfl, rfl, below_on kp hb⟩))))))))))))))))))))))))))))))))))
        refine AllReadyI.cons rfl (fun K hK => ?_) ?_
        · go_simp
          go_wp2_with fail
          exact hK.out _ _ (below_al kp _) (.inr (.inr (.inr (.inr (.inr (.inr (.inr (.inr (.inr (.inr (.inr (.inr (.inr (.inr (.inr (.inr (.inr (.inr (.inr (.inr (.inr (.inr (.inr (.inr (.inr (.inr (.inr (.inr (.inl (⟨wz.heap.size, rfl, rfl, rfl, vb_new kp, below_al kp _⟩))))))))))))))))))))))))))))))
        refine AllReadyI.cons rfl (fun K hK => ?_) ?_
        · go_simp
          go_wp2_with fail
          exact hK.out _ _ (below_al kp _) (.inr (.inr (.inr (.inr (.inr (.inr (.inr (.inr (.inr (.inr (.inr (.inr (.inr (.inr (.inr (.inr (.inr (.inr (.inr (.inr (.inr (.inr (.inr (.inr (.inr (.inr (.inl (⟨wz.heap.size, rfl, rfl, rfl, vb_new kp, below_al kp _⟩))))))))))))))))))))))))))))
        refine AllReadyI.cons rfl (fun K hK => ?_) ?_
        · go_simp
          go_wp2_with fail
          exact hK.out _ _ (below_al kp _) (.inr (.inr (.inr (.inr (.inr (.inr (.inr (.inr (.inr (.inr (.inr (.inr (.inr (.inr (.inr (.inr (.inr (.inr (.inr (.inr (.inr (.inr (.inr (.inr (.inr (.inl (⟨wz.heap.size, rfl, rfl, rfl, vb_new kp, below_al kp _⟩)))))))))))))))))))))))))))
        exact AllReadyI.nil
      · obtain ⟨g7, hn, rfl, rfl, v7, kp⟩ := h
        obtain rfl : n = 5 := by omega
        refine ready_step (rs := [11, 12, 13]) (by kernel_rfl) (by simp) ?_
        refine AllReadyI.cons rfl (fun K hK => ?_) ?_
        · go_simp
          refine (unhide CW _ (below_on (unhide HB1) kp)).mono ?_
          rintro e w2 ⟨rfl, hb⟩
          go_wp2_with fail
          exact hK.out _ _ (below_on kp hb) (.inr (.inr (.inr (.inr (.inr (.inr (.inr (.inr (.inr (.inr (.inr (.inr (.inr (.inr (.inr (.inr (.inr (.inr (.inr (.inr (.inr (.inr (.inr (.inr (.inr (.inr (.inr (.inr (.inr (.inr (.inr (.inr (.inr (.inl (⟨g7, rfl, rfl, rfl, v7.below hb, below_on kp hb⟩)))))))))))))))))))))))))))))))))))
        refine AllReadyI.cons rfl (fun K hK => ?_) ?_
        · go_simp
          go_wp2_with fail
          exact hK.out _ _ (below_al kp _) (.inr (.inr (.inr (.inr (.inr (.inr (.inr (.inr (.inr (.inr (.inr (.inr (.inr (.inr (.inr (.inr (.inr (.inr (.inr (.inr (.inr (.inr (.inr (.inr (.inr (.inr (.inr (.inr (.inr (.inl (⟨wz.heap.size, g7, rfl, rfl, rfl, vb_new kp, v7.al _, v7.ne.symm, below_al kp _⟩)))))))))))))))))))))))))))))))
        refine AllReadyI.cons rfl (fun K hK => ?_) ?_
        · go_simp
          go_wp2_with fail
          exact hK.out _ _ (below_al kp _) (.inr (.inr (.inr (.inr (.inr (.inr (.inr (.inr (.inr (.inr (.inr (.inr (.inr (.inr (.inr (.inr (.inr (.inr (.inr (.inr (.inr (.inr (.inr (.inr (.inr (.inr (.inr (.inl (⟨wz.heap.size, g7, rfl, rfl, rfl, vb_new kp, v7.al _, v7.ne.symm, below_al kp _⟩)))))))))))))))))))))))))))))
        exact AllReadyI.nil
      · obtain ⟨g6, hn, rfl, rfl, v6, kp⟩ := h
        obtain rfl : n = 5 := by omega
        refine ready_step (rs := [11, 12, 14]) (by kernel_rfl) (by simp) ?_
        refine AllReadyI.cons rfl (fun K hK => ?_) ?_
        · go_simp
          refine (unhide CW _ (below_on (unhide HB1) kp)).mono ?_
          rintro e w2 ⟨rfl, hb⟩
          go_wp2_with fail
          exact hK.out _ _ (below_on kp hb) (.inr (.inr (.inr (.inr (.inr (.inr (.inr (.inr (.inr (.inr (.inr (.inr (.inr (.inr (.inr (.inr (.inr (.inr (.inr (.inr (.inr (.inr (.inr (.inr (.inr (.inr (.inr (.inr (.inr (.inr (.inr (.inr (.inr (.inr (.inl (⟨g6, rfl, rfl, rfl, v6.below hb, below_on kp hb⟩))))))))))))))))))))))))))))))))))))
        refine AllReadyI.cons rfl (fun K hK => ?_) ?_
        · go_simp
          go_wp2_with fail
          exact hK.out _ _ (below_al kp _) (.inr (.inr (.inr (.inr (.inr (.inr (.inr (.inr (.inr (.inr (.inr (.inr (.inr (.inr (.inr (.inr (.inr (.inr (.inr (.inr (.inr (.inr (.inr (.inr (.inr (.inr (.inr (.inr (.inr (.inr (.inl (⟨wz.heap.size, g6, rfl, rfl, rfl, vb_new kp, v6.al _, v6.ne.symm, below_al kp _⟩))))))))))))))))))))))))))))))))
        refine AllReadyI.cons rfl (fun K hK => ?_) ?_
        · go_simp
          go_wp2_with fail
          exact hK.out _ _ (below_al kp _) (.inr (.inr (.inr (.inr (.inr (.inr (.inr (.inr (.inr (.inr (.inr (.inr (.inr (.inr (.inr (.inr (.inr (.inr (.inr (.inr (.inr (.inr (.inr (.inr (.inr (.inr (.inr (.inl (⟨g6, wz.heap.size, rfl, rfl, rfl, v6.al _, vb_new kp, v6.ne, below_al kp _⟩)))))))))))))))))))))))))))))
        exact AllReadyI.nil
      · obtain ⟨g6, g7, hn, rfl, rfl, v6, v7, e67, kp⟩ := h
        obtain rfl : n = 4 := by omega
        refine ready_step (rs := [11, 12]) (by kernel_rfl) (by simp) ?_
        refine AllReadyI.cons rfl (fun K hK => ?_) ?_
        · go_simp
          refine (unhide CW _ (below_on (unhide HB1) kp)).mono ?_
          rintro e w2 ⟨rfl, hb⟩
          go_wp2_with fail
          exact hK.out _ _ (below_on kp hb) (.inr (.inr (.inr (.inr (.inr (.inr (.inr (.inr (.inr (.inr (.inr (.inr (.inr (.inr (.inr (.inr (.inr (.inr (.inr (.inr (.inr (.inr (.inr (.inr (.inr (.inr (.inr (.inr (.inr (.inr (.inr (.inr (.inr (.inr (.inr (.inl (⟨g6, g7, rfl, rfl, rfl, v6.below hb, v7.below hb, e67, below_on kp hb⟩)))))))))))))))))))))))))))))))))))))
        refine AllReadyI.cons rfl (fun K hK => ?_) ?_
        · go_simp
          go_wp2_with fail
          exact hK.out _ _ (below_al kp _) (.inr (.inr (.inr (.inr (.inr (.inr (.inr (.inr (.inr (.inr (.inr (.inr (.inr (.inr (.inr (.inr (.inr (.inr (.inr (.inr (.inr (.inr (.inr (.inr (.inr (.inr (.inr (.inr (.inr (.inr (.inr (.inl (⟨wz.heap.size, g6, g7, rfl, rfl, rfl, vb_new kp, v6.al _, v7.al _, v6.ne.symm, v7.ne.symm, e67, below_al kp _⟩)))))))))))))))))))))))))))))))))
        exact AllReadyI.nil
      · obtain ⟨g5, hn, rfl, rfl, v5, kp⟩ := h
        obtain rfl : n = 5 := by omega
        refine ready_step (rs := [11, 13, 14]) (by kernel_rfl) (by simp) ?_
        refine AllReadyI.cons rfl (fun K hK => ?_) ?_
        · go_simp
          refine (unhide CW _ (below_on (unhide HB1) kp)).mono ?_
          rintro e w2 ⟨rfl, hb⟩
          go_wp2_with fail
          exact hK.out _ _ (below_on kp hb) (.inr (.inr (.inr (.inr (.inr (.inr (.inr (.inr (.inr (.inr (.inr (.inr (.inr (.inr (.inr (.inr (.inr (.inr (.inr (.inr (.inr (.inr (.inr (.inr (.inr (.inr (.inr (.inr (.inr (.inr (.inr (.inr (.inr (.inr (.inr (.inr (.inl (⟨g5, rfl, rfl, rfl, v5.below hb, below_on kp hb⟩))))))))))))))))))))))))))))))))))))))
        refine AllReadyI.cons rfl (fun K hK => ?_) ?_
        · go_simp
          go_wp2_with fail
          exact hK.out _ _ (below_al kp _) (.inr (.inr (.inr (.inr (.inr (.inr (.inr (.inr (.inr (.inr (.inr (.inr (.inr (.inr (.inr (.inr (.inr (.inr (.inr (.inr (.inr (.inr (.inr (.inr (.inr (.inr (.inr (.inr (.inr (.inr (.inl (⟨g5, wz.heap.size, rfl, rfl, rfl, v5.al _, vb_new kp, v5.ne, below_al kp _⟩))))))))))))))))))))))))))))))))
        refine AllReadyI.cons rfl (fun K hK => ?_) ?_
        · go_simp
          go_wp2_with fail
          exact hK.out _ _ (below_al kp _) (.inr (.inr (.inr (.inr (.inr (.inr (.inr (.inr (.inr (.inr (.inr (.inr (.inr (.inr (.inr (.inr (.inr (.inr (.inr (.inr (.inr (.inr (.inr (.inr (.inr (.inr (.inr (.inr (.inr (.inl (⟨g5, wz.heap.size, rfl, rfl, rfl, v5.al _, vb_new kp, v5.ne, below_al kp _⟩)))))))))))))))))))))))))))))))
        exact AllReadyI.nil
      · obtain ⟨g5, g7, hn, rfl, rfl, v5, v7, e57, kp⟩ := h
        obtain rfl : n = 4 := by omega
        refine ready_step (rs := [11, 13]) (by kernel_rfl) (by simp) ?_
        refine AllReadyI.cons rfl (fun K hK => ?_) ?_
        · go_simp
          refine (unhide CW _ (below_on (unhide HB1) kp)).mono ?_
          rintro e w2 ⟨rfl, hb⟩
          go_wp2_with fail
          exact hK.out _ _ (below_on kp hb) (.inr (.inr (.inr (.inr (.inr (.inr (.inr (.inr (.inr (.inr (.inr (.inr (.inr (.inr (.inr (.inr (.inr (.inr (.inr (.inr (.inr (.inr (.inr (.inr (.inr (.inr (.inr (.inr (.inr (.inr (.inr (.inr (.inr (.inr (.inr (.inr (.inr (.inl (⟨g5, g7, rfl, rfl, rfl, v5.below hb, v7.below hb, e57, below_on kp hb⟩)))))))))))))))))))))))))))))))))))))))
        refine AllReadyI.cons rfl (fun K hK => ?_) ?_
        · go_simp
          go_wp2_with fail
          exact hK.out _ _ (below_al kp _) (.inr (.inr (.inr (.inr (.inr (.inr (.inr (.inr (.inr (.inr (.inr (.inr (.inr (.inr (.inr (.inr (.inr (.inr (.inr (.inr (.inr (.inr (.inr (.inr (.inr (.inr (.inr (.inr (.inr (.inr (.inr (.inl (⟨g5, wz.heap.size, g7, rfl, rfl, rfl, v5.al _, vb_new kp, v7.al _, v5.ne, e57, v7.ne.symm, below_al kp _⟩)))))))))))))))))))))))))))))))))
        exact AllReadyI.nil
      · obtain ⟨g5, g6, hn, rfl, rfl, v5, v6, e56, kp⟩ := h
        obtain rfl : n = 4 := by omega
        refine ready_step (rs := [11, 14]) (by kernel_rfl) (by simp) ?_
        refine AllReadyI.cons rfl (fun K hK => ?_) ?_
        · go_simp
          refine (unhide CW _ (below_on (unhide HB1) kp)).mono ?_
          rintro e w2 ⟨rfl, hb⟩
          go_wp2_with fail
          exact hK.out _ _ (below_on kp hb) (.inr (.inr (.inr (.inr (.inr (.inr (.inr (.inr (.inr (.inr (.inr (.inr (.inr (.inr (.inr (.inr (.inr (.inr (.inr (.inr (.inr (.inr (.inr (.inr (.inr (.inr (.inr (.inr (.inr (.inr (.inr (.inr (.inr (.inr (.inr (.inr (.inr (.inr (.inl (⟨g5, g6, rfl, rfl, rfl, v5.below hb, v6.below hb, e56, below_on kp hb⟩))))))))))))))))))))))))))))))))))))))))
        refine AllReadyI.cons rfl (fun K hK => ?_) ?_
        · go_simp
          go_wp2_with fail
          exact hK.out _ _ (below_al kp _) (.inr (.inr (.inr (.inr (.inr (.inr (.inr (.inr (.inr (.inr (.inr (.inr (.inr (.inr (.inr (.inr (.inr (.inr (.inr (.inr (.inr (.inr (.inr (.inr (.inr (.inr (.inr (.inr (.inr (.inr (.inr (.inl (⟨g5, g6, wz.heap.size, rfl, rfl, rfl, v5.al _, v6.al _, vb_new kp, e56, v5.ne, v6.ne, below_al kp _⟩)))))))))))))))))))))))))))))))))
        exact AllReadyI.nil
      · obtain ⟨g5, g6, g7, hn, rfl, rfl, v5, v6, v7, e56, e57, e67, kp⟩ := h
        obtain rfl : n = 3 := by omega
        refine ready_step (rs := [11]) (by kernel_rfl) (by simp) ?_
        refine AllReadyI.cons rfl (fun K hK => ?_) ?_
        · go_simp
          refine (unhide CW _ (below_on (unhide HB1) kp)).mono ?_
          rintro e w2 ⟨rfl, hb⟩
          go_wp2_with fail
          exact hK.out _ _ (below_on kp hb) (.inr (.inr (.inr (.inr (.inr (.inr (.inr (.inr (.inr (.inr (.inr (.inr (.inr (.inr (.inr (.inr (.inr (.inr (.inr (.inr (.inr (.inr (.inr (.inr (.inr (.inr (.inr (.inr (.inr (.inr (.inr (.inr (.inr (.inr (.inr (.inr (.inr (.inr (.inr (.inl (⟨g5, g6, g7, rfl, rfl, rfl, v5.below hb, v6.below hb, v7.below hb, e56, e57, e67, below_on kp hb⟩)))))))))))))))))))))))))))))))))))))))))
        exact AllReadyI.nil
      · obtain ⟨hn, rfl, rfl, kp⟩ := h
        obtain rfl : n = 5 := by omega
        refine ready_step (rs := [12, 13, 14]) (by kernel_rfl) (by simp) ?_
        refine AllReadyI.cons rfl (fun K hK => ?_) ?_
        · go_simp
          go_wp2_with fail
          exact hK.out _ _ (below_al kp _) (.inr (.inr (.inr (.inr (.inr (.inr (.inr (.inr (.inr (.inr (.inr (.inr (.inr (.inr (.inr (.inr (.inr (.inr (.inr (.inr (.inr (.inr (.inr (.inr (.inr (.inr (.inr (.inr (.inr (.inr (.inr (.inr (.inr (.inr (.inr (.inr (.inl (⟨wz.heap.size, rfl, rfl, rfl, vb_new kp, below_al kp _⟩))))))))))))))))))))))))))))))))))))))
        refine AllReadyI.cons rfl (fun K hK => ?_) ?_
        · go_simp
          go_wp2_with fail
          exact hK.out _ _ (below_al kp _) (.inr (.inr (.inr (.inr (.inr (.inr (.inr (.inr (.inr (.inr (.inr (.inr (.inr (.inr (.inr (.inr (.inr (.inr (.inr (.inr (.inr (.inr (.inr (.inr (.inr (.inr (.inr (.inr (.inr (.inr (.inr (.inr (.inr (.inr (.inl (⟨wz.heap.size, rfl, rfl, rfl, vb_new kp, below_al kp _⟩))))))))))))))))))))))))))))))))))))
        refine AllReadyI.cons rfl (fun K hK => ?_) ?_
        · go_simp
          go_wp2_with fail
          exact hK.out _ _ (below_al kp _) (.inr (.inr (.inr (.inr (.inr (.inr (.inr (.inr (.inr (.inr (.inr (.inr (.inr (.inr (.inr (.inr (.inr (.inr (.inr (.inr (.inr (.inr (.inr (.inr (.inr (.inr (.inr (.inr (.inr (.inr (.inr (.inr (.inr (.inl (⟨wz.heap.size, rfl, rfl, rfl, vb_new kp, below_al kp _⟩)))))))))))))))))))))))))))))))))))
        exact AllReadyI.nil
      · obtain ⟨g7, hn, rfl, rfl, v7, kp⟩ := h
        obtain rfl : n = 4 := by omega
        refine ready_step (rs := [12, 13]) (by kernel_rfl) (by simp) ?_
        refine AllReadyI.cons rfl (fun K hK => ?_) ?_
        · go_simp
          go_wp2_with fail
          exact hK.out _ _ (below_al kp _) (.inr (.inr (.inr (.inr (.inr (.inr (.inr (.inr (.inr (.inr (.inr (.inr (.inr (.inr (.inr (.inr (.inr (.inr (.inr (.inr (.inr (.inr (.inr (.inr (.inr (.inr (.inr (.inr (.inr (.inr (.inr (.inr (.inr (.inr (.inr (.inr (.inr (.inl (⟨wz.heap.size, g7, rfl, rfl, rfl, vb_new kp, v7.al _, v7.ne.symm, below_al kp _⟩)))))))))))))))))))))))))))))))))))))))
        refine AllReadyI.cons rfl (fun K hK => ?_) ?_
        · go_simp
          go_wp2_with fail
          exact hK.out _ _ (below_al kp _) (.inr (.inr (.inr (.inr (.inr (.inr (.inr (.inr (.inr (.inr (.inr (.inr (.inr (.inr (.inr (.inr (.inr (.inr (.inr (.inr (.inr (.inr (.inr (.inr (.inr (.inr (.inr (.inr (.inr (.inr (.inr (.inr (.inr (.inr (.inr (.inl (⟨wz.heap.size, g7, rfl, rfl, rfl, vb_new kp, v7.al _, v7.ne.symm, below_al kp _⟩)))))))))))))))))))))))))))))))))))))
        exact AllReadyI.nil
      · obtain ⟨g6, hn, rfl, rfl, v6, kp⟩ := h
        obtain rfl : n = 4 := by omega
        refine ready_step (rs := [12, 14]) (by kernel_rfl) (by simp) ?_
        refine AllReadyI.cons rfl (fun K hK => ?_) ?_
        · go_simp
          go_wp2_with fail
          exact hK.out _ _ (below_al kp _) (.inr (.inr (.inr (.inr (.inr (.inr (.inr (.inr (.inr (.inr (.inr (.inr (.inr (.inr (.inr (.inr (.inr (.inr (.inr (.inr (.inr (.inr (.inr (.inr (.inr (.inr (.inr (.inr (.inr (.inr (.inr (.inr (.inr (.inr (.inr (.inr (.inr (.inr (.inl (⟨wz.heap.size, g6, rfl, rfl, rfl, vb_new kp, v6.al _, v6.ne.symm, below_al kp _⟩))))))))))))))))))))))))))))))))))))))))
        refine AllReadyI.cons rfl (fun K hK => ?_) ?_
        · go_simp
          go_wp2_with fail
          exact hK.out _ _ (below_al kp _) (.inr (.inr (.inr (.inr (.inr (.inr (.inr (.inr (.inr (.inr (.inr (.inr (.inr (.inr (.inr (.inr (.inr (.inr (.inr (.inr (.inr (.inr (.inr (.inr (.inr (.inr (.inr (.inr (.inr (.inr (.inr (.inr (.inr (.inr (.inr (.inl (⟨g6, wz.heap.size, rfl, rfl, rfl, v6.al _, vb_new kp, v6.ne, below_al kp _⟩)))))))))))))))))))))))))))))))))))))
        exact AllReadyI.nil
      · obtain ⟨g6, g7, hn, rfl, rfl, v6, v7, e67, kp⟩ := h
        obtain rfl : n = 3 := by omega
        refine ready_step (rs := [12]) (by kernel_rfl) (by simp) ?_
        refine AllReadyI.cons rfl (fun K hK => ?_) ?_
        · go_simp
          go_wp2_with fail
          exact hK.out _ _ (below_al kp _) (.inr (.inr (.inr (.inr (.inr (.inr (.inr (.inr (.inr (.inr (.inr (.inr (.inr (.inr (.inr (.inr (.inr (.inr (.inr (.inr (.inr (.inr (.inr (.inr (.inr (.inr (.inr (.inr (.inr (.inr (.inr (.inr (.inr (.inr (.inr (.inr (.inr (.inr (.inr (.inl (⟨wz.heap.size, g6, g7, rfl, rfl, rfl, vb_new kp, v6.al _, v7.al _, v6.ne.symm, v7.ne.symm, e67, below_al kp _⟩)))))))))))))))))))))))))))))))))))))))))
        exact AllReadyI.nil
      · obtain ⟨g5, hn, rfl, rfl, v5, kp⟩ := h
        obtain rfl : n = 4 := by omega
        refine ready_step (rs := [13, 14]) (by kernel_rfl) (by simp) ?_
        refine AllReadyI.cons rfl (fun K hK => ?_) ?_
        · go_simp
          go_wp2_with fail
          exact hK.out _ _ (below_al kp _) (.inr (.inr (.inr (.inr (.inr (.inr (.inr (.inr (.inr (.inr (.inr (.inr (.inr (.inr (.inr (.inr (.inr (.inr (.inr (.inr (.inr (.inr (.inr (.inr (.inr (.inr (.inr (.inr (.inr (.inr (.inr (.inr (.inr (.inr (.inr (.inr (.inr (.inr (.inl (⟨g5, wz.heap.size, rfl, rfl, rfl, v5.al _, vb_new kp, v5.ne, below_al kp _⟩))))))))))))))))))))))))))))))))))))))))
        refine AllReadyI.cons rfl (fun K hK => ?_) ?_
        · go_simp
          go_wp2_with fail
          exact hK.out _ _ (below_al kp _) (.inr (.inr (.inr (.inr (.inr (.inr (.inr (.inr (.inr (.inr (.inr (.inr (.inr (.inr (.inr (.inr (.inr (.inr (.inr (.inr (.inr (.inr (.inr (.inr (.inr (.inr (.inr (.inr (.inr (.inr (.inr (.inr (.inr (.inr (.inr (.inr (.inr (.inl (⟨g5, wz.heap.size, rfl, rfl, rfl, v5.al _, vb_new kp, v5.ne, below_al kp _⟩)))))))))))))))))))))))))))))))))))))))
        exact AllReadyI.nil
      · obtain ⟨g5, g7, hn, rfl, rfl, v5, v7, e57, kp⟩ := h
        obtain rfl : n = 3 := by omega
        refine ready_step (rs := [13]) (by kernel_rfl) (by simp) ?_
        refine AllReadyI.cons rfl (fun K hK => ?_) ?_
        · go_simp
          go_wp2_with fail
          exact hK.out _ _ (below_al kp _) (.inr (.inr (.inr (.inr (.inr (.inr (.inr (.inr (.inr (.inr (.inr (.inr (.inr (.inr (.inr (.inr (.inr (.inr (.inr (.inr (.inr (.inr (.inr (.inr (.inr (.inr (.inr (.inr (.inr (.inr (.inr (.inr (.inr (.inr (.inr (.inr (.inr (.inr (.inr (.inl (⟨g5, wz.heap.size, g7, rfl, rfl, rfl, v5.al _, vb_new kp, v7.al _, v5.ne, e57, v7.ne.symm, below_al kp _⟩)))))))))))))))))))))))))))))))))))))))))
        exact AllReadyI.nil
      · obtain ⟨g5, g6, hn, rfl, rfl, v5, v6, e56, kp⟩ := h
        obtain rfl : n = 3 := by omega
        refine ready_step (rs := [14]) (by kernel_rfl) (by simp) ?_
        refine AllReadyI.cons rfl (fun K hK => ?_) ?_
        · go_simp
          go_wp2_with fail
          exact hK.out _ _ (below_al kp _) (.inr (.inr (.inr (.inr (.inr (.inr (.inr (.inr (.inr (.inr (.inr (.inr (.inr (.inr (.inr (.inr (.inr (.inr (.inr (.inr (.inr (.inr (.inr (.inr (.inr (.inr (.inr (.inr (.inr (.inr (.inr (.inr (.inr (.inr (.inr (.inr (.inr (.inr (.inr (.inl (⟨g5, g6, wz.heap.size, rfl, rfl, rfl, v5.al _, v6.al _, vb_new kp, e56, v5.ne, v6.ne, below_al kp _⟩)))))))))))))))))))))))))))))))))))))))))
        exact AllReadyI.nil
      · obtain ⟨g5, g6, g7, hn, rfl, rfl, v5, v6, v7, e56, e57, e67, kp⟩ := h
        obtain rfl : n = 2 := by omega
        refine ready_step (rs := [15]) (by kernel_rfl) (by simp) ?_
        refine AllReadyI.cons rfl (fun K hK => ?_) ?_
        · have y0 := v5.2.c0
          have y1 := v5.2.c1
          have y2 := v5.2.f 0
          have y3 := v5.2.f 1
          go_simp
          go_wp2_with fail
          exact hK.out _ _ (v5.kp kp) (.inr (.inr (.inr (.inr (.inr (.inr (.inr (.inr (.inr (.inr (.inr (.inr (.inr (.inr (.inr (.inr (.inr (.inr (.inr (.inr (.inr (.inr (.inr (.inr (.inr (.inr (.inr (.inr (.inr (.inr (.inr (.inr (.inr (.inr (.inr (.inr (.inr (.inr (.inr (.inr (.inl (⟨g5, g6, g7, rfl, rfl, rfl, v5.set ux uy, v6.off e56.symm, v7.off e57.symm, e56, e57, e67, v5.kp kp⟩))))))))))))))))))))))))))))))))))))))))))
        exact AllReadyI.nil
      · obtain ⟨g5, g6, g7, hn, rfl, rfl, v5, v6, v7, e56, e57, e67, kp⟩ := h
        obtain rfl : n = 1 := by omega
        refine ready_step (rs := [16]) (by kernel_rfl) (by simp) ?_
        refine AllReadyI.cons rfl (fun K hK => ?_) ?_
        · have y0 := v6.2.c0
          have y1 := v6.2.c1
          have y2 := v6.2.f 0
          have y3 := v6.2.f 1
          go_simp
          go_wp2_with fail
          exact hK.out _ _ (v6.kp kp) (.inr (.inr (.inr (.inr (.inr (.inr (.inr (.inr (.inr (.inr (.inr (.inr (.inr (.inr (.inr (.inr (.inr (.inr (.inr (.inr (.inr (.inr (.inr (.inr (.inr (.inr (.inr (.inr (.inr (.inr (.inr (.inr (.inr (.inr (.inr (.inr (.inr (.inr (.inr (.inr (.inr (.inl (⟨g5, g6, g7, rfl, rfl, rfl, v5.off e56, v6.set dx dy, v7.off e67.symm, e56, e57, e67, v6.kp kp⟩)))))))))))))))))))))))))))))))))))))))))))
        exact AllReadyI.nil
      · obtain ⟨g5, g6, g7, hn, rfl, rfl, v5, v6, v7, e56, e57, e67, kp⟩ := h
        obtain rfl : n = 0 := by omega
        refine ready_step (rs := [17]) (by kernel_rfl) (by simp) ?_
        refine AllReadyI.cons rfl (fun K hK => ?_) ?_
        · have y0 := v7.2.c0
          have y1 := v7.2.c1
          have y2 := v7.2.f 0
          have y3 := v7.2.f 1
          go_simp
          go_wp2_with fail
          exact hK.out _ _ (v7.kp kp) (.inr (.inr (.inr (.inr (.inr (.inr (.inr (.inr (.inr (.inr (.inr (.inr (.inr (.inr (.inr (.inr (.inr (.inr (.inr (.inr (.inr (.inr (.inr (.inr (.inr (.inr (.inr (.inr (.inr (.inr (.inr (.inr (.inr (.inr (.inr (.inr (.inr (.inr (.inr (.inr (.inr (.inr (⟨g5, g6, g7, rfl, rfl, rfl, v5.off e57, v6.off e67, v7.set nx ny, e56, e57, e67, v7.kp kp⟩)))))))))))))))))))))))))))))))))))))))))))
        exact AllReadyI.nil
      · obtain ⟨_, _, _, hn, _⟩ := h
        cases hn
  case rest =>
    obtain ⟨g5, g6, g7, rfl, rfl, rfl, hv5, hv6, hv7, hg5, hg6, hg7, hA⟩ := hcut
    obtain ⟨w4, rfl⟩ : ∃ w4, w4 = wc := ⟨wc, rfl⟩
    have VR : ∀ a b : Int, Var (w4.alloc (.cells #[.int .i64 a, .int .i64 b] 40)) 40 (w.heap.size + 1) 0 0 := fun a b => ((unhide V1).below hA).al _
    have y50 : ∀ a b : Int, (w4.alloc (.cells #[.int .i64 a, .int .i64 b] 40)).cell? ⟨g5, 0, none⟩ = some (.int .i64 ux) := fun a b => (hv5.al _).c0
    have y51 : ∀ a b : Int, (w4.alloc (.cells #[.int .i64 a, .int .i64 b] 40)).cell? ⟨g5, 1, none⟩ = some (.int .i64 uy) := fun a b => (hv5.al _).c1
    have y60 : ∀ a b : Int, (w4.alloc (.cells #[.int .i64 a, .int .i64 b] 40)).cell? ⟨g6, 0, none⟩ = some (.int .i64 dx) := fun a b => (hv6.al _).c0
    have y61 : ∀ a b : Int, (w4.alloc (.cells #[.int .i64 a, .int .i64 b] 40)).cell? ⟨g6, 1, none⟩ = some (.int .i64 dy) := fun a b => (hv6.al _).c1
    have y70 : ∀ a b : Int, (w4.alloc (.cells #[.int .i64 a, .int .i64 b] 40)).cell? ⟨g7, 0, none⟩ = some (.int .i64 nx) := fun a b => (hv7.al _).c0
    have y71 : ∀ a b : Int, (w4.alloc (.cells #[.int .i64 a, .int .i64 b] 40)).cell? ⟨g7, 1, none⟩ = some (.int .i64 ny) := fun a b => (hv7.al _).c1
    have r0 : ∀ a b : Int, (w4.alloc (.cells #[.int .i64 a, .int .i64 b] 40)).cell? ⟨w.heap.size + 1, 0, none⟩ = some (.int .i64 0) := fun a b => (VR a b).c0
    have r1 : ∀ a b : Int, (w4.alloc (.cells #[.int .i64 a, .int .i64 b] 40)).cell? ⟨w.heap.size + 1, 1, none⟩ = some (.int .i64 0) := fun a b => (VR a b).c1
    have r2 : ∀ a b : Int, (w4.alloc (.cells #[.int .i64 a, .int .i64 b] 40)).frozen? ⟨w.heap.size + 1, 0, none⟩ = false := fun a b => (VR a b).f 0
    have r3 : ∀ a b : Int, (w4.alloc (.cells #[.int .i64 a, .int .i64 b] 40)).frozen? ⟨w.heap.size + 1, 1, none⟩ = false := fun a b => (VR a b).f 1
    have k4 := (VR zx zy).s0 (.int .i64 zx)
    have k5 := (VR zx zy).s1 (.int .i64 zx) (.int .i64 zy)
    have HB5 := hide (show Below w.heap.size w (w4.alloc (.cells #[.int .i64 zx, .int .i64 zy] 40)) from below_al (below_on (unhide HB1) hA) _)
    have L1 := hide (fun wx => l06Least_any (dx - ux) nx wx)
    have L2 := hide (fun wx => l06Least_any (dy - uy) ny wx)
    clear hv5 hv6 hv7 hA VR R A0 HS
    by_cases hx : ux < dx
    · by_cases hy : uy < dy
      ·
        rw [← lack_more hx, unhide HZX] at L1
        rw [← lack_more hy, unhide HZY] at L2
        go_wp2_with fail
        refine (unhide L1 _).mono ?_
        rintro e wq ⟨rfl, rfl⟩
        go_wp2_with fail
        refine (unhide L2 _).mono ?_
        rintro e wq ⟨rfl, rfl⟩
        go_wp2
        refine bodyPost_ret (v := rv zx zy) (by simp [results, Tryz.results10, go_sem, k4, k5]) rfl ⟨rfl, ?_⟩
        repeat (first | exact unhide HB5 | refine below_al ?_ _ | refine Below.drew ?_ | refine below_sc ?_ _ _ _ (by omega))
      ·
        rw [← lack_more hx, unhide HZX] at L1
        obtain rfl : zy = 0 := by rw [← unhide HZY]; exact lack_less (by omega) n2
        go_wp2_with fail
        refine (unhide L1 _).mono ?_
        rintro e wq ⟨rfl, rfl⟩
        go_wp2
        refine bodyPost_ret (v := rv zx 0) (by simp [results, Tryz.results10, go_sem, k4, k5]) rfl ⟨rfl, ?_⟩
        repeat (first | exact unhide HB5 | refine below_al ?_ _ | refine Below.drew ?_ | refine below_sc ?_ _ _ _ (by omega))
    · by_cases hy : uy < dy
      ·
        obtain rfl : zx = 0 := by rw [← unhide HZX]; exact lack_less (by omega) n0
        rw [← lack_more hy, unhide HZY] at L2
        go_wp2_with fail
        refine (unhide L2 _).mono ?_
        rintro e wq ⟨rfl, rfl⟩
        go_wp2
        refine bodyPost_ret (v := rv 0 zy) (by simp [results, Tryz.results10, go_sem, k4, k5]) rfl ⟨rfl, ?_⟩
        repeat (first | exact unhide HB5 | refine below_al ?_ _ | refine Below.drew ?_ | refine below_sc ?_ _ _ _ (by omega))
      ·
        obtain rfl : zx = 0 := by rw [← unhide HZX]; exact lack_less (by omega) n0
        obtain rfl : zy = 0 := by rw [← unhide HZY]; exact lack_less (by omega) n2
        go_wp2
        refine bodyPost_ret (v := rv 0 0) (by simp [results, Tryz.results10, go_sem, k4, k5]) rfl ⟨rfl, ?_⟩
        repeat (first | exact unhide HB5 | refine below_al ?_ _ | refine Below.drew ?_ | refine below_sc ?_ _ _ _ (by omega))
end Go.Proofs.YtgfdfaaemhdcaaaGreat
