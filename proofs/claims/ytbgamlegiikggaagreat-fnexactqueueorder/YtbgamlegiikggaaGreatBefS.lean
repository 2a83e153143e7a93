/-
  Which of two leaves comes ahead, by the model: l05Before; a walk over the dump.
-/
import Derived.Test.YtbgamlegiikggaaGreatOrdV
import Derived.Test.YtbgamlegiikggaaGreatPackI
import Derived.Test.YtbgamlegiikggaaGreatPackN
import Derived.Test.YtbgamlegiikggaaGreatLessRatioS
import Derived.Deep.RegionHeld3
import Derived.Deep.CutRange
namespace Go.Proofs.YtbgamlegiikggaaGreat
open Go.RowKit Go.Maps
set_option linter.unusedVariables false
set_option linter.unusedSimpArgs false

def BFS0 (w w1 : World) (na nb : List UInt8) (ux uy dx dy vx vy fx fy tx ty : Int) (gt : Nat) (qa : Option Addr) (ql qc : Nat) (aa : Option Addr) (al ac : Nat) (ma : Option Addr) (ml mc : Nat) (ca : Option Addr) (cl cc : Nat) (qs : List Q) (clock epoch next serial : Int) (apps : List Appl) (ms : List Mac) (cs : List Con) (n : Nat) (lz : Array Bool) (az : Act) (wz : World) : Prop := (n = 12 ∧ lz = #[true, true, false, true, true, true, true, false, true, true, false, true, true, true, true, false, false, false, false, false, false, false, false, false] ∧ az = { tmps := #[sv ⟨qa, ql, qc, aa, al, ac, ma, ml, mc, ca, cl, cc⟩ ⟨qs, clock, epoch, next, serial, apps, ms, cs⟩, .string (bs na), .string (bs nb), .pointer (some ⟨w.heap.size, 0, none⟩), undef, undef, .bool false, .pointer (some ⟨gt, 0, none⟩), undef, undef, undef, undef, .agg #[.slice qa ql qc, .int .i64 clock, .int .i64 epoch, .int .i64 next, .int .i64 serial, .slice aa al ac, .slice ma ml mc, .slice ca cl cc], rv tx ty, .agg #[.slice qa ql qc, .int .i64 clock, .int .i64 epoch, .int .i64 next, .int .i64 serial, .slice aa al ac, .slice ma ml mc, .slice ca cl cc], .string (bs na), undef, .pointer (some ⟨w.heap.size, 0, none⟩), .slice qa ql qc, .string (bs na), rv tx ty, undef, .agg #[.slice qa ql qc, .int .i64 clock, .int .i64 epoch, .int .i64 next, .int .i64 serial, .slice aa al ac, .slice ma ml mc, .slice ca cl cc], .string (bs nb), undef, .pointer (some ⟨w.heap.size, 0, none⟩), .slice qa ql qc, .string (bs nb), rv tx ty, undef, undef, undef, undef, undef, undef, undef, undef, undef, undef, undef, undef, undef, undef, undef, undef, undef], defers := [] } ∧ Kp w1 wz)
def BFS1 (w w1 : World) (na nb : List UInt8) (ux uy dx dy vx vy fx fy tx ty : Int) (gt : Nat) (qa : Option Addr) (ql qc : Nat) (aa : Option Addr) (al ac : Nat) (ma : Option Addr) (ml mc : Nat) (ca : Option Addr) (cl cc : Nat) (qs : List Q) (clock epoch next serial : Int) (apps : List Appl) (ms : List Mac) (cs : List Con) (n : Nat) (lz : Array Bool) (az : Act) (wz : World) : Prop := (∃ g11 : Nat, n = 11 ∧ lz = #[true, true, false, true, true, true, true, false, true, true, false, true, true, true, true, false, false, false, false, true, false, false, false, false] ∧ az = { tmps := #[sv ⟨qa, ql, qc, aa, al, ac, ma, ml, mc, ca, cl, cc⟩ ⟨qs, clock, epoch, next, serial, apps, ms, cs⟩, .string (bs na), .string (bs nb), .pointer (some ⟨w.heap.size, 0, none⟩), undef, undef, .bool false, .pointer (some ⟨gt, 0, none⟩), undef, undef, undef, .pointer (some ⟨g11, 0, none⟩), .agg #[.slice qa ql qc, .int .i64 clock, .int .i64 epoch, .int .i64 next, .int .i64 serial, .slice aa al ac, .slice ma ml mc, .slice ca cl cc], rv tx ty, .agg #[.slice qa ql qc, .int .i64 clock, .int .i64 epoch, .int .i64 next, .int .i64 serial, .slice aa al ac, .slice ma ml mc, .slice ca cl cc], .string (bs na), undef, .pointer (some ⟨w.heap.size, 0, none⟩), .slice qa ql qc, .string (bs na), rv tx ty, undef, .agg #[.slice qa ql qc, .int .i64 clock, .int .i64 epoch, .int .i64 next, .int .i64 serial, .slice aa al ac, .slice ma ml mc, .slice ca cl cc], .string (bs nb), undef, .pointer (some ⟨w.heap.size, 0, none⟩), .slice qa ql qc, .string (bs nb), rv tx ty, undef, undef, undef, undef, undef, undef, undef, undef, undef, undef, undef, undef, undef, undef, undef, undef, undef], defers := [] } ∧ VB w1 wz g11 0 0 ∧ Kp w1 wz)
def BFS2 (w w1 : World) (na nb : List UInt8) (ux uy dx dy vx vy fx fy tx ty : Int) (gt : Nat) (qa : Option Addr) (ql qc : Nat) (aa : Option Addr) (al ac : Nat) (ma : Option Addr) (ml mc : Nat) (ca : Option Addr) (cl cc : Nat) (qs : List Q) (clock epoch next serial : Int) (apps : List Appl) (ms : List Mac) (cs : List Con) (n : Nat) (lz : Array Bool) (az : Act) (wz : World) : Prop := (∃ g10 : Nat, n = 11 ∧ lz = #[true, true, false, true, true, true, true, false, true, true, false, true, true, true, true, false, false, false, true, false, false, false, false, false] ∧ az = { tmps := #[sv ⟨qa, ql, qc, aa, al, ac, ma, ml, mc, ca, cl, cc⟩ ⟨qs, clock, epoch, next, serial, apps, ms, cs⟩, .string (bs na), .string (bs nb), .pointer (some ⟨w.heap.size, 0, none⟩), undef, undef, .bool false, .pointer (some ⟨gt, 0, none⟩), undef, undef, .pointer (some ⟨g10, 0, none⟩), undef, .agg #[.slice qa ql qc, .int .i64 clock, .int .i64 epoch, .int .i64 next, .int .i64 serial, .slice aa al ac, .slice ma ml mc, .slice ca cl cc], rv tx ty, .agg #[.slice qa ql qc, .int .i64 clock, .int .i64 epoch, .int .i64 next, .int .i64 serial, .slice aa al ac, .slice ma ml mc, .slice ca cl cc], .string (bs na), undef, .pointer (some ⟨w.heap.size, 0, none⟩), .slice qa ql qc, .string (bs na), rv tx ty, undef, .agg #[.slice qa ql qc, .int .i64 clock, .int .i64 epoch, .int .i64 next, .int .i64 serial, .slice aa al ac, .slice ma ml mc, .slice ca cl cc], .string (bs nb), undef, .pointer (some ⟨w.heap.size, 0, none⟩), .slice qa ql qc, .string (bs nb), rv tx ty, undef, undef, undef, undef, undef, undef, undef, undef, undef, undef, undef, undef, undef, undef, undef, undef, undef], defers := [] } ∧ VB w1 wz g10 0 0 ∧ Kp w1 wz)
def BFS3 (w w1 : World) (na nb : List UInt8) (ux uy dx dy vx vy fx fy tx ty : Int) (gt : Nat) (qa : Option Addr) (ql qc : Nat) (aa : Option Addr) (al ac : Nat) (ma : Option Addr) (ml mc : Nat) (ca : Option Addr) (cl cc : Nat) (qs : List Q) (clock epoch next serial : Int) (apps : List Appl) (ms : List Mac) (cs : List Con) (n : Nat) (lz : Array Bool) (az : Act) (wz : World) : Prop := (∃ g10 g11 : Nat, n = 10 ∧ lz = #[true, true, false, true, true, true, true, false, true, true, false, true, true, true, true, false, false, false, true, true, false, false, false, false] ∧ az = { tmps := #[sv ⟨qa, ql, qc, aa, al, ac, ma, ml, mc, ca, cl, cc⟩ ⟨qs, clock, epoch, next, serial, apps, ms, cs⟩, .string (bs na), .string (bs nb), .pointer (some ⟨w.heap.size, 0, none⟩), undef, undef, .bool false, .pointer (some ⟨gt, 0, none⟩), undef, undef, .pointer (some ⟨g10, 0, none⟩), .pointer (some ⟨g11, 0, none⟩), .agg #[.slice qa ql qc, .int .i64 clock, .int .i64 epoch, .int .i64 next, .int .i64 serial, .slice aa al ac, .slice ma ml mc, .slice ca cl cc], rv tx ty, .agg #[.slice qa ql qc, .int .i64 clock, .int .i64 epoch, .int .i64 next, .int .i64 serial, .slice aa al ac, .slice ma ml mc, .slice ca cl cc], .string (bs na), undef, .pointer (some ⟨w.heap.size, 0, none⟩), .slice qa ql qc, .string (bs na), rv tx ty, undef, .agg #[.slice qa ql qc, .int .i64 clock, .int .i64 epoch, .int .i64 next, .int .i64 serial, .slice aa al ac, .slice ma ml mc, .slice ca cl cc], .string (bs nb), undef, .pointer (some ⟨w.heap.size, 0, none⟩), .slice qa ql qc, .string (bs nb), rv tx ty, undef, undef, undef, undef, undef, undef, undef, undef, undef, undef, undef, undef, undef, undef, undef, undef, undef], defers := [] } ∧ VB w1 wz g10 0 0 ∧ VB w1 wz g11 0 0 ∧ g10 ≠ g11 ∧ Kp w1 wz)
def BFS4 (w w1 : World) (na nb : List UInt8) (ux uy dx dy vx vy fx fy tx ty : Int) (gt : Nat) (qa : Option Addr) (ql qc : Nat) (aa : Option Addr) (al ac : Nat) (ma : Option Addr) (ml mc : Nat) (ca : Option Addr) (cl cc : Nat) (qs : List Q) (clock epoch next serial : Int) (apps : List Appl) (ms : List Mac) (cs : List Con) (n : Nat) (lz : Array Bool) (az : Act) (wz : World) : Prop := (∃ g9 : Nat, n = 11 ∧ lz = #[true, true, false, true, true, true, true, false, true, true, false, true, true, true, true, false, false, true, false, false, false, false, false, false] ∧ az = { tmps := #[sv ⟨qa, ql, qc, aa, al, ac, ma, ml, mc, ca, cl, cc⟩ ⟨qs, clock, epoch, next, serial, apps, ms, cs⟩, .string (bs na), .string (bs nb), .pointer (some ⟨w.heap.size, 0, none⟩), undef, undef, .bool false, .pointer (some ⟨gt, 0, none⟩), undef, .pointer (some ⟨g9, 0, none⟩), undef, undef, .agg #[.slice qa ql qc, .int .i64 clock, .int .i64 epoch, .int .i64 next, .int .i64 serial, .slice aa al ac, .slice ma ml mc, .slice ca cl cc], rv tx ty, .agg #[.slice qa ql qc, .int .i64 clock, .int .i64 epoch, .int .i64 next, .int .i64 serial, .slice aa al ac, .slice ma ml mc, .slice ca cl cc], .string (bs na), undef, .pointer (some ⟨w.heap.size, 0, none⟩), .slice qa ql qc, .string (bs na), rv tx ty, undef, .agg #[.slice qa ql qc, .int .i64 clock, .int .i64 epoch, .int .i64 next, .int .i64 serial, .slice aa al ac, .slice ma ml mc, .slice ca cl cc], .string (bs nb), undef, .pointer (some ⟨w.heap.size, 0, none⟩), .slice qa ql qc, .string (bs nb), rv tx ty, undef, undef, undef, undef, undef, undef, undef, undef, undef, undef, undef, undef, undef, undef, undef, undef, undef], defers := [] } ∧ VB w1 wz g9 0 0 ∧ Kp w1 wz)
def BFS5 (w w1 : World) (na nb : List UInt8) (ux uy dx dy vx vy fx fy tx ty : Int) (gt : Nat) (qa : Option Addr) (ql qc : Nat) (aa : Option Addr) (al ac : Nat) (ma : Option Addr) (ml mc : Nat) (ca : Option Addr) (cl cc : Nat) (qs : List Q) (clock epoch next serial : Int) (apps : List Appl) (ms : List Mac) (cs : List Con) (n : Nat) (lz : Array Bool) (az : Act) (wz : World) : Prop := (∃ g9 g11 : Nat, n = 10 ∧ lz = #[true, true, false, true, true, true, true, false, true, true, false, true, true, true, true, false, false, true, false, true, false, false, false, false] ∧ az = { tmps := #[sv ⟨qa, ql, qc, aa, al, ac, ma, ml, mc, ca, cl, cc⟩ ⟨qs, clock, epoch, next, serial, apps, ms, cs⟩, .string (bs na), .string (bs nb), .pointer (some ⟨w.heap.size, 0, none⟩), undef, undef, .bool false, .pointer (some ⟨gt, 0, none⟩), undef, .pointer (some ⟨g9, 0, none⟩), undef, .pointer (some ⟨g11, 0, none⟩), .agg #[.slice qa ql qc, .int .i64 clock, .int .i64 epoch, .int .i64 next, .int .i64 serial, .slice aa al ac, .slice ma ml mc, .slice ca cl cc], rv tx ty, .agg #[.slice qa ql qc, .int .i64 clock, .int .i64 epoch, .int .i64 next, .int .i64 serial, .slice aa al ac, .slice ma ml mc, .slice ca cl cc], .string (bs na), undef, .pointer (some ⟨w.heap.size, 0, none⟩), .slice qa ql qc, .string (bs na), rv tx ty, undef, .agg #[.slice qa ql qc, .int .i64 clock, .int .i64 epoch, .int .i64 next, .int .i64 serial, .slice aa al ac, .slice ma ml mc, .slice ca cl cc], .string (bs nb), undef, .pointer (some ⟨w.heap.size, 0, none⟩), .slice qa ql qc, .string (bs nb), rv tx ty, undef, undef, undef, undef, undef, undef, undef, undef, undef, undef, undef, undef, undef, undef, undef, undef, undef], defers := [] } ∧ VB w1 wz g9 0 0 ∧ VB w1 wz g11 0 0 ∧ g9 ≠ g11 ∧ Kp w1 wz)
def BFS6 (w w1 : World) (na nb : List UInt8) (ux uy dx dy vx vy fx fy tx ty : Int) (gt : Nat) (qa : Option Addr) (ql qc : Nat) (aa : Option Addr) (al ac : Nat) (ma : Option Addr) (ml mc : Nat) (ca : Option Addr) (cl cc : Nat) (qs : List Q) (clock epoch next serial : Int) (apps : List Appl) (ms : List Mac) (cs : List Con) (n : Nat) (lz : Array Bool) (az : Act) (wz : World) : Prop := (∃ g9 g10 : Nat, n = 10 ∧ lz = #[true, true, false, true, true, true, true, false, true, true, false, true, true, true, true, false, false, true, true, false, false, false, false, false] ∧ az = { tmps := #[sv ⟨qa, ql, qc, aa, al, ac, ma, ml, mc, ca, cl, cc⟩ ⟨qs, clock, epoch, next, serial, apps, ms, cs⟩, .string (bs na), .string (bs nb), .pointer (some ⟨w.heap.size, 0, none⟩), undef, undef, .bool false, .pointer (some ⟨gt, 0, none⟩), undef, .pointer (some ⟨g9, 0, none⟩), .pointer (some ⟨g10, 0, none⟩), undef, .agg #[.slice qa ql qc, .int .i64 clock, .int .i64 epoch, .int .i64 next, .int .i64 serial, .slice aa al ac, .slice ma ml mc, .slice ca cl cc], rv tx ty, .agg #[.slice qa ql qc, .int .i64 clock, .int .i64 epoch, .int .i64 next, .int .i64 serial, .slice aa al ac, .slice ma ml mc, .slice ca cl cc], .string (bs na), undef, .pointer (some ⟨w.heap.size, 0, none⟩), .slice qa ql qc, .string (bs na), rv tx ty, undef, .agg #[.slice qa ql qc, .int .i64 clock, .int .i64 epoch, .int .i64 next, .int .i64 serial, .slice aa al ac, .slice ma ml mc, .slice ca cl cc], .string (bs nb), undef, .pointer (some ⟨w.heap.size, 0, none⟩), .slice qa ql qc, .string (bs nb), rv tx ty, undef, undef, undef, undef, undef, undef, undef, undef, undef, undef, undef, undef, undef, undef, undef, undef, undef], defers := [] } ∧ VB w1 wz g9 0 0 ∧ VB w1 wz g10 0 0 ∧ g9 ≠ g10 ∧ Kp w1 wz)
def BFS7 (w w1 : World) (na nb : List UInt8) (ux uy dx dy vx vy fx fy tx ty : Int) (gt : Nat) (qa : Option Addr) (ql qc : Nat) (aa : Option Addr) (al ac : Nat) (ma : Option Addr) (ml mc : Nat) (ca : Option Addr) (cl cc : Nat) (qs : List Q) (clock epoch next serial : Int) (apps : List Appl) (ms : List Mac) (cs : List Con) (n : Nat) (lz : Array Bool) (az : Act) (wz : World) : Prop := (∃ g9 g10 g11 : Nat, n = 9 ∧ lz = #[true, true, false, true, true, true, true, false, true, true, false, true, true, true, true, false, false, true, true, true, false, false, false, false] ∧ az = { tmps := #[sv ⟨qa, ql, qc, aa, al, ac, ma, ml, mc, ca, cl, cc⟩ ⟨qs, clock, epoch, next, serial, apps, ms, cs⟩, .string (bs na), .string (bs nb), .pointer (some ⟨w.heap.size, 0, none⟩), undef, undef, .bool false, .pointer (some ⟨gt, 0, none⟩), undef, .pointer (some ⟨g9, 0, none⟩), .pointer (some ⟨g10, 0, none⟩), .pointer (some ⟨g11, 0, none⟩), .agg #[.slice qa ql qc, .int .i64 clock, .int .i64 epoch, .int .i64 next, .int .i64 serial, .slice aa al ac, .slice ma ml mc, .slice ca cl cc], rv tx ty, .agg #[.slice qa ql qc, .int .i64 clock, .int .i64 epoch, .int .i64 next, .int .i64 serial, .slice aa al ac, .slice ma ml mc, .slice ca cl cc], .string (bs na), undef, .pointer (some ⟨w.heap.size, 0, none⟩), .slice qa ql qc, .string (bs na), rv tx ty, undef, .agg #[.slice qa ql qc, .int .i64 clock, .int .i64 epoch, .int .i64 next, .int .i64 serial, .slice aa al ac, .slice ma ml mc, .slice ca cl cc], .string (bs nb), undef, .pointer (some ⟨w.heap.size, 0, none⟩), .slice qa ql qc, .string (bs nb), rv tx ty, undef, undef, undef, undef, undef, undef, undef, undef, undef, undef, undef, undef, undef, undef, undef, undef, undef], defers := [] } ∧ VB w1 wz g9 0 0 ∧ VB w1 wz g10 0 0 ∧ VB w1 wz g11 0 0 ∧ g9 ≠ g10 ∧ g9 ≠ g11 ∧ g10 ≠ g11 ∧ Kp w1 wz)
def BFS8 (w w1 : World) (na nb : List UInt8) (ux uy dx dy vx vy fx fy tx ty : Int) (gt : Nat) (qa : Option Addr) (ql qc : Nat) (aa : Option Addr) (al ac : Nat) (ma : Option Addr) (ml mc : Nat) (ca : Option Addr) (cl cc : Nat) (qs : List Q) (clock epoch next serial : Int) (apps : List Appl) (ms : List Mac) (cs : List Con) (n : Nat) (lz : Array Bool) (az : Act) (wz : World) : Prop := (∃ g8 : Nat, n = 11 ∧ lz = #[true, true, false, true, true, true, true, false, true, true, false, true, true, true, true, false, true, false, false, false, false, false, false, false] ∧ az = { tmps := #[sv ⟨qa, ql, qc, aa, al, ac, ma, ml, mc, ca, cl, cc⟩ ⟨qs, clock, epoch, next, serial, apps, ms, cs⟩, .string (bs na), .string (bs nb), .pointer (some ⟨w.heap.size, 0, none⟩), undef, undef, .bool false, .pointer (some ⟨gt, 0, none⟩), .pointer (some ⟨g8, 0, none⟩), undef, undef, undef, .agg #[.slice qa ql qc, .int .i64 clock, .int .i64 epoch, .int .i64 next, .int .i64 serial, .slice aa al ac, .slice ma ml mc, .slice ca cl cc], rv tx ty, .agg #[.slice qa ql qc, .int .i64 clock, .int .i64 epoch, .int .i64 next, .int .i64 serial, .slice aa al ac, .slice ma ml mc, .slice ca cl cc], .string (bs na), undef, .pointer (some ⟨w.heap.size, 0, none⟩), .slice qa ql qc, .string (bs na), rv tx ty, undef, .agg #[.slice qa ql qc, .int .i64 clock, .int .i64 epoch, .int .i64 next, .int .i64 serial, .slice aa al ac, .slice ma ml mc, .slice ca cl cc], .string (bs nb), undef, .pointer (some ⟨w.heap.size, 0, none⟩), .slice qa ql qc, .string (bs nb), rv tx ty, undef, undef, undef, undef, undef, undef, undef, undef, undef, undef, undef, undef, undef, undef, undef, undef, undef], defers := [] } ∧ VB w1 wz g8 0 0 ∧ Kp w1 wz)
def BFS9 (w w1 : World) (na nb : List UInt8) (ux uy dx dy vx vy fx fy tx ty : Int) (gt : Nat) (qa : Option Addr) (ql qc : Nat) (aa : Option Addr) (al ac : Nat) (ma : Option Addr) (ml mc : Nat) (ca : Option Addr) (cl cc : Nat) (qs : List Q) (clock epoch next serial : Int) (apps : List Appl) (ms : List Mac) (cs : List Con) (n : Nat) (lz : Array Bool) (az : Act) (wz : World) : Prop := (∃ g8 g11 : Nat, n = 10 ∧ lz = #[true, true, false, true, true, true, true, false, true, true, false, true, true, true, true, false, true, false, false, true, false, false, false, false] ∧ az = { tmps := #[sv ⟨qa, ql, qc, aa, al, ac, ma, ml, mc, ca, cl, cc⟩ ⟨qs, clock, epoch, next, serial, apps, ms, cs⟩, .string (bs na), .string (bs nb), .pointer (some ⟨w.heap.size, 0, none⟩), undef, undef, .bool false, .pointer (some ⟨gt, 0, none⟩), .pointer (some ⟨g8, 0, none⟩), undef, undef, .pointer (some ⟨g11, 0, none⟩), .agg #[.slice qa ql qc, .int .i64 clock, .int .i64 epoch, .int .i64 next, .int .i64 serial, .slice aa al ac, .slice ma ml mc, .slice ca cl cc], rv tx ty, .agg #[.slice qa ql qc, .int .i64 clock, .int .i64 epoch, .int .i64 next, .int .i64 serial, .slice aa al ac, .slice ma ml mc, .slice ca cl cc], .string (bs na), undef, .pointer (some ⟨w.heap.size, 0, none⟩), .slice qa ql qc, .string (bs na), rv tx ty, undef, .agg #[.slice qa ql qc, .int .i64 clock, .int .i64 epoch, .int .i64 next, .int .i64 serial, .slice aa al ac, .slice ma ml mc, .slice ca cl cc], .string (bs nb), undef, .pointer (some ⟨w.heap.size, 0, none⟩), .slice qa ql qc, .string (bs nb), rv tx ty, undef, undef, undef, undef, undef, undef, undef, undef, undef, undef, undef, undef, undef, undef, undef, undef, undef], defers := [] } ∧ VB w1 wz g8 0 0 ∧ VB w1 wz g11 0 0 ∧ g8 ≠ g11 ∧ Kp w1 wz)
def BFS10 (w w1 : World) (na nb : List UInt8) (ux uy dx dy vx vy fx fy tx ty : Int) (gt : Nat) (qa : Option Addr) (ql qc : Nat) (aa : Option Addr) (al ac : Nat) (ma : Option Addr) (ml mc : Nat) (ca : Option Addr) (cl cc : Nat) (qs : List Q) (clock epoch next serial : Int) (apps : List Appl) (ms : List Mac) (cs : List Con) (n : Nat) (lz : Array Bool) (az : Act) (wz : World) : Prop := (∃ g8 g10 : Nat, n = 10 ∧ lz = #[true, true, false, true, true, true, true, false, true, true, false, true, true, true, true, false, true, false, true, false, false, false, false, false] ∧ az = { tmps := #[sv ⟨qa, ql, qc, aa, al, ac, ma, ml, mc, ca, cl, cc⟩ ⟨qs, clock, epoch, next, serial, apps, ms, cs⟩, .string (bs na), .string (bs nb), .pointer (some ⟨w.heap.size, 0, none⟩), undef, undef, .bool false, .pointer (some ⟨gt, 0, none⟩), .pointer (some ⟨g8, 0, none⟩), undef, .pointer (some ⟨g10, 0, none⟩), undef, .agg #[.slice qa ql qc, .int .i64 clock, .int .i64 epoch, .int .i64 next, .int .i64 serial, .slice aa al ac, .slice ma ml mc, .slice ca cl cc], rv tx ty, .agg #[.slice qa ql qc, .int .i64 clock, .int .i64 epoch, .int .i64 next, .int .i64 serial, .slice aa al ac, .slice ma ml mc, .slice ca cl cc], .string (bs na), undef, .pointer (some ⟨w.heap.size, 0, none⟩), .slice qa ql qc, .string (bs na), rv tx ty, undef, .agg #[.slice qa ql qc, .int .i64 clock, .int .i64 epoch, .int .i64 next, .int .i64 serial, .slice aa al ac, .slice ma ml mc, .slice ca cl cc], .string (bs nb), undef, .pointer (some ⟨w.heap.size, 0, none⟩), .slice qa ql qc, .string (bs nb), rv tx ty, undef, undef, undef, undef, undef, undef, undef, undef, undef, undef, undef, undef, undef, undef, undef, undef, undef], defers := [] } ∧ VB w1 wz g8 0 0 ∧ VB w1 wz g10 0 0 ∧ g8 ≠ g10 ∧ Kp w1 wz)
def BFS11 (w w1 : World) (na nb : List UInt8) (ux uy dx dy vx vy fx fy tx ty : Int) (gt : Nat) (qa : Option Addr) (ql qc : Nat) (aa : Option Addr) (al ac : Nat) (ma : Option Addr) (ml mc : Nat) (ca : Option Addr) (cl cc : Nat) (qs : List Q) (clock epoch next serial : Int) (apps : List Appl) (ms : List Mac) (cs : List Con) (n : Nat) (lz : Array Bool) (az : Act) (wz : World) : Prop := (∃ g8 g10 g11 : Nat, n = 9 ∧ lz = #[true, true, false, true, true, true, true, false, true, true, false, true, true, true, true, false, true, false, true, true, false, false, false, false] ∧ az = { tmps := #[sv ⟨qa, ql, qc, aa, al, ac, ma, ml, mc, ca, cl, cc⟩ ⟨qs, clock, epoch, next, serial, apps, ms, cs⟩, .string (bs na), .string (bs nb), .pointer (some ⟨w.heap.size, 0, none⟩), undef, undef, .bool false, .pointer (some ⟨gt, 0, none⟩), .pointer (some ⟨g8, 0, none⟩), undef, .pointer (some ⟨g10, 0, none⟩), .pointer (some ⟨g11, 0, none⟩), .agg #[.slice qa ql qc, .int .i64 clock, .int .i64 epoch, .int .i64 next, .int .i64 serial, .slice aa al ac, .slice ma ml mc, .slice ca cl cc], rv tx ty, .agg #[.slice qa ql qc, .int .i64 clock, .int .i64 epoch, .int .i64 next, .int .i64 serial, .slice aa al ac, .slice ma ml mc, .slice ca cl cc], .string (bs na), undef, .pointer (some ⟨w.heap.size, 0, none⟩), .slice qa ql qc, .string (bs na), rv tx ty, undef, .agg #[.slice qa ql qc, .int .i64 clock, .int .i64 epoch, .int .i64 next, .int .i64 serial, .slice aa al ac, .slice ma ml mc, .slice ca cl cc], .string (bs nb), undef, .pointer (some ⟨w.heap.size, 0, none⟩), .slice qa ql qc, .string (bs nb), rv tx ty, undef, undef, undef, undef, undef, undef, undef, undef, undef, undef, undef, undef, undef, undef, undef, undef, undef], defers := [] } ∧ VB w1 wz g8 0 0 ∧ VB w1 wz g10 0 0 ∧ VB w1 wz g11 0 0 ∧ g8 ≠ g10 ∧ g8 ≠ g11 ∧ g10 ≠ g11 ∧ Kp w1 wz)
def BFS12 (w w1 : World) (na nb : List UInt8) (ux uy dx dy vx vy fx fy tx ty : Int) (gt : Nat) (qa : Option Addr) (ql qc : Nat) (aa : Option Addr) (al ac : Nat) (ma : Option Addr) (ml mc : Nat) (ca : Option Addr) (cl cc : Nat) (qs : List Q) (clock epoch next serial : Int) (apps : List Appl) (ms : List Mac) (cs : List Con) (n : Nat) (lz : Array Bool) (az : Act) (wz : World) : Prop := (∃ g8 g9 : Nat, n = 10 ∧ lz = #[true, true, false, true, true, true, true, false, true, true, false, true, true, true, true, false, true, true, false, false, false, false, false, false] ∧ az = { tmps := #[sv ⟨qa, ql, qc, aa, al, ac, ma, ml, mc, ca, cl, cc⟩ ⟨qs, clock, epoch, next, serial, apps, ms, cs⟩, .string (bs na), .string (bs nb), .pointer (some ⟨w.heap.size, 0, none⟩), undef, undef, .bool false, .pointer (some ⟨gt, 0, none⟩), .pointer (some ⟨g8, 0, none⟩), .pointer (some ⟨g9, 0, none⟩), undef, undef, .agg #[.slice qa ql qc, .int .i64 clock, .int .i64 epoch, .int .i64 next, .int .i64 serial, .slice aa al ac, .slice ma ml mc, .slice ca cl cc], rv tx ty, .agg #[.slice qa ql qc, .int .i64 clock, .int .i64 epoch, .int .i64 next, .int .i64 serial, .slice aa al ac, .slice ma ml mc, .slice ca cl cc], .string (bs na), undef, .pointer (some ⟨w.heap.size, 0, none⟩), .slice qa ql qc, .string (bs na), rv tx ty, undef, .agg #[.slice qa ql qc, .int .i64 clock, .int .i64 epoch, .int .i64 next, .int .i64 serial, .slice aa al ac, .slice ma ml mc, .slice ca cl cc], .string (bs nb), undef, .pointer (some ⟨w.heap.size, 0, none⟩), .slice qa ql qc, .string (bs nb), rv tx ty, undef, undef, undef, undef, undef, undef, undef, undef, undef, undef, undef, undef, undef, undef, undef, undef, undef], defers := [] } ∧ VB w1 wz g8 0 0 ∧ VB w1 wz g9 0 0 ∧ g8 ≠ g9 ∧ Kp w1 wz)
def BFS13 (w w1 : World) (na nb : List UInt8) (ux uy dx dy vx vy fx fy tx ty : Int) (gt : Nat) (qa : Option Addr) (ql qc : Nat) (aa : Option Addr) (al ac : Nat) (ma : Option Addr) (ml mc : Nat) (ca : Option Addr) (cl cc : Nat) (qs : List Q) (clock epoch next serial : Int) (apps : List Appl) (ms : List Mac) (cs : List Con) (n : Nat) (lz : Array Bool) (az : Act) (wz : World) : Prop := (∃ g8 g9 g11 : Nat, n = 9 ∧ lz = #[true, true, false, true, true, true, true, false, true, true, false, true, true, true, true, false, true, true, false, true, false, false, false, false] ∧ az = { tmps := #[sv ⟨qa, ql, qc, aa, al, ac, ma, ml, mc, ca, cl, cc⟩ ⟨qs, clock, epoch, next, serial, apps, ms, cs⟩, .string (bs na), .string (bs nb), .pointer (some ⟨w.heap.size, 0, none⟩), undef, undef, .bool false, .pointer (some ⟨gt, 0, none⟩), .pointer (some ⟨g8, 0, none⟩), .pointer (some ⟨g9, 0, none⟩), undef, .pointer (some ⟨g11, 0, none⟩), .agg #[.slice qa ql qc, .int .i64 clock, .int .i64 epoch, .int .i64 next, .int .i64 serial, .slice aa al ac, .slice ma ml mc, .slice ca cl cc], rv tx ty, .agg #[.slice qa ql qc, .int .i64 clock, .int .i64 epoch, .int .i64 next, .int .i64 serial, .slice aa al ac, .slice ma ml mc, .slice ca cl cc], .string (bs na), undef, .pointer (some ⟨w.heap.size, 0, none⟩), .slice qa ql qc, .string (bs na), rv tx ty, undef, .agg #[.slice qa ql qc, .int .i64 clock, .int .i64 epoch, .int .i64 next, .int .i64 serial, .slice aa al ac, .slice ma ml mc, .slice ca cl cc], .string (bs nb), undef, .pointer (some ⟨w.heap.size, 0, none⟩), .slice qa ql qc, .string (bs nb), rv tx ty, undef, undef, undef, undef, undef, undef, undef, undef, undef, undef, undef, undef, undef, undef, undef, undef, undef], defers := [] } ∧ VB w1 wz g8 0 0 ∧ VB w1 wz g9 0 0 ∧ VB w1 wz g11 0 0 ∧ g8 ≠ g9 ∧ g8 ≠ g11 ∧ g9 ≠ g11 ∧ Kp w1 wz)
def BFS14 (w w1 : World) (na nb : List UInt8) (ux uy dx dy vx vy fx fy tx ty : Int) (gt : Nat) (qa : Option Addr) (ql qc : Nat) (aa : Option Addr) (al ac : Nat) (ma : Option Addr) (ml mc : Nat) (ca : Option Addr) (cl cc : Nat) (qs : List Q) (clock epoch next serial : Int) (apps : List Appl) (ms : List Mac) (cs : List Con) (n : Nat) (lz : Array Bool) (az : Act) (wz : World) : Prop := (∃ g8 g9 g10 : Nat, n = 9 ∧ lz = #[true, true, false, true, true, true, true, false, true, true, false, true, true, true, true, false, true, true, true, false, false, false, false, false] ∧ az = { tmps := #[sv ⟨qa, ql, qc, aa, al, ac, ma, ml, mc, ca, cl, cc⟩ ⟨qs, clock, epoch, next, serial, apps, ms, cs⟩, .string (bs na), .string (bs nb), .pointer (some ⟨w.heap.size, 0, none⟩), undef, undef, .bool false, .pointer (some ⟨gt, 0, none⟩), .pointer (some ⟨g8, 0, none⟩), .pointer (some ⟨g9, 0, none⟩), .pointer (some ⟨g10, 0, none⟩), undef, .agg #[.slice qa ql qc, .int .i64 clock, .int .i64 epoch, .int .i64 next, .int .i64 serial, .slice aa al ac, .slice ma ml mc, .slice ca cl cc], rv tx ty, .agg #[.slice qa ql qc, .int .i64 clock, .int .i64 epoch, .int .i64 next, .int .i64 serial, .slice aa al ac, .slice ma ml mc, .slice ca cl cc], .string (bs na), undef, .pointer (some ⟨w.heap.size, 0, none⟩), .slice qa ql qc, .string (bs na), rv tx ty, undef, .agg #[.slice qa ql qc, .int .i64 clock, .int .i64 epoch, .int .i64 next, .int .i64 serial, .slice aa al ac, .slice ma ml mc, .slice ca cl cc], .string (bs nb), undef, .pointer (some ⟨w.heap.size, 0, none⟩), .slice qa ql qc, .string (bs nb), rv tx ty, undef, undef, undef, undef, undef, undef, undef, undef, undef, undef, undef, undef, undef, undef, undef, undef, undef], defers := [] } ∧ VB w1 wz g8 0 0 ∧ VB w1 wz g9 0 0 ∧ VB w1 wz g10 0 0 ∧ g8 ≠ g9 ∧ g8 ≠ g10 ∧ g9 ≠ g10 ∧ Kp w1 wz)
def BFS15 (w w1 : World) (na nb : List UInt8) (ux uy dx dy vx vy fx fy tx ty : Int) (gt : Nat) (qa : Option Addr) (ql qc : Nat) (aa : Option Addr) (al ac : Nat) (ma : Option Addr) (ml mc : Nat) (ca : Option Addr) (cl cc : Nat) (qs : List Q) (clock epoch next serial : Int) (apps : List Appl) (ms : List Mac) (cs : List Con) (n : Nat) (lz : Array Bool) (az : Act) (wz : World) : Prop := (∃ g8 g9 g10 g11 : Nat, n = 8 ∧ lz = #[true, true, false, true, true, true, true, false, true, true, false, true, true, true, true, false, true, true, true, true, false, false, false, false] ∧ az = { tmps := #[sv ⟨qa, ql, qc, aa, al, ac, ma, ml, mc, ca, cl, cc⟩ ⟨qs, clock, epoch, next, serial, apps, ms, cs⟩, .string (bs na), .string (bs nb), .pointer (some ⟨w.heap.size, 0, none⟩), undef, undef, .bool false, .pointer (some ⟨gt, 0, none⟩), .pointer (some ⟨g8, 0, none⟩), .pointer (some ⟨g9, 0, none⟩), .pointer (some ⟨g10, 0, none⟩), .pointer (some ⟨g11, 0, none⟩), .agg #[.slice qa ql qc, .int .i64 clock, .int .i64 epoch, .int .i64 next, .int .i64 serial, .slice aa al ac, .slice ma ml mc, .slice ca cl cc], rv tx ty, .agg #[.slice qa ql qc, .int .i64 clock, .int .i64 epoch, .int .i64 next, .int .i64 serial, .slice aa al ac, .slice ma ml mc, .slice ca cl cc], .string (bs na), undef, .pointer (some ⟨w.heap.size, 0, none⟩), .slice qa ql qc, .string (bs na), rv tx ty, undef, .agg #[.slice qa ql qc, .int .i64 clock, .int .i64 epoch, .int .i64 next, .int .i64 serial, .slice aa al ac, .slice ma ml mc, .slice ca cl cc], .string (bs nb), undef, .pointer (some ⟨w.heap.size, 0, none⟩), .slice qa ql qc, .string (bs nb), rv tx ty, undef, undef, undef, undef, undef, undef, undef, undef, undef, undef, undef, undef, undef, undef, undef, undef, undef], defers := [] } ∧ VB w1 wz g8 0 0 ∧ VB w1 wz g9 0 0 ∧ VB w1 wz g10 0 0 ∧ VB w1 wz g11 0 0 ∧ g8 ≠ g9 ∧ g8 ≠ g10 ∧ g8 ≠ g11 ∧ g9 ≠ g10 ∧ g9 ≠ g11 ∧ g10 ≠ g11 ∧ Kp w1 wz)
def BFS16 (w w1 : World) (na nb : List UInt8) (ux uy dx dy vx vy fx fy tx ty : Int) (gt : Nat) (qa : Option Addr) (ql qc : Nat) (aa : Option Addr) (al ac : Nat) (ma : Option Addr) (ml mc : Nat) (ca : Option Addr) (cl cc : Nat) (qs : List Q) (clock epoch next serial : Int) (apps : List Appl) (ms : List Mac) (cs : List Con) (n : Nat) (lz : Array Bool) (az : Act) (wz : World) : Prop := (n = 11 ∧ lz = #[true, true, true, true, true, true, true, false, true, true, false, true, true, true, true, false, false, false, false, false, false, false, false, false] ∧ az = { tmps := #[sv ⟨qa, ql, qc, aa, al, ac, ma, ml, mc, ca, cl, cc⟩ ⟨qs, clock, epoch, next, serial, apps, ms, cs⟩, .string (bs na), .string (bs nb), .pointer (some ⟨w.heap.size, 0, none⟩), undef, undef, .bool false, .pointer (some ⟨gt, 0, none⟩), undef, undef, undef, undef, .agg #[.slice qa ql qc, .int .i64 clock, .int .i64 epoch, .int .i64 next, .int .i64 serial, .slice aa al ac, .slice ma ml mc, .slice ca cl cc], rv tx ty, .agg #[.slice qa ql qc, .int .i64 clock, .int .i64 epoch, .int .i64 next, .int .i64 serial, .slice aa al ac, .slice ma ml mc, .slice ca cl cc], .string (bs na), rv ux uy, .pointer (some ⟨w.heap.size, 0, none⟩), .slice qa ql qc, .string (bs na), rv tx ty, undef, .agg #[.slice qa ql qc, .int .i64 clock, .int .i64 epoch, .int .i64 next, .int .i64 serial, .slice aa al ac, .slice ma ml mc, .slice ca cl cc], .string (bs nb), undef, .pointer (some ⟨w.heap.size, 0, none⟩), .slice qa ql qc, .string (bs nb), rv tx ty, undef, undef, undef, undef, undef, undef, undef, undef, undef, undef, undef, undef, undef, undef, undef, undef, undef], defers := [] } ∧ Kp w1 wz)
def BFS17 (w w1 : World) (na nb : List UInt8) (ux uy dx dy vx vy fx fy tx ty : Int) (gt : Nat) (qa : Option Addr) (ql qc : Nat) (aa : Option Addr) (al ac : Nat) (ma : Option Addr) (ml mc : Nat) (ca : Option Addr) (cl cc : Nat) (qs : List Q) (clock epoch next serial : Int) (apps : List Appl) (ms : List Mac) (cs : List Con) (n : Nat) (lz : Array Bool) (az : Act) (wz : World) : Prop := (∃ g11 : Nat, n = 10 ∧ lz = #[true, true, true, true, true, true, true, false, true, true, false, true, true, true, true, false, false, false, false, true, false, false, false, false] ∧ az = { tmps := #[sv ⟨qa, ql, qc, aa, al, ac, ma, ml, mc, ca, cl, cc⟩ ⟨qs, clock, epoch, next, serial, apps, ms, cs⟩, .string (bs na), .string (bs nb), .pointer (some ⟨w.heap.size, 0, none⟩), undef, undef, .bool false, .pointer (some ⟨gt, 0, none⟩), undef, undef, undef, .pointer (some ⟨g11, 0, none⟩), .agg #[.slice qa ql qc, .int .i64 clock, .int .i64 epoch, .int .i64 next, .int .i64 serial, .slice aa al ac, .slice ma ml mc, .slice ca cl cc], rv tx ty, .agg #[.slice qa ql qc, .int .i64 clock, .int .i64 epoch, .int .i64 next, .int .i64 serial, .slice aa al ac, .slice ma ml mc, .slice ca cl cc], .string (bs na), rv ux uy, .pointer (some ⟨w.heap.size, 0, none⟩), .slice qa ql qc, .string (bs na), rv tx ty, undef, .agg #[.slice qa ql qc, .int .i64 clock, .int .i64 epoch, .int .i64 next, .int .i64 serial, .slice aa al ac, .slice ma ml mc, .slice ca cl cc], .string (bs nb), undef, .pointer (some ⟨w.heap.size, 0, none⟩), .slice qa ql qc, .string (bs nb), rv tx ty, undef, undef, undef, undef, undef, undef, undef, undef, undef, undef, undef, undef, undef, undef, undef, undef, undef], defers := [] } ∧ VB w1 wz g11 0 0 ∧ Kp w1 wz)
def BFS18 (w w1 : World) (na nb : List UInt8) (ux uy dx dy vx vy fx fy tx ty : Int) (gt : Nat) (qa : Option Addr) (ql qc : Nat) (aa : Option Addr) (al ac : Nat) (ma : Option Addr) (ml mc : Nat) (ca : Option Addr) (cl cc : Nat) (qs : List Q) (clock epoch next serial : Int) (apps : List Appl) (ms : List Mac) (cs : List Con) (n : Nat) (lz : Array Bool) (az : Act) (wz : World) : Prop := (∃ g10 : Nat, n = 10 ∧ lz = #[true, true, true, true, true, true, true, false, true, true, false, true, true, true, true, false, false, false, true, false, false, false, false, false] ∧ az = { tmps := #[sv ⟨qa, ql, qc, aa, al, ac, ma, ml, mc, ca, cl, cc⟩ ⟨qs, clock, epoch, next, serial, apps, ms, cs⟩, .string (bs na), .string (bs nb), .pointer (some ⟨w.heap.size, 0, none⟩), undef, undef, .bool false, .pointer (some ⟨gt, 0, none⟩), undef, undef, .pointer (some ⟨g10, 0, none⟩), undef, .agg #[.slice qa ql qc, .int .i64 clock, .int .i64 epoch, .int .i64 next, .int .i64 serial, .slice aa al ac, .slice ma ml mc, .slice ca cl cc], rv tx ty, .agg #[.slice qa ql qc, .int .i64 clock, .int .i64 epoch, .int .i64 next, .int .i64 serial, .slice aa al ac, .slice ma ml mc, .slice ca cl cc], .string (bs na), rv ux uy, .pointer (some ⟨w.heap.size, 0, none⟩), .slice qa ql qc, .string (bs na), rv tx ty, undef, .agg #[.slice qa ql qc, .int .i64 clock, .int .i64 epoch, .int .i64 next, .int .i64 serial, .slice aa al ac, .slice ma ml mc, .slice ca cl cc], .string (bs nb), undef, .pointer (some ⟨w.heap.size, 0, none⟩), .slice qa ql qc, .string (bs nb), rv tx ty, undef, undef, undef, undef, undef, undef, undef, undef, undef, undef, undef, undef, undef, undef, undef, undef, undef], defers := [] } ∧ VB w1 wz g10 0 0 ∧ Kp w1 wz)
def BFS19 (w w1 : World) (na nb : List UInt8) (ux uy dx dy vx vy fx fy tx ty : Int) (gt : Nat) (qa : Option Addr) (ql qc : Nat) (aa : Option Addr) (al ac : Nat) (ma : Option Addr) (ml mc : Nat) (ca : Option Addr) (cl cc : Nat) (qs : List Q) (clock epoch next serial : Int) (apps : List Appl) (ms : List Mac) (cs : List Con) (n : Nat) (lz : Array Bool) (az : Act) (wz : World) : Prop := (∃ g10 g11 : Nat, n = 9 ∧ lz = #[true, true, true, true, true, true, true, false, true, true, false, true, true, true, true, false, false, false, true, true, false, false, false, false] ∧ az = { tmps := #[sv ⟨qa, ql, qc, aa, al, ac, ma, ml, mc, ca, cl, cc⟩ ⟨qs, clock, epoch, next, serial, apps, ms, cs⟩, .string (bs na), .string (bs nb), .pointer (some ⟨w.heap.size, 0, none⟩), undef, undef, .bool false, .pointer (some ⟨gt, 0, none⟩), undef, undef, .pointer (some ⟨g10, 0, none⟩), .pointer (some ⟨g11, 0, none⟩), .agg #[.slice qa ql qc, .int .i64 clock, .int .i64 epoch, .int .i64 next, .int .i64 serial, .slice aa al ac, .slice ma ml mc, .slice ca cl cc], rv tx ty, .agg #[.slice qa ql qc, .int .i64 clock, .int .i64 epoch, .int .i64 next, .int .i64 serial, .slice aa al ac, .slice ma ml mc, .slice ca cl cc], .string (bs na), rv ux uy, .pointer (some ⟨w.heap.size, 0, none⟩), .slice qa ql qc, .string (bs na), rv tx ty, undef, .agg #[.slice qa ql qc, .int .i64 clock, .int .i64 epoch, .int .i64 next, .int .i64 serial, .slice aa al ac, .slice ma ml mc, .slice ca cl cc], .string (bs nb), undef, .pointer (some ⟨w.heap.size, 0, none⟩), .slice qa ql qc, .string (bs nb), rv tx ty, undef, undef, undef, undef, undef, undef, undef, undef, undef, undef, undef, undef, undef, undef, undef, undef, undef], defers := [] } ∧ VB w1 wz g10 0 0 ∧ VB w1 wz g11 0 0 ∧ g10 ≠ g11 ∧ Kp w1 wz)
def BFS20 (w w1 : World) (na nb : List UInt8) (ux uy dx dy vx vy fx fy tx ty : Int) (gt : Nat) (qa : Option Addr) (ql qc : Nat) (aa : Option Addr) (al ac : Nat) (ma : Option Addr) (ml mc : Nat) (ca : Option Addr) (cl cc : Nat) (qs : List Q) (clock epoch next serial : Int) (apps : List Appl) (ms : List Mac) (cs : List Con) (n : Nat) (lz : Array Bool) (az : Act) (wz : World) : Prop := (∃ g9 : Nat, n = 10 ∧ lz = #[true, true, true, true, true, true, true, false, true, true, false, true, true, true, true, false, false, true, false, false, false, false, false, false] ∧ az = { tmps := #[sv ⟨qa, ql, qc, aa, al, ac, ma, ml, mc, ca, cl, cc⟩ ⟨qs, clock, epoch, next, serial, apps, ms, cs⟩, .string (bs na), .string (bs nb), .pointer (some ⟨w.heap.size, 0, none⟩), undef, undef, .bool false, .pointer (some ⟨gt, 0, none⟩), undef, .pointer (some ⟨g9, 0, none⟩), undef, undef, .agg #[.slice qa ql qc, .int .i64 clock, .int .i64 epoch, .int .i64 next, .int .i64 serial, .slice aa al ac, .slice ma ml mc, .slice ca cl cc], rv tx ty, .agg #[.slice qa ql qc, .int .i64 clock, .int .i64 epoch, .int .i64 next, .int .i64 serial, .slice aa al ac, .slice ma ml mc, .slice ca cl cc], .string (bs na), rv ux uy, .pointer (some ⟨w.heap.size, 0, none⟩), .slice qa ql qc, .string (bs na), rv tx ty, undef, .agg #[.slice qa ql qc, .int .i64 clock, .int .i64 epoch, .int .i64 next, .int .i64 serial, .slice aa al ac, .slice ma ml mc, .slice ca cl cc], .string (bs nb), undef, .pointer (some ⟨w.heap.size, 0, none⟩), .slice qa ql qc, .string (bs nb), rv tx ty, undef, undef, undef, undef, undef, undef, undef, undef, undef, undef, undef, undef, undef, undef, undef, undef, undef], defers := [] } ∧ VB w1 wz g9 0 0 ∧ Kp w1 wz)
def BFS21 (w w1 : World) (na nb : List UInt8) (ux uy dx dy vx vy fx fy tx ty : Int) (gt : Nat) (qa : Option Addr) (ql qc : Nat) (aa : Option Addr) (al ac : Nat) (ma : Option Addr) (ml mc : Nat) (ca : Option Addr) (cl cc : Nat) (qs : List Q) (clock epoch next serial : Int) (apps : List Appl) (ms : List Mac) (cs : List Con) (n : Nat) (lz : Array Bool) (az : Act) (wz : World) : Prop := (∃ g9 g11 : Nat, n = 9 ∧ lz = #[true, true, true, true, true, true, true, false, true, true, false, true, true, true, true, false, false, true, false, true, false, false, false, false] ∧ az = { tmps := #[sv ⟨qa, ql, qc, aa, al, ac, ma, ml, mc, ca, cl, cc⟩ ⟨qs, clock, epoch, next, serial, apps, ms, cs⟩, .string (bs na), .string (bs nb), .pointer (some ⟨w.heap.size, 0, none⟩), undef, undef, .bool false, .pointer (some ⟨gt, 0, none⟩), undef, .pointer (some ⟨g9, 0, none⟩), undef, .pointer (some ⟨g11, 0, none⟩), .agg #[.slice qa ql qc, .int .i64 clock, .int .i64 epoch, .int .i64 next, .int .i64 serial, .slice aa al ac, .slice ma ml mc, .slice ca cl cc], rv tx ty, .agg #[.slice qa ql qc, .int .i64 clock, .int .i64 epoch, .int .i64 next, .int .i64 serial, .slice aa al ac, .slice ma ml mc, .slice ca cl cc], .string (bs na), rv ux uy, .pointer (some ⟨w.heap.size, 0, none⟩), .slice qa ql qc, .string (bs na), rv tx ty, undef, .agg #[.slice qa ql qc, .int .i64 clock, .int .i64 epoch, .int .i64 next, .int .i64 serial, .slice aa al ac, .slice ma ml mc, .slice ca cl cc], .string (bs nb), undef, .pointer (some ⟨w.heap.size, 0, none⟩), .slice qa ql qc, .string (bs nb), rv tx ty, undef, undef, undef, undef, undef, undef, undef, undef, undef, undef, undef, undef, undef, undef, undef, undef, undef], defers := [] } ∧ VB w1 wz g9 0 0 ∧ VB w1 wz g11 0 0 ∧ g9 ≠ g11 ∧ Kp w1 wz)
def BFS22 (w w1 : World) (na nb : List UInt8) (ux uy dx dy vx vy fx fy tx ty : Int) (gt : Nat) (qa : Option Addr) (ql qc : Nat) (aa : Option Addr) (al ac : Nat) (ma : Option Addr) (ml mc : Nat) (ca : Option Addr) (cl cc : Nat) (qs : List Q) (clock epoch next serial : Int) (apps : List Appl) (ms : List Mac) (cs : List Con) (n : Nat) (lz : Array Bool) (az : Act) (wz : World) : Prop := (∃ g9 g10 : Nat, n = 9 ∧ lz = #[true, true, true, true, true, true, true, false, true, true, false, true, true, true, true, false, false, true, true, false, false, false, false, false] ∧ az = { tmps := #[sv ⟨qa, ql, qc, aa, al, ac, ma, ml, mc, ca, cl, cc⟩ ⟨qs, clock, epoch, next, serial, apps, ms, cs⟩, .string (bs na), .string (bs nb), .pointer (some ⟨w.heap.size, 0, none⟩), undef, undef, .bool false, .pointer (some ⟨gt, 0, none⟩), undef, .pointer (some ⟨g9, 0, none⟩), .pointer (some ⟨g10, 0, none⟩), undef, .agg #[.slice qa ql qc, .int .i64 clock, .int .i64 epoch, .int .i64 next, .int .i64 serial, .slice aa al ac, .slice ma ml mc, .slice ca cl cc], rv tx ty, .agg #[.slice qa ql qc, .int .i64 clock, .int .i64 epoch, .int .i64 next, .int .i64 serial, .slice aa al ac, .slice ma ml mc, .slice ca cl cc], .string (bs na), rv ux uy, .pointer (some ⟨w.heap.size, 0, none⟩), .slice qa ql qc, .string (bs na), rv tx ty, undef, .agg #[.slice qa ql qc, .int .i64 clock, .int .i64 epoch, .int .i64 next, .int .i64 serial, .slice aa al ac, .slice ma ml mc, .slice ca cl cc], .string (bs nb), undef, .pointer (some ⟨w.heap.size, 0, none⟩), .slice qa ql qc, .string (bs nb), rv tx ty, undef, undef, undef, undef, undef, undef, undef, undef, undef, undef, undef, undef, undef, undef, undef, undef, undef], defers := [] } ∧ VB w1 wz g9 0 0 ∧ VB w1 wz g10 0 0 ∧ g9 ≠ g10 ∧ Kp w1 wz)
def BFS23 (w w1 : World) (na nb : List UInt8) (ux uy dx dy vx vy fx fy tx ty : Int) (gt : Nat) (qa : Option Addr) (ql qc : Nat) (aa : Option Addr) (al ac : Nat) (ma : Option Addr) (ml mc : Nat) (ca : Option Addr) (cl cc : Nat) (qs : List Q) (clock epoch next serial : Int) (apps : List Appl) (ms : List Mac) (cs : List Con) (n : Nat) (lz : Array Bool) (az : Act) (wz : World) : Prop := (∃ g9 g10 g11 : Nat, n = 8 ∧ lz = #[true, true, true, true, true, true, true, false, true, true, false, true, true, true, true, false, false, true, true, true, false, false, false, false] ∧ az = { tmps := #[sv ⟨qa, ql, qc, aa, al, ac, ma, ml, mc, ca, cl, cc⟩ ⟨qs, clock, epoch, next, serial, apps, ms, cs⟩, .string (bs na), .string (bs nb), .pointer (some ⟨w.heap.size, 0, none⟩), undef, undef, .bool false, .pointer (some ⟨gt, 0, none⟩), undef, .pointer (some ⟨g9, 0, none⟩), .pointer (some ⟨g10, 0, none⟩), .pointer (some ⟨g11, 0, none⟩), .agg #[.slice qa ql qc, .int .i64 clock, .int .i64 epoch, .int .i64 next, .int .i64 serial, .slice aa al ac, .slice ma ml mc, .slice ca cl cc], rv tx ty, .agg #[.slice qa ql qc, .int .i64 clock, .int .i64 epoch, .int .i64 next, .int .i64 serial, .slice aa al ac, .slice ma ml mc, .slice ca cl cc], .string (bs na), rv ux uy, .pointer (some ⟨w.heap.size, 0, none⟩), .slice qa ql qc, .string (bs na), rv tx ty, undef, .agg #[.slice qa ql qc, .int .i64 clock, .int .i64 epoch, .int .i64 next, .int .i64 serial, .slice aa al ac, .slice ma ml mc, .slice ca cl cc], .string (bs nb), undef, .pointer (some ⟨w.heap.size, 0, none⟩), .slice qa ql qc, .string (bs nb), rv tx ty, undef, undef, undef, undef, undef, undef, undef, undef, undef, undef, undef, undef, undef, undef, undef, undef, undef], defers := [] } ∧ VB w1 wz g9 0 0 ∧ VB w1 wz g10 0 0 ∧ VB w1 wz g11 0 0 ∧ g9 ≠ g10 ∧ g9 ≠ g11 ∧ g10 ≠ g11 ∧ Kp w1 wz)
def BFS24 (w w1 : World) (na nb : List UInt8) (ux uy dx dy vx vy fx fy tx ty : Int) (gt : Nat) (qa : Option Addr) (ql qc : Nat) (aa : Option Addr) (al ac : Nat) (ma : Option Addr) (ml mc : Nat) (ca : Option Addr) (cl cc : Nat) (qs : List Q) (clock epoch next serial : Int) (apps : List Appl) (ms : List Mac) (cs : List Con) (n : Nat) (lz : Array Bool) (az : Act) (wz : World) : Prop := (∃ g8 : Nat, n = 10 ∧ lz = #[true, true, true, true, true, true, true, false, true, true, false, true, true, true, true, false, true, false, false, false, false, false, false, false] ∧ az = { tmps := #[sv ⟨qa, ql, qc, aa, al, ac, ma, ml, mc, ca, cl, cc⟩ ⟨qs, clock, epoch, next, serial, apps, ms, cs⟩, .string (bs na), .string (bs nb), .pointer (some ⟨w.heap.size, 0, none⟩), undef, undef, .bool false, .pointer (some ⟨gt, 0, none⟩), .pointer (some ⟨g8, 0, none⟩), undef, undef, undef, .agg #[.slice qa ql qc, .int .i64 clock, .int .i64 epoch, .int .i64 next, .int .i64 serial, .slice aa al ac, .slice ma ml mc, .slice ca cl cc], rv tx ty, .agg #[.slice qa ql qc, .int .i64 clock, .int .i64 epoch, .int .i64 next, .int .i64 serial, .slice aa al ac, .slice ma ml mc, .slice ca cl cc], .string (bs na), rv ux uy, .pointer (some ⟨w.heap.size, 0, none⟩), .slice qa ql qc, .string (bs na), rv tx ty, undef, .agg #[.slice qa ql qc, .int .i64 clock, .int .i64 epoch, .int .i64 next, .int .i64 serial, .slice aa al ac, .slice ma ml mc, .slice ca cl cc], .string (bs nb), undef, .pointer (some ⟨w.heap.size, 0, none⟩), .slice qa ql qc, .string (bs nb), rv tx ty, undef, undef, undef, undef, undef, undef, undef, undef, undef, undef, undef, undef, undef, undef, undef, undef, undef], defers := [] } ∧ VB w1 wz g8 0 0 ∧ Kp w1 wz)
def BFS25 (w w1 : World) (na nb : List UInt8) (ux uy dx dy vx vy fx fy tx ty : Int) (gt : Nat) (qa : Option Addr) (ql qc : Nat) (aa : Option Addr) (al ac : Nat) (ma : Option Addr) (ml mc : Nat) (ca : Option Addr) (cl cc : Nat) (qs : List Q) (clock epoch next serial : Int) (apps : List Appl) (ms : List Mac) (cs : List Con) (n : Nat) (lz : Array Bool) (az : Act) (wz : World) : Prop := (∃ g8 g11 : Nat, n = 9 ∧ lz = #[true, true, true, true, true, true, true, false, true, true, false, true, true, true, true, false, true, false, false, true, false, false, false, false] ∧ az = { tmps := #[sv ⟨qa, ql, qc, aa, al, ac, ma, ml, mc, ca, cl, cc⟩ ⟨qs, clock, epoch, next, serial, apps, ms, cs⟩, .string (bs na), .string (bs nb), .pointer (some ⟨w.heap.size, 0, none⟩), undef, undef, .bool false, .pointer (some ⟨gt, 0, none⟩), .pointer (some ⟨g8, 0, none⟩), undef, undef, .pointer (some ⟨g11, 0, none⟩), .agg #[.slice qa ql qc, .int .i64 clock, .int .i64 epoch, .int .i64 next, .int .i64 serial, .slice aa al ac, .slice ma ml mc, .slice ca cl cc], rv tx ty, .agg #[.slice qa ql qc, .int .i64 clock, .int .i64 epoch, .int .i64 next, .int .i64 serial, .slice aa al ac, .slice ma ml mc, .slice ca cl cc], .string (bs na), rv ux uy, .pointer (some ⟨w.heap.size, 0, none⟩), .slice qa ql qc, .string (bs na), rv tx ty, undef, .agg #[.slice qa ql qc, .int .i64 clock, .int .i64 epoch, .int .i64 next, .int .i64 serial, .slice aa al ac, .slice ma ml mc, .slice ca cl cc], .string (bs nb), undef, .pointer (some ⟨w.heap.size, 0, none⟩), .slice qa ql qc, .string (bs nb), rv tx ty, undef, undef, undef, undef, undef, undef, undef, undef, undef, undef, undef, undef, undef, undef, undef, undef, undef], defers := [] } ∧ VB w1 wz g8 0 0 ∧ VB w1 wz g11 0 0 ∧ g8 ≠ g11 ∧ Kp w1 wz)
def BFS26 (w w1 : World) (na nb : List UInt8) (ux uy dx dy vx vy fx fy tx ty : Int) (gt : Nat) (qa : Option Addr) (ql qc : Nat) (aa : Option Addr) (al ac : Nat) (ma : Option Addr) (ml mc : Nat) (ca : Option Addr) (cl cc : Nat) (qs : List Q) (clock epoch next serial : Int) (apps : List Appl) (ms : List Mac) (cs : List Con) (n : Nat) (lz : Array Bool) (az : Act) (wz : World) : Prop := (∃ g8 g10 : Nat, n = 9 ∧ lz = #[true, true, true, true, true, true, true, false, true, true, false, true, true, true, true, false, true, false, true, false, false, false, false, false] ∧ az = { tmps := #[sv ⟨qa, ql, qc, aa, al, ac, ma, ml, mc, ca, cl, cc⟩ ⟨qs, clock, epoch, next, serial, apps, ms, cs⟩, .string (bs na), .string (bs nb), .pointer (some ⟨w.heap.size, 0, none⟩), undef, undef, .bool false, .pointer (some ⟨gt, 0, none⟩), .pointer (some ⟨g8, 0, none⟩), undef, .pointer (some ⟨g10, 0, none⟩), undef, .agg #[.slice qa ql qc, .int .i64 clock, .int .i64 epoch, .int .i64 next, .int .i64 serial, .slice aa al ac, .slice ma ml mc, .slice ca cl cc], rv tx ty, .agg #[.slice qa ql qc, .int .i64 clock, .int .i64 epoch, .int .i64 next, .int .i64 serial, .slice aa al ac, .slice ma ml mc, .slice ca cl cc], .string (bs na), rv ux uy, .pointer (some ⟨w.heap.size, 0, none⟩), .slice qa ql qc, .string (bs na), rv tx ty, undef, .agg #[.slice qa ql qc, .int .i64 clock, .int .i64 epoch, .int .i64 next, .int .i64 serial, .slice aa al ac, .slice ma ml mc, .slice ca cl cc], .string (bs nb), undef, .pointer (some ⟨w.heap.size, 0, none⟩), .slice qa ql qc, .string (bs nb), rv tx ty, undef, undef, undef, undef, undef, undef, undef, undef, undef, undef, undef, undef, undef, undef, undef, undef, undef], defers := [] } ∧ VB w1 wz g8 0 0 ∧ VB w1 wz g10 0 0 ∧ g8 ≠ g10 ∧ Kp w1 wz)
def BFS27 (w w1 : World) (na nb : List UInt8) (ux uy dx dy vx vy fx fy tx ty : Int) (gt : Nat) (qa : Option Addr) (ql qc : Nat) (aa : Option Addr) (al ac : Nat) (ma : Option Addr) (ml mc : Nat) (ca : Option Addr) (cl cc : Nat) (qs : List Q) (clock epoch next serial : Int) (apps : List Appl) (ms : List Mac) (cs : List Con) (n : Nat) (lz : Array Bool) (az : Act) (wz : World) : Prop := (∃ g8 g10 g11 : Nat, n = 8 ∧ lz = #[true, true, true, true, true, true, true, false, true, true, false, true, true, true, true, false, true, false, true, true, false, false, false, false] ∧ az = { tmps := #[sv ⟨qa, ql, qc, aa, al, ac, ma, ml, mc, ca, cl, cc⟩ ⟨qs, clock, epoch, next, serial, apps, ms, cs⟩, .string (bs na), .string (bs nb), .pointer (some ⟨w.heap.size, 0, none⟩), undef, undef, .bool false, .pointer (some ⟨gt, 0, none⟩), .pointer (some ⟨g8, 0, none⟩), undef, .pointer (some ⟨g10, 0, none⟩), .pointer (some ⟨g11, 0, none⟩), .agg #[.slice qa ql qc, .int .i64 clock, .int .i64 epoch, .int .i64 next, .int .i64 serial, .slice aa al ac, .slice ma ml mc, .slice ca cl cc], rv tx ty, .agg #[.slice qa ql qc, .int .i64 clock, .int .i64 epoch, .int .i64 next, .int .i64 serial, .slice aa al ac, .slice ma ml mc, .slice ca cl cc], .string (bs na), rv ux uy, .pointer (some ⟨w.heap.size, 0, none⟩), .slice qa ql qc, .string (bs na), rv tx ty, undef, .agg #[.slice qa ql qc, .int .i64 clock, .int .i64 epoch, .int .i64 next, .int .i64 serial, .slice aa al ac, .slice ma ml mc, .slice ca cl cc], .string (bs nb), undef, .pointer (some ⟨w.heap.size, 0, none⟩), .slice qa ql qc, .string (bs nb), rv tx ty, undef, undef, undef, undef, undef, undef, undef, undef, undef, undef, undef, undef, undef, undef, undef, undef, undef], defers := [] } ∧ VB w1 wz g8 0 0 ∧ VB w1 wz g10 0 0 ∧ VB w1 wz g11 0 0 ∧ g8 ≠ g10 ∧ g8 ≠ g11 ∧ g10 ≠ g11 ∧ Kp w1 wz)
def BFS28 (w w1 : World) (na nb : List UInt8) (ux uy dx dy vx vy fx fy tx ty : Int) (gt : Nat) (qa : Option Addr) (ql qc : Nat) (aa : Option Addr) (al ac : Nat) (ma : Option Addr) (ml mc : Nat) (ca : Option Addr) (cl cc : Nat) (qs : List Q) (clock epoch next serial : Int) (apps : List Appl) (ms : List Mac) (cs : List Con) (n : Nat) (lz : Array Bool) (az : Act) (wz : World) : Prop := (∃ g8 g9 : Nat, n = 9 ∧ lz = #[true, true, true, true, true, true, true, false, true, true, false, true, true, true, true, false, true, true, false, false, false, false, false, false] ∧ az = { tmps := #[sv ⟨qa, ql, qc, aa, al, ac, ma, ml, mc, ca, cl, cc⟩ ⟨qs, clock, epoch, next, serial, apps, ms, cs⟩, .string (bs na), .string (bs nb), .pointer (some ⟨w.heap.size, 0, none⟩), undef, undef, .bool false, .pointer (some ⟨gt, 0, none⟩), .pointer (some ⟨g8, 0, none⟩), .pointer (some ⟨g9, 0, none⟩), undef, undef, .agg #[.slice qa ql qc, .int .i64 clock, .int .i64 epoch, .int .i64 next, .int .i64 serial, .slice aa al ac, .slice ma ml mc, .slice ca cl cc], rv tx ty, .agg #[.slice qa ql qc, .int .i64 clock, .int .i64 epoch, .int .i64 next, .int .i64 serial, .slice aa al ac, .slice ma ml mc, .slice ca cl cc], .string (bs na), rv ux uy, .pointer (some ⟨w.heap.size, 0, none⟩), .slice qa ql qc, .string (bs na), rv tx ty, undef, .agg #[.slice qa ql qc, .int .i64 clock, .int .i64 epoch, .int .i64 next, .int .i64 serial, .slice aa al ac, .slice ma ml mc, .slice ca cl cc], .string (bs nb), undef, .pointer (some ⟨w.heap.size, 0, none⟩), .slice qa ql qc, .string (bs nb), rv tx ty, undef, undef, undef, undef, undef, undef, undef, undef, undef, undef, undef, undef, undef, undef, undef, undef, undef], defers := [] } ∧ VB w1 wz g8 0 0 ∧ VB w1 wz g9 0 0 ∧ g8 ≠ g9 ∧ Kp w1 wz)
def BFS29 (w w1 : World) (na nb : List UInt8) (ux uy dx dy vx vy fx fy tx ty : Int) (gt : Nat) (qa : Option Addr) (ql qc : Nat) (aa : Option Addr) (al ac : Nat) (ma : Option Addr) (ml mc : Nat) (ca : Option Addr) (cl cc : Nat) (qs : List Q) (clock epoch next serial : Int) (apps : List Appl) (ms : List Mac) (cs : List Con) (n : Nat) (lz : Array Bool) (az : Act) (wz : World) : Prop := (∃ g8 g9 g11 : Nat, n = 8 ∧ lz = #[true, true, true, true, true, true, true, false, true, true, false, true, true, true, true, false, true, true, false, true, false, false, false, false] ∧ az = { tmps := #[sv ⟨qa, ql, qc, aa, al, ac, ma, ml, mc, ca, cl, cc⟩ ⟨qs, clock, epoch, next, serial, apps, ms, cs⟩, .string (bs na), .string (bs nb), .pointer (some ⟨w.heap.size, 0, none⟩), undef, undef, .bool false, .pointer (some ⟨gt, 0, none⟩), .pointer (some ⟨g8, 0, none⟩), .pointer (some ⟨g9, 0, none⟩), undef, .pointer (some ⟨g11, 0, none⟩), .agg #[.slice qa ql qc, .int .i64 clock, .int .i64 epoch, .int .i64 next, .int .i64 serial, .slice aa al ac, .slice ma ml mc, .slice ca cl cc], rv tx ty, .agg #[.slice qa ql qc, .int .i64 clock, .int .i64 epoch, .int .i64 next, .int .i64 serial, .slice aa al ac, .slice ma ml mc, .slice ca cl cc], .string (bs na), rv ux uy, .pointer (some ⟨w.heap.size, 0, none⟩), .slice qa ql qc, .string (bs na), rv tx ty, undef, .agg #[.slice qa ql qc, .int .i64 clock, .int .i64 epoch, .int .i64 next, .int .i64 serial, .slice aa al ac, .slice ma ml mc, .slice ca cl cc], .string (bs nb), undef, .pointer (some ⟨w.heap.size, 0, none⟩), .slice qa ql qc, .string (bs nb), rv tx ty, undef, undef, undef, undef, undef, undef, undef, undef, undef, undef, undef, undef, undef, undef, undef, undef, undef], defers := [] } ∧ VB w1 wz g8 0 0 ∧ VB w1 wz g9 0 0 ∧ VB w1 wz g11 0 0 ∧ g8 ≠ g9 ∧ g8 ≠ g11 ∧ g9 ≠ g11 ∧ Kp w1 wz)
def BFS30 (w w1 : World) (na nb : List UInt8) (ux uy dx dy vx vy fx fy tx ty : Int) (gt : Nat) (qa : Option Addr) (ql qc : Nat) (aa : Option Addr) (al ac : Nat) (ma : Option Addr) (ml mc : Nat) (ca : Option Addr) (cl cc : Nat) (qs : List Q) (clock epoch next serial : Int) (apps : List Appl) (ms : List Mac) (cs : List Con) (n : Nat) (lz : Array Bool) (az : Act) (wz : World) : Prop := (∃ g8 g9 g10 : Nat, n = 8 ∧ lz = #[true, true, true, true, true, true, true, false, true, true, false, true, true, true, true, false, true, true, true, false, false, false, false, false] ∧ az = { tmps := #[sv ⟨qa, ql, qc, aa, al, ac, ma, ml, mc, ca, cl, cc⟩ ⟨qs, clock, epoch, next, serial, apps, ms, cs⟩, .string (bs na), .string (bs nb), .pointer (some ⟨w.heap.size, 0, none⟩), undef, undef, .bool false, .pointer (some ⟨gt, 0, none⟩), .pointer (some ⟨g8, 0, none⟩), .pointer (some ⟨g9, 0, none⟩), .pointer (some ⟨g10, 0, none⟩), undef, .agg #[.slice qa ql qc, .int .i64 clock, .int .i64 epoch, .int .i64 next, .int .i64 serial, .slice aa al ac, .slice ma ml mc, .slice ca cl cc], rv tx ty, .agg #[.slice qa ql qc, .int .i64 clock, .int .i64 epoch, .int .i64 next, .int .i64 serial, .slice aa al ac, .slice ma ml mc, .slice ca cl cc], .string (bs na), rv ux uy, .pointer (some ⟨w.heap.size, 0, none⟩), .slice qa ql qc, .string (bs na), rv tx ty, undef, .agg #[.slice qa ql qc, .int .i64 clock, .int .i64 epoch, .int .i64 next, .int .i64 serial, .slice aa al ac, .slice ma ml mc, .slice ca cl cc], .string (bs nb), undef, .pointer (some ⟨w.heap.size, 0, none⟩), .slice qa ql qc, .string (bs nb), rv tx ty, undef, undef, undef, undef, undef, undef, undef, undef, undef, undef, undef, undef, undef, undef, undef, undef, undef], defers := [] } ∧ VB w1 wz g8 0 0 ∧ VB w1 wz g9 0 0 ∧ VB w1 wz g10 0 0 ∧ g8 ≠ g9 ∧ g8 ≠ g10 ∧ g9 ≠ g10 ∧ Kp w1 wz)
def BFS31 (w w1 : World) (na nb : List UInt8) (ux uy dx dy vx vy fx fy tx ty : Int) (gt : Nat) (qa : Option Addr) (ql qc : Nat) (aa : Option Addr) (al ac : Nat) (ma : Option Addr) (ml mc : Nat) (ca : Option Addr) (cl cc : Nat) (qs : List Q) (clock epoch next serial : Int) (apps : List Appl) (ms : List Mac) (cs : List Con) (n : Nat) (lz : Array Bool) (az : Act) (wz : World) : Prop := (∃ g8 g9 g10 g11 : Nat, n = 7 ∧ lz = #[true, true, true, true, true, true, true, false, true, true, false, true, true, true, true, false, true, true, true, true, false, false, false, false] ∧ az = { tmps := #[sv ⟨qa, ql, qc, aa, al, ac, ma, ml, mc, ca, cl, cc⟩ ⟨qs, clock, epoch, next, serial, apps, ms, cs⟩, .string (bs na), .string (bs nb), .pointer (some ⟨w.heap.size, 0, none⟩), undef, undef, .bool false, .pointer (some ⟨gt, 0, none⟩), .pointer (some ⟨g8, 0, none⟩), .pointer (some ⟨g9, 0, none⟩), .pointer (some ⟨g10, 0, none⟩), .pointer (some ⟨g11, 0, none⟩), .agg #[.slice qa ql qc, .int .i64 clock, .int .i64 epoch, .int .i64 next, .int .i64 serial, .slice aa al ac, .slice ma ml mc, .slice ca cl cc], rv tx ty, .agg #[.slice qa ql qc, .int .i64 clock, .int .i64 epoch, .int .i64 next, .int .i64 serial, .slice aa al ac, .slice ma ml mc, .slice ca cl cc], .string (bs na), rv ux uy, .pointer (some ⟨w.heap.size, 0, none⟩), .slice qa ql qc, .string (bs na), rv tx ty, undef, .agg #[.slice qa ql qc, .int .i64 clock, .int .i64 epoch, .int .i64 next, .int .i64 serial, .slice aa al ac, .slice ma ml mc, .slice ca cl cc], .string (bs nb), undef, .pointer (some ⟨w.heap.size, 0, none⟩), .slice qa ql qc, .string (bs nb), rv tx ty, undef, undef, undef, undef, undef, undef, undef, undef, undef, undef, undef, undef, undef, undef, undef, undef, undef], defers := [] } ∧ VB w1 wz g8 0 0 ∧ VB w1 wz g9 0 0 ∧ VB w1 wz g10 0 0 ∧ VB w1 wz g11 0 0 ∧ g8 ≠ g9 ∧ g8 ≠ g10 ∧ g8 ≠ g11 ∧ g9 ≠ g10 ∧ g9 ≠ g11 ∧ g10 ≠ g11 ∧ Kp w1 wz)
def BFS32 (w w1 : World) (na nb : List UInt8) (ux uy dx dy vx vy fx fy tx ty : Int) (gt : Nat) (qa : Option Addr) (ql qc : Nat) (aa : Option Addr) (al ac : Nat) (ma : Option Addr) (ml mc : Nat) (ca : Option Addr) (cl cc : Nat) (qs : List Q) (clock epoch next serial : Int) (apps : List Appl) (ms : List Mac) (cs : List Con) (n : Nat) (lz : Array Bool) (az : Act) (wz : World) : Prop := (n = 10 ∧ lz = #[true, true, true, true, true, true, true, true, true, true, false, true, true, true, true, false, false, false, false, false, false, false, false, false] ∧ az = { tmps := #[sv ⟨qa, ql, qc, aa, al, ac, ma, ml, mc, ca, cl, cc⟩ ⟨qs, clock, epoch, next, serial, apps, ms, cs⟩, .string (bs na), .string (bs nb), .pointer (some ⟨w.heap.size, 0, none⟩), undef, undef, .bool false, .pointer (some ⟨gt, 0, none⟩), undef, undef, undef, undef, .agg #[.slice qa ql qc, .int .i64 clock, .int .i64 epoch, .int .i64 next, .int .i64 serial, .slice aa al ac, .slice ma ml mc, .slice ca cl cc], rv tx ty, .agg #[.slice qa ql qc, .int .i64 clock, .int .i64 epoch, .int .i64 next, .int .i64 serial, .slice aa al ac, .slice ma ml mc, .slice ca cl cc], .string (bs na), rv ux uy, .pointer (some ⟨w.heap.size, 0, none⟩), .slice qa ql qc, .string (bs na), rv tx ty, rv dx dy, .agg #[.slice qa ql qc, .int .i64 clock, .int .i64 epoch, .int .i64 next, .int .i64 serial, .slice aa al ac, .slice ma ml mc, .slice ca cl cc], .string (bs nb), undef, .pointer (some ⟨w.heap.size, 0, none⟩), .slice qa ql qc, .string (bs nb), rv tx ty, undef, undef, undef, undef, undef, undef, undef, undef, undef, undef, undef, undef, undef, undef, undef, undef, undef], defers := [] } ∧ Kp w1 wz)
def BFS33 (w w1 : World) (na nb : List UInt8) (ux uy dx dy vx vy fx fy tx ty : Int) (gt : Nat) (qa : Option Addr) (ql qc : Nat) (aa : Option Addr) (al ac : Nat) (ma : Option Addr) (ml mc : Nat) (ca : Option Addr) (cl cc : Nat) (qs : List Q) (clock epoch next serial : Int) (apps : List Appl) (ms : List Mac) (cs : List Con) (n : Nat) (lz : Array Bool) (az : Act) (wz : World) : Prop := (∃ g11 : Nat, n = 9 ∧ lz = #[true, true, true, true, true, true, true, true, true, true, false, true, true, true, true, false, false, false, false, true, false, false, false, false] ∧ az = { tmps := #[sv ⟨qa, ql, qc, aa, al, ac, ma, ml, mc, ca, cl, cc⟩ ⟨qs, clock, epoch, next, serial, apps, ms, cs⟩, .string (bs na), .string (bs nb), .pointer (some ⟨w.heap.size, 0, none⟩), undef, undef, .bool false, .pointer (some ⟨gt, 0, none⟩), undef, undef, undef, .pointer (some ⟨g11, 0, none⟩), .agg #[.slice qa ql qc, .int .i64 clock, .int .i64 epoch, .int .i64 next, .int .i64 serial, .slice aa al ac, .slice ma ml mc, .slice ca cl cc], rv tx ty, .agg #[.slice qa ql qc, .int .i64 clock, .int .i64 epoch, .int .i64 next, .int .i64 serial, .slice aa al ac, .slice ma ml mc, .slice ca cl cc], .string (bs na), rv ux uy, .pointer (some ⟨w.heap.size, 0, none⟩), .slice qa ql qc, .string (bs na), rv tx ty, rv dx dy, .agg #[.slice qa ql qc, .int .i64 clock, .int .i64 epoch, .int .i64 next, .int .i64 serial, .slice aa al ac, .slice ma ml mc, .slice ca cl cc], .string (bs nb), undef, .pointer (some ⟨w.heap.size, 0, none⟩), .slice qa ql qc, .string (bs nb), rv tx ty, undef, undef, undef, undef, undef, undef, undef, undef, undef, undef, undef, undef, undef, undef, undef, undef, undef], defers := [] } ∧ VB w1 wz g11 0 0 ∧ Kp w1 wz)
def BFS34 (w w1 : World) (na nb : List UInt8) (ux uy dx dy vx vy fx fy tx ty : Int) (gt : Nat) (qa : Option Addr) (ql qc : Nat) (aa : Option Addr) (al ac : Nat) (ma : Option Addr) (ml mc : Nat) (ca : Option Addr) (cl cc : Nat) (qs : List Q) (clock epoch next serial : Int) (apps : List Appl) (ms : List Mac) (cs : List Con) (n : Nat) (lz : Array Bool) (az : Act) (wz : World) : Prop := (∃ g10 : Nat, n = 9 ∧ lz = #[true, true, true, true, true, true, true, true, true, true, false, true, true, true, true, false, false, false, true, false, false, false, false, false] ∧ az = { tmps := #[sv ⟨qa, ql, qc, aa, al, ac, ma, ml, mc, ca, cl, cc⟩ ⟨qs, clock, epoch, next, serial, apps, ms, cs⟩, .string (bs na), .string (bs nb), .pointer (some ⟨w.heap.size, 0, none⟩), undef, undef, .bool false, .pointer (some ⟨gt, 0, none⟩), undef, undef, .pointer (some ⟨g10, 0, none⟩), undef, .agg #[.slice qa ql qc, .int .i64 clock, .int .i64 epoch, .int .i64 next, .int .i64 serial, .slice aa al ac, .slice ma ml mc, .slice ca cl cc], rv tx ty, .agg #[.slice qa ql qc, .int .i64 clock, .int .i64 epoch, .int .i64 next, .int .i64 serial, .slice aa al ac, .slice ma ml mc, .slice ca cl cc], .string (bs na), rv ux uy, .pointer (some ⟨w.heap.size, 0, none⟩), .slice qa ql qc, .string (bs na), rv tx ty, rv dx dy, .agg #[.slice qa ql qc, .int .i64 clock, .int .i64 epoch, .int .i64 next, .int .i64 serial, .slice aa al ac, .slice ma ml mc, .slice ca cl cc], .string (bs nb), undef, .pointer (some ⟨w.heap.size, 0, none⟩), .slice qa ql qc, .string (bs nb), rv tx ty, undef, undef, undef, undef, undef, undef, undef, undef, undef, undef, undef, undef, undef, undef, undef, undef, undef], defers := [] } ∧ VB w1 wz g10 0 0 ∧ Kp w1 wz)
def BFS35 (w w1 : World) (na nb : List UInt8) (ux uy dx dy vx vy fx fy tx ty : Int) (gt : Nat) (qa : Option Addr) (ql qc : Nat) (aa : Option Addr) (al ac : Nat) (ma : Option Addr) (ml mc : Nat) (ca : Option Addr) (cl cc : Nat) (qs : List Q) (clock epoch next serial : Int) (apps : List Appl) (ms : List Mac) (cs : List Con) (n : Nat) (lz : Array Bool) (az : Act) (wz : World) : Prop := (∃ g10 g11 : Nat, n = 8 ∧ lz = #[true, true, true, true, true, true, true, true, true, true, false, true, true, true, true, false, false, false, true, true, false, false, false, false] ∧ az = { tmps := #[sv ⟨qa, ql, qc, aa, al, ac, ma, ml, mc, ca, cl, cc⟩ ⟨qs, clock, epoch, next, serial, apps, ms, cs⟩, .string (bs na), .string (bs nb), .pointer (some ⟨w.heap.size, 0, none⟩), undef, undef, .bool false, .pointer (some ⟨gt, 0, none⟩), undef, undef, .pointer (some ⟨g10, 0, none⟩), .pointer (some ⟨g11, 0, none⟩), .agg #[.slice qa ql qc, .int .i64 clock, .int .i64 epoch, .int .i64 next, .int .i64 serial, .slice aa al ac, .slice ma ml mc, .slice ca cl cc], rv tx ty, .agg #[.slice qa ql qc, .int .i64 clock, .int .i64 epoch, .int .i64 next, .int .i64 serial, .slice aa al ac, .slice ma ml mc, .slice ca cl cc], .string (bs na), rv ux uy, .pointer (some ⟨w.heap.size, 0, none⟩), .slice qa ql qc, .string (bs na), rv tx ty, rv dx dy, .agg #[.slice qa ql qc, .int .i64 clock, .int .i64 epoch, .int .i64 next, .int .i64 serial, .slice aa al ac, .slice ma ml mc, .slice ca cl cc], .string (bs nb), undef, .pointer (some ⟨w.heap.size, 0, none⟩), .slice qa ql qc, .string (bs nb), rv tx ty, undef, undef, undef, undef, undef, undef, undef, undef, undef, undef, undef, undef, undef, undef, undef, undef, undef], defers := [] } ∧ VB w1 wz g10 0 0 ∧ VB w1 wz g11 0 0 ∧ g10 ≠ g11 ∧ Kp w1 wz)
def BFS36 (w w1 : World) (na nb : List UInt8) (ux uy dx dy vx vy fx fy tx ty : Int) (gt : Nat) (qa : Option Addr) (ql qc : Nat) (aa : Option Addr) (al ac : Nat) (ma : Option Addr) (ml mc : Nat) (ca : Option Addr) (cl cc : Nat) (qs : List Q) (clock epoch next serial : Int) (apps : List Appl) (ms : List Mac) (cs : List Con) (n : Nat) (lz : Array Bool) (az : Act) (wz : World) : Prop := (∃ g9 : Nat, n = 9 ∧ lz = #[true, true, true, true, true, true, true, true, true, true, false, true, true, true, true, false, false, true, false, false, false, false, false, false] ∧ az = { tmps := #[sv ⟨qa, ql, qc, aa, al, ac, ma, ml, mc, ca, cl, cc⟩ ⟨qs, clock, epoch, next, serial, apps, ms, cs⟩, .string (bs na), .string (bs nb), .pointer (some ⟨w.heap.size, 0, none⟩), undef, undef, .bool false, .pointer (some ⟨gt, 0, none⟩), undef, .pointer (some ⟨g9, 0, none⟩), undef, undef, .agg #[.slice qa ql qc, .int .i64 clock, .int .i64 epoch, .int .i64 next, .int .i64 serial, .slice aa al ac, .slice ma ml mc, .slice ca cl cc], rv tx ty, .agg #[.slice qa ql qc, .int .i64 clock, .int .i64 epoch, .int .i64 next, .int .i64 serial, .slice aa al ac, .slice ma ml mc, .slice ca cl cc], .string (bs na), rv ux uy, .pointer (some ⟨w.heap.size, 0, none⟩), .slice qa ql qc, .string (bs na), rv tx ty, rv dx dy, .agg #[.slice qa ql qc, .int .i64 clock, .int .i64 epoch, .int .i64 next, .int .i64 serial, .slice aa al ac, .slice ma ml mc, .slice ca cl cc], .string (bs nb), undef, .pointer (some ⟨w.heap.size, 0, none⟩), .slice qa ql qc, .string (bs nb), rv tx ty, undef, undef, undef, undef, undef, undef, undef, undef, undef, undef, undef, undef, undef, undef, undef, undef, undef], defers := [] } ∧ VB w1 wz g9 0 0 ∧ Kp w1 wz)
def BFS37 (w w1 : World) (na nb : List UInt8) (ux uy dx dy vx vy fx fy tx ty : Int) (gt : Nat) (qa : Option Addr) (ql qc : Nat) (aa : Option Addr) (al ac : Nat) (ma : Option Addr) (ml mc : Nat) (ca : Option Addr) (cl cc : Nat) (qs : List Q) (clock epoch next serial : Int) (apps : List Appl) (ms : List Mac) (cs : List Con) (n : Nat) (lz : Array Bool) (az : Act) (wz : World) : Prop := (∃ g9 g11 : Nat, n = 8 ∧ lz = #[true, true, true, true, true, true, true, true, true, true, false, true, true, true, true, false, false, true, false, true, false, false, false, false] ∧ az = { tmps := #[sv ⟨qa, ql, qc, aa, al, ac, ma, ml, mc, ca, cl, cc⟩ ⟨qs, clock, epoch, next, serial, apps, ms, cs⟩, .string (bs na), .string (bs nb), .pointer (some ⟨w.heap.size, 0, none⟩), undef, undef, .bool false, .pointer (some ⟨gt, 0, none⟩), undef, .pointer (some ⟨g9, 0, none⟩), undef, .pointer (some ⟨g11, 0, none⟩), .agg #[.slice qa ql qc, .int .i64 clock, .int .i64 epoch, .int .i64 next, .int .i64 serial, .slice aa al ac, .slice ma ml mc, .slice ca cl cc], rv tx ty, .agg #[.slice qa ql qc, .int .i64 clock, .int .i64 epoch, .int .i64 next, .int .i64 serial, .slice aa al ac, .slice ma ml mc, .slice ca cl cc], .string (bs na), rv ux uy, .pointer (some ⟨w.heap.size, 0, none⟩), .slice qa ql qc, .string (bs na), rv tx ty, rv dx dy, .agg #[.slice qa ql qc, .int .i64 clock, .int .i64 epoch, .int .i64 next, .int .i64 serial, .slice aa al ac, .slice ma ml mc, .slice ca cl cc], .string (bs nb), undef, .pointer (some ⟨w.heap.size, 0, none⟩), .slice qa ql qc, .string (bs nb), rv tx ty, undef, undef, undef, undef, undef, undef, undef, undef, undef, undef, undef, undef, undef, undef, undef, undef, undef], defers := [] } ∧ VB w1 wz g9 0 0 ∧ VB w1 wz g11 0 0 ∧ g9 ≠ g11 ∧ Kp w1 wz)
def BFS38 (w w1 : World) (na nb : List UInt8) (ux uy dx dy vx vy fx fy tx ty : Int) (gt : Nat) (qa : Option Addr) (ql qc : Nat) (aa : Option Addr) (al ac : Nat) (ma : Option Addr) (ml mc : Nat) (ca : Option Addr) (cl cc : Nat) (qs : List Q) (clock epoch next serial : Int) (apps : List Appl) (ms : List Mac) (cs : List Con) (n : Nat) (lz : Array Bool) (az : Act) (wz : World) : Prop := (∃ g9 g10 : Nat, n = 8 ∧ lz = #[true, true, true, true, true, true, true, true, true, true, false, true, true, true, true, false, false, true, true, false, false, false, false, false] ∧ az = { tmps := #[sv ⟨qa, ql, qc, aa, al, ac, ma, ml, mc, ca, cl, cc⟩ ⟨qs, clock, epoch, next, serial, apps, ms, cs⟩, .string (bs na), .string (bs nb), .pointer (some ⟨w.heap.size, 0, none⟩), undef, undef, .bool false, .pointer (some ⟨gt, 0, none⟩), undef, .pointer (some ⟨g9, 0, none⟩), .pointer (some ⟨g10, 0, none⟩), undef, .agg #[.slice qa ql qc, .int .i64 clock, .int .i64 epoch, .int .i64 next, .int .i64 serial, .slice aa al ac, .slice ma ml mc, .slice ca cl cc], rv tx ty, .agg #[.slice qa ql qc, .int .i64 clock, .int .i64 epoch, .int .i64 next, .int .i64 serial, .slice aa al ac, .slice ma ml mc, .slice ca cl cc], .string (bs na), rv ux uy, .pointer (some ⟨w.heap.size, 0, none⟩), .slice qa ql qc, .string (bs na), rv tx ty, rv dx dy, .agg #[.slice qa ql qc, .int .i64 clock, .int .i64 epoch, .int .i64 next, .int .i64 serial, .slice aa al ac, .slice ma ml mc, .slice ca cl cc], .string (bs nb), undef, .pointer (some ⟨w.heap.size, 0, none⟩), .slice qa ql qc, .string (bs nb), rv tx ty, undef, undef, undef, undef, undef, undef, undef, undef, undef, undef, undef, undef, undef, undef, undef, undef, undef], defers := [] } ∧ VB w1 wz g9 0 0 ∧ VB w1 wz g10 0 0 ∧ g9 ≠ g10 ∧ Kp w1 wz)
def BFS39 (w w1 : World) (na nb : List UInt8) (ux uy dx dy vx vy fx fy tx ty : Int) (gt : Nat) (qa : Option Addr) (ql qc : Nat) (aa : Option Addr) (al ac : Nat) (ma : Option Addr) (ml mc : Nat) (ca : Option Addr) (cl cc : Nat) (qs : List Q) (clock epoch next serial : Int) (apps : List Appl) (ms : List Mac) (cs : List Con) (n : Nat) (lz : Array Bool) (az : Act) (wz : World) : Prop := (∃ g9 g10 g11 : Nat, n = 7 ∧ lz = #[true, true, true, true, true, true, true, true, true, true, false, true, true, true, true, false, false, true, true, true, false, false, false, false] ∧ az = { tmps := #[sv ⟨qa, ql, qc, aa, al, ac, ma, ml, mc, ca, cl, cc⟩ ⟨qs, clock, epoch, next, serial, apps, ms, cs⟩, .string (bs na), .string (bs nb), .pointer (some ⟨w.heap.size, 0, none⟩), undef, undef, .bool false, .pointer (some ⟨gt, 0, none⟩), undef, .pointer (some ⟨g9, 0, none⟩), .pointer (some ⟨g10, 0, none⟩), .pointer (some ⟨g11, 0, none⟩), .agg #[.slice qa ql qc, .int .i64 clock, .int .i64 epoch, .int .i64 next, .int .i64 serial, .slice aa al ac, .slice ma ml mc, .slice ca cl cc], rv tx ty, .agg #[.slice qa ql qc, .int .i64 clock, .int .i64 epoch, .int .i64 next, .int .i64 serial, .slice aa al ac, .slice ma ml mc, .slice ca cl cc], .string (bs na), rv ux uy, .pointer (some ⟨w.heap.size, 0, none⟩), .slice qa ql qc, .string (bs na), rv tx ty, rv dx dy, .agg #[.slice qa ql qc, .int .i64 clock, .int .i64 epoch, .int .i64 next, .int .i64 serial, .slice aa al ac, .slice ma ml mc, .slice ca cl cc], .string (bs nb), undef, .pointer (some ⟨w.heap.size, 0, none⟩), .slice qa ql qc, .string (bs nb), rv tx ty, undef, undef, undef, undef, undef, undef, undef, undef, undef, undef, undef, undef, undef, undef, undef, undef, undef], defers := [] } ∧ VB w1 wz g9 0 0 ∧ VB w1 wz g10 0 0 ∧ VB w1 wz g11 0 0 ∧ g9 ≠ g10 ∧ g9 ≠ g11 ∧ g10 ≠ g11 ∧ Kp w1 wz)
def BFS40 (w w1 : World) (na nb : List UInt8) (ux uy dx dy vx vy fx fy tx ty : Int) (gt : Nat) (qa : Option Addr) (ql qc : Nat) (aa : Option Addr) (al ac : Nat) (ma : Option Addr) (ml mc : Nat) (ca : Option Addr) (cl cc : Nat) (qs : List Q) (clock epoch next serial : Int) (apps : List Appl) (ms : List Mac) (cs : List Con) (n : Nat) (lz : Array Bool) (az : Act) (wz : World) : Prop := (∃ g8 : Nat, n = 9 ∧ lz = #[true, true, true, true, true, true, true, true, true, true, false, true, true, true, true, false, true, false, false, false, false, false, false, false] ∧ az = { tmps := #[sv ⟨qa, ql, qc, aa, al, ac, ma, ml, mc, ca, cl, cc⟩ ⟨qs, clock, epoch, next, serial, apps, ms, cs⟩, .string (bs na), .string (bs nb), .pointer (some ⟨w.heap.size, 0, none⟩), undef, undef, .bool false, .pointer (some ⟨gt, 0, none⟩), .pointer (some ⟨g8, 0, none⟩), undef, undef, undef, .agg #[.slice qa ql qc, .int .i64 clock, .int .i64 epoch, .int .i64 next, .int .i64 serial, .slice aa al ac, .slice ma ml mc, .slice ca cl cc], rv tx ty, .agg #[.slice qa ql qc, .int .i64 clock, .int .i64 epoch, .int .i64 next, .int .i64 serial, .slice aa al ac, .slice ma ml mc, .slice ca cl cc], .string (bs na), rv ux uy, .pointer (some ⟨w.heap.size, 0, none⟩), .slice qa ql qc, .string (bs na), rv tx ty, rv dx dy, .agg #[.slice qa ql qc, .int .i64 clock, .int .i64 epoch, .int .i64 next, .int .i64 serial, .slice aa al ac, .slice ma ml mc, .slice ca cl cc], .string (bs nb), undef, .pointer (some ⟨w.heap.size, 0, none⟩), .slice qa ql qc, .string (bs nb), rv tx ty, undef, undef, undef, undef, undef, undef, undef, undef, undef, undef, undef, undef, undef, undef, undef, undef, undef], defers := [] } ∧ VB w1 wz g8 0 0 ∧ Kp w1 wz)
def BFS41 (w w1 : World) (na nb : List UInt8) (ux uy dx dy vx vy fx fy tx ty : Int) (gt : Nat) (qa : Option Addr) (ql qc : Nat) (aa : Option Addr) (al ac : Nat) (ma : Option Addr) (ml mc : Nat) (ca : Option Addr) (cl cc : Nat) (qs : List Q) (clock epoch next serial : Int) (apps : List Appl) (ms : List Mac) (cs : List Con) (n : Nat) (lz : Array Bool) (az : Act) (wz : World) : Prop := (∃ g8 g11 : Nat, n = 8 ∧ lz = #[true, true, true, true, true, true, true, true, true, true, false, true, true, true, true, false, true, false, false, true, false, false, false, false] ∧ az = { tmps := #[sv ⟨qa, ql, qc, aa, al, ac, ma, ml, mc, ca, cl, cc⟩ ⟨qs, clock, epoch, next, serial, apps, ms, cs⟩, .string (bs na), .string (bs nb), .pointer (some ⟨w.heap.size, 0, none⟩), undef, undef, .bool false, .pointer (some ⟨gt, 0, none⟩), .pointer (some ⟨g8, 0, none⟩), undef, undef, .pointer (some ⟨g11, 0, none⟩), .agg #[.slice qa ql qc, .int .i64 clock, .int .i64 epoch, .int .i64 next, .int .i64 serial, .slice aa al ac, .slice ma ml mc, .slice ca cl cc], rv tx ty, .agg #[.slice qa ql qc, .int .i64 clock, .int .i64 epoch, .int .i64 next, .int .i64 serial, .slice aa al ac, .slice ma ml mc, .slice ca cl cc], .string (bs na), rv ux uy, .pointer (some ⟨w.heap.size, 0, none⟩), .slice qa ql qc, .string (bs na), rv tx ty, rv dx dy, .agg #[.slice qa ql qc, .int .i64 clock, .int .i64 epoch, .int .i64 next, .int .i64 serial, .slice aa al ac, .slice ma ml mc, .slice ca cl cc], .string (bs nb), undef, .pointer (some ⟨w.heap.size, 0, none⟩), .slice qa ql qc, .string (bs nb), rv tx ty, undef, undef, undef, undef, undef, undef, undef, undef, undef, undef, undef, undef, undef, undef, undef, undef, undef], defers := [] } ∧ VB w1 wz g8 0 0 ∧ VB w1 wz g11 0 0 ∧ g8 ≠ g11 ∧ Kp w1 wz)
def BFS42 (w w1 : World) (na nb : List UInt8) (ux uy dx dy vx vy fx fy tx ty : Int) (gt : Nat) (qa : Option Addr) (ql qc : Nat) (aa : Option Addr) (al ac : Nat) (ma : Option Addr) (ml mc : Nat) (ca : Option Addr) (cl cc : Nat) (qs : List Q) (clock epoch next serial : Int) (apps : List Appl) (ms : List Mac) (cs : List Con) (n : Nat) (lz : Array Bool) (az : Act) (wz : World) : Prop := (∃ g8 g10 : Nat, n = 8 ∧ lz = #[true, true, true, true, true, true, true, true, true, true, false, true, true, true, true, false, true, false, true, false, false, false, false, false] ∧ az = { tmps := #[sv ⟨qa, ql, qc, aa, al, ac, ma, ml, mc, ca, cl, cc⟩ ⟨qs, clock, epoch, next, serial, apps, ms, cs⟩, .string (bs na), .string (bs nb), .pointer (some ⟨w.heap.size, 0, none⟩), undef, undef, .bool false, .pointer (some ⟨gt, 0, none⟩), .pointer (some ⟨g8, 0, none⟩), undef, .pointer (some ⟨g10, 0, none⟩), undef, .agg #[.slice qa ql qc, .int .i64 clock, .int .i64 epoch, .int .i64 next, .int .i64 serial, .slice aa al ac, .slice ma ml mc, .slice ca cl cc], rv tx ty, .agg #[.slice qa ql qc, .int .i64 clock, .int .i64 epoch, .int .i64 next, .int .i64 serial, .slice aa al ac, .slice ma ml mc, .slice ca cl cc], .string (bs na), rv ux uy, .pointer (some ⟨w.heap.size, 0, none⟩), .slice qa ql qc, .string (bs na), rv tx ty, rv dx dy, .agg #[.slice qa ql qc, .int .i64 clock, .int .i64 epoch, .int .i64 next, .int .i64 serial, .slice aa al ac, .slice ma ml mc, .slice ca cl cc], .string (bs nb), undef, .pointer (some ⟨w.heap.size, 0, none⟩), .slice qa ql qc, .string (bs nb), rv tx ty, undef, undef, undef, undef, undef, undef, undef, undef, undef, undef, undef, undef, undef, undef, undef, undef, undef], defers := [] } ∧ VB w1 wz g8 0 0 ∧ VB w1 wz g10 0 0 ∧ g8 ≠ g10 ∧ Kp w1 wz)
def BFS43 (w w1 : World) (na nb : List UInt8) (ux uy dx dy vx vy fx fy tx ty : Int) (gt : Nat) (qa : Option Addr) (ql qc : Nat) (aa : Option Addr) (al ac : Nat) (ma : Option Addr) (ml mc : Nat) (ca : Option Addr) (cl cc : Nat) (qs : List Q) (clock epoch next serial : Int) (apps : List Appl) (ms : List Mac) (cs : List Con) (n : Nat) (lz : Array Bool) (az : Act) (wz : World) : Prop := (∃ g8 g10 g11 : Nat, n = 7 ∧ lz = #[true, true, true, true, true, true, true, true, true, true, false, true, true, true, true, false, true, false, true, true, false, false, false, false] ∧ az = { tmps := #[sv ⟨qa, ql, qc, aa, al, ac, ma, ml, mc, ca, cl, cc⟩ ⟨qs, clock, epoch, next, serial, apps, ms, cs⟩, .string (bs na), .string (bs nb), .pointer (some ⟨w.heap.size, 0, none⟩), undef, undef, .bool false, .pointer (some ⟨gt, 0, none⟩), .pointer (some ⟨g8, 0, none⟩), undef, .pointer (some ⟨g10, 0, none⟩), .pointer (some ⟨g11, 0, none⟩), .agg #[.slice qa ql qc, .int .i64 clock, .int .i64 epoch, .int .i64 next, .int .i64 serial, .slice aa al ac, .slice ma ml mc, .slice ca cl cc], rv tx ty, .agg #[.slice qa ql qc, .int .i64 clock, .int .i64 epoch, .int .i64 next, .int .i64 serial, .slice aa al ac, .slice ma ml mc, .slice ca cl cc], .string (bs na), rv ux uy, .pointer (some ⟨w.heap.size, 0, none⟩), .slice qa ql qc, .string (bs na), rv tx ty, rv dx dy, .agg #[.slice qa ql qc, .int .i64 clock, .int .i64 epoch, .int .i64 next, .int .i64 serial, .slice aa al ac, .slice ma ml mc, .slice ca cl cc], .string (bs nb), undef, .pointer (some ⟨w.heap.size, 0, none⟩), .slice qa ql qc, .string (bs nb), rv tx ty, undef, undef, undef, undef, undef, undef, undef, undef, undef, undef, undef, undef, undef, undef, undef, undef, undef], defers := [] } ∧ VB w1 wz g8 0 0 ∧ VB w1 wz g10 0 0 ∧ VB w1 wz g11 0 0 ∧ g8 ≠ g10 ∧ g8 ≠ g11 ∧ g10 ≠ g11 ∧ Kp w1 wz)
def BFS44 (w w1 : World) (na nb : List UInt8) (ux uy dx dy vx vy fx fy tx ty : Int) (gt : Nat) (qa : Option Addr) (ql qc : Nat) (aa : Option Addr) (al ac : Nat) (ma : Option Addr) (ml mc : Nat) (ca : Option Addr) (cl cc : Nat) (qs : List Q) (clock epoch next serial : Int) (apps : List Appl) (ms : List Mac) (cs : List Con) (n : Nat) (lz : Array Bool) (az : Act) (wz : World) : Prop := (∃ g8 g9 : Nat, n = 8 ∧ lz = #[true, true, true, true, true, true, true, true, true, true, false, true, true, true, true, false, true, true, false, false, false, false, false, false] ∧ az = { tmps := #[sv ⟨qa, ql, qc, aa, al, ac, ma, ml, mc, ca, cl, cc⟩ ⟨qs, clock, epoch, next, serial, apps, ms, cs⟩, .string (bs na), .string (bs nb), .pointer (some ⟨w.heap.size, 0, none⟩), undef, undef, .bool false, .pointer (some ⟨gt, 0, none⟩), .pointer (some ⟨g8, 0, none⟩), .pointer (some ⟨g9, 0, none⟩), undef, undef, .agg #[.slice qa ql qc, .int .i64 clock, .int .i64 epoch, .int .i64 next, .int .i64 serial, .slice aa al ac, .slice ma ml mc, .slice ca cl cc], rv tx ty, .agg #[.slice qa ql qc, .int .i64 clock, .int .i64 epoch, .int .i64 next, .int .i64 serial, .slice aa al ac, .slice ma ml mc, .slice ca cl cc], .string (bs na), rv ux uy, .pointer (some ⟨w.heap.size, 0, none⟩), .slice qa ql qc, .string (bs na), rv tx ty, rv dx dy, .agg #[.slice qa ql qc, .int .i64 clock, .int .i64 epoch, .int .i64 next, .int .i64 serial, .slice aa al ac, .slice ma ml mc, .slice ca cl cc], .string (bs nb), undef, .pointer (some ⟨w.heap.size, 0, none⟩), .slice qa ql qc, .string (bs nb), rv tx ty, undef, undef, undef, undef, undef, undef, undef, undef, undef, undef, undef, undef, undef, undef, undef, undef, undef], defers := [] } ∧ VB w1 wz g8 0 0 ∧ VB w1 wz g9 0 0 ∧ g8 ≠ g9 ∧ Kp w1 wz)
def BFS45 (w w1 : World) (na nb : List UInt8) (ux uy dx dy vx vy fx fy tx ty : Int) (gt : Nat) (qa : Option Addr) (ql qc : Nat) (aa : Option Addr) (al ac : Nat) (ma : Option Addr) (ml mc : Nat) (ca : Option Addr) (cl cc : Nat) (qs : List Q) (clock epoch next serial : Int) (apps : List Appl) (ms : List Mac) (cs : List Con) (n : Nat) (lz : Array Bool) (az : Act) (wz : World) : Prop := (∃ g8 g9 g11 : Nat, n = 7 ∧ lz = #[true, true, true, true, true, true, true, true, true, true, false, true, true, true, true, false, true, true, false, true, false, false, false, false] ∧ az = { tmps := #[sv ⟨qa, ql, qc, aa, al, ac, ma, ml, mc, ca, cl, cc⟩ ⟨qs, clock, epoch, next, serial, apps, ms, cs⟩, .string (bs na), .string (bs nb), .pointer (some ⟨w.heap.size, 0, none⟩), undef, undef, .bool false, .pointer (some ⟨gt, 0, none⟩), .pointer (some ⟨g8, 0, none⟩), .pointer (some ⟨g9, 0, none⟩), undef, .pointer (some ⟨g11, 0, none⟩), .agg #[.slice qa ql qc, .int .i64 clock, .int .i64 epoch, .int .i64 next, .int .i64 serial, .slice aa al ac, .slice ma ml mc, .slice ca cl cc], rv tx ty, .agg #[.slice qa ql qc, .int .i64 clock, .int .i64 epoch, .int .i64 next, .int .i64 serial, .slice aa al ac, .slice ma ml mc, .slice ca cl cc], .string (bs na), rv ux uy, .pointer (some ⟨w.heap.size, 0, none⟩), .slice qa ql qc, .string (bs na), rv tx ty, rv dx dy, .agg #[.slice qa ql qc, .int .i64 clock, .int .i64 epoch, .int .i64 next, .int .i64 serial, .slice aa al ac, .slice ma ml mc, .slice ca cl cc], .string (bs nb), undef, .pointer (some ⟨w.heap.size, 0, none⟩), .slice qa ql qc, .string (bs nb), rv tx ty, undef, undef, undef, undef, undef, undef, undef, undef, undef, undef, undef, undef, undef, undef, undef, undef, undef], defers := [] } ∧ VB w1 wz g8 0 0 ∧ VB w1 wz g9 0 0 ∧ VB w1 wz g11 0 0 ∧ g8 ≠ g9 ∧ g8 ≠ g11 ∧ g9 ≠ g11 ∧ Kp w1 wz)
def BFS46 (w w1 : World) (na nb : List UInt8) (ux uy dx dy vx vy fx fy tx ty : Int) (gt : Nat) (qa : Option Addr) (ql qc : Nat) (aa : Option Addr) (al ac : Nat) (ma : Option Addr) (ml mc : Nat) (ca : Option Addr) (cl cc : Nat) (qs : List Q) (clock epoch next serial : Int) (apps : List Appl) (ms : List Mac) (cs : List Con) (n : Nat) (lz : Array Bool) (az : Act) (wz : World) : Prop := (∃ g8 g9 g10 : Nat, n = 7 ∧ lz = #[true, true, true, true, true, true, true, true, true, true, false, true, true, true, true, false, true, true, true, false, false, false, false, false] ∧ az = { tmps := #[sv ⟨qa, ql, qc, aa, al, ac, ma, ml, mc, ca, cl, cc⟩ ⟨qs, clock, epoch, next, serial, apps, ms, cs⟩, .string (bs na), .string (bs nb), .pointer (some ⟨w.heap.size, 0, none⟩), undef, undef, .bool false, .pointer (some ⟨gt, 0, none⟩), .pointer (some ⟨g8, 0, none⟩), .pointer (some ⟨g9, 0, none⟩), .pointer (some ⟨g10, 0, none⟩), undef, .agg #[.slice qa ql qc, .int .i64 clock, .int .i64 epoch, .int .i64 next, .int .i64 serial, .slice aa al ac, .slice ma ml mc, .slice ca cl cc], rv tx ty, .agg #[.slice qa ql qc, .int .i64 clock, .int .i64 epoch, .int .i64 next, .int .i64 serial, .slice aa al ac, .slice ma ml mc, .slice ca cl cc], .string (bs na), rv ux uy, .pointer (some ⟨w.heap.size, 0, none⟩), .slice qa ql qc, .string (bs na), rv tx ty, rv dx dy, .agg #[.slice qa ql qc, .int .i64 clock, .int .i64 epoch, .int .i64 next, .int .i64 serial, .slice aa al ac, .slice ma ml mc, .slice ca cl cc], .string (bs nb), undef, .pointer (some ⟨w.heap.size, 0, none⟩), .slice qa ql qc, .string (bs nb), rv tx ty, undef, undef, undef, undef, undef, undef, undef, undef, undef, undef, undef, undef, undef, undef, undef, undef, undef], defers := [] } ∧ VB w1 wz g8 0 0 ∧ VB w1 wz g9 0 0 ∧ VB w1 wz g10 0 0 ∧ g8 ≠ g9 ∧ g8 ≠ g10 ∧ g9 ≠ g10 ∧ Kp w1 wz)
def BFS47 (w w1 : World) (na nb : List UInt8) (ux uy dx dy vx vy fx fy tx ty : Int) (gt : Nat) (qa : Option Addr) (ql qc : Nat) (aa : Option Addr) (al ac : Nat) (ma : Option Addr) (ml mc : Nat) (ca : Option Addr) (cl cc : Nat) (qs : List Q) (clock epoch next serial : Int) (apps : List Appl) (ms : List Mac) (cs : List Con) (n : Nat) (lz : Array Bool) (az : Act) (wz : World) : Prop := (∃ g8 g9 g10 g11 : Nat, n = 6 ∧ lz = #[true, true, true, true, true, true, true, true, true, true, false, true, true, true, true, false, true, true, true, true, false, false, false, false] ∧ az = { tmps := #[sv ⟨qa, ql, qc, aa, al, ac, ma, ml, mc, ca, cl, cc⟩ ⟨qs, clock, epoch, next, serial, apps, ms, cs⟩, .string (bs na), .string (bs nb), .pointer (some ⟨w.heap.size, 0, none⟩), undef, undef, .bool false, .pointer (some ⟨gt, 0, none⟩), .pointer (some ⟨g8, 0, none⟩), .pointer (some ⟨g9, 0, none⟩), .pointer (some ⟨g10, 0, none⟩), .pointer (some ⟨g11, 0, none⟩), .agg #[.slice qa ql qc, .int .i64 clock, .int .i64 epoch, .int .i64 next, .int .i64 serial, .slice aa al ac, .slice ma ml mc, .slice ca cl cc], rv tx ty, .agg #[.slice qa ql qc, .int .i64 clock, .int .i64 epoch, .int .i64 next, .int .i64 serial, .slice aa al ac, .slice ma ml mc, .slice ca cl cc], .string (bs na), rv ux uy, .pointer (some ⟨w.heap.size, 0, none⟩), .slice qa ql qc, .string (bs na), rv tx ty, rv dx dy, .agg #[.slice qa ql qc, .int .i64 clock, .int .i64 epoch, .int .i64 next, .int .i64 serial, .slice aa al ac, .slice ma ml mc, .slice ca cl cc], .string (bs nb), undef, .pointer (some ⟨w.heap.size, 0, none⟩), .slice qa ql qc, .string (bs nb), rv tx ty, undef, undef, undef, undef, undef, undef, undef, undef, undef, undef, undef, undef, undef, undef, undef, undef, undef], defers := [] } ∧ VB w1 wz g8 0 0 ∧ VB w1 wz g9 0 0 ∧ VB w1 wz g10 0 0 ∧ VB w1 wz g11 0 0 ∧ g8 ≠ g9 ∧ g8 ≠ g10 ∧ g8 ≠ g11 ∧ g9 ≠ g10 ∧ g9 ≠ g11 ∧ g10 ≠ g11 ∧ Kp w1 wz)
def BFS48 (w w1 : World) (na nb : List UInt8) (ux uy dx dy vx vy fx fy tx ty : Int) (gt : Nat) (qa : Option Addr) (ql qc : Nat) (aa : Option Addr) (al ac : Nat) (ma : Option Addr) (ml mc : Nat) (ca : Option Addr) (cl cc : Nat) (qs : List Q) (clock epoch next serial : Int) (apps : List Appl) (ms : List Mac) (cs : List Con) (n : Nat) (lz : Array Bool) (az : Act) (wz : World) : Prop := (n = 9 ∧ lz = #[true, true, true, true, true, true, true, true, true, true, true, true, true, true, true, false, false, false, false, false, false, false, false, false] ∧ az = { tmps := #[sv ⟨qa, ql, qc, aa, al, ac, ma, ml, mc, ca, cl, cc⟩ ⟨qs, clock, epoch, next, serial, apps, ms, cs⟩, .string (bs na), .string (bs nb), .pointer (some ⟨w.heap.size, 0, none⟩), undef, undef, .bool false, .pointer (some ⟨gt, 0, none⟩), undef, undef, undef, undef, .agg #[.slice qa ql qc, .int .i64 clock, .int .i64 epoch, .int .i64 next, .int .i64 serial, .slice aa al ac, .slice ma ml mc, .slice ca cl cc], rv tx ty, .agg #[.slice qa ql qc, .int .i64 clock, .int .i64 epoch, .int .i64 next, .int .i64 serial, .slice aa al ac, .slice ma ml mc, .slice ca cl cc], .string (bs na), rv ux uy, .pointer (some ⟨w.heap.size, 0, none⟩), .slice qa ql qc, .string (bs na), rv tx ty, rv dx dy, .agg #[.slice qa ql qc, .int .i64 clock, .int .i64 epoch, .int .i64 next, .int .i64 serial, .slice aa al ac, .slice ma ml mc, .slice ca cl cc], .string (bs nb), rv vx vy, .pointer (some ⟨w.heap.size, 0, none⟩), .slice qa ql qc, .string (bs nb), rv tx ty, undef, undef, undef, undef, undef, undef, undef, undef, undef, undef, undef, undef, undef, undef, undef, undef, undef], defers := [] } ∧ Kp w1 wz)
def BFS49 (w w1 : World) (na nb : List UInt8) (ux uy dx dy vx vy fx fy tx ty : Int) (gt : Nat) (qa : Option Addr) (ql qc : Nat) (aa : Option Addr) (al ac : Nat) (ma : Option Addr) (ml mc : Nat) (ca : Option Addr) (cl cc : Nat) (qs : List Q) (clock epoch next serial : Int) (apps : List Appl) (ms : List Mac) (cs : List Con) (n : Nat) (lz : Array Bool) (az : Act) (wz : World) : Prop := (∃ g11 : Nat, n = 8 ∧ lz = #[true, true, true, true, true, true, true, true, true, true, true, true, true, true, true, false, false, false, false, true, false, false, false, false] ∧ az = { tmps := #[sv ⟨qa, ql, qc, aa, al, ac, ma, ml, mc, ca, cl, cc⟩ ⟨qs, clock, epoch, next, serial, apps, ms, cs⟩, .string (bs na), .string (bs nb), .pointer (some ⟨w.heap.size, 0, none⟩), undef, undef, .bool false, .pointer (some ⟨gt, 0, none⟩), undef, undef, undef, .pointer (some ⟨g11, 0, none⟩), .agg #[.slice qa ql qc, .int .i64 clock, .int .i64 epoch, .int .i64 next, .int .i64 serial, .slice aa al ac, .slice ma ml mc, .slice ca cl cc], rv tx ty, .agg #[.slice qa ql qc, .int .i64 clock, .int .i64 epoch, .int .i64 next, .int .i64 serial, .slice aa al ac, .slice ma ml mc, .slice ca cl cc], .string (bs na), rv ux uy, .pointer (some ⟨w.heap.size, 0, none⟩), .slice qa ql qc, .string (bs na), rv tx ty, rv dx dy, .agg #[.slice qa ql qc, .int .i64 clock, .int .i64 epoch, .int .i64 next, .int .i64 serial, .slice aa al ac, .slice ma ml mc, .slice ca cl cc], .string (bs nb), rv vx vy, .pointer (some ⟨w.heap.size, 0, none⟩), .slice qa ql qc, .string (bs nb), rv tx ty, undef, undef, undef, undef, undef, undef, undef, undef, undef, undef, undef, undef, undef, undef, undef, undef, undef], defers := [] } ∧ VB w1 wz g11 0 0 ∧ Kp w1 wz)
def BFS50 (w w1 : World) (na nb : List UInt8) (ux uy dx dy vx vy fx fy tx ty : Int) (gt : Nat) (qa : Option Addr) (ql qc : Nat) (aa : Option Addr) (al ac : Nat) (ma : Option Addr) (ml mc : Nat) (ca : Option Addr) (cl cc : Nat) (qs : List Q) (clock epoch next serial : Int) (apps : List Appl) (ms : List Mac) (cs : List Con) (n : Nat) (lz : Array Bool) (az : Act) (wz : World) : Prop := (∃ g10 : Nat, n = 8 ∧ lz = #[true, true, true, true, true, true, true, true, true, true, true, true, true, true, true, false, false, false, true, false, false, false, false, false] ∧ az = { tmps := #[sv ⟨qa, ql, qc, aa, al, ac, ma, ml, mc, ca, cl, cc⟩ ⟨qs, clock, epoch, next, serial, apps, ms, cs⟩, .string (bs na), .string (bs nb), .pointer (some ⟨w.heap.size, 0, none⟩), undef, undef, .bool false, .pointer (some ⟨gt, 0, none⟩), undef, undef, .pointer (some ⟨g10, 0, none⟩), undef, .agg #[.slice qa ql qc, .int .i64 clock, .int .i64 epoch, .int .i64 next, .int .i64 serial, .slice aa al ac, .slice ma ml mc, .slice ca cl cc], rv tx ty, .agg #[.slice qa ql qc, .int .i64 clock, .int .i64 epoch, .int .i64 next, .int .i64 serial, .slice aa al ac, .slice ma ml mc, .slice ca cl cc], .string (bs na), rv ux uy, .pointer (some ⟨w.heap.size, 0, none⟩), .slice qa ql qc, .string (bs na), rv tx ty, rv dx dy, .agg #[.slice qa ql qc, .int .i64 clock, .int .i64 epoch, .int .i64 next, .int .i64 serial, .slice aa al ac, .slice ma ml mc, .slice ca cl cc], .string (bs nb), rv vx vy, .pointer (some ⟨w.heap.size, 0, none⟩), .slice qa ql qc, .string (bs nb), rv tx ty, undef, undef, undef, undef, undef, undef, undef, undef, undef, undef, undef, undef, undef, undef, undef, undef, undef], defers := [] } ∧ VB w1 wz g10 0 0 ∧ Kp w1 wz)
def BFS51 (w w1 : World) (na nb : List UInt8) (ux uy dx dy vx vy fx fy tx ty : Int) (gt : Nat) (qa : Option Addr) (ql qc : Nat) (aa : Option Addr) (al ac : Nat) (ma : Option Addr) (ml mc : Nat) (ca : Option Addr) (cl cc : Nat) (qs : List Q) (clock epoch next serial : Int) (apps : List Appl) (ms : List Mac) (cs : List Con) (n : Nat) (lz : Array Bool) (az : Act) (wz : World) : Prop := (∃ g10 g11 : Nat, n = 7 ∧ lz = #[true, true, true, true, true, true, true, true, true, true, true, true, true, true, true, false, false, false, true, true, false, false, false, false] ∧ az = { tmps := #[sv ⟨qa, ql, qc, aa, al, ac, ma, ml, mc, ca, cl, cc⟩ ⟨qs, clock, epoch, next, serial, apps, ms, cs⟩, .string (bs na), .string (bs nb), .pointer (some ⟨w.heap.size, 0, none⟩), undef, undef, .bool false, .pointer (some ⟨gt, 0, none⟩), undef, undef, .pointer (some ⟨g10, 0, none⟩), .pointer (some ⟨g11, 0, none⟩), .agg #[.slice qa ql qc, .int .i64 clock, .int .i64 epoch, .int .i64 next, .int .i64 serial, .slice aa al ac, .slice ma ml mc, .slice ca cl cc], rv tx ty, .agg #[.slice qa ql qc, .int .i64 clock, .int .i64 epoch, .int .i64 next, .int .i64 serial, .slice aa al ac, .slice ma ml mc, .slice ca cl cc], .string (bs na), rv ux uy, .pointer (some ⟨w.heap.size, 0, none⟩), .slice qa ql qc, .string (bs na), rv tx ty, rv dx dy, .agg #[.slice qa ql qc, .int .i64 clock, .int .i64 epoch, .int .i64 next, .int .i64 serial, .slice aa al ac, .slice ma ml mc, .slice ca cl cc], .string (bs nb), rv vx vy, .pointer (some ⟨w.heap.size, 0, none⟩), .slice qa ql qc, .string (bs nb), rv tx ty, undef, undef, undef, undef, undef, undef, undef, undef, undef, undef, undef, undef, undef, undef, undef, undef, undef], defers := [] } ∧ VB w1 wz g10 0 0 ∧ VB w1 wz g11 0 0 ∧ g10 ≠ g11 ∧ Kp w1 wz)
def BFS52 (w w1 : World) (na nb : List UInt8) (ux uy dx dy vx vy fx fy tx ty : Int) (gt : Nat) (qa : Option Addr) (ql qc : Nat) (aa : Option Addr) (al ac : Nat) (ma : Option Addr) (ml mc : Nat) (ca : Option Addr) (cl cc : Nat) (qs : List Q) (clock epoch next serial : Int) (apps : List Appl) (ms : List Mac) (cs : List Con) (n : Nat) (lz : Array Bool) (az : Act) (wz : World) : Prop := (∃ g9 : Nat, n = 8 ∧ lz = #[true, true, true, true, true, true, true, true, true, true, true, true, true, true, true, false, false, true, false, false, false, false, false, false] ∧ az = { tmps := #[sv ⟨qa, ql, qc, aa, al, ac, ma, ml, mc, ca, cl, cc⟩ ⟨qs, clock, epoch, next, serial, apps, ms, cs⟩, .string (bs na), .string (bs nb), .pointer (some ⟨w.heap.size, 0, none⟩), undef, undef, .bool false, .pointer (some ⟨gt, 0, none⟩), undef, .pointer (some ⟨g9, 0, none⟩), undef, undef, .agg #[.slice qa ql qc, .int .i64 clock, .int .i64 epoch, .int .i64 next, .int .i64 serial, .slice aa al ac, .slice ma ml mc, .slice ca cl cc], rv tx ty, .agg #[.slice qa ql qc, .int .i64 clock, .int .i64 epoch, .int .i64 next, .int .i64 serial, .slice aa al ac, .slice ma ml mc, .slice ca cl cc], .string (bs na), rv ux uy, .pointer (some ⟨w.heap.size, 0, none⟩), .slice qa ql qc, .string (bs na), rv tx ty, rv dx dy, .agg #[.slice qa ql qc, .int .i64 clock, .int .i64 epoch, .int .i64 next, .int .i64 serial, .slice aa al ac, .slice ma ml mc, .slice ca cl cc], .string (bs nb), rv vx vy, .pointer (some ⟨w.heap.size, 0, none⟩), .slice qa ql qc, .string (bs nb), rv tx ty, undef, undef, undef, undef, undef, undef, undef, undef, undef, undef, undef, undef, undef, undef, undef, undef, undef], defers := [] } ∧ VB w1 wz g9 0 0 ∧ Kp w1 wz)
def BFS53 (w w1 : World) (na nb : List UInt8) (ux uy dx dy vx vy fx fy tx ty : Int) (gt : Nat) (qa : Option Addr) (ql qc : Nat) (aa : Option Addr) (al ac : Nat) (ma : Option Addr) (ml mc : Nat) (ca : Option Addr) (cl cc : Nat) (qs : List Q) (clock epoch next serial : Int) (apps : List Appl) (ms : List Mac) (cs : List Con) (n : Nat) (lz : Array Bool) (az : Act) (wz : World) : Prop := (∃ g9 g11 : Nat, n = 7 ∧ lz = #[true, true, true, true, true, true, true, true, true, true, true, true, true, true, true, false, false, true, false, true, false, false, false, false] ∧ az = { tmps := #[sv ⟨qa, ql, qc, aa, al, ac, ma, ml, mc, ca, cl, cc⟩ ⟨qs, clock, epoch, next, serial, apps, ms, cs⟩, .string (bs na), .string (bs nb), .pointer (some ⟨w.heap.size, 0, none⟩), undef, undef, .bool false, .pointer (some ⟨gt, 0, none⟩), undef, .pointer (some ⟨g9, 0, none⟩), undef, .pointer (some ⟨g11, 0, none⟩), .agg #[.slice qa ql qc, .int .i64 clock, .int .i64 epoch, .int .i64 next, .int .i64 serial, .slice aa al ac, .slice ma ml mc, .slice ca cl cc], rv tx ty, .agg #[.slice qa ql qc, .int .i64 clock, .int .i64 epoch, .int .i64 next, .int .i64 serial, .slice aa al ac, .slice ma ml mc, .slice ca cl cc], .string (bs na), rv ux uy, .pointer (some ⟨w.heap.size, 0, none⟩), .slice qa ql qc, .string (bs na), rv tx ty, rv dx dy, .agg #[.slice qa ql qc, .int .i64 clock, .int .i64 epoch, .int .i64 next, .int .i64 serial, .slice aa al ac, .slice ma ml mc, .slice ca cl cc], .string (bs nb), rv vx vy, .pointer (some ⟨w.heap.size, 0, none⟩), .slice qa ql qc, .string (bs nb), rv tx ty, undef, undef, undef, undef, undef, undef, undef, undef, undef, undef, undef, undef, undef, undef, undef, undef, undef], defers := [] } ∧ VB w1 wz g9 0 0 ∧ VB w1 wz g11 0 0 ∧ g9 ≠ g11 ∧ Kp w1 wz)
def BFS54 (w w1 : World) (na nb : List UInt8) (ux uy dx dy vx vy fx fy tx ty : Int) (gt : Nat) (qa : Option Addr) (ql qc : Nat) (aa : Option Addr) (al ac : Nat) (ma : Option Addr) (ml mc : Nat) (ca : Option Addr) (cl cc : Nat) (qs : List Q) (clock epoch next serial : Int) (apps : List Appl) (ms : List Mac) (cs : List Con) (n : Nat) (lz : Array Bool) (az : Act) (wz : World) : Prop := (∃ g9 g10 : Nat, n = 7 ∧ lz = #[true, true, true, true, true, true, true, true, true, true, true, true, true, true, true, false, false, true, true, false, false, false, false, false] ∧ az = { tmps := #[sv ⟨qa, ql, qc, aa, al, ac, ma, ml, mc, ca, cl, cc⟩ ⟨qs, clock, epoch, next, serial, apps, ms, cs⟩, .string (bs na), .string (bs nb), .pointer (some ⟨w.heap.size, 0, none⟩), undef, undef, .bool false, .pointer (some ⟨gt, 0, none⟩), undef, .pointer (some ⟨g9, 0, none⟩), .pointer (some ⟨g10, 0, none⟩), undef, .agg #[.slice qa ql qc, .int .i64 clock, .int .i64 epoch, .int .i64 next, .int .i64 serial, .slice aa al ac, .slice ma ml mc, .slice ca cl cc], rv tx ty, .agg #[.slice qa ql qc, .int .i64 clock, .int .i64 epoch, .int .i64 next, .int .i64 serial, .slice aa al ac, .slice ma ml mc, .slice ca cl cc], .string (bs na), rv ux uy, .pointer (some ⟨w.heap.size, 0, none⟩), .slice qa ql qc, .string (bs na), rv tx ty, rv dx dy, .agg #[.slice qa ql qc, .int .i64 clock, .int .i64 epoch, .int .i64 next, .int .i64 serial, .slice aa al ac, .slice ma ml mc, .slice ca cl cc], .string (bs nb), rv vx vy, .pointer (some ⟨w.heap.size, 0, none⟩), .slice qa ql qc, .string (bs nb), rv tx ty, undef, undef, undef, undef, undef, undef, undef, undef, undef, undef, undef, undef, undef, undef, undef, undef, undef], defers := [] } ∧ VB w1 wz g9 0 0 ∧ VB w1 wz g10 0 0 ∧ g9 ≠ g10 ∧ Kp w1 wz)
def BFS55 (w w1 : World) (na nb : List UInt8) (ux uy dx dy vx vy fx fy tx ty : Int) (gt : Nat) (qa : Option Addr) (ql qc : Nat) (aa : Option Addr) (al ac : Nat) (ma : Option Addr) (ml mc : Nat) (ca : Option Addr) (cl cc : Nat) (qs : List Q) (clock epoch next serial : Int) (apps : List Appl) (ms : List Mac) (cs : List Con) (n : Nat) (lz : Array Bool) (az : Act) (wz : World) : Prop := (∃ g9 g10 g11 : Nat, n = 6 ∧ lz = #[true, true, true, true, true, true, true, true, true, true, true, true, true, true, true, false, false, true, true, true, false, false, false, false] ∧ az = { tmps := #[sv ⟨qa, ql, qc, aa, al, ac, ma, ml, mc, ca, cl, cc⟩ ⟨qs, clock, epoch, next, serial, apps, ms, cs⟩, .string (bs na), .string (bs nb), .pointer (some ⟨w.heap.size, 0, none⟩), undef, undef, .bool false, .pointer (some ⟨gt, 0, none⟩), undef, .pointer (some ⟨g9, 0, none⟩), .pointer (some ⟨g10, 0, none⟩), .pointer (some ⟨g11, 0, none⟩), .agg #[.slice qa ql qc, .int .i64 clock, .int .i64 epoch, .int .i64 next, .int .i64 serial, .slice aa al ac, .slice ma ml mc, .slice ca cl cc], rv tx ty, .agg #[.slice qa ql qc, .int .i64 clock, .int .i64 epoch, .int .i64 next, .int .i64 serial, .slice aa al ac, .slice ma ml mc, .slice ca cl cc], .string (bs na), rv ux uy, .pointer (some ⟨w.heap.size, 0, none⟩), .slice qa ql qc, .string (bs na), rv tx ty, rv dx dy, .agg #[.slice qa ql qc, .int .i64 clock, .int .i64 epoch, .int .i64 next, .int .i64 serial, .slice aa al ac, .slice ma ml mc, .slice ca cl cc], .string (bs nb), rv vx vy, .pointer (some ⟨w.heap.size, 0, none⟩), .slice qa ql qc, .string (bs nb), rv tx ty, undef, undef, undef, undef, undef, undef, undef, undef, undef, undef, undef, undef, undef, undef, undef, undef, undef], defers := [] } ∧ VB w1 wz g9 0 0 ∧ VB w1 wz g10 0 0 ∧ VB w1 wz g11 0 0 ∧ g9 ≠ g10 ∧ g9 ≠ g11 ∧ g10 ≠ g11 ∧ Kp w1 wz)
def BFS56 (w w1 : World) (na nb : List UInt8) (ux uy dx dy vx vy fx fy tx ty : Int) (gt : Nat) (qa : Option Addr) (ql qc : Nat) (aa : Option Addr) (al ac : Nat) (ma : Option Addr) (ml mc : Nat) (ca : Option Addr) (cl cc : Nat) (qs : List Q) (clock epoch next serial : Int) (apps : List Appl) (ms : List Mac) (cs : List Con) (n : Nat) (lz : Array Bool) (az : Act) (wz : World) : Prop := (∃ g8 : Nat, n = 8 ∧ lz = #[true, true, true, true, true, true, true, true, true, true, true, true, true, true, true, false, true, false, false, false, false, false, false, false] ∧ az = { tmps := #[sv ⟨qa, ql, qc, aa, al, ac, ma, ml, mc, ca, cl, cc⟩ ⟨qs, clock, epoch, next, serial, apps, ms, cs⟩, .string (bs na), .string (bs nb), .pointer (some ⟨w.heap.size, 0, none⟩), undef, undef, .bool false, .pointer (some ⟨gt, 0, none⟩), .pointer (some ⟨g8, 0, none⟩), undef, undef, undef, .agg #[.slice qa ql qc, .int .i64 clock, .int .i64 epoch, .int .i64 next, .int .i64 serial, .slice aa al ac, .slice ma ml mc, .slice ca cl cc], rv tx ty, .agg #[.slice qa ql qc, .int .i64 clock, .int .i64 epoch, .int .i64 next, .int .i64 serial, .slice aa al ac, .slice ma ml mc, .slice ca cl cc], .string (bs na), rv ux uy, .pointer (some ⟨w.heap.size, 0, none⟩), .slice qa ql qc, .string (bs na), rv tx ty, rv dx dy, .agg #[.slice qa ql qc, .int .i64 clock, .int .i64 epoch, .int .i64 next, .int .i64 serial, .slice aa al ac, .slice ma ml mc, .slice ca cl cc], .string (bs nb), rv vx vy, .pointer (some ⟨w.heap.size, 0, none⟩), .slice qa ql qc, .string (bs nb), rv tx ty, undef, undef, undef, undef, undef, undef, undef, undef, undef, undef, undef, undef, undef, undef, undef, undef, undef], defers := [] } ∧ VB w1 wz g8 0 0 ∧ Kp w1 wz)
def BFS57 (w w1 : World) (na nb : List UInt8) (ux uy dx dy vx vy fx fy tx ty : Int) (gt : Nat) (qa : Option Addr) (ql qc : Nat) (aa : Option Addr) (al ac : Nat) (ma : Option Addr) (ml mc : Nat) (ca : Option Addr) (cl cc : Nat) (qs : List Q) (clock epoch next serial : Int) (apps : List Appl) (ms : List Mac) (cs : List Con) (n : Nat) (lz : Array Bool) (az : Act) (wz : World) : Prop := (∃ g8 g11 : Nat, n = 7 ∧ lz = #[true, true, true, true, true, true, true, true, true, true, true, true, true, true, true, false, true, false, false, true, false, false, false, false] ∧ az = { tmps := #[sv ⟨qa, ql, qc, aa, al, ac, ma, ml, mc, ca, cl, cc⟩ ⟨qs, clock, epoch, next, serial, apps, ms, cs⟩, .string (bs na), .string (bs nb), .pointer (some ⟨w.heap.size, 0, none⟩), undef, undef, .bool false, .pointer (some ⟨gt, 0, none⟩), .pointer (some ⟨g8, 0, none⟩), undef, undef, .pointer (some ⟨g11, 0, none⟩), .agg #[.slice qa ql qc, .int .i64 clock, .int .i64 epoch, .int .i64 next, .int .i64 serial, .slice aa al ac, .slice ma ml mc, .slice ca cl cc], rv tx ty, .agg #[.slice qa ql qc, .int .i64 clock, .int .i64 epoch, .int .i64 next, .int .i64 serial, .slice aa al ac, .slice ma ml mc, .slice ca cl cc], .string (bs na), rv ux uy, .pointer (some ⟨w.heap.size, 0, none⟩), .slice qa ql qc, .string (bs na), rv tx ty, rv dx dy, .agg #[.slice qa ql qc, .int .i64 clock, .int .i64 epoch, .int .i64 next, .int .i64 serial, .slice aa al ac, .slice ma ml mc, .slice ca cl cc], .string (bs nb), rv vx vy, .pointer (some ⟨w.heap.size, 0, none⟩), .slice qa ql qc, .string (bs nb), rv tx ty, undef, undef, undef, undef, undef, undef, undef, undef, undef, undef, undef, undef, undef, undef, undef, undef, undef], defers := [] } ∧ VB w1 wz g8 0 0 ∧ VB w1 wz g11 0 0 ∧ g8 ≠ g11 ∧ Kp w1 wz)
def BFS58 (w w1 : World) (na nb : List UInt8) (ux uy dx dy vx vy fx fy tx ty : Int) (gt : Nat) (qa : Option Addr) (ql qc : Nat) (aa : Option Addr) (al ac : Nat) (ma : Option Addr) (ml mc : Nat) (ca : Option Addr) (cl cc : Nat) (qs : List Q) (clock epoch next serial : Int) (apps : List Appl) (ms : List Mac) (cs : List Con) (n : Nat) (lz : Array Bool) (az : Act) (wz : World) : Prop := (∃ g8 g10 : Nat, n = 7 ∧ lz = #[true, true, true, true, true, true, true, true, true, true, true, true, true, true, true, false, true, false, true, false, false, false, false, false] ∧ az = { tmps := #[sv ⟨qa, ql, qc, aa, al, ac, ma, ml, mc, ca, cl, cc⟩ ⟨qs, clock, epoch, next, serial, apps, ms, cs⟩, .string (bs na), .string (bs nb), .pointer (some ⟨w.heap.size, 0, none⟩), undef, undef, .bool false, .pointer (some ⟨gt, 0, none⟩), .pointer (some ⟨g8, 0, none⟩), undef, .pointer (some ⟨g10, 0, none⟩), undef, .agg #[.slice qa ql qc, .int .i64 clock, .int .i64 epoch, .int .i64 next, .int .i64 serial, .slice aa al ac, .slice ma ml mc, .slice ca cl cc], rv tx ty, .agg #[.slice qa ql qc, .int .i64 clock, .int .i64 epoch, .int .i64 next, .int .i64 serial, .slice aa al ac, .slice ma ml mc, .slice ca cl cc], .string (bs na), rv ux uy, .pointer (some ⟨w.heap.size, 0, none⟩), .slice qa ql qc, .string (bs na), rv tx ty, rv dx dy, .agg #[.slice qa ql qc, .int .i64 clock, .int .i64 epoch, .int .i64 next, .int .i64 serial, .slice aa al ac, .slice ma ml mc, .slice ca cl cc], .string (bs nb), rv vx vy, .pointer (some ⟨w.heap.size, 0, none⟩), .slice qa ql qc, .string (bs nb), rv tx ty, undef, undef, undef, undef, undef, undef, undef, undef, undef, undef, undef, undef, undef, undef, undef, undef, undef], defers := [] } ∧ VB w1 wz g8 0 0 ∧ VB w1 wz g10 0 0 ∧ g8 ≠ g10 ∧ Kp w1 wz)
def BFS59 (w w1 : World) (na nb : List UInt8) (ux uy dx dy vx vy fx fy tx ty : Int) (gt : Nat) (qa : Option Addr) (ql qc : Nat) (aa : Option Addr) (al ac : Nat) (ma : Option Addr) (ml mc : Nat) (ca : Option Addr) (cl cc : Nat) (qs : List Q) (clock epoch next serial : Int) (apps : List Appl) (ms : List Mac) (cs : List Con) (n : Nat) (lz : Array Bool) (az : Act) (wz : World) : Prop := (∃ g8 g10 g11 : Nat, n = 6 ∧ lz = #[true, true, true, true, true, true, true, true, true, true, true, true, true, true, true, false, true, false, true, true, false, false, false, false] ∧ az = { tmps := #[sv ⟨qa, ql, qc, aa, al, ac, ma, ml, mc, ca, cl, cc⟩ ⟨qs, clock, epoch, next, serial, apps, ms, cs⟩, .string (bs na), .string (bs nb), .pointer (some ⟨w.heap.size, 0, none⟩), undef, undef, .bool false, .pointer (some ⟨gt, 0, none⟩), .pointer (some ⟨g8, 0, none⟩), undef, .pointer (some ⟨g10, 0, none⟩), .pointer (some ⟨g11, 0, none⟩), .agg #[.slice qa ql qc, .int .i64 clock, .int .i64 epoch, .int .i64 next, .int .i64 serial, .slice aa al ac, .slice ma ml mc, .slice ca cl cc], rv tx ty, .agg #[.slice qa ql qc, .int .i64 clock, .int .i64 epoch, .int .i64 next, .int .i64 serial, .slice aa al ac, .slice ma ml mc, .slice ca cl cc], .string (bs na), rv ux uy, .pointer (some ⟨w.heap.size, 0, none⟩), .slice qa ql qc, .string (bs na), rv tx ty, rv dx dy, .agg #[.slice qa ql qc, .int .i64 clock, .int .i64 epoch, .int .i64 next, .int .i64 serial, .slice aa al ac, .slice ma ml mc, .slice ca cl cc], .string (bs nb), rv vx vy, .pointer (some ⟨w.heap.size, 0, none⟩), .slice qa ql qc, .string (bs nb), rv tx ty, undef, undef, undef, undef, undef, undef, undef, undef, undef, undef, undef, undef, undef, undef, undef, undef, undef], defers := [] } ∧ VB w1 wz g8 0 0 ∧ VB w1 wz g10 0 0 ∧ VB w1 wz g11 0 0 ∧ g8 ≠ g10 ∧ g8 ≠ g11 ∧ g10 ≠ g11 ∧ Kp w1 wz)
def BFS60 (w w1 : World) (na nb : List UInt8) (ux uy dx dy vx vy fx fy tx ty : Int) (gt : Nat) (qa : Option Addr) (ql qc : Nat) (aa : Option Addr) (al ac : Nat) (ma : Option Addr) (ml mc : Nat) (ca : Option Addr) (cl cc : Nat) (qs : List Q) (clock epoch next serial : Int) (apps : List Appl) (ms : List Mac) (cs : List Con) (n : Nat) (lz : Array Bool) (az : Act) (wz : World) : Prop := (∃ g8 g9 : Nat, n = 7 ∧ lz = #[true, true, true, true, true, true, true, true, true, true, true, true, true, true, true, false, true, true, false, false, false, false, false, false] ∧ az = { tmps := #[sv ⟨qa, ql, qc, aa, al, ac, ma, ml, mc, ca, cl, cc⟩ ⟨qs, clock, epoch, next, serial, apps, ms, cs⟩, .string (bs na), .string (bs nb), .pointer (some ⟨w.heap.size, 0, none⟩), undef, undef, .bool false, .pointer (some ⟨gt, 0, none⟩), .pointer (some ⟨g8, 0, none⟩), .pointer (some ⟨g9, 0, none⟩), undef, undef, .agg #[.slice qa ql qc, .int .i64 clock, .int .i64 epoch, .int .i64 next, .int .i64 serial, .slice aa al ac, .slice ma ml mc, .slice ca cl cc], rv tx ty, .agg #[.slice qa ql qc, .int .i64 clock, .int .i64 epoch, .int .i64 next, .int .i64 serial, .slice aa al ac, .slice ma ml mc, .slice ca cl cc], .string (bs na), rv ux uy, .pointer (some ⟨w.heap.size, 0, none⟩), .slice qa ql qc, .string (bs na), rv tx ty, rv dx dy, .agg #[.slice qa ql qc, .int .i64 clock, .int .i64 epoch, .int .i64 next, .int .i64 serial, .slice aa al ac, .slice ma ml mc, .slice ca cl cc], .string (bs nb), rv vx vy, .pointer (some ⟨w.heap.size, 0, none⟩), .slice qa ql qc, .string (bs nb), rv tx ty, undef, undef, undef, undef, undef, undef, undef, undef, undef, undef, undef, undef, undef, undef, undef, undef, undef], defers := [] } ∧ VB w1 wz g8 0 0 ∧ VB w1 wz g9 0 0 ∧ g8 ≠ g9 ∧ Kp w1 wz)
def BFS61 (w w1 : World) (na nb : List UInt8) (ux uy dx dy vx vy fx fy tx ty : Int) (gt : Nat) (qa : Option Addr) (ql qc : Nat) (aa : Option Addr) (al ac : Nat) (ma : Option Addr) (ml mc : Nat) (ca : Option Addr) (cl cc : Nat) (qs : List Q) (clock epoch next serial : Int) (apps : List Appl) (ms : List Mac) (cs : List Con) (n : Nat) (lz : Array Bool) (az : Act) (wz : World) : Prop := (∃ g8 g9 g11 : Nat, n = 6 ∧ lz = #[true, true, true, true, true, true, true, true, true, true, true, true, true, true, true, false, true, true, false, true, false, false, false, false] ∧ az = { tmps := #[sv ⟨qa, ql, qc, aa, al, ac, ma, ml, mc, ca, cl, cc⟩ ⟨qs, clock, epoch, next, serial, apps, ms, cs⟩, .string (bs na), .string (bs nb), .pointer (some ⟨w.heap.size, 0, none⟩), undef, undef, .bool false, .pointer (some ⟨gt, 0, none⟩), .pointer (some ⟨g8, 0, none⟩), .pointer (some ⟨g9, 0, none⟩), undef, .pointer (some ⟨g11, 0, none⟩), .agg #[.slice qa ql qc, .int .i64 clock, .int .i64 epoch, .int .i64 next, .int .i64 serial, .slice aa al ac, .slice ma ml mc, .slice ca cl cc], rv tx ty, .agg #[.slice qa ql qc, .int .i64 clock, .int .i64 epoch, .int .i64 next, .int .i64 serial, .slice aa al ac, .slice ma ml mc, .slice ca cl cc], .string (bs na), rv ux uy, .pointer (some ⟨w.heap.size, 0, none⟩), .slice qa ql qc, .string (bs na), rv tx ty, rv dx dy, .agg #[.slice qa ql qc, .int .i64 clock, .int .i64 epoch, .int .i64 next, .int .i64 serial, .slice aa al ac, .slice ma ml mc, .slice ca cl cc], .string (bs nb), rv vx vy, .pointer (some ⟨w.heap.size, 0, none⟩), .slice qa ql qc, .string (bs nb), rv tx ty, undef, undef, undef, undef, undef, undef, undef, undef, undef, undef, undef, undef, undef, undef, undef, undef, undef], defers := [] } ∧ VB w1 wz g8 0 0 ∧ VB w1 wz g9 0 0 ∧ VB w1 wz g11 0 0 ∧ g8 ≠ g9 ∧ g8 ≠ g11 ∧ g9 ≠ g11 ∧ Kp w1 wz)
def BFS62 (w w1 : World) (na nb : List UInt8) (ux uy dx dy vx vy fx fy tx ty : Int) (gt : Nat) (qa : Option Addr) (ql qc : Nat) (aa : Option Addr) (al ac : Nat) (ma : Option Addr) (ml mc : Nat) (ca : Option Addr) (cl cc : Nat) (qs : List Q) (clock epoch next serial : Int) (apps : List Appl) (ms : List Mac) (cs : List Con) (n : Nat) (lz : Array Bool) (az : Act) (wz : World) : Prop := (∃ g8 g9 g10 : Nat, n = 6 ∧ lz = #[true, true, true, true, true, true, true, true, true, true, true, true, true, true, true, false, true, true, true, false, false, false, false, false] ∧ az = { tmps := #[sv ⟨qa, ql, qc, aa, al, ac, ma, ml, mc, ca, cl, cc⟩ ⟨qs, clock, epoch, next, serial, apps, ms, cs⟩, .string (bs na), .string (bs nb), .pointer (some ⟨w.heap.size, 0, none⟩), undef, undef, .bool false, .pointer (some ⟨gt, 0, none⟩), .pointer (some ⟨g8, 0, none⟩), .pointer (some ⟨g9, 0, none⟩), .pointer (some ⟨g10, 0, none⟩), undef, .agg #[.slice qa ql qc, .int .i64 clock, .int .i64 epoch, .int .i64 next, .int .i64 serial, .slice aa al ac, .slice ma ml mc, .slice ca cl cc], rv tx ty, .agg #[.slice qa ql qc, .int .i64 clock, .int .i64 epoch, .int .i64 next, .int .i64 serial, .slice aa al ac, .slice ma ml mc, .slice ca cl cc], .string (bs na), rv ux uy, .pointer (some ⟨w.heap.size, 0, none⟩), .slice qa ql qc, .string (bs na), rv tx ty, rv dx dy, .agg #[.slice qa ql qc, .int .i64 clock, .int .i64 epoch, .int .i64 next, .int .i64 serial, .slice aa al ac, .slice ma ml mc, .slice ca cl cc], .string (bs nb), rv vx vy, .pointer (some ⟨w.heap.size, 0, none⟩), .slice qa ql qc, .string (bs nb), rv tx ty, undef, undef, undef, undef, undef, undef, undef, undef, undef, undef, undef, undef, undef, undef, undef, undef, undef], defers := [] } ∧ VB w1 wz g8 0 0 ∧ VB w1 wz g9 0 0 ∧ VB w1 wz g10 0 0 ∧ g8 ≠ g9 ∧ g8 ≠ g10 ∧ g9 ≠ g10 ∧ Kp w1 wz)
def BFS63 (w w1 : World) (na nb : List UInt8) (ux uy dx dy vx vy fx fy tx ty : Int) (gt : Nat) (qa : Option Addr) (ql qc : Nat) (aa : Option Addr) (al ac : Nat) (ma : Option Addr) (ml mc : Nat) (ca : Option Addr) (cl cc : Nat) (qs : List Q) (clock epoch next serial : Int) (apps : List Appl) (ms : List Mac) (cs : List Con) (n : Nat) (lz : Array Bool) (az : Act) (wz : World) : Prop := (∃ g8 g9 g10 g11 : Nat, n = 5 ∧ lz = #[true, true, true, true, true, true, true, true, true, true, true, true, true, true, true, false, true, true, true, true, false, false, false, false] ∧ az = { tmps := #[sv ⟨qa, ql, qc, aa, al, ac, ma, ml, mc, ca, cl, cc⟩ ⟨qs, clock, epoch, next, serial, apps, ms, cs⟩, .string (bs na), .string (bs nb), .pointer (some ⟨w.heap.size, 0, none⟩), undef, undef, .bool false, .pointer (some ⟨gt, 0, none⟩), .pointer (some ⟨g8, 0, none⟩), .pointer (some ⟨g9, 0, none⟩), .pointer (some ⟨g10, 0, none⟩), .pointer (some ⟨g11, 0, none⟩), .agg #[.slice qa ql qc, .int .i64 clock, .int .i64 epoch, .int .i64 next, .int .i64 serial, .slice aa al ac, .slice ma ml mc, .slice ca cl cc], rv tx ty, .agg #[.slice qa ql qc, .int .i64 clock, .int .i64 epoch, .int .i64 next, .int .i64 serial, .slice aa al ac, .slice ma ml mc, .slice ca cl cc], .string (bs na), rv ux uy, .pointer (some ⟨w.heap.size, 0, none⟩), .slice qa ql qc, .string (bs na), rv tx ty, rv dx dy, .agg #[.slice qa ql qc, .int .i64 clock, .int .i64 epoch, .int .i64 next, .int .i64 serial, .slice aa al ac, .slice ma ml mc, .slice ca cl cc], .string (bs nb), rv vx vy, .pointer (some ⟨w.heap.size, 0, none⟩), .slice qa ql qc, .string (bs nb), rv tx ty, undef, undef, undef, undef, undef, undef, undef, undef, undef, undef, undef, undef, undef, undef, undef, undef, undef], defers := [] } ∧ VB w1 wz g8 0 0 ∧ VB w1 wz g9 0 0 ∧ VB w1 wz g10 0 0 ∧ VB w1 wz g11 0 0 ∧ g8 ≠ g9 ∧ g8 ≠ g10 ∧ g8 ≠ g11 ∧ g9 ≠ g10 ∧ g9 ≠ g11 ∧ g10 ≠ g11 ∧ Kp w1 wz)
def BFS64 (w w1 : World) (na nb : List UInt8) (ux uy dx dy vx vy fx fy tx ty : Int) (gt : Nat) (qa : Option Addr) (ql qc : Nat) (aa : Option Addr) (al ac : Nat) (ma : Option Addr) (ml mc : Nat) (ca : Option Addr) (cl cc : Nat) (qs : List Q) (clock epoch next serial : Int) (apps : List Appl) (ms : List Mac) (cs : List Con) (n : Nat) (lz : Array Bool) (az : Act) (wz : World) : Prop := (n = 8 ∧ lz = #[true, true, true, true, true, true, true, true, true, true, true, true, true, true, true, true, false, false, false, false, false, false, false, false] ∧ az = { tmps := #[sv ⟨qa, ql, qc, aa, al, ac, ma, ml, mc, ca, cl, cc⟩ ⟨qs, clock, epoch, next, serial, apps, ms, cs⟩, .string (bs na), .string (bs nb), .pointer (some ⟨w.heap.size, 0, none⟩), undef, undef, .bool false, .pointer (some ⟨gt, 0, none⟩), undef, undef, undef, undef, .agg #[.slice qa ql qc, .int .i64 clock, .int .i64 epoch, .int .i64 next, .int .i64 serial, .slice aa al ac, .slice ma ml mc, .slice ca cl cc], rv tx ty, .agg #[.slice qa ql qc, .int .i64 clock, .int .i64 epoch, .int .i64 next, .int .i64 serial, .slice aa al ac, .slice ma ml mc, .slice ca cl cc], .string (bs na), rv ux uy, .pointer (some ⟨w.heap.size, 0, none⟩), .slice qa ql qc, .string (bs na), rv tx ty, rv dx dy, .agg #[.slice qa ql qc, .int .i64 clock, .int .i64 epoch, .int .i64 next, .int .i64 serial, .slice aa al ac, .slice ma ml mc, .slice ca cl cc], .string (bs nb), rv vx vy, .pointer (some ⟨w.heap.size, 0, none⟩), .slice qa ql qc, .string (bs nb), rv tx ty, rv fx fy, undef, undef, undef, undef, undef, undef, undef, undef, undef, undef, undef, undef, undef, undef, undef, undef], defers := [] } ∧ Kp w1 wz)
def BFS65 (w w1 : World) (na nb : List UInt8) (ux uy dx dy vx vy fx fy tx ty : Int) (gt : Nat) (qa : Option Addr) (ql qc : Nat) (aa : Option Addr) (al ac : Nat) (ma : Option Addr) (ml mc : Nat) (ca : Option Addr) (cl cc : Nat) (qs : List Q) (clock epoch next serial : Int) (apps : List Appl) (ms : List Mac) (cs : List Con) (n : Nat) (lz : Array Bool) (az : Act) (wz : World) : Prop := (∃ g11 : Nat, n = 7 ∧ lz = #[true, true, true, true, true, true, true, true, true, true, true, true, true, true, true, true, false, false, false, true, false, false, false, false] ∧ az = { tmps := #[sv ⟨qa, ql, qc, aa, al, ac, ma, ml, mc, ca, cl, cc⟩ ⟨qs, clock, epoch, next, serial, apps, ms, cs⟩, .string (bs na), .string (bs nb), .pointer (some ⟨w.heap.size, 0, none⟩), undef, undef, .bool false, .pointer (some ⟨gt, 0, none⟩), undef, undef, undef, .pointer (some ⟨g11, 0, none⟩), .agg #[.slice qa ql qc, .int .i64 clock, .int .i64 epoch, .int .i64 next, .int .i64 serial, .slice aa al ac, .slice ma ml mc, .slice ca cl cc], rv tx ty, .agg #[.slice qa ql qc, .int .i64 clock, .int .i64 epoch, .int .i64 next, .int .i64 serial, .slice aa al ac, .slice ma ml mc, .slice ca cl cc], .string (bs na), rv ux uy, .pointer (some ⟨w.heap.size, 0, none⟩), .slice qa ql qc, .string (bs na), rv tx ty, rv dx dy, .agg #[.slice qa ql qc, .int .i64 clock, .int .i64 epoch, .int .i64 next, .int .i64 serial, .slice aa al ac, .slice ma ml mc, .slice ca cl cc], .string (bs nb), rv vx vy, .pointer (some ⟨w.heap.size, 0, none⟩), .slice qa ql qc, .string (bs nb), rv tx ty, rv fx fy, undef, undef, undef, undef, undef, undef, undef, undef, undef, undef, undef, undef, undef, undef, undef, undef], defers := [] } ∧ VB w1 wz g11 0 0 ∧ Kp w1 wz)
def BFS66 (w w1 : World) (na nb : List UInt8) (ux uy dx dy vx vy fx fy tx ty : Int) (gt : Nat) (qa : Option Addr) (ql qc : Nat) (aa : Option Addr) (al ac : Nat) (ma : Option Addr) (ml mc : Nat) (ca : Option Addr) (cl cc : Nat) (qs : List Q) (clock epoch next serial : Int) (apps : List Appl) (ms : List Mac) (cs : List Con) (n : Nat) (lz : Array Bool) (az : Act) (wz : World) : Prop := (∃ g10 : Nat, n = 7 ∧ lz = #[true, true, true, true, true, true, true, true, true, true, true, true, true, true, true, true, false, false, true, false, false, false, false, false] ∧ az = { tmps := #[sv ⟨qa, ql, qc, aa, al, ac, ma, ml, mc, ca, cl, cc⟩ ⟨qs, clock, epoch, next, serial, apps, ms, cs⟩, .string (bs na), .string (bs nb), .pointer (some ⟨w.heap.size, 0, none⟩), undef, undef, .bool false, .pointer (some ⟨gt, 0, none⟩), undef, undef, .pointer (some ⟨g10, 0, none⟩), undef, .agg #[.slice qa ql qc, .int .i64 clock, .int .i64 epoch, .int .i64 next, .int .i64 serial, .slice aa al ac, .slice ma ml mc, .slice ca cl cc], rv tx ty, .agg #[.slice qa ql qc, .int .i64 clock, .int .i64 epoch, .int .i64 next, .int .i64 serial, .slice aa al ac, .slice ma ml mc, .slice ca cl cc], .string (bs na), rv ux uy, .pointer (some ⟨w.heap.size, 0, none⟩), .slice qa ql qc, .string (bs na), rv tx ty, rv dx dy, .agg #[.slice qa ql qc, .int .i64 clock, .int .i64 epoch, .int .i64 next, .int .i64 serial, .slice aa al ac, .slice ma ml mc, .slice ca cl cc], .string (bs nb), rv vx vy, .pointer (some ⟨w.heap.size, 0, none⟩), .slice qa ql qc, .string (bs nb), rv tx ty, rv fx fy, undef, undef, undef, undef, undef, undef, undef, undef, undef, undef, undef, undef, undef, undef, undef, undef], defers := [] } ∧ VB w1 wz g10 0 0 ∧ Kp w1 wz)
def BFS67 (w w1 : World) (na nb : List UInt8) (ux uy dx dy vx vy fx fy tx ty : Int) (gt : Nat) (qa : Option Addr) (ql qc : Nat) (aa : Option Addr) (al ac : Nat) (ma : Option Addr) (ml mc : Nat) (ca : Option Addr) (cl cc : Nat) (qs : List Q) (clock epoch next serial : Int) (apps : List Appl) (ms : List Mac) (cs : List Con) (n : Nat) (lz : Array Bool) (az : Act) (wz : World) : Prop := (∃ g10 g11 : Nat, n = 6 ∧ lz = #[true, true, true, true, true, true, true, true, true, true, true, true, true, true, true, true, false, false, true, true, false, false, false, false] ∧ az = { tmps := #[sv ⟨qa, ql, qc, aa, al, ac, ma, ml, mc, ca, cl, cc⟩ ⟨qs, clock, epoch, next, serial, apps, ms, cs⟩, .string (bs na), .string (bs nb), .pointer (some ⟨w.heap.size, 0, none⟩), undef, undef, .bool false, .pointer (some ⟨gt, 0, none⟩), undef, undef, .pointer (some ⟨g10, 0, none⟩), .pointer (some ⟨g11, 0, none⟩), .agg #[.slice qa ql qc, .int .i64 clock, .int .i64 epoch, .int .i64 next, .int .i64 serial, .slice aa al ac, .slice ma ml mc, .slice ca cl cc], rv tx ty, .agg #[.slice qa ql qc, .int .i64 clock, .int .i64 epoch, .int .i64 next, .int .i64 serial, .slice aa al ac, .slice ma ml mc, .slice ca cl cc], .string (bs na), rv ux uy, .pointer (some ⟨w.heap.size, 0, none⟩), .slice qa ql qc, .string (bs na), rv tx ty, rv dx dy, .agg #[.slice qa ql qc, .int .i64 clock, .int .i64 epoch, .int .i64 next, .int .i64 serial, .slice aa al ac, .slice ma ml mc, .slice ca cl cc], .string (bs nb), rv vx vy, .pointer (some ⟨w.heap.size, 0, none⟩), .slice qa ql qc, .string (bs nb), rv tx ty, rv fx fy, undef, undef, undef, undef, undef, undef, undef, undef, undef, undef, undef, undef, undef, undef, undef, undef], defers := [] } ∧ VB w1 wz g10 0 0 ∧ VB w1 wz g11 0 0 ∧ g10 ≠ g11 ∧ Kp w1 wz)
def BFS68 (w w1 : World) (na nb : List UInt8) (ux uy dx dy vx vy fx fy tx ty : Int) (gt : Nat) (qa : Option Addr) (ql qc : Nat) (aa : Option Addr) (al ac : Nat) (ma : Option Addr) (ml mc : Nat) (ca : Option Addr) (cl cc : Nat) (qs : List Q) (clock epoch next serial : Int) (apps : List Appl) (ms : List Mac) (cs : List Con) (n : Nat) (lz : Array Bool) (az : Act) (wz : World) : Prop := (∃ g9 : Nat, n = 7 ∧ lz = #[true, true, true, true, true, true, true, true, true, true, true, true, true, true, true, true, false, true, false, false, false, false, false, false] ∧ az = { tmps := #[sv ⟨qa, ql, qc, aa, al, ac, ma, ml, mc, ca, cl, cc⟩ ⟨qs, clock, epoch, next, serial, apps, ms, cs⟩, .string (bs na), .string (bs nb), .pointer (some ⟨w.heap.size, 0, none⟩), undef, undef, .bool false, .pointer (some ⟨gt, 0, none⟩), undef, .pointer (some ⟨g9, 0, none⟩), undef, undef, .agg #[.slice qa ql qc, .int .i64 clock, .int .i64 epoch, .int .i64 next, .int .i64 serial, .slice aa al ac, .slice ma ml mc, .slice ca cl cc], rv tx ty, .agg #[.slice qa ql qc, .int .i64 clock, .int .i64 epoch, .int .i64 next, .int .i64 serial, .slice aa al ac, .slice ma ml mc, .slice ca cl cc], .string (bs na), rv ux uy, .pointer (some ⟨w.heap.size, 0, none⟩), .slice qa ql qc, .string (bs na), rv tx ty, rv dx dy, .agg #[.slice qa ql qc, .int .i64 clock, .int .i64 epoch, .int .i64 next, .int .i64 serial, .slice aa al ac, .slice ma ml mc, .slice ca cl cc], .string (bs nb), rv vx vy, .pointer (some ⟨w.heap.size, 0, none⟩), .slice qa ql qc, .string (bs nb), rv tx ty, rv fx fy, undef, undef, undef, undef, undef, undef, undef, undef, undef, undef, undef, undef, undef, undef, undef, undef], defers := [] } ∧ VB w1 wz g9 0 0 ∧ Kp w1 wz)
def BFS69 (w w1 : World) (na nb : List UInt8) (ux uy dx dy vx vy fx fy tx ty : Int) (gt : Nat) (qa : Option Addr) (ql qc : Nat) (aa : Option Addr) (al ac : Nat) (ma : Option Addr) (ml mc : Nat) (ca : Option Addr) (cl cc : Nat) (qs : List Q) (clock epoch next serial : Int) (apps : List Appl) (ms : List Mac) (cs : List Con) (n : Nat) (lz : Array Bool) (az : Act) (wz : World) : Prop := (∃ g9 g11 : Nat, n = 6 ∧ lz = #[true, true, true, true, true, true, true, true, true, true, true, true, true, true, true, true, false, true, false, true, false, false, false, false] ∧ az = { tmps := #[sv ⟨qa, ql, qc, aa, al, ac, ma, ml, mc, ca, cl, cc⟩ ⟨qs, clock, epoch, next, serial, apps, ms, cs⟩, .string (bs na), .string (bs nb), .pointer (some ⟨w.heap.size, 0, none⟩), undef, undef, .bool false, .pointer (some ⟨gt, 0, none⟩), undef, .pointer (some ⟨g9, 0, none⟩), undef, .pointer (some ⟨g11, 0, none⟩), .agg #[.slice qa ql qc, .int .i64 clock, .int .i64 epoch, .int .i64 next, .int .i64 serial, .slice aa al ac, .slice ma ml mc, .slice ca cl cc], rv tx ty, .agg #[.slice qa ql qc, .int .i64 clock, .int .i64 epoch, .int .i64 next, .int .i64 serial, .slice aa al ac, .slice ma ml mc, .slice ca cl cc], .string (bs na), rv ux uy, .pointer (some ⟨w.heap.size, 0, none⟩), .slice qa ql qc, .string (bs na), rv tx ty, rv dx dy, .agg #[.slice qa ql qc, .int .i64 clock, .int .i64 epoch, .int .i64 next, .int .i64 serial, .slice aa al ac, .slice ma ml mc, .slice ca cl cc], .string (bs nb), rv vx vy, .pointer (some ⟨w.heap.size, 0, none⟩), .slice qa ql qc, .string (bs nb), rv tx ty, rv fx fy, undef, undef, undef, undef, undef, undef, undef, undef, undef, undef, undef, undef, undef, undef, undef, undef], defers := [] } ∧ VB w1 wz g9 0 0 ∧ VB w1 wz g11 0 0 ∧ g9 ≠ g11 ∧ Kp w1 wz)
def BFS70 (w w1 : World) (na nb : List UInt8) (ux uy dx dy vx vy fx fy tx ty : Int) (gt : Nat) (qa : Option Addr) (ql qc : Nat) (aa : Option Addr) (al ac : Nat) (ma : Option Addr) (ml mc : Nat) (ca : Option Addr) (cl cc : Nat) (qs : List Q) (clock epoch next serial : Int) (apps : List Appl) (ms : List Mac) (cs : List Con) (n : Nat) (lz : Array Bool) (az : Act) (wz : World) : Prop := (∃ g9 g10 : Nat, n = 6 ∧ lz = #[true, true, true, true, true, true, true, true, true, true, true, true, true, true, true, true, false, true, true, false, false, false, false, false] ∧ az = { tmps := #[sv ⟨qa, ql, qc, aa, al, ac, ma, ml, mc, ca, cl, cc⟩ ⟨qs, clock, epoch, next, serial, apps, ms, cs⟩, .string (bs na), .string (bs nb), .pointer (some ⟨w.heap.size, 0, none⟩), undef, undef, .bool false, .pointer (some ⟨gt, 0, none⟩), undef, .pointer (some ⟨g9, 0, none⟩), .pointer (some ⟨g10, 0, none⟩), undef, .agg #[.slice qa ql qc, .int .i64 clock, .int .i64 epoch, .int .i64 next, .int .i64 serial, .slice aa al ac, .slice ma ml mc, .slice ca cl cc], rv tx ty, .agg #[.slice qa ql qc, .int .i64 clock, .int .i64 epoch, .int .i64 next, .int .i64 serial, .slice aa al ac, .slice ma ml mc, .slice ca cl cc], .string (bs na), rv ux uy, .pointer (some ⟨w.heap.size, 0, none⟩), .slice qa ql qc, .string (bs na), rv tx ty, rv dx dy, .agg #[.slice qa ql qc, .int .i64 clock, .int .i64 epoch, .int .i64 next, .int .i64 serial, .slice aa al ac, .slice ma ml mc, .slice ca cl cc], .string (bs nb), rv vx vy, .pointer (some ⟨w.heap.size, 0, none⟩), .slice qa ql qc, .string (bs nb), rv tx ty, rv fx fy, undef, undef, undef, undef, undef, undef, undef, undef, undef, undef, undef, undef, undef, undef, undef, undef], defers := [] } ∧ VB w1 wz g9 0 0 ∧ VB w1 wz g10 0 0 ∧ g9 ≠ g10 ∧ Kp w1 wz)
def BFS71 (w w1 : World) (na nb : List UInt8) (ux uy dx dy vx vy fx fy tx ty : Int) (gt : Nat) (qa : Option Addr) (ql qc : Nat) (aa : Option Addr) (al ac : Nat) (ma : Option Addr) (ml mc : Nat) (ca : Option Addr) (cl cc : Nat) (qs : List Q) (clock epoch next serial : Int) (apps : List Appl) (ms : List Mac) (cs : List Con) (n : Nat) (lz : Array Bool) (az : Act) (wz : World) : Prop := (∃ g9 g10 g11 : Nat, n = 5 ∧ lz = #[true, true, true, true, true, true, true, true, true, true, true, true, true, true, true, true, false, true, true, true, false, false, false, false] ∧ az = { tmps := #[sv ⟨qa, ql, qc, aa, al, ac, ma, ml, mc, ca, cl, cc⟩ ⟨qs, clock, epoch, next, serial, apps, ms, cs⟩, .string (bs na), .string (bs nb), .pointer (some ⟨w.heap.size, 0, none⟩), undef, undef, .bool false, .pointer (some ⟨gt, 0, none⟩), undef, .pointer (some ⟨g9, 0, none⟩), .pointer (some ⟨g10, 0, none⟩), .pointer (some ⟨g11, 0, none⟩), .agg #[.slice qa ql qc, .int .i64 clock, .int .i64 epoch, .int .i64 next, .int .i64 serial, .slice aa al ac, .slice ma ml mc, .slice ca cl cc], rv tx ty, .agg #[.slice qa ql qc, .int .i64 clock, .int .i64 epoch, .int .i64 next, .int .i64 serial, .slice aa al ac, .slice ma ml mc, .slice ca cl cc], .string (bs na), rv ux uy, .pointer (some ⟨w.heap.size, 0, none⟩), .slice qa ql qc, .string (bs na), rv tx ty, rv dx dy, .agg #[.slice qa ql qc, .int .i64 clock, .int .i64 epoch, .int .i64 next, .int .i64 serial, .slice aa al ac, .slice ma ml mc, .slice ca cl cc], .string (bs nb), rv vx vy, .pointer (some ⟨w.heap.size, 0, none⟩), .slice qa ql qc, .string (bs nb), rv tx ty, rv fx fy, undef, undef, undef, undef, undef, undef, undef, undef, undef, undef, undef, undef, undef, undef, undef, undef], defers := [] } ∧ VB w1 wz g9 0 0 ∧ VB w1 wz g10 0 0 ∧ VB w1 wz g11 0 0 ∧ g9 ≠ g10 ∧ g9 ≠ g11 ∧ g10 ≠ g11 ∧ Kp w1 wz)
def BFS72 (w w1 : World) (na nb : List UInt8) (ux uy dx dy vx vy fx fy tx ty : Int) (gt : Nat) (qa : Option Addr) (ql qc : Nat) (aa : Option Addr) (al ac : Nat) (ma : Option Addr) (ml mc : Nat) (ca : Option Addr) (cl cc : Nat) (qs : List Q) (clock epoch next serial : Int) (apps : List Appl) (ms : List Mac) (cs : List Con) (n : Nat) (lz : Array Bool) (az : Act) (wz : World) : Prop := (∃ g8 : Nat, n = 7 ∧ lz = #[true, true, true, true, true, true, true, true, true, true, true, true, true, true, true, true, true, false, false, false, false, false, false, false] ∧ az = { tmps := #[sv ⟨qa, ql, qc, aa, al, ac, ma, ml, mc, ca, cl, cc⟩ ⟨qs, clock, epoch, next, serial, apps, ms, cs⟩, .string (bs na), .string (bs nb), .pointer (some ⟨w.heap.size, 0, none⟩), undef, undef, .bool false, .pointer (some ⟨gt, 0, none⟩), .pointer (some ⟨g8, 0, none⟩), undef, undef, undef, .agg #[.slice qa ql qc, .int .i64 clock, .int .i64 epoch, .int .i64 next, .int .i64 serial, .slice aa al ac, .slice ma ml mc, .slice ca cl cc], rv tx ty, .agg #[.slice qa ql qc, .int .i64 clock, .int .i64 epoch, .int .i64 next, .int .i64 serial, .slice aa al ac, .slice ma ml mc, .slice ca cl cc], .string (bs na), rv ux uy, .pointer (some ⟨w.heap.size, 0, none⟩), .slice qa ql qc, .string (bs na), rv tx ty, rv dx dy, .agg #[.slice qa ql qc, .int .i64 clock, .int .i64 epoch, .int .i64 next, .int .i64 serial, .slice aa al ac, .slice ma ml mc, .slice ca cl cc], .string (bs nb), rv vx vy, .pointer (some ⟨w.heap.size, 0, none⟩), .slice qa ql qc, .string (bs nb), rv tx ty, rv fx fy, undef, undef, undef, undef, undef, undef, undef, undef, undef, undef, undef, undef, undef, undef, undef, undef], defers := [] } ∧ VB w1 wz g8 0 0 ∧ Kp w1 wz)
def BFS73 (w w1 : World) (na nb : List UInt8) (ux uy dx dy vx vy fx fy tx ty : Int) (gt : Nat) (qa : Option Addr) (ql qc : Nat) (aa : Option Addr) (al ac : Nat) (ma : Option Addr) (ml mc : Nat) (ca : Option Addr) (cl cc : Nat) (qs : List Q) (clock epoch next serial : Int) (apps : List Appl) (ms : List Mac) (cs : List Con) (n : Nat) (lz : Array Bool) (az : Act) (wz : World) : Prop := (∃ g8 g11 : Nat, n = 6 ∧ lz = #[true, true, true, true, true, true, true, true, true, true, true, true, true, true, true, true, true, false, false, true, false, false, false, false] ∧ az = { tmps := #[sv ⟨qa, ql, qc, aa, al, ac, ma, ml, mc, ca, cl, cc⟩ ⟨qs, clock, epoch, next, serial, apps, ms, cs⟩, .string (bs na), .string (bs nb), .pointer (some ⟨w.heap.size, 0, none⟩), undef, undef, .bool false, .pointer (some ⟨gt, 0, none⟩), .pointer (some ⟨g8, 0, none⟩), undef, undef, .pointer (some ⟨g11, 0, none⟩), .agg #[.slice qa ql qc, .int .i64 clock, .int .i64 epoch, .int .i64 next, .int .i64 serial, .slice aa al ac, .slice ma ml mc, .slice ca cl cc], rv tx ty, .agg #[.slice qa ql qc, .int .i64 clock, .int .i64 epoch, .int .i64 next, .int .i64 serial, .slice aa al ac, .slice ma ml mc, .slice ca cl cc], .string (bs na), rv ux uy, .pointer (some ⟨w.heap.size, 0, none⟩), .slice qa ql qc, .string (bs na), rv tx ty, rv dx dy, .agg #[.slice qa ql qc, .int .i64 clock, .int .i64 epoch, .int .i64 next, .int .i64 serial, .slice aa al ac, .slice ma ml mc, .slice ca cl cc], .string (bs nb), rv vx vy, .pointer (some ⟨w.heap.size, 0, none⟩), .slice qa ql qc, .string (bs nb), rv tx ty, rv fx fy, undef, undef, undef, undef, undef, undef, undef, undef, undef, undef, undef, undef, undef, undef, undef, undef], defers := [] } ∧ VB w1 wz g8 0 0 ∧ VB w1 wz g11 0 0 ∧ g8 ≠ g11 ∧ Kp w1 wz)
def BFS74 (w w1 : World) (na nb : List UInt8) (ux uy dx dy vx vy fx fy tx ty : Int) (gt : Nat) (qa : Option Addr) (ql qc : Nat) (aa : Option Addr) (al ac : Nat) (ma : Option Addr) (ml mc : Nat) (ca : Option Addr) (cl cc : Nat) (qs : List Q) (clock epoch next serial : Int) (apps : List Appl) (ms : List Mac) (cs : List Con) (n : Nat) (lz : Array Bool) (az : Act) (wz : World) : Prop := (∃ g8 g10 : Nat, n = 6 ∧ lz = #[true, true, true, true, true, true, true, true, true, true, true, true, true, true, true, true, true, false, true, false, false, false, false, false] ∧ az = { tmps := #[sv ⟨qa, ql, qc, aa, al, ac, ma, ml, mc, ca, cl, cc⟩ ⟨qs, clock, epoch, next, serial, apps, ms, cs⟩, .string (bs na), .string (bs nb), .pointer (some ⟨w.heap.size, 0, none⟩), undef, undef, .bool false, .pointer (some ⟨gt, 0, none⟩), .pointer (some ⟨g8, 0, none⟩), undef, .pointer (some ⟨g10, 0, none⟩), undef, .agg #[.slice qa ql qc, .int .i64 clock, .int .i64 epoch, .int .i64 next, .int .i64 serial, .slice aa al ac, .slice ma ml mc, .slice ca cl cc], rv tx ty, .agg #[.slice qa ql qc, .int .i64 clock, .int .i64 epoch, .int .i64 next, .int .i64 serial, .slice aa al ac, .slice ma ml mc, .slice ca cl cc], .string (bs na), rv ux uy, .pointer (some ⟨w.heap.size, 0, none⟩), .slice qa ql qc, .string (bs na), rv tx ty, rv dx dy, .agg #[.slice qa ql qc, .int .i64 clock, .int .i64 epoch, .int .i64 next, .int .i64 serial, .slice aa al ac, .slice ma ml mc, .slice ca cl cc], .string (bs nb), rv vx vy, .pointer (some ⟨w.heap.size, 0, none⟩), .slice qa ql qc, .string (bs nb), rv tx ty, rv fx fy, undef, undef, undef, undef, undef, undef, undef, undef, undef, undef, undef, undef, undef, undef, undef, undef], defers := [] } ∧ VB w1 wz g8 0 0 ∧ VB w1 wz g10 0 0 ∧ g8 ≠ g10 ∧ Kp w1 wz)
def BFS75 (w w1 : World) (na nb : List UInt8) (ux uy dx dy vx vy fx fy tx ty : Int) (gt : Nat) (qa : Option Addr) (ql qc : Nat) (aa : Option Addr) (al ac : Nat) (ma : Option Addr) (ml mc : Nat) (ca : Option Addr) (cl cc : Nat) (qs : List Q) (clock epoch next serial : Int) (apps : List Appl) (ms : List Mac) (cs : List Con) (n : Nat) (lz : Array Bool) (az : Act) (wz : World) : Prop := (∃ g8 g10 g11 : Nat, n = 5 ∧ lz = #[true, true, true, true, true, true, true, true, true, true, true, true, true, true, true, true, true, false, true, true, false, false, false, false] ∧ az = { tmps := #[sv ⟨qa, ql, qc, aa, al, ac, ma, ml, mc, ca, cl, cc⟩ ⟨qs, clock, epoch, next, serial, apps, ms, cs⟩, .string (bs na), .string (bs nb), .pointer (some ⟨w.heap.size, 0, none⟩), undef, undef, .bool false, .pointer (some ⟨gt, 0, none⟩), .pointer (some ⟨g8, 0, none⟩), undef, .pointer (some ⟨g10, 0, none⟩), .pointer (some ⟨g11, 0, none⟩), .agg #[.slice qa ql qc, .int .i64 clock, .int .i64 epoch, .int .i64 next, .int .i64 serial, .slice aa al ac, .slice ma ml mc, .slice ca cl cc], rv tx ty, .agg #[.slice qa ql qc, .int .i64 clock, .int .i64 epoch, .int .i64 next, .int .i64 serial, .slice aa al ac, .slice ma ml mc, .slice ca cl cc], .string (bs na), rv ux uy, .pointer (some ⟨w.heap.size, 0, none⟩), .slice qa ql qc, .string (bs na), rv tx ty, rv dx dy, .agg #[.slice qa ql qc, .int .i64 clock, .int .i64 epoch, .int .i64 next, .int .i64 serial, .slice aa al ac, .slice ma ml mc, .slice ca cl cc], .string (bs nb), rv vx vy, .pointer (some ⟨w.heap.size, 0, none⟩), .slice qa ql qc, .string (bs nb), rv tx ty, rv fx fy, undef, undef, undef, undef, undef, undef, undef, undef, undef, undef, undef, undef, undef, undef, undef, undef], defers := [] } ∧ VB w1 wz g8 0 0 ∧ VB w1 wz g10 0 0 ∧ VB w1 wz g11 0 0 ∧ g8 ≠ g10 ∧ g8 ≠ g11 ∧ g10 ≠ g11 ∧ Kp w1 wz)
def BFS76 (w w1 : World) (na nb : List UInt8) (ux uy dx dy vx vy fx fy tx ty : Int) (gt : Nat) (qa : Option Addr) (ql qc : Nat) (aa : Option Addr) (al ac : Nat) (ma : Option Addr) (ml mc : Nat) (ca : Option Addr) (cl cc : Nat) (qs : List Q) (clock epoch next serial : Int) (apps : List Appl) (ms : List Mac) (cs : List Con) (n : Nat) (lz : Array Bool) (az : Act) (wz : World) : Prop := (∃ g8 g9 : Nat, n = 6 ∧ lz = #[true, true, true, true, true, true, true, true, true, true, true, true, true, true, true, true, true, true, false, false, false, false, false, false] ∧ az = { tmps := #[sv ⟨qa, ql, qc, aa, al, ac, ma, ml, mc, ca, cl, cc⟩ ⟨qs, clock, epoch, next, serial, apps, ms, cs⟩, .string (bs na), .string (bs nb), .pointer (some ⟨w.heap.size, 0, none⟩), undef, undef, .bool false, .pointer (some ⟨gt, 0, none⟩), .pointer (some ⟨g8, 0, none⟩), .pointer (some ⟨g9, 0, none⟩), undef, undef, .agg #[.slice qa ql qc, .int .i64 clock, .int .i64 epoch, .int .i64 next, .int .i64 serial, .slice aa al ac, .slice ma ml mc, .slice ca cl cc], rv tx ty, .agg #[.slice qa ql qc, .int .i64 clock, .int .i64 epoch, .int .i64 next, .int .i64 serial, .slice aa al ac, .slice ma ml mc, .slice ca cl cc], .string (bs na), rv ux uy, .pointer (some ⟨w.heap.size, 0, none⟩), .slice qa ql qc, .string (bs na), rv tx ty, rv dx dy, .agg #[.slice qa ql qc, .int .i64 clock, .int .i64 epoch, .int .i64 next, .int .i64 serial, .slice aa al ac, .slice ma ml mc, .slice ca cl cc], .string (bs nb), rv vx vy, .pointer (some ⟨w.heap.size, 0, none⟩), .slice qa ql qc, .string (bs nb), rv tx ty, rv fx fy, undef, undef, undef, undef, undef, undef, undef, undef, undef, undef, undef, undef, undef, undef, undef, undef], defers := [] } ∧ VB w1 wz g8 0 0 ∧ VB w1 wz g9 0 0 ∧ g8 ≠ g9 ∧ Kp w1 wz)
def BFS77 (w w1 : World) (na nb : List UInt8) (ux uy dx dy vx vy fx fy tx ty : Int) (gt : Nat) (qa : Option Addr) (ql qc : Nat) (aa : Option Addr) (al ac : Nat) (ma : Option Addr) (ml mc : Nat) (ca : Option Addr) (cl cc : Nat) (qs : List Q) (clock epoch next serial : Int) (apps : List Appl) (ms : List Mac) (cs : List Con) (n : Nat) (lz : Array Bool) (az : Act) (wz : World) : Prop := (∃ g8 g9 g11 : Nat, n = 5 ∧ lz = #[true, true, true, true, true, true, true, true, true, true, true, true, true, true, true, true, true, true, false, true, false, false, false, false] ∧ az = { tmps := #[sv ⟨qa, ql, qc, aa, al, ac, ma, ml, mc, ca, cl, cc⟩ ⟨qs, clock, epoch, next, serial, apps, ms, cs⟩, .string (bs na), .string (bs nb), .pointer (some ⟨w.heap.size, 0, none⟩), undef, undef, .bool false, .pointer (some ⟨gt, 0, none⟩), .pointer (some ⟨g8, 0, none⟩), .pointer (some ⟨g9, 0, none⟩), undef, .pointer (some ⟨g11, 0, none⟩), .agg #[.slice qa ql qc, .int .i64 clock, .int .i64 epoch, .int .i64 next, .int .i64 serial, .slice aa al ac, .slice ma ml mc, .slice ca cl cc], rv tx ty, .agg #[.slice qa ql qc, .int .i64 clock, .int .i64 epoch, .int .i64 next, .int .i64 serial, .slice aa al ac, .slice ma ml mc, .slice ca cl cc], .string (bs na), rv ux uy, .pointer (some ⟨w.heap.size, 0, none⟩), .slice qa ql qc, .string (bs na), rv tx ty, rv dx dy, .agg #[.slice qa ql qc, .int .i64 clock, .int .i64 epoch, .int .i64 next, .int .i64 serial, .slice aa al ac, .slice ma ml mc, .slice ca cl cc], .string (bs nb), rv vx vy, .pointer (some ⟨w.heap.size, 0, none⟩), .slice qa ql qc, .string (bs nb), rv tx ty, rv fx fy, undef, undef, undef, undef, undef, undef, undef, undef, undef, undef, undef, undef, undef, undef, undef, undef], defers := [] } ∧ VB w1 wz g8 0 0 ∧ VB w1 wz g9 0 0 ∧ VB w1 wz g11 0 0 ∧ g8 ≠ g9 ∧ g8 ≠ g11 ∧ g9 ≠ g11 ∧ Kp w1 wz)
def BFS78 (w w1 : World) (na nb : List UInt8) (ux uy dx dy vx vy fx fy tx ty : Int) (gt : Nat) (qa : Option Addr) (ql qc : Nat) (aa : Option Addr) (al ac : Nat) (ma : Option Addr) (ml mc : Nat) (ca : Option Addr) (cl cc : Nat) (qs : List Q) (clock epoch next serial : Int) (apps : List Appl) (ms : List Mac) (cs : List Con) (n : Nat) (lz : Array Bool) (az : Act) (wz : World) : Prop := (∃ g8 g9 g10 : Nat, n = 5 ∧ lz = #[true, true, true, true, true, true, true, true, true, true, true, true, true, true, true, true, true, true, true, false, false, false, false, false] ∧ az = { tmps := #[sv ⟨qa, ql, qc, aa, al, ac, ma, ml, mc, ca, cl, cc⟩ ⟨qs, clock, epoch, next, serial, apps, ms, cs⟩, .string (bs na), .string (bs nb), .pointer (some ⟨w.heap.size, 0, none⟩), undef, undef, .bool false, .pointer (some ⟨gt, 0, none⟩), .pointer (some ⟨g8, 0, none⟩), .pointer (some ⟨g9, 0, none⟩), .pointer (some ⟨g10, 0, none⟩), undef, .agg #[.slice qa ql qc, .int .i64 clock, .int .i64 epoch, .int .i64 next, .int .i64 serial, .slice aa al ac, .slice ma ml mc, .slice ca cl cc], rv tx ty, .agg #[.slice qa ql qc, .int .i64 clock, .int .i64 epoch, .int .i64 next, .int .i64 serial, .slice aa al ac, .slice ma ml mc, .slice ca cl cc], .string (bs na), rv ux uy, .pointer (some ⟨w.heap.size, 0, none⟩), .slice qa ql qc, .string (bs na), rv tx ty, rv dx dy, .agg #[.slice qa ql qc, .int .i64 clock, .int .i64 epoch, .int .i64 next, .int .i64 serial, .slice aa al ac, .slice ma ml mc, .slice ca cl cc], .string (bs nb), rv vx vy, .pointer (some ⟨w.heap.size, 0, none⟩), .slice qa ql qc, .string (bs nb), rv tx ty, rv fx fy, undef, undef, undef, undef, undef, undef, undef, undef, undef, undef, undef, undef, undef, undef, undef, undef], defers := [] } ∧ VB w1 wz g8 0 0 ∧ VB w1 wz g9 0 0 ∧ VB w1 wz g10 0 0 ∧ g8 ≠ g9 ∧ g8 ≠ g10 ∧ g9 ≠ g10 ∧ Kp w1 wz)
def BFS79 (w w1 : World) (na nb : List UInt8) (ux uy dx dy vx vy fx fy tx ty : Int) (gt : Nat) (qa : Option Addr) (ql qc : Nat) (aa : Option Addr) (al ac : Nat) (ma : Option Addr) (ml mc : Nat) (ca : Option Addr) (cl cc : Nat) (qs : List Q) (clock epoch next serial : Int) (apps : List Appl) (ms : List Mac) (cs : List Con) (n : Nat) (lz : Array Bool) (az : Act) (wz : World) : Prop := (∃ g8 g9 g10 g11 : Nat, n = 4 ∧ lz = #[true, true, true, true, true, true, true, true, true, true, true, true, true, true, true, true, true, true, true, true, false, false, false, false] ∧ az = { tmps := #[sv ⟨qa, ql, qc, aa, al, ac, ma, ml, mc, ca, cl, cc⟩ ⟨qs, clock, epoch, next, serial, apps, ms, cs⟩, .string (bs na), .string (bs nb), .pointer (some ⟨w.heap.size, 0, none⟩), undef, undef, .bool false, .pointer (some ⟨gt, 0, none⟩), .pointer (some ⟨g8, 0, none⟩), .pointer (some ⟨g9, 0, none⟩), .pointer (some ⟨g10, 0, none⟩), .pointer (some ⟨g11, 0, none⟩), .agg #[.slice qa ql qc, .int .i64 clock, .int .i64 epoch, .int .i64 next, .int .i64 serial, .slice aa al ac, .slice ma ml mc, .slice ca cl cc], rv tx ty, .agg #[.slice qa ql qc, .int .i64 clock, .int .i64 epoch, .int .i64 next, .int .i64 serial, .slice aa al ac, .slice ma ml mc, .slice ca cl cc], .string (bs na), rv ux uy, .pointer (some ⟨w.heap.size, 0, none⟩), .slice qa ql qc, .string (bs na), rv tx ty, rv dx dy, .agg #[.slice qa ql qc, .int .i64 clock, .int .i64 epoch, .int .i64 next, .int .i64 serial, .slice aa al ac, .slice ma ml mc, .slice ca cl cc], .string (bs nb), rv vx vy, .pointer (some ⟨w.heap.size, 0, none⟩), .slice qa ql qc, .string (bs nb), rv tx ty, rv fx fy, undef, undef, undef, undef, undef, undef, undef, undef, undef, undef, undef, undef, undef, undef, undef, undef], defers := [] } ∧ VB w1 wz g8 0 0 ∧ VB w1 wz g9 0 0 ∧ VB w1 wz g10 0 0 ∧ VB w1 wz g11 0 0 ∧ g8 ≠ g9 ∧ g8 ≠ g10 ∧ g8 ≠ g11 ∧ g9 ≠ g10 ∧ g9 ≠ g11 ∧ g10 ≠ g11 ∧ Kp w1 wz)
def BFS80 (w w1 : World) (na nb : List UInt8) (ux uy dx dy vx vy fx fy tx ty : Int) (gt : Nat) (qa : Option Addr) (ql qc : Nat) (aa : Option Addr) (al ac : Nat) (ma : Option Addr) (ml mc : Nat) (ca : Option Addr) (cl cc : Nat) (qs : List Q) (clock epoch next serial : Int) (apps : List Appl) (ms : List Mac) (cs : List Con) (n : Nat) (lz : Array Bool) (az : Act) (wz : World) : Prop := (∃ g8 g9 g10 g11 : Nat, n = 3 ∧ lz = #[true, true, true, true, true, true, true, true, true, true, true, true, true, true, true, true, true, true, true, true, true, false, false, false] ∧ az = { tmps := #[sv ⟨qa, ql, qc, aa, al, ac, ma, ml, mc, ca, cl, cc⟩ ⟨qs, clock, epoch, next, serial, apps, ms, cs⟩, .string (bs na), .string (bs nb), .pointer (some ⟨w.heap.size, 0, none⟩), undef, undef, .bool false, .pointer (some ⟨gt, 0, none⟩), .pointer (some ⟨g8, 0, none⟩), .pointer (some ⟨g9, 0, none⟩), .pointer (some ⟨g10, 0, none⟩), .pointer (some ⟨g11, 0, none⟩), .agg #[.slice qa ql qc, .int .i64 clock, .int .i64 epoch, .int .i64 next, .int .i64 serial, .slice aa al ac, .slice ma ml mc, .slice ca cl cc], rv tx ty, .agg #[.slice qa ql qc, .int .i64 clock, .int .i64 epoch, .int .i64 next, .int .i64 serial, .slice aa al ac, .slice ma ml mc, .slice ca cl cc], .string (bs na), rv ux uy, .pointer (some ⟨w.heap.size, 0, none⟩), .slice qa ql qc, .string (bs na), rv tx ty, rv dx dy, .agg #[.slice qa ql qc, .int .i64 clock, .int .i64 epoch, .int .i64 next, .int .i64 serial, .slice aa al ac, .slice ma ml mc, .slice ca cl cc], .string (bs nb), rv vx vy, .pointer (some ⟨w.heap.size, 0, none⟩), .slice qa ql qc, .string (bs nb), rv tx ty, rv fx fy, undef, undef, undef, undef, undef, undef, undef, undef, undef, undef, undef, undef, undef, undef, undef, undef], defers := [] } ∧ VB w1 wz g8 ux uy ∧ VB w1 wz g9 0 0 ∧ VB w1 wz g10 0 0 ∧ VB w1 wz g11 0 0 ∧ g8 ≠ g9 ∧ g8 ≠ g10 ∧ g8 ≠ g11 ∧ g9 ≠ g10 ∧ g9 ≠ g11 ∧ g10 ≠ g11 ∧ Kp w1 wz)
def BFS81 (w w1 : World) (na nb : List UInt8) (ux uy dx dy vx vy fx fy tx ty : Int) (gt : Nat) (qa : Option Addr) (ql qc : Nat) (aa : Option Addr) (al ac : Nat) (ma : Option Addr) (ml mc : Nat) (ca : Option Addr) (cl cc : Nat) (qs : List Q) (clock epoch next serial : Int) (apps : List Appl) (ms : List Mac) (cs : List Con) (n : Nat) (lz : Array Bool) (az : Act) (wz : World) : Prop := (∃ g8 g9 g10 g11 : Nat, n = 2 ∧ lz = #[true, true, true, true, true, true, true, true, true, true, true, true, true, true, true, true, true, true, true, true, true, true, false, false] ∧ az = { tmps := #[sv ⟨qa, ql, qc, aa, al, ac, ma, ml, mc, ca, cl, cc⟩ ⟨qs, clock, epoch, next, serial, apps, ms, cs⟩, .string (bs na), .string (bs nb), .pointer (some ⟨w.heap.size, 0, none⟩), undef, undef, .bool false, .pointer (some ⟨gt, 0, none⟩), .pointer (some ⟨g8, 0, none⟩), .pointer (some ⟨g9, 0, none⟩), .pointer (some ⟨g10, 0, none⟩), .pointer (some ⟨g11, 0, none⟩), .agg #[.slice qa ql qc, .int .i64 clock, .int .i64 epoch, .int .i64 next, .int .i64 serial, .slice aa al ac, .slice ma ml mc, .slice ca cl cc], rv tx ty, .agg #[.slice qa ql qc, .int .i64 clock, .int .i64 epoch, .int .i64 next, .int .i64 serial, .slice aa al ac, .slice ma ml mc, .slice ca cl cc], .string (bs na), rv ux uy, .pointer (some ⟨w.heap.size, 0, none⟩), .slice qa ql qc, .string (bs na), rv tx ty, rv dx dy, .agg #[.slice qa ql qc, .int .i64 clock, .int .i64 epoch, .int .i64 next, .int .i64 serial, .slice aa al ac, .slice ma ml mc, .slice ca cl cc], .string (bs nb), rv vx vy, .pointer (some ⟨w.heap.size, 0, none⟩), .slice qa ql qc, .string (bs nb), rv tx ty, rv fx fy, undef, undef, undef, undef, undef, undef, undef, undef, undef, undef, undef, undef, undef, undef, undef, undef], defers := [] } ∧ VB w1 wz g8 ux uy ∧ VB w1 wz g9 dx dy ∧ VB w1 wz g10 0 0 ∧ VB w1 wz g11 0 0 ∧ g8 ≠ g9 ∧ g8 ≠ g10 ∧ g8 ≠ g11 ∧ g9 ≠ g10 ∧ g9 ≠ g11 ∧ g10 ≠ g11 ∧ Kp w1 wz)
def BFS82 (w w1 : World) (na nb : List UInt8) (ux uy dx dy vx vy fx fy tx ty : Int) (gt : Nat) (qa : Option Addr) (ql qc : Nat) (aa : Option Addr) (al ac : Nat) (ma : Option Addr) (ml mc : Nat) (ca : Option Addr) (cl cc : Nat) (qs : List Q) (clock epoch next serial : Int) (apps : List Appl) (ms : List Mac) (cs : List Con) (n : Nat) (lz : Array Bool) (az : Act) (wz : World) : Prop := (∃ g8 g9 g10 g11 : Nat, n = 1 ∧ lz = #[true, true, true, true, true, true, true, true, true, true, true, true, true, true, true, true, true, true, true, true, true, true, true, false] ∧ az = { tmps := #[sv ⟨qa, ql, qc, aa, al, ac, ma, ml, mc, ca, cl, cc⟩ ⟨qs, clock, epoch, next, serial, apps, ms, cs⟩, .string (bs na), .string (bs nb), .pointer (some ⟨w.heap.size, 0, none⟩), undef, undef, .bool false, .pointer (some ⟨gt, 0, none⟩), .pointer (some ⟨g8, 0, none⟩), .pointer (some ⟨g9, 0, none⟩), .pointer (some ⟨g10, 0, none⟩), .pointer (some ⟨g11, 0, none⟩), .agg #[.slice qa ql qc, .int .i64 clock, .int .i64 epoch, .int .i64 next, .int .i64 serial, .slice aa al ac, .slice ma ml mc, .slice ca cl cc], rv tx ty, .agg #[.slice qa ql qc, .int .i64 clock, .int .i64 epoch, .int .i64 next, .int .i64 serial, .slice aa al ac, .slice ma ml mc, .slice ca cl cc], .string (bs na), rv ux uy, .pointer (some ⟨w.heap.size, 0, none⟩), .slice qa ql qc, .string (bs na), rv tx ty, rv dx dy, .agg #[.slice qa ql qc, .int .i64 clock, .int .i64 epoch, .int .i64 next, .int .i64 serial, .slice aa al ac, .slice ma ml mc, .slice ca cl cc], .string (bs nb), rv vx vy, .pointer (some ⟨w.heap.size, 0, none⟩), .slice qa ql qc, .string (bs nb), rv tx ty, rv fx fy, undef, undef, undef, undef, undef, undef, undef, undef, undef, undef, undef, undef, undef, undef, undef, undef], defers := [] } ∧ VB w1 wz g8 ux uy ∧ VB w1 wz g9 dx dy ∧ VB w1 wz g10 vx vy ∧ VB w1 wz g11 0 0 ∧ g8 ≠ g9 ∧ g8 ≠ g10 ∧ g8 ≠ g11 ∧ g9 ≠ g10 ∧ g9 ≠ g11 ∧ g10 ≠ g11 ∧ Kp w1 wz)
def BFS83 (w w1 : World) (na nb : List UInt8) (ux uy dx dy vx vy fx fy tx ty : Int) (gt : Nat) (qa : Option Addr) (ql qc : Nat) (aa : Option Addr) (al ac : Nat) (ma : Option Addr) (ml mc : Nat) (ca : Option Addr) (cl cc : Nat) (qs : List Q) (clock epoch next serial : Int) (apps : List Appl) (ms : List Mac) (cs : List Con) (n : Nat) (lz : Array Bool) (az : Act) (wz : World) : Prop := (∃ g8 g9 g10 g11 : Nat, n = 0 ∧ lz = #[true, true, true, true, true, true, true, true, true, true, true, true, true, true, true, true, true, true, true, true, true, true, true, true] ∧ az = { tmps := #[sv ⟨qa, ql, qc, aa, al, ac, ma, ml, mc, ca, cl, cc⟩ ⟨qs, clock, epoch, next, serial, apps, ms, cs⟩, .string (bs na), .string (bs nb), .pointer (some ⟨w.heap.size, 0, none⟩), undef, undef, .bool false, .pointer (some ⟨gt, 0, none⟩), .pointer (some ⟨g8, 0, none⟩), .pointer (some ⟨g9, 0, none⟩), .pointer (some ⟨g10, 0, none⟩), .pointer (some ⟨g11, 0, none⟩), .agg #[.slice qa ql qc, .int .i64 clock, .int .i64 epoch, .int .i64 next, .int .i64 serial, .slice aa al ac, .slice ma ml mc, .slice ca cl cc], rv tx ty, .agg #[.slice qa ql qc, .int .i64 clock, .int .i64 epoch, .int .i64 next, .int .i64 serial, .slice aa al ac, .slice ma ml mc, .slice ca cl cc], .string (bs na), rv ux uy, .pointer (some ⟨w.heap.size, 0, none⟩), .slice qa ql qc, .string (bs na), rv tx ty, rv dx dy, .agg #[.slice qa ql qc, .int .i64 clock, .int .i64 epoch, .int .i64 next, .int .i64 serial, .slice aa al ac, .slice ma ml mc, .slice ca cl cc], .string (bs nb), rv vx vy, .pointer (some ⟨w.heap.size, 0, none⟩), .slice qa ql qc, .string (bs nb), rv tx ty, rv fx fy, undef, undef, undef, undef, undef, undef, undef, undef, undef, undef, undef, undef, undef, undef, undef, undef], defers := [] } ∧ VB w1 wz g8 ux uy ∧ VB w1 wz g9 dx dy ∧ VB w1 wz g10 vx vy ∧ VB w1 wz g11 fx fy ∧ g8 ≠ g9 ∧ g8 ≠ g10 ∧ g8 ≠ g11 ∧ g9 ≠ g10 ∧ g9 ≠ g11 ∧ g10 ≠ g11 ∧ Kp w1 wz)
def BFS (w w1 : World) (na nb : List UInt8) (ux uy dx dy vx vy fx fy tx ty : Int) (gt : Nat) (qa : Option Addr) (ql qc : Nat) (aa : Option Addr) (al ac : Nat) (ma : Option Addr) (ml mc : Nat) (ca : Option Addr) (cl cc : Nat) (qs : List Q) (clock epoch next serial : Int) (apps : List Appl) (ms : List Mac) (cs : List Con) (n : Nat) (lz : Array Bool) (az : Act) (wz : World) : Prop := ((((((BFS0 w w1 na nb ux uy dx dy vx vy fx fy tx ty gt qa ql qc aa al ac ma ml mc ca cl cc qs clock epoch next serial apps ms cs n lz az wz ∨ BFS1 w w1 na nb ux uy dx dy vx vy fx fy tx ty gt qa ql qc aa al ac ma ml mc ca cl cc qs clock epoch next serial apps ms cs n lz az wz) ∨ (BFS2 w w1 na nb ux uy dx dy vx vy fx fy tx ty gt qa ql qc aa al ac ma ml mc ca cl cc qs clock epoch next serial apps ms cs n lz az wz ∨ (BFS3 w w1 na nb ux uy dx dy vx vy fx fy tx ty gt qa ql qc aa al ac ma ml mc ca cl cc qs clock epoch next serial apps ms cs n lz az wz ∨ BFS4 w w1 na nb ux uy dx dy vx vy fx fy tx ty gt qa ql qc aa al ac ma ml mc ca cl cc qs clock epoch next serial apps ms cs n lz az wz))) ∨ ((BFS5 w w1 na nb ux uy dx dy vx vy fx fy tx ty gt qa ql qc aa al ac ma ml mc ca cl cc qs clock epoch next serial apps ms cs n lz az wz ∨ BFS6 w w1 na nb ux uy dx dy vx vy fx fy tx ty gt qa ql qc aa al ac ma ml mc ca cl cc qs clock epoch next serial apps ms cs n lz az wz) ∨ (BFS7 w w1 na nb ux uy dx dy vx vy fx fy tx ty gt qa ql qc aa al ac ma ml mc ca cl cc qs clock epoch next serial apps ms cs n lz az wz ∨ (BFS8 w w1 na nb ux uy dx dy vx vy fx fy tx ty gt qa ql qc aa al ac ma ml mc ca cl cc qs clock epoch next serial apps ms cs n lz az wz ∨ BFS9 w w1 na nb ux uy dx dy vx vy fx fy tx ty gt qa ql qc aa al ac ma ml mc ca cl cc qs clock epoch next serial apps ms cs n lz az wz)))) ∨ (((BFS10 w w1 na nb ux uy dx dy vx vy fx fy tx ty gt qa ql qc aa al ac ma ml mc ca cl cc qs clock epoch next serial apps ms cs n lz az wz ∨ BFS11 w w1 na nb ux uy dx dy vx vy fx fy tx ty gt qa ql qc aa al ac ma ml mc ca cl cc qs clock epoch next serial apps ms cs n lz az wz) ∨ (BFS12 w w1 na nb ux uy dx dy vx vy fx fy tx ty gt qa ql qc aa al ac ma ml mc ca cl cc qs clock epoch next serial apps ms cs n lz az wz ∨ (BFS13 w w1 na nb ux uy dx dy vx vy fx fy tx ty gt qa ql qc aa al ac ma ml mc ca cl cc qs clock epoch next serial apps ms cs n lz az wz ∨ BFS14 w w1 na nb ux uy dx dy vx vy fx fy tx ty gt qa ql qc aa al ac ma ml mc ca cl cc qs clock epoch next serial apps ms cs n lz az wz))) ∨ ((BFS15 w w1 na nb ux uy dx dy vx vy fx fy tx ty gt qa ql qc aa al ac ma ml mc ca cl cc qs clock epoch next serial apps ms cs n lz az wz ∨ (BFS16 w w1 na nb ux uy dx dy vx vy fx fy tx ty gt qa ql qc aa al ac ma ml mc ca cl cc qs clock epoch next serial apps ms cs n lz az wz ∨ BFS17 w w1 na nb ux uy dx dy vx vy fx fy tx ty gt qa ql qc aa al ac ma ml mc ca cl cc qs clock epoch next serial apps ms cs n lz az wz)) ∨ (BFS18 w w1 na nb ux uy dx dy vx vy fx fy tx ty gt qa ql qc aa al ac ma ml mc ca cl cc qs clock epoch next serial apps ms cs n lz az wz ∨ (BFS19 w w1 na nb ux uy dx dy vx vy fx fy tx ty gt qa ql qc aa al ac ma ml mc ca cl cc qs clock epoch next serial apps ms cs n lz az wz ∨ BFS20 w w1 na nb ux uy dx dy vx vy fx fy tx ty gt qa ql qc aa al ac ma ml mc ca cl cc qs clock epoch next serial apps ms cs n lz az wz))))) ∨ ((((BFS21 w w1 na nb ux uy dx dy vx vy fx fy tx ty gt qa ql qc aa al ac ma ml mc ca cl cc qs clock epoch next serial apps ms cs n lz az wz ∨ BFS22 w w1 na nb ux uy dx dy vx vy fx fy tx ty gt qa ql qc aa al ac ma ml mc ca cl cc qs clock epoch next serial apps ms cs n lz az wz) ∨ (BFS23 w w1 na nb ux uy dx dy vx vy fx fy tx ty gt qa ql qc aa al ac ma ml mc ca cl cc qs clock epoch next serial apps ms cs n lz az wz ∨ (BFS24 w w1 na nb ux uy dx dy vx vy fx fy tx ty gt qa ql qc aa al ac ma ml mc ca cl cc qs clock epoch next serial apps ms cs n lz az wz ∨ BFS25 w w1 na nb ux uy dx dy vx vy fx fy tx ty gt qa ql qc aa al ac ma ml mc ca cl cc qs clock epoch next serial apps ms cs n lz az wz))) ∨ ((BFS26 w w1 na nb ux uy dx dy vx vy fx fy tx ty gt qa ql qc aa al ac ma ml mc ca cl cc qs clock epoch next serial apps ms cs n lz az wz ∨ BFS27 w w1 na nb ux uy dx dy vx vy fx fy tx ty gt qa ql qc aa al ac ma ml mc ca cl cc qs clock epoch next serial apps ms cs n lz az wz) ∨ (BFS28 w w1 na nb ux uy dx dy vx vy fx fy tx ty gt qa ql qc aa al ac ma ml mc ca cl cc qs clock epoch next serial apps ms cs n lz az wz ∨ (BFS29 w w1 na nb ux uy dx dy vx vy fx fy tx ty gt qa ql qc aa al ac ma ml mc ca cl cc qs clock epoch next serial apps ms cs n lz az wz ∨ BFS30 w w1 na nb ux uy dx dy vx vy fx fy tx ty gt qa ql qc aa al ac ma ml mc ca cl cc qs clock epoch next serial apps ms cs n lz az wz)))) ∨ (((BFS31 w w1 na nb ux uy dx dy vx vy fx fy tx ty gt qa ql qc aa al ac ma ml mc ca cl cc qs clock epoch next serial apps ms cs n lz az wz ∨ BFS32 w w1 na nb ux uy dx dy vx vy fx fy tx ty gt qa ql qc aa al ac ma ml mc ca cl cc qs clock epoch next serial apps ms cs n lz az wz) ∨ (BFS33 w w1 na nb ux uy dx dy vx vy fx fy tx ty gt qa ql qc aa al ac ma ml mc ca cl cc qs clock epoch next serial apps ms cs n lz az wz ∨ (BFS34 w w1 na nb ux uy dx dy vx vy fx fy tx ty gt qa ql qc aa al ac ma ml mc ca cl cc qs clock epoch next serial apps ms cs n lz az wz ∨ BFS35 w w1 na nb ux uy dx dy vx vy fx fy tx ty gt qa ql qc aa al ac ma ml mc ca cl cc qs clock epoch next serial apps ms cs n lz az wz))) ∨ ((BFS36 w w1 na nb ux uy dx dy vx vy fx fy tx ty gt qa ql qc aa al ac ma ml mc ca cl cc qs clock epoch next serial apps ms cs n lz az wz ∨ (BFS37 w w1 na nb ux uy dx dy vx vy fx fy tx ty gt qa ql qc aa al ac ma ml mc ca cl cc qs clock epoch next serial apps ms cs n lz az wz ∨ BFS38 w w1 na nb ux uy dx dy vx vy fx fy tx ty gt qa ql qc aa al ac ma ml mc ca cl cc qs clock epoch next serial apps ms cs n lz az wz)) ∨ (BFS39 w w1 na nb ux uy dx dy vx vy fx fy tx ty gt qa ql qc aa al ac ma ml mc ca cl cc qs clock epoch next serial apps ms cs n lz az wz ∨ (BFS40 w w1 na nb ux uy dx dy vx vy fx fy tx ty gt qa ql qc aa al ac ma ml mc ca cl cc qs clock epoch next serial apps ms cs n lz az wz ∨ BFS41 w w1 na nb ux uy dx dy vx vy fx fy tx ty gt qa ql qc aa al ac ma ml mc ca cl cc qs clock epoch next serial apps ms cs n lz az wz)))))) ∨ (((((BFS42 w w1 na nb ux uy dx dy vx vy fx fy tx ty gt qa ql qc aa al ac ma ml mc ca cl cc qs clock epoch next serial apps ms cs n lz az wz ∨ BFS43 w w1 na nb ux uy dx dy vx vy fx fy tx ty gt qa ql qc aa al ac ma ml mc ca cl cc qs clock epoch next serial apps ms cs n lz az wz) ∨ (BFS44 w w1 na nb ux uy dx dy vx vy fx fy tx ty gt qa ql qc aa al ac ma ml mc ca cl cc qs clock epoch next serial apps ms cs n lz az wz ∨ (BFS45 w w1 na nb ux uy dx dy vx vy fx fy tx ty gt qa ql qc aa al ac ma ml mc ca cl cc qs clock epoch next serial apps ms cs n lz az wz ∨ BFS46 w w1 na nb ux uy dx dy vx vy fx fy tx ty gt qa ql qc aa al ac ma ml mc ca cl cc qs clock epoch next serial apps ms cs n lz az wz))) ∨ ((BFS47 w w1 na nb ux uy dx dy vx vy fx fy tx ty gt qa ql qc aa al ac ma ml mc ca cl cc qs clock epoch next serial apps ms cs n lz az wz ∨ BFS48 w w1 na nb ux uy dx dy vx vy fx fy tx ty gt qa ql qc aa al ac ma ml mc ca cl cc qs clock epoch next serial apps ms cs n lz az wz) ∨ (BFS49 w w1 na nb ux uy dx dy vx vy fx fy tx ty gt qa ql qc aa al ac ma ml mc ca cl cc qs clock epoch next serial apps ms cs n lz az wz ∨ (BFS50 w w1 na nb ux uy dx dy vx vy fx fy tx ty gt qa ql qc aa al ac ma ml mc ca cl cc qs clock epoch next serial apps ms cs n lz az wz ∨ BFS51 w w1 na nb ux uy dx dy vx vy fx fy tx ty gt qa ql qc aa al ac ma ml mc ca cl cc qs clock epoch next serial apps ms cs n lz az wz)))) ∨ (((BFS52 w w1 na nb ux uy dx dy vx vy fx fy tx ty gt qa ql qc aa al ac ma ml mc ca cl cc qs clock epoch next serial apps ms cs n lz az wz ∨ BFS53 w w1 na nb ux uy dx dy vx vy fx fy tx ty gt qa ql qc aa al ac ma ml mc ca cl cc qs clock epoch next serial apps ms cs n lz az wz) ∨ (BFS54 w w1 na nb ux uy dx dy vx vy fx fy tx ty gt qa ql qc aa al ac ma ml mc ca cl cc qs clock epoch next serial apps ms cs n lz az wz ∨ (BFS55 w w1 na nb ux uy dx dy vx vy fx fy tx ty gt qa ql qc aa al ac ma ml mc ca cl cc qs clock epoch next serial apps ms cs n lz az wz ∨ BFS56 w w1 na nb ux uy dx dy vx vy fx fy tx ty gt qa ql qc aa al ac ma ml mc ca cl cc qs clock epoch next serial apps ms cs n lz az wz))) ∨ ((BFS57 w w1 na nb ux uy dx dy vx vy fx fy tx ty gt qa ql qc aa al ac ma ml mc ca cl cc qs clock epoch next serial apps ms cs n lz az wz ∨ (BFS58 w w1 na nb ux uy dx dy vx vy fx fy tx ty gt qa ql qc aa al ac ma ml mc ca cl cc qs clock epoch next serial apps ms cs n lz az wz ∨ BFS59 w w1 na nb ux uy dx dy vx vy fx fy tx ty gt qa ql qc aa al ac ma ml mc ca cl cc qs clock epoch next serial apps ms cs n lz az wz)) ∨ (BFS60 w w1 na nb ux uy dx dy vx vy fx fy tx ty gt qa ql qc aa al ac ma ml mc ca cl cc qs clock epoch next serial apps ms cs n lz az wz ∨ (BFS61 w w1 na nb ux uy dx dy vx vy fx fy tx ty gt qa ql qc aa al ac ma ml mc ca cl cc qs clock epoch next serial apps ms cs n lz az wz ∨ BFS62 w w1 na nb ux uy dx dy vx vy fx fy tx ty gt qa ql qc aa al ac ma ml mc ca cl cc qs clock epoch next serial apps ms cs n lz az wz))))) ∨ ((((BFS63 w w1 na nb ux uy dx dy vx vy fx fy tx ty gt qa ql qc aa al ac ma ml mc ca cl cc qs clock epoch next serial apps ms cs n lz az wz ∨ BFS64 w w1 na nb ux uy dx dy vx vy fx fy tx ty gt qa ql qc aa al ac ma ml mc ca cl cc qs clock epoch next serial apps ms cs n lz az wz) ∨ (BFS65 w w1 na nb ux uy dx dy vx vy fx fy tx ty gt qa ql qc aa al ac ma ml mc ca cl cc qs clock epoch next serial apps ms cs n lz az wz ∨ (BFS66 w w1 na nb ux uy dx dy vx vy fx fy tx ty gt qa ql qc aa al ac ma ml mc ca cl cc qs clock epoch next serial apps ms cs n lz az wz ∨ BFS67 w w1 na nb ux uy dx dy vx vy fx fy tx ty gt qa ql qc aa al ac ma ml mc ca cl cc qs clock epoch next serial apps ms cs n lz az wz))) ∨ ((BFS68 w w1 na nb ux uy dx dy vx vy fx fy tx ty gt qa ql qc aa al ac ma ml mc ca cl cc qs clock epoch next serial apps ms cs n lz az wz ∨ BFS69 w w1 na nb ux uy dx dy vx vy fx fy tx ty gt qa ql qc aa al ac ma ml mc ca cl cc qs clock epoch next serial apps ms cs n lz az wz) ∨ (BFS70 w w1 na nb ux uy dx dy vx vy fx fy tx ty gt qa ql qc aa al ac ma ml mc ca cl cc qs clock epoch next serial apps ms cs n lz az wz ∨ (BFS71 w w1 na nb ux uy dx dy vx vy fx fy tx ty gt qa ql qc aa al ac ma ml mc ca cl cc qs clock epoch next serial apps ms cs n lz az wz ∨ BFS72 w w1 na nb ux uy dx dy vx vy fx fy tx ty gt qa ql qc aa al ac ma ml mc ca cl cc qs clock epoch next serial apps ms cs n lz az wz)))) ∨ (((BFS73 w w1 na nb ux uy dx dy vx vy fx fy tx ty gt qa ql qc aa al ac ma ml mc ca cl cc qs clock epoch next serial apps ms cs n lz az wz ∨ BFS74 w w1 na nb ux uy dx dy vx vy fx fy tx ty gt qa ql qc aa al ac ma ml mc ca cl cc qs clock epoch next serial apps ms cs n lz az wz) ∨ (BFS75 w w1 na nb ux uy dx dy vx vy fx fy tx ty gt qa ql qc aa al ac ma ml mc ca cl cc qs clock epoch next serial apps ms cs n lz az wz ∨ (BFS76 w w1 na nb ux uy dx dy vx vy fx fy tx ty gt qa ql qc aa al ac ma ml mc ca cl cc qs clock epoch next serial apps ms cs n lz az wz ∨ BFS77 w w1 na nb ux uy dx dy vx vy fx fy tx ty gt qa ql qc aa al ac ma ml mc ca cl cc qs clock epoch next serial apps ms cs n lz az wz))) ∨ ((BFS78 w w1 na nb ux uy dx dy vx vy fx fy tx ty gt qa ql qc aa al ac ma ml mc ca cl cc qs clock epoch next serial apps ms cs n lz az wz ∨ (BFS79 w w1 na nb ux uy dx dy vx vy fx fy tx ty gt qa ql qc aa al ac ma ml mc ca cl cc qs clock epoch next serial apps ms cs n lz az wz ∨ BFS80 w w1 na nb ux uy dx dy vx vy fx fy tx ty gt qa ql qc aa al ac ma ml mc ca cl cc qs clock epoch next serial apps ms cs n lz az wz)) ∨ (BFS81 w w1 na nb ux uy dx dy vx vy fx fy tx ty gt qa ql qc aa al ac ma ml mc ca cl cc qs clock epoch next serial apps ms cs n lz az wz ∨ (BFS82 w w1 na nb ux uy dx dy vx vy fx fy tx ty gt qa ql qc aa al ac ma ml mc ca cl cc qs clock epoch next serial apps ms cs n lz az wz ∨ BFS83 w w1 na nb ux uy dx dy vx vy fx fy tx ty gt qa ql qc aa al ac ma ml mc ca cl cc qs clock epoch next serial apps ms cs n lz az wz)))))))

set_option maxRecDepth 100000 in
set_option maxHeartbeats 32000000 in
theorem before_any (x : Sls) (s : St) (na nb : List UInt8) (w : World) (h : SRow w x s) (hf : FitSt s) :
    Calls Tryz.prog 21 #[sv x s, .string (bs na), .string (bs nb)] w fun e w' => e = .returned (.bool (befN s na nb)) ∧ Below w.heap.size w w' := by
  have hql : x.ql ≤ 1048576 := h.ql hf
  have hml : x.ml ≤ 1048576 := h.ml hf
  have CT := hide (fun wx (hb : Below w.heap.size w wx) => show Calls Tryz.prog 41 #[sv x s] wx (fun e w' => e = .returned (rv (totalV s).1 (totalV s).2) ∧ Below wx.heap.size wx w') from specTotal_any x s wx (h.2.2.1.below hb) hml)
  have CD := fun nm wx (hb : Below w.heap.size w wx) => show Calls Tryz.prog 43 #[.slice x.qa x.ql x.qc, .string (bs nm), rv (totalV s).1 (totalV s).2] wx (fun e w' => e = .returned (rv (dueV s nm).1 (dueV s nm).2) ∧ Below wx.heap.size wx w') from specDueOf_any x.qa x.ql x.qc s.qs nm (totalV s).1 (totalV s).2 wx (h.1.below hb) hql (fun q hq => (hf.1.2 q hq).1)
  have CU := fun nm wx (hb : Below w.heap.size w wx) => specUsedBy_any x s nm wx (h.below hb) hf
  have CU1 := hide (CU na)
  have CU2 := hide (CU nb)
  have CD1 := hide (CD na)
  have CD2 := hide (CD nb)
  have HA := hide (show befN s na nb = (lessR (usedByV s na).1 (usedByV s na).2 (dueV s na).1 (dueV s na).2 (usedByV s nb).1 (usedByV s nb).2 (dueV s nb).1 (dueV s nb).2 || (!lessR (usedByV s nb).1 (usedByV s nb).2 (dueV s nb).1 (dueV s nb).2 (usedByV s na).1 (usedByV s na).2 (dueV s na).1 (dueV s na).2 && Op.bytesLess na nb)) from rfl)
  obtain ⟨⟨tx, ty⟩, ht⟩ : ∃ t, totalV s = t := ⟨_, rfl⟩
  obtain ⟨⟨dx, dy⟩, hd⟩ : ∃ t, dueV s na = t := ⟨_, rfl⟩
  obtain ⟨⟨ux, uy⟩, hu⟩ : ∃ t, usedByV s na = t := ⟨_, rfl⟩
  obtain ⟨⟨fx, fy⟩, hd2⟩ : ∃ t, dueV s nb = t := ⟨_, rfl⟩
  obtain ⟨⟨vx, vy⟩, hu2⟩ : ∃ t, usedByV s nb = t := ⟨_, rfl⟩
  rw [ht] at CT
  rw [ht, hd] at CD1
  rw [ht, hd2] at CD2
  rw [hu] at CU1
  rw [hu2] at CU2
  rw [hd, hu, hd2, hu2] at HA
  obtain ⟨o, ho⟩ : ∃ o, befN s na nb = o := ⟨_, rfl⟩
  rw [ho] at HA ⊢
  simp only at HA CD1 CD2 CU1 CU2 CT
  obtain ⟨l1, hl1⟩ : ∃ z, lessR ux uy dx dy vx vy fx fy = z := ⟨_, rfl⟩
  obtain ⟨l2, hl2⟩ : ∃ z, lessR vx vy fx fy ux uy dx dy = z := ⟨_, rfl⟩
  have CL1 := hide (fun wx => by have := specLessRatio_any ux uy dx dy vx vy fx fy wx; rw [hl1] at this; exact this)
  have CL2 := hide (fun wx => by have := specLessRatio_any vx vy fx fy ux uy dx dy wx; rw [hl2] at this; exact this)
  rw [hl1, hl2] at HA
  clear h hf CD CU ht hd hu hd2 hu2 ho hl1 hl2
  obtain ⟨qa, ql, qc, aa, al, ac, ma, ml, mc, ca, cl, cc⟩ := x
  obtain ⟨qs, clock, epoch, next, serial, apps, ms, cs⟩ := s
  simp only at CT CD1 CD2 CU1 CU2 hql hml
  have HB0 := hide (below_al (Below.refl _ w) (.cells (svc ⟨qa, ql, qc, aa, al, ac, ma, ml, mc, ca, cl, cc⟩ ⟨qs, clock, epoch, next, serial, apps, ms, cs⟩) 36))
  have P0 := hide (blk_new w (svc ⟨qa, ql, qc, aa, al, ac, ma, ml, mc, ca, cl, cc⟩ ⟨qs, clock, epoch, next, serial, apps, ms, cs⟩) 36)
  go_enter Tryz.func21, Tryz.ntmps21
  go_wp2_with fail
  refine (unhide CT _ (unhide HB0)).mono ?_
  rintro e w0 ⟨rfl, hb⟩
  have HB1 := hide (below_al (below_on (unhide HB0) hb) (.cells #[.int .i64 tx, .int .i64 ty] 64))
  have P1 := hide (((unhide P0).below hb).al (.cells #[.int .i64 tx, .int .i64 ty] 64))
  have T1 := hide (var_new w0 64 tx ty)
  clear hb HB0 P0 CT
  obtain ⟨gt, hgt⟩ : ∃ g, w0.heap.size = g := ⟨_, rfl⟩
  rw [hgt] at T1
  go_wp2_with fail
  try rw [hgt]
  obtain ⟨w1, hw1⟩ : ∃ W, w0.alloc (.cells #[.int .i64 tx, .int .i64 ty] 64) = W := ⟨_, rfl⟩
  rw [hw1] at HB1 P1 T1 ⊢
  clear hgt hw1
  obtain ⟨q0, q1, q2, q3, q4, q5, q6, q7⟩ : _ ∧ _ ∧ _ ∧ _ ∧ _ ∧ _ ∧ _ ∧ _ := ⟨(unhide P1).at 0, (unhide P1).at 1, (unhide P1).at 2, (unhide P1).at 3, (unhide P1).at 4, (unhide P1).at 5, (unhide P1).at 6, (unhide P1).at 7⟩
  simp at q0 q1 q2 q3 q4 q5 q6 q7
  have R : ∀ wx, Kp w1 wx → wx.cell? ⟨w.heap.size, 0, none⟩ = some (.slice qa ql qc) ∧ wx.cell? ⟨w.heap.size, 1, none⟩ = some (.int .i64 clock) ∧ wx.cell? ⟨w.heap.size, 2, none⟩ = some (.int .i64 epoch) ∧ wx.cell? ⟨w.heap.size, 3, none⟩ = some (.int .i64 next) ∧ wx.cell? ⟨w.heap.size, 4, none⟩ = some (.int .i64 serial) ∧ wx.cell? ⟨w.heap.size, 5, none⟩ = some (.slice aa al ac) ∧ wx.cell? ⟨w.heap.size, 6, none⟩ = some (.slice ma ml mc) ∧ wx.cell? ⟨w.heap.size, 7, none⟩ = some (.slice ca cl cc) ∧ wx.cell? ⟨gt, 0, none⟩ = some (.int .i64 tx) ∧ wx.cell? ⟨gt, 1, none⟩ = some (.int .i64 ty) := fun wx h =>
    ⟨h.cell q0, h.cell q1, h.cell q2, h.cell q3, h.cell q4, h.cell q5, h.cell q6, h.cell q7, h.cell (unhide T1).c0, h.cell (unhide T1).c1⟩
  have A0 := hide (Kp.new w1)
  have HS := hide (kp_holds w1)
  clear P1 T1 q0 q1 q2 q3 q4 q5 q6 q7
  go_cut [8, 9, 10, 11] from 14 to 29 (fun v8 v9 v10 v11 wx => ∃ g8 g9 g10 g11, v8 = .pointer (some ⟨g8, 0, none⟩) ∧ v9 = .pointer (some ⟨g9, 0, none⟩) ∧ v10 = .pointer (some ⟨g10, 0, none⟩) ∧ v11 = .pointer (some ⟨g11, 0, none⟩) ∧ Var wx 64 g8 ux uy ∧ Var wx 64 g9 dx dy ∧ Var wx 64 g10 vx vy ∧ Var wx 64 g11 fx fy ∧ w1.heap.size ≤ g8 ∧ w1.heap.size ≤ g9 ∧ w1.heap.size ≤ g10 ∧ w1.heap.size ≤ g11 ∧ Kp w1 wx)
  case first =>
    refine wp_region_held_drew (S := fun wx => Kp w1 wx) (by kernel_rfl) ((unhide HS).drew (unhide A0)) (fun S0 => ?_)
    refine takeD (i := 0) (d := some 14) (v := _) rfl rfl (by kernel_rfl) (by kernel_rfl) (by kernel_rfl) (fun _ _ _ h => h) (Or.inl ⟨by rfl, fun wz hz => by (go_simp; try with_reducible rfl)⟩) S0 ?_
    try simp only [Act.put, List.setIfInBounds_toArray, List.set_cons_zero, List.set_cons_succ]
    refine takeD (i := 1) (d := some 15) (v := _) rfl rfl (by kernel_rfl) (by kernel_rfl) (by kernel_rfl) (fun _ _ _ h => h) (Or.inl ⟨by rfl, fun wz hz => by (go_simp; try with_reducible rfl)⟩) S0 ?_
    try simp only [Act.put, List.setIfInBounds_toArray, List.set_cons_zero, List.set_cons_succ]
    refine takeD (i := 3) (d := some 17) (v := _) rfl rfl (by kernel_rfl) (by kernel_rfl) (by kernel_rfl) (fun _ _ _ h => h) (Or.inl ⟨by rfl, fun wz hz => by (go_simp; try with_reducible rfl)⟩) S0 ?_
    try simp only [Act.put, List.setIfInBounds_toArray, List.set_cons_zero, List.set_cons_succ]
    refine takeD (i := 4) (d := some 18) (v := _) rfl rfl (by kernel_rfl) (by kernel_rfl) (by kernel_rfl) (fun _ _ _ h => h) (Or.inl ⟨by rfl, fun wz hz => by (go_simp; try with_reducible rfl)⟩) S0 ?_
    try simp only [Act.put, List.setIfInBounds_toArray, List.set_cons_zero, List.set_cons_succ]
    refine takeD (i := 5) (d := some 19) (v := _) rfl rfl (by kernel_rfl) (by kernel_rfl) (by kernel_rfl) (fun _ _ _ h => h) (Or.inl ⟨by rfl, fun wz hz => by (go_simp; try with_reducible rfl)⟩) S0 ?_
    try simp only [Act.put, List.setIfInBounds_toArray, List.set_cons_zero, List.set_cons_succ]
    refine takeD (i := 6) (d := some 20) (v := _) rfl rfl (by kernel_rfl) (by kernel_rfl) (by kernel_rfl) (fun _ _ _ h => h) (Or.inl ⟨by rfl, fun wz hz => by (go_simp; try with_reducible rfl)⟩) S0 ?_
    try simp only [Act.put, List.setIfInBounds_toArray, List.set_cons_zero, List.set_cons_succ]
    refine takeD (i := 8) (d := some 22) (v := _) rfl rfl (by kernel_rfl) (by kernel_rfl) (by kernel_rfl) (fun _ _ _ h => h) (Or.inl ⟨by rfl, fun wz hz => by (go_simp; try with_reducible rfl)⟩) S0 ?_
    try simp only [Act.put, List.setIfInBounds_toArray, List.set_cons_zero, List.set_cons_succ]
    refine takeD (i := 9) (d := some 23) (v := _) rfl rfl (by kernel_rfl) (by kernel_rfl) (by kernel_rfl) (fun _ _ _ h => h) (Or.inl ⟨by rfl, fun wz hz => by (go_simp; try with_reducible rfl)⟩) S0 ?_
    try simp only [Act.put, List.setIfInBounds_toArray, List.set_cons_zero, List.set_cons_succ]
    refine takeD (i := 11) (d := some 25) (v := _) rfl rfl (by kernel_rfl) (by kernel_rfl) (by kernel_rfl) (fun _ _ _ h => h) (Or.inl ⟨by rfl, fun wz hz => by (go_simp; try with_reducible rfl)⟩) S0 ?_
    try simp only [Act.put, List.setIfInBounds_toArray, List.set_cons_zero, List.set_cons_succ]
    refine takeD (i := 12) (d := some 26) (v := _) rfl rfl (by kernel_rfl) (by kernel_rfl) (by kernel_rfl) (fun _ _ _ h => h) (Or.inl ⟨by rfl, fun wz hz => by (go_simp; try with_reducible rfl)⟩) S0 ?_
    try simp only [Act.put, List.setIfInBounds_toArray, List.set_cons_zero, List.set_cons_succ]
    refine takeD (i := 13) (d := some 27) (v := _) rfl rfl (by kernel_rfl) (by kernel_rfl) (by kernel_rfl) (fun _ _ _ h => h) (Or.inl ⟨by rfl, fun wz hz => by (go_simp; try with_reducible rfl)⟩) S0 ?_
    try simp only [Act.put, List.setIfInBounds_toArray, List.set_cons_zero, List.set_cons_succ]
    refine takeD (i := 14) (d := some 28) (v := _) rfl rfl (by kernel_rfl) (by kernel_rfl) (by kernel_rfl) (fun _ _ _ h => h) (Or.inl ⟨by rfl, fun wz hz => by (go_simp; try with_reducible rfl)⟩) S0 ?_
    try simp only [Act.put, List.setIfInBounds_toArray, List.set_cons_zero, List.set_cons_succ]
    refine wpAnyH_inv (BFS w w1 na nb ux uy dx dy vx vy fx fy tx ty gt qa ql qc aa al ac ma ml mc ca cl cc qs clock epoch next serial apps ms cs) ?step ?fin 12 _ _ _ (.inl (.inl (.inl (.inl (.inl (.inl (⟨rfl, by kernel_rfl, rfl, S0⟩)))))))
    case fin =>
      intro lz az wz hI
      rcases hI with ((((((h | h) | (h | (h | h))) | ((h | h) | (h | (h | h)))) | (((h | h) | (h | (h | h))) | ((h | (h | h)) | (h | (h | h))))) | ((((h | h) | (h | (h | h))) | ((h | h) | (h | (h | h)))) | (((h | h) | (h | (h | h))) | ((h | (h | h)) | (h | (h | h)))))) | (((((h | h) | (h | (h | h))) | ((h | h) | (h | (h | h)))) | (((h | h) | (h | (h | h))) | ((h | (h | h)) | (h | (h | h))))) | ((((h | h) | (h | (h | h))) | ((h | h) | (h | (h | h)))) | (((h | h) | (h | (h | h))) | ((h | (h | h)) | (h | (h | h)))))))
      · obtain ⟨hn, _⟩ := h
        cases hn
      · obtain ⟨_, hn, _⟩ := h
        cases hn
      · obtain ⟨_, hn, _⟩ := h
        cases hn
      · obtain ⟨_, _, hn, _⟩ := h
        cases hn
      · obtain ⟨_, hn, _⟩ := h
        cases hn
      · obtain ⟨_, _, hn, _⟩ := h
        cases hn
      · obtain ⟨_, _, hn, _⟩ := h
        cases hn
      · obtain ⟨_, _, _, hn, _⟩ := h
        cases hn
      · obtain ⟨_, hn, _⟩ := h
        cases hn
      · obtain ⟨_, _, hn, _⟩ := h
        cases hn
      · obtain ⟨_, _, hn, _⟩ := h
        cases hn
      · obtain ⟨_, _, _, hn, _⟩ := h
        cases hn
      · obtain ⟨_, _, hn, _⟩ := h
        cases hn
      · obtain ⟨_, _, _, hn, _⟩ := h
        cases hn
      · obtain ⟨_, _, _, hn, _⟩ := h
        cases hn
      · obtain ⟨_, _, _, _, hn, _⟩ := h
        cases hn
      · obtain ⟨hn, _⟩ := h
        cases hn
      · obtain ⟨_, hn, _⟩ := h
        cases hn
      · obtain ⟨_, hn, _⟩ := h
        cases hn
      · obtain ⟨_, _, hn, _⟩ := h
        cases hn
      · obtain ⟨_, hn, _⟩ := h
        cases hn
      · obtain ⟨_, _, hn, _⟩ := h
        cases hn
      · obtain ⟨_, _, hn, _⟩ := h
        cases hn
      · obtain ⟨_, _, _, hn, _⟩ := h
        cases hn
      · obtain ⟨_, hn, _⟩ := h
        cases hn
      · obtain ⟨_, _, hn, _⟩ := h
        cases hn
      · obtain ⟨_, _, hn, _⟩ := h
        cases hn
      · obtain ⟨_, _, _, hn, _⟩ := h
        cases hn
      · obtain ⟨_, _, hn, _⟩ := h
        cases hn
      · obtain ⟨_, _, _, hn, _⟩ := h
        cases hn
      · obtain ⟨_, _, _, hn, _⟩ := h
        cases hn
      · obtain ⟨_, _, _, _, hn, _⟩ := h
        cases hn
      · obtain ⟨hn, _⟩ := h
        cases hn
      · obtain ⟨_, hn, _⟩ := h
        cases hn
      · obtain ⟨_, hn, _⟩ := h
        cases hn
      · obtain ⟨_, _, hn, _⟩ := h
        cases hn
      · obtain ⟨_, hn, _⟩ := h
        cases hn
      · obtain ⟨_, _, hn, _⟩ := h
        cases hn
      · obtain ⟨_, _, hn, _⟩ := h
        cases hn
      · obtain ⟨_, _, _, hn, _⟩ := h
        cases hn
      · obtain ⟨_, hn, _⟩ := h
        cases hn
      · obtain ⟨_, _, hn, _⟩ := h
        cases hn
      · obtain ⟨_, _, hn, _⟩ := h
        cases hn
      · obtain ⟨_, _, _, hn, _⟩ := h
        cases hn
      · obtain ⟨_, _, hn, _⟩ := h
        cases hn
      · obtain ⟨_, _, _, hn, _⟩ := h
        cases hn
      · obtain ⟨_, _, _, hn, _⟩ := h
        cases hn
      · obtain ⟨_, _, _, _, hn, _⟩ := h
        cases hn
      · obtain ⟨hn, _⟩ := h
        cases hn
      · obtain ⟨_, hn, _⟩ := h
        cases hn
      · obtain ⟨_, hn, _⟩ := h
        cases hn
      · obtain ⟨_, _, hn, _⟩ := h
        cases hn
      · obtain ⟨_, hn, _⟩ := h
        cases hn
      · obtain ⟨_, _, hn, _⟩ := h
        cases hn
      · obtain ⟨_, _, hn, _⟩ := h
        cases hn
      · obtain ⟨_, _, _, hn, _⟩ := h
        cases hn
      · obtain ⟨_, hn, _⟩ := h
        cases hn
      · obtain ⟨_, _, hn, _⟩ := h
        cases hn
      · obtain ⟨_, _, hn, _⟩ := h
        cases hn
      · obtain ⟨_, _, _, hn, _⟩ := h
        cases hn
      · obtain ⟨_, _, hn, _⟩ := h
        cases hn
      · obtain ⟨_, _, _, hn, _⟩ := h
        cases hn
      · obtain ⟨_, _, _, hn, _⟩ := h
        cases hn
      · obtain ⟨_, _, _, _, hn, _⟩ := h
        cases hn
      · obtain ⟨hn, _⟩ := h
        cases hn
      · obtain ⟨_, hn, _⟩ := h
        cases hn
      · obtain ⟨_, hn, _⟩ := h
        cases hn
      · obtain ⟨_, _, hn, _⟩ := h
        cases hn
      · obtain ⟨_, hn, _⟩ := h
        cases hn
      · obtain ⟨_, _, hn, _⟩ := h
        cases hn
      · obtain ⟨_, _, hn, _⟩ := h
        cases hn
      · obtain ⟨_, _, _, hn, _⟩ := h
        cases hn
      · obtain ⟨_, hn, _⟩ := h
        cases hn
      · obtain ⟨_, _, hn, _⟩ := h
        cases hn
      · obtain ⟨_, _, hn, _⟩ := h
        cases hn
      · obtain ⟨_, _, _, hn, _⟩ := h
        cases hn
      · obtain ⟨_, _, hn, _⟩ := h
        cases hn
      · obtain ⟨_, _, _, hn, _⟩ := h
        cases hn
      · obtain ⟨_, _, _, hn, _⟩ := h
        cases hn
      · obtain ⟨_, _, _, _, hn, _⟩ := h
        cases hn
      · obtain ⟨_, _, _, _, hn, _⟩ := h
        cases hn
      · obtain ⟨_, _, _, _, hn, _⟩ := h
        cases hn
      · obtain ⟨_, _, _, _, hn, _⟩ := h
        cases hn
      · obtain ⟨g8, g9, g10, g11, -, rfl, rfl, vg8, vg9, vg10, vg11, _, _, _, _, _, _, kp⟩ := h
        refine ⟨by kernel_rfl, ?_⟩
        go_wp2_with fail
        go_meet
        exact ⟨g8, g9, g10, g11, rfl, rfl, rfl, rfl, vg8.2, vg9.2, vg10.2, vg11.2, vg8.1, vg9.1, vg10.1, vg11.1, kp⟩
    case step =>
      intro n lz az wz hI
      rcases hI with ((((((h | h) | (h | (h | h))) | ((h | h) | (h | (h | h)))) | (((h | h) | (h | (h | h))) | ((h | (h | h)) | (h | (h | h))))) | ((((h | h) | (h | (h | h))) | ((h | h) | (h | (h | h)))) | (((h | h) | (h | (h | h))) | ((h | (h | h)) | (h | (h | h)))))) | (((((h | h) | (h | (h | h))) | ((h | h) | (h | (h | h)))) | (((h | h) | (h | (h | h))) | ((h | (h | h)) | (h | (h | h))))) | ((((h | h) | (h | (h | h))) | ((h | h) | (h | (h | h)))) | (((h | h) | (h | (h | h))) | ((h | (h | h)) | (h | (h | h)))))))
      · obtain ⟨hn, rfl, rfl, kp⟩ := h
        obtain rfl : n = 11 := by omega
        refine ready_step (rs := [2, 16, 17, 18, 19]) (by kernel_rfl) (by simp) ?_
        refine AllReadyI.cons rfl (fun K hK => ?_) ?_
        · go_simp
          refine (unhide CU1 _ (below_on (unhide HB1) kp)).mono ?_
          rintro e w2 ⟨rfl, hb⟩
          go_wp2_with fail
          exact hK.out _ _ (below_on kp hb) (.inl (.inl (.inr (.inr (.inl (.inr (.inl (⟨rfl, rfl, rfl, below_on kp hb⟩))))))))
        refine AllReadyI.cons rfl (fun K hK => ?_) ?_
        · go_simp
          go_wp2_with fail
          exact hK.out _ _ (below_al kp _) (.inl (.inl (.inl (.inr (.inr (.inr (.inl (⟨wz.heap.size, rfl, rfl, rfl, vb_new kp, below_al kp _⟩))))))))
        refine AllReadyI.cons rfl (fun K hK => ?_) ?_
        · go_simp
          go_wp2_with fail
          exact hK.out _ _ (below_al kp _) (.inl (.inl (.inl (.inl (.inr (.inr (.inr (⟨wz.heap.size, rfl, rfl, rfl, vb_new kp, below_al kp _⟩))))))))
        refine AllReadyI.cons rfl (fun K hK => ?_) ?_
        · go_simp
          go_wp2_with fail
          exact hK.out _ _ (below_al kp _) (.inl (.inl (.inl (.inl (.inr (.inl (⟨wz.heap.size, rfl, rfl, rfl, vb_new kp, below_al kp _⟩)))))))
        refine AllReadyI.cons rfl (fun K hK => ?_) ?_
        · go_simp
          go_wp2_with fail
          exact hK.out _ _ (below_al kp _) (.inl (.inl (.inl (.inl (.inl (.inr (⟨wz.heap.size, rfl, rfl, rfl, vb_new kp, below_al kp _⟩)))))))
        exact AllReadyI.nil
      · obtain ⟨g11, hn, rfl, rfl, vg11, kp⟩ := h
        obtain rfl : n = 10 := by omega
        refine ready_step (rs := [2, 16, 17, 18]) (by kernel_rfl) (by simp) ?_
        refine AllReadyI.cons rfl (fun K hK => ?_) ?_
        · go_simp
          refine (unhide CU1 _ (below_on (unhide HB1) kp)).mono ?_
          rintro e w2 ⟨rfl, hb⟩
          go_wp2_with fail
          exact hK.out _ _ (below_on kp hb) (.inl (.inl (.inr (.inr (.inl (.inr (.inr (⟨g11, rfl, rfl, rfl, vg11.below hb, below_on kp hb⟩))))))))
        refine AllReadyI.cons rfl (fun K hK => ?_) ?_
        · go_simp
          go_wp2_with fail
          exact hK.out _ _ (below_al kp _) (.inl (.inl (.inl (.inr (.inr (.inr (.inr (⟨wz.heap.size, g11, rfl, rfl, rfl, vb_new kp, vg11.al _, vg11.ne.symm, below_al kp _⟩))))))))
        refine AllReadyI.cons rfl (fun K hK => ?_) ?_
        · go_simp
          go_wp2_with fail
          exact hK.out _ _ (below_al kp _) (.inl (.inl (.inl (.inr (.inl (.inl (⟨wz.heap.size, g11, rfl, rfl, rfl, vb_new kp, vg11.al _, vg11.ne.symm, below_al kp _⟩)))))))
        refine AllReadyI.cons rfl (fun K hK => ?_) ?_
        · go_simp
          go_wp2_with fail
          exact hK.out _ _ (below_al kp _) (.inl (.inl (.inl (.inl (.inr (.inr (.inl (⟨wz.heap.size, g11, rfl, rfl, rfl, vb_new kp, vg11.al _, vg11.ne.symm, below_al kp _⟩))))))))
        exact AllReadyI.nil
      · obtain ⟨g10, hn, rfl, rfl, vg10, kp⟩ := h
        obtain rfl : n = 10 := by omega
        refine ready_step (rs := [2, 16, 17, 19]) (by kernel_rfl) (by simp) ?_
        refine AllReadyI.cons rfl (fun K hK => ?_) ?_
        · go_simp
          refine (unhide CU1 _ (below_on (unhide HB1) kp)).mono ?_
          rintro e w2 ⟨rfl, hb⟩
          go_wp2_with fail
          exact hK.out _ _ (below_on kp hb) (.inl (.inl (.inr (.inr (.inr (.inl (⟨g10, rfl, rfl, rfl, vg10.below hb, below_on kp hb⟩)))))))
        refine AllReadyI.cons rfl (fun K hK => ?_) ?_
        · go_simp
          go_wp2_with fail
          exact hK.out _ _ (below_al kp _) (.inl (.inl (.inr (.inl (.inl (.inl (⟨wz.heap.size, g10, rfl, rfl, rfl, vb_new kp, vg10.al _, vg10.ne.symm, below_al kp _⟩)))))))
        refine AllReadyI.cons rfl (fun K hK => ?_) ?_
        · go_simp
          go_wp2_with fail
          exact hK.out _ _ (below_al kp _) (.inl (.inl (.inl (.inr (.inl (.inr (⟨wz.heap.size, g10, rfl, rfl, rfl, vb_new kp, vg10.al _, vg10.ne.symm, below_al kp _⟩)))))))
        refine AllReadyI.cons rfl (fun K hK => ?_) ?_
        · go_simp
          go_wp2_with fail
          exact hK.out _ _ (below_al kp _) (.inl (.inl (.inl (.inl (.inr (.inr (.inl (⟨g10, wz.heap.size, rfl, rfl, rfl, vg10.al _, vb_new kp, vg10.ne, below_al kp _⟩))))))))
        exact AllReadyI.nil
      · obtain ⟨g10, g11, hn, rfl, rfl, vg10, vg11, eg10g11, kp⟩ := h
        obtain rfl : n = 9 := by omega
        refine ready_step (rs := [2, 16, 17]) (by kernel_rfl) (by simp) ?_
        refine AllReadyI.cons rfl (fun K hK => ?_) ?_
        · go_simp
          refine (unhide CU1 _ (below_on (unhide HB1) kp)).mono ?_
          rintro e w2 ⟨rfl, hb⟩
          go_wp2_with fail
          exact hK.out _ _ (below_on kp hb) (.inl (.inl (.inr (.inr (.inr (.inr (.inl (⟨g10, g11, rfl, rfl, rfl, vg10.below hb, vg11.below hb, eg10g11, below_on kp hb⟩))))))))
        refine AllReadyI.cons rfl (fun K hK => ?_) ?_
        · go_simp
          go_wp2_with fail
          exact hK.out _ _ (below_al kp _) (.inl (.inl (.inr (.inl (.inl (.inr (⟨wz.heap.size, g10, g11, rfl, rfl, rfl, vb_new kp, vg10.al _, vg11.al _, vg10.ne.symm, vg11.ne.symm, eg10g11, below_al kp _⟩)))))))
        refine AllReadyI.cons rfl (fun K hK => ?_) ?_
        · go_simp
          go_wp2_with fail
          exact hK.out _ _ (below_al kp _) (.inl (.inl (.inl (.inr (.inr (.inl (⟨wz.heap.size, g10, g11, rfl, rfl, rfl, vb_new kp, vg10.al _, vg11.al _, vg10.ne.symm, vg11.ne.symm, eg10g11, below_al kp _⟩)))))))
        exact AllReadyI.nil
      · obtain ⟨g9, hn, rfl, rfl, vg9, kp⟩ := h
        obtain rfl : n = 10 := by omega
        refine ready_step (rs := [2, 16, 18, 19]) (by kernel_rfl) (by simp) ?_
        refine AllReadyI.cons rfl (fun K hK => ?_) ?_
        · go_simp
          refine (unhide CU1 _ (below_on (unhide HB1) kp)).mono ?_
          rintro e w2 ⟨rfl, hb⟩
          go_wp2_with fail
          exact hK.out _ _ (below_on kp hb) (.inl (.inl (.inr (.inr (.inr (.inr (.inr (⟨g9, rfl, rfl, rfl, vg9.below hb, below_on kp hb⟩))))))))
        refine AllReadyI.cons rfl (fun K hK => ?_) ?_
        · go_simp
          go_wp2_with fail
          exact hK.out _ _ (below_al kp _) (.inl (.inl (.inr (.inl (.inr (.inl (⟨wz.heap.size, g9, rfl, rfl, rfl, vb_new kp, vg9.al _, vg9.ne.symm, below_al kp _⟩)))))))
        refine AllReadyI.cons rfl (fun K hK => ?_) ?_
        · go_simp
          go_wp2_with fail
          exact hK.out _ _ (below_al kp _) (.inl (.inl (.inl (.inr (.inl (.inr (⟨g9, wz.heap.size, rfl, rfl, rfl, vg9.al _, vb_new kp, vg9.ne, below_al kp _⟩)))))))
        refine AllReadyI.cons rfl (fun K hK => ?_) ?_
        · go_simp
          go_wp2_with fail
          exact hK.out _ _ (below_al kp _) (.inl (.inl (.inl (.inr (.inl (.inl (⟨g9, wz.heap.size, rfl, rfl, rfl, vg9.al _, vb_new kp, vg9.ne, below_al kp _⟩)))))))
        exact AllReadyI.nil
      · obtain ⟨g9, g11, hn, rfl, rfl, vg9, vg11, eg9g11, kp⟩ := h
        obtain rfl : n = 9 := by omega
        refine ready_step (rs := [2, 16, 18]) (by kernel_rfl) (by simp) ?_
        refine AllReadyI.cons rfl (fun K hK => ?_) ?_
        · go_simp
          refine (unhide CU1 _ (below_on (unhide HB1) kp)).mono ?_
          rintro e w2 ⟨rfl, hb⟩
          go_wp2_with fail
          exact hK.out _ _ (below_on kp hb) (.inl (.inr (.inl (.inl (.inl (.inl (⟨g9, g11, rfl, rfl, rfl, vg9.below hb, vg11.below hb, eg9g11, below_on kp hb⟩)))))))
        refine AllReadyI.cons rfl (fun K hK => ?_) ?_
        · go_simp
          go_wp2_with fail
          exact hK.out _ _ (below_al kp _) (.inl (.inl (.inr (.inl (.inr (.inr (.inl (⟨wz.heap.size, g9, g11, rfl, rfl, rfl, vb_new kp, vg9.al _, vg11.al _, vg9.ne.symm, vg11.ne.symm, eg9g11, below_al kp _⟩))))))))
        refine AllReadyI.cons rfl (fun K hK => ?_) ?_
        · go_simp
          go_wp2_with fail
          exact hK.out _ _ (below_al kp _) (.inl (.inl (.inl (.inr (.inr (.inl (⟨g9, wz.heap.size, g11, rfl, rfl, rfl, vg9.al _, vb_new kp, vg11.al _, vg9.ne, eg9g11, vg11.ne.symm, below_al kp _⟩)))))))
        exact AllReadyI.nil
      · obtain ⟨g9, g10, hn, rfl, rfl, vg9, vg10, eg9g10, kp⟩ := h
        obtain rfl : n = 9 := by omega
        refine ready_step (rs := [2, 16, 19]) (by kernel_rfl) (by simp) ?_
        refine AllReadyI.cons rfl (fun K hK => ?_) ?_
        · go_simp
          refine (unhide CU1 _ (below_on (unhide HB1) kp)).mono ?_
          rintro e w2 ⟨rfl, hb⟩
          go_wp2_with fail
          exact hK.out _ _ (below_on kp hb) (.inl (.inr (.inl (.inl (.inl (.inr (⟨g9, g10, rfl, rfl, rfl, vg9.below hb, vg10.below hb, eg9g10, below_on kp hb⟩)))))))
        refine AllReadyI.cons rfl (fun K hK => ?_) ?_
        · go_simp
          go_wp2_with fail
          exact hK.out _ _ (below_al kp _) (.inl (.inl (.inr (.inl (.inr (.inr (.inr (⟨wz.heap.size, g9, g10, rfl, rfl, rfl, vb_new kp, vg9.al _, vg10.al _, vg9.ne.symm, vg10.ne.symm, eg9g10, below_al kp _⟩))))))))
        refine AllReadyI.cons rfl (fun K hK => ?_) ?_
        · go_simp
          go_wp2_with fail
          exact hK.out _ _ (below_al kp _) (.inl (.inl (.inl (.inr (.inr (.inl (⟨g9, g10, wz.heap.size, rfl, rfl, rfl, vg9.al _, vg10.al _, vb_new kp, eg9g10, vg9.ne, vg10.ne, below_al kp _⟩)))))))
        exact AllReadyI.nil
      · obtain ⟨g9, g10, g11, hn, rfl, rfl, vg9, vg10, vg11, eg9g10, eg9g11, eg10g11, kp⟩ := h
        obtain rfl : n = 8 := by omega
        refine ready_step (rs := [2, 16]) (by kernel_rfl) (by simp) ?_
        refine AllReadyI.cons rfl (fun K hK => ?_) ?_
        · go_simp
          refine (unhide CU1 _ (below_on (unhide HB1) kp)).mono ?_
          rintro e w2 ⟨rfl, hb⟩
          go_wp2_with fail
          exact hK.out _ _ (below_on kp hb) (.inl (.inr (.inl (.inl (.inr (.inl (⟨g9, g10, g11, rfl, rfl, rfl, vg9.below hb, vg10.below hb, vg11.below hb, eg9g10, eg9g11, eg10g11, below_on kp hb⟩)))))))
        refine AllReadyI.cons rfl (fun K hK => ?_) ?_
        · go_simp
          go_wp2_with fail
          exact hK.out _ _ (below_al kp _) (.inl (.inl (.inr (.inr (.inl (.inl (⟨wz.heap.size, g9, g10, g11, rfl, rfl, rfl, vb_new kp, vg9.al _, vg10.al _, vg11.al _, vg9.ne.symm, vg10.ne.symm, vg11.ne.symm, eg9g10, eg9g11, eg10g11, below_al kp _⟩)))))))
        exact AllReadyI.nil
      · obtain ⟨g8, hn, rfl, rfl, vg8, kp⟩ := h
        obtain rfl : n = 10 := by omega
        refine ready_step (rs := [2, 17, 18, 19]) (by kernel_rfl) (by simp) ?_
        refine AllReadyI.cons rfl (fun K hK => ?_) ?_
        · go_simp
          refine (unhide CU1 _ (below_on (unhide HB1) kp)).mono ?_
          rintro e w2 ⟨rfl, hb⟩
          go_wp2_with fail
          exact hK.out _ _ (below_on kp hb) (.inl (.inr (.inl (.inl (.inr (.inr (.inl (⟨g8, rfl, rfl, rfl, vg8.below hb, below_on kp hb⟩))))))))
        refine AllReadyI.cons rfl (fun K hK => ?_) ?_
        · go_simp
          go_wp2_with fail
          exact hK.out _ _ (below_al kp _) (.inl (.inl (.inr (.inl (.inr (.inl (⟨g8, wz.heap.size, rfl, rfl, rfl, vg8.al _, vb_new kp, vg8.ne, below_al kp _⟩)))))))
        refine AllReadyI.cons rfl (fun K hK => ?_) ?_
        · go_simp
          go_wp2_with fail
          exact hK.out _ _ (below_al kp _) (.inl (.inl (.inr (.inl (.inl (.inl (⟨g8, wz.heap.size, rfl, rfl, rfl, vg8.al _, vb_new kp, vg8.ne, below_al kp _⟩)))))))
        refine AllReadyI.cons rfl (fun K hK => ?_) ?_
        · go_simp
          go_wp2_with fail
          exact hK.out _ _ (below_al kp _) (.inl (.inl (.inl (.inr (.inr (.inr (.inr (⟨g8, wz.heap.size, rfl, rfl, rfl, vg8.al _, vb_new kp, vg8.ne, below_al kp _⟩))))))))
        exact AllReadyI.nil
      · obtain ⟨g8, g11, hn, rfl, rfl, vg8, vg11, eg8g11, kp⟩ := h
        obtain rfl : n = 9 := by omega
        refine ready_step (rs := [2, 17, 18]) (by kernel_rfl) (by simp) ?_
        refine AllReadyI.cons rfl (fun K hK => ?_) ?_
        · go_simp
          refine (unhide CU1 _ (below_on (unhide HB1) kp)).mono ?_
          rintro e w2 ⟨rfl, hb⟩
          go_wp2_with fail
          exact hK.out _ _ (below_on kp hb) (.inl (.inr (.inl (.inl (.inr (.inr (.inr (⟨g8, g11, rfl, rfl, rfl, vg8.below hb, vg11.below hb, eg8g11, below_on kp hb⟩))))))))
        refine AllReadyI.cons rfl (fun K hK => ?_) ?_
        · go_simp
          go_wp2_with fail
          exact hK.out _ _ (below_al kp _) (.inl (.inl (.inr (.inl (.inr (.inr (.inl (⟨g8, wz.heap.size, g11, rfl, rfl, rfl, vg8.al _, vb_new kp, vg11.al _, vg8.ne, eg8g11, vg11.ne.symm, below_al kp _⟩))))))))
        refine AllReadyI.cons rfl (fun K hK => ?_) ?_
        · go_simp
          go_wp2_with fail
          exact hK.out _ _ (below_al kp _) (.inl (.inl (.inr (.inl (.inl (.inr (⟨g8, wz.heap.size, g11, rfl, rfl, rfl, vg8.al _, vb_new kp, vg11.al _, vg8.ne, eg8g11, vg11.ne.symm, below_al kp _⟩)))))))
        exact AllReadyI.nil
      · obtain ⟨g8, g10, hn, rfl, rfl, vg8, vg10, eg8g10, kp⟩ := h
        obtain rfl : n = 9 := by omega
        refine ready_step (rs := [2, 17, 19]) (by kernel_rfl) (by simp) ?_
        refine AllReadyI.cons rfl (fun K hK => ?_) ?_
        · go_simp
          refine (unhide CU1 _ (below_on (unhide HB1) kp)).mono ?_
          rintro e w2 ⟨rfl, hb⟩
          go_wp2_with fail
          exact hK.out _ _ (below_on kp hb) (.inl (.inr (.inl (.inr (.inl (.inl (⟨g8, g10, rfl, rfl, rfl, vg8.below hb, vg10.below hb, eg8g10, below_on kp hb⟩)))))))
        refine AllReadyI.cons rfl (fun K hK => ?_) ?_
        · go_simp
          go_wp2_with fail
          exact hK.out _ _ (below_al kp _) (.inl (.inl (.inr (.inl (.inr (.inr (.inr (⟨g8, wz.heap.size, g10, rfl, rfl, rfl, vg8.al _, vb_new kp, vg10.al _, vg8.ne, eg8g10, vg10.ne.symm, below_al kp _⟩))))))))
        refine AllReadyI.cons rfl (fun K hK => ?_) ?_
        · go_simp
          go_wp2_with fail
          exact hK.out _ _ (below_al kp _) (.inl (.inl (.inr (.inl (.inl (.inr (⟨g8, g10, wz.heap.size, rfl, rfl, rfl, vg8.al _, vg10.al _, vb_new kp, eg8g10, vg8.ne, vg10.ne, below_al kp _⟩)))))))
        exact AllReadyI.nil
      · obtain ⟨g8, g10, g11, hn, rfl, rfl, vg8, vg10, vg11, eg8g10, eg8g11, eg10g11, kp⟩ := h
        obtain rfl : n = 8 := by omega
        refine ready_step (rs := [2, 17]) (by kernel_rfl) (by simp) ?_
        refine AllReadyI.cons rfl (fun K hK => ?_) ?_
        · go_simp
          refine (unhide CU1 _ (below_on (unhide HB1) kp)).mono ?_
          rintro e w2 ⟨rfl, hb⟩
          go_wp2_with fail
          exact hK.out _ _ (below_on kp hb) (.inl (.inr (.inl (.inr (.inl (.inr (⟨g8, g10, g11, rfl, rfl, rfl, vg8.below hb, vg10.below hb, vg11.below hb, eg8g10, eg8g11, eg10g11, below_on kp hb⟩)))))))
        refine AllReadyI.cons rfl (fun K hK => ?_) ?_
        · go_simp
          go_wp2_with fail
          exact hK.out _ _ (below_al kp _) (.inl (.inl (.inr (.inr (.inl (.inl (⟨g8, wz.heap.size, g10, g11, rfl, rfl, rfl, vg8.al _, vb_new kp, vg10.al _, vg11.al _, vg8.ne, eg8g10, eg8g11, vg10.ne.symm, vg11.ne.symm, eg10g11, below_al kp _⟩)))))))
        exact AllReadyI.nil
      · obtain ⟨g8, g9, hn, rfl, rfl, vg8, vg9, eg8g9, kp⟩ := h
        obtain rfl : n = 9 := by omega
        refine ready_step (rs := [2, 18, 19]) (by kernel_rfl) (by simp) ?_
        refine AllReadyI.cons rfl (fun K hK => ?_) ?_
        · go_simp
          refine (unhide CU1 _ (below_on (unhide HB1) kp)).mono ?_
          rintro e w2 ⟨rfl, hb⟩
          go_wp2_with fail
          exact hK.out _ _ (below_on kp hb) (.inl (.inr (.inl (.inr (.inr (.inl (⟨g8, g9, rfl, rfl, rfl, vg8.below hb, vg9.below hb, eg8g9, below_on kp hb⟩)))))))
        refine AllReadyI.cons rfl (fun K hK => ?_) ?_
        · go_simp
          go_wp2_with fail
          exact hK.out _ _ (below_al kp _) (.inl (.inl (.inr (.inl (.inr (.inr (.inr (⟨g8, g9, wz.heap.size, rfl, rfl, rfl, vg8.al _, vg9.al _, vb_new kp, eg8g9, vg8.ne, vg9.ne, below_al kp _⟩))))))))
        refine AllReadyI.cons rfl (fun K hK => ?_) ?_
        · go_simp
          go_wp2_with fail
          exact hK.out _ _ (below_al kp _) (.inl (.inl (.inr (.inl (.inr (.inr (.inl (⟨g8, g9, wz.heap.size, rfl, rfl, rfl, vg8.al _, vg9.al _, vb_new kp, eg8g9, vg8.ne, vg9.ne, below_al kp _⟩))))))))
        exact AllReadyI.nil
      · obtain ⟨g8, g9, g11, hn, rfl, rfl, vg8, vg9, vg11, eg8g9, eg8g11, eg9g11, kp⟩ := h
        obtain rfl : n = 8 := by omega
        refine ready_step (rs := [2, 18]) (by kernel_rfl) (by simp) ?_
        refine AllReadyI.cons rfl (fun K hK => ?_) ?_
        · go_simp
          refine (unhide CU1 _ (below_on (unhide HB1) kp)).mono ?_
          rintro e w2 ⟨rfl, hb⟩
          go_wp2_with fail
          exact hK.out _ _ (below_on kp hb) (.inl (.inr (.inl (.inr (.inr (.inr (.inl (⟨g8, g9, g11, rfl, rfl, rfl, vg8.below hb, vg9.below hb, vg11.below hb, eg8g9, eg8g11, eg9g11, below_on kp hb⟩))))))))
        refine AllReadyI.cons rfl (fun K hK => ?_) ?_
        · go_simp
          go_wp2_with fail
          exact hK.out _ _ (below_al kp _) (.inl (.inl (.inr (.inr (.inl (.inl (⟨g8, g9, wz.heap.size, g11, rfl, rfl, rfl, vg8.al _, vg9.al _, vb_new kp, vg11.al _, eg8g9, vg8.ne, eg8g11, vg9.ne, eg9g11, vg11.ne.symm, below_al kp _⟩)))))))
        exact AllReadyI.nil
      · obtain ⟨g8, g9, g10, hn, rfl, rfl, vg8, vg9, vg10, eg8g9, eg8g10, eg9g10, kp⟩ := h
        obtain rfl : n = 8 := by omega
        refine ready_step (rs := [2, 19]) (by kernel_rfl) (by simp) ?_
        refine AllReadyI.cons rfl (fun K hK => ?_) ?_
        · go_simp
          refine (unhide CU1 _ (below_on (unhide HB1) kp)).mono ?_
          rintro e w2 ⟨rfl, hb⟩
          go_wp2_with fail
          exact hK.out _ _ (below_on kp hb) (.inl (.inr (.inl (.inr (.inr (.inr (.inr (⟨g8, g9, g10, rfl, rfl, rfl, vg8.below hb, vg9.below hb, vg10.below hb, eg8g9, eg8g10, eg9g10, below_on kp hb⟩))))))))
        refine AllReadyI.cons rfl (fun K hK => ?_) ?_
        · go_simp
          go_wp2_with fail
          exact hK.out _ _ (below_al kp _) (.inl (.inl (.inr (.inr (.inl (.inl (⟨g8, g9, g10, wz.heap.size, rfl, rfl, rfl, vg8.al _, vg9.al _, vg10.al _, vb_new kp, eg8g9, eg8g10, vg8.ne, eg9g10, vg9.ne, vg10.ne, below_al kp _⟩)))))))
        exact AllReadyI.nil
      · obtain ⟨g8, g9, g10, g11, hn, rfl, rfl, vg8, vg9, vg10, vg11, eg8g9, eg8g10, eg8g11, eg9g10, eg9g11, eg10g11, kp⟩ := h
        obtain rfl : n = 7 := by omega
        refine ready_step (rs := [2]) (by kernel_rfl) (by simp) ?_
        refine AllReadyI.cons rfl (fun K hK => ?_) ?_
        · go_simp
          refine (unhide CU1 _ (below_on (unhide HB1) kp)).mono ?_
          rintro e w2 ⟨rfl, hb⟩
          go_wp2_with fail
          exact hK.out _ _ (below_on kp hb) (.inl (.inr (.inr (.inl (.inl (.inl (⟨g8, g9, g10, g11, rfl, rfl, rfl, vg8.below hb, vg9.below hb, vg10.below hb, vg11.below hb, eg8g9, eg8g10, eg8g11, eg9g10, eg9g11, eg10g11, below_on kp hb⟩)))))))
        exact AllReadyI.nil
      · obtain ⟨hn, rfl, rfl, kp⟩ := h
        obtain rfl : n = 10 := by omega
        refine ready_step (rs := [7, 16, 17, 18, 19]) (by kernel_rfl) (by simp) ?_
        refine AllReadyI.cons rfl (fun K hK => ?_) ?_
        · go_simp
          refine (unhide CD1 _ (below_on (unhide HB1) kp)).mono ?_
          rintro e w2 ⟨rfl, hb⟩
          go_wp2_with fail
          exact hK.out _ _ (below_on kp hb) (.inl (.inr (.inr (.inl (.inl (.inr (⟨rfl, rfl, rfl, below_on kp hb⟩)))))))
        refine AllReadyI.cons rfl (fun K hK => ?_) ?_
        · go_simp
          go_wp2_with fail
          exact hK.out _ _ (below_al kp _) (.inl (.inr (.inl (.inl (.inr (.inr (.inl (⟨wz.heap.size, rfl, rfl, rfl, vb_new kp, below_al kp _⟩))))))))
        refine AllReadyI.cons rfl (fun K hK => ?_) ?_
        · go_simp
          go_wp2_with fail
          exact hK.out _ _ (below_al kp _) (.inl (.inl (.inr (.inr (.inr (.inr (.inr (⟨wz.heap.size, rfl, rfl, rfl, vb_new kp, below_al kp _⟩))))))))
        refine AllReadyI.cons rfl (fun K hK => ?_) ?_
        · go_simp
          go_wp2_with fail
          exact hK.out _ _ (below_al kp _) (.inl (.inl (.inr (.inr (.inr (.inl (⟨wz.heap.size, rfl, rfl, rfl, vb_new kp, below_al kp _⟩)))))))
        refine AllReadyI.cons rfl (fun K hK => ?_) ?_
        · go_simp
          go_wp2_with fail
          exact hK.out _ _ (below_al kp _) (.inl (.inl (.inr (.inr (.inl (.inr (.inr (⟨wz.heap.size, rfl, rfl, rfl, vb_new kp, below_al kp _⟩))))))))
        exact AllReadyI.nil
      · obtain ⟨g11, hn, rfl, rfl, vg11, kp⟩ := h
        obtain rfl : n = 9 := by omega
        refine ready_step (rs := [7, 16, 17, 18]) (by kernel_rfl) (by simp) ?_
        refine AllReadyI.cons rfl (fun K hK => ?_) ?_
        · go_simp
          refine (unhide CD1 _ (below_on (unhide HB1) kp)).mono ?_
          rintro e w2 ⟨rfl, hb⟩
          go_wp2_with fail
          exact hK.out _ _ (below_on kp hb) (.inl (.inr (.inr (.inl (.inr (.inl (⟨g11, rfl, rfl, rfl, vg11.below hb, below_on kp hb⟩)))))))
        refine AllReadyI.cons rfl (fun K hK => ?_) ?_
        · go_simp
          go_wp2_with fail
          exact hK.out _ _ (below_al kp _) (.inl (.inr (.inl (.inl (.inr (.inr (.inr (⟨wz.heap.size, g11, rfl, rfl, rfl, vb_new kp, vg11.al _, vg11.ne.symm, below_al kp _⟩))))))))
        refine AllReadyI.cons rfl (fun K hK => ?_) ?_
        · go_simp
          go_wp2_with fail
          exact hK.out _ _ (below_al kp _) (.inl (.inr (.inl (.inl (.inl (.inl (⟨wz.heap.size, g11, rfl, rfl, rfl, vb_new kp, vg11.al _, vg11.ne.symm, below_al kp _⟩)))))))
        refine AllReadyI.cons rfl (fun K hK => ?_) ?_
        · go_simp
          go_wp2_with fail
          exact hK.out _ _ (below_al kp _) (.inl (.inl (.inr (.inr (.inr (.inr (.inl (⟨wz.heap.size, g11, rfl, rfl, rfl, vb_new kp, vg11.al _, vg11.ne.symm, below_al kp _⟩))))))))
        exact AllReadyI.nil
      · obtain ⟨g10, hn, rfl, rfl, vg10, kp⟩ := h
        obtain rfl : n = 9 := by omega
        refine ready_step (rs := [7, 16, 17, 19]) (by kernel_rfl) (by simp) ?_
        refine AllReadyI.cons rfl (fun K hK => ?_) ?_
        · go_simp
          refine (unhide CD1 _ (below_on (unhide HB1) kp)).mono ?_
          rintro e w2 ⟨rfl, hb⟩
          go_wp2_with fail
          exact hK.out _ _ (below_on kp hb) (.inl (.inr (.inr (.inl (.inr (.inr (.inl (⟨g10, rfl, rfl, rfl, vg10.below hb, below_on kp hb⟩))))))))
        refine AllReadyI.cons rfl (fun K hK => ?_) ?_
        · go_simp
          go_wp2_with fail
          exact hK.out _ _ (below_al kp _) (.inl (.inr (.inl (.inr (.inl (.inl (⟨wz.heap.size, g10, rfl, rfl, rfl, vb_new kp, vg10.al _, vg10.ne.symm, below_al kp _⟩)))))))
        refine AllReadyI.cons rfl (fun K hK => ?_) ?_
        · go_simp
          go_wp2_with fail
          exact hK.out _ _ (below_al kp _) (.inl (.inr (.inl (.inl (.inl (.inr (⟨wz.heap.size, g10, rfl, rfl, rfl, vb_new kp, vg10.al _, vg10.ne.symm, below_al kp _⟩)))))))
        refine AllReadyI.cons rfl (fun K hK => ?_) ?_
        · go_simp
          go_wp2_with fail
          exact hK.out _ _ (below_al kp _) (.inl (.inl (.inr (.inr (.inr (.inr (.inl (⟨g10, wz.heap.size, rfl, rfl, rfl, vg10.al _, vb_new kp, vg10.ne, below_al kp _⟩))))))))
        exact AllReadyI.nil
      · obtain ⟨g10, g11, hn, rfl, rfl, vg10, vg11, eg10g11, kp⟩ := h
        obtain rfl : n = 8 := by omega
        refine ready_step (rs := [7, 16, 17]) (by kernel_rfl) (by simp) ?_
        refine AllReadyI.cons rfl (fun K hK => ?_) ?_
        · go_simp
          refine (unhide CD1 _ (below_on (unhide HB1) kp)).mono ?_
          rintro e w2 ⟨rfl, hb⟩
          go_wp2_with fail
          exact hK.out _ _ (below_on kp hb) (.inl (.inr (.inr (.inl (.inr (.inr (.inr (⟨g10, g11, rfl, rfl, rfl, vg10.below hb, vg11.below hb, eg10g11, below_on kp hb⟩))))))))
        refine AllReadyI.cons rfl (fun K hK => ?_) ?_
        · go_simp
          go_wp2_with fail
          exact hK.out _ _ (below_al kp _) (.inl (.inr (.inl (.inr (.inl (.inr (⟨wz.heap.size, g10, g11, rfl, rfl, rfl, vb_new kp, vg10.al _, vg11.al _, vg10.ne.symm, vg11.ne.symm, eg10g11, below_al kp _⟩)))))))
        refine AllReadyI.cons rfl (fun K hK => ?_) ?_
        · go_simp
          go_wp2_with fail
          exact hK.out _ _ (below_al kp _) (.inl (.inr (.inl (.inl (.inr (.inl (⟨wz.heap.size, g10, g11, rfl, rfl, rfl, vb_new kp, vg10.al _, vg11.al _, vg10.ne.symm, vg11.ne.symm, eg10g11, below_al kp _⟩)))))))
        exact AllReadyI.nil
      · obtain ⟨g9, hn, rfl, rfl, vg9, kp⟩ := h
        obtain rfl : n = 9 := by omega
        refine ready_step (rs := [7, 16, 18, 19]) (by kernel_rfl) (by simp) ?_
        refine AllReadyI.cons rfl (fun K hK => ?_) ?_
        · go_simp
          refine (unhide CD1 _ (below_on (unhide HB1) kp)).mono ?_
          rintro e w2 ⟨rfl, hb⟩
          go_wp2_with fail
          exact hK.out _ _ (below_on kp hb) (.inl (.inr (.inr (.inr (.inl (.inl (⟨g9, rfl, rfl, rfl, vg9.below hb, below_on kp hb⟩)))))))
        refine AllReadyI.cons rfl (fun K hK => ?_) ?_
        · go_simp
          go_wp2_with fail
          exact hK.out _ _ (below_al kp _) (.inl (.inr (.inl (.inr (.inr (.inl (⟨wz.heap.size, g9, rfl, rfl, rfl, vb_new kp, vg9.al _, vg9.ne.symm, below_al kp _⟩)))))))
        refine AllReadyI.cons rfl (fun K hK => ?_) ?_
        · go_simp
          go_wp2_with fail
          exact hK.out _ _ (below_al kp _) (.inl (.inr (.inl (.inl (.inl (.inr (⟨g9, wz.heap.size, rfl, rfl, rfl, vg9.al _, vb_new kp, vg9.ne, below_al kp _⟩)))))))
        refine AllReadyI.cons rfl (fun K hK => ?_) ?_
        · go_simp
          go_wp2_with fail
          exact hK.out _ _ (below_al kp _) (.inl (.inr (.inl (.inl (.inl (.inl (⟨g9, wz.heap.size, rfl, rfl, rfl, vg9.al _, vb_new kp, vg9.ne, below_al kp _⟩)))))))
        exact AllReadyI.nil
      · obtain ⟨g9, g11, hn, rfl, rfl, vg9, vg11, eg9g11, kp⟩ := h
        obtain rfl : n = 8 := by omega
        refine ready_step (rs := [7, 16, 18]) (by kernel_rfl) (by simp) ?_
        refine AllReadyI.cons rfl (fun K hK => ?_) ?_
        · go_simp
          refine (unhide CD1 _ (below_on (unhide HB1) kp)).mono ?_
          rintro e w2 ⟨rfl, hb⟩
          go_wp2_with fail
          exact hK.out _ _ (below_on kp hb) (.inl (.inr (.inr (.inr (.inl (.inr (.inl (⟨g9, g11, rfl, rfl, rfl, vg9.below hb, vg11.below hb, eg9g11, below_on kp hb⟩))))))))
        refine AllReadyI.cons rfl (fun K hK => ?_) ?_
        · go_simp
          go_wp2_with fail
          exact hK.out _ _ (below_al kp _) (.inl (.inr (.inl (.inr (.inr (.inr (.inl (⟨wz.heap.size, g9, g11, rfl, rfl, rfl, vb_new kp, vg9.al _, vg11.al _, vg9.ne.symm, vg11.ne.symm, eg9g11, below_al kp _⟩))))))))
        refine AllReadyI.cons rfl (fun K hK => ?_) ?_
        · go_simp
          go_wp2_with fail
          exact hK.out _ _ (below_al kp _) (.inl (.inr (.inl (.inl (.inr (.inl (⟨g9, wz.heap.size, g11, rfl, rfl, rfl, vg9.al _, vb_new kp, vg11.al _, vg9.ne, eg9g11, vg11.ne.symm, below_al kp _⟩)))))))
        exact AllReadyI.nil
      · obtain ⟨g9, g10, hn, rfl, rfl, vg9, vg10, eg9g10, kp⟩ := h
        obtain rfl : n = 8 := by omega
        refine ready_step (rs := [7, 16, 19]) (by kernel_rfl) (by simp) ?_
        refine AllReadyI.cons rfl (fun K hK => ?_) ?_
        · go_simp
          refine (unhide CD1 _ (below_on (unhide HB1) kp)).mono ?_
          rintro e w2 ⟨rfl, hb⟩
          go_wp2_with fail
          exact hK.out _ _ (below_on kp hb) (.inl (.inr (.inr (.inr (.inl (.inr (.inr (⟨g9, g10, rfl, rfl, rfl, vg9.below hb, vg10.below hb, eg9g10, below_on kp hb⟩))))))))
        refine AllReadyI.cons rfl (fun K hK => ?_) ?_
        · go_simp
          go_wp2_with fail
          exact hK.out _ _ (below_al kp _) (.inl (.inr (.inl (.inr (.inr (.inr (.inr (⟨wz.heap.size, g9, g10, rfl, rfl, rfl, vb_new kp, vg9.al _, vg10.al _, vg9.ne.symm, vg10.ne.symm, eg9g10, below_al kp _⟩))))))))
        refine AllReadyI.cons rfl (fun K hK => ?_) ?_
        · go_simp
          go_wp2_with fail
          exact hK.out _ _ (below_al kp _) (.inl (.inr (.inl (.inl (.inr (.inl (⟨g9, g10, wz.heap.size, rfl, rfl, rfl, vg9.al _, vg10.al _, vb_new kp, eg9g10, vg9.ne, vg10.ne, below_al kp _⟩)))))))
        exact AllReadyI.nil
      · obtain ⟨g9, g10, g11, hn, rfl, rfl, vg9, vg10, vg11, eg9g10, eg9g11, eg10g11, kp⟩ := h
        obtain rfl : n = 7 := by omega
        refine ready_step (rs := [7, 16]) (by kernel_rfl) (by simp) ?_
        refine AllReadyI.cons rfl (fun K hK => ?_) ?_
        · go_simp
          refine (unhide CD1 _ (below_on (unhide HB1) kp)).mono ?_
          rintro e w2 ⟨rfl, hb⟩
          go_wp2_with fail
          exact hK.out _ _ (below_on kp hb) (.inl (.inr (.inr (.inr (.inr (.inl (⟨g9, g10, g11, rfl, rfl, rfl, vg9.below hb, vg10.below hb, vg11.below hb, eg9g10, eg9g11, eg10g11, below_on kp hb⟩)))))))
        refine AllReadyI.cons rfl (fun K hK => ?_) ?_
        · go_simp
          go_wp2_with fail
          exact hK.out _ _ (below_al kp _) (.inl (.inr (.inr (.inl (.inl (.inl (⟨wz.heap.size, g9, g10, g11, rfl, rfl, rfl, vb_new kp, vg9.al _, vg10.al _, vg11.al _, vg9.ne.symm, vg10.ne.symm, vg11.ne.symm, eg9g10, eg9g11, eg10g11, below_al kp _⟩)))))))
        exact AllReadyI.nil
      · obtain ⟨g8, hn, rfl, rfl, vg8, kp⟩ := h
        obtain rfl : n = 9 := by omega
        refine ready_step (rs := [7, 17, 18, 19]) (by kernel_rfl) (by simp) ?_
        refine AllReadyI.cons rfl (fun K hK => ?_) ?_
        · go_simp
          refine (unhide CD1 _ (below_on (unhide HB1) kp)).mono ?_
          rintro e w2 ⟨rfl, hb⟩
          go_wp2_with fail
          exact hK.out _ _ (below_on kp hb) (.inl (.inr (.inr (.inr (.inr (.inr (.inl (⟨g8, rfl, rfl, rfl, vg8.below hb, below_on kp hb⟩))))))))
        refine AllReadyI.cons rfl (fun K hK => ?_) ?_
        · go_simp
          go_wp2_with fail
          exact hK.out _ _ (below_al kp _) (.inl (.inr (.inl (.inr (.inr (.inl (⟨g8, wz.heap.size, rfl, rfl, rfl, vg8.al _, vb_new kp, vg8.ne, below_al kp _⟩)))))))
        refine AllReadyI.cons rfl (fun K hK => ?_) ?_
        · go_simp
          go_wp2_with fail
          exact hK.out _ _ (below_al kp _) (.inl (.inr (.inl (.inr (.inl (.inl (⟨g8, wz.heap.size, rfl, rfl, rfl, vg8.al _, vb_new kp, vg8.ne, below_al kp _⟩)))))))
        refine AllReadyI.cons rfl (fun K hK => ?_) ?_
        · go_simp
          go_wp2_with fail
          exact hK.out _ _ (below_al kp _) (.inl (.inr (.inl (.inl (.inr (.inr (.inr (⟨g8, wz.heap.size, rfl, rfl, rfl, vg8.al _, vb_new kp, vg8.ne, below_al kp _⟩))))))))
        exact AllReadyI.nil
      · obtain ⟨g8, g11, hn, rfl, rfl, vg8, vg11, eg8g11, kp⟩ := h
        obtain rfl : n = 8 := by omega
        refine ready_step (rs := [7, 17, 18]) (by kernel_rfl) (by simp) ?_
        refine AllReadyI.cons rfl (fun K hK => ?_) ?_
        · go_simp
          refine (unhide CD1 _ (below_on (unhide HB1) kp)).mono ?_
          rintro e w2 ⟨rfl, hb⟩
          go_wp2_with fail
          exact hK.out _ _ (below_on kp hb) (.inl (.inr (.inr (.inr (.inr (.inr (.inr (⟨g8, g11, rfl, rfl, rfl, vg8.below hb, vg11.below hb, eg8g11, below_on kp hb⟩))))))))
        refine AllReadyI.cons rfl (fun K hK => ?_) ?_
        · go_simp
          go_wp2_with fail
          exact hK.out _ _ (below_al kp _) (.inl (.inr (.inl (.inr (.inr (.inr (.inl (⟨g8, wz.heap.size, g11, rfl, rfl, rfl, vg8.al _, vb_new kp, vg11.al _, vg8.ne, eg8g11, vg11.ne.symm, below_al kp _⟩))))))))
        refine AllReadyI.cons rfl (fun K hK => ?_) ?_
        · go_simp
          go_wp2_with fail
          exact hK.out _ _ (below_al kp _) (.inl (.inr (.inl (.inr (.inl (.inr (⟨g8, wz.heap.size, g11, rfl, rfl, rfl, vg8.al _, vb_new kp, vg11.al _, vg8.ne, eg8g11, vg11.ne.symm, below_al kp _⟩)))))))
        exact AllReadyI.nil
      · obtain ⟨g8, g10, hn, rfl, rfl, vg8, vg10, eg8g10, kp⟩ := h
        obtain rfl : n = 8 := by omega
        refine ready_step (rs := [7, 17, 19]) (by kernel_rfl) (by simp) ?_
        refine AllReadyI.cons rfl (fun K hK => ?_) ?_
        · go_simp
          refine (unhide CD1 _ (below_on (unhide HB1) kp)).mono ?_
          rintro e w2 ⟨rfl, hb⟩
          go_wp2_with fail
          exact hK.out _ _ (below_on kp hb) (.inr (.inl (.inl (.inl (.inl (.inl (⟨g8, g10, rfl, rfl, rfl, vg8.below hb, vg10.below hb, eg8g10, below_on kp hb⟩)))))))
        refine AllReadyI.cons rfl (fun K hK => ?_) ?_
        · go_simp
          go_wp2_with fail
          exact hK.out _ _ (below_al kp _) (.inl (.inr (.inl (.inr (.inr (.inr (.inr (⟨g8, wz.heap.size, g10, rfl, rfl, rfl, vg8.al _, vb_new kp, vg10.al _, vg8.ne, eg8g10, vg10.ne.symm, below_al kp _⟩))))))))
        refine AllReadyI.cons rfl (fun K hK => ?_) ?_
        · go_simp
          go_wp2_with fail
          exact hK.out _ _ (below_al kp _) (.inl (.inr (.inl (.inr (.inl (.inr (⟨g8, g10, wz.heap.size, rfl, rfl, rfl, vg8.al _, vg10.al _, vb_new kp, eg8g10, vg8.ne, vg10.ne, below_al kp _⟩)))))))
        exact AllReadyI.nil
      · obtain ⟨g8, g10, g11, hn, rfl, rfl, vg8, vg10, vg11, eg8g10, eg8g11, eg10g11, kp⟩ := h
        obtain rfl : n = 7 := by omega
        refine ready_step (rs := [7, 17]) (by kernel_rfl) (by simp) ?_
        refine AllReadyI.cons rfl (fun K hK => ?_) ?_
        · go_simp
          refine (unhide CD1 _ (below_on (unhide HB1) kp)).mono ?_
          rintro e w2 ⟨rfl, hb⟩
          go_wp2_with fail
          exact hK.out _ _ (below_on kp hb) (.inr (.inl (.inl (.inl (.inl (.inr (⟨g8, g10, g11, rfl, rfl, rfl, vg8.below hb, vg10.below hb, vg11.below hb, eg8g10, eg8g11, eg10g11, below_on kp hb⟩)))))))
        refine AllReadyI.cons rfl (fun K hK => ?_) ?_
        · go_simp
          go_wp2_with fail
          exact hK.out _ _ (below_al kp _) (.inl (.inr (.inr (.inl (.inl (.inl (⟨g8, wz.heap.size, g10, g11, rfl, rfl, rfl, vg8.al _, vb_new kp, vg10.al _, vg11.al _, vg8.ne, eg8g10, eg8g11, vg10.ne.symm, vg11.ne.symm, eg10g11, below_al kp _⟩)))))))
        exact AllReadyI.nil
      · obtain ⟨g8, g9, hn, rfl, rfl, vg8, vg9, eg8g9, kp⟩ := h
        obtain rfl : n = 8 := by omega
        refine ready_step (rs := [7, 18, 19]) (by kernel_rfl) (by simp) ?_
        refine AllReadyI.cons rfl (fun K hK => ?_) ?_
        · go_simp
          refine (unhide CD1 _ (below_on (unhide HB1) kp)).mono ?_
          rintro e w2 ⟨rfl, hb⟩
          go_wp2_with fail
          exact hK.out _ _ (below_on kp hb) (.inr (.inl (.inl (.inl (.inr (.inl (⟨g8, g9, rfl, rfl, rfl, vg8.below hb, vg9.below hb, eg8g9, below_on kp hb⟩)))))))
        refine AllReadyI.cons rfl (fun K hK => ?_) ?_
        · go_simp
          go_wp2_with fail
          exact hK.out _ _ (below_al kp _) (.inl (.inr (.inl (.inr (.inr (.inr (.inr (⟨g8, g9, wz.heap.size, rfl, rfl, rfl, vg8.al _, vg9.al _, vb_new kp, eg8g9, vg8.ne, vg9.ne, below_al kp _⟩))))))))
        refine AllReadyI.cons rfl (fun K hK => ?_) ?_
        · go_simp
          go_wp2_with fail
          exact hK.out _ _ (below_al kp _) (.inl (.inr (.inl (.inr (.inr (.inr (.inl (⟨g8, g9, wz.heap.size, rfl, rfl, rfl, vg8.al _, vg9.al _, vb_new kp, eg8g9, vg8.ne, vg9.ne, below_al kp _⟩))))))))
        exact AllReadyI.nil
      · obtain ⟨g8, g9, g11, hn, rfl, rfl, vg8, vg9, vg11, eg8g9, eg8g11, eg9g11, kp⟩ := h
        obtain rfl : n = 7 := by omega
        refine ready_step (rs := [7, 18]) (by kernel_rfl) (by simp) ?_
        refine AllReadyI.cons rfl (fun K hK => ?_) ?_
        · go_simp
          refine (unhide CD1 _ (below_on (unhide HB1) kp)).mono ?_
          rintro e w2 ⟨rfl, hb⟩
          go_wp2_with fail
          exact hK.out _ _ (below_on kp hb) (.inr (.inl (.inl (.inl (.inr (.inr (.inl (⟨g8, g9, g11, rfl, rfl, rfl, vg8.below hb, vg9.below hb, vg11.below hb, eg8g9, eg8g11, eg9g11, below_on kp hb⟩))))))))
        refine AllReadyI.cons rfl (fun K hK => ?_) ?_
        · go_simp
          go_wp2_with fail
          exact hK.out _ _ (below_al kp _) (.inl (.inr (.inr (.inl (.inl (.inl (⟨g8, g9, wz.heap.size, g11, rfl, rfl, rfl, vg8.al _, vg9.al _, vb_new kp, vg11.al _, eg8g9, vg8.ne, eg8g11, vg9.ne, eg9g11, vg11.ne.symm, below_al kp _⟩)))))))
        exact AllReadyI.nil
      · obtain ⟨g8, g9, g10, hn, rfl, rfl, vg8, vg9, vg10, eg8g9, eg8g10, eg9g10, kp⟩ := h
        obtain rfl : n = 7 := by omega
        refine ready_step (rs := [7, 19]) (by kernel_rfl) (by simp) ?_
        refine AllReadyI.cons rfl (fun K hK => ?_) ?_
        · go_simp
          refine (unhide CD1 _ (below_on (unhide HB1) kp)).mono ?_
          rintro e w2 ⟨rfl, hb⟩
          go_wp2_with fail
          exact hK.out _ _ (below_on kp hb) (.inr (.inl (.inl (.inl (.inr (.inr (.inr (⟨g8, g9, g10, rfl, rfl, rfl, vg8.below hb, vg9.below hb, vg10.below hb, eg8g9, eg8g10, eg9g10, below_on kp hb⟩))))))))
        refine AllReadyI.cons rfl (fun K hK => ?_) ?_
        · go_simp
          go_wp2_with fail
          exact hK.out _ _ (below_al kp _) (.inl (.inr (.inr (.inl (.inl (.inl (⟨g8, g9, g10, wz.heap.size, rfl, rfl, rfl, vg8.al _, vg9.al _, vg10.al _, vb_new kp, eg8g9, eg8g10, vg8.ne, eg9g10, vg9.ne, vg10.ne, below_al kp _⟩)))))))
        exact AllReadyI.nil
      · obtain ⟨g8, g9, g10, g11, hn, rfl, rfl, vg8, vg9, vg10, vg11, eg8g9, eg8g10, eg8g11, eg9g10, eg9g11, eg10g11, kp⟩ := h
        obtain rfl : n = 6 := by omega
        refine ready_step (rs := [7]) (by kernel_rfl) (by simp) ?_
        refine AllReadyI.cons rfl (fun K hK => ?_) ?_
        · go_simp
          refine (unhide CD1 _ (below_on (unhide HB1) kp)).mono ?_
          rintro e w2 ⟨rfl, hb⟩
          go_wp2_with fail
          exact hK.out _ _ (below_on kp hb) (.inr (.inl (.inl (.inr (.inl (.inl (⟨g8, g9, g10, g11, rfl, rfl, rfl, vg8.below hb, vg9.below hb, vg10.below hb, vg11.below hb, eg8g9, eg8g10, eg8g11, eg9g10, eg9g11, eg10g11, below_on kp hb⟩)))))))
        exact AllReadyI.nil
      · obtain ⟨hn, rfl, rfl, kp⟩ := h
        obtain rfl : n = 9 := by omega
        refine ready_step (rs := [10, 16, 17, 18, 19]) (by kernel_rfl) (by simp) ?_
        refine AllReadyI.cons rfl (fun K hK => ?_) ?_
        · go_simp
          refine (unhide CU2 _ (below_on (unhide HB1) kp)).mono ?_
          rintro e w2 ⟨rfl, hb⟩
          go_wp2_with fail
          exact hK.out _ _ (below_on kp hb) (.inr (.inl (.inl (.inr (.inl (.inr (⟨rfl, rfl, rfl, below_on kp hb⟩)))))))
        refine AllReadyI.cons rfl (fun K hK => ?_) ?_
        · go_simp
          go_wp2_with fail
          exact hK.out _ _ (below_al kp _) (.inl (.inr (.inr (.inr (.inr (.inr (.inl (⟨wz.heap.size, rfl, rfl, rfl, vb_new kp, below_al kp _⟩))))))))
        refine AllReadyI.cons rfl (fun K hK => ?_) ?_
        · go_simp
          go_wp2_with fail
          exact hK.out _ _ (below_al kp _) (.inl (.inr (.inr (.inr (.inl (.inl (⟨wz.heap.size, rfl, rfl, rfl, vb_new kp, below_al kp _⟩)))))))
        refine AllReadyI.cons rfl (fun K hK => ?_) ?_
        · go_simp
          go_wp2_with fail
          exact hK.out _ _ (below_al kp _) (.inl (.inr (.inr (.inl (.inr (.inr (.inl (⟨wz.heap.size, rfl, rfl, rfl, vb_new kp, below_al kp _⟩))))))))
        refine AllReadyI.cons rfl (fun K hK => ?_) ?_
        · go_simp
          go_wp2_with fail
          exact hK.out _ _ (below_al kp _) (.inl (.inr (.inr (.inl (.inr (.inl (⟨wz.heap.size, rfl, rfl, rfl, vb_new kp, below_al kp _⟩)))))))
        exact AllReadyI.nil
      · obtain ⟨g11, hn, rfl, rfl, vg11, kp⟩ := h
        obtain rfl : n = 8 := by omega
        refine ready_step (rs := [10, 16, 17, 18]) (by kernel_rfl) (by simp) ?_
        refine AllReadyI.cons rfl (fun K hK => ?_) ?_
        · go_simp
          refine (unhide CU2 _ (below_on (unhide HB1) kp)).mono ?_
          rintro e w2 ⟨rfl, hb⟩
          go_wp2_with fail
          exact hK.out _ _ (below_on kp hb) (.inr (.inl (.inl (.inr (.inr (.inl (⟨g11, rfl, rfl, rfl, vg11.below hb, below_on kp hb⟩)))))))
        refine AllReadyI.cons rfl (fun K hK => ?_) ?_
        · go_simp
          go_wp2_with fail
          exact hK.out _ _ (below_al kp _) (.inl (.inr (.inr (.inr (.inr (.inr (.inr (⟨wz.heap.size, g11, rfl, rfl, rfl, vb_new kp, vg11.al _, vg11.ne.symm, below_al kp _⟩))))))))
        refine AllReadyI.cons rfl (fun K hK => ?_) ?_
        · go_simp
          go_wp2_with fail
          exact hK.out _ _ (below_al kp _) (.inl (.inr (.inr (.inr (.inl (.inr (.inl (⟨wz.heap.size, g11, rfl, rfl, rfl, vb_new kp, vg11.al _, vg11.ne.symm, below_al kp _⟩))))))))
        refine AllReadyI.cons rfl (fun K hK => ?_) ?_
        · go_simp
          go_wp2_with fail
          exact hK.out _ _ (below_al kp _) (.inl (.inr (.inr (.inl (.inr (.inr (.inr (⟨wz.heap.size, g11, rfl, rfl, rfl, vb_new kp, vg11.al _, vg11.ne.symm, below_al kp _⟩))))))))
        exact AllReadyI.nil
      · obtain ⟨g10, hn, rfl, rfl, vg10, kp⟩ := h
        obtain rfl : n = 8 := by omega
        refine ready_step (rs := [10, 16, 17, 19]) (by kernel_rfl) (by simp) ?_
        refine AllReadyI.cons rfl (fun K hK => ?_) ?_
        · go_simp
          refine (unhide CU2 _ (below_on (unhide HB1) kp)).mono ?_
          rintro e w2 ⟨rfl, hb⟩
          go_wp2_with fail
          exact hK.out _ _ (below_on kp hb) (.inr (.inl (.inl (.inr (.inr (.inr (.inl (⟨g10, rfl, rfl, rfl, vg10.below hb, below_on kp hb⟩))))))))
        refine AllReadyI.cons rfl (fun K hK => ?_) ?_
        · go_simp
          go_wp2_with fail
          exact hK.out _ _ (below_al kp _) (.inr (.inl (.inl (.inl (.inl (.inl (⟨wz.heap.size, g10, rfl, rfl, rfl, vb_new kp, vg10.al _, vg10.ne.symm, below_al kp _⟩)))))))
        refine AllReadyI.cons rfl (fun K hK => ?_) ?_
        · go_simp
          go_wp2_with fail
          exact hK.out _ _ (below_al kp _) (.inl (.inr (.inr (.inr (.inl (.inr (.inr (⟨wz.heap.size, g10, rfl, rfl, rfl, vb_new kp, vg10.al _, vg10.ne.symm, below_al kp _⟩))))))))
        refine AllReadyI.cons rfl (fun K hK => ?_) ?_
        · go_simp
          go_wp2_with fail
          exact hK.out _ _ (below_al kp _) (.inl (.inr (.inr (.inl (.inr (.inr (.inr (⟨g10, wz.heap.size, rfl, rfl, rfl, vg10.al _, vb_new kp, vg10.ne, below_al kp _⟩))))))))
        exact AllReadyI.nil
      · obtain ⟨g10, g11, hn, rfl, rfl, vg10, vg11, eg10g11, kp⟩ := h
        obtain rfl : n = 7 := by omega
        refine ready_step (rs := [10, 16, 17]) (by kernel_rfl) (by simp) ?_
        refine AllReadyI.cons rfl (fun K hK => ?_) ?_
        · go_simp
          refine (unhide CU2 _ (below_on (unhide HB1) kp)).mono ?_
          rintro e w2 ⟨rfl, hb⟩
          go_wp2_with fail
          exact hK.out _ _ (below_on kp hb) (.inr (.inl (.inl (.inr (.inr (.inr (.inr (⟨g10, g11, rfl, rfl, rfl, vg10.below hb, vg11.below hb, eg10g11, below_on kp hb⟩))))))))
        refine AllReadyI.cons rfl (fun K hK => ?_) ?_
        · go_simp
          go_wp2_with fail
          exact hK.out _ _ (below_al kp _) (.inr (.inl (.inl (.inl (.inl (.inr (⟨wz.heap.size, g10, g11, rfl, rfl, rfl, vb_new kp, vg10.al _, vg11.al _, vg10.ne.symm, vg11.ne.symm, eg10g11, below_al kp _⟩)))))))
        refine AllReadyI.cons rfl (fun K hK => ?_) ?_
        · go_simp
          go_wp2_with fail
          exact hK.out _ _ (below_al kp _) (.inl (.inr (.inr (.inr (.inr (.inl (⟨wz.heap.size, g10, g11, rfl, rfl, rfl, vb_new kp, vg10.al _, vg11.al _, vg10.ne.symm, vg11.ne.symm, eg10g11, below_al kp _⟩)))))))
        exact AllReadyI.nil
      · obtain ⟨g9, hn, rfl, rfl, vg9, kp⟩ := h
        obtain rfl : n = 8 := by omega
        refine ready_step (rs := [10, 16, 18, 19]) (by kernel_rfl) (by simp) ?_
        refine AllReadyI.cons rfl (fun K hK => ?_) ?_
        · go_simp
          refine (unhide CU2 _ (below_on (unhide HB1) kp)).mono ?_
          rintro e w2 ⟨rfl, hb⟩
          go_wp2_with fail
          exact hK.out _ _ (below_on kp hb) (.inr (.inl (.inr (.inl (.inl (.inl (⟨g9, rfl, rfl, rfl, vg9.below hb, below_on kp hb⟩)))))))
        refine AllReadyI.cons rfl (fun K hK => ?_) ?_
        · go_simp
          go_wp2_with fail
          exact hK.out _ _ (below_al kp _) (.inr (.inl (.inl (.inl (.inr (.inl (⟨wz.heap.size, g9, rfl, rfl, rfl, vb_new kp, vg9.al _, vg9.ne.symm, below_al kp _⟩)))))))
        refine AllReadyI.cons rfl (fun K hK => ?_) ?_
        · go_simp
          go_wp2_with fail
          exact hK.out _ _ (below_al kp _) (.inl (.inr (.inr (.inr (.inl (.inr (.inr (⟨g9, wz.heap.size, rfl, rfl, rfl, vg9.al _, vb_new kp, vg9.ne, below_al kp _⟩))))))))
        refine AllReadyI.cons rfl (fun K hK => ?_) ?_
        · go_simp
          go_wp2_with fail
          exact hK.out _ _ (below_al kp _) (.inl (.inr (.inr (.inr (.inl (.inr (.inl (⟨g9, wz.heap.size, rfl, rfl, rfl, vg9.al _, vb_new kp, vg9.ne, below_al kp _⟩))))))))
        exact AllReadyI.nil
      · obtain ⟨g9, g11, hn, rfl, rfl, vg9, vg11, eg9g11, kp⟩ := h
        obtain rfl : n = 7 := by omega
        refine ready_step (rs := [10, 16, 18]) (by kernel_rfl) (by simp) ?_
        refine AllReadyI.cons rfl (fun K hK => ?_) ?_
        · go_simp
          refine (unhide CU2 _ (below_on (unhide HB1) kp)).mono ?_
          rintro e w2 ⟨rfl, hb⟩
          go_wp2_with fail
          exact hK.out _ _ (below_on kp hb) (.inr (.inl (.inr (.inl (.inl (.inr (⟨g9, g11, rfl, rfl, rfl, vg9.below hb, vg11.below hb, eg9g11, below_on kp hb⟩)))))))
        refine AllReadyI.cons rfl (fun K hK => ?_) ?_
        · go_simp
          go_wp2_with fail
          exact hK.out _ _ (below_al kp _) (.inr (.inl (.inl (.inl (.inr (.inr (.inl (⟨wz.heap.size, g9, g11, rfl, rfl, rfl, vb_new kp, vg9.al _, vg11.al _, vg9.ne.symm, vg11.ne.symm, eg9g11, below_al kp _⟩))))))))
        refine AllReadyI.cons rfl (fun K hK => ?_) ?_
        · go_simp
          go_wp2_with fail
          exact hK.out _ _ (below_al kp _) (.inl (.inr (.inr (.inr (.inr (.inl (⟨g9, wz.heap.size, g11, rfl, rfl, rfl, vg9.al _, vb_new kp, vg11.al _, vg9.ne, eg9g11, vg11.ne.symm, below_al kp _⟩)))))))
        exact AllReadyI.nil
      · obtain ⟨g9, g10, hn, rfl, rfl, vg9, vg10, eg9g10, kp⟩ := h
        obtain rfl : n = 7 := by omega
        refine ready_step (rs := [10, 16, 19]) (by kernel_rfl) (by simp) ?_
        refine AllReadyI.cons rfl (fun K hK => ?_) ?_
        · go_simp
          refine (unhide CU2 _ (below_on (unhide HB1) kp)).mono ?_
          rintro e w2 ⟨rfl, hb⟩
          go_wp2_with fail
          exact hK.out _ _ (below_on kp hb) (.inr (.inl (.inr (.inl (.inr (.inl (⟨g9, g10, rfl, rfl, rfl, vg9.below hb, vg10.below hb, eg9g10, below_on kp hb⟩)))))))
        refine AllReadyI.cons rfl (fun K hK => ?_) ?_
        · go_simp
          go_wp2_with fail
          exact hK.out _ _ (below_al kp _) (.inr (.inl (.inl (.inl (.inr (.inr (.inr (⟨wz.heap.size, g9, g10, rfl, rfl, rfl, vb_new kp, vg9.al _, vg10.al _, vg9.ne.symm, vg10.ne.symm, eg9g10, below_al kp _⟩))))))))
        refine AllReadyI.cons rfl (fun K hK => ?_) ?_
        · go_simp
          go_wp2_with fail
          exact hK.out _ _ (below_al kp _) (.inl (.inr (.inr (.inr (.inr (.inl (⟨g9, g10, wz.heap.size, rfl, rfl, rfl, vg9.al _, vg10.al _, vb_new kp, eg9g10, vg9.ne, vg10.ne, below_al kp _⟩)))))))
        exact AllReadyI.nil
      · obtain ⟨g9, g10, g11, hn, rfl, rfl, vg9, vg10, vg11, eg9g10, eg9g11, eg10g11, kp⟩ := h
        obtain rfl : n = 6 := by omega
        refine ready_step (rs := [10, 16]) (by kernel_rfl) (by simp) ?_
        refine AllReadyI.cons rfl (fun K hK => ?_) ?_
        · go_simp
          refine (unhide CU2 _ (below_on (unhide HB1) kp)).mono ?_
          rintro e w2 ⟨rfl, hb⟩
          go_wp2_with fail
          exact hK.out _ _ (below_on kp hb) (.inr (.inl (.inr (.inl (.inr (.inr (.inl (⟨g9, g10, g11, rfl, rfl, rfl, vg9.below hb, vg10.below hb, vg11.below hb, eg9g10, eg9g11, eg10g11, below_on kp hb⟩))))))))
        refine AllReadyI.cons rfl (fun K hK => ?_) ?_
        · go_simp
          go_wp2_with fail
          exact hK.out _ _ (below_al kp _) (.inr (.inl (.inl (.inr (.inl (.inl (⟨wz.heap.size, g9, g10, g11, rfl, rfl, rfl, vb_new kp, vg9.al _, vg10.al _, vg11.al _, vg9.ne.symm, vg10.ne.symm, vg11.ne.symm, eg9g10, eg9g11, eg10g11, below_al kp _⟩)))))))
        exact AllReadyI.nil
      · obtain ⟨g8, hn, rfl, rfl, vg8, kp⟩ := h
        obtain rfl : n = 8 := by omega
        refine ready_step (rs := [10, 17, 18, 19]) (by kernel_rfl) (by simp) ?_
        refine AllReadyI.cons rfl (fun K hK => ?_) ?_
        · go_simp
          refine (unhide CU2 _ (below_on (unhide HB1) kp)).mono ?_
          rintro e w2 ⟨rfl, hb⟩
          go_wp2_with fail
          exact hK.out _ _ (below_on kp hb) (.inr (.inl (.inr (.inl (.inr (.inr (.inr (⟨g8, rfl, rfl, rfl, vg8.below hb, below_on kp hb⟩))))))))
        refine AllReadyI.cons rfl (fun K hK => ?_) ?_
        · go_simp
          go_wp2_with fail
          exact hK.out _ _ (below_al kp _) (.inr (.inl (.inl (.inl (.inr (.inl (⟨g8, wz.heap.size, rfl, rfl, rfl, vg8.al _, vb_new kp, vg8.ne, below_al kp _⟩)))))))
        refine AllReadyI.cons rfl (fun K hK => ?_) ?_
        · go_simp
          go_wp2_with fail
          exact hK.out _ _ (below_al kp _) (.inr (.inl (.inl (.inl (.inl (.inl (⟨g8, wz.heap.size, rfl, rfl, rfl, vg8.al _, vb_new kp, vg8.ne, below_al kp _⟩)))))))
        refine AllReadyI.cons rfl (fun K hK => ?_) ?_
        · go_simp
          go_wp2_with fail
          exact hK.out _ _ (below_al kp _) (.inl (.inr (.inr (.inr (.inr (.inr (.inr (⟨g8, wz.heap.size, rfl, rfl, rfl, vg8.al _, vb_new kp, vg8.ne, below_al kp _⟩))))))))
        exact AllReadyI.nil
      · obtain ⟨g8, g11, hn, rfl, rfl, vg8, vg11, eg8g11, kp⟩ := h
        obtain rfl : n = 7 := by omega
        refine ready_step (rs := [10, 17, 18]) (by kernel_rfl) (by simp) ?_
        refine AllReadyI.cons rfl (fun K hK => ?_) ?_
        · go_simp
          refine (unhide CU2 _ (below_on (unhide HB1) kp)).mono ?_
          rintro e w2 ⟨rfl, hb⟩
          go_wp2_with fail
          exact hK.out _ _ (below_on kp hb) (.inr (.inl (.inr (.inr (.inl (.inl (⟨g8, g11, rfl, rfl, rfl, vg8.below hb, vg11.below hb, eg8g11, below_on kp hb⟩)))))))
        refine AllReadyI.cons rfl (fun K hK => ?_) ?_
        · go_simp
          go_wp2_with fail
          exact hK.out _ _ (below_al kp _) (.inr (.inl (.inl (.inl (.inr (.inr (.inl (⟨g8, wz.heap.size, g11, rfl, rfl, rfl, vg8.al _, vb_new kp, vg11.al _, vg8.ne, eg8g11, vg11.ne.symm, below_al kp _⟩))))))))
        refine AllReadyI.cons rfl (fun K hK => ?_) ?_
        · go_simp
          go_wp2_with fail
          exact hK.out _ _ (below_al kp _) (.inr (.inl (.inl (.inl (.inl (.inr (⟨g8, wz.heap.size, g11, rfl, rfl, rfl, vg8.al _, vb_new kp, vg11.al _, vg8.ne, eg8g11, vg11.ne.symm, below_al kp _⟩)))))))
        exact AllReadyI.nil
      · obtain ⟨g8, g10, hn, rfl, rfl, vg8, vg10, eg8g10, kp⟩ := h
        obtain rfl : n = 7 := by omega
        refine ready_step (rs := [10, 17, 19]) (by kernel_rfl) (by simp) ?_
        refine AllReadyI.cons rfl (fun K hK => ?_) ?_
        · go_simp
          refine (unhide CU2 _ (below_on (unhide HB1) kp)).mono ?_
          rintro e w2 ⟨rfl, hb⟩
          go_wp2_with fail
          exact hK.out _ _ (below_on kp hb) (.inr (.inl (.inr (.inr (.inl (.inr (.inl (⟨g8, g10, rfl, rfl, rfl, vg8.below hb, vg10.below hb, eg8g10, below_on kp hb⟩))))))))
        refine AllReadyI.cons rfl (fun K hK => ?_) ?_
        · go_simp
          go_wp2_with fail
          exact hK.out _ _ (below_al kp _) (.inr (.inl (.inl (.inl (.inr (.inr (.inr (⟨g8, wz.heap.size, g10, rfl, rfl, rfl, vg8.al _, vb_new kp, vg10.al _, vg8.ne, eg8g10, vg10.ne.symm, below_al kp _⟩))))))))
        refine AllReadyI.cons rfl (fun K hK => ?_) ?_
        · go_simp
          go_wp2_with fail
          exact hK.out _ _ (below_al kp _) (.inr (.inl (.inl (.inl (.inl (.inr (⟨g8, g10, wz.heap.size, rfl, rfl, rfl, vg8.al _, vg10.al _, vb_new kp, eg8g10, vg8.ne, vg10.ne, below_al kp _⟩)))))))
        exact AllReadyI.nil
      · obtain ⟨g8, g10, g11, hn, rfl, rfl, vg8, vg10, vg11, eg8g10, eg8g11, eg10g11, kp⟩ := h
        obtain rfl : n = 6 := by omega
        refine ready_step (rs := [10, 17]) (by kernel_rfl) (by simp) ?_
        refine AllReadyI.cons rfl (fun K hK => ?_) ?_
        · go_simp
          refine (unhide CU2 _ (below_on (unhide HB1) kp)).mono ?_
          rintro e w2 ⟨rfl, hb⟩
          go_wp2_with fail
          exact hK.out _ _ (below_on kp hb) (.inr (.inl (.inr (.inr (.inl (.inr (.inr (⟨g8, g10, g11, rfl, rfl, rfl, vg8.below hb, vg10.below hb, vg11.below hb, eg8g10, eg8g11, eg10g11, below_on kp hb⟩))))))))
        refine AllReadyI.cons rfl (fun K hK => ?_) ?_
        · go_simp
          go_wp2_with fail
          exact hK.out _ _ (below_al kp _) (.inr (.inl (.inl (.inr (.inl (.inl (⟨g8, wz.heap.size, g10, g11, rfl, rfl, rfl, vg8.al _, vb_new kp, vg10.al _, vg11.al _, vg8.ne, eg8g10, eg8g11, vg10.ne.symm, vg11.ne.symm, eg10g11, below_al kp _⟩)))))))
        exact AllReadyI.nil
      · obtain ⟨g8, g9, hn, rfl, rfl, vg8, vg9, eg8g9, kp⟩ := h
        obtain rfl : n = 7 := by omega
        refine ready_step (rs := [10, 18, 19]) (by kernel_rfl) (by simp) ?_
        refine AllReadyI.cons rfl (fun K hK => ?_) ?_
        · go_simp
          refine (unhide CU2 _ (below_on (unhide HB1) kp)).mono ?_
          rintro e w2 ⟨rfl, hb⟩
          go_wp2_with fail
          exact hK.out _ _ (below_on kp hb) (.inr (.inl (.inr (.inr (.inr (.inl (⟨g8, g9, rfl, rfl, rfl, vg8.below hb, vg9.below hb, eg8g9, below_on kp hb⟩)))))))
        refine AllReadyI.cons rfl (fun K hK => ?_) ?_
        · go_simp
          go_wp2_with fail
          exact hK.out _ _ (below_al kp _) (.inr (.inl (.inl (.inl (.inr (.inr (.inr (⟨g8, g9, wz.heap.size, rfl, rfl, rfl, vg8.al _, vg9.al _, vb_new kp, eg8g9, vg8.ne, vg9.ne, below_al kp _⟩))))))))
        refine AllReadyI.cons rfl (fun K hK => ?_) ?_
        · go_simp
          go_wp2_with fail
          exact hK.out _ _ (below_al kp _) (.inr (.inl (.inl (.inl (.inr (.inr (.inl (⟨g8, g9, wz.heap.size, rfl, rfl, rfl, vg8.al _, vg9.al _, vb_new kp, eg8g9, vg8.ne, vg9.ne, below_al kp _⟩))))))))
        exact AllReadyI.nil
      · obtain ⟨g8, g9, g11, hn, rfl, rfl, vg8, vg9, vg11, eg8g9, eg8g11, eg9g11, kp⟩ := h
        obtain rfl : n = 6 := by omega
        refine ready_step (rs := [10, 18]) (by kernel_rfl) (by simp) ?_
        refine AllReadyI.cons rfl (fun K hK => ?_) ?_
        · go_simp
          refine (unhide CU2 _ (below_on (unhide HB1) kp)).mono ?_
          rintro e w2 ⟨rfl, hb⟩
          go_wp2_with fail
          exact hK.out _ _ (below_on kp hb) (.inr (.inl (.inr (.inr (.inr (.inr (.inl (⟨g8, g9, g11, rfl, rfl, rfl, vg8.below hb, vg9.below hb, vg11.below hb, eg8g9, eg8g11, eg9g11, below_on kp hb⟩))))))))
        refine AllReadyI.cons rfl (fun K hK => ?_) ?_
        · go_simp
          go_wp2_with fail
          exact hK.out _ _ (below_al kp _) (.inr (.inl (.inl (.inr (.inl (.inl (⟨g8, g9, wz.heap.size, g11, rfl, rfl, rfl, vg8.al _, vg9.al _, vb_new kp, vg11.al _, eg8g9, vg8.ne, eg8g11, vg9.ne, eg9g11, vg11.ne.symm, below_al kp _⟩)))))))
        exact AllReadyI.nil
      · obtain ⟨g8, g9, g10, hn, rfl, rfl, vg8, vg9, vg10, eg8g9, eg8g10, eg9g10, kp⟩ := h
        obtain rfl : n = 6 := by omega
        refine ready_step (rs := [10, 19]) (by kernel_rfl) (by simp) ?_
        refine AllReadyI.cons rfl (fun K hK => ?_) ?_
        · go_simp
          refine (unhide CU2 _ (below_on (unhide HB1) kp)).mono ?_
          rintro e w2 ⟨rfl, hb⟩
          go_wp2_with fail
          exact hK.out _ _ (below_on kp hb) (.inr (.inl (.inr (.inr (.inr (.inr (.inr (⟨g8, g9, g10, rfl, rfl, rfl, vg8.below hb, vg9.below hb, vg10.below hb, eg8g9, eg8g10, eg9g10, below_on kp hb⟩))))))))
        refine AllReadyI.cons rfl (fun K hK => ?_) ?_
        · go_simp
          go_wp2_with fail
          exact hK.out _ _ (below_al kp _) (.inr (.inl (.inl (.inr (.inl (.inl (⟨g8, g9, g10, wz.heap.size, rfl, rfl, rfl, vg8.al _, vg9.al _, vg10.al _, vb_new kp, eg8g9, eg8g10, vg8.ne, eg9g10, vg9.ne, vg10.ne, below_al kp _⟩)))))))
        exact AllReadyI.nil
      · obtain ⟨g8, g9, g10, g11, hn, rfl, rfl, vg8, vg9, vg10, vg11, eg8g9, eg8g10, eg8g11, eg9g10, eg9g11, eg10g11, kp⟩ := h
        obtain rfl : n = 5 := by omega
        refine ready_step (rs := [10]) (by kernel_rfl) (by simp) ?_
        refine AllReadyI.cons rfl (fun K hK => ?_) ?_
        · go_simp
          refine (unhide CU2 _ (below_on (unhide HB1) kp)).mono ?_
          rintro e w2 ⟨rfl, hb⟩
          go_wp2_with fail
          exact hK.out _ _ (below_on kp hb) (.inr (.inr (.inl (.inl (.inl (.inl (⟨g8, g9, g10, g11, rfl, rfl, rfl, vg8.below hb, vg9.below hb, vg10.below hb, vg11.below hb, eg8g9, eg8g10, eg8g11, eg9g10, eg9g11, eg10g11, below_on kp hb⟩)))))))
        exact AllReadyI.nil
      · obtain ⟨hn, rfl, rfl, kp⟩ := h
        obtain rfl : n = 8 := by omega
        refine ready_step (rs := [15, 16, 17, 18, 19]) (by kernel_rfl) (by simp) ?_
        refine AllReadyI.cons rfl (fun K hK => ?_) ?_
        · go_simp
          refine (unhide CD2 _ (below_on (unhide HB1) kp)).mono ?_
          rintro e w2 ⟨rfl, hb⟩
          go_wp2_with fail
          exact hK.out _ _ (below_on kp hb) (.inr (.inr (.inl (.inl (.inl (.inr (⟨rfl, rfl, rfl, below_on kp hb⟩)))))))
        refine AllReadyI.cons rfl (fun K hK => ?_) ?_
        · go_simp
          go_wp2_with fail
          exact hK.out _ _ (below_al kp _) (.inr (.inl (.inr (.inl (.inr (.inr (.inr (⟨wz.heap.size, rfl, rfl, rfl, vb_new kp, below_al kp _⟩))))))))
        refine AllReadyI.cons rfl (fun K hK => ?_) ?_
        · go_simp
          go_wp2_with fail
          exact hK.out _ _ (below_al kp _) (.inr (.inl (.inr (.inl (.inl (.inl (⟨wz.heap.size, rfl, rfl, rfl, vb_new kp, below_al kp _⟩)))))))
        refine AllReadyI.cons rfl (fun K hK => ?_) ?_
        · go_simp
          go_wp2_with fail
          exact hK.out _ _ (below_al kp _) (.inr (.inl (.inl (.inr (.inr (.inr (.inl (⟨wz.heap.size, rfl, rfl, rfl, vb_new kp, below_al kp _⟩))))))))
        refine AllReadyI.cons rfl (fun K hK => ?_) ?_
        · go_simp
          go_wp2_with fail
          exact hK.out _ _ (below_al kp _) (.inr (.inl (.inl (.inr (.inr (.inl (⟨wz.heap.size, rfl, rfl, rfl, vb_new kp, below_al kp _⟩)))))))
        exact AllReadyI.nil
      · obtain ⟨g11, hn, rfl, rfl, vg11, kp⟩ := h
        obtain rfl : n = 7 := by omega
        refine ready_step (rs := [15, 16, 17, 18]) (by kernel_rfl) (by simp) ?_
        refine AllReadyI.cons rfl (fun K hK => ?_) ?_
        · go_simp
          refine (unhide CD2 _ (below_on (unhide HB1) kp)).mono ?_
          rintro e w2 ⟨rfl, hb⟩
          go_wp2_with fail
          exact hK.out _ _ (below_on kp hb) (.inr (.inr (.inl (.inl (.inr (.inl (⟨g11, rfl, rfl, rfl, vg11.below hb, below_on kp hb⟩)))))))
        refine AllReadyI.cons rfl (fun K hK => ?_) ?_
        · go_simp
          go_wp2_with fail
          exact hK.out _ _ (below_al kp _) (.inr (.inl (.inr (.inr (.inl (.inl (⟨wz.heap.size, g11, rfl, rfl, rfl, vb_new kp, vg11.al _, vg11.ne.symm, below_al kp _⟩)))))))
        refine AllReadyI.cons rfl (fun K hK => ?_) ?_
        · go_simp
          go_wp2_with fail
          exact hK.out _ _ (below_al kp _) (.inr (.inl (.inr (.inl (.inl (.inr (⟨wz.heap.size, g11, rfl, rfl, rfl, vb_new kp, vg11.al _, vg11.ne.symm, below_al kp _⟩)))))))
        refine AllReadyI.cons rfl (fun K hK => ?_) ?_
        · go_simp
          go_wp2_with fail
          exact hK.out _ _ (below_al kp _) (.inr (.inl (.inl (.inr (.inr (.inr (.inr (⟨wz.heap.size, g11, rfl, rfl, rfl, vb_new kp, vg11.al _, vg11.ne.symm, below_al kp _⟩))))))))
        exact AllReadyI.nil
      · obtain ⟨g10, hn, rfl, rfl, vg10, kp⟩ := h
        obtain rfl : n = 7 := by omega
        refine ready_step (rs := [15, 16, 17, 19]) (by kernel_rfl) (by simp) ?_
        refine AllReadyI.cons rfl (fun K hK => ?_) ?_
        · go_simp
          refine (unhide CD2 _ (below_on (unhide HB1) kp)).mono ?_
          rintro e w2 ⟨rfl, hb⟩
          go_wp2_with fail
          exact hK.out _ _ (below_on kp hb) (.inr (.inr (.inl (.inl (.inr (.inr (.inl (⟨g10, rfl, rfl, rfl, vg10.below hb, below_on kp hb⟩))))))))
        refine AllReadyI.cons rfl (fun K hK => ?_) ?_
        · go_simp
          go_wp2_with fail
          exact hK.out _ _ (below_al kp _) (.inr (.inl (.inr (.inr (.inl (.inr (.inl (⟨wz.heap.size, g10, rfl, rfl, rfl, vb_new kp, vg10.al _, vg10.ne.symm, below_al kp _⟩))))))))
        refine AllReadyI.cons rfl (fun K hK => ?_) ?_
        · go_simp
          go_wp2_with fail
          exact hK.out _ _ (below_al kp _) (.inr (.inl (.inr (.inl (.inr (.inl (⟨wz.heap.size, g10, rfl, rfl, rfl, vb_new kp, vg10.al _, vg10.ne.symm, below_al kp _⟩)))))))
        refine AllReadyI.cons rfl (fun K hK => ?_) ?_
        · go_simp
          go_wp2_with fail
          exact hK.out _ _ (below_al kp _) (.inr (.inl (.inl (.inr (.inr (.inr (.inr (⟨g10, wz.heap.size, rfl, rfl, rfl, vg10.al _, vb_new kp, vg10.ne, below_al kp _⟩))))))))
        exact AllReadyI.nil
      · obtain ⟨g10, g11, hn, rfl, rfl, vg10, vg11, eg10g11, kp⟩ := h
        obtain rfl : n = 6 := by omega
        refine ready_step (rs := [15, 16, 17]) (by kernel_rfl) (by simp) ?_
        refine AllReadyI.cons rfl (fun K hK => ?_) ?_
        · go_simp
          refine (unhide CD2 _ (below_on (unhide HB1) kp)).mono ?_
          rintro e w2 ⟨rfl, hb⟩
          go_wp2_with fail
          exact hK.out _ _ (below_on kp hb) (.inr (.inr (.inl (.inl (.inr (.inr (.inr (⟨g10, g11, rfl, rfl, rfl, vg10.below hb, vg11.below hb, eg10g11, below_on kp hb⟩))))))))
        refine AllReadyI.cons rfl (fun K hK => ?_) ?_
        · go_simp
          go_wp2_with fail
          exact hK.out _ _ (below_al kp _) (.inr (.inl (.inr (.inr (.inl (.inr (.inr (⟨wz.heap.size, g10, g11, rfl, rfl, rfl, vb_new kp, vg10.al _, vg11.al _, vg10.ne.symm, vg11.ne.symm, eg10g11, below_al kp _⟩))))))))
        refine AllReadyI.cons rfl (fun K hK => ?_) ?_
        · go_simp
          go_wp2_with fail
          exact hK.out _ _ (below_al kp _) (.inr (.inl (.inr (.inl (.inr (.inr (.inl (⟨wz.heap.size, g10, g11, rfl, rfl, rfl, vb_new kp, vg10.al _, vg11.al _, vg10.ne.symm, vg11.ne.symm, eg10g11, below_al kp _⟩))))))))
        exact AllReadyI.nil
      · obtain ⟨g9, hn, rfl, rfl, vg9, kp⟩ := h
        obtain rfl : n = 7 := by omega
        refine ready_step (rs := [15, 16, 18, 19]) (by kernel_rfl) (by simp) ?_
        refine AllReadyI.cons rfl (fun K hK => ?_) ?_
        · go_simp
          refine (unhide CD2 _ (below_on (unhide HB1) kp)).mono ?_
          rintro e w2 ⟨rfl, hb⟩
          go_wp2_with fail
          exact hK.out _ _ (below_on kp hb) (.inr (.inr (.inl (.inr (.inl (.inl (⟨g9, rfl, rfl, rfl, vg9.below hb, below_on kp hb⟩)))))))
        refine AllReadyI.cons rfl (fun K hK => ?_) ?_
        · go_simp
          go_wp2_with fail
          exact hK.out _ _ (below_al kp _) (.inr (.inl (.inr (.inr (.inr (.inl (⟨wz.heap.size, g9, rfl, rfl, rfl, vb_new kp, vg9.al _, vg9.ne.symm, below_al kp _⟩)))))))
        refine AllReadyI.cons rfl (fun K hK => ?_) ?_
        · go_simp
          go_wp2_with fail
          exact hK.out _ _ (below_al kp _) (.inr (.inl (.inr (.inl (.inr (.inl (⟨g9, wz.heap.size, rfl, rfl, rfl, vg9.al _, vb_new kp, vg9.ne, below_al kp _⟩)))))))
        refine AllReadyI.cons rfl (fun K hK => ?_) ?_
        · go_simp
          go_wp2_with fail
          exact hK.out _ _ (below_al kp _) (.inr (.inl (.inr (.inl (.inl (.inr (⟨g9, wz.heap.size, rfl, rfl, rfl, vg9.al _, vb_new kp, vg9.ne, below_al kp _⟩)))))))
        exact AllReadyI.nil
      · obtain ⟨g9, g11, hn, rfl, rfl, vg9, vg11, eg9g11, kp⟩ := h
        obtain rfl : n = 6 := by omega
        refine ready_step (rs := [15, 16, 18]) (by kernel_rfl) (by simp) ?_
        refine AllReadyI.cons rfl (fun K hK => ?_) ?_
        · go_simp
          refine (unhide CD2 _ (below_on (unhide HB1) kp)).mono ?_
          rintro e w2 ⟨rfl, hb⟩
          go_wp2_with fail
          exact hK.out _ _ (below_on kp hb) (.inr (.inr (.inl (.inr (.inl (.inr (⟨g9, g11, rfl, rfl, rfl, vg9.below hb, vg11.below hb, eg9g11, below_on kp hb⟩)))))))
        refine AllReadyI.cons rfl (fun K hK => ?_) ?_
        · go_simp
          go_wp2_with fail
          exact hK.out _ _ (below_al kp _) (.inr (.inl (.inr (.inr (.inr (.inr (.inl (⟨wz.heap.size, g9, g11, rfl, rfl, rfl, vb_new kp, vg9.al _, vg11.al _, vg9.ne.symm, vg11.ne.symm, eg9g11, below_al kp _⟩))))))))
        refine AllReadyI.cons rfl (fun K hK => ?_) ?_
        · go_simp
          go_wp2_with fail
          exact hK.out _ _ (below_al kp _) (.inr (.inl (.inr (.inl (.inr (.inr (.inl (⟨g9, wz.heap.size, g11, rfl, rfl, rfl, vg9.al _, vb_new kp, vg11.al _, vg9.ne, eg9g11, vg11.ne.symm, below_al kp _⟩))))))))
        exact AllReadyI.nil
      · obtain ⟨g9, g10, hn, rfl, rfl, vg9, vg10, eg9g10, kp⟩ := h
        obtain rfl : n = 6 := by omega
        refine ready_step (rs := [15, 16, 19]) (by kernel_rfl) (by simp) ?_
        refine AllReadyI.cons rfl (fun K hK => ?_) ?_
        · go_simp
          refine (unhide CD2 _ (below_on (unhide HB1) kp)).mono ?_
          rintro e w2 ⟨rfl, hb⟩
          go_wp2_with fail
          exact hK.out _ _ (below_on kp hb) (.inr (.inr (.inl (.inr (.inr (.inl (⟨g9, g10, rfl, rfl, rfl, vg9.below hb, vg10.below hb, eg9g10, below_on kp hb⟩)))))))
        refine AllReadyI.cons rfl (fun K hK => ?_) ?_
        · go_simp
          go_wp2_with fail
          exact hK.out _ _ (below_al kp _) (.inr (.inl (.inr (.inr (.inr (.inr (.inr (⟨wz.heap.size, g9, g10, rfl, rfl, rfl, vb_new kp, vg9.al _, vg10.al _, vg9.ne.symm, vg10.ne.symm, eg9g10, below_al kp _⟩))))))))
        refine AllReadyI.cons rfl (fun K hK => ?_) ?_
        · go_simp
          go_wp2_with fail
          exact hK.out _ _ (below_al kp _) (.inr (.inl (.inr (.inl (.inr (.inr (.inl (⟨g9, g10, wz.heap.size, rfl, rfl, rfl, vg9.al _, vg10.al _, vb_new kp, eg9g10, vg9.ne, vg10.ne, below_al kp _⟩))))))))
        exact AllReadyI.nil
      · obtain ⟨g9, g10, g11, hn, rfl, rfl, vg9, vg10, vg11, eg9g10, eg9g11, eg10g11, kp⟩ := h
        obtain rfl : n = 5 := by omega
        refine ready_step (rs := [15, 16]) (by kernel_rfl) (by simp) ?_
        refine AllReadyI.cons rfl (fun K hK => ?_) ?_
        · go_simp
          refine (unhide CD2 _ (below_on (unhide HB1) kp)).mono ?_
          rintro e w2 ⟨rfl, hb⟩
          go_wp2_with fail
          exact hK.out _ _ (below_on kp hb) (.inr (.inr (.inl (.inr (.inr (.inr (.inl (⟨g9, g10, g11, rfl, rfl, rfl, vg9.below hb, vg10.below hb, vg11.below hb, eg9g10, eg9g11, eg10g11, below_on kp hb⟩))))))))
        refine AllReadyI.cons rfl (fun K hK => ?_) ?_
        · go_simp
          go_wp2_with fail
          exact hK.out _ _ (below_al kp _) (.inr (.inr (.inl (.inl (.inl (.inl (⟨wz.heap.size, g9, g10, g11, rfl, rfl, rfl, vb_new kp, vg9.al _, vg10.al _, vg11.al _, vg9.ne.symm, vg10.ne.symm, vg11.ne.symm, eg9g10, eg9g11, eg10g11, below_al kp _⟩)))))))
        exact AllReadyI.nil
      · obtain ⟨g8, hn, rfl, rfl, vg8, kp⟩ := h
        obtain rfl : n = 7 := by omega
        refine ready_step (rs := [15, 17, 18, 19]) (by kernel_rfl) (by simp) ?_
        refine AllReadyI.cons rfl (fun K hK => ?_) ?_
        · go_simp
          refine (unhide CD2 _ (below_on (unhide HB1) kp)).mono ?_
          rintro e w2 ⟨rfl, hb⟩
          go_wp2_with fail
          exact hK.out _ _ (below_on kp hb) (.inr (.inr (.inl (.inr (.inr (.inr (.inr (⟨g8, rfl, rfl, rfl, vg8.below hb, below_on kp hb⟩))))))))
        refine AllReadyI.cons rfl (fun K hK => ?_) ?_
        · go_simp
          go_wp2_with fail
          exact hK.out _ _ (below_al kp _) (.inr (.inl (.inr (.inr (.inr (.inl (⟨g8, wz.heap.size, rfl, rfl, rfl, vg8.al _, vb_new kp, vg8.ne, below_al kp _⟩)))))))
        refine AllReadyI.cons rfl (fun K hK => ?_) ?_
        · go_simp
          go_wp2_with fail
          exact hK.out _ _ (below_al kp _) (.inr (.inl (.inr (.inr (.inl (.inr (.inl (⟨g8, wz.heap.size, rfl, rfl, rfl, vg8.al _, vb_new kp, vg8.ne, below_al kp _⟩))))))))
        refine AllReadyI.cons rfl (fun K hK => ?_) ?_
        · go_simp
          go_wp2_with fail
          exact hK.out _ _ (below_al kp _) (.inr (.inl (.inr (.inr (.inl (.inl (⟨g8, wz.heap.size, rfl, rfl, rfl, vg8.al _, vb_new kp, vg8.ne, below_al kp _⟩)))))))
        exact AllReadyI.nil
      · obtain ⟨g8, g11, hn, rfl, rfl, vg8, vg11, eg8g11, kp⟩ := h
        obtain rfl : n = 6 := by omega
        refine ready_step (rs := [15, 17, 18]) (by kernel_rfl) (by simp) ?_
        refine AllReadyI.cons rfl (fun K hK => ?_) ?_
        · go_simp
          refine (unhide CD2 _ (below_on (unhide HB1) kp)).mono ?_
          rintro e w2 ⟨rfl, hb⟩
          go_wp2_with fail
          exact hK.out _ _ (below_on kp hb) (.inr (.inr (.inr (.inl (.inl (.inl (⟨g8, g11, rfl, rfl, rfl, vg8.below hb, vg11.below hb, eg8g11, below_on kp hb⟩)))))))
        refine AllReadyI.cons rfl (fun K hK => ?_) ?_
        · go_simp
          go_wp2_with fail
          exact hK.out _ _ (below_al kp _) (.inr (.inl (.inr (.inr (.inr (.inr (.inl (⟨g8, wz.heap.size, g11, rfl, rfl, rfl, vg8.al _, vb_new kp, vg11.al _, vg8.ne, eg8g11, vg11.ne.symm, below_al kp _⟩))))))))
        refine AllReadyI.cons rfl (fun K hK => ?_) ?_
        · go_simp
          go_wp2_with fail
          exact hK.out _ _ (below_al kp _) (.inr (.inl (.inr (.inr (.inl (.inr (.inr (⟨g8, wz.heap.size, g11, rfl, rfl, rfl, vg8.al _, vb_new kp, vg11.al _, vg8.ne, eg8g11, vg11.ne.symm, below_al kp _⟩))))))))
        exact AllReadyI.nil
      · obtain ⟨g8, g10, hn, rfl, rfl, vg8, vg10, eg8g10, kp⟩ := h
        obtain rfl : n = 6 := by omega
        refine ready_step (rs := [15, 17, 19]) (by kernel_rfl) (by simp) ?_
        refine AllReadyI.cons rfl (fun K hK => ?_) ?_
        · go_simp
          refine (unhide CD2 _ (below_on (unhide HB1) kp)).mono ?_
          rintro e w2 ⟨rfl, hb⟩
          go_wp2_with fail
          exact hK.out _ _ (below_on kp hb) (.inr (.inr (.inr (.inl (.inl (.inr (⟨g8, g10, rfl, rfl, rfl, vg8.below hb, vg10.below hb, eg8g10, below_on kp hb⟩)))))))
        refine AllReadyI.cons rfl (fun K hK => ?_) ?_
        · go_simp
          go_wp2_with fail
          exact hK.out _ _ (below_al kp _) (.inr (.inl (.inr (.inr (.inr (.inr (.inr (⟨g8, wz.heap.size, g10, rfl, rfl, rfl, vg8.al _, vb_new kp, vg10.al _, vg8.ne, eg8g10, vg10.ne.symm, below_al kp _⟩))))))))
        refine AllReadyI.cons rfl (fun K hK => ?_) ?_
        · go_simp
          go_wp2_with fail
          exact hK.out _ _ (below_al kp _) (.inr (.inl (.inr (.inr (.inl (.inr (.inr (⟨g8, g10, wz.heap.size, rfl, rfl, rfl, vg8.al _, vg10.al _, vb_new kp, eg8g10, vg8.ne, vg10.ne, below_al kp _⟩))))))))
        exact AllReadyI.nil
      · obtain ⟨g8, g10, g11, hn, rfl, rfl, vg8, vg10, vg11, eg8g10, eg8g11, eg10g11, kp⟩ := h
        obtain rfl : n = 5 := by omega
        refine ready_step (rs := [15, 17]) (by kernel_rfl) (by simp) ?_
        refine AllReadyI.cons rfl (fun K hK => ?_) ?_
        · go_simp
          refine (unhide CD2 _ (below_on (unhide HB1) kp)).mono ?_
          rintro e w2 ⟨rfl, hb⟩
          go_wp2_with fail
          exact hK.out _ _ (below_on kp hb) (.inr (.inr (.inr (.inl (.inr (.inl (⟨g8, g10, g11, rfl, rfl, rfl, vg8.below hb, vg10.below hb, vg11.below hb, eg8g10, eg8g11, eg10g11, below_on kp hb⟩)))))))
        refine AllReadyI.cons rfl (fun K hK => ?_) ?_
        · go_simp
          go_wp2_with fail
          exact hK.out _ _ (below_al kp _) (.inr (.inr (.inl (.inl (.inl (.inl (⟨g8, wz.heap.size, g10, g11, rfl, rfl, rfl, vg8.al _, vb_new kp, vg10.al _, vg11.al _, vg8.ne, eg8g10, eg8g11, vg10.ne.symm, vg11.ne.symm, eg10g11, below_al kp _⟩)))))))
        exact AllReadyI.nil
      · obtain ⟨g8, g9, hn, rfl, rfl, vg8, vg9, eg8g9, kp⟩ := h
        obtain rfl : n = 6 := by omega
        refine ready_step (rs := [15, 18, 19]) (by kernel_rfl) (by simp) ?_
        refine AllReadyI.cons rfl (fun K hK => ?_) ?_
        · go_simp
          refine (unhide CD2 _ (below_on (unhide HB1) kp)).mono ?_
          rintro e w2 ⟨rfl, hb⟩
          go_wp2_with fail
          exact hK.out _ _ (below_on kp hb) (.inr (.inr (.inr (.inl (.inr (.inr (.inl (⟨g8, g9, rfl, rfl, rfl, vg8.below hb, vg9.below hb, eg8g9, below_on kp hb⟩))))))))
        refine AllReadyI.cons rfl (fun K hK => ?_) ?_
        · go_simp
          go_wp2_with fail
          exact hK.out _ _ (below_al kp _) (.inr (.inl (.inr (.inr (.inr (.inr (.inr (⟨g8, g9, wz.heap.size, rfl, rfl, rfl, vg8.al _, vg9.al _, vb_new kp, eg8g9, vg8.ne, vg9.ne, below_al kp _⟩))))))))
        refine AllReadyI.cons rfl (fun K hK => ?_) ?_
        · go_simp
          go_wp2_with fail
          exact hK.out _ _ (below_al kp _) (.inr (.inl (.inr (.inr (.inr (.inr (.inl (⟨g8, g9, wz.heap.size, rfl, rfl, rfl, vg8.al _, vg9.al _, vb_new kp, eg8g9, vg8.ne, vg9.ne, below_al kp _⟩))))))))
        exact AllReadyI.nil
      · obtain ⟨g8, g9, g11, hn, rfl, rfl, vg8, vg9, vg11, eg8g9, eg8g11, eg9g11, kp⟩ := h
        obtain rfl : n = 5 := by omega
        refine ready_step (rs := [15, 18]) (by kernel_rfl) (by simp) ?_
        refine AllReadyI.cons rfl (fun K hK => ?_) ?_
        · go_simp
          refine (unhide CD2 _ (below_on (unhide HB1) kp)).mono ?_
          rintro e w2 ⟨rfl, hb⟩
          go_wp2_with fail
          exact hK.out _ _ (below_on kp hb) (.inr (.inr (.inr (.inl (.inr (.inr (.inr (⟨g8, g9, g11, rfl, rfl, rfl, vg8.below hb, vg9.below hb, vg11.below hb, eg8g9, eg8g11, eg9g11, below_on kp hb⟩))))))))
        refine AllReadyI.cons rfl (fun K hK => ?_) ?_
        · go_simp
          go_wp2_with fail
          exact hK.out _ _ (below_al kp _) (.inr (.inr (.inl (.inl (.inl (.inl (⟨g8, g9, wz.heap.size, g11, rfl, rfl, rfl, vg8.al _, vg9.al _, vb_new kp, vg11.al _, eg8g9, vg8.ne, eg8g11, vg9.ne, eg9g11, vg11.ne.symm, below_al kp _⟩)))))))
        exact AllReadyI.nil
      · obtain ⟨g8, g9, g10, hn, rfl, rfl, vg8, vg9, vg10, eg8g9, eg8g10, eg9g10, kp⟩ := h
        obtain rfl : n = 5 := by omega
        refine ready_step (rs := [15, 19]) (by kernel_rfl) (by simp) ?_
        refine AllReadyI.cons rfl (fun K hK => ?_) ?_
        · go_simp
          refine (unhide CD2 _ (below_on (unhide HB1) kp)).mono ?_
          rintro e w2 ⟨rfl, hb⟩
          go_wp2_with fail
          exact hK.out _ _ (below_on kp hb) (.inr (.inr (.inr (.inr (.inl (.inl (⟨g8, g9, g10, rfl, rfl, rfl, vg8.below hb, vg9.below hb, vg10.below hb, eg8g9, eg8g10, eg9g10, below_on kp hb⟩)))))))
        refine AllReadyI.cons rfl (fun K hK => ?_) ?_
        · go_simp
          go_wp2_with fail
          exact hK.out _ _ (below_al kp _) (.inr (.inr (.inl (.inl (.inl (.inl (⟨g8, g9, g10, wz.heap.size, rfl, rfl, rfl, vg8.al _, vg9.al _, vg10.al _, vb_new kp, eg8g9, eg8g10, vg8.ne, eg9g10, vg9.ne, vg10.ne, below_al kp _⟩)))))))
        exact AllReadyI.nil
      · obtain ⟨g8, g9, g10, g11, hn, rfl, rfl, vg8, vg9, vg10, vg11, eg8g9, eg8g10, eg8g11, eg9g10, eg9g11, eg10g11, kp⟩ := h
        obtain rfl : n = 4 := by omega
        refine ready_step (rs := [15]) (by kernel_rfl) (by simp) ?_
        refine AllReadyI.cons rfl (fun K hK => ?_) ?_
        · go_simp
          refine (unhide CD2 _ (below_on (unhide HB1) kp)).mono ?_
          rintro e w2 ⟨rfl, hb⟩
          go_wp2_with fail
          exact hK.out _ _ (below_on kp hb) (.inr (.inr (.inr (.inr (.inl (.inr (.inl (⟨g8, g9, g10, g11, rfl, rfl, rfl, vg8.below hb, vg9.below hb, vg10.below hb, vg11.below hb, eg8g9, eg8g10, eg8g11, eg9g10, eg9g11, eg10g11, below_on kp hb⟩))))))))
        exact AllReadyI.nil
      · obtain ⟨hn, rfl, rfl, kp⟩ := h
        obtain rfl : n = 7 := by omega
        refine ready_step (rs := [16, 17, 18, 19]) (by kernel_rfl) (by simp) ?_
        refine AllReadyI.cons rfl (fun K hK => ?_) ?_
        · go_simp
          go_wp2_with fail
          exact hK.out _ _ (below_al kp _) (.inr (.inr (.inl (.inr (.inr (.inr (.inr (⟨wz.heap.size, rfl, rfl, rfl, vb_new kp, below_al kp _⟩))))))))
        refine AllReadyI.cons rfl (fun K hK => ?_) ?_
        · go_simp
          go_wp2_with fail
          exact hK.out _ _ (below_al kp _) (.inr (.inr (.inl (.inr (.inl (.inl (⟨wz.heap.size, rfl, rfl, rfl, vb_new kp, below_al kp _⟩)))))))
        refine AllReadyI.cons rfl (fun K hK => ?_) ?_
        · go_simp
          go_wp2_with fail
          exact hK.out _ _ (below_al kp _) (.inr (.inr (.inl (.inl (.inr (.inr (.inl (⟨wz.heap.size, rfl, rfl, rfl, vb_new kp, below_al kp _⟩))))))))
        refine AllReadyI.cons rfl (fun K hK => ?_) ?_
        · go_simp
          go_wp2_with fail
          exact hK.out _ _ (below_al kp _) (.inr (.inr (.inl (.inl (.inr (.inl (⟨wz.heap.size, rfl, rfl, rfl, vb_new kp, below_al kp _⟩)))))))
        exact AllReadyI.nil
      · obtain ⟨g11, hn, rfl, rfl, vg11, kp⟩ := h
        obtain rfl : n = 6 := by omega
        refine ready_step (rs := [16, 17, 18]) (by kernel_rfl) (by simp) ?_
        refine AllReadyI.cons rfl (fun K hK => ?_) ?_
        · go_simp
          go_wp2_with fail
          exact hK.out _ _ (below_al kp _) (.inr (.inr (.inr (.inl (.inl (.inl (⟨wz.heap.size, g11, rfl, rfl, rfl, vb_new kp, vg11.al _, vg11.ne.symm, below_al kp _⟩)))))))
        refine AllReadyI.cons rfl (fun K hK => ?_) ?_
        · go_simp
          go_wp2_with fail
          exact hK.out _ _ (below_al kp _) (.inr (.inr (.inl (.inr (.inl (.inr (⟨wz.heap.size, g11, rfl, rfl, rfl, vb_new kp, vg11.al _, vg11.ne.symm, below_al kp _⟩)))))))
        refine AllReadyI.cons rfl (fun K hK => ?_) ?_
        · go_simp
          go_wp2_with fail
          exact hK.out _ _ (below_al kp _) (.inr (.inr (.inl (.inl (.inr (.inr (.inr (⟨wz.heap.size, g11, rfl, rfl, rfl, vb_new kp, vg11.al _, vg11.ne.symm, below_al kp _⟩))))))))
        exact AllReadyI.nil
      · obtain ⟨g10, hn, rfl, rfl, vg10, kp⟩ := h
        obtain rfl : n = 6 := by omega
        refine ready_step (rs := [16, 17, 19]) (by kernel_rfl) (by simp) ?_
        refine AllReadyI.cons rfl (fun K hK => ?_) ?_
        · go_simp
          go_wp2_with fail
          exact hK.out _ _ (below_al kp _) (.inr (.inr (.inr (.inl (.inl (.inr (⟨wz.heap.size, g10, rfl, rfl, rfl, vb_new kp, vg10.al _, vg10.ne.symm, below_al kp _⟩)))))))
        refine AllReadyI.cons rfl (fun K hK => ?_) ?_
        · go_simp
          go_wp2_with fail
          exact hK.out _ _ (below_al kp _) (.inr (.inr (.inl (.inr (.inr (.inl (⟨wz.heap.size, g10, rfl, rfl, rfl, vb_new kp, vg10.al _, vg10.ne.symm, below_al kp _⟩)))))))
        refine AllReadyI.cons rfl (fun K hK => ?_) ?_
        · go_simp
          go_wp2_with fail
          exact hK.out _ _ (below_al kp _) (.inr (.inr (.inl (.inl (.inr (.inr (.inr (⟨g10, wz.heap.size, rfl, rfl, rfl, vg10.al _, vb_new kp, vg10.ne, below_al kp _⟩))))))))
        exact AllReadyI.nil
      · obtain ⟨g10, g11, hn, rfl, rfl, vg10, vg11, eg10g11, kp⟩ := h
        obtain rfl : n = 5 := by omega
        refine ready_step (rs := [16, 17]) (by kernel_rfl) (by simp) ?_
        refine AllReadyI.cons rfl (fun K hK => ?_) ?_
        · go_simp
          go_wp2_with fail
          exact hK.out _ _ (below_al kp _) (.inr (.inr (.inr (.inl (.inr (.inl (⟨wz.heap.size, g10, g11, rfl, rfl, rfl, vb_new kp, vg10.al _, vg11.al _, vg10.ne.symm, vg11.ne.symm, eg10g11, below_al kp _⟩)))))))
        refine AllReadyI.cons rfl (fun K hK => ?_) ?_
        · go_simp
          go_wp2_with fail
          exact hK.out _ _ (below_al kp _) (.inr (.inr (.inl (.inr (.inr (.inr (.inl (⟨wz.heap.size, g10, g11, rfl, rfl, rfl, vb_new kp, vg10.al _, vg11.al _, vg10.ne.symm, vg11.ne.symm, eg10g11, below_al kp _⟩))))))))
        exact AllReadyI.nil
      · obtain ⟨g9, hn, rfl, rfl, vg9, kp⟩ := h
        obtain rfl : n = 6 := by omega
        refine ready_step (rs := [16, 18, 19]) (by kernel_rfl) (by simp) ?_
        refine AllReadyI.cons rfl (fun K hK => ?_) ?_
        · go_simp
          go_wp2_with fail
          exact hK.out _ _ (below_al kp _) (.inr (.inr (.inr (.inl (.inr (.inr (.inl (⟨wz.heap.size, g9, rfl, rfl, rfl, vb_new kp, vg9.al _, vg9.ne.symm, below_al kp _⟩))))))))
        refine AllReadyI.cons rfl (fun K hK => ?_) ?_
        · go_simp
          go_wp2_with fail
          exact hK.out _ _ (below_al kp _) (.inr (.inr (.inl (.inr (.inr (.inl (⟨g9, wz.heap.size, rfl, rfl, rfl, vg9.al _, vb_new kp, vg9.ne, below_al kp _⟩)))))))
        refine AllReadyI.cons rfl (fun K hK => ?_) ?_
        · go_simp
          go_wp2_with fail
          exact hK.out _ _ (below_al kp _) (.inr (.inr (.inl (.inr (.inl (.inr (⟨g9, wz.heap.size, rfl, rfl, rfl, vg9.al _, vb_new kp, vg9.ne, below_al kp _⟩)))))))
        exact AllReadyI.nil
      · obtain ⟨g9, g11, hn, rfl, rfl, vg9, vg11, eg9g11, kp⟩ := h
        obtain rfl : n = 5 := by omega
        refine ready_step (rs := [16, 18]) (by kernel_rfl) (by simp) ?_
        refine AllReadyI.cons rfl (fun K hK => ?_) ?_
        · go_simp
          go_wp2_with fail
          exact hK.out _ _ (below_al kp _) (.inr (.inr (.inr (.inl (.inr (.inr (.inr (⟨wz.heap.size, g9, g11, rfl, rfl, rfl, vb_new kp, vg9.al _, vg11.al _, vg9.ne.symm, vg11.ne.symm, eg9g11, below_al kp _⟩))))))))
        refine AllReadyI.cons rfl (fun K hK => ?_) ?_
        · go_simp
          go_wp2_with fail
          exact hK.out _ _ (below_al kp _) (.inr (.inr (.inl (.inr (.inr (.inr (.inl (⟨g9, wz.heap.size, g11, rfl, rfl, rfl, vg9.al _, vb_new kp, vg11.al _, vg9.ne, eg9g11, vg11.ne.symm, below_al kp _⟩))))))))
        exact AllReadyI.nil
      · obtain ⟨g9, g10, hn, rfl, rfl, vg9, vg10, eg9g10, kp⟩ := h
        obtain rfl : n = 5 := by omega
        refine ready_step (rs := [16, 19]) (by kernel_rfl) (by simp) ?_
        refine AllReadyI.cons rfl (fun K hK => ?_) ?_
        · go_simp
          go_wp2_with fail
          exact hK.out _ _ (below_al kp _) (.inr (.inr (.inr (.inr (.inl (.inl (⟨wz.heap.size, g9, g10, rfl, rfl, rfl, vb_new kp, vg9.al _, vg10.al _, vg9.ne.symm, vg10.ne.symm, eg9g10, below_al kp _⟩)))))))
        refine AllReadyI.cons rfl (fun K hK => ?_) ?_
        · go_simp
          go_wp2_with fail
          exact hK.out _ _ (below_al kp _) (.inr (.inr (.inl (.inr (.inr (.inr (.inl (⟨g9, g10, wz.heap.size, rfl, rfl, rfl, vg9.al _, vg10.al _, vb_new kp, eg9g10, vg9.ne, vg10.ne, below_al kp _⟩))))))))
        exact AllReadyI.nil
      · obtain ⟨g9, g10, g11, hn, rfl, rfl, vg9, vg10, vg11, eg9g10, eg9g11, eg10g11, kp⟩ := h
        obtain rfl : n = 4 := by omega
        refine ready_step (rs := [16]) (by kernel_rfl) (by simp) ?_
        refine AllReadyI.cons rfl (fun K hK => ?_) ?_
        · go_simp
          go_wp2_with fail
          exact hK.out _ _ (below_al kp _) (.inr (.inr (.inr (.inr (.inl (.inr (.inl (⟨wz.heap.size, g9, g10, g11, rfl, rfl, rfl, vb_new kp, vg9.al _, vg10.al _, vg11.al _, vg9.ne.symm, vg10.ne.symm, vg11.ne.symm, eg9g10, eg9g11, eg10g11, below_al kp _⟩))))))))
        exact AllReadyI.nil
      · obtain ⟨g8, hn, rfl, rfl, vg8, kp⟩ := h
        obtain rfl : n = 6 := by omega
        refine ready_step (rs := [17, 18, 19]) (by kernel_rfl) (by simp) ?_
        refine AllReadyI.cons rfl (fun K hK => ?_) ?_
        · go_simp
          go_wp2_with fail
          exact hK.out _ _ (below_al kp _) (.inr (.inr (.inr (.inl (.inr (.inr (.inl (⟨g8, wz.heap.size, rfl, rfl, rfl, vg8.al _, vb_new kp, vg8.ne, below_al kp _⟩))))))))
        refine AllReadyI.cons rfl (fun K hK => ?_) ?_
        · go_simp
          go_wp2_with fail
          exact hK.out _ _ (below_al kp _) (.inr (.inr (.inr (.inl (.inl (.inr (⟨g8, wz.heap.size, rfl, rfl, rfl, vg8.al _, vb_new kp, vg8.ne, below_al kp _⟩)))))))
        refine AllReadyI.cons rfl (fun K hK => ?_) ?_
        · go_simp
          go_wp2_with fail
          exact hK.out _ _ (below_al kp _) (.inr (.inr (.inr (.inl (.inl (.inl (⟨g8, wz.heap.size, rfl, rfl, rfl, vg8.al _, vb_new kp, vg8.ne, below_al kp _⟩)))))))
        exact AllReadyI.nil
      · obtain ⟨g8, g11, hn, rfl, rfl, vg8, vg11, eg8g11, kp⟩ := h
        obtain rfl : n = 5 := by omega
        refine ready_step (rs := [17, 18]) (by kernel_rfl) (by simp) ?_
        refine AllReadyI.cons rfl (fun K hK => ?_) ?_
        · go_simp
          go_wp2_with fail
          exact hK.out _ _ (below_al kp _) (.inr (.inr (.inr (.inl (.inr (.inr (.inr (⟨g8, wz.heap.size, g11, rfl, rfl, rfl, vg8.al _, vb_new kp, vg11.al _, vg8.ne, eg8g11, vg11.ne.symm, below_al kp _⟩))))))))
        refine AllReadyI.cons rfl (fun K hK => ?_) ?_
        · go_simp
          go_wp2_with fail
          exact hK.out _ _ (below_al kp _) (.inr (.inr (.inr (.inl (.inr (.inl (⟨g8, wz.heap.size, g11, rfl, rfl, rfl, vg8.al _, vb_new kp, vg11.al _, vg8.ne, eg8g11, vg11.ne.symm, below_al kp _⟩)))))))
        exact AllReadyI.nil
      · obtain ⟨g8, g10, hn, rfl, rfl, vg8, vg10, eg8g10, kp⟩ := h
        obtain rfl : n = 5 := by omega
        refine ready_step (rs := [17, 19]) (by kernel_rfl) (by simp) ?_
        refine AllReadyI.cons rfl (fun K hK => ?_) ?_
        · go_simp
          go_wp2_with fail
          exact hK.out _ _ (below_al kp _) (.inr (.inr (.inr (.inr (.inl (.inl (⟨g8, wz.heap.size, g10, rfl, rfl, rfl, vg8.al _, vb_new kp, vg10.al _, vg8.ne, eg8g10, vg10.ne.symm, below_al kp _⟩)))))))
        refine AllReadyI.cons rfl (fun K hK => ?_) ?_
        · go_simp
          go_wp2_with fail
          exact hK.out _ _ (below_al kp _) (.inr (.inr (.inr (.inl (.inr (.inl (⟨g8, g10, wz.heap.size, rfl, rfl, rfl, vg8.al _, vg10.al _, vb_new kp, eg8g10, vg8.ne, vg10.ne, below_al kp _⟩)))))))
        exact AllReadyI.nil
      · obtain ⟨g8, g10, g11, hn, rfl, rfl, vg8, vg10, vg11, eg8g10, eg8g11, eg10g11, kp⟩ := h
        obtain rfl : n = 4 := by omega
        refine ready_step (rs := [17]) (by kernel_rfl) (by simp) ?_
        refine AllReadyI.cons rfl (fun K hK => ?_) ?_
        · go_simp
          go_wp2_with fail
          exact hK.out _ _ (below_al kp _) (.inr (.inr (.inr (.inr (.inl (.inr (.inl (⟨g8, wz.heap.size, g10, g11, rfl, rfl, rfl, vg8.al _, vb_new kp, vg10.al _, vg11.al _, vg8.ne, eg8g10, eg8g11, vg10.ne.symm, vg11.ne.symm, eg10g11, below_al kp _⟩))))))))
        exact AllReadyI.nil
      · obtain ⟨g8, g9, hn, rfl, rfl, vg8, vg9, eg8g9, kp⟩ := h
        obtain rfl : n = 5 := by omega
        refine ready_step (rs := [18, 19]) (by kernel_rfl) (by simp) ?_
        refine AllReadyI.cons rfl (fun K hK => ?_) ?_
        · go_simp
          go_wp2_with fail
          exact hK.out _ _ (below_al kp _) (.inr (.inr (.inr (.inr (.inl (.inl (⟨g8, g9, wz.heap.size, rfl, rfl, rfl, vg8.al _, vg9.al _, vb_new kp, eg8g9, vg8.ne, vg9.ne, below_al kp _⟩)))))))
        refine AllReadyI.cons rfl (fun K hK => ?_) ?_
        · go_simp
          go_wp2_with fail
          exact hK.out _ _ (below_al kp _) (.inr (.inr (.inr (.inl (.inr (.inr (.inr (⟨g8, g9, wz.heap.size, rfl, rfl, rfl, vg8.al _, vg9.al _, vb_new kp, eg8g9, vg8.ne, vg9.ne, below_al kp _⟩))))))))
        exact AllReadyI.nil
      · obtain ⟨g8, g9, g11, hn, rfl, rfl, vg8, vg9, vg11, eg8g9, eg8g11, eg9g11, kp⟩ := h
        obtain rfl : n = 4 := by omega
        refine ready_step (rs := [18]) (by kernel_rfl) (by simp) ?_
        refine AllReadyI.cons rfl (fun K hK => ?_) ?_
        · go_simp
          go_wp2_with fail
          exact hK.out _ _ (below_al kp _) (.inr (.inr (.inr (.inr (.inl (.inr (.inl (⟨g8, g9, wz.heap.size, g11, rfl, rfl, rfl, vg8.al _, vg9.al _, vb_new kp, vg11.al _, eg8g9, vg8.ne, eg8g11, vg9.ne, eg9g11, vg11.ne.symm, below_al kp _⟩))))))))
        exact AllReadyI.nil
      · obtain ⟨g8, g9, g10, hn, rfl, rfl, vg8, vg9, vg10, eg8g9, eg8g10, eg9g10, kp⟩ := h
        obtain rfl : n = 4 := by omega
        refine ready_step (rs := [19]) (by kernel_rfl) (by simp) ?_
        refine AllReadyI.cons rfl (fun K hK => ?_) ?_
        · go_simp
          go_wp2_with fail
          exact hK.out _ _ (below_al kp _) (.inr (.inr (.inr (.inr (.inl (.inr (.inl (⟨g8, g9, g10, wz.heap.size, rfl, rfl, rfl, vg8.al _, vg9.al _, vg10.al _, vb_new kp, eg8g9, eg8g10, vg8.ne, eg9g10, vg9.ne, vg10.ne, below_al kp _⟩))))))))
        exact AllReadyI.nil
      · obtain ⟨g8, g9, g10, g11, hn, rfl, rfl, vg8, vg9, vg10, vg11, eg8g9, eg8g10, eg8g11, eg9g10, eg9g11, eg10g11, kp⟩ := h
        obtain rfl : n = 3 := by omega
        refine ready_step (rs := [20]) (by kernel_rfl) (by simp) ?_
        refine AllReadyI.cons rfl (fun K hK => ?_) ?_
        · have y0 := vg8.2.c0
          have y1 := vg8.2.c1
          have y2 := vg8.2.f 0
          have y3 := vg8.2.f 1
          go_simp
          go_wp2_with fail
          exact hK.out _ _ (vg8.kp kp) (.inr (.inr (.inr (.inr (.inl (.inr (.inr (⟨g8, g9, g10, g11, rfl, rfl, rfl, vg8.set ux uy, vg9.off eg8g9.symm, vg10.off eg8g10.symm, vg11.off eg8g11.symm, eg8g9, eg8g10, eg8g11, eg9g10, eg9g11, eg10g11, vg8.kp kp⟩))))))))
        exact AllReadyI.nil
      · obtain ⟨g8, g9, g10, g11, hn, rfl, rfl, vg8, vg9, vg10, vg11, eg8g9, eg8g10, eg8g11, eg9g10, eg9g11, eg10g11, kp⟩ := h
        obtain rfl : n = 2 := by omega
        refine ready_step (rs := [21]) (by kernel_rfl) (by simp) ?_
        refine AllReadyI.cons rfl (fun K hK => ?_) ?_
        · have y0 := vg9.2.c0
          have y1 := vg9.2.c1
          have y2 := vg9.2.f 0
          have y3 := vg9.2.f 1
          go_simp
          go_wp2_with fail
          exact hK.out _ _ (vg9.kp kp) (.inr (.inr (.inr (.inr (.inr (.inl (⟨g8, g9, g10, g11, rfl, rfl, rfl, vg8.off eg8g9, vg9.set dx dy, vg10.off eg9g10.symm, vg11.off eg9g11.symm, eg8g9, eg8g10, eg8g11, eg9g10, eg9g11, eg10g11, vg9.kp kp⟩)))))))
        exact AllReadyI.nil
      · obtain ⟨g8, g9, g10, g11, hn, rfl, rfl, vg8, vg9, vg10, vg11, eg8g9, eg8g10, eg8g11, eg9g10, eg9g11, eg10g11, kp⟩ := h
        obtain rfl : n = 1 := by omega
        refine ready_step (rs := [22]) (by kernel_rfl) (by simp) ?_
        refine AllReadyI.cons rfl (fun K hK => ?_) ?_
        · have y0 := vg10.2.c0
          have y1 := vg10.2.c1
          have y2 := vg10.2.f 0
          have y3 := vg10.2.f 1
          go_simp
          go_wp2_with fail
          exact hK.out _ _ (vg10.kp kp) (.inr (.inr (.inr (.inr (.inr (.inr (.inl (⟨g8, g9, g10, g11, rfl, rfl, rfl, vg8.off eg8g10, vg9.off eg9g10, vg10.set vx vy, vg11.off eg10g11.symm, eg8g9, eg8g10, eg8g11, eg9g10, eg9g11, eg10g11, vg10.kp kp⟩))))))))
        exact AllReadyI.nil
      · obtain ⟨g8, g9, g10, g11, hn, rfl, rfl, vg8, vg9, vg10, vg11, eg8g9, eg8g10, eg8g11, eg9g10, eg9g11, eg10g11, kp⟩ := h
        obtain rfl : n = 0 := by omega
        refine ready_step (rs := [23]) (by kernel_rfl) (by simp) ?_
        refine AllReadyI.cons rfl (fun K hK => ?_) ?_
        · have y0 := vg11.2.c0
          have y1 := vg11.2.c1
          have y2 := vg11.2.f 0
          have y3 := vg11.2.f 1
          go_simp
          go_wp2_with fail
          exact hK.out _ _ (vg11.kp kp) (.inr (.inr (.inr (.inr (.inr (.inr (.inr (⟨g8, g9, g10, g11, rfl, rfl, rfl, vg8.off eg8g11, vg9.off eg9g11, vg10.off eg10g11, vg11.set fx fy, eg8g9, eg8g10, eg8g11, eg9g10, eg9g11, eg10g11, vg11.kp kp⟩))))))))
        exact AllReadyI.nil
      · obtain ⟨_, _, _, _, hn, _⟩ := h
        cases hn
  case rest =>
    obtain ⟨g8, g9, g10, g11, rfl, rfl, rfl, rfl, v8, v9, v10, v11, _, _, _, _, hA⟩ := hcut
    obtain ⟨w4, rfl⟩ : ∃ w4, w4 = wc := ⟨wc, rfl⟩
    have V8 := hide v8
    have V9 := hide v9
    have V10 := hide v10
    have V11 := hide v11
    have HB4 := hide (below_on (unhide HB1) hA)
    have a0 := v8.c0; have a1 := v8.c1; have b0 := v9.c0; have b1 := v9.c1; have c0 := v10.c0; have c1 := v10.c1; have d0 := v11.c0; have d1 := v11.c1
    clear v8 v9 v10 v11 hA R A0 HS HB1 CU1 CU2 CD1 CD2
    go_wp2_with fail
    refine (unhide CL1 _).mono ?_
    rintro e w5 ⟨rfl, hb⟩
    have HB5 := hide (below_on (unhide HB4) hb)
    have X8 := (unhide V8).below hb
    have X9 := (unhide V9).below hb
    have X10 := (unhide V10).below hb
    have X11 := (unhide V11).below hb
    clear a0 a1 b0 b1 c0 c1 d0 d1 hb V8 V9 V10 V11 CL1 HB4
    have a0 := X8.c0; have a1 := X8.c1; have b0 := X9.c0; have b1 := X9.c1; have c0 := X10.c0; have c1 := X10.c1; have d0 := X11.c0; have d1 := X11.c1
    cases l1
    case true =>
      go_wp2
      go_ret
      exact ⟨ret_bool (by rw [unhide HA]; rfl), unhide HB5⟩
    clear X8 X9 X10 X11
    go_wp2_with fail
    refine (unhide CL2 _).mono ?_
    rintro e w6 ⟨rfl, hb⟩
    have HB6 := hide (below_on (unhide HB5) hb)
    clear a0 a1 b0 b1 c0 c1 d0 d1 hb CL2 HB5
    cases l2
    case true =>
      go_wp2
      go_ret
      exact ⟨ret_bool (by rw [unhide HA]; rfl), unhide HB6⟩
    obtain ⟨bl, hbl⟩ : ∃ z, Op.bytesLess (bs na).toList (bs nb).toList = z := ⟨_, rfl⟩
    have HBL := hide (show Op.bytesLess na nb = bl by rw [← hbl]; simp [bs])
    go_wp2
    go_ret
    exact ⟨ret_bool (by rw [unhide HA, unhide HBL]; rfl), unhide HB6⟩
end Go.Proofs.YtbgamlegiikggaaGreat
