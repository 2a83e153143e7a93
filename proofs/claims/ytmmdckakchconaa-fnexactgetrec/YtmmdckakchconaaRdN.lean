/-
  A new reader: what building, making and storing its variable does; walks over the dump.
-/
import Derived.Test.YtmmdckakchconaaWpL
import Derived.Test.YtmmdckakchconaaRdI
namespace Go.Proofs.Ytmmdckakchconaa
open Go.RowKit
set_option linter.unusedVariables false
/-- the cells of a reader that stands at the beginning of s -/
def rdA (s : ByteArray) : Array Value := #[.string s, .int .i64 0, .int .i64 0, .int .u32 0, .int .i32 0, .int .u32 0, .int .u32 0, .int .u32 0, .int .u32 0, .int .u32 0, .int .u32 0, .int .u32 0, .int .u32 0, .int .u32 0, .int .u32 0, .int .u32 0, .int .u32 0, .int .u32 0, .int .u32 0, .int .u32 0, .int .u32 0, .int .u32 0]
theorem rdA_info : (Try.prog.info? 58).map (fun i => (i.zero, i.size)) = some (some (.agg (rdA ⟨#[]⟩)), 22) := by kernel_rfl
theorem rdA_one (s : ByteArray) : (rdA s).all (·.oneCell') = true := by kernel_rfl
theorem rd_alloc (w : World) (v : Value) : (Instr.alloc 58 true v).run Try.prog w = .ok (.pointer (some ⟨w.heap.size, 0, none⟩)) (w.alloc (.cells (rdA ⟨#[]⟩) 58)) := by
  have h := (zero_of_info rdA_info).1
  unfold Instr.alloc
  rw [Sem.run_bind, h]
  rfl
theorem rd_store (s : ByteArray) (w : World) : (Instr.storeAt 58 (.pointer (some ⟨w.heap.size, 0, none⟩)) (.agg (rdA s))).run Try.prog (w.alloc (.cells (rdA ⟨#[]⟩) 58)) = .ok () (w.alloc (.cells (rdA s) 58)) :=
  run_storeAt_new w 58 (rdA ⟨#[]⟩) (rdA s) (by rw [(zero_of_info rdA_info).2]; rfl) rfl (rdA_one s)
theorem rd_build (s : ByteArray) (w : World) : (Instr.build 58 #[(0, .string s)]).run Try.prog w = .ok (.agg (rdA s)) w := by kernel_rfl
theorem Rd.newA (w : World) (s : ByteArray) : Rd (w.alloc (.cells (rdA s) 58)) w.heap.size s 0 0 := Rd.new w s
end Go.Proofs.Ytmmdckakchconaa
