/-
  The library's table of powers of ten, out of the row's condition; it stays as it is.
-/
import Derived.Test.YtidcpijiklpfkaaDoorDecI
import Derived.MakeChecks
import Derived.Lib.LaidTab
import Derived.KernelRfl
import Derived.Stop.LaidErr
namespace Go.Proofs.YtidcpijiklpfkaaDoor
open Go.RowKit Wire

theorem pow_type : Tryd.prog.globalNamed "internal/strconv.uint64pow10" = some 2 ∧ (Tryd.prog.globals[2]?).map (·.type) = some 134 ∧ Tryd.prog.underlying 134 = some (.array 20 111) ∧ Tryd.prog.underlying 111 = some (.int .u64) ∧ Tryd.prog.cellsOf 111 = 1 ∧ Tryd.prog.cellsOf 134 = 20 :=
  ⟨by kernel_rfl, by kernel_rfl, by kernel_rfl, by kernel_rfl, by kernel_rfl, by kernel_rfl⟩
theorem tab_below {w w' : World} (h : Lib.TabIs Tryd.prog w "internal/strconv.uint64pow10" .u64 Lib.pow10Tab) (hb : Below w.heap.size w w') : Lib.TabIs Tryd.prog w' "internal/strconv.uint64pow10" .u64 Lib.pow10Tab := by
  have hg := pow_type.1
  generalize 2 = g at hg
  unfold Lib.TabIs World.var? at h ⊢
  rw [hg] at h ⊢
  simp only [Option.bind_some] at h ⊢
  have hlt : g < w.heap.size := by
    rcases Nat.lt_or_ge g w.heap.size with h' | h'
    · exact h'
    · rw [Array.getElem?_eq_none h'] at h; cases h
  rw [hb.block g hlt]
  exact h
theorem tab_laid {w : World} (h : laidMetH Tryd.prog Rows.fnExactFieldsTextRow.laid w) : Lib.TabIs Tryd.prog w "internal/strconv.uint64pow10" .u64 Lib.pow10Tab := by
  rw [MakeChecks.laidMetH_plain _ _ _ (by kernel_rfl)] at h
  obtain ⟨h1, h2, h3, h4, h5, h6⟩ := pow_type
  exact Lib.tabIs_of_head h1 h2 h3 h4 h5 h6 h.tail.tail
end Go.Proofs.YtidcpijiklpfkaaDoor
