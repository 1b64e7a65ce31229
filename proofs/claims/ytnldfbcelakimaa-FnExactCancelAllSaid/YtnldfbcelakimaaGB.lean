/-
  MarkBook, LawCell.
-/
import Derived.Test.YtnldfbcelakimaaOrd
import Derived.Test.YtnldfbcelakimaaOwn
namespace Go.Proofs.Ytnldfbcelakimaa
open Go.RowKit Wire

set_option maxHeartbeats 1600000 in
set_option maxRecDepth 100000 in
theorem markOrderS_at (g n cap M s : Nat) (w : World) (hr : ∃ f, w.rowIs g 36 M f) (hn : n * 4 ≤ M) (hb : n ≤ 1048576) (hs : s ≤ 1073741824) :
    Calls Try.prog 90 #[.slice (some ⟨g, 0, none⟩) n cap, .int .i64 (s : Int)] w fun e w' => e = .returned (.int .i64 ((n : Int) * 4 + (s : Int))) ∧ w.grownBy w' (some g) := by
  obtain ⟨f, hr⟩ := hr
  go_enter Try.func90, Try.ntmps90
  go_wp2_with fail
  go_loopw [1, 5] (fun kv i wr => ∃ k : Nat, k ≤ n ∧ i = .int .i64 (k : Int) ∧ kv = .int .i64 ((k : Int) * 4 + (s : Int)) ∧ (∃ f, wr.rowIs g 36 M f) ∧ w.grownBy wr (some g)) (fun _ i _ => n - (intOf i).toNat)
  case atStart => exact ⟨0, Nat.zero_le _, rfl, by go_num, ⟨f, hr⟩, World.grownBy.refl _ _⟩
  case round =>
    obtain ⟨k, hk, rfl, rfl, ⟨f, hrow⟩, hg⟩ := hrel
    by_cases hlt : k < n
    · have z := hrow.frozen
      have hk8 : (k + 1) * 4 ≤ M := Nat.le_trans (Nat.mul_le_mul_right _ hlt) hn
      have c0 : wr.cell? ⟨g, k * 4, none⟩ = _ := hrow.cell (i := k * 4) (by omega)
      have c1 : wr.cell? ⟨g, k * 4 + 1, none⟩ = _ := hrow.cell (i := k * 4 + 1) (by omega)
      have c2 : wr.cell? ⟨g, k * 4 + 2, none⟩ = _ := hrow.cell (i := k * 4 + 2) (by omega)
      have c3 : wr.cell? ⟨g, k * 4 + 3, none⟩ = _ := hrow.cell (i := k * 4 + 3) (by omega)
      go_wp2_with fail
      go_roundw
      case rel =>
        exact ⟨k + 1, by omega, by go_num, by go_num, ⟨_, (((hrow.set _ _).set _ _).set _ _).set _ _⟩, (mark_set (mark_set (mark_set (mark_set hg _ _) _ _) _ _) _ _)⟩
      case measure => simp [intOf]; omega
    · obtain rfl : k = n := by omega
      go_wp2_with fail
      go_ret
      exact ⟨rfl, hg⟩
set_option maxHeartbeats 1600000 in
set_option maxRecDepth 100000 in
theorem markBook_any (g f n c m d M1 M2 : Nat) (w : World) (h1 : ∃ h, w.rowIs g 36 M1 h) (h2 : ∃ h, w.rowIs f 36 M2 h) (hgf : g ≠ f) (hn : n * 4 ≤ M1) (hm : m * 4 ≤ M2) (hn1 : n ≤ 1048576) (hm1 : m ≤ 1048576) :
    Calls Try.prog 39 #[.agg #[.slice (some ⟨g, 0, none⟩) n c, .slice (some ⟨f, 0, none⟩) m d], .int .i64 1] w fun e w' => (∃ k : Int, 0 ≤ k ∧ e = .returned (.int .i64 k)) ∧ ∃ o wa, (w.alloc o).grownBy wa (some g) ∧ wa.grownBy w' (some f) := by
  obtain ⟨r1, h1⟩ := h1
  obtain ⟨r2, h2⟩ := h2
  have l1 := h1.lt
  have l2 := h2.lt
  have h1 := h1.alloc (.cells #[.slice (some ⟨g, 0, none⟩) n c, .slice (some ⟨f, 0, none⟩) m d] 26)
  have h2 := h2.alloc (.cells #[.slice (some ⟨g, 0, none⟩) n c, .slice (some ⟨f, 0, none⟩) m d] 26)
  have k0 : (w.alloc (.cells #[.slice (some ⟨g, 0, none⟩) n c, .slice (some ⟨f, 0, none⟩) m d] 26)).heap[w.heap.size]? = some (.cells #[.slice (some ⟨g, 0, none⟩) n c, .slice (some ⟨f, 0, none⟩) m d] 26 (0, 0)) := heap_alloc_new w _
  go_enter Try.func39, Try.ntmps39
  go_wp2_with fail
  refine (markOrderS_at g n c M1 1 _ ⟨r1, h1⟩ hn hn1 (by omega)).mono ?_
  rintro e w1 ⟨rfl, hg1⟩
  have k1 := (hg1.block w.heap.size (by simp) (fun e => by injection e with e; omega)).trans k0
  have x0 := cell_of_row w1 w.heap.size 0 _ _ (0, 0) k1
  have x1 := cell_of_row w1 w.heap.size 1 _ _ (0, 0) k1
  simp at x0 x1
  have h2 := h2.of_block (hg1.block f h2.lt (fun e => by injection e with e; omega))
  clear k0 h1 k1
  go_wp2_with fail
  have hm2 := markOrderS_at f m d M2 (n * 4 + 1) w1 ⟨r2, h2⟩ hm hm1 (by omega)
  rw [show ((n * 4 + 1 : Nat) : Int) = (n : Int) * 4 + 1 from by omega] at hm2
  refine hm2.mono ?_
  rintro e w2 ⟨rfl, hg2⟩
  clear x0 x1 hm2
  go_wp2_with fail
  go_ret
  exact ⟨⟨_, by omega, rfl⟩, _, w1, hg1, hg2⟩
end Go.Proofs.Ytnldfbcelakimaa

namespace Go.Proofs.Ytnldfbcelakimaa
open Go.RowKit

theorem cell2 {w : World} {S : Nat} {a b : Value} {T : TypeId} (h : w.heap[S]? = some (.cells #[a, b] T (0, 0))) : w.cell? ⟨S, 0, none⟩ = some a ∧ w.cell? ⟨S, 1, none⟩ = some b := by
  refine ⟨?_, ?_⟩ <;> simp [World.cell?, h]
end Go.Proofs.Ytnldfbcelakimaa
