/-
  SamO, TkP.
-/
import Derived.Test.YtdjmejjponlfoabOrd
import Derived.Test.YtdjmejjponlfoabBookP
import Derived.Test.YtdjmejjponlfoabTake
import Derived.Test.YtdjmejjponlfoabFind
namespace Go.Proofs.Ytdjmejjponlfoab
open Go.RowKit Wire

set_option maxHeartbeats 1600000 in
set_option maxRecDepth 100000 in
theorem sameBook_same (A1 A2 B1 B2 : Option Addr) (n m c1 c2 d1 d2 : Nat) (za zb : List Int) (w : World) (h1 : BookIn w w.heap.size A1 n B1 m za zb) (h2 : BookIn w w.heap.size A2 n B2 m za zb) (hn : n ≤ 1048576) (hm : m ≤ 1048576) :
    Calls Try.prog 14 #[.agg #[.slice A1 n c1, .slice B1 m d1], .agg #[.slice A2 n c2, .slice B2 m d2]] w fun e w' => e = .returned (.bool true) ∧ Below w.heap.size w w' := by
  go_enter Try.func14, Try.ntmps14
  go_wp2_with fail
  obtain ⟨k0, k1⟩ := two_blocks w (.cells #[.slice A1 n c1, .slice B1 m d1] 26) (.cells #[.slice A2 n c2, .slice B2 m d2] 26)
  have hb0 : Below w.heap.size w ((w.alloc (.cells #[.slice A1 n c1, .slice B1 m d1] 26)).alloc (.cells #[.slice A2 n c2, .slice B2 m d2] 26)) := ((Below.refl _ _).alloc (Nat.le_refl _) _).alloc (by simp) _
  have hs0 : ((w.alloc (.cells #[.slice A1 n c1, .slice B1 m d1] 26)).alloc (.cells #[.slice A2 n c2, .slice B2 m d2] 26)).heap.size = w.heap.size + 2 := by simp
  have i1 := h1.later hb0
  have i2 := h2.later hb0
  generalize ((w.alloc (.cells #[.slice A1 n c1, .slice B1 m d1] 26)).alloc (.cells #[.slice A2 n c2, .slice B2 m d2] 26)) = w0 at *
  refine (sameOrders_same A1 A2 n c1 c2 za w0 i1.1 i2.1 hn).mono ?_
  rintro e w1 ⟨rfl, hb1⟩
  have a1 := (hb1.cell (p := ⟨w.heap.size, 1, none⟩) (by rw [hs0]; show w.heap.size < _; omega)).trans (cell_of_row w0 (w.heap.size) 1 _ _ (0, 0) k0)
  have b1 := (hb1.cell (p := ⟨w.heap.size + 1, 1, none⟩) (by rw [hs0]; show w.heap.size + 1 < _; omega)).trans (cell_of_row w0 (w.heap.size + 1) 1 _ _ (0, 0) k1)
  simp at a1 b1
  have j1 := i1.later hb1
  have j2 := i2.later hb1
  have hb1 := ord_later hb0 hb1
  clear k0 k1 hb0 i1 i2 h1 h2
  go_wp2_with fail
  refine (sameOrders_same B1 B2 m d1 d2 zb w1 j1.2 j2.2 hm).mono ?_
  rintro e w2 ⟨rfl, hb2⟩
  go_wp2_with fail
  go_ret
  exact ⟨rfl, ord_later hb1 hb2⟩
end Go.Proofs.Ytdjmejjponlfoab

namespace Go.Proofs.Ytdjmejjponlfoab
open Go.RowKit Wire

theorem seen_at' {f : Nat → Int} {x : Int} {k : Nat} (h : f k = x) : ∀ n, k < n → seenB f x n = true
  | 0, hk => absurd hk (Nat.not_lt_zero k)
  | n + 1, hk => by
    rw [seenB, Bool.or_eq_true]
    rcases Nat.lt_or_ge k n with hl | hl
    · exact .inl (seen_at' h n hl)
    · obtain rfl : k = n := by omega
      exact .inr (by simp [h])
theorem idA_at1 {za zb : List Int} {n k : Nat} (h : k < n) : idA za n zb k = num za (k * 4) := if_pos h
theorem idA_at2 {za zb : List Int} {n k : Nat} : idA za n zb (n + k) = num zb (k * 4) := by
  unfold idA
  rw [if_neg (by omega), show n + k - n = k by omega]
end Go.Proofs.Ytdjmejjponlfoab
