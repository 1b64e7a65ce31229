/-
  A law's three looks at a slice of texts: equal to another, marked, the marks held.
-/
import Derived.Test.YtfhjdelokhibhaaStrs
import Derived.Deep.RegionWith
namespace Go.Proofs.Ytfhjdelokhibhaa
open Go.RowKit Wire

set_option linter.unusedSimpArgs false in
set_option maxHeartbeats 1600000 in
set_option maxRecDepth 100000 in
theorem eqStringS_same (A B : Option Addr) (n c d : Nat) (l : List ByteArray) (w : World) (hA : SRow w w.heap.size A n l) (hB : SRow w w.heap.size B n l) (hn : n ≤ 1048576) :
    Calls Try.prog 37 #[.slice A n c, .slice B n d] w fun e w' => e = .returned (.bool true) ∧ Below w.heap.size w w' := by
  go_enter Try.func37, Try.ntmps37
  go_wp2_with fail
  go_loopw [5] (fun i wr => ∃ k : Nat, k ≤ n ∧ i = .int .i64 (k : Int) ∧ Below w.heap.size w wr) (fun i _ => n - (intOf i).toNat)
  case atStart => exact ⟨0, Nat.zero_le _, rfl, Below.refl _ _⟩
  case round =>
    obtain ⟨k, hk, rfl, hbel⟩ := hrel
    by_cases hlt : k < n
    · have hbs := hbel.size
      obtain ⟨b, hb, rfl, h0⟩ := hA.below (Nat.le_refl _) hbel (by omega)
      obtain ⟨b', hb', rfl, h0'⟩ := hB.below (Nat.le_refl _) hbel (by omega)
      have p0 := h0 k hlt
      have p1 := h0' k hlt
      generalize l.getD k ⟨#[]⟩ = x at p0 p1
      clear hA hB h0 h0'
      go_wp2_with fail
      go_region
      all_goals go_wp2_with fail
      all_goals go_roundw
      case rel => exact ⟨k + 1, by omega, by go_num, hbel.drew⟩
      case measure => simp [intOf]; omega
    · obtain rfl : k = n := by omega
      go_wp2_with fail
      go_ret
      exact ⟨rfl, hbel⟩
set_option maxHeartbeats 400000 in
set_option maxRecDepth 100000 in
theorem markStringS_none (A : Option Addr) (c : Nat) (w : World) :
    Calls Try.prog 38 #[.slice A 0 c, .int .i64 1] w fun e w' => e = .returned (.int .i64 1) ∧ w' = w := by
  go_enter Try.func38, Try.ntmps38
  go_wp2_with fail
  go_loopw [1, 5] (fun kv i wr => kv = .int .i64 1 ∧ i = .int .i64 0 ∧ wr = w) (fun _ _ _ => 0)
  case atStart => exact ⟨rfl, rfl, by first | trivial | rfl⟩
  case round =>
    obtain ⟨rfl, rfl, rfl⟩ := hrel
    go_wp2_with fail
    go_ret
    exact ⟨rfl, by first | trivial | rfl⟩
set_option maxHeartbeats 400000 in
set_option maxRecDepth 100000 in
theorem heldStringS_none (A : Option Addr) (c : Nat) (w : World) :
    Calls Try.prog 39 #[.slice A 0 c, .int .i64 1] w fun e w' => e = .returned (.int .i64 1) ∧ w' = w := by
  go_enter Try.func39, Try.ntmps39
  go_wp2_with fail
  go_loopw [1, 5] (fun kv i wr => kv = .int .i64 1 ∧ i = .int .i64 0 ∧ wr = w) (fun _ _ _ => 0)
  case atStart => exact ⟨rfl, rfl, by first | trivial | rfl⟩
  case round =>
    obtain ⟨rfl, rfl, rfl⟩ := hrel
    go_wp2_with fail
    go_ret
    exact ⟨rfl, by first | trivial | rfl⟩
/-- an answer's texts bear the marks -/
def MarkedS (w : World) (v : Value) (n : Nat) : Prop := (n = 0 ∧ ∃ A c, v = .slice A 0 c) ∨ ∃ g cap f M, v = .slice (some ⟨g, 0, none⟩) n cap ∧ n ≤ M ∧ w.rowIs g 9 M (markS f n)
theorem MarkedS.below {w w' : World} {v : Value} {n : Nat} (h : MarkedS w v n) (hb : Below w.heap.size w w') : MarkedS w' v n := by
  rcases h with h | ⟨g, cap, f, M, h1, h2, h3⟩
  · exact .inl h
  · exact .inr ⟨g, cap, f, M, h1, h2, h3.of_block (hb.block g h3.lt)⟩
theorem markStringS_any (B : Nat) (v : Value) (n : Nat) (xs : List Value) (w : World) (ho : w.ownsRow B 9 1 v n xs) (hn : n ≤ 1048576) :
    Calls Try.prog 38 #[v, .int .i64 1] w fun e w' => e = .returned (.int .i64 ((n : Int) + 1)) ∧ MarkedS w' v n ∧ w.grownBy w' v.ownBlock := by
  rcases Nat.eq_zero_or_pos n with rfl | hpos
  · obtain ⟨A, c, rfl, _, _⟩ := own_slice ho
    exact (markStringS_none A c w).mono fun e w' ⟨he, hw⟩ => ⟨by rw [he]; rfl, .inl ⟨rfl, A, c, rfl⟩, by rw [hw]; exact World.grownBy.refl _ _⟩
  · obtain ⟨g, cap, rfl, _, _⟩ := ho.form hpos
    obtain ⟨f, M, h1, h2⟩ := row_of_own ho
    exact (markStringS_own g n cap M f w h2 (by omega) hn).mono fun e w' ⟨he, hr, hg⟩ => ⟨he, .inr ⟨g, cap, f, M, rfl, by omega, hr⟩, hg⟩
theorem heldStringS_any (v : Value) (n : Nat) (w : World) (h : MarkedS w v n) (hn : n ≤ 1048576) :
    Calls Try.prog 39 #[v, .int .i64 1] w fun e w' => e = .returned (.int .i64 ((n : Int) + 1)) ∧ Below w.heap.size w w' := by
  rcases h with ⟨rfl, A, c, rfl⟩ | ⟨g, cap, f, M, rfl, h2, h3⟩
  · exact (heldStringS_none A c w).mono fun e w' ⟨he, hw⟩ => ⟨by rw [he]; rfl, by rw [hw]; exact Below.refl _ _⟩
  · exact heldStringS_own g n cap M f w h3 h2 hn
end Go.Proofs.Ytfhjdelokhibhaa
