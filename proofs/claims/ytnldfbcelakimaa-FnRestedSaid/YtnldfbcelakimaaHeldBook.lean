/-
  A book as an answer: marked, and found marked.
-/
import Derived.Test.YtnldfbcelakimaaHeld
import Derived.Test.YtnldfbcelakimaaTake
namespace Go.Proofs.Ytnldfbcelakimaa
open Go.RowKit Wire

set_option maxRecDepth 100000 in
theorem markOrderS_noneFrom (A : Option Addr) (cap s : Nat) (w : World) : Calls Try.prog 90 #[.slice A 0 cap, .int .i64 (s : Int)] w fun e w' => e = .returned (.int .i64 (s : Int)) ∧ w' = w := by
  go_enter Try.func90, Try.ntmps90
  go_wp2_with fail
  go_loopw [1, 5] (fun kv i wr => i = .int .i64 0 ∧ kv = .int .i64 (s : Int) ∧ wr = w) (fun _ _ _ => 0)
  case atStart => exact ⟨rfl, rfl, by first | trivial | rfl⟩
  case round =>
    obtain ⟨rfl, rfl, rfl⟩ := hrel
    go_wp2_with fail
    go_ret
    exact ⟨rfl, by first | trivial | rfl⟩
set_option maxRecDepth 100000 in
theorem heldOrderS_noneFrom (A : Option Addr) (cap s : Nat) (w : World) : Calls Try.prog 91 #[.slice A 0 cap, .int .i64 (s : Int)] w fun e w' => e = .returned (.int .i64 (s : Int)) ∧ w' = w := by
  go_enter Try.func91, Try.ntmps91
  go_wp2_with fail
  go_loopw [1, 5] (fun kv i wr => i = .int .i64 0 ∧ kv = .int .i64 (s : Int) ∧ wr = w) (fun _ _ _ => 0)
  case atStart => exact ⟨rfl, rfl, by first | trivial | rfl⟩
  case round =>
    obtain ⟨rfl, rfl, rfl⟩ := hrel
    go_wp2_with fail
    go_ret
    exact ⟨rfl, by first | trivial | rfl⟩
/-- an answer's rows bear the marks from s on -/
def MarkedFrom (s : Nat) (w : World) (v : Value) (n : Nat) : Prop := (n = 0 ∧ ∃ A c, v = .slice A 0 c) ∨ ∃ g cap f M, v = .slice (some ⟨g, 0, none⟩) n cap ∧ n * 4 ≤ M ∧ w.rowIs g 36 M (markFrom s f (n * 4))
theorem MarkedFrom.below {s : Nat} {w w' : World} {v : Value} {n : Nat} (h : MarkedFrom s w v n) (hb : Below w.heap.size w w') : MarkedFrom s w' v n := by
  rcases h with h | ⟨g, cap, f, M, h1, h2, h3⟩
  · exact .inl h
  · exact .inr ⟨g, cap, f, M, h1, h2, h3.of_block (hb.block g h3.lt)⟩
theorem MarkedFrom.apart {s : Nat} {w w' : World} {v : Value} {n : Nat} {row : Option Nat} (h : MarkedFrom s w v n) (hg : w.grownBy w' row) (hr : ∀ q, v.ownBlock = some q → row ≠ some q) : MarkedFrom s w' v n := by
  rcases h with h | ⟨g, cap, f, M, h1, h2, h3⟩
  · exact .inl h
  · exact .inr ⟨g, cap, f, M, h1, h2, h3.of_block (hg.block g h3.lt (fun e => hr g (by rw [h1]; rfl) e.symm))⟩
theorem markOrderS_anyFrom (B s : Nat) (v : Value) (n : Nat) (xs : List Value) (w : World) (ho : w.ownsRow B 36 4 v n xs) (hn : n ≤ 1048576) (hs : s ≤ 1073741824) :
    Calls Try.prog 90 #[v, .int .i64 (s : Int)] w fun e w' => e = .returned (.int .i64 ((n : Int) * 4 + (s : Int))) ∧ MarkedFrom s w' v n ∧ w.grownBy w' v.ownBlock := by
  rcases Nat.eq_zero_or_pos n with rfl | hpos
  · obtain ⟨A, c, rfl, _, _⟩ := own_slice ho
    exact (markOrderS_noneFrom A c s w).mono fun e w' ⟨he, hw⟩ => ⟨by rw [he]; simp, .inl ⟨rfl, A, c, rfl⟩, by rw [hw]; exact World.grownBy.refl _ _⟩
  · obtain ⟨g, cap, rfl, _, _⟩ := ho.form hpos
    obtain ⟨f, M, h1, h2⟩ := row_of_own ho
    exact (markOrderS_from g n cap M s f w h2 h1 hn hs).mono fun e w' ⟨he, hr, hg⟩ => ⟨he, .inr ⟨g, cap, f, M, rfl, h1, hr⟩, hg⟩
theorem heldOrderS_anyFrom (s : Nat) (v : Value) (n : Nat) (w : World) (h : MarkedFrom s w v n) (hn : n ≤ 1048576) (hs : s ≤ 1073741824) :
    Calls Try.prog 91 #[v, .int .i64 (s : Int)] w fun e w' => e = .returned (.int .i64 ((n : Int) * 4 + (s : Int))) ∧ w' = w := by
  rcases h with ⟨rfl, A, c, rfl⟩ | ⟨g, cap, f, M, rfl, h2, h3⟩
  · exact (heldOrderS_noneFrom A c s w).mono fun e w' ⟨he, hw⟩ => ⟨by rw [he]; simp, hw⟩
  · exact heldOrderS_from g n cap M s f w h3 h2 hn hs
end Go.Proofs.Ytnldfbcelakimaa
