/-
  The exact law of DepthDelta.
-/
import Derived.Test.YtfodkefaflpicaaDeltP
namespace Go.Proofs.Ytfodkefaflpicaa
open Go.RowKit Wire

set_option maxHeartbeats 1600000 in
set_option maxRecDepth 100000 in
theorem markLevelS_from (g n cap M : Nat) (K0 : Int) (f : Nat → Value) (w : World) (hr : w.rowIs g 94 M f) (hn : n * 3 ≤ M) (hb : n ≤ 1048576) (hK0 : 0 ≤ K0) (hK : K0 ≤ 16777216) :
    Calls Try.prog 28 #[.slice (some ⟨g, 0, none⟩) n cap, .int .i64 K0] w fun e w' => (∃ z : Int, 0 ≤ z ∧ z ≤ K0 + 3145728 ∧ e = .returned (.int .i64 z)) ∧ w.grownBy w' (some g) := by
  go_enter Try.func28, Try.ntmps28
  go_wp2_with fail
  go_loopw [1, 5] (fun kv i wr => ∃ k : Nat, k ≤ n ∧ i = .int .i64 (k : Int) ∧ kv = .int .i64 (K0 + (k : Int) * 3) ∧ (∃ f', wr.rowIs g 94 M f') ∧ w.grownBy wr (some g)) (fun _ i _ => n - (intOf i).toNat)
  case atStart => exact ⟨0, Nat.zero_le _, rfl, by simp, ⟨f, hr⟩, World.grownBy.refl _ _⟩
  case round =>
    obtain ⟨k, hk, rfl, rfl, ⟨f', hrow⟩, hg⟩ := hrel
    by_cases hlt : k < n
    · have z := hrow.frozen
      have hk8 : (k + 1) * 3 ≤ M := Nat.le_trans (Nat.mul_le_mul_right _ hlt) hn
      have c0 : wr.cell? ⟨g, k * 3, none⟩ = _ := hrow.cell (i := k * 3) (by omega)
      have c1 : wr.cell? ⟨g, k * 3 + 1, none⟩ = _ := hrow.cell (i := k * 3 + 1) (by omega)
      have c2 : wr.cell? ⟨g, k * 3 + 2, none⟩ = _ := hrow.cell (i := k * 3 + 2) (by omega)
      go_wp2_with fail
      go_roundw
      case rel => exact ⟨k + 1, by omega, by go_num, by go_num, ⟨_, ((hrow.set _ _).set _ _).set _ _⟩, mark_set (mark_set (mark_set hg _ _) _ _) _ _⟩
      case measure => simp [intOf]; omega
    · obtain rfl : k = n := by omega
      go_wp2_with fail
      go_ret
      exact ⟨⟨_, by omega, by omega, rfl⟩, hg⟩
theorem delt_small (side : Int) (za : List Int) (n : Nat) (zb : List Int) (m : Nat) : (dltZ side za n zb m).length ≤ (n + m) * 3 := by
  obtain ⟨j, h1, h2⟩ := goneL_len za zb m n
  obtain ⟨i, h3, h4⟩ := comeL_len za zb n m
  unfold dltZ
  split
  · rw [List.length_append, h1, h3]; omega
  · simp
end Go.Proofs.Ytfodkefaflpicaa
