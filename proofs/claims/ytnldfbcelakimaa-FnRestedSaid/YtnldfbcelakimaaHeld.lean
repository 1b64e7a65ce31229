/-
  Rows of orders that bear marks from any number on.
-/
import Derived.Test.YtnldfbcelakimaaOrd
namespace Go.Proofs.Ytnldfbcelakimaa
open Go.RowKit Wire

/-- the first N cells bear s, s + 1, .. -/
def markFrom (s : Nat) (f : Nat → Value) (N j : Nat) : Value := if j < N then .int .i64 ((j + s : Nat) : Int) else f j
theorem rowIs_from4 {w : World} {g m k s : Nat} {t : TypeId} {f : Nat → Value} {V0 V1 V2 V3 : Int} (h : w.rowIs g t m (markFrom s f (k * 4))) (h0 : V0 = ((k * 4 + s : Nat) : Int)) (h1 : V1 = ((k * 4 + 1 + s : Nat) : Int)) (h2 : V2 = ((k * 4 + 2 + s : Nat) : Int)) (h3 : V3 = ((k * 4 + 3 + s : Nat) : Int)) :
    ((((w.setCell ⟨g, k * 4, none⟩ (.int .i64 V0)).setCell ⟨g, k * 4 + 1, none⟩ (.int .i64 V1)).setCell ⟨g, k * 4 + 2, none⟩ (.int .i64 V2)).setCell ⟨g, k * 4 + 3, none⟩ (.int .i64 V3)).rowIs g t m (markFrom s f ((k + 1) * 4)) := by
  subst h0 h1 h2 h3
  refine (((((h.set _ _).set _ _).set _ _).set _ _)).congr fun j _ => ?_
  rw [show (k + 1) * 4 = k * 4 + 4 from by omega]
  generalize k * 4 = i
  rcases (show j < i ∨ j = i ∨ j = i + 1 ∨ j = i + 2 ∨ j = i + 3 ∨ i + 4 ≤ j from by omega) with hj | rfl | rfl | rfl | rfl | hj
  · simp only [markFrom]
    repeat rw [if_neg (by omega)]
    rw [if_pos hj, if_pos (by omega)]
  iterate 4 (simp [markFrom]; try omega)
  · simp only [markFrom]
    repeat rw [if_neg (by omega)]
theorem rowIs_lookFrom4 {w : World} {g m k N s : Nat} {t : TypeId} {f : Nat → Value} (h : w.rowIs g t m (markFrom s f N)) (hk : (k + 1) * 4 ≤ N) (hN : N ≤ m) :
    w.cell? ⟨g, k * 4, none⟩ = some (.int .i64 ((k : Int) * 4 + (s : Int))) ∧ w.cell? ⟨g, k * 4 + 1, none⟩ = some (.int .i64 ((k : Int) * 4 + (s : Int) + 1)) ∧ w.cell? ⟨g, k * 4 + 2, none⟩ = some (.int .i64 ((k : Int) * 4 + (s : Int) + 2)) ∧ w.cell? ⟨g, k * 4 + 3, none⟩ = some (.int .i64 ((k : Int) * 4 + (s : Int) + 3)) :=
  ⟨by rw [h.cell (i := k * 4) (by omega), markFrom, if_pos (by omega)]; congr 2, by rw [h.cell (i := k * 4 + 1) (by omega), markFrom, if_pos (by omega)]; congr 2; omega, by rw [h.cell (i := k * 4 + 2) (by omega), markFrom, if_pos (by omega)]; congr 2; omega, by rw [h.cell (i := k * 4 + 3) (by omega), markFrom, if_pos (by omega)]; congr 2; omega⟩
set_option maxHeartbeats 1600000 in
set_option maxRecDepth 100000 in
theorem markOrderS_from (g n cap M s : Nat) (f : Nat → Value) (w : World) (hr : w.rowIs g 36 M f) (hn : n * 4 ≤ M) (hb : n ≤ 1048576) (hs : s ≤ 1073741824) :
    Calls Try.prog 90 #[.slice (some ⟨g, 0, none⟩) n cap, .int .i64 (s : Int)] w fun e w' => e = .returned (.int .i64 ((n : Int) * 4 + (s : Int))) ∧ w'.rowIs g 36 M (markFrom s f (n * 4)) ∧ w.grownBy w' (some g) := by
  go_enter Try.func90, Try.ntmps90
  go_wp2_with fail
  go_loopw [1, 5] (fun kv i wr => ∃ k : Nat, k ≤ n ∧ i = .int .i64 (k : Int) ∧ kv = .int .i64 ((k : Int) * 4 + (s : Int)) ∧ wr.rowIs g 36 M (markFrom s f (k * 4)) ∧ w.grownBy wr (some g)) (fun _ i _ => n - (intOf i).toNat)
  case atStart => exact ⟨0, Nat.zero_le _, rfl, by go_num, hr.congr (fun j _ => by simp [markFrom]), World.grownBy.refl _ _⟩
  case round =>
    obtain ⟨k, hk, rfl, rfl, hrow, hg⟩ := hrel
    by_cases hlt : k < n
    · have z := hrow.frozen
      have hk8 : (k + 1) * 4 ≤ M := Nat.le_trans (Nat.mul_le_mul_right _ hlt) hn
      have c0 : wr.cell? ⟨g, k * 4, none⟩ = _ := hrow.cell (i := k * 4) (by omega)
      have c1 : wr.cell? ⟨g, k * 4 + 1, none⟩ = _ := hrow.cell (i := k * 4 + 1) (by omega)
      have c2 : wr.cell? ⟨g, k * 4 + 2, none⟩ = _ := hrow.cell (i := k * 4 + 2) (by omega)
      have c3 : wr.cell? ⟨g, k * 4 + 3, none⟩ = _ := hrow.cell (i := k * 4 + 3) (by omega)
      go_wp2_with fail
      go_roundw
      case rel =>
        exact ⟨k + 1, by omega, by go_num, by go_num, rowIs_from4 hrow (by omega) (by omega) (by omega) (by omega), (mark_set (mark_set (mark_set (mark_set hg _ _) _ _) _ _) _ _)⟩
      case measure => simp [intOf]; omega
    · obtain rfl : k = n := by omega
      go_wp2_with fail
      go_ret
      exact ⟨rfl, hrow, hg⟩
set_option maxHeartbeats 1600000 in
set_option maxRecDepth 100000 in
theorem heldOrderS_from (g n cap M s : Nat) (f : Nat → Value) (w : World) (hr : w.rowIs g 36 M (markFrom s f (n * 4))) (hn : n * 4 ≤ M) (hb : n ≤ 1048576) (hs : s ≤ 1073741824) :
    Calls Try.prog 91 #[.slice (some ⟨g, 0, none⟩) n cap, .int .i64 (s : Int)] w fun e w' => e = .returned (.int .i64 ((n : Int) * 4 + (s : Int))) ∧ w' = w := by
  go_enter Try.func91, Try.ntmps91
  go_wp2_with fail
  go_loopw [1, 5] (fun kv i wr => ∃ k : Nat, k ≤ n ∧ i = .int .i64 (k : Int) ∧ kv = .int .i64 ((k : Int) * 4 + (s : Int)) ∧ wr = w) (fun _ i _ => n - (intOf i).toNat)
  case atStart => exact ⟨0, Nat.zero_le _, rfl, by go_num, by first | trivial | rfl⟩
  case round =>
    obtain ⟨k, hk, rfl, rfl, rfl⟩ := hrel
    by_cases hlt : k < n
    · obtain ⟨c0, c1, c2, c3⟩ := rowIs_lookFrom4 hr (k := k) (Nat.mul_le_mul_right _ hlt) hn
      go_wp2_with fail
      go_roundw
      case rel => exact ⟨k + 1, by omega, by go_num, by go_num, by first | trivial | rfl⟩
      case measure => simp [intOf]; omega
    · obtain rfl : k = n := by omega
      go_wp2_with fail
      go_ret
      exact ⟨rfl, by first | trivial | rfl⟩
end Go.Proofs.Ytnldfbcelakimaa
