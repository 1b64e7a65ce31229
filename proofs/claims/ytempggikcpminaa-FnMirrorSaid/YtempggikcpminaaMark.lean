/-
  The marks that a law writes into the rows of an answer, and looks for later.
-/
import Derived.Test.YtempggikcpminaaList
namespace Go.Proofs.Ytempggikcpminaa
open Go.RowKit Wire

/-- the numbers 1 to N in the first N cells -/
def markAt (f : Nat → Value) (N j : Nat) : Value := if j < N then .int .i64 ((j + 1 : Nat) : Int) else f j
theorem mark_set {a w : World} {g : Nat} (h : a.grownBy w (some g)) (i : Nat) (u : Value) : a.grownBy (w.setCell ⟨g, i, none⟩ u) (some g) :=
  ⟨h.os, h.tape, h.output, by simpa [World.setCell] using h.size, fun k hk hne => (Below.heap_setCell w _ u k (by
    rintro rfl
    exact hne rfl)).trans (h.block k hk hne)⟩
theorem row_of_own {w : World} {base sz n g cap : Nat} {e : TypeId} {xs : List Value} (h : w.ownsRow base e sz (.slice (some ⟨g, 0, none⟩) n cap) n xs) : ∃ f M, n * sz ≤ M ∧ w.rowIs g e M f := by
  rcases h.2 with ⟨h0, _⟩ | ⟨g', cap', cur, h0, _, hb, hc, _, hs, _⟩
  · cases h0
  · injection h0 with h0 _ _
    injection h0 with h0
    injection h0 with h0
    subst h0
    exact ⟨fun j => cur[j]?.getD .nilIface, cur.size, by rw [hs]; exact Nat.mul_le_mul_right _ hc, cur, hb, rfl, fun i hi => by simp [Array.getElem?_eq_getElem hi]⟩
theorem rowIs_mark8 {w : World} {g m k : Nat} {t : TypeId} {f : Nat → Value} {V0 V1 V2 V3 V4 V5 V6 V7 : Int} (h : w.rowIs g t m (markAt f (k * 8))) (h0 : V0 = ((k * 8 + 1 : Nat) : Int)) (h1 : V1 = ((k * 8 + 2 : Nat) : Int)) (h2 : V2 = ((k * 8 + 3 : Nat) : Int)) (h3 : V3 = ((k * 8 + 4 : Nat) : Int)) (h4 : V4 = ((k * 8 + 5 : Nat) : Int)) (h5 : V5 = ((k * 8 + 6 : Nat) : Int)) (h6 : V6 = ((k * 8 + 7 : Nat) : Int)) (h7 : V7 = ((k * 8 + 8 : Nat) : Int)) :
    ((((((((w.setCell ⟨g, k * 8, none⟩ (.int .i64 V0)).setCell ⟨g, k * 8 + 1, none⟩ (.int .i64 V1)).setCell ⟨g, k * 8 + 2, none⟩ (.int .i64 V2)).setCell ⟨g, k * 8 + 3, none⟩ (.int .i64 V3)).setCell ⟨g, k * 8 + 4, none⟩ (.int .i64 V4)).setCell ⟨g, k * 8 + 5, none⟩ (.int .i64 V5)).setCell ⟨g, k * 8 + 6, none⟩ (.int .i64 V6)).setCell ⟨g, k * 8 + 7, none⟩ (.int .i64 V7)).rowIs g t m (markAt f ((k + 1) * 8)) := by
  subst h0 h1 h2 h3 h4 h5 h6 h7
  refine (((((((((h.set _ _).set _ _).set _ _).set _ _).set _ _).set _ _).set _ _).set _ _)).congr fun j _ => ?_
  rw [show (k + 1) * 8 = k * 8 + 8 from by omega]
  generalize k * 8 = i
  rcases (show j < i ∨ j = i ∨ j = i + 1 ∨ j = i + 2 ∨ j = i + 3 ∨ j = i + 4 ∨ j = i + 5 ∨ j = i + 6 ∨ j = i + 7 ∨ i + 8 ≤ j from by omega) with hj | rfl | rfl | rfl | rfl | rfl | rfl | rfl | rfl | hj
  · simp only [markAt]
    repeat rw [if_neg (by omega)]
    rw [if_pos hj, if_pos (by omega)]
  iterate 8 (simp [markAt, Nat.add_assoc]; try omega)
  · simp only [markAt]
    repeat rw [if_neg (by omega)]
theorem rowIs_look8 {w : World} {g m k N : Nat} {t : TypeId} {f : Nat → Value} (h : w.rowIs g t m (markAt f N)) (hk : (k + 1) * 8 ≤ N) (hN : N ≤ m) :
    w.cell? ⟨g, k * 8, none⟩ = some (.int .i64 ((k : Int) * 8 + 1)) ∧ w.cell? ⟨g, k * 8 + 1, none⟩ = some (.int .i64 ((k : Int) * 8 + 2)) ∧ w.cell? ⟨g, k * 8 + 2, none⟩ = some (.int .i64 ((k : Int) * 8 + 3)) ∧ w.cell? ⟨g, k * 8 + 3, none⟩ = some (.int .i64 ((k : Int) * 8 + 4)) ∧ w.cell? ⟨g, k * 8 + 4, none⟩ = some (.int .i64 ((k : Int) * 8 + 5)) ∧ w.cell? ⟨g, k * 8 + 5, none⟩ = some (.int .i64 ((k : Int) * 8 + 6)) ∧ w.cell? ⟨g, k * 8 + 6, none⟩ = some (.int .i64 ((k : Int) * 8 + 7)) ∧ w.cell? ⟨g, k * 8 + 7, none⟩ = some (.int .i64 ((k : Int) * 8 + 8)) :=
  ⟨by rw [h.cell (i := k * 8) (by omega), markAt, if_pos (by omega)]; congr 2, by rw [h.cell (i := k * 8 + 1) (by omega), markAt, if_pos (by omega)]; congr 2, by rw [h.cell (i := k * 8 + 2) (by omega), markAt, if_pos (by omega)]; congr 2, by rw [h.cell (i := k * 8 + 3) (by omega), markAt, if_pos (by omega)]; congr 2, by rw [h.cell (i := k * 8 + 4) (by omega), markAt, if_pos (by omega)]; congr 2, by rw [h.cell (i := k * 8 + 5) (by omega), markAt, if_pos (by omega)]; congr 2, by rw [h.cell (i := k * 8 + 6) (by omega), markAt, if_pos (by omega)]; congr 2, by rw [h.cell (i := k * 8 + 7) (by omega), markAt, if_pos (by omega)]; congr 2⟩
theorem rowIs_mark4 {w : World} {g m k : Nat} {t : TypeId} {f : Nat → Value} {V0 V1 V2 V3 : Int} (h : w.rowIs g t m (markAt f (k * 4))) (h0 : V0 = ((k * 4 + 1 : Nat) : Int)) (h1 : V1 = ((k * 4 + 2 : Nat) : Int)) (h2 : V2 = ((k * 4 + 3 : Nat) : Int)) (h3 : V3 = ((k * 4 + 4 : Nat) : Int)) :
    ((((w.setCell ⟨g, k * 4, none⟩ (.int .i64 V0)).setCell ⟨g, k * 4 + 1, none⟩ (.int .i64 V1)).setCell ⟨g, k * 4 + 2, none⟩ (.int .i64 V2)).setCell ⟨g, k * 4 + 3, none⟩ (.int .i64 V3)).rowIs g t m (markAt f ((k + 1) * 4)) := by
  subst h0 h1 h2 h3
  refine (((((h.set _ _).set _ _).set _ _).set _ _)).congr fun j _ => ?_
  rw [show (k + 1) * 4 = k * 4 + 4 from by omega]
  generalize k * 4 = i
  rcases (show j < i ∨ j = i ∨ j = i + 1 ∨ j = i + 2 ∨ j = i + 3 ∨ i + 4 ≤ j from by omega) with hj | rfl | rfl | rfl | rfl | hj
  · simp only [markAt]
    repeat rw [if_neg (by omega)]
    rw [if_pos hj, if_pos (by omega)]
  iterate 4 (simp [markAt, Nat.add_assoc]; try omega)
  · simp only [markAt]
    repeat rw [if_neg (by omega)]
theorem rowIs_look4 {w : World} {g m k N : Nat} {t : TypeId} {f : Nat → Value} (h : w.rowIs g t m (markAt f N)) (hk : (k + 1) * 4 ≤ N) (hN : N ≤ m) :
    w.cell? ⟨g, k * 4, none⟩ = some (.int .i64 ((k : Int) * 4 + 1)) ∧ w.cell? ⟨g, k * 4 + 1, none⟩ = some (.int .i64 ((k : Int) * 4 + 2)) ∧ w.cell? ⟨g, k * 4 + 2, none⟩ = some (.int .i64 ((k : Int) * 4 + 3)) ∧ w.cell? ⟨g, k * 4 + 3, none⟩ = some (.int .i64 ((k : Int) * 4 + 4)) :=
  ⟨by rw [h.cell (i := k * 4) (by omega), markAt, if_pos (by omega)]; congr 2, by rw [h.cell (i := k * 4 + 1) (by omega), markAt, if_pos (by omega)]; congr 2, by rw [h.cell (i := k * 4 + 2) (by omega), markAt, if_pos (by omega)]; congr 2, by rw [h.cell (i := k * 4 + 3) (by omega), markAt, if_pos (by omega)]; congr 2⟩
set_option maxHeartbeats 1600000 in
set_option maxRecDepth 100000 in
theorem markRecS_own (g n cap M : Nat) (f : Nat → Value) (w : World) (hr : w.rowIs g 39 M f) (hn : n * 8 ≤ M) (hb : n ≤ 1048576) :
    Calls Try.prog 22 #[.slice (some ⟨g, 0, none⟩) n cap, .int .i64 1] w fun e w' => e = .returned (.int .i64 ((n : Int) * 8 + 1)) ∧ w'.rowIs g 39 M (markAt f (n * 8)) ∧ w.grownBy w' (some g) := by
  go_enter Try.func22, Try.ntmps22
  go_wp2_with fail
  go_loopw [1, 5] (fun kv i wr => ∃ k : Nat, k ≤ n ∧ i = .int .i64 (k : Int) ∧ kv = .int .i64 ((k : Int) * 8 + 1) ∧ wr.rowIs g 39 M (markAt f (k * 8)) ∧ w.grownBy wr (some g)) (fun _ i _ => n - (intOf i).toNat)
  case atStart => exact ⟨0, Nat.zero_le _, rfl, rfl, hr.congr (fun j _ => by simp [markAt]), World.grownBy.refl _ _⟩
  case round =>
    obtain ⟨k, hk, rfl, rfl, hrow, hg⟩ := hrel
    by_cases hlt : k < n
    · have z := hrow.frozen
      have hk8 : (k + 1) * 8 ≤ M := Nat.le_trans (Nat.mul_le_mul_right _ hlt) hn
      have c0 : wr.cell? ⟨g, k * 8, none⟩ = _ := hrow.cell (i := k * 8) (by omega)
      have c1 : wr.cell? ⟨g, k * 8 + 1, none⟩ = _ := hrow.cell (i := k * 8 + 1) (by omega)
      have c2 : wr.cell? ⟨g, k * 8 + 2, none⟩ = _ := hrow.cell (i := k * 8 + 2) (by omega)
      have c3 : wr.cell? ⟨g, k * 8 + 3, none⟩ = _ := hrow.cell (i := k * 8 + 3) (by omega)
      have c4 : wr.cell? ⟨g, k * 8 + 4, none⟩ = _ := hrow.cell (i := k * 8 + 4) (by omega)
      have c5 : wr.cell? ⟨g, k * 8 + 5, none⟩ = _ := hrow.cell (i := k * 8 + 5) (by omega)
      have c6 : wr.cell? ⟨g, k * 8 + 6, none⟩ = _ := hrow.cell (i := k * 8 + 6) (by omega)
      have c7 : wr.cell? ⟨g, k * 8 + 7, none⟩ = _ := hrow.cell (i := k * 8 + 7) (by omega)
      go_wp2_with fail
      go_roundw
      case rel =>
        exact ⟨k + 1, by omega, by go_num, by go_num, rowIs_mark8 hrow (by omega) (by omega) (by omega) (by omega) (by omega) (by omega) (by omega) (by omega), (mark_set (mark_set (mark_set (mark_set (mark_set (mark_set (mark_set (mark_set hg _ _) _ _) _ _) _ _) _ _) _ _) _ _) _ _)⟩
      case measure => simp [intOf]; omega
    · obtain rfl : k = n := by omega
      go_wp2_with fail
      go_ret
      exact ⟨rfl, hrow, hg⟩
set_option maxHeartbeats 1600000 in
set_option maxRecDepth 100000 in
theorem heldRecS_own (g n cap M : Nat) (f : Nat → Value) (w : World) (hr : w.rowIs g 39 M (markAt f (n * 8))) (hn : n * 8 ≤ M) (hb : n ≤ 1048576) :
    Calls Try.prog 23 #[.slice (some ⟨g, 0, none⟩) n cap, .int .i64 1] w fun e w' => e = .returned (.int .i64 ((n : Int) * 8 + 1)) ∧ w' = w := by
  go_enter Try.func23, Try.ntmps23
  go_wp2_with fail
  go_loopw [1, 5] (fun kv i wr => ∃ k : Nat, k ≤ n ∧ i = .int .i64 (k : Int) ∧ kv = .int .i64 ((k : Int) * 8 + 1) ∧ wr = w) (fun _ i _ => n - (intOf i).toNat)
  case atStart => exact ⟨0, Nat.zero_le _, rfl, rfl, by first | trivial | rfl⟩
  case round =>
    obtain ⟨k, hk, rfl, rfl, rfl⟩ := hrel
    by_cases hlt : k < n
    · obtain ⟨c0, c1, c2, c3, c4, c5, c6, c7⟩ := rowIs_look8 hr (k := k) (Nat.mul_le_mul_right _ hlt) hn
      go_wp2_with fail
      go_roundw
      case rel => exact ⟨k + 1, by omega, by go_num, by go_num, by first | trivial | rfl⟩
      case measure => simp [intOf]; omega
    · obtain rfl : k = n := by omega
      go_wp2_with fail
      go_ret
      exact ⟨rfl, by first | trivial | rfl⟩
end Go.Proofs.Ytempggikcpminaa
