/-
 MarkBook, LawCell, HeldR.
-/
import Derived.Test.YtgjjdnojiegidaaGreatDoorOrd
import Derived.Test.YtgjjdnojiegidaaGreatDoorHA
import Derived.Test.YtgjjdnojiegidaaGreatDoorGH
namespace Go.Proofs.YtgjjdnojiegidaaGreatDoor
open Go.RowKit Wire
set_option maxHeartbeats 3200000
set_option maxRecDepth 100000

theorem markOrderS_at (g n cap M s : Nat) (w : World) (hr : ∃ f, w.rowIs g 65 M f) (hn : n * 4 ≤ M) (hb : n ≤ 1048576) (hs : s ≤ 1073741824) :
 Calls Tryz.prog 30 #[.slice (some ⟨g, 0, none⟩) n cap, .int .i64 (s : Int)] w fun e w' => e = .returned (.int .i64 ((n : Int) * 4 + (s : Int))) ∧ w.grownBy w' (some g) := by
 obtain ⟨f, hr⟩ := hr
 go_enter Tryz.func30, Tryz.ntmps30
 go_wp2_with fail
 go_loopw [1, 5] (fun kv i wr => ∃ k : Nat, k ≤ n ∧ i = .int .i64 (k : Int) ∧ kv = .int .i64 ((k : Int) * 4 + (s : Int)) ∧ (∃ f, wr.rowIs g 65 M f) ∧ w.grownBy wr (some g)) (fun _ i _ => n - (intOf i).toNat)
 case atStart => exact ⟨0, Nat.zero_le _, rfl, by go_num, ⟨f, hr⟩, World.grownBy.refl _ _⟩
 case round =>
  obtain ⟨k, hk, rfl, rfl, ⟨f, hrow⟩, hg⟩ := hrel
  by_cases hlt : k < n
  · have z := hrow.frozen
    have hk8 : (k + 1) * 4 ≤ M := Nat.le_trans (Nat.mul_le_mul_right _ hlt) hn
    have c0 : wr.cell? ⟨g, k * 4, none⟩ = _ := hrow.cell (i := k * 4) (by omega)
    have c1 : wr.cell? ⟨g, k * 4 + 1, none⟩ = _ := hrow.cell (i := k * 4 + 1) (by omega)
    have c2 : wr.cell? ⟨g, k * 4 + 2, none⟩ = _ := hrow.cell (i := k * 4 + 2) (by omega)
    have c3 : wr.cell? ⟨g, k * 4 + 3, none⟩ = _ := hrow.cell (i := k * 4 + 3) (by omega)
    go_wp2_with fail
    go_roundw
    case rel =>
     exact ⟨k + 1, by omega, by go_num, by go_num, ⟨_, (((hrow.set _ _).set _ _).set _ _).set _ _⟩, (mark_set (mark_set (mark_set (mark_set hg _ _) _ _) _ _) _ _)⟩
    case measure => simp [intOf]; omega
  · obtain rfl : k = n := by omega
    go_wp2_with fail
    go_ret
    exact ⟨rfl, hg⟩
theorem markBook_any (g f n c m d M1 M2 : Nat) (w : World) (h1 : ∃ h, w.rowIs g 65 M1 h) (h2 : ∃ h, w.rowIs f 65 M2 h) (hgf : g ≠ f) (hn : n * 4 ≤ M1) (hm : m * 4 ≤ M2) (hn1 : n ≤ 1048576) (hm1 : m ≤ 1048576) :
 Calls Tryz.prog 11 #[.agg #[.slice (some ⟨g, 0, none⟩) n c, .slice (some ⟨f, 0, none⟩) m d], .int .i64 1] w fun e w' => (∃ k : Int, 0 ≤ k ∧ e = .returned (.int .i64 k)) ∧ ∃ o wa, (w.alloc o).grownBy wa (some g) ∧ wa.grownBy w' (some f) := by
 obtain ⟨r1, h1⟩ := h1
 obtain ⟨r2, h2⟩ := h2
 have l1 := h1.lt
 have l2 := h2.lt
 have h1 := h1.alloc (.cells #[.slice (some ⟨g, 0, none⟩) n c, .slice (some ⟨f, 0, none⟩) m d] 30)
 have h2 := h2.alloc (.cells #[.slice (some ⟨g, 0, none⟩) n c, .slice (some ⟨f, 0, none⟩) m d] 30)
 have k0 : (w.alloc (.cells #[.slice (some ⟨g, 0, none⟩) n c, .slice (some ⟨f, 0, none⟩) m d] 30)).heap[w.heap.size]? = some (.cells #[.slice (some ⟨g, 0, none⟩) n c, .slice (some ⟨f, 0, none⟩) m d] 30 (0, 0)) := heap_alloc_new w _
 go_enter Tryz.func11, Tryz.ntmps11
 go_wp2_with fail
 refine (markOrderS_at g n c M1 1 _ ⟨r1, h1⟩ hn hn1 (by omega)).mono ?_
 rintro e w1 ⟨rfl, hg1⟩
 have k1 := (hg1.block w.heap.size (by simp) (fun e => by injection e with e; omega)).trans k0
 have x0 := cell_of_row w1 w.heap.size 0 _ _ (0, 0) k1
 have x1 := cell_of_row w1 w.heap.size 1 _ _ (0, 0) k1
 simp at x0 x1
 have h2 := h2.of_block (hg1.block f h2.lt (fun e => by injection e with e; omega))
 clear k0 h1 k1
 go_wp2_with fail
 have hm2 := markOrderS_at f m d M2 (n * 4 + 1) w1 ⟨r2, h2⟩ hm hm1 (by omega)
 rw [show ((n * 4 + 1 : Nat) : Int) = (n : Int) * 4 + 1 from by omega] at hm2
 refine hm2.mono ?_
 rintro e w2 ⟨rfl, hg2⟩
 clear x0 x1 hm2
 go_wp2_with fail
 go_ret
 exact ⟨⟨_, by omega, rfl⟩, _, w1, hg1, hg2⟩
end Go.Proofs.YtgjjdnojiegidaaGreatDoor

namespace Go.Proofs.YtgjjdnojiegidaaGreatDoor
open Go.RowKit
set_option maxHeartbeats 3200000
set_option maxRecDepth 100000

theorem cell2 {w : World} {S : Nat} {a b : Value} {T : TypeId} (h : w.heap[S]? = some (.cells #[a, b] T (0, 0))) : w.cell? ⟨S, 0, none⟩ = some a ∧ w.cell? ⟨S, 1, none⟩ = some b := by
 refine ⟨?_, ?_⟩ <;> simp [World.cell?, h]
end Go.Proofs.YtgjjdnojiegidaaGreatDoor

namespace Go.Proofs.YtgjjdnojiegidaaGreatDoor
open Go.RowKit Wire
set_option maxHeartbeats 3200000
set_option maxRecDepth 100000

theorem rowIs_from8 {w : World} {g m k s : Nat} {t : TypeId} {f : Nat → Value} {V0 V1 V2 V3 V4 V5 V6 V7 : Int} (h : w.rowIs g t m (markFrom s f (k * 8))) (h0 : V0 = ((k * 8 + s : Nat) : Int)) (h1 : V1 = ((k * 8 + 1 + s : Nat) : Int)) (h2 : V2 = ((k * 8 + 2 + s : Nat) : Int)) (h3 : V3 = ((k * 8 + 3 + s : Nat) : Int)) (h4 : V4 = ((k * 8 + 4 + s : Nat) : Int)) (h5 : V5 = ((k * 8 + 5 + s : Nat) : Int)) (h6 : V6 = ((k * 8 + 6 + s : Nat) : Int)) (h7 : V7 = ((k * 8 + 7 + s : Nat) : Int)) :
 ((((((((w.setCell ⟨g, k * 8, none⟩ (.int .i64 V0)).setCell ⟨g, k * 8 + 1, none⟩ (.int .i64 V1)).setCell ⟨g, k * 8 + 2, none⟩ (.int .i64 V2)).setCell ⟨g, k * 8 + 3, none⟩ (.int .i64 V3)).setCell ⟨g, k * 8 + 4, none⟩ (.int .i64 V4)).setCell ⟨g, k * 8 + 5, none⟩ (.int .i64 V5)).setCell ⟨g, k * 8 + 6, none⟩ (.int .i64 V6)).setCell ⟨g, k * 8 + 7, none⟩ (.int .i64 V7)).rowIs g t m (markFrom s f ((k + 1) * 8)) := by
 subst h0 h1 h2 h3 h4 h5 h6 h7
 refine (((((((((h.set _ _).set _ _).set _ _).set _ _).set _ _).set _ _).set _ _).set _ _)).congr fun j _ => ?_
 rw [show (k + 1) * 8 = k * 8 + 8 from by omega]
 generalize k * 8 = i
 rcases (show j < i ∨ j = i ∨ j = i + 1 ∨ j = i + 2 ∨ j = i + 3 ∨ j = i + 4 ∨ j = i + 5 ∨ j = i + 6 ∨ j = i + 7 ∨ i + 8 ≤ j from by omega) with hj | rfl | rfl | rfl | rfl | rfl | rfl | rfl | rfl | hj
 · simp only [markFrom]
   repeat rw [if_neg (by omega)]
   rw [if_pos hj, if_pos (by omega)]
 iterate 8 (simp [markFrom]; try omega)
 · simp only [markFrom]
   repeat rw [if_neg (by omega)]
theorem rowIs_lookFrom8 {w : World} {g m k N s : Nat} {t : TypeId} {f : Nat → Value} (h : w.rowIs g t m (markFrom s f N)) (hk : (k + 1) * 8 ≤ N) (hN : N ≤ m) :
 w.cell? ⟨g, k * 8, none⟩ = some (.int .i64 ((k : Int) * 8 + (s : Int))) ∧ w.cell? ⟨g, k * 8 + 1, none⟩ = some (.int .i64 ((k : Int) * 8 + (s : Int) + 1)) ∧ w.cell? ⟨g, k * 8 + 2, none⟩ = some (.int .i64 ((k : Int) * 8 + (s : Int) + 2)) ∧ w.cell? ⟨g, k * 8 + 3, none⟩ = some (.int .i64 ((k : Int) * 8 + (s : Int) + 3)) ∧ w.cell? ⟨g, k * 8 + 4, none⟩ = some (.int .i64 ((k : Int) * 8 + (s : Int) + 4)) ∧ w.cell? ⟨g, k * 8 + 5, none⟩ = some (.int .i64 ((k : Int) * 8 + (s : Int) + 5)) ∧ w.cell? ⟨g, k * 8 + 6, none⟩ = some (.int .i64 ((k : Int) * 8 + (s : Int) + 6)) ∧ w.cell? ⟨g, k * 8 + 7, none⟩ = some (.int .i64 ((k : Int) * 8 + (s : Int) + 7)) :=
 ⟨by rw [h.cell (i := k * 8) (by omega), markFrom, if_pos (by omega)]; congr 2, by rw [h.cell (i := k * 8 + 1) (by omega), markFrom, if_pos (by omega)]; congr 2; omega, by rw [h.cell (i := k * 8 + 2) (by omega), markFrom, if_pos (by omega)]; congr 2; omega, by rw [h.cell (i := k * 8 + 3) (by omega), markFrom, if_pos (by omega)]; congr 2; omega, by rw [h.cell (i := k * 8 + 4) (by omega), markFrom, if_pos (by omega)]; congr 2; omega, by rw [h.cell (i := k * 8 + 5) (by omega), markFrom, if_pos (by omega)]; congr 2; omega, by rw [h.cell (i := k * 8 + 6) (by omega), markFrom, if_pos (by omega)]; congr 2; omega, by rw [h.cell (i := k * 8 + 7) (by omega), markFrom, if_pos (by omega)]; congr 2; omega⟩
theorem markRecS_from (g n cap M s : Nat) (f : Nat → Value) (w : World) (hr : w.rowIs g 48 M f) (hn : n * 8 ≤ M) (hb : n ≤ 1048576) (hs : s ≤ 1073741824) :
 Calls Tryz.prog 12 #[.slice (some ⟨g, 0, none⟩) n cap, .int .i64 (s : Int)] w fun e w' => e = .returned (.int .i64 ((n : Int) * 8 + (s : Int))) ∧ w'.rowIs g 48 M (markFrom s f (n * 8)) ∧ w.grownBy w' (some g) := by
 go_enter Tryz.func12, Tryz.ntmps12
 go_wp2_with fail
 go_loopw [1, 5] (fun kv i wr => ∃ k : Nat, k ≤ n ∧ i = .int .i64 (k : Int) ∧ kv = .int .i64 ((k : Int) * 8 + (s : Int)) ∧ wr.rowIs g 48 M (markFrom s f (k * 8)) ∧ w.grownBy wr (some g)) (fun _ i _ => n - (intOf i).toNat)
 case atStart => exact ⟨0, Nat.zero_le _, rfl, by go_num, hr.congr (fun j _ => by simp [markFrom]), World.grownBy.refl _ _⟩
 case round =>
  obtain ⟨k, hk, rfl, rfl, hrow, hg⟩ := hrel
  by_cases hlt : k < n
  · have z := hrow.frozen
    have hk8 : (k + 1) * 8 ≤ M := Nat.le_trans (Nat.mul_le_mul_right _ hlt) hn
    have c0 : wr.cell? ⟨g, k * 8, none⟩ = _ := hrow.cell (i := k * 8) (by omega)
    have c1 : wr.cell? ⟨g, k * 8 + 1, none⟩ = _ := hrow.cell (i := k * 8 + 1) (by omega)
    have c2 : wr.cell? ⟨g, k * 8 + 2, none⟩ = _ := hrow.cell (i := k * 8 + 2) (by omega)
    have c3 : wr.cell? ⟨g, k * 8 + 3, none⟩ = _ := hrow.cell (i := k * 8 + 3) (by omega)
    have c4 : wr.cell? ⟨g, k * 8 + 4, none⟩ = _ := hrow.cell (i := k * 8 + 4) (by omega)
    have c5 : wr.cell? ⟨g, k * 8 + 5, none⟩ = _ := hrow.cell (i := k * 8 + 5) (by omega)
    have c6 : wr.cell? ⟨g, k * 8 + 6, none⟩ = _ := hrow.cell (i := k * 8 + 6) (by omega)
    have c7 : wr.cell? ⟨g, k * 8 + 7, none⟩ = _ := hrow.cell (i := k * 8 + 7) (by omega)
    go_wp2_with fail
    go_roundw
    case rel =>
     exact ⟨k + 1, by omega, by go_num, by go_num, rowIs_from8 hrow (by omega) (by omega) (by omega) (by omega) (by omega) (by omega) (by omega) (by omega), (mark_set (mark_set (mark_set (mark_set (mark_set (mark_set (mark_set (mark_set hg _ _) _ _) _ _) _ _) _ _) _ _) _ _) _ _)⟩
    case measure => simp [intOf]; omega
  · obtain rfl : k = n := by omega
    go_wp2_with fail
    go_ret
    exact ⟨rfl, hrow, hg⟩
theorem heldRecS_from (g n cap M s : Nat) (f : Nat → Value) (w : World) (hr : w.rowIs g 48 M (markFrom s f (n * 8))) (hn : n * 8 ≤ M) (hb : n ≤ 1048576) (hs : s ≤ 1073741824) :
 Calls Tryz.prog 14 #[.slice (some ⟨g, 0, none⟩) n cap, .int .i64 (s : Int)] w fun e w' => e = .returned (.int .i64 ((n : Int) * 8 + (s : Int))) ∧ w' = w := by
 go_enter Tryz.func14, Tryz.ntmps14
 go_wp2_with fail
 go_loopw [1, 5] (fun kv i wr => ∃ k : Nat, k ≤ n ∧ i = .int .i64 (k : Int) ∧ kv = .int .i64 ((k : Int) * 8 + (s : Int)) ∧ wr = w) (fun _ i _ => n - (intOf i).toNat)
 case atStart => exact ⟨0, Nat.zero_le _, rfl, by go_num, by first | trivial | rfl⟩
 case round =>
  obtain ⟨k, hk, rfl, rfl, rfl⟩ := hrel
  by_cases hlt : k < n
  · obtain ⟨c0, c1, c2, c3, c4, c5, c6, c7⟩ := rowIs_lookFrom8 hr (k := k) (Nat.mul_le_mul_right _ hlt) hn
    go_wp2_with fail
    go_roundw
    case rel => exact ⟨k + 1, by omega, by go_num, by go_num, by first | trivial | rfl⟩
    case measure => simp [intOf]; omega
  · obtain rfl : k = n := by omega
    go_wp2_with fail
    go_ret
    exact ⟨rfl, by first | trivial | rfl⟩
theorem markRecS_noneFrom (A : Option Addr) (cap s : Nat) (w : World) : Calls Tryz.prog 12 #[.slice A 0 cap, .int .i64 (s : Int)] w fun e w' => e = .returned (.int .i64 (s : Int)) ∧ w' = w := by
 go_enter Tryz.func12, Tryz.ntmps12
 go_wp2_with fail
 go_loopw [1, 5] (fun kv i wr => i = .int .i64 0 ∧ kv = .int .i64 (s : Int) ∧ wr = w) (fun _ _ _ => 0)
 case atStart => exact ⟨rfl, rfl, by first | trivial | rfl⟩
 case round =>
  obtain ⟨rfl, rfl, rfl⟩ := hrel
  go_wp2_with fail
  go_ret
  exact ⟨rfl, by first | trivial | rfl⟩
theorem heldRecS_noneFrom (A : Option Addr) (cap s : Nat) (w : World) : Calls Tryz.prog 14 #[.slice A 0 cap, .int .i64 (s : Int)] w fun e w' => e = .returned (.int .i64 (s : Int)) ∧ w' = w := by
 go_enter Tryz.func14, Tryz.ntmps14
 go_wp2_with fail
 go_loopw [1, 5] (fun kv i wr => i = .int .i64 0 ∧ kv = .int .i64 (s : Int) ∧ wr = w) (fun _ _ _ => 0)
 case atStart => exact ⟨rfl, rfl, by first | trivial | rfl⟩
 case round =>
  obtain ⟨rfl, rfl, rfl⟩ := hrel
  go_wp2_with fail
  go_ret
  exact ⟨rfl, by first | trivial | rfl⟩
def MarkedRFrom (s : Nat) (w : World) (v : Value) (n : Nat) : Prop := (n = 0 ∧ ∃ A c, v = .slice A 0 c) ∨ ∃ g cap f M, v = .slice (some ⟨g, 0, none⟩) n cap ∧ n * 8 ≤ M ∧ w.rowIs g 48 M (markFrom s f (n * 8))
theorem MarkedRFrom.below {s : Nat} {w w' : World} {v : Value} {n : Nat} (h : MarkedRFrom s w v n) (hb : Below w.heap.size w w') : MarkedRFrom s w' v n := by
 rcases h with h | ⟨g, cap, f, M, h1, h2, h3⟩
 · exact .inl h
 · exact .inr ⟨g, cap, f, M, h1, h2, h3.of_block (hb.block g h3.lt)⟩
theorem MarkedRFrom.apart {s : Nat} {w w' : World} {v : Value} {n : Nat} {row : Option Nat} (h : MarkedRFrom s w v n) (hg : w.grownBy w' row) (hr : ∀ q, v.ownBlock = some q → row ≠ some q) : MarkedRFrom s w' v n := by
 rcases h with h | ⟨g, cap, f, M, h1, h2, h3⟩
 · exact .inl h
 · exact .inr ⟨g, cap, f, M, h1, h2, h3.of_block (hg.block g h3.lt (fun e => hr g (by rw [h1]; rfl) e.symm))⟩
theorem markRecS_anyFrom (B s : Nat) (v : Value) (n : Nat) (xs : List Value) (w : World) (ho : w.ownsRow B 48 8 v n xs) (hn : n ≤ 1048576) (hs : s ≤ 1073741824) :
 Calls Tryz.prog 12 #[v, .int .i64 (s : Int)] w fun e w' => e = .returned (.int .i64 ((n : Int) * 8 + (s : Int))) ∧ MarkedRFrom s w' v n ∧ w.grownBy w' v.ownBlock := by
 rcases Nat.eq_zero_or_pos n with rfl | hpos
 · obtain ⟨A, c, rfl, _, _⟩ := oSl ho
   exact (markRecS_noneFrom A c s w).mono fun e w' ⟨he, hw⟩ => ⟨by rw [he]; simp, .inl ⟨rfl, A, c, rfl⟩, by rw [hw]; exact World.grownBy.refl _ _⟩
 · obtain ⟨g, cap, rfl, _, _⟩ := ho.form hpos
   obtain ⟨f, M, h1, h2⟩ := row_of_own ho
   exact (markRecS_from g n cap M s f w h2 h1 hn hs).mono fun e w' ⟨he, hr, hg⟩ => ⟨he, .inr ⟨g, cap, f, M, rfl, h1, hr⟩, hg⟩
theorem heldRecS_anyFrom (s : Nat) (v : Value) (n : Nat) (w : World) (h : MarkedRFrom s w v n) (hn : n ≤ 1048576) (hs : s ≤ 1073741824) :
 Calls Tryz.prog 14 #[v, .int .i64 (s : Int)] w fun e w' => e = .returned (.int .i64 ((n : Int) * 8 + (s : Int))) ∧ w' = w := by
 rcases h with ⟨rfl, A, c, rfl⟩ | ⟨g, cap, f, M, rfl, h2, h3⟩
 · exact (heldRecS_noneFrom A c s w).mono fun e w' ⟨he, hw⟩ => ⟨by rw [he]; simp, hw⟩
 · exact heldRecS_from g n cap M s f w h3 h2 hn hs
end Go.Proofs.YtgjjdnojiegidaaGreatDoor
