/-
  Slices of orders, and books, as the laws hand them on, compare them, mark them.
-/
import Derived.Test.YtempggikcpminaaKit
import Derived.Test.YtempggikcpminaaOwn
import Derived.Test.YtempggikcpminaaMark
import Derived.Handy
import Derived.Deep.RegionHeld3
namespace Go.Proofs.Ytempggikcpminaa
open Go.RowKit Wire

theorem ord_later {w w1 w2 : World} (h1 : Below w.heap.size w w1) (h2 : Below w1.heap.size w1 w2) : Below w.heap.size w w2 := h1.trans (h2.mono h1.size)
theorem ord_info : (Try.prog.info? 28).map (fun i => (i.zero, i.size, i.bytes)) = some (some (.agg #[.int .i64 0, .int .i64 0, .int .i64 0, .int .i64 0]), 4, 32) := by kernel_rfl
theorem zero4 : ∀ j, j < (#[.int .i64 0, .int .i64 0, .int .i64 0, .int .i64 0] : Array Value).size → (#[.int .i64 0, .int .i64 0, .int .i64 0, .int .i64 0] : Array Value)[j]? = some (.int .i64 0) := by
  intro j hj
  simp at hj
  rcases (show j = 0 ∨ j = 1 ∨ j = 2 ∨ j = 3 from by omega) with rfl | rfl | rfl | rfl <;> rfl
theorem szOrderS_any (A : Option Addr) (n c : Nat) (left : Int) (w : World) (hn : n ≤ 9223372036854775807) (h0 : 0 ≤ left) (h1 : left ≤ 1048576) :
    Calls Try.prog 15 #[.slice A n c, .int .i64 left] w fun e w' => e = .returned (.int .i64 (if left < n then -1 else left - n)) ∧ w = w' := by
  by_cases h : left < n
  · rw [if_pos h]
    go_enter Try.func15, Try.ntmps15
    go_wp2_with fail
    go_ret
    exact ⟨rfl, rfl⟩
  · rw [if_neg h]
    go_enter Try.func15, Try.ntmps15
    go_wp2_with fail
    go_ret
    exact ⟨rfl, rfl⟩
set_option maxRecDepth 100000 in
theorem toOrder_any (a b c d : Int) (w : World) :
    Calls Try.prog 50 #[.agg #[.int .i64 a, .int .i64 b, .int .i64 c, .int .i64 d]] w fun x w' => x = .returned (.agg #[.int .i64 a, .int .i64 b, .int .i64 c, .int .i64 d]) ∧ Below w.heap.size w w' := by
  go_enter Try.func50, Try.ntmps50
  go_wp2
  refine bodyPost_ret (v := .agg #[.int .i64 a, .int .i64 b, .int .i64 c, .int .i64 d]) (by simp [results, Try.results50, go_sem]) rfl ⟨rfl, ?_⟩
  go_grown
set_option maxHeartbeats 1600000 in
set_option maxRecDepth 100000 in
theorem toOrderS_any (A : Option Addr) (n c : Nat) (zs : List Int) (w : World) (hl : Lst w w.heap.size 4 A n zs) (hn : n ≤ 1048576) :
    Calls Try.prog 17 #[.slice A n c] w fun e w' => e = .returned (.slice (some ⟨w.heap.size, 0, none⟩) n n) ∧ w'.rowIs w.heap.size 28 (n * 4) (numAt fun j => num zs j) ∧ Below w.heap.size w w' := by
  obtain ⟨i0, hi, hz0, hz1, hz2⟩ := info_parts ord_info
  have hmk := fun (w : World) => run_make_rows (P := Try.prog) w 24 28 i0 _ 4 32 Try.underlying24 hi hz0 hz1 hz2 .i64 .i64 n (by omega) (by omega)
  have hrow0 := rows_made w #[.int .i64 0, .int .i64 0, .int .i64 0, .int .i64 0] (n * 4) 28 zero4 (by simp)
  have hbel0 : Below w.heap.size w (w.alloc (.cells (madeCells #[.int .i64 0, .int .i64 0, .int .i64 0, .int .i64 0] (n * 4)) 28)) := (Below.refl _ _).alloc (Nat.le_refl _) _
  go_enter Try.func17, Try.ntmps17
  go_wp2
  go_loopw [4] (fun i wr => ∃ k : Nat, k ≤ n ∧ i = .int .i64 (k : Int) ∧ wr.rowIs w.heap.size 28 (n * 4) (numAt fun j => if j < k * 4 then num zs j else 0) ∧ Below w.heap.size w wr) (fun i _ => n - (intOf i).toNat)
  case atStart => exact ⟨0, Nat.zero_le _, rfl, hrow0.congr (fun j _ => by simp [numAt]), hbel0⟩
  case round =>
    obtain ⟨k, hk, rfl, hrow, hbel⟩ := hrel
    by_cases hlt : k < n
    · obtain ⟨b, o, rfl, hb, c0, c1, c2, c3⟩ := (hl.below hbel).row4 hlt
      go_wp2_with fail
      refine (toOrder_any _ _ _ _ _).mono ?_
      rintro e w1 ⟨rfl, hb1⟩
      have hrow1 := hrow.of_block (hb1.block _ hrow.lt)
      have hbel1 : Below w.heap.size w w1 := hbel.trans (hb1.mono hbel.size)
      obtain ⟨d0, d1, d2, d3⟩ := rowIs_at4 hrow1 (k := k) (by omega)
      have z := hrow1.frozen
      clear hb1 hrow hbel
      go_wp2_with fail
      go_roundw
      case rel =>
        have hp := rowIs_put4 (w := w1) (zs := zs) (g := w.heap.size) (m := n * 4) (k := k) (t := 28) hrow1
        have hq := below_put4 hbel1 (Nat.le_refl w.heap.size) (k * 4) (k * 4 + 1) (k * 4 + 2) (k * 4 + 3) (.int .i64 (num zs (k * 4))) (.int .i64 (num zs (k * 4 + 1))) (.int .i64 (num zs (k * 4 + 2))) (.int .i64 (num zs (k * 4 + 3)))
        exact ⟨k + 1, by omega, by go_num, hp, hq⟩
      case measure => simp [intOf]; omega
    · obtain rfl : k = n := by omega
      go_wp2_with fail
      go_ret
      exact ⟨rfl, hrow.congr (fun j hj => by simp only [numAt]; rw [if_pos hj]), hbel⟩
set_option maxHeartbeats 800000 in
set_option maxRecDepth 100000 in
theorem eqOrder_one (a b c d : Int) (w : World) :
    Calls Try.prog 54 #[.agg #[.int .i64 a, .int .i64 b, .int .i64 c, .int .i64 d], .agg #[.int .i64 a, .int .i64 b, .int .i64 c, .int .i64 d]] w fun x w' => x = .returned (.bool true) ∧ Below w.heap.size w w' := by
  go_enter Try.func54, Try.ntmps54
  go_wp2
  go_ret
  exact ⟨rfl, by go_grown⟩
set_option maxHeartbeats 1600000 in
set_option maxRecDepth 100000 in
theorem eqOrderS_same (A B : Option Addr) (n c d : Nat) (zs : List Int) (w : World) (hA : Lst w w.heap.size 4 A n zs) (hB : Lst w w.heap.size 4 B n zs) (hn : n ≤ 1048576) :
    Calls Try.prog 20 #[.slice A n c, .slice B n d] w fun e w' => e = .returned (.bool true) ∧ Below w.heap.size w w' := by
  go_enter Try.func20, Try.ntmps20
  go_wp2_with fail
  go_loopw [5] (fun i wr => ∃ k : Nat, k ≤ n ∧ i = .int .i64 (k : Int) ∧ Below w.heap.size w wr) (fun i _ => n - (intOf i).toNat)
  case atStart => exact ⟨0, Nat.zero_le _, rfl, Below.refl _ _⟩
  case round =>
    obtain ⟨k, hk, rfl, hbel⟩ := hrel
    by_cases hlt : k < n
    · obtain ⟨b, o, rfl, hb, c0, c1, c2, c3⟩ := (hA.below hbel).row4 hlt
      obtain ⟨b', o', rfl, hb', d0, d1, d2, d3⟩ := (hB.below hbel).row4 hlt
      clear hA hB
      go_wp2_with fail
      have hb1 := hbel.size
      go_region_held3 (fun w' => Below w.heap.size w w' ∧ w'.cell? ⟨b, o + k * 4, none⟩ = some (.int .i64 (num zs (k * 4))) ∧ w'.cell? ⟨b, o + k * 4 + 1, none⟩ = some (.int .i64 (num zs (k * 4 + 1))) ∧ w'.cell? ⟨b, o + k * 4 + 2, none⟩ = some (.int .i64 (num zs (k * 4 + 2))) ∧ w'.cell? ⟨b, o + k * 4 + 3, none⟩ = some (.int .i64 (num zs (k * 4 + 3))) ∧ w'.cell? ⟨b', o' + k * 4, none⟩ = some (.int .i64 (num zs (k * 4))) ∧ w'.cell? ⟨b', o' + k * 4 + 1, none⟩ = some (.int .i64 (num zs (k * 4 + 1))) ∧ w'.cell? ⟨b', o' + k * 4 + 2, none⟩ = some (.int .i64 (num zs (k * 4 + 2))) ∧ w'.cell? ⟨b', o' + k * 4 + 3, none⟩ = some (.int .i64 (num zs (k * 4 + 3)))) ((((try dsimp only); repeat' apply And.intro) <;> (first | assumption | (refine below_later ?_ (by assumption); first | assumption | (simp only [*]; done) | (go_grown; done)) | (refine cell_later (by assumption) ?_; first | assumption | (simp only [*]; done) | (simp [go_sem]; done)) | (go_grown; done) | (simp [go_sem]; done))))
        ((go_at_call 54; refine (eqOrder_one _ _ _ _ _).mono ?_; rintro e w' ⟨rfl, hb⟩))
      go_wp2_with fail
      go_roundw
      case rel => exact ⟨k + 1, by omega, by go_num, by first | assumption | (simp only [*]; done)⟩
      case measure => simp [intOf]; omega
    · obtain rfl : k = n := by omega
      go_wp2_with fail
      go_ret
      exact ⟨rfl, hbel⟩
set_option maxHeartbeats 1600000 in
set_option maxRecDepth 100000 in
theorem sameOrders_same (A B : Option Addr) (n c d : Nat) (zs : List Int) (w : World) (hA : Lst w w.heap.size 4 A n zs) (hB : Lst w w.heap.size 4 B n zs) (hn : n ≤ 1048576) :
    Calls Try.prog 14 #[.slice A n c, .slice B n d] w fun e w' => e = .returned (.bool true) ∧ Below w.heap.size w w' := by
  go_enter Try.func14, Try.ntmps14
  go_wp2_with fail
  go_loopw [5] (fun i wr => ∃ k : Nat, k ≤ n ∧ i = .int .i64 (k : Int) ∧ Below w.heap.size w wr) (fun i _ => n - (intOf i).toNat)
  case atStart => exact ⟨0, Nat.zero_le _, rfl, Below.refl _ _⟩
  case round =>
    obtain ⟨k, hk, rfl, hbel⟩ := hrel
    by_cases hlt : k < n
    · obtain ⟨b, o, rfl, hb, c0, c1, c2, c3⟩ := (hA.below hbel).row4 hlt
      obtain ⟨b', o', rfl, hb', d0, d1, d2, d3⟩ := (hB.below hbel).row4 hlt
      clear hA hB
      go_wp2_with fail
      have hb1 := hbel.size
      go_region_held3 (fun w' => Below w.heap.size w w' ∧ w'.cell? ⟨b, o + k * 4, none⟩ = some (.int .i64 (num zs (k * 4))) ∧ w'.cell? ⟨b, o + k * 4 + 1, none⟩ = some (.int .i64 (num zs (k * 4 + 1))) ∧ w'.cell? ⟨b, o + k * 4 + 2, none⟩ = some (.int .i64 (num zs (k * 4 + 2))) ∧ w'.cell? ⟨b, o + k * 4 + 3, none⟩ = some (.int .i64 (num zs (k * 4 + 3))) ∧ w'.cell? ⟨b', o' + k * 4, none⟩ = some (.int .i64 (num zs (k * 4))) ∧ w'.cell? ⟨b', o' + k * 4 + 1, none⟩ = some (.int .i64 (num zs (k * 4 + 1))) ∧ w'.cell? ⟨b', o' + k * 4 + 2, none⟩ = some (.int .i64 (num zs (k * 4 + 2))) ∧ w'.cell? ⟨b', o' + k * 4 + 3, none⟩ = some (.int .i64 (num zs (k * 4 + 3)))) ((((try dsimp only); repeat' apply And.intro) <;> (first | assumption | (refine below_later ?_ (by assumption); first | assumption | (simp only [*]; done) | (go_grown; done)) | (refine cell_later (by assumption) ?_; first | assumption | (simp only [*]; done) | (simp [go_sem]; done)) | (go_grown; done) | (simp [go_sem]; done))))
        (fail)
      go_wp2_with fail
      go_roundw
      case rel => exact ⟨k + 1, by omega, by go_num, by first | assumption | (simp only [*]; done)⟩
      case measure => simp [intOf]; omega
    · obtain rfl : k = n := by omega
      go_wp2_with fail
      go_ret
      exact ⟨rfl, hbel⟩
set_option maxHeartbeats 1600000 in
set_option maxRecDepth 100000 in
theorem markOrderS_own (g n cap M : Nat) (f : Nat → Value) (w : World) (hr : w.rowIs g 28 M f) (hn : n * 4 ≤ M) (hb : n ≤ 1048576) :
    Calls Try.prog 21 #[.slice (some ⟨g, 0, none⟩) n cap, .int .i64 1] w fun e w' => e = .returned (.int .i64 ((n : Int) * 4 + 1)) ∧ w'.rowIs g 28 M (markAt f (n * 4)) ∧ w.grownBy w' (some g) := by
  go_enter Try.func21, Try.ntmps21
  go_wp2_with fail
  go_loopw [1, 5] (fun kv i wr => ∃ k : Nat, k ≤ n ∧ i = .int .i64 (k : Int) ∧ kv = .int .i64 ((k : Int) * 4 + 1) ∧ wr.rowIs g 28 M (markAt f (k * 4)) ∧ w.grownBy wr (some g)) (fun _ i _ => n - (intOf i).toNat)
  case atStart => exact ⟨0, Nat.zero_le _, rfl, rfl, hr.congr (fun j _ => by simp [markAt]), World.grownBy.refl _ _⟩
  case round =>
    obtain ⟨k, hk, rfl, rfl, hrow, hg⟩ := hrel
    by_cases hlt : k < n
    · have z := hrow.frozen
      have hk8 : (k + 1) * 4 ≤ M := Nat.le_trans (Nat.mul_le_mul_right _ hlt) hn
      have c0 : wr.cell? ⟨g, k * 4, none⟩ = _ := hrow.cell (i := k * 4) (by omega)
      have c1 : wr.cell? ⟨g, k * 4 + 1, none⟩ = _ := hrow.cell (i := k * 4 + 1) (by omega)
      have c2 : wr.cell? ⟨g, k * 4 + 2, none⟩ = _ := hrow.cell (i := k * 4 + 2) (by omega)
      have c3 : wr.cell? ⟨g, k * 4 + 3, none⟩ = _ := hrow.cell (i := k * 4 + 3) (by omega)
      go_wp2_with fail
      go_roundw
      case rel =>
        exact ⟨k + 1, by omega, by go_num, by go_num, rowIs_mark4 hrow (by omega) (by omega) (by omega) (by omega), (mark_set (mark_set (mark_set (mark_set hg _ _) _ _) _ _) _ _)⟩
      case measure => simp [intOf]; omega
    · obtain rfl : k = n := by omega
      go_wp2_with fail
      go_ret
      exact ⟨rfl, hrow, hg⟩
/-- a book: two slices of orders -/
def BookV (A : Option Addr) (n c : Nat) (B : Option Addr) (m d : Nat) : Value := .agg #[.slice A n c, .slice B m d]
/-- the two sides' rows, in blocks below X -/
def BookIn (w : World) (X : Nat) (A : Option Addr) (n : Nat) (B : Option Addr) (m : Nat) (za zb : List Int) : Prop := Lst w X 4 A n za ∧ Lst w X 4 B m zb
theorem BookIn.later {w w' : World} {A B : Option Addr} {n m : Nat} {za zb : List Int} (h : BookIn w w.heap.size A n B m za zb) (hb : Below w.heap.size w w') : BookIn w' w'.heap.size A n B m za zb := ⟨h.1.later hb, h.2.later hb⟩
end Go.Proofs.Ytempggikcpminaa
