/-
 Slices of orders, and books, as the laws hand them on, compare them, mark them.
-/
import Derived.Test.YtgjjdnojiegidaaGreatDoorTak
import Derived.Test.YtgjjdnojiegidaaGreatDoorKit
import Derived.Test.YtgjjdnojiegidaaGreatDoorHA
import Derived.Handy
import Derived.Deep.RegionHeld3
namespace Go.Proofs.YtgjjdnojiegidaaGreatDoor
open Go.RowKit Wire
set_option maxHeartbeats 1600000
set_option maxRecDepth 100000

theorem ord_later {w w1 w2 : World} (h1 : Below w.heap.size w w1) (h2 : Below w1.heap.size w1 w2) : Below w.heap.size w w2 := h1.trans (h2.mono h1.size)
theorem ord_info : (Tryz.prog.info? 65).map (fun i => (i.zero, i.size, i.bytes)) = some (some (.agg #[.int .i64 0, .int .i64 0, .int .i64 0, .int .i64 0]), 4, 32) := by kernel_rfl
theorem zero4 : ∀ j, j < (#[.int .i64 0, .int .i64 0, .int .i64 0, .int .i64 0] : Array Value).size → (#[.int .i64 0, .int .i64 0, .int .i64 0, .int .i64 0] : Array Value)[j]? = some (.int .i64 0) := by
 intro j hj
 simp at hj
 rcases (show j = 0 ∨ j = 1 ∨ j = 2 ∨ j = 3 from by omega) with rfl | rfl | rfl | rfl <;> rfl
theorem szOrderS_any (A : Option Addr) (n c : Nat) (left : Int) (w : World) (hn : n ≤ 9223372036854775807) (h0 : 0 ≤ left) (h1 : left ≤ 1048576) :
 Calls Tryz.prog 15 #[.slice A n c, .int .i64 left] w fun e w' => e = .returned (.int .i64 (if left < n then -1 else left - n)) ∧ w = w' := by
 by_cases h : left < n
 · rw [if_pos h]
   go_enter Tryz.func15, Tryz.ntmps15
   go_wp2_with fail
   go_ret
   exact ⟨rfl, rfl⟩
 · rw [if_neg h]
   go_enter Tryz.func15, Tryz.ntmps15
   go_wp2_with fail
   go_ret
   exact ⟨rfl, rfl⟩
theorem toOrder_any (a b c d : Int) (w : World) :
 Calls Tryz.prog 46 #[.agg #[.int .i64 a, .int .i64 b, .int .i64 c, .int .i64 d]] w fun x w' => x = .returned (.agg #[.int .i64 a, .int .i64 b, .int .i64 c, .int .i64 d]) ∧ Below w.heap.size w w' := by
 go_enter Tryz.func46, Tryz.ntmps46
 go_wp2
 refine bodyPost_ret (v := .agg #[.int .i64 a, .int .i64 b, .int .i64 c, .int .i64 d]) (by simp [results, Tryz.results46, go_sem]) rfl ⟨rfl, ?_⟩
 go_grown
theorem toOrderS_any (A : Option Addr) (n c : Nat) (zs : List Int) (w : World) (hl : Lst w w.heap.size 4 A n zs) (hn : n ≤ 1048576) :
 Calls Tryz.prog 21 #[.slice A n c] w fun e w' => e = .returned (.slice (some ⟨w.heap.size, 0, none⟩) n n) ∧ w'.rowIs w.heap.size 65 (n * 4) (numAt fun j => num zs j) ∧ Below w.heap.size w w' := by
 obtain ⟨i0, hi, hz0, hz1, hz2⟩ := info_parts ord_info
 have hmk := fun (w : World) => run_make_rows (P := Tryz.prog) w 28 65 i0 _ 4 32 Tryz.underlying28 hi hz0 hz1 hz2 .i64 .i64 n (by omega) (by omega)
 have hrow0 := rows_made w #[.int .i64 0, .int .i64 0, .int .i64 0, .int .i64 0] (n * 4) 65 zero4 (by simp)
 have hbel0 : Below w.heap.size w (w.alloc (.cells (madeCells #[.int .i64 0, .int .i64 0, .int .i64 0, .int .i64 0] (n * 4)) 65)) := (Below.refl _ _).alloc (Nat.le_refl _) _
 go_enter Tryz.func21, Tryz.ntmps21
 go_wp2
 go_loopw [4] (fun i wr => ∃ k : Nat, k ≤ n ∧ i = .int .i64 (k : Int) ∧ wr.rowIs w.heap.size 65 (n * 4) (numAt fun j => if j < k * 4 then num zs j else 0) ∧ Below w.heap.size w wr) (fun i _ => n - (intOf i).toNat)
 case atStart => exact ⟨0, Nat.zero_le _, rfl, hrow0.congr (fun j _ => by simp [numAt]), hbel0⟩
 case round =>
  obtain ⟨k, hk, rfl, hrow, hbel⟩ := hrel
  by_cases hlt : k < n
  · obtain ⟨b, o, rfl, hb, c0, c1, c2, c3⟩ := (hl.below hbel).row4 hlt
    go_wp2_with fail
    refine (toOrder_any _ _ _ _ _).mono ?_
    rintro e w1 ⟨rfl, hb1⟩
    have hrow1 := hrow.of_block (hb1.block _ hrow.lt)
    have hbel1 : Below w.heap.size w w1 := hbel.trans (hb1.mono hbel.size)
    obtain ⟨d0, d1, d2, d3⟩ := rowIs_at4 hrow1 (k := k) (by omega)
    have z := hrow1.frozen
    clear hb1 hrow hbel
    go_wp2_with fail
    go_roundw
    case rel =>
     have hp := rowIs_put4 (w := w1) (zs := zs) (g := w.heap.size) (m := n * 4) (k := k) (t := 65) hrow1
     have hq := below_put4 hbel1 (Nat.le_refl w.heap.size) (k * 4) (k * 4 + 1) (k * 4 + 2) (k * 4 + 3) (.int .i64 (num zs (k * 4))) (.int .i64 (num zs (k * 4 + 1))) (.int .i64 (num zs (k * 4 + 2))) (.int .i64 (num zs (k * 4 + 3)))
     exact ⟨k + 1, by omega, by go_num, hp, hq⟩
    case measure => simp [intOf]; omega
  · obtain rfl : k = n := by omega
    go_wp2_with fail
    go_ret
    exact ⟨rfl, hrow.congr (fun j hj => by simp only [numAt]; rw [if_pos hj]), hbel⟩
theorem eqOrder_one (a b c d : Int) (w : World) :
 Calls Tryz.prog 61 #[.agg #[.int .i64 a, .int .i64 b, .int .i64 c, .int .i64 d], .agg #[.int .i64 a, .int .i64 b, .int .i64 c, .int .i64 d]] w fun x w' => x = .returned (.bool true) ∧ Below w.heap.size w w' := by
 go_enter Tryz.func61, Tryz.ntmps61
 go_wp2
 go_ret
 exact ⟨rfl, by go_grown⟩
theorem eqOrderS_same (A B : Option Addr) (n c d : Nat) (zs : List Int) (w : World) (hA : Lst w w.heap.size 4 A n zs) (hB : Lst w w.heap.size 4 B n zs) (hn : n ≤ 1048576) :
 Calls Tryz.prog 28 #[.slice A n c, .slice B n d] w fun e w' => e = .returned (.bool true) ∧ Below w.heap.size w w' := by
 go_enter Tryz.func28, Tryz.ntmps28
 go_wp2_with fail
 go_loopw [5] (fun i wr => ∃ k : Nat, k ≤ n ∧ i = .int .i64 (k : Int) ∧ Below w.heap.size w wr) (fun i _ => n - (intOf i).toNat)
 case atStart => exact ⟨0, Nat.zero_le _, rfl, Below.refl _ _⟩
 case round =>
  obtain ⟨k, hk, rfl, hbel⟩ := hrel
  by_cases hlt : k < n
  · obtain ⟨b, o, rfl, hb, c0, c1, c2, c3⟩ := (hA.below hbel).row4 hlt
    obtain ⟨b', o', rfl, hb', d0, d1, d2, d3⟩ := (hB.below hbel).row4 hlt
    clear hA hB
    go_wp2_with fail
    have hb1 := hbel.size
    go_region_held3 (fun w' => Below w.heap.size w w' ∧ w'.cell? ⟨b, o + k * 4, none⟩ = some (.int .i64 (num zs (k * 4))) ∧ w'.cell? ⟨b, o + k * 4 + 1, none⟩ = some (.int .i64 (num zs (k * 4 + 1))) ∧ w'.cell? ⟨b, o + k * 4 + 2, none⟩ = some (.int .i64 (num zs (k * 4 + 2))) ∧ w'.cell? ⟨b, o + k * 4 + 3, none⟩ = some (.int .i64 (num zs (k * 4 + 3))) ∧ w'.cell? ⟨b', o' + k * 4, none⟩ = some (.int .i64 (num zs (k * 4))) ∧ w'.cell? ⟨b', o' + k * 4 + 1, none⟩ = some (.int .i64 (num zs (k * 4 + 1))) ∧ w'.cell? ⟨b', o' + k * 4 + 2, none⟩ = some (.int .i64 (num zs (k * 4 + 2))) ∧ w'.cell? ⟨b', o' + k * 4 + 3, none⟩ = some (.int .i64 (num zs (k * 4 + 3)))) (exact kp1)
     ((go_at_call 61; refine (eqOrder_one _ _ _ _ _).mono ?_; rintro e w' ⟨rfl, hb⟩))
    go_wp2_with fail
    go_roundw
    case rel => exact ⟨k + 1, by omega, by go_num, by first | assumption | (simp only [*]; done)⟩
    case measure => simp [intOf]; omega
  · obtain rfl : k = n := by omega
    go_wp2_with fail
    go_ret
    exact ⟨rfl, hbel⟩
def MarkedOrder (w : World) (v : Value) (n : Nat) : Prop := (n = 0 ∧ ∃ A c, v = .slice A 0 c) ∨ ∃ g cap f M, v = .slice (some ⟨g, 0, none⟩) n cap ∧ n * 4 ≤ M ∧ w.rowIs g 65 M (markAt f (n * 4))
theorem MarkedOrder.below {w w' : World} {v : Value} {n : Nat} (h : MarkedOrder w v n) (hb : Below w.heap.size w w') : MarkedOrder w' v n := by
 rcases h with h | ⟨g, cap, f, M, h1, h2, h3⟩
 · exact .inl h
 · exact .inr ⟨g, cap, f, M, h1, h2, h3.of_block (hb.block g h3.lt)⟩
def BookIn (w : World) (X : Nat) (A : Option Addr) (n : Nat) (B : Option Addr) (m : Nat) (za zb : List Int) : Prop := Lst w X 4 A n za ∧ Lst w X 4 B m zb
theorem BookIn.later {w w' : World} {A B : Option Addr} {n m : Nat} {za zb : List Int} (h : BookIn w w.heap.size A n B m za zb) (hb : Below w.heap.size w w') : BookIn w' w'.heap.size A n B m za zb := ⟨h.1.later hb, h.2.later hb⟩
theorem szBook_any (A : Option Addr) (n c : Nat) (B : Option Addr) (m d : Nat) (w : World) (hn : n ≤ maxLen) (hm : m ≤ maxLen) :
 Calls Tryz.prog 4 #[.agg #[.slice A n c, .slice B m d], .int .i64 1048576] w fun e w' => (∃ z : Int, e = .returned (.int .i64 z) ∧ ((z = -1 ∧ 1048576 < n + m) ∨ (0 ≤ z ∧ n + m ≤ 1048576))) ∧ Below w.heap.size w w' := by
 unfold maxLen at hn hm
 go_enter Tryz.func4, Tryz.ntmps4
 go_wp2_with fail
 refine (szOrderS_any _ _ _ _ _ (by omega) (by omega) (by omega)).mono ?_
 by_cases h1 : 1048576 < n
 · rw [if_pos (by omega)]
   rintro e w1 ⟨rfl, rfl⟩
   go_wp2_with fail
   go_ret
   exact ⟨⟨-1, rfl, .inl ⟨rfl, by omega⟩⟩, by go_grown⟩
 · rw [if_neg (by omega)]
   rintro e w1 ⟨rfl, rfl⟩
   obtain ⟨L, hL, hL2⟩ : ∃ L : Int, (1048576 : Int) - (n : Int) = L ∧ 0 ≤ L := ⟨_, rfl, by omega⟩
   rw [hL]
   go_wp2_with fail
   refine (szOrderS_any _ _ _ _ _ (by omega) (by omega) (by omega)).mono ?_
   by_cases h2 : L < m
   · rw [if_pos h2]
     rintro e w1 ⟨rfl, rfl⟩
     go_wp2_with fail
     go_ret
     exact ⟨⟨-1, rfl, .inl ⟨rfl, by omega⟩⟩, by go_grown⟩
   · rw [if_neg h2]
     rintro e w1 ⟨rfl, rfl⟩
     obtain ⟨K, hK, hK2⟩ : ∃ K : Int, L - (m : Int) = K ∧ 0 ≤ K := ⟨_, rfl, by omega⟩
     rw [hK]
     go_wp2_with fail
     go_ret
     exact ⟨⟨_, rfl, .inr ⟨hK2, by omega⟩⟩, by go_grown⟩
theorem tBa (A : Option Addr) (n c : Nat) (B : Option Addr) (m d : Nat) (za zb : List Int) (w : World) (hl : BookIn w w.heap.size A n B m za zb) (hnm : n + m ≤ 1048576) :
 Calls Tryz.prog 6 #[.agg #[.slice A n c, .slice B m d]] w fun e w' => ∃ g1 g2, e = .returned (.agg #[.slice (some ⟨g1, 0, none⟩) n n, .slice (some ⟨g2, 0, none⟩) m m]) ∧ w.heap.size ≤ g1 ∧ w.heap.size ≤ g2 ∧ g1 ≠ g2 ∧ w'.rowIs g1 65 (n * 4) (numAt fun j => num za j) ∧ w'.rowIs g2 65 (m * 4) (numAt fun j => num zb j) ∧ Below w.heap.size w w' := by
 have hn : n ≤ 1048576 := by omega
 have hm : m ≤ 1048576 := by omega
 go_enter Tryz.func6, Tryz.ntmps6
 go_wp2_with fail
 have hb0 : Below w.heap.size w (((w.alloc (.cells #[.slice A n c, .slice B m d] 24)).alloc (.cells #[.slice none 0 0, .slice none 0 0] 30)).alloc (.cells #[.slice none 0 0, .slice none 0 0] 30)) := (((Below.refl _ _).alloc (Nat.le_refl _) _).alloc (by simp) _).alloc (by simp; omega) _
 have hl0 : BookIn (((w.alloc (.cells #[.slice A n c, .slice B m d] 24)).alloc (.cells #[.slice none 0 0, .slice none 0 0] 30)).alloc (.cells #[.slice none 0 0, .slice none 0 0] 30)) (((w.alloc (.cells #[.slice A n c, .slice B m d] 24)).alloc (.cells #[.slice none 0 0, .slice none 0 0] 30)).alloc (.cells #[.slice none 0 0, .slice none 0 0] 30)).heap.size A n B m za zb := hl.later hb0
 obtain ⟨h0, h1, h2⟩ := three_blocks w (.cells #[.slice A n c, .slice B m d] 24) (.cells #[.slice none 0 0, .slice none 0 0] 30) (.cells #[.slice none 0 0, .slice none 0 0] 30)
 have hs0 : (((w.alloc (.cells #[.slice A n c, .slice B m d] 24)).alloc (.cells #[.slice none 0 0, .slice none 0 0] 30)).alloc (.cells #[.slice none 0 0, .slice none 0 0] 30)).heap.size = w.heap.size + 3 := by simp
 generalize (((w.alloc (.cells #[.slice A n c, .slice B m d] 24)).alloc (.cells #[.slice none 0 0, .slice none 0 0] 30)).alloc (.cells #[.slice none 0 0, .slice none 0 0] 30)) = w0 at *
 refine (toOrderS_any A n c za _ hl0.1 hn).mono ?_
 rintro e w1 ⟨rfl, hr1, hb1⟩
 have k0 := (hb1.block (w.heap.size) (by omega)).trans h0
 have k1 := (hb1.block (w.heap.size + 1) (by omega)).trans h1
 have k2 := (hb1.block (w.heap.size + 1 + 1) (by omega)).trans h2
 have hsz1 := hb1.size
 have a0 := cell_of_row w1 (w.heap.size) 0 _ _ (0, 0) k0
 have a1 := cell_of_row w1 (w.heap.size) 1 _ _ (0, 0) k0
 have b0 := cell_of_row w1 (w.heap.size + 1) 0 _ _ (0, 0) k1
 have b1 := cell_of_row w1 (w.heap.size + 1) 1 _ _ (0, 0) k1
 have c0 := cell_of_row w1 (w.heap.size + 1 + 1) 0 _ _ (0, 0) k2
 have c1 := cell_of_row w1 (w.heap.size + 1 + 1) 1 _ _ (0, 0) k2
 have zb0 := frozen_of_row w1 (w.heap.size + 1) 0 _ _ k1
 have zb1 := frozen_of_row w1 (w.heap.size + 1) 1 _ _ k1
 have zc0 := frozen_of_row w1 (w.heap.size + 1 + 1) 0 _ _ k2
 have zc1 := frozen_of_row w1 (w.heap.size + 1 + 1) 1 _ _ k2
 simp at a0 a1 b0 b1 c0 c1
 clear k0 k1 k2 h0 h1 h2
 go_wp2_with fail
 have hbW := (hb0.trans (hb1.mono (show w.heap.size ≤ w0.heap.size by omega))).setCell (p := ⟨w.heap.size + 1 + 1, 0, none⟩) le2 (.slice (some ⟨w.heap.size + 3, 0, none⟩) n n)
 have hr1' := hr1.setOther (a := ⟨w.heap.size + 1 + 1, 0, none⟩) (show w0.heap.size ≠ w.heap.size + 1 + 1 by omega) (.slice (some ⟨w.heap.size + 3, 0, none⟩) n n)
 have hszW : (w1.setCell ⟨w.heap.size + 1 + 1, 0, none⟩ (.slice (some ⟨w.heap.size + 3, 0, none⟩) n n)).heap.size = w1.heap.size := by simp [World.setCell]
 refine (toOrderS_any B m d zb _ (hl.later hbW).2 hm).mono ?_
 rintro e w3 ⟨rfl, hr3, hb3⟩
 have hlt := hr1.lt
 have hr13 := hr1'.of_block (hb3.block _ (by rw [hszW]; exact hlt))
 have hb03 := hbW.trans (hb3.mono (by rw [hszW]; omega))
 have d0 := (hb3.cell (p := ⟨w.heap.size + 1 + 1, 0, none⟩) (show w.heap.size + 1 + 1 < _ by rw [hszW]; omega)).trans (World.cell?_setCell_same _ _ _ c0)
 have d1 := (hb3.cell (p := ⟨w.heap.size + 1 + 1, 1, none⟩) (show w.heap.size + 1 + 1 < _ by rw [hszW]; omega)).trans ((World.cell?_setCell_other _ _ _ _ (by simp)).trans c1)
 have f0 := (hb3.cell (p := ⟨w.heap.size + 1, 0, none⟩) (show w.heap.size + 1 < _ by rw [hszW]; omega)).trans ((World.cell?_setCell_other _ _ _ _ (by simp)).trans b0)
 have f1 := (hb3.cell (p := ⟨w.heap.size + 1, 1, none⟩) (show w.heap.size + 1 < _ by rw [hszW]; omega)).trans ((World.cell?_setCell_other _ _ _ _ (by simp)).trans b1)
 have y0 := (hb3.frozen (p := ⟨w.heap.size + 1 + 1, 0, none⟩) (show w.heap.size + 1 + 1 < _ by rw [hszW]; omega)).trans ((by simp : (w1.setCell ⟨w.heap.size + 1 + 1, 0, none⟩ (.slice (some ⟨w.heap.size + 3, 0, none⟩) n n)).frozen? ⟨w.heap.size + 1 + 1, 0, none⟩ = w1.frozen? ⟨w.heap.size + 1 + 1, 0, none⟩).trans zc0)
 have y1 := (hb3.frozen (p := ⟨w.heap.size + 1 + 1, 1, none⟩) (show w.heap.size + 1 + 1 < _ by rw [hszW]; omega)).trans ((by simp : (w1.setCell ⟨w.heap.size + 1 + 1, 0, none⟩ (.slice (some ⟨w.heap.size + 3, 0, none⟩) n n)).frozen? ⟨w.heap.size + 1 + 1, 1, none⟩ = w1.frozen? ⟨w.heap.size + 1 + 1, 1, none⟩).trans zc1)
 have x0 := (hb3.frozen (p := ⟨w.heap.size + 1, 0, none⟩) (show w.heap.size + 1 < _ by rw [hszW]; omega)).trans ((by simp : (w1.setCell ⟨w.heap.size + 1 + 1, 0, none⟩ (.slice (some ⟨w.heap.size + 3, 0, none⟩) n n)).frozen? ⟨w.heap.size + 1, 0, none⟩ = w1.frozen? ⟨w.heap.size + 1, 0, none⟩).trans zb0)
 have x1 := (hb3.frozen (p := ⟨w.heap.size + 1, 1, none⟩) (show w.heap.size + 1 < _ by rw [hszW]; omega)).trans ((by simp : (w1.setCell ⟨w.heap.size + 1 + 1, 0, none⟩ (.slice (some ⟨w.heap.size + 3, 0, none⟩) n n)).frozen? ⟨w.heap.size + 1, 1, none⟩ = w1.frozen? ⟨w.heap.size + 1, 1, none⟩).trans zb1)
 rw [hszW] at hr3 ⊢
 have hg2 : w.heap.size + 3 < w1.heap.size := by have := hr1.lt; omega
 generalize w1.heap.size = G at *
 clear hb3 hr1 hr1' hbW hszW a0 a1 b0 b1 c0 c1 zb0 zb1 zc0 zc1 hb1 hb0 hsz1 hlt
 rw [hs0] at hr13
 go_wp2_with fail
 have q2 : w.heap.size + 1 + 1 ≠ G := by omega
 have q1 : w.heap.size + 1 ≠ G := by omega
 refine bodyPost_ret (v := .agg #[.slice (some ⟨w.heap.size + 3, 0, none⟩) n n, .slice (some ⟨G, 0, none⟩) m m]) (by simp [results, Tryz.results6, go_sem, f0, f1]) rfl ⟨_, _, rfl, by omega, by omega, by omega, ?_, ?_, ?_⟩
 · exact ((hr13.setOther (a := ⟨w.heap.size + 1 + 1, 1, none⟩) (show w.heap.size + 3 ≠ w.heap.size + 1 + 1 by omega) _).setOther (a := ⟨w.heap.size + 1, 0, none⟩) (show w.heap.size + 3 ≠ w.heap.size + 1 by omega) _).setOther (a := ⟨w.heap.size + 1, 1, none⟩) (show w.heap.size + 3 ≠ w.heap.size + 1 by omega) _
 · exact ((hr3.setOther (a := ⟨w.heap.size + 1 + 1, 1, none⟩) (fun e => q2 e.symm) _).setOther (a := ⟨w.heap.size + 1, 0, none⟩) (fun e => q1 e.symm) _).setOther (a := ⟨w.heap.size + 1, 1, none⟩) (fun e => q1 e.symm) _
 · exact ((hb03.setCell (p := ⟨w.heap.size + 1 + 1, 1, none⟩) le2 _).setCell (p := ⟨w.heap.size + 1, 0, none⟩) (show w.heap.size ≤ w.heap.size + 1 by omega) _).setCell (p := ⟨w.heap.size + 1, 1, none⟩) (show w.heap.size ≤ w.heap.size + 1 by omega) _
theorem eqBook_same (A1 A2 B1 B2 : Option Addr) (n m c1 c2 d1 d2 : Nat) (za zb : List Int) (w : World) (h1 : BookIn w w.heap.size A1 n B1 m za zb) (h2 : BookIn w w.heap.size A2 n B2 m za zb) (hn : n ≤ 1048576) (hm : m ≤ 1048576) :
 Calls Tryz.prog 9 #[.agg #[.slice A1 n c1, .slice B1 m d1], .agg #[.slice A2 n c2, .slice B2 m d2]] w fun e w' => e = .returned (.bool true) ∧ Below w.heap.size w w' := by
 go_enter Tryz.func9, Tryz.ntmps9
 go_wp2_with fail
 obtain ⟨k0, k1⟩ := two_blocks w (.cells #[.slice A1 n c1, .slice B1 m d1] 30) (.cells #[.slice A2 n c2, .slice B2 m d2] 30)
 have hb0 : Below w.heap.size w ((w.alloc (.cells #[.slice A1 n c1, .slice B1 m d1] 30)).alloc (.cells #[.slice A2 n c2, .slice B2 m d2] 30)) := ((Below.refl _ _).alloc (Nat.le_refl _) _).alloc (by simp) _
 have hs0 : ((w.alloc (.cells #[.slice A1 n c1, .slice B1 m d1] 30)).alloc (.cells #[.slice A2 n c2, .slice B2 m d2] 30)).heap.size = w.heap.size + 2 := by simp
 have i1 := h1.later hb0
 have i2 := h2.later hb0
 generalize ((w.alloc (.cells #[.slice A1 n c1, .slice B1 m d1] 30)).alloc (.cells #[.slice A2 n c2, .slice B2 m d2] 30)) = w0 at *
 refine (eqOrderS_same A1 A2 n c1 c2 za w0 i1.1 i2.1 hn).mono ?_
 rintro e w1 ⟨rfl, hb1⟩
 have a1 := (hb1.cell (p := ⟨w.heap.size, 1, none⟩) (by rw [hs0]; show w.heap.size < _; omega)).trans (cell_of_row w0 (w.heap.size) 1 _ _ (0, 0) k0)
 have b1 := (hb1.cell (p := ⟨w.heap.size + 1, 1, none⟩) (by rw [hs0]; show w.heap.size + 1 < _; omega)).trans (cell_of_row w0 (w.heap.size + 1) 1 _ _ (0, 0) k1)
 simp at a1 b1
 have j1 := i1.later hb1
 have j2 := i2.later hb1
 have hb1 := ord_later hb0 hb1
 clear k0 k1 hb0 i1 i2 h1 h2
 go_wp2_with fail
 refine (eqOrderS_same B1 B2 m d1 d2 zb w1 j1.2 j2.2 hm).mono ?_
 rintro e w2 ⟨rfl, hb2⟩
 go_wp2_with fail
 go_ret
 exact ⟨rfl, ord_later hb1 hb2⟩
end Go.Proofs.YtgjjdnojiegidaaGreatDoor
