/-
  The drawn law of CandleOf.
-/
import Derived.Test.YteikflfchkmbnaaTrdC
import Derived.Test.YteikflfchkmbnaaDrawCnd
import Derived.Test.YteikflfchkmbnaaCndI
namespace Go.Proofs.Yteikflfchkmbnaa
open Go.RowKit Wire

theorem keep18 {wq v v' : World} {G1 G2 GX : Nat} {fc fx : Nat → Int} (h : Below wq.heap.size wq v ∧ v.cell? ⟨G1, 0, none⟩ = some (.int .i64 (fc 0)) ∧ v.cell? ⟨G1, 1, none⟩ = some (.int .i64 (fc 1)) ∧ v.cell? ⟨G1, 2, none⟩ = some (.int .i64 (fc 2)) ∧ v.cell? ⟨G1, 3, none⟩ = some (.int .i64 (fc 3)) ∧ v.cell? ⟨G1, 4, none⟩ = some (.int .i64 (fc 4)) ∧ v.cell? ⟨G1, 5, none⟩ = some (.int .i64 (fc 5)) ∧ v.cell? ⟨G2, 0, none⟩ = some (.int .i64 (fc 0)) ∧ v.cell? ⟨G2, 1, none⟩ = some (.int .i64 (fc 1)) ∧ v.cell? ⟨G2, 2, none⟩ = some (.int .i64 (fc 2)) ∧ v.cell? ⟨G2, 3, none⟩ = some (.int .i64 (fc 3)) ∧ v.cell? ⟨G2, 4, none⟩ = some (.int .i64 (fc 4)) ∧ v.cell? ⟨G2, 5, none⟩ = some (.int .i64 (fc 5)) ∧ v.cell? ⟨GX, 0, none⟩ = some (.int .i64 (fx 0)) ∧ v.cell? ⟨GX, 1, none⟩ = some (.int .i64 (fx 1)) ∧ v.cell? ⟨GX, 2, none⟩ = some (.int .i64 (fx 2)) ∧ v.cell? ⟨GX, 3, none⟩ = some (.int .i64 (fx 3)) ∧ v.cell? ⟨GX, 4, none⟩ = some (.int .i64 (fx 4)) ∧ v.cell? ⟨GX, 5, none⟩ = some (.int .i64 (fx 5))) (l1 : G1 < wq.heap.size) (l2 : G2 < wq.heap.size) (lX : GX < wq.heap.size) (hb : Below v.heap.size v v') :
    Below wq.heap.size wq v' ∧ v'.cell? ⟨G1, 0, none⟩ = some (.int .i64 (fc 0)) ∧ v'.cell? ⟨G1, 1, none⟩ = some (.int .i64 (fc 1)) ∧ v'.cell? ⟨G1, 2, none⟩ = some (.int .i64 (fc 2)) ∧ v'.cell? ⟨G1, 3, none⟩ = some (.int .i64 (fc 3)) ∧ v'.cell? ⟨G1, 4, none⟩ = some (.int .i64 (fc 4)) ∧ v'.cell? ⟨G1, 5, none⟩ = some (.int .i64 (fc 5)) ∧ v'.cell? ⟨G2, 0, none⟩ = some (.int .i64 (fc 0)) ∧ v'.cell? ⟨G2, 1, none⟩ = some (.int .i64 (fc 1)) ∧ v'.cell? ⟨G2, 2, none⟩ = some (.int .i64 (fc 2)) ∧ v'.cell? ⟨G2, 3, none⟩ = some (.int .i64 (fc 3)) ∧ v'.cell? ⟨G2, 4, none⟩ = some (.int .i64 (fc 4)) ∧ v'.cell? ⟨G2, 5, none⟩ = some (.int .i64 (fc 5)) ∧ v'.cell? ⟨GX, 0, none⟩ = some (.int .i64 (fx 0)) ∧ v'.cell? ⟨GX, 1, none⟩ = some (.int .i64 (fx 1)) ∧ v'.cell? ⟨GX, 2, none⟩ = some (.int .i64 (fx 2)) ∧ v'.cell? ⟨GX, 3, none⟩ = some (.int .i64 (fx 3)) ∧ v'.cell? ⟨GX, 4, none⟩ = some (.int .i64 (fx 4)) ∧ v'.cell? ⟨GX, 5, none⟩ = some (.int .i64 (fx 5)) := by
  obtain ⟨hB, h⟩ := h
  have e : ∀ g j, g < wq.heap.size → v'.cell? ⟨g, j, none⟩ = v.cell? ⟨g, j, none⟩ := fun g j hg => hb.cell (p := ⟨g, j, none⟩) (Nat.lt_of_lt_of_le hg hB.size)
  refine ⟨hB.trans (hb.mono hB.size), ?_⟩
  simp only [e _ _ l1, e _ _ l2, e _ _ lX]
  exact h
theorem Lst.front {w : World} {B sz n k : Nat} {A : Option Addr} {zs : List Int} (h : Lst w B sz A n zs) (hk : k ≤ n) : Lst w B sz A k (zs.take (k * sz)) := by
  refine ⟨by rw [List.length_take, h.1]; exact Nat.min_eq_left (Nat.mul_le_mul_right _ hk), fun h0 => ?_⟩
  obtain ⟨b, o, e, hb, hc⟩ := h.2 (by omega)
  refine ⟨b, o, e, hb, fun j hj => ?_⟩
  rw [num_take hj]
  exact hc j (Nat.lt_of_lt_of_le hj (Nat.mul_le_mul_right _ hk))
theorem Lst.back {w : World} {B sz n k b o : Nat} {zs : List Int} (h : Lst w B sz (some ⟨b, o, none⟩) n zs) (hk : k ≤ n) : Lst w B sz (some ⟨b, o + k * sz, none⟩) (n - k) (zs.drop (k * sz)) := by
  refine ⟨by rw [List.length_drop, h.1, Nat.sub_mul], fun h0 => ?_⟩
  obtain ⟨b', o', e, hb, hc⟩ := h.2 (by omega)
  injection e with e
  injection e with e1 e2
  subst e1 e2
  refine ⟨b, o + k * sz, rfl, hb, fun j hj => ?_⟩
  rw [num_drop]
  have := hc (k * sz + j) (by rw [Nat.sub_mul] at hj; omega)
  rw [← this, Nat.add_assoc]
set_option linter.unusedSimpArgs false in
set_option maxHeartbeats 6400000 in
set_option maxRecDepth 100000 in
theorem law_CandleD (A : Option Addr) (len cap : Nat) (ys : List Int) (w : World) (hrow : IsRow .u8 w A len cap ys) :
    Calls Try.prog 6 #[.slice A len cap] w fun e w' => e = .returned (.bool true) ∧ Below w.heap.size w w' := by
  have hs := src_of_row hrow
  have hl := row_len hrow
  clear hrow
  by_cases hbig : 1048576 < len
  · go_enter Try.func6, Try.ntmps6
    go_wp2_with (go_at_call 11; go_in)
    go_ret
    exact ⟨rfl, Below.refl _ _⟩
  go_enter Try.func6, Try.ntmps6
  go_wp2_with (go_at_call 11; go_in)
  refine (DrawCandleOf_any A len cap _ hs hl).mono ?_
  rintro e w1 ⟨v, n, zs, hn, rfl, hown, hB⟩
  obtain ⟨A1, c1, rfl, hc1, hc2⟩ := own_slice hown
  have hL := Lst.of_own hown
  clear hown
  have hcap : n ≤ c1 ∧ c1 ≤ maxLen := ⟨hc1, hc2⟩
  obtain ⟨fc, hfc⟩ : ∃ f, cndF zs n = f := ⟨_, rfl⟩
  have hV : cndV zs n = .tuple #[.agg #[.int .i64 (fc 0), .int .i64 (fc 1), .int .i64 (fc 2), .int .i64 (fc 3), .int .i64 (fc 4), .int .i64 (fc 5)], .bool (cndB zs n)] := by rw [cndF_val, hfc]
  have HF := Lib.hid hfc
  have HV := Lib.hid hV
  clear hfc hV
  go_wp2_with fail
  refine (impl_CandleOf A1 n c1 zs _ hL (by omega) hcap).mono ?_
  rw [HV.out]
  rintro e w2 ⟨rfl, hb2⟩
  have hbx := hb2.alloc hb2.size (.cells #[.int .i64 (fc 0), .int .i64 (fc 1), .int .i64 (fc 2), .int .i64 (fc 3), .int .i64 (fc 4), .int .i64 (fc 5)] 44)
  have k1 := heap_alloc_new w2 (.cells #[.int .i64 (fc 0), .int .i64 (fc 1), .int .i64 (fc 2), .int .i64 (fc 3), .int .i64 (fc 4), .int .i64 (fc 5)] 44)
  replace hL := hL.later hbx
  replace hB := below_later hB hbx
  clear hb2 hbx
  go_wp2_with fail
  generalize w2.alloc (.cells #[.int .i64 (fc 0), .int .i64 (fc 1), .int .i64 (fc 2), .int .i64 (fc 3), .int .i64 (fc 4), .int .i64 (fc 5)] 44) = W2 at *
  generalize w2.heap.size = G1 at *
  refine (spec_CandleOf A1 n c1 zs _ hL (by omega)).mono ?_
  rw [HV.out]
  rintro e w3 ⟨rfl, hb3⟩
  have hbx := hb3.alloc hb3.size (.cells #[.int .i64 (fc 0), .int .i64 (fc 1), .int .i64 (fc 2), .int .i64 (fc 3), .int .i64 (fc 4), .int .i64 (fc 5)] 44)
  replace k1 := (hbx.block G1 (heap_lt' k1)).trans k1
  have k2 := heap_alloc_new w3 (.cells #[.int .i64 (fc 0), .int .i64 (fc 1), .int .i64 (fc 2), .int .i64 (fc 3), .int .i64 (fc 4), .int .i64 (fc 5)] 44)
  replace hL := hL.later hbx
  replace hB := below_later hB hbx
  clear hb3 hbx
  go_wp2_with fail
  generalize w3.alloc (.cells #[.int .i64 (fc 0), .int .i64 (fc 1), .int .i64 (fc 2), .int .i64 (fc 3), .int .i64 (fc 4), .int .i64 (fc 5)] 44) = W3 at *
  generalize w3.heap.size = G2 at *
  refine (DrawCandleOk_any A len cap _ (src_below hs hB hB.size) hl).mono ?_
  rintro e w4 ⟨fx, rfl, hb4⟩
  have hbx := hb4.alloc hb4.size (.cells #[.int .i64 (fx 0), .int .i64 (fx 1), .int .i64 (fx 2), .int .i64 (fx 3), .int .i64 (fx 4), .int .i64 (fx 5)] 44)
  replace k1 := (hbx.block G1 (heap_lt' k1)).trans k1
  replace k2 := (hbx.block G2 (heap_lt' k2)).trans k2
  have kX := heap_alloc_new w4 (.cells #[.int .i64 (fx 0), .int .i64 (fx 1), .int .i64 (fx 2), .int .i64 (fx 3), .int .i64 (fx 4), .int .i64 (fx 5)] 44)
  replace hL := hL.later hbx
  replace hB := below_later hB hbx
  clear hb4 hbx hs
  rcases Bool.eq_false_or_eq_true (cndB zs n) with hb | hb
  rotate_left
  · rw [hb]
    clear hL hb
    go_upto_region 7 with fail
    generalize w4.alloc (.cells #[.int .i64 (fx 0), .int .i64 (fx 1), .int .i64 (fx 2), .int .i64 (fx 3), .int .i64 (fx 4), .int .i64 (fx 5)] 44) = wq at *
    generalize w4.heap.size = GX at *
    have l1 := heap_lt' k1
    have l2 := heap_lt' k2
    have lX := heap_lt' kX
    obtain ⟨a0, a1, a2, a3, a4, a5⟩ := cell6 k1
    obtain ⟨b0, b1, b2, b3, b4, b5⟩ := cell6 k2
    obtain ⟨x0, x1, x2, x3, x4, x5⟩ := cell6 kX
    refine wp_region_held_drew (S := (fun w' => Below wq.heap.size wq w' ∧ w'.cell? ⟨G1, 0, none⟩ = some (.int .i64 (fc 0)) ∧ w'.cell? ⟨G1, 1, none⟩ = some (.int .i64 (fc 1)) ∧ w'.cell? ⟨G1, 2, none⟩ = some (.int .i64 (fc 2)) ∧ w'.cell? ⟨G1, 3, none⟩ = some (.int .i64 (fc 3)) ∧ w'.cell? ⟨G1, 4, none⟩ = some (.int .i64 (fc 4)) ∧ w'.cell? ⟨G1, 5, none⟩ = some (.int .i64 (fc 5)) ∧ w'.cell? ⟨G2, 0, none⟩ = some (.int .i64 (fc 0)) ∧ w'.cell? ⟨G2, 1, none⟩ = some (.int .i64 (fc 1)) ∧ w'.cell? ⟨G2, 2, none⟩ = some (.int .i64 (fc 2)) ∧ w'.cell? ⟨G2, 3, none⟩ = some (.int .i64 (fc 3)) ∧ w'.cell? ⟨G2, 4, none⟩ = some (.int .i64 (fc 4)) ∧ w'.cell? ⟨G2, 5, none⟩ = some (.int .i64 (fc 5)) ∧ w'.cell? ⟨GX, 0, none⟩ = some (.int .i64 (fx 0)) ∧ w'.cell? ⟨GX, 1, none⟩ = some (.int .i64 (fx 1)) ∧ w'.cell? ⟨GX, 2, none⟩ = some (.int .i64 (fx 2)) ∧ w'.cell? ⟨GX, 3, none⟩ = some (.int .i64 (fx 3)) ∧ w'.cell? ⟨GX, 4, none⟩ = some (.int .i64 (fx 4)) ∧ w'.cell? ⟨GX, 5, none⟩ = some (.int .i64 (fx 5)))) (by kernel_rfl) ?hSq2xs (fun hHeld => ?restq2xs)
    case hSq2xs => (first | exact ⟨(Below.refl _ _).drew, a0, a1, a2, a3, a4, a5, b0, b1, b2, b3, b4, b5, x0, x1, x2, x3, x4, x5⟩ | exact hHeld | exact keep18 hHeld l1 l2 lX hb')
    refine wpAnyH_take (i := 0) (oi := ?oiq2x1) (v := ?vq2x1) ?hiq2x1 (by kernel_rfl) (by kernel_rfl) (by kernel_rfl) ?hQq2x1 (Or.inl ⟨?hwq2x1, ?hyq2x1⟩) (by assumption) ?restq2x1
    case hiq2x1 => simp only [List.getElem?_toArray, List.getElem?_cons_succ, List.getElem?_cons_zero]; exact rfl
    case hQq2x1 => exact fun _ _ _ h => h
    case hwq2x1 => rfl
    case hyq2x1 => ((intro w hSw; (try dsimp only at hSw); go_simp) <;> with_reducible rfl)
    try simp only [Act.put, List.setIfInBounds_toArray, List.set_cons_zero, List.set_cons_succ]
    refine wpAnyH_take (i := 1) (oi := ?oiq2x2) (v := ?vq2x2) ?hiq2x2 (by kernel_rfl) (by kernel_rfl) (by kernel_rfl) ?hQq2x2 (Or.inl ⟨?hwq2x2, ?hyq2x2⟩) (by assumption) ?restq2x2
    case hiq2x2 => simp only [List.getElem?_toArray, List.getElem?_cons_succ, List.getElem?_cons_zero]; exact rfl
    case hQq2x2 => exact fun _ _ _ h => h
    case hwq2x2 => rfl
    case hyq2x2 => ((intro w hSw; (try dsimp only at hSw); go_simp) <;> with_reducible rfl)
    try simp only [Act.put, List.setIfInBounds_toArray, List.set_cons_zero, List.set_cons_succ]
    refine wpAnyH_take (i := 2) (oi := ?oiq2x3) (v := ?vq2x3) ?hiq2x3 (by kernel_rfl) (by kernel_rfl) (by kernel_rfl) ?hQq2x3 (Or.inl ⟨?hwq2x3, ?hyq2x3⟩) (by assumption) ?restq2x3
    case hiq2x3 => simp only [List.getElem?_toArray, List.getElem?_cons_succ, List.getElem?_cons_zero]; exact rfl
    case hQq2x3 => exact fun _ _ _ h => h
    case hwq2x3 => rfl
    case hyq2x3 => ((intro w hSw; (try dsimp only at hSw); go_simp) <;> with_reducible rfl)
    try simp only [Act.put, List.setIfInBounds_toArray, List.set_cons_zero, List.set_cons_succ]
    refine wpAnyH_take (i := 3) (oi := ?oiq2x4) (v := ?vq2x4) ?hiq2x4 (by kernel_rfl) (by kernel_rfl) (by kernel_rfl) ?hQq2x4 (Or.inl ⟨?hwq2x4, ?hyq2x4⟩) (by assumption) ?restq2x4
    case hiq2x4 => simp only [List.getElem?_toArray, List.getElem?_cons_succ, List.getElem?_cons_zero]; exact rfl
    case hQq2x4 => exact fun _ _ _ h => h
    case hwq2x4 => rfl
    case hyq2x4 => ((intro w hSw; (try dsimp only at hSw); go_simp) <;> with_reducible rfl)
    try simp only [Act.put, List.setIfInBounds_toArray, List.set_cons_zero, List.set_cons_succ]
    refine wpAnyH_take (i := 4) (oi := ?oiq2x5) (v := ?vq2x5) ?hiq2x5 (by kernel_rfl) (by kernel_rfl) (by kernel_rfl) ?hQq2x5 (Or.inl ⟨?hwq2x5, ?hyq2x5⟩) (by assumption) ?restq2x5
    case hiq2x5 => simp only [List.getElem?_toArray, List.getElem?_cons_succ, List.getElem?_cons_zero]; exact rfl
    case hQq2x5 => exact fun _ _ _ h => h
    case hwq2x5 => rfl
    case hyq2x5 => ((intro w hSw; (try dsimp only at hSw); go_simp) <;> with_reducible rfl)
    try simp only [Act.put, List.setIfInBounds_toArray, List.set_cons_zero, List.set_cons_succ]
    refine wpAnyH_take (i := 5) (oi := ?oiq2x6) (v := ?vq2x6) ?hiq2x6 (by kernel_rfl) (by kernel_rfl) (by kernel_rfl) ?hQq2x6 (Or.inl ⟨?hwq2x6, ?hyq2x6⟩) (by assumption) ?restq2x6
    case hiq2x6 => simp only [List.getElem?_toArray, List.getElem?_cons_succ, List.getElem?_cons_zero]; exact rfl
    case hQq2x6 => exact fun _ _ _ h => h
    case hwq2x6 => rfl
    case hyq2x6 => ((intro w hSw; (try dsimp only at hSw); go_simp) <;> with_reducible rfl)
    try simp only [Act.put, List.setIfInBounds_toArray, List.set_cons_zero, List.set_cons_succ]
    refine wpAnyH_take (i := 6) (oi := ?oiq2x7) (v := ?vq2x7) ?hiq2x7 (by kernel_rfl) (by kernel_rfl) (by kernel_rfl) ?hQq2x7 (Or.inl ⟨?hwq2x7, ?hyq2x7⟩) (by assumption) ?restq2x7
    case hiq2x7 => simp only [List.getElem?_toArray, List.getElem?_cons_succ, List.getElem?_cons_zero]; exact rfl
    case hQq2x7 => exact fun _ _ _ h => h
    case hwq2x7 => rfl
    case hyq2x7 => ((intro w hSw; (try dsimp only at hSw); go_simp) <;> with_reducible rfl)
    try simp only [Act.put, List.setIfInBounds_toArray, List.set_cons_zero, List.set_cons_succ]
    refine wpAnyH_take (i := 7) (oi := ?oiq2x8) (v := ?vq2x8) ?hiq2x8 (by kernel_rfl) (by kernel_rfl) (by kernel_rfl) ?hQq2x8 (Or.inl ⟨?hwq2x8, ?hyq2x8⟩) (by assumption) ?restq2x8
    case hiq2x8 => simp only [List.getElem?_toArray, List.getElem?_cons_succ, List.getElem?_cons_zero]; exact rfl
    case hQq2x8 => exact fun _ _ _ h => h
    case hwq2x8 => rfl
    case hyq2x8 => ((intro w hSw; (try dsimp only at hSw); go_simp) <;> with_reducible rfl)
    try simp only [Act.put, List.setIfInBounds_toArray, List.set_cons_zero, List.set_cons_succ]
    refine wpAnyH_take (i := 8) (oi := ?oiq2x9) (v := ?vq2x9) ?hiq2x9 (by kernel_rfl) (by kernel_rfl) (by kernel_rfl) ?hQq2x9 (Or.inl ⟨?hwq2x9, ?hyq2x9⟩) (by assumption) ?restq2x9
    case hiq2x9 => simp only [List.getElem?_toArray, List.getElem?_cons_succ, List.getElem?_cons_zero]; exact rfl
    case hQq2x9 => exact fun _ _ _ h => h
    case hwq2x9 => rfl
    case hyq2x9 => ((intro w hSw; (try dsimp only at hSw); go_simp) <;> with_reducible rfl)
    try simp only [Act.put, List.setIfInBounds_toArray, List.set_cons_zero, List.set_cons_succ]
    refine wpAnyH_take (i := 9) (oi := ?oiq2x10) (v := ?vq2x10) ?hiq2x10 (by kernel_rfl) (by kernel_rfl) (by kernel_rfl) ?hQq2x10 (Or.inl ⟨?hwq2x10, ?hyq2x10⟩) (by assumption) ?restq2x10
    case hiq2x10 => simp only [List.getElem?_toArray, List.getElem?_cons_succ, List.getElem?_cons_zero]; exact rfl
    case hQq2x10 => exact fun _ _ _ h => h
    case hwq2x10 => rfl
    case hyq2x10 => ((intro w hSw; (try dsimp only at hSw); go_simp) <;> with_reducible rfl)
    try simp only [Act.put, List.setIfInBounds_toArray, List.set_cons_zero, List.set_cons_succ]
    refine wpAnyH_take (i := 11) (oi := ?oiq2x11) (v := ?vq2x11) ?hiq2x11 (by kernel_rfl) (by kernel_rfl) (by kernel_rfl) ?hQq2x11 (Or.inl ⟨?hwq2x11, ?hyq2x11⟩) (by assumption) ?restq2x11
    case hiq2x11 => simp only [List.getElem?_toArray, List.getElem?_cons_succ, List.getElem?_cons_zero]; exact rfl
    case hQq2x11 => exact fun _ _ _ h => h
    case hwq2x11 => rfl
    case hyq2x11 => ((intro w hSw; (try dsimp only at hSw); go_simp) <;> with_reducible rfl)
    try simp only [Act.put, List.setIfInBounds_toArray, List.set_cons_zero, List.set_cons_succ]
    refine wpAnyH_ready (rs := [10]) (by kernel_rfl) (by simp) ?_
    refine AllReadyH.cons (o := ?oq2x12) ?hoq2x12 (fun K hK => ?stepq2x12) ?moreq2x12
    case hoq2x12 => simp only [List.getElem?_toArray, List.getElem?_cons_succ, List.getElem?_cons_zero]; exact rfl
    case moreq2x12 => exact AllReadyH.nil
    go_simp
    (go_at_call 27; refine (impl_CandleOk (fx 0) (fx 1) (fx 2) (fx 3) (fx 4) (fx 5) _).mono ?_; rintro e w' ⟨rfl, hb'⟩)
    refine hK.out _ _ ?hSq2x12 (fun hHeld => ?restq2x12)
    case hSq2x12 => (first | exact ⟨(Below.refl _ _).drew, a0, a1, a2, a3, a4, a5, b0, b1, b2, b3, b4, b5, x0, x1, x2, x3, x4, x5⟩ | exact hHeld | exact keep18 hHeld l1 l2 lX hb')
    clear hK K
    try simp only [Act.put, List.setIfInBounds_toArray, List.set_cons_zero, List.set_cons_succ]
    refine wpAnyH_ready (rs := [12]) (by kernel_rfl) (by simp) ?_
    refine AllReadyH.cons (o := ?oq2x13) ?hoq2x13 (fun K hK => ?stepq2x13) ?moreq2x13
    case hoq2x13 => simp only [List.getElem?_toArray, List.getElem?_cons_succ, List.getElem?_cons_zero]; exact rfl
    case moreq2x13 => exact AllReadyH.nil
    go_simp
    (go_at_call 28; refine (spec_CandleOk (fx 0) (fx 1) (fx 2) (fx 3) (fx 4) (fx 5) _).mono ?_; rintro e w' ⟨rfl, hb'⟩)
    refine hK.out _ _ ?hSq2x13 (fun hHeld => ?restq2x13)
    case hSq2x13 => (first | exact ⟨(Below.refl _ _).drew, a0, a1, a2, a3, a4, a5, b0, b1, b2, b3, b4, b5, x0, x1, x2, x3, x4, x5⟩ | exact hHeld | exact keep18 hHeld l1 l2 lX hb')
    clear hK K
    try simp only [Act.put, List.setIfInBounds_toArray, List.set_cons_zero, List.set_cons_succ]
    refine wpAnyH_take (i := 13) (oi := ?oiq2x14) (v := ?vq2x14) ?hiq2x14 (by kernel_rfl) (by kernel_rfl) (by kernel_rfl) ?hQq2x14 (Or.inl ⟨?hwq2x14, ?hyq2x14⟩) (by assumption) ?restq2x14
    case hiq2x14 => simp only [List.getElem?_toArray, List.getElem?_cons_succ, List.getElem?_cons_zero]; exact rfl
    case hQq2x14 => exact fun _ _ _ h => h
    case hwq2x14 => rfl
    case hyq2x14 => ((intro w hSw; (try dsimp only at hSw); go_simp) <;> with_reducible rfl)
    try simp only [Act.put, List.setIfInBounds_toArray, List.set_cons_zero, List.set_cons_succ]
    refine wpAnyH_take (i := 14) (oi := ?oiq2x15) (v := ?vq2x15) ?hiq2x15 (by kernel_rfl) (by kernel_rfl) (by kernel_rfl) ?hQq2x15 (Or.inl ⟨?hwq2x15, ?hyq2x15⟩) (by assumption) ?restq2x15
    case hiq2x15 => simp only [List.getElem?_toArray, List.getElem?_cons_succ, List.getElem?_cons_zero]; exact rfl
    case hQq2x15 => exact fun _ _ _ h => h
    case hwq2x15 => rfl
    case hyq2x15 => ((intro w hSw; (try dsimp only at hSw); go_simp) <;> with_reducible rfl)
    try simp only [Act.put, List.setIfInBounds_toArray, List.set_cons_zero, List.set_cons_succ]
    refine wpAnyH_take (i := 15) (oi := ?oiq2x16) (v := ?vq2x16) ?hiq2x16 (by kernel_rfl) (by kernel_rfl) (by kernel_rfl) ?hQq2x16 (Or.inl ⟨?hwq2x16, ?hyq2x16⟩) (by assumption) ?restq2x16
    case hiq2x16 => simp only [List.getElem?_toArray, List.getElem?_cons_succ, List.getElem?_cons_zero]; exact rfl
    case hQq2x16 => exact fun _ _ _ h => h
    case hwq2x16 => rfl
    case hyq2x16 => ((intro w hSw; (try dsimp only at hSw); go_simp) <;> with_reducible rfl)
    try simp only [Act.put, List.setIfInBounds_toArray, List.set_cons_zero, List.set_cons_succ]
    refine wpAnyH_take (i := 16) (oi := ?oiq2x17) (v := ?vq2x17) ?hiq2x17 (by kernel_rfl) (by kernel_rfl) (by kernel_rfl) ?hQq2x17 (Or.inl ⟨?hwq2x17, ?hyq2x17⟩) (by assumption) ?restq2x17
    case hiq2x17 => simp only [List.getElem?_toArray, List.getElem?_cons_succ, List.getElem?_cons_zero]; exact rfl
    case hQq2x17 => exact fun _ _ _ h => h
    case hwq2x17 => rfl
    case hyq2x17 => ((intro w hSw; (try dsimp only at hSw); go_simp) <;> with_reducible rfl)
    try simp only [Act.put, List.setIfInBounds_toArray, List.set_cons_zero, List.set_cons_succ]
    refine wpAnyH_take (i := 17) (oi := ?oiq2x18) (v := ?vq2x18) ?hiq2x18 (by kernel_rfl) (by kernel_rfl) (by kernel_rfl) ?hQq2x18 (Or.inl ⟨?hwq2x18, ?hyq2x18⟩) (by assumption) ?restq2x18
    case hiq2x18 => simp only [List.getElem?_toArray, List.getElem?_cons_succ, List.getElem?_cons_zero]; exact rfl
    case hQq2x18 => exact fun _ _ _ h => h
    case hwq2x18 => rfl
    case hyq2x18 => ((intro w hSw; (try dsimp only at hSw); go_simp) <;> with_reducible rfl)
    try simp only [Act.put, List.setIfInBounds_toArray, List.set_cons_zero, List.set_cons_succ]
    refine wpAnyH_take (i := 18) (oi := ?oiq2x19) (v := ?vq2x19) ?hiq2x19 (by kernel_rfl) (by kernel_rfl) (by kernel_rfl) ?hQq2x19 (Or.inl ⟨?hwq2x19, ?hyq2x19⟩) (by assumption) ?restq2x19
    case hiq2x19 => simp only [List.getElem?_toArray, List.getElem?_cons_succ, List.getElem?_cons_zero]; exact rfl
    case hQq2x19 => exact fun _ _ _ h => h
    case hwq2x19 => rfl
    case hyq2x19 => ((intro w hSw; (try dsimp only at hSw); go_simp) <;> with_reducible rfl)
    try simp only [Act.put, List.setIfInBounds_toArray, List.set_cons_zero, List.set_cons_succ]
    refine wpAnyH_done (by kernel_rfl) ?_ _
    have hH8 := hHeld
    clear hHeld
    go_upto_region 8 with fail
    refine wp_region_held_drew (S := (fun w' => Below wq.heap.size wq w' ∧ w'.cell? ⟨G1, 0, none⟩ = some (.int .i64 (fc 0)) ∧ w'.cell? ⟨G1, 1, none⟩ = some (.int .i64 (fc 1)) ∧ w'.cell? ⟨G1, 2, none⟩ = some (.int .i64 (fc 2)) ∧ w'.cell? ⟨G1, 3, none⟩ = some (.int .i64 (fc 3)) ∧ w'.cell? ⟨G1, 4, none⟩ = some (.int .i64 (fc 4)) ∧ w'.cell? ⟨G1, 5, none⟩ = some (.int .i64 (fc 5)) ∧ w'.cell? ⟨G2, 0, none⟩ = some (.int .i64 (fc 0)) ∧ w'.cell? ⟨G2, 1, none⟩ = some (.int .i64 (fc 1)) ∧ w'.cell? ⟨G2, 2, none⟩ = some (.int .i64 (fc 2)) ∧ w'.cell? ⟨G2, 3, none⟩ = some (.int .i64 (fc 3)) ∧ w'.cell? ⟨G2, 4, none⟩ = some (.int .i64 (fc 4)) ∧ w'.cell? ⟨G2, 5, none⟩ = some (.int .i64 (fc 5)) ∧ w'.cell? ⟨GX, 0, none⟩ = some (.int .i64 (fx 0)) ∧ w'.cell? ⟨GX, 1, none⟩ = some (.int .i64 (fx 1)) ∧ w'.cell? ⟨GX, 2, none⟩ = some (.int .i64 (fx 2)) ∧ w'.cell? ⟨GX, 3, none⟩ = some (.int .i64 (fx 3)) ∧ w'.cell? ⟨GX, 4, none⟩ = some (.int .i64 (fx 4)) ∧ w'.cell? ⟨GX, 5, none⟩ = some (.int .i64 (fx 5)))) (by kernel_rfl) ?hSq3xs (fun hHeld => ?restq3xs)
    case hSq3xs => (first | exact ⟨hH8.1.drew, hH8.2⟩ | exact hHeld | exact keep18 hHeld l1 l2 lX hb')
    refine wpAnyH_take (i := 0) (oi := ?oiq3x1) (v := ?vq3x1) ?hiq3x1 (by kernel_rfl) (by kernel_rfl) (by kernel_rfl) ?hQq3x1 (Or.inl ⟨?hwq3x1, ?hyq3x1⟩) (by assumption) ?restq3x1
    case hiq3x1 => simp only [List.getElem?_toArray, List.getElem?_cons_succ, List.getElem?_cons_zero]; exact rfl
    case hQq3x1 => exact fun _ _ _ h => h
    case hwq3x1 => rfl
    case hyq3x1 => ((intro w hSw; (try dsimp only at hSw); go_simp) <;> with_reducible rfl)
    try simp only [Act.put, List.setIfInBounds_toArray, List.set_cons_zero, List.set_cons_succ]
    refine wpAnyH_take (i := 1) (oi := ?oiq3x2) (v := ?vq3x2) ?hiq3x2 (by kernel_rfl) (by kernel_rfl) (by kernel_rfl) ?hQq3x2 (Or.inl ⟨?hwq3x2, ?hyq3x2⟩) (by assumption) ?restq3x2
    case hiq3x2 => simp only [List.getElem?_toArray, List.getElem?_cons_succ, List.getElem?_cons_zero]; exact rfl
    case hQq3x2 => exact fun _ _ _ h => h
    case hwq3x2 => rfl
    case hyq3x2 => ((intro w hSw; (try dsimp only at hSw); go_simp) <;> with_reducible rfl)
    try simp only [Act.put, List.setIfInBounds_toArray, List.set_cons_zero, List.set_cons_succ]
    refine wpAnyH_take (i := 2) (oi := ?oiq3x3) (v := ?vq3x3) ?hiq3x3 (by kernel_rfl) (by kernel_rfl) (by kernel_rfl) ?hQq3x3 (Or.inl ⟨?hwq3x3, ?hyq3x3⟩) (by assumption) ?restq3x3
    case hiq3x3 => simp only [List.getElem?_toArray, List.getElem?_cons_succ, List.getElem?_cons_zero]; exact rfl
    case hQq3x3 => exact fun _ _ _ h => h
    case hwq3x3 => rfl
    case hyq3x3 => ((intro w hSw; (try dsimp only at hSw); go_simp) <;> with_reducible rfl)
    try simp only [Act.put, List.setIfInBounds_toArray, List.set_cons_zero, List.set_cons_succ]
    refine wpAnyH_take (i := 3) (oi := ?oiq3x4) (v := ?vq3x4) ?hiq3x4 (by kernel_rfl) (by kernel_rfl) (by kernel_rfl) ?hQq3x4 (Or.inl ⟨?hwq3x4, ?hyq3x4⟩) (by assumption) ?restq3x4
    case hiq3x4 => simp only [List.getElem?_toArray, List.getElem?_cons_succ, List.getElem?_cons_zero]; exact rfl
    case hQq3x4 => exact fun _ _ _ h => h
    case hwq3x4 => rfl
    case hyq3x4 => ((intro w hSw; (try dsimp only at hSw); go_simp) <;> with_reducible rfl)
    try simp only [Act.put, List.setIfInBounds_toArray, List.set_cons_zero, List.set_cons_succ]
    refine wpAnyH_take (i := 4) (oi := ?oiq3x5) (v := ?vq3x5) ?hiq3x5 (by kernel_rfl) (by kernel_rfl) (by kernel_rfl) ?hQq3x5 (Or.inl ⟨?hwq3x5, ?hyq3x5⟩) (by assumption) ?restq3x5
    case hiq3x5 => simp only [List.getElem?_toArray, List.getElem?_cons_succ, List.getElem?_cons_zero]; exact rfl
    case hQq3x5 => exact fun _ _ _ h => h
    case hwq3x5 => rfl
    case hyq3x5 => ((intro w hSw; (try dsimp only at hSw); go_simp) <;> with_reducible rfl)
    try simp only [Act.put, List.setIfInBounds_toArray, List.set_cons_zero, List.set_cons_succ]
    refine wpAnyH_take (i := 5) (oi := ?oiq3x6) (v := ?vq3x6) ?hiq3x6 (by kernel_rfl) (by kernel_rfl) (by kernel_rfl) ?hQq3x6 (Or.inl ⟨?hwq3x6, ?hyq3x6⟩) (by assumption) ?restq3x6
    case hiq3x6 => simp only [List.getElem?_toArray, List.getElem?_cons_succ, List.getElem?_cons_zero]; exact rfl
    case hQq3x6 => exact fun _ _ _ h => h
    case hwq3x6 => rfl
    case hyq3x6 => ((intro w hSw; (try dsimp only at hSw); go_simp) <;> with_reducible rfl)
    try simp only [Act.put, List.setIfInBounds_toArray, List.set_cons_zero, List.set_cons_succ]
    refine wpAnyH_take (i := 6) (oi := ?oiq3x7) (v := ?vq3x7) ?hiq3x7 (by kernel_rfl) (by kernel_rfl) (by kernel_rfl) ?hQq3x7 (Or.inl ⟨?hwq3x7, ?hyq3x7⟩) (by assumption) ?restq3x7
    case hiq3x7 => simp only [List.getElem?_toArray, List.getElem?_cons_succ, List.getElem?_cons_zero]; exact rfl
    case hQq3x7 => exact fun _ _ _ h => h
    case hwq3x7 => rfl
    case hyq3x7 => ((intro w hSw; (try dsimp only at hSw); go_simp) <;> with_reducible rfl)
    try simp only [Act.put, List.setIfInBounds_toArray, List.set_cons_zero, List.set_cons_succ]
    refine wpAnyH_take (i := 7) (oi := ?oiq3x8) (v := ?vq3x8) ?hiq3x8 (by kernel_rfl) (by kernel_rfl) (by kernel_rfl) ?hQq3x8 (Or.inl ⟨?hwq3x8, ?hyq3x8⟩) (by assumption) ?restq3x8
    case hiq3x8 => simp only [List.getElem?_toArray, List.getElem?_cons_succ, List.getElem?_cons_zero]; exact rfl
    case hQq3x8 => exact fun _ _ _ h => h
    case hwq3x8 => rfl
    case hyq3x8 => ((intro w hSw; (try dsimp only at hSw); go_simp) <;> with_reducible rfl)
    try simp only [Act.put, List.setIfInBounds_toArray, List.set_cons_zero, List.set_cons_succ]
    refine wpAnyH_take (i := 8) (oi := ?oiq3x9) (v := ?vq3x9) ?hiq3x9 (by kernel_rfl) (by kernel_rfl) (by kernel_rfl) ?hQq3x9 (Or.inl ⟨?hwq3x9, ?hyq3x9⟩) (by assumption) ?restq3x9
    case hiq3x9 => simp only [List.getElem?_toArray, List.getElem?_cons_succ, List.getElem?_cons_zero]; exact rfl
    case hQq3x9 => exact fun _ _ _ h => h
    case hwq3x9 => rfl
    case hyq3x9 => ((intro w hSw; (try dsimp only at hSw); go_simp) <;> with_reducible rfl)
    try simp only [Act.put, List.setIfInBounds_toArray, List.set_cons_zero, List.set_cons_succ]
    refine wpAnyH_take (i := 9) (oi := ?oiq3x10) (v := ?vq3x10) ?hiq3x10 (by kernel_rfl) (by kernel_rfl) (by kernel_rfl) ?hQq3x10 (Or.inl ⟨?hwq3x10, ?hyq3x10⟩) (by assumption) ?restq3x10
    case hiq3x10 => simp only [List.getElem?_toArray, List.getElem?_cons_succ, List.getElem?_cons_zero]; exact rfl
    case hQq3x10 => exact fun _ _ _ h => h
    case hwq3x10 => rfl
    case hyq3x10 => ((intro w hSw; (try dsimp only at hSw); go_simp) <;> with_reducible rfl)
    try simp only [Act.put, List.setIfInBounds_toArray, List.set_cons_zero, List.set_cons_succ]
    refine wpAnyH_take (i := 11) (oi := ?oiq3x11) (v := ?vq3x11) ?hiq3x11 (by kernel_rfl) (by kernel_rfl) (by kernel_rfl) ?hQq3x11 (Or.inl ⟨?hwq3x11, ?hyq3x11⟩) (by assumption) ?restq3x11
    case hiq3x11 => simp only [List.getElem?_toArray, List.getElem?_cons_succ, List.getElem?_cons_zero]; exact rfl
    case hQq3x11 => exact fun _ _ _ h => h
    case hwq3x11 => rfl
    case hyq3x11 => ((intro w hSw; (try dsimp only at hSw); go_simp) <;> with_reducible rfl)
    try simp only [Act.put, List.setIfInBounds_toArray, List.set_cons_zero, List.set_cons_succ]
    refine wpAnyH_ready (rs := [10]) (by kernel_rfl) (by simp) ?_
    refine AllReadyH.cons (o := ?oq3x12) ?hoq3x12 (fun K hK => ?stepq3x12) ?moreq3x12
    case hoq3x12 => simp only [List.getElem?_toArray, List.getElem?_cons_succ, List.getElem?_cons_zero]; exact rfl
    case moreq3x12 => exact AllReadyH.nil
    go_simp
    (go_at_call 27; refine (impl_CandleOk (fx 0) (fx 1) (fx 2) (fx 3) (fx 4) (fx 5) _).mono ?_; rintro e w' ⟨rfl, hb'⟩)
    refine hK.out _ _ ?hSq3x12 (fun hHeld => ?restq3x12)
    case hSq3x12 => (first | exact ⟨hH8.1.drew, hH8.2⟩ | exact hHeld | exact keep18 hHeld l1 l2 lX hb')
    clear hK K
    try simp only [Act.put, List.setIfInBounds_toArray, List.set_cons_zero, List.set_cons_succ]
    refine wpAnyH_ready (rs := [12]) (by kernel_rfl) (by simp) ?_
    refine AllReadyH.cons (o := ?oq3x13) ?hoq3x13 (fun K hK => ?stepq3x13) ?moreq3x13
    case hoq3x13 => simp only [List.getElem?_toArray, List.getElem?_cons_succ, List.getElem?_cons_zero]; exact rfl
    case moreq3x13 => exact AllReadyH.nil
    go_simp
    (go_at_call 28; refine (spec_CandleOk (fx 0) (fx 1) (fx 2) (fx 3) (fx 4) (fx 5) _).mono ?_; rintro e w' ⟨rfl, hb'⟩)
    refine hK.out _ _ ?hSq3x13 (fun hHeld => ?restq3x13)
    case hSq3x13 => (first | exact ⟨hH8.1.drew, hH8.2⟩ | exact hHeld | exact keep18 hHeld l1 l2 lX hb')
    clear hK K
    try simp only [Act.put, List.setIfInBounds_toArray, List.set_cons_zero, List.set_cons_succ]
    refine wpAnyH_take (i := 13) (oi := ?oiq3x14) (v := ?vq3x14) ?hiq3x14 (by kernel_rfl) (by kernel_rfl) (by kernel_rfl) ?hQq3x14 (Or.inl ⟨?hwq3x14, ?hyq3x14⟩) (by assumption) ?restq3x14
    case hiq3x14 => simp only [List.getElem?_toArray, List.getElem?_cons_succ, List.getElem?_cons_zero]; exact rfl
    case hQq3x14 => exact fun _ _ _ h => h
    case hwq3x14 => rfl
    case hyq3x14 => ((intro w hSw; (try dsimp only at hSw); go_simp) <;> with_reducible rfl)
    try simp only [Act.put, List.setIfInBounds_toArray, List.set_cons_zero, List.set_cons_succ]
    refine wpAnyH_take (i := 14) (oi := ?oiq3x15) (v := ?vq3x15) ?hiq3x15 (by kernel_rfl) (by kernel_rfl) (by kernel_rfl) ?hQq3x15 (Or.inl ⟨?hwq3x15, ?hyq3x15⟩) (by assumption) ?restq3x15
    case hiq3x15 => simp only [List.getElem?_toArray, List.getElem?_cons_succ, List.getElem?_cons_zero]; exact rfl
    case hQq3x15 => exact fun _ _ _ h => h
    case hwq3x15 => rfl
    case hyq3x15 => ((intro w hSw; (try dsimp only at hSw); go_simp) <;> with_reducible rfl)
    try simp only [Act.put, List.setIfInBounds_toArray, List.set_cons_zero, List.set_cons_succ]
    refine wpAnyH_take (i := 15) (oi := ?oiq3x16) (v := ?vq3x16) ?hiq3x16 (by kernel_rfl) (by kernel_rfl) (by kernel_rfl) ?hQq3x16 (Or.inl ⟨?hwq3x16, ?hyq3x16⟩) (by assumption) ?restq3x16
    case hiq3x16 => simp only [List.getElem?_toArray, List.getElem?_cons_succ, List.getElem?_cons_zero]; exact rfl
    case hQq3x16 => exact fun _ _ _ h => h
    case hwq3x16 => rfl
    case hyq3x16 => ((intro w hSw; (try dsimp only at hSw); go_simp) <;> with_reducible rfl)
    try simp only [Act.put, List.setIfInBounds_toArray, List.set_cons_zero, List.set_cons_succ]
    refine wpAnyH_done (by kernel_rfl) ?_ _
    have hz := below_later hB hHeld.1
    clear hHeld hH8
    go_wp2_with fail
    go_ret
    exact ⟨by first | rfl | simp, hz⟩
  · rw [hb]
    go_upto_region 7 with fail
    generalize w4.alloc (.cells #[.int .i64 (fx 0), .int .i64 (fx 1), .int .i64 (fx 2), .int .i64 (fx 3), .int .i64 (fx 4), .int .i64 (fx 5)] 44) = wq at *
    generalize w4.heap.size = GX at *
    have hk1 := k1
    have l1 := heap_lt' k1
    have l2 := heap_lt' k2
    have lX := heap_lt' kX
    obtain ⟨a0, a1, a2, a3, a4, a5⟩ := cell6 k1
    obtain ⟨b0, b1, b2, b3, b4, b5⟩ := cell6 k2
    obtain ⟨x0, x1, x2, x3, x4, x5⟩ := cell6 kX
    refine wp_region_held_drew (S := (fun w' => Below wq.heap.size wq w' ∧ w'.cell? ⟨G1, 0, none⟩ = some (.int .i64 (fc 0)) ∧ w'.cell? ⟨G1, 1, none⟩ = some (.int .i64 (fc 1)) ∧ w'.cell? ⟨G1, 2, none⟩ = some (.int .i64 (fc 2)) ∧ w'.cell? ⟨G1, 3, none⟩ = some (.int .i64 (fc 3)) ∧ w'.cell? ⟨G1, 4, none⟩ = some (.int .i64 (fc 4)) ∧ w'.cell? ⟨G1, 5, none⟩ = some (.int .i64 (fc 5)) ∧ w'.cell? ⟨G2, 0, none⟩ = some (.int .i64 (fc 0)) ∧ w'.cell? ⟨G2, 1, none⟩ = some (.int .i64 (fc 1)) ∧ w'.cell? ⟨G2, 2, none⟩ = some (.int .i64 (fc 2)) ∧ w'.cell? ⟨G2, 3, none⟩ = some (.int .i64 (fc 3)) ∧ w'.cell? ⟨G2, 4, none⟩ = some (.int .i64 (fc 4)) ∧ w'.cell? ⟨G2, 5, none⟩ = some (.int .i64 (fc 5)) ∧ w'.cell? ⟨GX, 0, none⟩ = some (.int .i64 (fx 0)) ∧ w'.cell? ⟨GX, 1, none⟩ = some (.int .i64 (fx 1)) ∧ w'.cell? ⟨GX, 2, none⟩ = some (.int .i64 (fx 2)) ∧ w'.cell? ⟨GX, 3, none⟩ = some (.int .i64 (fx 3)) ∧ w'.cell? ⟨GX, 4, none⟩ = some (.int .i64 (fx 4)) ∧ w'.cell? ⟨GX, 5, none⟩ = some (.int .i64 (fx 5)))) (by kernel_rfl) ?hSq4xs (fun hHeld => ?restq4xs)
    case hSq4xs => (first | exact ⟨(Below.refl _ _).drew, a0, a1, a2, a3, a4, a5, b0, b1, b2, b3, b4, b5, x0, x1, x2, x3, x4, x5⟩ | exact hHeld | exact keep18 hHeld l1 l2 lX hb')
    refine wpAnyH_take (i := 0) (oi := ?oiq4x1) (v := ?vq4x1) ?hiq4x1 (by kernel_rfl) (by kernel_rfl) (by kernel_rfl) ?hQq4x1 (Or.inl ⟨?hwq4x1, ?hyq4x1⟩) (by assumption) ?restq4x1
    case hiq4x1 => simp only [List.getElem?_toArray, List.getElem?_cons_succ, List.getElem?_cons_zero]; exact rfl
    case hQq4x1 => exact fun _ _ _ h => h
    case hwq4x1 => rfl
    case hyq4x1 => ((intro w hSw; (try dsimp only at hSw); go_simp) <;> with_reducible rfl)
    try simp only [Act.put, List.setIfInBounds_toArray, List.set_cons_zero, List.set_cons_succ]
    refine wpAnyH_take (i := 1) (oi := ?oiq4x2) (v := ?vq4x2) ?hiq4x2 (by kernel_rfl) (by kernel_rfl) (by kernel_rfl) ?hQq4x2 (Or.inl ⟨?hwq4x2, ?hyq4x2⟩) (by assumption) ?restq4x2
    case hiq4x2 => simp only [List.getElem?_toArray, List.getElem?_cons_succ, List.getElem?_cons_zero]; exact rfl
    case hQq4x2 => exact fun _ _ _ h => h
    case hwq4x2 => rfl
    case hyq4x2 => ((intro w hSw; (try dsimp only at hSw); go_simp) <;> with_reducible rfl)
    try simp only [Act.put, List.setIfInBounds_toArray, List.set_cons_zero, List.set_cons_succ]
    refine wpAnyH_take (i := 2) (oi := ?oiq4x3) (v := ?vq4x3) ?hiq4x3 (by kernel_rfl) (by kernel_rfl) (by kernel_rfl) ?hQq4x3 (Or.inl ⟨?hwq4x3, ?hyq4x3⟩) (by assumption) ?restq4x3
    case hiq4x3 => simp only [List.getElem?_toArray, List.getElem?_cons_succ, List.getElem?_cons_zero]; exact rfl
    case hQq4x3 => exact fun _ _ _ h => h
    case hwq4x3 => rfl
    case hyq4x3 => ((intro w hSw; (try dsimp only at hSw); go_simp) <;> with_reducible rfl)
    try simp only [Act.put, List.setIfInBounds_toArray, List.set_cons_zero, List.set_cons_succ]
    refine wpAnyH_take (i := 3) (oi := ?oiq4x4) (v := ?vq4x4) ?hiq4x4 (by kernel_rfl) (by kernel_rfl) (by kernel_rfl) ?hQq4x4 (Or.inl ⟨?hwq4x4, ?hyq4x4⟩) (by assumption) ?restq4x4
    case hiq4x4 => simp only [List.getElem?_toArray, List.getElem?_cons_succ, List.getElem?_cons_zero]; exact rfl
    case hQq4x4 => exact fun _ _ _ h => h
    case hwq4x4 => rfl
    case hyq4x4 => ((intro w hSw; (try dsimp only at hSw); go_simp) <;> with_reducible rfl)
    try simp only [Act.put, List.setIfInBounds_toArray, List.set_cons_zero, List.set_cons_succ]
    refine wpAnyH_take (i := 4) (oi := ?oiq4x5) (v := ?vq4x5) ?hiq4x5 (by kernel_rfl) (by kernel_rfl) (by kernel_rfl) ?hQq4x5 (Or.inl ⟨?hwq4x5, ?hyq4x5⟩) (by assumption) ?restq4x5
    case hiq4x5 => simp only [List.getElem?_toArray, List.getElem?_cons_succ, List.getElem?_cons_zero]; exact rfl
    case hQq4x5 => exact fun _ _ _ h => h
    case hwq4x5 => rfl
    case hyq4x5 => ((intro w hSw; (try dsimp only at hSw); go_simp) <;> with_reducible rfl)
    try simp only [Act.put, List.setIfInBounds_toArray, List.set_cons_zero, List.set_cons_succ]
    refine wpAnyH_take (i := 5) (oi := ?oiq4x6) (v := ?vq4x6) ?hiq4x6 (by kernel_rfl) (by kernel_rfl) (by kernel_rfl) ?hQq4x6 (Or.inl ⟨?hwq4x6, ?hyq4x6⟩) (by assumption) ?restq4x6
    case hiq4x6 => simp only [List.getElem?_toArray, List.getElem?_cons_succ, List.getElem?_cons_zero]; exact rfl
    case hQq4x6 => exact fun _ _ _ h => h
    case hwq4x6 => rfl
    case hyq4x6 => ((intro w hSw; (try dsimp only at hSw); go_simp) <;> with_reducible rfl)
    try simp only [Act.put, List.setIfInBounds_toArray, List.set_cons_zero, List.set_cons_succ]
    refine wpAnyH_take (i := 6) (oi := ?oiq4x7) (v := ?vq4x7) ?hiq4x7 (by kernel_rfl) (by kernel_rfl) (by kernel_rfl) ?hQq4x7 (Or.inl ⟨?hwq4x7, ?hyq4x7⟩) (by assumption) ?restq4x7
    case hiq4x7 => simp only [List.getElem?_toArray, List.getElem?_cons_succ, List.getElem?_cons_zero]; exact rfl
    case hQq4x7 => exact fun _ _ _ h => h
    case hwq4x7 => rfl
    case hyq4x7 => ((intro w hSw; (try dsimp only at hSw); go_simp) <;> with_reducible rfl)
    try simp only [Act.put, List.setIfInBounds_toArray, List.set_cons_zero, List.set_cons_succ]
    refine wpAnyH_take (i := 7) (oi := ?oiq4x8) (v := ?vq4x8) ?hiq4x8 (by kernel_rfl) (by kernel_rfl) (by kernel_rfl) ?hQq4x8 (Or.inl ⟨?hwq4x8, ?hyq4x8⟩) (by assumption) ?restq4x8
    case hiq4x8 => simp only [List.getElem?_toArray, List.getElem?_cons_succ, List.getElem?_cons_zero]; exact rfl
    case hQq4x8 => exact fun _ _ _ h => h
    case hwq4x8 => rfl
    case hyq4x8 => ((intro w hSw; (try dsimp only at hSw); go_simp) <;> with_reducible rfl)
    try simp only [Act.put, List.setIfInBounds_toArray, List.set_cons_zero, List.set_cons_succ]
    refine wpAnyH_take (i := 8) (oi := ?oiq4x9) (v := ?vq4x9) ?hiq4x9 (by kernel_rfl) (by kernel_rfl) (by kernel_rfl) ?hQq4x9 (Or.inl ⟨?hwq4x9, ?hyq4x9⟩) (by assumption) ?restq4x9
    case hiq4x9 => simp only [List.getElem?_toArray, List.getElem?_cons_succ, List.getElem?_cons_zero]; exact rfl
    case hQq4x9 => exact fun _ _ _ h => h
    case hwq4x9 => rfl
    case hyq4x9 => ((intro w hSw; (try dsimp only at hSw); go_simp) <;> with_reducible rfl)
    try simp only [Act.put, List.setIfInBounds_toArray, List.set_cons_zero, List.set_cons_succ]
    refine wpAnyH_take (i := 9) (oi := ?oiq4x10) (v := ?vq4x10) ?hiq4x10 (by kernel_rfl) (by kernel_rfl) (by kernel_rfl) ?hQq4x10 (Or.inl ⟨?hwq4x10, ?hyq4x10⟩) (by assumption) ?restq4x10
    case hiq4x10 => simp only [List.getElem?_toArray, List.getElem?_cons_succ, List.getElem?_cons_zero]; exact rfl
    case hQq4x10 => exact fun _ _ _ h => h
    case hwq4x10 => rfl
    case hyq4x10 => ((intro w hSw; (try dsimp only at hSw); go_simp) <;> with_reducible rfl)
    try simp only [Act.put, List.setIfInBounds_toArray, List.set_cons_zero, List.set_cons_succ]
    refine wpAnyH_take (i := 11) (oi := ?oiq4x11) (v := ?vq4x11) ?hiq4x11 (by kernel_rfl) (by kernel_rfl) (by kernel_rfl) ?hQq4x11 (Or.inl ⟨?hwq4x11, ?hyq4x11⟩) (by assumption) ?restq4x11
    case hiq4x11 => simp only [List.getElem?_toArray, List.getElem?_cons_succ, List.getElem?_cons_zero]; exact rfl
    case hQq4x11 => exact fun _ _ _ h => h
    case hwq4x11 => rfl
    case hyq4x11 => ((intro w hSw; (try dsimp only at hSw); go_simp) <;> with_reducible rfl)
    try simp only [Act.put, List.setIfInBounds_toArray, List.set_cons_zero, List.set_cons_succ]
    refine wpAnyH_ready (rs := [10]) (by kernel_rfl) (by simp) ?_
    refine AllReadyH.cons (o := ?oq4x12) ?hoq4x12 (fun K hK => ?stepq4x12) ?moreq4x12
    case hoq4x12 => simp only [List.getElem?_toArray, List.getElem?_cons_succ, List.getElem?_cons_zero]; exact rfl
    case moreq4x12 => exact AllReadyH.nil
    go_simp
    (go_at_call 27; refine (impl_CandleOk (fx 0) (fx 1) (fx 2) (fx 3) (fx 4) (fx 5) _).mono ?_; rintro e w' ⟨rfl, hb'⟩)
    refine hK.out _ _ ?hSq4x12 (fun hHeld => ?restq4x12)
    case hSq4x12 => (first | exact ⟨(Below.refl _ _).drew, a0, a1, a2, a3, a4, a5, b0, b1, b2, b3, b4, b5, x0, x1, x2, x3, x4, x5⟩ | exact hHeld | exact keep18 hHeld l1 l2 lX hb')
    clear hK K
    try simp only [Act.put, List.setIfInBounds_toArray, List.set_cons_zero, List.set_cons_succ]
    refine wpAnyH_ready (rs := [12]) (by kernel_rfl) (by simp) ?_
    refine AllReadyH.cons (o := ?oq4x13) ?hoq4x13 (fun K hK => ?stepq4x13) ?moreq4x13
    case hoq4x13 => simp only [List.getElem?_toArray, List.getElem?_cons_succ, List.getElem?_cons_zero]; exact rfl
    case moreq4x13 => exact AllReadyH.nil
    go_simp
    (go_at_call 28; refine (spec_CandleOk (fx 0) (fx 1) (fx 2) (fx 3) (fx 4) (fx 5) _).mono ?_; rintro e w' ⟨rfl, hb'⟩)
    refine hK.out _ _ ?hSq4x13 (fun hHeld => ?restq4x13)
    case hSq4x13 => (first | exact ⟨(Below.refl _ _).drew, a0, a1, a2, a3, a4, a5, b0, b1, b2, b3, b4, b5, x0, x1, x2, x3, x4, x5⟩ | exact hHeld | exact keep18 hHeld l1 l2 lX hb')
    clear hK K
    try simp only [Act.put, List.setIfInBounds_toArray, List.set_cons_zero, List.set_cons_succ]
    refine wpAnyH_take (i := 13) (oi := ?oiq4x14) (v := ?vq4x14) ?hiq4x14 (by kernel_rfl) (by kernel_rfl) (by kernel_rfl) ?hQq4x14 (Or.inl ⟨?hwq4x14, ?hyq4x14⟩) (by assumption) ?restq4x14
    case hiq4x14 => simp only [List.getElem?_toArray, List.getElem?_cons_succ, List.getElem?_cons_zero]; exact rfl
    case hQq4x14 => exact fun _ _ _ h => h
    case hwq4x14 => rfl
    case hyq4x14 => ((intro w hSw; (try dsimp only at hSw); go_simp) <;> with_reducible rfl)
    try simp only [Act.put, List.setIfInBounds_toArray, List.set_cons_zero, List.set_cons_succ]
    refine wpAnyH_take (i := 14) (oi := ?oiq4x15) (v := ?vq4x15) ?hiq4x15 (by kernel_rfl) (by kernel_rfl) (by kernel_rfl) ?hQq4x15 (Or.inl ⟨?hwq4x15, ?hyq4x15⟩) (by assumption) ?restq4x15
    case hiq4x15 => simp only [List.getElem?_toArray, List.getElem?_cons_succ, List.getElem?_cons_zero]; exact rfl
    case hQq4x15 => exact fun _ _ _ h => h
    case hwq4x15 => rfl
    case hyq4x15 => ((intro w hSw; (try dsimp only at hSw); go_simp) <;> with_reducible rfl)
    try simp only [Act.put, List.setIfInBounds_toArray, List.set_cons_zero, List.set_cons_succ]
    refine wpAnyH_take (i := 15) (oi := ?oiq4x16) (v := ?vq4x16) ?hiq4x16 (by kernel_rfl) (by kernel_rfl) (by kernel_rfl) ?hQq4x16 (Or.inl ⟨?hwq4x16, ?hyq4x16⟩) (by assumption) ?restq4x16
    case hiq4x16 => simp only [List.getElem?_toArray, List.getElem?_cons_succ, List.getElem?_cons_zero]; exact rfl
    case hQq4x16 => exact fun _ _ _ h => h
    case hwq4x16 => rfl
    case hyq4x16 => ((intro w hSw; (try dsimp only at hSw); go_simp) <;> with_reducible rfl)
    try simp only [Act.put, List.setIfInBounds_toArray, List.set_cons_zero, List.set_cons_succ]
    refine wpAnyH_take (i := 16) (oi := ?oiq4x17) (v := ?vq4x17) ?hiq4x17 (by kernel_rfl) (by kernel_rfl) (by kernel_rfl) ?hQq4x17 (Or.inl ⟨?hwq4x17, ?hyq4x17⟩) (by assumption) ?restq4x17
    case hiq4x17 => simp only [List.getElem?_toArray, List.getElem?_cons_succ, List.getElem?_cons_zero]; exact rfl
    case hQq4x17 => exact fun _ _ _ h => h
    case hwq4x17 => rfl
    case hyq4x17 => ((intro w hSw; (try dsimp only at hSw); go_simp) <;> with_reducible rfl)
    try simp only [Act.put, List.setIfInBounds_toArray, List.set_cons_zero, List.set_cons_succ]
    refine wpAnyH_take (i := 17) (oi := ?oiq4x18) (v := ?vq4x18) ?hiq4x18 (by kernel_rfl) (by kernel_rfl) (by kernel_rfl) ?hQq4x18 (Or.inl ⟨?hwq4x18, ?hyq4x18⟩) (by assumption) ?restq4x18
    case hiq4x18 => simp only [List.getElem?_toArray, List.getElem?_cons_succ, List.getElem?_cons_zero]; exact rfl
    case hQq4x18 => exact fun _ _ _ h => h
    case hwq4x18 => rfl
    case hyq4x18 => ((intro w hSw; (try dsimp only at hSw); go_simp) <;> with_reducible rfl)
    try simp only [Act.put, List.setIfInBounds_toArray, List.set_cons_zero, List.set_cons_succ]
    refine wpAnyH_take (i := 18) (oi := ?oiq4x19) (v := ?vq4x19) ?hiq4x19 (by kernel_rfl) (by kernel_rfl) (by kernel_rfl) ?hQq4x19 (Or.inl ⟨?hwq4x19, ?hyq4x19⟩) (by assumption) ?restq4x19
    case hiq4x19 => simp only [List.getElem?_toArray, List.getElem?_cons_succ, List.getElem?_cons_zero]; exact rfl
    case hQq4x19 => exact fun _ _ _ h => h
    case hwq4x19 => rfl
    case hyq4x19 => ((intro w hSw; (try dsimp only at hSw); go_simp) <;> with_reducible rfl)
    try simp only [Act.put, List.setIfInBounds_toArray, List.set_cons_zero, List.set_cons_succ]
    refine wpAnyH_done (by kernel_rfl) ?_ _
    replace k1 := (hHeld.1.block G1 l1).trans hk1
    replace hL := hL.later hHeld.1
    replace hB := below_later hB hHeld.1
    clear hHeld hk1 k2 kX l1 l2 lX a0 a1 a2 a3 a4 a5 b0 b1 b2 b3 b4 b5 x0 x1 x2 x3 x4 x5
    obtain ⟨hn1, hn2, _⟩ := cnd_parts hb
    have hok : cdlB (fc 0) (fc 1) (fc 2) (fc 3) (fc 4) (fc 5) = true := by have := cndF_ok hb; rw [HF.out] at this; exact this
    have HO := Lib.hid hok
    clear hok
    obtain ⟨K, hK⟩ : ∃ K, len % n = K := ⟨_, rfl⟩
    have hKn : K < n := by rw [← hK]; exact Nat.mod_lt _ (by omega)
    have hKi : (len : Int) % (n : Int) = (K : Int) := by rw [← hK]; exact (Int.natCast_emod len n).symm
    have z0 : ((n : Int) == 0) = false := beq_eq_false_iff_ne.2 (by omega)
    clear hK
    by_cases hK0 : K = 0
    · subst hK0
      obtain ⟨a0, a1, a2, a3, a4, a5⟩ := cell6 k1
      clear k1 hL
      go_wp2_with fail
      refine (impl_CandleOk (fc 0) (fc 1) (fc 2) (fc 3) (fc 4) (fc 5) _).mono ?_
      rw [HO.out]
      rintro e w9 ⟨rfl, hb9⟩
      have hz := below_later hB hb9
      go_wp2_with fail
      go_ret
      exact ⟨by first | rfl | simp, hz⟩
    · have zk : ((K : Int) == 0) = false := beq_eq_false_iff_ne.2 (by omega)
      obtain ⟨ha, hd, hbe, hj⟩ := cut_beh hb (show 1 ≤ K by omega) hKn
      have hba := beh_yes hbe
      obtain ⟨b, o, hA, _⟩ := hL.2 (by omega)
      subst hA
      have hF := hL.front (k := K) (by omega)
      have hD := hL.back (k := K) (by omega)
      generalize zs.take (K * 2) = za at *
      generalize zs.drop (K * 2) = zd at *
      have hVa : cndV za K = .tuple #[.agg #[.int .i64 (cndF za K 0), .int .i64 (cndF za K 1), .int .i64 (cndF za K 2), .int .i64 (cndF za K 3), .int .i64 (cndF za K 4), .int .i64 (cndF za K 5)], .bool true] := by rw [cndF_val, ha]
      have hVb : cndV zd (n - K) = .tuple #[.agg #[.int .i64 (cndF zd (n - K) 0), .int .i64 (cndF zd (n - K) 1), .int .i64 (cndF zd (n - K) 2), .int .i64 (cndF zd (n - K) 3), .int .i64 (cndF zd (n - K) 4), .int .i64 (cndF zd (n - K) 5)], .bool true] := by rw [cndF_val, hd]
      rw [hj 0, hj 1, hj 2, hj 3, hj 4, hj 5, HF.out] at hba
      clear hbe ha hd hj hb hL
      generalize cndF za K = fa at *
      generalize cndF zd (n - K) = fb at *
      have HA := Lib.hid hVa
      have HD := Lib.hid hVb
      have HE := Lib.hid hba
      clear hVa hVb hba
      go_wp2_with fail
      refine (impl_CandleOf _ K c1 za _ hF (by omega) ⟨by omega, hc2⟩).mono ?_
      rw [HA.out]
      rintro e w6 ⟨rfl, hb6⟩
      have hbx := hb6.alloc hb6.size (.cells #[.int .i64 (fa 0), .int .i64 (fa 1), .int .i64 (fa 2), .int .i64 (fa 3), .int .i64 (fa 4), .int .i64 (fa 5)] 44)
      replace k1 := (hbx.block G1 (heap_lt' k1)).trans k1
      have kA := heap_alloc_new w6 (.cells #[.int .i64 (fa 0), .int .i64 (fa 1), .int .i64 (fa 2), .int .i64 (fa 3), .int .i64 (fa 4), .int .i64 (fa 5)] 44)
      replace hD := hD.later hbx
      replace hB := below_later hB hbx
      clear hb6 hbx hF
      go_wp2_with fail
      generalize w6.alloc (.cells #[.int .i64 (fa 0), .int .i64 (fa 1), .int .i64 (fa 2), .int .i64 (fa 3), .int .i64 (fa 4), .int .i64 (fa 5)] 44) = W6 at *
      generalize w6.heap.size = GA at *
      refine (impl_CandleOf _ (n - K) (c1 - K) zd _ hD (by omega) ⟨by omega, by omega⟩).mono ?_
      rw [HD.out]
      rintro e w7 ⟨rfl, hb7⟩
      have hbx := hb7.alloc hb7.size (.cells #[.int .i64 (fb 0), .int .i64 (fb 1), .int .i64 (fb 2), .int .i64 (fb 3), .int .i64 (fb 4), .int .i64 (fb 5)] 44)
      replace k1 := (hbx.block G1 (heap_lt' k1)).trans k1
      replace kA := (hbx.block GA (heap_lt' kA)).trans kA
      have kB := heap_alloc_new w7 (.cells #[.int .i64 (fb 0), .int .i64 (fb 1), .int .i64 (fb 2), .int .i64 (fb 3), .int .i64 (fb 4), .int .i64 (fb 5)] 44)
      replace hB := below_later hB hbx
      clear hb7 hbx hD
      obtain ⟨a0, a1, a2, a3, a4, a5⟩ := cell6 kA
      obtain ⟨b0, b1, b2, b3, b4, b5⟩ := cell6 kB
      go_wp2_with fail
      generalize w7.alloc (.cells #[.int .i64 (fb 0), .int .i64 (fb 1), .int .i64 (fb 2), .int .i64 (fb 3), .int .i64 (fb 4), .int .i64 (fb 5)] 44) = W7 at *
      generalize w7.heap.size = GB at *
      clear a0 a1 a2 a3 a4 a5 b0 b1 b2 b3 b4 b5 kA kB
      refine (impl_Behind (fa 0) (fa 1) (fa 2) (fa 3) (fa 4) (fa 5) (fb 0) (fb 1) (fb 2) (fb 3) (fb 4) (fb 5) _).mono ?_
      rw [HE.out]
      rintro e w8 ⟨rfl, hb8⟩
      have hbx := hb8.alloc hb8.size (.cells #[.int .i64 (fc 0), .int .i64 (fc 1), .int .i64 (fc 2), .int .i64 (fc 3), .int .i64 (fc 4), .int .i64 (fc 5)] 44)
      replace k1 := (hbx.block G1 (heap_lt' k1)).trans k1
      have kC := heap_alloc_new w8 (.cells #[.int .i64 (fc 0), .int .i64 (fc 1), .int .i64 (fc 2), .int .i64 (fc 3), .int .i64 (fc 4), .int .i64 (fc 5)] 44)
      replace hB := below_later hB hbx
      clear hb8 hbx
      obtain ⟨a0, a1, a2, a3, a4, a5⟩ := cell6 k1
      go_wp2_with fail
      generalize w8.alloc (.cells #[.int .i64 (fc 0), .int .i64 (fc 1), .int .i64 (fc 2), .int .i64 (fc 3), .int .i64 (fc 4), .int .i64 (fc 5)] 44) = W8 at *
      generalize w8.heap.size = GC at *
      clear a0 a1 a2 a3 a4 a5
      refine (impl_CandleOk (fc 0) (fc 1) (fc 2) (fc 3) (fc 4) (fc 5) _).mono ?_
      rw [HO.out]
      rintro e w9 ⟨rfl, hb9⟩
      replace k1 := (hb9.block G1 (heap_lt' k1)).trans k1
      replace kC := (hb9.block GC (heap_lt' kC)).trans kC
      have hz := below_later hB hb9
      obtain ⟨a0, a1, a2, a3, a4, a5⟩ := cell6 k1
      obtain ⟨b0, b1, b2, b3, b4, b5⟩ := cell6 kC
      clear hB hb9 k1 kC
      go_wp2_with fail
      go_ret
      exact ⟨by first | rfl | simp, hz⟩
end Go.Proofs.Yteikflfchkmbnaa
