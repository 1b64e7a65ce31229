/-
  The exact law of Best.
-/
import Derived.Test.YtojkkdoddlmcdaaBest
import Derived.Test.YtojkkdoddlmcdaaBookZ
namespace Go.Proofs.Ytojkkdoddlmcdaa
open Go.RowKit Wire

set_option linter.unusedSimpArgs false in
set_option maxHeartbeats 1600000 in
set_option maxRecDepth 100000 in
theorem law_Best (A : Option Addr) (n c : Nat) (B : Option Addr) (m d : Nat) (za zb : List Int) (side : Int) (w : World) (hl : BookIn w w.heap.size A n B m za zb) (hn : n ≤ maxLen) (hm : m ≤ maxLen) :
    Calls Try.prog 12 #[.agg #[.slice A n c, .slice B m d], .int .i64 side] w fun e w' => e = .returned (.bool true) ∧ Below w.heap.size w w' := by
  go_enter Try.func12, Try.ntmps12
  go_wp2_with fail
  refine (szBook_any A n c B m d _ hn hm).mono ?_
  rintro e w0 ⟨⟨z, rfl, hz⟩, hbx⟩
  have p0 := box_cell hbx 0
  have p1 := box_cell hbx 1
  simp at p0 p1
  have hG : w.heap.size < w0.heap.size := by have := hbx.size; simp at this; omega
  have hb0 := below_alloc hbx
  clear hbx
  rcases hz with ⟨rfl, hbig⟩ | ⟨hz0, hnm⟩
  · go_wp2_with fail
    go_ret
    exact ⟨rfl, hb0⟩
  have hz1 : decide (z < 0) = false := decide_eq_false (by omega)
  have hn1 : n ≤ 1048576 := by omega
  have hm1 : m ≤ 1048576 := by omega
  have hl0 := hl.later hb0
  go_wp2_with fail
  refine (toBook_any A n c B m d za zb _ hl0 hnm).mono ?_
  rintro e w1 ⟨g1, f1, rfl, _, _, _, hr1, hs1, hb1⟩
  have hx1 : BookIn w1 w1.heap.size (some ⟨g1, 0, none⟩) n (some ⟨f1, 0, none⟩) m za zb := ⟨Lst.of_row (sz := 4) (zs := za) (n := n) hr1 (Nat.le_refl _) hl.1.1 (fun _ _ => rfl), Lst.of_row (sz := 4) (zs := zb) (n := m) hs1 (Nat.le_refl _) hl.2.1 (fun _ _ => rfl)⟩
  clear hr1 hs1
  have p0 := (hb1.cell (p := ⟨w.heap.size, 0, none⟩) hG).trans p0
  have p1 := (hb1.cell (p := ⟨w.heap.size, 1, none⟩) hG).trans p1
  have hG := Nat.lt_of_lt_of_le hG hb1.size
  have hl1 := hl0.later hb1
  have hB1 := ord_later hb0 hb1
  clear hl0 hb0 hb1
  go_wp2_with fail
  refine (spec_Best ⟨g1, 0, none⟩ n n ⟨f1, 0, none⟩ m m za zb side w1 hx1.1 hx1.2 hn1 hm1).mono ?_
  generalize hbp : bestP (bookB za n zb m) side za zb n m = bp
  generalize hbb : bestB (bookB za n zb m) side n m = bb
  rintro e w2 ⟨rfl, hb2⟩
  have p0 := (hb2.cell (p := ⟨w.heap.size, 0, none⟩) hG).trans p0
  have p1 := (hb2.cell (p := ⟨w.heap.size, 1, none⟩) hG).trans p1
  have hG := Nat.lt_of_lt_of_le hG hb2.size
  have hl2 := hl1.later hb2
  have hB2 := ord_later hB1 hb2
  clear hl1 hB1 hb2 hx1
  go_wp2_with fail
  refine (toBook_any A n c B m d za zb _ hl2 hnm).mono ?_
  rintro e w3 ⟨g3, f3, rfl, _, _, _, hr3, hs3, hb3⟩
  have hx3 : BookIn w3 w3.heap.size (some ⟨g3, 0, none⟩) n (some ⟨f3, 0, none⟩) m za zb := ⟨Lst.of_row (sz := 4) (zs := za) (n := n) hr3 (Nat.le_refl _) hl.1.1 (fun _ _ => rfl), Lst.of_row (sz := 4) (zs := zb) (n := m) hs3 (Nat.le_refl _) hl.2.1 (fun _ _ => rfl)⟩
  clear hr3 hs3
  have p0 := (hb3.cell (p := ⟨w.heap.size, 0, none⟩) hG).trans p0
  have p1 := (hb3.cell (p := ⟨w.heap.size, 1, none⟩) hG).trans p1
  have hG := Nat.lt_of_lt_of_le hG hb3.size
  have hl3 := hl2.later hb3
  have hB3 := ord_later hB2 hb3
  clear hl2 hB2 hb3
  go_wp2_with fail
  have hx3b := hx3.later ((Below.refl _ _).alloc (Nat.le_refl _) (.cells #[.slice (some ⟨g3, 0, none⟩) n n, .slice (some ⟨f3, 0, none⟩) m m] 26))
  refine (impl_Best (some ⟨g3, 0, none⟩) n n (some ⟨f3, 0, none⟩) m m za zb side _ hx3b.1 hx3b.2 hn1 hm1).mono ?_
  rw [hbp, hbb]
  rintro e w4 ⟨rfl, hb4⟩
  have q0 := box_cell hb4 0
  have q1 := box_cell hb4 1
  simp at q0 q1
  have hG3 : w3.heap.size < w4.heap.size := by have := hb4.size; simp at this; omega
  have hb4 := below_alloc hb4
  clear hx3b
  have p0 := (hb4.cell (p := ⟨w.heap.size, 0, none⟩) hG).trans p0
  have p1 := (hb4.cell (p := ⟨w.heap.size, 1, none⟩) hG).trans p1
  have hG := Nat.lt_of_lt_of_le hG hb4.size
  have hl4 := hl3.later hb4
  have hx4 := hx3.later hb4
  have hB4 := ord_later hB3 hb4
  clear hl3 hB3 hb4 hx3
  have hd4 : Below w4.heap.size w4 w4.drew := (Below.refl _ _).drew
  have hl4d := hl4.later hd4
  have hx4d := hx4.later hd4
  clear hl4 hx4
  go_upto_region 12 with fail
  refine wp_region_held_drew (S := (fun w' => Below w4.heap.size w4 w' ∧ w'.cell? ⟨w.heap.size, 0, none⟩ = some (.slice A n c) ∧ w'.cell? ⟨w.heap.size, 1, none⟩ = some (.slice B m d) ∧ w'.cell? ⟨w3.heap.size, 0, none⟩ = some (.slice (some ⟨g3, 0, none⟩) n n) ∧ w'.cell? ⟨w3.heap.size, 1, none⟩ = some (.slice (some ⟨f3, 0, none⟩) m m))) (by kernel_rfl) ?hSq2xs (fun hHeld => ?restq2xs)
  case hSq2xs => ((first | assumption | ((((try dsimp only); repeat' apply And.intro) <;> (first | assumption | (refine below_later ?_ (by assumption); first | assumption | (simp only [*]; done) | (go_grown; done)) | (refine cell_later (by assumption) ?_; first | assumption | (simp only [*]; done) | (simp [go_sem]; done)) | (go_grown; done) | (simp [go_sem]; done))))))
  refine wpAnyH_take (i := 0) (oi := ?oiq2x1) (v := ?vq2x1) ?hiq2x1 (by kernel_rfl) (by kernel_rfl) (by kernel_rfl) ?hQq2x1 (Or.inl ⟨?hwq2x1, ?hyq2x1⟩) (by assumption) ?restq2x1
  case hiq2x1 => simp only [List.getElem?_toArray, List.getElem?_cons_succ, List.getElem?_cons_zero]; exact rfl
  case hQq2x1 => exact fun _ _ _ h => h
  case hwq2x1 => rfl
  case hyq2x1 => ((intro w hSw; (try dsimp only at hSw); go_simp) <;> with_reducible rfl)
  try simp only [Act.put, List.setIfInBounds_toArray, List.set_cons_zero, List.set_cons_succ]
  refine wpAnyH_take (i := 1) (oi := ?oiq2x2) (v := ?vq2x2) ?hiq2x2 (by kernel_rfl) (by kernel_rfl) (by kernel_rfl) ?hQq2x2 (Or.inl ⟨?hwq2x2, ?hyq2x2⟩) (by assumption) ?restq2x2
  case hiq2x2 => simp only [List.getElem?_toArray, List.getElem?_cons_succ, List.getElem?_cons_zero]; exact rfl
  case hQq2x2 => exact fun _ _ _ h => h
  case hwq2x2 => rfl
  case hyq2x2 => ((intro w hSw; (try dsimp only at hSw); go_simp) <;> with_reducible rfl)
  try simp only [Act.put, List.setIfInBounds_toArray, List.set_cons_zero, List.set_cons_succ]
  refine wpAnyH_ready (rs := [2]) (by kernel_rfl) (by simp) ?_
  refine AllReadyH.cons (o := ?oq2x3) ?hoq2x3 (fun K hK => ?stepq2x3) ?moreq2x3
  case hoq2x3 => simp only [List.getElem?_toArray, List.getElem?_cons_succ, List.getElem?_cons_zero]; exact rfl
  case moreq2x3 => exact AllReadyH.nil
  go_simp
  (go_at_call 39; refine (toBook_any A n c B m d za zb _ hl4d hnm).mono ?_; rintro e w5 ⟨g5, f5, rfl, _, _, _, hr5, hs5, hb5⟩; have hx5 : BookIn w5 w5.heap.size (some ⟨g5, 0, none⟩) n (some ⟨f5, 0, none⟩) m za zb := ⟨Lst.of_row (sz := 4) (zs := za) (n := n) hr5 (Nat.le_refl _) hl.1.1 (fun _ _ => rfl), Lst.of_row (sz := 4) (zs := zb) (n := m) hs5 (Nat.le_refl _) hl.2.1 (fun _ _ => rfl)⟩)
  refine hK.out _ _ ?hSq2x3 (fun hHeld => ?restq2x3)
  case hSq2x3 => ((first | assumption | ((((try dsimp only); repeat' apply And.intro) <;> (first | assumption | (refine below_later ?_ (by assumption); first | assumption | (simp only [*]; done) | (go_grown; done)) | (refine cell_later (by assumption) ?_; first | assumption | (simp only [*]; done) | (simp [go_sem]; done)) | (go_grown; done) | (simp [go_sem]; done))))))
  clear hK K
  try simp only [Act.put, List.setIfInBounds_toArray, List.set_cons_zero, List.set_cons_succ]
  refine wpAnyH_ready (rs := [3]) (by kernel_rfl) (by simp) ?_
  refine AllReadyH.cons (o := ?oq2x4) ?hoq2x4 (fun K hK => ?stepq2x4) ?moreq2x4
  case hoq2x4 => simp only [List.getElem?_toArray, List.getElem?_cons_succ, List.getElem?_cons_zero]; exact rfl
  case moreq2x4 => exact AllReadyH.nil
  go_simp
  (go_at_call 40; refine (eqBook_same _ _ _ _ n m _ _ _ _ za zb w5 (hx4d.later hb5) hx5 hn1 hm1).mono ?_; rintro e w6 ⟨rfl, hb6⟩)
  refine hK.out _ _ ?hSq2x4 (fun hHeld => ?restq2x4)
  case hSq2x4 => ((first | assumption | ((((try dsimp only); repeat' apply And.intro) <;> (first | assumption | (refine below_later ?_ (by assumption); first | assumption | (simp only [*]; done) | (go_grown; done)) | (refine cell_later (by assumption) ?_; first | assumption | (simp only [*]; done) | (simp [go_sem]; done)) | (go_grown; done) | (simp [go_sem]; done))))))
  clear hK K
  try simp only [Act.put, List.setIfInBounds_toArray, List.set_cons_zero, List.set_cons_succ]
  refine wpAnyH_take (i := 4) (oi := ?oiq2x5) (v := ?vq2x5) ?hiq2x5 (by kernel_rfl) (by kernel_rfl) (by kernel_rfl) ?hQq2x5 (Or.inl ⟨?hwq2x5, ?hyq2x5⟩) (by assumption) ?restq2x5
  case hiq2x5 => simp only [List.getElem?_toArray, List.getElem?_cons_succ, List.getElem?_cons_zero]; exact rfl
  case hQq2x5 => exact fun _ _ _ h => h
  case hwq2x5 => rfl
  case hyq2x5 => ((intro w hSw; (try dsimp only at hSw); go_simp) <;> with_reducible rfl)
  try simp only [Act.put, List.setIfInBounds_toArray, List.set_cons_zero, List.set_cons_succ]
  refine wpAnyH_done (by kernel_rfl) ?_ _
  have hfin := ord_later hB4 hHeld.1
  clear hHeld
  go_wp2_with fail
  go_ret
  exact ⟨by first | rfl | simp, hfin⟩
end Go.Proofs.Ytojkkdoddlmcdaa
