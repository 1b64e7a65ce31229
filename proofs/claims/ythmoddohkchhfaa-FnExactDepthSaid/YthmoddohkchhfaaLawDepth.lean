/-
  The exact law of Depth.
-/
import Derived.Test.YthmoddohkchhfaaBest
import Derived.Test.YthmoddohkchhfaaDep
import Derived.Test.YthmoddohkchhfaaMarkBook
import Derived.Test.YthmoddohkchhfaaBookZ
namespace Go.Proofs.Ythmoddohkchhfaa
open Go.RowKit Wire

set_option linter.unusedSimpArgs false in
set_option maxHeartbeats 1600000 in
set_option maxRecDepth 100000 in
theorem law_Depth (A : Option Addr) (n c : Nat) (B : Option Addr) (m d : Nat) (za zb : List Int) (side : Int) (w : World) (hl : BookIn w w.heap.size A n B m za zb) (hn : n ≤ maxLen) (hm : m ≤ maxLen) :
    Calls Try.prog 9 #[.agg #[.slice A n c, .slice B m d], .int .i64 side] w fun e w' => e = .returned (.bool true) ∧ Below w.heap.size w w' := by
  go_enter Try.func9, Try.ntmps9
  go_wp2_with fail
  refine (szBook_any A n c B m d _ hn hm).mono ?_
  rintro e w0 ⟨⟨z, rfl, hz⟩, hbx⟩
  have p0 := box_cell hbx 0
  have p1 := box_cell hbx 1
  simp at p0 p1
  have hG : w.heap.size < w0.heap.size := by have := hbx.size; simp at this; omega
  have hb0 := below_alloc hbx
  clear hbx
  rcases hz with ⟨rfl, hbig⟩ | ⟨hz0, hnm⟩
  · go_wp2_with fail
    go_ret
    exact ⟨rfl, hb0⟩
  have hz1 : decide (z < 0) = false := decide_eq_false (by omega)
  have hn1 : n ≤ 1048576 := by omega
  have hm1 : m ≤ 1048576 := by omega
  have hl0 := hl.later hb0
  go_wp2_with fail
  refine (toBook_any A n c B m d za zb _ hl0 hnm).mono ?_
  rintro e w1 ⟨g1, f1, rfl, _, _, _, hr1, hs1, hb1⟩
  have hx1 : BookIn w1 w1.heap.size (some ⟨g1, 0, none⟩) n (some ⟨f1, 0, none⟩) m za zb := ⟨Lst.of_row (sz := 4) (zs := za) (n := n) hr1 (Nat.le_refl _) hl.1.1 (fun _ _ => rfl), Lst.of_row (sz := 4) (zs := zb) (n := m) hs1 (Nat.le_refl _) hl.2.1 (fun _ _ => rfl)⟩
  clear hr1 hs1
  have p0 := (hb1.cell (p := ⟨w.heap.size, 0, none⟩) hG).trans p0
  have p1 := (hb1.cell (p := ⟨w.heap.size, 1, none⟩) hG).trans p1
  have hG := Nat.lt_of_lt_of_le hG hb1.size
  have hl1 := hl0.later hb1
  have hB1 := ord_later hb0 hb1
  clear hl0 hb0 hb1
  go_wp2_with fail
  refine (spec_Depth ⟨g1, 0, none⟩ n n ⟨f1, 0, none⟩ m m za zb side w1 hx1.1 hx1.2 hn1 hm1).mono ?_
  have hN : depN (bookB za n zb m) side za n zb m ≤ 1048576 := Nat.le_trans depN_le (by omega)
  have HN := Lib.hid (rfl : depN (bookB za n zb m) side za n zb m = depN (bookB za n zb m) side za n zb m)
  have HZ := Lib.hid (rfl : depZ (bookB za n zb m) side za n zb m = depZ (bookB za n zb m) side za n zb m)
  generalize hsN : depN (bookB za n zb m) side za n zb m = N at hN ⊢
  generalize hsZ : depZ (bookB za n zb m) side za n zb m = Z
  clear HN HZ
  have HN := Lib.hid hsN
  have HZ := Lib.hid hsZ
  clear hsN hsZ
  rintro e w2 ⟨⟨rW, rfl, ownW⟩, hb2⟩
  obtain ⟨Aw, dw, rfl, _, _⟩ := own_slice ownW
  have p0 := (hb2.cell (p := ⟨w.heap.size, 0, none⟩) hG).trans p0
  have p1 := (hb2.cell (p := ⟨w.heap.size, 1, none⟩) hG).trans p1
  have hG := Nat.lt_of_lt_of_le hG hb2.size
  have hl2 := hl1.later hb2
  have hB2 := ord_later hB1 hb2
  clear hl1 hB1 hb2 hx1
  have P0 := Lib.hid p0
  have P1 := Lib.hid p1
  have hG2 := hG
  go_wp2_with fail
  refine (toBook_any A n c B m d za zb _ hl2 hnm).mono ?_
  rintro e w3 ⟨g3, f3, rfl, hg3, hf3, hgf, hr3, hs3, hb3⟩
  have hx3 : BookIn w3 w3.heap.size (some ⟨g3, 0, none⟩) n (some ⟨f3, 0, none⟩) m za zb := ⟨Lst.of_row (sz := 4) (zs := za) (n := n) hr3 (Nat.le_refl _) hl.1.1 (fun _ _ => rfl), Lst.of_row (sz := 4) (zs := zb) (n := m) hs3 (Nat.le_refl _) hl.2.1 (fun _ _ => rfl)⟩
  have p0 := (hb3.cell (p := ⟨w.heap.size, 0, none⟩) hG).trans p0
  have p1 := (hb3.cell (p := ⟨w.heap.size, 1, none⟩) hG).trans p1
  have hG := Nat.lt_of_lt_of_le hG hb3.size
  have hl3 := hl2.later hb3
  have hB3 := ord_later hB2 hb3
  have D3 := hb3
  have hsz23 := hb3.size
  clear hb3
  have HR3 := Lib.hid hr3
  have HS3 := Lib.hid hs3
  have lg3 := hr3.lt
  have lf3 := hs3.lt
  clear hr3 hs3
  go_wp2_with fail
  have hx3b := hx3.later ((Below.refl _ _).alloc (Nat.le_refl _) (.cells #[.slice (some ⟨g3, 0, none⟩) n n, .slice (some ⟨f3, 0, none⟩) m m] 48))
  refine (impl_Depth (some ⟨g3, 0, none⟩) n n (some ⟨f3, 0, none⟩) m m za zb side _ hx3b.1 hx3b.2 hn1 hm1).mono ?_
  rw [HN.out, HZ.out]
  rintro e w4o ⟨⟨rG, rfl, ownG⟩, hb4⟩
  obtain ⟨Ag, dg, rfl, _, _⟩ := own_slice ownG
  have ownG := own_mono (base' := w3.heap.size) ownG (by simp)
  have ownW4 := own_below ownW (ord_later D3 (below_alloc hb4))
  go_wp2_with fail
  refine (eqLevelS_same Ag Aw N dg dw Z w4o (Lst.of_own ownG) (Lst.of_own ownW4) hN).mono ?_
  rintro e w4 ⟨rfl, hb5⟩
  have ownG := own_below ownG hb5
  have hb4 := hb4.trans (hb5.mono hb4.size)
  clear ownW4 hb5
  have q0 := box_cell hb4 0
  have q1 := box_cell hb4 1
  simp at q0 q1
  have hG3 : w3.heap.size < w4.heap.size := by have := hb4.size; simp at this; omega
  have hb4 := below_alloc hb4
  clear hx3b
  have p0 := (hb4.cell (p := ⟨w.heap.size, 0, none⟩) hG).trans p0
  have p1 := (hb4.cell (p := ⟨w.heap.size, 1, none⟩) hG).trans p1
  have hG := Nat.lt_of_lt_of_le hG hb4.size
  have hl4 := hl3.later hb4
  have hx4 := hx3.later hb4
  have hB4 := ord_later hB3 hb4
  have D4 := ord_later D3 hb4
  have E4 := hb4
  have hsz34 := hb4.size
  clear hl3 hB3 hb4 hx3
  have hd4 : Below w4.heap.size w4 w4.drew := (Below.refl _ _).drew
  have hl4d := hl4.later hd4
  have hx4d := hx4.later hd4
  clear hl4 hx4
  go_upto_region 10 with fail
  refine wp_region_held_drew (S := (fun w' => Below w4.heap.size w4 w' ∧ w'.cell? ⟨w.heap.size, 0, none⟩ = some (.slice A n c) ∧ w'.cell? ⟨w.heap.size, 1, none⟩ = some (.slice B m d) ∧ w'.cell? ⟨w3.heap.size, 0, none⟩ = some (.slice (some ⟨g3, 0, none⟩) n n) ∧ w'.cell? ⟨w3.heap.size, 1, none⟩ = some (.slice (some ⟨f3, 0, none⟩) m m))) (by kernel_rfl) ?hSq3xs (fun hHeld => ?restq3xs)
  case hSq3xs => ((first | assumption | ((((try dsimp only); repeat' apply And.intro) <;> (first | assumption | (refine below_later ?_ (by assumption); first | assumption | (simp only [*]; done) | (go_grown; done)) | (refine cell_later (by assumption) ?_; first | assumption | (simp only [*]; done) | (simp [go_sem]; done)) | (go_grown; done) | (simp [go_sem]; done))))))
  refine wpAnyH_take (i := 0) (oi := ?oiq3x1) (v := ?vq3x1) ?hiq3x1 (by kernel_rfl) (by kernel_rfl) (by kernel_rfl) ?hQq3x1 (Or.inl ⟨?hwq3x1, ?hyq3x1⟩) (by assumption) ?restq3x1
  case hiq3x1 => simp only [List.getElem?_toArray, List.getElem?_cons_succ, List.getElem?_cons_zero]; exact rfl
  case hQq3x1 => exact fun _ _ _ h => h
  case hwq3x1 => rfl
  case hyq3x1 => ((intro w hSw; (try dsimp only at hSw); go_simp) <;> with_reducible rfl)
  try simp only [Act.put, List.setIfInBounds_toArray, List.set_cons_zero, List.set_cons_succ]
  refine wpAnyH_take (i := 1) (oi := ?oiq3x2) (v := ?vq3x2) ?hiq3x2 (by kernel_rfl) (by kernel_rfl) (by kernel_rfl) ?hQq3x2 (Or.inl ⟨?hwq3x2, ?hyq3x2⟩) (by assumption) ?restq3x2
  case hiq3x2 => simp only [List.getElem?_toArray, List.getElem?_cons_succ, List.getElem?_cons_zero]; exact rfl
  case hQq3x2 => exact fun _ _ _ h => h
  case hwq3x2 => rfl
  case hyq3x2 => ((intro w hSw; (try dsimp only at hSw); go_simp) <;> with_reducible rfl)
  try simp only [Act.put, List.setIfInBounds_toArray, List.set_cons_zero, List.set_cons_succ]
  refine wpAnyH_ready (rs := [2]) (by kernel_rfl) (by simp) ?_
  refine AllReadyH.cons (o := ?oq3x3) ?hoq3x3 (fun K hK => ?stepq3x3) ?moreq3x3
  case hoq3x3 => simp only [List.getElem?_toArray, List.getElem?_cons_succ, List.getElem?_cons_zero]; exact rfl
  case moreq3x3 => exact AllReadyH.nil
  go_simp
  (go_at_call 35; refine (toBook_any A n c B m d za zb _ hl4d hnm).mono ?_; rintro e w5 ⟨g5, f5, rfl, _, _, _, hr5, hs5, hb5⟩; have hx5 : BookIn w5 w5.heap.size (some ⟨g5, 0, none⟩) n (some ⟨f5, 0, none⟩) m za zb := ⟨Lst.of_row (sz := 4) (zs := za) (n := n) hr5 (Nat.le_refl _) hl.1.1 (fun _ _ => rfl), Lst.of_row (sz := 4) (zs := zb) (n := m) hs5 (Nat.le_refl _) hl.2.1 (fun _ _ => rfl)⟩)
  refine hK.out _ _ ?hSq3x3 (fun hHeld => ?restq3x3)
  case hSq3x3 => ((first | assumption | ((((try dsimp only); repeat' apply And.intro) <;> (first | assumption | (refine below_later ?_ (by assumption); first | assumption | (simp only [*]; done) | (go_grown; done)) | (refine cell_later (by assumption) ?_; first | assumption | (simp only [*]; done) | (simp [go_sem]; done)) | (go_grown; done) | (simp [go_sem]; done))))))
  clear hK K
  try simp only [Act.put, List.setIfInBounds_toArray, List.set_cons_zero, List.set_cons_succ]
  refine wpAnyH_ready (rs := [3]) (by kernel_rfl) (by simp) ?_
  refine AllReadyH.cons (o := ?oq3x4) ?hoq3x4 (fun K hK => ?stepq3x4) ?moreq3x4
  case hoq3x4 => simp only [List.getElem?_toArray, List.getElem?_cons_succ, List.getElem?_cons_zero]; exact rfl
  case moreq3x4 => exact AllReadyH.nil
  go_simp
  (go_at_call 38; refine (eqBook_same _ _ _ _ n m _ _ _ _ za zb w5 (hx4d.later hb5) hx5 hn1 hm1).mono ?_; rintro e w6 ⟨rfl, hb6⟩)
  refine hK.out _ _ ?hSq3x4 (fun hHeld => ?restq3x4)
  case hSq3x4 => ((first | assumption | ((((try dsimp only); repeat' apply And.intro) <;> (first | assumption | (refine below_later ?_ (by assumption); first | assumption | (simp only [*]; done) | (go_grown; done)) | (refine cell_later (by assumption) ?_; first | assumption | (simp only [*]; done) | (simp [go_sem]; done)) | (go_grown; done) | (simp [go_sem]; done))))))
  clear hK K
  try simp only [Act.put, List.setIfInBounds_toArray, List.set_cons_zero, List.set_cons_succ]
  refine wpAnyH_take (i := 4) (oi := ?oiq3x5) (v := ?vq3x5) ?hiq3x5 (by kernel_rfl) (by kernel_rfl) (by kernel_rfl) ?hQq3x5 (Or.inl ⟨?hwq3x5, ?hyq3x5⟩) (by assumption) ?restq3x5
  case hiq3x5 => simp only [List.getElem?_toArray, List.getElem?_cons_succ, List.getElem?_cons_zero]; exact rfl
  case hQq3x5 => exact fun _ _ _ h => h
  case hwq3x5 => rfl
  case hyq3x5 => ((intro w hSw; (try dsimp only at hSw); go_simp) <;> with_reducible rfl)
  try simp only [Act.put, List.setIfInBounds_toArray, List.set_cons_zero, List.set_cons_succ]
  refine wpAnyH_done (by kernel_rfl) ?_ _
  obtain ⟨hb6, p0, p1, q0, q1⟩ := hHeld
  have D6 := ord_later D4 hb6
  have E6 := ord_later E4 hb6
  have ownG := own_below ownG hb6
  have hsz46 := hb6.size
  go_wp2_with fail
  have hr6 := HR3.out.of_block (E6.block g3 lg3)
  have hs6 := HS3.out.of_block (E6.block f3 lf3)
  refine (markBook_any g3 f3 n n m m (n * 4) (m * 4) _ ⟨_, hr6⟩ ⟨_, hs6⟩ hgf (Nat.le_refl _) (Nat.le_refl _) hn1 hm1).mono ?_
  rintro e w7 ⟨⟨k, hk, rfl⟩, o, wa, hga, hgb⟩
  have hsza := hga.size
  have D7 := ((D6.alloc D6.size o).grown hga (Nat.le_trans D6.size (by simp)) (fun q hq => by cases hq; exact hg3)).grown hgb (Nat.le_trans (Nat.le_trans D6.size (by simp)) hsza) (fun q hq => by cases hq; exact hf3)
  have ownG := ((ownG.alloc o).kept hga (.inr (fun e => absurd (ownG.lt g3 e).1 (Nat.not_le_of_lt lg3)))).kept hgb (.inr (fun e => absurd (ownG.lt f3 e).1 (Nat.not_le_of_lt lf3)))
  have hk0 : decide (k < 0) = false := decide_eq_false (by omega)
  have ownW7 := own_below ownW D7
  clear hga hgb hsza hr6 hs6 p0 p1 q0 q1 D6 E6 hb6 D4 E4
  go_wp2_with fail
  refine (eqLevelS_same Ag Aw N dg dw Z w7 (Lst.of_own ownG) (Lst.of_own ownW7) hN).mono ?_
  rintro e w8 ⟨rfl, hb8⟩
  have D8 := ord_later D7 hb8
  have ownG := own_below ownG hb8
  clear ownW7 D7 hb8
  go_wp2_with fail
  refine (markLevelS_any w3.heap.size (.slice Ag N dg) N (nums Z) w8 ownG hN).mono ?_
  rintro e w9 ⟨rfl, hM9, hg9⟩
  have D9 := D8.grown hg9 D8.size (fun q hq => Nat.le_trans hsz23 (ownG.lt q hq).1)
  clear hg9 ownG D8
  have ht0 : decide ((N : Int) * 3 + 1 < 0) = false := decide_eq_false (by omega)
  go_wp2_with fail
  refine (heldLevelS_any _ N w9 hM9 hN).mono ?_
  rintro e w9' ⟨rfl, rfl⟩
  have p0 := (D9.cell (p := ⟨w.heap.size, 0, none⟩) hG2).trans P0.out
  have p1 := (D9.cell (p := ⟨w.heap.size, 1, none⟩) hG2).trans P1.out
  have hl9 := hl2.later D9
  go_wp2_with fail
  refine (toBook_any A n c B m d za zb _ hl9 hnm).mono ?_
  rintro e w10 ⟨g10, f10, rfl, _, _, _, hr10, hs10, hb10⟩
  have hx10 : BookIn w10 w10.heap.size (some ⟨g10, 0, none⟩) n (some ⟨f10, 0, none⟩) m za zb := ⟨Lst.of_row (sz := 4) (zs := za) (n := n) hr10 (Nat.le_refl _) hl.1.1 (fun _ _ => rfl), Lst.of_row (sz := 4) (zs := zb) (n := m) hs10 (Nat.le_refl _) hl.2.1 (fun _ _ => rfl)⟩
  have D10 := ord_later D9 hb10
  have hM10 := hM9.below hb10
  clear hr10 hs10 hb10 D9 hl9 p0 p1
  go_wp2_with fail
  refine (impl_Depth (some ⟨g10, 0, none⟩) n n (some ⟨f10, 0, none⟩) m m za zb side _ hx10.1 hx10.2 hn1 hm1).mono ?_
  rw [HN.out, HZ.out]
  rintro e w11 ⟨⟨rH, rfl, ownH⟩, hb11⟩
  obtain ⟨Ah, dh, rfl, _, _⟩ := own_slice ownH
  have D11 := ord_later D10 hb11
  have hM11 := hM10.below hb11
  have ownW11 := own_below ownW D11
  clear hb11 D10 hM10
  go_wp2_with fail
  refine (eqLevelS_same Ah Aw N dh dw Z w11 (Lst.of_own ownH) (Lst.of_own ownW11) hN).mono ?_
  rintro e w12 ⟨rfl, hb12⟩
  have D12 := ord_later D11 hb12
  have hM12 := hM11.below hb12
  clear hb12 D11 hM11 ownW11 ownH
  go_wp2_with fail
  refine (heldLevelS_any _ N w12 hM12 hN).mono ?_
  rintro e w12' ⟨rfl, rfl⟩
  have hfin := ord_later hB2 D12
  go_wp2_with fail
  go_ret
  exact ⟨by first | rfl | simp, hfin⟩
end Go.Proofs.Ythmoddohkchhfaa
