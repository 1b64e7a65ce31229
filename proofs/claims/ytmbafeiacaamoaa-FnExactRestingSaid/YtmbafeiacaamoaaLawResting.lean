/-
  The exact law of Resting.
-/
import Derived.Test.YtmbafeiacaamoaaResting
import Derived.Test.YtmbafeiacaamoaaEngT
import Derived.Deep.RegionHeld3
namespace Go.Proofs.Ytmbafeiacaamoaa
open Go.RowKit Wire

set_option linter.unusedSimpArgs false in
set_option maxHeartbeats 3200000 in
set_option maxRecDepth 100000 in
theorem law_Resting (A : Option Addr) (n c : Nat) (I : Option Addr) (i d : Nat) (bs : List (List Int × List Int)) (is : List Int) (sym id : Int) (w : World) (hl : BksAt maxLen w w.heap.size A bs) (hlen : bs.length = n) (ha : Lst w w.heap.size 1 I i is) (hn : n ≤ maxLen) (hi : i ≤ maxLen) :
    Calls Try.prog 7 #[.agg #[.slice A n c, .slice I i d], .int .i64 sym, .int .i64 id] w fun e w' => e = .returned (.bool true) ∧ Below w.heap.size w w' := by
  have k0 := heap_alloc_new w (.cells #[.slice A n c, .slice I i d] 25)
  have hbw : Below w.heap.size w (w.alloc (.cells #[.slice A n c, .slice I i d] 25)) := (Below.refl _ _).alloc (Nat.le_refl _) _
  have hsw : w.heap.size < (w.alloc (.cells #[.slice A n c, .slice I i d] 25)).heap.size := by simp
  have hlw : BksAt maxLen _ _ A bs ∧ Lst _ _ 1 I i is := ⟨hl.later hbw, ha.later hbw⟩
  clear hl ha
  go_enter Try.func7, Try.ntmps7
  go_wp2_with fail
  generalize (w.alloc (.cells #[.slice A n c, .slice I i d] 25)) = ww at *
  refine (szEngine_any A n c I i d bs _ hlw.1 hlen hn hi).mono ?_
  rintro e w0 ⟨⟨z, rfl, hz⟩, hb0⟩
  have kr := (hb0.block _ hsw).trans k0
  have p0 := cell_of_row w0 w.heap.size 0 _ _ (0, 0) kr
  have p1 := cell_of_row w0 w.heap.size 1 _ _ (0, 0) kr
  simp at p0 p1
  have hG := Nat.lt_of_lt_of_le hsw hb0.size
  have hl0 : BksAt maxLen w0 w0.heap.size A bs ∧ Lst w0 w0.heap.size 1 I i is := ⟨hlw.1.later hb0, hlw.2.later hb0⟩
  have hB0 := ord_later hbw hb0
  clear kr k0 hb0 hlw hbw hsw
  rcases hz with rfl | ⟨hz0, hn1, hi1, hsm⟩
  · go_wp2_with fail
    go_ret
    exact ⟨rfl, hB0⟩
  have hz1 : decide (z < 0) = false := decide_eq_false (by omega)
  go_wp2_with fail
  refine (toEngine_any A n c I i d bs is _ hl0.1 hlen hsm hn1 hl0.2 hi1).mono ?_
  rintro e w1 ⟨g1, f1, rfl, hx1, hb1⟩
  have p0 := (hb1.cell (p := ⟨w.heap.size, 0, none⟩) hG).trans p0
  have p1 := (hb1.cell (p := ⟨w.heap.size, 1, none⟩) hG).trans p1
  have hG := Nat.lt_of_lt_of_le hG hb1.size
  have hl1 : BksAt maxLen w1 w1.heap.size A bs ∧ Lst w1 w1.heap.size 1 I i is := ⟨hl0.1.later hb1, hl0.2.later hb1⟩
  have hB1 := ord_later hB0 hb1
  clear hl0 hB0 hb1
  go_wp2_with fail
  refine (spec_Resting _ n n _ i i bs is sym id _ hx1 hn1 hi1).mono ?_
  rintro e w2 ⟨⟨q, hq, rfl⟩, hb2⟩
  have HQ := Lib.hid hq
  clear hq
  have p0 := (hb2.cell (p := ⟨w.heap.size, 0, none⟩) hG).trans p0
  have p1 := (hb2.cell (p := ⟨w.heap.size, 1, none⟩) hG).trans p1
  have hG := Nat.lt_of_lt_of_le hG hb2.size
  have hl2 : BksAt maxLen w2 w2.heap.size A bs ∧ Lst w2 w2.heap.size 1 I i is := ⟨hl1.1.later hb2, hl1.2.later hb2⟩
  have hB2 := ord_later hB1 hb2
  clear hl1 hB1 hb2 hx1
  go_wp2_with fail
  refine (toEngine_any A n c I i d bs is _ hl2.1 hlen hsm hn1 hl2.2 hi1).mono ?_
  rintro e w3 ⟨g3, f3, rfl, hx3, hb3⟩
  have p0 := (hb3.cell (p := ⟨w.heap.size, 0, none⟩) hG).trans p0
  have p1 := (hb3.cell (p := ⟨w.heap.size, 1, none⟩) hG).trans p1
  have hG := Nat.lt_of_lt_of_le hG hb3.size
  have hl3 : BksAt maxLen w3 w3.heap.size A bs ∧ Lst w3 w3.heap.size 1 I i is := ⟨hl2.1.later hb3, hl2.2.later hb3⟩
  have hB3 := ord_later hB2 hb3
  clear hl2 hB2 hb3
  have kx := heap_alloc_new w3 (.cells #[.slice (some ⟨g3, 0, none⟩) n n, .slice (some ⟨f3, 0, none⟩) i i] 31)
  have hba : Below w3.heap.size w3 (w3.alloc (.cells #[.slice (some ⟨g3, 0, none⟩) n n, .slice (some ⟨f3, 0, none⟩) i i] 31)) := (Below.refl _ _).alloc (Nat.le_refl _) _
  have hs3 : w3.heap.size < (w3.alloc (.cells #[.slice (some ⟨g3, 0, none⟩) n n, .slice (some ⟨f3, 0, none⟩) i i] 31)).heap.size := by simp
  have hx3 := hx3.later hba
  go_wp2_with fail
  generalize (w3.alloc (.cells #[.slice (some ⟨g3, 0, none⟩) n n, .slice (some ⟨f3, 0, none⟩) i i] 31)) = wz at *
  refine (impl_Resting _ n n _ i i bs is sym id _ hx3 hn1 hi1).mono ?_
  rintro e w4 ⟨⟨q', hq, rfl⟩, hb4⟩
  obtain rfl := RsRel.one HQ.out hq
  clear hq
  have kx4 := (hb4.block _ hs3).trans kx
  have q0 := cell_of_row w4 w3.heap.size 0 _ _ (0, 0) kx4
  have q1 := cell_of_row w4 w3.heap.size 1 _ _ (0, 0) kx4
  simp at q0 q1
  have hx4 := hx3.later hb4
  have hb4 := ord_later hba hb4
  have p0 := (hb4.cell (p := ⟨w.heap.size, 0, none⟩) hG).trans p0
  have p1 := (hb4.cell (p := ⟨w.heap.size, 1, none⟩) hG).trans p1
  have hG := Nat.lt_of_lt_of_le hG hb4.size
  have hl4 : BksAt maxLen w4 w4.heap.size A bs ∧ Lst w4 w4.heap.size 1 I i is := ⟨hl3.1.later hb4, hl3.2.later hb4⟩
  have hB4 := ord_later hB3 hb4
  clear hl3 hB3 hb4 hx3 kx kx4 hba hs3
  have hd4 : Below w4.heap.size w4 w4.drew := (Below.refl _ _).drew
  have hl4d := hl4
  have hx4d := hx4
  clear hl4 hx4
  go_upto_region 10 with fail
  refine wp_region_held_drew (S := (fun w' => Below w4.heap.size w4 w' ∧ w'.cell? ⟨w.heap.size, 0, none⟩ = some (.slice A n c) ∧ w'.cell? ⟨w.heap.size, 1, none⟩ = some (.slice I i d) ∧ w'.cell? ⟨w3.heap.size, 0, none⟩ = some (.slice (some ⟨g3, 0, none⟩) n n) ∧ w'.cell? ⟨w3.heap.size, 1, none⟩ = some (.slice (some ⟨f3, 0, none⟩) i i))) (by kernel_rfl) ?hSq1xs (fun hHeld => ?restq1xs)
  case hSq1xs => ((first | assumption | ((((try dsimp only); repeat' apply And.intro) <;> (first | assumption | (refine below_later ?_ (by assumption); first | assumption | (simp only [*]; done) | (go_grown; done)) | (refine cell_later (by assumption) ?_; first | assumption | (simp only [*]; done) | (simp [go_sem]; done)) | (go_grown; done) | (simp [go_sem]; done))))))
  refine wpAnyH_take (i := 0) (oi := ?oiq1x1) (v := ?vq1x1) ?hiq1x1 (by kernel_rfl) (by kernel_rfl) (by kernel_rfl) ?hQq1x1 (Or.inl ⟨?hwq1x1, ?hyq1x1⟩) (by assumption) ?restq1x1
  case hiq1x1 => simp only [List.getElem?_toArray, List.getElem?_cons_succ, List.getElem?_cons_zero]; exact rfl
  case hQq1x1 => exact fun _ _ _ h => h
  case hwq1x1 => rfl
  case hyq1x1 => ((intro w hSw; (try dsimp only at hSw); go_simp) <;> with_reducible rfl)
  try simp only [Act.put, List.setIfInBounds_toArray, List.set_cons_zero, List.set_cons_succ]
  refine wpAnyH_take (i := 1) (oi := ?oiq1x2) (v := ?vq1x2) ?hiq1x2 (by kernel_rfl) (by kernel_rfl) (by kernel_rfl) ?hQq1x2 (Or.inl ⟨?hwq1x2, ?hyq1x2⟩) (by assumption) ?restq1x2
  case hiq1x2 => simp only [List.getElem?_toArray, List.getElem?_cons_succ, List.getElem?_cons_zero]; exact rfl
  case hQq1x2 => exact fun _ _ _ h => h
  case hwq1x2 => rfl
  case hyq1x2 => ((intro w hSw; (try dsimp only at hSw); go_simp) <;> with_reducible rfl)
  try simp only [Act.put, List.setIfInBounds_toArray, List.set_cons_zero, List.set_cons_succ]
  refine wpAnyH_ready (rs := [2]) (by kernel_rfl) (by simp) ?_
  refine AllReadyH.cons (o := ?oq1x3) ?hoq1x3 (fun K hK => ?stepq1x3) ?moreq1x3
  case hoq1x3 => simp only [List.getElem?_toArray, List.getElem?_cons_succ, List.getElem?_cons_zero]; exact rfl
  case moreq1x3 => exact AllReadyH.nil
  go_simp
  (go_at_call 11; refine (toEngine_any A n c I i d bs is _ (hl4d.1.later hHeld.1) hlen hsm hn1 (hl4d.2.later hHeld.1) hi1).mono ?_; rintro e w5 ⟨g5, f5, rfl, hx5, hb5⟩)
  refine hK.out _ _ ?hSq1x3 (fun hHeld => ?restq1x3)
  case hSq1x3 => ((first | assumption | ((((try dsimp only); repeat' apply And.intro) <;> (first | assumption | (refine below_later ?_ (by assumption); first | assumption | (simp only [*]; done) | (go_grown; done)) | (refine cell_later (by assumption) ?_; first | assumption | (simp only [*]; done) | (simp [go_sem]; done)) | (go_grown; done) | (simp [go_sem]; done))))))
  clear hK K
  try simp only [Act.put, List.setIfInBounds_toArray, List.set_cons_zero, List.set_cons_succ]
  refine wpAnyH_ready (rs := [3]) (by kernel_rfl) (by simp) ?_
  refine AllReadyH.cons (o := ?oq1x4) ?hoq1x4 (fun K hK => ?stepq1x4) ?moreq1x4
  case hoq1x4 => simp only [List.getElem?_toArray, List.getElem?_cons_succ, List.getElem?_cons_zero]; exact rfl
  case moreq1x4 => exact AllReadyH.nil
  go_simp
  (go_at_call 13; refine (eqEngine_same _ _ _ _ n _ i _ _ _ bs is _ ((hx4d.later hHeld.1).engIn) (hx5.engIn) hn1 hi1).mono ?_; rintro e w6 ⟨rfl, hb6⟩)
  refine hK.out _ _ ?hSq1x4 (fun hHeld => ?restq1x4)
  case hSq1x4 => ((first | assumption | ((((try dsimp only); repeat' apply And.intro) <;> (first | assumption | (refine below_later ?_ (by assumption); first | assumption | (simp only [*]; done) | (go_grown; done)) | (refine cell_later (by assumption) ?_; first | assumption | (simp only [*]; done) | (simp [go_sem]; done)) | (go_grown; done) | (simp [go_sem]; done))))))
  clear hK K
  try simp only [Act.put, List.setIfInBounds_toArray, List.set_cons_zero, List.set_cons_succ]
  refine wpAnyH_take (i := 4) (oi := ?oiq1x5) (v := ?vq1x5) ?hiq1x5 (by kernel_rfl) (by kernel_rfl) (by kernel_rfl) ?hQq1x5 (Or.inl ⟨?hwq1x5, ?hyq1x5⟩) (by assumption) ?restq1x5
  case hiq1x5 => simp only [List.getElem?_toArray, List.getElem?_cons_succ, List.getElem?_cons_zero]; exact rfl
  case hQq1x5 => exact fun _ _ _ h => h
  case hwq1x5 => rfl
  case hyq1x5 => ((intro w hSw; (try dsimp only at hSw); go_simp) <;> with_reducible rfl)
  try simp only [Act.put, List.setIfInBounds_toArray, List.set_cons_zero, List.set_cons_succ]
  refine wpAnyH_done (by kernel_rfl) ?_ _
  have hfin := ord_later hB4 hHeld.1
  clear hHeld
  go_wp2_with fail
  go_ret
  exact ⟨by first | rfl | simp, hfin⟩
end Go.Proofs.Ytmbafeiacaamoaa
