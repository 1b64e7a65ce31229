/-
  The law on a new engine, walked.
-/
import Derived.Test.YtgpfpaifbgdleaaEng
namespace Go.Proofs.Ytgpfpaifbgdleaa
open Go.RowKit Wire

set_option linter.unusedSimpArgs false in
set_option maxHeartbeats 800000 in
set_option maxRecDepth 100000 in
theorem law_EngineNew (w : World) :
    Calls Try.prog 5 #[] w fun e w' => e = .returned (.bool true) ∧ Below w.heap.size w w' := by
  go_enter Try.func5, Try.ntmps5
  go_wp2_with fail
  refine (spec_EngineNew _).mono ?_
  rintro e w1 ⟨⟨_, rfl, g1, hg1, rfl, hr1⟩, hb1⟩
  have hx1 := heap_alloc_new w1 (.cells #[.slice (some ⟨g1, 0, none⟩) 4 4, .slice none 0 0] 36)
  have hba := hb1.alloc hb1.size (.cells #[.slice (some ⟨g1, 0, none⟩) 4 4, .slice none 0 0] 36)
  have hra := hr1.alloc (.cells #[.slice (some ⟨g1, 0, none⟩) 4 4, .slice none 0 0] 36)
  have hGa : w1.heap.size < (w1.alloc (.cells #[.slice (some ⟨g1, 0, none⟩) 4 4, .slice none 0 0] 36)).heap.size := by simp
  go_wp2_with fail
  generalize (w1.alloc (.cells #[.slice (some ⟨g1, 0, none⟩) 4 4, .slice none 0 0] 36)) = wa at *
  clear hb1 hr1 hg1
  generalize w1.heap.size = G at *
  refine (impl_EngineNew _).mono ?_
  rintro e w2 ⟨⟨_, rfl, g2, hg2, rfl, hr2⟩, hb2⟩
  have hba2 := ord_later hba hb2
  have hra2 := hra.of_block (hb2.block _ hra.lt)
  have hxa2 := (hb2.block _ hGa).trans hx1
  have hGa2 := Nat.lt_of_lt_of_le hGa hb2.size
  have hxb := heap_alloc_new w2 (.cells #[.slice (some ⟨g2, 0, none⟩) 4 4, .slice none 0 0] 36)
  have hbb := hba2.alloc hba2.size (.cells #[.slice (some ⟨g2, 0, none⟩) 4 4, .slice none 0 0] 36)
  have hrb := hra2.alloc (.cells #[.slice (some ⟨g2, 0, none⟩) 4 4, .slice none 0 0] 36)
  have hsb := hr2.alloc (.cells #[.slice (some ⟨g2, 0, none⟩) 4 4, .slice none 0 0] 36)
  have hxab := (Below.heap_alloc w2 (.cells #[.slice (some ⟨g2, 0, none⟩) 4 4, .slice none 0 0] 36) G hGa2).trans hxa2
  have hGb : G < (w2.alloc (.cells #[.slice (some ⟨g2, 0, none⟩) 4 4, .slice none 0 0] 36)).heap.size := by simp; omega
  have hKb : w2.heap.size < (w2.alloc (.cells #[.slice (some ⟨g2, 0, none⟩) 4 4, .slice none 0 0] 36)).heap.size := by simp
  have x0 := cell_of_row _ G 0 _ _ (0, 0) hxab
  have x1 := cell_of_row _ G 1 _ _ (0, 0) hxab
  have y0 := cell_of_row _ w2.heap.size 0 _ _ (0, 0) hxb
  have y1 := cell_of_row _ w2.heap.size 1 _ _ (0, 0) hxb
  simp at x0 x1 y0 y1
  clear hba2 hra2 hxa2 hGa2 hb2 hr2 hba hra hx1 hGa hg2
  go_wp2_with fail
  generalize (w2.alloc (.cells #[.slice (some ⟨g2, 0, none⟩) 4 4, .slice none 0 0] 36)) = wb at *
  generalize w2.heap.size = K at *
  clear x0 x1 y0 y1
  refine (eqEngine_same _ _ _ _ 4 4 0 0 4 0 _ _ wb (NewEng.engIn hsb) (NewEng.engIn hrb) (by omega) (by omega)).mono ?_
  rintro e w3 ⟨rfl, hb3⟩
  have hB3 := ord_later hbb hb3
  have hr3 := hrb.of_block (hb3.block _ hrb.lt)
  have hs3 := hsb.of_block (hb3.block _ hsb.lt)
  have hx3 := (hb3.block _ hGb).trans hxab
  have hy3 := (hb3.block _ hKb).trans hxb
  have hG3 := Nat.lt_of_lt_of_le hGb hb3.size
  have hK3 := Nat.lt_of_lt_of_le hKb hb3.size
  have y0 := cell_of_row _ K 0 _ _ (0, 0) hy3
  have y1 := cell_of_row _ K 1 _ _ (0, 0) hy3
  simp at y0 y1
  clear hb3 hrb hsb hxab hxb hGb hKb hbb
  go_wp2_with fail
  refine (markEngine_nil g2 4 4 w3 hs3 (by omega)).mono ?_
  rintro e w4 ⟨rfl, hb4⟩
  have hB4 := ord_later hB3 hb4
  have hr4 := hr3.of_block (hb4.block _ hr3.lt)
  have hs4 := hs3.of_block (hb4.block _ hs3.lt)
  have hx4 := (hb4.block _ hG3).trans hx3
  have hy4 := (hb4.block _ hK3).trans hy3
  have hG4 := Nat.lt_of_lt_of_le hG3 hb4.size
  have hK4 := Nat.lt_of_lt_of_le hK3 hb4.size
  have y0 := cell_of_row _ K 0 _ _ (0, 0) hy4
  have y1 := cell_of_row _ K 1 _ _ (0, 0) hy4
  simp at y0 y1
  clear hb4 hr3 hs3 hx3 hy3 hG3 hK3 hB3
  go_wp2_with fail
  refine (heldEngine_nil g2 4 4 w4 hs4 (by omega)).mono ?_
  rintro e w5 ⟨rfl, hb5⟩
  have hB5 := ord_later hB4 hb5
  have hr5 := hr4.of_block (hb5.block _ hr4.lt)
  have hs5 := hs4.of_block (hb5.block _ hs4.lt)
  have hx5 := (hb5.block _ hG4).trans hx4
  have hy5 := (hb5.block _ hK4).trans hy4
  have hG5 := Nat.lt_of_lt_of_le hG4 hb5.size
  have hK5 := Nat.lt_of_lt_of_le hK4 hb5.size
  clear hb5 hr4 hs4 hx4 hy4 hG4 hK4 hB4 y0 y1
  go_wp2_with fail
  refine (impl_EngineNew _).mono ?_
  rintro e w6 ⟨⟨_, rfl, g6, hg6, rfl, hr6⟩, hb6⟩
  have hB6 := ord_later hB5 hb6
  have hra6 := hr5.of_block (hb6.block _ hr5.lt)
  have hs6 := hs5.of_block (hb6.block _ hs5.lt)
  have hx6 := (hb6.block _ hG5).trans hx5
  have hy6 := (hb6.block _ hK5).trans hy5
  have hG6 := Nat.lt_of_lt_of_le hG5 hb6.size
  have hK6 := Nat.lt_of_lt_of_le hK5 hb6.size
  have hzc := heap_alloc_new w6 (.cells #[.slice (some ⟨g6, 0, none⟩) 4 4, .slice none 0 0] 36)
  have hBc := hB6.alloc hB6.size (.cells #[.slice (some ⟨g6, 0, none⟩) 4 4, .slice none 0 0] 36)
  have hrc := hra6.alloc (.cells #[.slice (some ⟨g6, 0, none⟩) 4 4, .slice none 0 0] 36)
  have hsc := hs6.alloc (.cells #[.slice (some ⟨g6, 0, none⟩) 4 4, .slice none 0 0] 36)
  have htc := hr6.alloc (.cells #[.slice (some ⟨g6, 0, none⟩) 4 4, .slice none 0 0] 36)
  have hxc := (Below.heap_alloc w6 (.cells #[.slice (some ⟨g6, 0, none⟩) 4 4, .slice none 0 0] 36) G hG6).trans hx6
  have hyc := (Below.heap_alloc w6 (.cells #[.slice (some ⟨g6, 0, none⟩) 4 4, .slice none 0 0] 36) K hK6).trans hy6
  have hKc : K < (w6.alloc (.cells #[.slice (some ⟨g6, 0, none⟩) 4 4, .slice none 0 0] 36)).heap.size := by simp; omega
  have x0 := cell_of_row _ G 0 _ _ (0, 0) hxc
  have x1 := cell_of_row _ G 1 _ _ (0, 0) hxc
  have z0 := cell_of_row _ w6.heap.size 0 _ _ (0, 0) hzc
  have z1 := cell_of_row _ w6.heap.size 1 _ _ (0, 0) hzc
  simp at x0 x1 z0 z1
  clear hB6 hra6 hs6 hx6 hy6 hb6 hr5 hs5 hx5 hy5 hG5 hK5 hB5 hr6 hG6 hK6 hg6
  go_wp2_with fail
  generalize (w6.alloc (.cells #[.slice (some ⟨g6, 0, none⟩) 4 4, .slice none 0 0] 36)) = wc at *
  clear x0 x1 z0 z1
  refine (eqEngine_same _ _ _ _ 4 4 0 0 4 0 _ _ wc (NewEng.engIn htc) (NewEng.engIn hrc) (by omega) (by omega)).mono ?_
  rintro e w7 ⟨rfl, hb7⟩
  have hB7 := ord_later hBc hb7
  have hs7 := hsc.of_block (hb7.block _ hsc.lt)
  have hy7 := (hb7.block _ hKc).trans hyc
  have y0 := cell_of_row _ K 0 _ _ (0, 0) hy7
  have y1 := cell_of_row _ K 1 _ _ (0, 0) hy7
  simp at y0 y1
  clear hb7 hBc hrc hsc htc hxc hyc hKc
  go_wp2_with fail
  refine (heldEngine_nil g2 4 4 w7 hs7 (by omega)).mono ?_
  rintro e w8 ⟨rfl, hb8⟩
  have hB8 := ord_later hB7 hb8
  clear hB7 hs7 hy7 y0 y1 hb8
  go_wp2_with fail
  go_ret
  exact ⟨by first | rfl | simp, hB8⟩
end Go.Proofs.Ytgpfpaifbgdleaa
