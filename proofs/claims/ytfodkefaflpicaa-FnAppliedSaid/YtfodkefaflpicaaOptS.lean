/-
  The document's Side, Best, Taken, Crossing, where a side may be nil.
-/
import Derived.Test.YtfodkefaflpicaaBest
import Derived.Test.YtfodkefaflpicaaGT
import Derived.Test.YtfodkefaflpicaaTakeO
import Derived.Test.YtfodkefaflpicaaRestS
namespace Go.Proofs.Ytfodkefaflpicaa
open Go.RowKit Wire

set_option linter.unusedSimpArgs false in
set_option maxHeartbeats 1600000 in
set_option maxRecDepth 100000 in
theorem spec_SideO (O1 : Option Addr) (n c : Nat) (O2 : Option Addr) (m d : Nat) (za zb : List Int) (side : Int) (w : World) (ha : Lst w w.heap.size 4 O1 n za) (hb : Lst w w.heap.size 4 O2 m zb) (hn : n ≤ 1048576) (hm : m ≤ 1048576) (hO1 : O1 = none → n = 0 ∧ c = 0) (hO2 : O2 = none → m = 0 ∧ d = 0) :
    Calls Try.prog 139 #[.agg #[.slice O1 n c, .slice O2 m d], .int .i64 side] w fun e w' => (∃ r, e = .returned r ∧ w'.ownsRow w.heap.size 28 4 r (sideN (bookB za n zb m) side n m) (nums (sideZ (bookB za n zb m) side za zb))) ∧ Below w.heap.size w w' := by
  have hb0 : Below w.heap.size w (w.alloc (.cells #[.slice O1 n c, .slice O2 m d] 26)) := (Below.refl _ _).alloc (Nat.le_refl _) _
  have k0 : (w.alloc (.cells #[.slice O1 n c, .slice O2 m d] 26)).heap[w.heap.size]? = some (.cells #[.slice O1 n c, .slice O2 m d] 26 (0, 0)) := heap_alloc_new w _
  have hs0 : w.heap.size < (w.alloc (.cells #[.slice O1 n c, .slice O2 m d] 26)).heap.size := by simp
  go_enter Try.func139, Try.ntmps139
  go_wp2_with fail
  generalize (w.alloc (.cells #[.slice O1 n c, .slice O2 m d] 26)) = w0 at *
  refine (spec_BookOkO O1 n c O2 m d za zb w0 ((ha.below hb0).more hb0.size) ((hb.below hb0).more hb0.size) hn hm hO1 hO2).mono ?_
  generalize hbk : bookB za n zb m = bk
  rintro e w1 ⟨rfl, hb1⟩
  have k1 := (hb1.block w.heap.size hs0).trans k0
  have hs1 := Nat.lt_of_lt_of_le hs0 hb1.size
  have x0 := cell_of_row w1 w.heap.size 0 _ _ (0, 0) k1
  have x1 := cell_of_row w1 w.heap.size 1 _ _ (0, 0) k1
  simp at x0 x1
  have hb1 := hb0.trans (hb1.mono hb0.size)
  clear k0 hb0 hs0
  cases bk
  · go_wp2_with fail
    go_ret
    exact ⟨⟨_, rfl, by rw [hbk, sideN_no, sideZ_no]; exact own_mono (own_empty w1 _ 4) hb1.size⟩, hb1.alloc hb1.size _⟩
  go_wp2_with fail
  refine (spec_isSide side w1).mono ?_
  rintro e w2 ⟨rfl, rfl⟩
  rcases side_cases side with ⟨rfl, hok⟩ | ⟨rfl, hok⟩ | ⟨h1, h2, hok⟩
  rotate_left 2
  · have HN := Lib.hid (show sideN true side n m = 0 from by unfold sideN; rw [if_neg (fun h => h1 h.2), if_neg (fun h => h2 h.2)])
    have HZ := Lib.hid (show sideZ true side za zb = [] from by unfold sideZ; rw [if_neg (fun h => h1 h.2), if_neg (fun h => h2 h.2)])
    rw [hok]
    clear h1 h2 hok
    go_wp2_with fail
    go_ret
    exact ⟨⟨_, rfl, by rw [hbk, HN.out, HZ.out]; exact own_mono (own_empty w1 _ 4) hb1.size⟩, hb1.alloc hb1.size _⟩
  · rw [hok]
    clear hok
    go_wp2_with fail
    refine (spec_l2ListO O1 n c O2 m d 1 _).mono ?_
    rintro e w3 ⟨rfl, hb3⟩
    have hown3 := own_below (own_empty w1 28 4) hb3
    have hbel3 := (hb1.alloc hb1.size (.cells #[] 28)).trans (hb3.mono (Nat.le_trans hb1.size (by simp)))
    have hz3 := hb3.size
    simp at hz3
    have hl3 := ha.below hbel3
    obtain ⟨i0, hi, hz0, hz1, hz2⟩ := info_parts ord_info
    simp only [if_pos]
    clear x0 x1 k1
    go_wp2_with (at_builtin; refine wpList_app_atO _ rfl _ _ 24 rfl w1.heap.size 28 i0 _ 4 32 Try.underlying24 hi hz0 hz1 hz2 rfl (by decide) _ _ _ rfl hown3 O1 n c hO1 (nums za) rfl (by rw [nums_length]; exact hl3.1) hl3.newsO (nums_one _) (by unfold maxLen; omega) (by omega) (by omega) ?_)
    intro v' w4 hown4 hgrow4 _
    have hz1' := hb1.size
    have hbel4 := hbel3.grown hgrow4 hbel3.size (fun q hq => by simp [Value.ownBlock] at hq; omega)
    obtain ⟨A4, d4, rfl, _, _⟩ := own_slice hown4
    have hown4 := own_mono hown4 hb1.size
    clear hgrow4 hown3 hb3
    go_wp2_with fail
    go_ret
    exact ⟨⟨_, rfl, by rw [hbk]; exact hown4⟩, hbel4⟩
  · rw [hok]
    clear hok
    go_wp2_with fail
    refine (spec_l2ListO O1 n c O2 m d 2 _).mono ?_
    rintro e w3 ⟨rfl, hb3⟩
    have hown3 := own_below (own_empty w1 28 4) hb3
    have hbel3 := (hb1.alloc hb1.size (.cells #[] 28)).trans (hb3.mono (Nat.le_trans hb1.size (by simp)))
    have hz3 := hb3.size
    simp at hz3
    have hl3 := hb.below hbel3
    obtain ⟨i0, hi, hz0, hz1, hz2⟩ := info_parts ord_info
    simp only [show ((2 : Int) = 1) = False from by simp, if_false]
    clear x0 x1 k1
    go_wp2_with (at_builtin; refine wpList_app_atO _ rfl _ _ 24 rfl w1.heap.size 28 i0 _ 4 32 Try.underlying24 hi hz0 hz1 hz2 rfl (by decide) _ _ _ rfl hown3 O2 m d hO2 (nums zb) rfl (by rw [nums_length]; exact hl3.1) hl3.newsO (nums_one _) (by unfold maxLen; omega) (by omega) (by omega) ?_)
    intro v' w4 hown4 hgrow4 _
    have hz1' := hb1.size
    have hbel4 := hbel3.grown hgrow4 hbel3.size (fun q hq => by simp [Value.ownBlock] at hq; omega)
    obtain ⟨A4, d4, rfl, _, _⟩ := own_slice hown4
    have hown4 := own_mono hown4 hb1.size
    clear hgrow4 hown3 hb3
    go_wp2_with fail
    go_ret
    exact ⟨⟨_, rfl, by rw [hbk]; exact hown4⟩, hbel4⟩
end Go.Proofs.Ytfodkefaflpicaa
