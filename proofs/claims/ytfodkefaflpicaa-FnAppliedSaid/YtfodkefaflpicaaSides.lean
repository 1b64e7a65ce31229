/-
  Side and Best, the program's and the document's.
-/
import Derived.Test.YtfodkefaflpicaaOpened
import Derived.Test.YtfodkefaflpicaaFindS
namespace Go.Proofs.Ytfodkefaflpicaa
open Go.RowKit Wire

def sideN (bk : Bool) (side : Int) (n m : Nat) : Nat := if bk = true ∧ side = 1 then n else if bk = true ∧ side = 2 then m else 0
def sideZ (bk : Bool) (side : Int) (za zb : List Int) : List Int := if bk = true ∧ side = 1 then za else if bk = true ∧ side = 2 then zb else []
theorem sideN_no (side : Int) (n m : Nat) : sideN false side n m = 0 := by simp [sideN]
theorem sideZ_no (side : Int) (za zb : List Int) : sideZ false side za zb = [] := by simp [sideZ]
theorem own_mono {w : World} {base base' sz n : Nat} {e : TypeId} {v : Value} {xs : List Value} (h : w.ownsRow base e sz v n xs) (hb : base' ≤ base) : w.ownsRow base' e sz v n xs :=
  ⟨h.1, h.2.imp id (fun ⟨g, cap, cur, a, b, c⟩ => ⟨g, cap, cur, a, Nat.le_trans hb b, c⟩)⟩
def sideOkB (side : Int) : Bool := decide (side = 1) || decide (side = 2)
theorem side_cases (side : Int) : (side = 1 ∧ sideOkB side = true) ∨ (side = 2 ∧ sideOkB side = true) ∨ (side ≠ 1 ∧ side ≠ 2 ∧ sideOkB side = false) := by
  unfold sideOkB
  by_cases h1 : side = 1
  · exact .inl ⟨h1, by simp [h1]⟩
  · by_cases h2 : side = 2
    · exact .inr (.inl ⟨h2, by simp [h2]⟩)
    · exact .inr (.inr ⟨h1, h2, by simp [h1, h2]⟩)
set_option maxRecDepth 100000 in
theorem impl_sideOk (side : Int) (w : World) :
    Calls Try.prog 49 #[.int .i64 side] w fun e w' => e = .returned (.bool (sideOkB side)) ∧ w = w' := by
  rcases side_cases side with ⟨rfl, hok⟩ | ⟨rfl, hok⟩ | ⟨h1, h2, hok⟩
  · rw [hok]
    go_enter Try.func49, Try.ntmps49
    go_wp2_with fail
    go_ret
    exact ⟨rfl, rfl⟩
  · rw [hok]
    go_enter Try.func49, Try.ntmps49
    go_wp2_with fail
    go_ret
    exact ⟨rfl, rfl⟩
  · rw [hok]
    have t1 : (side == 1) = false := beq_eq_false_iff_ne.2 h1
    have t2 : (side == 2) = false := beq_eq_false_iff_ne.2 h2
    go_enter Try.func49, Try.ntmps49
    go_wp2_with fail
    go_ret
    exact ⟨rfl, rfl⟩
set_option maxRecDepth 100000 in
theorem spec_isSide (side : Int) (w : World) :
    Calls Try.prog 108 #[.int .i64 side] w fun e w' => e = .returned (.bool (sideOkB side)) ∧ w = w' := by
  have h : inB 1 side 2 = sideOkB side := by
    unfold inB sideOkB
    rw [Bool.eq_iff_iff]
    simp
    omega
  go_enter Try.func108, Try.ntmps108
  go_wp2_with (go_at_call 69; refine (l1In_any _ _ _ _).mono ?_; rintro e w' ⟨rfl, rfl⟩)
  go_ret
  exact ⟨rfl, rfl⟩
theorem own_empty (w : World) (e : TypeId) (sz : Nat) : (w.alloc (.cells #[] e)).ownsRow w.heap.size e sz (.slice (some ⟨w.heap.size, 0, none⟩) 0 0) 0 [] :=
  ⟨by simp, .inr ⟨w.heap.size, 0, #[], rfl, Nat.le_refl _, heap_alloc_new w _, Nat.le_refl _, Nat.zero_le _, by simp, by simp⟩⟩
set_option maxRecDepth 100000 in
theorem impl_side (L1 L2 : Addr) (side : Int) (w : World) :
    Calls Try.prog 99 #[.agg #[.pointer (some L1), .pointer (some L2)], .int .i64 side] w fun e w' => e = .returned (if side = 1 then .pointer (some L1) else .pointer (some L2)) ∧ Below w.heap.size w w' := by
  by_cases h : side = 1
  · subst h
    rw [if_pos rfl]
    go_enter Try.func99, Try.ntmps99
    go_wp2_with fail
    go_ret
    exact ⟨rfl, by go_grown⟩
  · rw [if_neg h]
    have t : (side == 1) = false := beq_eq_false_iff_ne.2 h
    go_enter Try.func99, Try.ntmps99
    go_wp2_with fail
    go_ret
    exact ⟨rfl, by go_grown⟩
set_option linter.unusedSimpArgs false in
set_option maxHeartbeats 1600000 in
set_option maxRecDepth 100000 in
theorem spec_Side (a1 : Addr) (n c : Nat) (a2 : Addr) (m d : Nat) (za zb : List Int) (side : Int) (w : World) (ha : Lst w w.heap.size 4 (some a1) n za) (hb : Lst w w.heap.size 4 (some a2) m zb) (hn : n ≤ 1048576) (hm : m ≤ 1048576) :
    Calls Try.prog 139 #[.agg #[.slice (some a1) n c, .slice (some a2) m d], .int .i64 side] w fun e w' => (∃ r, e = .returned r ∧ w'.ownsRow w.heap.size 28 4 r (sideN (bookB za n zb m) side n m) (nums (sideZ (bookB za n zb m) side za zb))) ∧ Below w.heap.size w w' := by
  have hb0 : Below w.heap.size w (w.alloc (.cells #[.slice (some a1) n c, .slice (some a2) m d] 26)) := (Below.refl _ _).alloc (Nat.le_refl _) _
  have k0 : (w.alloc (.cells #[.slice (some a1) n c, .slice (some a2) m d] 26)).heap[w.heap.size]? = some (.cells #[.slice (some a1) n c, .slice (some a2) m d] 26 (0, 0)) := heap_alloc_new w _
  have hs0 : w.heap.size < (w.alloc (.cells #[.slice (some a1) n c, .slice (some a2) m d] 26)).heap.size := by simp
  go_enter Try.func139, Try.ntmps139
  go_wp2_with fail
  generalize (w.alloc (.cells #[.slice (some a1) n c, .slice (some a2) m d] 26)) = w0 at *
  refine (spec_BookOk a1 n c a2 m d za zb w0 ((ha.below hb0).more hb0.size) ((hb.below hb0).more hb0.size) hn hm).mono ?_
  generalize hbk : bookB za n zb m = bk
  rintro e w1 ⟨rfl, hb1⟩
  have k1 := (hb1.block w.heap.size hs0).trans k0
  have hs1 := Nat.lt_of_lt_of_le hs0 hb1.size
  have x0 := cell_of_row w1 w.heap.size 0 _ _ (0, 0) k1
  have x1 := cell_of_row w1 w.heap.size 1 _ _ (0, 0) k1
  simp at x0 x1
  have hb1 := hb0.trans (hb1.mono hb0.size)
  clear k0 hb0 hs0
  cases bk
  · go_wp2_with fail
    go_ret
    exact ⟨⟨_, rfl, by rw [hbk, sideN_no, sideZ_no]; exact own_mono (own_empty w1 _ 4) hb1.size⟩, hb1.alloc hb1.size _⟩
  go_wp2_with fail
  refine (spec_isSide side w1).mono ?_
  rintro e w2 ⟨rfl, rfl⟩
  rcases side_cases side with ⟨rfl, hok⟩ | ⟨rfl, hok⟩ | ⟨h1, h2, hok⟩
  rotate_left 2
  · have HN := Lib.hid (show sideN true side n m = 0 from by unfold sideN; rw [if_neg (fun h => h1 h.2), if_neg (fun h => h2 h.2)])
    have HZ := Lib.hid (show sideZ true side za zb = [] from by unfold sideZ; rw [if_neg (fun h => h1 h.2), if_neg (fun h => h2 h.2)])
    rw [hok]
    clear h1 h2 hok
    go_wp2_with fail
    go_ret
    exact ⟨⟨_, rfl, by rw [hbk, HN.out, HZ.out]; exact own_mono (own_empty w1 _ 4) hb1.size⟩, hb1.alloc hb1.size _⟩
  · rw [hok]
    clear hok
    go_wp2_with fail
    refine (spec_l2List a1 n c a2 m d 1 _).mono ?_
    rintro e w3 ⟨rfl, hb3⟩
    have hown3 := own_below (own_empty w1 28 4) hb3
    have hbel3 := (hb1.alloc hb1.size (.cells #[] 28)).trans (hb3.mono (Nat.le_trans hb1.size (by simp)))
    have hz3 := hb3.size
    simp at hz3
    have hl3 := ha.below hbel3
    obtain ⟨i0, hi, hz0, hz1, hz2⟩ := info_parts ord_info
    simp only [if_pos]
    clear x0 x1 k1
    go_wp2_with (at_builtin; refine wpList_append_own_at _ rfl _ _ 24 rfl w1.heap.size 28 i0 _ 4 32 Try.underlying24 hi hz0 hz1 hz2 rfl (by decide) _ _ _ rfl hown3 a1 n c (nums za) rfl (by rw [nums_length]; exact hl3.1) hl3.news (nums_one _) (by unfold maxLen; omega) (by omega) (by omega) ?_)
    intro v' w4 hown4 hgrow4 _ _
    have hz1' := hb1.size
    have hbel4 := hbel3.grown hgrow4 hbel3.size (fun q hq => by simp [Value.ownBlock] at hq; omega)
    obtain ⟨A4, d4, rfl, _, _⟩ := own_slice hown4
    have hown4 := own_mono hown4 hb1.size
    clear hgrow4 hown3 hb3
    go_wp2_with fail
    go_ret
    exact ⟨⟨_, rfl, by rw [hbk]; exact hown4⟩, hbel4⟩
  · rw [hok]
    clear hok
    go_wp2_with fail
    refine (spec_l2List a1 n c a2 m d 2 _).mono ?_
    rintro e w3 ⟨rfl, hb3⟩
    have hown3 := own_below (own_empty w1 28 4) hb3
    have hbel3 := (hb1.alloc hb1.size (.cells #[] 28)).trans (hb3.mono (Nat.le_trans hb1.size (by simp)))
    have hz3 := hb3.size
    simp at hz3
    have hl3 := hb.below hbel3
    obtain ⟨i0, hi, hz0, hz1, hz2⟩ := info_parts ord_info
    simp only [show ((2 : Int) = 1) = False from by simp, if_false]
    clear x0 x1 k1
    go_wp2_with (at_builtin; refine wpList_append_own_at _ rfl _ _ 24 rfl w1.heap.size 28 i0 _ 4 32 Try.underlying24 hi hz0 hz1 hz2 rfl (by decide) _ _ _ rfl hown3 a2 m d (nums zb) rfl (by rw [nums_length]; exact hl3.1) hl3.news (nums_one _) (by unfold maxLen; omega) (by omega) (by omega) ?_)
    intro v' w4 hown4 hgrow4 _ _
    have hz1' := hb1.size
    have hbel4 := hbel3.grown hgrow4 hbel3.size (fun q hq => by simp [Value.ownBlock] at hq; omega)
    obtain ⟨A4, d4, rfl, _, _⟩ := own_slice hown4
    have hown4 := own_mono hown4 hb1.size
    clear hgrow4 hown3 hb3
    go_wp2_with fail
    go_ret
    exact ⟨⟨_, rfl, by rw [hbk]; exact hown4⟩, hbel4⟩
end Go.Proofs.Ytfodkefaflpicaa
