/-
  Resting, in both programs.
-/
import Derived.Test.YtmbafeiacaamoaaOpenI
import Derived.Test.YtmbafeiacaamoaaFindS
namespace Go.Proofs.Ytmbafeiacaamoaa
open Go.RowKit Wire

/-- what rests of an order -/
def RsRel (bs : List (List Int × List Int)) (n i : Nat) (is : List Int) (sym id q : Int) : Prop :=
  (engB bs n i is = false ∧ q = 0) ∨ (engB bs n i is = true ∧ inB 0 sym 3 = false ∧ q = 0) ∨
  (engB bs n i is = true ∧ inB 0 sym 3 = true ∧ ∃ za zb n1 n2 s f ok, bs[sym.toNat]? = some (za, zb) ∧ za.length = n1 * 4 ∧ zb.length = n2 * 4 ∧ FindRel (bookB za n1 zb n2) za n1 zb n2 id s f ok ∧ q = f 3)
theorem RsRel.one {bs : List (List Int × List Int)} {n i : Nat} {is : List Int} {sym id p q : Int} (h : RsRel bs n i is sym id p) (k : RsRel bs n i is sym id q) : q = p := by
  rcases h with ⟨h1, h2⟩ | ⟨h1, h2, h3⟩ | ⟨h1, h2, za, zb, n1, n2, s, f, ok, h3, h4, h5, h6, h7⟩ <;> rcases k with ⟨k1, k2⟩ | ⟨k1, k2, k3⟩ | ⟨k1, k2, za', zb', n1', n2', s', f', ok', k3, k4, k5, k6, k7⟩
  · omega
  · rw [h1] at k1; cases k1
  · rw [h1] at k1; cases k1
  · rw [h1] at k1; cases k1
  · omega
  · rw [h2] at k2; cases k2
  · rw [h1] at k1; cases k1
  · rw [h2] at k2; cases k2
  · rw [h3] at k3
    injection k3 with k3
    injection k3 with e1 e2
    subst e1 e2
    obtain rfl : n1' = n1 := by omega
    obtain rfl : n2' = n2 := by omega
    rw [h7, k7]
    exact ((FindRel.one h6 k6).2.2 3 (by omega)).symm
set_option linter.unusedSimpArgs false in
set_option maxHeartbeats 1600000 in
set_option maxRecDepth 100000 in
theorem spec_Resting (A : Option Addr) (n c : Nat) (I : Option Addr) (i d : Nat) (bs : List (List Int × List Int)) (is : List Int) (sym id : Int) (w : World) (h : EngS w w.heap.size A n I i d bs is) (hn : n ≤ 1048576) (hi : i ≤ 1048576) :
    Calls Try.prog 22 #[.agg #[.slice A n c, .slice I i d], .int .i64 sym, .int .i64 id] w fun e w' => (∃ q, RsRel bs n i is sym id q ∧ e = .returned (.int .i64 q)) ∧ Below w.heap.size w w' := by
  have k0 := heap_alloc_new w (.cells #[.slice A n c, .slice I i d] 31)
  have hb0 : Below w.heap.size w (w.alloc (.cells #[.slice A n c, .slice I i d] 31)) := (Below.refl _ _).alloc (Nat.le_refl _) _
  have hs0 : w.heap.size < (w.alloc (.cells #[.slice A n c, .slice I i d] 31)).heap.size := by simp
  have h0 := h.later hb0
  have hlen := h.len
  clear h
  go_enter Try.func22, Try.ntmps22
  go_wp2_with fail
  generalize (w.alloc (.cells #[.slice A n c, .slice I i d] 31)) = w0 at *
  refine (spec_EngineOk A n c I i d bs is w0 h0 hn hi).mono ?_
  rcases Bool.eq_false_or_eq_true (engB bs n i is) with he | he
  rotate_left
  · rw [he]
    rintro e w1 ⟨rfl, hb1⟩
    have H : Hid (RsRel bs n i is sym id 0) := Lib.hid (.inl ⟨he, rfl⟩)
    clear he
    go_wp2_with fail
    go_ret
    exact ⟨⟨0, H.out, rfl⟩, ord_later hb0 hb1⟩
  rw [he]
  rintro e w1 ⟨rfl, hb1⟩
  have hE := Lib.hid he
  have kr := (hb1.block _ hs0).trans k0
  have x0 := cell_of_row w1 w.heap.size 0 _ _ (0, 0) kr
  have x1 := cell_of_row w1 w.heap.size 1 _ _ (0, 0) kr
  simp at x0 x1
  have hw1 : w.heap.size < w1.heap.size := Nat.lt_of_lt_of_le hs0 hb1.size
  have hr := h0.later hb1
  have hB1 := ord_later hb0 hb1
  clear he kr k0 h0 hb0 hb1 hs0
  go_wp2_with fail
  refine (l1In_any _ _ _ _).mono ?_
  rcases Bool.eq_false_or_eq_true (inB 0 sym 3) with hs | hs
  rotate_left
  · rw [hs]
    rintro e w2 ⟨rfl, rfl⟩
    have H : Hid (RsRel bs n i is sym id 0) := Lib.hid (.inr (.inl ⟨hE.out, hs, rfl⟩))
    clear hs
    go_wp2_with fail
    go_ret
    exact ⟨⟨0, H.out, rfl⟩, hB1⟩
  rw [hs]
  rintro e w2 ⟨rfl, rfl⟩
  have hs2 := inB_iff.1 hs
  obtain ⟨s, rfl⟩ := Int.eq_ofNat_of_zero_le hs2.1
  have hn4 := (engB_parts hE.out).1
  obtain ⟨x, hx⟩ : ∃ x, bs[s]? = some x := ⟨bs[s]'(by omega), List.getElem?_eq_getElem (by omega)⟩
  obtain ⟨b, o, v1, v2, rfl, hbX, q0, q1, ⟨A1, n1, c1, rfl, l1, hn1, hA1, -⟩, ⟨A2, n2, c2, rfl, l2, hn2, hA2, -⟩⟩ := hr.books s x hx
  obtain ⟨za, zb⟩ := x
  have H := Lib.hid (fun (t : Int) (f : Nat → Int) (ok : Bool) (h : FindRel (bookB za n1 zb n2) za n1 zb n2 id t f ok) => (show RsRel bs n i is (s : Int) id (f 3) from .inr (.inr ⟨hE.out, hs, za, zb, n1, n2, t, f, ok, (by rw [Int.toNat_natCast]; exact hx), l1.1, l2.1, h, rfl⟩)))
  have hsn : s < n := by omega
  clear hs hx hr hn4 hs2
  go_wp2_with fail
  refine (spec_FindO A1 n1 c1 A2 n2 c2 za zb id _ l1 l2 hn1 hn2 hA1 hA2).mono ?_
  rintro e w3 ⟨⟨t, f, ok, hf, rfl⟩, hb3⟩
  have HF := Lib.hid (H.out t f ok hf)
  have hB3 := (ord_later hB1 hb3).alloc (ord_later hB1 hb3).size (.cells #[.int .i64 (f 0), .int .i64 (f 1), .int .i64 (f 2), .int .i64 (f 3)] 84)
  clear q0 q1 H hf x0 x1
  go_wp2_with fail
  go_ret
  exact ⟨⟨_, HF.out, rfl⟩, hB3⟩
set_option linter.unusedSimpArgs false in
set_option maxHeartbeats 1600000 in
set_option maxRecDepth 100000 in
theorem impl_Resting (A : Option Addr) (n c : Nat) (I : Option Addr) (i d : Nat) (bs : List (List Int × List Int)) (is : List Int) (sym id : Int) (w : World) (h : EngS w w.heap.size A n I i d bs is) (hn : n ≤ 1048576) (hi : i ≤ 1048576) :
    Calls Try.prog 23 #[.agg #[.slice A n c, .slice I i d], .int .i64 sym, .int .i64 id] w fun e w' => (∃ q, RsRel bs n i is sym id q ∧ e = .returned (.int .i64 q)) ∧ Below w.heap.size w w' := by
  have k0 := heap_alloc_new w (.cells #[.slice A n c, .slice I i d] 31)
  have hb0 : Below w.heap.size w (w.alloc (.cells #[.slice A n c, .slice I i d] 31)) := (Below.refl _ _).alloc (Nat.le_refl _) _
  have hs0 : w.heap.size < (w.alloc (.cells #[.slice A n c, .slice I i d] 31)).heap.size := by simp
  have h0 := h.later hb0
  have hlen := h.len
  clear h
  go_enter Try.func23, Try.ntmps23
  go_wp2_with fail
  generalize (w.alloc (.cells #[.slice A n c, .slice I i d] 31)) = w0 at *
  refine (impl_EngineOk A n c I i d bs is w0 h0 hn hi).mono ?_
  rcases Bool.eq_false_or_eq_true (engB bs n i is) with he | he
  rotate_left
  · rw [he]
    rintro e w1 ⟨rfl, hb1⟩
    have H : Hid (RsRel bs n i is sym id 0) := Lib.hid (.inl ⟨he, rfl⟩)
    clear he
    go_wp2_with fail
    go_ret
    exact ⟨⟨0, H.out, rfl⟩, ord_later hb0 hb1⟩
  rw [he]
  rintro e w1 ⟨rfl, hb1⟩
  have hE := Lib.hid he
  have kr := (hb1.block _ hs0).trans k0
  have x0 := cell_of_row w1 w.heap.size 0 _ _ (0, 0) kr
  have x1 := cell_of_row w1 w.heap.size 1 _ _ (0, 0) kr
  simp at x0 x1
  have hw1 : w.heap.size < w1.heap.size := Nat.lt_of_lt_of_le hs0 hb1.size
  have hr := h0.later hb1
  have hB1 := ord_later hb0 hb1
  clear he kr k0 h0 hb0 hb1 hs0
  go_wp2_with fail
  refine (within_any _ _ _ _).mono ?_
  rcases Bool.eq_false_or_eq_true (inB 0 sym 3) with hs | hs
  rotate_left
  · rw [hs]
    rintro e w2 ⟨rfl, rfl⟩
    have H : Hid (RsRel bs n i is sym id 0) := Lib.hid (.inr (.inl ⟨hE.out, hs, rfl⟩))
    clear hs
    go_wp2_with fail
    go_ret
    exact ⟨⟨0, H.out, rfl⟩, hB1⟩
  rw [hs]
  rintro e w2 ⟨rfl, rfl⟩
  have hs2 := inB_iff.1 hs
  obtain ⟨s, rfl⟩ := Int.eq_ofNat_of_zero_le hs2.1
  have hn4 := (engB_parts hE.out).1
  obtain ⟨x, hx⟩ : ∃ x, bs[s]? = some x := ⟨bs[s]'(by omega), List.getElem?_eq_getElem (by omega)⟩
  obtain ⟨b, o, v1, v2, rfl, hbX, q0, q1, ⟨A1, n1, c1, rfl, l1, hn1, hA1, -⟩, ⟨A2, n2, c2, rfl, l2, hn2, hA2, -⟩⟩ := hr.books s x hx
  obtain ⟨za, zb⟩ := x
  have H := Lib.hid (fun (t : Int) (f : Nat → Int) (ok : Bool) (h : FindRel (bookB za n1 zb n2) za n1 zb n2 id t f ok) => (show RsRel bs n i is (s : Int) id (f 3) from .inr (.inr ⟨hE.out, hs, za, zb, n1, n2, t, f, ok, (by rw [Int.toNat_natCast]; exact hx), l1.1, l2.1, h, rfl⟩)))
  have hsn : s < n := by omega
  clear hs hx hr hn4 hs2
  go_wp2_with fail
  refine (impl_Find A1 n1 c1 A2 n2 c2 za zb id _ l1 l2 hn1 hn2).mono ?_
  rintro e w3 ⟨⟨t, f, ok, hf, rfl⟩, hb3⟩
  have HF := Lib.hid (H.out t f ok hf)
  have hB3 := (ord_later hB1 hb3).alloc (ord_later hB1 hb3).size (.cells #[.int .i64 (f 0), .int .i64 (f 1), .int .i64 (f 2), .int .i64 (f 3)] 84)
  clear q0 q1 H hf x0 x1
  go_wp2_with fail
  go_ret
  exact ⟨⟨_, HF.out, rfl⟩, hB3⟩
end Go.Proofs.Ytmbafeiacaamoaa
