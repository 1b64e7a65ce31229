/-
  The law on what is filled in drawn records.
-/
import Derived.Test.YtgpfpaifbgdleaaDrawTape
import Derived.Test.YtgpfpaifbgdleaaFilled
import Derived.Test.YtgpfpaifbgdleaaLawInts
namespace Go.Proofs.Ytgpfpaifbgdleaa
open Go.RowKit Wire

theorem RdAt.below {w w1 : World} {g B : Nat} {A : Option Addr} {len cap p : Nat} (h : RdAt w g A len cap p) (hb : Below B w w1) (hg : g < B) : RdAt w1 g A len cap p := ⟨h.1, (hb.block g hg).trans h.2⟩
theorem Src.later {w w1 : World} {A : Option Addr} {len : Nat} (h : Src w w.heap.size A len) (hb : Below w.heap.size w w1) : Src w1 w1.heap.size A len := fun i hi => by
  obtain ⟨b, o, n, h1, h2, h3, h4, h5⟩ := h i hi
  exact ⟨b, o, n, h1, Nat.lt_of_lt_of_le h2 hb.size, h3, h4, (hb.cell (p := ⟨b, o + i, none⟩) h2).trans h5⟩
theorem num_drop (zs : List Int) (a j : Nat) : num (zs.drop a) j = num zs (a + j) := by
  unfold num; rw [List.getD_eq_getElem?_getD, List.getD_eq_getElem?_getD, List.getElem?_drop]
theorem num_take (zs : List Int) (a j : Nat) (h : j < a) : num (zs.take a) j = num zs j := by
  unfold num; rw [List.getD_eq_getElem?_getD, List.getD_eq_getElem?_getD, List.getElem?_take_of_lt h]
theorem fillAt_drop (zs : List Int) (id : Int) (a k : Nat) : fillAt (zs.drop (a * 8)) id k = fillAt zs id (a + k) := by
  unfold fillAt
  simp only [num_drop, show ∀ j, a * 8 + (k * 8 + j) = (a + k) * 8 + j from fun j => by omega]
theorem okAt_drop (zs : List Int) (a k : Nat) : okAt (zs.drop (a * 8)) k = okAt zs (a + k) := by
  unfold okAt
  simp only [num_drop, show ∀ j, a * 8 + (k * 8 + j) = (a + k) * 8 + j from fun j => by omega, show a * 8 + k * 8 = (a + k) * 8 from by omega]
theorem okAt_take (zs : List Int) {a k : Nat} (h : k < a) : okAt (zs.take (a * 8)) k = okAt zs k := by
  unfold okAt
  rw [num_take _ _ _ (by omega), num_take _ _ _ (by omega), num_take _ _ _ (by omega), num_take _ _ _ (by omega), num_take _ _ _ (by omega), num_take _ _ _ (by omega), num_take _ _ _ (by omega), num_take _ _ _ (by omega)]
theorem fillAt_take (zs : List Int) (id : Int) {a k : Nat} (h : k < a) : fillAt (zs.take (a * 8)) id k = fillAt zs id k := by
  unfold fillAt
  rw [num_take _ _ _ (by omega), num_take _ _ _ (by omega), num_take _ _ _ (by omega)]
theorem okTo_of {zs : List Int} : ∀ n, (∀ k, k < n → okAt zs k = true) → okTo zs n = true
  | 0, _ => rfl
  | n + 1, h => okTo_step (okTo_of n fun k hk => h k (by omega)) (h n (by omega))
theorem sumTo_take (zs : List Int) (id : Int) (a : Nat) : ∀ k, k ≤ a → sumTo (zs.take (a * 8)) id k = sumTo zs id k
  | 0, _ => rfl
  | k + 1, h => by
    simp only [sumTo]
    rw [sumTo_take zs id a k (by omega), fillAt_take zs id (by omega), num_take _ _ _ (by omega)]
theorem sumTo_drop (zs : List Int) (id : Int) (a : Nat) : ∀ k, sumTo zs id a + sumTo (zs.drop (a * 8)) id k = sumTo zs id (a + k)
  | 0 => by simp [sumTo]
  | k + 1 => by
    have := sumTo_drop zs id a k
    rw [show a + (k + 1) = (a + k) + 1 from rfl]
    simp only [sumTo]
    rw [fillAt_drop, num_drop, show a * 8 + (k * 8 + 7) = (a + k) * 8 + 7 from by omega]
    omega
theorem filled_take {zs : List Int} {n : Nat} {id : Int} (h : okTo zs n = true) {a : Nat} (ha : a ≤ n) : filledI (zs.take (a * 8)) a id = sumTo zs id a := by
  rw [filledI_yes (okTo_of a fun k hk => by rw [okAt_take zs hk]; exact okTo_at n k h (by omega)), sumTo_take _ _ _ _ (Nat.le_refl _)]
theorem filled_drop {zs : List Int} {n : Nat} {id : Int} (h : okTo zs n = true) {a : Nat} (ha : a ≤ n) : filledI (zs.drop (a * 8)) (n - a) id = sumTo zs id n - sumTo zs id a := by
  rw [filledI_yes (okTo_of (n - a) fun k hk => by rw [okAt_drop]; exact okTo_at n _ h (by omega))]
  have := sumTo_drop zs id a (n - a)
  rw [show a + (n - a) = n from by omega] at this
  omega
theorem Has.take {w : World} {sz n c k : Nat} {A : Option Addr} {zs : List Int} (h : Has w sz A n c zs) (hk : k ≤ n) : Lst w w.heap.size sz A k (zs.take (k * sz)) := by
  have hl := h.2.2.2
  have hkn : k * sz ≤ n * sz := Nat.mul_le_mul_right _ hk
  refine ⟨by rw [List.length_take, hl.1]; omega, fun h0 => ?_⟩
  obtain ⟨b, o, e, hb, hc⟩ := hl.2 (by omega)
  exact ⟨b, o, e, hb, fun j hj => by rw [num_take _ _ _ hj]; exact hc j (by omega)⟩
theorem Has.drop {w : World} {sz n c k : Nat} {A : Option Addr} {zs : List Int} (h : Has w sz A n c zs) (hk : k ≤ n) : Lst w w.heap.size sz (if c = k then A else A.map (·.add (k * sz))) (n - k) (zs.drop (k * sz)) := by
  have hl := h.2.2.2
  have hc := h.1
  refine ⟨by rw [List.length_drop, hl.1, Nat.sub_mul], fun h0 => ?_⟩
  obtain ⟨b, o, e, hb, hcell⟩ := hl.2 (by omega)
  rw [if_neg (by omega), e]
  refine ⟨b, o + k * sz, by unfold Addr.add; simp, hb, fun j hj => ?_⟩
  rw [num_drop, Nat.add_assoc]
  refine hcell _ ?_
  have : (n - k) * sz + k * sz = n * sz := by rw [← Nat.add_mul]; congr 1; omega
  omega
/-- some list of records, and a number -/
def RowsAnd (w : World) (e : Ending) (w' : World) : Prop := ∃ (A : Option Addr) (n c : Nat) (zs : List Int) (id : Int), n ≤ 4 ∧ 0 ≤ id ∧ id ≤ 13 ∧ e = .returned (.tuple #[.slice A n c, .int .i64 id]) ∧ Has w' 8 A n c zs ∧ Below w.heap.size w w'
set_option maxHeartbeats 1600000 in
set_option maxRecDepth 100000 in
theorem DrawFilled_any (A : Option Addr) (len cap : Nat) (w : World) (hs : Src w w.heap.size A len) (hl : len ≤ 9223372036854775807) :
    Calls Try.prog 12 #[.slice A len cap] w (RowsAnd w) := by
  go_enter Try.func12, Try.ntmps12
  go_wp2_with fail
  refine (open_any A len cap _).mono ?_
  rintro e w1 ⟨rfl, rfl⟩
  have hr0 : RdAt (w.alloc (.cells #[.slice A len cap, .int .i64 0] 111)) w.heap.size A len cap 0 := ⟨Nat.zero_le _, heap_alloc_new w _⟩
  have hb0 : Below w.heap.size w (w.alloc (.cells #[.slice A len cap, .int .i64 0] 111)) := (Below.refl _ _).alloc (Nat.le_refl _) _
  have hs0 := hs.later hb0
  have hlt0 : w.heap.size < (w.alloc (.cells #[.slice A len cap, .int .i64 0] 111)).heap.size := by simp
  have hsg : Src (w.alloc (.cells #[.slice A len cap, .int .i64 0] 111)) w.heap.size A len := hs.keep (only_alloc (World.grownBy.refl _ _) _) (Nat.le_refl _)
  generalize w.alloc (.cells #[.slice A len cap, .int .i64 0] 111) = w0 at *
  go_wp2_with fail
  refine (DrawTape_any A len cap _ hs0 hl).mono ?_
  rintro e w1 ⟨A1, n, c, zs, hn, rfl, hh, hb1, hbase⟩
  have hr1 := hr0.below hb1 hlt0
  have hs1 : Src w1 w.heap.size A len := fun i hi => by
    obtain ⟨b, o, m, h1, h2, h3, h4, h5⟩ := hsg i hi
    exact ⟨b, o, m, h1, h2, h3, h4, (hb1.cell (p := ⟨b, o + i, none⟩) (by simp; omega)).trans h5⟩
  go_wp2_with fail
  refine (below_any 14 w.heap.size A len cap 0 _ hr1 hs1 hl (by omega) (by omega)).mono ?_
  rintro e w2 ⟨id, p2, m0, m1, rfl, hr2, hg2⟩
  have hh2 : Has w2 8 A1 n c zs := by
    refine ⟨hh.1, hh.2.1, hh.2.2.1, hh.2.2.2.1, fun h0 => ?_⟩
    obtain ⟨b, o, e, hb, hc⟩ := hh.2.2.2.2 h0
    have hbb := hbase _ e
    exact ⟨b, o, e, Nat.lt_of_lt_of_le hb hg2.size, fun j hj => (World.cell?_of_block (hg2.block b hb (fun e => by injection e with e; simp at hbb; omega))).trans (hc j hj)⟩
  go_wp2_with fail
  go_ret2
  exact ⟨A1, n, c, zs, id, hn, m0, by omega, rfl, hh2, (below_later' hb0 hb1).grown hg2 (Nat.le_trans hb0.size hb1.size) (fun k h => by cases h; exact Nat.le_refl _)⟩
/-- the two parts of a list, and what they fill -/
def TwoParts (A1 A2 : Option Addr) (k1 k2 : Nat) (z1 z2 : List Int) (w wx : World) : Prop := Below w.heap.size w wx ∧ Lst wx wx.heap.size 8 A1 k1 z1 ∧ Lst wx wx.heap.size 8 A2 k2 z2
theorem TwoParts.step {A1 A2 : Option Addr} {k1 k2 : Nat} {z1 z2 : List Int} {w wx wy : World} (h : TwoParts A1 A2 k1 k2 z1 z2 w wx) (hb : Below wx.heap.size wx wy) : TwoParts A1 A2 k1 k2 z1 z2 w wy :=
  ⟨h.1.trans (hb.mono h.1.size), h.2.1.later hb, h.2.2.later hb⟩
theorem fill_first {A1 A2 : Option Addr} {k1 k2 : Nat} {z1 z2 : List Int} {w wx : World} (h : TwoParts A1 A2 k1 k2 z1 z2 w wx) (c : Nat) (id F : Int) (hF : filledI z1 k1 id = F) (hk : k1 ≤ 4) :
    Calls Try.prog 13 #[.slice A1 k1 c, .int .i64 id] wx fun e w' => e = .returned (.int .i64 F) ∧ TwoParts A1 A2 k1 k2 z1 z2 w w' := by
  subst hF
  exact (impl_Filled A1 k1 c z1 id wx h.2.1 (by omega)).mono fun _ _ ⟨e, hb⟩ => ⟨e, h.step hb⟩
theorem fill_second {A1 A2 : Option Addr} {k1 k2 : Nat} {z1 z2 : List Int} {w wx : World} (h : TwoParts A1 A2 k1 k2 z1 z2 w wx) (c : Nat) (id F : Int) (hF : filledI z2 k2 id = F) (hk : k2 ≤ 4) :
    Calls Try.prog 13 #[.slice A2 k2 c, .int .i64 id] wx fun e w' => e = .returned (.int .i64 F) ∧ TwoParts A1 A2 k1 k2 z1 z2 w w' := by
  subst hF
  exact (impl_Filled A2 k2 c z2 id wx h.2.2 (by omega)).mono fun _ _ ⟨e, hb⟩ => ⟨e, h.step hb⟩
theorem fill_none {A1 A2 : Option Addr} {k1 k2 : Nat} {z1 z2 : List Int} {w wx : World} (h : TwoParts A1 A2 k1 k2 z1 z2 w wx) (id : Int) :
    Calls Try.prog 13 #[.slice none 0 0, .int .i64 id] wx fun e w' => e = .returned (.int .i64 0) ∧ TwoParts A1 A2 k1 k2 z1 z2 w w' :=
  (impl_Filled none 0 0 [] id wx (Lst.nil _ _ _ _) (by omega)).mono fun _ _ ⟨e, hb⟩ => ⟨e, h.step hb⟩
set_option maxHeartbeats 1600000 in
set_option maxRecDepth 100000 in
theorem law_FilledD (A : Option Addr) (len cap : Nat) (zs : List Int) (w : World) (hrow : IsRow .u8 w A len cap zs) :
    Calls Try.prog 3 #[.slice A len cap] w fun e w' => e = .returned (.bool true) ∧ Below w.heap.size w w' := by
  have hs := src_of_row hrow
  have hl := row_len hrow
  clear hrow
  by_cases hbig : 1048576 < len
  · go_enter Try.func3, Try.ntmps3
    go_wp2_with (go_at_call 11; go_in)
    go_ret
    exact ⟨rfl, Below.refl _ _⟩
  · go_enter Try.func3, Try.ntmps3
    go_wp2_with (go_at_call 11; go_in)
    refine (DrawFilled_any A len cap _ hs hl).mono ?_
    rintro e w1 ⟨A1, n, c, xs, id, hn, m0, m1, rfl, hh, hb1⟩
    clear hs
    go_wp2_with fail
    refine (impl_Filled A1 n c xs id w1 hh.2.2.2 (by omega)).mono ?_
    rintro e w2 ⟨rfl, hb2⟩
    have hh2 := hh.later hb2
    have hb2 := below_later' hb1 hb2
    clear hh hb1
    go_wp2_with fail
    refine (spec_Filled A1 n c xs id w2 hh2.2.2.2 (by omega)).mono ?_
    rintro e w3 ⟨rfl, hb3⟩
    have hh3 := hh2.later hb3
    have hb3 := below_later' hb2 hb3
    clear hh2 hb2
    by_cases hok : okTo xs n = true
    · obtain ⟨k, hk, hkn⟩ : ∃ k : Nat, (len : Int) % ((n : Int) + 1) = (k : Int) ∧ k ≤ n := ⟨len % (n + 1), by simp, by have := Nat.mod_lt len (show 0 < n + 1 by omega); omega⟩
      have hf1 := Lib.hid (filled_take (id := id) hok hkn)
      have hf2 := Lib.hid (filled_drop (id := id) hok hkn)
      have hT := sumTo_le (id := id) n hok
      have hS : 0 ≤ sumTo xs id k ∧ sumTo xs id k ≤ 1000000 * k := sumTo_le (id := id) k (okTo_of k fun j hj => okTo_at n j hok (by omega))
      rw [filledI_yes hok]
      have h1 := hh3.take hkn
      have h2 := hh3.drop hkn
      have hcap := hh3.1
      have hcm := hh3.2.1
      generalize sumTo xs id n = T at *
      generalize sumTo xs id k = S at *
      go_wp2_with fail
      simp only [hk]
      clear hk
      have hSum : IntKind.i64.wrap (S + (T - S)) = T := by rw [IntKind.wrap_i64]; omega
      have hb0 : (0 : Int) ≤ (k : Int) := by omega
      have hb1 : (k : Int) ≤ (c : Int) := by omega
      have hb2 : (k : Int) ≤ (n : Int) := by omega
      have hb4 : (n : Int) ≤ (c : Int) := by omega
      unfold maxLen at hcm
      by_cases hck : c = k
      · rw [if_pos hck] at h2
        obtain rfl : n = c := by omega
        obtain rfl : n = k := by omega
        rw [Nat.sub_self] at h2 hf2
        have hP : TwoParts A1 A1 n 0 (xs.take (n * 8)) (xs.drop (n * 8)) w3 w3.drew := ⟨(Below.refl _ _).drew, h1, h2⟩
        go_region_held3 (TwoParts A1 A1 n 0 (xs.take (n * 8)) (xs.drop (n * 8)) w3) (assumption)
          ((first
            | (go_at_call_of 13 (Value.slice none 0 0); refine (fill_none (A1 := A1) (A2 := A1) (k1 := n) (k2 := 0) (z1 := xs.take (n * 8)) (z2 := xs.drop (n * 8)) (w := w3) (by assumption) id).mono ?_; rintro e w' ⟨rfl, hb⟩)
            | (go_at_call_of 13 (Value.slice A1 n n); refine (fill_first (A1 := A1) (A2 := A1) (k1 := n) (k2 := 0) (z1 := xs.take (n * 8)) (z2 := xs.drop (n * 8)) (w := w3) (by assumption) n id S hf1.out (by omega)).mono ?_; rintro e w' ⟨rfl, hb⟩)
            | (go_at_call_of 13 (Value.slice A1 0 0); refine (fill_second (A1 := A1) (A2 := A1) (k1 := n) (k2 := 0) (z1 := xs.take (n * 8)) (z2 := xs.drop (n * 8)) (w := w3) (by assumption) 0 id (T - S) hf2.out (by omega)).mono ?_; rintro e w' ⟨rfl, hb⟩)))
        rename_i wz hTP
        have hfin := below_later' hb3 hTP.1
        clear hTP
        go_wp2_with fail
        go_ret
        exact ⟨by first | rfl | simp, hfin⟩
      · rw [if_neg hck] at h2
        have hP : TwoParts A1 (A1.map (·.add (k * 8))) k (n - k) (xs.take (k * 8)) (xs.drop (k * 8)) w3 w3.drew := ⟨(Below.refl _ _).drew, h1, h2⟩
        go_region_held3 (TwoParts A1 (A1.map (·.add (k * 8))) k (n - k) (xs.take (k * 8)) (xs.drop (k * 8)) w3) (assumption)
          ((first
            | (go_at_call_of 13 (Value.slice none 0 0); refine (fill_none (A1 := A1) (A2 := (A1.map (·.add (k * 8)))) (k1 := k) (k2 := (n - k)) (z1 := xs.take (k * 8)) (z2 := xs.drop (k * 8)) (w := w3) (by assumption) id).mono ?_; rintro e w' ⟨rfl, hb⟩)
            | (go_at_call_of 13 (Value.slice A1 k c); refine (fill_first (A1 := A1) (A2 := (A1.map (·.add (k * 8)))) (k1 := k) (k2 := (n - k)) (z1 := xs.take (k * 8)) (z2 := xs.drop (k * 8)) (w := w3) (by assumption) c id S hf1.out (by omega)).mono ?_; rintro e w' ⟨rfl, hb⟩)
            | (go_at_call_of 13 (Value.slice (Option.map (fun x => x.add (k * 8)) A1) (n - k) (c - k)); refine (fill_second (A1 := A1) (A2 := (A1.map (·.add (k * 8)))) (k1 := k) (k2 := (n - k)) (z1 := xs.take (k * 8)) (z2 := xs.drop (k * 8)) (w := w3) (by assumption) (c - k) id (T - S) hf2.out (by omega)).mono ?_; rintro e w' ⟨rfl, hb⟩)))
        rename_i wz hTP
        have hfin := below_later' hb3 hTP.1
        clear hTP
        go_wp2_with fail
        go_ret
        exact ⟨by first | rfl | simp, hfin⟩
    · have hF : filledI xs n id = -1 := by simp [filledI, hok]
      rw [hF]
      have HF := Lib.hid hF
      clear hF hok
      go_wp2_with fail
      refine (spec_Filled A1 n c xs id w3 hh3.2.2.2 (by omega)).mono ?_
      rw [HF.out]
      rintro e w4 ⟨rfl, hb4⟩
      go_wp2_with fail
      go_ret
      exact ⟨by first | rfl | simp, below_later' hb3 hb4⟩
end Go.Proofs.Ytgpfpaifbgdleaa
