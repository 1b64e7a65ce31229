/-
  Finding an order in a book, in both programs.
-/
import Derived.Test.YtempggikcpminaaBookT
import Derived.Test.YtempggikcpminaaBookZ
namespace Go.Proofs.Ytempggikcpminaa
open Go.RowKit Wire

/-- what finding an id comes to -/
def FindRel (bk : Bool) (za : List Int) (n : Nat) (zb : List Int) (m : Nat) (id s : Int) (f : Nat → Int) (ok : Bool) : Prop :=
  (bk = true ∧ ∃ k : Nat, k < n ∧ (∀ j, j < k → idN za j ≠ id) ∧ idN za k = id ∧ s = 1 ∧ ok = true ∧ ∀ j, j < 4 → f j = num za (k * 4 + j)) ∨
  (bk = true ∧ (∀ j, j < n → idN za j ≠ id) ∧ ∃ k : Nat, k < m ∧ (∀ j, j < k → idN zb j ≠ id) ∧ idN zb k = id ∧ s = 2 ∧ ok = true ∧ ∀ j, j < 4 → f j = num zb (k * 4 + j)) ∨
  ((bk = false ∨ ((∀ j, j < n → idN za j ≠ id) ∧ ∀ j, j < m → idN zb j ≠ id)) ∧ s = 0 ∧ ok = false ∧ ∀ j, j < 4 → f j = 0)
theorem first_one {f : Nat → Int} {x : Int} {k l : Nat} (h1 : ∀ j, j < k → f j ≠ x) (h2 : f k = x) (h3 : ∀ j, j < l → f j ≠ x) (h4 : f l = x) : k = l := by
  rcases Nat.lt_trichotomy k l with h | h | h
  · exact absurd h2 (h3 k h)
  · exact h
  · exact absurd h4 (h1 l h)
theorem FindRel.one {bk : Bool} {za zb : List Int} {n m : Nat} {id s t : Int} {f g : Nat → Int} {ok is : Bool} (h : FindRel bk za n zb m id s f ok) (k : FindRel bk za n zb m id t g is) : s = t ∧ ok = is ∧ ∀ j, j < 4 → f j = g j := by
  rcases h with ⟨h0, K, h1, h2, h3, h4, h5, h6⟩ | ⟨h0, hn, K, h1, h2, h3, h4, h5, h6⟩ | ⟨h0, h4, h5, h6⟩ <;> rcases k with ⟨k0, L, k1, k2, k3, k4, k5, k6⟩ | ⟨k0, kn, L, k1, k2, k3, k4, k5, k6⟩ | ⟨k0, k4, k5, k6⟩
  · obtain rfl := first_one h2 h3 k2 k3
    exact ⟨by omega, by rw [h5, k5], fun j hj => (h6 j hj).trans (k6 j hj).symm⟩
  · exact absurd h3 (kn K h1)
  · rcases k0 with k0 | ⟨k0, _⟩
    · rw [h0] at k0; cases k0
    · exact absurd h3 (k0 K h1)
  · exact absurd k3 (hn L k1)
  · obtain rfl := first_one h2 h3 k2 k3
    exact ⟨by omega, by rw [h5, k5], fun j hj => (h6 j hj).trans (k6 j hj).symm⟩
  · rcases k0 with k0 | ⟨_, k0⟩
    · rw [h0] at k0; cases k0
    · exact absurd h3 (k0 K h1)
  · rcases h0 with h0 | ⟨h0, _⟩
    · rw [k0] at h0; cases h0
    · exact absurd k3 (h0 L k1)
  · rcases h0 with h0 | ⟨_, h0⟩
    · rw [k0] at h0; cases h0
    · exact absurd k3 (h0 L k1)
  · exact ⟨by omega, by rw [h5, k5], fun j hj => (h6 j hj).trans (k6 j hj).symm⟩
set_option linter.unusedSimpArgs false in
set_option maxHeartbeats 3200000 in
set_option maxRecDepth 100000 in
theorem impl_Find (A : Option Addr) (n c : Nat) (B : Option Addr) (m d : Nat) (za zb : List Int) (id : Int) (w : World) (ha : Lst w w.heap.size 4 A n za) (hb : Lst w w.heap.size 4 B m zb) (hn : n ≤ 1048576) (hm : m ≤ 1048576) :
    Calls Try.prog 70 #[.agg #[.slice A n c, .slice B m d], .int .i64 id] w fun e w' => (∃ s f ok, FindRel (bookB za n zb m) za n zb m id s f ok ∧ e = .returned (.tuple #[.int .i64 s, .agg #[.int .i64 (f 0), .int .i64 (f 1), .int .i64 (f 2), .int .i64 (f 3)], .bool ok])) ∧ Below w.heap.size w w' := by
  obtain ⟨k0, k1⟩ := two_blocks w (.cells #[.slice A n c, .slice B m d] 26) (.cells #[.int .i64 0, .int .i64 0, .int .i64 0, .int .i64 0] 28)
  have hb0 : Below w.heap.size w ((w.alloc (.cells #[.slice A n c, .slice B m d] 26)).alloc (.cells #[.int .i64 0, .int .i64 0, .int .i64 0, .int .i64 0] 28)) := ((Below.refl _ _).alloc (Nat.le_refl _) _).alloc (by simp) _
  have hs0 : w.heap.size + 1 < ((w.alloc (.cells #[.slice A n c, .slice B m d] 26)).alloc (.cells #[.int .i64 0, .int .i64 0, .int .i64 0, .int .i64 0] 28)).heap.size := by simp
  go_enter Try.func70, Try.ntmps70
  go_wp2_with fail
  generalize ((w.alloc (.cells #[.slice A n c, .slice B m d] 26)).alloc (.cells #[.int .i64 0, .int .i64 0, .int .i64 0, .int .i64 0] 28)) = w0 at *
  refine (impl_BookOk A n c B m d za zb w0 ((ha.below hb0).more hb0.size) ((hb.below hb0).more hb0.size) hn hm).mono ?_
  generalize hbk : bookB za n zb m = bk
  rintro e w1 ⟨rfl, hb1⟩
  have k0 := (hb1.block w.heap.size (by omega)).trans k0
  have k1 := (hb1.block (w.heap.size + 1) hs0).trans k1
  have hs1 := hb1.size
  have hb1 := hb0.trans (hb1.mono hb0.size)
  have x0 := cell_of_row w1 w.heap.size 0 _ _ (0, 0) k0
  have x1 := cell_of_row w1 w.heap.size 1 _ _ (0, 0) k0
  simp at x0 x1
  have r0 := cell_of_row w1 (w.heap.size + 1) 0 _ _ (0, 0) k1
  have r1 := cell_of_row w1 (w.heap.size + 1) 1 _ _ (0, 0) k1
  have r2 := cell_of_row w1 (w.heap.size + 1) 2 _ _ (0, 0) k1
  have r3 := cell_of_row w1 (w.heap.size + 1) 3 _ _ (0, 0) k1
  have z0 := frozen_of_row w1 (w.heap.size + 1) 0 _ _ k1
  have z1 := frozen_of_row w1 (w.heap.size + 1) 1 _ _ k1
  have z2 := frozen_of_row w1 (w.heap.size + 1) 2 _ _ k1
  have z3 := frozen_of_row w1 (w.heap.size + 1) 3 _ _ k1
  simp at r0 r1 r2 r3
  clear hb0
  cases bk
  · go_wp2_with fail
    refine bodyPost_ret (v := .tuple #[.int .i64 0, .agg #[.int .i64 0, .int .i64 0, .int .i64 0, .int .i64 0], .bool false]) (by simp [results, Try.results70, go_sem, r0, r1, r2, r3]) rfl ⟨⟨0, fun _ => 0, false, .inr (.inr ⟨.inl hbk, rfl, rfl, fun _ _ => rfl⟩), rfl⟩, ?_⟩
    exact below_put4 hb1 (show w.heap.size ≤ w.heap.size + 1 by omega) 0 1 2 3 _ _ _ _
  · go_wp2_with fail
    go_loopw [18] (fun i wr => ∃ k : Nat, k ≤ n ∧ i = .int .i64 (k : Int) ∧ (∀ j, j < k → idN za j ≠ id) ∧ Below w.heap.size w wr ∧ Below w1.heap.size w1 wr) (fun i _ => n - (intOf i).toNat)
    case atStart => exact ⟨0, Nat.zero_le _, rfl, fun j hj => absurd hj (Nat.not_lt_zero j), hb1, Below.refl _ _⟩
    case round =>
      obtain ⟨k, hk, rfl, hno, hbel, hbq⟩ := hrel
      have HN := Lib.hid hno
      have HB := Lib.hid hbel
      have HQ := Lib.hid hbq
      have k0r := (hbq.block w.heap.size (by omega)).trans k0
      have k1r := (hbq.block (w.heap.size + 1) (by omega)).trans k1
      have hsr := hbq.size
      clear hno x0 x1 r0 r1 r2 r3 z0 z1 z2 z3
      by_cases hlt : k < n
      · obtain ⟨b, o, rfl, hbo, c0, c1, c2, c3⟩ := (ha.below hbel).row4 hlt
        have HI := Lib.hid (show idN za k = num za (k * 4) from rfl)
        clear hbel hbq
        rcases Bool.eq_false_or_eq_true (num za (k * 4) == id) with hyx | hyx
        · have HX := Lib.hid (beq_iff_eq.1 hyx)
          go_upto_region 7 with fail
          have hR := (Below.heap_alloc wr (.cells #[.int .i64 (num za (k * 4)), .int .i64 (num za (k * 4 + 1)), .int .i64 (num za (k * 4 + 2)), .int .i64 (num za (k * 4 + 3))] 28) (w.heap.size + 1) (by omega)).trans k1r
          have hba := HB.out.alloc HB.out.size (.cells #[.int .i64 (num za (k * 4)), .int .i64 (num za (k * 4 + 1)), .int .i64 (num za (k * 4 + 2)), .int .i64 (num za (k * 4 + 3))] 28)
          have hO : (wr.alloc (.cells #[.int .i64 (num za (k * 4)), .int .i64 (num za (k * 4 + 1)), .int .i64 (num za (k * 4 + 2)), .int .i64 (num za (k * 4 + 3))] 28)).heap[wr.heap.size]? = some (.cells #[.int .i64 (num za (k * 4)), .int .i64 (num za (k * 4 + 1)), .int .i64 (num za (k * 4 + 2)), .int .i64 (num za (k * 4 + 3))] 28 (0, 0)) := heap_alloc_new wr _
          generalize wr.alloc (.cells #[.int .i64 (num za (k * 4)), .int .i64 (num za (k * 4 + 1)), .int .i64 (num za (k * 4 + 2)), .int .i64 (num za (k * 4 + 3))] 28) = W at *
          have hne : w.heap.size + 1 ≠ wr.heap.size := by omega
          generalize wr.heap.size = G at *
          have r0 := cell_of_row W (w.heap.size + 1) 0 _ _ (0, 0) hR
          have r1 := cell_of_row W (w.heap.size + 1) 1 _ _ (0, 0) hR
          have r2 := cell_of_row W (w.heap.size + 1) 2 _ _ (0, 0) hR
          have r3 := cell_of_row W (w.heap.size + 1) 3 _ _ (0, 0) hR
          have z0 := frozen_of_row W (w.heap.size + 1) 0 _ _ hR
          have z1 := frozen_of_row W (w.heap.size + 1) 1 _ _ hR
          have z2 := frozen_of_row W (w.heap.size + 1) 2 _ _ hR
          have z3 := frozen_of_row W (w.heap.size + 1) 3 _ _ hR
          simp at r0 r1 r2 r3
          have o0 := cell_of_row W G 0 _ _ (0, 0) hO
          have o1 := cell_of_row W G 1 _ _ (0, 0) hO
          have o2 := cell_of_row W G 2 _ _ (0, 0) hO
          have o3 := cell_of_row W G 3 _ _ (0, 0) hO
          simp at o0 o1 o2 o3
          go_region
          all_goals
            go_wp2_with fail
            refine bodyPost_ret (v := .tuple #[.int .i64 1, .agg #[.int .i64 (num za (k * 4)), .int .i64 (num za (k * 4 + 1)), .int .i64 (num za (k * 4 + 2)), .int .i64 (num za (k * 4 + 3))], .bool true]) (by simp [results, Try.results70, go_sem, r0, r1, r2, r3]) rfl ⟨⟨1, fun j => num za (k * 4 + j), true, .inl ⟨hbk, k, hlt, HN.out, HI.out.trans HX.out, rfl, rfl, fun _ _ => rfl⟩, rfl⟩, ?_⟩
            exact (below_put4 hba (show w.heap.size ≤ w.heap.size + 1 by omega) 0 1 2 3 _ _ _ _).drew
        · have HX : Hid (num za (k * 4) ≠ id) := Lib.hid (by simpa using hyx)
          go_wp2_with fail
          go_roundw
          case rel => exact ⟨k + 1, by omega, by go_num, fun j hj => by
            rcases Nat.lt_or_ge j k with h | h
            · exact HN.out j h
            · obtain rfl : j = k := by omega
              rw [HI.out]
              exact HX.out, HB.out.alloc HB.out.size _, HQ.out.alloc HQ.out.size _⟩
          case measure => simp [intOf]; omega
      · obtain rfl : k = n := by omega
        have x0 := cell_of_row wr w.heap.size 0 _ _ (0, 0) k0r
        have x1 := cell_of_row wr w.heap.size 1 _ _ (0, 0) k0r
        simp at x0 x1
        clear hbel hbq k0 k1
        go_wp2_with fail
        go_loopw [31] (fun i wq => ∃ l : Nat, l ≤ m ∧ i = .int .i64 (l : Int) ∧ (∀ j, j < l → idN zb j ≠ id) ∧ Below w.heap.size w wq ∧ Below wr.heap.size wr wq) (fun i _ => m - (intOf i).toNat)
        case atStart => exact ⟨0, Nat.zero_le _, rfl, fun j hj => absurd hj (Nat.not_lt_zero j), HB.out, Below.refl _ _⟩
        case round =>
          clear x0 x1
          obtain ⟨l, hl, rfl, hno2, hbel, hbq⟩ := hrel
          have HM := Lib.hid hno2
          have HB2 := Lib.hid hbel
          have HQ2 := Lib.hid hbq
          have k1q := (hbq.block (w.heap.size + 1) (by omega)).trans k1r
          have hsq := hbq.size
          clear hno2
          by_cases hlm : l < m
          · obtain ⟨b, o, rfl, hbo, c0, c1, c2, c3⟩ := (hb.below hbel).row4 hlm
            have HI := Lib.hid (show idN zb l = num zb (l * 4) from rfl)
            clear hbel hbq
            rcases Bool.eq_false_or_eq_true (num zb (l * 4) == id) with hyx | hyx
            · have HX := Lib.hid (beq_iff_eq.1 hyx)
              go_upto_region 13 with fail
              have hR := (Below.heap_alloc wr (.cells #[.int .i64 (num zb (l * 4)), .int .i64 (num zb (l * 4 + 1)), .int .i64 (num zb (l * 4 + 2)), .int .i64 (num zb (l * 4 + 3))] 28) (w.heap.size + 1) (by omega)).trans k1q
              have hba := HB2.out.alloc HB2.out.size (.cells #[.int .i64 (num zb (l * 4)), .int .i64 (num zb (l * 4 + 1)), .int .i64 (num zb (l * 4 + 2)), .int .i64 (num zb (l * 4 + 3))] 28)
              have hO : (wr.alloc (.cells #[.int .i64 (num zb (l * 4)), .int .i64 (num zb (l * 4 + 1)), .int .i64 (num zb (l * 4 + 2)), .int .i64 (num zb (l * 4 + 3))] 28)).heap[wr.heap.size]? = some (.cells #[.int .i64 (num zb (l * 4)), .int .i64 (num zb (l * 4 + 1)), .int .i64 (num zb (l * 4 + 2)), .int .i64 (num zb (l * 4 + 3))] 28 (0, 0)) := heap_alloc_new wr _
              generalize wr.alloc (.cells #[.int .i64 (num zb (l * 4)), .int .i64 (num zb (l * 4 + 1)), .int .i64 (num zb (l * 4 + 2)), .int .i64 (num zb (l * 4 + 3))] 28) = W at *
              have hne : w.heap.size + 1 ≠ wr.heap.size := by omega
              generalize wr.heap.size = G at *
              have r0 := cell_of_row W (w.heap.size + 1) 0 _ _ (0, 0) hR
              have r1 := cell_of_row W (w.heap.size + 1) 1 _ _ (0, 0) hR
              have r2 := cell_of_row W (w.heap.size + 1) 2 _ _ (0, 0) hR
              have r3 := cell_of_row W (w.heap.size + 1) 3 _ _ (0, 0) hR
              have z0 := frozen_of_row W (w.heap.size + 1) 0 _ _ hR
              have z1 := frozen_of_row W (w.heap.size + 1) 1 _ _ hR
              have z2 := frozen_of_row W (w.heap.size + 1) 2 _ _ hR
              have z3 := frozen_of_row W (w.heap.size + 1) 3 _ _ hR
              simp at r0 r1 r2 r3
              have o0 := cell_of_row W G 0 _ _ (0, 0) hO
              have o1 := cell_of_row W G 1 _ _ (0, 0) hO
              have o2 := cell_of_row W G 2 _ _ (0, 0) hO
              have o3 := cell_of_row W G 3 _ _ (0, 0) hO
              simp at o0 o1 o2 o3
              go_region
              all_goals
                go_wp2_with fail
                refine bodyPost_ret (v := .tuple #[.int .i64 2, .agg #[.int .i64 (num zb (l * 4)), .int .i64 (num zb (l * 4 + 1)), .int .i64 (num zb (l * 4 + 2)), .int .i64 (num zb (l * 4 + 3))], .bool true]) (by simp [results, Try.results70, go_sem, r0, r1, r2, r3]) rfl ⟨⟨2, fun j => num zb (l * 4 + j), true, .inr (.inl ⟨hbk, HN.out, l, hlm, HM.out, HI.out.trans HX.out, rfl, rfl, fun _ _ => rfl⟩), rfl⟩, ?_⟩
                exact (below_put4 hba (show w.heap.size ≤ w.heap.size + 1 by omega) 0 1 2 3 _ _ _ _).drew
            · have HX : Hid (num zb (l * 4) ≠ id) := Lib.hid (by simpa using hyx)
              go_wp2_with fail
              go_roundw
              case rel => exact ⟨l + 1, by omega, by go_num, fun j hj => by
                rcases Nat.lt_or_ge j l with h | h
                · exact HM.out j h
                · obtain rfl : j = l := by omega
                  rw [HI.out]
                  exact HX.out, HB2.out.alloc HB2.out.size _, HQ2.out.alloc HQ2.out.size _⟩
              case measure => simp [intOf]; omega
          · obtain rfl : l = m := by omega
            have r0 := cell_of_row wr (w.heap.size + 1) 0 _ _ (0, 0) k1q
            have r1 := cell_of_row wr (w.heap.size + 1) 1 _ _ (0, 0) k1q
            have r2 := cell_of_row wr (w.heap.size + 1) 2 _ _ (0, 0) k1q
            have r3 := cell_of_row wr (w.heap.size + 1) 3 _ _ (0, 0) k1q
            have z0 := frozen_of_row wr (w.heap.size + 1) 0 _ _ k1q
            have z1 := frozen_of_row wr (w.heap.size + 1) 1 _ _ k1q
            have z2 := frozen_of_row wr (w.heap.size + 1) 2 _ _ k1q
            have z3 := frozen_of_row wr (w.heap.size + 1) 3 _ _ k1q
            simp at r0 r1 r2 r3
            clear hbq
            go_wp2_with fail
            refine bodyPost_ret (v := .tuple #[.int .i64 0, .agg #[.int .i64 0, .int .i64 0, .int .i64 0, .int .i64 0], .bool false]) (by simp [results, Try.results70, go_sem, r0, r1, r2, r3]) rfl ⟨⟨0, fun _ => 0, false, .inr (.inr ⟨.inr ⟨HN.out, HM.out⟩, rfl, rfl, fun _ _ => rfl⟩), rfl⟩, ?_⟩
            exact below_put4 hbel (show w.heap.size ≤ w.heap.size + 1 by omega) 0 1 2 3 _ _ _ _
end Go.Proofs.Ytempggikcpminaa
