/-
  Which engines are right, in both programs.
-/
import Derived.Test.YtmbafeiacaamoaaCat
import Derived.Test.YtmbafeiacaamoaaEngB
import Derived.Test.YtmbafeiacaamoaaBookZ
import Derived.Deep.RegionHeld3
namespace Go.Proofs.Ytmbafeiacaamoaa
open Go.RowKit Wire

def lastN (is : List Int) (k : Nat) : Int := if k = 0 then 0 else num is (k - 1)
/-- the first accounts are in range, and increase -/
def acTo (is : List Int) : Nat → Bool
  | 0 => true
  | k + 1 => acTo is k && inB (lastN is k + 1) (num is k) 100
theorem acTo_no {is : List Int} {k : Nat} (h : inB (lastN is k + 1) (num is k) 100 = false) : ∀ n, k < n → acTo is n = false
  | 0, hk => absurd hk (Nat.not_lt_zero k)
  | n + 1, hk => by
    rw [acTo]
    rcases Nat.lt_or_ge k n with hlt | hge
    · rw [acTo_no h n hlt]; rfl
    · obtain rfl : k = n := by omega
      rw [h, Bool.and_false]
theorem acTo_step {is : List Int} {k : Nat} (h : acTo is k = true) (h1 : inB (lastN is k + 1) (num is k) 100 = true) : acTo is (k + 1) = true := by rw [acTo, h, h1]; rfl
theorem lastN_in {is : List Int} : ∀ k, acTo is k = true → (k : Int) ≤ lastN is k ∧ lastN is k ≤ 100
  | 0, _ => by simp [lastN]
  | k + 1, h => by
    rw [acTo, Bool.and_eq_true] at h
    have h1 := lastN_in k h.1
    have h2 := h.2
    simp only [inB, Bool.and_eq_true, decide_eq_true_eq] at h2
    have e : lastN is (k + 1) = num is k := by rw [lastN, if_neg (by omega)]; rfl
    rw [e]
    omega
theorem acTo_len {is : List Int} {n : Nat} (h : acTo is n = true) : n ≤ 100 := by
  have := lastN_in n h
  omega
theorem inB_iff {lo n hi : Int} : inB lo n hi = true ↔ lo ≤ n ∧ n ≤ hi := by simp [inB]
/-- a book is right and has no order of these accounts -/
def bkB (is : List Int) (m : Nat) (x : List Int × List Int) : Bool := bookB x.1 (x.1.length / 4) x.2 (x.2.length / 4) && !oweTo is m (x.1 ++ x.2) (x.1.length / 4 + x.2.length / 4)
def bkTo (is : List Int) (m : Nat) (bs : List (List Int × List Int)) : Nat → Bool
  | 0 => true
  | k + 1 => bkTo is m bs k && bkB is m (bs.getD k ([], []))
theorem bkTo_no {is : List Int} {m : Nat} {bs : List (List Int × List Int)} {k : Nat} {x : List Int × List Int} (hx : bs[k]? = some x) (h : bkB is m x = false) : ∀ n, k < n → bkTo is m bs n = false
  | 0, hk => absurd hk (Nat.not_lt_zero k)
  | n + 1, hk => by
    rw [bkTo]
    rcases Nat.lt_or_ge k n with hlt | hge
    · rw [bkTo_no hx h n hlt]; rfl
    · obtain rfl : k = n := by omega
      rw [List.getD_eq_getElem?_getD, hx, Option.getD_some, h, Bool.and_false]
theorem bkTo_step {is : List Int} {m : Nat} {bs : List (List Int × List Int)} {k : Nat} {x : List Int × List Int} (hx : bs[k]? = some x) (h0 : bkTo is m bs k = true) (h : bkB is m x = true) : bkTo is m bs (k + 1) = true := by
  rw [bkTo, List.getD_eq_getElem?_getD, hx, Option.getD_some, h, h0]; rfl
theorem bkB_at {is za zb : List Int} {m n1 n2 : Nat} (h1 : za.length = n1 * 4) (h2 : zb.length = n2 * 4) : bkB is m (za, zb) = (bookB za n1 zb n2 && !oweTo is m (za ++ zb) (n1 + n2)) := by
  unfold bkB
  simp only
  rw [h1, h2, show n1 * 4 / 4 = n1 by omega, show n2 * 4 / 4 = n2 by omega]
theorem bookB_small {za zb : List Int} {n m : Nat} (h : bookB za n zb m = true) : n ≤ 20 ∧ m ≤ 20 := by
  unfold bookB sideB at h
  simp only [Bool.and_eq_true, decide_eq_true_eq] at h
  exact ⟨h.1.1, h.2.1.1⟩
def engB (bs : List (List Int × List Int)) (n i : Nat) (is : List Int) : Bool := decide (n = 4) && (acTo is i && bkTo is i bs n)
theorem engB_no1 {bs : List (List Int × List Int)} {n i : Nat} {is : List Int} (h : ¬ n = 4) : engB bs n i is = false := by simp [engB, h]
theorem engB_no2 {bs : List (List Int × List Int)} {n i : Nat} {is : List Int} (h : acTo is i = false) : engB bs n i is = false := by simp [engB, h]
theorem engB_no3 {bs : List (List Int × List Int)} {n i : Nat} {is : List Int} (h : bkTo is i bs n = false) : engB bs n i is = false := by simp [engB, h]
theorem engB_yes {bs : List (List Int × List Int)} {n i : Nat} {is : List Int} (h1 : n = 4) (h2 : acTo is i = true) (h3 : bkTo is i bs n = true) : engB bs n i is = true := by simp [engB, h1, h2, ← h3]
set_option maxHeartbeats 400000 in
theorem impl_accountsOk (A : Option Addr) (n c : Nat) (is : List Int) (w : World) (hl : Lst w w.heap.size 1 A n is) (hn : n ≤ 1048576) :
    Calls Try.prog 54 #[.slice A n c] w fun e w' => e = .returned (.bool (acTo is n)) ∧ w = w' := by
  go_enter Try.func54, Try.ntmps54
  go_wp2_with fail
  go_loop [3, 8] (fun l i => ∃ k : Nat, k ≤ n ∧ i = .int .i64 (k : Int) ∧ l = .int .i64 (lastN is k) ∧ Hid (acTo is k = true)) (fun _ i => n - (intOf i).toNat)
  case atStart => exact ⟨0, Nat.zero_le _, rfl, rfl, rfl⟩
  case round =>
    obtain ⟨k, hk, rfl, rfl, hs⟩ := hrel
    by_cases hlt : k < n
    · obtain ⟨b, o, rfl, hb, h0⟩ := hl.get hlt
      have p0 := h0 0 (by omega)
      simp only [Nat.mul_one, Nat.add_zero] at p0
      have hL := lastN_in k hs.out
      have hE := Lib.hid (show lastN is (k + 1) = num is k by rw [lastN, if_neg (by omega)]; rfl)
      have HY := Lib.hid (fun h : inB (lastN is k + 1) (num is k) 100 = true => acTo_step hs.out h)
      have HN := Lib.hid (fun h : inB (lastN is k + 1) (num is k) 100 = false => acTo_no h n hlt)
      clear hl h0 hs
      generalize num is k = y at *
      generalize lastN is k = L at *
      rcases Bool.eq_false_or_eq_true (inB (L + 1) y 100) with hq | hq
      · have H := Lib.hid (HY.out hq)
        clear HY HN
        go_wp2_with fail
        refine (within_any _ _ _ _).mono ?_
        rw [hq]
        rintro e w1 ⟨rfl, rfl⟩
        go_wp2_with fail
        go_round
        case rel => exact ⟨k + 1, by omega, by go_num, by rw [hE.out], H⟩
        case measure => simp [intOf]; omega
      · have H := Lib.hid (HN.out hq)
        clear HY HN
        go_wp2_with fail
        refine (within_any _ _ _ _).mono ?_
        rw [hq]
        rintro e w1 ⟨rfl, rfl⟩
        go_wp2_with fail
        go_ret
        exact ⟨ret_bool H.out.symm, rfl⟩
    · obtain rfl : k = n := by omega
      go_wp2_with fail
      go_ret
      exact ⟨ret_bool hs.out.symm, rfl⟩
set_option maxHeartbeats 1600000 in
set_option maxRecDepth 100000 in
theorem impl_EngineOk (A : Option Addr) (n c : Nat) (I : Option Addr) (i d : Nat) (bs : List (List Int × List Int)) (is : List Int) (w : World) (h : EngS w w.heap.size A n I i d bs is) (hn : n ≤ 1048576) (hi : i ≤ 1048576) :
    Calls Try.prog 21 #[.agg #[.slice A n c, .slice I i d]] w fun e w' => e = .returned (.bool (engB bs n i is)) ∧ Below w.heap.size w w' := by
  have k0 := heap_alloc_new w (.cells #[.slice A n c, .slice I i d] 31)
  have hb0 : Below w.heap.size w (w.alloc (.cells #[.slice A n c, .slice I i d] 31)) := (Below.refl _ _).alloc (Nat.le_refl _) _
  have hs0 : w.heap.size < (w.alloc (.cells #[.slice A n c, .slice I i d] 31)).heap.size := by simp
  have h0 := h.later hb0
  have hlen := h.len
  clear h
  go_enter Try.func21, Try.ntmps21
  by_cases h4 : n = 4
  · have t4 : ((n : Int) != 4) = false := by simp [h4]
    have H4 := Lib.hid h4
    clear h4
    go_wp2_with fail
    generalize (w.alloc (.cells #[.slice A n c, .slice I i d] 31)) = w0 at *
    refine (impl_accountsOk I i d is w0 h0.accts hi).mono ?_
    rcases Bool.eq_false_or_eq_true (acTo is i) with ha | ha
    · rw [ha]
      rintro e w1 ⟨rfl, rfl⟩
      have x0 := cell_of_row w0 w.heap.size 0 _ _ (0, 0) k0
      simp at x0
      have HA := Lib.hid ha
      clear ha
      go_wp2_with fail
      go_loopw [18] (fun j wr => ∃ k : Nat, k ≤ n ∧ j = .int .i64 (k : Int) ∧ Hid (bkTo is i bs k = true) ∧ Below w0.heap.size w0 wr) (fun j _ => n - (intOf j).toNat)
      case atStart => exact ⟨0, Nat.zero_le _, rfl, rfl, Below.refl _ _⟩
      case round =>
        obtain ⟨k, hk, rfl, hs, hbel⟩ := hrel
        by_cases hlt : k < n
        · obtain ⟨x, hx⟩ : ∃ x, bs[k]? = some x := ⟨bs[k]'(by omega), List.getElem?_eq_getElem (by omega)⟩
          have hr := h0.later hbel
          obtain ⟨b, o, v1, v2, rfl, hbX, q0, q1, ⟨A1, n1, c1, rfl, l1, hn1, hA1, -⟩, ⟨A2, n2, c2, rfl, l2, hn2, hA2, -⟩⟩ := hr.books k x hx
          obtain ⟨za, zb⟩ := x
          have kr := (hbel.block _ hs0).trans k0
          have HB := Lib.hid (bkB_at (is := is) (m := i) l1.1 l2.1)
          have HX := Lib.hid hx
          have hba : Below wr.heap.size wr (wr.alloc (.cells #[.slice A1 n1 c1, .slice A2 n2 c2] 58)) := (Below.refl _ _).alloc (Nat.le_refl _) _
          have kb := heap_alloc_new wr (.cells #[.slice A1 n1 c1, .slice A2 n2 c2] 58)
          have hsr : w.heap.size < wr.heap.size := Nat.lt_of_lt_of_le hs0 hbel.size
          have kra := (hba.block _ hsr).trans kr
          have hsb : wr.heap.size < (wr.alloc (.cells #[.slice A1 n1 c1, .slice A2 n2 c2] 58)).heap.size := by simp
          have m1 := l1.later hba
          have m2 := l2.later hba
          have mi := hr.accts.later hba
          have hbel1 := below_later hbel hba
          clear hr l1 l2 hx x0 hbel kr k0 hba
          go_wp2_with fail
          generalize (wr.alloc (.cells #[.slice A1 n1 c1, .slice A2 n2 c2] 58)) = wb at *
          refine (impl_BookOk A1 n1 c1 A2 n2 c2 za zb wb m1 m2 hn1 hn2).mono ?_
          rcases Bool.eq_false_or_eq_true (bookB za n1 zb n2) with hk1 | hk1
          · rw [hk1]
            rintro e w2 ⟨rfl, hb2⟩
            have hsm := bookB_small hk1
            have K1 := Lib.hid hk1
            have y1 := cell_of_row w2 w.heap.size 1 _ _ (0, 0) ((hb2.block _ (Nat.lt_trans hsr hsb)).trans kra)
            have z0 := cell_of_row w2 wr.heap.size 0 _ _ (0, 0) ((hb2.block _ hsb).trans kb)
            have z1 := cell_of_row w2 wr.heap.size 1 _ _ (0, 0) ((hb2.block _ hsb).trans kb)
            simp at y1 z0 z1
            have m1 := m1.later hb2
            have m2 := m2.later hb2
            have mi := mi.later hb2
            have hbel2 := below_later hbel1 hb2
            clear hk1 hb2 kra kb hbel1 q0 q1
            go_wp2_with fail
            refine (impl_hasOrderOf A1 n1 c1 A2 n2 c2 I i d za zb is w2 m1 m2 mi hn1 hn2 (by omega) hi hA1 hA2).mono ?_
            rcases Bool.eq_false_or_eq_true (oweTo is i (za ++ zb) (n1 + n2)) with ho | ho
            · rw [ho]
              have H : Hid (engB bs n i is = false) := Lib.hid (engB_no3 (bkTo_no HX.out (by rw [HB.out, ho, Bool.not_true, Bool.and_false]) n hlt))
              rintro e w3 ⟨rfl, hb3⟩
              clear z0 z1 y1 ho
              go_wp2_with fail
              go_ret
              exact ⟨ret_bool H.out.symm, hb0.trans ((below_later hbel2 hb3).mono hb0.size)⟩
            · rw [ho]
              have H : Hid (bkTo is i bs (k + 1) = true) := Lib.hid (bkTo_step HX.out hs.out (by rw [HB.out, ho, K1.out]; rfl))
              rintro e w3 ⟨rfl, hb3⟩
              clear z0 z1 y1 ho
              go_wp2_with fail
              go_roundw
              case rel => exact ⟨k + 1, by omega, by go_num, H, below_later hbel2 hb3⟩
              case measure => simp [intOf]; omega
          · rw [hk1]
            have H : Hid (engB bs n i is = false) := Lib.hid (engB_no3 (bkTo_no HX.out (by rw [HB.out, hk1]; rfl) n hlt))
            rintro e w2 ⟨rfl, hb2⟩
            clear hk1 q0 q1 kra kb
            go_wp2_with fail
            go_ret
            exact ⟨ret_bool H.out.symm, hb0.trans ((below_later hbel1 hb2).mono hb0.size)⟩
        · obtain rfl : k = n := by omega
          have H := Lib.hid (engB_yes H4.out HA.out hs.out)
          clear hs
          go_wp2_with fail
          go_ret
          exact ⟨ret_bool H.out.symm, hb0.trans (hbel.mono hb0.size)⟩
    · rw [ha]
      have H : Hid (engB bs n i is = false) := Lib.hid (engB_no2 ha)
      rintro e w1 ⟨rfl, rfl⟩
      clear ha
      go_wp2_with fail
      go_ret
      exact ⟨ret_bool H.out.symm, hb0⟩
  · have t4 : ((n : Int) != 4) = true := by simp; omega
    have H : Hid (engB bs n i is = false) := Lib.hid (engB_no1 h4)
    go_wp2_with fail
    go_ret
    exact ⟨ret_bool H.out.symm, hb0⟩
theorem eng_l1Acct (n : Int) (w : World) :
    Calls Try.prog 51 #[.int .i64 n] w fun e w' => e = .returned (.bool (inB 1 n 100)) ∧ w = w' := by
  go_enter Try.func51, Try.ntmps51
  go_wp2_with fail
  refine (l1In_any _ _ _ _).mono ?_
  rintro e w1 ⟨rfl, rfl⟩
  go_wp2_with fail
  go_ret
  exact ⟨rfl, rfl⟩
set_option linter.unusedSimpArgs false in
set_option maxHeartbeats 3200000 in
set_option maxRecDepth 100000 in
theorem spec_EngineOk (A : Option Addr) (n c : Nat) (I : Option Addr) (i d : Nat) (bs : List (List Int × List Int)) (is : List Int) (w : World) (h : EngS w w.heap.size A n I i d bs is) (hn : n ≤ 1048576) (hi : i ≤ 1048576) :
    Calls Try.prog 20 #[.agg #[.slice A n c, .slice I i d]] w fun e w' => e = .returned (.bool (engB bs n i is)) ∧ Below w.heap.size w w' := by
  obtain ⟨i0, hi', hz0, hz1, hz2⟩ := info_parts ord_info
  have k0 := heap_alloc_new w (.cells #[.slice A n c, .slice I i d] 31)
  have hb0 : Below w.heap.size w (w.alloc (.cells #[.slice A n c, .slice I i d] 31)) := (Below.refl _ _).alloc (Nat.le_refl _) _
  have hs0 : w.heap.size < (w.alloc (.cells #[.slice A n c, .slice I i d] 31)).heap.size := by simp
  have h0 := h.later hb0
  have hlen := h.len
  clear h
  go_enter Try.func20, Try.ntmps20
  by_cases h4 : n = 4
  rotate_left
  · have t4 : ((n : Int) != 4) = true := by simp; omega
    have H : Hid (engB bs n i is = false) := Lib.hid (engB_no1 h4)
    go_wp2_with fail
    go_ret
    exact ⟨ret_bool H.out.symm, hb0⟩
  have t4 : ((n : Int) != 4) = false := by simp [h4]
  have H4 := Lib.hid h4
  clear h4
  by_cases h100 : i ≤ 100
  rotate_left
  · have H : Hid (engB bs n i is = false) := Lib.hid (engB_no2 (by
      rcases Bool.eq_false_or_eq_true (acTo is i) with ha | ha
      · exact absurd (acTo_len ha) h100
      · exact ha))
    go_wp2_with fail
    go_ret
    exact ⟨ret_bool H.out.symm, hb0⟩
  go_wp2_with fail
  generalize (w.alloc (.cells #[.slice A n c, .slice I i d] 31)) = w0 at *
  go_loopw [3] (fun j wr => ∃ k : Nat, k ≤ i ∧ j = .int .i64 (k : Int) ∧ Hid (acTo is k = true) ∧ Below w0.heap.size w0 wr) (fun j _ => i - (intOf j).toNat)
  case atStart => exact ⟨0, Nat.zero_le _, rfl, rfl, Below.refl _ _⟩
  case round =>
    obtain ⟨k, hk, rfl, hs, hbel⟩ := hrel
    have kr := (hbel.block _ hs0).trans k0
    have e1 := cell_of_row wr w.heap.size 1 _ _ (0, 0) kr
    simp at e1
    have hsr : w.heap.size < wr.heap.size := Nat.lt_of_lt_of_le hs0 hbel.size
    by_cases hlt : k < i
    · have hr := (h0.later hbel).accts
      obtain ⟨b, o, rfl, hb, hg⟩ := hr.get hlt
      have p0 := hg 0 (by omega)
      simp only [Nat.mul_one, Nat.add_zero] at p0
      obtain ⟨y, hy⟩ : ∃ y, num is k = y := ⟨_, rfl⟩
      rw [hy] at p0
      have HY0 := Lib.hid hy
      have yk : (0 ≤ (k : Int) ∧ (k : Int) < (i : Int)) = True := by simp; omega
      clear hg hy
      rcases Bool.eq_false_or_eq_true (inB 1 y 100) with hq | hq
      rotate_left
      · have H : Hid (engB bs n i is = false) := Lib.hid (engB_no2 (acTo_no (by
          have hL := lastN_in k hs.out
          have hq2 : ¬ (1 ≤ y ∧ y ≤ 100) := fun hh => by rw [inB_yes hh.1 hh.2] at hq; cases hq
          exact inB_no (by rw [HY0.out]; omega)) i hlt))
        clear hr kr
        go_wp2_with fail
        go_upto_region 6 with fail
        refine wp_region_held_drew (S := (fun w' => Below wr.heap.size wr w' ∧ w'.cell? ⟨w.heap.size, 1, none⟩ = some (.slice (some ⟨b, o, none⟩) i d) ∧ w'.cell? ⟨b, o + k, none⟩ = some (.int .i64 y))) (by kernel_rfl) ?hSq1xs (fun hHeld => ?restq1xs)
        case hSq1xs => ((first | assumption | ((((try dsimp only); repeat' apply And.intro) <;> (first | assumption | (refine below_later ?_ (by assumption); first | assumption | (simp only [*]; done) | (go_grown; done)) | (refine cell_later (by assumption) ?_; first | assumption | (simp only [*]; done) | (simp [go_sem]; done)) | (go_grown; done) | (simp [go_sem]; done))))))
        refine wpAnyH_take (i := 0) (oi := ?oiq1x1) (v := ?vq1x1) ?hiq1x1 (by kernel_rfl) (by kernel_rfl) (by kernel_rfl) ?hQq1x1 (Or.inl ⟨?hwq1x1, ?hyq1x1⟩) (by assumption) ?restq1x1
        case hiq1x1 => simp only [List.getElem?_toArray, List.getElem?_cons_succ, List.getElem?_cons_zero]; exact rfl
        case hQq1x1 => exact fun _ _ _ h => h
        case hwq1x1 => rfl
        case hyq1x1 => ((intro w hSw; (try dsimp only at hSw); go_simp) <;> with_reducible rfl)
        try simp only [Act.put, List.setIfInBounds_toArray, List.set_cons_zero, List.set_cons_succ]
        refine wpAnyH_take (i := 1) (oi := ?oiq1x2) (v := ?vq1x2) ?hiq1x2 (by kernel_rfl) (by kernel_rfl) (by kernel_rfl) ?hQq1x2 (Or.inl ⟨?hwq1x2, ?hyq1x2⟩) (by assumption) ?restq1x2
        case hiq1x2 => simp only [List.getElem?_toArray, List.getElem?_cons_succ, List.getElem?_cons_zero]; exact rfl
        case hQq1x2 => exact fun _ _ _ h => h
        case hwq1x2 => rfl
        case hyq1x2 => ((intro w hSw; (try dsimp only at hSw); go_simp) <;> with_reducible rfl)
        try simp only [Act.put, List.setIfInBounds_toArray, List.set_cons_zero, List.set_cons_succ]
        refine wpAnyH_take (i := 2) (oi := ?oiq1x3) (v := ?vq1x3) ?hiq1x3 (by kernel_rfl) (by kernel_rfl) (by kernel_rfl) ?hQq1x3 (Or.inl ⟨?hwq1x3, ?hyq1x3⟩) (by assumption) ?restq1x3
        case hiq1x3 => simp only [List.getElem?_toArray, List.getElem?_cons_succ, List.getElem?_cons_zero]; exact rfl
        case hQq1x3 => exact fun _ _ _ h => h
        case hwq1x3 => rfl
        case hyq1x3 => ((intro w hSw; (try dsimp only at hSw); go_simp) <;> with_reducible rfl)
        try simp only [Act.put, List.setIfInBounds_toArray, List.set_cons_zero, List.set_cons_succ]
        refine wpAnyH_take (i := 3) (oi := ?oiq1x4) (v := ?vq1x4) ?hiq1x4 (by kernel_rfl) (by kernel_rfl) (by kernel_rfl) ?hQq1x4 (Or.inl ⟨?hwq1x4, ?hyq1x4⟩) (by assumption) ?restq1x4
        case hiq1x4 => simp only [List.getElem?_toArray, List.getElem?_cons_succ, List.getElem?_cons_zero]; exact rfl
        case hQq1x4 => exact fun _ _ _ h => h
        case hwq1x4 => rfl
        case hyq1x4 => ((intro w hSw; (try dsimp only at hSw); go_simp) <;> with_reducible rfl)
        try simp only [Act.put, List.setIfInBounds_toArray, List.set_cons_zero, List.set_cons_succ]
        refine wpAnyH_take (i := 4) (oi := ?oiq1x5) (v := ?vq1x5) ?hiq1x5 (by kernel_rfl) (by kernel_rfl) (by kernel_rfl) ?hQq1x5 (Or.inl ⟨?hwq1x5, ?hyq1x5⟩) (by assumption) ?restq1x5
        case hiq1x5 => simp only [List.getElem?_toArray, List.getElem?_cons_succ, List.getElem?_cons_zero]; exact rfl
        case hQq1x5 => exact fun _ _ _ h => h
        case hwq1x5 => rfl
        case hyq1x5 => ((intro w hSw; (try dsimp only at hSw); go_simp) <;> with_reducible rfl)
        try simp only [Act.put, List.setIfInBounds_toArray, List.set_cons_zero, List.set_cons_succ]
        refine wpAnyH_ready (rs := [5]) (by kernel_rfl) (by simp) ?_
        refine AllReadyH.cons (o := ?oq1x6) ?hoq1x6 (fun K hK => ?stepq1x6) ?moreq1x6
        case hoq1x6 => simp only [List.getElem?_toArray, List.getElem?_cons_succ, List.getElem?_cons_zero]; exact rfl
        case moreq1x6 => exact AllReadyH.nil
        go_simp
        (go_at_call 51; refine (eng_l1Acct _ _).mono ?_; rw [hq]; rintro e w6 ⟨rfl, rfl⟩)
        refine hK.out _ _ ?hSq1x6 (fun hHeld => ?restq1x6)
        case hSq1x6 => ((first | assumption | ((((try dsimp only); repeat' apply And.intro) <;> (first | assumption | (refine below_later ?_ (by assumption); first | assumption | (simp only [*]; done) | (go_grown; done)) | (refine cell_later (by assumption) ?_; first | assumption | (simp only [*]; done) | (simp [go_sem]; done)) | (go_grown; done) | (simp [go_sem]; done))))))
        clear hK K
        try simp only [Act.put, List.setIfInBounds_toArray, List.set_cons_zero, List.set_cons_succ]
        refine wpAnyH_take (i := 6) (oi := ?oiq1x7) (v := ?vq1x7) ?hiq1x7 (by kernel_rfl) (by kernel_rfl) (by kernel_rfl) ?hQq1x7 (Or.inl ⟨?hwq1x7, ?hyq1x7⟩) (by assumption) ?restq1x7
        case hiq1x7 => simp only [List.getElem?_toArray, List.getElem?_cons_succ, List.getElem?_cons_zero]; exact rfl
        case hQq1x7 => exact fun _ _ _ h => h
        case hwq1x7 => rfl
        case hyq1x7 => ((intro w hSw; (try dsimp only at hSw); go_simp) <;> with_reducible rfl)
        try simp only [Act.put, List.setIfInBounds_toArray, List.set_cons_zero, List.set_cons_succ]
        refine wpAnyH_take (i := 7) (oi := ?oiq1x8) (v := ?vq1x8) ?hiq1x8 (by kernel_rfl) (by kernel_rfl) (by kernel_rfl) ?hQq1x8 (Or.inl ⟨?hwq1x8, ?hyq1x8⟩) (by assumption) ?restq1x8
        case hiq1x8 => simp only [List.getElem?_toArray, List.getElem?_cons_succ, List.getElem?_cons_zero]; exact rfl
        case hQq1x8 => exact fun _ _ _ h => h
        case hwq1x8 => rfl
        case hyq1x8 => ((intro w hSw; (try dsimp only at hSw); go_simp) <;> with_reducible rfl)
        try simp only [Act.put, List.setIfInBounds_toArray, List.set_cons_zero, List.set_cons_succ]
        refine wpAnyH_take (i := 8) (oi := ?oiq1x9) (v := _) ?hiq1x9 (by kernel_rfl) (by kernel_rfl) (by kernel_rfl) ?hQq1x9 (Or.inr ⟨?hwq1x9, rfl⟩) (by assumption) ?restq1x9
        case hiq1x9 => simp only [List.getElem?_toArray, List.getElem?_cons_succ, List.getElem?_cons_zero]; exact rfl
        case hQq1x9 => exact fun _ _ _ h => h
        case hwq1x9 => rfl
        try simp only [Act.put, List.setIfInBounds_toArray, List.set_cons_zero, List.set_cons_succ]
        refine wpAnyH_take (i := 9) (oi := ?oiq1x10) (v := _) ?hiq1x10 (by kernel_rfl) (by kernel_rfl) (by kernel_rfl) ?hQq1x10 (Or.inr ⟨?hwq1x10, rfl⟩) (by assumption) ?restq1x10
        case hiq1x10 => simp only [List.getElem?_toArray, List.getElem?_cons_succ, List.getElem?_cons_zero]; exact rfl
        case hQq1x10 => exact fun _ _ _ h => h
        case hwq1x10 => rfl
        try simp only [Act.put, List.setIfInBounds_toArray, List.set_cons_zero, List.set_cons_succ]
        refine wpAnyH_take (i := 10) (oi := ?oiq1x11) (v := _) ?hiq1x11 (by kernel_rfl) (by kernel_rfl) (by kernel_rfl) ?hQq1x11 (Or.inr ⟨?hwq1x11, rfl⟩) (by assumption) ?restq1x11
        case hiq1x11 => simp only [List.getElem?_toArray, List.getElem?_cons_succ, List.getElem?_cons_zero]; exact rfl
        case hQq1x11 => exact fun _ _ _ h => h
        case hwq1x11 => rfl
        try simp only [Act.put, List.setIfInBounds_toArray, List.set_cons_zero, List.set_cons_succ]
        refine wpAnyH_take (i := 11) (oi := ?oiq1x12) (v := _) ?hiq1x12 (by kernel_rfl) (by kernel_rfl) (by kernel_rfl) ?hQq1x12 (Or.inr ⟨?hwq1x12, rfl⟩) (by assumption) ?restq1x12
        case hiq1x12 => simp only [List.getElem?_toArray, List.getElem?_cons_succ, List.getElem?_cons_zero]; exact rfl
        case hQq1x12 => exact fun _ _ _ h => h
        case hwq1x12 => rfl
        try simp only [Act.put, List.setIfInBounds_toArray, List.set_cons_zero, List.set_cons_succ]
        refine wpAnyH_take (i := 12) (oi := ?oiq1x13) (v := _) ?hiq1x13 (by kernel_rfl) (by kernel_rfl) (by kernel_rfl) ?hQq1x13 (Or.inr ⟨?hwq1x13, rfl⟩) (by assumption) ?restq1x13
        case hiq1x13 => simp only [List.getElem?_toArray, List.getElem?_cons_succ, List.getElem?_cons_zero]; exact rfl
        case hQq1x13 => exact fun _ _ _ h => h
        case hwq1x13 => rfl
        try simp only [Act.put, List.setIfInBounds_toArray, List.set_cons_zero, List.set_cons_succ]
        refine wpAnyH_take (i := 13) (oi := ?oiq1x14) (v := _) ?hiq1x14 (by kernel_rfl) (by kernel_rfl) (by kernel_rfl) ?hQq1x14 (Or.inr ⟨?hwq1x14, rfl⟩) (by assumption) ?restq1x14
        case hiq1x14 => simp only [List.getElem?_toArray, List.getElem?_cons_succ, List.getElem?_cons_zero]; exact rfl
        case hQq1x14 => exact fun _ _ _ h => h
        case hwq1x14 => rfl
        try simp only [Act.put, List.setIfInBounds_toArray, List.set_cons_zero, List.set_cons_succ]
        refine wpAnyH_take (i := 14) (oi := ?oiq1x15) (v := _) ?hiq1x15 (by kernel_rfl) (by kernel_rfl) (by kernel_rfl) ?hQq1x15 (Or.inr ⟨?hwq1x15, rfl⟩) (by assumption) ?restq1x15
        case hiq1x15 => simp only [List.getElem?_toArray, List.getElem?_cons_succ, List.getElem?_cons_zero]; exact rfl
        case hQq1x15 => exact fun _ _ _ h => h
        case hwq1x15 => rfl
        try simp only [Act.put, List.setIfInBounds_toArray, List.set_cons_zero, List.set_cons_succ]
        refine wpAnyH_take (i := 15) (oi := ?oiq1x16) (v := _) ?hiq1x16 (by kernel_rfl) (by kernel_rfl) (by kernel_rfl) ?hQq1x16 (Or.inr ⟨?hwq1x16, rfl⟩) (by assumption) ?restq1x16
        case hiq1x16 => simp only [List.getElem?_toArray, List.getElem?_cons_succ, List.getElem?_cons_zero]; exact rfl
        case hQq1x16 => exact fun _ _ _ h => h
        case hwq1x16 => rfl
        try simp only [Act.put, List.setIfInBounds_toArray, List.set_cons_zero, List.set_cons_succ]
        refine wpAnyH_take (i := 16) (oi := ?oiq1x17) (v := _) ?hiq1x17 (by kernel_rfl) (by kernel_rfl) (by kernel_rfl) ?hQq1x17 (Or.inr ⟨?hwq1x17, rfl⟩) (by assumption) ?restq1x17
        case hiq1x17 => simp only [List.getElem?_toArray, List.getElem?_cons_succ, List.getElem?_cons_zero]; exact rfl
        case hQq1x17 => exact fun _ _ _ h => h
        case hwq1x17 => rfl
        try simp only [Act.put, List.setIfInBounds_toArray, List.set_cons_zero, List.set_cons_succ]
        refine wpAnyH_take (i := 17) (oi := ?oiq1x18) (v := _) ?hiq1x18 (by kernel_rfl) (by kernel_rfl) (by kernel_rfl) ?hQq1x18 (Or.inr ⟨?hwq1x18, rfl⟩) (by assumption) ?restq1x18
        case hiq1x18 => simp only [List.getElem?_toArray, List.getElem?_cons_succ, List.getElem?_cons_zero]; exact rfl
        case hQq1x18 => exact fun _ _ _ h => h
        case hwq1x18 => rfl
        try simp only [Act.put, List.setIfInBounds_toArray, List.set_cons_zero, List.set_cons_succ]
        refine wpAnyH_take (i := 18) (oi := ?oiq1x19) (v := _) ?hiq1x19 (by kernel_rfl) (by kernel_rfl) (by kernel_rfl) ?hQq1x19 (Or.inr ⟨?hwq1x19, rfl⟩) (by assumption) ?restq1x19
        case hiq1x19 => simp only [List.getElem?_toArray, List.getElem?_cons_succ, List.getElem?_cons_zero]; exact rfl
        case hQq1x19 => exact fun _ _ _ h => h
        case hwq1x19 => rfl
        try simp only [Act.put, List.setIfInBounds_toArray, List.set_cons_zero, List.set_cons_succ]
        refine wpAnyH_take (i := 19) (oi := ?oiq1x20) (v := _) ?hiq1x20 (by kernel_rfl) (by kernel_rfl) (by kernel_rfl) ?hQq1x20 (Or.inr ⟨?hwq1x20, rfl⟩) (by assumption) ?restq1x20
        case hiq1x20 => simp only [List.getElem?_toArray, List.getElem?_cons_succ, List.getElem?_cons_zero]; exact rfl
        case hQq1x20 => exact fun _ _ _ h => h
        case hwq1x20 => rfl
        try simp only [Act.put, List.setIfInBounds_toArray, List.set_cons_zero, List.set_cons_succ]
        refine wpAnyH_take (i := 20) (oi := ?oiq1x21) (v := _) ?hiq1x21 (by kernel_rfl) (by kernel_rfl) (by kernel_rfl) ?hQq1x21 (Or.inr ⟨?hwq1x21, rfl⟩) (by assumption) ?restq1x21
        case hiq1x21 => simp only [List.getElem?_toArray, List.getElem?_cons_succ, List.getElem?_cons_zero]; exact rfl
        case hQq1x21 => exact fun _ _ _ h => h
        case hwq1x21 => rfl
        try simp only [Act.put, List.setIfInBounds_toArray, List.set_cons_zero, List.set_cons_succ]
        refine wpAnyH_take (i := 21) (oi := ?oiq1x22) (v := _) ?hiq1x22 (by kernel_rfl) (by kernel_rfl) (by kernel_rfl) ?hQq1x22 (Or.inr ⟨?hwq1x22, rfl⟩) (by assumption) ?restq1x22
        case hiq1x22 => simp only [List.getElem?_toArray, List.getElem?_cons_succ, List.getElem?_cons_zero]; exact rfl
        case hQq1x22 => exact fun _ _ _ h => h
        case hwq1x22 => rfl
        try simp only [Act.put, List.setIfInBounds_toArray, List.set_cons_zero, List.set_cons_succ]
        refine wpAnyH_take (i := 22) (oi := ?oiq1x23) (v := _) ?hiq1x23 (by kernel_rfl) (by kernel_rfl) (by kernel_rfl) ?hQq1x23 (Or.inr ⟨?hwq1x23, rfl⟩) (by assumption) ?restq1x23
        case hiq1x23 => simp only [List.getElem?_toArray, List.getElem?_cons_succ, List.getElem?_cons_zero]; exact rfl
        case hQq1x23 => exact fun _ _ _ h => h
        case hwq1x23 => rfl
        try simp only [Act.put, List.setIfInBounds_toArray, List.set_cons_zero, List.set_cons_succ]
        refine wpAnyH_take (i := 23) (oi := ?oiq1x24) (v := _) ?hiq1x24 (by kernel_rfl) (by kernel_rfl) (by kernel_rfl) ?hQq1x24 (Or.inr ⟨?hwq1x24, rfl⟩) (by assumption) ?restq1x24
        case hiq1x24 => simp only [List.getElem?_toArray, List.getElem?_cons_succ, List.getElem?_cons_zero]; exact rfl
        case hQq1x24 => exact fun _ _ _ h => h
        case hwq1x24 => rfl
        try simp only [Act.put, List.setIfInBounds_toArray, List.set_cons_zero, List.set_cons_succ]
        refine wpAnyH_take (i := 24) (oi := ?oiq1x25) (v := ?vq1x25) ?hiq1x25 (by kernel_rfl) (by kernel_rfl) (by kernel_rfl) ?hQq1x25 (Or.inl ⟨?hwq1x25, ?hyq1x25⟩) (by assumption) ?restq1x25
        case hiq1x25 => simp only [List.getElem?_toArray, List.getElem?_cons_succ, List.getElem?_cons_zero]; exact rfl
        case hQq1x25 => exact fun _ _ _ h => h
        case hwq1x25 => rfl
        case hyq1x25 => ((intro w hSw; (try dsimp only at hSw); go_simp) <;> with_reducible rfl)
        try simp only [Act.put, List.setIfInBounds_toArray, List.set_cons_zero, List.set_cons_succ]
        refine wpAnyH_done (by kernel_rfl) ?_ _
        have hbr := hHeld.1
        have hbel := below_later hbel hbr
        clear hHeld hbr
        go_wp2_with fail
        go_ret
        exact ⟨ret_bool H.out.symm, hb0.trans (hbel.mono hb0.size)⟩
      rcases Nat.eq_zero_or_pos k with hk0 | hk0
      · have H : Hid (acTo is (k + 1) = true) := Lib.hid (acTo_step hs.out (by rw [HY0.out, lastN, if_pos hk0]; exact hq))
        have tk : (0 < (k : Int)) = False := by simp; omega
        have HK0 := Lib.hid hk0
        have tn : ¬ 0 < k := by omega
        clear hr kr hk0
        go_wp2_with fail
        go_upto_region 6 with fail
        refine wp_region_held_drew (S := (fun w' => Below wr.heap.size wr w' ∧ w'.cell? ⟨w.heap.size, 1, none⟩ = some (.slice (some ⟨b, o, none⟩) i d) ∧ w'.cell? ⟨b, o + k, none⟩ = some (.int .i64 y))) (by kernel_rfl) ?hSq2xs (fun hHeld => ?restq2xs)
        case hSq2xs => ((first | assumption | ((((try dsimp only); repeat' apply And.intro) <;> (first | assumption | (refine below_later ?_ (by assumption); first | assumption | (simp only [*]; done) | (go_grown; done)) | (refine cell_later (by assumption) ?_; first | assumption | (simp only [*]; done) | (simp [go_sem]; done)) | (go_grown; done) | (simp [go_sem]; done))))))
        refine wpAnyH_take (i := 0) (oi := ?oiq2x1) (v := ?vq2x1) ?hiq2x1 (by kernel_rfl) (by kernel_rfl) (by kernel_rfl) ?hQq2x1 (Or.inl ⟨?hwq2x1, ?hyq2x1⟩) (by assumption) ?restq2x1
        case hiq2x1 => simp only [List.getElem?_toArray, List.getElem?_cons_succ, List.getElem?_cons_zero]; exact rfl
        case hQq2x1 => exact fun _ _ _ h => h
        case hwq2x1 => rfl
        case hyq2x1 => ((intro w hSw; (try dsimp only at hSw); go_simp) <;> with_reducible rfl)
        try simp only [Act.put, List.setIfInBounds_toArray, List.set_cons_zero, List.set_cons_succ]
        refine wpAnyH_take (i := 1) (oi := ?oiq2x2) (v := ?vq2x2) ?hiq2x2 (by kernel_rfl) (by kernel_rfl) (by kernel_rfl) ?hQq2x2 (Or.inl ⟨?hwq2x2, ?hyq2x2⟩) (by assumption) ?restq2x2
        case hiq2x2 => simp only [List.getElem?_toArray, List.getElem?_cons_succ, List.getElem?_cons_zero]; exact rfl
        case hQq2x2 => exact fun _ _ _ h => h
        case hwq2x2 => rfl
        case hyq2x2 => ((intro w hSw; (try dsimp only at hSw); go_simp) <;> with_reducible rfl)
        try simp only [Act.put, List.setIfInBounds_toArray, List.set_cons_zero, List.set_cons_succ]
        refine wpAnyH_take (i := 2) (oi := ?oiq2x3) (v := ?vq2x3) ?hiq2x3 (by kernel_rfl) (by kernel_rfl) (by kernel_rfl) ?hQq2x3 (Or.inl ⟨?hwq2x3, ?hyq2x3⟩) (by assumption) ?restq2x3
        case hiq2x3 => simp only [List.getElem?_toArray, List.getElem?_cons_succ, List.getElem?_cons_zero]; exact rfl
        case hQq2x3 => exact fun _ _ _ h => h
        case hwq2x3 => rfl
        case hyq2x3 => ((intro w hSw; (try dsimp only at hSw); go_simp) <;> with_reducible rfl)
        try simp only [Act.put, List.setIfInBounds_toArray, List.set_cons_zero, List.set_cons_succ]
        refine wpAnyH_take (i := 3) (oi := ?oiq2x4) (v := ?vq2x4) ?hiq2x4 (by kernel_rfl) (by kernel_rfl) (by kernel_rfl) ?hQq2x4 (Or.inl ⟨?hwq2x4, ?hyq2x4⟩) (by assumption) ?restq2x4
        case hiq2x4 => simp only [List.getElem?_toArray, List.getElem?_cons_succ, List.getElem?_cons_zero]; exact rfl
        case hQq2x4 => exact fun _ _ _ h => h
        case hwq2x4 => rfl
        case hyq2x4 => ((intro w hSw; (try dsimp only at hSw); go_simp) <;> with_reducible rfl)
        try simp only [Act.put, List.setIfInBounds_toArray, List.set_cons_zero, List.set_cons_succ]
        refine wpAnyH_take (i := 4) (oi := ?oiq2x5) (v := ?vq2x5) ?hiq2x5 (by kernel_rfl) (by kernel_rfl) (by kernel_rfl) ?hQq2x5 (Or.inl ⟨?hwq2x5, ?hyq2x5⟩) (by assumption) ?restq2x5
        case hiq2x5 => simp only [List.getElem?_toArray, List.getElem?_cons_succ, List.getElem?_cons_zero]; exact rfl
        case hQq2x5 => exact fun _ _ _ h => h
        case hwq2x5 => rfl
        case hyq2x5 => ((intro w hSw; (try dsimp only at hSw); go_simp) <;> with_reducible rfl)
        try simp only [Act.put, List.setIfInBounds_toArray, List.set_cons_zero, List.set_cons_succ]
        refine wpAnyH_ready (rs := [5]) (by kernel_rfl) (by simp) ?_
        refine AllReadyH.cons (o := ?oq2x6) ?hoq2x6 (fun K hK => ?stepq2x6) ?moreq2x6
        case hoq2x6 => simp only [List.getElem?_toArray, List.getElem?_cons_succ, List.getElem?_cons_zero]; exact rfl
        case moreq2x6 => exact AllReadyH.nil
        go_simp
        (go_at_call 51; refine (eng_l1Acct _ _).mono ?_; rw [hq]; rintro e w6 ⟨rfl, rfl⟩)
        refine hK.out _ _ ?hSq2x6 (fun hHeld => ?restq2x6)
        case hSq2x6 => ((first | assumption | ((((try dsimp only); repeat' apply And.intro) <;> (first | assumption | (refine below_later ?_ (by assumption); first | assumption | (simp only [*]; done) | (go_grown; done)) | (refine cell_later (by assumption) ?_; first | assumption | (simp only [*]; done) | (simp [go_sem]; done)) | (go_grown; done) | (simp [go_sem]; done))))))
        clear hK K
        try simp only [Act.put, List.setIfInBounds_toArray, List.set_cons_zero, List.set_cons_succ]
        refine wpAnyH_take (i := 6) (oi := ?oiq2x7) (v := ?vq2x7) ?hiq2x7 (by kernel_rfl) (by kernel_rfl) (by kernel_rfl) ?hQq2x7 (Or.inl ⟨?hwq2x7, ?hyq2x7⟩) (by assumption) ?restq2x7
        case hiq2x7 => simp only [List.getElem?_toArray, List.getElem?_cons_succ, List.getElem?_cons_zero]; exact rfl
        case hQq2x7 => exact fun _ _ _ h => h
        case hwq2x7 => rfl
        case hyq2x7 => ((intro w hSw; (try dsimp only at hSw); go_simp) <;> with_reducible rfl)
        try simp only [Act.put, List.setIfInBounds_toArray, List.set_cons_zero, List.set_cons_succ]
        refine wpAnyH_take (i := 7) (oi := ?oiq2x8) (v := ?vq2x8) ?hiq2x8 (by kernel_rfl) (by kernel_rfl) (by kernel_rfl) ?hQq2x8 (Or.inl ⟨?hwq2x8, ?hyq2x8⟩) (by assumption) ?restq2x8
        case hiq2x8 => simp only [List.getElem?_toArray, List.getElem?_cons_succ, List.getElem?_cons_zero]; exact rfl
        case hQq2x8 => exact fun _ _ _ h => h
        case hwq2x8 => rfl
        case hyq2x8 => ((intro w hSw; (try dsimp only at hSw); go_simp) <;> with_reducible rfl)
        try simp only [Act.put, List.setIfInBounds_toArray, List.set_cons_zero, List.set_cons_succ]
        refine wpAnyH_take (i := 8) (oi := ?oiq2x9) (v := ?vq2x9) ?hiq2x9 (by kernel_rfl) (by kernel_rfl) (by kernel_rfl) ?hQq2x9 (Or.inl ⟨?hwq2x9, ?hyq2x9⟩) (by assumption) ?restq2x9
        case hiq2x9 => simp only [List.getElem?_toArray, List.getElem?_cons_succ, List.getElem?_cons_zero]; exact rfl
        case hQq2x9 => exact fun _ _ _ h => h
        case hwq2x9 => rfl
        case hyq2x9 => ((intro w hSw; (try dsimp only at hSw); go_simp) <;> with_reducible rfl)
        try simp only [Act.put, List.setIfInBounds_toArray, List.set_cons_zero, List.set_cons_succ]
        refine wpAnyH_take (i := 9) (oi := ?oiq2x10) (v := ?vq2x10) ?hiq2x10 (by kernel_rfl) (by kernel_rfl) (by kernel_rfl) ?hQq2x10 (Or.inl ⟨?hwq2x10, ?hyq2x10⟩) (by assumption) ?restq2x10
        case hiq2x10 => simp only [List.getElem?_toArray, List.getElem?_cons_succ, List.getElem?_cons_zero]; exact rfl
        case hQq2x10 => exact fun _ _ _ h => h
        case hwq2x10 => rfl
        case hyq2x10 => ((intro w hSw; (try dsimp only at hSw); go_simp) <;> with_reducible rfl)
        try simp only [Act.put, List.setIfInBounds_toArray, List.set_cons_zero, List.set_cons_succ]
        refine wpAnyH_take (i := 10) (oi := ?oiq2x11) (v := ?vq2x11) ?hiq2x11 (by kernel_rfl) (by kernel_rfl) (by kernel_rfl) ?hQq2x11 (Or.inl ⟨?hwq2x11, ?hyq2x11⟩) (by assumption) ?restq2x11
        case hiq2x11 => simp only [List.getElem?_toArray, List.getElem?_cons_succ, List.getElem?_cons_zero]; exact rfl
        case hQq2x11 => exact fun _ _ _ h => h
        case hwq2x11 => rfl
        case hyq2x11 => ((intro w hSw; (try dsimp only at hSw); go_simp) <;> with_reducible rfl)
        try simp only [Act.put, List.setIfInBounds_toArray, List.set_cons_zero, List.set_cons_succ]
        refine wpAnyH_take (i := 11) (oi := ?oiq2x12) (v := _) ?hiq2x12 (by kernel_rfl) (by kernel_rfl) (by kernel_rfl) ?hQq2x12 (Or.inr ⟨?hwq2x12, rfl⟩) (by assumption) ?restq2x12
        case hiq2x12 => simp only [List.getElem?_toArray, List.getElem?_cons_succ, List.getElem?_cons_zero]; exact rfl
        case hQq2x12 => exact fun _ _ _ h => h
        case hwq2x12 => rfl
        try simp only [Act.put, List.setIfInBounds_toArray, List.set_cons_zero, List.set_cons_succ]
        refine wpAnyH_take (i := 12) (oi := ?oiq2x13) (v := _) ?hiq2x13 (by kernel_rfl) (by kernel_rfl) (by kernel_rfl) ?hQq2x13 (Or.inr ⟨?hwq2x13, rfl⟩) (by assumption) ?restq2x13
        case hiq2x13 => simp only [List.getElem?_toArray, List.getElem?_cons_succ, List.getElem?_cons_zero]; exact rfl
        case hQq2x13 => exact fun _ _ _ h => h
        case hwq2x13 => rfl
        try simp only [Act.put, List.setIfInBounds_toArray, List.set_cons_zero, List.set_cons_succ]
        refine wpAnyH_take (i := 13) (oi := ?oiq2x14) (v := _) ?hiq2x14 (by kernel_rfl) (by kernel_rfl) (by kernel_rfl) ?hQq2x14 (Or.inr ⟨?hwq2x14, rfl⟩) (by assumption) ?restq2x14
        case hiq2x14 => simp only [List.getElem?_toArray, List.getElem?_cons_succ, List.getElem?_cons_zero]; exact rfl
        case hQq2x14 => exact fun _ _ _ h => h
        case hwq2x14 => rfl
        try simp only [Act.put, List.setIfInBounds_toArray, List.set_cons_zero, List.set_cons_succ]
        refine wpAnyH_take (i := 14) (oi := ?oiq2x15) (v := _) ?hiq2x15 (by kernel_rfl) (by kernel_rfl) (by kernel_rfl) ?hQq2x15 (Or.inr ⟨?hwq2x15, rfl⟩) (by assumption) ?restq2x15
        case hiq2x15 => simp only [List.getElem?_toArray, List.getElem?_cons_succ, List.getElem?_cons_zero]; exact rfl
        case hQq2x15 => exact fun _ _ _ h => h
        case hwq2x15 => rfl
        try simp only [Act.put, List.setIfInBounds_toArray, List.set_cons_zero, List.set_cons_succ]
        refine wpAnyH_take (i := 15) (oi := ?oiq2x16) (v := _) ?hiq2x16 (by kernel_rfl) (by kernel_rfl) (by kernel_rfl) ?hQq2x16 (Or.inr ⟨?hwq2x16, rfl⟩) (by assumption) ?restq2x16
        case hiq2x16 => simp only [List.getElem?_toArray, List.getElem?_cons_succ, List.getElem?_cons_zero]; exact rfl
        case hQq2x16 => exact fun _ _ _ h => h
        case hwq2x16 => rfl
        try simp only [Act.put, List.setIfInBounds_toArray, List.set_cons_zero, List.set_cons_succ]
        refine wpAnyH_take (i := 16) (oi := ?oiq2x17) (v := _) ?hiq2x17 (by kernel_rfl) (by kernel_rfl) (by kernel_rfl) ?hQq2x17 (Or.inr ⟨?hwq2x17, rfl⟩) (by assumption) ?restq2x17
        case hiq2x17 => simp only [List.getElem?_toArray, List.getElem?_cons_succ, List.getElem?_cons_zero]; exact rfl
        case hQq2x17 => exact fun _ _ _ h => h
        case hwq2x17 => rfl
        try simp only [Act.put, List.setIfInBounds_toArray, List.set_cons_zero, List.set_cons_succ]
        refine wpAnyH_take (i := 17) (oi := ?oiq2x18) (v := _) ?hiq2x18 (by kernel_rfl) (by kernel_rfl) (by kernel_rfl) ?hQq2x18 (Or.inr ⟨?hwq2x18, rfl⟩) (by assumption) ?restq2x18
        case hiq2x18 => simp only [List.getElem?_toArray, List.getElem?_cons_succ, List.getElem?_cons_zero]; exact rfl
        case hQq2x18 => exact fun _ _ _ h => h
        case hwq2x18 => rfl
        try simp only [Act.put, List.setIfInBounds_toArray, List.set_cons_zero, List.set_cons_succ]
        refine wpAnyH_take (i := 18) (oi := ?oiq2x19) (v := _) ?hiq2x19 (by kernel_rfl) (by kernel_rfl) (by kernel_rfl) ?hQq2x19 (Or.inr ⟨?hwq2x19, rfl⟩) (by assumption) ?restq2x19
        case hiq2x19 => simp only [List.getElem?_toArray, List.getElem?_cons_succ, List.getElem?_cons_zero]; exact rfl
        case hQq2x19 => exact fun _ _ _ h => h
        case hwq2x19 => rfl
        try simp only [Act.put, List.setIfInBounds_toArray, List.set_cons_zero, List.set_cons_succ]
        refine wpAnyH_take (i := 19) (oi := ?oiq2x20) (v := _) ?hiq2x20 (by kernel_rfl) (by kernel_rfl) (by kernel_rfl) ?hQq2x20 (Or.inr ⟨?hwq2x20, rfl⟩) (by assumption) ?restq2x20
        case hiq2x20 => simp only [List.getElem?_toArray, List.getElem?_cons_succ, List.getElem?_cons_zero]; exact rfl
        case hQq2x20 => exact fun _ _ _ h => h
        case hwq2x20 => rfl
        try simp only [Act.put, List.setIfInBounds_toArray, List.set_cons_zero, List.set_cons_succ]
        refine wpAnyH_take (i := 20) (oi := ?oiq2x21) (v := _) ?hiq2x21 (by kernel_rfl) (by kernel_rfl) (by kernel_rfl) ?hQq2x21 (Or.inr ⟨?hwq2x21, rfl⟩) (by assumption) ?restq2x21
        case hiq2x21 => simp only [List.getElem?_toArray, List.getElem?_cons_succ, List.getElem?_cons_zero]; exact rfl
        case hQq2x21 => exact fun _ _ _ h => h
        case hwq2x21 => rfl
        try simp only [Act.put, List.setIfInBounds_toArray, List.set_cons_zero, List.set_cons_succ]
        refine wpAnyH_take (i := 21) (oi := ?oiq2x22) (v := _) ?hiq2x22 (by kernel_rfl) (by kernel_rfl) (by kernel_rfl) ?hQq2x22 (Or.inr ⟨?hwq2x22, rfl⟩) (by assumption) ?restq2x22
        case hiq2x22 => simp only [List.getElem?_toArray, List.getElem?_cons_succ, List.getElem?_cons_zero]; exact rfl
        case hQq2x22 => exact fun _ _ _ h => h
        case hwq2x22 => rfl
        try simp only [Act.put, List.setIfInBounds_toArray, List.set_cons_zero, List.set_cons_succ]
        refine wpAnyH_take (i := 22) (oi := ?oiq2x23) (v := _) ?hiq2x23 (by kernel_rfl) (by kernel_rfl) (by kernel_rfl) ?hQq2x23 (Or.inr ⟨?hwq2x23, rfl⟩) (by assumption) ?restq2x23
        case hiq2x23 => simp only [List.getElem?_toArray, List.getElem?_cons_succ, List.getElem?_cons_zero]; exact rfl
        case hQq2x23 => exact fun _ _ _ h => h
        case hwq2x23 => rfl
        try simp only [Act.put, List.setIfInBounds_toArray, List.set_cons_zero, List.set_cons_succ]
        refine wpAnyH_take (i := 23) (oi := ?oiq2x24) (v := ?vq2x24) ?hiq2x24 (by kernel_rfl) (by kernel_rfl) (by kernel_rfl) ?hQq2x24 (Or.inl ⟨?hwq2x24, ?hyq2x24⟩) (by assumption) ?restq2x24
        case hiq2x24 => simp only [List.getElem?_toArray, List.getElem?_cons_succ, List.getElem?_cons_zero]; exact rfl
        case hQq2x24 => exact fun _ _ _ h => h
        case hwq2x24 => rfl
        case hyq2x24 => ((intro w hSw; (try dsimp only at hSw); go_simp) <;> with_reducible rfl)
        try simp only [Act.put, List.setIfInBounds_toArray, List.set_cons_zero, List.set_cons_succ]
        refine wpAnyH_take (i := 24) (oi := ?oiq2x25) (v := ?vq2x25) ?hiq2x25 (by kernel_rfl) (by kernel_rfl) (by kernel_rfl) ?hQq2x25 (Or.inl ⟨?hwq2x25, ?hyq2x25⟩) (by assumption) ?restq2x25
        case hiq2x25 => simp only [List.getElem?_toArray, List.getElem?_cons_succ, List.getElem?_cons_zero]; exact rfl
        case hQq2x25 => exact fun _ _ _ h => h
        case hwq2x25 => rfl
        case hyq2x25 => ((intro w hSw; (try dsimp only at hSw); go_simp) <;> with_reducible rfl)
        try simp only [Act.put, List.setIfInBounds_toArray, List.set_cons_zero, List.set_cons_succ]
        refine wpAnyH_done (by kernel_rfl) ?_ _
        have hbr := hHeld.1
        have hbel := below_later hbel hbr
        clear hHeld hbr
        go_wp2_with fail
        go_roundw
        case rel => exact ⟨k + 1, by omega, by go_num, H, hbel⟩
        case measure => simp [intOf]; omega
      · obtain ⟨q, hkq⟩ : ∃ q, q + 1 = k := ⟨k - 1, by omega⟩
        obtain ⟨b', o', e', hb', hg⟩ := hr.get (k := q) (by omega)
        injection e' with e'
        injection e' with e1' e2'
        subst e1' e2'
        have p1 := hg 0 (by omega)
        simp only [Nat.mul_one, Nat.add_zero] at p1
        obtain ⟨L, hL0⟩ : ∃ L, num is q = L := ⟨_, rfl⟩
        rw [hL0] at p1
        have HL0 : Hid (lastN is k = L) := Lib.hid (by rw [lastN, if_neg (by omega), ← hL0, show k - 1 = q by omega])
        have hL := lastN_in k hs.out
        rw [HL0.out] at hL
        have tk : (0 < (k : Int)) = True := by simp; omega
        have wq : IntKind.i64.wrap ((k : Int) - 1) = (q : Int) := by rw [IntKind.wrap_i64]; omega
        have hqi : q < i := by omega
        have yq : (0 ≤ (q : Int) ∧ (q : Int) < (i : Int)) = True := by simp; omega
        clear hr kr hg hL0
        by_cases hLy : y ≤ L
        · have H : Hid (engB bs n i is = false) := Lib.hid (engB_no2 (acTo_no (by rw [HY0.out, HL0.out]; exact inB_no (by omega)) i hlt))
          go_wp2_with fail
          go_upto_region 6 with fail
          refine wp_region_held_drew (S := (fun w' => Below wr.heap.size wr w' ∧ w'.cell? ⟨w.heap.size, 1, none⟩ = some (.slice (some ⟨b, o, none⟩) i d) ∧ w'.cell? ⟨b, o + k, none⟩ = some (.int .i64 y) ∧ w'.cell? ⟨b, o + q, none⟩ = some (.int .i64 L))) (by kernel_rfl) ?hSq3xs (fun hHeld => ?restq3xs)
          case hSq3xs => ((first | assumption | ((((try dsimp only); repeat' apply And.intro) <;> (first | assumption | (refine below_later ?_ (by assumption); first | assumption | (simp only [*]; done) | (go_grown; done)) | (refine cell_later (by assumption) ?_; first | assumption | (simp only [*]; done) | (simp [go_sem]; done)) | (go_grown; done) | (simp [go_sem]; done))))))
          refine wpAnyH_take (i := 0) (oi := ?oiq3x1) (v := ?vq3x1) ?hiq3x1 (by kernel_rfl) (by kernel_rfl) (by kernel_rfl) ?hQq3x1 (Or.inl ⟨?hwq3x1, ?hyq3x1⟩) (by assumption) ?restq3x1
          case hiq3x1 => simp only [List.getElem?_toArray, List.getElem?_cons_succ, List.getElem?_cons_zero]; exact rfl
          case hQq3x1 => exact fun _ _ _ h => h
          case hwq3x1 => rfl
          case hyq3x1 => ((intro w hSw; (try dsimp only at hSw); go_simp) <;> with_reducible rfl)
          try simp only [Act.put, List.setIfInBounds_toArray, List.set_cons_zero, List.set_cons_succ]
          refine wpAnyH_take (i := 1) (oi := ?oiq3x2) (v := ?vq3x2) ?hiq3x2 (by kernel_rfl) (by kernel_rfl) (by kernel_rfl) ?hQq3x2 (Or.inl ⟨?hwq3x2, ?hyq3x2⟩) (by assumption) ?restq3x2
          case hiq3x2 => simp only [List.getElem?_toArray, List.getElem?_cons_succ, List.getElem?_cons_zero]; exact rfl
          case hQq3x2 => exact fun _ _ _ h => h
          case hwq3x2 => rfl
          case hyq3x2 => ((intro w hSw; (try dsimp only at hSw); go_simp) <;> with_reducible rfl)
          try simp only [Act.put, List.setIfInBounds_toArray, List.set_cons_zero, List.set_cons_succ]
          refine wpAnyH_take (i := 2) (oi := ?oiq3x3) (v := ?vq3x3) ?hiq3x3 (by kernel_rfl) (by kernel_rfl) (by kernel_rfl) ?hQq3x3 (Or.inl ⟨?hwq3x3, ?hyq3x3⟩) (by assumption) ?restq3x3
          case hiq3x3 => simp only [List.getElem?_toArray, List.getElem?_cons_succ, List.getElem?_cons_zero]; exact rfl
          case hQq3x3 => exact fun _ _ _ h => h
          case hwq3x3 => rfl
          case hyq3x3 => ((intro w hSw; (try dsimp only at hSw); go_simp) <;> with_reducible rfl)
          try simp only [Act.put, List.setIfInBounds_toArray, List.set_cons_zero, List.set_cons_succ]
          refine wpAnyH_take (i := 3) (oi := ?oiq3x4) (v := ?vq3x4) ?hiq3x4 (by kernel_rfl) (by kernel_rfl) (by kernel_rfl) ?hQq3x4 (Or.inl ⟨?hwq3x4, ?hyq3x4⟩) (by assumption) ?restq3x4
          case hiq3x4 => simp only [List.getElem?_toArray, List.getElem?_cons_succ, List.getElem?_cons_zero]; exact rfl
          case hQq3x4 => exact fun _ _ _ h => h
          case hwq3x4 => rfl
          case hyq3x4 => ((intro w hSw; (try dsimp only at hSw); go_simp) <;> with_reducible rfl)
          try simp only [Act.put, List.setIfInBounds_toArray, List.set_cons_zero, List.set_cons_succ]
          refine wpAnyH_take (i := 4) (oi := ?oiq3x5) (v := ?vq3x5) ?hiq3x5 (by kernel_rfl) (by kernel_rfl) (by kernel_rfl) ?hQq3x5 (Or.inl ⟨?hwq3x5, ?hyq3x5⟩) (by assumption) ?restq3x5
          case hiq3x5 => simp only [List.getElem?_toArray, List.getElem?_cons_succ, List.getElem?_cons_zero]; exact rfl
          case hQq3x5 => exact fun _ _ _ h => h
          case hwq3x5 => rfl
          case hyq3x5 => ((intro w hSw; (try dsimp only at hSw); go_simp) <;> with_reducible rfl)
          try simp only [Act.put, List.setIfInBounds_toArray, List.set_cons_zero, List.set_cons_succ]
          refine wpAnyH_ready (rs := [5]) (by kernel_rfl) (by simp) ?_
          refine AllReadyH.cons (o := ?oq3x6) ?hoq3x6 (fun K hK => ?stepq3x6) ?moreq3x6
          case hoq3x6 => simp only [List.getElem?_toArray, List.getElem?_cons_succ, List.getElem?_cons_zero]; exact rfl
          case moreq3x6 => exact AllReadyH.nil
          go_simp
          (go_at_call 51; refine (eng_l1Acct _ _).mono ?_; rw [hq]; rintro e w6 ⟨rfl, rfl⟩)
          refine hK.out _ _ ?hSq3x6 (fun hHeld => ?restq3x6)
          case hSq3x6 => ((first | assumption | ((((try dsimp only); repeat' apply And.intro) <;> (first | assumption | (refine below_later ?_ (by assumption); first | assumption | (simp only [*]; done) | (go_grown; done)) | (refine cell_later (by assumption) ?_; first | assumption | (simp only [*]; done) | (simp [go_sem]; done)) | (go_grown; done) | (simp [go_sem]; done))))))
          clear hK K
          try simp only [Act.put, List.setIfInBounds_toArray, List.set_cons_zero, List.set_cons_succ]
          refine wpAnyH_take (i := 6) (oi := ?oiq3x7) (v := ?vq3x7) ?hiq3x7 (by kernel_rfl) (by kernel_rfl) (by kernel_rfl) ?hQq3x7 (Or.inl ⟨?hwq3x7, ?hyq3x7⟩) (by assumption) ?restq3x7
          case hiq3x7 => simp only [List.getElem?_toArray, List.getElem?_cons_succ, List.getElem?_cons_zero]; exact rfl
          case hQq3x7 => exact fun _ _ _ h => h
          case hwq3x7 => rfl
          case hyq3x7 => ((intro w hSw; (try dsimp only at hSw); go_simp) <;> with_reducible rfl)
          try simp only [Act.put, List.setIfInBounds_toArray, List.set_cons_zero, List.set_cons_succ]
          refine wpAnyH_take (i := 7) (oi := ?oiq3x8) (v := ?vq3x8) ?hiq3x8 (by kernel_rfl) (by kernel_rfl) (by kernel_rfl) ?hQq3x8 (Or.inl ⟨?hwq3x8, ?hyq3x8⟩) (by assumption) ?restq3x8
          case hiq3x8 => simp only [List.getElem?_toArray, List.getElem?_cons_succ, List.getElem?_cons_zero]; exact rfl
          case hQq3x8 => exact fun _ _ _ h => h
          case hwq3x8 => rfl
          case hyq3x8 => ((intro w hSw; (try dsimp only at hSw); go_simp) <;> with_reducible rfl)
          try simp only [Act.put, List.setIfInBounds_toArray, List.set_cons_zero, List.set_cons_succ]
          refine wpAnyH_take (i := 8) (oi := ?oiq3x9) (v := ?vq3x9) ?hiq3x9 (by kernel_rfl) (by kernel_rfl) (by kernel_rfl) ?hQq3x9 (Or.inl ⟨?hwq3x9, ?hyq3x9⟩) (by assumption) ?restq3x9
          case hiq3x9 => simp only [List.getElem?_toArray, List.getElem?_cons_succ, List.getElem?_cons_zero]; exact rfl
          case hQq3x9 => exact fun _ _ _ h => h
          case hwq3x9 => rfl
          case hyq3x9 => ((intro w hSw; (try dsimp only at hSw); go_simp) <;> with_reducible rfl)
          try simp only [Act.put, List.setIfInBounds_toArray, List.set_cons_zero, List.set_cons_succ]
          refine wpAnyH_take (i := 9) (oi := ?oiq3x10) (v := ?vq3x10) ?hiq3x10 (by kernel_rfl) (by kernel_rfl) (by kernel_rfl) ?hQq3x10 (Or.inl ⟨?hwq3x10, ?hyq3x10⟩) (by assumption) ?restq3x10
          case hiq3x10 => simp only [List.getElem?_toArray, List.getElem?_cons_succ, List.getElem?_cons_zero]; exact rfl
          case hQq3x10 => exact fun _ _ _ h => h
          case hwq3x10 => rfl
          case hyq3x10 => ((intro w hSw; (try dsimp only at hSw); go_simp) <;> with_reducible rfl)
          try simp only [Act.put, List.setIfInBounds_toArray, List.set_cons_zero, List.set_cons_succ]
          refine wpAnyH_take (i := 10) (oi := ?oiq3x11) (v := ?vq3x11) ?hiq3x11 (by kernel_rfl) (by kernel_rfl) (by kernel_rfl) ?hQq3x11 (Or.inl ⟨?hwq3x11, ?hyq3x11⟩) (by assumption) ?restq3x11
          case hiq3x11 => simp only [List.getElem?_toArray, List.getElem?_cons_succ, List.getElem?_cons_zero]; exact rfl
          case hQq3x11 => exact fun _ _ _ h => h
          case hwq3x11 => rfl
          case hyq3x11 => ((intro w hSw; (try dsimp only at hSw); go_simp) <;> with_reducible rfl)
          try simp only [Act.put, List.setIfInBounds_toArray, List.set_cons_zero, List.set_cons_succ]
          refine wpAnyH_take (i := 11) (oi := ?oiq3x12) (v := ?vq3x12) ?hiq3x12 (by kernel_rfl) (by kernel_rfl) (by kernel_rfl) ?hQq3x12 (Or.inl ⟨?hwq3x12, ?hyq3x12⟩) (by assumption) ?restq3x12
          case hiq3x12 => simp only [List.getElem?_toArray, List.getElem?_cons_succ, List.getElem?_cons_zero]; exact rfl
          case hQq3x12 => exact fun _ _ _ h => h
          case hwq3x12 => rfl
          case hyq3x12 => ((intro w hSw; (try dsimp only at hSw); go_simp) <;> with_reducible rfl)
          try simp only [Act.put, List.setIfInBounds_toArray, List.set_cons_zero, List.set_cons_succ]
          refine wpAnyH_take (i := 12) (oi := ?oiq3x13) (v := ?vq3x13) ?hiq3x13 (by kernel_rfl) (by kernel_rfl) (by kernel_rfl) ?hQq3x13 (Or.inl ⟨?hwq3x13, ?hyq3x13⟩) (by assumption) ?restq3x13
          case hiq3x13 => simp only [List.getElem?_toArray, List.getElem?_cons_succ, List.getElem?_cons_zero]; exact rfl
          case hQq3x13 => exact fun _ _ _ h => h
          case hwq3x13 => rfl
          case hyq3x13 => ((intro w hSw; (try dsimp only at hSw); go_simp) <;> with_reducible rfl)
          try simp only [Act.put, List.setIfInBounds_toArray, List.set_cons_zero, List.set_cons_succ]
          refine wpAnyH_take (i := 13) (oi := ?oiq3x14) (v := ?vq3x14) ?hiq3x14 (by kernel_rfl) (by kernel_rfl) (by kernel_rfl) ?hQq3x14 (Or.inl ⟨?hwq3x14, ?hyq3x14⟩) (by assumption) ?restq3x14
          case hiq3x14 => simp only [List.getElem?_toArray, List.getElem?_cons_succ, List.getElem?_cons_zero]; exact rfl
          case hQq3x14 => exact fun _ _ _ h => h
          case hwq3x14 => rfl
          case hyq3x14 => ((intro w hSw; (try dsimp only at hSw); go_simp) <;> with_reducible rfl)
          try simp only [Act.put, List.setIfInBounds_toArray, List.set_cons_zero, List.set_cons_succ]
          refine wpAnyH_take (i := 14) (oi := ?oiq3x15) (v := ?vq3x15) ?hiq3x15 (by kernel_rfl) (by kernel_rfl) (by kernel_rfl) ?hQq3x15 (Or.inl ⟨?hwq3x15, ?hyq3x15⟩) (by assumption) ?restq3x15
          case hiq3x15 => simp only [List.getElem?_toArray, List.getElem?_cons_succ, List.getElem?_cons_zero]; exact rfl
          case hQq3x15 => exact fun _ _ _ h => h
          case hwq3x15 => rfl
          case hyq3x15 => ((intro w hSw; (try dsimp only at hSw); go_simp) <;> with_reducible rfl)
          try simp only [Act.put, List.setIfInBounds_toArray, List.set_cons_zero, List.set_cons_succ]
          refine wpAnyH_take (i := 15) (oi := ?oiq3x16) (v := ?vq3x16) ?hiq3x16 (by kernel_rfl) (by kernel_rfl) (by kernel_rfl) ?hQq3x16 (Or.inl ⟨?hwq3x16, ?hyq3x16⟩) (by assumption) ?restq3x16
          case hiq3x16 => simp only [List.getElem?_toArray, List.getElem?_cons_succ, List.getElem?_cons_zero]; exact rfl
          case hQq3x16 => exact fun _ _ _ h => h
          case hwq3x16 => rfl
          case hyq3x16 => ((intro w hSw; (try dsimp only at hSw); go_simp) <;> with_reducible rfl)
          try simp only [Act.put, List.setIfInBounds_toArray, List.set_cons_zero, List.set_cons_succ]
          refine wpAnyH_take (i := 16) (oi := ?oiq3x17) (v := ?vq3x17) ?hiq3x17 (by kernel_rfl) (by kernel_rfl) (by kernel_rfl) ?hQq3x17 (Or.inl ⟨?hwq3x17, ?hyq3x17⟩) (by assumption) ?restq3x17
          case hiq3x17 => simp only [List.getElem?_toArray, List.getElem?_cons_succ, List.getElem?_cons_zero]; exact rfl
          case hQq3x17 => exact fun _ _ _ h => h
          case hwq3x17 => rfl
          case hyq3x17 => ((intro w hSw; (try dsimp only at hSw); go_simp) <;> with_reducible rfl)
          try simp only [Act.put, List.setIfInBounds_toArray, List.set_cons_zero, List.set_cons_succ]
          refine wpAnyH_take (i := 17) (oi := ?oiq3x18) (v := ?vq3x18) ?hiq3x18 (by kernel_rfl) (by kernel_rfl) (by kernel_rfl) ?hQq3x18 (Or.inl ⟨?hwq3x18, ?hyq3x18⟩) (by assumption) ?restq3x18
          case hiq3x18 => simp only [List.getElem?_toArray, List.getElem?_cons_succ, List.getElem?_cons_zero]; exact rfl
          case hQq3x18 => exact fun _ _ _ h => h
          case hwq3x18 => rfl
          case hyq3x18 => ((intro w hSw; (try dsimp only at hSw); go_simp) <;> with_reducible rfl)
          try simp only [Act.put, List.setIfInBounds_toArray, List.set_cons_zero, List.set_cons_succ]
          refine wpAnyH_take (i := 18) (oi := ?oiq3x19) (v := ?vq3x19) ?hiq3x19 (by kernel_rfl) (by kernel_rfl) (by kernel_rfl) ?hQq3x19 (Or.inl ⟨?hwq3x19, ?hyq3x19⟩) (by assumption) ?restq3x19
          case hiq3x19 => simp only [List.getElem?_toArray, List.getElem?_cons_succ, List.getElem?_cons_zero]; exact rfl
          case hQq3x19 => exact fun _ _ _ h => h
          case hwq3x19 => rfl
          case hyq3x19 => ((intro w hSw; (try dsimp only at hSw); go_simp) <;> with_reducible rfl)
          try simp only [Act.put, List.setIfInBounds_toArray, List.set_cons_zero, List.set_cons_succ]
          refine wpAnyH_take (i := 19) (oi := ?oiq3x20) (v := ?vq3x20) ?hiq3x20 (by kernel_rfl) (by kernel_rfl) (by kernel_rfl) ?hQq3x20 (Or.inl ⟨?hwq3x20, ?hyq3x20⟩) (by assumption) ?restq3x20
          case hiq3x20 => simp only [List.getElem?_toArray, List.getElem?_cons_succ, List.getElem?_cons_zero]; exact rfl
          case hQq3x20 => exact fun _ _ _ h => h
          case hwq3x20 => rfl
          case hyq3x20 => ((intro w hSw; (try dsimp only at hSw); go_simp) <;> with_reducible rfl)
          try simp only [Act.put, List.setIfInBounds_toArray, List.set_cons_zero, List.set_cons_succ]
          refine wpAnyH_take (i := 20) (oi := ?oiq3x21) (v := ?vq3x21) ?hiq3x21 (by kernel_rfl) (by kernel_rfl) (by kernel_rfl) ?hQq3x21 (Or.inl ⟨?hwq3x21, ?hyq3x21⟩) (by assumption) ?restq3x21
          case hiq3x21 => simp only [List.getElem?_toArray, List.getElem?_cons_succ, List.getElem?_cons_zero]; exact rfl
          case hQq3x21 => exact fun _ _ _ h => h
          case hwq3x21 => rfl
          case hyq3x21 => ((intro w hSw; (try dsimp only at hSw); go_simp) <;> with_reducible rfl)
          try simp only [Act.put, List.setIfInBounds_toArray, List.set_cons_zero, List.set_cons_succ]
          refine wpAnyH_take (i := 21) (oi := ?oiq3x22) (v := ?vq3x22) ?hiq3x22 (by kernel_rfl) (by kernel_rfl) (by kernel_rfl) ?hQq3x22 (Or.inl ⟨?hwq3x22, ?hyq3x22⟩) (by assumption) ?restq3x22
          case hiq3x22 => simp only [List.getElem?_toArray, List.getElem?_cons_succ, List.getElem?_cons_zero]; exact rfl
          case hQq3x22 => exact fun _ _ _ h => h
          case hwq3x22 => rfl
          case hyq3x22 => ((intro w hSw; (try dsimp only at hSw); go_simp) <;> with_reducible rfl)
          try simp only [Act.put, List.setIfInBounds_toArray, List.set_cons_zero, List.set_cons_succ]
          refine wpAnyH_take (i := 22) (oi := ?oiq3x23) (v := ?vq3x23) ?hiq3x23 (by kernel_rfl) (by kernel_rfl) (by kernel_rfl) ?hQq3x23 (Or.inl ⟨?hwq3x23, ?hyq3x23⟩) (by assumption) ?restq3x23
          case hiq3x23 => simp only [List.getElem?_toArray, List.getElem?_cons_succ, List.getElem?_cons_zero]; exact rfl
          case hQq3x23 => exact fun _ _ _ h => h
          case hwq3x23 => rfl
          case hyq3x23 => ((intro w hSw; (try dsimp only at hSw); go_simp) <;> with_reducible rfl)
          try simp only [Act.put, List.setIfInBounds_toArray, List.set_cons_zero, List.set_cons_succ]
          refine wpAnyH_take (i := 23) (oi := ?oiq3x24) (v := ?vq3x24) ?hiq3x24 (by kernel_rfl) (by kernel_rfl) (by kernel_rfl) ?hQq3x24 (Or.inl ⟨?hwq3x24, ?hyq3x24⟩) (by assumption) ?restq3x24
          case hiq3x24 => simp only [List.getElem?_toArray, List.getElem?_cons_succ, List.getElem?_cons_zero]; exact rfl
          case hQq3x24 => exact fun _ _ _ h => h
          case hwq3x24 => rfl
          case hyq3x24 => ((intro w hSw; (try dsimp only at hSw); go_simp) <;> with_reducible rfl)
          try simp only [Act.put, List.setIfInBounds_toArray, List.set_cons_zero, List.set_cons_succ]
          refine wpAnyH_take (i := 24) (oi := ?oiq3x25) (v := ?vq3x25) ?hiq3x25 (by kernel_rfl) (by kernel_rfl) (by kernel_rfl) ?hQq3x25 (Or.inl ⟨?hwq3x25, ?hyq3x25⟩) (by assumption) ?restq3x25
          case hiq3x25 => simp only [List.getElem?_toArray, List.getElem?_cons_succ, List.getElem?_cons_zero]; exact rfl
          case hQq3x25 => exact fun _ _ _ h => h
          case hwq3x25 => rfl
          case hyq3x25 => ((intro w hSw; (try dsimp only at hSw); go_simp) <;> with_reducible rfl)
          try simp only [Act.put, List.setIfInBounds_toArray, List.set_cons_zero, List.set_cons_succ]
          refine wpAnyH_done (by kernel_rfl) ?_ _
          have hbr := hHeld.1
          have hbel := below_later hbel hbr
          clear hHeld hbr
          go_wp2_with fail
          go_ret
          exact ⟨ret_bool H.out.symm, hb0.trans (hbel.mono hb0.size)⟩
        · have H : Hid (acTo is (k + 1) = true) := Lib.hid (acTo_step hs.out (by
            rw [HY0.out, HL0.out]
            have := inB_iff.1 hq
            exact inB_yes (by omega) this.2))
          go_wp2_with fail
          go_upto_region 6 with fail
          refine wp_region_held_drew (S := (fun w' => Below wr.heap.size wr w' ∧ w'.cell? ⟨w.heap.size, 1, none⟩ = some (.slice (some ⟨b, o, none⟩) i d) ∧ w'.cell? ⟨b, o + k, none⟩ = some (.int .i64 y) ∧ w'.cell? ⟨b, o + q, none⟩ = some (.int .i64 L))) (by kernel_rfl) ?hSq4xs (fun hHeld => ?restq4xs)
          case hSq4xs => ((first | assumption | ((((try dsimp only); repeat' apply And.intro) <;> (first | assumption | (refine below_later ?_ (by assumption); first | assumption | (simp only [*]; done) | (go_grown; done)) | (refine cell_later (by assumption) ?_; first | assumption | (simp only [*]; done) | (simp [go_sem]; done)) | (go_grown; done) | (simp [go_sem]; done))))))
          refine wpAnyH_take (i := 0) (oi := ?oiq4x1) (v := ?vq4x1) ?hiq4x1 (by kernel_rfl) (by kernel_rfl) (by kernel_rfl) ?hQq4x1 (Or.inl ⟨?hwq4x1, ?hyq4x1⟩) (by assumption) ?restq4x1
          case hiq4x1 => simp only [List.getElem?_toArray, List.getElem?_cons_succ, List.getElem?_cons_zero]; exact rfl
          case hQq4x1 => exact fun _ _ _ h => h
          case hwq4x1 => rfl
          case hyq4x1 => ((intro w hSw; (try dsimp only at hSw); go_simp) <;> with_reducible rfl)
          try simp only [Act.put, List.setIfInBounds_toArray, List.set_cons_zero, List.set_cons_succ]
          refine wpAnyH_take (i := 1) (oi := ?oiq4x2) (v := ?vq4x2) ?hiq4x2 (by kernel_rfl) (by kernel_rfl) (by kernel_rfl) ?hQq4x2 (Or.inl ⟨?hwq4x2, ?hyq4x2⟩) (by assumption) ?restq4x2
          case hiq4x2 => simp only [List.getElem?_toArray, List.getElem?_cons_succ, List.getElem?_cons_zero]; exact rfl
          case hQq4x2 => exact fun _ _ _ h => h
          case hwq4x2 => rfl
          case hyq4x2 => ((intro w hSw; (try dsimp only at hSw); go_simp) <;> with_reducible rfl)
          try simp only [Act.put, List.setIfInBounds_toArray, List.set_cons_zero, List.set_cons_succ]
          refine wpAnyH_take (i := 2) (oi := ?oiq4x3) (v := ?vq4x3) ?hiq4x3 (by kernel_rfl) (by kernel_rfl) (by kernel_rfl) ?hQq4x3 (Or.inl ⟨?hwq4x3, ?hyq4x3⟩) (by assumption) ?restq4x3
          case hiq4x3 => simp only [List.getElem?_toArray, List.getElem?_cons_succ, List.getElem?_cons_zero]; exact rfl
          case hQq4x3 => exact fun _ _ _ h => h
          case hwq4x3 => rfl
          case hyq4x3 => ((intro w hSw; (try dsimp only at hSw); go_simp) <;> with_reducible rfl)
          try simp only [Act.put, List.setIfInBounds_toArray, List.set_cons_zero, List.set_cons_succ]
          refine wpAnyH_take (i := 3) (oi := ?oiq4x4) (v := ?vq4x4) ?hiq4x4 (by kernel_rfl) (by kernel_rfl) (by kernel_rfl) ?hQq4x4 (Or.inl ⟨?hwq4x4, ?hyq4x4⟩) (by assumption) ?restq4x4
          case hiq4x4 => simp only [List.getElem?_toArray, List.getElem?_cons_succ, List.getElem?_cons_zero]; exact rfl
          case hQq4x4 => exact fun _ _ _ h => h
          case hwq4x4 => rfl
          case hyq4x4 => ((intro w hSw; (try dsimp only at hSw); go_simp) <;> with_reducible rfl)
          try simp only [Act.put, List.setIfInBounds_toArray, List.set_cons_zero, List.set_cons_succ]
          refine wpAnyH_take (i := 4) (oi := ?oiq4x5) (v := ?vq4x5) ?hiq4x5 (by kernel_rfl) (by kernel_rfl) (by kernel_rfl) ?hQq4x5 (Or.inl ⟨?hwq4x5, ?hyq4x5⟩) (by assumption) ?restq4x5
          case hiq4x5 => simp only [List.getElem?_toArray, List.getElem?_cons_succ, List.getElem?_cons_zero]; exact rfl
          case hQq4x5 => exact fun _ _ _ h => h
          case hwq4x5 => rfl
          case hyq4x5 => ((intro w hSw; (try dsimp only at hSw); go_simp) <;> with_reducible rfl)
          try simp only [Act.put, List.setIfInBounds_toArray, List.set_cons_zero, List.set_cons_succ]
          refine wpAnyH_ready (rs := [5]) (by kernel_rfl) (by simp) ?_
          refine AllReadyH.cons (o := ?oq4x6) ?hoq4x6 (fun K hK => ?stepq4x6) ?moreq4x6
          case hoq4x6 => simp only [List.getElem?_toArray, List.getElem?_cons_succ, List.getElem?_cons_zero]; exact rfl
          case moreq4x6 => exact AllReadyH.nil
          go_simp
          (go_at_call 51; refine (eng_l1Acct _ _).mono ?_; rw [hq]; rintro e w6 ⟨rfl, rfl⟩)
          refine hK.out _ _ ?hSq4x6 (fun hHeld => ?restq4x6)
          case hSq4x6 => ((first | assumption | ((((try dsimp only); repeat' apply And.intro) <;> (first | assumption | (refine below_later ?_ (by assumption); first | assumption | (simp only [*]; done) | (go_grown; done)) | (refine cell_later (by assumption) ?_; first | assumption | (simp only [*]; done) | (simp [go_sem]; done)) | (go_grown; done) | (simp [go_sem]; done))))))
          clear hK K
          try simp only [Act.put, List.setIfInBounds_toArray, List.set_cons_zero, List.set_cons_succ]
          refine wpAnyH_take (i := 6) (oi := ?oiq4x7) (v := ?vq4x7) ?hiq4x7 (by kernel_rfl) (by kernel_rfl) (by kernel_rfl) ?hQq4x7 (Or.inl ⟨?hwq4x7, ?hyq4x7⟩) (by assumption) ?restq4x7
          case hiq4x7 => simp only [List.getElem?_toArray, List.getElem?_cons_succ, List.getElem?_cons_zero]; exact rfl
          case hQq4x7 => exact fun _ _ _ h => h
          case hwq4x7 => rfl
          case hyq4x7 => ((intro w hSw; (try dsimp only at hSw); go_simp) <;> with_reducible rfl)
          try simp only [Act.put, List.setIfInBounds_toArray, List.set_cons_zero, List.set_cons_succ]
          refine wpAnyH_take (i := 7) (oi := ?oiq4x8) (v := ?vq4x8) ?hiq4x8 (by kernel_rfl) (by kernel_rfl) (by kernel_rfl) ?hQq4x8 (Or.inl ⟨?hwq4x8, ?hyq4x8⟩) (by assumption) ?restq4x8
          case hiq4x8 => simp only [List.getElem?_toArray, List.getElem?_cons_succ, List.getElem?_cons_zero]; exact rfl
          case hQq4x8 => exact fun _ _ _ h => h
          case hwq4x8 => rfl
          case hyq4x8 => ((intro w hSw; (try dsimp only at hSw); go_simp) <;> with_reducible rfl)
          try simp only [Act.put, List.setIfInBounds_toArray, List.set_cons_zero, List.set_cons_succ]
          refine wpAnyH_take (i := 8) (oi := ?oiq4x9) (v := ?vq4x9) ?hiq4x9 (by kernel_rfl) (by kernel_rfl) (by kernel_rfl) ?hQq4x9 (Or.inl ⟨?hwq4x9, ?hyq4x9⟩) (by assumption) ?restq4x9
          case hiq4x9 => simp only [List.getElem?_toArray, List.getElem?_cons_succ, List.getElem?_cons_zero]; exact rfl
          case hQq4x9 => exact fun _ _ _ h => h
          case hwq4x9 => rfl
          case hyq4x9 => ((intro w hSw; (try dsimp only at hSw); go_simp) <;> with_reducible rfl)
          try simp only [Act.put, List.setIfInBounds_toArray, List.set_cons_zero, List.set_cons_succ]
          refine wpAnyH_take (i := 9) (oi := ?oiq4x10) (v := ?vq4x10) ?hiq4x10 (by kernel_rfl) (by kernel_rfl) (by kernel_rfl) ?hQq4x10 (Or.inl ⟨?hwq4x10, ?hyq4x10⟩) (by assumption) ?restq4x10
          case hiq4x10 => simp only [List.getElem?_toArray, List.getElem?_cons_succ, List.getElem?_cons_zero]; exact rfl
          case hQq4x10 => exact fun _ _ _ h => h
          case hwq4x10 => rfl
          case hyq4x10 => ((intro w hSw; (try dsimp only at hSw); go_simp) <;> with_reducible rfl)
          try simp only [Act.put, List.setIfInBounds_toArray, List.set_cons_zero, List.set_cons_succ]
          refine wpAnyH_take (i := 10) (oi := ?oiq4x11) (v := ?vq4x11) ?hiq4x11 (by kernel_rfl) (by kernel_rfl) (by kernel_rfl) ?hQq4x11 (Or.inl ⟨?hwq4x11, ?hyq4x11⟩) (by assumption) ?restq4x11
          case hiq4x11 => simp only [List.getElem?_toArray, List.getElem?_cons_succ, List.getElem?_cons_zero]; exact rfl
          case hQq4x11 => exact fun _ _ _ h => h
          case hwq4x11 => rfl
          case hyq4x11 => ((intro w hSw; (try dsimp only at hSw); go_simp) <;> with_reducible rfl)
          try simp only [Act.put, List.setIfInBounds_toArray, List.set_cons_zero, List.set_cons_succ]
          refine wpAnyH_take (i := 11) (oi := ?oiq4x12) (v := ?vq4x12) ?hiq4x12 (by kernel_rfl) (by kernel_rfl) (by kernel_rfl) ?hQq4x12 (Or.inl ⟨?hwq4x12, ?hyq4x12⟩) (by assumption) ?restq4x12
          case hiq4x12 => simp only [List.getElem?_toArray, List.getElem?_cons_succ, List.getElem?_cons_zero]; exact rfl
          case hQq4x12 => exact fun _ _ _ h => h
          case hwq4x12 => rfl
          case hyq4x12 => ((intro w hSw; (try dsimp only at hSw); go_simp) <;> with_reducible rfl)
          try simp only [Act.put, List.setIfInBounds_toArray, List.set_cons_zero, List.set_cons_succ]
          refine wpAnyH_take (i := 12) (oi := ?oiq4x13) (v := ?vq4x13) ?hiq4x13 (by kernel_rfl) (by kernel_rfl) (by kernel_rfl) ?hQq4x13 (Or.inl ⟨?hwq4x13, ?hyq4x13⟩) (by assumption) ?restq4x13
          case hiq4x13 => simp only [List.getElem?_toArray, List.getElem?_cons_succ, List.getElem?_cons_zero]; exact rfl
          case hQq4x13 => exact fun _ _ _ h => h
          case hwq4x13 => rfl
          case hyq4x13 => ((intro w hSw; (try dsimp only at hSw); go_simp) <;> with_reducible rfl)
          try simp only [Act.put, List.setIfInBounds_toArray, List.set_cons_zero, List.set_cons_succ]
          refine wpAnyH_take (i := 13) (oi := ?oiq4x14) (v := ?vq4x14) ?hiq4x14 (by kernel_rfl) (by kernel_rfl) (by kernel_rfl) ?hQq4x14 (Or.inl ⟨?hwq4x14, ?hyq4x14⟩) (by assumption) ?restq4x14
          case hiq4x14 => simp only [List.getElem?_toArray, List.getElem?_cons_succ, List.getElem?_cons_zero]; exact rfl
          case hQq4x14 => exact fun _ _ _ h => h
          case hwq4x14 => rfl
          case hyq4x14 => ((intro w hSw; (try dsimp only at hSw); go_simp) <;> with_reducible rfl)
          try simp only [Act.put, List.setIfInBounds_toArray, List.set_cons_zero, List.set_cons_succ]
          refine wpAnyH_take (i := 14) (oi := ?oiq4x15) (v := ?vq4x15) ?hiq4x15 (by kernel_rfl) (by kernel_rfl) (by kernel_rfl) ?hQq4x15 (Or.inl ⟨?hwq4x15, ?hyq4x15⟩) (by assumption) ?restq4x15
          case hiq4x15 => simp only [List.getElem?_toArray, List.getElem?_cons_succ, List.getElem?_cons_zero]; exact rfl
          case hQq4x15 => exact fun _ _ _ h => h
          case hwq4x15 => rfl
          case hyq4x15 => ((intro w hSw; (try dsimp only at hSw); go_simp) <;> with_reducible rfl)
          try simp only [Act.put, List.setIfInBounds_toArray, List.set_cons_zero, List.set_cons_succ]
          refine wpAnyH_take (i := 15) (oi := ?oiq4x16) (v := ?vq4x16) ?hiq4x16 (by kernel_rfl) (by kernel_rfl) (by kernel_rfl) ?hQq4x16 (Or.inl ⟨?hwq4x16, ?hyq4x16⟩) (by assumption) ?restq4x16
          case hiq4x16 => simp only [List.getElem?_toArray, List.getElem?_cons_succ, List.getElem?_cons_zero]; exact rfl
          case hQq4x16 => exact fun _ _ _ h => h
          case hwq4x16 => rfl
          case hyq4x16 => ((intro w hSw; (try dsimp only at hSw); go_simp) <;> with_reducible rfl)
          try simp only [Act.put, List.setIfInBounds_toArray, List.set_cons_zero, List.set_cons_succ]
          refine wpAnyH_take (i := 16) (oi := ?oiq4x17) (v := ?vq4x17) ?hiq4x17 (by kernel_rfl) (by kernel_rfl) (by kernel_rfl) ?hQq4x17 (Or.inl ⟨?hwq4x17, ?hyq4x17⟩) (by assumption) ?restq4x17
          case hiq4x17 => simp only [List.getElem?_toArray, List.getElem?_cons_succ, List.getElem?_cons_zero]; exact rfl
          case hQq4x17 => exact fun _ _ _ h => h
          case hwq4x17 => rfl
          case hyq4x17 => ((intro w hSw; (try dsimp only at hSw); go_simp) <;> with_reducible rfl)
          try simp only [Act.put, List.setIfInBounds_toArray, List.set_cons_zero, List.set_cons_succ]
          refine wpAnyH_take (i := 17) (oi := ?oiq4x18) (v := ?vq4x18) ?hiq4x18 (by kernel_rfl) (by kernel_rfl) (by kernel_rfl) ?hQq4x18 (Or.inl ⟨?hwq4x18, ?hyq4x18⟩) (by assumption) ?restq4x18
          case hiq4x18 => simp only [List.getElem?_toArray, List.getElem?_cons_succ, List.getElem?_cons_zero]; exact rfl
          case hQq4x18 => exact fun _ _ _ h => h
          case hwq4x18 => rfl
          case hyq4x18 => ((intro w hSw; (try dsimp only at hSw); go_simp) <;> with_reducible rfl)
          try simp only [Act.put, List.setIfInBounds_toArray, List.set_cons_zero, List.set_cons_succ]
          refine wpAnyH_take (i := 18) (oi := ?oiq4x19) (v := ?vq4x19) ?hiq4x19 (by kernel_rfl) (by kernel_rfl) (by kernel_rfl) ?hQq4x19 (Or.inl ⟨?hwq4x19, ?hyq4x19⟩) (by assumption) ?restq4x19
          case hiq4x19 => simp only [List.getElem?_toArray, List.getElem?_cons_succ, List.getElem?_cons_zero]; exact rfl
          case hQq4x19 => exact fun _ _ _ h => h
          case hwq4x19 => rfl
          case hyq4x19 => ((intro w hSw; (try dsimp only at hSw); go_simp) <;> with_reducible rfl)
          try simp only [Act.put, List.setIfInBounds_toArray, List.set_cons_zero, List.set_cons_succ]
          refine wpAnyH_take (i := 19) (oi := ?oiq4x20) (v := ?vq4x20) ?hiq4x20 (by kernel_rfl) (by kernel_rfl) (by kernel_rfl) ?hQq4x20 (Or.inl ⟨?hwq4x20, ?hyq4x20⟩) (by assumption) ?restq4x20
          case hiq4x20 => simp only [List.getElem?_toArray, List.getElem?_cons_succ, List.getElem?_cons_zero]; exact rfl
          case hQq4x20 => exact fun _ _ _ h => h
          case hwq4x20 => rfl
          case hyq4x20 => ((intro w hSw; (try dsimp only at hSw); go_simp) <;> with_reducible rfl)
          try simp only [Act.put, List.setIfInBounds_toArray, List.set_cons_zero, List.set_cons_succ]
          refine wpAnyH_take (i := 20) (oi := ?oiq4x21) (v := ?vq4x21) ?hiq4x21 (by kernel_rfl) (by kernel_rfl) (by kernel_rfl) ?hQq4x21 (Or.inl ⟨?hwq4x21, ?hyq4x21⟩) (by assumption) ?restq4x21
          case hiq4x21 => simp only [List.getElem?_toArray, List.getElem?_cons_succ, List.getElem?_cons_zero]; exact rfl
          case hQq4x21 => exact fun _ _ _ h => h
          case hwq4x21 => rfl
          case hyq4x21 => ((intro w hSw; (try dsimp only at hSw); go_simp) <;> with_reducible rfl)
          try simp only [Act.put, List.setIfInBounds_toArray, List.set_cons_zero, List.set_cons_succ]
          refine wpAnyH_take (i := 21) (oi := ?oiq4x22) (v := ?vq4x22) ?hiq4x22 (by kernel_rfl) (by kernel_rfl) (by kernel_rfl) ?hQq4x22 (Or.inl ⟨?hwq4x22, ?hyq4x22⟩) (by assumption) ?restq4x22
          case hiq4x22 => simp only [List.getElem?_toArray, List.getElem?_cons_succ, List.getElem?_cons_zero]; exact rfl
          case hQq4x22 => exact fun _ _ _ h => h
          case hwq4x22 => rfl
          case hyq4x22 => ((intro w hSw; (try dsimp only at hSw); go_simp) <;> with_reducible rfl)
          try simp only [Act.put, List.setIfInBounds_toArray, List.set_cons_zero, List.set_cons_succ]
          refine wpAnyH_take (i := 22) (oi := ?oiq4x23) (v := ?vq4x23) ?hiq4x23 (by kernel_rfl) (by kernel_rfl) (by kernel_rfl) ?hQq4x23 (Or.inl ⟨?hwq4x23, ?hyq4x23⟩) (by assumption) ?restq4x23
          case hiq4x23 => simp only [List.getElem?_toArray, List.getElem?_cons_succ, List.getElem?_cons_zero]; exact rfl
          case hQq4x23 => exact fun _ _ _ h => h
          case hwq4x23 => rfl
          case hyq4x23 => ((intro w hSw; (try dsimp only at hSw); go_simp) <;> with_reducible rfl)
          try simp only [Act.put, List.setIfInBounds_toArray, List.set_cons_zero, List.set_cons_succ]
          refine wpAnyH_take (i := 23) (oi := ?oiq4x24) (v := ?vq4x24) ?hiq4x24 (by kernel_rfl) (by kernel_rfl) (by kernel_rfl) ?hQq4x24 (Or.inl ⟨?hwq4x24, ?hyq4x24⟩) (by assumption) ?restq4x24
          case hiq4x24 => simp only [List.getElem?_toArray, List.getElem?_cons_succ, List.getElem?_cons_zero]; exact rfl
          case hQq4x24 => exact fun _ _ _ h => h
          case hwq4x24 => rfl
          case hyq4x24 => ((intro w hSw; (try dsimp only at hSw); go_simp) <;> with_reducible rfl)
          try simp only [Act.put, List.setIfInBounds_toArray, List.set_cons_zero, List.set_cons_succ]
          refine wpAnyH_take (i := 24) (oi := ?oiq4x25) (v := ?vq4x25) ?hiq4x25 (by kernel_rfl) (by kernel_rfl) (by kernel_rfl) ?hQq4x25 (Or.inl ⟨?hwq4x25, ?hyq4x25⟩) (by assumption) ?restq4x25
          case hiq4x25 => simp only [List.getElem?_toArray, List.getElem?_cons_succ, List.getElem?_cons_zero]; exact rfl
          case hQq4x25 => exact fun _ _ _ h => h
          case hwq4x25 => rfl
          case hyq4x25 => ((intro w hSw; (try dsimp only at hSw); go_simp) <;> with_reducible rfl)
          try simp only [Act.put, List.setIfInBounds_toArray, List.set_cons_zero, List.set_cons_succ]
          refine wpAnyH_done (by kernel_rfl) ?_ _
          have hbr := hHeld.1
          have hbel := below_later hbel hbr
          clear hHeld hbr
          go_wp2_with fail
          go_roundw
          case rel => exact ⟨k + 1, by omega, by go_num, H, hbel⟩
          case measure => simp [intOf]; omega
    · obtain rfl : i = k := by omega
      have HA := Lib.hid hs.out
      have E1 := hbel
      clear hs kr hsr
      go_wp2_with fail
      go_loopw [4] (fun j wr => ∃ k : Nat, k ≤ n ∧ j = .int .i64 (k : Int) ∧ Hid (bkTo is i bs k = true) ∧ Below w0.heap.size w0 wr) (fun j _ => n - (intOf j).toNat)
      case atStart => exact ⟨0, Nat.zero_le _, rfl, rfl, E1⟩
      case round =>
        clear E1 hbel e1
        obtain ⟨k, hk, rfl, hs, hbel⟩ := hrel
        have kr := (hbel.block _ hs0).trans k0
        have e0 := cell_of_row wr w.heap.size 0 _ _ (0, 0) kr
        simp at e0
        have hsr : w.heap.size < wr.heap.size := Nat.lt_of_lt_of_le hs0 hbel.size
        by_cases hlt : k < n
        · obtain ⟨x, hx⟩ : ∃ x, bs[k]? = some x := ⟨bs[k]'(by omega), List.getElem?_eq_getElem (by omega)⟩
          have hr := h0.later hbel
          obtain ⟨b, o, v1, v2, rfl, hbX, q0, q1, ⟨A1, n1, c1, rfl, l1, hn1, hA1, -⟩, ⟨A2, n2, c2, rfl, l2, hn2, hA2, -⟩⟩ := hr.books k x hx
          obtain ⟨za, zb⟩ := x
          have HB := Lib.hid (bkB_at (is := is) (m := i) l1.1 l2.1)
          have HX := Lib.hid hx
          clear hr hx kr
          go_wp2_with fail
          refine (spec_BookOkO A1 n1 c1 A2 n2 c2 za zb wr l1 l2 hn1 hn2 hA1 hA2).mono ?_
          rcases Bool.eq_false_or_eq_true (bookB za n1 zb n2) with hk1 | hk1
          rotate_left
          · rw [hk1]
            have H : Hid (engB bs n i is = false) := Lib.hid (engB_no3 (bkTo_no HX.out (by rw [HB.out, hk1]; rfl) n hlt))
            rintro e w2 ⟨rfl, hb2⟩
            clear hk1 q0 q1 e0
            go_wp2_with fail
            go_ret
            exact ⟨ret_bool H.out.symm, hb0.trans ((below_later hbel hb2).mono hb0.size)⟩
          · rw [hk1]
            rintro e w1 ⟨rfl, hb1⟩
            have hsm := bookB_small hk1
            have K1 := Lib.hid hk1
            have e0 := (hb1.cell (p := ⟨w.heap.size, 0, none⟩) hsr).trans e0
            have q0 := (hb1.cell (p := ⟨b, o + k * 2, none⟩) hbX).trans q0
            have q1 := (hb1.cell (p := ⟨b, o + k * 2 + 1, none⟩) hbX).trans q1
            have hs1 : w.heap.size < w1.heap.size := Nat.lt_of_lt_of_le hsr hb1.size
            have hb1x : b < w1.heap.size := Nat.lt_of_lt_of_le hbX hb1.size
            have m1 := l1.later hb1
            have m2 := l2.later hb1
            have hbel1 := below_later hbel hb1
            have yk : (0 ≤ (k : Int) ∧ (k : Int) < (n : Int)) = True := by simp; omega
            have hown0 : (w1.alloc (.cells #[] 84)).drew.ownsRow w1.heap.size 84 4 (.slice (some ⟨w1.heap.size, 0, none⟩) 0 0) 0 [] := ⟨rfl, .inr ⟨w1.heap.size, 0, #[], rfl, Nat.le_refl _, heap_alloc_new w1 _, Nat.le_refl _, Nat.zero_le _, rfl, rfl⟩⟩
            have hba1 : Below w1.heap.size w1 (w1.alloc (.cells #[] 84)) := (Below.refl _ _).alloc (Nat.le_refl _) _
            have g0 := (hba1.cell (p := ⟨w.heap.size, 0, none⟩) hs1).trans e0
            have g1 := (hba1.cell (p := ⟨b, o + k * 2, none⟩) hb1x).trans q0
            have g2 := (hba1.cell (p := ⟨b, o + k * 2 + 1, none⟩) hb1x).trans q1
            clear hk1 hb1 l1 l2 hbel
            go_wp2_with fail
            go_upto_region 13 with fail
            refine wp_region_held_drew (S := (fun w' => Below w1.heap.size w1 w' ∧ w'.cell? ⟨w.heap.size, 0, none⟩ = some (.slice (some ⟨b, o, none⟩) n c) ∧ w'.cell? ⟨b, o + k * 2, none⟩ = some (.slice A1 n1 c1) ∧ w'.cell? ⟨b, o + k * 2 + 1, none⟩ = some (.slice A2 n2 c2))) (by kernel_rfl) ?hSq5xs (fun hHeld => ?restq5xs)
            case hSq5xs => ((first | assumption | ((((try dsimp only); repeat' apply And.intro) <;> (first | assumption | (refine below_later ?_ (by assumption); first | assumption | (simp only [*]; done) | (go_grown; done)) | (refine cell_later (by assumption) ?_; first | assumption | (simp only [*]; done) | (simp [go_sem]; done)) | (go_grown; done) | (simp [go_sem]; done))))))
            refine wpAnyH_take (i := 1) (oi := ?oiq5x1) (v := ?vq5x1) ?hiq5x1 (by kernel_rfl) (by kernel_rfl) (by kernel_rfl) ?hQq5x1 (Or.inl ⟨?hwq5x1, ?hyq5x1⟩) (by assumption) ?restq5x1
            case hiq5x1 => simp only [List.getElem?_toArray, List.getElem?_cons_succ, List.getElem?_cons_zero]; exact rfl
            case hQq5x1 => exact fun _ _ _ h => h
            case hwq5x1 => rfl
            case hyq5x1 => ((intro w hSw; (try dsimp only at hSw); go_simp) <;> with_reducible rfl)
            try simp only [Act.put, List.setIfInBounds_toArray, List.set_cons_zero, List.set_cons_succ]
            refine wpAnyH_take (i := 2) (oi := ?oiq5x2) (v := ?vq5x2) ?hiq5x2 (by kernel_rfl) (by kernel_rfl) (by kernel_rfl) ?hQq5x2 (Or.inl ⟨?hwq5x2, ?hyq5x2⟩) (by assumption) ?restq5x2
            case hiq5x2 => simp only [List.getElem?_toArray, List.getElem?_cons_succ, List.getElem?_cons_zero]; exact rfl
            case hQq5x2 => exact fun _ _ _ h => h
            case hwq5x2 => rfl
            case hyq5x2 => ((intro w hSw; (try dsimp only at hSw); go_simp) <;> with_reducible rfl)
            try simp only [Act.put, List.setIfInBounds_toArray, List.set_cons_zero, List.set_cons_succ]
            refine wpAnyH_take (i := 3) (oi := ?oiq5x3) (v := ?vq5x3) ?hiq5x3 (by kernel_rfl) (by kernel_rfl) (by kernel_rfl) ?hQq5x3 (Or.inl ⟨?hwq5x3, ?hyq5x3⟩) (by assumption) ?restq5x3
            case hiq5x3 => simp only [List.getElem?_toArray, List.getElem?_cons_succ, List.getElem?_cons_zero]; exact rfl
            case hQq5x3 => exact fun _ _ _ h => h
            case hwq5x3 => rfl
            case hyq5x3 => ((intro w hSw; (try dsimp only at hSw); go_simp) <;> with_reducible rfl)
            try simp only [Act.put, List.setIfInBounds_toArray, List.set_cons_zero, List.set_cons_succ]
            refine wpAnyH_take (i := 4) (oi := ?oiq5x4) (v := ?vq5x4) ?hiq5x4 (by kernel_rfl) (by kernel_rfl) (by kernel_rfl) ?hQq5x4 (Or.inl ⟨?hwq5x4, ?hyq5x4⟩) (by assumption) ?restq5x4
            case hiq5x4 => simp only [List.getElem?_toArray, List.getElem?_cons_succ, List.getElem?_cons_zero]; exact rfl
            case hQq5x4 => exact fun _ _ _ h => h
            case hwq5x4 => rfl
            case hyq5x4 => ((intro w hSw; (try dsimp only at hSw); go_simp) <;> with_reducible rfl)
            try simp only [Act.put, List.setIfInBounds_toArray, List.set_cons_zero, List.set_cons_succ]
            refine wpAnyH_take (i := 5) (oi := ?oiq5x5) (v := ?vq5x5) ?hiq5x5 (by kernel_rfl) (by kernel_rfl) (by kernel_rfl) ?hQq5x5 (Or.inl ⟨?hwq5x5, ?hyq5x5⟩) (by assumption) ?restq5x5
            case hiq5x5 => simp only [List.getElem?_toArray, List.getElem?_cons_succ, List.getElem?_cons_zero]; exact rfl
            case hQq5x5 => exact fun _ _ _ h => h
            case hwq5x5 => rfl
            case hyq5x5 => ((intro w hSw; (try dsimp only at hSw); go_simp) <;> with_reducible rfl)
            try simp only [Act.put, List.setIfInBounds_toArray, List.set_cons_zero, List.set_cons_succ]
            refine wpAnyH_take (i := 6) (oi := ?oiq5x6) (v := ?vq5x6) ?hiq5x6 (by kernel_rfl) (by kernel_rfl) (by kernel_rfl) ?hQq5x6 (Or.inl ⟨?hwq5x6, ?hyq5x6⟩) (by assumption) ?restq5x6
            case hiq5x6 => simp only [List.getElem?_toArray, List.getElem?_cons_succ, List.getElem?_cons_zero]; exact rfl
            case hQq5x6 => exact fun _ _ _ h => h
            case hwq5x6 => rfl
            case hyq5x6 => ((intro w hSw; (try dsimp only at hSw); go_simp) <;> with_reducible rfl)
            try simp only [Act.put, List.setIfInBounds_toArray, List.set_cons_zero, List.set_cons_succ]
            refine wpAnyH_take (i := 8) (oi := ?oiq5x7) (v := ?vq5x7) ?hiq5x7 (by kernel_rfl) (by kernel_rfl) (by kernel_rfl) ?hQq5x7 (Or.inl ⟨?hwq5x7, ?hyq5x7⟩) (by assumption) ?restq5x7
            case hiq5x7 => simp only [List.getElem?_toArray, List.getElem?_cons_succ, List.getElem?_cons_zero]; exact rfl
            case hQq5x7 => exact fun _ _ _ h => h
            case hwq5x7 => rfl
            case hyq5x7 => ((intro w hSw; (try dsimp only at hSw); go_simp) <;> with_reducible rfl)
            try simp only [Act.put, List.setIfInBounds_toArray, List.set_cons_zero, List.set_cons_succ]
            refine wpAnyH_take (i := 9) (oi := ?oiq5x8) (v := ?vq5x8) ?hiq5x8 (by kernel_rfl) (by kernel_rfl) (by kernel_rfl) ?hQq5x8 (Or.inl ⟨?hwq5x8, ?hyq5x8⟩) (by assumption) ?restq5x8
            case hiq5x8 => simp only [List.getElem?_toArray, List.getElem?_cons_succ, List.getElem?_cons_zero]; exact rfl
            case hQq5x8 => exact fun _ _ _ h => h
            case hwq5x8 => rfl
            case hyq5x8 => ((intro w hSw; (try dsimp only at hSw); go_simp) <;> with_reducible rfl)
            try simp only [Act.put, List.setIfInBounds_toArray, List.set_cons_zero, List.set_cons_succ]
            refine wpAnyH_take (i := 10) (oi := ?oiq5x9) (v := ?vq5x9) ?hiq5x9 (by kernel_rfl) (by kernel_rfl) (by kernel_rfl) ?hQq5x9 (Or.inl ⟨?hwq5x9, ?hyq5x9⟩) (by assumption) ?restq5x9
            case hiq5x9 => simp only [List.getElem?_toArray, List.getElem?_cons_succ, List.getElem?_cons_zero]; exact rfl
            case hQq5x9 => exact fun _ _ _ h => h
            case hwq5x9 => rfl
            case hyq5x9 => ((intro w hSw; (try dsimp only at hSw); go_simp) <;> with_reducible rfl)
            try simp only [Act.put, List.setIfInBounds_toArray, List.set_cons_zero, List.set_cons_succ]
            refine wpAnyH_take (i := 11) (oi := ?oiq5x10) (v := ?vq5x10) ?hiq5x10 (by kernel_rfl) (by kernel_rfl) (by kernel_rfl) ?hQq5x10 (Or.inl ⟨?hwq5x10, ?hyq5x10⟩) (by assumption) ?restq5x10
            case hiq5x10 => simp only [List.getElem?_toArray, List.getElem?_cons_succ, List.getElem?_cons_zero]; exact rfl
            case hQq5x10 => exact fun _ _ _ h => h
            case hwq5x10 => rfl
            case hyq5x10 => ((intro w hSw; (try dsimp only at hSw); go_simp) <;> with_reducible rfl)
            try simp only [Act.put, List.setIfInBounds_toArray, List.set_cons_zero, List.set_cons_succ]
            refine wpAnyH_take (i := 12) (oi := ?oiq5x11) (v := ?vq5x11) ?hiq5x11 (by kernel_rfl) (by kernel_rfl) (by kernel_rfl) ?hQq5x11 (Or.inl ⟨?hwq5x11, ?hyq5x11⟩) (by assumption) ?restq5x11
            case hiq5x11 => simp only [List.getElem?_toArray, List.getElem?_cons_succ, List.getElem?_cons_zero]; exact rfl
            case hQq5x11 => exact fun _ _ _ h => h
            case hwq5x11 => rfl
            case hyq5x11 => ((intro w hSw; (try dsimp only at hSw); go_simp) <;> with_reducible rfl)
            try simp only [Act.put, List.setIfInBounds_toArray, List.set_cons_zero, List.set_cons_succ]
            refine wpAnyH_take (i := 13) (oi := ?oiq5x12) (v := ?vq5x12) ?hiq5x12 (by kernel_rfl) (by kernel_rfl) (by kernel_rfl) ?hQq5x12 (Or.inl ⟨?hwq5x12, ?hyq5x12⟩) (by assumption) ?restq5x12
            case hiq5x12 => simp only [List.getElem?_toArray, List.getElem?_cons_succ, List.getElem?_cons_zero]; exact rfl
            case hQq5x12 => exact fun _ _ _ h => h
            case hwq5x12 => rfl
            case hyq5x12 => ((intro w hSw; (try dsimp only at hSw); go_simp) <;> with_reducible rfl)
            try simp only [Act.put, List.setIfInBounds_toArray, List.set_cons_zero, List.set_cons_succ]
            refine wpAnyH_ready (rs := [0]) (by kernel_rfl) (by simp) ?_
            refine AllReadyH.cons (o := ?oq5x13) ?hoq5x13 (fun K hK => ?stepq5x13) ?moreq5x13
            case hoq5x13 => simp only [List.getElem?_toArray, List.getElem?_cons_succ, List.getElem?_cons_zero]; exact rfl
            case moreq5x13 => exact AllReadyH.nil
            go_simp
            skip
            refine hK.out _ _ ?hSq5x13 (fun hHeld => ?restq5x13)
            case hSq5x13 => ((first | assumption | ((((try dsimp only); repeat' apply And.intro) <;> (first | assumption | (refine below_later ?_ (by assumption); first | assumption | (simp only [*]; done) | (go_grown; done)) | (refine cell_later (by assumption) ?_; first | assumption | (simp only [*]; done) | (simp [go_sem]; done)) | (go_grown; done) | (simp [go_sem]; done))))))
            clear hK K
            try simp only [Act.put, List.setIfInBounds_toArray, List.set_cons_zero, List.set_cons_succ]
            refine wpAnyH_ready (rs := [7]) (by kernel_rfl) (by simp) ?_
            refine AllReadyH.cons (o := ?oq5x14) ?hoq5x14 (fun K hK => ?stepq5x14) ?moreq5x14
            case hoq5x14 => simp only [List.getElem?_toArray, List.getElem?_cons_succ, List.getElem?_cons_zero]; exact rfl
            case moreq5x14 => exact AllReadyH.nil
            (refine step_append_ownO _ rfl _ _ 56 rfl w1.heap.size 84 i0 _ 4 32 Try.underlying56 hi' hz0 hz1 hz2 rfl (by decide) _ 0 [] rfl hown0 A1 hA1 (nums za) rfl (by rw [nums_length]; exact m1.1) ((m1.below hHeld.1).newsO) (nums_one _) (by unfold maxLen; omega) (by omega) (hHeld.1.size) ?_; intro v1 wq1 hown1 hgrow1; have hbq1 := hHeld.1.grown hgrow1 (hHeld.1.size) (fun q hq => (hown0.lt q hq).1))
            rw [Nat.zero_add, List.nil_append] at hown1
            refine hK.out _ _ ?hSq5x14 (fun hHeld => ?restq5x14)
            case hSq5x14 => ((first | assumption | ((((try dsimp only); repeat' apply And.intro) <;> (first | assumption | (refine below_later ?_ (by assumption); first | assumption | (simp only [*]; done) | (go_grown; done)) | (refine cell_later (by assumption) ?_; first | assumption | (simp only [*]; done) | (simp [go_sem]; done)) | (go_grown; done) | (simp [go_sem]; done))))))
            clear hK K
            try simp only [Act.put, List.setIfInBounds_toArray, List.set_cons_zero, List.set_cons_succ]
            refine wpAnyH_ready (rs := [14]) (by kernel_rfl) (by simp) ?_
            refine AllReadyH.cons (o := ?oq5x15) ?hoq5x15 (fun K hK => ?stepq5x15) ?moreq5x15
            case hoq5x15 => simp only [List.getElem?_toArray, List.getElem?_cons_succ, List.getElem?_cons_zero]; exact rfl
            case moreq5x15 => exact AllReadyH.nil
            (refine step_append_ownO _ rfl _ _ 56 rfl w1.heap.size 84 i0 _ 4 32 Try.underlying56 hi' hz0 hz1 hz2 rfl (by decide) _ n1 (nums za) rfl hown1 A2 hA2 (nums zb) rfl (by rw [nums_length]; exact m2.1) ((m2.below hHeld.1).newsO) (nums_one _) (by unfold maxLen; omega) (by omega) (hHeld.1.size) ?_; intro v2 wq2 hown2 hgrow2; have hbq2 := hHeld.1.grown hgrow2 (hHeld.1.size) (fun q hq => (hown1.lt q hq).1))
            refine hK.out _ _ ?hSq5x15 (fun hHeld => ?restq5x15)
            case hSq5x15 => ((first | assumption | ((((try dsimp only); repeat' apply And.intro) <;> (first | assumption | (refine below_later ?_ (by assumption); first | assumption | (simp only [*]; done) | (go_grown; done)) | (refine cell_later (by assumption) ?_; first | assumption | (simp only [*]; done) | (simp [go_sem]; done)) | (go_grown; done) | (simp [go_sem]; done))))))
            clear hK K
            try simp only [Act.put, List.setIfInBounds_toArray, List.set_cons_zero, List.set_cons_succ]
            refine wpAnyH_take (i := 15) (oi := ?oiq5x16) (v := ?vq5x16) ?hiq5x16 (by kernel_rfl) (by kernel_rfl) (by kernel_rfl) ?hQq5x16 (Or.inl ⟨?hwq5x16, ?hyq5x16⟩) (by assumption) ?restq5x16
            case hiq5x16 => simp only [List.getElem?_toArray, List.getElem?_cons_succ, List.getElem?_cons_zero]; exact rfl
            case hQq5x16 => exact fun _ _ _ h => h
            case hwq5x16 => rfl
            case hyq5x16 => ((intro w hSw; (try dsimp only at hSw); go_simp) <;> with_reducible rfl)
            try simp only [Act.put, List.setIfInBounds_toArray, List.set_cons_zero, List.set_cons_succ]
            refine wpAnyH_done (by kernel_rfl) ?_ _
            rw [← nums_append] at hown2
            obtain ⟨A3, c3, rfl, _, _⟩ := own_slice hown2
            have hL3 := Lst.of_own hown2
            have hbel2 := below_later hbel1 hHeld.1
            clear hHeld hown2 hgrow2 hgrow1 hown1 hown0 hba1 g0 g1 g2 q0 q1 e0 hbq1 hbq2 m1 m2 hbel1 hb1x hs1 hsr hbX
            go_wp2_with fail
            go_loopw [6] (fun j wr => ∃ q : Nat, q ≤ n1 + n2 ∧ j = .int .i64 (q : Int) ∧ Hid (oweTo is i (za ++ zb) q = false) ∧ Below w0.heap.size w0 wr ∧ Below wq2.heap.size wq2 wr) (fun j _ => n1 + n2 - (intOf j).toNat)
            case atStart => exact ⟨0, Nat.zero_le _, rfl, rfl, hbel2, Below.refl _ _⟩
            case round =>
              clear hbel2
              obtain ⟨q, hqn, rfl, hoq, hbx, hbq⟩ := hrel
              have kx := (hbx.block _ hs0).trans k0
              have e1 := cell_of_row wr w.heap.size 1 _ _ (0, 0) kx
              simp at e1
              have hsx : w.heap.size < wr.heap.size := Nat.lt_of_lt_of_le hs0 hbx.size
              by_cases hq2 : q < n1 + n2
              · obtain ⟨bl, ol, rfl, hbl, _, c1', _, _⟩ := (hL3.below hbq).row4 hq2
                have mx := (h0.later hbx).accts
                have yq : (0 ≤ (q : Int) ∧ (q : Int) < ((n1 + n2 : Nat) : Int)) = True := by simp; omega
                obtain ⟨y, hy⟩ : ∃ y, num (za ++ zb) (q * 4 + 1) = y := ⟨_, rfl⟩
                rw [hy] at c1'
                have HY0 := Lib.hid hy
                clear hy kx hL3
                rcases Bool.eq_false_or_eq_true (seenB (num is) y i) with hsn | hsn
                · have H : Hid (engB bs n i is = false) := Lib.hid (engB_no3 (bkTo_no HX.out (by rw [HB.out, oweTo_yes (by rw [HY0.out]; exact hsn) _ hq2, Bool.not_true, Bool.and_false]) n hlt))
                  go_wp2_with fail
                  go_upto_region 17 with fail
                  refine wp_region_held_drew (S := (fun w' => Below wr.heap.size wr w' ∧ w'.cell? ⟨w.heap.size, 1, none⟩ = some (.slice I i d) ∧ w'.cell? ⟨bl, ol + q * 4 + 1, none⟩ = some (.int .i64 y))) (by kernel_rfl) ?hSq6xs (fun hHeld => ?restq6xs)
                  case hSq6xs => ((first | assumption | ((((try dsimp only); repeat' apply And.intro) <;> (first | assumption | (refine below_later ?_ (by assumption); first | assumption | (simp only [*]; done) | (go_grown; done)) | (refine cell_later (by assumption) ?_; first | assumption | (simp only [*]; done) | (simp [go_sem]; done)) | (go_grown; done) | (simp [go_sem]; done))))))
                  refine wpAnyH_take (i := 0) (oi := ?oiq6x1) (v := ?vq6x1) ?hiq6x1 (by kernel_rfl) (by kernel_rfl) (by kernel_rfl) ?hQq6x1 (Or.inl ⟨?hwq6x1, ?hyq6x1⟩) (by assumption) ?restq6x1
                  case hiq6x1 => simp only [List.getElem?_toArray, List.getElem?_cons_succ, List.getElem?_cons_zero]; exact rfl
                  case hQq6x1 => exact fun _ _ _ h => h
                  case hwq6x1 => rfl
                  case hyq6x1 => ((intro w hSw; (try dsimp only at hSw); go_simp) <;> with_reducible rfl)
                  try simp only [Act.put, List.setIfInBounds_toArray, List.set_cons_zero, List.set_cons_succ]
                  refine wpAnyH_take (i := 1) (oi := ?oiq6x2) (v := ?vq6x2) ?hiq6x2 (by kernel_rfl) (by kernel_rfl) (by kernel_rfl) ?hQq6x2 (Or.inl ⟨?hwq6x2, ?hyq6x2⟩) (by assumption) ?restq6x2
                  case hiq6x2 => simp only [List.getElem?_toArray, List.getElem?_cons_succ, List.getElem?_cons_zero]; exact rfl
                  case hQq6x2 => exact fun _ _ _ h => h
                  case hwq6x2 => rfl
                  case hyq6x2 => ((intro w hSw; (try dsimp only at hSw); go_simp) <;> with_reducible rfl)
                  try simp only [Act.put, List.setIfInBounds_toArray, List.set_cons_zero, List.set_cons_succ]
                  refine wpAnyH_take (i := 2) (oi := ?oiq6x3) (v := ?vq6x3) ?hiq6x3 (by kernel_rfl) (by kernel_rfl) (by kernel_rfl) ?hQq6x3 (Or.inl ⟨?hwq6x3, ?hyq6x3⟩) (by assumption) ?restq6x3
                  case hiq6x3 => simp only [List.getElem?_toArray, List.getElem?_cons_succ, List.getElem?_cons_zero]; exact rfl
                  case hQq6x3 => exact fun _ _ _ h => h
                  case hwq6x3 => rfl
                  case hyq6x3 => ((intro w hSw; (try dsimp only at hSw); go_simp) <;> with_reducible rfl)
                  try simp only [Act.put, List.setIfInBounds_toArray, List.set_cons_zero, List.set_cons_succ]
                  refine wpAnyH_take (i := 3) (oi := ?oiq6x4) (v := ?vq6x4) ?hiq6x4 (by kernel_rfl) (by kernel_rfl) (by kernel_rfl) ?hQq6x4 (Or.inl ⟨?hwq6x4, ?hyq6x4⟩) (by assumption) ?restq6x4
                  case hiq6x4 => simp only [List.getElem?_toArray, List.getElem?_cons_succ, List.getElem?_cons_zero]; exact rfl
                  case hQq6x4 => exact fun _ _ _ h => h
                  case hwq6x4 => rfl
                  case hyq6x4 => ((intro w hSw; (try dsimp only at hSw); go_simp) <;> with_reducible rfl)
                  try simp only [Act.put, List.setIfInBounds_toArray, List.set_cons_zero, List.set_cons_succ]
                  refine wpAnyH_take (i := 4) (oi := ?oiq6x5) (v := ?vq6x5) ?hiq6x5 (by kernel_rfl) (by kernel_rfl) (by kernel_rfl) ?hQq6x5 (Or.inl ⟨?hwq6x5, ?hyq6x5⟩) (by assumption) ?restq6x5
                  case hiq6x5 => simp only [List.getElem?_toArray, List.getElem?_cons_succ, List.getElem?_cons_zero]; exact rfl
                  case hQq6x5 => exact fun _ _ _ h => h
                  case hwq6x5 => rfl
                  case hyq6x5 => ((intro w hSw; (try dsimp only at hSw); go_simp) <;> with_reducible rfl)
                  try simp only [Act.put, List.setIfInBounds_toArray, List.set_cons_zero, List.set_cons_succ]
                  refine wpAnyH_take (i := 5) (oi := ?oiq6x6) (v := ?vq6x6) ?hiq6x6 (by kernel_rfl) (by kernel_rfl) (by kernel_rfl) ?hQq6x6 (Or.inl ⟨?hwq6x6, ?hyq6x6⟩) (by assumption) ?restq6x6
                  case hiq6x6 => simp only [List.getElem?_toArray, List.getElem?_cons_succ, List.getElem?_cons_zero]; exact rfl
                  case hQq6x6 => exact fun _ _ _ h => h
                  case hwq6x6 => rfl
                  case hyq6x6 => ((intro w hSw; (try dsimp only at hSw); go_simp) <;> with_reducible rfl)
                  try simp only [Act.put, List.setIfInBounds_toArray, List.set_cons_zero, List.set_cons_succ]
                  refine wpAnyH_take (i := 6) (oi := ?oiq6x7) (v := ?vq6x7) ?hiq6x7 (by kernel_rfl) (by kernel_rfl) (by kernel_rfl) ?hQq6x7 (Or.inl ⟨?hwq6x7, ?hyq6x7⟩) (by assumption) ?restq6x7
                  case hiq6x7 => simp only [List.getElem?_toArray, List.getElem?_cons_succ, List.getElem?_cons_zero]; exact rfl
                  case hQq6x7 => exact fun _ _ _ h => h
                  case hwq6x7 => rfl
                  case hyq6x7 => ((intro w hSw; (try dsimp only at hSw); go_simp) <;> with_reducible rfl)
                  try simp only [Act.put, List.setIfInBounds_toArray, List.set_cons_zero, List.set_cons_succ]
                  refine wpAnyH_ready (rs := [7]) (by kernel_rfl) (by simp) ?_
                  refine AllReadyH.cons (o := ?oq6x8) ?hoq6x8 (fun K hK => ?stepq6x8) ?moreq6x8
                  case hoq6x8 => simp only [List.getElem?_toArray, List.getElem?_cons_succ, List.getElem?_cons_zero]; exact rfl
                  case moreq6x8 => exact AllReadyH.nil
                  go_simp
                  (go_at_call 53; refine (spec_l5Has I i d is y _ (mx.later hHeld.1) hi).mono ?_; rw [hsn]; rintro e w6 ⟨rfl, rfl⟩)
                  refine hK.out _ _ ?hSq6x8 (fun hHeld => ?restq6x8)
                  case hSq6x8 => ((first | assumption | ((((try dsimp only); repeat' apply And.intro) <;> (first | assumption | (refine below_later ?_ (by assumption); first | assumption | (simp only [*]; done) | (go_grown; done)) | (refine cell_later (by assumption) ?_; first | assumption | (simp only [*]; done) | (simp [go_sem]; done)) | (go_grown; done) | (simp [go_sem]; done))))))
                  clear hK K
                  try simp only [Act.put, List.setIfInBounds_toArray, List.set_cons_zero, List.set_cons_succ]
                  refine wpAnyH_done (by kernel_rfl) ?_ _
                  have hbx := below_later hbx hHeld.1
                  clear hHeld
                  go_wp2_with fail
                  go_ret
                  exact ⟨ret_bool H.out.symm, hb0.trans (hbx.mono hb0.size)⟩
                · have H : Hid (oweTo is i (za ++ zb) (q + 1) = false) := Lib.hid (oweTo_step hoq.out (by rw [HY0.out]; exact hsn))
                  go_wp2_with fail
                  go_upto_region 17 with fail
                  refine wp_region_held_drew (S := (fun w' => Below wr.heap.size wr w' ∧ w'.cell? ⟨w.heap.size, 1, none⟩ = some (.slice I i d) ∧ w'.cell? ⟨bl, ol + q * 4 + 1, none⟩ = some (.int .i64 y))) (by kernel_rfl) ?hSq7xs (fun hHeld => ?restq7xs)
                  case hSq7xs => ((first | assumption | ((((try dsimp only); repeat' apply And.intro) <;> (first | assumption | (refine below_later ?_ (by assumption); first | assumption | (simp only [*]; done) | (go_grown; done)) | (refine cell_later (by assumption) ?_; first | assumption | (simp only [*]; done) | (simp [go_sem]; done)) | (go_grown; done) | (simp [go_sem]; done))))))
                  refine wpAnyH_take (i := 0) (oi := ?oiq7x1) (v := ?vq7x1) ?hiq7x1 (by kernel_rfl) (by kernel_rfl) (by kernel_rfl) ?hQq7x1 (Or.inl ⟨?hwq7x1, ?hyq7x1⟩) (by assumption) ?restq7x1
                  case hiq7x1 => simp only [List.getElem?_toArray, List.getElem?_cons_succ, List.getElem?_cons_zero]; exact rfl
                  case hQq7x1 => exact fun _ _ _ h => h
                  case hwq7x1 => rfl
                  case hyq7x1 => ((intro w hSw; (try dsimp only at hSw); go_simp) <;> with_reducible rfl)
                  try simp only [Act.put, List.setIfInBounds_toArray, List.set_cons_zero, List.set_cons_succ]
                  refine wpAnyH_take (i := 1) (oi := ?oiq7x2) (v := ?vq7x2) ?hiq7x2 (by kernel_rfl) (by kernel_rfl) (by kernel_rfl) ?hQq7x2 (Or.inl ⟨?hwq7x2, ?hyq7x2⟩) (by assumption) ?restq7x2
                  case hiq7x2 => simp only [List.getElem?_toArray, List.getElem?_cons_succ, List.getElem?_cons_zero]; exact rfl
                  case hQq7x2 => exact fun _ _ _ h => h
                  case hwq7x2 => rfl
                  case hyq7x2 => ((intro w hSw; (try dsimp only at hSw); go_simp) <;> with_reducible rfl)
                  try simp only [Act.put, List.setIfInBounds_toArray, List.set_cons_zero, List.set_cons_succ]
                  refine wpAnyH_take (i := 2) (oi := ?oiq7x3) (v := ?vq7x3) ?hiq7x3 (by kernel_rfl) (by kernel_rfl) (by kernel_rfl) ?hQq7x3 (Or.inl ⟨?hwq7x3, ?hyq7x3⟩) (by assumption) ?restq7x3
                  case hiq7x3 => simp only [List.getElem?_toArray, List.getElem?_cons_succ, List.getElem?_cons_zero]; exact rfl
                  case hQq7x3 => exact fun _ _ _ h => h
                  case hwq7x3 => rfl
                  case hyq7x3 => ((intro w hSw; (try dsimp only at hSw); go_simp) <;> with_reducible rfl)
                  try simp only [Act.put, List.setIfInBounds_toArray, List.set_cons_zero, List.set_cons_succ]
                  refine wpAnyH_take (i := 3) (oi := ?oiq7x4) (v := ?vq7x4) ?hiq7x4 (by kernel_rfl) (by kernel_rfl) (by kernel_rfl) ?hQq7x4 (Or.inl ⟨?hwq7x4, ?hyq7x4⟩) (by assumption) ?restq7x4
                  case hiq7x4 => simp only [List.getElem?_toArray, List.getElem?_cons_succ, List.getElem?_cons_zero]; exact rfl
                  case hQq7x4 => exact fun _ _ _ h => h
                  case hwq7x4 => rfl
                  case hyq7x4 => ((intro w hSw; (try dsimp only at hSw); go_simp) <;> with_reducible rfl)
                  try simp only [Act.put, List.setIfInBounds_toArray, List.set_cons_zero, List.set_cons_succ]
                  refine wpAnyH_take (i := 4) (oi := ?oiq7x5) (v := ?vq7x5) ?hiq7x5 (by kernel_rfl) (by kernel_rfl) (by kernel_rfl) ?hQq7x5 (Or.inl ⟨?hwq7x5, ?hyq7x5⟩) (by assumption) ?restq7x5
                  case hiq7x5 => simp only [List.getElem?_toArray, List.getElem?_cons_succ, List.getElem?_cons_zero]; exact rfl
                  case hQq7x5 => exact fun _ _ _ h => h
                  case hwq7x5 => rfl
                  case hyq7x5 => ((intro w hSw; (try dsimp only at hSw); go_simp) <;> with_reducible rfl)
                  try simp only [Act.put, List.setIfInBounds_toArray, List.set_cons_zero, List.set_cons_succ]
                  refine wpAnyH_take (i := 5) (oi := ?oiq7x6) (v := ?vq7x6) ?hiq7x6 (by kernel_rfl) (by kernel_rfl) (by kernel_rfl) ?hQq7x6 (Or.inl ⟨?hwq7x6, ?hyq7x6⟩) (by assumption) ?restq7x6
                  case hiq7x6 => simp only [List.getElem?_toArray, List.getElem?_cons_succ, List.getElem?_cons_zero]; exact rfl
                  case hQq7x6 => exact fun _ _ _ h => h
                  case hwq7x6 => rfl
                  case hyq7x6 => ((intro w hSw; (try dsimp only at hSw); go_simp) <;> with_reducible rfl)
                  try simp only [Act.put, List.setIfInBounds_toArray, List.set_cons_zero, List.set_cons_succ]
                  refine wpAnyH_take (i := 6) (oi := ?oiq7x7) (v := ?vq7x7) ?hiq7x7 (by kernel_rfl) (by kernel_rfl) (by kernel_rfl) ?hQq7x7 (Or.inl ⟨?hwq7x7, ?hyq7x7⟩) (by assumption) ?restq7x7
                  case hiq7x7 => simp only [List.getElem?_toArray, List.getElem?_cons_succ, List.getElem?_cons_zero]; exact rfl
                  case hQq7x7 => exact fun _ _ _ h => h
                  case hwq7x7 => rfl
                  case hyq7x7 => ((intro w hSw; (try dsimp only at hSw); go_simp) <;> with_reducible rfl)
                  try simp only [Act.put, List.setIfInBounds_toArray, List.set_cons_zero, List.set_cons_succ]
                  refine wpAnyH_ready (rs := [7]) (by kernel_rfl) (by simp) ?_
                  refine AllReadyH.cons (o := ?oq7x8) ?hoq7x8 (fun K hK => ?stepq7x8) ?moreq7x8
                  case hoq7x8 => simp only [List.getElem?_toArray, List.getElem?_cons_succ, List.getElem?_cons_zero]; exact rfl
                  case moreq7x8 => exact AllReadyH.nil
                  go_simp
                  (go_at_call 53; refine (spec_l5Has I i d is y _ (mx.later hHeld.1) hi).mono ?_; rw [hsn]; rintro e w6 ⟨rfl, rfl⟩)
                  refine hK.out _ _ ?hSq7x8 (fun hHeld => ?restq7x8)
                  case hSq7x8 => ((first | assumption | ((((try dsimp only); repeat' apply And.intro) <;> (first | assumption | (refine below_later ?_ (by assumption); first | assumption | (simp only [*]; done) | (go_grown; done)) | (refine cell_later (by assumption) ?_; first | assumption | (simp only [*]; done) | (simp [go_sem]; done)) | (go_grown; done) | (simp [go_sem]; done))))))
                  clear hK K
                  try simp only [Act.put, List.setIfInBounds_toArray, List.set_cons_zero, List.set_cons_succ]
                  refine wpAnyH_done (by kernel_rfl) ?_ _
                  have hbx := below_later hbx hHeld.1
                  have hbq := below_later hbq hHeld.1
                  clear hHeld
                  go_wp2_with fail
                  go_roundw
                  case rel => exact ⟨q + 1, by omega, by go_num, H, hbx, hbq⟩
                  case measure => simp [intOf]; omega
              · obtain rfl : q = n1 + n2 := by omega
                have H : Hid (bkTo is i bs (k + 1) = true) := Lib.hid (bkTo_step HX.out hs.out (by rw [HB.out, hoq.out, K1.out]; rfl))
                clear hL3 hbq kx e1
                go_wp2_with fail
                go_roundw
                case rel => exact ⟨k + 1, by omega, by go_num, H, hbx⟩
                case measure => simp [intOf]; omega
        · obtain rfl : k = n := by omega
          have H := Lib.hid (engB_yes H4.out HA.out hs.out)
          clear hs
          go_wp2_with fail
          go_ret
          exact ⟨ret_bool H.out.symm, hb0.trans (hbel.mono hb0.size)⟩
end Go.Proofs.Ytmbafeiacaamoaa
