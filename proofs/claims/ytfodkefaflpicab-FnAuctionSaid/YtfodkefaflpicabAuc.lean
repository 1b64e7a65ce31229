/-
  Auctions: which orders are right, what trades at a price, in both programs.
-/
import Derived.Test.YtfodkefaflpicabBookW
import Derived.Test.YtfodkefaflpicabOrd
namespace Go.Proofs.Ytfodkefaflpicab
open Go.RowKit Wire

def metB (side lim p : Int) : Bool := lim == 0 || !betB side p lim
/-- what the first orders of a side would trade at a price -/
def sumW (side : Int) (zs : List Int) (p : Int) : Nat → Int
  | 0 => 0
  | k + 1 => sumW side zs p k + if metB side (num zs (k * 4 + 2)) p = true then num zs (k * 4 + 3) else 0
def aucB (zs : List Int) (n : Nat) : Bool := decide (n ≤ 60) && allO zs n
theorem ordB_qty {zs : List Int} {k : Nat} (h : ordB zs k = true) : 1 ≤ num zs (k * 4 + 3) ∧ num zs (k * 4 + 3) ≤ 1000000 := by
  simp [ordB, inB] at h
  omega
theorem sumW_le {side p : Int} {zs : List Int} {n : Nat} (h : allO zs n = true) : ∀ k, k ≤ n → 0 ≤ sumW side zs p k ∧ sumW side zs p k ≤ 1000000 * k
  | 0, _ => by simp [sumW]
  | k + 1, hk => by
    have h1 := sumW_le (side := side) (p := p) h k (by omega)
    have h2 := ordB_qty (allO_at n k h (by omega))
    simp only [sumW]
    split <;> omega
def volP (za zb : List Int) (n m : Nat) (p : Int) : Int := if (aucB za n && (aucB zb m && inB 1 p 1000000)) = true then min (sumW 1 za p n) (sumW 2 zb p m) else -1
theorem allO_step {zs : List Int} {k : Nat} (h : allO zs k = true) (h1 : ordB zs k = true) : allO zs (k + 1) = true := by rw [allO, h, h1]; rfl
theorem auc_cell3 {w : World} {S : Nat} {a b c : Value} {T : TypeId} (h : w.heap[S]? = some (.cells #[a, b, c] T (0, 0))) : w.cell? ⟨S, 0, none⟩ = some a ∧ w.cell? ⟨S, 1, none⟩ = some b ∧ w.cell? ⟨S, 2, none⟩ = some c ∧ w.frozen? ⟨S, 0, none⟩ = false ∧ w.frozen? ⟨S, 1, none⟩ = false ∧ w.frozen? ⟨S, 2, none⟩ = false := by
  refine ⟨?_, ?_, ?_, ?_, ?_, ?_⟩ <;> simp [World.cell?, World.frozen?, h]
theorem auc_put3 {w : World} {S : Nat} {a b c u0 u1 u2 : Value} {T : TypeId} (h : w.heap[S]? = some (.cells #[a, b, c] T (0, 0))) :
    (((w.setCell ⟨S, 0, none⟩ u0).setCell ⟨S, 1, none⟩ u1).setCell ⟨S, 2, none⟩ u2).heap[S]? = some (.cells #[u0, u1, u2] T (0, 0)) := by
  simp [World.setCell, Array.getElem?_modify, h]
theorem auc_meetsI (side lim p : Int) (w : World) :
    Calls Try.prog 104 #[.int .i64 side, .int .i64 lim, .int .i64 p] w fun e w' => e = .returned (.bool (metB side lim p)) ∧ w = w' := by
  unfold metB
  by_cases h : lim = 0
  · subst h
    go_enter Try.func104, Try.ntmps104
    go_wp2_with fail
    go_ret
    exact ⟨rfl, rfl⟩
  · have t : (lim == 0) = false := beq_eq_false_iff_ne.2 h
    have HT := Lib.hid t
    go_enter Try.func104, Try.ntmps104
    go_wp2_with fail
    refine (impl_better side p lim w).mono ?_
    rintro e w' ⟨rfl, rfl⟩
    go_wp2_with fail
    go_ret
    exact ⟨by rw [HT.out]; rfl, rfl⟩
theorem auc_meetsS (side lim p : Int) (w : World) :
    Calls Try.prog 79 #[.int .i64 side, .int .i64 lim, .int .i64 p] w fun e w' => e = .returned (.bool (metB side lim p)) ∧ w = w' := by
  unfold metB
  by_cases h : lim = 0
  · subst h
    go_enter Try.func79, Try.ntmps79
    go_wp2_with fail
    go_ret
    exact ⟨rfl, rfl⟩
  · have t : (lim == 0) = false := beq_eq_false_iff_ne.2 h
    have HT := Lib.hid t
    go_enter Try.func79, Try.ntmps79
    go_wp2_with fail
    refine (spec_l2Ahead side p lim w).mono ?_
    rintro e w' ⟨rfl, rfl⟩
    go_wp2_with fail
    go_ret
    exact ⟨by rw [HT.out]; rfl, rfl⟩
set_option maxRecDepth 100000 in
theorem auc_notOk (a b c d : Int) (w : World) :
    Calls Try.prog 102 #[.agg #[.int .i64 a, .int .i64 b, .int .i64 c, .int .i64 d]] w fun x w' => x = .returned (.bool (!ordI a b c d)) ∧ Below w.heap.size w w' := by
  go_enter Try.func102, Try.ntmps102
  go_wp2_with fail
  refine (impl_orderOk _ _ _ _ _).mono ?_
  rintro e w1 ⟨rfl, hb1⟩
  go_wp2_with fail
  go_ret
  exact ⟨rfl, below_alloc hb1⟩
set_option maxHeartbeats 1600000 in
set_option maxRecDepth 100000 in
theorem auc_IndexFunc (A : Option Addr) (n c : Nat) (zs : List Int) (w : World) (hl : Lst w w.heap.size 4 A n zs) (hn : n ≤ 1048576) :
    Calls Try.prog 117 #[.slice A n c, .func (.func 102) #[] #[]] w fun e w' => (∃ z : Int, e = .returned (.int .i64 z) ∧ -1 ≤ z ∧ z ≤ 1048576 ∧ (!allO zs n) = decide (0 ≤ z)) ∧ Below w.heap.size w w' := by
  go_enter Try.func117, Try.ntmps117
  go_wp2_with fail
  go_loopw [8] (fun i wr => ∃ k : Nat, k ≤ n ∧ i = .int .i64 (k : Int) ∧ allO zs k = true ∧ Below w.heap.size w wr) (fun i _ => n - (intOf i).toNat)
  case atStart => exact ⟨0, Nat.zero_le _, rfl, rfl, Below.refl _ _⟩
  case round =>
    obtain ⟨k, hk, rfl, hok, hbel⟩ := hrel
    have HL := Lib.hid hok
    clear hok
    by_cases hlt : k < n
    · obtain ⟨b, o, rfl, hb, c0, c1, c2, c3⟩ := (hl.below hbel).row4 hlt
      clear hl
      rcases Bool.eq_false_or_eq_true (ordB zs k) with hat | hat
      · have HA := Lib.hid hat
        have HR : Hid (ordI (num zs (k * 4)) (num zs (k * 4 + 1)) (num zs (k * 4 + 2)) (num zs (k * 4 + 3)) = true) := Lib.hid hat
        clear hat
        go_wp2_with fail
        refine (auc_notOk _ _ _ _ _).mono ?_
        rw [HR.out]
        rintro e w1 ⟨rfl, hb1⟩
        have hbel1 := hbel.trans (hb1.mono hbel.size)
        clear hbel hb1
        go_wp2_with fail
        go_roundw
        case rel => exact ⟨k + 1, by omega, by go_num, allO_step HL.out HA.out, hbel1⟩
        case measure => simp [intOf]; omega
      · have HN := Lib.hid (allO_no hat n hlt)
        have HR : Hid (ordI (num zs (k * 4)) (num zs (k * 4 + 1)) (num zs (k * 4 + 2)) (num zs (k * 4 + 3)) = false) := Lib.hid hat
        clear hat
        go_wp2_with fail
        refine (auc_notOk _ _ _ _ _).mono ?_
        rw [HR.out]
        rintro e w1 ⟨rfl, hb1⟩
        have hbel1 := hbel.trans (hb1.mono hbel.size)
        clear hbel hb1
        go_wp2_with fail
        go_ret
        exact ⟨⟨_, rfl, by omega, by omega, by rw [HN.out]; simp⟩, hbel1⟩
    · obtain rfl : k = n := by omega
      clear hl
      go_wp2_with fail
      go_ret
      exact ⟨⟨_, rfl, by omega, by omega, by rw [HL.out]; rfl⟩, hbel⟩
set_option maxRecDepth 100000 in
theorem auc_Contains (A : Option Addr) (n c : Nat) (zs : List Int) (w : World) (hl : Lst w w.heap.size 4 A n zs) (hn : n ≤ 1048576) :
    Calls Try.prog 101 #[.slice A n c, .func (.func 102) #[] #[]] w fun e w' => e = .returned (.bool (!allO zs n)) ∧ Below w.heap.size w w' := by
  go_enter Try.func101, Try.ntmps101
  go_wp2_with fail
  refine (auc_IndexFunc A n c zs _ hl hn).mono ?_
  rintro e w1 ⟨⟨z, rfl, hz0, hz1, hz2⟩, hb1⟩
  have HZ := Lib.hid hz2
  clear hz2
  go_wp2_with fail
  go_ret
  exact ⟨ret_bool HZ.out.symm, hb1⟩
set_option maxRecDepth 100000 in
theorem auc_sideOk (A : Option Addr) (n c : Nat) (zs : List Int) (w : World) (hl : Lst w w.heap.size 4 A n zs) (hn : n ≤ 1048576) :
    Calls Try.prog 71 #[.slice A n c] w fun e w' => e = .returned (.bool (aucB zs n)) ∧ Below w.heap.size w w' := by
  by_cases h60 : n ≤ 60
  · have HN := Lib.hid (show aucB zs n = allO zs n by simp [aucB, h60])
    go_enter Try.func71, Try.ntmps71
    go_wp2_with fail
    refine (auc_Contains A n c zs _ hl hn).mono ?_
    rintro e w1 ⟨rfl, hb1⟩
    go_wp2_with fail
    go_ret
    exact ⟨ret_bool (by rw [HN.out]; (first | done | simp)), hb1⟩
  · have HN := Lib.hid (show aucB zs n = false by simp [aucB]; omega)
    go_enter Try.func71, Try.ntmps71
    go_wp2_with fail
    go_ret
    exact ⟨by rw [HN.out]; (first | done | rfl), Below.refl _ _⟩
set_option maxRecDepth 100000 in
theorem auc_ok (A : Option Addr) (n c : Nat) (za : List Int) (B : Option Addr) (m d : Nat) (zb : List Int) (w : World) (hl : Lst w w.heap.size 4 A n za) (hn : n ≤ 1048576) (hr : Lst w w.heap.size 4 B m zb) (hm : m ≤ 1048576) :
    Calls Try.prog 31 #[.slice A n c, .slice B m d] w fun e w' => e = .returned (.bool (aucB za n && aucB zb m)) ∧ Below w.heap.size w w' := by
  rcases Bool.eq_false_or_eq_true (aucB za n) with h1 | h1
  · have HA := Lib.hid h1
    go_enter Try.func31, Try.ntmps31
    go_wp2_with fail
    refine (auc_sideOk A n c za _ hl hn).mono ?_
    rw [h1]
    rintro e w1 ⟨rfl, hb1⟩
    clear h1
    go_wp2_with fail
    refine (auc_sideOk B m d zb _ (hr.later hb1) hm).mono ?_
    rintro e w2 ⟨rfl, hb2⟩
    go_wp2_with fail
    go_ret
    exact ⟨by rw [HA.out]; (first | done | rfl), below_later hb1 hb2⟩
  · have HA := Lib.hid h1
    go_enter Try.func31, Try.ntmps31
    go_wp2_with fail
    refine (auc_sideOk A n c za _ hl hn).mono ?_
    rw [h1]
    rintro e w1 ⟨rfl, hb1⟩
    clear h1
    go_wp2_with fail
    go_ret
    exact ⟨by rw [HA.out]; (first | done | rfl), hb1⟩
set_option maxHeartbeats 1600000 in
set_option maxRecDepth 100000 in
theorem auc_specOk (A : Option Addr) (n c : Nat) (zs : List Int) (w : World) (hl : Lst w w.heap.size 4 A n zs) (hn : n ≤ 1048576) :
    Calls Try.prog 36 #[.slice A n c] w fun e w' => e = .returned (.bool (aucB zs n)) ∧ Below w.heap.size w w' := by
  go_enter Try.func36, Try.ntmps36
  go_wp2_with fail
  go_loopw [3] (fun i wr => ∃ k : Nat, k ≤ n ∧ i = .int .i64 (k : Int) ∧ allO zs k = true ∧ Below w.heap.size w wr) (fun i _ => n - (intOf i).toNat)
  case atStart => exact ⟨0, Nat.zero_le _, rfl, rfl, Below.refl _ _⟩
  case round =>
    obtain ⟨k, hk, rfl, hok, hbel⟩ := hrel
    have HL := Lib.hid hok
    clear hok
    by_cases hlt : k < n
    · obtain ⟨b, o, rfl, hb, c0, c1, c2, c3⟩ := (hl.below hbel).row4 hlt
      clear hl
      rcases Bool.eq_false_or_eq_true (ordB zs k) with hat | hat
      · have HA := Lib.hid hat
        have HR : Hid (ordI (num zs (k * 4)) (num zs (k * 4 + 1)) (num zs (k * 4 + 2)) (num zs (k * 4 + 3)) = true) := Lib.hid hat
        clear hat
        go_wp2_with fail
        refine (spec_l2Order _ _ _ _ _).mono ?_
        rw [HR.out]
        rintro e w1 ⟨rfl, hb1⟩
        have hbel1 := hbel.trans (hb1.mono hbel.size)
        clear hbel hb1
        go_wp2_with fail
        go_roundw
        case rel => exact ⟨k + 1, by omega, by go_num, allO_step HL.out HA.out, hbel1⟩
        case measure => simp [intOf]; omega
      · have HN := Lib.hid (show aucB zs n = false by simp [aucB, allO_no hat n hlt])
        have HR : Hid (ordI (num zs (k * 4)) (num zs (k * 4 + 1)) (num zs (k * 4 + 2)) (num zs (k * 4 + 3)) = false) := Lib.hid hat
        clear hat
        go_wp2_with fail
        refine (spec_l2Order _ _ _ _ _).mono ?_
        rw [HR.out]
        rintro e w1 ⟨rfl, hb1⟩
        have hbel1 := hbel.trans (hb1.mono hbel.size)
        clear hbel hb1
        go_wp2_with fail
        go_ret
        exact ⟨by rw [HN.out]; rfl, hbel1⟩
    · obtain rfl : k = n := by omega
      have HN := Lib.hid (show aucB zs k = decide (k ≤ 60) by simp [aucB, HL.out])
      clear hl
      go_wp2_with fail
      go_ret
      exact ⟨ret_bool (by rw [HN.out]; simp; try omega), hbel⟩
set_option linter.unusedSimpArgs false in
set_option maxHeartbeats 1600000 in
set_option maxRecDepth 100000 in
theorem auc_sumS (A : Option Addr) (n c : Nat) (zs : List Int) (side p : Int) (w : World) (hl : Lst w w.heap.size 4 A n zs) (hn : n ≤ 60) (hok : allO zs n = true) :
    Calls Try.prog 41 #[.int .i64 side, .slice A n c, .int .i64 p] w fun e w' => e = .returned (.int .i64 (sumW side zs p n)) ∧ Below w.heap.size w w' := by
  have HO := Lib.hid hok
  clear hok
  go_enter Try.func41, Try.ntmps41
  go_wp2_with fail
  go_loopw [7, 8] (fun s i wr => ∃ k : Nat, k ≤ n ∧ i = .int .i64 (k : Int) ∧ s = .int .i64 (sumW side zs p k) ∧ Below w.heap.size w wr) (fun _ i _ => n - (intOf i).toNat)
  case atStart => exact ⟨0, Nat.zero_le _, rfl, rfl, Below.refl _ _⟩
  case round =>
    obtain ⟨k, hk, rfl, rfl, hbel⟩ := hrel
    by_cases hlt : k < n
    · obtain ⟨b, o, rfl, hb, c0, c1, c2, c3⟩ := (hl.below hbel).row4 hlt
      obtain ⟨s0, s1⟩ := sumW_le (side := side) (p := p) HO.out k hk
      obtain ⟨q0, q1⟩ := ordB_qty (allO_at n k HO.out hlt)
      clear hl
      rcases Bool.eq_false_or_eq_true (metB side (num zs (k * 4 + 2)) p) with hm | hm
      · have HR : Hid (metB side (num zs (k * 4 + 2)) p = true) := Lib.hid hm
        have E1 : Hid (sumW side zs p (k + 1) = sumW side zs p k + num zs (k * 4 + 3)) := Lib.hid (by simp only [sumW, hm]; simp)
        clear hm
        generalize sumW side zs p k = s at *
        generalize num zs (k * 4 + 3) = qq at *
        go_wp2_with fail
        refine (auc_meetsS _ _ _ _).mono ?_
        rw [HR.out]
        rintro e w1 ⟨rfl, rfl⟩
        go_wp2_with fail
        go_roundw
        case rel => exact ⟨k + 1, by omega, by go_num, by rw [E1.out]; (first | done | go_num), hbel⟩
        case measure => simp [intOf]; omega
      · have HR : Hid (metB side (num zs (k * 4 + 2)) p = false) := Lib.hid hm
        have E1 : Hid (sumW side zs p (k + 1) = sumW side zs p k) := Lib.hid (by simp only [sumW, hm]; simp)
        clear hm
        generalize sumW side zs p k = s at *
        generalize num zs (k * 4 + 3) = qq at *
        go_wp2_with fail
        refine (auc_meetsS _ _ _ _).mono ?_
        rw [HR.out]
        rintro e w1 ⟨rfl, rfl⟩
        go_wp2_with fail
        go_roundw
        case rel => exact ⟨k + 1, by omega, by go_num, by rw [E1.out]; (first | done | go_num), hbel⟩
        case measure => simp [intOf]; omega
    · obtain rfl : k = n := by omega
      clear hl
      go_wp2_with fail
      go_ret
      exact ⟨rfl, hbel⟩
set_option linter.unusedSimpArgs false in
set_option maxHeartbeats 1600000 in
set_option maxRecDepth 100000 in
theorem auc_sumI (A : Option Addr) (n c : Nat) (zs : List Int) (side p : Int) (w : World) (hl : Lst w w.heap.size 4 A n zs) (hn : n ≤ 60) (hok : allO zs n = true) :
    Calls Try.prog 72 #[.slice A n c, .int .i64 side, .int .i64 p] w fun e w' => e = .returned (.int .i64 (sumW side zs p n)) ∧ Below w.heap.size w w' := by
  have HO := Lib.hid hok
  clear hok
  go_enter Try.func72, Try.ntmps72
  go_wp2_with fail
  go_loopw [7, 12] (fun s i wr => ∃ k : Nat, k ≤ n ∧ i = .int .i64 (k : Int) ∧ s = .int .i64 (sumW side zs p k) ∧ Below w.heap.size w wr) (fun _ i _ => n - (intOf i).toNat)
  case atStart => exact ⟨0, Nat.zero_le _, rfl, rfl, Below.refl _ _⟩
  case round =>
    obtain ⟨k, hk, rfl, rfl, hbel⟩ := hrel
    by_cases hlt : k < n
    · obtain ⟨b, o, rfl, hb, c0, c1, c2, c3⟩ := (hl.below hbel).row4 hlt
      obtain ⟨s0, s1⟩ := sumW_le (side := side) (p := p) HO.out k hk
      obtain ⟨q0, q1⟩ := ordB_qty (allO_at n k HO.out hlt)
      clear hl
      rcases Bool.eq_false_or_eq_true (metB side (num zs (k * 4 + 2)) p) with hm | hm
      · have HR : Hid (metB side (num zs (k * 4 + 2)) p = true) := Lib.hid hm
        have E1 : Hid (sumW side zs p (k + 1) = sumW side zs p k + num zs (k * 4 + 3)) := Lib.hid (by simp only [sumW, hm]; simp)
        clear hm
        generalize sumW side zs p k = s at *
        generalize num zs (k * 4 + 3) = qq at *
        go_wp2_with fail
        refine (auc_meetsI _ _ _ _).mono ?_
        rw [HR.out]
        rintro e w1 ⟨rfl, rfl⟩
        go_wp2_with fail
        go_roundw
        case rel => exact ⟨k + 1, by omega, by go_num, by rw [E1.out]; (first | done | go_num), hbel.alloc hbel.size _⟩
        case measure => simp [intOf]; omega
      · have HR : Hid (metB side (num zs (k * 4 + 2)) p = false) := Lib.hid hm
        have E1 : Hid (sumW side zs p (k + 1) = sumW side zs p k) := Lib.hid (by simp only [sumW, hm]; simp)
        clear hm
        generalize sumW side zs p k = s at *
        generalize num zs (k * 4 + 3) = qq at *
        go_wp2_with fail
        refine (auc_meetsI _ _ _ _).mono ?_
        rw [HR.out]
        rintro e w1 ⟨rfl, rfl⟩
        go_wp2_with fail
        go_roundw
        case rel => exact ⟨k + 1, by omega, by go_num, by rw [E1.out]; (first | done | go_num), hbel.alloc hbel.size _⟩
        case measure => simp [intOf]; omega
    · obtain rfl : k = n := by omega
      clear hl
      go_wp2_with fail
      go_ret
      exact ⟨rfl, hbel⟩
set_option maxHeartbeats 1600000 in
set_option maxRecDepth 100000 in
theorem auc_clearing (A : Option Addr) (n c : Nat) (za : List Int) (B : Option Addr) (m d : Nat) (zb : List Int) (p : Int) (w : World) (hl : Lst w w.heap.size 4 A n za) (hn : n ≤ 60) (hoa : allO za n = true) (hr : Lst w w.heap.size 4 B m zb) (hm : m ≤ 60) (hob : allO zb m = true) :
    Calls Try.prog 33 #[.slice A n c, .slice B m d, .int .i64 p] w fun e w' => e = .returned (.agg #[.int .i64 p, .int .i64 (min (sumW 1 za p n) (sumW 2 zb p m)), .int .i64 (max (sumW 1 za p n) (sumW 2 zb p m) - min (sumW 1 za p n) (sumW 2 zb p m))]) ∧ Below w.heap.size w w' := by
  obtain ⟨s0, s1⟩ := sumW_le (side := 1) (p := p) hoa n (Nat.le_refl _)
  obtain ⟨s2, s3⟩ := sumW_le (side := 2) (p := p) hob m (Nat.le_refl _)
  have HI := Lib.hid (fun w hl => auc_sumI A n c za 1 p w hl hn hoa)
  have HJ := Lib.hid (fun w hl => auc_sumI B m d zb 2 p w hl hm hob)
  clear hoa hob
  generalize sumW 1 za p n = sa at *
  generalize sumW 2 zb p m = sb at *
  have h0 : Below w.heap.size w (w.alloc (.cells #[.int .i64 0, .int .i64 0, .int .i64 0] 67)) := (Below.refl _ _).alloc (Nat.le_refl _) _
  have hk : (w.alloc (.cells #[.int .i64 0, .int .i64 0, .int .i64 0] 67)).heap[w.heap.size]? = some (.cells #[.int .i64 0, .int .i64 0, .int .i64 0] 67 (0, 0)) := heap_alloc_new w _
  have hs : w.heap.size < (w.alloc (.cells #[.int .i64 0, .int .i64 0, .int .i64 0] 67)).heap.size := by simp
  rcases (show sa < sb ∨ sa = sb ∨ sb < sa by omega) with h | rfl | h
  · rw [show min sa sb = sa by omega, show max sa sb = sb by omega]
    go_enter Try.func33, Try.ntmps33
    go_wp2_with fail
    generalize w.alloc (.cells #[.int .i64 0, .int .i64 0, .int .i64 0] 67) = w0 at *
    refine (HI.out w0 (hl.later h0)).mono ?_
    rintro e w1 ⟨rfl, hb1⟩
    have h1 := below_later h0 hb1
    have hk := (hb1.block _ hs).trans hk
    have hs := Nat.lt_of_lt_of_le hs hb1.size
    clear h0 hb1
    go_wp2_with fail
    refine (HJ.out w1 (hr.later h1)).mono ?_
    rintro e w2 ⟨rfl, hb2⟩
    have h2 := below_later h1 hb2
    have hk := (hb2.block _ hs).trans hk
    obtain ⟨c0, c1, c2, f0, f1, f2⟩ := auc_cell3 hk
    have HK := Lib.hid hk
    clear h1 hb2 hk hs
    go_wp2_with fail
    have r := auc_put3 (u0 := .int .i64 p) (u1 := .int .i64 sa) (u2 := .int .i64 (sb - sa)) HK.out
    obtain ⟨e0, e1, e2, _, _, _⟩ := auc_cell3 r
    refine bodyPost_ret (v := .agg #[.int .i64 p, .int .i64 sa, .int .i64 (sb - sa)]) (by simp [results, Try.results33, go_sem, e0, e1, e2]) rfl ⟨rfl, ?_⟩
    exact ((h2.setCell (p := ⟨w.heap.size, 0, none⟩) (Nat.le_refl _) _).setCell (p := ⟨w.heap.size, 1, none⟩) (Nat.le_refl _) _).setCell (p := ⟨w.heap.size, 2, none⟩) (Nat.le_refl _) _
  · rw [show min sa sa = sa by omega, show max sa sa = sa by omega, show sa - sa = 0 by omega]
    go_enter Try.func33, Try.ntmps33
    go_wp2_with fail
    generalize w.alloc (.cells #[.int .i64 0, .int .i64 0, .int .i64 0] 67) = w0 at *
    refine (HI.out w0 (hl.later h0)).mono ?_
    rintro e w1 ⟨rfl, hb1⟩
    have h1 := below_later h0 hb1
    have hk := (hb1.block _ hs).trans hk
    have hs := Nat.lt_of_lt_of_le hs hb1.size
    clear h0 hb1
    go_wp2_with fail
    refine (HJ.out w1 (hr.later h1)).mono ?_
    rintro e w2 ⟨rfl, hb2⟩
    have h2 := below_later h1 hb2
    have hk := (hb2.block _ hs).trans hk
    obtain ⟨c0, c1, c2, f0, f1, f2⟩ := auc_cell3 hk
    have HK := Lib.hid hk
    clear h1 hb2 hk hs
    go_wp2_with fail
    have r := auc_put3 (u0 := .int .i64 p) (u1 := .int .i64 sa) (u2 := .int .i64 0) HK.out
    obtain ⟨e0, e1, e2, _, _, _⟩ := auc_cell3 r
    refine bodyPost_ret (v := .agg #[.int .i64 p, .int .i64 sa, .int .i64 0]) (by simp [results, Try.results33, go_sem, e0, e1, e2]) rfl ⟨rfl, ?_⟩
    exact ((h2.setCell (p := ⟨w.heap.size, 0, none⟩) (Nat.le_refl _) _).setCell (p := ⟨w.heap.size, 1, none⟩) (Nat.le_refl _) _).setCell (p := ⟨w.heap.size, 2, none⟩) (Nat.le_refl _) _
  · rw [show min sa sb = sb by omega, show max sa sb = sa by omega]
    go_enter Try.func33, Try.ntmps33
    go_wp2_with fail
    generalize w.alloc (.cells #[.int .i64 0, .int .i64 0, .int .i64 0] 67) = w0 at *
    refine (HI.out w0 (hl.later h0)).mono ?_
    rintro e w1 ⟨rfl, hb1⟩
    have h1 := below_later h0 hb1
    have hk := (hb1.block _ hs).trans hk
    have hs := Nat.lt_of_lt_of_le hs hb1.size
    clear h0 hb1
    go_wp2_with fail
    refine (HJ.out w1 (hr.later h1)).mono ?_
    rintro e w2 ⟨rfl, hb2⟩
    have h2 := below_later h1 hb2
    have hk := (hb2.block _ hs).trans hk
    obtain ⟨c0, c1, c2, f0, f1, f2⟩ := auc_cell3 hk
    have HK := Lib.hid hk
    clear h1 hb2 hk hs
    go_wp2_with fail
    have r := auc_put3 (u0 := .int .i64 p) (u1 := .int .i64 sb) (u2 := .int .i64 (sa - sb)) HK.out
    obtain ⟨e0, e1, e2, _, _, _⟩ := auc_cell3 r
    refine bodyPost_ret (v := .agg #[.int .i64 p, .int .i64 sb, .int .i64 (sa - sb)]) (by simp [results, Try.results33, go_sem, e0, e1, e2]) rfl ⟨rfl, ?_⟩
    exact ((h2.setCell (p := ⟨w.heap.size, 0, none⟩) (Nat.le_refl _) _).setCell (p := ⟨w.heap.size, 1, none⟩) (Nat.le_refl _) _).setCell (p := ⟨w.heap.size, 2, none⟩) (Nat.le_refl _) _
end Go.Proofs.Ytfodkefaflpicab
