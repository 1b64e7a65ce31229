/-
  Filled, MtF, MtC.
-/
import Derived.Test.YtdjmejjponlfoaaGI
import Derived.Test.YtdjmejjponlfoaaGM
namespace Go.Proofs.Ytdjmejjponlfoaa
open Go.RowKit Wire

/-- record k of a list is right -/
def okAt (zs : List Int) (k : Nat) : Bool := recB (num zs (k * 8)) (num zs (k * 8 + 1)) (num zs (k * 8 + 2)) (num zs (k * 8 + 3)) (num zs (k * 8 + 4)) (num zs (k * 8 + 5)) (num zs (k * 8 + 6)) (num zs (k * 8 + 7))
/-- the first k records are right -/
def okTo (zs : List Int) : Nat → Bool
  | 0 => true
  | k + 1 => okTo zs k && okAt zs k
/-- record k fills the order -/
def fillAt (zs : List Int) (id : Int) (k : Nat) : Bool := (num zs (k * 8 + 1) == 3) && ((num zs (k * 8 + 4) == id) || (num zs (k * 8 + 5) == id))
/-- what the first k records fill -/
def sumTo (zs : List Int) (id : Int) : Nat → Int
  | 0 => 0
  | k + 1 => sumTo zs id k + if fillAt zs id k = true then num zs (k * 8 + 7) else 0
def filledI (zs : List Int) (n : Nat) (id : Int) : Int := if okTo zs n = true then sumTo zs id n else -1
theorem okTo_no {zs : List Int} {k : Nat} (h : okAt zs k = false) : ∀ n, k < n → okTo zs n = false
  | 0, hk => by omega
  | n + 1, hk => by
    rcases Nat.lt_or_ge k n with hlt | hge
    · simp [okTo, okTo_no h n hlt]
    · obtain rfl : k = n := by omega
      simp [okTo, h]
theorem okAt_qty {zs : List Int} {k : Nat} (h : okAt zs k = true) : 0 ≤ num zs (k * 8 + 7) ∧ num zs (k * 8 + 7) ≤ 1000000 := by
  have := rec_fits h
  omega
theorem okTo_step {zs : List Int} {k : Nat} (h : okTo zs k = true) (h1 : okAt zs k = true) : okTo zs (k + 1) = true := by simp [okTo, h, h1]
theorem okTo_at {zs : List Int} : ∀ n k, okTo zs n = true → k < n → okAt zs k = true
  | 0, k, _, hk => by omega
  | n + 1, k, h, hk => by
    simp only [okTo, Bool.and_eq_true] at h
    rcases Nat.lt_or_ge k n with hlt | hge
    · exact okTo_at n k h.1 hlt
    · obtain rfl : k = n := by omega
      exact h.2
theorem sumTo_le {zs : List Int} {id : Int} : ∀ k, okTo zs k = true → 0 ≤ sumTo zs id k ∧ sumTo zs id k ≤ 1000000 * k
  | 0, _ => by simp [sumTo]
  | k + 1, h => by
    simp only [okTo, Bool.and_eq_true] at h
    have h1 := sumTo_le (id := id) k h.1
    have h2 := okAt_qty h.2
    simp only [sumTo]
    split <;> omega
theorem filledI_yes {zs : List Int} {n : Nat} {id : Int} (h : okTo zs n = true) : filledI zs n id = sumTo zs id n := by
  simp [filledI, h]

set_option maxHeartbeats 1600000 in
set_option maxRecDepth 100000 in
theorem impl_recsOk (A : Option Addr) (n c : Nat) (zs : List Int) (w : World) (hl : Lst w w.heap.size 8 A n zs) (hn : n ≤ 1048576) :
    Calls Try.prog 50 #[.slice A n c] w fun e w' => e = .returned (.bool (okTo zs n)) ∧ Below w.heap.size w w' := by
  go_enter Try.func50, Try.ntmps50
  go_wp2_with fail
  go_loopw [7] (fun i wr => ∃ k : Nat, k ≤ n ∧ i = .int .i64 (k : Int) ∧ okTo zs k = true ∧ Below w.heap.size w wr) (fun i _ => n - (intOf i).toNat)
  case atStart => exact ⟨0, Nat.zero_le _, rfl, rfl, Below.refl _ _⟩
  case round =>
    obtain ⟨k, hk, rfl, hok, hbel⟩ := hrel
    by_cases hlt : k < n
    · obtain ⟨b, o, rfl, hb, c0, c1, c2, c3, c4, c5, c6, c7⟩ := (hl.below hbel).row8 hlt
      have hok2 := fun h => okTo_step (k := k) hok h
      have hno := fun h => @okTo_no zs k h n hlt
      have HA : Hid (okAt zs k = recB (num zs (k * 8)) (num zs (k * 8 + 1)) (num zs (k * 8 + 2)) (num zs (k * 8 + 3)) (num zs (k * 8 + 4)) (num zs (k * 8 + 5)) (num zs (k * 8 + 6)) (num zs (k * 8 + 7))) := Lib.hid rfl
      generalize num zs (k * 8) = z0 at *
      generalize num zs (k * 8 + 1) = z1 at *
      generalize num zs (k * 8 + 2) = z2 at *
      generalize num zs (k * 8 + 3) = z3 at *
      generalize num zs (k * 8 + 4) = z4 at *
      generalize num zs (k * 8 + 5) = z5 at *
      generalize num zs (k * 8 + 6) = z6 at *
      generalize num zs (k * 8 + 7) = z7 at *
      clear hl hok
      rcases Bool.eq_false_or_eq_true (okAt zs k) with hat | hat
      · have HO := Lib.hid (hok2 hat)
        have HR : Hid (recB z0 z1 z2 z3 z4 z5 z6 z7 = true) := Lib.hid (HA.out ▸ hat)
        clear hok2 hno hat HA
        go_wp2_with fail
        refine (impl_RecOk _ _ _ _ _ _ _ _ _).mono ?_
        rw [HR.out]
        rintro e w1 ⟨rfl, hb1⟩
        have hbel1 : Below w.heap.size w w1 := hbel.trans ((below_alloc hb1).mono hbel.size)
        clear hb1 hbel c0 c1 c2 c3 c4 c5 c6 c7
        go_wp2_with fail
        go_roundw
        case rel => exact ⟨k + 1, by omega, by go_num, HO.out, hbel1⟩
        case measure => simp [intOf]; omega
      · have hno := Lib.hid (hno hat)
        have HR : Hid (recB z0 z1 z2 z3 z4 z5 z6 z7 = false) := Lib.hid (HA.out ▸ hat)
        clear hok2 hat HA
        go_wp2_with fail
        refine (impl_RecOk _ _ _ _ _ _ _ _ _).mono ?_
        rw [HR.out]
        rintro e w1 ⟨rfl, hb1⟩
        go_wp2_with fail
        go_ret
        exact ⟨by rw [hno.out]; rfl, hbel.trans ((below_alloc hb1).mono hbel.size)⟩
    · obtain rfl : k = n := by omega
      have HN := Lib.hid hok
      clear hok hl
      go_wp2_with fail
      go_ret
      exact ⟨by rw [HN.out]; rfl, hbel⟩
/-- a record fills an order -/
def fillB (z1 z4 z5 id : Int) : Bool := (z1 == 3) && ((z4 == id) || (z5 == id))
theorem fillAt_eq (zs : List Int) (id : Int) (k : Nat) : fillAt zs id k = fillB (num zs (k * 8 + 1)) (num zs (k * 8 + 4)) (num zs (k * 8 + 5)) id := rfl
set_option maxHeartbeats 1600000 in
set_option maxRecDepth 100000 in
theorem impl_isFillOf (z0 z1 z2 z3 z4 z5 z6 z7 id : Int) (w : World) :
    Calls Try.prog 51 #[.agg #[.int .i64 z0, .int .i64 z1, .int .i64 z2, .int .i64 z3, .int .i64 z4, .int .i64 z5, .int .i64 z6, .int .i64 z7], .int .i64 id] w fun e w' => e = .returned (.bool (fillB z1 z4 z5 id)) ∧ Below w.heap.size w w' := by
  unfold fillB
  rcases Bool.eq_false_or_eq_true (z1 == 3) with t1 | t1
  · rcases Bool.eq_false_or_eq_true (z4 == id) with t2 | t2
    · go_enter Try.func51, Try.ntmps51
      go_wp2_with fail
      go_ret
      exact ⟨by simp [t1, t2], by go_grown⟩
    · rcases Bool.eq_false_or_eq_true (z5 == id) with t3 | t3
      all_goals
        go_enter Try.func51, Try.ntmps51
        go_wp2_with fail
        go_ret
        exact ⟨by simp [t1, t2, t3], by go_grown⟩
  · go_enter Try.func51, Try.ntmps51
    go_wp2_with fail
    go_ret
    exact ⟨by simp [t1], by go_grown⟩
set_option maxHeartbeats 1600000 in
set_option maxRecDepth 100000 in
theorem impl_Filled (A : Option Addr) (n c : Nat) (zs : List Int) (id : Int) (w : World) (hl : Lst w w.heap.size 8 A n zs) (hn : n ≤ 1048576) :
    Calls Try.prog 18 #[.slice A n c, .int .i64 id] w fun e w' => e = .returned (.int .i64 (filledI zs n id)) ∧ Below w.heap.size w w' := by
  rcases Bool.eq_false_or_eq_true (okTo zs n) with hall | hall
  · have HN := Lib.hid (filledI_yes (id := id) hall)
    have Hall := Lib.hid (fun k => okTo_at n k hall)
    have Hn := Lib.hid hall
    clear hall
    go_enter Try.func18, Try.ntmps18
    go_wp2_with fail
    refine (impl_recsOk _ _ _ zs _ hl hn).mono ?_
    rw [Hn.out]
    rintro e w0 ⟨rfl, hb0⟩
    go_wp2_with fail
    go_loopw [5, 13] (fun s i wr => ∃ k : Nat, k ≤ n ∧ i = .int .i64 (k : Int) ∧ s = .int .i64 (sumTo zs id k) ∧ okTo zs k = true ∧ Below w.heap.size w wr) (fun _ i _ => n - (intOf i).toNat)
    case atStart => exact ⟨0, Nat.zero_le _, rfl, rfl, rfl, hb0⟩
    case round =>
      obtain ⟨k, hk, rfl, rfl, hok, hbel⟩ := hrel
      by_cases hlt : k < n
      · obtain ⟨b, o, rfl, hb, c0, c1, c2, c3, c4, c5, c6, c7⟩ := (hl.below hbel).row8 hlt
        have HS := Lib.hid (show sumTo zs id (k + 1) = sumTo zs id k + if fillAt zs id k = true then num zs (k * 8 + 7) else 0 from rfl)
        have HF := Lib.hid (fillAt_eq zs id k)
        have hs := sumTo_le (id := id) k hok
        have hat := Hall.out k hlt
        have HO := Lib.hid (okTo_step (k := k) hok hat)
        have hq := okAt_qty hat
        generalize num zs (k * 8) = z0 at *
        generalize num zs (k * 8 + 1) = z1 at *
        generalize num zs (k * 8 + 2) = z2 at *
        generalize num zs (k * 8 + 3) = z3 at *
        generalize num zs (k * 8 + 4) = z4 at *
        generalize num zs (k * 8 + 5) = z5 at *
        generalize num zs (k * 8 + 6) = z6 at *
        generalize num zs (k * 8 + 7) = z7 at *
        clear hl hok hat Hall hb0
        rcases Bool.eq_false_or_eq_true (fillB z1 z4 z5 id) with t1 | t1
        all_goals
          have T1 := Lib.hid t1
          clear t1
          go_wp2_with fail
          refine (impl_isFillOf _ _ _ _ _ _ _ _ _ _).mono ?_
          rw [T1.out]
          rintro e w1 ⟨rfl, hb1⟩
          have e7 := box_cell hb1 7
          simp at e7
          have hbel1 : Below w.heap.size w w1 := hbel.trans ((below_alloc hb1).mono hbel.size)
          clear hb1 hbel c0 c1 c2 c3 c4 c5 c6 c7
          go_wp2_with fail
          go_roundw
          case rel => exact ⟨k + 1, by omega, by go_num, by rw [HS.out, HF.out, T1.out]; simp, HO.out, hbel1⟩
          case measure => simp [intOf]; omega
      · obtain rfl : k = n := by omega
        clear hok hl
        go_wp2_with fail
        go_ret
        exact ⟨by rw [HN.out]; rfl, hbel⟩
  · have HN : Hid (filledI zs n id = -1) := Lib.hid (by simp [filledI, hall])
    have Hn := Lib.hid hall
    clear hall
    go_enter Try.func18, Try.ntmps18
    go_wp2_with fail
    refine (impl_recsOk _ _ _ zs _ hl hn).mono ?_
    rw [Hn.out]
    rintro e w0 ⟨rfl, hb0⟩
    go_wp2_with fail
    go_ret
    exact ⟨by rw [HN.out]; rfl, hb0⟩
set_option maxHeartbeats 1600000 in
set_option maxRecDepth 100000 in
theorem l3Filled_any (A : Option Addr) (n c : Nat) (zs : List Int) (id : Int) (w : World) (hl : Lst w w.heap.size 8 A n zs) (hn : n ≤ 1048576) (hok : okTo zs n = true) :
    Calls Try.prog 75 #[.slice A n c, .int .i64 id] w fun e w' => e = .returned (.int .i64 (sumTo zs id n)) ∧ Below w.heap.size w w' := by
  have hall := Lib.hid (fun k => okTo_at n k hok)
  clear hok
  go_enter Try.func75, Try.ntmps75
  go_wp2_with fail
  go_loopw [5, 6] (fun s i wr => ∃ k : Nat, k ≤ n ∧ i = .int .i64 (k : Int) ∧ s = .int .i64 (sumTo zs id k) ∧ okTo zs k = true ∧ Below w.heap.size w wr) (fun _ i _ => n - (intOf i).toNat)
  case atStart => exact ⟨0, Nat.zero_le _, rfl, rfl, rfl, Below.refl _ _⟩
  case round =>
    obtain ⟨k, hk, rfl, rfl, hok, hbel⟩ := hrel
    by_cases hlt : k < n
    · obtain ⟨b, o, rfl, hb, c0, c1, c2, c3, c4, c5, c6, c7⟩ := (hl.below hbel).row8 hlt
      have HS := Lib.hid (show sumTo zs id (k + 1) = sumTo zs id k + if fillAt zs id k = true then num zs (k * 8 + 7) else 0 from rfl)
      have HF := Lib.hid (show fillAt zs id k = ((num zs (k * 8 + 1) == 3) && ((num zs (k * 8 + 4) == id) || (num zs (k * 8 + 5) == id))) from rfl)
      have hs := sumTo_le (id := id) k hok
      have hat := hall.out k hlt
      have HO := Lib.hid (okTo_step (k := k) hok hat)
      have hq := @okAt_qty zs k hat
      generalize num zs (k * 8) = z0 at *
      generalize num zs (k * 8 + 1) = z1 at *
      generalize num zs (k * 8 + 2) = z2 at *
      generalize num zs (k * 8 + 3) = z3 at *
      generalize num zs (k * 8 + 4) = z4 at *
      generalize num zs (k * 8 + 5) = z5 at *
      generalize num zs (k * 8 + 6) = z6 at *
      generalize num zs (k * 8 + 7) = z7 at *
      clear hl hok hat hall
      rcases Bool.eq_false_or_eq_true (z1 == 3) with t1 | t1
      · rcases Bool.eq_false_or_eq_true (z4 == id) with t2 | t2
        · go_wp2_with fail
          go_roundw
          case rel => exact ⟨k + 1, by omega, by go_num, by rw [HS.out, HF.out]; simp [t1, t2], HO.out, hbel⟩
          case measure => simp [intOf]; omega
        · rcases Bool.eq_false_or_eq_true (z5 == id) with t3 | t3
          · go_wp2_with fail
            go_roundw
            case rel => exact ⟨k + 1, by omega, by go_num, by rw [HS.out, HF.out]; simp [t1, t2, t3], HO.out, hbel⟩
            case measure => simp [intOf]; omega
          · go_wp2_with fail
            go_roundw
            case rel => exact ⟨k + 1, by omega, by go_num, by rw [HS.out, HF.out]; simp [t1, t2, t3], HO.out, hbel⟩
            case measure => simp [intOf]; omega
      · go_wp2_with fail
        go_roundw
        case rel => exact ⟨k + 1, by omega, by go_num, by rw [HS.out, HF.out]; simp [t1], HO.out, hbel⟩
        case measure => simp [intOf]; omega
    · obtain rfl : k = n := by omega
      go_wp2_with fail
      go_ret
      exact ⟨rfl, hbel⟩
end Go.Proofs.Ytdjmejjponlfoaa

namespace Go.Proofs.Ytdjmejjponlfoaa
open Go.RowKit Go.Shelf Wire

theorem fnum_lt {L M : List Int} {i : Nat} (h : i < L.length) : num (L ++ M) i = num L i := by
  unfold num
  rw [List.getD_eq_getElem?_getD, List.getD_eq_getElem?_getD, List.getElem?_append_left h]
theorem fnum_ge {L M : List Int} {j i : Nat} (h : L.length = j) : num (L ++ M) (j + i) = num M i := by
  subst h
  unfold num
  rw [List.getD_eq_getElem?_getD, List.getD_eq_getElem?_getD, List.getElem?_append_right (by omega)]
  congr 2
  omega
theorem okTo_app {R S : List Int} : ∀ N, N * 8 ≤ R.length → okTo (R ++ S) N = okTo R N
  | 0, _ => rfl
  | N + 1, h => by
    rw [okTo, okTo, okTo_app N (by omega)]
    congr 1
    unfold okAt
    rw [fnum_lt (by omega), fnum_lt (by omega), fnum_lt (by omega), fnum_lt (by omega), fnum_lt (by omega), fnum_lt (by omega), fnum_lt (by omega), fnum_lt (by omega)]
theorem okTo_snoc {R : List Int} {N : Nat} {a b c d e f g h : Int} (hl : R.length = N * 8) (hk : okTo R N = true) (hr : recB a b c d e f g h = true) : okTo (R ++ [a, b, c, d, e, f, g, h]) (N + 1) = true := by
  rw [okTo, okTo_app N (by omega), hk]
  unfold okAt
  have e0 := fnum_ge (M := [a, b, c, d, e, f, g, h]) (i := 0) hl
  rw [Nat.add_zero] at e0
  rw [e0, fnum_ge hl, fnum_ge hl, fnum_ge hl, fnum_ge hl, fnum_ge hl, fnum_ge hl, fnum_ge hl]
  simpa [num] using hr
/-- the orders of a list are right -/
def ordsOk (Z : List Int) (m : Nat) : Prop := ∀ k, k < m → ordB Z k = true
theorem ordsOk_tail {i a p c : Int} {t : List Int} {m : Nat} (h : ordsOk (i :: a :: p :: c :: t) (m + 1)) : ordsOk t m := fun k hk => by
  have := h (k + 1) (by omega)
  unfold ordB at *
  rw [show (k + 1) * 4 = k * 4 + 4 by omega] at this
  exact this
theorem can_ok {R : List Int} {N : Nat} {i a p c : Int} (hl : R.length = N * 8) (hk : okTo R N = true) (hi : 0 ≤ i ∧ i ≤ 1000000000) (ha : 0 ≤ a ∧ a ≤ 255) (hp : 0 ≤ p ∧ p ≤ 1000000) (hc : 0 ≤ c ∧ c ≤ 1000000) : okTo (R ++ canR i a p c) (N + 1) = true :=
  okTo_snoc hl hk (by simp [recB, inB]; omega)
theorem fil_ok {R : List Int} {N : Nat} {id a i p c : Int} (hl : R.length = N * 8) (hk : okTo R N = true) (hd : 0 ≤ id ∧ id ≤ 1000000000) (hi : 0 ≤ i ∧ i ≤ 1000000000) (ha : 0 ≤ a ∧ a ≤ 255) (hp : 0 ≤ p ∧ p ≤ 1000000) (hc : 0 ≤ c ∧ c ≤ 1000000) : okTo (R ++ filR id a i p c) (N + 1) = true :=
  okTo_snoc hl hk (by simp [recB, inB]; omega)
theorem mts_ok {side oi oa op mode : Int} (hi : 0 ≤ oi ∧ oi ≤ 1000000000) (ha : 0 ≤ oa ∧ oa ≤ 255) (hp : 0 ≤ op ∧ op ≤ 1000000) : ∀ (m : Nat) {Z R : List Int} {q : Int} (N : Nat), Z.length = m * 4 → ordsOk Z m → R.length = N * 8 → okTo R N = true → 0 ≤ q → q ≤ 1000000 → okTo (mtS side oi oa op mode Z R q).2.1 ((mtS side oi oa op mode Z R q).2.1.length / 8) = true
  | 0, Z, R, q, N, hZ, _, hR, hk, _, _ => by
    have : Z = [] := List.eq_nil_of_length_eq_zero (by omega)
    subst this
    rw [mtS_nil]
    rw [show R.length / 8 = N by omega]
    exact hk
  | m + 1, Z, R, q, N, hZ, ho, hR, hk, q0, q1 => by
    obtain ⟨t, e, ht, -⟩ := head4 hZ
    have h0 := ho 0 (by omega)
    simp only [ordB, inB, Bool.and_eq_true, decide_eq_true_eq, Nat.zero_mul, Nat.zero_add] at h0
    obtain ⟨⟨i1, i2⟩, ⟨a1, a2⟩, ⟨p1, p2⟩, c1, c2⟩ := h0
    have hto : ordsOk t m := ordsOk_tail (by rw [← e]; exact ho)
    generalize num Z 0 = i at *
    generalize num Z 1 = a at *
    generalize num Z 2 = p at *
    generalize num Z 3 = c at *
    rw [e, mtS_cons]
    have hl1 : ∀ {x y z u : Int}, (R ++ canR x y z u).length = (N + 1) * 8 := by intro x y z u; simp [canR, hR]; omega
    have hl2 : ∀ {x y z u v : Int}, (R ++ filR x y z u v).length = (N + 1) * 8 := by intro x y z u v; simp [filR, hR]; omega
    have k1 : okTo (R ++ canR i a p c) (N + 1) = true := can_ok hR hk ⟨by omega, by omega⟩ ⟨by omega, by omega⟩ ⟨by omega, by omega⟩ ⟨by omega, by omega⟩
    split
    · split
      · split
        · dsimp only
          rw [hl1, show (N + 1) * 8 / 8 = N + 1 by omega]
          exact can_ok hR hk hi ha hp ⟨q0, q1⟩
        · split
          · exact mts_ok hi ha hp m (N + 1) ht hto hl1 k1 q0 q1
          · dsimp only
            rw [show (R ++ canR i a p c ++ canR oi oa op q).length / 8 = N + 2 by simp [canR, hR]; omega]
            exact can_ok hl1 k1 hi ha hp ⟨q0, q1⟩
      · split
        · exact mts_ok hi ha hp m (N + 1) ht hto hl2 (fil_ok hR hk hi ⟨by omega, by omega⟩ ha ⟨by omega, by omega⟩ ⟨by omega, by omega⟩) (by omega) (by omega)
        · dsimp only
          rw [hl2, show (N + 1) * 8 / 8 = N + 1 by omega]
          exact fil_ok hR hk hi ⟨by omega, by omega⟩ ha ⟨by omega, by omega⟩ ⟨by omega, by omega⟩
    · dsimp only
      rw [show R.length / 8 = N by omega]
      exact hk
/-- the records are right when all is -/
theorem mrr_ok {za zb : List Int} {n m N : Nat} {side oi oa op oq mode : Int} (h : rgB za n zb m side oi oa op oq mode = true) (ha : za.length = n * 4) (hb : zb.length = m * 4) (hl : (mRR true side oi oa op oq mode za zb).length = N * 8) : okTo (mRR true side oi oa op oq mode za zb) N = true := by
  obtain ⟨hbk, _, hic, _, _, _, _, _, _, hq1, hq2⟩ := rg_parts h
  simp only [bookB, sideB, Bool.and_eq_true, decide_eq_true_eq] at hbk
  simp only [incB, inB, Bool.and_eq_true, decide_eq_true_eq] at hic
  have hoa : ordsOk za n := fun k hk => allO_at n k hbk.1.2.1 hk
  have hob : ordsOk zb m := fun k hk => allO_at m k hbk.2.1.2.1 hk
  have e : mRR true side oi oa op oq mode za zb = (mtS side oi oa op mode (if side = 1 then zb else za) [] oq).2.1 := by simp [mRR, mtA]
  rw [e] at hl ⊢
  have key : okTo (mtS side oi oa op mode (if side = 1 then zb else za) [] oq).2.1 ((mtS side oi oa op mode (if side = 1 then zb else za) [] oq).2.1.length / 8) = true := by
    split
    · exact mts_ok ⟨by omega, by omega⟩ ⟨by omega, by omega⟩ ⟨by omega, by omega⟩ m 0 hb hob rfl rfl (by omega) (by omega)
    · exact mts_ok ⟨by omega, by omega⟩ ⟨by omega, by omega⟩ ⟨by omega, by omega⟩ n 0 ha hoa rfl rfl (by omega) (by omega)
  rw [hl, show N * 8 / 8 = N by omega] at key
  exact key
/-- the order can be filled -/
def canB (rg : Bool) (side oi oa op oq mode : Int) (za zb : List Int) : Bool := rg && (sumTo (mRR true side oi oa op oq mode za zb) oi ((mRR true side oi oa op oq mode za zb).length / 8) == oq)
theorem own_eights {w : World} {base N : Nat} {v : Value} {zs : List Int} (h : w.ownsRow base 44 8 v N (nums zs)) : zs.length / 8 = N := by
  have := h.1
  rw [nums_length] at this
  omega
set_option linter.unusedSimpArgs false in
set_option maxHeartbeats 3200000 in
set_option maxRecDepth 100000 in
theorem spec_l3Can (A : Option Addr) (n c : Nat) (B : Option Addr) (m d : Nat) (za zb : List Int) (side oi oa op oq mode : Int) (w : World) (ha : Lst w w.heap.size 4 A n za) (hb : Lst w w.heap.size 4 B m zb) (hAn : A = none → n = 0 ∧ c = 0) (hBn : B = none → m = 0 ∧ d = 0) (hrg : rgB za n zb m side oi oa op oq mode = true) :
    Calls Try.prog 52 #[.agg #[.slice A n c, .slice B m d], .int .i64 side, .agg #[.int .i64 oi, .int .i64 oa, .int .i64 op, .int .i64 oq], .int .i64 mode] w fun e w' => e = .returned (.bool (canB true side oi oa op oq mode za zb)) ∧ Below w.heap.size w w' := by
  obtain ⟨k0, k1⟩ := two_blocks w (.cells #[.slice A n c, .slice B m d] 26) (.cells #[.int .i64 oi, .int .i64 oa, .int .i64 op, .int .i64 oq] 28)
  have hb0 : Below w.heap.size w ((w.alloc (.cells #[.slice A n c, .slice B m d] 26)).alloc (.cells #[.int .i64 oi, .int .i64 oa, .int .i64 op, .int .i64 oq] 28)) := ((Below.refl _ _).alloc (Nat.le_refl _) _).alloc (by simp) _
  have hok := fun N => mrr_ok (N := N) hrg ha.1 hb.1
  have HOK := Lib.hid hok
  clear hok
  obtain ⟨hbk, hso, hic, him, hkn, hn20, hm20, hqa, hqb, hoq1, hoq2⟩ := rg_parts hrg
  have hsd : side = 1 ∨ side = 2 := by
    rcases side_cases side with ⟨h, _⟩ | ⟨h, _⟩ | ⟨_, _, h⟩
    · exact .inl h
    · exact .inr h
    · rw [h] at hso; cases hso
  have HSD := Lib.hid hsd
  clear hbk hso hic him hkn hrg hsd
  go_enter Try.func52, Try.ntmps52
  go_upto_region 1 with fail
  have hA := ha.later hb0
  have hZb := hb.later hb0
  clear ha hb
  generalize (w.alloc (.cells #[.slice A n c, .slice B m d] 26)).alloc (.cells #[.int .i64 oi, .int .i64 oa, .int .i64 op, .int .i64 oq] 28) = w1 at *
  have hsd := HSD.out
  clear HSD
  replace k0 : w1.drew.heap[w.heap.size]? = _ := k0
  replace k1 : w1.drew.heap[w.heap.size + 1]? = _ := k1
  replace hb0 := hb0.drew
  replace hA := hA.later (Below.refl _ _).drew
  replace hZb := hZb.later (Below.refl _ _).drew
  obtain ⟨o0, o1, o2, o3⟩ := rrcell4 k1
  obtain ⟨b0, b1⟩ := rcell2 k0
  refine wp_region_held_drew (S := (fun w' => w'.cell? ⟨w.heap.size, 0, none⟩ = some (.slice A n c) ∧ w'.cell? ⟨w.heap.size, 1, none⟩ = some (.slice B m d) ∧ w'.cell? ⟨w.heap.size + 1, 0, none⟩ = some (.int .i64 oi) ∧ w'.cell? ⟨w.heap.size + 1, 1, none⟩ = some (.int .i64 oa) ∧ w'.cell? ⟨w.heap.size + 1, 2, none⟩ = some (.int .i64 op) ∧ w'.cell? ⟨w.heap.size + 1, 3, none⟩ = some (.int .i64 oq))) (by kernel_rfl) ?hSm164 (fun hHeld => ?restm164)
  case hSm164 => exact ⟨b0, b1, o0, o1, o2, o3⟩
  refine wpAnyH_take (i := 0) (oi := ?oim165) (v := ?vm165) ?him165 (by kernel_rfl) (by kernel_rfl) (by kernel_rfl) ?hQm165 (Or.inl ⟨?hwm165, ?hym165⟩) (by assumption) ?restm165
  case him165 => simp only [List.getElem?_toArray, List.getElem?_cons_succ, List.getElem?_cons_zero]; exact rfl
  case hQm165 => exact fun _ _ _ h => h
  case hwm165 => rfl
  case hym165 => ((intro w hSw; (try dsimp only at hSw); go_simp) <;> with_reducible rfl)
  try simp only [Act.put, List.setIfInBounds_toArray, List.set_cons_zero, List.set_cons_succ]
  refine wpAnyH_take (i := 2) (oi := ?oim166) (v := ?vm166) ?him166 (by kernel_rfl) (by kernel_rfl) (by kernel_rfl) ?hQm166 (Or.inl ⟨?hwm166, ?hym166⟩) (by assumption) ?restm166
  case him166 => simp only [List.getElem?_toArray, List.getElem?_cons_succ, List.getElem?_cons_zero]; exact rfl
  case hQm166 => exact fun _ _ _ h => h
  case hwm166 => rfl
  case hym166 => ((intro w hSw; (try dsimp only at hSw); go_simp) <;> with_reducible rfl)
  try simp only [Act.put, List.setIfInBounds_toArray, List.set_cons_zero, List.set_cons_succ]
  refine wpAnyH_take (i := 3) (oi := ?oim167) (v := ?vm167) ?him167 (by kernel_rfl) (by kernel_rfl) (by kernel_rfl) ?hQm167 (Or.inl ⟨?hwm167, ?hym167⟩) (by assumption) ?restm167
  case him167 => simp only [List.getElem?_toArray, List.getElem?_cons_succ, List.getElem?_cons_zero]; exact rfl
  case hQm167 => exact fun _ _ _ h => h
  case hwm167 => rfl
  case hym167 => ((intro w hSw; (try dsimp only at hSw); go_simp) <;> with_reducible rfl)
  try simp only [Act.put, List.setIfInBounds_toArray, List.set_cons_zero, List.set_cons_succ]
  refine wpAnyH_take (i := 4) (oi := ?oim168) (v := ?vm168) ?him168 (by kernel_rfl) (by kernel_rfl) (by kernel_rfl) ?hQm168 (Or.inl ⟨?hwm168, ?hym168⟩) (by assumption) ?restm168
  case him168 => simp only [List.getElem?_toArray, List.getElem?_cons_succ, List.getElem?_cons_zero]; exact rfl
  case hQm168 => exact fun _ _ _ h => h
  case hwm168 => rfl
  case hym168 => ((intro w hSw; (try dsimp only at hSw); go_simp) <;> with_reducible rfl)
  try simp only [Act.put, List.setIfInBounds_toArray, List.set_cons_zero, List.set_cons_succ]
  refine wpAnyH_ready (rs := [1, 10]) (by kernel_rfl) (by simp) ?_
  refine AllReadyH.cons (o := ?or169_1) ?hor169_1 (fun K hK => ?stepr169_1) (AllReadyH.cons (o := ?or169_10) ?hor169_10 (fun K hK => ?stepr169_10) (AllReadyH.nil))
  case hor169_1 => simp only [List.getElem?_toArray, List.getElem?_cons_succ, List.getElem?_cons_zero]; exact rfl
  case hor169_10 => simp only [List.getElem?_toArray, List.getElem?_cons_succ, List.getElem?_cons_zero]; exact rfl
  case stepr169_1 =>
    go_simp
    go_at_call 44
    refine (spec_l2CopyO A n c B m d za zb w1.drew hA hZb (by omega) (by omega) hAn hBn).mono ?_
    rintro e u170 ⟨⟨q1, q2, rfl, hC, _, _⟩, hbq⟩
    have hCb : w1.drew.heap.size ≤ u170.heap.size := hbq.size
    have hCw := hb0.size
    replace hC := hC.mono hCw
    obtain ⟨Q1, c1, Q2, c2, rfl, rfl⟩ := hC.slices
    have hkp := Lib.hid (fun (p : Addr) (hp : p.block < w1.drew.heap.size) => hbq.cell (p := p) hp)
    have hG0 := heap_lt k0
    have hG1 := heap_lt k1
    replace k0 := (hbq.block _ (heap_lt k0)).trans k0
    replace k1 := (hbq.block _ (heap_lt k1)).trans k1
    replace hb0 := hb0.trans (hbq.mono hb0.size)
    clear hbq hA hZb
    refine hK.out _ _ ?hSr169_1 (fun hHeld => ?restr169_1)
    case hSr169_1 => exact ⟨(hkp.out ⟨w.heap.size, 0, none⟩ hG0).trans hHeld.1, (hkp.out ⟨w.heap.size, 1, none⟩ hG0).trans hHeld.2.1, (hkp.out ⟨w.heap.size + 1, 0, none⟩ hG1).trans hHeld.2.2.1, (hkp.out ⟨w.heap.size + 1, 1, none⟩ hG1).trans hHeld.2.2.2.1, (hkp.out ⟨w.heap.size + 1, 2, none⟩ hG1).trans hHeld.2.2.2.2.1, (hkp.out ⟨w.heap.size + 1, 3, none⟩ hG1).trans hHeld.2.2.2.2.2⟩
    clear hK K
    try simp only [Act.put, List.setIfInBounds_toArray, List.set_cons_zero, List.set_cons_succ]
    refine wpAnyH_ready (rs := [5, 10]) (by kernel_rfl) (by simp) ?_
    refine AllReadyH.cons (o := ?or171_5) ?hor171_5 (fun K hK => ?stepr171_5) (AllReadyH.cons (o := ?or171_10) ?hor171_10 (fun K hK => ?stepr171_10) (AllReadyH.nil))
    case hor171_5 => simp only [List.getElem?_toArray, List.getElem?_cons_succ, List.getElem?_cons_zero]; exact rfl
    case hor171_10 => simp only [List.getElem?_toArray, List.getElem?_cons_succ, List.getElem?_cons_zero]; exact rfl
    case stepr171_5 =>
      go_simp
      go_at_call 43
      refine (spec_l3Match w.heap.size Q1 n c1 Q2 m c2 za zb side oi oa op oq mode u170 hsd hC hb0.size hn20 hm20 hqa hqb (by omega) hoq2).mono ?_
      rintro e u172 ⟨⟨r1, r2, rv, n1, n2, NR, rfl, hM, hMr, hNR⟩, hbq⟩
      have hkp := Lib.hid (fun (p : Addr) (hp : p.block < u170.heap.size) => hbq.cell (p := p) hp)
      have hG0 := heap_lt k0
      have hG1 := heap_lt k1
      replace k0 := (hbq.block _ (heap_lt k0)).trans k0
      replace k1 := (hbq.block _ (heap_lt k1)).trans k1
      replace hb0 := hb0.trans (hbq.mono hb0.size)
      obtain ⟨R1, d1, R2, d2, rfl, rfl⟩ := hM.slices
      obtain ⟨R3, d3, rfl, _, _⟩ := own_slice hMr
      clear hbq hC hCb
      refine hK.out _ _ ?hSr171_5 (fun hHeld => ?restr171_5)
      case hSr171_5 => exact ⟨(hkp.out ⟨w.heap.size, 0, none⟩ hG0).trans hHeld.1, (hkp.out ⟨w.heap.size, 1, none⟩ hG0).trans hHeld.2.1, (hkp.out ⟨w.heap.size + 1, 0, none⟩ hG1).trans hHeld.2.2.1, (hkp.out ⟨w.heap.size + 1, 1, none⟩ hG1).trans hHeld.2.2.2.1, (hkp.out ⟨w.heap.size + 1, 2, none⟩ hG1).trans hHeld.2.2.2.2.1, (hkp.out ⟨w.heap.size + 1, 3, none⟩ hG1).trans hHeld.2.2.2.2.2⟩
      clear hK K
      try simp only [Act.put, List.setIfInBounds_toArray, List.set_cons_zero, List.set_cons_succ]
      refine wpAnyH_take (i := 6) (oi := ?oim173) (v := ?vm173) ?him173 (by kernel_rfl) (by kernel_rfl) (by kernel_rfl) ?hQm173 (Or.inl ⟨?hwm173, ?hym173⟩) (by assumption) ?restm173
      case him173 => simp only [List.getElem?_toArray, List.getElem?_cons_succ, List.getElem?_cons_zero]; exact rfl
      case hQm173 => exact fun _ _ _ h => h
      case hwm173 => rfl
      case hym173 => ((intro w hSw; (try dsimp only at hSw); go_simp) <;> with_reducible rfl)
      try simp only [Act.put, List.setIfInBounds_toArray, List.set_cons_zero, List.set_cons_succ]
      refine wpAnyH_take (i := 7) (oi := ?oim174) (v := ?vm174) ?him174 (by kernel_rfl) (by kernel_rfl) (by kernel_rfl) ?hQm174 (Or.inl ⟨?hwm174, ?hym174⟩) (by assumption) ?restm174
      case him174 => simp only [List.getElem?_toArray, List.getElem?_cons_succ, List.getElem?_cons_zero]; exact rfl
      case hQm174 => exact fun _ _ _ h => h
      case hwm174 => rfl
      case hym174 => ((intro w hSw; (try dsimp only at hSw); go_simp) <;> with_reducible rfl)
      try simp only [Act.put, List.setIfInBounds_toArray, List.set_cons_zero, List.set_cons_succ]
      refine wpAnyH_take (i := 8) (oi := ?oim175) (v := ?vm175) ?him175 (by kernel_rfl) (by kernel_rfl) (by kernel_rfl) ?hQm175 (Or.inl ⟨?hwm175, ?hym175⟩) (by assumption) ?restm175
      case him175 => simp only [List.getElem?_toArray, List.getElem?_cons_succ, List.getElem?_cons_zero]; exact rfl
      case hQm175 => exact fun _ _ _ h => h
      case hwm175 => rfl
      case hym175 => ((intro w hSw; (try dsimp only at hSw); go_simp) <;> with_reducible rfl)
      try simp only [Act.put, List.setIfInBounds_toArray, List.set_cons_zero, List.set_cons_succ]
      refine wpAnyH_take (i := 9) (oi := ?oim176) (v := ?vm176) ?him176 (by kernel_rfl) (by kernel_rfl) (by kernel_rfl) ?hQm176 (Or.inl ⟨?hwm176, ?hym176⟩) (by assumption) ?restm176
      case him176 => simp only [List.getElem?_toArray, List.getElem?_cons_succ, List.getElem?_cons_zero]; exact rfl
      case hQm176 => exact fun _ _ _ h => h
      case hwm176 => rfl
      case hym176 => ((intro w hSw; (try dsimp only at hSw); go_simp) <;> with_reducible rfl)
      try simp only [Act.put, List.setIfInBounds_toArray, List.set_cons_zero, List.set_cons_succ]
      refine wpAnyH_ready (rs := [10]) (by kernel_rfl) (by simp) ?_
      refine AllReadyH.cons (o := ?or177_10) ?hor177_10 (fun K hK => ?stepr177_10) (AllReadyH.nil)
      case hor177_10 => simp only [List.getElem?_toArray, List.getElem?_cons_succ, List.getElem?_cons_zero]; exact rfl
      case stepr177_10 =>
        go_simp
        have hbq : Below u172.heap.size u172 (u172.alloc (.cells #[.slice none 0 0, .slice none 0 0] 26)) := (Below.refl u172.heap.size u172).alloc (Nat.le_refl _) (.cells #[.slice none 0 0, .slice none 0 0] 26)
        have hGX : w.heap.size + 1 < u172.heap.size := heap_lt k1
        have hkp := Lib.hid (fun (p : Addr) (hp : p.block < u172.heap.size) => hbq.cell (p := p) hp)
        have hG0 := heap_lt k0
        have hG1 := heap_lt k1
        replace k0 := (hbq.block _ (heap_lt k0)).trans k0
        replace k1 := (hbq.block _ (heap_lt k1)).trans k1
        replace hb0 := hb0.trans (hbq.mono hb0.size)
        replace hM := hM.below hbq
        replace hMr := own_below hMr hbq
        have kx := show (u172.alloc (.cells #[.slice none 0 0, .slice none 0 0] 26)).heap[u172.heap.size]? = _ from heap_alloc_new u172 (.cells #[.slice none 0 0, .slice none 0 0] 26)
        generalize u172.alloc (.cells #[.slice none 0 0, .slice none 0 0] 26) = ua178 at *
        generalize u172.heap.size = gx at *
        clear hbq
        refine hK.out _ _ ?hSr177_10 (fun hHeld => ?restr177_10)
        case hSr177_10 => exact ⟨(hkp.out ⟨w.heap.size, 0, none⟩ hG0).trans hHeld.1, (hkp.out ⟨w.heap.size, 1, none⟩ hG0).trans hHeld.2.1, (hkp.out ⟨w.heap.size + 1, 0, none⟩ hG1).trans hHeld.2.2.1, (hkp.out ⟨w.heap.size + 1, 1, none⟩ hG1).trans hHeld.2.2.2.1, (hkp.out ⟨w.heap.size + 1, 2, none⟩ hG1).trans hHeld.2.2.2.2.1, (hkp.out ⟨w.heap.size + 1, 3, none⟩ hG1).trans hHeld.2.2.2.2.2⟩
        clear hK K
        try simp only [Act.put, List.setIfInBounds_toArray, List.set_cons_zero, List.set_cons_succ]
        refine wpAnyH_ready (rs := [11]) (by kernel_rfl) (by simp) ?_
        refine AllReadyH.cons (o := ?or180_11) ?hor180_11 (fun K hK => ?stepr180_11) (AllReadyH.nil)
        case hor180_11 => simp only [List.getElem?_toArray, List.getElem?_cons_succ, List.getElem?_cons_zero]; exact rfl
        case stepr180_11 =>
          obtain ⟨y0, y1⟩ := rcell2 kx
          have z0 := mfree kx 0
          have z1 := mfree kx 1
          go_simp
          clear y0 y1 z0 z1
          have hq0 : gx ≠ w.heap.size := by omega
          have hq1 : gx ≠ w.heap.size + 1 := by omega
          refine hK.out _ _ ?hSr180_11 (fun hHeld => ?restr180_11)
          case hSr180_11 => exact ⟨(set2_far hq0).trans hHeld.1, (set2_far hq0).trans hHeld.2.1, (set2_far hq1).trans hHeld.2.2.1, (set2_far hq1).trans hHeld.2.2.2.1, (set2_far hq1).trans hHeld.2.2.2.2.1, (set2_far hq1).trans hHeld.2.2.2.2.2⟩
          clear hK K
          try simp only [Act.put, List.setIfInBounds_toArray, List.set_cons_zero, List.set_cons_succ]
          refine wpAnyH_take (i := 12) (oi := ?oim181) (v := ?vm181) ?him181 (by kernel_rfl) (by kernel_rfl) (by kernel_rfl) ?hQm181 (Or.inl ⟨?hwm181, ?hym181⟩) (by assumption) ?restm181
          case him181 => simp only [List.getElem?_toArray, List.getElem?_cons_succ, List.getElem?_cons_zero]; exact rfl
          case hQm181 => exact fun _ _ _ h => h
          case hwm181 => rfl
          case hym181 => ((intro w hSw; (try dsimp only at hSw); go_simp) <;> with_reducible rfl)
          try simp only [Act.put, List.setIfInBounds_toArray, List.set_cons_zero, List.set_cons_succ]
          refine wpAnyH_take (i := 13) (oi := ?oim182) (v := ?vm182) ?him182 (by kernel_rfl) (by kernel_rfl) (by kernel_rfl) ?hQm182 (Or.inl ⟨?hwm182, ?hym182⟩) (by assumption) ?restm182
          case him182 => simp only [List.getElem?_toArray, List.getElem?_cons_succ, List.getElem?_cons_zero]; exact rfl
          case hQm182 => exact fun _ _ _ h => h
          case hwm182 => rfl
          case hym182 => ((intro w hSw; (try dsimp only at hSw); go_simp) <;> with_reducible rfl)
          try simp only [Act.put, List.setIfInBounds_toArray, List.set_cons_zero, List.set_cons_succ]
          refine wpAnyH_done (by kernel_rfl) ?_ _
          clear hHeld b0 b1 o0 o1 o2 o3
          have hbx := (hb0.setCell (p := ⟨gx, 0, none⟩) (show w.heap.size ≤ gx by omega) (.slice R1 n1 d1)).setCell (p := ⟨gx, 1, none⟩) (show w.heap.size ≤ gx by omega) (.slice R2 n2 d2)
          have hMrx := own_set_kind (i := 1) (u := (.slice R2 n2 d2)) (own_set_kind (i := 0) (u := (.slice R1 n1 d1)) hMr kx (by decide)) (heap_set0 kx) (by decide)
          have k1x := mset2_other (u := (.slice R1 n1 d1)) (v := (.slice R2 n2 d2)) k1 (show w.heap.size + 1 ≠ gx by omega)
          clear hM hMr kx hb0 k0 k1
          generalize ((ua178.setCell ⟨gx, 0, none⟩ (.slice R1 n1 d1)).setCell ⟨gx, 1, none⟩ (.slice R2 n2 d2)) = wz at *
          have h8 := own_eights hMrx
          have H8 := Lib.hid h8
          clear h8
          have hokN := HOK.out NR (by have := hMrx.1; rw [nums_length] at this; omega)
          obtain ⟨o0, o1, o2, o3⟩ := rrcell4 k1x
          go_upto_region 2 with fail
          refine wp_region_held_drew (S := (fun w' => w'.cell? ⟨w.heap.size + 1, 0, none⟩ = some (.int .i64 oi) ∧ w'.cell? ⟨w.heap.size + 1, 3, none⟩ = some (.int .i64 oq))) (by kernel_rfl) ?hSm183 (fun hHeld => ?restm183)
          case hSm183 => exact ⟨o0, o3⟩
          refine wpAnyH_take (i := 0) (oi := ?oim184) (v := ?vm184) ?him184 (by kernel_rfl) (by kernel_rfl) (by kernel_rfl) ?hQm184 (Or.inl ⟨?hwm184, ?hym184⟩) (by assumption) ?restm184
          case him184 => simp only [List.getElem?_toArray, List.getElem?_cons_succ, List.getElem?_cons_zero]; exact rfl
          case hQm184 => exact fun _ _ _ h => h
          case hwm184 => rfl
          case hym184 => ((intro w hSw; (try dsimp only at hSw); go_simp) <;> with_reducible rfl)
          try simp only [Act.put, List.setIfInBounds_toArray, List.set_cons_zero, List.set_cons_succ]
          refine wpAnyH_take (i := 1) (oi := ?oim185) (v := ?vm185) ?him185 (by kernel_rfl) (by kernel_rfl) (by kernel_rfl) ?hQm185 (Or.inl ⟨?hwm185, ?hym185⟩) (by assumption) ?restm185
          case him185 => simp only [List.getElem?_toArray, List.getElem?_cons_succ, List.getElem?_cons_zero]; exact rfl
          case hQm185 => exact fun _ _ _ h => h
          case hwm185 => rfl
          case hym185 => ((intro w hSw; (try dsimp only at hSw); go_simp) <;> with_reducible rfl)
          try simp only [Act.put, List.setIfInBounds_toArray, List.set_cons_zero, List.set_cons_succ]
          refine wpAnyH_take (i := 2) (oi := ?oim186) (v := ?vm186) ?him186 (by kernel_rfl) (by kernel_rfl) (by kernel_rfl) ?hQm186 (Or.inl ⟨?hwm186, ?hym186⟩) (by assumption) ?restm186
          case him186 => simp only [List.getElem?_toArray, List.getElem?_cons_succ, List.getElem?_cons_zero]; exact rfl
          case hQm186 => exact fun _ _ _ h => h
          case hwm186 => rfl
          case hym186 => ((intro w hSw; (try dsimp only at hSw); go_simp) <;> with_reducible rfl)
          try simp only [Act.put, List.setIfInBounds_toArray, List.set_cons_zero, List.set_cons_succ]
          refine wpAnyH_take (i := 4) (oi := ?oim187) (v := ?vm187) ?him187 (by kernel_rfl) (by kernel_rfl) (by kernel_rfl) ?hQm187 (Or.inl ⟨?hwm187, ?hym187⟩) (by assumption) ?restm187
          case him187 => simp only [List.getElem?_toArray, List.getElem?_cons_succ, List.getElem?_cons_zero]; exact rfl
          case hQm187 => exact fun _ _ _ h => h
          case hwm187 => rfl
          case hym187 => ((intro w hSw; (try dsimp only at hSw); go_simp) <;> with_reducible rfl)
          try simp only [Act.put, List.setIfInBounds_toArray, List.set_cons_zero, List.set_cons_succ]
          refine wpAnyH_take (i := 5) (oi := ?oim188) (v := ?vm188) ?him188 (by kernel_rfl) (by kernel_rfl) (by kernel_rfl) ?hQm188 (Or.inl ⟨?hwm188, ?hym188⟩) (by assumption) ?restm188
          case him188 => simp only [List.getElem?_toArray, List.getElem?_cons_succ, List.getElem?_cons_zero]; exact rfl
          case hQm188 => exact fun _ _ _ h => h
          case hwm188 => rfl
          case hym188 => ((intro w hSw; (try dsimp only at hSw); go_simp) <;> with_reducible rfl)
          try simp only [Act.put, List.setIfInBounds_toArray, List.set_cons_zero, List.set_cons_succ]
          refine wpAnyH_ready (rs := [3]) (by kernel_rfl) (by simp) ?_
          refine AllReadyH.cons (o := ?or189_3) ?hor189_3 (fun K hK => ?stepr189_3) (AllReadyH.nil)
          case hor189_3 => simp only [List.getElem?_toArray, List.getElem?_cons_succ, List.getElem?_cons_zero]; exact rfl
          case stepr189_3 =>
            go_simp
            go_at_call 75
            refine (l3Filled_any R3 NR d3 _ oi wz.drew (Lst.of_own (hMrx.drew)) (by omega) hokN).mono ?_
            rintro e wf ⟨rfl, hbf⟩
            have hkp := Lib.hid (fun (p : Addr) (hp : p.block < wz.heap.size) => hbf.cell (p := p) hp)
            have HBF : Hid (Below wz.heap.size wz.drew wf) := Lib.hid hbf
            clear hbf
            refine hK.out _ _ ?hSr189_3 (fun hHeld => ?restr189_3)
            case hSr189_3 => exact ⟨(hkp.out ⟨w.heap.size + 1, 0, none⟩ (heap_lt k1x)).trans hHeld.1, (hkp.out ⟨w.heap.size + 1, 3, none⟩ (heap_lt k1x)).trans hHeld.2⟩
            clear hK K
            try simp only [Act.put, List.setIfInBounds_toArray, List.set_cons_zero, List.set_cons_succ]
            refine wpAnyH_take (i := 6) (oi := ?oim190) (v := ?vm190) ?him190 (by kernel_rfl) (by kernel_rfl) (by kernel_rfl) ?hQm190 (Or.inl ⟨?hwm190, ?hym190⟩) (by assumption) ?restm190
            case him190 => simp only [List.getElem?_toArray, List.getElem?_cons_succ, List.getElem?_cons_zero]; exact rfl
            case hQm190 => exact fun _ _ _ h => h
            case hwm190 => rfl
            case hym190 => ((intro w hSw; (try dsimp only at hSw); go_simp) <;> with_reducible rfl)
            try simp only [Act.put, List.setIfInBounds_toArray, List.set_cons_zero, List.set_cons_succ]
            refine wpAnyH_take (i := 7) (oi := ?oim191) (v := ?vm191) ?him191 (by kernel_rfl) (by kernel_rfl) (by kernel_rfl) ?hQm191 (Or.inl ⟨?hwm191, ?hym191⟩) (by assumption) ?restm191
            case him191 => simp only [List.getElem?_toArray, List.getElem?_cons_succ, List.getElem?_cons_zero]; exact rfl
            case hQm191 => exact fun _ _ _ h => h
            case hwm191 => rfl
            case hym191 => ((intro w hSw; (try dsimp only at hSw); go_simp) <;> with_reducible rfl)
            try simp only [Act.put, List.setIfInBounds_toArray, List.set_cons_zero, List.set_cons_succ]
            refine wpAnyH_done (by kernel_rfl) ?_ _
            clear hHeld o0 o1 o2 o3
            go_wp2_with fail
            go_ret
            exact ⟨by rw [canB, H8.out, Bool.true_and]; rfl, hbx.trans ((show Below wz.heap.size wz wf from ⟨HBF.out.os, HBF.out.tape, HBF.out.output, HBF.out.size, HBF.out.block⟩).mono hbx.size)⟩
    case stepr171_10 =>
      go_simp
      have hbq : Below u170.heap.size u170 (u170.alloc (.cells #[.slice none 0 0, .slice none 0 0] 26)) := (Below.refl u170.heap.size u170).alloc (Nat.le_refl _) (.cells #[.slice none 0 0, .slice none 0 0] 26)
      have hGX : w.heap.size + 1 < u170.heap.size := heap_lt k1
      have hkp := Lib.hid (fun (p : Addr) (hp : p.block < u170.heap.size) => hbq.cell (p := p) hp)
      have hG0 := heap_lt k0
      have hG1 := heap_lt k1
      replace k0 := (hbq.block _ (heap_lt k0)).trans k0
      replace k1 := (hbq.block _ (heap_lt k1)).trans k1
      replace hb0 := hb0.trans (hbq.mono hb0.size)
      replace hC := hC.below hbq
      replace hCb := Nat.le_trans hCb hbq.size
      have kx := show (u170.alloc (.cells #[.slice none 0 0, .slice none 0 0] 26)).heap[u170.heap.size]? = _ from heap_alloc_new u170 (.cells #[.slice none 0 0, .slice none 0 0] 26)
      generalize u170.alloc (.cells #[.slice none 0 0, .slice none 0 0] 26) = ua192 at *
      generalize u170.heap.size = gx at *
      clear hbq
      refine hK.out _ _ ?hSr171_10 (fun hHeld => ?restr171_10)
      case hSr171_10 => exact ⟨(hkp.out ⟨w.heap.size, 0, none⟩ hG0).trans hHeld.1, (hkp.out ⟨w.heap.size, 1, none⟩ hG0).trans hHeld.2.1, (hkp.out ⟨w.heap.size + 1, 0, none⟩ hG1).trans hHeld.2.2.1, (hkp.out ⟨w.heap.size + 1, 1, none⟩ hG1).trans hHeld.2.2.2.1, (hkp.out ⟨w.heap.size + 1, 2, none⟩ hG1).trans hHeld.2.2.2.2.1, (hkp.out ⟨w.heap.size + 1, 3, none⟩ hG1).trans hHeld.2.2.2.2.2⟩
      clear hK K
      try simp only [Act.put, List.setIfInBounds_toArray, List.set_cons_zero, List.set_cons_succ]
      refine wpAnyH_ready (rs := [5]) (by kernel_rfl) (by simp) ?_
      refine AllReadyH.cons (o := ?or194_5) ?hor194_5 (fun K hK => ?stepr194_5) (AllReadyH.nil)
      case hor194_5 => simp only [List.getElem?_toArray, List.getElem?_cons_succ, List.getElem?_cons_zero]; exact rfl
      case stepr194_5 =>
        go_simp
        go_at_call 43
        refine (spec_l3Match w.heap.size Q1 n c1 Q2 m c2 za zb side oi oa op oq mode ua192 hsd hC hb0.size hn20 hm20 hqa hqb (by omega) hoq2).mono ?_
        rintro e u195 ⟨⟨r1, r2, rv, n1, n2, NR, rfl, hM, hMr, hNR⟩, hbq⟩
        have hkp := Lib.hid (fun (p : Addr) (hp : p.block < ua192.heap.size) => hbq.cell (p := p) hp)
        have hG0 := heap_lt k0
        have hG1 := heap_lt k1
        replace k0 := (hbq.block _ (heap_lt k0)).trans k0
        replace k1 := (hbq.block _ (heap_lt k1)).trans k1
        replace hb0 := hb0.trans (hbq.mono hb0.size)
        replace kx := (hbq.block _ (heap_lt kx)).trans kx
        obtain ⟨R1, d1, R2, d2, rfl, rfl⟩ := hM.slices
        obtain ⟨R3, d3, rfl, _, _⟩ := own_slice hMr
        clear hbq hC hCb
        refine hK.out _ _ ?hSr194_5 (fun hHeld => ?restr194_5)
        case hSr194_5 => exact ⟨(hkp.out ⟨w.heap.size, 0, none⟩ hG0).trans hHeld.1, (hkp.out ⟨w.heap.size, 1, none⟩ hG0).trans hHeld.2.1, (hkp.out ⟨w.heap.size + 1, 0, none⟩ hG1).trans hHeld.2.2.1, (hkp.out ⟨w.heap.size + 1, 1, none⟩ hG1).trans hHeld.2.2.2.1, (hkp.out ⟨w.heap.size + 1, 2, none⟩ hG1).trans hHeld.2.2.2.2.1, (hkp.out ⟨w.heap.size + 1, 3, none⟩ hG1).trans hHeld.2.2.2.2.2⟩
        clear hK K
        try simp only [Act.put, List.setIfInBounds_toArray, List.set_cons_zero, List.set_cons_succ]
        refine wpAnyH_take (i := 6) (oi := ?oim196) (v := ?vm196) ?him196 (by kernel_rfl) (by kernel_rfl) (by kernel_rfl) ?hQm196 (Or.inl ⟨?hwm196, ?hym196⟩) (by assumption) ?restm196
        case him196 => simp only [List.getElem?_toArray, List.getElem?_cons_succ, List.getElem?_cons_zero]; exact rfl
        case hQm196 => exact fun _ _ _ h => h
        case hwm196 => rfl
        case hym196 => ((intro w hSw; (try dsimp only at hSw); go_simp) <;> with_reducible rfl)
        try simp only [Act.put, List.setIfInBounds_toArray, List.set_cons_zero, List.set_cons_succ]
        refine wpAnyH_take (i := 7) (oi := ?oim197) (v := ?vm197) ?him197 (by kernel_rfl) (by kernel_rfl) (by kernel_rfl) ?hQm197 (Or.inl ⟨?hwm197, ?hym197⟩) (by assumption) ?restm197
        case him197 => simp only [List.getElem?_toArray, List.getElem?_cons_succ, List.getElem?_cons_zero]; exact rfl
        case hQm197 => exact fun _ _ _ h => h
        case hwm197 => rfl
        case hym197 => ((intro w hSw; (try dsimp only at hSw); go_simp) <;> with_reducible rfl)
        try simp only [Act.put, List.setIfInBounds_toArray, List.set_cons_zero, List.set_cons_succ]
        refine wpAnyH_take (i := 8) (oi := ?oim198) (v := ?vm198) ?him198 (by kernel_rfl) (by kernel_rfl) (by kernel_rfl) ?hQm198 (Or.inl ⟨?hwm198, ?hym198⟩) (by assumption) ?restm198
        case him198 => simp only [List.getElem?_toArray, List.getElem?_cons_succ, List.getElem?_cons_zero]; exact rfl
        case hQm198 => exact fun _ _ _ h => h
        case hwm198 => rfl
        case hym198 => ((intro w hSw; (try dsimp only at hSw); go_simp) <;> with_reducible rfl)
        try simp only [Act.put, List.setIfInBounds_toArray, List.set_cons_zero, List.set_cons_succ]
        refine wpAnyH_take (i := 9) (oi := ?oim199) (v := ?vm199) ?him199 (by kernel_rfl) (by kernel_rfl) (by kernel_rfl) ?hQm199 (Or.inl ⟨?hwm199, ?hym199⟩) (by assumption) ?restm199
        case him199 => simp only [List.getElem?_toArray, List.getElem?_cons_succ, List.getElem?_cons_zero]; exact rfl
        case hQm199 => exact fun _ _ _ h => h
        case hwm199 => rfl
        case hym199 => ((intro w hSw; (try dsimp only at hSw); go_simp) <;> with_reducible rfl)
        try simp only [Act.put, List.setIfInBounds_toArray, List.set_cons_zero, List.set_cons_succ]
        refine wpAnyH_ready (rs := [11]) (by kernel_rfl) (by simp) ?_
        refine AllReadyH.cons (o := ?or200_11) ?hor200_11 (fun K hK => ?stepr200_11) (AllReadyH.nil)
        case hor200_11 => simp only [List.getElem?_toArray, List.getElem?_cons_succ, List.getElem?_cons_zero]; exact rfl
        case stepr200_11 =>
          obtain ⟨y0, y1⟩ := rcell2 kx
          have z0 := mfree kx 0
          have z1 := mfree kx 1
          go_simp
          clear y0 y1 z0 z1
          have hq0 : gx ≠ w.heap.size := by omega
          have hq1 : gx ≠ w.heap.size + 1 := by omega
          refine hK.out _ _ ?hSr200_11 (fun hHeld => ?restr200_11)
          case hSr200_11 => exact ⟨(set2_far hq0).trans hHeld.1, (set2_far hq0).trans hHeld.2.1, (set2_far hq1).trans hHeld.2.2.1, (set2_far hq1).trans hHeld.2.2.2.1, (set2_far hq1).trans hHeld.2.2.2.2.1, (set2_far hq1).trans hHeld.2.2.2.2.2⟩
          clear hK K
          try simp only [Act.put, List.setIfInBounds_toArray, List.set_cons_zero, List.set_cons_succ]
          refine wpAnyH_take (i := 12) (oi := ?oim201) (v := ?vm201) ?him201 (by kernel_rfl) (by kernel_rfl) (by kernel_rfl) ?hQm201 (Or.inl ⟨?hwm201, ?hym201⟩) (by assumption) ?restm201
          case him201 => simp only [List.getElem?_toArray, List.getElem?_cons_succ, List.getElem?_cons_zero]; exact rfl
          case hQm201 => exact fun _ _ _ h => h
          case hwm201 => rfl
          case hym201 => ((intro w hSw; (try dsimp only at hSw); go_simp) <;> with_reducible rfl)
          try simp only [Act.put, List.setIfInBounds_toArray, List.set_cons_zero, List.set_cons_succ]
          refine wpAnyH_take (i := 13) (oi := ?oim202) (v := ?vm202) ?him202 (by kernel_rfl) (by kernel_rfl) (by kernel_rfl) ?hQm202 (Or.inl ⟨?hwm202, ?hym202⟩) (by assumption) ?restm202
          case him202 => simp only [List.getElem?_toArray, List.getElem?_cons_succ, List.getElem?_cons_zero]; exact rfl
          case hQm202 => exact fun _ _ _ h => h
          case hwm202 => rfl
          case hym202 => ((intro w hSw; (try dsimp only at hSw); go_simp) <;> with_reducible rfl)
          try simp only [Act.put, List.setIfInBounds_toArray, List.set_cons_zero, List.set_cons_succ]
          refine wpAnyH_done (by kernel_rfl) ?_ _
          clear hHeld b0 b1 o0 o1 o2 o3
          have hbx := (hb0.setCell (p := ⟨gx, 0, none⟩) (show w.heap.size ≤ gx by omega) (.slice R1 n1 d1)).setCell (p := ⟨gx, 1, none⟩) (show w.heap.size ≤ gx by omega) (.slice R2 n2 d2)
          have hMrx := own_set_kind (i := 1) (u := (.slice R2 n2 d2)) (own_set_kind (i := 0) (u := (.slice R1 n1 d1)) hMr kx (by decide)) (heap_set0 kx) (by decide)
          have k1x := mset2_other (u := (.slice R1 n1 d1)) (v := (.slice R2 n2 d2)) k1 (show w.heap.size + 1 ≠ gx by omega)
          clear hM hMr kx hb0 k0 k1
          generalize ((u195.setCell ⟨gx, 0, none⟩ (.slice R1 n1 d1)).setCell ⟨gx, 1, none⟩ (.slice R2 n2 d2)) = wz at *
          have h8 := own_eights hMrx
          have H8 := Lib.hid h8
          clear h8
          have hokN := HOK.out NR (by have := hMrx.1; rw [nums_length] at this; omega)
          obtain ⟨o0, o1, o2, o3⟩ := rrcell4 k1x
          go_upto_region 2 with fail
          refine wp_region_held_drew (S := (fun w' => w'.cell? ⟨w.heap.size + 1, 0, none⟩ = some (.int .i64 oi) ∧ w'.cell? ⟨w.heap.size + 1, 3, none⟩ = some (.int .i64 oq))) (by kernel_rfl) ?hSm203 (fun hHeld => ?restm203)
          case hSm203 => exact ⟨o0, o3⟩
          refine wpAnyH_take (i := 0) (oi := ?oim204) (v := ?vm204) ?him204 (by kernel_rfl) (by kernel_rfl) (by kernel_rfl) ?hQm204 (Or.inl ⟨?hwm204, ?hym204⟩) (by assumption) ?restm204
          case him204 => simp only [List.getElem?_toArray, List.getElem?_cons_succ, List.getElem?_cons_zero]; exact rfl
          case hQm204 => exact fun _ _ _ h => h
          case hwm204 => rfl
          case hym204 => ((intro w hSw; (try dsimp only at hSw); go_simp) <;> with_reducible rfl)
          try simp only [Act.put, List.setIfInBounds_toArray, List.set_cons_zero, List.set_cons_succ]
          refine wpAnyH_take (i := 1) (oi := ?oim205) (v := ?vm205) ?him205 (by kernel_rfl) (by kernel_rfl) (by kernel_rfl) ?hQm205 (Or.inl ⟨?hwm205, ?hym205⟩) (by assumption) ?restm205
          case him205 => simp only [List.getElem?_toArray, List.getElem?_cons_succ, List.getElem?_cons_zero]; exact rfl
          case hQm205 => exact fun _ _ _ h => h
          case hwm205 => rfl
          case hym205 => ((intro w hSw; (try dsimp only at hSw); go_simp) <;> with_reducible rfl)
          try simp only [Act.put, List.setIfInBounds_toArray, List.set_cons_zero, List.set_cons_succ]
          refine wpAnyH_take (i := 2) (oi := ?oim206) (v := ?vm206) ?him206 (by kernel_rfl) (by kernel_rfl) (by kernel_rfl) ?hQm206 (Or.inl ⟨?hwm206, ?hym206⟩) (by assumption) ?restm206
          case him206 => simp only [List.getElem?_toArray, List.getElem?_cons_succ, List.getElem?_cons_zero]; exact rfl
          case hQm206 => exact fun _ _ _ h => h
          case hwm206 => rfl
          case hym206 => ((intro w hSw; (try dsimp only at hSw); go_simp) <;> with_reducible rfl)
          try simp only [Act.put, List.setIfInBounds_toArray, List.set_cons_zero, List.set_cons_succ]
          refine wpAnyH_take (i := 4) (oi := ?oim207) (v := ?vm207) ?him207 (by kernel_rfl) (by kernel_rfl) (by kernel_rfl) ?hQm207 (Or.inl ⟨?hwm207, ?hym207⟩) (by assumption) ?restm207
          case him207 => simp only [List.getElem?_toArray, List.getElem?_cons_succ, List.getElem?_cons_zero]; exact rfl
          case hQm207 => exact fun _ _ _ h => h
          case hwm207 => rfl
          case hym207 => ((intro w hSw; (try dsimp only at hSw); go_simp) <;> with_reducible rfl)
          try simp only [Act.put, List.setIfInBounds_toArray, List.set_cons_zero, List.set_cons_succ]
          refine wpAnyH_take (i := 5) (oi := ?oim208) (v := ?vm208) ?him208 (by kernel_rfl) (by kernel_rfl) (by kernel_rfl) ?hQm208 (Or.inl ⟨?hwm208, ?hym208⟩) (by assumption) ?restm208
          case him208 => simp only [List.getElem?_toArray, List.getElem?_cons_succ, List.getElem?_cons_zero]; exact rfl
          case hQm208 => exact fun _ _ _ h => h
          case hwm208 => rfl
          case hym208 => ((intro w hSw; (try dsimp only at hSw); go_simp) <;> with_reducible rfl)
          try simp only [Act.put, List.setIfInBounds_toArray, List.set_cons_zero, List.set_cons_succ]
          refine wpAnyH_ready (rs := [3]) (by kernel_rfl) (by simp) ?_
          refine AllReadyH.cons (o := ?or209_3) ?hor209_3 (fun K hK => ?stepr209_3) (AllReadyH.nil)
          case hor209_3 => simp only [List.getElem?_toArray, List.getElem?_cons_succ, List.getElem?_cons_zero]; exact rfl
          case stepr209_3 =>
            go_simp
            go_at_call 75
            refine (l3Filled_any R3 NR d3 _ oi wz.drew (Lst.of_own (hMrx.drew)) (by omega) hokN).mono ?_
            rintro e wf ⟨rfl, hbf⟩
            have hkp := Lib.hid (fun (p : Addr) (hp : p.block < wz.heap.size) => hbf.cell (p := p) hp)
            have HBF : Hid (Below wz.heap.size wz.drew wf) := Lib.hid hbf
            clear hbf
            refine hK.out _ _ ?hSr209_3 (fun hHeld => ?restr209_3)
            case hSr209_3 => exact ⟨(hkp.out ⟨w.heap.size + 1, 0, none⟩ (heap_lt k1x)).trans hHeld.1, (hkp.out ⟨w.heap.size + 1, 3, none⟩ (heap_lt k1x)).trans hHeld.2⟩
            clear hK K
            try simp only [Act.put, List.setIfInBounds_toArray, List.set_cons_zero, List.set_cons_succ]
            refine wpAnyH_take (i := 6) (oi := ?oim210) (v := ?vm210) ?him210 (by kernel_rfl) (by kernel_rfl) (by kernel_rfl) ?hQm210 (Or.inl ⟨?hwm210, ?hym210⟩) (by assumption) ?restm210
            case him210 => simp only [List.getElem?_toArray, List.getElem?_cons_succ, List.getElem?_cons_zero]; exact rfl
            case hQm210 => exact fun _ _ _ h => h
            case hwm210 => rfl
            case hym210 => ((intro w hSw; (try dsimp only at hSw); go_simp) <;> with_reducible rfl)
            try simp only [Act.put, List.setIfInBounds_toArray, List.set_cons_zero, List.set_cons_succ]
            refine wpAnyH_take (i := 7) (oi := ?oim211) (v := ?vm211) ?him211 (by kernel_rfl) (by kernel_rfl) (by kernel_rfl) ?hQm211 (Or.inl ⟨?hwm211, ?hym211⟩) (by assumption) ?restm211
            case him211 => simp only [List.getElem?_toArray, List.getElem?_cons_succ, List.getElem?_cons_zero]; exact rfl
            case hQm211 => exact fun _ _ _ h => h
            case hwm211 => rfl
            case hym211 => ((intro w hSw; (try dsimp only at hSw); go_simp) <;> with_reducible rfl)
            try simp only [Act.put, List.setIfInBounds_toArray, List.set_cons_zero, List.set_cons_succ]
            refine wpAnyH_done (by kernel_rfl) ?_ _
            clear hHeld o0 o1 o2 o3
            go_wp2_with fail
            go_ret
            exact ⟨by rw [canB, H8.out, Bool.true_and]; rfl, hbx.trans ((show Below wz.heap.size wz wf from ⟨HBF.out.os, HBF.out.tape, HBF.out.output, HBF.out.size, HBF.out.block⟩).mono hbx.size)⟩
  case stepr169_10 =>
    go_simp
    have hbq : Below w1.heap.size w1.drew ((w1.alloc (.cells #[.slice none 0 0, .slice none 0 0] 26)).drew) := (Below.refl w1.drew.heap.size w1.drew).alloc (Nat.le_refl _) (.cells #[.slice none 0 0, .slice none 0 0] 26)
    have hGX : w.heap.size + 1 < w1.heap.size := heap_lt k1
    have hkp := Lib.hid (fun (p : Addr) (hp : p.block < w1.drew.heap.size) => hbq.cell (p := p) hp)
    have hG0 := heap_lt k0
    have hG1 := heap_lt k1
    replace k0 := (hbq.block _ (heap_lt k0)).trans k0
    replace k1 := (hbq.block _ (heap_lt k1)).trans k1
    replace hb0 := hb0.trans (hbq.mono hb0.size)
    replace hA := hA.later hbq
    replace hZb := hZb.later hbq
    have kx := show ((w1.alloc (.cells #[.slice none 0 0, .slice none 0 0] 26)).drew).heap[w1.heap.size]? = _ from heap_alloc_new w1 (.cells #[.slice none 0 0, .slice none 0 0] 26)
    generalize (w1.alloc (.cells #[.slice none 0 0, .slice none 0 0] 26)).drew = ua212 at *
    generalize w1.heap.size = gx at *
    clear hbq
    refine hK.out _ _ ?hSr169_10 (fun hHeld => ?restr169_10)
    case hSr169_10 => exact ⟨(hkp.out ⟨w.heap.size, 0, none⟩ hG0).trans hHeld.1, (hkp.out ⟨w.heap.size, 1, none⟩ hG0).trans hHeld.2.1, (hkp.out ⟨w.heap.size + 1, 0, none⟩ hG1).trans hHeld.2.2.1, (hkp.out ⟨w.heap.size + 1, 1, none⟩ hG1).trans hHeld.2.2.2.1, (hkp.out ⟨w.heap.size + 1, 2, none⟩ hG1).trans hHeld.2.2.2.2.1, (hkp.out ⟨w.heap.size + 1, 3, none⟩ hG1).trans hHeld.2.2.2.2.2⟩
    clear hK K
    try simp only [Act.put, List.setIfInBounds_toArray, List.set_cons_zero, List.set_cons_succ]
    refine wpAnyH_ready (rs := [1]) (by kernel_rfl) (by simp) ?_
    refine AllReadyH.cons (o := ?or214_1) ?hor214_1 (fun K hK => ?stepr214_1) (AllReadyH.nil)
    case hor214_1 => simp only [List.getElem?_toArray, List.getElem?_cons_succ, List.getElem?_cons_zero]; exact rfl
    case stepr214_1 =>
      go_simp
      go_at_call 44
      refine (spec_l2CopyO A n c B m d za zb ua212 hA hZb (by omega) (by omega) hAn hBn).mono ?_
      rintro e u215 ⟨⟨q1, q2, rfl, hC, _, _⟩, hbq⟩
      have hCb : ua212.heap.size ≤ u215.heap.size := hbq.size
      have hCw := hb0.size
      replace hC := hC.mono hCw
      obtain ⟨Q1, c1, Q2, c2, rfl, rfl⟩ := hC.slices
      have hkp := Lib.hid (fun (p : Addr) (hp : p.block < ua212.heap.size) => hbq.cell (p := p) hp)
      have hG0 := heap_lt k0
      have hG1 := heap_lt k1
      replace k0 := (hbq.block _ (heap_lt k0)).trans k0
      replace k1 := (hbq.block _ (heap_lt k1)).trans k1
      replace hb0 := hb0.trans (hbq.mono hb0.size)
      replace kx := (hbq.block _ (heap_lt kx)).trans kx
      clear hbq hA hZb
      refine hK.out _ _ ?hSr214_1 (fun hHeld => ?restr214_1)
      case hSr214_1 => exact ⟨(hkp.out ⟨w.heap.size, 0, none⟩ hG0).trans hHeld.1, (hkp.out ⟨w.heap.size, 1, none⟩ hG0).trans hHeld.2.1, (hkp.out ⟨w.heap.size + 1, 0, none⟩ hG1).trans hHeld.2.2.1, (hkp.out ⟨w.heap.size + 1, 1, none⟩ hG1).trans hHeld.2.2.2.1, (hkp.out ⟨w.heap.size + 1, 2, none⟩ hG1).trans hHeld.2.2.2.2.1, (hkp.out ⟨w.heap.size + 1, 3, none⟩ hG1).trans hHeld.2.2.2.2.2⟩
      clear hK K
      try simp only [Act.put, List.setIfInBounds_toArray, List.set_cons_zero, List.set_cons_succ]
      refine wpAnyH_ready (rs := [5]) (by kernel_rfl) (by simp) ?_
      refine AllReadyH.cons (o := ?or216_5) ?hor216_5 (fun K hK => ?stepr216_5) (AllReadyH.nil)
      case hor216_5 => simp only [List.getElem?_toArray, List.getElem?_cons_succ, List.getElem?_cons_zero]; exact rfl
      case stepr216_5 =>
        go_simp
        go_at_call 43
        refine (spec_l3Match w.heap.size Q1 n c1 Q2 m c2 za zb side oi oa op oq mode u215 hsd hC hb0.size hn20 hm20 hqa hqb (by omega) hoq2).mono ?_
        rintro e u217 ⟨⟨r1, r2, rv, n1, n2, NR, rfl, hM, hMr, hNR⟩, hbq⟩
        have hkp := Lib.hid (fun (p : Addr) (hp : p.block < u215.heap.size) => hbq.cell (p := p) hp)
        have hG0 := heap_lt k0
        have hG1 := heap_lt k1
        replace k0 := (hbq.block _ (heap_lt k0)).trans k0
        replace k1 := (hbq.block _ (heap_lt k1)).trans k1
        replace hb0 := hb0.trans (hbq.mono hb0.size)
        replace kx := (hbq.block _ (heap_lt kx)).trans kx
        obtain ⟨R1, d1, R2, d2, rfl, rfl⟩ := hM.slices
        obtain ⟨R3, d3, rfl, _, _⟩ := own_slice hMr
        clear hbq hC hCb
        refine hK.out _ _ ?hSr216_5 (fun hHeld => ?restr216_5)
        case hSr216_5 => exact ⟨(hkp.out ⟨w.heap.size, 0, none⟩ hG0).trans hHeld.1, (hkp.out ⟨w.heap.size, 1, none⟩ hG0).trans hHeld.2.1, (hkp.out ⟨w.heap.size + 1, 0, none⟩ hG1).trans hHeld.2.2.1, (hkp.out ⟨w.heap.size + 1, 1, none⟩ hG1).trans hHeld.2.2.2.1, (hkp.out ⟨w.heap.size + 1, 2, none⟩ hG1).trans hHeld.2.2.2.2.1, (hkp.out ⟨w.heap.size + 1, 3, none⟩ hG1).trans hHeld.2.2.2.2.2⟩
        clear hK K
        try simp only [Act.put, List.setIfInBounds_toArray, List.set_cons_zero, List.set_cons_succ]
        refine wpAnyH_take (i := 6) (oi := ?oim218) (v := ?vm218) ?him218 (by kernel_rfl) (by kernel_rfl) (by kernel_rfl) ?hQm218 (Or.inl ⟨?hwm218, ?hym218⟩) (by assumption) ?restm218
        case him218 => simp only [List.getElem?_toArray, List.getElem?_cons_succ, List.getElem?_cons_zero]; exact rfl
        case hQm218 => exact fun _ _ _ h => h
        case hwm218 => rfl
        case hym218 => ((intro w hSw; (try dsimp only at hSw); go_simp) <;> with_reducible rfl)
        try simp only [Act.put, List.setIfInBounds_toArray, List.set_cons_zero, List.set_cons_succ]
        refine wpAnyH_take (i := 7) (oi := ?oim219) (v := ?vm219) ?him219 (by kernel_rfl) (by kernel_rfl) (by kernel_rfl) ?hQm219 (Or.inl ⟨?hwm219, ?hym219⟩) (by assumption) ?restm219
        case him219 => simp only [List.getElem?_toArray, List.getElem?_cons_succ, List.getElem?_cons_zero]; exact rfl
        case hQm219 => exact fun _ _ _ h => h
        case hwm219 => rfl
        case hym219 => ((intro w hSw; (try dsimp only at hSw); go_simp) <;> with_reducible rfl)
        try simp only [Act.put, List.setIfInBounds_toArray, List.set_cons_zero, List.set_cons_succ]
        refine wpAnyH_take (i := 8) (oi := ?oim220) (v := ?vm220) ?him220 (by kernel_rfl) (by kernel_rfl) (by kernel_rfl) ?hQm220 (Or.inl ⟨?hwm220, ?hym220⟩) (by assumption) ?restm220
        case him220 => simp only [List.getElem?_toArray, List.getElem?_cons_succ, List.getElem?_cons_zero]; exact rfl
        case hQm220 => exact fun _ _ _ h => h
        case hwm220 => rfl
        case hym220 => ((intro w hSw; (try dsimp only at hSw); go_simp) <;> with_reducible rfl)
        try simp only [Act.put, List.setIfInBounds_toArray, List.set_cons_zero, List.set_cons_succ]
        refine wpAnyH_take (i := 9) (oi := ?oim221) (v := ?vm221) ?him221 (by kernel_rfl) (by kernel_rfl) (by kernel_rfl) ?hQm221 (Or.inl ⟨?hwm221, ?hym221⟩) (by assumption) ?restm221
        case him221 => simp only [List.getElem?_toArray, List.getElem?_cons_succ, List.getElem?_cons_zero]; exact rfl
        case hQm221 => exact fun _ _ _ h => h
        case hwm221 => rfl
        case hym221 => ((intro w hSw; (try dsimp only at hSw); go_simp) <;> with_reducible rfl)
        try simp only [Act.put, List.setIfInBounds_toArray, List.set_cons_zero, List.set_cons_succ]
        refine wpAnyH_ready (rs := [11]) (by kernel_rfl) (by simp) ?_
        refine AllReadyH.cons (o := ?or222_11) ?hor222_11 (fun K hK => ?stepr222_11) (AllReadyH.nil)
        case hor222_11 => simp only [List.getElem?_toArray, List.getElem?_cons_succ, List.getElem?_cons_zero]; exact rfl
        case stepr222_11 =>
          obtain ⟨y0, y1⟩ := rcell2 kx
          have z0 := mfree kx 0
          have z1 := mfree kx 1
          go_simp
          clear y0 y1 z0 z1
          have hq0 : gx ≠ w.heap.size := by omega
          have hq1 : gx ≠ w.heap.size + 1 := by omega
          refine hK.out _ _ ?hSr222_11 (fun hHeld => ?restr222_11)
          case hSr222_11 => exact ⟨(set2_far hq0).trans hHeld.1, (set2_far hq0).trans hHeld.2.1, (set2_far hq1).trans hHeld.2.2.1, (set2_far hq1).trans hHeld.2.2.2.1, (set2_far hq1).trans hHeld.2.2.2.2.1, (set2_far hq1).trans hHeld.2.2.2.2.2⟩
          clear hK K
          try simp only [Act.put, List.setIfInBounds_toArray, List.set_cons_zero, List.set_cons_succ]
          refine wpAnyH_take (i := 12) (oi := ?oim223) (v := ?vm223) ?him223 (by kernel_rfl) (by kernel_rfl) (by kernel_rfl) ?hQm223 (Or.inl ⟨?hwm223, ?hym223⟩) (by assumption) ?restm223
          case him223 => simp only [List.getElem?_toArray, List.getElem?_cons_succ, List.getElem?_cons_zero]; exact rfl
          case hQm223 => exact fun _ _ _ h => h
          case hwm223 => rfl
          case hym223 => ((intro w hSw; (try dsimp only at hSw); go_simp) <;> with_reducible rfl)
          try simp only [Act.put, List.setIfInBounds_toArray, List.set_cons_zero, List.set_cons_succ]
          refine wpAnyH_take (i := 13) (oi := ?oim224) (v := ?vm224) ?him224 (by kernel_rfl) (by kernel_rfl) (by kernel_rfl) ?hQm224 (Or.inl ⟨?hwm224, ?hym224⟩) (by assumption) ?restm224
          case him224 => simp only [List.getElem?_toArray, List.getElem?_cons_succ, List.getElem?_cons_zero]; exact rfl
          case hQm224 => exact fun _ _ _ h => h
          case hwm224 => rfl
          case hym224 => ((intro w hSw; (try dsimp only at hSw); go_simp) <;> with_reducible rfl)
          try simp only [Act.put, List.setIfInBounds_toArray, List.set_cons_zero, List.set_cons_succ]
          refine wpAnyH_done (by kernel_rfl) ?_ _
          clear hHeld b0 b1 o0 o1 o2 o3
          have hbx := (hb0.setCell (p := ⟨gx, 0, none⟩) (show w.heap.size ≤ gx by omega) (.slice R1 n1 d1)).setCell (p := ⟨gx, 1, none⟩) (show w.heap.size ≤ gx by omega) (.slice R2 n2 d2)
          have hMrx := own_set_kind (i := 1) (u := (.slice R2 n2 d2)) (own_set_kind (i := 0) (u := (.slice R1 n1 d1)) hMr kx (by decide)) (heap_set0 kx) (by decide)
          have k1x := mset2_other (u := (.slice R1 n1 d1)) (v := (.slice R2 n2 d2)) k1 (show w.heap.size + 1 ≠ gx by omega)
          clear hM hMr kx hb0 k0 k1
          generalize ((u217.setCell ⟨gx, 0, none⟩ (.slice R1 n1 d1)).setCell ⟨gx, 1, none⟩ (.slice R2 n2 d2)) = wz at *
          have h8 := own_eights hMrx
          have H8 := Lib.hid h8
          clear h8
          have hokN := HOK.out NR (by have := hMrx.1; rw [nums_length] at this; omega)
          obtain ⟨o0, o1, o2, o3⟩ := rrcell4 k1x
          go_upto_region 2 with fail
          refine wp_region_held_drew (S := (fun w' => w'.cell? ⟨w.heap.size + 1, 0, none⟩ = some (.int .i64 oi) ∧ w'.cell? ⟨w.heap.size + 1, 3, none⟩ = some (.int .i64 oq))) (by kernel_rfl) ?hSm225 (fun hHeld => ?restm225)
          case hSm225 => exact ⟨o0, o3⟩
          refine wpAnyH_take (i := 0) (oi := ?oim226) (v := ?vm226) ?him226 (by kernel_rfl) (by kernel_rfl) (by kernel_rfl) ?hQm226 (Or.inl ⟨?hwm226, ?hym226⟩) (by assumption) ?restm226
          case him226 => simp only [List.getElem?_toArray, List.getElem?_cons_succ, List.getElem?_cons_zero]; exact rfl
          case hQm226 => exact fun _ _ _ h => h
          case hwm226 => rfl
          case hym226 => ((intro w hSw; (try dsimp only at hSw); go_simp) <;> with_reducible rfl)
          try simp only [Act.put, List.setIfInBounds_toArray, List.set_cons_zero, List.set_cons_succ]
          refine wpAnyH_take (i := 1) (oi := ?oim227) (v := ?vm227) ?him227 (by kernel_rfl) (by kernel_rfl) (by kernel_rfl) ?hQm227 (Or.inl ⟨?hwm227, ?hym227⟩) (by assumption) ?restm227
          case him227 => simp only [List.getElem?_toArray, List.getElem?_cons_succ, List.getElem?_cons_zero]; exact rfl
          case hQm227 => exact fun _ _ _ h => h
          case hwm227 => rfl
          case hym227 => ((intro w hSw; (try dsimp only at hSw); go_simp) <;> with_reducible rfl)
          try simp only [Act.put, List.setIfInBounds_toArray, List.set_cons_zero, List.set_cons_succ]
          refine wpAnyH_take (i := 2) (oi := ?oim228) (v := ?vm228) ?him228 (by kernel_rfl) (by kernel_rfl) (by kernel_rfl) ?hQm228 (Or.inl ⟨?hwm228, ?hym228⟩) (by assumption) ?restm228
          case him228 => simp only [List.getElem?_toArray, List.getElem?_cons_succ, List.getElem?_cons_zero]; exact rfl
          case hQm228 => exact fun _ _ _ h => h
          case hwm228 => rfl
          case hym228 => ((intro w hSw; (try dsimp only at hSw); go_simp) <;> with_reducible rfl)
          try simp only [Act.put, List.setIfInBounds_toArray, List.set_cons_zero, List.set_cons_succ]
          refine wpAnyH_take (i := 4) (oi := ?oim229) (v := ?vm229) ?him229 (by kernel_rfl) (by kernel_rfl) (by kernel_rfl) ?hQm229 (Or.inl ⟨?hwm229, ?hym229⟩) (by assumption) ?restm229
          case him229 => simp only [List.getElem?_toArray, List.getElem?_cons_succ, List.getElem?_cons_zero]; exact rfl
          case hQm229 => exact fun _ _ _ h => h
          case hwm229 => rfl
          case hym229 => ((intro w hSw; (try dsimp only at hSw); go_simp) <;> with_reducible rfl)
          try simp only [Act.put, List.setIfInBounds_toArray, List.set_cons_zero, List.set_cons_succ]
          refine wpAnyH_take (i := 5) (oi := ?oim230) (v := ?vm230) ?him230 (by kernel_rfl) (by kernel_rfl) (by kernel_rfl) ?hQm230 (Or.inl ⟨?hwm230, ?hym230⟩) (by assumption) ?restm230
          case him230 => simp only [List.getElem?_toArray, List.getElem?_cons_succ, List.getElem?_cons_zero]; exact rfl
          case hQm230 => exact fun _ _ _ h => h
          case hwm230 => rfl
          case hym230 => ((intro w hSw; (try dsimp only at hSw); go_simp) <;> with_reducible rfl)
          try simp only [Act.put, List.setIfInBounds_toArray, List.set_cons_zero, List.set_cons_succ]
          refine wpAnyH_ready (rs := [3]) (by kernel_rfl) (by simp) ?_
          refine AllReadyH.cons (o := ?or231_3) ?hor231_3 (fun K hK => ?stepr231_3) (AllReadyH.nil)
          case hor231_3 => simp only [List.getElem?_toArray, List.getElem?_cons_succ, List.getElem?_cons_zero]; exact rfl
          case stepr231_3 =>
            go_simp
            go_at_call 75
            refine (l3Filled_any R3 NR d3 _ oi wz.drew (Lst.of_own (hMrx.drew)) (by omega) hokN).mono ?_
            rintro e wf ⟨rfl, hbf⟩
            have hkp := Lib.hid (fun (p : Addr) (hp : p.block < wz.heap.size) => hbf.cell (p := p) hp)
            have HBF : Hid (Below wz.heap.size wz.drew wf) := Lib.hid hbf
            clear hbf
            refine hK.out _ _ ?hSr231_3 (fun hHeld => ?restr231_3)
            case hSr231_3 => exact ⟨(hkp.out ⟨w.heap.size + 1, 0, none⟩ (heap_lt k1x)).trans hHeld.1, (hkp.out ⟨w.heap.size + 1, 3, none⟩ (heap_lt k1x)).trans hHeld.2⟩
            clear hK K
            try simp only [Act.put, List.setIfInBounds_toArray, List.set_cons_zero, List.set_cons_succ]
            refine wpAnyH_take (i := 6) (oi := ?oim232) (v := ?vm232) ?him232 (by kernel_rfl) (by kernel_rfl) (by kernel_rfl) ?hQm232 (Or.inl ⟨?hwm232, ?hym232⟩) (by assumption) ?restm232
            case him232 => simp only [List.getElem?_toArray, List.getElem?_cons_succ, List.getElem?_cons_zero]; exact rfl
            case hQm232 => exact fun _ _ _ h => h
            case hwm232 => rfl
            case hym232 => ((intro w hSw; (try dsimp only at hSw); go_simp) <;> with_reducible rfl)
            try simp only [Act.put, List.setIfInBounds_toArray, List.set_cons_zero, List.set_cons_succ]
            refine wpAnyH_take (i := 7) (oi := ?oim233) (v := ?vm233) ?him233 (by kernel_rfl) (by kernel_rfl) (by kernel_rfl) ?hQm233 (Or.inl ⟨?hwm233, ?hym233⟩) (by assumption) ?restm233
            case him233 => simp only [List.getElem?_toArray, List.getElem?_cons_succ, List.getElem?_cons_zero]; exact rfl
            case hQm233 => exact fun _ _ _ h => h
            case hwm233 => rfl
            case hym233 => ((intro w hSw; (try dsimp only at hSw); go_simp) <;> with_reducible rfl)
            try simp only [Act.put, List.setIfInBounds_toArray, List.set_cons_zero, List.set_cons_succ]
            refine wpAnyH_done (by kernel_rfl) ?_ _
            clear hHeld o0 o1 o2 o3
            go_wp2_with fail
            go_ret
            exact ⟨by rw [canB, H8.out, Bool.true_and]; rfl, hbx.trans ((show Below wz.heap.size wz wf from ⟨HBF.out.os, HBF.out.tape, HBF.out.output, HBF.out.size, HBF.out.block⟩).mono hbx.size)⟩
set_option linter.unusedSimpArgs false in
set_option maxHeartbeats 3200000 in
set_option maxRecDepth 100000 in
theorem spec_CanFill (A : Option Addr) (n c : Nat) (B : Option Addr) (m d : Nat) (za zb : List Int) (side oi oa op oq mode : Int) (w : World) (ha : Lst w w.heap.size 4 A n za) (hb : Lst w w.heap.size 4 B m zb) (hn : n ≤ 1048576) (hm : m ≤ 1048576) (hAn : A = none → n = 0 ∧ c = 0) (hBn : B = none → m = 0 ∧ d = 0) :
    Calls Try.prog 24 #[.agg #[.slice A n c, .slice B m d], .int .i64 side, .agg #[.int .i64 oi, .int .i64 oa, .int .i64 op, .int .i64 oq], .int .i64 mode] w fun e w' => e = .returned (.bool (canB (rgB za n zb m side oi oa op oq mode) side oi oa op oq mode za zb)) ∧ Below w.heap.size w w' := by
  obtain ⟨k0, k1⟩ := two_blocks w (.cells #[.slice A n c, .slice B m d] 26) (.cells #[.int .i64 oi, .int .i64 oa, .int .i64 op, .int .i64 oq] 28)
  have hb0 : Below w.heap.size w ((w.alloc (.cells #[.slice A n c, .slice B m d] 26)).alloc (.cells #[.int .i64 oi, .int .i64 oa, .int .i64 op, .int .i64 oq] 28)) := ((Below.refl _ _).alloc (Nat.le_refl _) _).alloc (by simp) _
  go_enter Try.func24, Try.ntmps24
  go_wp2_with fail
  have hA := ha.later hb0
  have hZb := hb.later hb0
  clear ha hb
  generalize (w.alloc (.cells #[.slice A n c, .slice B m d] 26)).alloc (.cells #[.int .i64 oi, .int .i64 oa, .int .i64 op, .int .i64 oq] 28) = w0 at *
  refine (spec_l3Right A n c B m d za zb side oi oa op oq mode w0 hA hZb hn hm hAn hBn).mono ?_
  rintro e w1 ⟨rfl, hb1⟩
  replace k0 := (hb1.block _ (heap_lt k0)).trans k0
  replace k1 := (hb1.block _ (heap_lt k1)).trans k1
  replace hA := hA.later hb1
  replace hZb := hZb.later hb1
  replace hb0 := hb0.trans (hb1.mono hb0.size)
  clear hb1
  rcases Bool.eq_false_or_eq_true (rgB za n zb m side oi oa op oq mode) with hrg | hrg
  · have HRG := Lib.hid hrg
    rw [hrg]
    clear hrg
    obtain ⟨o0, o1, o2, o3⟩ := rrcell4 k1
    obtain ⟨b0, b1⟩ := rcell2 k0
    go_wp2_with fail
    refine (spec_l3Can A n c B m d za zb side oi oa op oq mode w1 hA hZb hAn hBn HRG.out).mono ?_
    rintro e w2 ⟨rfl, hb2⟩
    replace hb0 := hb0.trans (hb2.mono hb0.size)
    clear hb2 o0 o1 o2 o3 b0 b1
    go_wp2_with fail
    go_ret
    exact ⟨by rw [HRG.out]; rfl, hb0⟩
  · have HRG := Lib.hid hrg
    rw [hrg]
    clear hrg
    go_wp2_with fail
    go_ret
    exact ⟨by rw [HRG.out]; rfl, hb0⟩
end Go.Proofs.Ytdjmejjponlfoaa

namespace Go.Proofs.Ytdjmejjponlfoaa
open Go.RowKit Wire

theorem mts_len {side oi oa op mode : Int} : ∀ (m : Nat) {Z R : List Int} {q : Int}, Z.length = m * 4 → (mtS side oi oa op mode Z R q).2.1.length ≤ R.length + m * 16
  | 0, Z, R, q, hZ => by
    have : Z = [] := List.eq_nil_of_length_eq_zero (by omega)
    subst this
    rw [mtS_nil]
    exact Nat.le_add_right _ _
  | m + 1, Z, R, q, hZ => by
    obtain ⟨t, e, ht, -⟩ := head4 hZ
    generalize num Z 0 = i at *
    generalize num Z 1 = a at *
    generalize num Z 2 = p at *
    generalize num Z 3 = c at *
    rw [e, mtS_cons]
    have hl1 : ∀ {x y z u : Int}, (R ++ canR x y z u).length = R.length + 8 := by intro x y z u; simp [canR]
    have hl2 : ∀ {x y z u v : Int}, (R ++ filR x y z u v).length = R.length + 8 := by intro x y z u v; simp [filR]
    split
    · split
      · split
        · dsimp only
          rw [hl1]
          omega
        · split
          · have := mts_len (side := side) (oi := oi) (oa := oa) (op := op) (mode := mode) m (R := R ++ canR i a p c) (q := q) ht
            rw [hl1] at this
            omega
          · dsimp only
            rw [List.length_append, hl1]
            simp only [canR, List.length_cons, List.length_nil]
            omega
      · split
        · refine Nat.le_trans (mts_len m ht) ?_
          rw [hl2]
          omega
        · dsimp only
          rw [hl2]
          omega
    · dsimp only
      omega
theorem mrr_len {za zb : List Int} {n m : Nat} {rg : Bool} {side oi oa op oq mode : Int} (ha : za.length = n * 4) (hb : zb.length = m * 4) : (mRR rg side oi oa op oq mode za zb).length ≤ (n + m) * 16 := by
  unfold mRR mtA
  split
  · split
    · have := mts_len (side := side) (oi := oi) (oa := oa) (op := op) (mode := mode) m (R := []) (q := oq) hb
      simp only [List.length_nil] at this
      omega
    · have := mts_len (side := side) (oi := oi) (oa := oa) (op := op) (mode := mode) n (R := []) (q := oq) ha
      simp only [List.length_nil] at this
      omega
  · simp
set_option linter.unusedSimpArgs false in
set_option maxHeartbeats 3200000 in
set_option maxRecDepth 100000 in
theorem impl_CanFill (A : Option Addr) (n c : Nat) (B : Option Addr) (m d : Nat) (za zb : List Int) (side oi oa op oq mode : Int) (w : World) (ha : Lst w w.heap.size 4 A n za) (hb : Lst w w.heap.size 4 B m zb) (hn : n ≤ 1048576) (hm : m ≤ 1048576) :
    Calls Try.prog 23 #[.agg #[.slice A n c, .slice B m d], .int .i64 side, .agg #[.int .i64 oi, .int .i64 oa, .int .i64 op, .int .i64 oq], .int .i64 mode] w fun e w' => e = .returned (.bool (canB (rgB za n zb m side oi oa op oq mode) side oi oa op oq mode za zb)) ∧ Below w.heap.size w w' := by
  obtain ⟨k0, k1⟩ := two_blocks w (.cells #[.slice A n c, .slice B m d] 26) (.cells #[.int .i64 oi, .int .i64 oa, .int .i64 op, .int .i64 oq] 28)
  have hb0 : Below w.heap.size w ((w.alloc (.cells #[.slice A n c, .slice B m d] 26)).alloc (.cells #[.int .i64 oi, .int .i64 oa, .int .i64 op, .int .i64 oq] 28)) := ((Below.refl _ _).alloc (Nat.le_refl _) _).alloc (by simp) _
  go_enter Try.func23, Try.ntmps23
  go_wp2_with fail
  have hA := ha.later hb0
  have hZb := hb.later hb0
  have hla := ha.1
  have hlb := hb.1
  clear ha hb
  generalize (w.alloc (.cells #[.slice A n c, .slice B m d] 26)).alloc (.cells #[.int .i64 oi, .int .i64 oa, .int .i64 op, .int .i64 oq] 28) = w0 at *
  refine (impl_Matched A n c B m d za zb side oi oa op oq mode w0 hA hZb hn hm).mono ?_
  rintro e w1 ⟨⟨r1, r2, rv, n1, n2, NR, rfl, hT, hR⟩, hb1⟩
  obtain ⟨Q1, c1, Q2, c2, rfl, rfl⟩ := hT.slices
  obtain ⟨R3, d3, rfl, -, -⟩ := own_slice hR
  replace k1 := (hb1.block _ (heap_lt k1)).trans k1
  replace hb0 := hb0.trans (hb1.mono hb0.size)
  clear k0 hA hZb hb1
  have hlen := mrr_len (rg := rgB za n zb m side oi oa op oq mode) (side := side) (oi := oi) (oa := oa) (op := op) (oq := oq) (mode := mode) hla hlb
  have hNR : NR ≤ 1048576 * 4 := by have := hR.1; rw [nums_length] at this; omega
  obtain ⟨o0, o1, o2, o3⟩ := rrcell4 k1
  rcases Bool.eq_false_or_eq_true (rgB za n zb m side oi oa op oq mode) with hrg | hrg
  · obtain ⟨-, -, -, -, -, hn20, hm20, -, -, -, -⟩ := rg_parts hrg
    have hok := mrr_ok (N := NR) hrg hla hlb
    have HRG := Lib.hid hrg
    rw [hrg] at hR hlen ⊢
    have h8 := own_eights hR
    have H8 := Lib.hid h8
    have hNR : NR ≤ 1048576 := by have := hR.1; rw [nums_length] at this; omega
    have hokN := hok (by have := hR.1; rw [nums_length] at this; omega)
    clear hrg h8 hok hlen
    go_upto_region 2 with fail
    have hbq : Below w1.heap.size w1 (w1.alloc (.cells #[.slice Q1 n1 c1, .slice Q2 n2 c2] 26)) := (Below.refl _ _).alloc (Nat.le_refl _) _
    replace k1 := (hbq.block _ (heap_lt k1)).trans k1
    replace hb0 := hb0.trans (hbq.mono hb0.size)
    replace hR := own_below hR hbq
    clear hbq o0 o1 o2 o3
    generalize w1.alloc (.cells #[.slice Q1 n1 c1, .slice Q2 n2 c2] 26) = wz at *
    obtain ⟨o0, o1, o2, o3⟩ := rrcell4 k1
    refine wp_region_held_drew (S := (fun w' => w'.cell? ⟨w.heap.size + 1, 0, none⟩ = some (.int .i64 oi) ∧ w'.cell? ⟨w.heap.size + 1, 3, none⟩ = some (.int .i64 oq))) (by kernel_rfl) ?hSm234 (fun hHeld => ?restm234)
    case hSm234 => exact ⟨o0, o3⟩
    refine wpAnyH_take (i := 0) (oi := ?oim235) (v := ?vm235) ?him235 (by kernel_rfl) (by kernel_rfl) (by kernel_rfl) ?hQm235 (Or.inl ⟨?hwm235, ?hym235⟩) (by assumption) ?restm235
    case him235 => simp only [List.getElem?_toArray, List.getElem?_cons_succ, List.getElem?_cons_zero]; exact rfl
    case hQm235 => exact fun _ _ _ h => h
    case hwm235 => rfl
    case hym235 => ((intro w hSw; (try dsimp only at hSw); go_simp) <;> with_reducible rfl)
    try simp only [Act.put, List.setIfInBounds_toArray, List.set_cons_zero, List.set_cons_succ]
    refine wpAnyH_take (i := 1) (oi := ?oim236) (v := ?vm236) ?him236 (by kernel_rfl) (by kernel_rfl) (by kernel_rfl) ?hQm236 (Or.inl ⟨?hwm236, ?hym236⟩) (by assumption) ?restm236
    case him236 => simp only [List.getElem?_toArray, List.getElem?_cons_succ, List.getElem?_cons_zero]; exact rfl
    case hQm236 => exact fun _ _ _ h => h
    case hwm236 => rfl
    case hym236 => ((intro w hSw; (try dsimp only at hSw); go_simp) <;> with_reducible rfl)
    try simp only [Act.put, List.setIfInBounds_toArray, List.set_cons_zero, List.set_cons_succ]
    refine wpAnyH_take (i := 2) (oi := ?oim237) (v := ?vm237) ?him237 (by kernel_rfl) (by kernel_rfl) (by kernel_rfl) ?hQm237 (Or.inl ⟨?hwm237, ?hym237⟩) (by assumption) ?restm237
    case him237 => simp only [List.getElem?_toArray, List.getElem?_cons_succ, List.getElem?_cons_zero]; exact rfl
    case hQm237 => exact fun _ _ _ h => h
    case hwm237 => rfl
    case hym237 => ((intro w hSw; (try dsimp only at hSw); go_simp) <;> with_reducible rfl)
    try simp only [Act.put, List.setIfInBounds_toArray, List.set_cons_zero, List.set_cons_succ]
    refine wpAnyH_take (i := 3) (oi := ?oim238) (v := ?vm238) ?him238 (by kernel_rfl) (by kernel_rfl) (by kernel_rfl) ?hQm238 (Or.inl ⟨?hwm238, ?hym238⟩) (by assumption) ?restm238
    case him238 => simp only [List.getElem?_toArray, List.getElem?_cons_succ, List.getElem?_cons_zero]; exact rfl
    case hQm238 => exact fun _ _ _ h => h
    case hwm238 => rfl
    case hym238 => ((intro w hSw; (try dsimp only at hSw); go_simp) <;> with_reducible rfl)
    try simp only [Act.put, List.setIfInBounds_toArray, List.set_cons_zero, List.set_cons_succ]
    refine wpAnyH_take (i := 4) (oi := ?oim239) (v := ?vm239) ?him239 (by kernel_rfl) (by kernel_rfl) (by kernel_rfl) ?hQm239 (Or.inl ⟨?hwm239, ?hym239⟩) (by assumption) ?restm239
    case him239 => simp only [List.getElem?_toArray, List.getElem?_cons_succ, List.getElem?_cons_zero]; exact rfl
    case hQm239 => exact fun _ _ _ h => h
    case hwm239 => rfl
    case hym239 => ((intro w hSw; (try dsimp only at hSw); go_simp) <;> with_reducible rfl)
    try simp only [Act.put, List.setIfInBounds_toArray, List.set_cons_zero, List.set_cons_succ]
    refine wpAnyH_take (i := 6) (oi := ?oim240) (v := ?vm240) ?him240 (by kernel_rfl) (by kernel_rfl) (by kernel_rfl) ?hQm240 (Or.inl ⟨?hwm240, ?hym240⟩) (by assumption) ?restm240
    case him240 => simp only [List.getElem?_toArray, List.getElem?_cons_succ, List.getElem?_cons_zero]; exact rfl
    case hQm240 => exact fun _ _ _ h => h
    case hwm240 => rfl
    case hym240 => ((intro w hSw; (try dsimp only at hSw); go_simp) <;> with_reducible rfl)
    try simp only [Act.put, List.setIfInBounds_toArray, List.set_cons_zero, List.set_cons_succ]
    refine wpAnyH_take (i := 7) (oi := ?oim241) (v := ?vm241) ?him241 (by kernel_rfl) (by kernel_rfl) (by kernel_rfl) ?hQm241 (Or.inl ⟨?hwm241, ?hym241⟩) (by assumption) ?restm241
    case him241 => simp only [List.getElem?_toArray, List.getElem?_cons_succ, List.getElem?_cons_zero]; exact rfl
    case hQm241 => exact fun _ _ _ h => h
    case hwm241 => rfl
    case hym241 => ((intro w hSw; (try dsimp only at hSw); go_simp) <;> with_reducible rfl)
    try simp only [Act.put, List.setIfInBounds_toArray, List.set_cons_zero, List.set_cons_succ]
    refine wpAnyH_ready (rs := [5]) (by kernel_rfl) (by simp) ?_
    refine AllReadyH.cons (o := ?or242_5) ?hor242_5 (fun K hK => ?stepr242_5) (AllReadyH.nil)
    case hor242_5 => simp only [List.getElem?_toArray, List.getElem?_cons_succ, List.getElem?_cons_zero]; exact rfl
    case stepr242_5 =>
      go_simp
      go_at_call 18
      refine (impl_Filled R3 NR d3 _ oi wz.drew (Lst.of_own (own_below hR (Below.refl _ _).drew)) (by omega)).mono ?_
      rintro e wf ⟨rfl, hbf⟩
      have hkp := Lib.hid (fun (p : Addr) (hp : p.block < wz.heap.size) => hbf.cell (p := p) hp)
      have HBF : Hid (Below wz.heap.size wz.drew wf) := Lib.hid hbf
      clear hbf
      refine hK.out _ _ ?hSr242_5 (fun hHeld => ?restr242_5)
      case hSr242_5 => exact ⟨(hkp.out ⟨w.heap.size + 1, 0, none⟩ (heap_lt k1)).trans hHeld.1, (hkp.out ⟨w.heap.size + 1, 3, none⟩ (heap_lt k1)).trans hHeld.2⟩
      clear hK K
      try simp only [Act.put, List.setIfInBounds_toArray, List.set_cons_zero, List.set_cons_succ]
      refine wpAnyH_take (i := 8) (oi := ?oim243) (v := ?vm243) ?him243 (by kernel_rfl) (by kernel_rfl) (by kernel_rfl) ?hQm243 (Or.inl ⟨?hwm243, ?hym243⟩) (by assumption) ?restm243
      case him243 => simp only [List.getElem?_toArray, List.getElem?_cons_succ, List.getElem?_cons_zero]; exact rfl
      case hQm243 => exact fun _ _ _ h => h
      case hwm243 => rfl
      case hym243 => ((intro w hSw; (try dsimp only at hSw); go_simp) <;> with_reducible rfl)
      try simp only [Act.put, List.setIfInBounds_toArray, List.set_cons_zero, List.set_cons_succ]
      refine wpAnyH_take (i := 9) (oi := ?oim244) (v := ?vm244) ?him244 (by kernel_rfl) (by kernel_rfl) (by kernel_rfl) ?hQm244 (Or.inl ⟨?hwm244, ?hym244⟩) (by assumption) ?restm244
      case him244 => simp only [List.getElem?_toArray, List.getElem?_cons_succ, List.getElem?_cons_zero]; exact rfl
      case hQm244 => exact fun _ _ _ h => h
      case hwm244 => rfl
      case hym244 => ((intro w hSw; (try dsimp only at hSw); go_simp) <;> with_reducible rfl)
      try simp only [Act.put, List.setIfInBounds_toArray, List.set_cons_zero, List.set_cons_succ]
      refine wpAnyH_take (i := 10) (oi := ?oim245) (v := ?vm245) ?him245 (by kernel_rfl) (by kernel_rfl) (by kernel_rfl) ?hQm245 (Or.inl ⟨?hwm245, ?hym245⟩) (by assumption) ?restm245
      case him245 => simp only [List.getElem?_toArray, List.getElem?_cons_succ, List.getElem?_cons_zero]; exact rfl
      case hQm245 => exact fun _ _ _ h => h
      case hwm245 => rfl
      case hym245 => ((intro w hSw; (try dsimp only at hSw); go_simp) <;> with_reducible rfl)
      try simp only [Act.put, List.setIfInBounds_toArray, List.set_cons_zero, List.set_cons_succ]
      refine wpAnyH_done (by kernel_rfl) ?_ _
      clear hHeld o0 o1 o2 o3
      go_wp2_with fail
      go_ret
      exact ⟨by rw [canB, HRG.out, H8.out, Bool.true_and, filledI_yes hokN]; rfl, hb0.trans ((show Below wz.heap.size wz wf from ⟨HBF.out.os, HBF.out.tape, HBF.out.output, HBF.out.size, HBF.out.block⟩).mono hb0.size)⟩
  · have HRG := Lib.hid hrg
    rw [hrg]
    clear hrg hR hT hlen
    go_upto_region 2 with fail
    have hbq : Below w1.heap.size w1 (w1.alloc (.cells #[.slice Q1 n1 c1, .slice Q2 n2 c2] 26)) := (Below.refl _ _).alloc (Nat.le_refl _) _
    replace k1 := (hbq.block _ (heap_lt k1)).trans k1
    replace hb0 := hb0.trans (hbq.mono hb0.size)
    clear hbq o0 o1 o2 o3
    generalize w1.alloc (.cells #[.slice Q1 n1 c1, .slice Q2 n2 c2] 26) = wz at *
    obtain ⟨o0, o1, o2, o3⟩ := rrcell4 k1
    refine wp_region_held_drew (S := (fun w' => w'.cell? ⟨w.heap.size + 1, 0, none⟩ = some (.int .i64 oi))) (by kernel_rfl) ?hSq1xs (fun hHeld => ?restq1xs)
    case hSq1xs => exact o0
    refine wpAnyH_take (i := 0) (oi := ?oiq1x1) (v := ?vq1x1) ?hiq1x1 (by kernel_rfl) (by kernel_rfl) (by kernel_rfl) ?hQq1x1 (Or.inl ⟨?hwq1x1, ?hyq1x1⟩) (by assumption) ?restq1x1
    case hiq1x1 => simp only [List.getElem?_toArray, List.getElem?_cons_succ, List.getElem?_cons_zero]; exact rfl
    case hQq1x1 => exact fun _ _ _ h => h
    case hwq1x1 => rfl
    case hyq1x1 => ((intro w hSw; (try dsimp only at hSw); go_simp) <;> with_reducible rfl)
    try simp only [Act.put, List.setIfInBounds_toArray, List.set_cons_zero, List.set_cons_succ]
    refine wpAnyH_take (i := 1) (oi := ?oiq1x2) (v := ?vq1x2) ?hiq1x2 (by kernel_rfl) (by kernel_rfl) (by kernel_rfl) ?hQq1x2 (Or.inl ⟨?hwq1x2, ?hyq1x2⟩) (by assumption) ?restq1x2
    case hiq1x2 => simp only [List.getElem?_toArray, List.getElem?_cons_succ, List.getElem?_cons_zero]; exact rfl
    case hQq1x2 => exact fun _ _ _ h => h
    case hwq1x2 => rfl
    case hyq1x2 => ((intro w hSw; (try dsimp only at hSw); go_simp) <;> with_reducible rfl)
    try simp only [Act.put, List.setIfInBounds_toArray, List.set_cons_zero, List.set_cons_succ]
    refine wpAnyH_take (i := 2) (oi := ?oiq1x3) (v := _) ?hiq1x3 (by kernel_rfl) (by kernel_rfl) (by kernel_rfl) ?hQq1x3 (Or.inr ⟨?hwq1x3, rfl⟩) (by assumption) ?restq1x3
    case hiq1x3 => simp only [List.getElem?_toArray, List.getElem?_cons_succ, List.getElem?_cons_zero]; exact rfl
    case hQq1x3 => exact fun _ _ _ h => h
    case hwq1x3 => rfl
    try simp only [Act.put, List.setIfInBounds_toArray, List.set_cons_zero, List.set_cons_succ]
    refine wpAnyH_take (i := 3) (oi := ?oiq1x4) (v := _) ?hiq1x4 (by kernel_rfl) (by kernel_rfl) (by kernel_rfl) ?hQq1x4 (Or.inr ⟨?hwq1x4, rfl⟩) (by assumption) ?restq1x4
    case hiq1x4 => simp only [List.getElem?_toArray, List.getElem?_cons_succ, List.getElem?_cons_zero]; exact rfl
    case hQq1x4 => exact fun _ _ _ h => h
    case hwq1x4 => rfl
    try simp only [Act.put, List.setIfInBounds_toArray, List.set_cons_zero, List.set_cons_succ]
    refine wpAnyH_take (i := 4) (oi := ?oiq1x5) (v := _) ?hiq1x5 (by kernel_rfl) (by kernel_rfl) (by kernel_rfl) ?hQq1x5 (Or.inr ⟨?hwq1x5, rfl⟩) (by assumption) ?restq1x5
    case hiq1x5 => simp only [List.getElem?_toArray, List.getElem?_cons_succ, List.getElem?_cons_zero]; exact rfl
    case hQq1x5 => exact fun _ _ _ h => h
    case hwq1x5 => rfl
    try simp only [Act.put, List.setIfInBounds_toArray, List.set_cons_zero, List.set_cons_succ]
    refine wpAnyH_take (i := 5) (oi := ?oiq1x6) (v := _) ?hiq1x6 (by kernel_rfl) (by kernel_rfl) (by kernel_rfl) ?hQq1x6 (Or.inr ⟨?hwq1x6, rfl⟩) (by assumption) ?restq1x6
    case hiq1x6 => simp only [List.getElem?_toArray, List.getElem?_cons_succ, List.getElem?_cons_zero]; exact rfl
    case hQq1x6 => exact fun _ _ _ h => h
    case hwq1x6 => rfl
    try simp only [Act.put, List.setIfInBounds_toArray, List.set_cons_zero, List.set_cons_succ]
    refine wpAnyH_take (i := 6) (oi := ?oiq1x7) (v := _) ?hiq1x7 (by kernel_rfl) (by kernel_rfl) (by kernel_rfl) ?hQq1x7 (Or.inr ⟨?hwq1x7, rfl⟩) (by assumption) ?restq1x7
    case hiq1x7 => simp only [List.getElem?_toArray, List.getElem?_cons_succ, List.getElem?_cons_zero]; exact rfl
    case hQq1x7 => exact fun _ _ _ h => h
    case hwq1x7 => rfl
    try simp only [Act.put, List.setIfInBounds_toArray, List.set_cons_zero, List.set_cons_succ]
    refine wpAnyH_take (i := 7) (oi := ?oiq1x8) (v := _) ?hiq1x8 (by kernel_rfl) (by kernel_rfl) (by kernel_rfl) ?hQq1x8 (Or.inr ⟨?hwq1x8, rfl⟩) (by assumption) ?restq1x8
    case hiq1x8 => simp only [List.getElem?_toArray, List.getElem?_cons_succ, List.getElem?_cons_zero]; exact rfl
    case hQq1x8 => exact fun _ _ _ h => h
    case hwq1x8 => rfl
    try simp only [Act.put, List.setIfInBounds_toArray, List.set_cons_zero, List.set_cons_succ]
    refine wpAnyH_take (i := 8) (oi := ?oiq1x9) (v := _) ?hiq1x9 (by kernel_rfl) (by kernel_rfl) (by kernel_rfl) ?hQq1x9 (Or.inr ⟨?hwq1x9, rfl⟩) (by assumption) ?restq1x9
    case hiq1x9 => simp only [List.getElem?_toArray, List.getElem?_cons_succ, List.getElem?_cons_zero]; exact rfl
    case hQq1x9 => exact fun _ _ _ h => h
    case hwq1x9 => rfl
    try simp only [Act.put, List.setIfInBounds_toArray, List.set_cons_zero, List.set_cons_succ]
    refine wpAnyH_take (i := 9) (oi := ?oiq1x10) (v := ?vq1x10) ?hiq1x10 (by kernel_rfl) (by kernel_rfl) (by kernel_rfl) ?hQq1x10 (Or.inl ⟨?hwq1x10, ?hyq1x10⟩) (by assumption) ?restq1x10
    case hiq1x10 => simp only [List.getElem?_toArray, List.getElem?_cons_succ, List.getElem?_cons_zero]; exact rfl
    case hQq1x10 => exact fun _ _ _ h => h
    case hwq1x10 => rfl
    case hyq1x10 => ((intro w hSw; (try dsimp only at hSw); go_simp) <;> with_reducible rfl)
    try simp only [Act.put, List.setIfInBounds_toArray, List.set_cons_zero, List.set_cons_succ]
    refine wpAnyH_take (i := 10) (oi := ?oiq1x11) (v := ?vq1x11) ?hiq1x11 (by kernel_rfl) (by kernel_rfl) (by kernel_rfl) ?hQq1x11 (Or.inl ⟨?hwq1x11, ?hyq1x11⟩) (by assumption) ?restq1x11
    case hiq1x11 => simp only [List.getElem?_toArray, List.getElem?_cons_succ, List.getElem?_cons_zero]; exact rfl
    case hQq1x11 => exact fun _ _ _ h => h
    case hwq1x11 => rfl
    case hyq1x11 => ((intro w hSw; (try dsimp only at hSw); go_simp) <;> with_reducible rfl)
    try simp only [Act.put, List.setIfInBounds_toArray, List.set_cons_zero, List.set_cons_succ]
    refine wpAnyH_done (by kernel_rfl) ?_ _
    clear hHeld o0 o1 o2 o3
    go_wp2_with fail
    go_ret
    exact ⟨by rw [canB, HRG.out]; rfl, hb0.drew⟩
end Go.Proofs.Ytdjmejjponlfoaa
