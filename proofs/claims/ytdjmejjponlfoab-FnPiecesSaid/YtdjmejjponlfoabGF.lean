/-
  Filled, MtF, MtC.
-/
import Derived.Test.YtdjmejjponlfoabGI
import Derived.Test.YtdjmejjponlfoabGM
namespace Go.Proofs.Ytdjmejjponlfoab
open Go.RowKit Wire

/-- record k of a list is right -/
def okAt (zs : List Int) (k : Nat) : Bool := recB (num zs (k * 8)) (num zs (k * 8 + 1)) (num zs (k * 8 + 2)) (num zs (k * 8 + 3)) (num zs (k * 8 + 4)) (num zs (k * 8 + 5)) (num zs (k * 8 + 6)) (num zs (k * 8 + 7))
/-- the first k records are right -/
def okTo (zs : List Int) : Nat → Bool
  | 0 => true
  | k + 1 => okTo zs k && okAt zs k
/-- record k fills the order -/
def fillAt (zs : List Int) (id : Int) (k : Nat) : Bool := (num zs (k * 8 + 1) == 3) && ((num zs (k * 8 + 4) == id) || (num zs (k * 8 + 5) == id))
/-- what the first k records fill -/
def sumTo (zs : List Int) (id : Int) : Nat → Int
  | 0 => 0
  | k + 1 => sumTo zs id k + if fillAt zs id k = true then num zs (k * 8 + 7) else 0
def filledI (zs : List Int) (n : Nat) (id : Int) : Int := if okTo zs n = true then sumTo zs id n else -1
theorem okTo_no {zs : List Int} {k : Nat} (h : okAt zs k = false) : ∀ n, k < n → okTo zs n = false
  | 0, hk => by omega
  | n + 1, hk => by
    rcases Nat.lt_or_ge k n with hlt | hge
    · simp [okTo, okTo_no h n hlt]
    · obtain rfl : k = n := by omega
      simp [okTo, h]
theorem okAt_qty {zs : List Int} {k : Nat} (h : okAt zs k = true) : 0 ≤ num zs (k * 8 + 7) ∧ num zs (k * 8 + 7) ≤ 1000000 := by
  have := rec_fits h
  omega
theorem okTo_step {zs : List Int} {k : Nat} (h : okTo zs k = true) (h1 : okAt zs k = true) : okTo zs (k + 1) = true := by simp [okTo, h, h1]
theorem okTo_at {zs : List Int} : ∀ n k, okTo zs n = true → k < n → okAt zs k = true
  | 0, k, _, hk => by omega
  | n + 1, k, h, hk => by
    simp only [okTo, Bool.and_eq_true] at h
    rcases Nat.lt_or_ge k n with hlt | hge
    · exact okTo_at n k h.1 hlt
    · obtain rfl : k = n := by omega
      exact h.2
theorem sumTo_le {zs : List Int} {id : Int} : ∀ k, okTo zs k = true → 0 ≤ sumTo zs id k ∧ sumTo zs id k ≤ 1000000 * k
  | 0, _ => by simp [sumTo]
  | k + 1, h => by
    simp only [okTo, Bool.and_eq_true] at h
    have h1 := sumTo_le (id := id) k h.1
    have h2 := okAt_qty h.2
    simp only [sumTo]
    split <;> omega
theorem filledI_yes {zs : List Int} {n : Nat} {id : Int} (h : okTo zs n = true) : filledI zs n id = sumTo zs id n := by
  simp [filledI, h]

set_option maxHeartbeats 1600000 in
set_option maxRecDepth 100000 in
theorem impl_recsOk (A : Option Addr) (n c : Nat) (zs : List Int) (w : World) (hl : Lst w w.heap.size 8 A n zs) (hn : n ≤ 1048576) :
    Calls Try.prog 56 #[.slice A n c] w fun e w' => e = .returned (.bool (okTo zs n)) ∧ Below w.heap.size w w' := by
  go_enter Try.func56, Try.ntmps56
  go_wp2_with fail
  go_loopw [7] (fun i wr => ∃ k : Nat, k ≤ n ∧ i = .int .i64 (k : Int) ∧ okTo zs k = true ∧ Below w.heap.size w wr) (fun i _ => n - (intOf i).toNat)
  case atStart => exact ⟨0, Nat.zero_le _, rfl, rfl, Below.refl _ _⟩
  case round =>
    obtain ⟨k, hk, rfl, hok, hbel⟩ := hrel
    by_cases hlt : k < n
    · obtain ⟨b, o, rfl, hb, c0, c1, c2, c3, c4, c5, c6, c7⟩ := (hl.below hbel).row8 hlt
      have hok2 := fun h => okTo_step (k := k) hok h
      have hno := fun h => @okTo_no zs k h n hlt
      have HA : Hid (okAt zs k = recB (num zs (k * 8)) (num zs (k * 8 + 1)) (num zs (k * 8 + 2)) (num zs (k * 8 + 3)) (num zs (k * 8 + 4)) (num zs (k * 8 + 5)) (num zs (k * 8 + 6)) (num zs (k * 8 + 7))) := Lib.hid rfl
      generalize num zs (k * 8) = z0 at *
      generalize num zs (k * 8 + 1) = z1 at *
      generalize num zs (k * 8 + 2) = z2 at *
      generalize num zs (k * 8 + 3) = z3 at *
      generalize num zs (k * 8 + 4) = z4 at *
      generalize num zs (k * 8 + 5) = z5 at *
      generalize num zs (k * 8 + 6) = z6 at *
      generalize num zs (k * 8 + 7) = z7 at *
      clear hl hok
      rcases Bool.eq_false_or_eq_true (okAt zs k) with hat | hat
      · have HO := Lib.hid (hok2 hat)
        have HR : Hid (recB z0 z1 z2 z3 z4 z5 z6 z7 = true) := Lib.hid (HA.out ▸ hat)
        clear hok2 hno hat HA
        go_wp2_with fail
        refine (impl_RecOk _ _ _ _ _ _ _ _ _).mono ?_
        rw [HR.out]
        rintro e w1 ⟨rfl, hb1⟩
        have hbel1 : Below w.heap.size w w1 := hbel.trans ((below_alloc hb1).mono hbel.size)
        clear hb1 hbel c0 c1 c2 c3 c4 c5 c6 c7
        go_wp2_with fail
        go_roundw
        case rel => exact ⟨k + 1, by omega, by go_num, HO.out, hbel1⟩
        case measure => simp [intOf]; omega
      · have hno := Lib.hid (hno hat)
        have HR : Hid (recB z0 z1 z2 z3 z4 z5 z6 z7 = false) := Lib.hid (HA.out ▸ hat)
        clear hok2 hat HA
        go_wp2_with fail
        refine (impl_RecOk _ _ _ _ _ _ _ _ _).mono ?_
        rw [HR.out]
        rintro e w1 ⟨rfl, hb1⟩
        go_wp2_with fail
        go_ret
        exact ⟨by rw [hno.out]; rfl, hbel.trans ((below_alloc hb1).mono hbel.size)⟩
    · obtain rfl : k = n := by omega
      have HN := Lib.hid hok
      clear hok hl
      go_wp2_with fail
      go_ret
      exact ⟨by rw [HN.out]; rfl, hbel⟩
/-- a record fills an order -/
def fillB (z1 z4 z5 id : Int) : Bool := (z1 == 3) && ((z4 == id) || (z5 == id))
theorem fillAt_eq (zs : List Int) (id : Int) (k : Nat) : fillAt zs id k = fillB (num zs (k * 8 + 1)) (num zs (k * 8 + 4)) (num zs (k * 8 + 5)) id := rfl
set_option maxHeartbeats 1600000 in
set_option maxRecDepth 100000 in
theorem impl_isFillOf (z0 z1 z2 z3 z4 z5 z6 z7 id : Int) (w : World) :
    Calls Try.prog 57 #[.agg #[.int .i64 z0, .int .i64 z1, .int .i64 z2, .int .i64 z3, .int .i64 z4, .int .i64 z5, .int .i64 z6, .int .i64 z7], .int .i64 id] w fun e w' => e = .returned (.bool (fillB z1 z4 z5 id)) ∧ Below w.heap.size w w' := by
  unfold fillB
  rcases Bool.eq_false_or_eq_true (z1 == 3) with t1 | t1
  · rcases Bool.eq_false_or_eq_true (z4 == id) with t2 | t2
    · go_enter Try.func57, Try.ntmps57
      go_wp2_with fail
      go_ret
      exact ⟨by simp [t1, t2], by go_grown⟩
    · rcases Bool.eq_false_or_eq_true (z5 == id) with t3 | t3
      all_goals
        go_enter Try.func57, Try.ntmps57
        go_wp2_with fail
        go_ret
        exact ⟨by simp [t1, t2, t3], by go_grown⟩
  · go_enter Try.func57, Try.ntmps57
    go_wp2_with fail
    go_ret
    exact ⟨by simp [t1], by go_grown⟩
set_option maxHeartbeats 1600000 in
set_option maxRecDepth 100000 in
theorem impl_Filled (A : Option Addr) (n c : Nat) (zs : List Int) (id : Int) (w : World) (hl : Lst w w.heap.size 8 A n zs) (hn : n ≤ 1048576) :
    Calls Try.prog 15 #[.slice A n c, .int .i64 id] w fun e w' => e = .returned (.int .i64 (filledI zs n id)) ∧ Below w.heap.size w w' := by
  rcases Bool.eq_false_or_eq_true (okTo zs n) with hall | hall
  · have HN := Lib.hid (filledI_yes (id := id) hall)
    have Hall := Lib.hid (fun k => okTo_at n k hall)
    have Hn := Lib.hid hall
    clear hall
    go_enter Try.func15, Try.ntmps15
    go_wp2_with fail
    refine (impl_recsOk _ _ _ zs _ hl hn).mono ?_
    rw [Hn.out]
    rintro e w0 ⟨rfl, hb0⟩
    go_wp2_with fail
    go_loopw [5, 13] (fun s i wr => ∃ k : Nat, k ≤ n ∧ i = .int .i64 (k : Int) ∧ s = .int .i64 (sumTo zs id k) ∧ okTo zs k = true ∧ Below w.heap.size w wr) (fun _ i _ => n - (intOf i).toNat)
    case atStart => exact ⟨0, Nat.zero_le _, rfl, rfl, rfl, hb0⟩
    case round =>
      obtain ⟨k, hk, rfl, rfl, hok, hbel⟩ := hrel
      by_cases hlt : k < n
      · obtain ⟨b, o, rfl, hb, c0, c1, c2, c3, c4, c5, c6, c7⟩ := (hl.below hbel).row8 hlt
        have HS := Lib.hid (show sumTo zs id (k + 1) = sumTo zs id k + if fillAt zs id k = true then num zs (k * 8 + 7) else 0 from rfl)
        have HF := Lib.hid (fillAt_eq zs id k)
        have hs := sumTo_le (id := id) k hok
        have hat := Hall.out k hlt
        have HO := Lib.hid (okTo_step (k := k) hok hat)
        have hq := okAt_qty hat
        generalize num zs (k * 8) = z0 at *
        generalize num zs (k * 8 + 1) = z1 at *
        generalize num zs (k * 8 + 2) = z2 at *
        generalize num zs (k * 8 + 3) = z3 at *
        generalize num zs (k * 8 + 4) = z4 at *
        generalize num zs (k * 8 + 5) = z5 at *
        generalize num zs (k * 8 + 6) = z6 at *
        generalize num zs (k * 8 + 7) = z7 at *
        clear hl hok hat Hall hb0
        rcases Bool.eq_false_or_eq_true (fillB z1 z4 z5 id) with t1 | t1
        all_goals
          have T1 := Lib.hid t1
          clear t1
          go_wp2_with fail
          refine (impl_isFillOf _ _ _ _ _ _ _ _ _ _).mono ?_
          rw [T1.out]
          rintro e w1 ⟨rfl, hb1⟩
          have e7 := box_cell hb1 7
          simp at e7
          have hbel1 : Below w.heap.size w w1 := hbel.trans ((below_alloc hb1).mono hbel.size)
          clear hb1 hbel c0 c1 c2 c3 c4 c5 c6 c7
          go_wp2_with fail
          go_roundw
          case rel => exact ⟨k + 1, by omega, by go_num, by rw [HS.out, HF.out, T1.out]; simp, HO.out, hbel1⟩
          case measure => simp [intOf]; omega
      · obtain rfl : k = n := by omega
        clear hok hl
        go_wp2_with fail
        go_ret
        exact ⟨by rw [HN.out]; rfl, hbel⟩
  · have HN : Hid (filledI zs n id = -1) := Lib.hid (by simp [filledI, hall])
    have Hn := Lib.hid hall
    clear hall
    go_enter Try.func15, Try.ntmps15
    go_wp2_with fail
    refine (impl_recsOk _ _ _ zs _ hl hn).mono ?_
    rw [Hn.out]
    rintro e w0 ⟨rfl, hb0⟩
    go_wp2_with fail
    go_ret
    exact ⟨by rw [HN.out]; rfl, hb0⟩
end Go.Proofs.Ytdjmejjponlfoab

namespace Go.Proofs.Ytdjmejjponlfoab
open Go.RowKit Go.Shelf Wire

theorem fnum_lt {L M : List Int} {i : Nat} (h : i < L.length) : num (L ++ M) i = num L i := by
  unfold num
  rw [List.getD_eq_getElem?_getD, List.getD_eq_getElem?_getD, List.getElem?_append_left h]
theorem fnum_ge {L M : List Int} {j i : Nat} (h : L.length = j) : num (L ++ M) (j + i) = num M i := by
  subst h
  unfold num
  rw [List.getD_eq_getElem?_getD, List.getD_eq_getElem?_getD, List.getElem?_append_right (by omega)]
  congr 2
  omega
theorem okTo_app {R S : List Int} : ∀ N, N * 8 ≤ R.length → okTo (R ++ S) N = okTo R N
  | 0, _ => rfl
  | N + 1, h => by
    rw [okTo, okTo, okTo_app N (by omega)]
    congr 1
    unfold okAt
    rw [fnum_lt (by omega), fnum_lt (by omega), fnum_lt (by omega), fnum_lt (by omega), fnum_lt (by omega), fnum_lt (by omega), fnum_lt (by omega), fnum_lt (by omega)]
theorem okTo_snoc {R : List Int} {N : Nat} {a b c d e f g h : Int} (hl : R.length = N * 8) (hk : okTo R N = true) (hr : recB a b c d e f g h = true) : okTo (R ++ [a, b, c, d, e, f, g, h]) (N + 1) = true := by
  rw [okTo, okTo_app N (by omega), hk]
  unfold okAt
  have e0 := fnum_ge (M := [a, b, c, d, e, f, g, h]) (i := 0) hl
  rw [Nat.add_zero] at e0
  rw [e0, fnum_ge hl, fnum_ge hl, fnum_ge hl, fnum_ge hl, fnum_ge hl, fnum_ge hl, fnum_ge hl]
  simpa [num] using hr
/-- the orders of a list are right -/
def ordsOk (Z : List Int) (m : Nat) : Prop := ∀ k, k < m → ordB Z k = true
theorem ordsOk_tail {i a p c : Int} {t : List Int} {m : Nat} (h : ordsOk (i :: a :: p :: c :: t) (m + 1)) : ordsOk t m := fun k hk => by
  have := h (k + 1) (by omega)
  unfold ordB at *
  rw [show (k + 1) * 4 = k * 4 + 4 by omega] at this
  exact this
theorem can_ok {R : List Int} {N : Nat} {i a p c : Int} (hl : R.length = N * 8) (hk : okTo R N = true) (hi : 0 ≤ i ∧ i ≤ 1000000000) (ha : 0 ≤ a ∧ a ≤ 255) (hp : 0 ≤ p ∧ p ≤ 1000000) (hc : 0 ≤ c ∧ c ≤ 1000000) : okTo (R ++ canR i a p c) (N + 1) = true :=
  okTo_snoc hl hk (by simp [recB, inB]; omega)
theorem fil_ok {R : List Int} {N : Nat} {id a i p c : Int} (hl : R.length = N * 8) (hk : okTo R N = true) (hd : 0 ≤ id ∧ id ≤ 1000000000) (hi : 0 ≤ i ∧ i ≤ 1000000000) (ha : 0 ≤ a ∧ a ≤ 255) (hp : 0 ≤ p ∧ p ≤ 1000000) (hc : 0 ≤ c ∧ c ≤ 1000000) : okTo (R ++ filR id a i p c) (N + 1) = true :=
  okTo_snoc hl hk (by simp [recB, inB]; omega)
theorem mts_ok {side oi oa op mode : Int} (hi : 0 ≤ oi ∧ oi ≤ 1000000000) (ha : 0 ≤ oa ∧ oa ≤ 255) (hp : 0 ≤ op ∧ op ≤ 1000000) : ∀ (m : Nat) {Z R : List Int} {q : Int} (N : Nat), Z.length = m * 4 → ordsOk Z m → R.length = N * 8 → okTo R N = true → 0 ≤ q → q ≤ 1000000 → okTo (mtS side oi oa op mode Z R q).2.1 ((mtS side oi oa op mode Z R q).2.1.length / 8) = true
  | 0, Z, R, q, N, hZ, _, hR, hk, _, _ => by
    have : Z = [] := List.eq_nil_of_length_eq_zero (by omega)
    subst this
    rw [mtS_nil]
    rw [show R.length / 8 = N by omega]
    exact hk
  | m + 1, Z, R, q, N, hZ, ho, hR, hk, q0, q1 => by
    obtain ⟨t, e, ht, -⟩ := head4 hZ
    have h0 := ho 0 (by omega)
    simp only [ordB, inB, Bool.and_eq_true, decide_eq_true_eq, Nat.zero_mul, Nat.zero_add] at h0
    obtain ⟨⟨i1, i2⟩, ⟨a1, a2⟩, ⟨p1, p2⟩, c1, c2⟩ := h0
    have hto : ordsOk t m := ordsOk_tail (by rw [← e]; exact ho)
    generalize num Z 0 = i at *
    generalize num Z 1 = a at *
    generalize num Z 2 = p at *
    generalize num Z 3 = c at *
    rw [e, mtS_cons]
    have hl1 : ∀ {x y z u : Int}, (R ++ canR x y z u).length = (N + 1) * 8 := by intro x y z u; simp [canR, hR]; omega
    have hl2 : ∀ {x y z u v : Int}, (R ++ filR x y z u v).length = (N + 1) * 8 := by intro x y z u v; simp [filR, hR]; omega
    have k1 : okTo (R ++ canR i a p c) (N + 1) = true := can_ok hR hk ⟨by omega, by omega⟩ ⟨by omega, by omega⟩ ⟨by omega, by omega⟩ ⟨by omega, by omega⟩
    split
    · split
      · split
        · dsimp only
          rw [hl1, show (N + 1) * 8 / 8 = N + 1 by omega]
          exact can_ok hR hk hi ha hp ⟨q0, q1⟩
        · split
          · exact mts_ok hi ha hp m (N + 1) ht hto hl1 k1 q0 q1
          · dsimp only
            rw [show (R ++ canR i a p c ++ canR oi oa op q).length / 8 = N + 2 by simp [canR, hR]; omega]
            exact can_ok hl1 k1 hi ha hp ⟨q0, q1⟩
      · split
        · exact mts_ok hi ha hp m (N + 1) ht hto hl2 (fil_ok hR hk hi ⟨by omega, by omega⟩ ha ⟨by omega, by omega⟩ ⟨by omega, by omega⟩) (by omega) (by omega)
        · dsimp only
          rw [hl2, show (N + 1) * 8 / 8 = N + 1 by omega]
          exact fil_ok hR hk hi ⟨by omega, by omega⟩ ha ⟨by omega, by omega⟩ ⟨by omega, by omega⟩
    · dsimp only
      rw [show R.length / 8 = N by omega]
      exact hk
/-- the records are right when all is -/
theorem mrr_ok {za zb : List Int} {n m N : Nat} {side oi oa op oq mode : Int} (h : rgB za n zb m side oi oa op oq mode = true) (ha : za.length = n * 4) (hb : zb.length = m * 4) (hl : (mRR true side oi oa op oq mode za zb).length = N * 8) : okTo (mRR true side oi oa op oq mode za zb) N = true := by
  obtain ⟨hbk, _, hic, _, _, _, _, _, _, hq1, hq2⟩ := rg_parts h
  simp only [bookB, sideB, Bool.and_eq_true, decide_eq_true_eq] at hbk
  simp only [incB, inB, Bool.and_eq_true, decide_eq_true_eq] at hic
  have hoa : ordsOk za n := fun k hk => allO_at n k hbk.1.2.1 hk
  have hob : ordsOk zb m := fun k hk => allO_at m k hbk.2.1.2.1 hk
  have e : mRR true side oi oa op oq mode za zb = (mtS side oi oa op mode (if side = 1 then zb else za) [] oq).2.1 := by simp [mRR, mtA]
  rw [e] at hl ⊢
  have key : okTo (mtS side oi oa op mode (if side = 1 then zb else za) [] oq).2.1 ((mtS side oi oa op mode (if side = 1 then zb else za) [] oq).2.1.length / 8) = true := by
    split
    · exact mts_ok ⟨by omega, by omega⟩ ⟨by omega, by omega⟩ ⟨by omega, by omega⟩ m 0 hb hob rfl rfl (by omega) (by omega)
    · exact mts_ok ⟨by omega, by omega⟩ ⟨by omega, by omega⟩ ⟨by omega, by omega⟩ n 0 ha hoa rfl rfl (by omega) (by omega)
  rw [hl, show N * 8 / 8 = N by omega] at key
  exact key
end Go.Proofs.Ytdjmejjponlfoab

namespace Go.Proofs.Ytdjmejjponlfoab
open Go.RowKit Wire

end Go.Proofs.Ytdjmejjponlfoab
