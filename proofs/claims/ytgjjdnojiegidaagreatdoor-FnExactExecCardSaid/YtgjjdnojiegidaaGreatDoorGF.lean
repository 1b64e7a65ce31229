/-
 Filled, MtF, MtC.
-/
import Derived.Test.YtgjjdnojiegidaaGreatDoorTak
import Derived.Test.YtgjjdnojiegidaaGreatDoorGI
import Derived.Test.YtgjjdnojiegidaaGreatDoorGM
namespace Go.Proofs.YtgjjdnojiegidaaGreatDoor
open Go.RowKit Wire
set_option maxHeartbeats 3200000
set_option maxRecDepth 100000
set_option linter.unusedSimpArgs false

def okAt (zs : List Int) (k : Nat) : Bool := recB (num zs (k * 8)) (num zs (k * 8 + 1)) (num zs (k * 8 + 2)) (num zs (k * 8 + 3)) (num zs (k * 8 + 4)) (num zs (k * 8 + 5)) (num zs (k * 8 + 6)) (num zs (k * 8 + 7))
def okTo (zs : List Int) : Nat → Bool
 | 0 => true
 | k + 1 => okTo zs k && okAt zs k
def fillAt (zs : List Int) (id : Int) (k : Nat) : Bool := (num zs (k * 8 + 1) == 3) && ((num zs (k * 8 + 4) == id) || (num zs (k * 8 + 5) == id))
def sumTo (zs : List Int) (id : Int) : Nat → Int
 | 0 => 0
 | k + 1 => sumTo zs id k + if fillAt zs id k = true then num zs (k * 8 + 7) else 0
def filledI (zs : List Int) (n : Nat) (id : Int) : Int := if okTo zs n = true then sumTo zs id n else -1
theorem okTo_no {zs : List Int} {k : Nat} (h : okAt zs k = false) : ∀ n, k < n → okTo zs n = false
 | 0, hk => by omega
 | n + 1, hk => by
  rcases Nat.lt_or_ge k n with hlt | hge
  · simp [okTo, okTo_no h n hlt]
  · obtain rfl : k = n := by omega
    simp [okTo, h]
theorem okAt_qty {zs : List Int} {k : Nat} (h : okAt zs k = true) : 0 ≤ num zs (k * 8 + 7) ∧ num zs (k * 8 + 7) ≤ 1000000 := by
 have := rec_fits h
 omega
theorem okTo_step {zs : List Int} {k : Nat} (h : okTo zs k = true) (h1 : okAt zs k = true) : okTo zs (k + 1) = true := by simp [okTo, h, h1]
theorem okTo_at {zs : List Int} : ∀ n k, okTo zs n = true → k < n → okAt zs k = true
 | 0, k, _, hk => by omega
 | n + 1, k, h, hk => by
  simp only [okTo, Bool.and_eq_true] at h
  rcases Nat.lt_or_ge k n with hlt | hge
  · exact okTo_at n k h.1 hlt
  · obtain rfl : k = n := by omega
    exact h.2
theorem sumTo_le {zs : List Int} {id : Int} : ∀ k, okTo zs k = true → 0 ≤ sumTo zs id k ∧ sumTo zs id k ≤ 1000000 * k
 | 0, _ => by simp [sumTo]
 | k + 1, h => by
  simp only [okTo, Bool.and_eq_true] at h
  have h1 := sumTo_le (id := id) k h.1
  have h2 := okAt_qty h.2
  simp only [sumTo]
  split <;> omega
theorem filledI_yes {zs : List Int} {n : Nat} {id : Int} (h : okTo zs n = true) : filledI zs n id = sumTo zs id n := by
 simp [filledI, h]

theorem impl_recsOk (A : Option Addr) (n c : Nat) (zs : List Int) (w : World) (hl : Lst w w.heap.size 8 A n zs) (hn : n ≤ 1048576) :
 Calls Tryz.prog 122 #[.slice A n c] w fun e w' => e = .returned (.bool (okTo zs n)) ∧ Below w.heap.size w w' := by
 go_enter Tryz.func122, Tryz.ntmps122
 go_wp2_with fail
 go_loopw [7] (fun i wr => ∃ k : Nat, k ≤ n ∧ i = .int .i64 (k : Int) ∧ okTo zs k = true ∧ Below w.heap.size w wr) (fun i _ => n - (intOf i).toNat)
 case atStart => exact ⟨0, Nat.zero_le _, rfl, rfl, Below.refl _ _⟩
 case round =>
  obtain ⟨k, hk, rfl, hok, hbel⟩ := hrel
  by_cases hlt : k < n
  · obtain ⟨b, o, rfl, hb, c0, c1, c2, c3, c4, c5, c6, c7⟩ := (hl.below hbel).row8 hlt
    have hok2 := fun h => okTo_step (k := k) hok h
    have hno := fun h => @okTo_no zs k h n hlt
    have HA : Hid (okAt zs k = recB (num zs (k * 8)) (num zs (k * 8 + 1)) (num zs (k * 8 + 2)) (num zs (k * 8 + 3)) (num zs (k * 8 + 4)) (num zs (k * 8 + 5)) (num zs (k * 8 + 6)) (num zs (k * 8 + 7))) := Lib.hid rfl
    generalize num zs (k * 8) = z0 at *
    generalize num zs (k * 8 + 1) = z1 at *
    generalize num zs (k * 8 + 2) = z2 at *
    generalize num zs (k * 8 + 3) = z3 at *
    generalize num zs (k * 8 + 4) = z4 at *
    generalize num zs (k * 8 + 5) = z5 at *
    generalize num zs (k * 8 + 6) = z6 at *
    generalize num zs (k * 8 + 7) = z7 at *
    clear hl hok
    rcases Bool.eq_false_or_eq_true (okAt zs k) with hat | hat
    · have HO := Lib.hid (hok2 hat)
      have HR : Hid (recB z0 z1 z2 z3 z4 z5 z6 z7 = true) := Lib.hid (HA.out ▸ hat)
      clear hok2 hno hat HA
      go_wp2_with fail
      refine (impl_RecOk _ _ _ _ _ _ _ _ _).mono ?_
      rw [HR.out]
      rintro e w1 ⟨rfl, hb1⟩
      have hbel1 : Below w.heap.size w w1 := hbel.trans ((below_alloc hb1).mono hbel.size)
      clear hb1 hbel c0 c1 c2 c3 c4 c5 c6 c7
      go_wp2_with fail
      go_roundw
      case rel => exact ⟨k + 1, by omega, by go_num, HO.out, hbel1⟩
      case measure => simp [intOf]; omega
    · have hno := Lib.hid (hno hat)
      have HR : Hid (recB z0 z1 z2 z3 z4 z5 z6 z7 = false) := Lib.hid (HA.out ▸ hat)
      clear hok2 hat HA
      go_wp2_with fail
      refine (impl_RecOk _ _ _ _ _ _ _ _ _).mono ?_
      rw [HR.out]
      rintro e w1 ⟨rfl, hb1⟩
      go_wp2_with fail
      go_ret
      exact ⟨by rw [hno.out]; rfl, hbel.trans ((below_alloc hb1).mono hbel.size)⟩
  · obtain rfl : k = n := by omega
    have HN := Lib.hid hok
    clear hok hl
    go_wp2_with fail
    go_ret
    exact ⟨by rw [HN.out]; rfl, hbel⟩
def fillB (z1 z4 z5 id : Int) : Bool := (z1 == 3) && ((z4 == id) || (z5 == id))
theorem fillAt_eq (zs : List Int) (id : Int) (k : Nat) : fillAt zs id k = fillB (num zs (k * 8 + 1)) (num zs (k * 8 + 4)) (num zs (k * 8 + 5)) id := rfl
theorem impl_isFillOf (z0 z1 z2 z3 z4 z5 z6 z7 id : Int) (w : World) :
 Calls Tryz.prog 123 #[.agg #[.int .i64 z0, .int .i64 z1, .int .i64 z2, .int .i64 z3, .int .i64 z4, .int .i64 z5, .int .i64 z6, .int .i64 z7], .int .i64 id] w fun e w' => e = .returned (.bool (fillB z1 z4 z5 id)) ∧ Below w.heap.size w w' := by
 unfold fillB
 rcases Bool.eq_false_or_eq_true (z1 == 3) with t1 | t1
 · rcases Bool.eq_false_or_eq_true (z4 == id) with t2 | t2
   · go_enter Tryz.func123, Tryz.ntmps123
     go_wp2_with fail
     go_ret
     exact ⟨by simp [t1, t2], by go_grown⟩
   · rcases Bool.eq_false_or_eq_true (z5 == id) with t3 | t3
     all_goals
      go_enter Tryz.func123, Tryz.ntmps123
      go_wp2_with fail
      go_ret
      exact ⟨by simp [t1, t2, t3], by go_grown⟩
 · go_enter Tryz.func123, Tryz.ntmps123
   go_wp2_with fail
   go_ret
   exact ⟨by simp [t1], by go_grown⟩
theorem impl_Filled (A : Option Addr) (n c : Nat) (zs : List Int) (id : Int) (w : World) (hl : Lst w w.heap.size 8 A n zs) (hn : n ≤ 1048576) :
 Calls Tryz.prog 113 #[.slice A n c, .int .i64 id] w fun e w' => e = .returned (.int .i64 (filledI zs n id)) ∧ Below w.heap.size w w' := by
 rcases Bool.eq_false_or_eq_true (okTo zs n) with hall | hall
 · have HN := Lib.hid (filledI_yes (id := id) hall)
   have Hall := Lib.hid (fun k => okTo_at n k hall)
   have Hn := Lib.hid hall
   clear hall
   go_enter Tryz.func113, Tryz.ntmps113
   go_wp2_with fail
   refine (impl_recsOk _ _ _ zs _ hl hn).mono ?_
   rw [Hn.out]
   rintro e w0 ⟨rfl, hb0⟩
   go_wp2_with fail
   go_loopw [5, 13] (fun s i wr => ∃ k : Nat, k ≤ n ∧ i = .int .i64 (k : Int) ∧ s = .int .i64 (sumTo zs id k) ∧ okTo zs k = true ∧ Below w.heap.size w wr) (fun _ i _ => n - (intOf i).toNat)
   case atStart => exact ⟨0, Nat.zero_le _, rfl, rfl, rfl, hb0⟩
   case round =>
    obtain ⟨k, hk, rfl, rfl, hok, hbel⟩ := hrel
    by_cases hlt : k < n
    · obtain ⟨b, o, rfl, hb, c0, c1, c2, c3, c4, c5, c6, c7⟩ := (hl.below hbel).row8 hlt
      have HS := Lib.hid (show sumTo zs id (k + 1) = sumTo zs id k + if fillAt zs id k = true then num zs (k * 8 + 7) else 0 from rfl)
      have HF := Lib.hid (fillAt_eq zs id k)
      have hs := sumTo_le (id := id) k hok
      have hat := Hall.out k hlt
      have HO := Lib.hid (okTo_step (k := k) hok hat)
      have hq := okAt_qty hat
      generalize num zs (k * 8) = z0 at *
      generalize num zs (k * 8 + 1) = z1 at *
      generalize num zs (k * 8 + 2) = z2 at *
      generalize num zs (k * 8 + 3) = z3 at *
      generalize num zs (k * 8 + 4) = z4 at *
      generalize num zs (k * 8 + 5) = z5 at *
      generalize num zs (k * 8 + 6) = z6 at *
      generalize num zs (k * 8 + 7) = z7 at *
      clear hl hok hat Hall hb0
      rcases Bool.eq_false_or_eq_true (fillB z1 z4 z5 id) with t1 | t1
      all_goals
       have T1 := Lib.hid t1
       clear t1
       go_wp2_with fail
       refine (impl_isFillOf _ _ _ _ _ _ _ _ _ _).mono ?_
       rw [T1.out]
       rintro e w1 ⟨rfl, hb1⟩
       have e7 := box_cell hb1 7
       simp at e7
       have hbel1 : Below w.heap.size w w1 := hbel.trans ((below_alloc hb1).mono hbel.size)
       clear hb1 hbel c0 c1 c2 c3 c4 c5 c6 c7
       go_wp2_with fail
       go_roundw
       case rel => exact ⟨k + 1, by omega, by go_num, by rw [HS.out, HF.out, T1.out]; simp, HO.out, hbel1⟩
       case measure => simp [intOf]; omega
    · obtain rfl : k = n := by omega
      clear hok hl
      go_wp2_with fail
      go_ret
      exact ⟨by rw [HN.out]; rfl, hbel⟩
 · have HN : Hid (filledI zs n id = -1) := Lib.hid (by simp [filledI, hall])
   have Hn := Lib.hid hall
   clear hall
   go_enter Tryz.func113, Tryz.ntmps113
   go_wp2_with fail
   refine (impl_recsOk _ _ _ zs _ hl hn).mono ?_
   rw [Hn.out]
   rintro e w0 ⟨rfl, hb0⟩
   go_wp2_with fail
   go_ret
   exact ⟨by rw [HN.out]; rfl, hb0⟩
theorem l3Filled_any (A : Option Addr) (n c : Nat) (zs : List Int) (id : Int) (w : World) (hl : Lst w w.heap.size 8 A n zs) (hn : n ≤ 1048576) (hok : okTo zs n = true) :
 Calls Tryz.prog 67 #[.slice A n c, .int .i64 id] w fun e w' => e = .returned (.int .i64 (sumTo zs id n)) ∧ Below w.heap.size w w' := by
 have hall := Lib.hid (fun k => okTo_at n k hok)
 clear hok
 go_enter Tryz.func67, Tryz.ntmps67
 go_wp2_with fail
 go_loopw [5, 6] (fun s i wr => ∃ k : Nat, k ≤ n ∧ i = .int .i64 (k : Int) ∧ s = .int .i64 (sumTo zs id k) ∧ okTo zs k = true ∧ Below w.heap.size w wr) (fun _ i _ => n - (intOf i).toNat)
 case atStart => exact ⟨0, Nat.zero_le _, rfl, rfl, rfl, Below.refl _ _⟩
 case round =>
  obtain ⟨k, hk, rfl, rfl, hok, hbel⟩ := hrel
  by_cases hlt : k < n
  · obtain ⟨b, o, rfl, hb, c0, c1, c2, c3, c4, c5, c6, c7⟩ := (hl.below hbel).row8 hlt
    have HS := Lib.hid (show sumTo zs id (k + 1) = sumTo zs id k + if fillAt zs id k = true then num zs (k * 8 + 7) else 0 from rfl)
    have HF := Lib.hid (show fillAt zs id k = ((num zs (k * 8 + 1) == 3) && ((num zs (k * 8 + 4) == id) || (num zs (k * 8 + 5) == id))) from rfl)
    have hs := sumTo_le (id := id) k hok
    have hat := hall.out k hlt
    have HO := Lib.hid (okTo_step (k := k) hok hat)
    have hq := @okAt_qty zs k hat
    generalize num zs (k * 8) = z0 at *
    generalize num zs (k * 8 + 1) = z1 at *
    generalize num zs (k * 8 + 2) = z2 at *
    generalize num zs (k * 8 + 3) = z3 at *
    generalize num zs (k * 8 + 4) = z4 at *
    generalize num zs (k * 8 + 5) = z5 at *
    generalize num zs (k * 8 + 6) = z6 at *
    generalize num zs (k * 8 + 7) = z7 at *
    clear hl hok hat hall
    rcases Bool.eq_false_or_eq_true (z1 == 3) with t1 | t1
    · rcases Bool.eq_false_or_eq_true (z4 == id) with t2 | t2
      · go_wp2_with fail
        go_roundw
        case rel => exact ⟨k + 1, by omega, by go_num, by rw [HS.out, HF.out]; simp [t1, t2], HO.out, hbel⟩
        case measure => simp [intOf]; omega
      · rcases Bool.eq_false_or_eq_true (z5 == id) with t3 | t3
        · go_wp2_with fail
          go_roundw
          case rel => exact ⟨k + 1, by omega, by go_num, by rw [HS.out, HF.out]; simp [t1, t2, t3], HO.out, hbel⟩
          case measure => simp [intOf]; omega
        · go_wp2_with fail
          go_roundw
          case rel => exact ⟨k + 1, by omega, by go_num, by rw [HS.out, HF.out]; simp [t1, t2, t3], HO.out, hbel⟩
          case measure => simp [intOf]; omega
    · go_wp2_with fail
      go_roundw
      case rel => exact ⟨k + 1, by omega, by go_num, by rw [HS.out, HF.out]; simp [t1], HO.out, hbel⟩
      case measure => simp [intOf]; omega
  · obtain rfl : k = n := by omega
    go_wp2_with fail
    go_ret
    exact ⟨rfl, hbel⟩
end Go.Proofs.YtgjjdnojiegidaaGreatDoor

namespace Go.Proofs.YtgjjdnojiegidaaGreatDoor
open Go.RowKit Go.Shelf Wire
set_option maxHeartbeats 3200000
set_option maxRecDepth 100000
set_option linter.unusedSimpArgs false

theorem fnum_lt {L M : List Int} {i : Nat} (h : i < L.length) : num (L ++ M) i = num L i := by
 unfold num
 rw [List.getD_eq_getElem?_getD, List.getD_eq_getElem?_getD, List.getElem?_append_left h]
theorem fnum_ge {L M : List Int} {j i : Nat} (h : L.length = j) : num (L ++ M) (j + i) = num M i := by
 subst h
 unfold num
 rw [List.getD_eq_getElem?_getD, List.getD_eq_getElem?_getD, List.getElem?_append_right (by omega)]
 congr 2
 omega
theorem okTo_app {R S : List Int} : ∀ N, N * 8 ≤ R.length → okTo (R ++ S) N = okTo R N
 | 0, _ => rfl
 | N + 1, h => by
  rw [okTo, okTo, okTo_app N (by omega)]
  congr 1
  unfold okAt
  rw [fnum_lt (by omega), fnum_lt (by omega), fnum_lt (by omega), fnum_lt (by omega), fnum_lt (by omega), fnum_lt (by omega), fnum_lt (by omega), fnum_lt (by omega)]
theorem okTo_snoc {R : List Int} {N : Nat} {a b c d e f g h : Int} (hl : R.length = N * 8) (hk : okTo R N = true) (hr : recB a b c d e f g h = true) : okTo (R ++ [a, b, c, d, e, f, g, h]) (N + 1) = true := by
 rw [okTo, okTo_app N (by omega), hk]
 unfold okAt
 have e0 := fnum_ge (M := [a, b, c, d, e, f, g, h]) (i := 0) hl
 rw [Nat.add_zero] at e0
 rw [e0, fnum_ge hl, fnum_ge hl, fnum_ge hl, fnum_ge hl, fnum_ge hl, fnum_ge hl, fnum_ge hl]
 simpa [num] using hr
def ordsOk (Z : List Int) (m : Nat) : Prop := ∀ k, k < m → ordB Z k = true
theorem ordsOk_tail {i a p c : Int} {t : List Int} {m : Nat} (h : ordsOk (i :: a :: p :: c :: t) (m + 1)) : ordsOk t m := fun k hk => by
 have := h (k + 1) (by omega)
 unfold ordB at *
 rw [show (k + 1) * 4 = k * 4 + 4 by omega] at this
 exact this
theorem can_ok {R : List Int} {N : Nat} {i a p c : Int} (hl : R.length = N * 8) (hk : okTo R N = true) (hi : 0 ≤ i ∧ i ≤ 1000000000) (ha : 0 ≤ a ∧ a ≤ 255) (hp : 0 ≤ p ∧ p ≤ 1000000) (hc : 0 ≤ c ∧ c ≤ 1000000) : okTo (R ++ canR i a p c) (N + 1) = true :=
 okTo_snoc hl hk (by simp [recB, inB]; omega)
theorem fil_ok {R : List Int} {N : Nat} {id a i p c : Int} (hl : R.length = N * 8) (hk : okTo R N = true) (hd : 0 ≤ id ∧ id ≤ 1000000000) (hi : 0 ≤ i ∧ i ≤ 1000000000) (ha : 0 ≤ a ∧ a ≤ 255) (hp : 0 ≤ p ∧ p ≤ 1000000) (hc : 0 ≤ c ∧ c ≤ 1000000) : okTo (R ++ filR id a i p c) (N + 1) = true :=
 okTo_snoc hl hk (by simp [recB, inB]; omega)
theorem mts_ok {side oi oa op mode : Int} (hi : 0 ≤ oi ∧ oi ≤ 1000000000) (ha : 0 ≤ oa ∧ oa ≤ 255) (hp : 0 ≤ op ∧ op ≤ 1000000) : ∀ (m : Nat) {Z R : List Int} {q : Int} (N : Nat), Z.length = m * 4 → ordsOk Z m → R.length = N * 8 → okTo R N = true → 0 ≤ q → q ≤ 1000000 → okTo (mtS side oi oa op mode Z R q).2.1 ((mtS side oi oa op mode Z R q).2.1.length / 8) = true
 | 0, Z, R, q, N, hZ, _, hR, hk, _, _ => by
  have : Z = [] := List.eq_nil_of_length_eq_zero (by omega)
  subst this
  rw [mtS_nil]
  rw [show R.length / 8 = N by omega]
  exact hk
 | m + 1, Z, R, q, N, hZ, ho, hR, hk, q0, q1 => by
  obtain ⟨t, e, ht, -⟩ := head4 hZ
  have h0 := ho 0 (by omega)
  simp only [ordB, inB, Bool.and_eq_true, decide_eq_true_eq, Nat.zero_mul, Nat.zero_add] at h0
  obtain ⟨⟨i1, i2⟩, ⟨a1, a2⟩, ⟨p1, p2⟩, c1, c2⟩ := h0
  have hto : ordsOk t m := ordsOk_tail (by rw [← e]; exact ho)
  generalize num Z 0 = i at *
  generalize num Z 1 = a at *
  generalize num Z 2 = p at *
  generalize num Z 3 = c at *
  rw [e, mtS_cons]
  have hl1 : ∀ {x y z u : Int}, (R ++ canR x y z u).length = (N + 1) * 8 := by intro x y z u; simp [canR, hR]; omega
  have hl2 : ∀ {x y z u v : Int}, (R ++ filR x y z u v).length = (N + 1) * 8 := by intro x y z u v; simp [filR, hR]; omega
  have k1 : okTo (R ++ canR i a p c) (N + 1) = true := can_ok hR hk ⟨by omega, by omega⟩ ⟨by omega, by omega⟩ ⟨by omega, by omega⟩ ⟨by omega, by omega⟩
  split
  · split
    · split
      · dsimp only
        rw [hl1, show (N + 1) * 8 / 8 = N + 1 by omega]
        exact can_ok hR hk hi ha hp ⟨q0, q1⟩
      · split
        · exact mts_ok hi ha hp m (N + 1) ht hto hl1 k1 q0 q1
        · dsimp only
          rw [show (R ++ canR i a p c ++ canR oi oa op q).length / 8 = N + 2 by simp [canR, hR]; omega]
          exact can_ok hl1 k1 hi ha hp ⟨q0, q1⟩
    · split
      · exact mts_ok hi ha hp m (N + 1) ht hto hl2 (fil_ok hR hk hi ⟨by omega, by omega⟩ ha ⟨by omega, by omega⟩ ⟨by omega, by omega⟩) (by omega) (by omega)
      · dsimp only
        rw [hl2, show (N + 1) * 8 / 8 = N + 1 by omega]
        exact fil_ok hR hk hi ⟨by omega, by omega⟩ ha ⟨by omega, by omega⟩ ⟨by omega, by omega⟩
  · dsimp only
    rw [show R.length / 8 = N by omega]
    exact hk
theorem mrr_ok {za zb : List Int} {n m N : Nat} {side oi oa op oq mode : Int} (h : rgB za n zb m side oi oa op oq mode = true) (ha : za.length = n * 4) (hb : zb.length = m * 4) (hl : (mRR true side oi oa op oq mode za zb).length = N * 8) : okTo (mRR true side oi oa op oq mode za zb) N = true := by
 obtain ⟨hbk, _, hic, _, _, _, _, _, _, hq1, hq2⟩ := rg_parts h
 simp only [bookB, sideB, Bool.and_eq_true, decide_eq_true_eq] at hbk
 simp only [incB, inB, Bool.and_eq_true, decide_eq_true_eq] at hic
 have hoa : ordsOk za n := fun k hk => allO_at n k hbk.1.2.1 hk
 have hob : ordsOk zb m := fun k hk => allO_at m k hbk.2.1.2.1 hk
 have e : mRR true side oi oa op oq mode za zb = (mtS side oi oa op mode (if side = 1 then zb else za) [] oq).2.1 := by simp [mRR, mtA]
 rw [e] at hl ⊢
 have key : okTo (mtS side oi oa op mode (if side = 1 then zb else za) [] oq).2.1 ((mtS side oi oa op mode (if side = 1 then zb else za) [] oq).2.1.length / 8) = true := by
  split
  · exact mts_ok ⟨by omega, by omega⟩ ⟨by omega, by omega⟩ ⟨by omega, by omega⟩ m 0 hb hob rfl rfl (by omega) (by omega)
  · exact mts_ok ⟨by omega, by omega⟩ ⟨by omega, by omega⟩ ⟨by omega, by omega⟩ n 0 ha hoa rfl rfl (by omega) (by omega)
 rw [hl, show N * 8 / 8 = N by omega] at key
 exact key
def canB (rg : Bool) (side oi oa op oq mode : Int) (za zb : List Int) : Bool := rg && (sumTo (mRR true side oi oa op oq mode za zb) oi ((mRR true side oi oa op oq mode za zb).length / 8) == oq)
theorem own_eights {w : World} {base N : Nat} {v : Value} {zs : List Int} (h : w.ownsRow base 48 8 v N (nums zs)) : zs.length / 8 = N := by
 have := h.1
 rw [nums_length] at this
 omega
theorem spec_l3Can (A : Option Addr) (n c : Nat) (B : Option Addr) (m d : Nat) (za zb : List Int) (side oi oa op oq mode : Int) (w : World) (ha : Lst w w.heap.size 4 A n za) (hb : Lst w w.heap.size 4 B m zb) (hAn : A = none → n = 0 ∧ c = 0) (hBn : B = none → m = 0 ∧ d = 0) (hrg : rgB za n zb m side oi oa op oq mode = true) :
 Calls Tryz.prog 42 #[.agg #[.slice A n c, .slice B m d], .int .i64 side, .agg #[.int .i64 oi, .int .i64 oa, .int .i64 op, .int .i64 oq], .int .i64 mode] w fun e w' => e = .returned (.bool (canB true side oi oa op oq mode za zb)) ∧ Below w.heap.size w w' := by
 obtain ⟨k0, k1⟩ := two_blocks w (.cells #[.slice A n c, .slice B m d] 30) (.cells #[.int .i64 oi, .int .i64 oa, .int .i64 op, .int .i64 oq] 65)
 have hb0 : Below w.heap.size w ((w.alloc (.cells #[.slice A n c, .slice B m d] 30)).alloc (.cells #[.int .i64 oi, .int .i64 oa, .int .i64 op, .int .i64 oq] 65)) := ((Below.refl _ _).alloc (Nat.le_refl _) _).alloc (by simp) _
 have hok := fun N => mrr_ok (N := N) hrg ha.1 hb.1
 have HOK := Lib.hid hok
 clear hok
 obtain ⟨hbk, hso, hic, him, hkn, hn20, hm20, hqa, hqb, hoq1, hoq2⟩ := rg_parts hrg
 have hsd : side = 1 ∨ side = 2 := by
  rcases side_cases side with ⟨h, _⟩ | ⟨h, _⟩ | ⟨_, _, h⟩
  · exact .inl h
  · exact .inr h
  · rw [h] at hso; cases hso
 have HSD := Lib.hid hsd
 clear hbk hso hic him hkn hrg hsd
 go_enter Tryz.func42, Tryz.ntmps42
 go_upto_region 1 with fail
 have hA := ha.later hb0
 have hZb := hb.later hb0
 clear ha hb
 generalize (w.alloc (.cells #[.slice A n c, .slice B m d] 30)).alloc (.cells #[.int .i64 oi, .int .i64 oa, .int .i64 op, .int .i64 oq] 65) = w1 at *
 have hsd := HSD.out
 clear HSD
 replace k0 : w1.drew.heap[w.heap.size]? = _ := k0
 replace k1 : w1.drew.heap[w.heap.size + 1]? = _ := k1
 replace hb0 := hb0.drew
 replace hA := hA.later (Below.refl _ _).drew
 replace hZb := hZb.later (Below.refl _ _).drew
 obtain ⟨o0, o1, o2, o3⟩ := rrcell4 k1
 obtain ⟨b0, b1⟩ := rcell2 k0
 refine wp_region_held_drew (S := (fun w' => w'.cell? ⟨w.heap.size, 0, none⟩ = some (.slice A n c) ∧ w'.cell? ⟨w.heap.size, 1, none⟩ = some (.slice B m d) ∧ w'.cell? ⟨w.heap.size + 1, 0, none⟩ = some (.int .i64 oi) ∧ w'.cell? ⟨w.heap.size + 1, 1, none⟩ = some (.int .i64 oa) ∧ w'.cell? ⟨w.heap.size + 1, 2, none⟩ = some (.int .i64 op) ∧ w'.cell? ⟨w.heap.size + 1, 3, none⟩ = some (.int .i64 oq))) (by kernel_rfl) ?hSm164 (fun zH => ?restm164)
 case hSm164 => exact ⟨b0, b1, o0, o1, o2, o3⟩
 refine tkV 0 ?_
 refine tkV 2 ?_
 refine tkV 3 ?_
 refine tkV 4 ?_
 refine wpAnyH_ready (rs := [1, 10]) (by kernel_rfl) (by simp) ?_
 refine AllReadyH.cons (o := ?or169_1) ?hor169_1 (fun K hK => ?stepr169_1) (AllReadyH.cons (o := ?or169_10) ?hor169_10 (fun K hK => ?stepr169_10) (AllReadyH.nil))
 case hor169_1 => simp only [gA, gB, gC]; exact rfl
 case hor169_10 => simp only [gA, gB, gC]; exact rfl
 case stepr169_1 =>
  go_simp
  go_at_call 18
  refine (spec_l2CopyO A n c B m d za zb w1.drew hA hZb (by omega) (by omega) hAn hBn).mono ?_
  rintro e u170 ⟨⟨q1, q2, rfl, hC, _, _⟩, hbq⟩
  have hCb : w1.drew.heap.size ≤ u170.heap.size := hbq.size
  have hCw := hb0.size
  replace hC := hC.mono hCw
  obtain ⟨Q1, c1, Q2, c2, rfl, rfl⟩ := hC.slices
  have hkp := Lib.hid (fun (p : Addr) (hp : p.block < w1.drew.heap.size) => hbq.cell (p := p) hp)
  have hG0 := hlT k0
  have hG1 := hlT k1
  replace k0 := bk1 hbq k0
  replace k1 := bk1 hbq k1
  replace hb0 := hb0.trans (hbq.mono hb0.size)
  clear hbq hA hZb
  refine hK.out _ _ (⟨(hkp.out ⟨w.heap.size, 0, none⟩ hG0).trans zH.1, (hkp.out ⟨w.heap.size, 1, none⟩ hG0).trans zH.2.1, (hkp.out ⟨w.heap.size + 1, 0, none⟩ hG1).trans zH.2.2.1, (hkp.out ⟨w.heap.size + 1, 1, none⟩ hG1).trans zH.2.2.2.1, (hkp.out ⟨w.heap.size + 1, 2, none⟩ hG1).trans zH.2.2.2.2.1, (hkp.out ⟨w.heap.size + 1, 3, none⟩ hG1).trans zH.2.2.2.2.2⟩) (fun zH => ?_)
  clear hK K
  try simp only [Act.put, sA, sB, sC]
  refine wpAnyH_ready (rs := [5, 10]) (by kernel_rfl) (by simp) ?_
  refine AllReadyH.cons (o := ?or171_5) ?hor171_5 (fun K hK => ?stepr171_5) (AllReadyH.cons (o := ?or171_10) ?hor171_10 (fun K hK => ?stepr171_10) (AllReadyH.nil))
  case hor171_5 => simp only [gA, gB, gC]; exact rfl
  case hor171_10 => simp only [gA, gB, gC]; exact rfl
  case stepr171_5 =>
   go_simp
   go_at_call 66
   refine (spec_l3Match w.heap.size Q1 n c1 Q2 m c2 za zb side oi oa op oq mode u170 hsd hC hb0.size hn20 hm20 hqa hqb (by omega) hoq2).mono ?_
   rintro e u172 ⟨⟨r1, r2, rv, n1, n2, NR, rfl, hM, hMr, hNR⟩, hbq⟩
   have hkp := Lib.hid (fun (p : Addr) (hp : p.block < u170.heap.size) => hbq.cell (p := p) hp)
   have hG0 := hlT k0
   have hG1 := hlT k1
   replace k0 := bk1 hbq k0
   replace k1 := bk1 hbq k1
   replace hb0 := hb0.trans (hbq.mono hb0.size)
   obtain ⟨R1, d1, R2, d2, rfl, rfl⟩ := hM.slices
   obtain ⟨R3, d3, rfl, _, _⟩ := oSl hMr
   clear hbq hC hCb
   refine hK.out _ _ (⟨(hkp.out ⟨w.heap.size, 0, none⟩ hG0).trans zH.1, (hkp.out ⟨w.heap.size, 1, none⟩ hG0).trans zH.2.1, (hkp.out ⟨w.heap.size + 1, 0, none⟩ hG1).trans zH.2.2.1, (hkp.out ⟨w.heap.size + 1, 1, none⟩ hG1).trans zH.2.2.2.1, (hkp.out ⟨w.heap.size + 1, 2, none⟩ hG1).trans zH.2.2.2.2.1, (hkp.out ⟨w.heap.size + 1, 3, none⟩ hG1).trans zH.2.2.2.2.2⟩) (fun zH => ?_)
   clear hK K
   try simp only [Act.put, sA, sB, sC]
   refine tkV 6 ?_
   refine tkV 7 ?_
   refine tkV 8 ?_
   refine tkV 9 ?_
   refine rd1 10 (fun K hK => ?_)
   go_simp
   have hbq : Below u172.heap.size u172 (u172.alloc (.cells #[.slice none 0 0, .slice none 0 0] 30)) := (Below.refl u172.heap.size u172).alloc (Nat.le_refl _) (.cells #[.slice none 0 0, .slice none 0 0] 30)
   have hGX : w.heap.size + 1 < u172.heap.size := hlT k1
   have hkp := Lib.hid (fun (p : Addr) (hp : p.block < u172.heap.size) => hbq.cell (p := p) hp)
   have hG0 := hlT k0
   have hG1 := hlT k1
   replace k0 := bk1 hbq k0
   replace k1 := bk1 hbq k1
   replace hb0 := hb0.trans (hbq.mono hb0.size)
   replace hM := hM.below hbq
   replace hMr := oBw hMr hbq
   have kx := show (u172.alloc (.cells #[.slice none 0 0, .slice none 0 0] 30)).heap[u172.heap.size]? = _ from heap_alloc_new u172 (.cells #[.slice none 0 0, .slice none 0 0] 30)
   generalize u172.alloc (.cells #[.slice none 0 0, .slice none 0 0] 30) = ua178 at *
   generalize u172.heap.size = gx at *
   clear hbq
   refine hK.out _ _ (⟨(hkp.out ⟨w.heap.size, 0, none⟩ hG0).trans zH.1, (hkp.out ⟨w.heap.size, 1, none⟩ hG0).trans zH.2.1, (hkp.out ⟨w.heap.size + 1, 0, none⟩ hG1).trans zH.2.2.1, (hkp.out ⟨w.heap.size + 1, 1, none⟩ hG1).trans zH.2.2.2.1, (hkp.out ⟨w.heap.size + 1, 2, none⟩ hG1).trans zH.2.2.2.2.1, (hkp.out ⟨w.heap.size + 1, 3, none⟩ hG1).trans zH.2.2.2.2.2⟩) (fun zH => ?_)
   clear hK K
   try simp only [Act.put, sA, sB, sC]
   refine rd1 11 (fun K hK => ?_)
   obtain ⟨y0, y1⟩ := rcell2 kx
   have z0 := mfree kx 0
   have z1 := mfree kx 1
   go_simp
   clear y0 y1 z0 z1
   have hq0 : gx ≠ w.heap.size := by omega
   have hq1 : gx ≠ w.heap.size + 1 := by omega
   refine hK.out _ _ (⟨(set2_far hq0).trans zH.1, (set2_far hq0).trans zH.2.1, (set2_far hq1).trans zH.2.2.1, (set2_far hq1).trans zH.2.2.2.1, (set2_far hq1).trans zH.2.2.2.2.1, (set2_far hq1).trans zH.2.2.2.2.2⟩) (fun zH => ?_)
   clear hK K
   try simp only [Act.put, sA, sB, sC]
   refine tkV 12 ?_
   refine tkV 13 ?_
   refine dn1 ?_
   clear zH b0 b1 o0 o1 o2 o3
   have hbx := (hb0.setCell (p := ⟨gx, 0, none⟩) (show w.heap.size ≤ gx by omega) (.slice R1 n1 d1)).setCell (p := ⟨gx, 1, none⟩) (show w.heap.size ≤ gx by omega) (.slice R2 n2 d2)
   have hMrx := oSk (i := 1) (u := (.slice R2 n2 d2)) (oSk (i := 0) (u := (.slice R1 n1 d1)) hMr kx (by decide)) (zS0 kx) (by decide)
   have k1x := mset2_other (u := (.slice R1 n1 d1)) (v := (.slice R2 n2 d2)) k1 (show w.heap.size + 1 ≠ gx by omega)
   clear hM hMr kx hb0 k0 k1
   generalize ((ua178.setCell ⟨gx, 0, none⟩ (.slice R1 n1 d1)).setCell ⟨gx, 1, none⟩ (.slice R2 n2 d2)) = wz at *
   have h8 := own_eights hMrx
   have H8 := Lib.hid h8
   clear h8
   have hokN := HOK.out NR (by have := hMrx.1; rw [nums_length] at this; omega)
   obtain ⟨o0, o1, o2, o3⟩ := rrcell4 k1x
   go_upto_region 2 with fail
   refine wp_region_held_drew (S := (fun w' => w'.cell? ⟨w.heap.size + 1, 0, none⟩ = some (.int .i64 oi) ∧ w'.cell? ⟨w.heap.size + 1, 3, none⟩ = some (.int .i64 oq))) (by kernel_rfl) ?hSm183 (fun zH => ?restm183)
   case hSm183 => exact ⟨o0, o3⟩
   refine tkV 0 ?_
   refine tkV 1 ?_
   refine tkV 2 ?_
   refine tkV 4 ?_
   refine tkV 5 ?_
   refine rd1 3 (fun K hK => ?_)
   go_simp
   go_at_call 67
   refine (l3Filled_any R3 NR d3 _ oi wz.drew (Lst.of_own (hMrx.drew)) (by omega) hokN).mono ?_
   rintro e wf ⟨rfl, hbf⟩
   have hkp := Lib.hid (fun (p : Addr) (hp : p.block < wz.heap.size) => hbf.cell (p := p) hp)
   have HBF : Hid (Below wz.heap.size wz.drew wf) := Lib.hid hbf
   clear hbf
   refine hK.out _ _ (⟨(hkp.out ⟨w.heap.size + 1, 0, none⟩ (hlT k1x)).trans zH.1, (hkp.out ⟨w.heap.size + 1, 3, none⟩ (hlT k1x)).trans zH.2⟩) (fun zH => ?_)
   clear hK K
   try simp only [Act.put, sA, sB, sC]
   refine tkV 6 ?_
   refine tkV 7 ?_
   refine dn1 ?_
   clear zH o0 o1 o2 o3
   go_wp2_with fail
   go_ret
   exact ⟨by rw [canB, H8.out, Bool.true_and]; rfl, hbx.trans ((show Below wz.heap.size wz wf from ⟨HBF.out.os, HBF.out.tape, HBF.out.output, HBF.out.size, HBF.out.block⟩).mono hbx.size)⟩
  case stepr171_10 =>
   go_simp
   have hbq : Below u170.heap.size u170 (u170.alloc (.cells #[.slice none 0 0, .slice none 0 0] 30)) := (Below.refl u170.heap.size u170).alloc (Nat.le_refl _) (.cells #[.slice none 0 0, .slice none 0 0] 30)
   have hGX : w.heap.size + 1 < u170.heap.size := hlT k1
   have hkp := Lib.hid (fun (p : Addr) (hp : p.block < u170.heap.size) => hbq.cell (p := p) hp)
   have hG0 := hlT k0
   have hG1 := hlT k1
   replace k0 := bk1 hbq k0
   replace k1 := bk1 hbq k1
   replace hb0 := hb0.trans (hbq.mono hb0.size)
   replace hC := hC.below hbq
   replace hCb := Nat.le_trans hCb hbq.size
   have kx := show (u170.alloc (.cells #[.slice none 0 0, .slice none 0 0] 30)).heap[u170.heap.size]? = _ from heap_alloc_new u170 (.cells #[.slice none 0 0, .slice none 0 0] 30)
   generalize u170.alloc (.cells #[.slice none 0 0, .slice none 0 0] 30) = ua192 at *
   generalize u170.heap.size = gx at *
   clear hbq
   refine hK.out _ _ (⟨(hkp.out ⟨w.heap.size, 0, none⟩ hG0).trans zH.1, (hkp.out ⟨w.heap.size, 1, none⟩ hG0).trans zH.2.1, (hkp.out ⟨w.heap.size + 1, 0, none⟩ hG1).trans zH.2.2.1, (hkp.out ⟨w.heap.size + 1, 1, none⟩ hG1).trans zH.2.2.2.1, (hkp.out ⟨w.heap.size + 1, 2, none⟩ hG1).trans zH.2.2.2.2.1, (hkp.out ⟨w.heap.size + 1, 3, none⟩ hG1).trans zH.2.2.2.2.2⟩) (fun zH => ?_)
   clear hK K
   try simp only [Act.put, sA, sB, sC]
   refine rd1 5 (fun K hK => ?_)
   go_simp
   go_at_call 66
   refine (spec_l3Match w.heap.size Q1 n c1 Q2 m c2 za zb side oi oa op oq mode ua192 hsd hC hb0.size hn20 hm20 hqa hqb (by omega) hoq2).mono ?_
   rintro e u195 ⟨⟨r1, r2, rv, n1, n2, NR, rfl, hM, hMr, hNR⟩, hbq⟩
   have hkp := Lib.hid (fun (p : Addr) (hp : p.block < ua192.heap.size) => hbq.cell (p := p) hp)
   have hG0 := hlT k0
   have hG1 := hlT k1
   replace k0 := bk1 hbq k0
   replace k1 := bk1 hbq k1
   replace hb0 := hb0.trans (hbq.mono hb0.size)
   replace kx := bk1 hbq kx
   obtain ⟨R1, d1, R2, d2, rfl, rfl⟩ := hM.slices
   obtain ⟨R3, d3, rfl, _, _⟩ := oSl hMr
   clear hbq hC hCb
   refine hK.out _ _ (⟨(hkp.out ⟨w.heap.size, 0, none⟩ hG0).trans zH.1, (hkp.out ⟨w.heap.size, 1, none⟩ hG0).trans zH.2.1, (hkp.out ⟨w.heap.size + 1, 0, none⟩ hG1).trans zH.2.2.1, (hkp.out ⟨w.heap.size + 1, 1, none⟩ hG1).trans zH.2.2.2.1, (hkp.out ⟨w.heap.size + 1, 2, none⟩ hG1).trans zH.2.2.2.2.1, (hkp.out ⟨w.heap.size + 1, 3, none⟩ hG1).trans zH.2.2.2.2.2⟩) (fun zH => ?_)
   clear hK K
   try simp only [Act.put, sA, sB, sC]
   refine tkV 6 ?_
   refine tkV 7 ?_
   refine tkV 8 ?_
   refine tkV 9 ?_
   refine rd1 11 (fun K hK => ?_)
   obtain ⟨y0, y1⟩ := rcell2 kx
   have z0 := mfree kx 0
   have z1 := mfree kx 1
   go_simp
   clear y0 y1 z0 z1
   have hq0 : gx ≠ w.heap.size := by omega
   have hq1 : gx ≠ w.heap.size + 1 := by omega
   refine hK.out _ _ (⟨(set2_far hq0).trans zH.1, (set2_far hq0).trans zH.2.1, (set2_far hq1).trans zH.2.2.1, (set2_far hq1).trans zH.2.2.2.1, (set2_far hq1).trans zH.2.2.2.2.1, (set2_far hq1).trans zH.2.2.2.2.2⟩) (fun zH => ?_)
   clear hK K
   try simp only [Act.put, sA, sB, sC]
   refine tkV 12 ?_
   refine tkV 13 ?_
   refine dn1 ?_
   clear zH b0 b1 o0 o1 o2 o3
   have hbx := (hb0.setCell (p := ⟨gx, 0, none⟩) (show w.heap.size ≤ gx by omega) (.slice R1 n1 d1)).setCell (p := ⟨gx, 1, none⟩) (show w.heap.size ≤ gx by omega) (.slice R2 n2 d2)
   have hMrx := oSk (i := 1) (u := (.slice R2 n2 d2)) (oSk (i := 0) (u := (.slice R1 n1 d1)) hMr kx (by decide)) (zS0 kx) (by decide)
   have k1x := mset2_other (u := (.slice R1 n1 d1)) (v := (.slice R2 n2 d2)) k1 (show w.heap.size + 1 ≠ gx by omega)
   clear hM hMr kx hb0 k0 k1
   generalize ((u195.setCell ⟨gx, 0, none⟩ (.slice R1 n1 d1)).setCell ⟨gx, 1, none⟩ (.slice R2 n2 d2)) = wz at *
   have h8 := own_eights hMrx
   have H8 := Lib.hid h8
   clear h8
   have hokN := HOK.out NR (by have := hMrx.1; rw [nums_length] at this; omega)
   obtain ⟨o0, o1, o2, o3⟩ := rrcell4 k1x
   go_upto_region 2 with fail
   refine wp_region_held_drew (S := (fun w' => w'.cell? ⟨w.heap.size + 1, 0, none⟩ = some (.int .i64 oi) ∧ w'.cell? ⟨w.heap.size + 1, 3, none⟩ = some (.int .i64 oq))) (by kernel_rfl) ?hSm203 (fun zH => ?restm203)
   case hSm203 => exact ⟨o0, o3⟩
   refine tkV 0 ?_
   refine tkV 1 ?_
   refine tkV 2 ?_
   refine tkV 4 ?_
   refine tkV 5 ?_
   refine rd1 3 (fun K hK => ?_)
   go_simp
   go_at_call 67
   refine (l3Filled_any R3 NR d3 _ oi wz.drew (Lst.of_own (hMrx.drew)) (by omega) hokN).mono ?_
   rintro e wf ⟨rfl, hbf⟩
   have hkp := Lib.hid (fun (p : Addr) (hp : p.block < wz.heap.size) => hbf.cell (p := p) hp)
   have HBF : Hid (Below wz.heap.size wz.drew wf) := Lib.hid hbf
   clear hbf
   refine hK.out _ _ (⟨(hkp.out ⟨w.heap.size + 1, 0, none⟩ (hlT k1x)).trans zH.1, (hkp.out ⟨w.heap.size + 1, 3, none⟩ (hlT k1x)).trans zH.2⟩) (fun zH => ?_)
   clear hK K
   try simp only [Act.put, sA, sB, sC]
   refine tkV 6 ?_
   refine tkV 7 ?_
   refine dn1 ?_
   clear zH o0 o1 o2 o3
   go_wp2_with fail
   go_ret
   exact ⟨by rw [canB, H8.out, Bool.true_and]; rfl, hbx.trans ((show Below wz.heap.size wz wf from ⟨HBF.out.os, HBF.out.tape, HBF.out.output, HBF.out.size, HBF.out.block⟩).mono hbx.size)⟩
 case stepr169_10 =>
  go_simp
  have hbq : Below w1.heap.size w1.drew ((w1.alloc (.cells #[.slice none 0 0, .slice none 0 0] 30)).drew) := (Below.refl w1.drew.heap.size w1.drew).alloc (Nat.le_refl _) (.cells #[.slice none 0 0, .slice none 0 0] 30)
  have hGX : w.heap.size + 1 < w1.heap.size := hlT k1
  have hkp := Lib.hid (fun (p : Addr) (hp : p.block < w1.drew.heap.size) => hbq.cell (p := p) hp)
  have hG0 := hlT k0
  have hG1 := hlT k1
  replace k0 := bk1 hbq k0
  replace k1 := bk1 hbq k1
  replace hb0 := hb0.trans (hbq.mono hb0.size)
  replace hA := hA.later hbq
  replace hZb := hZb.later hbq
  have kx := show ((w1.alloc (.cells #[.slice none 0 0, .slice none 0 0] 30)).drew).heap[w1.heap.size]? = _ from heap_alloc_new w1 (.cells #[.slice none 0 0, .slice none 0 0] 30)
  generalize (w1.alloc (.cells #[.slice none 0 0, .slice none 0 0] 30)).drew = ua212 at *
  generalize w1.heap.size = gx at *
  clear hbq
  refine hK.out _ _ (⟨(hkp.out ⟨w.heap.size, 0, none⟩ hG0).trans zH.1, (hkp.out ⟨w.heap.size, 1, none⟩ hG0).trans zH.2.1, (hkp.out ⟨w.heap.size + 1, 0, none⟩ hG1).trans zH.2.2.1, (hkp.out ⟨w.heap.size + 1, 1, none⟩ hG1).trans zH.2.2.2.1, (hkp.out ⟨w.heap.size + 1, 2, none⟩ hG1).trans zH.2.2.2.2.1, (hkp.out ⟨w.heap.size + 1, 3, none⟩ hG1).trans zH.2.2.2.2.2⟩) (fun zH => ?_)
  clear hK K
  try simp only [Act.put, sA, sB, sC]
  refine rd1 1 (fun K hK => ?_)
  go_simp
  go_at_call 18
  refine (spec_l2CopyO A n c B m d za zb ua212 hA hZb (by omega) (by omega) hAn hBn).mono ?_
  rintro e u215 ⟨⟨q1, q2, rfl, hC, _, _⟩, hbq⟩
  have hCb : ua212.heap.size ≤ u215.heap.size := hbq.size
  have hCw := hb0.size
  replace hC := hC.mono hCw
  obtain ⟨Q1, c1, Q2, c2, rfl, rfl⟩ := hC.slices
  have hkp := Lib.hid (fun (p : Addr) (hp : p.block < ua212.heap.size) => hbq.cell (p := p) hp)
  have hG0 := hlT k0
  have hG1 := hlT k1
  replace k0 := bk1 hbq k0
  replace k1 := bk1 hbq k1
  replace hb0 := hb0.trans (hbq.mono hb0.size)
  replace kx := bk1 hbq kx
  clear hbq hA hZb
  refine hK.out _ _ (⟨(hkp.out ⟨w.heap.size, 0, none⟩ hG0).trans zH.1, (hkp.out ⟨w.heap.size, 1, none⟩ hG0).trans zH.2.1, (hkp.out ⟨w.heap.size + 1, 0, none⟩ hG1).trans zH.2.2.1, (hkp.out ⟨w.heap.size + 1, 1, none⟩ hG1).trans zH.2.2.2.1, (hkp.out ⟨w.heap.size + 1, 2, none⟩ hG1).trans zH.2.2.2.2.1, (hkp.out ⟨w.heap.size + 1, 3, none⟩ hG1).trans zH.2.2.2.2.2⟩) (fun zH => ?_)
  clear hK K
  try simp only [Act.put, sA, sB, sC]
  refine rd1 5 (fun K hK => ?_)
  go_simp
  go_at_call 66
  refine (spec_l3Match w.heap.size Q1 n c1 Q2 m c2 za zb side oi oa op oq mode u215 hsd hC hb0.size hn20 hm20 hqa hqb (by omega) hoq2).mono ?_
  rintro e u217 ⟨⟨r1, r2, rv, n1, n2, NR, rfl, hM, hMr, hNR⟩, hbq⟩
  have hkp := Lib.hid (fun (p : Addr) (hp : p.block < u215.heap.size) => hbq.cell (p := p) hp)
  have hG0 := hlT k0
  have hG1 := hlT k1
  replace k0 := bk1 hbq k0
  replace k1 := bk1 hbq k1
  replace hb0 := hb0.trans (hbq.mono hb0.size)
  replace kx := bk1 hbq kx
  obtain ⟨R1, d1, R2, d2, rfl, rfl⟩ := hM.slices
  obtain ⟨R3, d3, rfl, _, _⟩ := oSl hMr
  clear hbq hC hCb
  refine hK.out _ _ (⟨(hkp.out ⟨w.heap.size, 0, none⟩ hG0).trans zH.1, (hkp.out ⟨w.heap.size, 1, none⟩ hG0).trans zH.2.1, (hkp.out ⟨w.heap.size + 1, 0, none⟩ hG1).trans zH.2.2.1, (hkp.out ⟨w.heap.size + 1, 1, none⟩ hG1).trans zH.2.2.2.1, (hkp.out ⟨w.heap.size + 1, 2, none⟩ hG1).trans zH.2.2.2.2.1, (hkp.out ⟨w.heap.size + 1, 3, none⟩ hG1).trans zH.2.2.2.2.2⟩) (fun zH => ?_)
  clear hK K
  try simp only [Act.put, sA, sB, sC]
  refine tkV 6 ?_
  refine tkV 7 ?_
  refine tkV 8 ?_
  refine tkV 9 ?_
  refine rd1 11 (fun K hK => ?_)
  obtain ⟨y0, y1⟩ := rcell2 kx
  have z0 := mfree kx 0
  have z1 := mfree kx 1
  go_simp
  clear y0 y1 z0 z1
  have hq0 : gx ≠ w.heap.size := by omega
  have hq1 : gx ≠ w.heap.size + 1 := by omega
  refine hK.out _ _ (⟨(set2_far hq0).trans zH.1, (set2_far hq0).trans zH.2.1, (set2_far hq1).trans zH.2.2.1, (set2_far hq1).trans zH.2.2.2.1, (set2_far hq1).trans zH.2.2.2.2.1, (set2_far hq1).trans zH.2.2.2.2.2⟩) (fun zH => ?_)
  clear hK K
  try simp only [Act.put, sA, sB, sC]
  refine tkV 12 ?_
  refine tkV 13 ?_
  refine dn1 ?_
  clear zH b0 b1 o0 o1 o2 o3
  have hbx := (hb0.setCell (p := ⟨gx, 0, none⟩) (show w.heap.size ≤ gx by omega) (.slice R1 n1 d1)).setCell (p := ⟨gx, 1, none⟩) (show w.heap.size ≤ gx by omega) (.slice R2 n2 d2)
  have hMrx := oSk (i := 1) (u := (.slice R2 n2 d2)) (oSk (i := 0) (u := (.slice R1 n1 d1)) hMr kx (by decide)) (zS0 kx) (by decide)
  have k1x := mset2_other (u := (.slice R1 n1 d1)) (v := (.slice R2 n2 d2)) k1 (show w.heap.size + 1 ≠ gx by omega)
  clear hM hMr kx hb0 k0 k1
  generalize ((u217.setCell ⟨gx, 0, none⟩ (.slice R1 n1 d1)).setCell ⟨gx, 1, none⟩ (.slice R2 n2 d2)) = wz at *
  have h8 := own_eights hMrx
  have H8 := Lib.hid h8
  clear h8
  have hokN := HOK.out NR (by have := hMrx.1; rw [nums_length] at this; omega)
  obtain ⟨o0, o1, o2, o3⟩ := rrcell4 k1x
  go_upto_region 2 with fail
  refine wp_region_held_drew (S := (fun w' => w'.cell? ⟨w.heap.size + 1, 0, none⟩ = some (.int .i64 oi) ∧ w'.cell? ⟨w.heap.size + 1, 3, none⟩ = some (.int .i64 oq))) (by kernel_rfl) ?hSm225 (fun zH => ?restm225)
  case hSm225 => exact ⟨o0, o3⟩
  refine tkV 0 ?_
  refine tkV 1 ?_
  refine tkV 2 ?_
  refine tkV 4 ?_
  refine tkV 5 ?_
  refine rd1 3 (fun K hK => ?_)
  go_simp
  go_at_call 67
  refine (l3Filled_any R3 NR d3 _ oi wz.drew (Lst.of_own (hMrx.drew)) (by omega) hokN).mono ?_
  rintro e wf ⟨rfl, hbf⟩
  have hkp := Lib.hid (fun (p : Addr) (hp : p.block < wz.heap.size) => hbf.cell (p := p) hp)
  have HBF : Hid (Below wz.heap.size wz.drew wf) := Lib.hid hbf
  clear hbf
  refine hK.out _ _ (⟨(hkp.out ⟨w.heap.size + 1, 0, none⟩ (hlT k1x)).trans zH.1, (hkp.out ⟨w.heap.size + 1, 3, none⟩ (hlT k1x)).trans zH.2⟩) (fun zH => ?_)
  clear hK K
  try simp only [Act.put, sA, sB, sC]
  refine tkV 6 ?_
  refine tkV 7 ?_
  refine dn1 ?_
  clear zH o0 o1 o2 o3
  go_wp2_with fail
  go_ret
  exact ⟨by rw [canB, H8.out, Bool.true_and]; rfl, hbx.trans ((show Below wz.heap.size wz wf from ⟨HBF.out.os, HBF.out.tape, HBF.out.output, HBF.out.size, HBF.out.block⟩).mono hbx.size)⟩
end Go.Proofs.YtgjjdnojiegidaaGreatDoor

namespace Go.Proofs.YtgjjdnojiegidaaGreatDoor
open Go.RowKit Wire
set_option maxHeartbeats 3200000
set_option maxRecDepth 100000
set_option linter.unusedSimpArgs false

theorem mts_len {side oi oa op mode : Int} : ∀ (m : Nat) {Z R : List Int} {q : Int}, Z.length = m * 4 → (mtS side oi oa op mode Z R q).2.1.length ≤ R.length + m * 16
 | 0, Z, R, q, hZ => by
  have : Z = [] := List.eq_nil_of_length_eq_zero (by omega)
  subst this
  rw [mtS_nil]
  exact Nat.le_add_right _ _
 | m + 1, Z, R, q, hZ => by
  obtain ⟨t, e, ht, -⟩ := head4 hZ
  generalize num Z 0 = i at *
  generalize num Z 1 = a at *
  generalize num Z 2 = p at *
  generalize num Z 3 = c at *
  rw [e, mtS_cons]
  have hl1 : ∀ {x y z u : Int}, (R ++ canR x y z u).length = R.length + 8 := by intro x y z u; simp [canR]
  have hl2 : ∀ {x y z u v : Int}, (R ++ filR x y z u v).length = R.length + 8 := by intro x y z u v; simp [filR]
  split
  · split
    · split
      · dsimp only
        rw [hl1]
        omega
      · split
        · have := mts_len (side := side) (oi := oi) (oa := oa) (op := op) (mode := mode) m (R := R ++ canR i a p c) (q := q) ht
          rw [hl1] at this
          omega
        · dsimp only
          rw [List.length_append, hl1]
          simp only [canR, List.length_cons, List.length_nil]
          omega
    · split
      · refine Nat.le_trans (mts_len m ht) ?_
        rw [hl2]
        omega
      · dsimp only
        rw [hl2]
        omega
  · dsimp only
    omega
theorem mrr_len {za zb : List Int} {n m : Nat} {rg : Bool} {side oi oa op oq mode : Int} (ha : za.length = n * 4) (hb : zb.length = m * 4) : (mRR rg side oi oa op oq mode za zb).length ≤ (n + m) * 16 := by
 unfold mRR mtA
 split
 · split
   · have := mts_len (side := side) (oi := oi) (oa := oa) (op := op) (mode := mode) m (R := []) (q := oq) hb
     simp only [List.length_nil] at this
     omega
   · have := mts_len (side := side) (oi := oi) (oa := oa) (op := op) (mode := mode) n (R := []) (q := oq) ha
     simp only [List.length_nil] at this
     omega
 · simp
theorem impl_CanFill (A : Option Addr) (n c : Nat) (B : Option Addr) (m d : Nat) (za zb : List Int) (side oi oa op oq mode : Int) (w : World) (ha : Lst w w.heap.size 4 A n za) (hb : Lst w w.heap.size 4 B m zb) (hn : n ≤ 1048576) (hm : m ≤ 1048576) :
 Calls Tryz.prog 98 #[.agg #[.slice A n c, .slice B m d], .int .i64 side, .agg #[.int .i64 oi, .int .i64 oa, .int .i64 op, .int .i64 oq], .int .i64 mode] w fun e w' => e = .returned (.bool (canB (rgB za n zb m side oi oa op oq mode) side oi oa op oq mode za zb)) ∧ Below w.heap.size w w' := by
 obtain ⟨k0, k1⟩ := two_blocks w (.cells #[.slice A n c, .slice B m d] 30) (.cells #[.int .i64 oi, .int .i64 oa, .int .i64 op, .int .i64 oq] 65)
 have hb0 : Below w.heap.size w ((w.alloc (.cells #[.slice A n c, .slice B m d] 30)).alloc (.cells #[.int .i64 oi, .int .i64 oa, .int .i64 op, .int .i64 oq] 65)) := ((Below.refl _ _).alloc (Nat.le_refl _) _).alloc (by simp) _
 go_enter Tryz.func98, Tryz.ntmps98
 go_wp2_with fail
 have hA := ha.later hb0
 have hZb := hb.later hb0
 have hla := ha.1
 have hlb := hb.1
 clear ha hb
 generalize (w.alloc (.cells #[.slice A n c, .slice B m d] 30)).alloc (.cells #[.int .i64 oi, .int .i64 oa, .int .i64 op, .int .i64 oq] 65) = w0 at *
 refine (impl_Matched A n c B m d za zb side oi oa op oq mode w0 hA hZb hn hm).mono ?_
 rintro e w1 ⟨⟨r1, r2, rv, n1, n2, NR, rfl, hT, hR⟩, hb1⟩
 obtain ⟨Q1, c1, Q2, c2, rfl, rfl⟩ := hT.slices
 obtain ⟨R3, d3, rfl, -, -⟩ := oSl hR
 replace k1 := bk1 hb1 k1
 replace hb0 := hb0.trans (hb1.mono hb0.size)
 clear k0 hA hZb hb1
 have hlen := mrr_len (rg := rgB za n zb m side oi oa op oq mode) (side := side) (oi := oi) (oa := oa) (op := op) (oq := oq) (mode := mode) hla hlb
 have hNR : NR ≤ 1048576 * 4 := by have := hR.1; rw [nums_length] at this; omega
 obtain ⟨o0, o1, o2, o3⟩ := rrcell4 k1
 rcases Bool.eq_false_or_eq_true (rgB za n zb m side oi oa op oq mode) with hrg | hrg
 · obtain ⟨-, -, -, -, -, hn20, hm20, -, -, -, -⟩ := rg_parts hrg
   have hok := mrr_ok (N := NR) hrg hla hlb
   have HRG := Lib.hid hrg
   rw [hrg] at hR hlen ⊢
   have h8 := own_eights hR
   have H8 := Lib.hid h8
   have hNR : NR ≤ 1048576 := by have := hR.1; rw [nums_length] at this; omega
   have hokN := hok (by have := hR.1; rw [nums_length] at this; omega)
   clear hrg h8 hok hlen
   go_upto_region 2 with fail
   have hbq : Below w1.heap.size w1 (w1.alloc (.cells #[.slice Q1 n1 c1, .slice Q2 n2 c2] 30)) := (Below.refl _ _).alloc (Nat.le_refl _) _
   replace k1 := bk1 hbq k1
   replace hb0 := hb0.trans (hbq.mono hb0.size)
   replace hR := oBw hR hbq
   clear hbq o0 o1 o2 o3
   generalize w1.alloc (.cells #[.slice Q1 n1 c1, .slice Q2 n2 c2] 30) = wz at *
   obtain ⟨o0, o1, o2, o3⟩ := rrcell4 k1
   refine wp_region_held_drew (S := (fun w' => w'.cell? ⟨w.heap.size + 1, 0, none⟩ = some (.int .i64 oi) ∧ w'.cell? ⟨w.heap.size + 1, 3, none⟩ = some (.int .i64 oq))) (by kernel_rfl) ?hSm234 (fun zH => ?restm234)
   case hSm234 => exact ⟨o0, o3⟩
   refine tkV 0 ?_
   refine tkV 1 ?_
   refine tkV 2 ?_
   refine tkV 3 ?_
   refine tkV 4 ?_
   refine tkV 6 ?_
   refine tkV 7 ?_
   refine rd1 5 (fun K hK => ?_)
   go_simp
   go_at_call 113
   refine (impl_Filled R3 NR d3 _ oi wz.drew (Lst.of_own (oBw hR (Below.refl _ _).drew)) (by omega)).mono ?_
   rintro e wf ⟨rfl, hbf⟩
   have hkp := Lib.hid (fun (p : Addr) (hp : p.block < wz.heap.size) => hbf.cell (p := p) hp)
   have HBF : Hid (Below wz.heap.size wz.drew wf) := Lib.hid hbf
   clear hbf
   refine hK.out _ _ (⟨(hkp.out ⟨w.heap.size + 1, 0, none⟩ (hlT k1)).trans zH.1, (hkp.out ⟨w.heap.size + 1, 3, none⟩ (hlT k1)).trans zH.2⟩) (fun zH => ?_)
   clear hK K
   try simp only [Act.put, sA, sB, sC]
   refine tkV 8 ?_
   refine tkV 9 ?_
   refine tkV 10 ?_
   refine dn1 ?_
   clear zH o0 o1 o2 o3
   go_wp2_with fail
   go_ret
   exact ⟨by rw [canB, HRG.out, H8.out, Bool.true_and, filledI_yes hokN]; rfl, hb0.trans ((show Below wz.heap.size wz wf from ⟨HBF.out.os, HBF.out.tape, HBF.out.output, HBF.out.size, HBF.out.block⟩).mono hb0.size)⟩
 · have HRG := Lib.hid hrg
   rw [hrg]
   clear hrg hR hT hlen
   go_upto_region 2 with fail
   have hbq : Below w1.heap.size w1 (w1.alloc (.cells #[.slice Q1 n1 c1, .slice Q2 n2 c2] 30)) := (Below.refl _ _).alloc (Nat.le_refl _) _
   replace k1 := bk1 hbq k1
   replace hb0 := hb0.trans (hbq.mono hb0.size)
   clear hbq o0 o1 o2 o3
   generalize w1.alloc (.cells #[.slice Q1 n1 c1, .slice Q2 n2 c2] 30) = wz at *
   obtain ⟨o0, o1, o2, o3⟩ := rrcell4 k1
   refine wp_region_held_drew (S := (fun w' => w'.cell? ⟨w.heap.size + 1, 0, none⟩ = some (.int .i64 oi))) (by kernel_rfl) ?hSq1xs (fun zH => ?restq1xs)
   case hSq1xs => exact o0
   refine tkV 0 ?_
   refine tkV 1 ?_
   refine hdN 2 ?_
   refine hdN 3 ?_
   refine hdN 4 ?_
   refine hdN 5 ?_
   refine hdN 6 ?_
   refine hdN 7 ?_
   refine hdN 8 ?_
   refine tkV 9 ?_
   refine tkV 10 ?_
   refine dn1 ?_
   clear zH o0 o1 o2 o3
   go_wp2_with fail
   go_ret
   exact ⟨by rw [canB, HRG.out]; rfl, hb0.drew⟩
end Go.Proofs.YtgjjdnojiegidaaGreatDoor
