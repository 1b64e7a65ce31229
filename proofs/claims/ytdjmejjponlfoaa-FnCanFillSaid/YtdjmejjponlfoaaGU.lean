/-
  MtT, MtU, MtV.
-/
import Derived.Test.YtdjmejjponlfoaaGF
import Derived.Test.YtdjmejjponlfoaaTkP
import Derived.Test.YtdjmejjponlfoaaGM
namespace Go.Proofs.Ytdjmejjponlfoaa
open Go.RowKit Wire

theorem sumTo_app {R S : List Int} {id : Int} : ∀ N, N * 8 ≤ R.length → sumTo (R ++ S) id N = sumTo R id N
  | 0, _ => rfl
  | N + 1, h => by
    rw [sumTo, sumTo, sumTo_app N (by omega)]
    unfold fillAt
    rw [fnum_lt (by omega), fnum_lt (by omega), fnum_lt (by omega), fnum_lt (by omega)]
theorem sumTo_snoc {R : List Int} {N : Nat} {a b c d e f g h id : Int} (hl : R.length = N * 8) : sumTo (R ++ [a, b, c, d, e, f, g, h]) id (N + 1) = sumTo R id N + if fillB b e f id = true then h else 0 := by
  rw [sumTo, sumTo_app N (by omega)]
  unfold fillAt fillB
  rw [fnum_ge (i := 1) hl, fnum_ge (i := 4) hl, fnum_ge (i := 5) hl, fnum_ge (i := 7) hl]
  rfl
/-- of the first k records of a kind and a number, the quantities -/
def kindTo (zs : List Int) (kind id : Int) : Nat → Int
  | 0 => 0
  | k + 1 => kindTo zs kind id k + if ((num zs (k * 8 + 1) == kind) && (num zs (k * 8 + 4) == id)) = true then num zs (k * 8 + 7) else 0
theorem kindTo_app {R S : List Int} {kind id : Int} : ∀ N, N * 8 ≤ R.length → kindTo (R ++ S) kind id N = kindTo R kind id N
  | 0, _ => rfl
  | N + 1, h => by
    rw [kindTo, kindTo, kindTo_app N (by omega), fnum_lt (by omega), fnum_lt (by omega), fnum_lt (by omega)]
theorem kindTo_snoc {R : List Int} {N : Nat} {a b c d e f g h kind id : Int} (hl : R.length = N * 8) : kindTo (R ++ [a, b, c, d, e, f, g, h]) kind id (N + 1) = kindTo R kind id N + if ((b == kind) && (e == id)) = true then h else 0 := by
  rw [kindTo, kindTo_app N (by omega), fnum_ge (i := 1) hl, fnum_ge (i := 4) hl, fnum_ge (i := 7) hl]
  rfl
/-- none of the orders has the number -/
def noId (Z : List Int) (m : Nat) (id : Int) : Prop := ∀ k, k < m → num Z (k * 4) ≠ id
theorem noId_tail {i a p c : Int} {t : List Int} {m : Nat} {id : Int} (h : noId (i :: a :: p :: c :: t) (m + 1) id) : noId t m id := fun k hk => by
  have := h (k + 1) (by omega)
  rw [show (k + 1) * 4 = k * 4 + 4 by omega] at this
  exact this
/-- what is told of the order itself -/
structure MtAll (side id acct pr mode : Int) (r : List Int × List Int × Int) (R : List Int) (N : Nat) (q : Int) : Prop where
  left : 0 ≤ r.2.2
  stop : r.2.2 = 0 ∨ r.1 = [] ∨ meetB side pr (num r.1 2) = false
  all : ∃ N', r.2.1.length = N' * 8 ∧ sumTo r.2.1 id N' + kindTo r.2.1 4 id N' + r.2.2 = sumTo R id N + kindTo R 4 id N + q ∧ kindTo R 4 id N ≤ kindTo r.2.1 4 id N'
theorem MtAll.from {side id acct pr mode : Int} {r : List Int × List Int × Int} {R R2 : List Int} {N N2 : Nat} {q q2 : Int} (h : MtAll side id acct pr mode r R2 N2 q2) (h1 : sumTo R2 id N2 + kindTo R2 4 id N2 + q2 = sumTo R id N + kindTo R 4 id N + q) (h2 : kindTo R 4 id N ≤ kindTo R2 4 id N2) : MtAll side id acct pr mode r R N q := by
  obtain ⟨a, b, N', e1, e2, e3⟩ := h
  exact ⟨a, b, N', e1, by omega, by omega⟩
theorem mt_can {i a p c id : Int} {R : List Int} {N : Nat} (hl : R.length = N * 8) : sumTo (R ++ canR i a p c) id (N + 1) = sumTo R id N ∧ kindTo (R ++ canR i a p c) 4 id (N + 1) = kindTo R 4 id N + if i = id then c else 0 := by
  unfold canR
  rw [sumTo_snoc hl, kindTo_snoc hl]
  refine ⟨by simp [fillB], ?_⟩
  by_cases h : i = id <;> simp [h]
theorem mt_fil {id i a p c x : Int} {R : List Int} {N : Nat} (hl : R.length = N * 8) (hx : i ≠ x ∨ id = x) : sumTo (R ++ filR id a i p c) x (N + 1) = sumTo R x N + (if id = x then c else 0) ∧ kindTo (R ++ filR id a i p c) 4 x (N + 1) = kindTo R 4 x N := by
  unfold filR
  rw [sumTo_snoc hl, kindTo_snoc hl]
  refine ⟨?_, by simp⟩
  unfold fillB
  by_cases h : id = x
  · simp [h]
  · have h2 : i ≠ x := hx.resolve_right h
    simp [h, h2]
theorem mt_all {side id acct pr mode : Int} : ∀ (m : Nat) {Z R : List Int} {q : Int} (N : Nat), Z.length = m * 4 → R.length = N * 8 → qtyOk Z m → noId Z m id → 0 ≤ q → MtAll side id acct pr mode (mtS side id acct pr mode Z R q) R N q
  | 0, Z, R, q, N, hZ, hR, _, _, hq => by
    have : Z = [] := List.eq_nil_of_length_eq_zero (by omega)
    subst this
    rw [mtS_nil]
    exact ⟨hq, .inr (.inl rfl), N, hR, rfl, Int.le_refl _⟩
  | m + 1, Z, R, q, N, hZ, hR, hQ, hI, hq => by
    obtain ⟨t, e, ht, -⟩ := head4 hZ
    have hc := hQ 0 (by omega)
    have hi := hI 0 (by omega)
    simp only [Nat.zero_mul, Nat.zero_add] at hc hi
    rw [e] at hQ hI
    have hQ' := qtyOk_tail hQ
    have hI' := noId_tail hI
    clear hQ hI
    rw [e]
    generalize num Z 0 = i at *
    generalize num Z 1 = a at *
    generalize num Z 2 = p at *
    generalize num Z 3 = c at *
    rw [mtS_cons]
    by_cases hm : 0 < q ∧ meetB side pr p = true
    · rw [if_pos hm]
      by_cases ha : a = acct
      · rw [if_pos ha]
        obtain ⟨o1, o2⟩ := mt_can (i := id) (a := acct) (p := pr) (c := q) (id := id) hR
        rw [if_pos rfl] at o2
        obtain ⟨r1, r2⟩ := mt_can (i := i) (a := a) (p := p) (c := c) (id := id) hR
        rw [if_neg hi] at r2
        have hR1 : (R ++ canR i a p c).length = (N + 1) * 8 := by simp [canR, hR] <;> omega
        by_cases h1 : mode = 1
        · rw [if_pos h1]
          exact ⟨Int.le_refl _, .inl rfl, N + 1, by simp [canR, hR] <;> omega, by show _ + _ + (0 : Int) = _; rw [o1, o2]; omega, by show _ ≤ kindTo (R ++ canR id acct pr q) 4 id (N + 1); rw [o2]; omega⟩
        · rw [if_neg h1]
          by_cases h2 : mode = 2
          · rw [if_pos h2]
            exact (mt_all m (N + 1) ht hR1 hQ' hI' hq).from (by rw [r1, r2]; omega) (by rw [r2]; omega)
          · rw [if_neg h2]
            obtain ⟨w1, w2⟩ := mt_can (i := id) (a := acct) (p := pr) (c := q) (id := id) hR1
            rw [if_pos rfl] at w2
            exact ⟨Int.le_refl _, .inl rfl, N + 2, by simp [canR, hR] <;> omega, by show sumTo (R ++ canR i a p c ++ canR id acct pr q) id (N + 1 + 1) + kindTo (R ++ canR i a p c ++ canR id acct pr q) 4 id (N + 1 + 1) + (0 : Int) = _; rw [w1, w2, r1, r2]; omega, by show _ ≤ kindTo (R ++ canR i a p c ++ canR id acct pr q) 4 id (N + 1 + 1); rw [w2, r2]; omega⟩
      · rw [if_neg ha]
        by_cases hcq : c ≤ q
        · rw [if_pos hcq]
          obtain ⟨f1, f2⟩ := mt_fil (id := id) (i := i) (a := acct) (p := p) (c := c) (x := id) hR (.inr rfl)
          rw [if_pos rfl] at f1
          exact (mt_all m (N + 1) ht (by simp [filR, hR] <;> omega) hQ' hI' (by omega)).from (by rw [f1, f2]; omega) (by rw [f2]; omega)
        · rw [if_neg hcq]
          obtain ⟨f1, f2⟩ := mt_fil (id := id) (i := i) (a := acct) (p := p) (c := q) (x := id) hR (.inr rfl)
          rw [if_pos rfl] at f1
          exact ⟨Int.le_refl _, .inl rfl, N + 1, by simp [filR, hR] <;> omega, by show _ + _ + (0 : Int) = _; rw [f1, f2]; omega, by show _ ≤ kindTo (R ++ filR id acct i p q) 4 id (N + 1); rw [f2]; omega⟩
    · rw [if_neg hm]
      refine ⟨hq, ?_, N, hR, rfl, Int.le_refl _⟩
      by_cases hq0 : 0 < q
      · refine .inr (.inr ?_)
        rcases Bool.eq_false_or_eq_true (meetB side pr p) with hb | hb
        · exact absurd ⟨hq0, hb⟩ hm
        · exact hb
      · exact .inl (by show q = 0; omega)
/-- a side behind matching is a part of it: the first may have less -/
structure SubQ (T : List Int) (M : Nat) (zs : List Int) (n : Nat) (g : Nat → Nat) : Prop where
  lt : ∀ p, p < M → g p < n
  val : ∀ p, p < M → ∀ j, j < 3 → num T (p * 4 + j) = num zs (g p * 4 + j)
  qty : ∀ p, p < M → 1 ≤ num T (p * 4 + 3) ∧ num T (p * 4 + 3) ≤ num zs (g p * 4 + 3)
  mono : ∀ p q, p < q → q < M → g p < g q
theorem SubQ.same (zs : List Int) (n : Nat) (h : qtyOk zs n) : SubQ zs n zs n (fun k => k) :=
  ⟨fun _ h => h, fun _ _ _ _ => rfl, fun p hp => ⟨(h p hp).1, Int.le_refl _⟩, fun _ _ h _ => h⟩
theorem SubQ.tail {T t : List Int} {M n : Nat} {g : Nat → Nat} {i a p c : Int} (h : SubQ T M t n g) : SubQ T M (i :: a :: p :: c :: t) (n + 1) (fun k => g k + 1) :=
  ⟨fun p hp => Nat.succ_lt_succ (h.lt p hp), fun p hp j hj => by
      rw [h.val p hp j hj, show (g p + 1) * 4 + j = g p * 4 + j + 4 by omega]
      rfl, fun p hp => by
      have := h.qty p hp
      rw [show (g p + 1) * 4 + 3 = g p * 4 + 3 + 4 by omega]
      exact this, fun p q hpq hq => Nat.succ_lt_succ (h.mono p q hpq hq)⟩
/-- less of an order that is filled is filled, too -/
theorem mt_less {side id acct pr mode : Int} : ∀ (m : Nat) {Z R R2 : List Int} {q q2 : Int} (N N2 : Nat), Z.length = m * 4 → R.length = N * 8 → R2.length = N2 * 8 → qtyOk Z m → noId Z m id → 0 ≤ q2 → q2 ≤ q →
    sumTo (mtS side id acct pr mode Z R q).2.1 id ((mtS side id acct pr mode Z R q).2.1.length / 8) = sumTo R id N + q → sumTo (mtS side id acct pr mode Z R2 q2).2.1 id ((mtS side id acct pr mode Z R2 q2).2.1.length / 8) = sumTo R2 id N2 + q2
  | 0, Z, R, R2, q, q2, N, N2, hZ, hR, hR2, _, _, h0, hle, h => by
    have : Z = [] := List.eq_nil_of_length_eq_zero (by omega)
    subst this
    rw [mtS_nil] at h ⊢
    dsimp only at h ⊢
    rw [show R.length / 8 = N by omega] at h
    rw [show R2.length / 8 = N2 by omega]
    omega
  | m + 1, Z, R, R2, q, q2, N, N2, hZ, hR, hR2, hQ, hI, h0, hle, h => by
    obtain ⟨t, e, ht, -⟩ := head4 hZ
    have hc := hQ 0 (by omega)
    have hi := hI 0 (by omega)
    simp only [Nat.zero_mul, Nat.zero_add] at hc hi
    rw [e] at hQ hI h ⊢
    have hQ' := qtyOk_tail hQ
    have hI' := noId_tail hI
    clear hQ hI
    generalize num Z 0 = i at *
    generalize num Z 1 = a at *
    generalize num Z 2 = p at *
    generalize num Z 3 = c at *
    rcases Int.lt_or_eq_of_le h0 with hq2 | hq2
    rotate_left
    · subst hq2
      rw [mtS_done (by omega) (m + 1) (by simp [ht] <;> omega)]
      dsimp only
      rw [show R2.length / 8 = N2 by omega]
      omega
    rw [mtS_cons] at h ⊢
    by_cases hm : meetB side pr p = true
    rotate_left
    · rw [if_neg (fun h => hm h.2)] at h
      dsimp only at h
      rw [show R.length / 8 = N by omega] at h
      omega
    rw [if_pos ⟨by omega, hm⟩] at h
    rw [if_pos ⟨hq2, hm⟩]
    by_cases ha : a = acct
    · rw [if_pos ha] at h ⊢
      obtain ⟨o1, -⟩ := mt_can (i := id) (a := acct) (p := pr) (c := q) (id := id) hR
      obtain ⟨r1, -⟩ := mt_can (i := i) (a := a) (p := p) (c := c) (id := id) hR
      have hR1 : (R ++ canR i a p c).length = (N + 1) * 8 := by simp [canR, hR] <;> omega
      have hR3 : (R2 ++ canR i a p c).length = (N2 + 1) * 8 := by simp [canR, hR2] <;> omega
      by_cases h1 : mode = 1
      · rw [if_pos h1] at h
        dsimp only at h
        rw [show (R ++ canR id acct pr q).length / 8 = N + 1 by simp [canR, hR] <;> omega, o1] at h
        omega
      · rw [if_neg h1] at h ⊢
        by_cases h2 : mode = 2
        · rw [if_pos h2] at h ⊢
          obtain ⟨r3, -⟩ := mt_can (i := i) (a := a) (p := p) (c := c) (id := id) hR2
          rw [← r3]
          exact mt_less m (N + 1) (N2 + 1) ht hR1 hR3 hQ' hI' h0 hle (by rw [h, r1])
        · rw [if_neg h2] at h
          obtain ⟨w1, -⟩ := mt_can (i := id) (a := acct) (p := pr) (c := q) (id := id) hR1
          dsimp only at h
          rw [show (R ++ canR i a p c ++ canR id acct pr q).length / 8 = N + 1 + 1 by simp [canR, hR] <;> omega, w1, r1] at h
          omega
    · rw [if_neg ha] at h ⊢
      obtain ⟨f1, -⟩ := mt_fil (id := id) (i := i) (a := acct) (p := p) (c := c) (x := id) hR (.inr rfl)
      obtain ⟨f2, -⟩ := mt_fil (id := id) (i := i) (a := acct) (p := p) (c := c) (x := id) hR2 (.inr rfl)
      obtain ⟨f3, -⟩ := mt_fil (id := id) (i := i) (a := acct) (p := p) (c := q2) (x := id) hR2 (.inr rfl)
      rw [if_pos rfl] at f1 f2 f3
      by_cases hcq : c ≤ q2
      · rw [if_pos (show c ≤ q by omega)] at h
        rw [if_pos hcq]
        have := mt_less m (R := R ++ filR id acct i p c) (N + 1) (N2 + 1) ht (by simp [filR, hR] <;> omega) (R2 := R2 ++ filR id acct i p c) (by simp [filR, hR2] <;> omega) hQ' hI' (show 0 ≤ q2 - c by omega) (show q2 - c ≤ q - c by omega) (by rw [h, f1]; omega)
        rw [this, f2]
        omega
      · rw [if_neg hcq]
        dsimp only
        rw [show (R2 ++ filR id acct i p q2).length / 8 = N2 + 1 by simp [filR, hR2] <;> omega, f3]
end Go.Proofs.Ytdjmejjponlfoaa

namespace Go.Proofs.Ytdjmejjponlfoaa
open Go.RowKit Wire

end Go.Proofs.Ytdjmejjponlfoaa

namespace Go.Proofs.Ytdjmejjponlfoaa
open Go.RowKit Wire

theorem mans_len {w' : World} {base : Nat} {rg : Bool} {side oi oa op oq mode : Int} {za zb : List Int} {e : Ending} (h : MAns w' base rg side oi oa op oq mode za zb e) :
    ∃ v1 v2 v3, e = .returned (.tuple #[.agg #[v1, v2], v3, .int .i64 (mLL rg side oi oa op oq mode za zb), .bool rg]) ∧ TwoRows w' base v1 ((mZ1 rg side oi oa op oq mode za zb).length / 4) (mZ1 rg side oi oa op oq mode za zb) v2 ((mZ2 rg side oi oa op oq mode za zb).length / 4) (mZ2 rg side oi oa op oq mode za zb) ∧ w'.ownsRow base 44 8 v3 ((mRR rg side oi oa op oq mode za zb).length / 8) (nums (mRR rg side oi oa op oq mode za zb)) := by
  obtain ⟨r1, r2, rv, n1, n2, N, he, hT, hR⟩ := h
  have e1 : (mZ1 rg side oi oa op oq mode za zb).length / 4 = n1 := by have := hT.one.1; rw [nums_length] at this; omega
  have e2 : (mZ2 rg side oi oa op oq mode za zb).length / 4 = n2 := by have := hT.two.1; rw [nums_length] at this; omega
  have e3 : (mRR rg side oi oa op oq mode za zb).length / 8 = N := by have := hR.1; rw [nums_length] at this; omega
  exact ⟨r1, r2, rv, he, by rw [e1, e2]; exact hT, by rw [e3]; exact hR⟩
theorem rg_noId {za zb : List Int} {n m : Nat} {side oi oa op oq mode : Int} (h : rgB za n zb m side oi oa op oq mode = true) : noId za n oi ∧ noId zb m oi := by
  obtain ⟨hb, -, -, -, hk, -⟩ := rg_parts h
  rw [hb] at hk
  unfold knowsB at hk
  rw [Bool.true_and] at hk
  have key : ∀ j, j < n + m → idA za n zb j ≠ oi := fun j hj e => by
    have := seen_at' e (n + m) hj
    rw [hk] at this
    cases this
  refine ⟨fun k hk => ?_, fun k hk => ?_⟩
  · have := key k (by omega)
    rwa [idA_at1 hk] at this
  · have := key (n + k) (by omega)
    rwa [idA_at2] at this
/-- the other side, and how many it has -/
def othZ (side : Int) (za zb : List Int) : List Int := if side = 1 then zb else za
def othN (side : Int) (n m : Nat) : Nat := if side = 1 then m else n
structure RgO (side oi : Int) (za zb : List Int) (n m : Nat) : Prop where
  len : (othZ side za zb).length = othN side n m * 4
  qty : qtyOk (othZ side za zb) (othN side n m)
  no : noId (othZ side za zb) (othN side n m) oi
  le : othN side n m ≤ 20
theorem rg_oth {za zb : List Int} {n m : Nat} {side oi oa op oq mode : Int} (h : rgB za n zb m side oi oa op oq mode = true) (ha : za.length = n * 4) (hb : zb.length = m * 4) : RgO side oi za zb n m := by
  obtain ⟨-, -, -, -, -, hn, hm, h1, h2, -, -⟩ := rg_parts h
  obtain ⟨h3, h4⟩ := rg_noId h
  by_cases hs : side = 1
  · have e1 : othZ side za zb = zb := if_pos hs
    have e2 : othN side n m = m := if_pos hs
    exact ⟨by rw [e1, e2]; exact hb, by rw [e1, e2]; exact h2, by rw [e1, e2]; exact h4, by rw [e2]; exact hm⟩
  · have e1 : othZ side za zb = za := if_neg hs
    have e2 : othN side n m = n := if_neg hs
    exact ⟨by rw [e1, e2]; exact ha, by rw [e1, e2]; exact h1, by rw [e1, e2]; exact h3, by rw [e2]; exact hn⟩
theorem rg_all {za zb : List Int} {n m : Nat} {side oi oa op oq mode : Int} (h : rgB za n zb m side oi oa op oq mode = true) (ha : za.length = n * 4) (hb : zb.length = m * 4) : MtAll side oi oa op mode (mtA side oi oa op oq mode za zb) [] 0 oq := by
  have R := rg_oth h ha hb
  obtain ⟨-, -, -, -, -, -, -, -, -, hq, -⟩ := rg_parts h
  exact mt_all (othN side n m) 0 R.len rfl R.qty R.no (by omega)
/-- all of the order is told -/
theorem rg_sum {za zb : List Int} {n m : Nat} {side oi oa op oq mode : Int} (h : rgB za n zb m side oi oa op oq mode = true) (ha : za.length = n * 4) (hb : zb.length = m * 4) :
    okTo (mRR true side oi oa op oq mode za zb) ((mRR true side oi oa op oq mode za zb).length / 8) = true ∧
    sumTo (mRR true side oi oa op oq mode za zb) oi ((mRR true side oi oa op oq mode za zb).length / 8) + kindTo (mRR true side oi oa op oq mode za zb) 4 oi ((mRR true side oi oa op oq mode za zb).length / 8) + mLL true side oi oa op oq mode za zb = oq ∧
    0 ≤ kindTo (mRR true side oi oa op oq mode za zb) 4 oi ((mRR true side oi oa op oq mode za zb).length / 8) ∧ 0 ≤ mLL true side oi oa op oq mode za zb := by
  obtain ⟨e1, -, N', e2, e3, e4⟩ := rg_all h ha hb
  have hr : mRR true side oi oa op oq mode za zb = (mtA side oi oa op oq mode za zb).2.1 := by unfold mRR; rw [if_pos rfl]
  have hL : mLL true side oi oa op oq mode za zb = (mtA side oi oa op oq mode za zb).2.2 := by unfold mLL; rw [if_pos rfl]
  have hn : (mRR true side oi oa op oq mode za zb).length / 8 = N' := by rw [hr]; omega
  rw [hn]
  refine ⟨mrr_ok h ha hb (by rw [hr]; exact e2), ?_⟩
  rw [hr, hL]
  simp only [sumTo, kindTo] at e3 e4
  exact ⟨by omega, e4, e1⟩
end Go.Proofs.Ytdjmejjponlfoaa
