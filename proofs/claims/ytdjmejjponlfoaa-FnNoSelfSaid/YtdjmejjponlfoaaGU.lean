/-
  MtT, MtU, MtV, MtW.
-/
import Derived.Test.YtdjmejjponlfoaaGF
import Derived.Test.YtdjmejjponlfoaaGS
import Derived.Test.YtdjmejjponlfoaaGM
namespace Go.Proofs.Ytdjmejjponlfoaa
open Go.RowKit Wire

/-- of the first k records of a kind and a number, the quantities -/
def kindTo (zs : List Int) (kind id : Int) : Nat → Int
  | 0 => 0
  | k + 1 => kindTo zs kind id k + if ((num zs (k * 8 + 1) == kind) && (num zs (k * 8 + 4) == id)) = true then num zs (k * 8 + 7) else 0
/-- none of the orders has the number -/
def noId (Z : List Int) (m : Nat) (id : Int) : Prop := ∀ k, k < m → num Z (k * 4) ≠ id
theorem noId_tail {i a p c : Int} {t : List Int} {m : Nat} {id : Int} (h : noId (i :: a :: p :: c :: t) (m + 1) id) : noId t m id := fun k hk => by
  have := h (k + 1) (by omega)
  rw [show (k + 1) * 4 = k * 4 + 4 by omega] at this
  exact this
/-- what is told of the order itself -/
structure MtAll (side id acct pr mode : Int) (r : List Int × List Int × Int) (R : List Int) (N : Nat) (q : Int) : Prop where
  left : 0 ≤ r.2.2
  stop : r.2.2 = 0 ∨ r.1 = [] ∨ meetB side pr (num r.1 2) = false
  all : ∃ N', r.2.1.length = N' * 8 ∧ sumTo r.2.1 id N' + kindTo r.2.1 4 id N' + r.2.2 = sumTo R id N + kindTo R 4 id N + q ∧ kindTo R 4 id N ≤ kindTo r.2.1 4 id N'
theorem MtAll.from {side id acct pr mode : Int} {r : List Int × List Int × Int} {R R2 : List Int} {N N2 : Nat} {q q2 : Int} (h : MtAll side id acct pr mode r R2 N2 q2) (h1 : sumTo R2 id N2 + kindTo R2 4 id N2 + q2 = sumTo R id N + kindTo R 4 id N + q) (h2 : kindTo R 4 id N ≤ kindTo R2 4 id N2) : MtAll side id acct pr mode r R N q := by
  obtain ⟨a, b, N', e1, e2, e3⟩ := h
  exact ⟨a, b, N', e1, by omega, by omega⟩
/-- a side behind matching is a part of it: the first may have less -/
structure SubQ (T : List Int) (M : Nat) (zs : List Int) (n : Nat) (g : Nat → Nat) : Prop where
  lt : ∀ p, p < M → g p < n
  val : ∀ p, p < M → ∀ j, j < 3 → num T (p * 4 + j) = num zs (g p * 4 + j)
  qty : ∀ p, p < M → 1 ≤ num T (p * 4 + 3) ∧ num T (p * 4 + 3) ≤ num zs (g p * 4 + 3)
  mono : ∀ p q, p < q → q < M → g p < g q
theorem SubQ.same (zs : List Int) (n : Nat) (h : qtyOk zs n) : SubQ zs n zs n (fun k => k) :=
  ⟨fun _ h => h, fun _ _ _ _ => rfl, fun p hp => ⟨(h p hp).1, Int.le_refl _⟩, fun _ _ h _ => h⟩
theorem SubQ.tail {T t : List Int} {M n : Nat} {g : Nat → Nat} {i a p c : Int} (h : SubQ T M t n g) : SubQ T M (i :: a :: p :: c :: t) (n + 1) (fun k => g k + 1) :=
  ⟨fun p hp => Nat.succ_lt_succ (h.lt p hp), fun p hp j hj => by
      rw [h.val p hp j hj, show (g p + 1) * 4 + j = g p * 4 + j + 4 by omega]
      rfl, fun p hp => by
      have := h.qty p hp
      rw [show (g p + 1) * 4 + 3 = g p * 4 + 3 + 4 by omega]
      exact this, fun p q hpq hq => Nat.succ_lt_succ (h.mono p q hpq hq)⟩
end Go.Proofs.Ytdjmejjponlfoaa

namespace Go.Proofs.Ytdjmejjponlfoaa
open Go.RowKit Wire

/-- of the first k records those that hold -/
def cntR (P : Int → Int → Bool) (zs : List Int) : Nat → Nat
  | 0 => 0
  | k + 1 => if P (num zs (k * 8 + 1)) (num zs (k * 8 + 4)) = true then cntR P zs k + 1 else cntR P zs k
theorem cntR_app {P : Int → Int → Bool} {R S : List Int} : ∀ N, N * 8 ≤ R.length → cntR P (R ++ S) N = cntR P R N
  | 0, _ => rfl
  | N + 1, h => by rw [cntR, cntR, cntR_app N (by omega), fnum_lt (by omega), fnum_lt (by omega)]
theorem cntR_snoc {P : Int → Int → Bool} {R : List Int} {N : Nat} {a b c d e f g h : Int} (hl : R.length = N * 8) : cntR P (R ++ [a, b, c, d, e, f, g, h]) (N + 1) = if P b e = true then cntR P R N + 1 else cntR P R N := by
  rw [cntR, cntR_app N (by omega), fnum_ge (i := 1) hl, fnum_ge (i := 4) hl]
  rfl
/-- a cancelled order, the order's own or another's -/
def ownP (id : Int) : Int → Int → Bool := fun k i => decide (k = 4) && decide (i ≠ id)
def minP (id : Int) : Int → Int → Bool := fun k i => decide (k = 4) && decide (i = id)
/-- a record of matching: a fill by an order of another account, or a cancelled order -/
def recTold (Z : List Int) (m : Nat) (id acct : Int) (S : List Int) (k : Nat) : Prop :=
  (num S (k * 8 + 1) = 3 ∧ num S (k * 8 + 4) = id ∧ ∃ p, p < m ∧ num S (k * 8 + 5) = num Z (p * 4) ∧ num Z (p * 4 + 1) ≠ acct) ∨ (num S (k * 8 + 1) = 4)
theorem recTold_tail {i a p c id acct : Int} {t S : List Int} {m k : Nat} (h : recTold t m id acct S k) : recTold (i :: a :: p :: c :: t) (m + 1) id acct S k := by
  rcases h with ⟨h1, h2, q, hq, h3, h4⟩ | h
  · refine .inl ⟨h1, h2, q + 1, by omega, ?_, ?_⟩
    · rw [h3, show (q + 1) * 4 = q * 4 + 4 by omega]; rfl
    · rw [show (q + 1) * 4 + 1 = q * 4 + 1 + 4 by omega]; exact h4
  · exact .inr h
theorem recTold_app {id acct : Int} {Z R S : List Int} {m k : Nat} (hk : (k + 1) * 8 ≤ R.length) (h : recTold Z m id acct R k) : recTold Z m id acct (R ++ S) k := by
  unfold recTold
  rw [fnum_lt (by omega), fnum_lt (by omega), fnum_lt (by omega)]
  exact h
theorem recTold_can {id acct i a p c : Int} {Z R : List Int} {m N : Nat} (hl : R.length = N * 8) : recTold Z m id acct (R ++ canR i a p c) N := by
  refine .inr ?_
  rw [fnum_ge (i := 1) hl]
  rfl
/-- what is told behind the first N records, and how many cancelled orders -/
def MtWho (Z : List Int) (m : Nat) (id acct mode : Int) (S R : List Int) (N : Nat) : Prop := ∃ N' X, S = R ++ X ∧ S.length = N' * 8 ∧ N ≤ N' ∧ (∀ k, N ≤ k → k < N' → recTold Z m id acct S k) ∧
    (mode = 1 → cntR (ownP id) S N' = cntR (ownP id) R N ∧ cntR (minP id) S N' ≤ cntR (minP id) R N + 1) ∧
    (mode = 2 → cntR (minP id) S N' = cntR (minP id) R N) ∧
    (mode ≠ 1 → mode ≠ 2 → ∃ x, x ≤ 1 ∧ cntR (ownP id) S N' = cntR (ownP id) R N + x ∧ cntR (minP id) S N' = cntR (minP id) R N + x)
theorem who_same {Z R : List Int} {m N : Nat} {id acct mode : Int} (hR : R.length = N * 8) : MtWho Z m id acct mode R R N :=
  ⟨N, [], by simp, hR, Nat.le_refl _, fun k h1 h2 => absurd h1 (by omega), fun _ => ⟨rfl, by omega⟩, fun _ => rfl, fun _ _ => ⟨0, by omega, rfl, rfl⟩⟩
theorem cnt_can {R : List Int} {N : Nat} {i a p c id : Int} (hl : R.length = N * 8) : cntR (ownP id) (R ++ canR i a p c) (N + 1) = (if i = id then cntR (ownP id) R N else cntR (ownP id) R N + 1) ∧ cntR (minP id) (R ++ canR i a p c) (N + 1) = (if i = id then cntR (minP id) R N + 1 else cntR (minP id) R N) := by
  unfold canR
  rw [cntR_snoc hl, cntR_snoc hl]
  unfold ownP minP
  by_cases h : i = id <;> simp [h]
theorem cnt_fil {R : List Int} {N : Nat} {d i a p c id : Int} (hl : R.length = N * 8) : cntR (ownP id) (R ++ filR d a i p c) (N + 1) = cntR (ownP id) R N ∧ cntR (minP id) (R ++ filR d a i p c) (N + 1) = cntR (minP id) R N := by
  unfold filR
  rw [cntR_snoc hl, cntR_snoc hl]
  unfold ownP minP
  simp
theorem recTold_fil {id acct i a p c : Int} {R : List Int} {t : List Int} {m N : Nat} {q : Int} (hl : R.length = N * 8) (ha : ¬ a = acct) : recTold (i :: a :: p :: c :: t) (m + 1) id acct (R ++ filR id acct i p q) N := by
  refine .inl ⟨?_, ?_, 0, by omega, ?_, ha⟩
  · rw [fnum_ge (i := 1) hl]; rfl
  · rw [fnum_ge (i := 4) hl]; rfl
  · rw [fnum_ge (i := 5) hl]; rfl
theorem mt_who {side id acct pr mode : Int} : ∀ (m : Nat) {Z R : List Int} {q : Int} (N : Nat), Z.length = m * 4 → R.length = N * 8 → noId Z m id → MtWho Z m id acct mode (mtS side id acct pr mode Z R q).2.1 R N
  | 0, Z, R, q, N, hZ, hR, _ => by
    have : Z = [] := List.eq_nil_of_length_eq_zero (by omega)
    subst this
    rw [mtS_nil]
    exact who_same hR
  | m + 1, Z, R, q, N, hZ, hR, hI => by
    obtain ⟨t, e, ht, -⟩ := head4 hZ
    have hi := hI 0 (by omega)
    simp only [Nat.zero_mul] at hi
    rw [e] at hI
    have hI' := noId_tail hI
    clear hI
    rw [e]
    generalize num Z 0 = i at *
    generalize num Z 1 = a at *
    generalize num Z 2 = p at *
    generalize num Z 3 = c at *
    rw [mtS_cons]
    obtain ⟨c1, c2⟩ := cnt_can (i := i) (a := a) (p := p) (c := c) (id := id) hR
    rw [if_neg hi] at c1 c2
    have hR1 : (R ++ canR i a p c).length = (N + 1) * 8 := by simp [canR, hR] <;> omega
    split
    · split
      · rename_i ha
        split
        · rename_i h1
          obtain ⟨d1, d2⟩ := cnt_can (i := id) (a := acct) (p := pr) (c := q) (id := id) hR
          rw [if_pos rfl] at d1 d2
          refine ⟨N + 1, _, rfl, by simp [canR, hR] <;> omega, by omega, fun k hk hk2 => ?_, fun _ => ⟨d1, by rw [d2]; omega⟩, fun h => absurd h (by omega), fun h => absurd h1 h⟩
          obtain rfl : k = N := by omega
          exact recTold_can hR
        · rename_i h1
          split
          · rename_i h2
            obtain ⟨N', X, e1, e2, e3, e4, -, e6, -⟩ := mt_who (side := side) (id := id) (acct := acct) (pr := pr) (mode := mode) m (q := q) (N + 1) ht hR1 hI'
            refine ⟨N', canR i a p c ++ X, by rw [e1, List.append_assoc], e2, by omega, fun k hk hk2 => ?_, fun h => absurd h h1, fun h => by rw [e6 h, c2], fun _ h => absurd h2 h⟩
            rcases Nat.eq_or_lt_of_le hk with rfl | hk
            · rw [e1]
              exact recTold_app (by omega) (recTold_can hR)
            · exact recTold_tail (e4 k hk hk2)
          · rename_i h2
            obtain ⟨d1, d2⟩ := cnt_can (i := id) (a := acct) (p := pr) (c := q) (id := id) hR1
            rw [if_pos rfl] at d1 d2
            refine ⟨N + 2, canR i a p c ++ canR id acct pr q, by rw [List.append_assoc], by simp [canR, hR] <;> omega, by omega, fun k hk hk2 => ?_, fun h => absurd h h1, fun h => absurd h h2, fun _ _ => ⟨1, Nat.le_refl _, by rw [← c1]; exact d1, by rw [← c2]; exact d2⟩⟩
            rcases Nat.eq_or_lt_of_le hk with rfl | hk
            · exact recTold_app (by omega) (recTold_can hR)
            · obtain rfl : k = N + 1 := by omega
              exact recTold_can hR1
      · rename_i ha
        obtain ⟨f1, f2⟩ := cnt_fil (d := id) (i := i) (a := acct) (p := p) (c := c) (id := id) hR
        have hF : (R ++ filR id acct i p c).length = (N + 1) * 8 := by simp [filR, hR] <;> omega
        split
        · obtain ⟨N', X, e1, e2, e3, e4, e5, e6, e7⟩ := mt_who (side := side) (id := id) (acct := acct) (pr := pr) (mode := mode) m (q := q - c) (N + 1) ht hF hI'
          rw [f1, f2] at e5
          rw [f2] at e6
          rw [f1, f2] at e7
          refine ⟨N', filR id acct i p c ++ X, by rw [e1, List.append_assoc], e2, by omega, fun k hk hk2 => ?_, e5, e6, e7⟩
          rcases Nat.eq_or_lt_of_le hk with rfl | hk
          · rw [e1]
            exact recTold_app (by omega) (recTold_fil hR ha)
          · exact recTold_tail (e4 k hk hk2)
        · obtain ⟨f1, f2⟩ := cnt_fil (d := id) (i := i) (a := acct) (p := p) (c := q) (id := id) hR
          refine ⟨N + 1, _, rfl, by simp [filR, hR] <;> omega, by omega, fun k hk hk2 => ?_, fun _ => ⟨f1, by rw [f2]; omega⟩, fun _ => f2, fun _ _ => ⟨0, by omega, f1, f2⟩⟩
          obtain rfl : k = N := by omega
          exact recTold_fil hR ha
    · exact who_same hR
end Go.Proofs.Ytdjmejjponlfoaa

namespace Go.Proofs.Ytdjmejjponlfoaa
open Go.RowKit Wire

theorem mans_len {w' : World} {base : Nat} {rg : Bool} {side oi oa op oq mode : Int} {za zb : List Int} {e : Ending} (h : MAns w' base rg side oi oa op oq mode za zb e) :
    ∃ v1 v2 v3, e = .returned (.tuple #[.agg #[v1, v2], v3, .int .i64 (mLL rg side oi oa op oq mode za zb), .bool rg]) ∧ TwoRows w' base v1 ((mZ1 rg side oi oa op oq mode za zb).length / 4) (mZ1 rg side oi oa op oq mode za zb) v2 ((mZ2 rg side oi oa op oq mode za zb).length / 4) (mZ2 rg side oi oa op oq mode za zb) ∧ w'.ownsRow base 44 8 v3 ((mRR rg side oi oa op oq mode za zb).length / 8) (nums (mRR rg side oi oa op oq mode za zb)) := by
  obtain ⟨r1, r2, rv, n1, n2, N, he, hT, hR⟩ := h
  have e1 : (mZ1 rg side oi oa op oq mode za zb).length / 4 = n1 := by have := hT.one.1; rw [nums_length] at this; omega
  have e2 : (mZ2 rg side oi oa op oq mode za zb).length / 4 = n2 := by have := hT.two.1; rw [nums_length] at this; omega
  have e3 : (mRR rg side oi oa op oq mode za zb).length / 8 = N := by have := hR.1; rw [nums_length] at this; omega
  exact ⟨r1, r2, rv, he, by rw [e1, e2]; exact hT, by rw [e3]; exact hR⟩
theorem rg_noId {za zb : List Int} {n m : Nat} {side oi oa op oq mode : Int} (h : rgB za n zb m side oi oa op oq mode = true) : noId za n oi ∧ noId zb m oi := by
  obtain ⟨hb, -, -, -, hk, -⟩ := rg_parts h
  rw [hb] at hk
  unfold knowsB at hk
  rw [Bool.true_and] at hk
  have key : ∀ j, j < n + m → idA za n zb j ≠ oi := fun j hj e => by
    have := seen_at' e (n + m) hj
    rw [hk] at this
    cases this
  refine ⟨fun k hk => ?_, fun k hk => ?_⟩
  · have := key k (by omega)
    rwa [idA_at1 hk] at this
  · have := key (n + k) (by omega)
    rwa [idA_at2] at this
/-- the other side, and how many it has -/
def othZ (side : Int) (za zb : List Int) : List Int := if side = 1 then zb else za
def othN (side : Int) (n m : Nat) : Nat := if side = 1 then m else n
structure RgO (side oi : Int) (za zb : List Int) (n m : Nat) : Prop where
  len : (othZ side za zb).length = othN side n m * 4
  qty : qtyOk (othZ side za zb) (othN side n m)
  no : noId (othZ side za zb) (othN side n m) oi
  le : othN side n m ≤ 20
theorem rg_oth {za zb : List Int} {n m : Nat} {side oi oa op oq mode : Int} (h : rgB za n zb m side oi oa op oq mode = true) (ha : za.length = n * 4) (hb : zb.length = m * 4) : RgO side oi za zb n m := by
  obtain ⟨-, -, -, -, -, hn, hm, h1, h2, -, -⟩ := rg_parts h
  obtain ⟨h3, h4⟩ := rg_noId h
  by_cases hs : side = 1
  · have e1 : othZ side za zb = zb := if_pos hs
    have e2 : othN side n m = m := if_pos hs
    exact ⟨by rw [e1, e2]; exact hb, by rw [e1, e2]; exact h2, by rw [e1, e2]; exact h4, by rw [e2]; exact hm⟩
  · have e1 : othZ side za zb = za := if_neg hs
    have e2 : othN side n m = n := if_neg hs
    exact ⟨by rw [e1, e2]; exact ha, by rw [e1, e2]; exact h1, by rw [e1, e2]; exact h3, by rw [e2]; exact hn⟩
theorem rg_who {za zb : List Int} {n m : Nat} {side oi oa op oq mode : Int} (h : rgB za n zb m side oi oa op oq mode = true) (ha : za.length = n * 4) (hb : zb.length = m * 4) : MtWho (othZ side za zb) (othN side n m) oi oa mode (mtA side oi oa op oq mode za zb).2.1 [] 0 := by
  have R := rg_oth h ha hb
  exact mt_who (othN side n m) 0 R.len rfl R.no
end Go.Proofs.Ytdjmejjponlfoaa

namespace Go.Proofs.Ytdjmejjponlfoaa
open Go.RowKit Wire

end Go.Proofs.Ytdjmejjponlfoaa
