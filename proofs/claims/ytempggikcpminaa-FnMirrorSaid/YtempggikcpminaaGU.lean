/-
  MtT, MtU, MtV.
-/
import Derived.Test.YtempggikcpminaaGF
import Derived.Test.YtempggikcpminaaGS
import Derived.Test.YtempggikcpminaaGM
namespace Go.Proofs.Ytempggikcpminaa
open Go.RowKit Wire

/-- of the first k records of a kind and a number, the quantities -/
def kindTo (zs : List Int) (kind id : Int) : Nat → Int
  | 0 => 0
  | k + 1 => kindTo zs kind id k + if ((num zs (k * 8 + 1) == kind) && (num zs (k * 8 + 4) == id)) = true then num zs (k * 8 + 7) else 0
/-- none of the orders has the number -/
def noId (Z : List Int) (m : Nat) (id : Int) : Prop := ∀ k, k < m → num Z (k * 4) ≠ id
/-- what is told of the order itself -/
structure MtAll (side id acct pr mode : Int) (r : List Int × List Int × Int) (R : List Int) (N : Nat) (q : Int) : Prop where
  left : 0 ≤ r.2.2
  stop : r.2.2 = 0 ∨ r.1 = [] ∨ meetB side pr (num r.1 2) = false
  all : ∃ N', r.2.1.length = N' * 8 ∧ sumTo r.2.1 id N' + kindTo r.2.1 4 id N' + r.2.2 = sumTo R id N + kindTo R 4 id N + q ∧ kindTo R 4 id N ≤ kindTo r.2.1 4 id N'
theorem MtAll.from {side id acct pr mode : Int} {r : List Int × List Int × Int} {R R2 : List Int} {N N2 : Nat} {q q2 : Int} (h : MtAll side id acct pr mode r R2 N2 q2) (h1 : sumTo R2 id N2 + kindTo R2 4 id N2 + q2 = sumTo R id N + kindTo R 4 id N + q) (h2 : kindTo R 4 id N ≤ kindTo R2 4 id N2) : MtAll side id acct pr mode r R N q := by
  obtain ⟨a, b, N', e1, e2, e3⟩ := h
  exact ⟨a, b, N', e1, by omega, by omega⟩
/-- a side behind matching is a part of it: the first may have less -/
structure SubQ (T : List Int) (M : Nat) (zs : List Int) (n : Nat) (g : Nat → Nat) : Prop where
  lt : ∀ p, p < M → g p < n
  val : ∀ p, p < M → ∀ j, j < 3 → num T (p * 4 + j) = num zs (g p * 4 + j)
  qty : ∀ p, p < M → 1 ≤ num T (p * 4 + 3) ∧ num T (p * 4 + 3) ≤ num zs (g p * 4 + 3)
  mono : ∀ p q, p < q → q < M → g p < g q
theorem SubQ.same (zs : List Int) (n : Nat) (h : qtyOk zs n) : SubQ zs n zs n (fun k => k) :=
  ⟨fun _ h => h, fun _ _ _ _ => rfl, fun p hp => ⟨(h p hp).1, Int.le_refl _⟩, fun _ _ h _ => h⟩
theorem SubQ.tail {T t : List Int} {M n : Nat} {g : Nat → Nat} {i a p c : Int} (h : SubQ T M t n g) : SubQ T M (i :: a :: p :: c :: t) (n + 1) (fun k => g k + 1) :=
  ⟨fun p hp => Nat.succ_lt_succ (h.lt p hp), fun p hp j hj => by
      rw [h.val p hp j hj, show (g p + 1) * 4 + j = g p * 4 + j + 4 by omega]
      rfl, fun p hp => by
      have := h.qty p hp
      rw [show (g p + 1) * 4 + 3 = g p * 4 + 3 + 4 by omega]
      exact this, fun p q hpq hq => Nat.succ_lt_succ (h.mono p q hpq hq)⟩
end Go.Proofs.Ytempggikcpminaa

namespace Go.Proofs.Ytempggikcpminaa
open Go.RowKit Wire

end Go.Proofs.Ytempggikcpminaa

namespace Go.Proofs.Ytempggikcpminaa
open Go.RowKit Wire

theorem mans_len {w' : World} {base : Nat} {rg : Bool} {side oi oa op oq mode : Int} {za zb : List Int} {e : Ending} (h : MAns w' base rg side oi oa op oq mode za zb e) :
    ∃ v1 v2 v3, e = .returned (.tuple #[.agg #[v1, v2], v3, .int .i64 (mLL rg side oi oa op oq mode za zb), .bool rg]) ∧ TwoRows w' base v1 ((mZ1 rg side oi oa op oq mode za zb).length / 4) (mZ1 rg side oi oa op oq mode za zb) v2 ((mZ2 rg side oi oa op oq mode za zb).length / 4) (mZ2 rg side oi oa op oq mode za zb) ∧ w'.ownsRow base 39 8 v3 ((mRR rg side oi oa op oq mode za zb).length / 8) (nums (mRR rg side oi oa op oq mode za zb)) := by
  obtain ⟨r1, r2, rv, n1, n2, N, he, hT, hR⟩ := h
  have e1 : (mZ1 rg side oi oa op oq mode za zb).length / 4 = n1 := by have := hT.one.1; rw [nums_length] at this; omega
  have e2 : (mZ2 rg side oi oa op oq mode za zb).length / 4 = n2 := by have := hT.two.1; rw [nums_length] at this; omega
  have e3 : (mRR rg side oi oa op oq mode za zb).length / 8 = N := by have := hR.1; rw [nums_length] at this; omega
  exact ⟨r1, r2, rv, he, by rw [e1, e2]; exact hT, by rw [e3]; exact hR⟩
theorem rg_noId {za zb : List Int} {n m : Nat} {side oi oa op oq mode : Int} (h : rgB za n zb m side oi oa op oq mode = true) : noId za n oi ∧ noId zb m oi := by
  obtain ⟨hb, -, -, -, hk, -⟩ := rg_parts h
  rw [hb] at hk
  unfold knowsB at hk
  rw [Bool.true_and] at hk
  have key : ∀ j, j < n + m → idA za n zb j ≠ oi := fun j hj e => by
    have := seen_at' e (n + m) hj
    rw [hk] at this
    cases this
  refine ⟨fun k hk => ?_, fun k hk => ?_⟩
  · have := key k (by omega)
    rwa [idA_at1 hk] at this
  · have := key (n + k) (by omega)
    rwa [idA_at2] at this
/-- the other side, and how many it has -/
def othZ (side : Int) (za zb : List Int) : List Int := if side = 1 then zb else za
def othN (side : Int) (n m : Nat) : Nat := if side = 1 then m else n
structure RgO (side oi : Int) (za zb : List Int) (n m : Nat) : Prop where
  len : (othZ side za zb).length = othN side n m * 4
  qty : qtyOk (othZ side za zb) (othN side n m)
  no : noId (othZ side za zb) (othN side n m) oi
  le : othN side n m ≤ 20
theorem rg_oth {za zb : List Int} {n m : Nat} {side oi oa op oq mode : Int} (h : rgB za n zb m side oi oa op oq mode = true) (ha : za.length = n * 4) (hb : zb.length = m * 4) : RgO side oi za zb n m := by
  obtain ⟨-, -, -, -, -, hn, hm, h1, h2, -, -⟩ := rg_parts h
  obtain ⟨h3, h4⟩ := rg_noId h
  by_cases hs : side = 1
  · have e1 : othZ side za zb = zb := if_pos hs
    have e2 : othN side n m = m := if_pos hs
    exact ⟨by rw [e1, e2]; exact hb, by rw [e1, e2]; exact h2, by rw [e1, e2]; exact h4, by rw [e2]; exact hm⟩
  · have e1 : othZ side za zb = za := if_neg hs
    have e2 : othN side n m = n := if_neg hs
    exact ⟨by rw [e1, e2]; exact ha, by rw [e1, e2]; exact h1, by rw [e1, e2]; exact h3, by rw [e2]; exact hn⟩
end Go.Proofs.Ytempggikcpminaa
