/-
  MtT, MtU, MtV, MtW.
-/
import Derived.Test.YtdjmejjponlfoaaGF
import Derived.Test.YtdjmejjponlfoaaGS
import Derived.Test.YtdjmejjponlfoaaGM
namespace Go.Proofs.Ytdjmejjponlfoaa
open Go.RowKit Wire

/-- of the first k records of a kind and a number, the quantities -/
def kindTo (zs : List Int) (kind id : Int) : Nat → Int
  | 0 => 0
  | k + 1 => kindTo zs kind id k + if ((num zs (k * 8 + 1) == kind) && (num zs (k * 8 + 4) == id)) = true then num zs (k * 8 + 7) else 0
/-- none of the orders has the number -/
def noId (Z : List Int) (m : Nat) (id : Int) : Prop := ∀ k, k < m → num Z (k * 4) ≠ id
/-- what is told of the order itself -/
structure MtAll (side id acct pr mode : Int) (r : List Int × List Int × Int) (R : List Int) (N : Nat) (q : Int) : Prop where
  left : 0 ≤ r.2.2
  stop : r.2.2 = 0 ∨ r.1 = [] ∨ meetB side pr (num r.1 2) = false
  all : ∃ N', r.2.1.length = N' * 8 ∧ sumTo r.2.1 id N' + kindTo r.2.1 4 id N' + r.2.2 = sumTo R id N + kindTo R 4 id N + q ∧ kindTo R 4 id N ≤ kindTo r.2.1 4 id N'
theorem MtAll.from {side id acct pr mode : Int} {r : List Int × List Int × Int} {R R2 : List Int} {N N2 : Nat} {q q2 : Int} (h : MtAll side id acct pr mode r R2 N2 q2) (h1 : sumTo R2 id N2 + kindTo R2 4 id N2 + q2 = sumTo R id N + kindTo R 4 id N + q) (h2 : kindTo R 4 id N ≤ kindTo R2 4 id N2) : MtAll side id acct pr mode r R N q := by
  obtain ⟨a, b, N', e1, e2, e3⟩ := h
  exact ⟨a, b, N', e1, by omega, by omega⟩
/-- a side behind matching is a part of it: the first may have less -/
structure SubQ (T : List Int) (M : Nat) (zs : List Int) (n : Nat) (g : Nat → Nat) : Prop where
  lt : ∀ p, p < M → g p < n
  val : ∀ p, p < M → ∀ j, j < 3 → num T (p * 4 + j) = num zs (g p * 4 + j)
  qty : ∀ p, p < M → 1 ≤ num T (p * 4 + 3) ∧ num T (p * 4 + 3) ≤ num zs (g p * 4 + 3)
  mono : ∀ p q, p < q → q < M → g p < g q
theorem SubQ.same (zs : List Int) (n : Nat) (h : qtyOk zs n) : SubQ zs n zs n (fun k => k) :=
  ⟨fun _ h => h, fun _ _ _ _ => rfl, fun p hp => ⟨(h p hp).1, Int.le_refl _⟩, fun _ _ h _ => h⟩
theorem SubQ.tail {T t : List Int} {M n : Nat} {g : Nat → Nat} {i a p c : Int} (h : SubQ T M t n g) : SubQ T M (i :: a :: p :: c :: t) (n + 1) (fun k => g k + 1) :=
  ⟨fun p hp => Nat.succ_lt_succ (h.lt p hp), fun p hp j hj => by
      rw [h.val p hp j hj, show (g p + 1) * 4 + j = g p * 4 + j + 4 by omega]
      rfl, fun p hp => by
      have := h.qty p hp
      rw [show (g p + 1) * 4 + 3 = g p * 4 + 3 + 4 by omega]
      exact this, fun p q hpq hq => Nat.succ_lt_succ (h.mono p q hpq hq)⟩
theorem SubQ.cut {t : List Int} {n : Nat} {i a p c d : Int} (h : qtyOk (i :: a :: p :: c :: t) (n + 1)) (hd : 1 ≤ d ∧ d ≤ c) : SubQ (i :: a :: p :: d :: t) (n + 1) (i :: a :: p :: c :: t) (n + 1) (fun k => k) :=
  ⟨fun _ h => h, fun p hp j hj => by
      match p, j, hj with
      | 0, 0, _ => rfl
      | 0, 1, _ => rfl
      | 0, 2, _ => rfl
      | p + 1, j, _ =>
        rw [show (p + 1) * 4 + j = p * 4 + j + 4 by omega]
        rfl, fun p hp => by
      match p with
      | 0 => exact hd
      | p + 1 =>
        have := h (p + 1) hp
        rw [show (p + 1) * 4 + 3 = p * 4 + 3 + 4 by omega] at this ⊢
        exact ⟨this.1, Int.le_refl _⟩, fun _ _ h _ => h⟩
theorem mt_sub {side id acct pr mode : Int} : ∀ (m : Nat) {Z R : List Int} {q : Int}, Z.length = m * 4 → qtyOk Z m → 0 ≤ q → ∃ M g, (mtS side id acct pr mode Z R q).1.length = M * 4 ∧ M ≤ m ∧ SubQ (mtS side id acct pr mode Z R q).1 M Z m g
  | 0, Z, R, q, hZ, hQ, _ => by
    have : Z = [] := List.eq_nil_of_length_eq_zero (by omega)
    subst this
    rw [mtS_nil]
    exact ⟨0, fun k => k, rfl, Nat.le_refl _, SubQ.same [] 0 hQ⟩
  | m + 1, Z, R, q, hZ, hQ, hq => by
    obtain ⟨t, e, ht, -⟩ := head4 hZ
    have hc := hQ 0 (by omega)
    simp only [Nat.zero_mul, Nat.zero_add] at hc
    rw [e] at hQ
    have hQ' := qtyOk_tail hQ
    rw [e]
    generalize num Z 0 = i at *
    generalize num Z 1 = a at *
    generalize num Z 2 = p at *
    generalize num Z 3 = c at *
    have keep : SubQ (i :: a :: p :: c :: t) (m + 1) (i :: a :: p :: c :: t) (m + 1) (fun k => k) := SubQ.same _ _ hQ
    rw [mtS_cons]
    split
    · split
      · split
        · exact ⟨m + 1, _, by simp [ht] <;> omega, Nat.le_refl _, keep⟩
        · split
          · obtain ⟨M, g, h1, h2, h3⟩ := mt_sub (side := side) (id := id) (acct := acct) (pr := pr) (mode := mode) m (R := R ++ canR i a p c) ht hQ' hq
            exact ⟨M, _, h1, by omega, h3.tail⟩
          · exact ⟨m, _, ht, by omega, (SubQ.same t m hQ').tail⟩
      · rename_i hm _
        split
        · obtain ⟨M, g, h1, h2, h3⟩ := mt_sub (side := side) (id := id) (acct := acct) (pr := pr) (mode := mode) m (R := R ++ filR id acct i p c) ht hQ' (show 0 ≤ q - c by omega)
          exact ⟨M, _, h1, by omega, h3.tail⟩
        · exact ⟨m + 1, _, by simp [ht] <;> omega, Nat.le_refl _, SubQ.cut hQ (by omega)⟩
    · exact ⟨m + 1, _, by simp [ht] <;> omega, Nat.le_refl _, keep⟩
end Go.Proofs.Ytdjmejjponlfoaa

namespace Go.Proofs.Ytdjmejjponlfoaa
open Go.RowKit Wire

theorem side_subq {side : Int} {T zs : List Int} {M n : Nat} {g : Nat → Nat} (h : SubQ T M zs n g) (hM : M ≤ n) (hs : sideB side zs n = true) : sideB side T M = true := by
  unfold sideB at hs ⊢
  simp only [Bool.and_eq_true, decide_eq_true_eq] at hs ⊢
  refine ⟨by omega, all_of M fun k hk => ?_, srt_of M fun i j hij hj => ?_⟩
  · have h1 := allO_at n (g k) hs.2.1 (h.lt k hk)
    have hq := h.qty k hk
    have e0 : num T (k * 4) = num zs (g k * 4) := h.val k hk 0 (by omega)
    unfold ordB at h1 ⊢
    rw [e0, h.val k hk 1 (by omega), h.val k hk 2 (by omega)]
    simp only [inB, Bool.and_eq_true, decide_eq_true_eq] at h1 ⊢
    exact ⟨h1.1, h1.2.1, h1.2.2.1, hq.1, by omega⟩
  · unfold price
    rw [h.val i (by omega) 2 (by omega), h.val j hj 2 (by omega)]
    exact srt_pair n hs.2.2 (g i) (g j) (h.mono i j hij hj) (h.lt j hj)
/-- a part of a right book is a right book -/
theorem book_subq {T1 T2 za zb : List Int} {M1 M2 n m : Nat} {g f : Nat → Nat} (h1 : SubQ T1 M1 za n g) (h2 : SubQ T2 M2 zb m f) (hM1 : M1 ≤ n) (hM2 : M2 ≤ m) (hb : bookB za n zb m = true) : bookB T1 M1 T2 M2 = true := by
  simp only [bookB, Bool.and_eq_true] at hb ⊢
  obtain ⟨hs1, hs2, hc, hd⟩ := hb
  refine ⟨side_subq h1 hM1 hs1, side_subq h2 hM2 hs2, ?_, ?_⟩
  · rw [Bool.not_eq_true'] at hc ⊢
    unfold crossB at hc ⊢
    rcases Nat.eq_zero_or_pos M1 with e1 | p1
    · rw [decide_eq_false (by omega)]; rfl
    rcases Nat.eq_zero_or_pos M2 with e2 | p2
    · rw [decide_eq_false (show ¬ 0 < M2 by omega)]; simp
    have g0 := h1.lt 0 p1
    have f0 := h2.lt 0 p2
    rw [decide_eq_true (show 0 < n by omega), decide_eq_true (show 0 < m by omega), Bool.true_and, Bool.true_and] at hc
    have hc' := of_decide_eq_false hc
    have e1 : price T1 0 = price za (g 0) := h1.val 0 p1 2 (by omega)
    have e2 : price T2 0 = price zb (f 0) := h2.val 0 p2 2 (by omega)
    have q1 : price za (g 0) ≤ price za 0 := by
      rcases Nat.eq_zero_or_pos (g 0) with e | e
      · rw [e]; exact Int.le_refl _
      · unfold sideB at hs1
        simp only [Bool.and_eq_true] at hs1
        have := srt_pair n hs1.2.2 0 (g 0) e g0
        unfold betB at this
        rw [if_pos rfl] at this
        have := of_decide_eq_false this
        omega
    have q2 : price zb 0 ≤ price zb (f 0) := by
      rcases Nat.eq_zero_or_pos (f 0) with e | e
      · rw [e]; exact Int.le_refl _
      · unfold sideB at hs2
        simp only [Bool.and_eq_true] at hs2
        have := srt_pair m hs2.2.2 0 (f 0) e f0
        unfold betB at this
        rw [if_neg (by omega)] at this
        have := of_decide_eq_false this
        omega
    rw [decide_eq_false (show ¬ price T2 0 ≤ price T1 0 by omega)]
    simp
  · have hG : ∀ i, i < M1 + M2 → idA T1 M1 T2 i = idA za n zb (if i < M1 then g i else n + f (i - M1)) := fun i hi => by
      unfold idA
      by_cases c : i < M1
      · rw [if_pos c, if_pos c, if_pos (h1.lt i c)]
        exact h1.val i c 0 (by omega)
      · rw [if_neg c, if_neg c, if_neg (by omega), show n + f (i - M1) - n = f (i - M1) by omega]
        exact h2.val (i - M1) (by omega) 0 (by omega)
    refine dist_of _ fun i j hij hj => ?_
    rw [hG i (by omega), hG j hj]
    refine dist_pair (n + m) hd _ _ ?_ ?_
    · by_cases c : j < M1
      · rw [if_pos (show i < M1 by omega), if_pos c]
        exact h1.mono i j hij c
      · rw [if_neg c]
        by_cases c' : i < M1
        · rw [if_pos c']
          have := h1.lt i c'
          omega
        · rw [if_neg c']
          have := h2.mono (i - M1) (j - M1) (by omega) (by omega)
          omega
    · by_cases c : j < M1
      · rw [if_pos c]
        have := h1.lt j c
        omega
      · rw [if_neg c]
        have := h2.lt (j - M1) (by omega)
        omega
end Go.Proofs.Ytdjmejjponlfoaa

namespace Go.Proofs.Ytdjmejjponlfoaa
open Go.RowKit Wire

theorem mans_len {w' : World} {base : Nat} {rg : Bool} {side oi oa op oq mode : Int} {za zb : List Int} {e : Ending} (h : MAns w' base rg side oi oa op oq mode za zb e) :
    ∃ v1 v2 v3, e = .returned (.tuple #[.agg #[v1, v2], v3, .int .i64 (mLL rg side oi oa op oq mode za zb), .bool rg]) ∧ TwoRows w' base v1 ((mZ1 rg side oi oa op oq mode za zb).length / 4) (mZ1 rg side oi oa op oq mode za zb) v2 ((mZ2 rg side oi oa op oq mode za zb).length / 4) (mZ2 rg side oi oa op oq mode za zb) ∧ w'.ownsRow base 44 8 v3 ((mRR rg side oi oa op oq mode za zb).length / 8) (nums (mRR rg side oi oa op oq mode za zb)) := by
  obtain ⟨r1, r2, rv, n1, n2, N, he, hT, hR⟩ := h
  have e1 : (mZ1 rg side oi oa op oq mode za zb).length / 4 = n1 := by have := hT.one.1; rw [nums_length] at this; omega
  have e2 : (mZ2 rg side oi oa op oq mode za zb).length / 4 = n2 := by have := hT.two.1; rw [nums_length] at this; omega
  have e3 : (mRR rg side oi oa op oq mode za zb).length / 8 = N := by have := hR.1; rw [nums_length] at this; omega
  exact ⟨r1, r2, rv, he, by rw [e1, e2]; exact hT, by rw [e3]; exact hR⟩
theorem rg_noId {za zb : List Int} {n m : Nat} {side oi oa op oq mode : Int} (h : rgB za n zb m side oi oa op oq mode = true) : noId za n oi ∧ noId zb m oi := by
  obtain ⟨hb, -, -, -, hk, -⟩ := rg_parts h
  rw [hb] at hk
  unfold knowsB at hk
  rw [Bool.true_and] at hk
  have key : ∀ j, j < n + m → idA za n zb j ≠ oi := fun j hj e => by
    have := seen_at' e (n + m) hj
    rw [hk] at this
    cases this
  refine ⟨fun k hk => ?_, fun k hk => ?_⟩
  · have := key k (by omega)
    rwa [idA_at1 hk] at this
  · have := key (n + k) (by omega)
    rwa [idA_at2] at this
/-- the other side, and how many it has -/
def othZ (side : Int) (za zb : List Int) : List Int := if side = 1 then zb else za
def othN (side : Int) (n m : Nat) : Nat := if side = 1 then m else n
structure RgO (side oi : Int) (za zb : List Int) (n m : Nat) : Prop where
  len : (othZ side za zb).length = othN side n m * 4
  qty : qtyOk (othZ side za zb) (othN side n m)
  no : noId (othZ side za zb) (othN side n m) oi
  le : othN side n m ≤ 20
theorem rg_oth {za zb : List Int} {n m : Nat} {side oi oa op oq mode : Int} (h : rgB za n zb m side oi oa op oq mode = true) (ha : za.length = n * 4) (hb : zb.length = m * 4) : RgO side oi za zb n m := by
  obtain ⟨-, -, -, -, -, hn, hm, h1, h2, -, -⟩ := rg_parts h
  obtain ⟨h3, h4⟩ := rg_noId h
  by_cases hs : side = 1
  · have e1 : othZ side za zb = zb := if_pos hs
    have e2 : othN side n m = m := if_pos hs
    exact ⟨by rw [e1, e2]; exact hb, by rw [e1, e2]; exact h2, by rw [e1, e2]; exact h4, by rw [e2]; exact hm⟩
  · have e1 : othZ side za zb = za := if_neg hs
    have e2 : othN side n m = n := if_neg hs
    exact ⟨by rw [e1, e2]; exact ha, by rw [e1, e2]; exact h1, by rw [e1, e2]; exact h3, by rw [e2]; exact hn⟩
/-- the book behind matching is right -/
theorem rg_book {za zb : List Int} {n m : Nat} {side oi oa op oq mode : Int} (h : rgB za n zb m side oi oa op oq mode = true) (ha : za.length = n * 4) (hb : zb.length = m * 4) :
    bookB (mZ1 true side oi oa op oq mode za zb) ((mZ1 true side oi oa op oq mode za zb).length / 4) (mZ2 true side oi oa op oq mode za zb) ((mZ2 true side oi oa op oq mode za zb).length / 4) = true := by
  have R := rg_oth h ha hb
  obtain ⟨hbk, -, -, -, -, -, -, h1, h2, hq, -⟩ := rg_parts h
  obtain ⟨M, g, e1, e2, e3⟩ := mt_sub (side := side) (id := oi) (acct := oa) (pr := op) (mode := mode) (othN side n m) (R := []) (q := oq) R.len R.qty (by omega)
  unfold mZ1 mZ2 mtA
  rw [if_pos rfl, if_pos rfl]
  unfold othZ othN at *
  by_cases hs : side = 1
  · simp only [if_pos hs] at *
    rw [e1, ha, show n * 4 / 4 = n by omega, show M * 4 / 4 = M by omega]
    exact book_subq (SubQ.same za n h1) e3 (Nat.le_refl _) e2 hbk
  · simp only [if_neg hs] at *
    rw [e1, hb, show m * 4 / 4 = m by omega, show M * 4 / 4 = M by omega]
    exact book_subq e3 (SubQ.same zb m h2) e2 (Nat.le_refl _) hbk
end Go.Proofs.Ytdjmejjponlfoaa

namespace Go.Proofs.Ytdjmejjponlfoaa
open Go.RowKit Wire

theorem bk_dist {za zb : List Int} {n m : Nat} (h : bookB za n zb m = true) : (∀ q q', q < n → q' < n → q ≠ q' → num za (q * 4) ≠ num za (q' * 4)) ∧ (∀ q q', q < m → q' < m → q ≠ q' → num zb (q * 4) ≠ num zb (q' * 4)) ∧ ∀ q q', q < n → q' < m → num za (q * 4) ≠ num zb (q' * 4) := by
  have hd : distB (idA za n zb) (n + m) = true := by
    simp only [bookB, Bool.and_eq_true] at h
    exact h.2.2.2
  have key : ∀ i j, i < n + m → j < n + m → i ≠ j → idA za n zb i ≠ idA za n zb j := fun i j hi hj hne => by
    rcases Nat.lt_or_gt_of_ne hne with c | c
    · exact dist_pair _ hd i j c hj
    · exact fun e => dist_pair _ hd j i c hi e.symm
  refine ⟨fun q q' h1 h2 hne => ?_, fun q q' h1 h2 hne => ?_, fun q q' h1 h2 => ?_⟩
  · have := key q q' (by omega) (by omega) hne
    rwa [idA_at1 h1, idA_at1 h2] at this
  · have := key (n + q) (n + q') (by omega) (by omega) (by omega)
    rwa [idA_at2, idA_at2] at this
  · have := key q (n + q') (by omega) (by omega) (by omega)
    rwa [idA_at1 h1, idA_at2] at this
end Go.Proofs.Ytdjmejjponlfoaa
