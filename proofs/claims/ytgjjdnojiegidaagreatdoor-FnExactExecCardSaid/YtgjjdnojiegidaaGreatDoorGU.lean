/-
 MtT, MtU, MtV.
-/
import Derived.Test.YtgjjdnojiegidaaGreatDoorGF
import Derived.Test.YtgjjdnojiegidaaGreatDoorTkP
import Derived.Test.YtgjjdnojiegidaaGreatDoorGM
namespace Go.Proofs.YtgjjdnojiegidaaGreatDoor
open Go.RowKit Wire

theorem sumTo_app {R S : List Int} {id : Int} : ∀ N, N * 8 ≤ R.length → sumTo (R ++ S) id N = sumTo R id N
 | 0, _ => rfl
 | N + 1, h => by
  rw [sumTo, sumTo, sumTo_app N (by omega)]
  unfold fillAt
  rw [fnum_lt (by omega), fnum_lt (by omega), fnum_lt (by omega), fnum_lt (by omega)]
theorem sumTo_snoc {R : List Int} {N : Nat} {a b c d e f g h id : Int} (hl : R.length = N * 8) : sumTo (R ++ [a, b, c, d, e, f, g, h]) id (N + 1) = sumTo R id N + if fillB b e f id = true then h else 0 := by
 rw [sumTo, sumTo_app N (by omega)]
 unfold fillAt fillB
 rw [fnum_ge (i := 1) hl, fnum_ge (i := 4) hl, fnum_ge (i := 5) hl, fnum_ge (i := 7) hl]
 rfl
def kindTo (zs : List Int) (kind id : Int) : Nat → Int
 | 0 => 0
 | k + 1 => kindTo zs kind id k + if ((num zs (k * 8 + 1) == kind) && (num zs (k * 8 + 4) == id)) = true then num zs (k * 8 + 7) else 0
theorem kindTo_app {R S : List Int} {kind id : Int} : ∀ N, N * 8 ≤ R.length → kindTo (R ++ S) kind id N = kindTo R kind id N
 | 0, _ => rfl
 | N + 1, h => by
  rw [kindTo, kindTo, kindTo_app N (by omega), fnum_lt (by omega), fnum_lt (by omega), fnum_lt (by omega)]
theorem kindTo_snoc {R : List Int} {N : Nat} {a b c d e f g h kind id : Int} (hl : R.length = N * 8) : kindTo (R ++ [a, b, c, d, e, f, g, h]) kind id (N + 1) = kindTo R kind id N + if ((b == kind) && (e == id)) = true then h else 0 := by
 rw [kindTo, kindTo_app N (by omega), fnum_ge (i := 1) hl, fnum_ge (i := 4) hl, fnum_ge (i := 7) hl]
 rfl
def noId (Z : List Int) (m : Nat) (id : Int) : Prop := ∀ k, k < m → num Z (k * 4) ≠ id
theorem noId_tail {i a p c : Int} {t : List Int} {m : Nat} {id : Int} (h : noId (i :: a :: p :: c :: t) (m + 1) id) : noId t m id := fun k hk => by
 have := h (k + 1) (by omega)
 rw [show (k + 1) * 4 = k * 4 + 4 by omega] at this
 exact this
structure MtAll (side id acct pr mode : Int) (r : List Int × List Int × Int) (R : List Int) (N : Nat) (q : Int) : Prop where
 left : 0 ≤ r.2.2
 stop : r.2.2 = 0 ∨ r.1 = [] ∨ meetB side pr (num r.1 2) = false
 all : ∃ N', r.2.1.length = N' * 8 ∧ sumTo r.2.1 id N' + kindTo r.2.1 4 id N' + r.2.2 = sumTo R id N + kindTo R 4 id N + q ∧ kindTo R 4 id N ≤ kindTo r.2.1 4 id N'
theorem MtAll.from {side id acct pr mode : Int} {r : List Int × List Int × Int} {R R2 : List Int} {N N2 : Nat} {q q2 : Int} (h : MtAll side id acct pr mode r R2 N2 q2) (h1 : sumTo R2 id N2 + kindTo R2 4 id N2 + q2 = sumTo R id N + kindTo R 4 id N + q) (h2 : kindTo R 4 id N ≤ kindTo R2 4 id N2) : MtAll side id acct pr mode r R N q := by
 obtain ⟨a, b, N', e1, e2, e3⟩ := h
 exact ⟨a, b, N', e1, by omega, by omega⟩
theorem mt_can {i a p c id : Int} {R : List Int} {N : Nat} (hl : R.length = N * 8) : sumTo (R ++ canR i a p c) id (N + 1) = sumTo R id N ∧ kindTo (R ++ canR i a p c) 4 id (N + 1) = kindTo R 4 id N + if i = id then c else 0 := by
 unfold canR
 rw [sumTo_snoc hl, kindTo_snoc hl]
 refine ⟨by simp [fillB], ?_⟩
 by_cases h : i = id <;> simp [h]
theorem mt_fil {id i a p c x : Int} {R : List Int} {N : Nat} (hl : R.length = N * 8) (hx : i ≠ x ∨ id = x) : sumTo (R ++ filR id a i p c) x (N + 1) = sumTo R x N + (if id = x then c else 0) ∧ kindTo (R ++ filR id a i p c) 4 x (N + 1) = kindTo R 4 x N := by
 unfold filR
 rw [sumTo_snoc hl, kindTo_snoc hl]
 refine ⟨?_, by simp⟩
 unfold fillB
 by_cases h : id = x
 · simp [h]
 · have h2 : i ≠ x := hx.resolve_right h
   simp [h, h2]
theorem mt_all {side id acct pr mode : Int} : ∀ (m : Nat) {Z R : List Int} {q : Int} (N : Nat), Z.length = m * 4 → R.length = N * 8 → qtyOk Z m → noId Z m id → 0 ≤ q → MtAll side id acct pr mode (mtS side id acct pr mode Z R q) R N q
 | 0, Z, R, q, N, hZ, hR, _, _, hq => by
  have : Z = [] := List.eq_nil_of_length_eq_zero (by omega)
  subst this
  rw [mtS_nil]
  exact ⟨hq, .inr (.inl rfl), N, hR, rfl, Int.le_refl _⟩
 | m + 1, Z, R, q, N, hZ, hR, hQ, hI, hq => by
  obtain ⟨t, e, ht, -⟩ := head4 hZ
  have hc := hQ 0 (by omega)
  have hi := hI 0 (by omega)
  simp only [Nat.zero_mul, Nat.zero_add] at hc hi
  rw [e] at hQ hI
  have hQ' := qtyOk_tail hQ
  have hI' := noId_tail hI
  clear hQ hI
  rw [e]
  generalize num Z 0 = i at *
  generalize num Z 1 = a at *
  generalize num Z 2 = p at *
  generalize num Z 3 = c at *
  rw [mtS_cons]
  by_cases hm : 0 < q ∧ meetB side pr p = true
  · rw [if_pos hm]
    by_cases ha : a = acct
    · rw [if_pos ha]
      obtain ⟨o1, o2⟩ := mt_can (i := id) (a := acct) (p := pr) (c := q) (id := id) hR
      rw [if_pos rfl] at o2
      obtain ⟨r1, r2⟩ := mt_can (i := i) (a := a) (p := p) (c := c) (id := id) hR
      rw [if_neg hi] at r2
      have hR1 : (R ++ canR i a p c).length = (N + 1) * 8 := by simp [canR, hR] <;> omega
      by_cases h1 : mode = 1
      · rw [if_pos h1]
        exact ⟨Int.le_refl _, .inl rfl, N + 1, by simp [canR, hR] <;> omega, by show _ + _ + (0 : Int) = _; rw [o1, o2]; omega, by show _ ≤ kindTo (R ++ canR id acct pr q) 4 id (N + 1); rw [o2]; omega⟩
      · rw [if_neg h1]
        by_cases h2 : mode = 2
        · rw [if_pos h2]
          exact (mt_all m (N + 1) ht hR1 hQ' hI' hq).from (by rw [r1, r2]; omega) (by rw [r2]; omega)
        · rw [if_neg h2]
          obtain ⟨w1, w2⟩ := mt_can (i := id) (a := acct) (p := pr) (c := q) (id := id) hR1
          rw [if_pos rfl] at w2
          exact ⟨Int.le_refl _, .inl rfl, N + 2, by simp [canR, hR] <;> omega, by show sumTo (R ++ canR i a p c ++ canR id acct pr q) id (N + 1 + 1) + kindTo (R ++ canR i a p c ++ canR id acct pr q) 4 id (N + 1 + 1) + (0 : Int) = _; rw [w1, w2, r1, r2]; omega, by show _ ≤ kindTo (R ++ canR i a p c ++ canR id acct pr q) 4 id (N + 1 + 1); rw [w2, r2]; omega⟩
    · rw [if_neg ha]
      by_cases hcq : c ≤ q
      · rw [if_pos hcq]
        obtain ⟨f1, f2⟩ := mt_fil (id := id) (i := i) (a := acct) (p := p) (c := c) (x := id) hR (.inr rfl)
        rw [if_pos rfl] at f1
        exact (mt_all m (N + 1) ht (by simp [filR, hR] <;> omega) hQ' hI' (by omega)).from (by rw [f1, f2]; omega) (by rw [f2]; omega)
      · rw [if_neg hcq]
        obtain ⟨f1, f2⟩ := mt_fil (id := id) (i := i) (a := acct) (p := p) (c := q) (x := id) hR (.inr rfl)
        rw [if_pos rfl] at f1
        exact ⟨Int.le_refl _, .inl rfl, N + 1, by simp [filR, hR] <;> omega, by show _ + _ + (0 : Int) = _; rw [f1, f2]; omega, by show _ ≤ kindTo (R ++ filR id acct i p q) 4 id (N + 1); rw [f2]; omega⟩
  · rw [if_neg hm]
    refine ⟨hq, ?_, N, hR, rfl, Int.le_refl _⟩
    by_cases hq0 : 0 < q
    · refine .inr (.inr ?_)
      rcases Bool.eq_false_or_eq_true (meetB side pr p) with hb | hb
      · exact absurd ⟨hq0, hb⟩ hm
      · exact hb
    · exact .inl (by show q = 0; omega)
structure SubQ (T : List Int) (M : Nat) (zs : List Int) (n : Nat) (g : Nat → Nat) : Prop where
 lt : ∀ p, p < M → g p < n
 val : ∀ p, p < M → ∀ j, j < 3 → num T (p * 4 + j) = num zs (g p * 4 + j)
 qty : ∀ p, p < M → 1 ≤ num T (p * 4 + 3) ∧ num T (p * 4 + 3) ≤ num zs (g p * 4 + 3)
 mono : ∀ p q, p < q → q < M → g p < g q
theorem SubQ.same (zs : List Int) (n : Nat) (h : qtyOk zs n) : SubQ zs n zs n (fun k => k) :=
 ⟨fun _ h => h, fun _ _ _ _ => rfl, fun p hp => ⟨(h p hp).1, Int.le_refl _⟩, fun _ _ h _ => h⟩
theorem SubQ.tail {T t : List Int} {M n : Nat} {g : Nat → Nat} {i a p c : Int} (h : SubQ T M t n g) : SubQ T M (i :: a :: p :: c :: t) (n + 1) (fun k => g k + 1) :=
 ⟨fun p hp => Nat.succ_lt_succ (h.lt p hp), fun p hp j hj => by
  rw [h.val p hp j hj, show (g p + 1) * 4 + j = g p * 4 + j + 4 by omega]
  rfl, fun p hp => by
  have := h.qty p hp
  rw [show (g p + 1) * 4 + 3 = g p * 4 + 3 + 4 by omega]
  exact this, fun p q hpq hq => Nat.succ_lt_succ (h.mono p q hpq hq)⟩
theorem SubQ.cut {t : List Int} {n : Nat} {i a p c d : Int} (h : qtyOk (i :: a :: p :: c :: t) (n + 1)) (hd : 1 ≤ d ∧ d ≤ c) : SubQ (i :: a :: p :: d :: t) (n + 1) (i :: a :: p :: c :: t) (n + 1) (fun k => k) :=
 ⟨fun _ h => h, fun p hp j hj => by
  match p, j, hj with
  | 0, 0, _ => rfl
  | 0, 1, _ => rfl
  | 0, 2, _ => rfl
  | p + 1, j, _ =>
   rw [show (p + 1) * 4 + j = p * 4 + j + 4 by omega]
   rfl, fun p hp => by
  match p with
  | 0 => exact hd
  | p + 1 =>
   have := h (p + 1) hp
   rw [show (p + 1) * 4 + 3 = p * 4 + 3 + 4 by omega] at this ⊢
   exact ⟨this.1, Int.le_refl _⟩, fun _ _ h _ => h⟩
theorem mt_sub {side id acct pr mode : Int} : ∀ (m : Nat) {Z R : List Int} {q : Int}, Z.length = m * 4 → qtyOk Z m → 0 ≤ q → ∃ M g, (mtS side id acct pr mode Z R q).1.length = M * 4 ∧ M ≤ m ∧ SubQ (mtS side id acct pr mode Z R q).1 M Z m g
 | 0, Z, R, q, hZ, hQ, _ => by
  have : Z = [] := List.eq_nil_of_length_eq_zero (by omega)
  subst this
  rw [mtS_nil]
  exact ⟨0, fun k => k, rfl, Nat.le_refl _, SubQ.same [] 0 hQ⟩
 | m + 1, Z, R, q, hZ, hQ, hq => by
  obtain ⟨t, e, ht, -⟩ := head4 hZ
  have hc := hQ 0 (by omega)
  simp only [Nat.zero_mul, Nat.zero_add] at hc
  rw [e] at hQ
  have hQ' := qtyOk_tail hQ
  rw [e]
  generalize num Z 0 = i at *
  generalize num Z 1 = a at *
  generalize num Z 2 = p at *
  generalize num Z 3 = c at *
  have keep : SubQ (i :: a :: p :: c :: t) (m + 1) (i :: a :: p :: c :: t) (m + 1) (fun k => k) := SubQ.same _ _ hQ
  rw [mtS_cons]
  split
  · split
    · split
      · exact ⟨m + 1, _, by simp [ht] <;> omega, Nat.le_refl _, keep⟩
      · split
        · obtain ⟨M, g, h1, h2, h3⟩ := mt_sub (side := side) (id := id) (acct := acct) (pr := pr) (mode := mode) m (R := R ++ canR i a p c) ht hQ' hq
          exact ⟨M, _, h1, by omega, h3.tail⟩
        · exact ⟨m, _, ht, by omega, (SubQ.same t m hQ').tail⟩
    · rename_i hm _
      split
      · obtain ⟨M, g, h1, h2, h3⟩ := mt_sub (side := side) (id := id) (acct := acct) (pr := pr) (mode := mode) m (R := R ++ filR id acct i p c) ht hQ' (show 0 ≤ q - c by omega)
        exact ⟨M, _, h1, by omega, h3.tail⟩
      · exact ⟨m + 1, _, by simp [ht] <;> omega, Nat.le_refl _, SubQ.cut hQ (by omega)⟩
  · exact ⟨m + 1, _, by simp [ht] <;> omega, Nat.le_refl _, keep⟩
end Go.Proofs.YtgjjdnojiegidaaGreatDoor

namespace Go.Proofs.YtgjjdnojiegidaaGreatDoor
open Go.RowKit Wire

theorem side_subq {side : Int} {T zs : List Int} {M n : Nat} {g : Nat → Nat} (h : SubQ T M zs n g) (hM : M ≤ n) (hs : sideB side zs n = true) : sideB side T M = true := by
 unfold sideB at hs ⊢
 simp only [Bool.and_eq_true, decide_eq_true_eq] at hs ⊢
 refine ⟨by omega, all_of M fun k hk => ?_, srt_of M fun i j hij hj => ?_⟩
 · have h1 := allO_at n (g k) hs.2.1 (h.lt k hk)
   have hq := h.qty k hk
   have e0 : num T (k * 4) = num zs (g k * 4) := h.val k hk 0 (by omega)
   unfold ordB at h1 ⊢
   rw [e0, h.val k hk 1 (by omega), h.val k hk 2 (by omega)]
   simp only [inB, Bool.and_eq_true, decide_eq_true_eq] at h1 ⊢
   exact ⟨h1.1, h1.2.1, h1.2.2.1, hq.1, by omega⟩
 · unfold price
   rw [h.val i (by omega) 2 (by omega), h.val j hj 2 (by omega)]
   exact srt_pair n hs.2.2 (g i) (g j) (h.mono i j hij hj) (h.lt j hj)
theorem book_subq {T1 T2 za zb : List Int} {M1 M2 n m : Nat} {g f : Nat → Nat} (h1 : SubQ T1 M1 za n g) (h2 : SubQ T2 M2 zb m f) (hM1 : M1 ≤ n) (hM2 : M2 ≤ m) (hb : bookB za n zb m = true) : bookB T1 M1 T2 M2 = true := by
 simp only [bookB, Bool.and_eq_true] at hb ⊢
 obtain ⟨hs1, hs2, hc, hd⟩ := hb
 refine ⟨side_subq h1 hM1 hs1, side_subq h2 hM2 hs2, ?_, ?_⟩
 · rw [Bool.not_eq_true'] at hc ⊢
   unfold crossB at hc ⊢
   rcases Nat.eq_zero_or_pos M1 with e1 | p1
   · rw [decide_eq_false (by omega)]; rfl
   rcases Nat.eq_zero_or_pos M2 with e2 | p2
   · rw [decide_eq_false (show ¬ 0 < M2 by omega)]; simp
   have g0 := h1.lt 0 p1
   have f0 := h2.lt 0 p2
   rw [decide_eq_true (show 0 < n by omega), decide_eq_true (show 0 < m by omega), Bool.true_and, Bool.true_and] at hc
   have hc' := of_decide_eq_false hc
   have e1 : price T1 0 = price za (g 0) := h1.val 0 p1 2 (by omega)
   have e2 : price T2 0 = price zb (f 0) := h2.val 0 p2 2 (by omega)
   have q1 : price za (g 0) ≤ price za 0 := by
    rcases Nat.eq_zero_or_pos (g 0) with e | e
    · rw [e]; exact Int.le_refl _
    · unfold sideB at hs1
      simp only [Bool.and_eq_true] at hs1
      have := srt_pair n hs1.2.2 0 (g 0) e g0
      unfold betB at this
      rw [if_pos rfl] at this
      have := of_decide_eq_false this
      omega
   have q2 : price zb 0 ≤ price zb (f 0) := by
    rcases Nat.eq_zero_or_pos (f 0) with e | e
    · rw [e]; exact Int.le_refl _
    · unfold sideB at hs2
      simp only [Bool.and_eq_true] at hs2
      have := srt_pair m hs2.2.2 0 (f 0) e f0
      unfold betB at this
      rw [if_neg (by omega)] at this
      have := of_decide_eq_false this
      omega
   rw [decide_eq_false (show ¬ price T2 0 ≤ price T1 0 by omega)]
   simp
 · have hG : ∀ i, i < M1 + M2 → idA T1 M1 T2 i = idA za n zb (if i < M1 then g i else n + f (i - M1)) := fun i hi => by
    unfold idA
    by_cases c : i < M1
    · rw [if_pos c, if_pos c, if_pos (h1.lt i c)]
      exact h1.val i c 0 (by omega)
    · rw [if_neg c, if_neg c, if_neg (by omega), show n + f (i - M1) - n = f (i - M1) by omega]
      exact h2.val (i - M1) (by omega) 0 (by omega)
   refine dist_of _ fun i j hij hj => ?_
   rw [hG i (by omega), hG j hj]
   refine dist_pair (n + m) hd _ _ ?_ ?_
   · by_cases c : j < M1
     · rw [if_pos (show i < M1 by omega), if_pos c]
       exact h1.mono i j hij c
     · rw [if_neg c]
       by_cases c' : i < M1
       · rw [if_pos c']
         have := h1.lt i c'
         omega
       · rw [if_neg c']
         have := h2.mono (i - M1) (j - M1) (by omega) (by omega)
         omega
   · by_cases c : j < M1
     · rw [if_pos c]
       have := h1.lt j c
       omega
     · rw [if_neg c]
       have := h2.lt (j - M1) (by omega)
       omega
end Go.Proofs.YtgjjdnojiegidaaGreatDoor

namespace Go.Proofs.YtgjjdnojiegidaaGreatDoor
open Go.RowKit Wire

theorem mans_len {w' : World} {base : Nat} {rg : Bool} {side oi oa op oq mode : Int} {za zb : List Int} {e : Ending} (h : MAns w' base rg side oi oa op oq mode za zb e) :
 ∃ v1 v2 v3, e = .returned (.tuple #[.agg #[v1, v2], v3, .int .i64 (mLL rg side oi oa op oq mode za zb), .bool rg]) ∧ TwoRows w' base v1 ((mZ1 rg side oi oa op oq mode za zb).length / 4) (mZ1 rg side oi oa op oq mode za zb) v2 ((mZ2 rg side oi oa op oq mode za zb).length / 4) (mZ2 rg side oi oa op oq mode za zb) ∧ w'.ownsRow base 48 8 v3 ((mRR rg side oi oa op oq mode za zb).length / 8) (nums (mRR rg side oi oa op oq mode za zb)) := by
 obtain ⟨r1, r2, rv, n1, n2, N, he, hT, hR⟩ := h
 have e1 : (mZ1 rg side oi oa op oq mode za zb).length / 4 = n1 := by have := hT.one.1; rw [nums_length] at this; omega
 have e2 : (mZ2 rg side oi oa op oq mode za zb).length / 4 = n2 := by have := hT.two.1; rw [nums_length] at this; omega
 have e3 : (mRR rg side oi oa op oq mode za zb).length / 8 = N := by have := hR.1; rw [nums_length] at this; omega
 exact ⟨r1, r2, rv, he, by rw [e1, e2]; exact hT, by rw [e3]; exact hR⟩
theorem rg_noId {za zb : List Int} {n m : Nat} {side oi oa op oq mode : Int} (h : rgB za n zb m side oi oa op oq mode = true) : noId za n oi ∧ noId zb m oi := by
 obtain ⟨hb, -, -, -, hk, -⟩ := rg_parts h
 rw [hb] at hk
 unfold knowsB at hk
 rw [Bool.true_and] at hk
 have key : ∀ j, j < n + m → idA za n zb j ≠ oi := fun j hj e => by
  have := seen_at' e (n + m) hj
  rw [hk] at this
  cases this
 refine ⟨fun k hk => ?_, fun k hk => ?_⟩
 · have := key k (by omega)
   rwa [idA_at1 hk] at this
 · have := key (n + k) (by omega)
   rwa [idA_at2] at this
def othZ (side : Int) (za zb : List Int) : List Int := if side = 1 then zb else za
def othN (side : Int) (n m : Nat) : Nat := if side = 1 then m else n
structure RgO (side oi : Int) (za zb : List Int) (n m : Nat) : Prop where
 len : (othZ side za zb).length = othN side n m * 4
 qty : qtyOk (othZ side za zb) (othN side n m)
 no : noId (othZ side za zb) (othN side n m) oi
 le : othN side n m ≤ 20
theorem rg_oth {za zb : List Int} {n m : Nat} {side oi oa op oq mode : Int} (h : rgB za n zb m side oi oa op oq mode = true) (ha : za.length = n * 4) (hb : zb.length = m * 4) : RgO side oi za zb n m := by
 obtain ⟨-, -, -, -, -, hn, hm, h1, h2, -, -⟩ := rg_parts h
 obtain ⟨h3, h4⟩ := rg_noId h
 by_cases hs : side = 1
 · have e1 : othZ side za zb = zb := if_pos hs
   have e2 : othN side n m = m := if_pos hs
   exact ⟨by rw [e1, e2]; exact hb, by rw [e1, e2]; exact h2, by rw [e1, e2]; exact h4, by rw [e2]; exact hm⟩
 · have e1 : othZ side za zb = za := if_neg hs
   have e2 : othN side n m = n := if_neg hs
   exact ⟨by rw [e1, e2]; exact ha, by rw [e1, e2]; exact h1, by rw [e1, e2]; exact h3, by rw [e2]; exact hn⟩
theorem rg_all {za zb : List Int} {n m : Nat} {side oi oa op oq mode : Int} (h : rgB za n zb m side oi oa op oq mode = true) (ha : za.length = n * 4) (hb : zb.length = m * 4) : MtAll side oi oa op mode (mtA side oi oa op oq mode za zb) [] 0 oq := by
 have R := rg_oth h ha hb
 obtain ⟨-, -, -, -, -, -, -, -, -, hq, -⟩ := rg_parts h
 exact mt_all (othN side n m) 0 R.len rfl R.qty R.no (by omega)
theorem rg_book {za zb : List Int} {n m : Nat} {side oi oa op oq mode : Int} (h : rgB za n zb m side oi oa op oq mode = true) (ha : za.length = n * 4) (hb : zb.length = m * 4) :
 bookB (mZ1 true side oi oa op oq mode za zb) ((mZ1 true side oi oa op oq mode za zb).length / 4) (mZ2 true side oi oa op oq mode za zb) ((mZ2 true side oi oa op oq mode za zb).length / 4) = true := by
 have R := rg_oth h ha hb
 obtain ⟨hbk, -, -, -, -, -, -, h1, h2, hq, -⟩ := rg_parts h
 obtain ⟨M, g, e1, e2, e3⟩ := mt_sub (side := side) (id := oi) (acct := oa) (pr := op) (mode := mode) (othN side n m) (R := []) (q := oq) R.len R.qty (by omega)
 unfold mZ1 mZ2 mtA
 rw [if_pos rfl, if_pos rfl]
 unfold othZ othN at *
 by_cases hs : side = 1
 · simp only [if_pos hs] at *
   rw [e1, ha, show n * 4 / 4 = n by omega, show M * 4 / 4 = M by omega]
   exact book_subq (SubQ.same za n h1) e3 (Nat.le_refl _) e2 hbk
 · simp only [if_neg hs] at *
   rw [e1, hb, show m * 4 / 4 = m by omega, show M * 4 / 4 = M by omega]
   exact book_subq e3 (SubQ.same zb m h2) e2 (Nat.le_refl _) hbk
theorem rg_stop {za zb : List Int} {n m : Nat} {side oi oa op oq mode : Int} {bk : Bool} (h : rgB za n zb m side oi oa op oq mode = true) (ha : za.length = n * 4) (hb : zb.length = m * 4) (hl : mLL true side oi oa op oq mode za zb ≠ 0) :
 crN bk side op (mZ1 true side oi oa op oq mode za zb) (mZ2 true side oi oa op oq mode za zb) ((mZ1 true side oi oa op oq mode za zb).length / 4) ((mZ2 true side oi oa op oq mode za zb).length / 4) = 0 := by
 have A := rg_all h ha hb
 unfold mLL at hl
 rw [if_pos rfl] at hl
 have lz : ∀ (f : Nat → Bool) (n : Nat), (n = 0 ∨ f 0 = false) → lead f n = 0 := fun f n e => by
  rcases n with _ | n
  · rfl
  · rw [lead, if_neg]
    rcases e with e | e
    · omega
    · rw [e]; decide
 have key : ∀ Z : List Int, Z = (mtA side oi oa op oq mode za zb).1 → lead (fun k => meetB side op (price Z k)) (Z.length / 4) = 0 := fun Z e => by
  subst e
  refine lz _ _ ?_
  rcases A.stop with c | c | c
  · exact absurd c hl
  · rw [c]; exact .inl rfl
  · exact .inr c
 unfold crN
 split
 · by_cases hs : side = 1
   · rw [if_pos hs]
     exact key _ (by unfold mZ2; rw [if_pos rfl, if_pos hs])
   · rw [if_neg hs]
     exact key _ (by unfold mZ1; rw [if_pos rfl, if_neg hs])
 · rfl
theorem rg_sum {za zb : List Int} {n m : Nat} {side oi oa op oq mode : Int} (h : rgB za n zb m side oi oa op oq mode = true) (ha : za.length = n * 4) (hb : zb.length = m * 4) :
 okTo (mRR true side oi oa op oq mode za zb) ((mRR true side oi oa op oq mode za zb).length / 8) = true ∧
 sumTo (mRR true side oi oa op oq mode za zb) oi ((mRR true side oi oa op oq mode za zb).length / 8) + kindTo (mRR true side oi oa op oq mode za zb) 4 oi ((mRR true side oi oa op oq mode za zb).length / 8) + mLL true side oi oa op oq mode za zb = oq ∧
 0 ≤ kindTo (mRR true side oi oa op oq mode za zb) 4 oi ((mRR true side oi oa op oq mode za zb).length / 8) ∧ 0 ≤ mLL true side oi oa op oq mode za zb := by
 obtain ⟨e1, -, N', e2, e3, e4⟩ := rg_all h ha hb
 have hr : mRR true side oi oa op oq mode za zb = (mtA side oi oa op oq mode za zb).2.1 := by unfold mRR; rw [if_pos rfl]
 have hL : mLL true side oi oa op oq mode za zb = (mtA side oi oa op oq mode za zb).2.2 := by unfold mLL; rw [if_pos rfl]
 have hn : (mRR true side oi oa op oq mode za zb).length / 8 = N' := by rw [hr]; omega
 rw [hn]
 refine ⟨mrr_ok h ha hb (by rw [hr]; exact e2), ?_⟩
 rw [hr, hL]
 simp only [sumTo, kindTo] at e3 e4
 exact ⟨by omega, e4, e1⟩
end Go.Proofs.YtgjjdnojiegidaaGreatDoor
