/-
  Frames taken off a text: plain facts.
-/
import Derived.Test.YteikflfchkmbnaaFrameI
namespace Go.Proofs.Yteikflfchkmbnaa
open Go.RowKit Wire

/-- the number that four bytes of a text are, the highest first -/
def fourN (s : ByteArray) (a : Nat) : Nat → Nat
  | 0 => 0
  | i + 1 => 256 * fourN s a i + (s.data.toList.getD (a + i) 0).toNat
theorem fourN_lt (s : ByteArray) (a : Nat) : ∀ i, fourN s a i < 256 ^ i
  | 0 => by simp [fourN]
  | i + 1 => by
    have h := fourN_lt s a i
    have hb := (s.data.toList.getD (a + i) 0).toNat_lt
    rw [fourN, Nat.pow_succ]
    omega
/-- is there a frame at this offset? the length of its data -/
def nxtF (s : ByteArray) (a : Nat) : Option Nat :=
  if a + 8 ≤ s.size ∧ fourN s a 4 ≤ 100000 ∧ a + 8 + fourN s a 4 ≤ s.size ∧ (⟨(le4 (crcN (s.extract (a + 8) (a + 8 + fourN s a 4)))).toArray⟩ : ByteArray) = s.extract (a + 4) (a + 8) then some (fourN s a 4) else none
/-- what is taken in k steps, and the offset behind it -/
def stF (s : ByteArray) : Nat → List ByteArray × Nat
  | 0 => ([], 0)
  | k + 1 => match nxtF s (stF s k).2 with
    | some n => ((stF s k).1 ++ [s.extract ((stF s k).2 + 8) ((stF s k).2 + 8 + n)], (stF s k).2 + 8 + n)
    | none => stF s k
theorem stF_some {s : ByteArray} {k n : Nat} (h : nxtF s (stF s k).2 = some n) : stF s (k + 1) = ((stF s k).1 ++ [s.extract ((stF s k).2 + 8) ((stF s k).2 + 8 + n)], (stF s k).2 + 8 + n) := by
  rw [stF, h]
theorem stF_none {s : ByteArray} {k : Nat} (h : nxtF s (stF s k).2 = none) : ∀ j, stF s (k + j) = stF s k
  | 0 => rfl
  | j + 1 => by
    have ih := stF_none h j
    rw [← Nat.add_assoc, stF, ih, h]
/-- all that is taken -/
def allF (s : ByteArray) : List ByteArray × Nat := stF s s.size
theorem allF_of {s : ByteArray} {k : Nat} (hk : k ≤ s.size) (h : nxtF s (stF s k).2 = none) : allF s = stF s k := by
  have := stF_none h (s.size - k)
  rw [show k + (s.size - k) = s.size by omega] at this
  exact this
theorem nxtF_some {s : ByteArray} {a n : Nat} (h : nxtF s a = some n) : n ≤ 100000 ∧ a + 8 + n ≤ s.size := by
  unfold nxtF at h
  split at h
  · injection h with h
    subst h
    rename_i hc
    exact ⟨hc.2.1, hc.2.2.1⟩
  · cases h
theorem nxtF_big {s : ByteArray} {a : Nat} (h : 100000 < fourN s a 4) : nxtF s a = none := by unfold nxtF; rw [if_neg (by omega)]
theorem nxtF_long {s : ByteArray} {a : Nat} (h : s.size < a + 8 + fourN s a 4) : nxtF s a = none := by unfold nxtF; rw [if_neg (by omega)]
theorem nxtF_end {s : ByteArray} {a : Nat} (h : ¬ a + 8 ≤ s.size) : nxtF s a = none := by unfold nxtF; rw [if_neg (by omega)]
theorem nxtF_sum {s : ByteArray} {a : Nat} (h : ¬ (⟨(le4 (crcN (s.extract (a + 8) (a + 8 + fourN s a 4)))).toArray⟩ : ByteArray) = s.extract (a + 4) (a + 8)) : nxtF s a = none := by unfold nxtF; rw [if_neg (fun k => h k.2.2.2)]
theorem nxtF_yes {s : ByteArray} {a : Nat} (h1 : a + 8 ≤ s.size) (h2 : fourN s a 4 ≤ 100000) (h3 : a + 8 + fourN s a 4 ≤ s.size) (h4 : (⟨(le4 (crcN (s.extract (a + 8) (a + 8 + fourN s a 4)))).toArray⟩ : ByteArray) = s.extract (a + 4) (a + 8)) : nxtF s a = some (fourN s a 4) := by unfold nxtF; rw [if_pos ⟨h1, h2, h3, h4⟩]
theorem sum_yes {l : List UInt8} {t : ByteArray} (h : (⟨l.toArray⟩ : ByteArray) = t) : (l == t.toList) = true := by
  subst h; rw [ByteArray.toList_eq]; simp
theorem sum_no {l : List UInt8} {t : ByteArray} (h : ¬ (⟨l.toArray⟩ : ByteArray) = t) : (l == t.toList) = false := by
  rw [beq_eq_false_iff_ne]
  intro k
  apply h
  rw [k, ByteArray.toList_eq]
def strs (l : List ByteArray) : List Value := l.map Value.string
theorem strs_append (a b : List ByteArray) : strs (a ++ b) = strs a ++ strs b := by simp [strs]
theorem strs_length (l : List ByteArray) : (strs l).length = l.length := by simp [strs]
theorem str_info : (Try.prog.info? 9).map (fun i => (i.zero, i.size, i.bytes)) = some (some (.string ⟨#[]⟩), 1, 16) := by kernel_rfl
end Go.Proofs.Yteikflfchkmbnaa
