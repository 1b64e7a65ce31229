/-
  Frames taken off a text, off a longer one, off a shorter one: plain facts.
-/
import Derived.Test.YteikflfchkmbnaaTakeFI
namespace Go.Proofs.Yteikflfchkmbnaa
open Go.RowKit Wire

theorem ext_ext {s : ByteArray} {a b i j : Nat} (hj : a + j ≤ b) : (s.extract a b).extract i j = s.extract (a + i) (a + j) := by
  rw [ByteArray.extract_extract]
  congr 1
  omega
/-- the bytes of a frame at its place -/
theorem nxt_frame {s : ByteArray} {a n : Nat} (h : nxtF s a = some n) : n ≤ 100000 ∧ a + 8 + n ≤ s.size ∧ s.extract a (a + 8 + n) = frameB (s.extract (a + 8) (a + 8 + n)) := by
  obtain ⟨h1, h2⟩ := nxtF_some h
  refine ⟨h1, h2, ?_⟩
  have h3 := nxtF_off (s := s) (a := a) (by omega)
  rw [h] at h3
  have hq := nxtF_len h3
  have hz : (s.extract a s.size).size = s.size - a := by rw [ByteArray.size_extract]; omega
  have hf := frame_eq (t := s.extract a s.size) hq h1 (by omega)
  have hs : (⟨(le4 (crcN ((s.extract a s.size).extract 8 (8 + n)))).toArray⟩ : ByteArray) = (s.extract a s.size).extract 4 8 := by
    unfold nxtF at h3
    split at h3
    · rename_i hc
      rw [← hq] at hc
      simpa using hc.2.2.2
    · cases h3
  have := hf.2 hs
  rw [ext_ext (by omega), ext_ext (by omega)] at this
  rw [show a + 8 + n = a + (8 + n) by omega]
  exact this
theorem frameB_size {d : ByteArray} (h : d.size ≤ 100000) : (frameB d).size = 8 + d.size := by
  unfold frameB
  rw [if_pos h]
  rw [ByteArray.size_append, ByteArray.size_append]
  show (be 4 d.size).toArray.size + (le4 (crcN d)).toArray.size + d.size = _
  rw [List.size_toArray, List.size_toArray, be_length, le4_length]
theorem fourN_ext {s : ByteArray} {a b : Nat} (hb : a + 8 ≤ b) (hs : b ≤ s.size) : ∀ i, i ≤ 4 → fourN (s.extract a b) 0 i = fourN s a i
  | 0, _ => rfl
  | i + 1, hi => by
    have hz : (s.extract a b).size = b - a := by rw [ByteArray.size_extract]; omega
    rw [fourN, fourN, fourN_ext hb hs i (by omega)]
    congr 2
    rw [Nat.zero_add, List.getD_eq_getElem?_getD, List.getD_eq_getElem?_getD, List.getElem?_eq_getElem (by simp; omega), List.getElem?_eq_getElem (by simp; omega)]
    simp
/-- and back: where a frame lies, it is found -/
theorem frame_nxt {s : ByteArray} {a n : Nat} (h1 : n ≤ 100000) (h2 : a + 8 + n ≤ s.size) (h : s.extract a (a + 8 + n) = frameB (s.extract (a + 8) (a + 8 + n))) : nxtF s a = some n := by
  have hd : (s.extract (a + 8) (a + 8 + n)).size = n := by rw [ByteArray.size_extract]; omega
  have hz : (s.extract a (a + 8 + n)).size = 8 + n := by rw [ByteArray.size_extract]; omega
  have h4 : fourN s a 4 = n := by
    rw [← fourN_ext (b := a + 8 + n) (by omega) h2 4 (Nat.le_refl _), fourN_val (by omega) 4 (Nat.le_refl _), h]
    unfold frameB
    rw [if_pos (by omega), hd]
    have e : (((⟨(be 4 n).toArray⟩ : ByteArray) ++ ⟨(le4 (crcN (s.extract (a + 8) (a + 8 + n)))).toArray⟩ ++ s.extract (a + 8) (a + 8 + n)).extract 0 4).data.toList = be 4 n := by
      simp [be_length]
    rw [e, List.take_of_length_le (by rw [be_length]; omega), val_be 4 n (by omega)]
  have hoff := nxtF_off (s := s) (a := a) (by omega)
  rw [← hoff]
  have hz2 : (s.extract a s.size).size = s.size - a := by rw [ByteArray.size_extract]; omega
  have h5 : fourN (s.extract a s.size) 0 4 = n := by rw [fourN_ext (by omega) (Nat.le_refl _) 4 (Nat.le_refl _), h4]
  have hf := frame_eq (t := s.extract a s.size) h5.symm h1 (by omega)
  have hs := hf.1 (by rw [ext_ext (by omega), ext_ext (by omega), show a + (8 + n) = a + 8 + n by omega]; exact h)
  have := nxtF_yes (s := s.extract a s.size) (a := 0) (by omega) (by rw [h5]; exact h1) (by rw [h5]; omega) (by rw [h5]; simpa using hs)
  rw [this, h5]
/-- two texts that agree on their first m bytes -/
def Agree (u s : ByteArray) (m : Nat) : Prop := m ≤ u.size ∧ m ≤ s.size ∧ u.extract 0 m = s.extract 0 m
theorem Agree.ext {u s : ByteArray} {m a b : Nat} (h : Agree u s m) (hb : b ≤ m) : u.extract a b = s.extract a b := by
  have e1 : (u.extract 0 m).extract a b = u.extract a b := by rw [ext_ext (by omega)]; simp
  have e2 : (s.extract 0 m).extract a b = s.extract a b := by rw [ext_ext (by omega)]; simp
  rw [← e1, ← e2, h.2.2]
theorem Agree.nxt {u s : ByteArray} {m a n : Nat} (h : Agree u s m) (hn : nxtF s a = some n) (hm : a + 8 + n ≤ m) : nxtF u a = some n := by
  obtain ⟨h1, h2, h3⟩ := nxt_frame hn
  refine frame_nxt h1 (Nat.le_trans hm h.1) ?_
  rw [h.ext hm, h.ext hm]
  exact h3
theorem Agree.symm {u s : ByteArray} {m : Nat} (h : Agree u s m) : Agree s u m := ⟨h.2.1, h.1, h.2.2.symm⟩
/-- the first k steps all take a frame -/
def AllSome (s : ByteArray) (k : Nat) : Prop := ∀ j, j < k → nxtF s (stF s j).2 ≠ none
theorem AllSome.less {s : ByteArray} {k j : Nat} (h : AllSome s k) (hj : j ≤ k) : AllSome s j := fun i hi => h i (by omega)
theorem AllSome.step {s : ByteArray} {k : Nat} (h : AllSome s (k + 1)) : ∃ n, nxtF s (stF s k).2 = some n := by
  cases hx : nxtF s (stF s k).2 with
  | none => exact absurd hx (h k (by omega))
  | some n => exact ⟨n, rfl⟩
theorem stF_grows {s : ByteArray} : ∀ k, AllSome s k → (stF s k).1.length = k ∧ k * 8 ≤ (stF s k).2 ∧ (stF s k).2 ≤ s.size
  | 0, _ => ⟨rfl, by simp [stF], by simp [stF]⟩
  | k + 1, h => by
    obtain ⟨h1, h2, _⟩ := stF_grows k (h.less (by omega))
    obtain ⟨n, hn⟩ := h.step
    have := nxtF_some hn
    rw [stF_some hn]
    refine ⟨by simp [h1], ?_, this.2⟩
    show (k + 1) * 8 ≤ (stF s k).2 + 8 + n
    omega
/-- a text that agrees as far as this gives the same -/
theorem stF_agree {u s : ByteArray} {m : Nat} (hA : Agree u s m) : ∀ k, AllSome s k → (stF s k).2 ≤ m → stF u k = stF s k ∧ AllSome u k
  | 0, _, _ => ⟨rfl, fun j hj => absurd hj (Nat.not_lt_zero j)⟩
  | k + 1, h, hm => by
    obtain ⟨n, hn⟩ := h.step
    have hs := stF_some hn
    rw [hs] at hm
    have hm : (stF s k).2 + 8 + n ≤ m := hm
    obtain ⟨h1, h2⟩ := stF_agree hA k (h.less (by omega)) (by omega)
    have hu : nxtF u (stF u k).2 = some n := by rw [h1]; exact hA.nxt hn hm
    have e := stF_some hu
    refine ⟨by rw [e, hs, h1, hA.ext hm], fun j hj => ?_⟩
    rcases Nat.lt_or_ge j k with h3 | h3
    · exact h2 j h3
    · obtain rfl : j = k := by omega
      rw [hu]; simp
/-- the steps end -/
theorem stF_ends (s : ByteArray) : ∃ k, AllSome s k ∧ nxtF s (stF s k).2 = none := by
  suffices h : ∀ f k, AllSome s k → s.size < k * 8 + f → ∃ k, AllSome s k ∧ nxtF s (stF s k).2 = none from
    h (s.size + 1) 0 (fun j hj => absurd hj (Nat.not_lt_zero j)) (by omega)
  intro f
  induction f with
  | zero => intro k hk hlt; have := (stF_grows k hk).2; omega
  | succ f ih =>
    intro k hk hlt
    cases hx : nxtF s (stF s k).2 with
    | none => exact ⟨k, hk, hx⟩
    | some n =>
      refine ih (k + 1) (fun j hj => ?_) (by omega)
      rcases Nat.lt_or_ge j k with h3 | h3
      · exact hk j h3
      · obtain rfl : j = k := by omega
        rw [hx]; simp
theorem allF_ends (s : ByteArray) : ∃ k, AllSome s k ∧ nxtF s (stF s k).2 = none ∧ allF s = stF s k ∧ k ≤ s.size := by
  obtain ⟨k, h1, h2⟩ := stF_ends s
  have h3 := stF_grows k h1
  exact ⟨k, h1, h2, allF_of (by omega) h2, by omega⟩
/-- the frames of some texts, one behind the other -/
def catF (l : List ByteArray) : ByteArray := l.foldl (fun a d => a ++ frameB d) ⟨#[]⟩
theorem catF_snoc (l : List ByteArray) (d : ByteArray) : catF (l ++ [d]) = catF l ++ frameB d := by simp [catF]
theorem ext_app (s : ByteArray) {a b : Nat} (h : a ≤ b) : s.extract 0 a ++ s.extract a b = s.extract 0 b := by
  apply ByteArray.ext
  simp
  congr 1
  omega
theorem catF_st {s : ByteArray} : ∀ k, AllSome s k → catF (stF s k).1 = s.extract 0 (stF s k).2
  | 0, _ => by simp [catF, stF]; rfl
  | k + 1, h => by
    have ih := catF_st k (h.less (by omega))
    obtain ⟨n, hn⟩ := h.step
    obtain ⟨_, _, h3⟩ := nxt_frame hn
    rw [stF_some hn]
    show catF ((stF s k).1 ++ [_]) = s.extract 0 ((stF s k).2 + 8 + n)
    rw [catF_snoc, ih, ← h3, ext_app s (by omega)]
theorem app_front (x y : ByteArray) : (x ++ y).extract 0 x.size = x := by
  apply ByteArray.ext
  rw [ByteArray.data_extract, ByteArray.data_append]
  show (x.data ++ y.data).extract 0 x.data.size = x.data
  simp [Array.extract_append]
theorem app_back (x y : ByteArray) : (x ++ y).extract x.size (x.size + y.size) = y := by
  apply ByteArray.ext
  rw [ByteArray.data_extract, ByteArray.data_append]
  show (x.data ++ y.data).extract x.data.size (x.data.size + y.data.size) = y.data
  have e1 : x.data.extract x.data.size (x.data.size + y.data.size) = #[] := Array.eq_empty_of_size_eq_zero (by rw [Array.size_extract]; omega)
  have e2 : y.data.extract 0 y.data.size = y.data := by rw [Array.extract_size]
  rw [Array.extract_append, e1, Nat.sub_self, Nat.add_sub_cancel_left, e2]
  simp
theorem frameB_data {t : ByteArray} (h : t.size ≤ 100000) : (frameB t).extract 8 (8 + t.size) = t := by
  unfold frameB
  rw [if_pos h]
  have h8 : ((⟨(be 4 t.size).toArray⟩ : ByteArray) ++ ⟨(le4 (crcN t)).toArray⟩).size = 8 := by
    rw [ByteArray.size_append]
    show (be 4 t.size).toArray.size + (le4 (crcN t)).toArray.size = _
    rw [List.size_toArray, List.size_toArray, be_length, le4_length]
  have := app_back ((⟨(be 4 t.size).toArray⟩ : ByteArray) ++ ⟨(le4 (crcN t)).toArray⟩) t
  rw [h8] at this
  exact this
/-- one frame more -/
theorem more_frame (s t : ByteArray) (ht : t.size ≤ 100000) : allF (catF (allF s).1 ++ frameB t) = ((allF s).1 ++ [t], (allF s).2 + 8 + t.size) := by
  obtain ⟨K, h1, h2, h3, h4⟩ := allF_ends s
  obtain ⟨g1, g2, g3⟩ := stF_grows K h1
  rw [h3, catF_st K h1]
  obtain ⟨a, ha⟩ : ∃ a, (stF s K).2 = a := ⟨_, rfl⟩
  have hz : (s.extract 0 a).size = a := by rw [ByteArray.size_extract]; omega
  have hf := frameB_size ht
  obtain ⟨u, hu⟩ : ∃ u, s.extract 0 a ++ frameB t = u := ⟨_, rfl⟩
  have huz : u.size = a + 8 + t.size := by rw [← hu, ByteArray.size_append, hz, hf]; omega
  have e1 : u.extract 0 a = s.extract 0 a := by
    have := app_front (s.extract 0 a) (frameB t)
    rw [hz, hu] at this
    exact this
  have e2 : u.extract a (a + 8 + t.size) = frameB t := by
    have := app_back (s.extract 0 a) (frameB t)
    rw [hz, hu, hf, ← Nat.add_assoc] at this
    exact this
  have hA : Agree u s a := ⟨by omega, by omega, e1⟩
  obtain ⟨k1, k2⟩ := stF_agree hA K h1 (by omega)
  have e3 : u.extract (a + 8) (a + 8 + t.size) = t := by
    have h5 := ext_ext (s := u) (a := a) (b := a + 8 + t.size) (i := 8) (j := 8 + t.size) (by omega)
    rw [e2, frameB_data ht, ← Nat.add_assoc] at h5
    exact h5.symm
  have hn : nxtF u (stF u K).2 = some t.size := by
    rw [k1, ha]
    exact frame_nxt ht (by omega) (by rw [e2, e3])
  have hs := stF_some hn
  rw [k1, ha, e3] at hs
  have hend : nxtF u (stF u (K + 1)).2 = none := by
    rw [hs]
    exact nxtF_end (by show ¬ a + 8 + t.size + 8 ≤ u.size; omega)
  rw [ha, hu, allF_of (k := K + 1) (by omega) hend, hs]
theorem stF_take {s : ByteArray} : ∀ K J, AllSome s K → J ≤ K → (stF s J).1 = (stF s K).1.take J
  | 0, J, _, hJ => by
    obtain rfl : J = 0 := by omega
    rfl
  | K + 1, J, h, hJ => by
    have hl := (stF_grows K (h.less (by omega))).1
    rcases Nat.lt_or_ge K J with h1 | h1
    · obtain rfl : J = K + 1 := by omega
      rw [List.take_of_length_le (by rw [(stF_grows (K + 1) h).1]; omega)]
    · obtain ⟨n, hn⟩ := h.step
      rw [stF_some hn, stF_take K J (h.less (by omega)) h1]
      show _ = ((stF s K).1 ++ [_]).take J
      rw [List.take_append_of_le_length (by omega)]
/-- the frames of a text that is cut -/
theorem less_frame (s : ByteArray) (k : Nat) (hk : k ≤ (allF s).2) : ∃ J, J ≤ (allF s).1.length ∧ (allF (s.extract 0 k)).1 = (allF s).1.take J := by
  obtain ⟨K, h1, h2, h3, h4⟩ := allF_ends s
  obtain ⟨g1, g2, g3⟩ := stF_grows K h1
  rw [h3] at hk ⊢
  obtain ⟨u, hu⟩ : ∃ u, s.extract 0 k = u := ⟨_, rfl⟩
  have huz : u.size = k := by rw [← hu, ByteArray.size_extract]; omega
  have hA : Agree s u k := ⟨by omega, by omega, by rw [← hu, ext_ext (by omega)]; simp⟩
  obtain ⟨J, j1, j2, j3, j4⟩ := allF_ends u
  obtain ⟨e1, e2⟩ := stF_agree hA J j1 (by rw [← huz]; exact (stF_grows J j1).2.2)
  have hJ : J ≤ K := by
    rcases Nat.lt_or_ge K J with h | h
    · exact absurd h2 (e2 K h)
    · exact h
  rw [hu, j3, ← e1]
  exact ⟨J, by rw [g1]; exact hJ, stF_take K J h1 hJ⟩
theorem all_frames (s : ByteArray) : catF (allF s).1 = s.extract 0 (allF s).2 ∧ (allF s).2 ≤ s.size ∧ (allF s).1.length ≤ s.size ∧ ∀ d ∈ (allF s).1, d.size ≤ 100000 := by
  obtain ⟨K, h1, h2, h3, h4⟩ := allF_ends s
  obtain ⟨g1, g2, g3⟩ := stF_grows K h1
  rw [h3]
  refine ⟨catF_st K h1, g3, by omega, ?_⟩
  have : ∀ k, AllSome s k → ∀ d ∈ (stF s k).1, d.size ≤ 100000 := by
    intro k
    induction k with
    | zero => intro _ d hd; cases hd
    | succ k ih =>
      intro h d hd
      obtain ⟨n, hn⟩ := h.step
      rw [stF_some hn] at hd
      rcases List.mem_append.1 hd with hd | hd
      · exact ih (h.less (by omega)) d hd
      · rw [List.mem_singleton.1 hd, ByteArray.size_extract]
        have := (nxtF_some hn).1
        omega
  exact this K h1
end Go.Proofs.Yteikflfchkmbnaa
