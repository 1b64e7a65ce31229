/-
  Frames taken off a text: the program's.
-/
import Derived.Test.YteikflfchkmbnaaTakeF
namespace Go.Proofs.Yteikflfchkmbnaa
open Go.RowKit Wire

theorem fourN_val {t : ByteArray} (h : 4 ≤ t.size) : ∀ i, i ≤ 4 → fourN t 0 i = val ((t.extract 0 4).data.toList.take i)
  | 0, _ => by simp [fourN, val]
  | i + 1, hi => by
    have hs : (t.extract 0 4).size = 4 := by rw [ByteArray.size_extract]; omega
    rw [fourN, fourN_val h i (by omega), val_take _ i (by omega)]
    congr 1
    rw [Nat.zero_add, List.getD_eq_getElem?_getD, List.getElem?_eq_getElem (by simp; omega)]
    simp [ByteArray.getElem_extract]
    rfl
theorem fourN_get {t : ByteArray} (h : 4 ≤ t.size) : getI (t.extract 0 4) = (fourN t 0 4 : Nat) := by
  have hs : (t.extract 0 4).size = 4 := by rw [ByteArray.size_extract]; omega
  rw [getI_yes (by omega) (by omega), fourN_val h 4 (Nat.le_refl _), List.take_of_length_le (by simp; omega)]
theorem ba_inj {A C X Y : ByteArray} (hA : A = C) {D : ByteArray} : (A ++ X ++ D = C ++ Y ++ D) ↔ X = Y := by
  subst hA
  constructor
  · intro k
    have k2 := congrArg (fun b : ByteArray => b.data.toList) k
    simp at k2
    apply ByteArray.ext
    exact k2
  · rintro rfl; rfl
theorem frame_eq {t : ByteArray} {q : Nat} (hq : q = fourN t 0 4) (h1 : q ≤ 100000) (h2 : 8 + q ≤ t.size) :
    (t.extract 0 (8 + q) = frameB (t.extract 8 (8 + q))) ↔ ((⟨(le4 (crcN (t.extract 8 (8 + q)))).toArray⟩ : ByteArray) = t.extract 4 8) := by
  have hd : (t.extract 8 (8 + q)).size = q := by rw [ByteArray.size_extract]; omega
  have hs : (t.extract 0 4).size = 4 := by rw [ByteArray.size_extract]; omega
  have e1 : t.extract 0 (8 + q) = t.extract 0 4 ++ t.extract 4 8 ++ t.extract 8 (8 + q) := by
    apply ByteArray.ext
    simp
  have e2 : t.extract 0 4 = ⟨(be 4 q).toArray⟩ := by
    have hb := be_val (t.extract 0 4).data.toList
    have hl : (t.extract 0 4).data.toList.length = 4 := by simpa using hs
    have hv := fourN_val (t := t) (by omega) 4 (Nat.le_refl _)
    rw [List.take_of_length_le (by omega)] at hv
    rw [hl, ← hv, ← hq] at hb
    rw [hb]
  unfold frameB
  rw [if_pos (by omega), hd, e1, ba_inj e2]
  exact eq_comm
theorem nxtF_off {s : ByteArray} {a : Nat} (h : a ≤ s.size) : nxtF (s.extract a s.size) 0 = nxtF s a := by
  have hz : (s.extract a s.size).size = s.size - a := by rw [ByteArray.size_extract]; omega
  have hf : ∀ i, i ≤ 4 → a + 8 ≤ s.size → fourN (s.extract a s.size) 0 i = fourN s a i := by
    intro i
    induction i with
    | zero => intro _ _; rfl
    | succ i ih =>
      intro hi ha
      rw [fourN, fourN, ih (by omega) ha]
      congr 2
      rw [Nat.zero_add, List.getD_eq_getElem?_getD, List.getD_eq_getElem?_getD, List.getElem?_eq_getElem (by simp; omega), List.getElem?_eq_getElem (by simp; omega)]
      simp
  unfold nxtF
  by_cases h8 : a + 8 ≤ s.size
  · rw [hf 4 (Nat.le_refl _) h8, hz]
    generalize fourN s a 4 = q
    by_cases hq : a + 8 + q ≤ s.size
    · have x1 : (s.extract a s.size).extract (0 + 8) (0 + 8 + q) = s.extract (a + 8) (a + 8 + q) := by
        rw [ByteArray.extract_extract]; congr 1 <;> omega
      have x2 : (s.extract a s.size).extract (0 + 4) (0 + 8) = s.extract (a + 4) (a + 8) := by
        rw [ByteArray.extract_extract]; congr 1 <;> omega
      rw [x1, x2]
      congr 1
      simp only [eq_iff_iff]
      constructor
      · rintro ⟨_, b, _, d⟩; exact ⟨by omega, b, by omega, d⟩
      · rintro ⟨_, b, _, d⟩; exact ⟨by omega, b, by omega, d⟩
    · rw [if_neg (by omega), if_neg (by omega)]
  · rw [if_neg (by omega), if_neg (by omega)]
theorem nxtF_iff {t : ByteArray} {q : Nat} (hq : q = fourN t 0 4) (h1 : q ≤ 100000) (h2 : 8 + q ≤ t.size) : ((t.extract 0 (8 + q)).toList == (frameB (t.extract 8 (8 + q))).toList) = (nxtF t 0).isSome := by
  have hf := frame_eq hq h1 h2
  have e : ((t.extract 0 (8 + q)).toList == (frameB (t.extract 8 (8 + q))).toList) = decide (t.extract 0 (8 + q) = frameB (t.extract 8 (8 + q))) := by
    rw [ByteArray.toList_eq, ByteArray.toList_eq]
    by_cases k : t.extract 0 (8 + q) = frameB (t.extract 8 (8 + q))
    · rw [k]; simp
    · simp only [k, decide_false, beq_eq_false_iff_ne]
      intro k2
      exact k (ByteArray.ext (Array.toList_inj.1 k2))
  rw [e]
  by_cases k : (⟨(le4 (crcN (t.extract 8 (8 + q)))).toArray⟩ : ByteArray) = t.extract 4 8
  · rw [decide_eq_true (hf.2 k), nxtF_yes (by omega) (by omega) (by omega) (by rw [← hq]; simpa using k)]; rfl
  · rw [decide_eq_false (fun x => k (hf.1 x)), nxtF_sum (by rw [← hq]; simpa using k)]; rfl
theorem nxtF_len {t : ByteArray} {n : Nat} (h : nxtF t 0 = some n) : n = fourN t 0 4 := by
  unfold nxtF at h
  split at h
  · injection h with h; exact h.symm
  · cases h
set_option linter.unusedSimpArgs false in
set_option maxHeartbeats 3200000 in
set_option maxRecDepth 100000 in
theorem impl_firstFrame (t : ByteArray) (w : World) (hs : t.size ≤ 1048576) :
    Calls Try.prog 72 #[.string t] w fun e w' => ∃ d, e = .returned (.tuple #[.string d, .bool (nxtF t 0).isSome]) ∧ (∀ n, nxtF t 0 = some n → d = t.extract 8 (8 + n)) ∧ Below w.heap.size w w' := by
  by_cases h8 : t.size < 8
  · have hn := Lib.hid (nxtF_end (s := t) (a := 0) (by omega))
    go_enter Try.func72, Try.ntmps72
    go_wp2_with fail
    refine bodyPost_ret (v := .tuple #[.string ⟨#[]⟩, .bool false]) (by simp [results, Try.results72, go_sem]) rfl ⟨⟨#[]⟩, by rw [hn.out]; rfl, fun n h => (by rw [hn.out] at h; cases h), Below.refl _ _⟩
  · have hg := fourN_get (t := t) (by omega)
    have hql := fourN_lt t 0 4
    obtain ⟨q, hq0⟩ : ∃ q, q = fourN t 0 4 := ⟨_, rfl⟩
    rw [← hq0] at hg hql
    have hq := Lib.hid hq0
    clear hq0
    simp at hql
    by_cases hbig : 100000 < q ∨ t.size < 8 + q
    · have hn : Hid (nxtF t 0 = none) := by
        rcases hbig with h | h
        · exact nxtF_big (by rw [← hq.out]; exact h)
        · exact nxtF_long (by rw [← hq.out]; omega)
      have hH := Lib.hid hbig
      clear hbig
      have hcmp : decide (min (t.size : Int) 100008 < 8 + (q : Int)) = true := decide_eq_true (by rcases hH.out with h | h <;> omega)
      go_enter Try.func72, Try.ntmps72
      go_wp2_with fail
      refine (impl_GetInt _ _ (by rw [ByteArray.size_extract]; unfold maxLen; omega)).mono ?_
      rintro e w' ⟨rfl, rfl⟩
      rw [hg]
      go_wp2_with fail
      refine bodyPost_ret (v := .tuple #[.string ⟨#[]⟩, .bool false]) (by simp [results, Try.results72, go_sem]) rfl ⟨⟨#[]⟩, by rw [hn.out]; rfl, fun n h => (by rw [hn.out] at h; cases h), Below.refl _ _⟩
    · have hx := nxtF_iff hq.out (by omega) (by omega)
      have hcmp : decide (min (t.size : Int) 100008 < 8 + (q : Int)) = false := decide_eq_false (by omega)
      have z1 : (0 ≤ (8 : Int) + (q : Int) ∧ (8 : Int) + (q : Int) ≤ (t.size : Int)) = True := by simp; omega
      have z2 : ((8 : Int) + (q : Int)).toNat = 8 + q := by omega
      go_enter Try.func72, Try.ntmps72
      go_wp2_with fail
      refine (impl_GetInt _ _ (by rw [ByteArray.size_extract]; unfold maxLen; omega)).mono ?_
      rintro e w' ⟨rfl, rfl⟩
      rw [hg]
      go_upto_region 7 with fail
      refine wp_region_held_drew (S := (fun w' => Below w.heap.size w w')) (by kernel_rfl) ?hSq5xs (fun hHeld => ?restq5xs)
      case hSq5xs => (first | exact (Below.refl _ _).drew | exact hHeld | exact hHeld.trans (hb'.mono hHeld.size))
      refine wpAnyH_take (i := 0) (oi := ?oiq5x1) (v := ?vq5x1) ?hiq5x1 (by kernel_rfl) (by kernel_rfl) (by kernel_rfl) ?hQq5x1 (Or.inl ⟨?hwq5x1, ?hyq5x1⟩) (by assumption) ?restq5x1
      case hiq5x1 => simp only [List.getElem?_toArray, List.getElem?_cons_succ, List.getElem?_cons_zero]; exact rfl
      case hQq5x1 => exact fun _ _ _ h => h
      case hwq5x1 => rfl
      case hyq5x1 => ((intro w hSw; (try dsimp only at hSw); go_simp) <;> with_reducible rfl)
      try simp only [Act.put, List.setIfInBounds_toArray, List.set_cons_zero, List.set_cons_succ]
      refine wpAnyH_take (i := 1) (oi := ?oiq5x2) (v := ?vq5x2) ?hiq5x2 (by kernel_rfl) (by kernel_rfl) (by kernel_rfl) ?hQq5x2 (Or.inl ⟨?hwq5x2, ?hyq5x2⟩) (by assumption) ?restq5x2
      case hiq5x2 => simp only [List.getElem?_toArray, List.getElem?_cons_succ, List.getElem?_cons_zero]; exact rfl
      case hQq5x2 => exact fun _ _ _ h => h
      case hwq5x2 => rfl
      case hyq5x2 => ((intro w hSw; (try dsimp only at hSw); go_simp) <;> with_reducible rfl)
      try simp only [Act.put, List.setIfInBounds_toArray, List.set_cons_zero, List.set_cons_succ]
      refine wpAnyH_take (i := 2) (oi := ?oiq5x3) (v := ?vq5x3) ?hiq5x3 (by kernel_rfl) (by kernel_rfl) (by kernel_rfl) ?hQq5x3 (Or.inl ⟨?hwq5x3, ?hyq5x3⟩) (by assumption) ?restq5x3
      case hiq5x3 => simp only [List.getElem?_toArray, List.getElem?_cons_succ, List.getElem?_cons_zero]; exact rfl
      case hQq5x3 => exact fun _ _ _ h => h
      case hwq5x3 => rfl
      case hyq5x3 => ((intro w hSw; (try dsimp only at hSw); go_simp) <;> with_reducible rfl)
      try simp only [Act.put, List.setIfInBounds_toArray, List.set_cons_zero, List.set_cons_succ]
      refine wpAnyH_take (i := 3) (oi := ?oiq5x4) (v := ?vq5x4) ?hiq5x4 (by kernel_rfl) (by kernel_rfl) (by kernel_rfl) ?hQq5x4 (Or.inl ⟨?hwq5x4, ?hyq5x4⟩) (by assumption) ?restq5x4
      case hiq5x4 => simp only [List.getElem?_toArray, List.getElem?_cons_succ, List.getElem?_cons_zero]; exact rfl
      case hQq5x4 => exact fun _ _ _ h => h
      case hwq5x4 => rfl
      case hyq5x4 => ((intro w hSw; (try dsimp only at hSw); go_simp) <;> with_reducible rfl)
      try simp only [Act.put, List.setIfInBounds_toArray, List.set_cons_zero, List.set_cons_succ]
      refine wpAnyH_take (i := 4) (oi := ?oiq5x5) (v := ?vq5x5) ?hiq5x5 (by kernel_rfl) (by kernel_rfl) (by kernel_rfl) ?hQq5x5 (Or.inl ⟨?hwq5x5, ?hyq5x5⟩) (by assumption) ?restq5x5
      case hiq5x5 => simp only [List.getElem?_toArray, List.getElem?_cons_succ, List.getElem?_cons_zero]; exact rfl
      case hQq5x5 => exact fun _ _ _ h => h
      case hwq5x5 => rfl
      case hyq5x5 => ((intro w hSw; (try dsimp only at hSw); go_simp) <;> with_reducible rfl)
      try simp only [Act.put, List.setIfInBounds_toArray, List.set_cons_zero, List.set_cons_succ]
      refine wpAnyH_ready (rs := [5]) (by kernel_rfl) (by simp) ?_
      refine AllReadyH.cons (o := ?oq5x6) ?hoq5x6 (fun K hK => ?stepq5x6) ?moreq5x6
      case hoq5x6 => simp only [List.getElem?_toArray, List.getElem?_cons_succ, List.getElem?_cons_zero]; exact rfl
      case moreq5x6 => exact AllReadyH.nil
      go_simp
      (go_at_call 39; refine (impl_FrameOf _ _ (by rw [ByteArray.size_extract]; unfold maxLen; omega)).mono ?_; rintro e w' ⟨rfl, hb'⟩)
      refine hK.out _ _ ?hSq5x6 (fun hHeld => ?restq5x6)
      case hSq5x6 => (first | exact (Below.refl _ _).drew | exact hHeld | exact hHeld.trans (hb'.mono hHeld.size))
      clear hK K
      try simp only [Act.put, List.setIfInBounds_toArray, List.set_cons_zero, List.set_cons_succ]
      refine wpAnyH_take (i := 6) (oi := ?oiq5x7) (v := ?vq5x7) ?hiq5x7 (by kernel_rfl) (by kernel_rfl) (by kernel_rfl) ?hQq5x7 (Or.inl ⟨?hwq5x7, ?hyq5x7⟩) (by assumption) ?restq5x7
      case hiq5x7 => simp only [List.getElem?_toArray, List.getElem?_cons_succ, List.getElem?_cons_zero]; exact rfl
      case hQq5x7 => exact fun _ _ _ h => h
      case hwq5x7 => rfl
      case hyq5x7 => ((intro w hSw; (try dsimp only at hSw); go_simp) <;> with_reducible rfl)
      try simp only [Act.put, List.setIfInBounds_toArray, List.set_cons_zero, List.set_cons_succ]
      refine wpAnyH_take (i := 7) (oi := ?oiq5x8) (v := ?vq5x8) ?hiq5x8 (by kernel_rfl) (by kernel_rfl) (by kernel_rfl) ?hQq5x8 (Or.inl ⟨?hwq5x8, ?hyq5x8⟩) (by assumption) ?restq5x8
      case hiq5x8 => simp only [List.getElem?_toArray, List.getElem?_cons_succ, List.getElem?_cons_zero]; exact rfl
      case hQq5x8 => exact fun _ _ _ h => h
      case hwq5x8 => rfl
      case hyq5x8 => ((intro w hSw; (try dsimp only at hSw); go_simp) <;> with_reducible rfl)
      try simp only [Act.put, List.setIfInBounds_toArray, List.set_cons_zero, List.set_cons_succ]
      refine wpAnyH_take (i := 8) (oi := ?oiq5x9) (v := ?vq5x9) ?hiq5x9 (by kernel_rfl) (by kernel_rfl) (by kernel_rfl) ?hQq5x9 (Or.inl ⟨?hwq5x9, ?hyq5x9⟩) (by assumption) ?restq5x9
      case hiq5x9 => simp only [List.getElem?_toArray, List.getElem?_cons_succ, List.getElem?_cons_zero]; exact rfl
      case hQq5x9 => exact fun _ _ _ h => h
      case hwq5x9 => rfl
      case hyq5x9 => ((intro w hSw; (try dsimp only at hSw); go_simp) <;> with_reducible rfl)
      try simp only [Act.put, List.setIfInBounds_toArray, List.set_cons_zero, List.set_cons_succ]
      refine wpAnyH_done (by kernel_rfl) ?_ _
      go_wp2_with fail
      refine bodyPost_ret (v := .tuple #[.string (t.extract 8 (8 + q)), .bool (nxtF t 0).isSome]) (by simp [results, Try.results72, go_sem]) rfl ⟨_, rfl, fun n h => (by rw [nxtF_len h, hq.out]), hHeld⟩
set_option linter.unusedSimpArgs false in
set_option maxHeartbeats 3200000 in
set_option maxRecDepth 100000 in
theorem impl_TakeFrames (s : ByteArray) (w : World) (hs : s.size ≤ 1048576) :
    Calls Try.prog 36 #[.string s] w fun e w' => ∃ v, e = .returned (.tuple #[v, .int .i64 ((allF s).2 : Nat)]) ∧ w'.ownsRow w.heap.size 9 1 v (allF s).1.length (strs (allF s).1) ∧ Below w.heap.size w w' := by
  obtain ⟨i0, hi, hz0, hz1, hz2⟩ := info_parts str_info
  go_enter Try.func36, Try.ntmps36
  go_wp2_with fail
  go_loopw [4, 5] (fun v i wr => ∃ k a m : Nat, k ≤ a ∧ a ≤ s.size ∧ Hid ((stF s k).2 = a) ∧ Hid ((stF s k).1.length = m) ∧ m ≤ k ∧ i = .int .i64 (a : Int) ∧ wr.ownsRow w.heap.size 9 1 v m (strs (stF s k).1) ∧ Below w.heap.size w wr) (fun _ i _ => 1048577 - (intOf i).toNat)
  case atStart => exact ⟨0, 0, 0, Nat.zero_le _, Nat.zero_le _, rfl, rfl, Nat.zero_le _, rfl, World.ownsRow_nil _ _ _ _, Below.refl _ _⟩
  case round =>
    obtain ⟨k, a, m, hka, ha, hst, hsm, hmk, rfl, hown, hb⟩ := hrel
    obtain ⟨A1, c1, rfl, _, _⟩ := own_slice hown
    have hz : (s.extract a s.size).size ≤ 1048576 := by rw [ByteArray.size_extract]; omega
    have hoff := nxtF_off ha
    go_wp2_with fail
    refine (impl_firstFrame (s.extract a s.size) _ hz).mono ?_
    rintro e w1 ⟨d, rfl, hd, hb1⟩
    have hown1 := own_below hown hb1
    have hbw1 := hb.trans (hb1.mono hb.size)
    have hov := hown1.lt
    have hbs := hbw1.size
    clear hown hb hb1
    rw [hoff] at hd ⊢
    clear hoff
    cases hx : nxtF s a with
    | none =>
      have HE := Lib.hid (allF_of (s := s) (k := k) (by omega) (by rw [hst.out]; exact hx))
      rw [show (none : Option Nat).isSome = false from rfl]
      clear hx hd
      go_wp2_with fail
      refine bodyPost_ret (v := .tuple #[.slice A1 m c1, .int .i64 (a : Int)]) (by simp [results, Try.results36, go_sem]) rfl ⟨.slice A1 m c1, ?_, ?_, ?_⟩
      · rw [HE.out, hst.out]
      · rw [HE.out, hsm.out]; exact hown1
      · exact hbw1
    | some q =>
      obtain ⟨hq1, hq2⟩ := nxtF_some hx
      have hd2 := hd q hx
      rw [ByteArray.extract_extract, show min (a + (8 + q)) s.size = a + 8 + q by omega] at hd2
      have hst2 := Lib.hid (stF_some (s := s) (k := k) (n := q) (by rw [hst.out]; exact hx))
      rw [hst.out] at hst2
      rw [show (some q).isSome = true from rfl]
      have hdz : d.size = q := by rw [hd2, ByteArray.size_extract]; omega
      rw [← hd2] at hst2
      clear hx hd hd2
      go_wp2_with (at_builtin; refine wpList_append_own_at _ rfl _ _ 54 rfl w.heap.size 9 i0 _ 1 16 Try.underlying54 hi hz0 hz1 hz2 rfl (by decide) _ _ _ rfl (hown1.alloc _) ⟨w1.heap.size, 0, none⟩ 1 1 [.string d] rfl rfl ?c1 ?c2 ?c3 ?c4 ?c5 ?_)
      case c1 => exact World.news_of_block (heap_alloc_new w1 _)
      case c2 => intro u hu; simp at hu; subst hu; rfl
      case c3 => unfold maxLen; omega
      case c4 => omega
      case c5 => simp; omega
      intro v' w2 hown2 hgrow2 _ _
      have hbw2 : Below w.heap.size w w2 := (hbw1.alloc hbs _).grown hgrow2 (by simp; omega) (fun q hq => (hov q hq).1)
      have hown3 : w2.ownsRow w.heap.size 9 1 v' (m + 1) (strs (stF s (k + 1)).1) := by rw [hst2.out, strs_append]; exact hown2
      obtain ⟨A2, c2, rfl, _, _⟩ := own_slice hown2
      clear hown2 hgrow2 hown1 hbw1 hov
      go_wp2_with fail
      go_roundw
      case rel => exact ⟨k + 1, a + 8 + q, m + 1, by omega, by omega, by rw [hst2.out]; rfl, by rw [hst2.out]; show List.length ((stF s k).1 ++ [_]) = _; rw [List.length_append, hsm.out]; rfl, by omega, by go_num, hown3, hbw2⟩
      case measure => simp [intOf]; omega
end Go.Proofs.Yteikflfchkmbnaa
