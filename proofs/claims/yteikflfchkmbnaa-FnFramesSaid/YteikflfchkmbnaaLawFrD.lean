/-
  The drawn law of frames.
-/
import Derived.Test.YteikflfchkmbnaaHurt
import Derived.Test.YteikflfchkmbnaaTakeS
import Derived.Test.YteikflfchkmbnaaLawInts
namespace Go.Proofs.Yteikflfchkmbnaa
open Go.RowKit Wire

theorem cat_take {s : ByteArray} {k : Nat} (hk : k ≤ (allF s).1.length) : (catF ((allF s).1.take k)).size ≤ s.size := by
  obtain ⟨K, h1, _, h3, _⟩ := allF_ends s
  obtain ⟨g1, _, g3⟩ := stF_grows K h1
  rw [h3] at hk ⊢
  rw [← stF_take K k h1 (by omega), catF_st k (h1.less (by omega)), ByteArray.size_extract]
  have := (stF_grows k (h1.less (by omega))).2.2
  omega
theorem cat_step {l : List ByteArray} {k : Nat} (hk : k < l.length) : catF (l.take (k + 1)) = catF (l.take k) ++ frameB (l.getD k ⟨#[]⟩) := by
  rw [List.take_succ_eq_append_getElem hk, catF_snoc]
  simp [List.getD_eq_getElem?_getD, hk]
/-- what is known of what was taken -/
structure Taken' (s : ByteArray) (l : List ByteArray) (n0 : Nat) : Prop where
  all : allF s = (l, n0)
  cat : catF l = s.extract 0 n0
  le : n0 ≤ s.size
  len : l.length ≤ s.size
  small : ∀ d ∈ l, d.size ≤ 100000
  more : ∀ t : ByteArray, t.size ≤ 100000 → allF (s.extract 0 n0 ++ frameB t) = (l ++ [t], n0 + 8 + t.size)
  less : ∀ k, k ≤ n0 → ∃ J, J ≤ l.length ∧ (allF (s.extract 0 k)).1 = l.take J
  pre : ∀ k, k ≤ l.length → (catF (l.take k)).size ≤ s.size
theorem taken' (s : ByteArray) : ∃ l n0, Taken' s l n0 := by
  obtain ⟨h1, h2, h3, h4⟩ := all_frames s
  refine ⟨(allF s).1, (allF s).2, rfl, h1, h2, h3, h4, fun t ht => ?_, fun k hk => less_frame s k hk, fun k hk => cat_take hk⟩
  rw [← h1]
  exact more_frame s t ht
theorem SRow.front {w : World} {B : Nat} {A : Option Addr} {n J : Nat} {l : List ByteArray} (h : SRow w B A n l) (hJ : J ≤ n) : SRow w B A J (l.take J) := fun h0 => by
  obtain ⟨b, h1, h2, h3⟩ := h (by omega)
  refine ⟨b, h1, h2, fun j hj => ?_⟩
  rw [h3 j (by omega), List.getD_eq_getElem?_getD, List.getD_eq_getElem?_getD, List.getElem?_take_of_lt hj]
set_option linter.unusedSimpArgs false in
set_option maxHeartbeats 3200000 in
set_option maxRecDepth 100000 in
theorem law_FramesD (A : Option Addr) (len cap : Nat) (ys : List Int) (w : World) (hrow : IsRow .u8 w A len cap ys) :
    Calls Try.prog 9 #[.slice A len cap] w fun e w' => e = .returned (.bool true) ∧ Below w.heap.size w w' := by
  have hs := src_of_row hrow
  have hl := row_len hrow
  clear hrow
  by_cases hbig : 1048576 < len
  · go_enter Try.func9, Try.ntmps9
    go_wp2_with (go_at_call 11; go_in)
    go_ret
    exact ⟨rfl, Below.refl _ _⟩
  have hsrc : ∀ w', Below w.heap.size w w' → Src w' w'.heap.size A len := fun w' hb i hi => by
    obtain ⟨b, o, n, h1, h2, h3, h4, h5⟩ := hs i hi
    exact ⟨b, o, n, h1, Nat.lt_of_lt_of_le h2 hb.size, h3, h4, (hb.cell (p := ⟨b, o + i, none⟩) h2).trans h5⟩
  have HSRC := Lib.hid hsrc
  clear hsrc
  go_enter Try.func9, Try.ntmps9
  go_wp2_with (go_at_call 11; go_in)
  refine (DrawTakeFrames_any A len cap _ hs hl).mono ?_
  rintro e w1 ⟨s, hsz, rfl, hB⟩
  clear hs
  obtain ⟨l, n0, hT⟩ := taken' s
  have HT := Lib.hid hT
  have hn0 := hT.le
  obtain ⟨N, hN, hNs⟩ : ∃ N, l.length = N ∧ N ≤ 2000 := ⟨_, rfl, Nat.le_trans hT.len hsz⟩
  have HN := Lib.hid hN
  clear hN hT
  go_wp2_with fail
  have hI := impl_TakeFrames s w1 (by omega)
  rw [HT.out.all] at hI
  dsimp only at hI
  rw [HN.out] at hI
  refine hI.mono ?_
  clear hI
  rintro e w2 ⟨v1, rfl, ho1, hb2⟩
  obtain ⟨A1, d1, rfl, hd1, hd2⟩ := own_slice ho1
  have hL1 : SRow w2 w2.heap.size A1 N l := SRow.of_own ho1
  replace hB := below_later hB hb2
  clear hb2 ho1
  go_wp2_with fail
  have hI := spec_TakeFrames s w2 (by omega)
  rw [HT.out.all] at hI
  dsimp only at hI
  rw [HN.out] at hI
  refine hI.mono ?_
  clear hI
  rintro e w3 ⟨v0, rfl, ho0, hb3⟩
  obtain ⟨A0, d0, rfl, _, _⟩ := own_slice ho0
  have hL0 : SRow w3 w3.heap.size A0 N l := SRow.of_own ho0
  replace hL1 := (hL1.below (Nat.le_refl _) hb3).more hb3.size
  replace hB := below_later hB hb3
  clear hb3 ho0
  go_wp2_with fail
  refine (sameTexts_same A1 A0 N d1 d0 l w3 hL1 hL0 (by omega)).mono ?_
  rintro e w4 ⟨rfl, hb4⟩
  replace hL1 := (hL1.below (Nat.le_refl _) hb4).more hb4.size
  replace hB := below_later hB hb4
  clear hb4 hL0
  have t1 : decide ((s.size : Int) < (n0 : Int)) = false := decide_eq_false (by omega)
  go_wp2_with fail
  clear t1
  rw [show decide (s.size < n0) = false from decide_eq_false (by omega)]
  go_loopw [8, 9] (fun v i wr => ∃ k : Nat, k ≤ N ∧ i = .int .i64 (k : Int) ∧ v = .string (catF (l.take k)) ∧ SRow wr wr.heap.size A1 N l ∧ Below w.heap.size w wr) (fun _ i _ => N - (intOf i).toNat)
  case atStart => exact ⟨0, Nat.zero_le _, rfl, rfl, hL1, hB⟩
  case round =>
    clear hL1 hB
    obtain ⟨k, hk, rfl, rfl, hL1, hB⟩ := hrel
    by_cases hlt : k < N
    · obtain ⟨b, hb, rfl, hc⟩ := hL1 (by omega)
      have c0 := hc k hlt
      have HC := Lib.hid (cat_step (l := l) (k := k) (by rw [HN.out]; exact hlt))
      have hz := HT.out.pre k (by rw [HN.out]; exact hk)
      have hd : (l.getD k ⟨#[]⟩).size ≤ 100000 := by
        refine HT.out.small _ ?_
        rw [List.getD_eq_getElem?_getD, List.getElem?_eq_getElem (by rw [HN.out]; exact hlt)]
        exact List.getElem_mem _
      have HL := Lib.hid hL1
      clear hc hL1
      generalize catF (l.take k) = all at *
      generalize l.getD k ⟨#[]⟩ = d at *
      go_wp2_with fail
      refine (impl_FrameOf d _ (by unfold maxLen; omega)).mono ?_
      rintro e w5 ⟨rfl, hb5⟩
      have hf := frameB_size hd
      generalize frameB d = f at *
      have hL2 := (HL.out.below (Nat.le_refl _) hb5).more hb5.size
      have hB2 := below_later hB hb5
      clear hb5 hB c0
      go_wp2_with fail
      go_roundw
      case rel => exact ⟨k + 1, by omega, by go_num, by rw [HC.out], hL2, hB2⟩
      case measure => simp [intOf]; omega
    · obtain rfl : k = N := by omega
      have e0 : catF (l.take k) = s.extract 0 n0 := by rw [List.take_of_length_le (by rw [HN.out]; exact Nat.le_refl _)]; exact HT.out.cat
      rw [e0]
      have hez : (s.extract 0 n0).size = n0 := by rw [ByteArray.size_extract]; omega
      obtain ⟨all, hall⟩ : ∃ all, s.extract 0 n0 = all := ⟨_, rfl⟩
      have HALL := Lib.hid hall
      rw [hall] at hez ⊢
      clear e0 hall
      go_wp2_with fail
      refine (DrawFrameOf_any A len cap _ (HSRC.out _ hB) hl).mono ?_
      rintro e w5 ⟨t, htz, rfl, hb5⟩
      replace hL1 := (hL1.below (Nat.le_refl _) hb5).more hb5.size
      replace hB := below_later hB hb5
      clear hb5
      have hf := frameB_size (d := t) (by omega)
      have HM : Hid (allF (all ++ frameB t) = (l ++ [t], n0 + 8 + t.size)) := Lib.hid (by rw [← HALL.out]; exact HT.out.more t (by omega))
      go_wp2_with fail
      refine (impl_FrameOf t _ (by unfold maxLen; omega)).mono ?_
      rintro e w6 ⟨rfl, hb6⟩
      replace hL1 := (hL1.below (Nat.le_refl _) hb6).more hb6.size
      replace hB := below_later hB hb6
      clear hb6
      obtain ⟨f, hfe⟩ : ∃ f, frameB t = f := ⟨_, rfl⟩
      have HFE := Lib.hid hfe
      rw [hfe] at hf HM ⊢
      clear hfe
      go_wp2_with fail
      have hI := impl_TakeFrames (all ++ f) w6 (by rw [ByteArray.size_append]; omega)
      rw [HM.out] at hI
      dsimp only at hI
      rw [show (l ++ [t]).length = k + 1 by rw [List.length_append, HN.out]; rfl] at hI
      refine hI.mono ?_
      clear hI
      rintro e w7 ⟨v2, rfl, ho2, hb7⟩
      obtain ⟨A2, d2, rfl, _, _⟩ := own_slice ho2
      have hL2 : SRow w7 w7.heap.size A2 (k + 1) (l ++ [t]) := SRow.of_own ho2
      replace hL1 := (hL1.below (Nat.le_refl _) hb7).more hb7.size
      replace hB := below_later hB hb7
      clear hb7 ho2
      obtain ⟨K, hK⟩ : ∃ K, len % (n0 + 1) = K := ⟨_, rfl⟩
      have hKn : K ≤ n0 := by have := Nat.mod_lt len (show 0 < n0 + 1 by omega); omega
      have hKi : (len : Int) % ((n0 : Int) + 1) = (K : Int) := by rw [← hK]; exact (Int.natCast_emod len (n0 + 1)).symm
      have z0 : ((n0 : Int) + 1 == 0) = false := beq_eq_false_iff_ne.2 (by omega)
      clear hK
      go_wp2_with fail
      have hKa : K ≤ all.size := by rw [hez]; exact hKn
      have HLS := Lib.hid (HT.out.less K hKn)
      have hxe : (s.extract 0 n0).extract 0 K = s.extract 0 K := by rw [ByteArray.extract_extract]; congr 1; omega
      rw [HALL.out] at hxe
      obtain ⟨J, hJ, hfew⟩ := HLS.out
      rw [HN.out] at hJ
      rw [← hxe] at hfew
      have hI := impl_TakeFrames (all.extract 0 K) w7 (by rw [ByteArray.size_extract]; omega)
      rw [hfew] at hI
      obtain ⟨q, hq⟩ : ∃ q, (allF (all.extract 0 K)).2 = q := ⟨_, rfl⟩
      rw [hq, show (l.take J).length = J by rw [List.length_take, HN.out]; omega] at hI
      refine hI.mono ?_
      clear hI hq hfew hxe HLS
      rintro e w8 ⟨v3, rfl, ho3, hb8⟩
      obtain ⟨A3, d3, rfl, hd3, _⟩ := own_slice ho3
      have hL3 : SRow w8 w8.heap.size A3 J (l.take J) := SRow.of_own ho3
      replace hL1 := (hL1.below (Nat.le_refl _) hb8).more hb8.size
      replace hL2 := (hL2.below (Nat.le_refl _) hb8).more hb8.size
      replace hB := below_later hB hb8
      clear hb8 ho3
      have hL4 := Lib.hid (hL1.front hJ)
      have hL3 := Lib.hid hL3
      obtain ⟨b2, hb2, rfl, hc2⟩ := hL2 (by omega)
      have c2 := hc2 k (by omega)
      rw [show (l ++ [t]).getD k ⟨#[]⟩ = t by rw [List.getD_eq_getElem?_getD, List.getElem?_append_right (by rw [HN.out]; exact Nat.le_refl _), HN.out, Nat.sub_self]; rfl] at c2
      clear hc2 hL1
      have t3 : all.toList = (s.extract 0 n0).toList := by rw [HALL.out]
      go_wp2_with fail
      all_goals try exact absurd t3 ‹_›
      refine (impl_FrameOf t _ (by unfold maxLen; omega)).mono ?_
      rintro e w9 ⟨rfl, hb9⟩
      rw [HFE.out]
      replace hL3 := (hL3.out.below (Nat.le_refl _) hb9).more hb9.size
      replace hL4 := (hL4.out.below (Nat.le_refl _) hb9).more hb9.size
      replace hB := below_later hB hb9
      clear hb9 t3
      go_wp2_with fail
      refine (sameTexts_same A3 A1 J d3 d1 (l.take J) w9 hL3 hL4 (by omega)).mono ?_
      rintro e w10 ⟨rfl, hb10⟩
      replace hB := below_later hB hb10
      go_wp2_with fail
      go_ret
      exact ⟨rfl, hB⟩
end Go.Proofs.Yteikflfchkmbnaa
