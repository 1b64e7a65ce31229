/-
  The text of fields, in both programs.
-/
import Derived.Test.YtidcpijiklpfkaaDoorSumI
import Derived.Test.YtidcpijiklpfkaaDoorFld
import Derived.Deep.RegionHeld3
namespace Go.Proofs.YtidcpijiklpfkaaDoor
open Go.RowKit Wire

/-- the texts of the first k fields -/
def txTo (fs : List (Int × ByteArray)) : Nat → List UInt8
  | 0 => []
  | k + 1 => txTo fs k ++ fldTx (fT fs k) (fV fs k)
theorem fldTo_at {fs : List (Int × ByteArray)} : ∀ n k, fldTo fs n = true → k < n → fldB (fT fs k) (fV fs k) = true
  | 0, k, _, hk => absurd hk (Nat.not_lt_zero k)
  | n + 1, k, h, hk => by
    simp only [fldTo, Bool.and_eq_true] at h
    rcases Nat.lt_or_ge k n with hlt | hge
    · exact fldTo_at n k h.1 hlt
    · obtain rfl : k = n := by omega
      exact h.2
theorem fldB_in {t : Int} {v : ByteArray} (h : fldB t v = true) : (1 ≤ t ∧ t ≤ 9999) ∧ v.size ≤ 20 := by
  unfold fldB valB inB at h
  simp only [Bool.and_eq_true, decide_eq_true_eq] at h
  exact ⟨h.1, h.2.2.1⟩
theorem fldTx_len {t : Int} {v : ByteArray} (h : fldB t v = true) : (fldTx t v).length ≤ 43 := by
  have h1 := fldB_in h
  have h2 := Lib.itoa_length_le t (by omega) (by omega)
  have h3 : v.data.toList.length = v.size := by rw [Array.length_toList]; rfl
  unfold fldTx
  simp only [List.length_append, List.length_cons, List.length_nil, h3]
  omega
theorem txTo_len {fs : List (Int × ByteArray)} {n : Nat} (h : fldTo fs n = true) : ∀ k, k ≤ n → (txTo fs k).length ≤ k * 43
  | 0, _ => by simp [txTo]
  | k + 1, hk => by
    have h1 := txTo_len h k (by omega)
    have h2 := fldTx_len (fldTo_at n k h (by omega))
    rw [txTo, List.length_append]
    omega
/-- the sum of a text's bytes -/
def sumL (l : List UInt8) : Nat := sumTo ⟨l.toArray⟩ l.length % 256
/-- the text of fields -/
def txL (fs : List (Int × ByteArray)) (n : Nat) : List UInt8 := txTo fs n ++ ([49, 48, 61] ++ (s3L (sumL (txTo fs n)) ++ [1]))
def txV (fs : List (Int × ByteArray)) (n : Nat) : ByteArray := if fldsB fs n = true then ⟨(txL fs n).toArray⟩ else ⟨#[]⟩
theorem ba_cat (a b : List UInt8) : (⟨a.toArray⟩ : ByteArray) ++ ⟨b.toArray⟩ = ⟨(a ++ b).toArray⟩ := by
  apply ByteArray.ext
  simp
theorem itoa_ten : Lib.itoa 10 = [49, 48] := by
  rw [itoa_dec (by omega), show (10 : Int).toNat = 10 from rfl, Lib.decDigits, dif_neg (by omega), show 10 / 10 = 1 from rfl, Lib.decDigits, dif_pos (by omega)]
  rfl
theorem s3L_len {d : Nat} (h : d < 256) : (s3L d).length = 3 := by
  have := dec_len3 h
  rw [s3L, List.length_append, Lib.repeatL_length]
  simp
  omega
set_option linter.unusedSimpArgs false in
set_option maxHeartbeats 1600000 in
set_option maxRecDepth 100000 in
theorem impl_FieldsText (A : Option Addr) (n c : Nat) (fs : List (Int × ByteArray)) (w : World) (hl : Flds w w.heap.size A n fs) (hs : ∀ k, k < n → (fV fs k).size ≤ maxLen) (hn : n ≤ 1048576) (htab : Lib.TabIs Tryd.prog w "internal/strconv.uint64pow10" .u64 Lib.pow10Tab) :
    Calls Tryd.prog 13 #[.slice A n c] w fun e w' => e = .returned (.string (txV fs n)) ∧ Below w.heap.size w w' := by
  go_enter Tryd.func13, Tryd.ntmps13
  go_wp2_with fail
  refine (impl_FieldsOk A n c fs w hl hs hn).mono ?_
  rcases Bool.eq_false_or_eq_true (fldsB fs n) with hf | hf
  rotate_left
  · have H : Hid (txV fs n = ⟨#[]⟩) := Lib.hid (by rw [txV, hf]; rfl)
    rw [hf]
    rintro e w1 ⟨rfl, hb1⟩
    go_wp2_with fail
    go_ret
    exact ⟨by rw [H.out]; rfl, hb1⟩
  have H : Hid (txV fs n = ⟨(txL fs n).toArray⟩) := Lib.hid (by rw [txV, if_pos hf])
  have hf2 : n ≤ 20 ∧ fldTo fs n = true := by
    unfold fldsB at hf
    simpa using hf
  obtain ⟨hn20, hft⟩ := hf2
  rw [hf]
  rintro e w1 ⟨rfl, hb1⟩
  clear hf
  have HT := Lib.hid hft
  clear hft
  go_wp2_with fail
  go_loopw [3, 11] (fun sv i wr => ∃ (k : Nat) (l : List UInt8), k ≤ n ∧ i = .int .i64 (k : Int) ∧ sv = .string ⟨l.toArray⟩ ∧ Hid (l = txTo fs k) ∧ l.length ≤ k * 43 ∧ Below w.heap.size w wr) (fun _ i _ => n - (intOf i).toNat)
  case atStart => exact ⟨0, [], Nat.zero_le _, rfl, rfl, rfl, by simp, hb1⟩
  case round =>
    clear hb1
    obtain ⟨k, l, hk, rfl, rfl, hlk, hln, hbel⟩ := hrel
    by_cases hlt : k < n
    · obtain ⟨b, o, rfl, hb, c0, c1⟩ := (hl.below hbel) k hlt
      have hfb := fldTo_at n k HT.out hlt
      have hin := fldB_in hfb
      have htx := fldTx_len hfb
      have htx2 : (⟨(fldTx (fT fs k) (fV fs k)).toArray⟩ : ByteArray).size ≤ 43 := by simpa [ByteArray.size] using htx
      have HC := Lib.hid (ba_cat l (fldTx (fT fs k) (fV fs k)))
      have HL : Hid (l ++ fldTx (fT fs k) (fV fs k) = txTo fs (k + 1)) := Lib.hid (by rw [txTo, hlk.out])
      have hba := hbel.alloc hbel.size (.cells #[.int .i64 (fT fs k), .string (fV fs k)] 50)
      have htr := tab_below htab hba
      have hl1000 : l.length ≤ 860 := by omega
      clear hl hs hlk hfb
      go_wp2_with fail
      refine (impl_fieldText _ _ _ (by omega) (by omega) (by omega) htr).mono ?_
      rintro e w2 ⟨rfl, hb2⟩
      have hbel2 := ((Below.refl _ _).alloc (Nat.le_refl _) (.cells #[.int .i64 (fT fs k), .string (fV fs k)] 50) : Below wr.heap.size wr _).trans (hb2.mono (by simp))
      have hbel2 := below_later hbel hbel2
      generalize fldTx (fT fs k) (fV fs k) = f at *
      go_wp2_with fail
      go_roundw
      case rel => exact ⟨k + 1, l ++ f, by omega, by go_num, congrArg Value.string HC.out, HL.out, by simp; omega, hbel2⟩
      case measure => simp [intOf]; omega
    · obtain rfl : k = n := by omega
      have hl1000 : l.length ≤ 860 := by omega
      have hsz : (⟨l.toArray⟩ : ByteArray).size ≤ 1000000 := by simp [ByteArray.size]; omega
      have hd : sumL l < 256 := Nat.mod_lt _ (by omega)
      have HS : Hid (sumTo (⟨l.toArray⟩ : ByteArray) (⟨l.toArray⟩ : ByteArray).size % 256 = sumL l) := Lib.hid (by simp [sumL, ByteArray.size])
      have hs3 : (⟨(s3L (sumL l)).toArray⟩ : ByteArray).size ≤ 1000000 := by have := s3L_len hd; simp [ByteArray.size]; omega
      have HX : Hid ((⟨l.toArray⟩ : ByteArray) ++ ⟨(fldTx 10 ⟨(s3L (sumL l)).toArray⟩).toArray⟩ = ⟨(txL fs k).toArray⟩) := Lib.hid (by
        rw [ba_cat, txL, ← hlk.out, fldTx, itoa_ten]
        simp)
      have htx2 : (fldTx 10 ⟨(s3L (sumL l)).toArray⟩).length ≤ 100 := by
        have := s3L_len hd
        rw [fldTx, itoa_ten]
        simp
        omega
      have ht1 := tab_below htab hbel
      clear hlk
      go_wp2_with fail
      refine (impl_sumOf _ _ hsz ht1).mono ?_
      rw [HS.out]
      rintro e w2 ⟨rfl, hb2⟩
      have ht2 := tab_below ht1 hb2
      go_wp2_with fail
      refine (impl_fieldText 10 _ _ (by omega) (by omega) hs3 ht2).mono ?_
      rintro e w3 ⟨rfl, hb3⟩
      generalize fldTx 10 ⟨(s3L (sumL l)).toArray⟩ = f at *
      have hfin := below_later hbel (below_later hb2 hb3)
      go_wp2_with fail
      go_ret
      exact ⟨by rw [H.out, ← HX.out]; rfl, hfin⟩
set_option linter.unusedSimpArgs false in
set_option maxHeartbeats 1600000 in
set_option maxRecDepth 100000 in
theorem spec_l13Text (A : Option Addr) (n c : Nat) (fs : List (Int × ByteArray)) (w : World) (hl : Flds w w.heap.size A n fs) (hn20 : n ≤ 20) (hft : fldTo fs n = true) :
    Calls Tryd.prog 36 #[.slice A n c] w fun e w' => e = .returned (.string ⟨(txL fs n).toArray⟩) ∧ Below w.heap.size w w' := by
  have HT := Lib.hid hft
  clear hft
  go_enter Tryd.func36, Tryd.ntmps36
  go_wp2_with fail
  go_loopw [3, 4] (fun sv i wr => ∃ (k : Nat) (l : List UInt8), k ≤ n ∧ i = .int .i64 (k : Int) ∧ sv = .string ⟨l.toArray⟩ ∧ Hid (l = txTo fs k) ∧ l.length ≤ k * 43 ∧ Below w.heap.size w wr) (fun _ i _ => n - (intOf i).toNat)
  case atStart => exact ⟨0, [], Nat.zero_le _, rfl, rfl, rfl, by simp, Below.refl _ _⟩
  case round =>
    obtain ⟨k, l, hk, rfl, rfl, hlk, hln, hbel⟩ := hrel
    by_cases hlt : k < n
    · obtain ⟨b, o, rfl, hb, c0, c1⟩ := (hl.below hbel) k hlt
      have hfb := fldTo_at n k HT.out hlt
      have hin := fldB_in hfb
      have htx := fldTx_len hfb
      obtain ⟨T, hT⟩ := Int.eq_ofNat_of_zero_le (show 0 ≤ fT fs k by omega)
      obtain ⟨V, hV⟩ : ∃ V, fV fs k = V := ⟨_, rfl⟩
      have HD : ∀ d, Hid (Lib.decDigits T = d) → d.length ≤ 21 := fun d hd => by
        rw [← hd.out, show Lib.decDigits T = Lib.itoa (T : Int) by rw [itoa_dec (by omega), Int.toNat_natCast]]
        exact Lib.itoa_length_le _ (by omega) (by omega)
      obtain ⟨d, hd⟩ : ∃ d, Lib.decDigits T = d := ⟨_, rfl⟩
      have hdl := HD d (Lib.hid hd)
      clear HD
      have HD := Lib.hid hd
      have HL : Hid (l ++ (d ++ 61 :: (V.data.toList ++ [1])) = txTo fs (k + 1)) := Lib.hid (by rw [txTo, hlk.out, fldTx, hV, hT, itoa_dec (by omega), Int.toNat_natCast, hd])
      have HC : Hid ((((((⟨l.toArray⟩ : ByteArray) ++ ⟨d.toArray⟩) ++ ⟨#[61]⟩) ++ V) ++ ⟨#[1]⟩) = ⟨(l ++ (d ++ 61 :: (V.data.toList ++ [1]))).toArray⟩) := Lib.hid (by
        apply ByteArray.ext
        simp)
      have hlen2 : (l ++ (d ++ 61 :: (V.data.toList ++ [1]))).length ≤ (k + 1) * 43 := by
        rw [fldTx, hV, hT, itoa_dec (by omega), Int.toNat_natCast, hd] at htx
        rw [List.length_append]
        omega
      rw [hT] at c0
      rw [hV] at c1
      have hVs : V.size ≤ 20 := by rw [← hV]; exact hin.2
      have hl1000 : l.length ≤ 860 := by omega
      have hT2 : T ≤ 9999 := by omega
      have yk : (0 ≤ (k : Int) ∧ (k : Int) < (n : Int)) = True := by simp; omega
      have n1 : ¬ 9223372036854775807 < l.length + d.length := by omega
      have n2 : ¬ 9223372036854775807 < l.length + d.length + 1 := by omega
      have n3 : ¬ 9223372036854775807 < l.length + d.length + 1 + V.size := by omega
      have n4 : ¬ 9223372036854775807 < l.length + d.length + 1 + V.size + 1 := by omega
      clear hl hlk hfb htx hin hT hV hd
      go_wp2_with fail
      go_upto_region 5 with fail
      refine wp_region_held_drew (S := (fun w' => Below wr.heap.size wr w' ∧ w'.cell? ⟨b, o + k * 2, none⟩ = some (.int .i64 (T : Int)) ∧ w'.cell? ⟨b, o + k * 2 + 1, none⟩ = some (.string V))) (by kernel_rfl) ?hSq1xs (fun hHeld => ?restq1xs)
      case hSq1xs => ((first | assumption | ((((try dsimp only); repeat' apply And.intro) <;> (first | assumption | (refine below_later ?_ (by assumption); first | assumption | (simp only [*]; done) | (go_grown; done)) | (refine cell_later (by assumption) ?_; first | assumption | (simp only [*]; done) | (simp [go_sem]; done)) | (go_grown; done) | (simp [go_sem]; done))))))
      refine wpAnyH_take (i := 0) (oi := ?oiq1x1) (v := ?vq1x1) ?hiq1x1 (by kernel_rfl) (by kernel_rfl) (by kernel_rfl) ?hQq1x1 (Or.inl ⟨?hwq1x1, ?hyq1x1⟩) (by assumption) ?restq1x1
      case hiq1x1 => simp only [List.getElem?_toArray, List.getElem?_cons_succ, List.getElem?_cons_zero]; exact rfl
      case hQq1x1 => exact fun _ _ _ h => h
      case hwq1x1 => rfl
      case hyq1x1 => ((intro w hSw; (try dsimp only at hSw); go_simp) <;> with_reducible rfl)
      try simp only [Act.put, List.setIfInBounds_toArray, List.set_cons_zero, List.set_cons_succ]
      refine wpAnyH_take (i := 1) (oi := ?oiq1x2) (v := ?vq1x2) ?hiq1x2 (by kernel_rfl) (by kernel_rfl) (by kernel_rfl) ?hQq1x2 (Or.inl ⟨?hwq1x2, ?hyq1x2⟩) (by assumption) ?restq1x2
      case hiq1x2 => simp only [List.getElem?_toArray, List.getElem?_cons_succ, List.getElem?_cons_zero]; exact rfl
      case hQq1x2 => exact fun _ _ _ h => h
      case hwq1x2 => rfl
      case hyq1x2 => ((intro w hSw; (try dsimp only at hSw); go_simp) <;> with_reducible rfl)
      try simp only [Act.put, List.setIfInBounds_toArray, List.set_cons_zero, List.set_cons_succ]
      refine wpAnyH_take (i := 2) (oi := ?oiq1x3) (v := ?vq1x3) ?hiq1x3 (by kernel_rfl) (by kernel_rfl) (by kernel_rfl) ?hQq1x3 (Or.inl ⟨?hwq1x3, ?hyq1x3⟩) (by assumption) ?restq1x3
      case hiq1x3 => simp only [List.getElem?_toArray, List.getElem?_cons_succ, List.getElem?_cons_zero]; exact rfl
      case hQq1x3 => exact fun _ _ _ h => h
      case hwq1x3 => rfl
      case hyq1x3 => ((intro w hSw; (try dsimp only at hSw); go_simp) <;> with_reducible rfl)
      try simp only [Act.put, List.setIfInBounds_toArray, List.set_cons_zero, List.set_cons_succ]
      refine wpAnyH_take (i := 3) (oi := ?oiq1x4) (v := ?vq1x4) ?hiq1x4 (by kernel_rfl) (by kernel_rfl) (by kernel_rfl) ?hQq1x4 (Or.inl ⟨?hwq1x4, ?hyq1x4⟩) (by assumption) ?restq1x4
      case hiq1x4 => simp only [List.getElem?_toArray, List.getElem?_cons_succ, List.getElem?_cons_zero]; exact rfl
      case hQq1x4 => exact fun _ _ _ h => h
      case hwq1x4 => rfl
      case hyq1x4 => ((intro w hSw; (try dsimp only at hSw); go_simp) <;> with_reducible rfl)
      try simp only [Act.put, List.setIfInBounds_toArray, List.set_cons_zero, List.set_cons_succ]
      refine wpAnyH_take (i := 4) (oi := ?oiq1x5) (v := ?vq1x5) ?hiq1x5 (by kernel_rfl) (by kernel_rfl) (by kernel_rfl) ?hQq1x5 (Or.inl ⟨?hwq1x5, ?hyq1x5⟩) (by assumption) ?restq1x5
      case hiq1x5 => simp only [List.getElem?_toArray, List.getElem?_cons_succ, List.getElem?_cons_zero]; exact rfl
      case hQq1x5 => exact fun _ _ _ h => h
      case hwq1x5 => rfl
      case hyq1x5 => ((intro w hSw; (try dsimp only at hSw); go_simp) <;> with_reducible rfl)
      try simp only [Act.put, List.setIfInBounds_toArray, List.set_cons_zero, List.set_cons_succ]
      refine wpAnyH_take (i := 5) (oi := ?oiq1x6) (v := ?vq1x6) ?hiq1x6 (by kernel_rfl) (by kernel_rfl) (by kernel_rfl) ?hQq1x6 (Or.inl ⟨?hwq1x6, ?hyq1x6⟩) (by assumption) ?restq1x6
      case hiq1x6 => simp only [List.getElem?_toArray, List.getElem?_cons_succ, List.getElem?_cons_zero]; exact rfl
      case hQq1x6 => exact fun _ _ _ h => h
      case hwq1x6 => rfl
      case hyq1x6 => ((intro w hSw; (try dsimp only at hSw); go_simp) <;> with_reducible rfl)
      try simp only [Act.put, List.setIfInBounds_toArray, List.set_cons_zero, List.set_cons_succ]
      refine wpAnyH_take (i := 9) (oi := ?oiq1x7) (v := ?vq1x7) ?hiq1x7 (by kernel_rfl) (by kernel_rfl) (by kernel_rfl) ?hQq1x7 (Or.inl ⟨?hwq1x7, ?hyq1x7⟩) (by assumption) ?restq1x7
      case hiq1x7 => simp only [List.getElem?_toArray, List.getElem?_cons_succ, List.getElem?_cons_zero]; exact rfl
      case hQq1x7 => exact fun _ _ _ h => h
      case hwq1x7 => rfl
      case hyq1x7 => ((intro w hSw; (try dsimp only at hSw); go_simp) <;> with_reducible rfl)
      try simp only [Act.put, List.setIfInBounds_toArray, List.set_cons_zero, List.set_cons_succ]
      refine wpAnyH_take (i := 10) (oi := ?oiq1x8) (v := ?vq1x8) ?hiq1x8 (by kernel_rfl) (by kernel_rfl) (by kernel_rfl) ?hQq1x8 (Or.inl ⟨?hwq1x8, ?hyq1x8⟩) (by assumption) ?restq1x8
      case hiq1x8 => simp only [List.getElem?_toArray, List.getElem?_cons_succ, List.getElem?_cons_zero]; exact rfl
      case hQq1x8 => exact fun _ _ _ h => h
      case hwq1x8 => rfl
      case hyq1x8 => ((intro w hSw; (try dsimp only at hSw); go_simp) <;> with_reducible rfl)
      try simp only [Act.put, List.setIfInBounds_toArray, List.set_cons_zero, List.set_cons_succ]
      refine wpAnyH_take (i := 11) (oi := ?oiq1x9) (v := ?vq1x9) ?hiq1x9 (by kernel_rfl) (by kernel_rfl) (by kernel_rfl) ?hQq1x9 (Or.inl ⟨?hwq1x9, ?hyq1x9⟩) (by assumption) ?restq1x9
      case hiq1x9 => simp only [List.getElem?_toArray, List.getElem?_cons_succ, List.getElem?_cons_zero]; exact rfl
      case hQq1x9 => exact fun _ _ _ h => h
      case hwq1x9 => rfl
      case hyq1x9 => ((intro w hSw; (try dsimp only at hSw); go_simp) <;> with_reducible rfl)
      try simp only [Act.put, List.setIfInBounds_toArray, List.set_cons_zero, List.set_cons_succ]
      refine wpAnyH_take (i := 12) (oi := ?oiq1x10) (v := ?vq1x10) ?hiq1x10 (by kernel_rfl) (by kernel_rfl) (by kernel_rfl) ?hQq1x10 (Or.inl ⟨?hwq1x10, ?hyq1x10⟩) (by assumption) ?restq1x10
      case hiq1x10 => simp only [List.getElem?_toArray, List.getElem?_cons_succ, List.getElem?_cons_zero]; exact rfl
      case hQq1x10 => exact fun _ _ _ h => h
      case hwq1x10 => rfl
      case hyq1x10 => ((intro w hSw; (try dsimp only at hSw); go_simp) <;> with_reducible rfl)
      try simp only [Act.put, List.setIfInBounds_toArray, List.set_cons_zero, List.set_cons_succ]
      refine wpAnyH_take (i := 13) (oi := ?oiq1x11) (v := ?vq1x11) ?hiq1x11 (by kernel_rfl) (by kernel_rfl) (by kernel_rfl) ?hQq1x11 (Or.inl ⟨?hwq1x11, ?hyq1x11⟩) (by assumption) ?restq1x11
      case hiq1x11 => simp only [List.getElem?_toArray, List.getElem?_cons_succ, List.getElem?_cons_zero]; exact rfl
      case hQq1x11 => exact fun _ _ _ h => h
      case hwq1x11 => rfl
      case hyq1x11 => ((intro w hSw; (try dsimp only at hSw); go_simp) <;> with_reducible rfl)
      try simp only [Act.put, List.setIfInBounds_toArray, List.set_cons_zero, List.set_cons_succ]
      refine wpAnyH_ready (rs := [6]) (by kernel_rfl) (by simp) ?_
      refine AllReadyH.cons (o := ?oq1x12) ?hoq1x12 (fun K hK => ?stepq1x12) ?moreq1x12
      case hoq1x12 => simp only [List.getElem?_toArray, List.getElem?_cons_succ, List.getElem?_cons_zero]; exact rfl
      case moreq1x12 => exact AllReadyH.nil
      go_simp
      (go_at_call 47; refine (spec_l1Dec T _ (by omega)).mono ?_; rw [HD.out]; rintro e w6 ⟨rfl, hb6⟩)
      refine hK.out _ _ ?hSq1x12 (fun hHeld => ?restq1x12)
      case hSq1x12 => ((first | assumption | ((((try dsimp only); repeat' apply And.intro) <;> (first | assumption | (refine below_later ?_ (by assumption); first | assumption | (simp only [*]; done) | (go_grown; done)) | (refine cell_later (by assumption) ?_; first | assumption | (simp only [*]; done) | (simp [go_sem]; done)) | (go_grown; done) | (simp [go_sem]; done))))))
      clear hK K
      try simp only [Act.put, List.setIfInBounds_toArray, List.set_cons_zero, List.set_cons_succ]
      refine wpAnyH_take (i := 7) (oi := ?oiq1x13) (v := ?vq1x13) ?hiq1x13 (by kernel_rfl) (by kernel_rfl) (by kernel_rfl) ?hQq1x13 (Or.inl ⟨?hwq1x13, ?hyq1x13⟩) (by assumption) ?restq1x13
      case hiq1x13 => simp only [List.getElem?_toArray, List.getElem?_cons_succ, List.getElem?_cons_zero]; exact rfl
      case hQq1x13 => exact fun _ _ _ h => h
      case hwq1x13 => rfl
      case hyq1x13 => ((intro w hSw; (try dsimp only at hSw); go_simp) <;> with_reducible rfl)
      try simp only [Act.put, List.setIfInBounds_toArray, List.set_cons_zero, List.set_cons_succ]
      refine wpAnyH_take (i := 8) (oi := ?oiq1x14) (v := ?vq1x14) ?hiq1x14 (by kernel_rfl) (by kernel_rfl) (by kernel_rfl) ?hQq1x14 (Or.inl ⟨?hwq1x14, ?hyq1x14⟩) (by assumption) ?restq1x14
      case hiq1x14 => simp only [List.getElem?_toArray, List.getElem?_cons_succ, List.getElem?_cons_zero]; exact rfl
      case hQq1x14 => exact fun _ _ _ h => h
      case hwq1x14 => rfl
      case hyq1x14 => ((intro w hSw; (try dsimp only at hSw); go_simp) <;> with_reducible rfl)
      try simp only [Act.put, List.setIfInBounds_toArray, List.set_cons_zero, List.set_cons_succ]
      refine wpAnyH_take (i := 14) (oi := ?oiq1x15) (v := ?vq1x15) ?hiq1x15 (by kernel_rfl) (by kernel_rfl) (by kernel_rfl) ?hQq1x15 (Or.inl ⟨?hwq1x15, ?hyq1x15⟩) (by assumption) ?restq1x15
      case hiq1x15 => simp only [List.getElem?_toArray, List.getElem?_cons_succ, List.getElem?_cons_zero]; exact rfl
      case hQq1x15 => exact fun _ _ _ h => h
      case hwq1x15 => rfl
      case hyq1x15 => ((intro w hSw; (try dsimp only at hSw); go_simp) <;> with_reducible rfl)
      try simp only [Act.put, List.setIfInBounds_toArray, List.set_cons_zero, List.set_cons_succ]
      refine wpAnyH_take (i := 15) (oi := ?oiq1x16) (v := ?vq1x16) ?hiq1x16 (by kernel_rfl) (by kernel_rfl) (by kernel_rfl) ?hQq1x16 (Or.inl ⟨?hwq1x16, ?hyq1x16⟩) (by assumption) ?restq1x16
      case hiq1x16 => simp only [List.getElem?_toArray, List.getElem?_cons_succ, List.getElem?_cons_zero]; exact rfl
      case hQq1x16 => exact fun _ _ _ h => h
      case hwq1x16 => rfl
      case hyq1x16 => ((intro w hSw; (try dsimp only at hSw); go_simp) <;> with_reducible rfl)
      try simp only [Act.put, List.setIfInBounds_toArray, List.set_cons_zero, List.set_cons_succ]
      refine wpAnyH_take (i := 16) (oi := ?oiq1x17) (v := ?vq1x17) ?hiq1x17 (by kernel_rfl) (by kernel_rfl) (by kernel_rfl) ?hQq1x17 (Or.inl ⟨?hwq1x17, ?hyq1x17⟩) (by assumption) ?restq1x17
      case hiq1x17 => simp only [List.getElem?_toArray, List.getElem?_cons_succ, List.getElem?_cons_zero]; exact rfl
      case hQq1x17 => exact fun _ _ _ h => h
      case hwq1x17 => rfl
      case hyq1x17 => ((intro w hSw; (try dsimp only at hSw); go_simp) <;> with_reducible rfl)
      try simp only [Act.put, List.setIfInBounds_toArray, List.set_cons_zero, List.set_cons_succ]
      refine wpAnyH_done (by kernel_rfl) ?_ _
      have hbel2 := below_later hbel hHeld.1
      clear hHeld
      go_wp2_with fail
      go_roundw
      case rel => exact ⟨k + 1, l ++ (d ++ 61 :: (V.data.toList ++ [1])), by omega, by go_num, congrArg Value.string HC.out, HL.out, hlen2, hbel2⟩
      case measure => simp [intOf]; omega
    · obtain rfl : k = n := by omega
      have hl1000 : l.length ≤ 860 := by omega
      have hsz : (⟨l.toArray⟩ : ByteArray).size ≤ 1000000 := by simp [ByteArray.size]; omega
      obtain ⟨D, hD⟩ : ∃ D, sumL l = D := ⟨_, rfl⟩
      have hd : D < 256 := by rw [← hD]; exact Nat.mod_lt _ (by omega)
      have HS : Hid (sumTo (⟨l.toArray⟩ : ByteArray) (⟨l.toArray⟩ : ByteArray).size % 256 = D) := Lib.hid (by rw [← hD]; simp [sumL, ByteArray.size])
      have l1 : (Lib.decDigits (D / 100)).length ≤ 3 := (dec_len3 (by omega)).2
      have l2 : (Lib.decDigits (D / 10 % 10)).length ≤ 3 := (dec_len3 (by omega)).2
      have l3 : (Lib.decDigits (D % 10)).length ≤ 3 := (dec_len3 (by omega)).2
      have H3 := Lib.hid (s3L_eq hd)
      obtain ⟨d1, hd1⟩ : ∃ d, Lib.decDigits (D / 100) = d := ⟨_, rfl⟩
      obtain ⟨d2, hd2⟩ : ∃ d, Lib.decDigits (D / 10 % 10) = d := ⟨_, rfl⟩
      obtain ⟨d3, hd3⟩ : ∃ d, Lib.decDigits (D % 10) = d := ⟨_, rfl⟩
      rw [hd1] at l1
      rw [hd2] at l2
      rw [hd3] at l3
      have HX : Hid (((((((⟨l.toArray⟩ : ByteArray) ++ ⟨#[49, 48, 61]⟩) ++ ⟨d1.toArray⟩) ++ ⟨d2.toArray⟩) ++ ⟨d3.toArray⟩) ++ ⟨#[1]⟩) = ⟨(txL fs k).toArray⟩) := Lib.hid (by
        rw [txL, ← hlk.out, hD, H3.out, hd1, hd2, hd3]
        apply ByteArray.ext
        simp)
      have C1 := Lib.hid hd1
      have C2 := Lib.hid hd2
      have C3 := Lib.hid hd3
      have e1 : Hid ((D : Int) / 100 = ((D / 100 : Nat) : Int)) := Lib.hid (by omega)
      have e2 : Hid ((D : Int) / 10 % 10 = ((D / 10 % 10 : Nat) : Int)) := Lib.hid (by omega)
      have e3 : Hid ((D : Int) % 10 = ((D % 10 : Nat) : Int)) := Lib.hid (by omega)
      clear hlk hD hd1 hd2 hd3 H3 hl hln
      go_wp2_with fail
      refine (spec_l13Sum _ _ hsz).mono ?_
      rw [HS.out]
      rintro e w2 ⟨rfl, rfl⟩
      go_wp2_with fail
      rw [e1.out]
      refine (spec_l1Dec (D / 100) _ (by omega)).mono ?_
      rw [C1.out]
      rintro e w3 ⟨rfl, hb3⟩
      go_wp2_with fail
      rw [e2.out]
      refine (spec_l1Dec (D / 10 % 10) _ (by omega)).mono ?_
      rw [C2.out]
      rintro e w4 ⟨rfl, hb4⟩
      go_wp2_with fail
      rw [e3.out]
      refine (spec_l1Dec (D % 10) _ (by omega)).mono ?_
      rw [C3.out]
      rintro e w5 ⟨rfl, hb5⟩
      have hfin := below_later hbel (below_later (below_later hb3 hb4) hb5)
      go_wp2_with fail
      go_ret
      exact ⟨by rw [← HX.out]; rfl, hfin⟩
set_option maxHeartbeats 800000 in
theorem spec_FieldsText (A : Option Addr) (n c : Nat) (fs : List (Int × ByteArray)) (w : World) (hl : Flds w w.heap.size A n fs) (hs : ∀ k, k < n → (fV fs k).size ≤ maxLen) (hn : n ≤ 1048576) :
    Calls Tryd.prog 11 #[.slice A n c] w fun e w' => e = .returned (.string (txV fs n)) ∧ Below w.heap.size w w' := by
  go_enter Tryd.func11, Tryd.ntmps11
  go_wp2_with fail
  refine (spec_FieldsOk A n c fs w hl hs hn).mono ?_
  rcases Bool.eq_false_or_eq_true (fldsB fs n) with hf | hf
  rotate_left
  · have H : Hid (txV fs n = ⟨#[]⟩) := Lib.hid (by rw [txV, hf]; rfl)
    rw [hf]
    rintro e w1 ⟨rfl, rfl⟩
    go_wp2_with fail
    go_ret
    exact ⟨by rw [H.out]; rfl, Below.refl _ _⟩
  have H : Hid (txV fs n = ⟨(txL fs n).toArray⟩) := Lib.hid (by rw [txV, if_pos hf])
  have hf2 : n ≤ 20 ∧ fldTo fs n = true := by
    unfold fldsB at hf
    simpa using hf
  rw [hf]
  rintro e w1 ⟨rfl, rfl⟩
  clear hf
  go_wp2_with fail
  refine (spec_l13Text A n c fs _ hl hf2.1 hf2.2).mono ?_
  rintro e w2 ⟨rfl, hb2⟩
  clear hf2
  go_wp2_with fail
  go_ret
  exact ⟨by rw [H.out]; rfl, hb2⟩
end Go.Proofs.YtidcpijiklpfkaaDoor
