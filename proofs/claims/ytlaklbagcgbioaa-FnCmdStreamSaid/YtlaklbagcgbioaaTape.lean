/-
  The bytes of a list of records.
-/
import Derived.Test.YtlaklbagcgbioaaFilled
import Derived.Test.YtlaklbagcgbioaaBuilder
import Derived.Test.YtlaklbagcgbioaaBack
import Derived.Test.YtlaklbagcgbioaaStream
namespace Go.Proofs.Ytlaklbagcgbioaa
open Go.RowKit Wire

/-- the bytes of record k -/
def recAt (zs : List Int) (k : Nat) : ByteArray := recBytesB (num zs (k * 8)) (num zs (k * 8 + 1)) (num zs (k * 8 + 2)) (num zs (k * 8 + 3)) (num zs (k * 8 + 4)) (num zs (k * 8 + 5)) (num zs (k * 8 + 6)) (num zs (k * 8 + 7))
/-- the bytes of the first k records -/
def tapeL (zs : List Int) : Nat → List UInt8
  | 0 => []
  | k + 1 => tapeL zs k ++ (recAt zs k).data.toList
/-- the bytes of n records, none if there are more than a thousand or one is not right -/
def tapeB (zs : List Int) (n : Nat) : ByteArray := if n ≤ 1000 ∧ okTo zs n = true then ⟨(tapeL zs n).toArray⟩ else ⟨#[]⟩
theorem recAt_len {zs : List Int} {k : Nat} (h : okAt zs k = true) : (recAt zs k).size = 21 := recBytesB_len _ _ _ _ _ _ _ _ h
theorem recAt_no {zs : List Int} {k : Nat} (h : okAt zs k = false) : recAt zs k = ⟨#[]⟩ := recBytesB_nil _ _ _ _ _ _ _ _ h
theorem tapeL_len {zs : List Int} : ∀ k, okTo zs k = true → (tapeL zs k).length = 21 * k
  | 0, _ => rfl
  | k + 1, h => by
    have h1 := okTo_at (k + 1) k h (by omega)
    have h2 : okTo zs k = true := by simp only [okTo, Bool.and_eq_true] at h; exact h.1
    rw [tapeL, List.length_append, tapeL_len k h2, Array.length_toList]
    have := recAt_len h1
    have h3 : (recAt zs k).data.size = (recAt zs k).size := rfl
    omega
theorem tapeB_yes {zs : List Int} {n : Nat} (h : okTo zs n = true) (hn : n ≤ 1000) : tapeB zs n = ⟨(tapeL zs n).toArray⟩ := by unfold tapeB; rw [if_pos ⟨hn, h⟩]
theorem tapeB_no {zs : List Int} {n k : Nat} (h : okAt zs k = false) (hk : k < n) : tapeB zs n = ⟨#[]⟩ := by
  unfold tapeB; rw [if_neg (fun h1 => by rw [okTo_no h n hk] at h1; cases h1.2)]
theorem tapeB_long {zs : List Int} {n : Nat} (hn : 1000 < n) : tapeB zs n = ⟨#[]⟩ := by
  unfold tapeB; rw [if_neg (fun h1 => by omega)]
theorem bld_below {T e : TypeId} {B b : Nat} {bs : List Value} {w w' : World} (h : Lib.IsBuilder T e B b bs w) (hb : Below w.heap.size w w') : Lib.IsBuilder T e B b bs w' := by
  have key : ∀ p, Lib.BuilderAt T e B b p bs w → Lib.BuilderAt T e B b p bs w' := fun p ⟨h1, v, h2, h3, h4⟩ =>
    ⟨h1, v, (hb.block b (by
      rcases Nat.lt_or_ge b w.heap.size with h' | h'
      · exact h'
      · simp [Array.getElem?_eq_none h'] at h2)).trans h2, own_below h3 hb, h4⟩
  rcases h with h | h
  · exact .inl (key _ h)
  · exact .inr (key _ h)
set_option maxHeartbeats 1600000 in
set_option maxRecDepth 100000 in
theorem impl_TapeBytes (A : Option Addr) (n c : Nat) (zs : List Int) (w : World) (hl : Lst w w.heap.size 8 A n zs) (hn : n ≤ 1048576) :
    Calls Try.prog 51 #[.slice A n c] w fun e w' => e = .returned (.string (tapeB zs n)) ∧ Below w.heap.size w w' := by
  by_cases hbig : 1000 < n
  · rw [tapeB_long hbig]
    have t0 : decide (1000 < (n : Int)) = true := decide_eq_true (by omega)
    go_enter Try.func51, Try.ntmps51
    go_wp2_with fail
    go_ret
    exact ⟨rfl, Below.refl _ _⟩
  have t0 : decide (1000 < (n : Int)) = false := decide_eq_false (by omega)
  have hB0 : Lib.IsBuilder 91 5 w.heap.size w.heap.size (Lib.byteCells (tapeL zs 0)) (w.alloc (.cells #[.pointer none, .slice none 0 0] 91)) :=
    .inl ⟨Nat.le_refl _, .slice none 0 0, heap_alloc_new w _, World.ownsRow_nil _ _ _ _, by simp [Value.ownBlock]⟩
  have hb0 : Below w.heap.size w (w.alloc (.cells #[.pointer none, .slice none 0 0] 91)) := (Below.refl _ _).alloc (Nat.le_refl _) _
  go_enter Try.func51, Try.ntmps51
  go_wp2_with fail
  go_loopw [12] (fun i wr => ∃ k : Nat, k ≤ n ∧ i = .int .i64 (k : Int) ∧ okTo zs k = true ∧ Lib.IsBuilder 91 5 w.heap.size w.heap.size (Lib.byteCells (tapeL zs k)) wr ∧ Below w.heap.size w wr) (fun i _ => n - (intOf i).toNat)
  case atStart => exact ⟨0, Nat.zero_le _, rfl, rfl, hB0, hb0⟩
  case round =>
    obtain ⟨k, hk, rfl, hok, hbld, hbel⟩ := hrel
    by_cases hlt : k < n
    · obtain ⟨b, o, rfl, hb, c0, c1, c2, c3, c4, c5, c6, c7⟩ := (hl.below hbel).row8 hlt
      clear hB0 hb0
      have HT := Lib.hid (tapeL_len k hok)
      have HN := Lib.hid (show tapeL zs (k + 1) = tapeL zs k ++ (recAt zs k).data.toList from rfl)
      have HR : Hid (recBytesB (num zs (k * 8)) (num zs (k * 8 + 1)) (num zs (k * 8 + 2)) (num zs (k * 8 + 3)) (num zs (k * 8 + 4)) (num zs (k * 8 + 5)) (num zs (k * 8 + 6)) (num zs (k * 8 + 7)) = recAt zs k) := Lib.hid rfl
      go_wp2_with fail
      refine (impl_RecBytes _ _ _ _ _ _ _ _ _).mono ?_
      rw [HR.out]
      rintro e w1 ⟨rfl, hb1⟩
      have hbld1 := bld_below hbld (below_alloc hb1)
      have hbel1 : Below w.heap.size w w1 := hbel.trans ((below_alloc hb1).mono hbel.size)
      clear hb1 hbel hbld
      rcases Bool.eq_false_or_eq_true (okAt zs k) with hat | hat
      · have hlen := recAt_len hat
        have HO := Lib.hid (okTo_step hok hat)
        have HL := Lib.hid hlen
        have hne2 : ((recAt zs k).toList = []) = False := by
          simp only [eq_iff_iff, iff_false]
          intro h
          have := congrArg List.length h
          rw [ByteArray.toList_eq, Array.length_toList, List.length_nil] at this
          have h2 : (recAt zs k).data.size = (recAt zs k).size := rfl
          omega
        have hne : (recAt zs k).toList.isEmpty = false := by simp [hne2]
        clear hlen hat
        generalize recAt zs k = rk at *
        go_wp2_with fail
        refine (WriteString_any _ _ _ _ _ hbld1 (by rw [Lib.byteCells_length, HT.out, HL.out]; omega) hbel1.size).mono ?_
        rintro e w2 ⟨rfl, hbld2, hb2⟩
        have hbel2 : Below w.heap.size w w2 := hbel1.trans hb2
        clear hb2 hbel1 hbld1
        go_wp2_with fail
        go_roundw
        case rel => exact ⟨k + 1, by omega, by go_num, HO.out, by rw [HN.out, Lib.byteCells_append]; exact .inr hbld2, hbel2⟩
        case measure => simp [intOf]; omega
      · have HZ := Lib.hid (recAt_no hat)
        have HB := Lib.hid (tapeB_no hat hlt)
        rw [HZ.out]
        clear hat
        go_wp2_with fail
        go_ret
        exact ⟨by rw [HB.out]; rfl, hbel1⟩
    · obtain rfl : k = n := by omega
      have HB := Lib.hid (tapeB_yes hok (by omega))
      clear hB0 hb0
      go_wp2_with fail
      refine (BString_any _ _ _ _ hbld hbel.size).mono ?_
      rintro e w1 ⟨rfl, hb1⟩
      go_wp2_with fail
      go_ret
      exact ⟨by rw [HB.out]; rfl, hbel.trans hb1⟩
theorem l1Rec_int (a b c d e f g h : Int) (w : World) (k : recB a b c d e f g h = true) :
    Calls Try.prog 94 #[.agg #[.int .i64 a, .int .i64 b, .int .i64 c, .int .i64 d, .int .i64 e, .int .i64 f, .int .i64 g, .int .i64 h]] w fun x w' => x = .returned (.string (recBytesB a b c d e f g h)) ∧ Below w.heap.size w w' := by
  obtain ⟨ha, hb, hc, hd, he, hf, hg, hh⟩ := rec_fits k
  obtain ⟨a, rfl⟩ := Int.eq_ofNat_of_zero_le ha.1
  obtain ⟨b, rfl⟩ := Int.eq_ofNat_of_zero_le hb.1
  obtain ⟨c, rfl⟩ := Int.eq_ofNat_of_zero_le hc.1
  obtain ⟨d, rfl⟩ := Int.eq_ofNat_of_zero_le hd.1
  obtain ⟨e, rfl⟩ := Int.eq_ofNat_of_zero_le he.1
  obtain ⟨f, rfl⟩ := Int.eq_ofNat_of_zero_le hf.1
  obtain ⟨g, rfl⟩ := Int.eq_ofNat_of_zero_le hg.1
  obtain ⟨h, rfl⟩ := Int.eq_ofNat_of_zero_le hh.1
  exact (l1Rec_any a b c d e f g h w (by omega) (by omega) (by omega) (by omega) (by omega) (by omega) (by omega) (by omega)).mono fun _ _ ⟨he, hb⟩ => ⟨by rw [he]; unfold recBytesB; rw [if_pos k]; simp, hb⟩
set_option maxHeartbeats 1600000 in
set_option maxRecDepth 100000 in
theorem spec_TapeBytes (A : Option Addr) (n c : Nat) (zs : List Int) (w : World) (hl : Lst w w.heap.size 8 A n zs) (hn : n ≤ 1048576) :
    Calls Try.prog 55 #[.slice A n c] w fun e w' => e = .returned (.string (tapeB zs n)) ∧ Below w.heap.size w w' := by
  go_enter Try.func55, Try.ntmps55
  go_wp2_with fail
  go_loopw [3, 4] (fun s i wr => ∃ k : Nat, k ≤ n ∧ k ≤ 1000 ∧ i = .int .i64 (k : Int) ∧ s = .string ⟨(tapeL zs k).toArray⟩ ∧ okTo zs k = true ∧ Below w.heap.size w wr) (fun _ i _ => n - (intOf i).toNat)
  case atStart => exact ⟨0, Nat.zero_le _, Nat.zero_le _, rfl, rfl, rfl, Below.refl _ _⟩
  case round =>
    obtain ⟨k, hk, hk2, rfl, rfl, hok, hbel⟩ := hrel
    by_cases hlt : k < n
    · obtain ⟨b, o, rfl, hb, c0, c1, c2, c3, c4, c5, c6, c7⟩ := (hl.below hbel).row8 hlt
      have HT := Lib.hid (tapeL_len k hok)
      have HN := Lib.hid (show tapeL zs (k + 1) = tapeL zs k ++ (recAt zs k).data.toList from rfl)
      have HR := Lib.hid (show okAt zs k = recB (num zs (k * 8)) (num zs (k * 8 + 1)) (num zs (k * 8 + 2)) (num zs (k * 8 + 3)) (num zs (k * 8 + 4)) (num zs (k * 8 + 5)) (num zs (k * 8 + 6)) (num zs (k * 8 + 7)) from rfl)
      rcases Bool.eq_false_or_eq_true (okAt zs k) with hat | hat
      · have HO := Lib.hid (okTo_step hok hat)
        have HF := Lib.hid (rec_fits (HR.out ▸ hat))
        have HQ := Lib.hid (show recAt zs k = recBytesB (num zs (k * 8)) (num zs (k * 8 + 1)) (num zs (k * 8 + 2)) (num zs (k * 8 + 3)) (num zs (k * 8 + 4)) (num zs (k * 8 + 5)) (num zs (k * 8 + 6)) (num zs (k * 8 + 7)) from rfl)
        by_cases h1000 : 1000 ≤ k
        · have t1 : decide ((1000 : Int) ≤ (k : Int)) = true := decide_eq_true (by omega)
          have HB := Lib.hid (show tapeB zs n = ⟨#[]⟩ from tapeB_long (by omega))
          go_wp2_with fail
          refine (spec_RecOk _ _ _ _ _ _ _ _ _).mono ?_
          rw [← HR.out, hat]
          rintro e w1 ⟨rfl, hb1⟩
          go_wp2_with fail
          go_ret
          exact ⟨by rw [HB.out]; rfl, hbel.trans (hb1.mono hbel.size)⟩
        · have t1 : decide ((1000 : Int) ≤ (k : Int)) = false := decide_eq_false (by omega)
          go_wp2_with fail
          refine (spec_RecOk _ _ _ _ _ _ _ _ _).mono ?_
          rw [← HR.out, hat]
          rintro e w1 ⟨rfl, hb1⟩
          have hbel1 : Below w.heap.size w w1 := hbel.trans (hb1.mono hbel.size)
          obtain ⟨d0, d1, d2, d3, d4, d5, d6, d7⟩ : w1.cell? ⟨b, o + k * 8, none⟩ = some (.int .i64 (num zs (k * 8))) ∧ w1.cell? ⟨b, o + k * 8 + 1, none⟩ = some (.int .i64 (num zs (k * 8 + 1))) ∧ w1.cell? ⟨b, o + k * 8 + 2, none⟩ = some (.int .i64 (num zs (k * 8 + 2))) ∧ w1.cell? ⟨b, o + k * 8 + 3, none⟩ = some (.int .i64 (num zs (k * 8 + 3))) ∧ w1.cell? ⟨b, o + k * 8 + 4, none⟩ = some (.int .i64 (num zs (k * 8 + 4))) ∧ w1.cell? ⟨b, o + k * 8 + 5, none⟩ = some (.int .i64 (num zs (k * 8 + 5))) ∧ w1.cell? ⟨b, o + k * 8 + 6, none⟩ = some (.int .i64 (num zs (k * 8 + 6))) ∧ w1.cell? ⟨b, o + k * 8 + 7, none⟩ = some (.int .i64 (num zs (k * 8 + 7))) := by
            refine ⟨?_, ?_, ?_, ?_, ?_, ?_, ?_, ?_⟩ <;> (refine (hb1.cell (p := ⟨b, _, none⟩) (Nat.lt_of_lt_of_le hb hbel.size)).trans ?_; assumption)
          clear hb1 hbel c0 c1 c2 c3 c4 c5 c6 c7
          have HK := Lib.hid (HR.out ▸ hat)
          clear hat
          go_wp2_with fail
          refine (l1Rec_int _ _ _ _ _ _ _ _ _ HK.out).mono ?_
          rw [← HQ.out]
          rintro e w2 ⟨rfl, hb2⟩
          have hbel2 : Below w.heap.size w w2 := hbel1.trans (hb2.mono hbel1.size)
          clear hb2 hbel1
          have hsz : ¬ 9223372036854775807 < (tapeL zs k).length + (recAt zs k).size := by
            have := recAt_len (HR.out.trans HK.out)
            rw [HT.out]
            omega
          have hcat : (⟨(tapeL zs k).toArray⟩ : ByteArray) ++ recAt zs k = ⟨(tapeL zs (k + 1)).toArray⟩ := by
            rw [HN.out]
            apply ByteArray.ext
            simp
          have HC := Lib.hid hcat
          clear hcat
          go_wp2_with fail
          go_roundw
          case rel => exact ⟨k + 1, by omega, by omega, by go_num, congrArg Value.string HC.out, HO.out, hbel2⟩
          case measure => simp [intOf]; omega
      · have HB := Lib.hid (tapeB_no hat hlt)
        go_wp2_with fail
        refine (spec_RecOk _ _ _ _ _ _ _ _ _).mono ?_
        rw [← HR.out, hat]
        rintro e w1 ⟨rfl, hb1⟩
        go_wp2_with fail
        go_ret
        exact ⟨by rw [HB.out]; rfl, hbel.trans (hb1.mono hbel.size)⟩
    · obtain rfl : k = n := by omega
      have HB := Lib.hid (tapeB_yes hok (by omega))
      go_wp2_with fail
      go_ret
      exact ⟨by rw [HB.out]; rfl, hbel⟩
end Go.Proofs.Ytlaklbagcgbioaa
