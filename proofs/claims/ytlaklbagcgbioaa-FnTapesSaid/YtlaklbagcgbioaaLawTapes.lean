/-
  The law on drawn tapes.
-/
import Derived.Test.YtlaklbagcgbioaaTapeBack
import Derived.Test.YtlaklbagcgbioaaDrawSeq
import Derived.Test.YtlaklbagcgbioaaSame
namespace Go.Proofs.Ytlaklbagcgbioaa
open Go.RowKit Wire

set_option maxHeartbeats 3200000 in
set_option maxRecDepth 100000 in
theorem law_Tapes (A : Option Addr) (len cap : Nat) (zs : List Int) (w : World) (hrow : IsRow .u8 w A len cap zs) :
    Calls Try.prog 7 #[.slice A len cap] w fun e w' => e = .returned (.bool true) ∧ Below w.heap.size w w' := by
  have hs := src_of_row hrow
  have hl := row_len hrow
  clear hrow
  by_cases hbig : 1048576 < len
  · go_enter Try.func7, Try.ntmps7
    go_wp2_with (go_at_call 21; go_in)
    go_ret
    exact ⟨rfl, Below.refl _ _⟩
  · go_enter Try.func7, Try.ntmps7
    go_wp2_with (go_at_call 21; go_in)
    refine (DrawTape_any A len cap _ hs hl).mono ?_
    rintro e w1 ⟨A1, n, c, xs, hn, rfl, hh, hb1, _⟩
    have hs1 := hs.later hb1
    have hL1 := hh.2.2.2
    clear hs hh
    go_wp2_with fail
    refine (impl_TapeBytes A1 n c xs w1 hL1 (by omega)).mono ?_
    rintro e w2 ⟨rfl, hb2⟩
    have hs2 := hs1.later hb2
    have hL2 := hL1.later hb2
    have hb2 := below_later' hb1 hb2
    clear hs1 hL1 hb1
    go_wp2_with fail
    refine (DrawReadTape_any A len cap _ hs2 hl).mono ?_
    rintro e w3 ⟨t, ht, rfl, hb3⟩
    have hL3 := hL2.later hb3
    have hb3 := below_later' hb2 hb3
    clear hs2 hL2 hb2
    go_wp2_with fail
    refine (impl_ReadTape_F rdRec isRec (fun t w ht => impl_rdRec t w (by unfold maxLen; omega)) t w3 (by omega)).mono ?_
    rintro e w4 ⟨v1, m, z, hz, rfl, ho4, hb4⟩
    obtain ⟨A2, d2, rfl, _, _⟩ := own_slice ho4
    have hX4 := Lst.of_own ho4
    have hL4 := hL3.later hb4
    have hb4 := below_later' hb3 hb4
    clear hL3 hb3 ho4
    go_wp2_with fail
    refine (spec_ReadTape_F rdRec isRec (fun t w ht => spec_rdRec t w (by unfold maxLen; omega)) t w4 (by omega)).mono ?_
    rintro e w5 ⟨v0, m', z', hz', rfl, ho5, hb5⟩
    obtain ⟨rfl, rfl⟩ := hz.one hz'
    clear hz'
    obtain ⟨A3, d3, rfl, _, _⟩ := own_slice ho5
    have hY5 := Lst.of_own ho5
    have hX5 := hX4.later hb5
    have hL5 := hL4.later hb5
    have hb5 := below_later' hb4 hb5
    have hm : m ≤ 1048576 := by rcases hz with ⟨_, _, _, h, _⟩ | ⟨_, _, h, _⟩ <;> omega
    clear hL4 hX4 hb4 ho5
    have HZ := Lib.hid hz
    have HC := Lib.hid (show m ≤ 1000 ∨ m = 0 from by rcases hz with ⟨_, _, _, h, _⟩ | ⟨_, _, h, _⟩ <;> omega)
    have HT := Lib.hid (show okTo xs n = true → n ≤ 4 → TapeRel isRec ⟨(tapeL xs n).toArray⟩ n (-1) from fun h h4 => tape_rel h (by omega))
    have HW := Lib.hid (show okTo xs n = true → rowsOf rdRec ⟨(tapeL xs n).toArray⟩ 21 n = xs from fun h => tape_rows h hL5.1)
    have HY := Lib.hid (tapeB_yes (zs := xs) (n := n))
    have HN : Hid (okTo xs n = true ∨ tapeB xs n = ⟨#[]⟩) := Lib.hid (by
      rcases Bool.eq_false_or_eq_true (okTo xs n) with h | h
      · exact .inl h
      · exact .inr (by unfold tapeB; rw [if_neg (fun k => by rw [h] at k; cases k.2)]))
    have HS : Hid ((tapeB xs n).size ≤ 100) := Lib.hid (by
      unfold tapeB
      split
      · rename_i h
        show (tapeL xs n).toArray.size ≤ 100
        rw [List.size_toArray, tapeL_len n h.2]
        omega
      · exact Nat.zero_le _)
    rcases hz with ⟨rfl, hz1, hz2, hz3, hz4⟩ | ⟨K, rfl, rfl, hz1, hz2, hz3, hz4⟩
    · have HB := Lib.hid (tape_back hz4 hz3 hz1 hz2)
      clear hz1 hz2 hz4
      go_wp2_with fail
      refine (spec_TapeBytes A1 n c xs w5 hL5 (by omega)).mono ?_
      rintro e w6 ⟨rfl, hb6⟩
      have hL6 := hL5.later hb6
      have hX6 := hX5.later hb6
      have hY6 := hY5.later hb6
      have hb6 := below_later' hb5 hb6
      clear hL5 hX5 hY5 hb5
      generalize tapeB xs n = sb at *
      go_wp2_with fail
      refine (sameRecs_same A2 A3 m d2 d3 _ w6 hX6 hY6 hm).mono ?_
      rintro e w7 ⟨rfl, hb7⟩
      have hL7 := hL6.later hb7
      have hX7 := hX6.later hb7
      have hb7 := below_later' hb6 hb7
      clear hL6 hX6 hY6 hb6
      go_wp2_with fail
      refine (impl_TapeBytes A2 m d2 _ w7 hX7 hm).mono ?_
      rw [HB.out]
      rintro e w8 ⟨rfl, hb8⟩
      have hL8 := hL7.later hb8
      have hb8 := below_later' hb7 hb8
      clear hL7 hX7 hb7
      go_wp2_with fail
      refine (impl_ReadTape_F rdRec isRec (fun t w ht => impl_rdRec t w (by unfold maxLen; omega)) sb w8 (by have := HS.out; omega)).mono ?_
      rintro e w9 ⟨v9, m9, z9, hz9, rfl, ho9, hb9⟩
      obtain ⟨A9, d9, rfl, _, _⟩ := own_slice ho9
      have hX9 := Lst.of_own ho9
      have hL9 := hL8.later hb9
      have hb9 := below_later' hb8 hb9
      clear hL8 hb8 ho9
      by_cases he : sb = ⟨#[]⟩
      · subst he
        go_wp2_with fail
        go_ret
        exact ⟨by first | rfl | simp, hb9⟩
      · have hok := HN.out.resolve_right he
        have hsb : sb = ⟨(tapeL xs n).toArray⟩ := HY.out hok (by omega)
        have hrel := HT.out hok hn
        have hrows := HW.out hok
        rw [← hsb] at hrel hrows
        obtain ⟨rfl, rfl⟩ := hz9.one hrel
        rw [hrows] at hX9
        have hne2 : (sb.toList = []) = False := by
          simp only [eq_iff_iff, iff_false]
          intro h
          apply he
          apply ByteArray.ext
          apply Array.ext'
          rw [ByteArray.toList_eq] at h
          exact h
        have hne : sb.toList.isEmpty = false := by simp [hne2]
        clear hsb hrel hrows hz9 he
        go_wp2_with fail
        refine (sameRecs_same A9 A1 _ d9 c xs w9 hX9 hL9 (by omega)).mono ?_
        rintro e w10 ⟨rfl, hb10⟩
        have hb10 := below_later' hb9 hb10
        clear hX9 hL9 hb9
        go_wp2_with fail
        go_ret
        exact ⟨by first | rfl | simp, hb10⟩
    · have q1 : ∃ p : Nat, (21 * (K : Int)) = (p : Int) ∧ ((p : Int) % 21 != 0) = false ∧ p < t.size := ⟨21 * K, by omega, by simp, by omega⟩
      obtain ⟨p, hp, q1, q2⟩ := q1
      rw [hp]
      clear hz1 hz2 hz3 hz4 hp
      go_wp2_with fail
      refine (spec_TapeBytes A1 n c xs w5 hL5 (by omega)).mono ?_
      rintro e w6 ⟨rfl, hb6⟩
      have hL6 := hL5.later hb6
      have hX6 := hX5.later hb6
      have hY6 := hY5.later hb6
      have hb6 := below_later' hb5 hb6
      clear hL5 hX5 hY5 hb5
      generalize tapeB xs n = sb at *
      go_wp2_with fail
      refine (sameRecs_same A2 A3 0 d2 d3 _ w6 hX6 hY6 hm).mono ?_
      rintro e w7 ⟨rfl, hb7⟩
      have hL7 := hL6.later hb7
      have hb7 := below_later' hb6 hb7
      clear hL6 hX6 hY6 hb6
      go_wp2_with fail
      refine (impl_ReadTape_F rdRec isRec (fun t w ht => impl_rdRec t w (by unfold maxLen; omega)) sb w7 (by have := HS.out; omega)).mono ?_
      rintro e w9 ⟨v9, m9, z9, hz9, rfl, ho9, hb9⟩
      obtain ⟨A9, d9, rfl, _, _⟩ := own_slice ho9
      have hX9 := Lst.of_own ho9
      have hL9 := hL7.later hb9
      have hb9 := below_later' hb7 hb9
      clear hL7 hb7 ho9
      by_cases he : sb = ⟨#[]⟩
      · subst he
        go_wp2_with fail
        go_ret
        exact ⟨by first | rfl | simp, hb9⟩
      · have hok := HN.out.resolve_right he
        have hsb : sb = ⟨(tapeL xs n).toArray⟩ := HY.out hok (by omega)
        have hrel := HT.out hok hn
        have hrows := HW.out hok
        rw [← hsb] at hrel hrows
        obtain ⟨rfl, rfl⟩ := hz9.one hrel
        rw [hrows] at hX9
        have hne2 : (sb.toList = []) = False := by
          simp only [eq_iff_iff, iff_false]
          intro h
          apply he
          apply ByteArray.ext
          apply Array.ext'
          rw [ByteArray.toList_eq] at h
          exact h
        have hne : sb.toList.isEmpty = false := by simp [hne2]
        clear hsb hrel hrows hz9 he
        go_wp2_with fail
        refine (sameRecs_same A9 A1 _ d9 c xs w9 hX9 hL9 (by omega)).mono ?_
        rintro e w10 ⟨rfl, hb10⟩
        have hb10 := below_later' hb9 hb10
        clear hX9 hL9 hb9
        go_wp2_with fail
        go_ret
        exact ⟨by first | rfl | simp, hb10⟩
end Go.Proofs.Ytlaklbagcgbioaa
