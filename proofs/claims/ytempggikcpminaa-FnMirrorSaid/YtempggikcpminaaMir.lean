/-
  Orders about 100, and mirrored, as the laws make them.
-/
import Derived.Test.YtempggikcpminaaMirP
import Derived.Test.YtempggikcpminaaOrd
namespace Go.Proofs.Ytempggikcpminaa
open Go.RowKit Wire

theorem mir_cell {w : World} {S : Nat} {a b c d : Value} {T : TypeId} (h : w.heap[S]? = some (.cells #[a, b, c, d] T (0, 0))) : w.cell? ⟨S, 0, none⟩ = some a ∧ w.cell? ⟨S, 1, none⟩ = some b ∧ w.cell? ⟨S, 2, none⟩ = some c ∧ w.cell? ⟨S, 3, none⟩ = some d ∧ w.frozen? ⟨S, 0, none⟩ = false ∧ w.frozen? ⟨S, 1, none⟩ = false ∧ w.frozen? ⟨S, 2, none⟩ = false ∧ w.frozen? ⟨S, 3, none⟩ = false := by
  simp [World.cell?, World.frozen?, h]
theorem mir_info : (Try.prog.info? 28).map (fun i => (i.zero, i.size, i.bytes)) = some (some (.agg #[.int .i64 0, .int .i64 0, .int .i64 0, .int .i64 0]), 4, 32) := by kernel_rfl
theorem mir_take {zs : List Int} {n k : Nat} (h : zs.length = n * 4) (hk : k < n) : (mir zs).take ((k + 1) * 4) = (mir zs).take (k * 4) ++ [num zs (k * 4), num zs (k * 4 + 1), 200 - num zs (k * 4 + 2), num zs (k * 4 + 3)] := by
  obtain ⟨m0, m1, m2, m3⟩ := mir_num n h k hk
  have hl := mir_len n h
  rw [← m0, ← m1, ← m2, ← m3]
  have hg : ∀ i, i < (mir zs).length → (mir zs)[i]? = some (num (mir zs) i) := fun i hi => by simp [num, hi]
  apply List.ext_getElem?
  intro j
  rw [List.getElem?_append, List.length_take, Nat.min_eq_left (by omega), List.getElem?_take, List.getElem?_take]
  by_cases h1 : j < k * 4
  · rw [if_pos h1, if_pos (by omega), if_pos h1]
  · rw [if_neg h1]
    rcases (show j = k * 4 ∨ j = k * 4 + 1 ∨ j = k * 4 + 2 ∨ j = k * 4 + 3 ∨ k * 4 + 4 ≤ j by omega) with rfl | rfl | rfl | rfl | h2
    · rw [if_pos (by omega), hg _ (by omega), Nat.sub_self]; rfl
    · rw [if_pos (by omega), hg _ (by omega), show k * 4 + 1 - k * 4 = 1 by omega]; rfl
    · rw [if_pos (by omega), hg _ (by omega), show k * 4 + 2 - k * 4 = 2 by omega]; rfl
    · rw [if_pos (by omega), hg _ (by omega), show k * 4 + 3 - k * 4 = 3 by omega]; rfl
    · rw [if_neg (by omega), List.getElem?_eq_none (by simp; omega)]
set_option maxHeartbeats 800000 in
theorem laws_near (A : Option Addr) (n c : Nat) (zs : List Int) (w : World) (hl : Lst w w.heap.size 4 A n zs) (hn : n ≤ 1048576) :
    Calls Try.prog 12 #[.slice A n c] w fun e w' => e = .returned (.bool (nearB zs n)) ∧ Below w.heap.size w w' := by
  go_enter Try.func12, Try.ntmps12
  go_wp2_with fail
  go_loopw [3] (fun i wr => ∃ k : Nat, k ≤ n ∧ i = .int .i64 (k : Int) ∧ nearB zs k = true ∧ Below w.heap.size w wr) (fun i _ => n - (intOf i).toNat)
  case atStart => exact ⟨0, Nat.zero_le _, rfl, rfl, Below.refl _ _⟩
  case round =>
    obtain ⟨k, hk, rfl, hok, hbel⟩ := hrel
    have HK := Lib.hid hok
    clear hok
    by_cases hlt : k < n
    · obtain ⟨b, o, rfl, hb, c0, c1, c2, c3⟩ := (hl.below hbel).row4 hlt
      clear hl
      have HS := Lib.hid (show nearB zs (k + 1) = (nearB zs k && (decide (50 ≤ num zs (k * 4 + 2)) && decide (num zs (k * 4 + 2) ≤ 150))) from rfl)
      have HNO := Lib.hid (fun h => nearB_no (zs := zs) (k := k) h n hlt)
      by_cases h1 : num zs (k * 4 + 2) < 50
      · have HN := Lib.hid (HNO.out (by omega))
        clear HNO HS
        go_wp2_with fail
        go_ret
        exact ⟨by rw [HN.out]; rfl, hbel⟩
      · by_cases h2 : 150 < num zs (k * 4 + 2)
        · have HN := Lib.hid (HNO.out (by omega))
          clear HNO HS
          go_wp2_with fail
          go_ret
          exact ⟨by rw [HN.out]; rfl, hbel⟩
        · have HY := Lib.hid (show nearB zs (k + 1) = true by rw [HS.out, HK.out, decide_eq_true (by omega), decide_eq_true (by omega)]; rfl)
          clear HNO HS
          go_wp2_with fail
          go_roundw
          case rel => exact ⟨k + 1, by omega, by go_num, HY.out, hbel⟩
          case measure => simp [intOf]; omega
    · obtain rfl : k = n := by omega
      clear hl
      go_wp2_with fail
      go_ret
      exact ⟨by rw [HK.out]; rfl, hbel⟩
set_option linter.unusedSimpArgs false in
set_option maxHeartbeats 3200000 in
set_option maxRecDepth 100000 in
theorem laws_turned (A : Option Addr) (n c : Nat) (zs : List Int) (w : World) (hl : Lst w w.heap.size 4 A n zs) (hn : n ≤ 1048576) (hnr : nearB zs n = true) :
    Calls Try.prog 13 #[.slice A n c] w fun e w' => (∃ v, e = .returned v ∧ w'.ownsRow w.heap.size 28 4 v n (nums (mir zs))) ∧ Below w.heap.size w w' := by
  obtain ⟨i0, hi, hz0, hz1, hz2⟩ := info_parts mir_info
  have HNR := Lib.hid (fun k hk => nearB_at n k hnr hk)
  have hzl := hl.1
  clear hnr
  have hB0 : Below w.heap.size w (w.alloc (.cells #[] 28)) := (Below.refl _ _).alloc (Nat.le_refl _) _
  have hq0 : (w.alloc (.cells #[] 28)).ownsRow w.heap.size 28 4 (.slice (some ⟨w.heap.size, 0, none⟩) 0 0) 0 (nums ((mir zs).take (0 * 4))) := ⟨by simp [nums], .inr ⟨w.heap.size, 0, #[], rfl, Nat.le_refl _, heap_alloc_new w _, Nat.le_refl _, Nat.zero_le _, by simp, by simp [nums]⟩⟩
  go_enter Try.func13, Try.ntmps13
  go_wp2_with fail
  go_loopw [3, 4] (fun r i wr => ∃ k : Nat, k ≤ n ∧ i = .int .i64 (k : Int) ∧ wr.ownsRow w.heap.size 28 4 r k (nums ((mir zs).take (k * 4))) ∧ Below w.heap.size w wr) (fun _ i _ => n - (intOf i).toNat)
  case atStart => exact ⟨0, Nat.zero_le _, rfl, hq0, hB0⟩
  case round =>
    clear hq0 hB0
    obtain ⟨k, hk, rfl, hown, hbel⟩ := hrel
    obtain ⟨A2, d2, rfl, _, _⟩ := own_slice hown
    by_cases hlt : k < n
    · obtain ⟨b, o, rfl, hb, c0, c1, c2, c3⟩ := (hl.below hbel).row4 hlt
      have HT := Lib.hid (mir_take hzl hlt)
      obtain ⟨p1, p2⟩ := HNR.out k hlt
      clear hl hzl
      have hbs := hbel.size
      have hov := hown.lt
      have kO := heap_alloc_new wr (.cells #[.int .i64 (num zs (k * 4)), .int .i64 (num zs (k * 4 + 1)), .int .i64 (num zs (k * 4 + 2)), .int .i64 (num zs (k * 4 + 3))] 28)
      obtain ⟨x0, x1, x2, x3, z0, z1, z2, z3⟩ := mir_cell kO
      go_upto_region 7 with fail
      clear x0 x1 x2 x3 z0 z1 z2 z3 kO c0 c1 c2 c3
      have kN := heap_alloc_new wr (.cells #[.int .i64 (num zs (k * 4)), .int .i64 (num zs (k * 4 + 1)), .int .i64 (200 - num zs (k * 4 + 2)), .int .i64 (num zs (k * 4 + 3))] 28)
      have hown3 := hown.alloc (.cells #[.int .i64 (num zs (k * 4)), .int .i64 (num zs (k * 4 + 1)), .int .i64 (200 - num zs (k * 4 + 2)), .int .i64 (num zs (k * 4 + 3))] 28)
      have hbel3 := hbel.alloc hbs (.cells #[.int .i64 (num zs (k * 4)), .int .i64 (num zs (k * 4 + 1)), .int .i64 (200 - num zs (k * 4 + 2)), .int .i64 (num zs (k * 4 + 3))] 28)
      have hbs3 := hbel3.size
      generalize wr.alloc (.cells #[.int .i64 (num zs (k * 4)), .int .i64 (num zs (k * 4 + 1)), .int .i64 (200 - num zs (k * 4 + 2)), .int .i64 (num zs (k * 4 + 3))] 28) = w3 at *
      generalize wr.heap.size = GO at *
      obtain ⟨x0, x1, x2, x3, _, _, _, _⟩ := mir_cell kN
      clear kN
      go_wp2_with (at_builtin; refine wpList_append_own _ rfl _ _ 24 rfl w.heap.size 28 i0 _ 4 32 Try.underlying24 hi hz0 hz1 hz2 rfl (by decide) _ _ _ rfl (hown3.alloc _) ⟨w3.heap.size, 0, none⟩ 1 1 (nums [num zs (k * 4), num zs (k * 4 + 1), 200 - num zs (k * 4 + 2), num zs (k * 4 + 3)]) rfl rfl ?c1 ?c2 ?c3 ?c4 ?c5 ?_)
      case c1 => exact World.news_of_block (heap_alloc_new w3 _)
      case c2 => exact nums_one _
      case c3 => unfold maxLen; omega
      case c4 => omega
      case c5 => simp; omega
      intro v' w4 hown4 hgrow4 _
      rw [← nums_append, ← HT.out] at hown4
      have hbel4 := (hbel3.alloc hbs3 (.cells #[.int .i64 (num zs (k * 4)), .int .i64 (num zs (k * 4 + 1)), .int .i64 (200 - num zs (k * 4 + 2)), .int .i64 (num zs (k * 4 + 3))] 28)).grown hgrow4 (by simp; omega) (fun q hq => (hov q hq).1)
      have HO := Lib.hid hown4
      obtain ⟨A5, d5, rfl, _, _⟩ := own_slice hown4
      clear hgrow4 hown3 hown4 hbel3 hown x0 x1 x2 x3 hov
      go_wp2_with fail
      go_roundw
      case rel => exact ⟨k + 1, by omega, by go_num, HO.out, hbel4⟩
      case measure => simp [intOf]; omega
    · obtain rfl : k = n := by omega
      have HE := Lib.hid (show (mir zs).take (k * 4) = mir zs from by rw [← mir_len k hzl, List.take_length])
      clear hl
      go_wp2_with fail
      go_ret
      exact ⟨⟨_, rfl, by rw [← HE.out]; exact hown⟩, hbel⟩
end Go.Proofs.Ytempggikcpminaa
