/-
  The update from levels to levels: the program's.
-/
import Derived.Test.YtfodkefaflpicaaGDT
import Derived.Test.YtfodkefaflpicaaKeep
import Derived.Deep.LoopGhost
namespace Go.Proofs.Ytfodkefaflpicaa
open Go.RowKit Wire

set_option linter.unusedSimpArgs false in
set_option maxHeartbeats 3200000 in
set_option maxRecDepth 100000 in
theorem impl_DepthDelta (A : Option Addr) (n c : Nat) (za : List Int) (B : Option Addr) (m d : Nat) (zb : List Int) (side : Int) (w : World) (hl : Lst w w.heap.size 3 A n za) (hn : n ≤ 1048576) (hr : Lst w w.heap.size 3 B m zb) (hm : m ≤ 1048576) :
    Calls Try.prog 18 #[.slice A n c, .slice B m d, .int .i64 side] w fun e w' => (∃ v N, e = .returned (.tuple #[v, .bool (dltB side za n zb m)]) ∧ (dltZ side za n zb m).length = N * 3 ∧ w'.ownsRow w.heap.size 94 3 v N (nums (dltZ side za n zb m))) ∧ Below w.heap.size w w' := by
  obtain ⟨i0, hi, hz0, hz1, hz2⟩ := info_parts lev_info
  rcases Bool.eq_false_or_eq_true (lvsB side za n) with h1 | h1
  rotate_left
  · have HN := Lib.hid (show dltB side za n zb m = false by simp [dltB, h1])
    have HZ := Lib.hid (show dltZ side za n zb m = [] by simp [dltZ, HN.out])
    go_enter Try.func18, Try.ntmps18
    go_wp2_with fail
    go_step3
    go_wp2_with fail
    refine (impl_LevelsOk A n c za side _ hl hn).mono ?_
    rw [h1]
    rintro e w1 ⟨rfl, hb1⟩
    clear h1 hl hr
    go_wp2_with fail
    rw [Exit.noGoto_ret]
    refine bodyPost_ret (v := .tuple #[.slice none 0 0, .bool false]) (by simp [results, Try.results18, go_sem]) rfl ⟨⟨_, 0, by rw [HN.out], by rw [HZ.out]; rfl, ?_⟩, hb1⟩
    rw [HZ.out]
    exact World.ownsRow_nil _ _ _ _
  rcases Bool.eq_false_or_eq_true (lvsB side zb m) with h2 | h2
  rotate_left
  · have HN := Lib.hid (show dltB side za n zb m = false by simp [dltB, h2])
    have HZ := Lib.hid (show dltZ side za n zb m = [] by simp [dltZ, HN.out])
    go_enter Try.func18, Try.ntmps18
    go_wp2_with fail
    go_step3
    go_wp2_with fail
    refine (impl_LevelsOk A n c za side _ hl hn).mono ?_
    rw [h1]
    rintro e w1 ⟨rfl, hb1⟩
    go_wp2_with fail
    refine (impl_LevelsOk B m d zb side _ (hr.later hb1) hm).mono ?_
    rw [h2]
    rintro e w2 ⟨rfl, hb2⟩
    have hB := below_later hb1 hb2
    clear h1 h2 hl hr hb1 hb2
    go_wp2_with fail
    rw [Exit.noGoto_ret]
    refine bodyPost_ret (v := .tuple #[.slice none 0 0, .bool false]) (by simp [results, Try.results18, go_sem]) rfl ⟨⟨_, 0, by rw [HN.out], by rw [HZ.out]; rfl, ?_⟩, hB⟩
    rw [HZ.out]
    exact World.ownsRow_nil _ _ _ _
  have HN := Lib.hid (show dltB side za n zb m = true by simp [dltB, h1, h2])
  have HZ := Lib.hid (show dltZ side za n zb m = goneL za zb m n ++ comeL za zb n m by simp [dltZ, HN.out])
  have HV := Lib.hid (show lvTo side za n = true by simp only [lvsB, Bool.and_eq_true] at h1; exact h1.2.2)
  go_enter Try.func18, Try.ntmps18
  go_wp2_with fail
  go_step3
  go_wp2_with fail
  refine (impl_LevelsOk A n c za side _ hl hn).mono ?_
  rw [h1]
  rintro e w1 ⟨rfl, hb1⟩
  go_wp2_with fail
  refine (impl_LevelsOk B m d zb side _ (hr.later hb1) hm).mono ?_
  rw [h2]
  rintro e w2 ⟨rfl, hb2⟩
  have hB := below_later hb1 hb2
  clear h1 h2 hb1 hb2
  go_wp2_with fail
  go_step3
  go_wp2_with fail
  go_loopg [8, 27] n (fun g s8 s27 wx => ∃ k N : Nat, k + g = n ∧ N ≤ k ∧ s27 = .int .i64 (k : Int) ∧ (goneL za zb m k).length = N * 3 ∧ wx.ownsRow w.heap.size 94 3 s8 N (nums (goneL za zb m k)) ∧ Below w.heap.size w wx)
  case atStart => exact ⟨0, 0, by omega, Nat.le_refl _, rfl, rfl, World.ownsRow_nil _ _ _ _, hB⟩
  case round =>
    clear hB
    obtain ⟨k, N, hkg, hNk, rfl, hlen, hown, hbel⟩ := hrel
    obtain ⟨A2, d2, rfl, _, _⟩ := own_slice hown
    cases gk with
    | zero =>
      have hkz : ¬ ((k : Int) < (n : Int)) := by omega
      obtain rfl : k = n := by omega
      have HLN := Lib.hid hlen
      clear hlen hkz
      go_wp2_with fail
      go_loopg [8, 52] m (fun g2 s8 s52 wy => ∃ j N : Nat, j + g2 = m ∧ N ≤ k + j ∧ s52 = .int .i64 (j : Int) ∧ (goneL za zb m k ++ comeL za zb k j).length = N * 3 ∧ wy.ownsRow w.heap.size 94 3 s8 N (nums (goneL za zb m k ++ comeL za zb k j)) ∧ Below w.heap.size w wy)
      case atStart => exact ⟨0, N, by omega, by omega, rfl, by simp [comeL, HLN.out], by simpa [comeL] using hown, hbel⟩
      case round =>
        clear hown hbel HLN
        obtain ⟨j, N, hjg, hNj, rfl, hlen, hown, hbel⟩ := hrel
        obtain ⟨A2, d2, rfl, _, _⟩ := own_slice hown
        cases gk with
        | zero =>
          have hjz : ¬ ((j : Int) < (m : Int)) := by omega
          obtain rfl : j = m := by omega
          have HD : Hid (dltZ side za k zb j = goneL za zb j k ++ comeL za zb k j) := Lib.hid HZ.out
          clear hl hr hjz
          go_wp2_with fail
          rw [Exit.noGoto_ret]
          exact bodyPost_ret (v := .tuple #[.slice A2 N d2, .bool true]) (by simp [results, Try.results18, go_sem]) rfl ⟨⟨_, N, by rw [HN.out], by rw [HD.out]; exact hlen, by rw [HD.out]; exact hown⟩, hbel⟩
        | succ g2 =>
          have hjl : j < m := by omega
          have hjz : (j : Int) < (m : Int) := by omega
          obtain ⟨b, o, rfl, hb, c0, c1, c2⟩ := (hr.below hbel).row3 hjl
          have HG := Lib.hid (show comeL za zb k (j + 1) = if newL za k (num zb (j * 3)) (num zb (j * 3 + 1)) (num zb (j * 3 + 2)) = true then comeL za zb k j ++ [num zb (j * 3), num zb (j * 3 + 1), num zb (j * 3 + 2)] else comeL za zb k j from rfl)
          have HLN := Lib.hid hlen
          have HW := Lib.hid (newL_has (p := num zb (j * 3)) (q := num zb (j * 3 + 1)) (m := num zb (j * 3 + 2)) HV.out)
          clear hlen
          go_wp2_with fail
          have hx := heap_alloc_new wr (.cells #[.int .i64 (num zb (j * 3)), .int .i64 (num zb (j * 3 + 1)), .int .i64 (num zb (j * 3 + 2))] 94)
          replace hown := hown.alloc (.cells #[.int .i64 (num zb (j * 3)), .int .i64 (num zb (j * 3 + 1)), .int .i64 (num zb (j * 3 + 2))] 94)
          replace hbel := hbel.alloc hbel.size (.cells #[.int .i64 (num zb (j * 3)), .int .i64 (num zb (j * 3 + 1)), .int .i64 (num zb (j * 3 + 2))] 94)
          clear c0 c1 c2
          generalize wr.alloc (.cells #[.int .i64 (num zb (j * 3)), .int .i64 (num zb (j * 3 + 1)), .int .i64 (num zb (j * 3 + 2))] 94) = wx at *
          generalize wr.heap.size = xb at *
          have hbs := hbel.size
          refine (lev_Contains A k c za (num zb (j * 3)) (num zb (j * 3 + 1)) (num zb (j * 3 + 2)) wx ((hl.below hbel).more hbs) hn).mono ?_
          rcases Bool.eq_false_or_eq_true (hasTo za (num zb (j * 3)) (num zb (j * 3 + 1)) (num zb (j * 3 + 2)) k) with hh | hh
          · have HS := Lib.hid (show newL za k (num zb (j * 3)) (num zb (j * 3 + 1)) (num zb (j * 3 + 2)) = false by rw [HW.out, hh]; rfl)
            rw [hh]
            rintro e w5 ⟨rfl, hb5⟩
            replace hown := own_below hown hb5
            replace hbel := hbel.trans (hb5.mono hbs)
            clear hh hb5 hx hl hr
            go_wp2_with fail
            go_roundg g2
            case measure => omega
            case rel => exact ⟨j + 1, N, by omega, by omega, by go_num, by rw [HG.out, if_neg (by rw [HS.out]; simp)]; exact HLN.out, by rw [HG.out, if_neg (by rw [HS.out]; simp)]; exact hown, hbel⟩
          · have HS := Lib.hid (show newL za k (num zb (j * 3)) (num zb (j * 3 + 1)) (num zb (j * 3 + 2)) = true by rw [HW.out, hh]; rfl)
            rw [hh]
            rintro e w5 ⟨rfl, hb5⟩
            have hx1 := (hb5.block xb (heap_lt' hx)).trans hx
            have x0 := cell_of_row w5 xb 0 _ _ (0, 0) hx1
            have x1 := cell_of_row w5 xb 1 _ _ (0, 0) hx1
            have x2 := cell_of_row w5 xb 2 _ _ (0, 0) hx1
            simp only [List.getElem?_toArray, List.getElem?_cons_zero, List.getElem?_cons_succ] at x0 x1 x2
            replace hown := own_below hown hb5
            replace hbel := hbel.trans (hb5.mono hbs)
            clear hh hb5 hx hx1
            have hbs2 := hbel.size
            have hov := hown.lt
            go_wp2_with (at_builtin; refine wpList_append_own_at _ rfl _ _ 40 rfl w.heap.size 94 i0 _ 3 24 Try.underlying40 hi hz0 hz1 hz2 rfl (by decide) _ _ _ rfl (hown.alloc _) ⟨w5.heap.size, 0, none⟩ 1 1 [.int .i64 (num zb (j * 3)), .int .i64 (num zb (j * 3 + 1)), .int .i64 (num zb (j * 3 + 2))] rfl rfl (World.news_of_block (heap_alloc_new w5 _)) (by intro u hu; simp at hu; rcases hu with rfl | rfl | rfl <;> rfl) (by unfold maxLen; omega) (by omega) (by simp; omega) ?_)
            intro v' w6 hown2 hgrow2 _ _
            have hbel2 := (hbel.alloc hbs2 (.cells #[.int .i64 (num zb (j * 3)), .int .i64 (num zb (j * 3 + 1)), .int .i64 (num zb (j * 3 + 2))] 94)).grown hgrow2 (by simp; omega) (fun q hq => (hov q hq).1)
            obtain ⟨A3, d3, rfl, _, _⟩ := own_slice hown2
            have HO2 := Lib.hid hown2
            have HB2 := Lib.hid hbel2
            clear hbel2 hgrow2 hown2 hbel hown x0 x1 x2 hl hr
            go_wp2_with fail
            go_roundg g2
            case measure => omega
            case rel => exact ⟨j + 1, N + 1, by omega, by omega, by go_num, by rw [HG.out, if_pos HS.out, ← List.append_assoc, List.length_append, HLN.out]; simp; omega, by rw [HG.out, if_pos HS.out, ← List.append_assoc, nums_append]; exact HO2.out, HB2.out⟩
    | succ g =>
      have hlt : k < n := by omega
      have hkz : (k : Int) < (n : Int) := by omega
      obtain ⟨b, o, rfl, hb, c0, c1, c2⟩ := (hl.below hbel).row3 hlt
      have HG := Lib.hid (show goneL za zb m (k + 1) = if spotL zb (num za (k * 3)) m = none then goneL za zb m k ++ [num za (k * 3), 0, 0] else goneL za zb m k from rfl)
      have HLN := Lib.hid hlen
      clear hlen
      go_wp2_with fail
      have hx := heap_alloc_new wr (.cells #[.int .i64 (num za (k * 3)), .int .i64 (num za (k * 3 + 1)), .int .i64 (num za (k * 3 + 2))] 94)
      replace hown := hown.alloc (.cells #[.int .i64 (num za (k * 3)), .int .i64 (num za (k * 3 + 1)), .int .i64 (num za (k * 3 + 2))] 94)
      replace hbel := hbel.alloc hbel.size (.cells #[.int .i64 (num za (k * 3)), .int .i64 (num za (k * 3 + 1)), .int .i64 (num za (k * 3 + 2))] 94)
      clear c0 c1 c2
      generalize wr.alloc (.cells #[.int .i64 (num za (k * 3)), .int .i64 (num za (k * 3 + 1)), .int .i64 (num za (k * 3 + 2))] 94) = wx at *
      generalize wr.heap.size = xb at *
      have hbs := hbel.size
      go_loopg [33] m (fun g2 s33 wy => ∃ j : Nat, j + g2 = m ∧ s33 = .int .i64 (j : Int) ∧ (∀ q, q < j → num zb (q * 3) ≠ num za (k * 3)) ∧ Below wx.heap.size wx wy)
      case atStart => exact ⟨0, by omega, rfl, fun q hq => absurd hq (Nat.not_lt_zero q), Below.refl _ _⟩
      case round =>
        obtain ⟨j, hjg, rfl, hno, hbi⟩ := hrel
        have HNO := Lib.hid hno
        clear hno
        cases gk with
        | zero =>
          have hjz : ¬ ((j : Int) < (m : Int)) := by omega
          obtain rfl : j = m := by omega
          have HS := Lib.hid ((spotL_none j).2 HNO.out)
          have hx1 := (hbi.block xb (heap_lt' hx)).trans hx
          have x0 := cell_of_row wr xb 0 _ _ (0, 0) hx1
          simp only [List.getElem?_toArray, List.getElem?_cons_zero] at x0
          replace hown := own_below hown hbi
          replace hbel := hbel.trans (hbi.mono hbs)
          clear hx hx1 hbi
          have hbs2 := hbel.size
          have hov := hown.lt
          go_wp2_with (at_builtin; refine wpList_append_own_at _ rfl _ _ 40 rfl w.heap.size 94 i0 _ 3 24 Try.underlying40 hi hz0 hz1 hz2 rfl (by decide) _ _ _ rfl (hown.alloc _) ⟨wr.heap.size, 0, none⟩ 1 1 [.int .i64 (num za (k * 3)), .int .i64 0, .int .i64 0] rfl rfl (World.news_of_block (heap_alloc_new wr _)) (by intro u hu; simp at hu; rcases hu with rfl | rfl | rfl <;> rfl) (by unfold maxLen; omega) (by omega) (by simp; omega) ?_)
          intro v' w6 hown2 hgrow2 _ _
          have hbel2 := (hbel.alloc hbs2 (.cells #[.int .i64 (num za (k * 3)), .int .i64 0, .int .i64 0] 94)).grown hgrow2 (by simp; omega) (fun q hq => (hov q hq).1)
          obtain ⟨A3, d3, rfl, _, _⟩ := own_slice hown2
          have HO2 := Lib.hid hown2
          have HB2 := Lib.hid hbel2
          clear hbel2 hgrow2 hown2 hbel hown x0 hl hr
          go_wp2_with fail
          go_roundg g
          case measure => omega
          case rel => exact ⟨k + 1, N + 1, by omega, by omega, by go_num, by rw [HG.out, if_pos HS.out, List.length_append, HLN.out]; simp; omega, by rw [HG.out, if_pos HS.out, nums_append]; exact HO2.out, HB2.out⟩
        | succ g2 =>
          have hjl : j < m := by omega
          have hjz : (j : Int) < (m : Int) := by omega
          replace hown := own_below hown hbi
          have hbel2 := hbel.trans (hbi.mono hbs)
          obtain ⟨b', o', rfl, hb', d0, d1, d2⟩ := (hr.below hbel2).row3 hjl
          have hx1 := (hbi.block xb (heap_lt' hx)).trans hx
          have hx2 := (Below.heap_alloc wr (.cells #[.int .i64 (num zb (j * 3)), .int .i64 (num zb (j * 3 + 1)), .int .i64 (num zb (j * 3 + 2))] 94) xb (heap_lt' hx1)).trans hx1
          have x0 := cell_of_row _ xb 0 _ _ (0, 0) hx2
          simp only [List.getElem?_toArray, List.getElem?_cons_zero] at x0
          have hbi2 := hbi.alloc hbi.size (.cells #[.int .i64 (num zb (j * 3)), .int .i64 (num zb (j * 3 + 1)), .int .i64 (num zb (j * 3 + 2))] 94)
          clear hx1 hx2
          by_cases he : num za (k * 3) = num zb (j * 3)
          · have HS := Lib.hid (spotL_one hjl HNO.out he.symm)
            rw [he] at x0
            have HE := Lib.hid he
            clear he
            go_wp2_with fail
            go_roundg g
            case measure => omega
            case rel => exact ⟨k + 1, N, by omega, by omega, by go_num, by rw [HG.out, if_neg (by rw [HS.out]; simp)]; exact HLN.out, by rw [HG.out, if_neg (by rw [HS.out]; simp)]; exact hown.alloc _, hbel.trans (hbi2.mono hbs)⟩
          · have HE := Lib.hid he
            have t : (num za (k * 3) == num zb (j * 3)) = false := beq_eq_false_iff_ne.2 he
            clear he
            go_wp2_with fail
            go_roundg g2
            case measure => omega
            case rel => exact ⟨j + 1, by omega, by go_num, fun q hq => by
              rcases Nat.lt_or_ge q j with h | h
              · exact HNO.out q h
              · obtain rfl : q = j := by omega
                exact fun e => HE.out e.symm, hbi2⟩
end Go.Proofs.Ytfodkefaflpicaa
