/-
  VolumeAt in both programs.
-/
import Derived.Test.YtfodkefaflpicabAuc
namespace Go.Proofs.Ytfodkefaflpicab
open Go.RowKit Wire

theorem volP_no {za zb : List Int} {n m : Nat} {p : Int} (h : (aucB za n && (aucB zb m && inB 1 p 1000000)) = false) : volP za zb n m p = -1 := by simp only [volP, h]; rfl
theorem volP_yes {za zb : List Int} {n m : Nat} {p : Int} (h : (aucB za n && (aucB zb m && inB 1 p 1000000)) = true) : volP za zb n m p = min (sumW 1 za p n) (sumW 2 zb p m) := by simp only [volP, h]; rfl
theorem fld1 (a b c : Value) (w : World) : (Instr.field 67 (.agg #[a, b, c]) 1).run Try.prog w = .ok b w := by kernel_rfl
theorem aucB_at {zs : List Int} {n : Nat} (h : aucB zs n = true) : n ≤ 60 ∧ allO zs n = true := by simpa [aucB] using h
set_option maxHeartbeats 1600000 in
set_option maxRecDepth 100000 in
theorem spec_VolumeAt (A : Option Addr) (n c : Nat) (za : List Int) (B : Option Addr) (m d : Nat) (zb : List Int) (p : Int) (w : World) (hl : Lst w w.heap.size 4 A n za) (hn : n ≤ 1048576) (hr : Lst w w.heap.size 4 B m zb) (hm : m ≤ 1048576) :
    Calls Try.prog 14 #[.slice A n c, .slice B m d, .int .i64 p] w fun e w' => e = .returned (.int .i64 (volP za zb n m p)) ∧ Below w.heap.size w w' := by
  rcases Bool.eq_false_or_eq_true (aucB za n) with h1 | h1
  rotate_left
  · have HN := Lib.hid (volP_no (za := za) (zb := zb) (n := n) (m := m) (p := p) (by simp [h1]))
    go_enter Try.func14, Try.ntmps14
    go_wp2_with fail
    refine (auc_specOk A n c za _ hl hn).mono ?_
    rw [h1]
    rintro e w1 ⟨rfl, hb1⟩
    clear h1
    go_wp2_with fail
    go_ret
    exact ⟨by rw [HN.out]; (first | done | rfl), hb1⟩
  rcases Bool.eq_false_or_eq_true (aucB zb m) with h2 | h2
  rotate_left
  · have HN := Lib.hid (volP_no (za := za) (zb := zb) (n := n) (m := m) (p := p) (by simp [h2]))
    go_enter Try.func14, Try.ntmps14
    go_wp2_with fail
    refine (auc_specOk A n c za _ hl hn).mono ?_
    rw [h1]
    rintro e w1 ⟨rfl, hb1⟩
    clear h1
    go_wp2_with fail
    refine (auc_specOk B m d zb _ (hr.later hb1) hm).mono ?_
    rw [h2]
    rintro e w2 ⟨rfl, hb2⟩
    have hB := below_later hb1 hb2
    have hl2 := hl.later hB
    have hr2 := hr.later hB
    clear h2 hb1 hb2 hl hr
    go_wp2_with fail
    go_ret
    exact ⟨by rw [HN.out]; (first | done | rfl), hB⟩
  rcases Bool.eq_false_or_eq_true (inB 1 p 1000000) with h3 | h3
  rotate_left
  · have HN := Lib.hid (volP_no (za := za) (zb := zb) (n := n) (m := m) (p := p) (by simp [h3]))
    go_enter Try.func14, Try.ntmps14
    go_wp2_with fail
    refine (auc_specOk A n c za _ hl hn).mono ?_
    rw [h1]
    rintro e w1 ⟨rfl, hb1⟩
    clear h1
    go_wp2_with fail
    refine (auc_specOk B m d zb _ (hr.later hb1) hm).mono ?_
    rw [h2]
    rintro e w2 ⟨rfl, hb2⟩
    have hB := below_later hb1 hb2
    have hl2 := hl.later hB
    have hr2 := hr.later hB
    clear h2 hb1 hb2 hl hr
    go_wp2_with fail
    refine (l1In_any _ _ _ _).mono ?_
    rw [h3]
    rintro e w3 ⟨rfl, rfl⟩
    clear h3
    go_wp2_with fail
    go_ret
    exact ⟨by rw [HN.out]; (first | done | rfl), hB⟩
  have hv := volP_yes (za := za) (zb := zb) (n := n) (m := m) (p := p) (by simp [h1, h2, h3])
  obtain ⟨n60, oa⟩ := aucB_at h1
  obtain ⟨m60, ob⟩ := aucB_at h2
  have HI := Lib.hid (fun w hl => auc_sumS A n c za 1 p w hl n60 oa)
  have HJ := Lib.hid (fun w hl => auc_sumS B m d zb 2 p w hl m60 ob)
  have HV := Lib.hid hv
  clear hv oa ob
  generalize sumW 1 za p n = sa at *
  generalize sumW 2 zb p m = sb at *
  rcases (show sa ≤ sb ∨ sb < sa by omega) with h | h
  · have HN := Lib.hid (HV.out.trans (show min sa sb = sa by omega))
    go_enter Try.func14, Try.ntmps14
    go_wp2_with fail
    refine (auc_specOk A n c za _ hl hn).mono ?_
    rw [h1]
    rintro e w1 ⟨rfl, hb1⟩
    clear h1
    go_wp2_with fail
    refine (auc_specOk B m d zb _ (hr.later hb1) hm).mono ?_
    rw [h2]
    rintro e w2 ⟨rfl, hb2⟩
    have hB := below_later hb1 hb2
    have hl2 := hl.later hB
    have hr2 := hr.later hB
    clear h2 hb1 hb2 hl hr
    go_wp2_with fail
    refine (l1In_any _ _ _ _).mono ?_
    rw [h3]
    rintro e w3 ⟨rfl, rfl⟩
    clear h3
    go_wp2_with fail
    refine (HI.out _ hl2).mono ?_
    rintro e w4 ⟨rfl, hb4⟩
    have hB4 := below_later hB hb4
    have hr4 := hr2.later hb4
    clear hB hb4 hl2 hr2
    go_wp2_with fail
    refine (HJ.out _ hr4).mono ?_
    rintro e w5 ⟨rfl, hb5⟩
    have hB5 := below_later hB4 hb5
    clear hB4 hb5
    go_wp2_with fail
    go_ret
    exact ⟨by rw [HN.out]; (first | done | rfl), hB5⟩
  · have HN := Lib.hid (HV.out.trans (show min sa sb = sb by omega))
    go_enter Try.func14, Try.ntmps14
    go_wp2_with fail
    refine (auc_specOk A n c za _ hl hn).mono ?_
    rw [h1]
    rintro e w1 ⟨rfl, hb1⟩
    clear h1
    go_wp2_with fail
    refine (auc_specOk B m d zb _ (hr.later hb1) hm).mono ?_
    rw [h2]
    rintro e w2 ⟨rfl, hb2⟩
    have hB := below_later hb1 hb2
    have hl2 := hl.later hB
    have hr2 := hr.later hB
    clear h2 hb1 hb2 hl hr
    go_wp2_with fail
    refine (l1In_any _ _ _ _).mono ?_
    rw [h3]
    rintro e w3 ⟨rfl, rfl⟩
    clear h3
    go_wp2_with fail
    refine (HI.out _ hl2).mono ?_
    rintro e w4 ⟨rfl, hb4⟩
    have hB4 := below_later hB hb4
    have hr4 := hr2.later hb4
    clear hB hb4 hl2 hr2
    go_wp2_with fail
    refine (HJ.out _ hr4).mono ?_
    rintro e w5 ⟨rfl, hb5⟩
    have hB5 := below_later hB4 hb5
    clear hB4 hb5
    go_wp2_with fail
    go_ret
    exact ⟨by rw [HN.out]; (first | done | rfl), hB5⟩
set_option maxHeartbeats 1600000 in
set_option maxRecDepth 100000 in
theorem impl_VolumeAt (A : Option Addr) (n c : Nat) (za : List Int) (B : Option Addr) (m d : Nat) (zb : List Int) (p : Int) (w : World) (hl : Lst w w.heap.size 4 A n za) (hn : n ≤ 1048576) (hr : Lst w w.heap.size 4 B m zb) (hm : m ≤ 1048576) :
    Calls Try.prog 13 #[.slice A n c, .slice B m d, .int .i64 p] w fun e w' => e = .returned (.int .i64 (volP za zb n m p)) ∧ Below w.heap.size w w' := by
  rcases Bool.eq_false_or_eq_true (aucB za n && aucB zb m) with h1 | h1
  rotate_left
  · have HN := Lib.hid (volP_no (za := za) (zb := zb) (n := n) (m := m) (p := p) (by rw [← Bool.and_assoc, h1]; rfl))
    go_enter Try.func13, Try.ntmps13
    go_wp2_with fail
    refine (auc_ok A n c za B m d zb _ hl hn hr hm).mono ?_
    rw [h1]
    rintro e w1 ⟨rfl, hB⟩
    have hl2 := hl.later hB
    have hr2 := hr.later hB
    clear h1 hl hr
    go_wp2_with fail
    go_ret
    exact ⟨by rw [HN.out]; (first | done | rfl), hB⟩
  rcases Bool.eq_false_or_eq_true (inB 1 p 1000000) with h3 | h3
  rotate_left
  · have HN := Lib.hid (volP_no (za := za) (zb := zb) (n := n) (m := m) (p := p) (by simp [h3]))
    go_enter Try.func13, Try.ntmps13
    go_wp2_with fail
    refine (auc_ok A n c za B m d zb _ hl hn hr hm).mono ?_
    rw [h1]
    rintro e w1 ⟨rfl, hB⟩
    have hl2 := hl.later hB
    have hr2 := hr.later hB
    clear h1 hl hr
    go_wp2_with fail
    refine (within_any _ _ _ _).mono ?_
    rw [h3]
    rintro e w3 ⟨rfl, rfl⟩
    clear h3
    go_wp2_with fail
    go_ret
    exact ⟨by rw [HN.out]; (first | done | rfl), hB⟩
  have HN := Lib.hid (volP_yes (za := za) (zb := zb) (n := n) (m := m) (p := p) (by rw [← Bool.and_assoc, h1, h3]; rfl))
  obtain ⟨g1, g2⟩ : aucB za n = true ∧ aucB zb m = true := by simpa using h1
  obtain ⟨n60, oa⟩ := aucB_at g1
  obtain ⟨m60, ob⟩ := aucB_at g2
  have hfl := fld1
  have HC := Lib.hid (fun w hl hr => auc_clearing A n c za B m d zb p w hl n60 oa hr m60 ob)
  clear oa ob g1 g2
  go_enter Try.func13, Try.ntmps13
  go_wp2_with fail
  refine (auc_ok A n c za B m d zb _ hl hn hr hm).mono ?_
  rw [h1]
  rintro e w1 ⟨rfl, hB⟩
  have hl2 := hl.later hB
  have hr2 := hr.later hB
  clear h1 hl hr
  go_wp2_with fail
  refine (within_any _ _ _ _).mono ?_
  rw [h3]
  rintro e w3 ⟨rfl, rfl⟩
  clear h3
  go_wp2_with fail
  refine (HC.out _ hl2 hr2).mono ?_
  rintro e w4 ⟨rfl, hb4⟩
  have hB4 := below_later hB hb4
  clear hB hb4 hl2 hr2 HC
  generalize min (sumW 1 za p n) (sumW 2 zb p m) = v at *
  generalize max (sumW 1 za p n) (sumW 2 zb p m) = g at *
  go_wp2_with fail
  go_ret
  exact ⟨by rw [HN.out]; (first | done | rfl), hB4⟩
end Go.Proofs.Ytfodkefaflpicab
