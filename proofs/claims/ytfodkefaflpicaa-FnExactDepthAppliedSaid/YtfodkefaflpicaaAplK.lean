/-
  Updates applied to levels: the program's DepthApplied.
-/
import Derived.Test.YtfodkefaflpicaaAplJ
namespace Go.Proofs.Ytfodkefaflpicaa
open Go.RowKit Wire

set_option linter.unusedSimpArgs false in
set_option maxHeartbeats 3200000 in
set_option maxRecDepth 100000 in
theorem impl_DepthApplied (A : Option Addr) (n c : Nat) (za : List Int) (B : Option Addr) (m d : Nat) (zd : List Int) (side : Int) (w : World) (hl : Lst w w.heap.size 3 A n za) (hA : A = none → n = 0 ∧ c = 0) (hn : n ≤ 1048576) (hr : Lst w w.heap.size 3 B m zd) (hm : m ≤ 1048576) :
    Calls Try.prog 21 #[.slice A n c, .slice B m d, .int .i64 side] w fun e w' => (∃ v N, e = .returned (.tuple #[v, .bool (aplB side za n zd m)]) ∧ (aplZ side za n zd m).length = N * 3 ∧ w'.ownsRow w.heap.size 94 3 v N (nums (aplZ side za n zd m))) ∧ Below w.heap.size w w' := by
  rcases Bool.eq_false_or_eq_true (lvsB side za n) with h1 | h1
  rotate_left
  · have HN := Lib.hid (show aplB side za n zd m = false by simp [aplB, h1])
    have HZ := Lib.hid (show aplZ side za n zd m = [] by simp [aplZ, HN.out])
    go_enter Try.func21, Try.ntmps21
    go_wp2_with fail
    refine (impl_LevelsOk A n c za side _ hl hn).mono ?_
    rw [h1]
    rintro e w1 ⟨rfl, hb1⟩
    have HB := Lib.hid hb1
    clear h1 hl hr
    go_wp2_with fail
    refine bodyPost_ret (v := .tuple #[.slice none 0 0, .bool false]) (by simp [results, Try.results21, go_sem]) rfl ⟨⟨_, 0, by rw [HN.out], by rw [HZ.out]; rfl, ?_⟩, HB.out⟩
    rw [HZ.out]
    exact World.ownsRow_nil _ _ _ _
  have ho : LvOrd side za n := LvOrd.of_lvTo (by simp [lvsB] at h1; exact h1.2.2)
  have hz := hl.1
  have HAP := Lib.hid (fun k => apl_ok (zd := zd) hz ho k)
  clear ho hz
  have hn40 : n ≤ 40 := by simp [lvsB] at h1; exact h1.2.1
  have HL1 := Lib.hid h1
  rcases Bool.eq_false_or_eq_true (decide (m ≤ 80) && updTo zd m) with hu | hu
  rotate_left
  · have HN := Lib.hid (show aplB side za n zd m = false by unfold aplB; rw [← Bool.and_assoc (decide (m ≤ 80)), hu]; simp)
    have HZ := Lib.hid (show aplZ side za n zd m = [] by simp [aplZ, HN.out])
    go_enter Try.func21, Try.ntmps21
    go_wp2_with fail
    refine (impl_LevelsOk A n c za side _ hl hn).mono ?_
    rw [h1]
    rintro e w1 ⟨rfl, hb1⟩
    go_wp2_with fail
    refine (impl_updatesOk B m d zd _ (hr.later hb1) hm).mono ?_
    rw [hu]
    rintro e w2 ⟨rfl, hb2⟩
    have HB := Lib.hid (below_later hb1 hb2)
    clear h1 hu hl hr hb1 hb2
    go_wp2_with fail
    refine bodyPost_ret (v := .tuple #[.slice none 0 0, .bool false]) (by simp [results, Try.results21, go_sem]) rfl ⟨⟨_, 0, by rw [HN.out], by rw [HZ.out]; rfl, ?_⟩, HB.out⟩
    rw [HZ.out]
    exact World.ownsRow_nil _ _ _ _
  have hm80 : m ≤ 80 := by simp at hu; exact hu.1
  have HU := Lib.hid (show updTo zd m = true by simp at hu; exact hu.2)
  go_enter Try.func21, Try.ntmps21
  go_wp2_with fail
  refine (impl_LevelsOk A n c za side _ hl hn).mono ?_
  rw [h1]
  rintro e w1 ⟨rfl, hb1⟩
  go_wp2_with fail
  refine (impl_updatesOk B m d zd _ (hr.later hb1) hm).mono ?_
  rw [hu]
  rintro e w2 ⟨rfl, hb2⟩
  have hB := below_later hb1 hb2
  clear h1 hu hb1 hb2
  go_wp2_with fail
  refine (lev_Clone A n c za _ ((hl.below hB).more hB.size) hA hn).mono ?_
  rintro e w3 ⟨⟨v3, rfl, hown3⟩, hb3⟩
  have hO := delt_mono (base' := w.heap.size) hown3 hB.size
  replace hB := below_later hB hb3
  have HO := Lib.hid hO
  obtain ⟨A3, d3, rfl, _, _⟩ := own_slice hO
  clear hown3 hb3 hO
  go_wp2_with fail
  go_loopw [8, 24] (fun r i wr => ∃ k N : Nat, k ≤ m ∧ N ≤ n + k ∧ i = .int .i64 (k : Int) ∧ (aplL side za zd k).length = N * 3 ∧ wr.ownsRow w.heap.size 94 3 r N (nums (aplL side za zd k)) ∧ Below w.heap.size w wr) (fun _ i _ => m - (intOf i).toNat)
  case atStart => exact ⟨0, n, Nat.zero_le _, by omega, rfl, hl.1, HO.out, hB⟩
  case round =>
    clear HO hB hl
    obtain ⟨k, N, hk, hNk, rfl, hlen, hown, hbel⟩ := hrel
    have HLN := Lib.hid hlen
    clear hlen
    have hN1 : N ≤ 1048576 := by omega
    by_cases hlt : k < m
    · obtain ⟨b, o, rfl, hb, c0, c1, c2⟩ := (hr.below hbel).row3 hlt
      have hbw := Nat.lt_of_lt_of_le hb hbel.size
      have HAN := Lib.hid (show aplL side za zd (k + 1) = putL side (aplL side za zd k) N (num zd (k * 3)) (num zd (k * 3 + 1)) (num zd (k * 3 + 2)) by rw [aplL, apl_cnt HLN.out])
      have HUK := Lib.hid (updTo_at m k HU.out hlt)
      have HOR := Lib.hid (show LvOrd side (aplL side za zd k) N by have := (HAP.out k).2; rwa [apl_cnt HLN.out] at this)
      clear hr
      have hbs := hbel.size
      have hov := hown.lt
      go_wp2_with fail
      refine (impl_updated w.heap.size N _ (aplL side za zd k) (num zd (k * 3)) (num zd (k * 3 + 1)) (num zd (k * 3 + 2)) side _ (own_below hown ?hbx) ?hsz (by omega) HOR.out HUK.out).mono ?_
      case hbx => ((((try dsimp only); repeat' apply And.intro) <;> (first | assumption | (refine below_later ?_ (by assumption); first | assumption | (simp only [*]; done) | (go_grown; done)) | (refine cell_later (by assumption) ?_; first | assumption | (simp only [*]; done) | (simp [go_sem]; done)) | (go_grown; done) | (simp [go_sem]; done))))
      case hsz => simp [World.setCell]; omega
      rw [← HAN.out]
      rintro e w6 ⟨⟨v6, N6, rfl, hlen6, hown6⟩, hg6⟩
      have HL6 := Lib.hid hlen6
      have HO6 := Lib.hid hown6
      replace hbel := (hbel.alloc hbs _).grown hg6 (by simp; omega) (fun q hq => (hov q hq).1)
      obtain ⟨A6, d6, rfl, _, _⟩ := own_slice hown6
      clear hlen6 hown6 hg6 hown c0 c1 c2 hov
      go_wp2_with fail
      go_roundw
      case rel => exact ⟨k + 1, N6, by omega, by
          obtain ⟨⟨N', e1, e2⟩, _⟩ := HAP.out (k + 1)
          have := HL6.out
          omega, by go_num, HL6.out, HO6.out, hbel⟩
      case measure => simp [intOf]; omega
    · obtain rfl : k = m := by omega
      clear hr
      obtain ⟨A2, d2, rfl, _, _⟩ := own_slice hown
      rcases Bool.eq_false_or_eq_true (lvsB side (aplL side za zd k) N) with hf | hf
      · have HN := Lib.hid (show aplB side za n zd k = true by simp [aplB, HL1.out, HU.out, apl_cnt HLN.out, hf]; omega)
        have HZ := Lib.hid (show aplZ side za n zd k = aplL side za zd k by simp [aplZ, HN.out])
        go_wp2_with fail
        refine (impl_LevelsOk A2 N d2 (aplL side za zd k) side _ (Lst.of_own hown) hN1).mono ?_
        rw [hf]
        rintro e w6 ⟨rfl, hb6⟩
        have HO6 := Lib.hid (own_below hown hb6)
        replace hbel := hbel.trans (hb6.mono hbel.size)
        clear hf hb6 hown
        go_wp2_with fail
        refine bodyPost_ret (v := .tuple #[.slice A2 N d2, .bool true]) (by simp [results, Try.results21, go_sem]) rfl ⟨⟨_, N, by rw [HN.out], by rw [HZ.out]; exact HLN.out, ?_⟩, hbel⟩
        rw [HZ.out]
        exact HO6.out
      · have HN := Lib.hid (show aplB side za n zd k = false by simp [aplB, HU.out, apl_cnt HLN.out, hf])
        have HZ := Lib.hid (show aplZ side za n zd k = [] by simp [aplZ, HN.out])
        go_wp2_with fail
        refine (impl_LevelsOk A2 N d2 (aplL side za zd k) side _ (Lst.of_own hown) hN1).mono ?_
        rw [hf]
        rintro e w6 ⟨rfl, hb6⟩
        have HB := Lib.hid (hbel.trans (hb6.mono hbel.size))
        clear hf hb6 hown hbel
        go_wp2_with fail
        refine bodyPost_ret (v := .tuple #[.slice none 0 0, .bool false]) (by simp [results, Try.results21, go_sem]) rfl ⟨⟨_, 0, by rw [HN.out], by rw [HZ.out]; rfl, ?_⟩, HB.out⟩
        rw [HZ.out]
        exact World.ownsRow_nil _ _ _ _
end Go.Proofs.Ytfodkefaflpicaa
