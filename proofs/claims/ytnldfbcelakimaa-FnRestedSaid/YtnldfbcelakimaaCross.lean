/-
  What meets, and the document's Crossing.
-/
import Derived.Test.YtnldfbcelakimaaSides
namespace Go.Proofs.Ytnldfbcelakimaa
open Go.RowKit Wire

def meetB (side lim p : Int) : Bool := lim == 0 || !betB side p lim
/-- how many of the first n hold, one after another -/
def lead (f : Nat → Bool) : Nat → Nat
  | 0 => 0
  | n + 1 => if f 0 = true then lead (fun j => f (j + 1)) n + 1 else 0
theorem lead_one : ∀ (n : Nat) (f : Nat → Bool) (k : Nat), k ≤ n → (∀ j, j < k → f j = true) → (k = n ∨ f k = false) → lead f n = k
  | 0, f, k, hk, _, _ => by simp [lead]; omega
  | n + 1, f, 0, _, _, h => by
    rcases h with h | h
    · omega
    · rw [lead, if_neg (by rw [h]; simp)]
  | n + 1, f, k + 1, hk, h1, h2 => by
    rw [lead, if_pos (h1 0 (by omega)), lead_one n (fun j => f (j + 1)) k (by omega) (fun j hj => h1 (j + 1) (by omega)) (h2.imp (fun h => by omega) id)]
def crOk (bk : Bool) (side lim : Int) : Bool := bk && (sideOkB side && inB 0 lim 1000000)
def crN (bk : Bool) (side lim : Int) (za zb : List Int) (n m : Nat) : Nat := if crOk bk side lim = true then (if side = 1 then lead (fun k => meetB side lim (price zb k)) m else lead (fun k => meetB side lim (price za k)) n) else 0
def crZ (bk : Bool) (side lim : Int) (za zb : List Int) (n m : Nat) : List Int := if crOk bk side lim = true then (if side = 1 then zb.take (lead (fun k => meetB side lim (price zb k)) m * 4) else za.take (lead (fun k => meetB side lim (price za k)) n * 4)) else []
theorem cr_no {bk : Bool} {side lim : Int} {za zb : List Int} {n m : Nat} (h : crOk bk side lim = false) : crN bk side lim za zb n m = 0 ∧ crZ bk side lim za zb n m = [] := by
  unfold crN crZ
  rw [h]
  exact ⟨rfl, rfl⟩
theorem crN_1 {lim : Int} {za zb : List Int} {n m : Nat} (h : crOk true 1 lim = true) : crN true 1 lim za zb n m = lead (fun k => meetB 1 lim (price zb k)) m := by
  unfold crN
  rw [if_pos h, if_pos rfl]
theorem crN_2 {lim : Int} {za zb : List Int} {n m : Nat} (h : crOk true 2 lim = true) : crN true 2 lim za zb n m = lead (fun k => meetB 2 lim (price za k)) n := by
  unfold crN
  rw [if_pos h, if_neg (by decide)]
theorem crZ_1 {lim : Int} {za zb : List Int} {n m : Nat} (h : crOk true 1 lim = true) : crZ true 1 lim za zb n m = zb.take (lead (fun k => meetB 1 lim (price zb k)) m * 4) := by
  unfold crZ
  rw [if_pos h, if_pos rfl]
theorem crZ_2 {lim : Int} {za zb : List Int} {n m : Nat} (h : crOk true 2 lim = true) : crZ true 2 lim za zb n m = za.take (lead (fun k => meetB 2 lim (price za k)) n * 4) := by
  unfold crZ
  rw [if_pos h, if_neg (by decide)]
set_option maxRecDepth 100000 in
theorem spec_meets (side lim p : Int) (w : World) :
    Calls Try.prog 81 #[.int .i64 side, .int .i64 lim, .int .i64 p] w fun e w' => e = .returned (.bool (meetB side lim p)) ∧ w = w' := by
  unfold meetB
  by_cases h : lim = 0
  · subst h
    go_enter Try.func81, Try.ntmps81
    go_wp2_with fail
    go_ret
    exact ⟨rfl, rfl⟩
  · have t : (lim == 0) = false := beq_eq_false_iff_ne.2 h
    go_enter Try.func81, Try.ntmps81
    go_wp2_with fail
    refine (spec_l2Ahead _ _ _ _).mono ?_
    rintro e w' ⟨rfl, rfl⟩
    go_wp2_with fail
    go_ret
    exact ⟨by rw [t]; rfl, rfl⟩
set_option maxRecDepth 100000 in
theorem impl_meets (side lim p : Int) (w : World) :
    Calls Try.prog 113 #[.int .i64 side, .int .i64 lim, .int .i64 p] w fun e w' => e = .returned (.bool (meetB side lim p)) ∧ w = w' := by
  unfold meetB
  by_cases h : lim = 0
  · subst h
    go_enter Try.func113, Try.ntmps113
    go_wp2_with fail
    go_ret
    exact ⟨rfl, rfl⟩
  · have t : (lim == 0) = false := beq_eq_false_iff_ne.2 h
    go_enter Try.func113, Try.ntmps113
    go_wp2_with fail
    refine (impl_better _ _ _ _).mono ?_
    rintro e w' ⟨rfl, rfl⟩
    go_wp2_with fail
    go_ret
    exact ⟨by rw [t]; rfl, rfl⟩
set_option maxRecDepth 100000 in
theorem spec_other1 (w : World) :
    Calls Try.prog 80 #[.int .i64 1] w fun e w' => e = .returned (.int .i64 2) ∧ w = w' := by
  go_enter Try.func80, Try.ntmps80
  go_wp2_with fail
  go_ret
  exact ⟨rfl, rfl⟩
set_option maxRecDepth 100000 in
theorem spec_other2 (w : World) :
    Calls Try.prog 80 #[.int .i64 2] w fun e w' => e = .returned (.int .i64 1) ∧ w = w' := by
  go_enter Try.func80, Try.ntmps80
  go_wp2_with fail
  go_ret
  exact ⟨rfl, rfl⟩
set_option maxRecDepth 100000 in
theorem impl_opposite1 (w : World) :
    Calls Try.prog 112 #[.int .i64 1] w fun e w' => e = .returned (.int .i64 2) ∧ w = w' := by
  go_enter Try.func112, Try.ntmps112
  go_wp2_with fail
  go_ret
  exact ⟨rfl, rfl⟩
set_option maxRecDepth 100000 in
theorem impl_opposite2 (w : World) :
    Calls Try.prog 112 #[.int .i64 2] w fun e w' => e = .returned (.int .i64 1) ∧ w = w' := by
  go_enter Try.func112, Try.ntmps112
  go_wp2_with fail
  go_ret
  exact ⟨rfl, rfl⟩
/-- a list's first orders that meet, in a slice of their own -/
def Crossed (w : World) (base : Nat) (r : Value) (N : Nat) (Z : List Int) : Prop := w.ownsRow base 36 4 r N (nums Z)
theorem crossed_ord {w : World} {base k : Nat} {r : Value} {zs : List Int} (h : w.ownsRow base 36 4 r k (ordV zs k)) (hk : k * 4 ≤ zs.length) : Crossed w base r k (zs.take (k * 4)) := by
  rw [ordV_eq k hk] at h
  exact h
set_option linter.unusedSimpArgs false in
set_option maxHeartbeats 3200000 in
set_option maxRecDepth 100000 in
theorem spec_Crossing (a1 : Addr) (n c : Nat) (a2 : Addr) (m d : Nat) (za zb : List Int) (side lim : Int) (w : World) (ha : Lst w w.heap.size 4 (some a1) n za) (hb : Lst w w.heap.size 4 (some a2) m zb) (hn : n ≤ 1048576) (hm : m ≤ 1048576) :
    Calls Try.prog 32 #[.agg #[.slice (some a1) n c, .slice (some a2) m d], .int .i64 side, .int .i64 lim] w fun e w' => (∃ r, e = .returned r ∧ Crossed w' w.heap.size r (crN (bookB za n zb m) side lim za zb n m) (crZ (bookB za n zb m) side lim za zb n m)) ∧ Below w.heap.size w w' := by
  obtain ⟨i0, hi, hz0, hz1, hz2⟩ := info_parts ord_info
  obtain ⟨k0, k1⟩ := two_blocks w (.cells #[.slice (some a1) n c, .slice (some a2) m d] 26) (.cells #[] 36)
  have hb0 : Below w.heap.size w ((w.alloc (.cells #[.slice (some a1) n c, .slice (some a2) m d] 26)).alloc (.cells #[] 36)) := ((Below.refl _ _).alloc (Nat.le_refl _) _).alloc (by simp) _
  have hs0 : w.heap.size + 1 < ((w.alloc (.cells #[.slice (some a1) n c, .slice (some a2) m d] 26)).alloc (.cells #[] 36)).heap.size := by simp
  have hown0 : ((w.alloc (.cells #[.slice (some a1) n c, .slice (some a2) m d] 26)).alloc (.cells #[] 36)).ownsRow w.heap.size 36 4 (.slice (some ⟨w.heap.size + 1, 0, none⟩) 0 0) 0 [] := by
    have h := own_mono (base' := w.heap.size) (own_empty (w.alloc (.cells #[.slice (some a1) n c, .slice (some a2) m d] 26)) 36 4) (by simp)
    rwa [show (w.alloc (.cells #[.slice (some a1) n c, .slice (some a2) m d] 26)).heap.size = w.heap.size + 1 from by simp] at h
  go_enter Try.func32, Try.ntmps32
  go_wp2_with fail
  generalize ((w.alloc (.cells #[.slice (some a1) n c, .slice (some a2) m d] 26)).alloc (.cells #[] 36)) = w0 at *
  refine (spec_BookOk a1 n c a2 m d za zb w0 ((ha.below hb0).more hb0.size) ((hb.below hb0).more hb0.size) hn hm).mono ?_
  generalize hbk : bookB za n zb m = bk
  rintro e w1 ⟨rfl, hb1⟩
  have k0 := (hb1.block w.heap.size (by omega)).trans k0
  have hown := own_below hown0 hb1
  have hs1 := Nat.lt_of_lt_of_le hs0 hb1.size
  have x0 := cell_of_row w1 w.heap.size 0 _ _ (0, 0) k0
  have x1 := cell_of_row w1 w.heap.size 1 _ _ (0, 0) k0
  simp at x0 x1
  have hb1 := hb0.trans (hb1.mono hb0.size)
  clear k1 hb0 hs0 hown0
  have HBK := Lib.hid hbk
  cases bk
  · clear hbk
    go_wp2_with fail
    go_ret
    exact ⟨⟨_, rfl, by rw [HBK.out, (cr_no rfl).1, (cr_no rfl).2]; exact hown⟩, hb1⟩
  clear hbk
  go_wp2_with fail
  refine (spec_isSide side w1).mono ?_
  rintro e w2 ⟨rfl, rfl⟩
  rcases side_cases side with ⟨rfl, hok⟩ | ⟨rfl, hok⟩ | ⟨h1, h2, hok⟩
  rotate_left 2
  · have HX := Lib.hid (show crOk true side lim = false from by unfold crOk; rw [hok]; rfl)
    rw [hok]
    clear h1 h2 hok
    go_wp2_with fail
    go_ret
    exact ⟨⟨_, rfl, by rw [HBK.out, (cr_no HX.out).1, (cr_no HX.out).2]; exact hown⟩, hb1⟩
  · rw [hok]
    go_wp2_with fail
    refine (l1In_any lim 0 1000000 w1).mono ?_
    rintro e w2 ⟨rfl, rfl⟩
    have hX := k0
    rcases Bool.eq_false_or_eq_true (inB 0 lim 1000000) with hlim | hlim
    · have HX := Lib.hid hX
      have HO := Lib.hid (show crOk true 1 lim = true from by unfold crOk; rw [hok, hlim]; rfl)
      have HN := Lib.hid (crN_1 (lim := lim) (za := za) (zb := zb) (n := n) (m := m) HO.out)
      have HZ := Lib.hid (crZ_1 (lim := lim) (za := za) (zb := zb) (n := n) (m := m) HO.out)
      rw [hlim]
      clear hok hlim
      go_upto_region 4 with fail
      refine wp_region_held_drew (S := (fun w' => Below w1.heap.size w1 w' ∧ w'.cell? ⟨w.heap.size, 0, none⟩ = some (.slice (some a1) n c) ∧ w'.cell? ⟨w.heap.size, 1, none⟩ = some (.slice (some a2) m d))) (by kernel_rfl) ?hSq1xs (fun hHeld => ?restq1xs)
      case hSq1xs => ((first | assumption | ((((try dsimp only); repeat' apply And.intro) <;> (first | assumption | (refine below_later ?_ (by assumption); first | assumption | (simp only [*]; done) | (go_grown; done)) | (refine cell_later (by assumption) ?_; first | assumption | (simp only [*]; done) | (simp [go_sem]; done)) | (go_grown; done) | (simp [go_sem]; done))))))
      refine wpAnyH_take (i := 0) (oi := ?oiq1x1) (v := ?vq1x1) ?hiq1x1 (by kernel_rfl) (by kernel_rfl) (by kernel_rfl) ?hQq1x1 (Or.inl ⟨?hwq1x1, ?hyq1x1⟩) (by assumption) ?restq1x1
      case hiq1x1 => simp only [List.getElem?_toArray, List.getElem?_cons_succ, List.getElem?_cons_zero]; exact rfl
      case hQq1x1 => exact fun _ _ _ h => h
      case hwq1x1 => rfl
      case hyq1x1 => ((intro w hSw; (try dsimp only at hSw); go_simp) <;> with_reducible rfl)
      try simp only [Act.put, List.setIfInBounds_toArray, List.set_cons_zero, List.set_cons_succ]
      refine wpAnyH_take (i := 1) (oi := ?oiq1x2) (v := ?vq1x2) ?hiq1x2 (by kernel_rfl) (by kernel_rfl) (by kernel_rfl) ?hQq1x2 (Or.inl ⟨?hwq1x2, ?hyq1x2⟩) (by assumption) ?restq1x2
      case hiq1x2 => simp only [List.getElem?_toArray, List.getElem?_cons_succ, List.getElem?_cons_zero]; exact rfl
      case hQq1x2 => exact fun _ _ _ h => h
      case hwq1x2 => rfl
      case hyq1x2 => ((intro w hSw; (try dsimp only at hSw); go_simp) <;> with_reducible rfl)
      try simp only [Act.put, List.setIfInBounds_toArray, List.set_cons_zero, List.set_cons_succ]
      refine wpAnyH_ready (rs := [2]) (by kernel_rfl) (by simp) ?_
      refine AllReadyH.cons (o := ?oq1x3) ?hoq1x3 (fun K hK => ?stepq1x3) ?moreq1x3
      case hoq1x3 => simp only [List.getElem?_toArray, List.getElem?_cons_succ, List.getElem?_cons_zero]; exact rfl
      case moreq1x3 => exact AllReadyH.nil
      go_simp
      (go_at_call 80; refine (spec_other1 _).mono ?_; rintro e w' ⟨rfl, rfl⟩)
      refine hK.out _ _ ?hSq1x3 (fun hHeld => ?restq1x3)
      case hSq1x3 => ((first | assumption | ((((try dsimp only); repeat' apply And.intro) <;> (first | assumption | (refine below_later ?_ (by assumption); first | assumption | (simp only [*]; done) | (go_grown; done)) | (refine cell_later (by assumption) ?_; first | assumption | (simp only [*]; done) | (simp [go_sem]; done)) | (go_grown; done) | (simp [go_sem]; done))))))
      clear hK K
      try simp only [Act.put, List.setIfInBounds_toArray, List.set_cons_zero, List.set_cons_succ]
      refine wpAnyH_ready (rs := [3]) (by kernel_rfl) (by simp) ?_
      refine AllReadyH.cons (o := ?oq1x4) ?hoq1x4 (fun K hK => ?stepq1x4) ?moreq1x4
      case hoq1x4 => simp only [List.getElem?_toArray, List.getElem?_cons_succ, List.getElem?_cons_zero]; exact rfl
      case moreq1x4 => exact AllReadyH.nil
      go_simp
      (go_at_call 58; refine (spec_l2List a1 n c a2 m d 2 _).mono ?_; simp only [show ((2 : Int) = 1) = False from by simp, if_false]; rintro e w3 ⟨rfl, hb3⟩)
      refine hK.out _ _ ?hSq1x4 (fun hHeld => ?restq1x4)
      case hSq1x4 => ((first | assumption | ((((try dsimp only); repeat' apply And.intro) <;> (first | assumption | (refine below_later ?_ (by assumption); first | assumption | (simp only [*]; done) | (go_grown; done)) | (refine cell_later (by assumption) ?_; first | assumption | (simp only [*]; done) | (simp [go_sem]; done)) | (go_grown; done) | (simp [go_sem]; done))))))
      clear hK K
      try simp only [Act.put, List.setIfInBounds_toArray, List.set_cons_zero, List.set_cons_succ]
      refine wpAnyH_take (i := 4) (oi := ?oiq1x5) (v := ?vq1x5) ?hiq1x5 (by kernel_rfl) (by kernel_rfl) (by kernel_rfl) ?hQq1x5 (Or.inl ⟨?hwq1x5, ?hyq1x5⟩) (by assumption) ?restq1x5
      case hiq1x5 => simp only [List.getElem?_toArray, List.getElem?_cons_succ, List.getElem?_cons_zero]; exact rfl
      case hQq1x5 => exact fun _ _ _ h => h
      case hwq1x5 => rfl
      case hyq1x5 => ((intro w hSw; (try dsimp only at hSw); go_simp) <;> with_reducible rfl)
      try simp only [Act.put, List.setIfInBounds_toArray, List.set_cons_zero, List.set_cons_succ]
      refine wpAnyH_done (by kernel_rfl) ?_ _
      obtain ⟨hb3, _, _⟩ := hHeld
      have hown3 := own_below hown hb3
      have hbel3 := hb1.trans (hb3.mono hb1.size)
      have hl3 := hb.below hbel3
      clear hown hb3 x0 x1 hX
      have hlen := hb.1
      generalize a2 = ax at *
      go_wp2_with fail
      go_loopw [9, 7] (fun i r wr => ∃ k : Nat, k ≤ m ∧ i = .int .i64 (k : Int) ∧ (∀ j, j < k → meetB 1 lim (price zb j) = true) ∧ wr.ownsRow w.heap.size 36 4 r k (ordV zb k) ∧ Below w.heap.size w wr) (fun i _ _ => m - (intOf i).toNat)
      case atStart => exact ⟨0, Nat.zero_le _, rfl, fun j hj => absurd hj (Nat.not_lt_zero j), hown3, hbel3⟩
      case round =>
        obtain ⟨k, hk, rfl, hall, hown, hbel⟩ := hrel
        have HA := Lib.hid hall
        obtain ⟨A2, d2, rfl, _, _⟩ := own_slice hown
        clear hall hown3 hbel3
        by_cases hlt : k < m
        · obtain ⟨b, o, hax, hbo, c0, c1, c2, c3⟩ := (hb.below hbel).row4 hlt
          injection hax with hax
          subst hax
          rcases Bool.eq_false_or_eq_true (meetB 1 lim (price zb k)) with hmt | hmt
          · have HM := Lib.hid hmt
            clear hmt
            go_wp2_with fail
            refine (spec_meets 1 lim _ _).mono ?_
            rw [show meetB 1 lim (num zb (k * 4 + 2)) = true from HM.out]
            rintro e w5 ⟨rfl, rfl⟩
            have hbs := hbel.size
            have hov := hown.lt
            go_wp2_with (at_builtin; refine wpList_append_own_at _ rfl _ _ 24 rfl w.heap.size 36 i0 _ 4 32 Try.underlying24 hi hz0 hz1 hz2 rfl (by decide) _ _ _ rfl (hown.alloc _) ⟨wr.heap.size, 0, none⟩ 1 1 [.int .i64 (num zb (k * 4)), .int .i64 (num zb (k * 4 + 1)), .int .i64 (num zb (k * 4 + 2)), .int .i64 (num zb (k * 4 + 3))] rfl rfl (World.news_of_block (heap_alloc_new wr _)) (by intro u hu; simp at hu; rcases hu with rfl | rfl | rfl | rfl <;> rfl) (by unfold maxLen; omega) (by omega) (by simp; omega) ?_)
            intro v' w2 hown2 hgrow2 _ _
            have hbel2 := (hbel.alloc hbs (.cells #[.int .i64 (num zb (k * 4)), .int .i64 (num zb (k * 4 + 1)), .int .i64 (num zb (k * 4 + 2)), .int .i64 (num zb (k * 4 + 3))] 36)).grown hgrow2 (by simp; omega) (fun q hq => (hov q hq).1)
            obtain ⟨A3, d3, rfl, _, _⟩ := own_slice hown2
            have HO2 := Lib.hid hown2
            have HB2 := Lib.hid hbel2
            clear hbel2 hgrow2 hown2 hbel hown c0 c1 c2 c3
            go_wp2_with fail
            go_roundw
            case rel => exact ⟨k + 1, by omega, by go_num, fun j hj => by
              rcases Nat.lt_or_ge j k with h | h
              · exact HA.out j h
              · obtain rfl : j = k := by omega
                exact HM.out, HO2.out, HB2.out⟩
            case measure => simp [intOf]; omega
          · have HM := Lib.hid hmt
            have HL := Lib.hid (lead_one m (fun k => meetB 1 lim (price zb k)) k hk HA.out (.inr hmt))
            clear hmt
            go_wp2_with fail
            refine (spec_meets 1 lim _ _).mono ?_
            rw [show meetB 1 lim (num zb (k * 4 + 2)) = false from HM.out]
            rintro e w5 ⟨rfl, rfl⟩
            go_wp2_with fail
            go_ret
            exact ⟨⟨_, rfl, by rw [HBK.out, HN.out, HZ.out, HL.out]; exact crossed_ord hown (by omega)⟩, hbel⟩
        · obtain rfl : k = m := by omega
          have HL := Lib.hid (lead_one k (fun k => meetB 1 lim (price zb k)) k hk HA.out (.inl rfl))
          go_wp2_with fail
          go_ret
          exact ⟨⟨_, rfl, by rw [HBK.out, HN.out, HZ.out, HL.out]; exact crossed_ord hown (by omega)⟩, hbel⟩
    · have HX := Lib.hid (show crOk true 1 lim = false from by unfold crOk; rw [hok, hlim]; rfl)
      rw [hlim]
      clear hok hlim
      go_wp2_with fail
      go_ret
      exact ⟨⟨_, rfl, by rw [HBK.out, (cr_no HX.out).1, (cr_no HX.out).2]; exact hown⟩, hb1⟩
  · rw [hok]
    go_wp2_with fail
    refine (l1In_any lim 0 1000000 w1).mono ?_
    rintro e w2 ⟨rfl, rfl⟩
    have hX := k0
    rcases Bool.eq_false_or_eq_true (inB 0 lim 1000000) with hlim | hlim
    · have HX := Lib.hid hX
      have HO := Lib.hid (show crOk true 2 lim = true from by unfold crOk; rw [hok, hlim]; rfl)
      have HN := Lib.hid (crN_2 (lim := lim) (za := za) (zb := zb) (n := n) (m := m) HO.out)
      have HZ := Lib.hid (crZ_2 (lim := lim) (za := za) (zb := zb) (n := n) (m := m) HO.out)
      rw [hlim]
      clear hok hlim
      go_upto_region 4 with fail
      refine wp_region_held_drew (S := (fun w' => Below w1.heap.size w1 w' ∧ w'.cell? ⟨w.heap.size, 0, none⟩ = some (.slice (some a1) n c) ∧ w'.cell? ⟨w.heap.size, 1, none⟩ = some (.slice (some a2) m d))) (by kernel_rfl) ?hSq2xs (fun hHeld => ?restq2xs)
      case hSq2xs => ((first | assumption | ((((try dsimp only); repeat' apply And.intro) <;> (first | assumption | (refine below_later ?_ (by assumption); first | assumption | (simp only [*]; done) | (go_grown; done)) | (refine cell_later (by assumption) ?_; first | assumption | (simp only [*]; done) | (simp [go_sem]; done)) | (go_grown; done) | (simp [go_sem]; done))))))
      refine wpAnyH_take (i := 0) (oi := ?oiq2x1) (v := ?vq2x1) ?hiq2x1 (by kernel_rfl) (by kernel_rfl) (by kernel_rfl) ?hQq2x1 (Or.inl ⟨?hwq2x1, ?hyq2x1⟩) (by assumption) ?restq2x1
      case hiq2x1 => simp only [List.getElem?_toArray, List.getElem?_cons_succ, List.getElem?_cons_zero]; exact rfl
      case hQq2x1 => exact fun _ _ _ h => h
      case hwq2x1 => rfl
      case hyq2x1 => ((intro w hSw; (try dsimp only at hSw); go_simp) <;> with_reducible rfl)
      try simp only [Act.put, List.setIfInBounds_toArray, List.set_cons_zero, List.set_cons_succ]
      refine wpAnyH_take (i := 1) (oi := ?oiq2x2) (v := ?vq2x2) ?hiq2x2 (by kernel_rfl) (by kernel_rfl) (by kernel_rfl) ?hQq2x2 (Or.inl ⟨?hwq2x2, ?hyq2x2⟩) (by assumption) ?restq2x2
      case hiq2x2 => simp only [List.getElem?_toArray, List.getElem?_cons_succ, List.getElem?_cons_zero]; exact rfl
      case hQq2x2 => exact fun _ _ _ h => h
      case hwq2x2 => rfl
      case hyq2x2 => ((intro w hSw; (try dsimp only at hSw); go_simp) <;> with_reducible rfl)
      try simp only [Act.put, List.setIfInBounds_toArray, List.set_cons_zero, List.set_cons_succ]
      refine wpAnyH_ready (rs := [2]) (by kernel_rfl) (by simp) ?_
      refine AllReadyH.cons (o := ?oq2x3) ?hoq2x3 (fun K hK => ?stepq2x3) ?moreq2x3
      case hoq2x3 => simp only [List.getElem?_toArray, List.getElem?_cons_succ, List.getElem?_cons_zero]; exact rfl
      case moreq2x3 => exact AllReadyH.nil
      go_simp
      (go_at_call 80; refine (spec_other2 _).mono ?_; rintro e w' ⟨rfl, rfl⟩)
      refine hK.out _ _ ?hSq2x3 (fun hHeld => ?restq2x3)
      case hSq2x3 => ((first | assumption | ((((try dsimp only); repeat' apply And.intro) <;> (first | assumption | (refine below_later ?_ (by assumption); first | assumption | (simp only [*]; done) | (go_grown; done)) | (refine cell_later (by assumption) ?_; first | assumption | (simp only [*]; done) | (simp [go_sem]; done)) | (go_grown; done) | (simp [go_sem]; done))))))
      clear hK K
      try simp only [Act.put, List.setIfInBounds_toArray, List.set_cons_zero, List.set_cons_succ]
      refine wpAnyH_ready (rs := [3]) (by kernel_rfl) (by simp) ?_
      refine AllReadyH.cons (o := ?oq2x4) ?hoq2x4 (fun K hK => ?stepq2x4) ?moreq2x4
      case hoq2x4 => simp only [List.getElem?_toArray, List.getElem?_cons_succ, List.getElem?_cons_zero]; exact rfl
      case moreq2x4 => exact AllReadyH.nil
      go_simp
      (go_at_call 58; refine (spec_l2List a1 n c a2 m d 1 _).mono ?_; simp only [if_pos]; rintro e w3 ⟨rfl, hb3⟩)
      refine hK.out _ _ ?hSq2x4 (fun hHeld => ?restq2x4)
      case hSq2x4 => ((first | assumption | ((((try dsimp only); repeat' apply And.intro) <;> (first | assumption | (refine below_later ?_ (by assumption); first | assumption | (simp only [*]; done) | (go_grown; done)) | (refine cell_later (by assumption) ?_; first | assumption | (simp only [*]; done) | (simp [go_sem]; done)) | (go_grown; done) | (simp [go_sem]; done))))))
      clear hK K
      try simp only [Act.put, List.setIfInBounds_toArray, List.set_cons_zero, List.set_cons_succ]
      refine wpAnyH_take (i := 4) (oi := ?oiq2x5) (v := ?vq2x5) ?hiq2x5 (by kernel_rfl) (by kernel_rfl) (by kernel_rfl) ?hQq2x5 (Or.inl ⟨?hwq2x5, ?hyq2x5⟩) (by assumption) ?restq2x5
      case hiq2x5 => simp only [List.getElem?_toArray, List.getElem?_cons_succ, List.getElem?_cons_zero]; exact rfl
      case hQq2x5 => exact fun _ _ _ h => h
      case hwq2x5 => rfl
      case hyq2x5 => ((intro w hSw; (try dsimp only at hSw); go_simp) <;> with_reducible rfl)
      try simp only [Act.put, List.setIfInBounds_toArray, List.set_cons_zero, List.set_cons_succ]
      refine wpAnyH_done (by kernel_rfl) ?_ _
      obtain ⟨hb3, _, _⟩ := hHeld
      have hown3 := own_below hown hb3
      have hbel3 := hb1.trans (hb3.mono hb1.size)
      have hl3 := ha.below hbel3
      clear hown hb3 x0 x1 hX
      have hlen := ha.1
      generalize a1 = ax at *
      go_wp2_with fail
      go_loopw [9, 7] (fun i r wr => ∃ k : Nat, k ≤ n ∧ i = .int .i64 (k : Int) ∧ (∀ j, j < k → meetB 2 lim (price za j) = true) ∧ wr.ownsRow w.heap.size 36 4 r k (ordV za k) ∧ Below w.heap.size w wr) (fun i _ _ => n - (intOf i).toNat)
      case atStart => exact ⟨0, Nat.zero_le _, rfl, fun j hj => absurd hj (Nat.not_lt_zero j), hown3, hbel3⟩
      case round =>
        obtain ⟨k, hk, rfl, hall, hown, hbel⟩ := hrel
        have HA := Lib.hid hall
        obtain ⟨A2, d2, rfl, _, _⟩ := own_slice hown
        clear hall hown3 hbel3
        by_cases hlt : k < n
        · obtain ⟨b, o, hax, hbo, c0, c1, c2, c3⟩ := (ha.below hbel).row4 hlt
          injection hax with hax
          subst hax
          rcases Bool.eq_false_or_eq_true (meetB 2 lim (price za k)) with hmt | hmt
          · have HM := Lib.hid hmt
            clear hmt
            go_wp2_with fail
            refine (spec_meets 2 lim _ _).mono ?_
            rw [show meetB 2 lim (num za (k * 4 + 2)) = true from HM.out]
            rintro e w5 ⟨rfl, rfl⟩
            have hbs := hbel.size
            have hov := hown.lt
            go_wp2_with (at_builtin; refine wpList_append_own_at _ rfl _ _ 24 rfl w.heap.size 36 i0 _ 4 32 Try.underlying24 hi hz0 hz1 hz2 rfl (by decide) _ _ _ rfl (hown.alloc _) ⟨wr.heap.size, 0, none⟩ 1 1 [.int .i64 (num za (k * 4)), .int .i64 (num za (k * 4 + 1)), .int .i64 (num za (k * 4 + 2)), .int .i64 (num za (k * 4 + 3))] rfl rfl (World.news_of_block (heap_alloc_new wr _)) (by intro u hu; simp at hu; rcases hu with rfl | rfl | rfl | rfl <;> rfl) (by unfold maxLen; omega) (by omega) (by simp; omega) ?_)
            intro v' w2 hown2 hgrow2 _ _
            have hbel2 := (hbel.alloc hbs (.cells #[.int .i64 (num za (k * 4)), .int .i64 (num za (k * 4 + 1)), .int .i64 (num za (k * 4 + 2)), .int .i64 (num za (k * 4 + 3))] 36)).grown hgrow2 (by simp; omega) (fun q hq => (hov q hq).1)
            obtain ⟨A3, d3, rfl, _, _⟩ := own_slice hown2
            have HO2 := Lib.hid hown2
            have HB2 := Lib.hid hbel2
            clear hbel2 hgrow2 hown2 hbel hown c0 c1 c2 c3
            go_wp2_with fail
            go_roundw
            case rel => exact ⟨k + 1, by omega, by go_num, fun j hj => by
              rcases Nat.lt_or_ge j k with h | h
              · exact HA.out j h
              · obtain rfl : j = k := by omega
                exact HM.out, HO2.out, HB2.out⟩
            case measure => simp [intOf]; omega
          · have HM := Lib.hid hmt
            have HL := Lib.hid (lead_one n (fun k => meetB 2 lim (price za k)) k hk HA.out (.inr hmt))
            clear hmt
            go_wp2_with fail
            refine (spec_meets 2 lim _ _).mono ?_
            rw [show meetB 2 lim (num za (k * 4 + 2)) = false from HM.out]
            rintro e w5 ⟨rfl, rfl⟩
            go_wp2_with fail
            go_ret
            exact ⟨⟨_, rfl, by rw [HBK.out, HN.out, HZ.out, HL.out]; exact crossed_ord hown (by omega)⟩, hbel⟩
        · obtain rfl : k = n := by omega
          have HL := Lib.hid (lead_one k (fun k => meetB 2 lim (price za k)) k hk HA.out (.inl rfl))
          go_wp2_with fail
          go_ret
          exact ⟨⟨_, rfl, by rw [HBK.out, HN.out, HZ.out, HL.out]; exact crossed_ord hown (by omega)⟩, hbel⟩
    · have HX := Lib.hid (show crOk true 2 lim = false from by unfold crOk; rw [hok, hlim]; rfl)
      rw [hlim]
      clear hok hlim
      go_wp2_with fail
      go_ret
      exact ⟨⟨_, rfl, by rw [HBK.out, (cr_no HX.out).1, (cr_no HX.out).2]; exact hown⟩, hb1⟩
end Go.Proofs.Ytnldfbcelakimaa
