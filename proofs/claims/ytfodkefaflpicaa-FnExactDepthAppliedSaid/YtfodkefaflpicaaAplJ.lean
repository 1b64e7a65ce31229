/-
  Updates applied to levels: the program's, the rest.
-/
import Derived.Test.YtfodkefaflpicaaAplI
import Derived.Test.YtfodkefaflpicaaDeltP
import Derived.Test.YtfodkefaflpicaaAplS
import Derived.ScopeJumps
import Derived.WalkMore
namespace Go.Proofs.Ytfodkefaflpicaa
open Go.RowKit Wire

theorem jump_ret {l : Nat} {J : Act → World → Prop} {Q : Exit → Act → World → Prop} {a : Act} {w : World} : Exit.jump l J Q .ret a w = Q .ret a w := rfl
theorem jump_goto {l : Nat} {J : Act → World → Prop} {Q : Exit → Act → World → Prop} {a : Act} {w : World} : Exit.jump l J Q (.goto l) a w = (l = l ∧ J a w) := rfl
set_option maxRecDepth 100000 in
theorem impl_isRemoval (p q m : Int) (w : World) :
    Calls Try.prog 119 #[.agg #[.int .i64 p, .int .i64 q, .int .i64 m]] w fun x w' => x = .returned (.bool (q == 0 && m == 0)) ∧ Below w.heap.size w w' := by
  by_cases h : q = 0
  · subst h
    go_enter Try.func119, Try.ntmps119
    go_wp2_with fail
    go_ret
    exact ⟨by simp, (Below.refl _ _).alloc (Nat.le_refl _) _⟩
  · have t : (q == 0) = false := beq_eq_false_iff_ne.2 h
    go_enter Try.func119, Try.ntmps119
    go_wp2_with fail
    go_ret
    exact ⟨by simp [h], (Below.refl _ _).alloc (Nat.le_refl _) _⟩
theorem updI_q {p q m : Int} (hu : updI p q m = true) (h : m = 0) : q = 0 := by
  rw [updI, upd_no h, Bool.or_false] at hu
  simp at hu
  exact hu.2.1
theorem updI_not (p q m : Int) : (!updI p q m) = (!lvI p q m && !((q == 0 && m == 0) && inB 1 p 1000000)) := by
  unfold updI
  cases lvI p q m <;> cases (q == 0) <;> cases (m == 0) <;> cases inB 1 p 1000000 <;> rfl
set_option maxHeartbeats 800000 in
set_option maxRecDepth 100000 in
theorem upd_notOk (p q m : Int) (w : World) :
    Calls Try.prog 118 #[.agg #[.int .i64 p, .int .i64 q, .int .i64 m]] w fun x w' => x = .returned (.bool (!updI p q m)) ∧ Below w.heap.size w w' := by
  have HU := Lib.hid (updI_not p q m)
  have hk0 := heap_alloc_new w (.cells #[.int .i64 p, .int .i64 q, .int .i64 m] 94)
  rcases Bool.eq_false_or_eq_true (lvI p q m) with h | h
  · go_enter Try.func118, Try.ntmps118
    go_wp2_with fail
    refine (lev_impl _ _ _ _).mono ?_
    rw [h]
    rintro e w1 ⟨rfl, hb1⟩
    have HL := Lib.hid h
    clear h
    go_wp2_with fail
    go_ret
    exact ⟨by rw [HU.out, HL.out]; rfl, below_alloc hb1⟩
  · rcases Bool.eq_false_or_eq_true (q == 0 && m == 0) with h2 | h2
    · go_enter Try.func118, Try.ntmps118
      go_wp2_with fail
      refine (lev_impl _ _ _ _).mono ?_
      rw [h]
      rintro e w1 ⟨rfl, hb1⟩
      have HL := Lib.hid h
      clear h
      have x0 := box_cell hb1 0
      have x1 := box_cell hb1 1
      have x2 := box_cell hb1 2
      simp only [List.getElem?_toArray, List.getElem?_cons_zero, List.getElem?_cons_succ] at x0 x1 x2
      replace hb1 := below_alloc hb1
      go_wp2_with fail
      refine (impl_isRemoval _ _ _ _).mono ?_
      rw [h2]
      rintro e w2 ⟨rfl, hb2⟩
      have hs : w.heap.size < w1.heap.size := by
        rcases Nat.lt_or_ge w.heap.size w1.heap.size with a | a
        · exact a
        · simp [World.cell?, Array.getElem?_eq_none a] at x0
      replace x0 := (hb2.cell (p := ⟨w.heap.size, 0, none⟩) hs).trans x0
      have HR := Lib.hid h2
      clear h2 x1 x2 hs
      replace hb2 := below_later hb1 hb2
      clear hb1
      go_wp2_with (go_at_call 50; refine (within_any _ _ _ _).mono ?_; rintro e w' ⟨rfl, rfl⟩)
      go_ret
      exact ⟨by rw [HU.out, HL.out, HR.out]; rfl, hb2⟩
    · go_enter Try.func118, Try.ntmps118
      go_wp2_with fail
      refine (lev_impl _ _ _ _).mono ?_
      rw [h]
      rintro e w1 ⟨rfl, hb1⟩
      have HL := Lib.hid h
      clear h
      have x0 := box_cell hb1 0
      have x1 := box_cell hb1 1
      have x2 := box_cell hb1 2
      simp only [List.getElem?_toArray, List.getElem?_cons_zero, List.getElem?_cons_succ] at x0 x1 x2
      replace hb1 := below_alloc hb1
      go_wp2_with fail
      refine (impl_isRemoval _ _ _ _).mono ?_
      rw [h2]
      rintro e w2 ⟨rfl, hb2⟩
      have HR := Lib.hid h2
      clear h2 x0 x1 x2
      replace hb2 := below_later hb1 hb2
      clear hb1
      go_wp2_with fail
      go_ret
      exact ⟨by rw [HU.out, HL.out, HR.out]; rfl, hb2⟩
set_option maxHeartbeats 1600000 in
set_option maxRecDepth 100000 in
theorem upd_IndexFunc (A : Option Addr) (n c : Nat) (zs : List Int) (w : World) (hl : Lst w w.heap.size 3 A n zs) (hn : n ≤ 1048576) :
    Calls Try.prog 140 #[.slice A n c, .func (.func 118) #[] #[]] w fun e w' => (∃ z : Int, e = .returned (.int .i64 z) ∧ -1 ≤ z ∧ z ≤ 1048576 ∧ (!updTo zs n) = decide (0 ≤ z)) ∧ Below w.heap.size w w' := by
  go_enter Try.func140, Try.ntmps140
  go_wp2_with fail
  go_loopw [8] (fun i wr => ∃ k : Nat, k ≤ n ∧ i = .int .i64 (k : Int) ∧ updTo zs k = true ∧ Below w.heap.size w wr) (fun i _ => n - (intOf i).toNat)
  case atStart => exact ⟨0, Nat.zero_le _, rfl, rfl, Below.refl _ _⟩
  case round =>
    obtain ⟨k, hk, rfl, hok, hbel⟩ := hrel
    have HL := Lib.hid hok
    clear hok
    by_cases hlt : k < n
    · obtain ⟨b, o, rfl, hb, c0, c1, c2⟩ := (hl.below hbel).row3 hlt
      clear hl
      have HS := Lib.hid (show updTo zs (k + 1) = (updTo zs k && updI (num zs (k * 3)) (num zs (k * 3 + 1)) (num zs (k * 3 + 2))) from rfl)
      rcases Bool.eq_false_or_eq_true (updI (num zs (k * 3)) (num zs (k * 3 + 1)) (num zs (k * 3 + 2))) with hat | hat
      · have HA := Lib.hid hat
        go_wp2_with fail
        refine (upd_notOk _ _ _ _).mono ?_
        rw [hat]
        rintro e w1 ⟨rfl, hb1⟩
        have hbel1 := hbel.trans (hb1.mono hbel.size)
        clear hbel hb1 hat
        go_wp2_with fail
        go_roundw
        case rel => exact ⟨k + 1, by omega, by go_num, by rw [HS.out, HL.out, HA.out]; rfl, hbel1⟩
        case measure => simp [intOf]; omega
      · have HN := Lib.hid (updTo_no hat n hlt)
        go_wp2_with fail
        refine (upd_notOk _ _ _ _).mono ?_
        rw [hat]
        rintro e w1 ⟨rfl, hb1⟩
        have hbel1 := hbel.trans (hb1.mono hbel.size)
        clear hbel hb1 hat
        go_wp2_with fail
        go_ret
        exact ⟨⟨_, rfl, by omega, by omega, by rw [HN.out]; simp⟩, hbel1⟩
    · obtain rfl : k = n := by omega
      clear hl
      go_wp2_with fail
      go_ret
      exact ⟨⟨_, rfl, by omega, by omega, by rw [HL.out]; rfl⟩, hbel⟩
set_option maxRecDepth 100000 in
theorem upd_Contains (A : Option Addr) (n c : Nat) (zs : List Int) (w : World) (hl : Lst w w.heap.size 3 A n zs) (hn : n ≤ 1048576) :
    Calls Try.prog 117 #[.slice A n c, .func (.func 118) #[] #[]] w fun e w' => e = .returned (.bool (!updTo zs n)) ∧ Below w.heap.size w w' := by
  go_enter Try.func117, Try.ntmps117
  go_wp2_with fail
  refine (upd_IndexFunc A n c zs _ hl hn).mono ?_
  rintro e w1 ⟨⟨z, rfl, hz0, hz1, hz2⟩, hb1⟩
  have HZ := Lib.hid hz2
  clear hz2
  go_wp2_with fail
  go_ret
  exact ⟨ret_bool HZ.out.symm, hb1⟩
set_option maxRecDepth 100000 in
theorem impl_updatesOk (A : Option Addr) (n c : Nat) (zs : List Int) (w : World) (hl : Lst w w.heap.size 3 A n zs) (hn : n ≤ 1048576) :
    Calls Try.prog 66 #[.slice A n c] w fun e w' => e = .returned (.bool (decide (n ≤ 80) && updTo zs n)) ∧ Below w.heap.size w w' := by
  by_cases h80 : n ≤ 80
  · have HN := Lib.hid (show (decide (n ≤ 80) && updTo zs n) = updTo zs n by simp [h80])
    go_enter Try.func66, Try.ntmps66
    go_wp2_with fail
    refine (upd_Contains A n c zs _ hl hn).mono ?_
    rintro e w1 ⟨rfl, hb1⟩
    go_wp2_with fail
    go_ret
    exact ⟨ret_bool (by rw [HN.out]; (first | done | simp)), hb1⟩
  · have HN := Lib.hid (show (decide (n ≤ 80) && updTo zs n) = false by simp [h80])
    go_enter Try.func66, Try.ntmps66
    go_wp2_with fail
    go_ret
    exact ⟨by first | rfl | (rw [HN.out]; rfl), Below.refl _ _⟩
set_option maxHeartbeats 800000 in
set_option maxRecDepth 100000 in
theorem lev_Clone (A : Option Addr) (n c : Nat) (zs : List Int) (w : World) (hl : Lst w w.heap.size 3 A n zs) (hA : A = none → n = 0 ∧ c = 0) (hn : n ≤ 1048576) :
    Calls Try.prog 67 #[.slice A n c] w fun e w' => (∃ v, e = .returned v ∧ w'.ownsRow w.heap.size 94 3 v n (nums zs)) ∧ Below w.heap.size w w' := by
  obtain ⟨i0, hi, hz0, hz1, hz2⟩ := info_parts lev_info
  cases A with
  | none =>
    obtain ⟨rfl, rfl⟩ := hA rfl
    have h0 : zs = [] := List.eq_nil_of_length_eq_zero (by rw [hl.1])
    subst h0
    have heq : (binOp .eql 40 (.slice none 0 0) (.slice none 0 0)).run Try.prog w = .ok (.bool true) w := Lib.run_eql_slice_nil w 40 94 none 0 0 0 0 Try.underlying40
    go_enter Try.func67, Try.ntmps67
    go_wp2_with (simp only [heq])
    go_ret
    exact ⟨⟨_, rfl, World.ownsRow_nil _ _ _ _⟩, Below.refl _ _⟩
  | some ad =>
    have hB0 : Below w.heap.size w (w.alloc (.cells #[] 94)) := (Below.refl _ _).alloc (Nat.le_refl _) _
    have hq0 := delt_empty w 94 3
    have hl1 := hl.below hB0
    have hN0 : (w.alloc (.cells #[] 94)).heap.size = w.heap.size + 1 := by simp
    go_enter Try.func67, Try.ntmps67
    have heq : (binOp .eql 40 (.slice (some ad) n c) (.slice none 0 0)).run Try.prog w = .ok (.bool false) w := Lib.run_eql_slice_nil w 40 94 (some ad) n c 0 0 Try.underlying40
    go_upto_region 3 with (simp only [heq])
    go_wp2_with (at_builtin; refine wpList_appN _ rfl _ _ 40 rfl w.heap.size 94 i0 _ 3 24 Try.underlying40 hi hz0 hz1 hz2 rfl (by decide) _ 0 [] rfl hq0 (some ad) n c (fun h => by cases h) (nums zs) rfl (by rw [nums_length, hl.1]) hl1.news (nums_one zs) (by unfold maxLen; omega) (by omega) (by omega) ?_)
    intro v' w3 hown3 hgrow3
    replace hB0 := hB0.grown hgrow3 (by omega) (fun q hq => (hq0.lt q hq).1)
    obtain ⟨A3, d3, rfl, _, _⟩ := own_slice hown3
    have HO := Lib.hid hown3
    clear hown3 hgrow3 hq0 hN0 hl1
    go_wp2_with fail
    go_ret
    exact ⟨⟨_, rfl, by simpa using HO.out⟩, hB0⟩
theorem own_grown {w w1 : World} (hb : Below w.heap.size w w1) : ∀ row, w.grownBy w1 row := fun _ => ⟨hb.os, hb.tape, hb.output, hb.size, fun k hk _ => hb.block k hk⟩
/-- the frame at 'found' -/
def FoundJ (X B n c : Nat) (A : Option Addr) (side p q m : Int) (zs : List Int) (w : World) (a : Act) (w' : World) : Prop :=
  ∃ (t : Nat) (u8 u9 u10 u11 u12 u13 u14 u15 u16 u17 u18 u19 u20 u21 u22 u23 u24 u25 u26 u27 u28 u29 u30 u31 u32 u33 u34 u35 u36 u37 u38 u39 u40 u41 u42 u43 u44 u45 u46 u47 u48 u49 u50 u51 u52 : Value), a = { tmps := #[.slice A n c, .agg #[.int .i64 p, .int .i64 q, .int .i64 m], .int .i64 side, undef, .pointer (some ⟨B, 0, none⟩), undef, .slice none 0 0, .int .i64 (t : Int), u8, u9, u10, u11, u12, u13, u14, u15, u16, u17, u18, u19, u20, u21, u22, u23, u24, u25, u26, u27, u28, u29, u30, u31, u32, u33, u34, u35, u36, u37, u38, u39, u40, u41, u42, u43, u44, u45, u46, u47, u48, u49, u50, u51, u52], defers := [] } ∧
    t < n ∧ PutAt side zs n p t ∧ num zs (t * 3) = p ∧ w'.heap[B]? = some (.cells #[.int .i64 p, .int .i64 q, .int .i64 m] 94 (0, 0)) ∧ w'.ownsRow X 94 3 (.slice A n c) n (nums zs) ∧ Below B w w'
/-- the levels with the one at a place replaced -/
def setL (zs : List Int) (i : Nat) (p q m : Int) : List Int := zs.take (i * 3) ++ [p, q, m] ++ zs.drop ((i + 1) * 3)
theorem setL_len {zs : List Int} {n i : Nat} (h : zs.length = n * 3) (hi : i < n) {p q m : Int} : (setL zs i p q m).length = n * 3 := by
  simp [setL, h]
  omega
theorem setL_lo {zs : List Int} {n i : Nat} (h : zs.length = n * 3) (hi : i < n) {p q m : Int} {j : Nat} (hj : j < i * 3) : num (setL zs i p q m) j = num zs j := by
  unfold setL
  rw [num_app_lo (by simp [h]; omega), num_app_lo (by simp [h]; omega), num_take hj]
theorem setL_at {zs : List Int} {n i : Nat} (h : zs.length = n * 3) (hi : i < n) {p q m : Int} {j : Nat} (hj : j < 3) : num (setL zs i p q m) (i * 3 + j) = num [p, q, m] j := by
  unfold setL
  rw [num_app_lo (by simp [h]; omega), num_app_hi (by simp [h]; omega), List.length_take, h, Nat.min_eq_left (by omega), Nat.add_sub_cancel_left]
theorem setL_hi {zs : List Int} {n i : Nat} (h : zs.length = n * 3) (hi : i < n) {p q m : Int} {j : Nat} (hj : i * 3 + 3 ≤ j) : num (setL zs i p q m) j = num zs j := by
  unfold setL
  rw [num_app_hi (by simp [h]; omega), num_drop]
  congr 1
  simp [h]
  omega
set_option linter.unusedSimpArgs false in
set_option maxHeartbeats 3200000 in
set_option maxRecDepth 100000 in
theorem impl_updated (X n : Nat) (v : Value) (zs : List Int) (p q m side : Int) (w : World) (hown : w.ownsRow X 94 3 v n (nums zs)) (hX : X ≤ w.heap.size) (hn : n ≤ 1000) (ho : LvOrd side zs n) (hu : updI p q m = true) :
    Calls Try.prog 68 #[v, .agg #[.int .i64 p, .int .i64 q, .int .i64 m], .int .i64 side] w fun e w' => (∃ v' N, e = .returned v' ∧ (putL side zs n p q m).length = N * 3 ∧ w'.ownsRow X 94 3 v' N (nums (putL side zs n p q m))) ∧ w.grownBy w' v.ownBlock := by
  obtain ⟨i0, hi, hz0, hz1, hz2⟩ := info_parts lev_info
  obtain ⟨A, c, rfl, hnc, hcm⟩ := own_slice hown
  have hzl : zs.length = n * 3 := by rw [← nums_length]; exact hown.1
  have HUQ := Lib.hid (fun (h : m = 0) => updI_q hu h)
  clear hu
  go_enter Try.func68, Try.ntmps68
  go_wp2_with fail
  refine wp_scope_jumps (rest := ?rest) 0 (FoundJ X w.heap.size n c A side p q m zs w) (fun _ _ => 0) ?hf ?first ?pass
  case hf => simp only [findLabel]; exact rfl
  case first =>
    go_wp2_with fail
    go_step3
    go_wp2_with fail
    have hbox0 : (w.alloc (.cells #[.int .i64 p, .int .i64 q, .int .i64 m] 94)).heap[w.heap.size]? = some (.cells #[.int .i64 p, .int .i64 q, .int .i64 m] 94 (0, 0)) := heap_alloc_new w _
    have hB0 : Below w.heap.size w (w.alloc (.cells #[.int .i64 p, .int .i64 q, .int .i64 m] 94)) := (Below.refl _ _).alloc (Nat.le_refl _) _
    have hown0 := hown.alloc (.cells #[.int .i64 p, .int .i64 q, .int .i64 m] 94)
    generalize w.alloc (.cells #[.int .i64 p, .int .i64 q, .int .i64 m] 94) = w0 at *
    go_loopw [7] (fun i wr => ∃ t : Nat, t ≤ n ∧ i = .int .i64 (t : Int) ∧ (∀ j, j < t → ahdB side (num zs (j * 3)) p = true) ∧ Below w.heap.size w wr ∧ wr.heap[w.heap.size]? = some (.cells #[.int .i64 p, .int .i64 q, .int .i64 m] 94 (0, 0)) ∧ wr.ownsRow X 94 3 (.slice A n c) n (nums zs)) (fun i _ => n - (intOf i).toNat)
    case atStart => exact ⟨0, Nat.zero_le _, rfl, fun j hj => absurd hj (Nat.not_lt_zero j), hB0, hbox0, hown0⟩
    case round =>
      clear hbox0 hB0 hown0
      obtain ⟨t, htn, rfl, hlo, hbel, hbox, hownr⟩ := hrel
      have HLO := Lib.hid hlo
      clear hlo
      obtain ⟨x0, x1, x2⟩ := box3 hbox
      by_cases hlt : t < n
      · obtain ⟨g, cap, hg, _, _⟩ := hownr.form (by omega)
        injection hg with hg1 hg2 hg3
        subst hg1 hg3
        obtain ⟨hXg, _, _, F, hrow, hF⟩ := row_of_nums hownr
        have c0 := hrow.cell (i := t * 3) (by omega)
        rw [hF _ (by omega)] at c0
        have hgw := hrow.lt
        clear hrow hF
        by_cases hp : num zs (t * 3) = p
        · have HAT := Lib.hid (show PutAt side zs n p t from ⟨htn, HLO.out, fun _ => ahd_yes (.inl hp)⟩)
          have HPP := Lib.hid hp
          rw [hp] at c0
          clear hp
          go_upto_region 4 with fail
          go_region
          go_wp2_with fail
          go_step3
          refine (And.intro rfl ?_ : 0 = 0 ∧ FoundJ X w.heap.size n c (some ⟨g, 0, none⟩) side p q m zs w _ _)
          exact ⟨t, _, _, _, _, _, _, _, _, _, _, _, _, _, _, _, _, _, _, _, _, _, _, _, _, _, _, _, _, _, _, _, _, _, _, _, _, _, _, _, _, _, _, _, _, _, rfl, hlt, HAT.out, HPP.out, hbox, own_below hownr (Below.refl _ wr).drew, hbel.drew⟩
        · have tp : (num zs (t * 3) == p) = false := beq_eq_false_iff_ne.2 hp
          go_upto_region 4 with fail
          go_region
          go_upto_region 5 with fail
          replace hownr := own_below hownr (Below.refl _ wr).drew
          replace hbox : wr.drew.heap[w.heap.size]? = _ := hbox
          replace hbel := hbel.drew
          replace c0 : wr.drew.cell? ⟨g, t * 3, none⟩ = _ := c0
          replace hgw : g < wr.drew.heap.size := hgw
          clear x0 x1 x2 tp
          generalize wr.drew = wq at *
          obtain ⟨x0, x1, x2⟩ := box3 hbox
          have hbx := heap_ltA hbox
          rcases Bool.eq_false_or_eq_true (ahdB side p (num zs (t * 3))) with hA | hA
          · refine wp_region_held_drew (S := (fun w' => Below wq.heap.size wq w')) (by kernel_rfl) ?hSm1 (fun hHeld => ?restm1)
            case hSm1 => exact (Below.refl _ _).drew
            refine wpAnyH_take (i := 0) (oi := ?oim2) (v := ?vm2) ?him2 (by kernel_rfl) (by kernel_rfl) (by kernel_rfl) ?hQm2 (Or.inl ⟨?hwm2, ?hym2⟩) (by assumption) ?restm2
            case him2 => simp only [List.getElem?_toArray, List.getElem?_cons_succ, List.getElem?_cons_zero]; exact rfl
            case hQm2 => exact fun _ _ _ h => h
            case hwm2 => rfl
            case hym2 => ((intro w hSw; (try dsimp only at hSw); go_simp) <;> with_reducible rfl)
            try simp only [Act.put, List.setIfInBounds_toArray, List.set_cons_zero, List.set_cons_succ]
            refine wpAnyH_take (i := 1) (oi := ?oim3) (v := ?vm3) ?him3 (by kernel_rfl) (by kernel_rfl) (by kernel_rfl) ?hQm3 (Or.inl ⟨?hwm3, ?hym3⟩) (by assumption) ?restm3
            case him3 => simp only [List.getElem?_toArray, List.getElem?_cons_succ, List.getElem?_cons_zero]; exact rfl
            case hQm3 => exact fun _ _ _ h => h
            case hwm3 => rfl
            case hym3 => ((intro w hSw; (try dsimp only at hSw); go_simp) <;> with_reducible rfl)
            try simp only [Act.put, List.setIfInBounds_toArray, List.set_cons_zero, List.set_cons_succ]
            refine wpAnyH_take (i := 2) (oi := ?oim4) (v := ?vm4) ?him4 (by kernel_rfl) (by kernel_rfl) (by kernel_rfl) ?hQm4 (Or.inl ⟨?hwm4, ?hym4⟩) (by assumption) ?restm4
            case him4 => simp only [List.getElem?_toArray, List.getElem?_cons_succ, List.getElem?_cons_zero]; exact rfl
            case hQm4 => exact fun _ _ _ h => h
            case hwm4 => rfl
            case hym4 => ((intro wS hSw; have t0 := (hSw.cell (p := ⟨w.heap.size, 0, none⟩) hbx).trans x0; go_simp) <;> with_reducible rfl)
            try simp only [Act.put, List.setIfInBounds_toArray, List.set_cons_zero, List.set_cons_succ]
            refine wpAnyH_take (i := 3) (oi := ?oim5) (v := ?vm5) ?him5 (by kernel_rfl) (by kernel_rfl) (by kernel_rfl) ?hQm5 (Or.inl ⟨?hwm5, ?hym5⟩) (by assumption) ?restm5
            case him5 => simp only [List.getElem?_toArray, List.getElem?_cons_succ, List.getElem?_cons_zero]; exact rfl
            case hQm5 => exact fun _ _ _ h => h
            case hwm5 => rfl
            case hym5 => ((intro w hSw; (try dsimp only at hSw); go_simp) <;> with_reducible rfl)
            try simp only [Act.put, List.setIfInBounds_toArray, List.set_cons_zero, List.set_cons_succ]
            refine wpAnyH_take (i := 4) (oi := ?oim6) (v := ?vm6) ?him6 (by kernel_rfl) (by kernel_rfl) (by kernel_rfl) ?hQm6 (Or.inl ⟨?hwm6, ?hym6⟩) (by assumption) ?restm6
            case him6 => simp only [List.getElem?_toArray, List.getElem?_cons_succ, List.getElem?_cons_zero]; exact rfl
            case hQm6 => exact fun _ _ _ h => h
            case hwm6 => rfl
            case hym6 => ((intro w hSw; (try dsimp only at hSw); go_simp) <;> with_reducible rfl)
            try simp only [Act.put, List.setIfInBounds_toArray, List.set_cons_zero, List.set_cons_succ]
            refine wpAnyH_take (i := 5) (oi := ?oim7) (v := ?vm7) ?him7 (by kernel_rfl) (by kernel_rfl) (by kernel_rfl) ?hQm7 (Or.inl ⟨?hwm7, ?hym7⟩) (by assumption) ?restm7
            case him7 => simp only [List.getElem?_toArray, List.getElem?_cons_succ, List.getElem?_cons_zero]; exact rfl
            case hQm7 => exact fun _ _ _ h => h
            case hwm7 => rfl
            case hym7 => ((intro w hSw; (try dsimp only at hSw); go_simp) <;> with_reducible rfl)
            try simp only [Act.put, List.setIfInBounds_toArray, List.set_cons_zero, List.set_cons_succ]
            refine wpAnyH_take (i := 6) (oi := ?oim8) (v := ?vm8) ?him8 (by kernel_rfl) (by kernel_rfl) (by kernel_rfl) ?hQm8 (Or.inl ⟨?hwm8, ?hym8⟩) (by assumption) ?restm8
            case him8 => simp only [List.getElem?_toArray, List.getElem?_cons_succ, List.getElem?_cons_zero]; exact rfl
            case hQm8 => exact fun _ _ _ h => h
            case hwm8 => rfl
            case hym8 => ((intro w hSw; (try dsimp only at hSw); go_simp) <;> with_reducible rfl)
            try simp only [Act.put, List.setIfInBounds_toArray, List.set_cons_zero, List.set_cons_succ]
            refine wpAnyH_take (i := 7) (oi := ?oim9) (v := ?vm9) ?him9 (by kernel_rfl) (by kernel_rfl) (by kernel_rfl) ?hQm9 (Or.inl ⟨?hwm9, ?hym9⟩) (by assumption) ?restm9
            case him9 => simp only [List.getElem?_toArray, List.getElem?_cons_succ, List.getElem?_cons_zero]; exact rfl
            case hQm9 => exact fun _ _ _ h => h
            case hwm9 => rfl
            case hym9 => ((intro wS hSw; have t0 := (hSw.cell (p := ⟨g, t * 3, none⟩) hgw).trans c0; go_simp) <;> with_reducible rfl)
            try simp only [Act.put, List.setIfInBounds_toArray, List.set_cons_zero, List.set_cons_succ]
            refine wpAnyH_ready (rs := [8]) (by kernel_rfl) (by simp) ?_
            refine AllReadyH.cons (o := ?or10_8) ?hor10_8 (fun K hK => ?stepr10_8) (AllReadyH.nil)
            case hor10_8 => simp only [List.getElem?_toArray, List.getElem?_cons_succ, List.getElem?_cons_zero]; exact rfl
            case stepr10_8 =>
              go_simp
              refine (lev_better _ _ _ _).mono ?_
              rw [hA]
              rintro e v5 ⟨rfl, rfl⟩
              refine hK.out _ _ ?hSr10_8 (fun hHeld => ?restr10_8)
              case hSr10_8 => exact hHeld
              clear hK K
              try simp only [Act.put, List.setIfInBounds_toArray, List.set_cons_zero, List.set_cons_succ]
              refine wpAnyH_take (i := 9) (oi := ?oim11) (v := ?vm11) ?him11 (by kernel_rfl) (by kernel_rfl) (by kernel_rfl) ?hQm11 (Or.inl ⟨?hwm11, ?hym11⟩) (by assumption) ?restm11
              case him11 => simp only [List.getElem?_toArray, List.getElem?_cons_succ, List.getElem?_cons_zero]; exact rfl
              case hQm11 => exact fun _ _ _ h => h
              case hwm11 => rfl
              case hym11 => ((intro w hSw; (try dsimp only at hSw); go_simp) <;> with_reducible rfl)
              try simp only [Act.put, List.setIfInBounds_toArray, List.set_cons_zero, List.set_cons_succ]
              refine wpAnyH_done (by kernel_rfl) ?_ _
              replace hownr := own_below hownr hHeld
              replace hbox := (hHeld.block _ hbx).trans hbox
              replace hbel := hbel.trans (Below.mono hHeld hbel.size)
              clear hHeld x0 x1 x2 c0 hbx hgw
              generalize wq.drew = wz at *
              have HAT := Lib.hid (show PutAt side zs n p t from ⟨htn, HLO.out, fun _ => ahd_yes (.inr hA)⟩)
              have HE := Lib.hid (show putE zs n p t = 0 by unfold putE; rw [if_neg (fun e => hp e.2)])
              clear hA hp
              obtain ⟨x0, x1, x2⟩ := box3 hbox
              go_wp2_with fail
              refine (impl_isRemoval _ _ _ _).mono ?_
              by_cases hm : m = 0
              · have hq : (q == 0 && m == 0) = true := by
                  have h1 := HUQ.out hm
                  simp [h1, hm]
                have HP := Lib.hid (show putL side zs n p q m = zs by rw [put_at hzl ho HAT.out, if_pos hm, List.append_nil, show putE zs n p t = 0 from HE.out, Nat.add_zero, List.take_append_drop])
                rw [hq]
                rintro e w6 ⟨rfl, hb6⟩
                replace hownr := own_below hownr hb6
                replace hbel := hbel.trans (hb6.mono hbel.size)
                clear hq hb6 x0 x1 x2 hm
                have HO := Lib.hid hownr
                clear hownr hbox
                go_wp2_with fail
                refine jump_ret.mpr ?_
                go_ret
                exact ⟨⟨_, n, rfl, by rw [HP.out]; exact hzl, by rw [HP.out]; exact HO.out⟩, own_grown hbel _⟩
              · have hq : (q == 0 && m == 0) = false := by simp [hm]
                have HP := Lib.hid (show putL side zs n p q m = insL zs t p q m by rw [put_at hzl ho HAT.out, if_neg hm, show putE zs n p t = 0 from HE.out]; rfl)
                rw [hq]
                rintro e w6 ⟨rfl, hb6⟩
                replace hownr := own_below hownr hb6
                replace hbel := hbel.trans (hb6.mono hbel.size)
                replace hbox := (hb6.block _ (heap_ltA hbox)).trans hbox
                clear hq hb6 x0 x1 x2 hm
                obtain ⟨x0, x1, x2⟩ := box3 hbox
                have hbs := hbel.size
                have hlt6 : ∀ k, (Value.slice (some ⟨g, 0, none⟩) n c).ownBlock = some k → k < w6.heap.size := fun k hk => (hownr.lt k hk).2
                go_wp2_with fail
                clear x0 x1 x2
                refine (impl_InsertL X n t w6.heap.size p q m _ zs _ (hownr.alloc _) (by simp; omega) (by omega) (by omega) (heap_alloc_new w6 _) (fun e => by have := hlt6 _ e.symm; omega)).mono ?_
                rintro e w7 ⟨⟨v7, rfl, hown7⟩, hg7⟩
                have HO := Lib.hid hown7
                have HG := Lib.hid (((own_grown hbel (Value.slice (some ⟨g, 0, none⟩) n c).ownBlock).trans (World.grownBy_alloc w6 _ _)).trans hg7)
                clear hown7 hg7 hownr hbox hlt6
                go_wp2_with fail
                refine jump_ret.mpr ?_
                go_ret
                exact ⟨⟨_, n + 1, rfl, by rw [HP.out]; exact insL_len hzl (by omega) p q m, by rw [HP.out]; exact HO.out⟩, HG.out⟩
          · refine wp_region_held_drew (S := (fun w' => Below wq.heap.size wq w')) (by kernel_rfl) ?hSm12 (fun hHeld => ?restm12)
            case hSm12 => exact (Below.refl _ _).drew
            refine wpAnyH_take (i := 0) (oi := ?oim13) (v := ?vm13) ?him13 (by kernel_rfl) (by kernel_rfl) (by kernel_rfl) ?hQm13 (Or.inl ⟨?hwm13, ?hym13⟩) (by assumption) ?restm13
            case him13 => simp only [List.getElem?_toArray, List.getElem?_cons_succ, List.getElem?_cons_zero]; exact rfl
            case hQm13 => exact fun _ _ _ h => h
            case hwm13 => rfl
            case hym13 => ((intro w hSw; (try dsimp only at hSw); go_simp) <;> with_reducible rfl)
            try simp only [Act.put, List.setIfInBounds_toArray, List.set_cons_zero, List.set_cons_succ]
            refine wpAnyH_take (i := 1) (oi := ?oim14) (v := ?vm14) ?him14 (by kernel_rfl) (by kernel_rfl) (by kernel_rfl) ?hQm14 (Or.inl ⟨?hwm14, ?hym14⟩) (by assumption) ?restm14
            case him14 => simp only [List.getElem?_toArray, List.getElem?_cons_succ, List.getElem?_cons_zero]; exact rfl
            case hQm14 => exact fun _ _ _ h => h
            case hwm14 => rfl
            case hym14 => ((intro w hSw; (try dsimp only at hSw); go_simp) <;> with_reducible rfl)
            try simp only [Act.put, List.setIfInBounds_toArray, List.set_cons_zero, List.set_cons_succ]
            refine wpAnyH_take (i := 2) (oi := ?oim15) (v := ?vm15) ?him15 (by kernel_rfl) (by kernel_rfl) (by kernel_rfl) ?hQm15 (Or.inl ⟨?hwm15, ?hym15⟩) (by assumption) ?restm15
            case him15 => simp only [List.getElem?_toArray, List.getElem?_cons_succ, List.getElem?_cons_zero]; exact rfl
            case hQm15 => exact fun _ _ _ h => h
            case hwm15 => rfl
            case hym15 => ((intro wS hSw; have t0 := (hSw.cell (p := ⟨w.heap.size, 0, none⟩) hbx).trans x0; go_simp) <;> with_reducible rfl)
            try simp only [Act.put, List.setIfInBounds_toArray, List.set_cons_zero, List.set_cons_succ]
            refine wpAnyH_take (i := 3) (oi := ?oim16) (v := ?vm16) ?him16 (by kernel_rfl) (by kernel_rfl) (by kernel_rfl) ?hQm16 (Or.inl ⟨?hwm16, ?hym16⟩) (by assumption) ?restm16
            case him16 => simp only [List.getElem?_toArray, List.getElem?_cons_succ, List.getElem?_cons_zero]; exact rfl
            case hQm16 => exact fun _ _ _ h => h
            case hwm16 => rfl
            case hym16 => ((intro w hSw; (try dsimp only at hSw); go_simp) <;> with_reducible rfl)
            try simp only [Act.put, List.setIfInBounds_toArray, List.set_cons_zero, List.set_cons_succ]
            refine wpAnyH_take (i := 4) (oi := ?oim17) (v := ?vm17) ?him17 (by kernel_rfl) (by kernel_rfl) (by kernel_rfl) ?hQm17 (Or.inl ⟨?hwm17, ?hym17⟩) (by assumption) ?restm17
            case him17 => simp only [List.getElem?_toArray, List.getElem?_cons_succ, List.getElem?_cons_zero]; exact rfl
            case hQm17 => exact fun _ _ _ h => h
            case hwm17 => rfl
            case hym17 => ((intro w hSw; (try dsimp only at hSw); go_simp) <;> with_reducible rfl)
            try simp only [Act.put, List.setIfInBounds_toArray, List.set_cons_zero, List.set_cons_succ]
            refine wpAnyH_take (i := 5) (oi := ?oim18) (v := ?vm18) ?him18 (by kernel_rfl) (by kernel_rfl) (by kernel_rfl) ?hQm18 (Or.inl ⟨?hwm18, ?hym18⟩) (by assumption) ?restm18
            case him18 => simp only [List.getElem?_toArray, List.getElem?_cons_succ, List.getElem?_cons_zero]; exact rfl
            case hQm18 => exact fun _ _ _ h => h
            case hwm18 => rfl
            case hym18 => ((intro w hSw; (try dsimp only at hSw); go_simp) <;> with_reducible rfl)
            try simp only [Act.put, List.setIfInBounds_toArray, List.set_cons_zero, List.set_cons_succ]
            refine wpAnyH_take (i := 6) (oi := ?oim19) (v := ?vm19) ?him19 (by kernel_rfl) (by kernel_rfl) (by kernel_rfl) ?hQm19 (Or.inl ⟨?hwm19, ?hym19⟩) (by assumption) ?restm19
            case him19 => simp only [List.getElem?_toArray, List.getElem?_cons_succ, List.getElem?_cons_zero]; exact rfl
            case hQm19 => exact fun _ _ _ h => h
            case hwm19 => rfl
            case hym19 => ((intro w hSw; (try dsimp only at hSw); go_simp) <;> with_reducible rfl)
            try simp only [Act.put, List.setIfInBounds_toArray, List.set_cons_zero, List.set_cons_succ]
            refine wpAnyH_take (i := 7) (oi := ?oim20) (v := ?vm20) ?him20 (by kernel_rfl) (by kernel_rfl) (by kernel_rfl) ?hQm20 (Or.inl ⟨?hwm20, ?hym20⟩) (by assumption) ?restm20
            case him20 => simp only [List.getElem?_toArray, List.getElem?_cons_succ, List.getElem?_cons_zero]; exact rfl
            case hQm20 => exact fun _ _ _ h => h
            case hwm20 => rfl
            case hym20 => ((intro wS hSw; have t0 := (hSw.cell (p := ⟨g, t * 3, none⟩) hgw).trans c0; go_simp) <;> with_reducible rfl)
            try simp only [Act.put, List.setIfInBounds_toArray, List.set_cons_zero, List.set_cons_succ]
            refine wpAnyH_ready (rs := [8]) (by kernel_rfl) (by simp) ?_
            refine AllReadyH.cons (o := ?or21_8) ?hor21_8 (fun K hK => ?stepr21_8) (AllReadyH.nil)
            case hor21_8 => simp only [List.getElem?_toArray, List.getElem?_cons_succ, List.getElem?_cons_zero]; exact rfl
            case stepr21_8 =>
              go_simp
              refine (lev_better _ _ _ _).mono ?_
              rw [hA]
              rintro e v5 ⟨rfl, rfl⟩
              refine hK.out _ _ ?hSr21_8 (fun hHeld => ?restr21_8)
              case hSr21_8 => exact hHeld
              clear hK K
              try simp only [Act.put, List.setIfInBounds_toArray, List.set_cons_zero, List.set_cons_succ]
              refine wpAnyH_take (i := 9) (oi := ?oim22) (v := ?vm22) ?him22 (by kernel_rfl) (by kernel_rfl) (by kernel_rfl) ?hQm22 (Or.inl ⟨?hwm22, ?hym22⟩) (by assumption) ?restm22
              case him22 => simp only [List.getElem?_toArray, List.getElem?_cons_succ, List.getElem?_cons_zero]; exact rfl
              case hQm22 => exact fun _ _ _ h => h
              case hwm22 => rfl
              case hym22 => ((intro w hSw; (try dsimp only at hSw); go_simp) <;> with_reducible rfl)
              try simp only [Act.put, List.setIfInBounds_toArray, List.set_cons_zero, List.set_cons_succ]
              refine wpAnyH_done (by kernel_rfl) ?_ _
              replace hownr := own_below hownr hHeld
              replace hbox := (hHeld.block _ hbx).trans hbox
              replace hbel := hbel.trans (Below.mono hHeld hbel.size)
              clear hHeld x0 x1 x2 c0 hbx hgw
              generalize wq.drew = wz at *
              have HA := Lib.hid hA
              have HNP := Lib.hid hp
              clear hA hp
              have HO := Lib.hid hownr
              clear hownr
              have HL2 := Lib.hid (show ∀ j, j < t + 1 → ahdB side (num zs (j * 3)) p = true from fun j hj => by
                rcases Nat.lt_or_ge j t with a | a
                · exact HLO.out j a
                · obtain rfl : j = t := by omega
                  rcases Bool.eq_false_or_eq_true (ahdB side (num zs (j * 3)) p) with b | b
                  · exact b
                  · rcases ahd_not b with d | d
                    · exact absurd d HNP.out
                    · rw [HA.out] at d
                      cases d)
              go_wp2_with fail
              go_roundw
              case rel => exact ⟨t + 1, by omega, by go_num, HL2.out, hbel, hbox, HO.out⟩
              case measure => simp [intOf]; omega
      · obtain rfl : t = n := by omega
        have HAT := Lib.hid (show PutAt side zs t p t from ⟨Nat.le_refl _, HLO.out, fun h => absurd h (Nat.lt_irrefl _)⟩)
        have HE := Lib.hid (show putE zs t p t = 0 by unfold putE; rw [if_neg (fun e => Nat.lt_irrefl _ e.1)])
        clear x0 x1 x2
        obtain ⟨x0, x1, x2⟩ := box3 hbox
        go_wp2_with fail
        refine (impl_isRemoval _ _ _ _).mono ?_
        by_cases hm : m = 0
        · have hq : (q == 0 && m == 0) = true := by
            have h1 := HUQ.out hm
            simp [h1, hm]
          have HP := Lib.hid (show putL side zs t p q m = zs by rw [put_at hzl ho HAT.out, if_pos hm, List.append_nil, show putE zs t p t = 0 from HE.out, Nat.add_zero, List.take_append_drop])
          rw [hq]
          rintro e w6 ⟨rfl, hb6⟩
          replace hownr := own_below hownr hb6
          replace hbel := hbel.trans (hb6.mono hbel.size)
          clear hq hb6 x0 x1 x2 hm
          have HO := Lib.hid hownr
          clear hownr hbox
          go_wp2_with fail
          refine jump_ret.mpr ?_
          go_ret
          exact ⟨⟨_, t, rfl, by rw [HP.out]; exact hzl, by rw [HP.out]; exact HO.out⟩, own_grown hbel _⟩
        · have hq : (q == 0 && m == 0) = false := by simp [hm]
          have HP := Lib.hid (show putL side zs t p q m = insL zs t p q m by rw [put_at hzl ho HAT.out, if_neg hm, show putE zs t p t = 0 from HE.out]; rfl)
          rw [hq]
          rintro e w6 ⟨rfl, hb6⟩
          replace hownr := own_below hownr hb6
          replace hbel := hbel.trans (hb6.mono hbel.size)
          replace hbox := (hb6.block _ (heap_ltA hbox)).trans hbox
          clear hq hb6 x0 x1 x2 hm
          obtain ⟨x0, x1, x2⟩ := box3 hbox
          have hbs := hbel.size
          have hlt6 : ∀ k, (Value.slice A t c).ownBlock = some k → k < w6.heap.size := fun k hk => (hownr.lt k hk).2
          go_wp2_with fail
          clear x0 x1 x2
          refine (impl_InsertL X t t w6.heap.size p q m _ zs _ (hownr.alloc _) (by simp; omega) (by omega) (by omega) (heap_alloc_new w6 _) (fun e => by have := hlt6 _ e.symm; omega)).mono ?_
          rintro e w7 ⟨⟨v7, rfl, hown7⟩, hg7⟩
          have HO := Lib.hid hown7
          have HG := Lib.hid (((own_grown hbel (Value.slice A t c).ownBlock).trans (World.grownBy_alloc w6 _ _)).trans hg7)
          clear hown7 hg7 hownr hbox hlt6
          go_wp2_with fail
          refine jump_ret.mpr ?_
          go_ret
          exact ⟨⟨_, t + 1, rfl, by rw [HP.out]; exact insL_len hzl (by omega) p q m, by rw [HP.out]; exact HO.out⟩, HG.out⟩
  case pass =>
    intro a wj hJ
    obtain ⟨t, u8, u9, u10, u11, u12, u13, u14, u15, u16, u17, u18, u19, u20, u21, u22, u23, u24, u25, u26, u27, u28, u29, u30, u31, u32, u33, u34, u35, u36, u37, u38, u39, u40, u41, u42, u43, u44, u45, u46, u47, u48, u49, u50, u51, u52, rfl, hlt, hat, hp, hbox, hownr, hbel⟩ := hJ
    have HAT := Lib.hid hat
    have HE := Lib.hid (show putE zs n p t = 1 by unfold putE; rw [if_pos ⟨hlt, hp⟩])
    clear hat hp
    obtain ⟨x0, x1, x2⟩ := box3 hbox
    go_wp2_with fail
    refine (impl_isRemoval _ _ _ _).mono ?_
    by_cases hm : m = 0
    · have hq : (q == 0 && m == 0) = true := by
        have h1 := HUQ.out hm
        simp [h1, hm]
      obtain ⟨k, rfl⟩ : ∃ k, n = k + 1 := ⟨n - 1, by omega⟩
      have HP := Lib.hid (show putL side zs (k + 1) p q m = delL zs t by rw [put_at hzl ho HAT.out, if_pos hm, List.append_nil, HE.out]; rfl)
      rw [hq]
      rintro e w6 ⟨rfl, hb6⟩
      replace hownr := own_below hownr hb6
      replace hbel := hbel.trans (hb6.mono hbel.size)
      clear hq hb6 x0 x1 x2 hm hbox
      go_wp2_with fail
      refine (impl_DeleteL X k t _ zs _ hownr (by omega) (by omega)).mono ?_
      rintro e w7 ⟨⟨v7, rfl, hown7⟩, hg7⟩
      have HO := Lib.hid hown7
      have HG := Lib.hid ((own_grown hbel (Value.slice A (k + 1) c).ownBlock).trans hg7)
      clear hown7 hg7 hownr
      go_wp2_with fail
      refine jump_ret.mpr ?_
      go_ret
      exact ⟨⟨_, k, rfl, by rw [HP.out, delL_len hzl (by omega)]; rfl, by rw [HP.out]; exact HO.out⟩, HG.out⟩
    · have hq : (q == 0 && m == 0) = false := by simp [hm]
      have HP := Lib.hid (show putL side zs n p q m = setL zs t p q m by rw [put_at hzl ho HAT.out, if_neg hm, HE.out]; rfl)
      rw [hq]
      rintro e w6 ⟨rfl, hb6⟩
      replace hownr := own_below hownr hb6
      replace hbel := hbel.trans (hb6.mono hbel.size)
      replace hbox := (hb6.block _ (heap_ltA hbox)).trans hbox
      clear hq hb6 x0 x1 x2 hm
      obtain ⟨x0, x1, x2⟩ := box3 hbox
      obtain ⟨g, cap, hg, _, _⟩ := hownr.form (by omega)
      injection hg with hg1 hg2 hg3
      subst hg1 hg3
      obtain ⟨hXg, _, _, F, hrow, hF⟩ := row_of_nums hownr
      have c0 := hrow.cell (i := t * 3) (by omega)
      have c1 := hrow.cell (i := t * 3 + 1) (by omega)
      have c2 := hrow.cell (i := t * 3 + 2) (by omega)
      have z := hrow.frozen
      have HO := Lib.hid (own_of_row (X := X) (N := n) (zs := setL zs t p q m) (((hrow.set (t * 3) (.int .i64 p)).set (t * 3 + 1) (.int .i64 q)).set (t * 3 + 2) (.int .i64 m)) hXg (by omega) hcm (by rw [setL_len hzl hlt]) (fun x hx => by
        rcases (show x < t * 3 ∨ x = t * 3 ∨ x = t * 3 + 1 ∨ x = t * 3 + 2 ∨ t * 3 + 3 ≤ x by omega) with h1 | rfl | rfl | rfl | h1
        · rw [setL_lo hzl hlt h1, if_neg (by omega), if_neg (by omega), if_neg (by omega), hF x hx]
        · rw [show num (setL zs t p q m) (t * 3) = p from setL_at hzl hlt (j := 0) (by omega), if_neg (by omega), if_neg (by omega), if_pos rfl]
        · rw [show num (setL zs t p q m) (t * 3 + 1) = q from setL_at hzl hlt (j := 1) (by omega), if_neg (by omega), if_pos rfl]
        · rw [show num (setL zs t p q m) (t * 3 + 2) = m from setL_at hzl hlt (j := 2) (by omega), if_pos rfl]
        · rw [setL_hi hzl hlt h1, if_neg (by omega), if_neg (by omega), if_neg (by omega), hF x hx]))
      have HG := Lib.hid ((((own_grown hbel (some g)).trans (setN_grown w6 g (t * 3) (.int .i64 p))).trans (setN_grown _ g (t * 3 + 1) (.int .i64 q))).trans (setN_grown _ g (t * 3 + 2) (.int .i64 m)))
      clear hrow hF hownr hbox
      go_wp2_with fail
      refine jump_ret.mpr ?_
      go_ret
      exact ⟨⟨_, n, rfl, by rw [HP.out, setL_len hzl hlt], by rw [HP.out]; exact HO.out⟩, HG.out⟩
end Go.Proofs.Ytfodkefaflpicaa
