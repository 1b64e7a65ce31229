/-
  The drawn law of books.
-/
import Derived.Test.YtnldfbcelakimaaGD
import Derived.Test.YtnldfbcelakimaaOptS
import Derived.Test.YtnldfbcelakimaaGS
import Derived.Test.YtnldfbcelakimaaLawInts
import Derived.Test.YtnldfbcelakimaaLawCell
namespace Go.Proofs.Ytnldfbcelakimaa
open Go.RowKit Wire

/-- a side that has orders is one of a right book, in order -/
theorem side_bk {za zb : List Int} {n m : Nat} {s : Int} (h : 0 < sideN (bookB za n zb m) s n m) :
    (s = 1 ∧ ∀ j, j + 1 < sideN (bookB za n zb m) s n m → decide (num (sideZ (bookB za n zb m) s za zb) (j * 4 + 2) < num (sideZ (bookB za n zb m) s za zb) ((j + 1) * 4 + 2)) = false) ∨
    (s = 2 ∧ ∀ j, j + 1 < sideN (bookB za n zb m) s n m → decide (num (sideZ (bookB za n zb m) s za zb) ((j + 1) * 4 + 2) < num (sideZ (bookB za n zb m) s za zb) (j * 4 + 2)) = false) := by
  unfold sideN sideZ at *
  by_cases h1 : bookB za n zb m = true ∧ s = 1
  · refine .inl ⟨h1.2, fun j hj => ?_⟩
    rw [if_pos h1] at hj ⊢
    have hb := h1.1
    simp only [bookB, sideB, Bool.and_eq_true] at hb
    have := srt_pair n hb.1.2.2 j (j + 1) (by omega) hj
    unfold betB at this
    rw [if_pos rfl] at this
    exact this
  · rw [if_neg h1] at h
    by_cases h2 : bookB za n zb m = true ∧ s = 2
    · refine .inr ⟨h2.2, fun j hj => ?_⟩
      rw [if_neg h1, if_pos h2] at hj ⊢
      have hb := h2.1
      simp only [bookB, sideB, Bool.and_eq_true] at hb
      have := srt_pair m hb.2.1.2.2 j (j + 1) (by omega) hj
      unfold betB at this
      rw [if_neg (by omega)] at this
      exact this
    · rw [if_neg h2] at h
      omega
/-- of a right book with both sides the best bid is below the best ask -/
theorem best_two {za zb : List Int} {n m : Nat} (h1 : bestB (bookB za n zb m) 1 n m = true) (h2 : bestB (bookB za n zb m) 2 n m = true) : bestP (bookB za n zb m) 1 za zb n m < bestP (bookB za n zb m) 2 za zb n m := by
  unfold bestB at h1 h2
  have e1 := of_decide_eq_true h1
  have e2 := of_decide_eq_true h2
  unfold bestP
  rw [if_neg e1, if_neg e2]
  unfold sideN at e1 e2
  unfold sideZ
  by_cases hb : bookB za n zb m = true
  · rw [if_pos ⟨hb, rfl⟩] at e1
    rw [if_neg (by omega), if_pos ⟨hb, rfl⟩] at e2
    rw [if_pos ⟨hb, rfl⟩, if_neg (by omega), if_pos ⟨hb, rfl⟩]
    simp only [bookB, Bool.and_eq_true, Bool.not_eq_true'] at hb
    have hc := hb.2.2.1
    unfold crossB at hc
    rw [decide_eq_true (show 0 < n by omega), decide_eq_true (show 0 < m by omega), Bool.true_and, Bool.true_and] at hc
    have := of_decide_eq_false hc
    unfold price at this
    simp only [Nat.zero_mul, Nat.zero_add] at this
    omega
  · rw [if_neg (fun h => hb h.1), if_neg (fun h => hb h.1)] at e1
    exact absurd rfl e1
set_option linter.unusedSimpArgs false in
set_option linter.unusedVariables false in
set_option maxHeartbeats 6400000 in
set_option maxRecDepth 100000 in
theorem law_BooksD (A : Option Addr) (len cap : Nat) (ys : List Int) (w : World) (hrow : IsRow .u8 w A len cap ys) :
    Calls Try.prog 3 #[.slice A len cap] w fun e w' => e = .returned (.bool true) ∧ Below w.heap.size w w' := by
  have hs := src_of_row hrow
  have hl := row_len hrow
  clear hrow
  have hsrc : ∀ w', Below w.heap.size w w' → Src w' w'.heap.size A len := fun w' hb i hi => by
    obtain ⟨b, o, n, h1, h2, h3, h4, h5⟩ := hs i hi
    exact ⟨b, o, n, h1, Nat.lt_of_lt_of_le h2 hb.size, h3, h4, (hb.cell (p := ⟨b, o + i, none⟩) h2).trans h5⟩
  by_cases hbig : 1048576 < len
  · go_enter Try.func3, Try.ntmps3
    go_wp2_with (go_at_call 9; go_in)
    go_ret
    exact ⟨rfl, Below.refl _ _⟩
  go_enter Try.func3, Try.ntmps3
  go_wp2_with (go_at_call 9; go_in)
  refine (DrawSide_any A len cap _ hs hl).mono ?_
  rintro e w1 ⟨v1, n, za, v2, m, zb, s, rfl, -, hn, hm, TB, D⟩
  obtain ⟨A1, c, A2, d, rfl, rfl⟩ := TB.slices
  have kB := heap_alloc_new w1 (.cells #[.slice A1 n c, .slice A2 m d] 26)
  have hba : Below w1.heap.size w1 (w1.alloc (.cells #[.slice A1 n c, .slice A2 m d] 26)) := (Below.refl _ _).alloc (Nat.le_refl _) _
  replace D := D.trans (hba.mono D.size)
  replace TB := TB.below hba
  clear hba
  obtain ⟨p0, p1⟩ := cell2 kB
  go_wp2_with fail
  clear p0 p1
  generalize w1.alloc (.cells #[.slice A1 n c, .slice A2 m d] 26) = w2 at *
  generalize w1.heap.size = X1 at *
  have HS := Lib.hid (side_bk (za := za) (n := n) (zb := zb) (m := m) (s := s))
  have hN := sideN_le (bk := bookB za n zb m) (side := s) hn hm
  refine (impl_Side A1 n c A2 m d za zb s w2 (Lst.of_own TB.one) (Lst.of_own TB.two) (by omega) (by omega)).mono ?_
  rintro e w3 ⟨⟨r, rfl, TL⟩, hb3⟩
  replace D := D.trans (hb3.mono D.size)
  replace TB := TB.below hb3
  replace kB := (hb3.block _ (heap_lt kB)).trans kB
  clear hb3
  generalize hsN : sideN (bookB za n zb m) s n m = N at *
  generalize hsZ : sideZ (bookB za n zb m) s za zb = Z at *
  have HN := Lib.hid hsN
  have HZ := Lib.hid hsZ
  clear hsN hsZ
  obtain ⟨AL, cL, rfl, _, _⟩ := own_slice TL
  go_wp2_with fail
  refine (DrawBest_any A len cap _ (hsrc _ D) hl).mono ?_
  rintro e w4 ⟨v1, n', za', v2, m', zb', s', rfl, -, hn', hm', TX, hb4⟩
  obtain ⟨B1, c', B2, d', rfl, rfl⟩ := TX.slices
  replace D := D.trans (hb4.mono D.size)
  replace TB := TB.below hb4
  replace kB := (hb4.block _ (heap_lt kB)).trans kB
  replace TL := own_below TL hb4
  clear hb4
  have kX := heap_alloc_new w4 (.cells #[.slice B1 n' c', .slice B2 m' d'] 26)
  have hba : Below w4.heap.size w4 (w4.alloc (.cells #[.slice B1 n' c', .slice B2 m' d'] 26)) := (Below.refl _ _).alloc (Nat.le_refl _) _
  replace D := D.trans (hba.mono D.size)
  replace TB := TB.below hba
  replace kB := (hba.block _ (heap_lt kB)).trans kB
  replace TL := own_below TL hba
  replace TX := TX.below hba
  clear hba
  obtain ⟨p0, p1⟩ := cell2 kX
  go_wp2_with fail
  clear p0 p1
  generalize w4.alloc (.cells #[.slice B1 n' c', .slice B2 m' d'] 26) = w5 at *
  generalize w4.heap.size = X2 at *
  refine (impl_Best B1 n' c' B2 m' d' za' zb' s' w5 (Lst.of_own TX.one) (Lst.of_own TX.two) (by omega) (by omega)).mono ?_
  rintro e w6 ⟨rfl, hb6⟩
  replace D := D.trans (hb6.mono D.size)
  replace TB := TB.below hb6
  replace kB := (hb6.block _ (heap_lt kB)).trans kB
  replace TL := own_below TL hb6
  replace TX := TX.below hb6
  replace kX := (hb6.block _ (heap_lt kX)).trans kX
  clear hb6
  generalize hp : bestP (bookB za' n' zb' m') s' za' zb' n' m' = p
  generalize hq : bestB (bookB za' n' zb' m') s' n' m' = q
  have HP := Lib.hid hp
  have HQ := Lib.hid hq
  clear hp hq
  obtain ⟨p0, p1⟩ := cell2 kX
  go_wp2_with fail
  clear p0 p1
  refine (spec_BestO B1 n' c' B2 m' d' za' zb' s' w6 (Lst.of_own TX.one) (Lst.of_own TX.two) (by omega) (by omega) (own_nil TX.one) (own_nil TX.two)).mono ?_
  rw [HP.out, HQ.out]
  rintro e w7 ⟨rfl, hb7⟩
  replace D := D.trans (hb7.mono D.size)
  replace TB := TB.below hb7
  replace kB := (hb7.block _ (heap_lt kB)).trans kB
  replace TL := own_below TL hb7
  replace TX := TX.below hb7
  replace kX := (hb7.block _ (heap_lt kX)).trans kX
  clear hb7 HP HQ kX TX
  go_wp2_with fail
  refine (DrawBookOk_any A len cap _ (hsrc _ D) hl).mono ?_
  rintro e w8 ⟨v1, n'', zy, v2, m'', zz, rfl, hn'', hm'', TY, hb8⟩
  obtain ⟨E1, c'', E2, d'', rfl, rfl⟩ := TY.slices
  replace D := D.trans (hb8.mono D.size)
  replace TB := TB.below hb8
  replace kB := (hb8.block _ (heap_lt kB)).trans kB
  replace TL := own_below TL hb8
  clear hb8
  have kY := heap_alloc_new w8 (.cells #[.slice E1 n'' c'', .slice E2 m'' d''] 26)
  have hba : Below w8.heap.size w8 (w8.alloc (.cells #[.slice E1 n'' c'', .slice E2 m'' d''] 26)) := (Below.refl _ _).alloc (Nat.le_refl _) _
  replace D := D.trans (hba.mono D.size)
  replace TB := TB.below hba
  replace kB := (hba.block _ (heap_lt kB)).trans kB
  replace TL := own_below TL hba
  replace TY := TY.below hba
  clear hba
  go_upto_region 9 with fail
  generalize w8.alloc (.cells #[.slice E1 n'' c'', .slice E2 m'' d''] 26) = w9 at *
  generalize w8.heap.size = X3 at *
  have hpp : (p != p) = false := by simp
  have hqq : (q != q) = false := by simp
  generalize hbk : bookB zy n'' zz m'' = bk
  have HBK := Lib.hid hbk
  clear hbk
  have hkk : (bk != bk) = false := by simp
  obtain ⟨p0, p1⟩ := cell2 kB
  obtain ⟨r0, r1⟩ := cell2 kY
  have hlB := heap_lt kB
  have hlY := heap_lt kY
  refine wp_region_held_drew (S := (fun w' => Below w9.heap.size w9 w')) (by kernel_rfl) ?hSm1 (fun hHeld => ?restm1)
  case hSm1 => exact (Below.refl _ _).drew
  refine wpAnyH_take (i := 0) (oi := ?oim2) (v := ?vm2) ?him2 (by kernel_rfl) (by kernel_rfl) (by kernel_rfl) ?hQm2 (Or.inl ⟨?hwm2, ?hym2⟩) (by assumption) ?restm2
  case him2 => simp only [List.getElem?_toArray, List.getElem?_cons_succ, List.getElem?_cons_zero]; exact rfl
  case hQm2 => exact fun _ _ _ h => h
  case hwm2 => rfl
  case hym2 => ((intro w hSw; (try dsimp only at hSw); go_simp) <;> with_reducible rfl)
  try simp only [Act.put, List.setIfInBounds_toArray, List.set_cons_zero, List.set_cons_succ]
  refine wpAnyH_take (i := 1) (oi := ?oim3) (v := ?vm3) ?him3 (by kernel_rfl) (by kernel_rfl) (by kernel_rfl) ?hQm3 (Or.inl ⟨?hwm3, ?hym3⟩) (by assumption) ?restm3
  case him3 => simp only [List.getElem?_toArray, List.getElem?_cons_succ, List.getElem?_cons_zero]; exact rfl
  case hQm3 => exact fun _ _ _ h => h
  case hwm3 => rfl
  case hym3 => ((intro w hSw; have t0 := (hSw.cell (p := ⟨X1, 0, none⟩) hlB).trans p0; have t1 := (hSw.cell (p := ⟨X1, 1, none⟩) hlB).trans p1; go_simp) <;> with_reducible rfl)
  try simp only [Act.put, List.setIfInBounds_toArray, List.set_cons_zero, List.set_cons_succ]
  refine wpAnyH_take (i := 2) (oi := ?oim4) (v := ?vm4) ?him4 (by kernel_rfl) (by kernel_rfl) (by kernel_rfl) ?hQm4 (Or.inl ⟨?hwm4, ?hym4⟩) (by assumption) ?restm4
  case him4 => simp only [List.getElem?_toArray, List.getElem?_cons_succ, List.getElem?_cons_zero]; exact rfl
  case hQm4 => exact fun _ _ _ h => h
  case hwm4 => rfl
  case hym4 => ((intro w hSw; (try dsimp only at hSw); go_simp) <;> with_reducible rfl)
  try simp only [Act.put, List.setIfInBounds_toArray, List.set_cons_zero, List.set_cons_succ]
  refine wpAnyH_ready (rs := [3]) (by kernel_rfl) (by simp) ?_
  refine AllReadyH.cons (o := ?or5_3) ?hor5_3 (fun K hK => ?stepr5_3) (AllReadyH.nil)
  case hor5_3 => simp only [List.getElem?_toArray, List.getElem?_cons_succ, List.getElem?_cons_zero]; exact rfl
  case stepr5_3 =>
    go_simp
    refine (spec_SideO A1 n c A2 m d za zb s _ (Lst.of_own (TB.below hHeld).one) (Lst.of_own (TB.below hHeld).two) (by omega) (by omega) (own_nil TB.one) (own_nil TB.two)).mono ?_
    rw [HN.out, HZ.out]
    rintro e v1 ⟨⟨r, rfl, hown1⟩, hb1⟩
    obtain ⟨AR, cR, rfl, _, _⟩ := own_slice hown1
    have hB1 : Below w9.heap.size w9 v1 := Below.trans hHeld (hb1.mono (Below.size hHeld))
    refine hK.out _ _ ?hSr5_3 (fun hHeld => ?restr5_3)
    case hSr5_3 => exact hB1
    clear hK K
    try simp only [Act.put, List.setIfInBounds_toArray, List.set_cons_zero, List.set_cons_succ]
    refine wpAnyH_ready (rs := [4]) (by kernel_rfl) (by simp) ?_
    refine AllReadyH.cons (o := ?or6_4) ?hor6_4 (fun K hK => ?stepr6_4) (AllReadyH.nil)
    case hor6_4 => simp only [List.getElem?_toArray, List.getElem?_cons_succ, List.getElem?_cons_zero]; exact rfl
    case stepr6_4 =>
      go_simp
      refine (sameOrders_same AL AR N cL cR Z v1 (Lst.of_own (own_below TL hB1)) (Lst.of_own hown1) (by omega)).mono ?_
      rintro e v2 ⟨rfl, hb2⟩
      have hB2 := hB1.trans (hb2.mono hB1.size)
      refine hK.out _ _ ?hSr6_4 (fun hHeld => ?restr6_4)
      case hSr6_4 => exact hB2
      clear hK K
      try simp only [Act.put, List.setIfInBounds_toArray, List.set_cons_zero, List.set_cons_succ]
      refine wpAnyH_take (i := 5) (oi := ?oim7) (v := ?vm7) ?him7 (by kernel_rfl) (by kernel_rfl) (by kernel_rfl) ?hQm7 (Or.inl ⟨?hwm7, ?hym7⟩) (by assumption) ?restm7
      case him7 => simp only [List.getElem?_toArray, List.getElem?_cons_succ, List.getElem?_cons_zero]; exact rfl
      case hQm7 => exact fun _ _ _ h => h
      case hwm7 => rfl
      case hym7 => ((intro w hSw; (try dsimp only at hSw); go_simp) <;> with_reducible rfl)
      try simp only [Act.put, List.setIfInBounds_toArray, List.set_cons_zero, List.set_cons_succ]
      refine wpAnyH_take (i := 6) (oi := ?oim8) (v := ?vm8) ?him8 (by kernel_rfl) (by kernel_rfl) (by kernel_rfl) ?hQm8 (Or.inl ⟨?hwm8, ?hym8⟩) (by assumption) ?restm8
      case him8 => simp only [List.getElem?_toArray, List.getElem?_cons_succ, List.getElem?_cons_zero]; exact rfl
      case hQm8 => exact fun _ _ _ h => h
      case hwm8 => rfl
      case hym8 => ((intro w hSw; (try dsimp only at hSw); go_simp) <;> with_reducible rfl)
      try simp only [Act.put, List.setIfInBounds_toArray, List.set_cons_zero, List.set_cons_succ]
      refine wpAnyH_take (i := 7) (oi := ?oim9) (v := ?vm9) ?him9 (by kernel_rfl) (by kernel_rfl) (by kernel_rfl) ?hQm9 (Or.inl ⟨?hwm9, ?hym9⟩) (by assumption) ?restm9
      case him9 => simp only [List.getElem?_toArray, List.getElem?_cons_succ, List.getElem?_cons_zero]; exact rfl
      case hQm9 => exact fun _ _ _ h => h
      case hwm9 => rfl
      case hym9 => ((intro w hSw; (try dsimp only at hSw); go_simp) <;> with_reducible rfl)
      try simp only [Act.put, List.setIfInBounds_toArray, List.set_cons_zero, List.set_cons_succ]
      refine wpAnyH_take (i := 8) (oi := ?oim10) (v := ?vm10) ?him10 (by kernel_rfl) (by kernel_rfl) (by kernel_rfl) ?hQm10 (Or.inl ⟨?hwm10, ?hym10⟩) (by assumption) ?restm10
      case him10 => simp only [List.getElem?_toArray, List.getElem?_cons_succ, List.getElem?_cons_zero]; exact rfl
      case hQm10 => exact fun _ _ _ h => h
      case hwm10 => rfl
      case hym10 => ((intro w hSw; (try dsimp only at hSw); go_simp) <;> with_reducible rfl)
      try simp only [Act.put, List.setIfInBounds_toArray, List.set_cons_zero, List.set_cons_succ]
      refine wpAnyH_take (i := 9) (oi := ?oim11) (v := ?vm11) ?him11 (by kernel_rfl) (by kernel_rfl) (by kernel_rfl) ?hQm11 (Or.inl ⟨?hwm11, ?hym11⟩) (by assumption) ?restm11
      case him11 => simp only [List.getElem?_toArray, List.getElem?_cons_succ, List.getElem?_cons_zero]; exact rfl
      case hQm11 => exact fun _ _ _ h => h
      case hwm11 => rfl
      case hym11 => ((intro w hSw; (try dsimp only at hSw); go_simp) <;> with_reducible rfl)
      try simp only [Act.put, List.setIfInBounds_toArray, List.set_cons_zero, List.set_cons_succ]
      refine wpAnyH_take (i := 10) (oi := ?oim12) (v := ?vm12) ?him12 (by kernel_rfl) (by kernel_rfl) (by kernel_rfl) ?hQm12 (Or.inl ⟨?hwm12, ?hym12⟩) (by assumption) ?restm12
      case him12 => simp only [List.getElem?_toArray, List.getElem?_cons_succ, List.getElem?_cons_zero]; exact rfl
      case hQm12 => exact fun _ _ _ h => h
      case hwm12 => rfl
      case hym12 => ((intro w hSw; (try dsimp only at hSw); go_simp) <;> with_reducible rfl)
      try simp only [Act.put, List.setIfInBounds_toArray, List.set_cons_zero, List.set_cons_succ]
      refine wpAnyH_take (i := 11) (oi := ?oim13) (v := ?vm13) ?him13 (by kernel_rfl) (by kernel_rfl) (by kernel_rfl) ?hQm13 (Or.inl ⟨?hwm13, ?hym13⟩) (by assumption) ?restm13
      case him13 => simp only [List.getElem?_toArray, List.getElem?_cons_succ, List.getElem?_cons_zero]; exact rfl
      case hQm13 => exact fun _ _ _ h => h
      case hwm13 => rfl
      case hym13 => ((intro w hSw; (try dsimp only at hSw); go_simp) <;> with_reducible rfl)
      try simp only [Act.put, List.setIfInBounds_toArray, List.set_cons_zero, List.set_cons_succ]
      refine wpAnyH_take (i := 12) (oi := ?oim14) (v := ?vm14) ?him14 (by kernel_rfl) (by kernel_rfl) (by kernel_rfl) ?hQm14 (Or.inl ⟨?hwm14, ?hym14⟩) (by assumption) ?restm14
      case him14 => simp only [List.getElem?_toArray, List.getElem?_cons_succ, List.getElem?_cons_zero]; exact rfl
      case hQm14 => exact fun _ _ _ h => h
      case hwm14 => rfl
      case hym14 => ((intro w hSw; (try dsimp only at hSw); go_simp) <;> with_reducible rfl)
      try simp only [Act.put, List.setIfInBounds_toArray, List.set_cons_zero, List.set_cons_succ]
      refine wpAnyH_take (i := 13) (oi := ?oim15) (v := ?vm15) ?him15 (by kernel_rfl) (by kernel_rfl) (by kernel_rfl) ?hQm15 (Or.inl ⟨?hwm15, ?hym15⟩) (by assumption) ?restm15
      case him15 => simp only [List.getElem?_toArray, List.getElem?_cons_succ, List.getElem?_cons_zero]; exact rfl
      case hQm15 => exact fun _ _ _ h => h
      case hwm15 => rfl
      case hym15 => ((intro w hSw; (try dsimp only at hSw); go_simp) <;> with_reducible rfl)
      try simp only [Act.put, List.setIfInBounds_toArray, List.set_cons_zero, List.set_cons_succ]
      refine wpAnyH_take (i := 14) (oi := ?oim16) (v := ?vm16) ?him16 (by kernel_rfl) (by kernel_rfl) (by kernel_rfl) ?hQm16 (Or.inl ⟨?hwm16, ?hym16⟩) (by assumption) ?restm16
      case him16 => simp only [List.getElem?_toArray, List.getElem?_cons_succ, List.getElem?_cons_zero]; exact rfl
      case hQm16 => exact fun _ _ _ h => h
      case hwm16 => rfl
      case hym16 => ((intro w hSw; (try dsimp only at hSw); go_simp) <;> with_reducible rfl)
      try simp only [Act.put, List.setIfInBounds_toArray, List.set_cons_zero, List.set_cons_succ]
      refine wpAnyH_take (i := 15) (oi := ?oim17) (v := ?vm17) ?him17 (by kernel_rfl) (by kernel_rfl) (by kernel_rfl) ?hQm17 (Or.inl ⟨?hwm17, ?hym17⟩) (by assumption) ?restm17
      case him17 => simp only [List.getElem?_toArray, List.getElem?_cons_succ, List.getElem?_cons_zero]; exact rfl
      case hQm17 => exact fun _ _ _ h => h
      case hwm17 => rfl
      case hym17 => ((intro w hSw; (try dsimp only at hSw); go_simp) <;> with_reducible rfl)
      try simp only [Act.put, List.setIfInBounds_toArray, List.set_cons_zero, List.set_cons_succ]
      refine wpAnyH_take (i := 16) (oi := ?oim18) (v := ?vm18) ?him18 (by kernel_rfl) (by kernel_rfl) (by kernel_rfl) ?hQm18 (Or.inl ⟨?hwm18, ?hym18⟩) (by assumption) ?restm18
      case him18 => simp only [List.getElem?_toArray, List.getElem?_cons_succ, List.getElem?_cons_zero]; exact rfl
      case hQm18 => exact fun _ _ _ h => h
      case hwm18 => rfl
      case hym18 => ((intro w hSw; (try dsimp only at hSw); go_simp) <;> with_reducible rfl)
      try simp only [Act.put, List.setIfInBounds_toArray, List.set_cons_zero, List.set_cons_succ]
      refine wpAnyH_take (i := 17) (oi := ?oim19) (v := ?vm19) ?him19 (by kernel_rfl) (by kernel_rfl) (by kernel_rfl) ?hQm19 (Or.inl ⟨?hwm19, ?hym19⟩) (by assumption) ?restm19
      case him19 => simp only [List.getElem?_toArray, List.getElem?_cons_succ, List.getElem?_cons_zero]; exact rfl
      case hQm19 => exact fun _ _ _ h => h
      case hwm19 => rfl
      case hym19 => ((intro w hSw; have t0 := (hSw.cell (p := ⟨X3, 0, none⟩) hlY).trans r0; have t1 := (hSw.cell (p := ⟨X3, 1, none⟩) hlY).trans r1; go_simp) <;> with_reducible rfl)
      try simp only [Act.put, List.setIfInBounds_toArray, List.set_cons_zero, List.set_cons_succ]
      refine wpAnyH_take (i := 19) (oi := ?oim20) (v := ?vm20) ?him20 (by kernel_rfl) (by kernel_rfl) (by kernel_rfl) ?hQm20 (Or.inl ⟨?hwm20, ?hym20⟩) (by assumption) ?restm20
      case him20 => simp only [List.getElem?_toArray, List.getElem?_cons_succ, List.getElem?_cons_zero]; exact rfl
      case hQm20 => exact fun _ _ _ h => h
      case hwm20 => rfl
      case hym20 => ((intro w hSw; have t0 := (hSw.cell (p := ⟨X3, 0, none⟩) hlY).trans r0; have t1 := (hSw.cell (p := ⟨X3, 1, none⟩) hlY).trans r1; go_simp) <;> with_reducible rfl)
      try simp only [Act.put, List.setIfInBounds_toArray, List.set_cons_zero, List.set_cons_succ]
      refine wpAnyH_ready (rs := [18]) (by kernel_rfl) (by simp) ?_
      refine AllReadyH.cons (o := ?or21_18) ?hor21_18 (fun K hK => ?stepr21_18) (AllReadyH.nil)
      case hor21_18 => simp only [List.getElem?_toArray, List.getElem?_cons_succ, List.getElem?_cons_zero]; exact rfl
      case stepr21_18 =>
        go_simp
        refine (impl_BookOk E1 n'' c'' E2 m'' d'' zy zz v2 (Lst.of_own (TY.below hB2).one) (Lst.of_own (TY.below hB2).two) (by omega) (by omega)).mono ?_
        rw [HBK.out]
        rintro e v3 ⟨rfl, hb3⟩
        have hB3 := hB2.trans (hb3.mono hB2.size)
        refine hK.out _ _ ?hSr21_18 (fun hHeld => ?restr21_18)
        case hSr21_18 => exact hB3
        clear hK K
        try simp only [Act.put, List.setIfInBounds_toArray, List.set_cons_zero, List.set_cons_succ]
        refine wpAnyH_ready (rs := [20]) (by kernel_rfl) (by simp) ?_
        refine AllReadyH.cons (o := ?or22_20) ?hor22_20 (fun K hK => ?stepr22_20) (AllReadyH.nil)
        case hor22_20 => simp only [List.getElem?_toArray, List.getElem?_cons_succ, List.getElem?_cons_zero]; exact rfl
        case stepr22_20 =>
          go_simp
          refine (spec_BookOkO E1 n'' c'' E2 m'' d'' zy zz v3 (Lst.of_own (TY.below hB3).one) (Lst.of_own (TY.below hB3).two) (by omega) (by omega) (own_nil TY.one) (own_nil TY.two)).mono ?_
          rw [HBK.out]
          rintro e v4 ⟨rfl, hb4⟩
          have hB4 := hB3.trans (hb4.mono hB3.size)
          refine hK.out _ _ ?hSr22_20 (fun hHeld => ?restr22_20)
          case hSr22_20 => exact hB4
          clear hK K
          try simp only [Act.put, List.setIfInBounds_toArray, List.set_cons_zero, List.set_cons_succ]
          refine wpAnyH_take (i := 21) (oi := ?oim23) (v := ?vm23) ?him23 (by kernel_rfl) (by kernel_rfl) (by kernel_rfl) ?hQm23 (Or.inl ⟨?hwm23, ?hym23⟩) (by assumption) ?restm23
          case him23 => simp only [List.getElem?_toArray, List.getElem?_cons_succ, List.getElem?_cons_zero]; exact rfl
          case hQm23 => exact fun _ _ _ h => h
          case hwm23 => rfl
          case hym23 => ((intro w hSw; (try dsimp only at hSw); go_simp) <;> with_reducible rfl)
          try simp only [Act.put, List.setIfInBounds_toArray, List.set_cons_zero, List.set_cons_succ]
          refine wpAnyH_take (i := 22) (oi := ?oim24) (v := ?vm24) ?him24 (by kernel_rfl) (by kernel_rfl) (by kernel_rfl) ?hQm24 (Or.inl ⟨?hwm24, ?hym24⟩) (by assumption) ?restm24
          case him24 => simp only [List.getElem?_toArray, List.getElem?_cons_succ, List.getElem?_cons_zero]; exact rfl
          case hQm24 => exact fun _ _ _ h => h
          case hwm24 => rfl
          case hym24 => ((intro w hSw; (try dsimp only at hSw); go_simp) <;> with_reducible rfl)
          try simp only [Act.put, List.setIfInBounds_toArray, List.set_cons_zero, List.set_cons_succ]
          refine wpAnyH_done (by kernel_rfl) ?_ _
          clear hHeld hown1 p0 p1 r0 r1 kY TY hlY hlB
          replace D := D.trans (hB4.mono D.size)
          replace TB := TB.below hB4
          replace kB := (hB4.block _ (heap_lt kB)).trans kB
          replace TL := own_below TL hB4
          clear hB1 hB2 hB3 hB4 hb1 hb2 hb3 hb4
          obtain ⟨p0, p1⟩ := cell2 kB
          go_wp2_with fail
          refine (impl_Best A1 n c A2 m d za zb 1 v4 (Lst.of_own TB.one) (Lst.of_own TB.two) (by omega) (by omega)).mono ?_
          rintro e v5 ⟨rfl, hb5⟩
          have HBB := Lib.hid (best_two (za := za) (n := n) (zb := zb) (m := m))
          generalize bestP (bookB za n zb m) 1 za zb n m = pb1 at *
          generalize bestB (bookB za n zb m) 1 n m = ob1 at *
          replace D := D.trans (hb5.mono D.size)
          replace TB := TB.below hb5
          replace kB := (hb5.block _ (heap_lt kB)).trans kB
          replace TL := own_below TL hb5
          clear hb5 p0 p1
          obtain ⟨p0, p1⟩ := cell2 kB
          go_wp2_with fail
          refine (impl_Best A1 n c A2 m d za zb 2 v5 (Lst.of_own TB.one) (Lst.of_own TB.two) (by omega) (by omega)).mono ?_
          rintro e v6 ⟨rfl, hb6⟩
          generalize bestP (bookB za n zb m) 2 za zb n m = pb2 at *
          generalize bestB (bookB za n zb m) 2 n m = ob2 at *
          replace D := D.trans (hb6.mono D.size)
          replace TB := TB.below hb6
          replace kB := (hb6.block _ (heap_lt kB)).trans kB
          replace TL := own_below TL hb6
          clear hb6 p0 p1 kB TB
          go_wp2_with fail
          go_loopw [17] (fun i wr => ∃ j : Nat, (j + 1 ≤ N ∨ j = 0) ∧ i = .int .i64 ((j : Int) + 1) ∧ Below v6.heap.size v6 wr) (fun i _ => N - (intOf i).toNat)
          case atStart => exact ⟨0, .inr rfl, rfl, Below.refl _ _⟩
          case round =>
            obtain ⟨j, hj, rfl, hbr⟩ := hrel
            replace TL := own_below TL hbr
            by_cases hlt : j + 1 < N
            · obtain ⟨b, o, hax, hbo, -, -, c2, -⟩ := (Lst.of_own TL).row4 (k := j + 1) hlt
              subst hax
              obtain ⟨b', o', hax, -, -, -, d2, -⟩ := (Lst.of_own TL).row4 (k := j) (by omega)
              injection hax with hax
              injection hax with e1 e2 _
              subst e1 e2
              have hwr : IntKind.i64.wrap ((j : Int) + 1 - 1) = (j : Int) := by rw [IntKind.wrap_i64]; omega
              rcases HS.out (by omega) with ⟨rfl, hy⟩ | ⟨rfl, hy⟩
              · have hsr : decide (num Z (j * 4 + 2) < num Z ((j + 1) * 4 + 2)) = false := hy j hlt
                have hsr2 : ¬ (num Z (j * 4 + 2) < num Z ((j + 1) * 4 + 2)) := of_decide_eq_false hsr
                go_upto_region 16 with fail
                go_region
                all_goals go_wp2_with fail
                all_goals go_roundw
                case rel => exact ⟨j + 1, by omega, by go_num, hbr.drew⟩
                case measure => simp [intOf]; omega
              · have hsr : decide (num Z ((j + 1) * 4 + 2) < num Z (j * 4 + 2)) = false := hy j hlt
                have hsr2 : ¬ (num Z ((j + 1) * 4 + 2) < num Z (j * 4 + 2)) := of_decide_eq_false hsr
                go_upto_region 16 with fail
                go_region
                all_goals go_wp2_with fail
                all_goals go_roundw
                case rel => exact ⟨j + 1, by omega, by go_num, hbr.drew⟩
                case measure => simp [intOf]; omega
            · have hfin := D.trans (hbr.mono D.size)
              cases ob1 <;> cases ob2
              rotate_left 3
              · have hlt2 : pb1 < pb2 := HBB.out rfl rfl
                go_wp2_with fail
                go_ret
                exact ⟨by first | rfl | simp, hfin⟩
              all_goals (go_wp2_with fail; go_ret; exact ⟨by first | rfl | simp, hfin⟩)
end Go.Proofs.Ytnldfbcelakimaa
