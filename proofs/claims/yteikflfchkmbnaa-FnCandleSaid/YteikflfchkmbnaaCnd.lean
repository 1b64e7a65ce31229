/-
  The candle of some trades: the document's.
-/
import Derived.Test.YteikflfchkmbnaaTrd
import Derived.StillTailTactics
namespace Go.Proofs.Yteikflfchkmbnaa
open Go.RowKit Wire

theorem set6 {w : World} {S : Nat} {a b c d e f : Value} {T : TypeId} (h : w.heap[S]? = some (.cells #[a, b, c, d, e, f] T (0, 0))) (j : Nat) (u : Value) : (w.setCell ⟨S, j, none⟩ u).heap[S]? = some (.cells (#[a, b, c, d, e, f].setIfInBounds j u) T (0, 0)) := by
  simp [World.setCell, Array.getElem?_modify, h]
set_option linter.unusedSimpArgs false in
set_option maxHeartbeats 3200000 in
set_option maxRecDepth 100000 in
theorem spec_CandleOf (A : Option Addr) (n c : Nat) (zs : List Int) (w : World) (hl : Lst w w.heap.size 2 A n zs) (hn : n ≤ 1048576) :
    Calls Try.prog 25 #[.slice A n c] w fun e w' => e = .returned (cndV zs n) ∧ Below w.heap.size w w' := by
  have hK0 : Keeps w.heap.size w [(w.heap.size, (.cells #[.int .i64 0, .int .i64 0, .int .i64 0, .int .i64 0, .int .i64 0, .int .i64 0] 44))] (w.alloc (.cells #[.int .i64 0, .int .i64 0, .int .i64 0, .int .i64 0, .int .i64 0, .int .i64 0] 44)) := ⟨(Below.refl _ _).alloc (Nat.le_refl _) _, by simp, fun p hp => by
    simp only [List.mem_cons, List.not_mem_nil, or_false] at hp
    subst hp
    exact heap_alloc_new w (.cells #[.int .i64 0, .int .i64 0, .int .i64 0, .int .i64 0, .int .i64 0, .int .i64 0] 44)⟩
  rcases Bool.eq_false_or_eq_true (trdTo zs n && decide (n ≤ 1000)) with hv | hv
  rotate_left
  · have HN := Lib.hid (cndV_no (show cndB zs n = false by rw [cndB, Bool.and_comm (decide (n ≤ 1000)), hv]; simp))
    go_enter Try.func25, Try.ntmps25
    go_wp2_with fail
    refine (spec_l9Trades A n c zs _ (hl.later hK0.bel) hn).mono ?_
    rw [hv]
    rintro e w1 ⟨rfl, hb1⟩
    have hK1 := hK0.upto (Nat.le_refl _) hb1
    obtain ⟨f0, f1, f2, f3, f4, f5⟩ := free6 hK1.one
    obtain ⟨c0, c1, c2, c3, c4, c5⟩ := cell6 hK1.one
    have HK := Lib.hid hK1
    clear hv hK0 hK1 hb1 hl
    go_wp2_with fail
    have r2 := put6 (u0 := .int .i64 0) (u1 := .int .i64 0) (u2 := .int .i64 0) (u3 := .int .i64 0) (u4 := .int .i64 0) (u5 := .int .i64 0) HK.out.one
    obtain ⟨e0, e1, e2, e3, e4, e5⟩ := cell6 r2
    refine bodyPost_ret (v := .tuple #[.agg #[.int .i64 0, .int .i64 0, .int .i64 0, .int .i64 0, .int .i64 0, .int .i64 0], .bool false]) (by simp [results, Try.results25, go_sem, e0, e1, e2, e3, e4, e5]) rfl ⟨by rw [HN.out], ?_⟩
    exact below6 HK.out.bel (Nat.le_refl _) _ _ _ _ _ _
  have hv' := hv
  simp only [Bool.and_eq_true, decide_eq_true_eq] at hv'
  obtain ⟨htr, h1000⟩ := hv'
  have HT := Lib.hid htr
  clear htr
  rcases n with _ | m
  · have HN := Lib.hid (cndV_no (show cndB zs 0 = false by simp [cndB]))
    go_enter Try.func25, Try.ntmps25
    go_wp2_with fail
    refine (spec_l9Trades A 0 c zs _ (hl.later hK0.bel) hn).mono ?_
    rw [hv]
    rintro e w1 ⟨rfl, hb1⟩
    have hK1 := hK0.upto (Nat.le_refl _) hb1
    obtain ⟨f0, f1, f2, f3, f4, f5⟩ := free6 hK1.one
    obtain ⟨c0, c1, c2, c3, c4, c5⟩ := cell6 hK1.one
    have HK := Lib.hid hK1
    clear hv hK0 hK1 hb1 hl
    go_wp2_with fail
    have r2 := put6 (u0 := .int .i64 0) (u1 := .int .i64 0) (u2 := .int .i64 0) (u3 := .int .i64 0) (u4 := .int .i64 0) (u5 := .int .i64 0) HK.out.one
    obtain ⟨e0, e1, e2, e3, e4, e5⟩ := cell6 r2
    refine bodyPost_ret (v := .tuple #[.agg #[.int .i64 0, .int .i64 0, .int .i64 0, .int .i64 0, .int .i64 0, .int .i64 0], .bool false]) (by simp [results, Try.results25, go_sem, e0, e1, e2, e3, e4, e5]) rfl ⟨by rw [HN.out], ?_⟩
    exact below6 HK.out.bel (Nat.le_refl _) _ _ _ _ _ _
  have HN := Lib.hid (cndV_yes (show cndB zs (m + 1) = true by simp [cndB, HT.out]; omega))
  obtain ⟨b, o, rfl, hb, p0c, _⟩ := hl.row2 (k := 0) (by omega)
  have plc : w.cell? ⟨b, o + m * 2, none⟩ = some (.int .i64 (num zs (m * 2))) := by
    obtain ⟨b', o', e, _, p2, _⟩ := hl.row2 (k := m) (by omega)
    injection e with e
    injection e with e1 e2
    subst e1 e2
    exact p2
  simp at p0c
  have HP0 := Lib.hid (rfl : num zs 0 = num zs 0)
  generalize hp0 : num zs 0 = p0 at p0c
  generalize hpl : num zs (m * 2) = pl at plc
  have HP := Lib.hid (And.intro hp0 hpl)
  clear hp0 hpl HP0
  have b1 : (0 : Int) < (m : Int) + 1 := by omega
  have b2 : (0 : Int) ≤ (m : Int) := by omega
  have b3 : (m : Int) < (m : Int) + 1 := by omega
  have b5 : (m : Int) + 1 - 1 = (m : Int) := by omega
  have b6 : IntKind.i64.wrap ((m : Int) + 1 - 1) = (m : Int) := by rw [IntKind.wrap_i64]; omega
  have b7 : IntKind.i64.wrap (m : Int) = (m : Int) := by rw [IntKind.wrap_i64]; omega
  go_enter Try.func25, Try.ntmps25
  go_wp2_with fail
  refine (spec_l9Trades _ (m + 1) c zs _ (hl.later hK0.bel) hn).mono ?_
  rw [hv]
  rintro e w1 ⟨rfl, hb1⟩
  replace hK0 := hK0.upto (Nat.le_refl _) hb1
  clear hv hb1
  go_upto_region 3 with fail
  refine wp_region_held_drew (S := Keeps w.heap.size w [(w.heap.size, (.cells #[.int .i64 0, .int .i64 0, .int .i64 0, .int .i64 0, .int .i64 0, .int .i64 0] 44))]) (by kernel_rfl) ?hSr1 (fun hHeld => ?restr1)
  case hSr1 => exact hK0.drew
  replace hK0 := hK0.drew
  generalize w1.drew = wd at *
  refine wpAnyH_take (i := 0) (oi := ?oik1) (v := ?vk1) ?hik1 (by kernel_rfl) (by kernel_rfl) (by kernel_rfl) ?hQk1 (Or.inl ⟨?hwk1, ?hyk1⟩) (by assumption) ?restk1
  case hik1 => simp only [List.getElem?_toArray, List.getElem?_cons_succ, List.getElem?_cons_zero]; exact rfl
  case hQk1 => exact fun _ _ _ h => h
  case hwk1 => rfl
  case hyk1 => ((intro w hSw; go_simp) <;> with_reducible rfl)
  try simp only [Act.put, List.setIfInBounds_toArray, List.set_cons_zero, List.set_cons_succ]
  refine wpAnyH_take (i := 1) (oi := ?oik2) (v := ?vk2) ?hik2 (by kernel_rfl) (by kernel_rfl) (by kernel_rfl) ?hQk2 (Or.inl ⟨?hwk2, ?hyk2⟩) (by assumption) ?restk2
  case hik2 => simp only [List.getElem?_toArray, List.getElem?_cons_succ, List.getElem?_cons_zero]; exact rfl
  case hQk2 => exact fun _ _ _ h => h
  case hwk2 => rfl
  case hyk2 => ((intro w hSw; go_simp) <;> with_reducible rfl)
  try simp only [Act.put, List.setIfInBounds_toArray, List.set_cons_zero, List.set_cons_succ]
  refine wpAnyH_take (i := 2) (oi := ?oik3) (v := ?vk3) ?hik3 (by kernel_rfl) (by kernel_rfl) (by kernel_rfl) ?hQk3 (Or.inl ⟨?hwk3, ?hyk3⟩) (by assumption) ?restk3
  case hik3 => simp only [List.getElem?_toArray, List.getElem?_cons_succ, List.getElem?_cons_zero]; exact rfl
  case hQk3 => exact fun _ _ _ h => h
  case hwk3 => rfl
  case hyk3 => ((intro w hSw; go_simp) <;> with_reducible rfl)
  try simp only [Act.put, List.setIfInBounds_toArray, List.set_cons_zero, List.set_cons_succ]
  refine wpAnyH_take (i := 3) (oi := ?oik4) (v := ?vk4) ?hik4 (by kernel_rfl) (by kernel_rfl) (by kernel_rfl) ?hQk4 (Or.inl ⟨?hwk4, ?hyk4⟩) (by assumption) ?restk4
  case hik4 => simp only [List.getElem?_toArray, List.getElem?_cons_succ, List.getElem?_cons_zero]; exact rfl
  case hQk4 => exact fun _ _ _ h => h
  case hwk4 => rfl
  case hyk4 => ((intro w hSw; have c0 := (hSw.bel.cell (p := ⟨b, o, none⟩) hb).trans p0c; go_simp) <;> with_reducible rfl)
  try simp only [Act.put, List.setIfInBounds_toArray, List.set_cons_zero, List.set_cons_succ]
  refine wpAnyH_take (i := 4) (oi := ?oik5) (v := ?vk5) ?hik5 (by kernel_rfl) (by kernel_rfl) (by kernel_rfl) ?hQk5 (Or.inl ⟨?hwk5, ?hyk5⟩) (by assumption) ?restk5
  case hik5 => simp only [List.getElem?_toArray, List.getElem?_cons_succ, List.getElem?_cons_zero]; exact rfl
  case hQk5 => exact fun _ _ _ h => h
  case hwk5 => rfl
  case hyk5 => ((intro w hSw; go_simp) <;> with_reducible rfl)
  try simp only [Act.put, List.setIfInBounds_toArray, List.set_cons_zero, List.set_cons_succ]
  refine wpAnyH_take (i := 5) (oi := ?oik6) (v := ?vk6) ?hik6 (by kernel_rfl) (by kernel_rfl) (by kernel_rfl) ?hQk6 (Or.inl ⟨?hwk6, ?hyk6⟩) (by assumption) ?restk6
  case hik6 => simp only [List.getElem?_toArray, List.getElem?_cons_succ, List.getElem?_cons_zero]; exact rfl
  case hQk6 => exact fun _ _ _ h => h
  case hwk6 => rfl
  case hyk6 => ((intro w hSw; go_simp) <;> with_reducible rfl)
  try simp only [Act.put, List.setIfInBounds_toArray, List.set_cons_zero, List.set_cons_succ]
  refine wpAnyH_take (i := 6) (oi := ?oik7) (v := ?vk7) ?hik7 (by kernel_rfl) (by kernel_rfl) (by kernel_rfl) ?hQk7 (Or.inl ⟨?hwk7, ?hyk7⟩) (by assumption) ?restk7
  case hik7 => simp only [List.getElem?_toArray, List.getElem?_cons_succ, List.getElem?_cons_zero]; exact rfl
  case hQk7 => exact fun _ _ _ h => h
  case hwk7 => rfl
  case hyk7 => ((intro w hSw; go_simp) <;> with_reducible rfl)
  try simp only [Act.put, List.setIfInBounds_toArray, List.set_cons_zero, List.set_cons_succ]
  refine wpAnyH_take (i := 7) (oi := ?oik8) (v := ?vk8) ?hik8 (by kernel_rfl) (by kernel_rfl) (by kernel_rfl) ?hQk8 (Or.inl ⟨?hwk8, ?hyk8⟩) (by assumption) ?restk8
  case hik8 => simp only [List.getElem?_toArray, List.getElem?_cons_succ, List.getElem?_cons_zero]; exact rfl
  case hQk8 => exact fun _ _ _ h => h
  case hwk8 => rfl
  case hyk8 => ((intro w hSw; have c0 := (hSw.bel.cell (p := ⟨b, o, none⟩) hb).trans p0c; go_simp) <;> with_reducible rfl)
  try simp only [Act.put, List.setIfInBounds_toArray, List.set_cons_zero, List.set_cons_succ]
  refine wpAnyH_take (i := 8) (oi := ?oik9) (v := ?vk9) ?hik9 (by kernel_rfl) (by kernel_rfl) (by kernel_rfl) ?hQk9 (Or.inl ⟨?hwk9, ?hyk9⟩) (by assumption) ?restk9
  case hik9 => simp only [List.getElem?_toArray, List.getElem?_cons_succ, List.getElem?_cons_zero]; exact rfl
  case hQk9 => exact fun _ _ _ h => h
  case hwk9 => rfl
  case hyk9 => ((intro w hSw; go_simp) <;> with_reducible rfl)
  try simp only [Act.put, List.setIfInBounds_toArray, List.set_cons_zero, List.set_cons_succ]
  refine wpAnyH_take (i := 9) (oi := ?oik10) (v := ?vk10) ?hik10 (by kernel_rfl) (by kernel_rfl) (by kernel_rfl) ?hQk10 (Or.inl ⟨?hwk10, ?hyk10⟩) (by assumption) ?restk10
  case hik10 => simp only [List.getElem?_toArray, List.getElem?_cons_succ, List.getElem?_cons_zero]; exact rfl
  case hQk10 => exact fun _ _ _ h => h
  case hwk10 => rfl
  case hyk10 => ((intro w hSw; go_simp) <;> with_reducible rfl)
  try simp only [Act.put, List.setIfInBounds_toArray, List.set_cons_zero, List.set_cons_succ]
  refine wpAnyH_take (i := 10) (oi := ?oik11) (v := ?vk11) ?hik11 (by kernel_rfl) (by kernel_rfl) (by kernel_rfl) ?hQk11 (Or.inl ⟨?hwk11, ?hyk11⟩) (by assumption) ?restk11
  case hik11 => simp only [List.getElem?_toArray, List.getElem?_cons_succ, List.getElem?_cons_zero]; exact rfl
  case hQk11 => exact fun _ _ _ h => h
  case hwk11 => rfl
  case hyk11 => ((intro w hSw; go_simp) <;> with_reducible rfl)
  try simp only [Act.put, List.setIfInBounds_toArray, List.set_cons_zero, List.set_cons_succ]
  refine wpAnyH_take (i := 11) (oi := ?oik12) (v := ?vk12) ?hik12 (by kernel_rfl) (by kernel_rfl) (by kernel_rfl) ?hQk12 (Or.inl ⟨?hwk12, ?hyk12⟩) (by assumption) ?restk12
  case hik12 => simp only [List.getElem?_toArray, List.getElem?_cons_succ, List.getElem?_cons_zero]; exact rfl
  case hQk12 => exact fun _ _ _ h => h
  case hwk12 => rfl
  case hyk12 => ((intro w hSw; have c0 := (hSw.bel.cell (p := ⟨b, o, none⟩) hb).trans p0c; go_simp) <;> with_reducible rfl)
  try simp only [Act.put, List.setIfInBounds_toArray, List.set_cons_zero, List.set_cons_succ]
  refine wpAnyH_take (i := 12) (oi := ?oik13) (v := ?vk13) ?hik13 (by kernel_rfl) (by kernel_rfl) (by kernel_rfl) ?hQk13 (Or.inl ⟨?hwk13, ?hyk13⟩) (by assumption) ?restk13
  case hik13 => simp only [List.getElem?_toArray, List.getElem?_cons_succ, List.getElem?_cons_zero]; exact rfl
  case hQk13 => exact fun _ _ _ h => h
  case hwk13 => rfl
  case hyk13 => ((intro w hSw; go_simp) <;> with_reducible rfl)
  try simp only [Act.put, List.setIfInBounds_toArray, List.set_cons_zero, List.set_cons_succ]
  refine wpAnyH_take (i := 13) (oi := ?oik14) (v := ?vk14) ?hik14 (by kernel_rfl) (by kernel_rfl) (by kernel_rfl) ?hQk14 (Or.inl ⟨?hwk14, ?hyk14⟩) (by assumption) ?restk14
  case hik14 => simp only [List.getElem?_toArray, List.getElem?_cons_succ, List.getElem?_cons_zero]; exact rfl
  case hQk14 => exact fun _ _ _ h => h
  case hwk14 => rfl
  case hyk14 => ((intro w hSw; go_simp) <;> with_reducible rfl)
  try simp only [Act.put, List.setIfInBounds_toArray, List.set_cons_zero, List.set_cons_succ]
  refine wpAnyH_take (i := 14) (oi := ?oik15) (v := ?vk15) ?hik15 (by kernel_rfl) (by kernel_rfl) (by kernel_rfl) ?hQk15 (Or.inl ⟨?hwk15, ?hyk15⟩) (by assumption) ?restk15
  case hik15 => simp only [List.getElem?_toArray, List.getElem?_cons_succ, List.getElem?_cons_zero]; exact rfl
  case hQk15 => exact fun _ _ _ h => h
  case hwk15 => rfl
  case hyk15 => ((intro w hSw; go_simp) <;> with_reducible rfl)
  try simp only [Act.put, List.setIfInBounds_toArray, List.set_cons_zero, List.set_cons_succ]
  refine wpAnyH_take (i := 15) (oi := ?oik16) (v := ?vk16) ?hik16 (by kernel_rfl) (by kernel_rfl) (by kernel_rfl) ?hQk16 (Or.inl ⟨?hwk16, ?hyk16⟩) (by assumption) ?restk16
  case hik16 => simp only [List.getElem?_toArray, List.getElem?_cons_succ, List.getElem?_cons_zero]; exact rfl
  case hQk16 => exact fun _ _ _ h => h
  case hwk16 => rfl
  case hyk16 => ((intro w hSw; go_simp) <;> with_reducible rfl)
  try simp only [Act.put, List.setIfInBounds_toArray, List.set_cons_zero, List.set_cons_succ]
  refine wpAnyH_take (i := 16) (oi := ?oik17) (v := ?vk17) ?hik17 (by kernel_rfl) (by kernel_rfl) (by kernel_rfl) ?hQk17 (Or.inl ⟨?hwk17, ?hyk17⟩) (by assumption) ?restk17
  case hik17 => simp only [List.getElem?_toArray, List.getElem?_cons_succ, List.getElem?_cons_zero]; exact rfl
  case hQk17 => exact fun _ _ _ h => h
  case hwk17 => rfl
  case hyk17 => ((intro w hSw; go_simp) <;> with_reducible rfl)
  try simp only [Act.put, List.setIfInBounds_toArray, List.set_cons_zero, List.set_cons_succ]
  refine wpAnyH_take (i := 17) (oi := ?oik18) (v := ?vk18) ?hik18 (by kernel_rfl) (by kernel_rfl) (by kernel_rfl) ?hQk18 (Or.inl ⟨?hwk18, ?hyk18⟩) (by assumption) ?restk18
  case hik18 => simp only [List.getElem?_toArray, List.getElem?_cons_succ, List.getElem?_cons_zero]; exact rfl
  case hQk18 => exact fun _ _ _ h => h
  case hwk18 => rfl
  case hyk18 => ((intro w hSw; go_simp) <;> with_reducible rfl)
  try simp only [Act.put, List.setIfInBounds_toArray, List.set_cons_zero, List.set_cons_succ]
  refine wpAnyH_take (i := 18) (oi := ?oik19) (v := ?vk19) ?hik19 (by kernel_rfl) (by kernel_rfl) (by kernel_rfl) ?hQk19 (Or.inl ⟨?hwk19, ?hyk19⟩) (by assumption) ?restk19
  case hik19 => simp only [List.getElem?_toArray, List.getElem?_cons_succ, List.getElem?_cons_zero]; exact rfl
  case hQk19 => exact fun _ _ _ h => h
  case hwk19 => rfl
  case hyk19 => ((intro w hSw; have c0 := (hSw.bel.cell (p := ⟨b, o + m * 2, none⟩) hb).trans plc; go_simp) <;> with_reducible rfl)
  try simp only [Act.put, List.setIfInBounds_toArray, List.set_cons_zero, List.set_cons_succ]
  refine wpAnyH_take (i := 19) (oi := ?oik20) (v := ?vk20) ?hik20 (by kernel_rfl) (by kernel_rfl) (by kernel_rfl) ?hQk20 (Or.inl ⟨?hwk20, ?hyk20⟩) (by assumption) ?restk20
  case hik20 => simp only [List.getElem?_toArray, List.getElem?_cons_succ, List.getElem?_cons_zero]; exact rfl
  case hQk20 => exact fun _ _ _ h => h
  case hwk20 => rfl
  case hyk20 => ((intro w hSw; go_simp) <;> with_reducible rfl)
  try simp only [Act.put, List.setIfInBounds_toArray, List.set_cons_zero, List.set_cons_succ]
  refine wpAnyH_ready (rs := [20]) (by kernel_rfl) (by simp) ?_
  refine AllReadyH.cons (o := ?or21_20) ?hor21_20 (fun K hK => ?stepr21_20) (AllReadyH.nil)
  case hor21_20 => simp only [List.getElem?_toArray, List.getElem?_cons_succ, List.getElem?_cons_zero]; exact rfl
  case stepr21_20 =>
    go_simp
    have hk24 := hK0.upto (Nat.le_refl _) ((Below.refl _ _).alloc (Nat.le_refl _) (.cells #[.int .i64 0, .int .i64 0, .int .i64 0, .int .i64 0, .int .i64 0, .int .i64 0] 44))
    have hg26 := heap_alloc_new wd (.cells #[.int .i64 0, .int .i64 0, .int .i64 0, .int .i64 0, .int .i64 0, .int .i64 0] 44)
    have hz27 := hK0.lo
    refine hK.out _ _ ?hSq22 (fun hHeld => ?restq22)
    case hSq22 => exact hk24
    clear hK K hK0
    try simp only [Act.put, List.setIfInBounds_toArray, List.set_cons_zero, List.set_cons_succ]
    generalize wd.alloc (.cells #[.int .i64 0, .int .i64 0, .int .i64 0, .int .i64 0, .int .i64 0, .int .i64 0] 44) = v23 at *
    generalize wd.heap.size = G25 at *
    refine wpAnyH_ready (rs := [21]) (by kernel_rfl) (by simp) ?_
    refine AllReadyH.cons (o := ?or28_21) ?hor28_21 (fun K hK => ?stepr28_21) (AllReadyH.nil)
    case hor28_21 => simp only [List.getElem?_toArray, List.getElem?_cons_succ, List.getElem?_cons_zero]; exact rfl
    case stepr28_21 =>
      obtain ⟨c0, c1, c2, c3, c4, c5⟩ := cell6 hg26
      obtain ⟨f0, f1, f2, f3, f4, f5⟩ := free6 hg26
      go_simp
      have hk30 := hk24.upto' (by assumption) (below6 (B := G25) (Below.refl G25 v23) (Nat.le_refl _) (.int .i64 p0) (.int .i64 p0) (.int .i64 p0) (.int .i64 pl) (.int .i64 0) (.int .i64 0))
      have hput := put6 (u0 := .int .i64 p0) (u1 := .int .i64 p0) (u2 := .int .i64 p0) (u3 := .int .i64 pl) (u4 := .int .i64 0) (u5 := .int .i64 0) hg26
      refine hK.out _ _ ?hSq29 (fun hHeld => ?restq29)
      case hSq29 => exact hk30
      clear hK K hk24
      try simp only [Act.put, List.setIfInBounds_toArray, List.set_cons_zero, List.set_cons_succ]
      refine wpAnyH_done (by kernel_rfl) ?_ _
      go_wp2_with fail
      generalize ((((((v23.setCell ⟨G25, 0, none⟩ (.int .i64 p0)).setCell ⟨G25, 1, none⟩ (.int .i64 p0)).setCell ⟨G25, 2, none⟩ (.int .i64 p0)).setCell ⟨G25, 3, none⟩ (.int .i64 pl)).setCell ⟨G25, 4, none⟩ (.int .i64 0)).setCell ⟨G25, 5, none⟩ (.int .i64 0)) = wz at *
      have hzG : Keeps.Lo w.heap.size [(w.heap.size, (.cells #[.int .i64 0, .int .i64 0, .int .i64 0, .int .i64 0, .int .i64 0, .int .i64 0] 44))] G25 := by assumption
      have hKz := hk30
      have hCz := hput
      clear hk30 hput hHeld
      generalize G25 = G at *
      go_loopw [5] (fun i wr => ∃ k : Nat, k ≤ m + 1 ∧ i = .int .i64 (k : Int) ∧ wr.heap[G]? = some (.cells #[.int .i64 p0, .int .i64 (hiA zs k), .int .i64 (loA zs k), .int .i64 pl, .int .i64 (qtA zs k), .int .i64 (woA zs k)] 44 (0, 0)) ∧ Keeps w.heap.size w [(w.heap.size, (.cells #[.int .i64 0, .int .i64 0, .int .i64 0, .int .i64 0, .int .i64 0, .int .i64 0] 44))] wr) (fun i _ => m + 1 - (intOf i).toNat)
      case atStart => exact ⟨0, Nat.zero_le _, rfl, by simp only [hiA, loA, qtA, woA, HP.out.1]; exact hCz, hKz⟩
      case round =>
        obtain ⟨k, hk, rfl, hC, hK⟩ := hrel
        clear hCz hKz
        by_cases hlt : k < m + 1
        · obtain ⟨b', o', e, _, r0, r1⟩ := hl.row2 hlt
          injection e with e
          injection e with e1 e2
          subst e1 e2
          obtain ⟨t0, t1, t2, t3⟩ := trdTo_at (m + 1) k HT.out hlt
          obtain ⟨q0, q1⟩ := qtA_le HT.out k hk
          obtain ⟨z0, z1⟩ := woA_le HT.out k hk
          have E1 := Lib.hid (show hiA zs (k + 1) = max (hiA zs k) (num zs (k * 2)) from rfl)
          have E2 := Lib.hid (show loA zs (k + 1) = min (loA zs k) (num zs (k * 2)) from rfl)
          have E3 := Lib.hid (show qtA zs (k + 1) = qtA zs k + num zs (k * 2 + 1) from rfl)
          have E4 := Lib.hid (show woA zs (k + 1) = woA zs k + num zs (k * 2) * num zs (k * 2 + 1) from rfl)
          generalize hiA zs k = h at *
          generalize loA zs k = l at *
          generalize qtA zs k = qq at *
          generalize woA zs k = z at *
          generalize num zs (k * 2) = p at *
          generalize num zs (k * 2 + 1) = q at *
          obtain ⟨z2, z3⟩ := mulb t0 t1 t2 t3
          rcases (show h < p ∨ p ≤ h by omega) with hh | hh <;> rcases (show p < l ∨ l ≤ p by omega) with hm | hm
          · have c0 := (hK.bel.cell (p := ⟨b, o + k * 2, none⟩) hb).trans r0
            have c1 := (hK.bel.cell (p := ⟨b, o + k * 2 + 1, none⟩) hb).trans r1
            obtain ⟨g0, g1, g2, g3, g4, g5⟩ := cell6 hC
            go_upto_region 7 with fail
            go_still_tail 8, (by kernel_rfl)
            clear g0 g1 g2 g3 g4 g5
            change wpList _ _ _ _ _ wr.drew
            replace hK := hK.drew
            replace hC : wr.drew.heap[G]? = _ := hC
            generalize wr.drew = v1 at *
            obtain ⟨g0, g1, g2, g3, g4, g5⟩ := cell6 hC
            obtain ⟨f0, f1, f2, f3, f4, f5⟩ := free6 hC
            go_upto_region 8 with fail
            clear g0 g1 g2 g3 g4 g5 f0 f1 f2 f3 f4 f5 c0 c1
            replace hC := set6 hC 1 (.int .i64 p)
            simp only [List.setIfInBounds_toArray, List.set_cons_zero, List.set_cons_succ] at hC
            replace hK := hK.upto' hzG ((Below.refl G v1).setCell (p := ⟨G, 1, none⟩) (Nat.le_refl _) (.int .i64 p))
            generalize v1.setCell ⟨G, 1, none⟩ (.int .i64 p) = y1 at *
            have c0 := (hK.bel.cell (p := ⟨b, o + k * 2, none⟩) hb).trans r0
            have c1 := (hK.bel.cell (p := ⟨b, o + k * 2 + 1, none⟩) hb).trans r1
            obtain ⟨g0, g1, g2, g3, g4, g5⟩ := cell6 hC
            go_still_tail 8, (by kernel_rfl)
            clear g0 g1 g2 g3 g4 g5
            change wpList _ _ _ _ _ y1.drew
            replace hK := hK.drew
            replace hC : y1.drew.heap[G]? = _ := hC
            generalize y1.drew = v2 at *
            obtain ⟨g0, g1, g2, g3, g4, g5⟩ := cell6 hC
            obtain ⟨f0, f1, f2, f3, f4, f5⟩ := free6 hC
            go_upto_region 9 with fail
            clear g0 g1 g2 g3 g4 g5 f0 f1 f2 f3 f4 f5 c0 c1
            replace hC := set6 hC 2 (.int .i64 p)
            simp only [List.setIfInBounds_toArray, List.set_cons_zero, List.set_cons_succ] at hC
            replace hK := hK.upto' hzG ((Below.refl G v2).setCell (p := ⟨G, 2, none⟩) (Nat.le_refl _) (.int .i64 p))
            generalize v2.setCell ⟨G, 2, none⟩ (.int .i64 p) = y2 at *
            have c0 := (hK.bel.cell (p := ⟨b, o + k * 2, none⟩) hb).trans r0
            have c1 := (hK.bel.cell (p := ⟨b, o + k * 2 + 1, none⟩) hb).trans r1
            obtain ⟨g0, g1, g2, g3, g4, g5⟩ := cell6 hC
            go_still_tail 8, (by kernel_rfl)
            clear g0 g1 g2 g3 g4 g5
            change wpList _ _ _ _ _ y2.drew
            replace hK := hK.drew
            replace hC : y2.drew.heap[G]? = _ := hC
            generalize y2.drew = v3 at *
            obtain ⟨g0, g1, g2, g3, g4, g5⟩ := cell6 hC
            obtain ⟨f0, f1, f2, f3, f4, f5⟩ := free6 hC
            go_upto_region 10 with fail
            clear g0 g1 g2 g3 g4 g5 f0 f1 f2 f3 f4 f5 c0 c1
            replace hC := set6 hC 4 (.int .i64 (qq + q))
            simp only [List.setIfInBounds_toArray, List.set_cons_zero, List.set_cons_succ] at hC
            replace hK := hK.upto' hzG ((Below.refl G v3).setCell (p := ⟨G, 4, none⟩) (Nat.le_refl _) (.int .i64 (qq + q)))
            generalize v3.setCell ⟨G, 4, none⟩ (.int .i64 (qq + q)) = y3 at *
            have c0 := (hK.bel.cell (p := ⟨b, o + k * 2, none⟩) hb).trans r0
            have c1 := (hK.bel.cell (p := ⟨b, o + k * 2 + 1, none⟩) hb).trans r1
            obtain ⟨g0, g1, g2, g3, g4, g5⟩ := cell6 hC
            go_still_tail 14, (by kernel_rfl)
            clear g0 g1 g2 g3 g4 g5
            change wpList _ _ _ _ _ y3.drew
            replace hK := hK.drew
            replace hC : y3.drew.heap[G]? = _ := hC
            generalize y3.drew = v4 at *
            obtain ⟨g0, g1, g2, g3, g4, g5⟩ := cell6 hC
            obtain ⟨f0, f1, f2, f3, f4, f5⟩ := free6 hC
            go_wp2_with fail
            clear g0 g1 g2 g3 g4 g5 f0 f1 f2 f3 f4 f5 c0 c1
            replace hC := set6 hC 5 (.int .i64 (z + p * q))
            simp only [List.setIfInBounds_toArray, List.set_cons_zero, List.set_cons_succ] at hC
            replace hK := hK.upto' hzG ((Below.refl G v4).setCell (p := ⟨G, 5, none⟩) (Nat.le_refl _) (.int .i64 (z + p * q)))
            go_roundw
            case rel => exact ⟨k + 1, by omega, by go_num, by rw [E1.out, E2.out, E3.out, E4.out, show max h p = p by omega, show min l p = p by omega]; exact hC, hK⟩
            case measure => simp [intOf]; omega
          · have c0 := (hK.bel.cell (p := ⟨b, o + k * 2, none⟩) hb).trans r0
            have c1 := (hK.bel.cell (p := ⟨b, o + k * 2 + 1, none⟩) hb).trans r1
            obtain ⟨g0, g1, g2, g3, g4, g5⟩ := cell6 hC
            go_upto_region 7 with fail
            go_still_tail 8, (by kernel_rfl)
            clear g0 g1 g2 g3 g4 g5
            change wpList _ _ _ _ _ wr.drew
            replace hK := hK.drew
            replace hC : wr.drew.heap[G]? = _ := hC
            generalize wr.drew = v1 at *
            obtain ⟨g0, g1, g2, g3, g4, g5⟩ := cell6 hC
            obtain ⟨f0, f1, f2, f3, f4, f5⟩ := free6 hC
            go_upto_region 8 with fail
            clear g0 g1 g2 g3 g4 g5 f0 f1 f2 f3 f4 f5 c0 c1
            replace hC := set6 hC 1 (.int .i64 p)
            simp only [List.setIfInBounds_toArray, List.set_cons_zero, List.set_cons_succ] at hC
            replace hK := hK.upto' hzG ((Below.refl G v1).setCell (p := ⟨G, 1, none⟩) (Nat.le_refl _) (.int .i64 p))
            generalize v1.setCell ⟨G, 1, none⟩ (.int .i64 p) = y1 at *
            have c0 := (hK.bel.cell (p := ⟨b, o + k * 2, none⟩) hb).trans r0
            have c1 := (hK.bel.cell (p := ⟨b, o + k * 2 + 1, none⟩) hb).trans r1
            obtain ⟨g0, g1, g2, g3, g4, g5⟩ := cell6 hC
            go_still_tail 8, (by kernel_rfl)
            clear g0 g1 g2 g3 g4 g5
            change wpList _ _ _ _ _ y1.drew
            replace hK := hK.drew
            replace hC : y1.drew.heap[G]? = _ := hC
            generalize y1.drew = v2 at *
            obtain ⟨g0, g1, g2, g3, g4, g5⟩ := cell6 hC
            obtain ⟨f0, f1, f2, f3, f4, f5⟩ := free6 hC
            go_upto_region 9 with fail
            clear g0 g1 g2 g3 g4 g5 f0 f1 f2 f3 f4 f5 c0 c1
            replace hC := set6 hC 2 (.int .i64 l)
            simp only [List.setIfInBounds_toArray, List.set_cons_zero, List.set_cons_succ] at hC
            replace hK := hK.upto' hzG ((Below.refl G v2).setCell (p := ⟨G, 2, none⟩) (Nat.le_refl _) (.int .i64 l))
            generalize v2.setCell ⟨G, 2, none⟩ (.int .i64 l) = y2 at *
            have c0 := (hK.bel.cell (p := ⟨b, o + k * 2, none⟩) hb).trans r0
            have c1 := (hK.bel.cell (p := ⟨b, o + k * 2 + 1, none⟩) hb).trans r1
            obtain ⟨g0, g1, g2, g3, g4, g5⟩ := cell6 hC
            go_still_tail 8, (by kernel_rfl)
            clear g0 g1 g2 g3 g4 g5
            change wpList _ _ _ _ _ y2.drew
            replace hK := hK.drew
            replace hC : y2.drew.heap[G]? = _ := hC
            generalize y2.drew = v3 at *
            obtain ⟨g0, g1, g2, g3, g4, g5⟩ := cell6 hC
            obtain ⟨f0, f1, f2, f3, f4, f5⟩ := free6 hC
            go_upto_region 10 with fail
            clear g0 g1 g2 g3 g4 g5 f0 f1 f2 f3 f4 f5 c0 c1
            replace hC := set6 hC 4 (.int .i64 (qq + q))
            simp only [List.setIfInBounds_toArray, List.set_cons_zero, List.set_cons_succ] at hC
            replace hK := hK.upto' hzG ((Below.refl G v3).setCell (p := ⟨G, 4, none⟩) (Nat.le_refl _) (.int .i64 (qq + q)))
            generalize v3.setCell ⟨G, 4, none⟩ (.int .i64 (qq + q)) = y3 at *
            have c0 := (hK.bel.cell (p := ⟨b, o + k * 2, none⟩) hb).trans r0
            have c1 := (hK.bel.cell (p := ⟨b, o + k * 2 + 1, none⟩) hb).trans r1
            obtain ⟨g0, g1, g2, g3, g4, g5⟩ := cell6 hC
            go_still_tail 14, (by kernel_rfl)
            clear g0 g1 g2 g3 g4 g5
            change wpList _ _ _ _ _ y3.drew
            replace hK := hK.drew
            replace hC : y3.drew.heap[G]? = _ := hC
            generalize y3.drew = v4 at *
            obtain ⟨g0, g1, g2, g3, g4, g5⟩ := cell6 hC
            obtain ⟨f0, f1, f2, f3, f4, f5⟩ := free6 hC
            go_wp2_with fail
            clear g0 g1 g2 g3 g4 g5 f0 f1 f2 f3 f4 f5 c0 c1
            replace hC := set6 hC 5 (.int .i64 (z + p * q))
            simp only [List.setIfInBounds_toArray, List.set_cons_zero, List.set_cons_succ] at hC
            replace hK := hK.upto' hzG ((Below.refl G v4).setCell (p := ⟨G, 5, none⟩) (Nat.le_refl _) (.int .i64 (z + p * q)))
            go_roundw
            case rel => exact ⟨k + 1, by omega, by go_num, by rw [E1.out, E2.out, E3.out, E4.out, show max h p = p by omega, show min l p = l by omega]; exact hC, hK⟩
            case measure => simp [intOf]; omega
          · have c0 := (hK.bel.cell (p := ⟨b, o + k * 2, none⟩) hb).trans r0
            have c1 := (hK.bel.cell (p := ⟨b, o + k * 2 + 1, none⟩) hb).trans r1
            obtain ⟨g0, g1, g2, g3, g4, g5⟩ := cell6 hC
            go_upto_region 7 with fail
            go_still_tail 8, (by kernel_rfl)
            clear g0 g1 g2 g3 g4 g5
            change wpList _ _ _ _ _ wr.drew
            replace hK := hK.drew
            replace hC : wr.drew.heap[G]? = _ := hC
            generalize wr.drew = v1 at *
            obtain ⟨g0, g1, g2, g3, g4, g5⟩ := cell6 hC
            obtain ⟨f0, f1, f2, f3, f4, f5⟩ := free6 hC
            go_upto_region 8 with fail
            clear g0 g1 g2 g3 g4 g5 f0 f1 f2 f3 f4 f5 c0 c1
            replace hC := set6 hC 1 (.int .i64 h)
            simp only [List.setIfInBounds_toArray, List.set_cons_zero, List.set_cons_succ] at hC
            replace hK := hK.upto' hzG ((Below.refl G v1).setCell (p := ⟨G, 1, none⟩) (Nat.le_refl _) (.int .i64 h))
            generalize v1.setCell ⟨G, 1, none⟩ (.int .i64 h) = y1 at *
            have c0 := (hK.bel.cell (p := ⟨b, o + k * 2, none⟩) hb).trans r0
            have c1 := (hK.bel.cell (p := ⟨b, o + k * 2 + 1, none⟩) hb).trans r1
            obtain ⟨g0, g1, g2, g3, g4, g5⟩ := cell6 hC
            go_still_tail 8, (by kernel_rfl)
            clear g0 g1 g2 g3 g4 g5
            change wpList _ _ _ _ _ y1.drew
            replace hK := hK.drew
            replace hC : y1.drew.heap[G]? = _ := hC
            generalize y1.drew = v2 at *
            obtain ⟨g0, g1, g2, g3, g4, g5⟩ := cell6 hC
            obtain ⟨f0, f1, f2, f3, f4, f5⟩ := free6 hC
            go_upto_region 9 with fail
            clear g0 g1 g2 g3 g4 g5 f0 f1 f2 f3 f4 f5 c0 c1
            replace hC := set6 hC 2 (.int .i64 p)
            simp only [List.setIfInBounds_toArray, List.set_cons_zero, List.set_cons_succ] at hC
            replace hK := hK.upto' hzG ((Below.refl G v2).setCell (p := ⟨G, 2, none⟩) (Nat.le_refl _) (.int .i64 p))
            generalize v2.setCell ⟨G, 2, none⟩ (.int .i64 p) = y2 at *
            have c0 := (hK.bel.cell (p := ⟨b, o + k * 2, none⟩) hb).trans r0
            have c1 := (hK.bel.cell (p := ⟨b, o + k * 2 + 1, none⟩) hb).trans r1
            obtain ⟨g0, g1, g2, g3, g4, g5⟩ := cell6 hC
            go_still_tail 8, (by kernel_rfl)
            clear g0 g1 g2 g3 g4 g5
            change wpList _ _ _ _ _ y2.drew
            replace hK := hK.drew
            replace hC : y2.drew.heap[G]? = _ := hC
            generalize y2.drew = v3 at *
            obtain ⟨g0, g1, g2, g3, g4, g5⟩ := cell6 hC
            obtain ⟨f0, f1, f2, f3, f4, f5⟩ := free6 hC
            go_upto_region 10 with fail
            clear g0 g1 g2 g3 g4 g5 f0 f1 f2 f3 f4 f5 c0 c1
            replace hC := set6 hC 4 (.int .i64 (qq + q))
            simp only [List.setIfInBounds_toArray, List.set_cons_zero, List.set_cons_succ] at hC
            replace hK := hK.upto' hzG ((Below.refl G v3).setCell (p := ⟨G, 4, none⟩) (Nat.le_refl _) (.int .i64 (qq + q)))
            generalize v3.setCell ⟨G, 4, none⟩ (.int .i64 (qq + q)) = y3 at *
            have c0 := (hK.bel.cell (p := ⟨b, o + k * 2, none⟩) hb).trans r0
            have c1 := (hK.bel.cell (p := ⟨b, o + k * 2 + 1, none⟩) hb).trans r1
            obtain ⟨g0, g1, g2, g3, g4, g5⟩ := cell6 hC
            go_still_tail 14, (by kernel_rfl)
            clear g0 g1 g2 g3 g4 g5
            change wpList _ _ _ _ _ y3.drew
            replace hK := hK.drew
            replace hC : y3.drew.heap[G]? = _ := hC
            generalize y3.drew = v4 at *
            obtain ⟨g0, g1, g2, g3, g4, g5⟩ := cell6 hC
            obtain ⟨f0, f1, f2, f3, f4, f5⟩ := free6 hC
            go_wp2_with fail
            clear g0 g1 g2 g3 g4 g5 f0 f1 f2 f3 f4 f5 c0 c1
            replace hC := set6 hC 5 (.int .i64 (z + p * q))
            simp only [List.setIfInBounds_toArray, List.set_cons_zero, List.set_cons_succ] at hC
            replace hK := hK.upto' hzG ((Below.refl G v4).setCell (p := ⟨G, 5, none⟩) (Nat.le_refl _) (.int .i64 (z + p * q)))
            go_roundw
            case rel => exact ⟨k + 1, by omega, by go_num, by rw [E1.out, E2.out, E3.out, E4.out, show max h p = h by omega, show min l p = p by omega]; exact hC, hK⟩
            case measure => simp [intOf]; omega
          · have c0 := (hK.bel.cell (p := ⟨b, o + k * 2, none⟩) hb).trans r0
            have c1 := (hK.bel.cell (p := ⟨b, o + k * 2 + 1, none⟩) hb).trans r1
            obtain ⟨g0, g1, g2, g3, g4, g5⟩ := cell6 hC
            go_upto_region 7 with fail
            go_still_tail 8, (by kernel_rfl)
            clear g0 g1 g2 g3 g4 g5
            change wpList _ _ _ _ _ wr.drew
            replace hK := hK.drew
            replace hC : wr.drew.heap[G]? = _ := hC
            generalize wr.drew = v1 at *
            obtain ⟨g0, g1, g2, g3, g4, g5⟩ := cell6 hC
            obtain ⟨f0, f1, f2, f3, f4, f5⟩ := free6 hC
            go_upto_region 8 with fail
            clear g0 g1 g2 g3 g4 g5 f0 f1 f2 f3 f4 f5 c0 c1
            replace hC := set6 hC 1 (.int .i64 h)
            simp only [List.setIfInBounds_toArray, List.set_cons_zero, List.set_cons_succ] at hC
            replace hK := hK.upto' hzG ((Below.refl G v1).setCell (p := ⟨G, 1, none⟩) (Nat.le_refl _) (.int .i64 h))
            generalize v1.setCell ⟨G, 1, none⟩ (.int .i64 h) = y1 at *
            have c0 := (hK.bel.cell (p := ⟨b, o + k * 2, none⟩) hb).trans r0
            have c1 := (hK.bel.cell (p := ⟨b, o + k * 2 + 1, none⟩) hb).trans r1
            obtain ⟨g0, g1, g2, g3, g4, g5⟩ := cell6 hC
            go_still_tail 8, (by kernel_rfl)
            clear g0 g1 g2 g3 g4 g5
            change wpList _ _ _ _ _ y1.drew
            replace hK := hK.drew
            replace hC : y1.drew.heap[G]? = _ := hC
            generalize y1.drew = v2 at *
            obtain ⟨g0, g1, g2, g3, g4, g5⟩ := cell6 hC
            obtain ⟨f0, f1, f2, f3, f4, f5⟩ := free6 hC
            go_upto_region 9 with fail
            clear g0 g1 g2 g3 g4 g5 f0 f1 f2 f3 f4 f5 c0 c1
            replace hC := set6 hC 2 (.int .i64 l)
            simp only [List.setIfInBounds_toArray, List.set_cons_zero, List.set_cons_succ] at hC
            replace hK := hK.upto' hzG ((Below.refl G v2).setCell (p := ⟨G, 2, none⟩) (Nat.le_refl _) (.int .i64 l))
            generalize v2.setCell ⟨G, 2, none⟩ (.int .i64 l) = y2 at *
            have c0 := (hK.bel.cell (p := ⟨b, o + k * 2, none⟩) hb).trans r0
            have c1 := (hK.bel.cell (p := ⟨b, o + k * 2 + 1, none⟩) hb).trans r1
            obtain ⟨g0, g1, g2, g3, g4, g5⟩ := cell6 hC
            go_still_tail 8, (by kernel_rfl)
            clear g0 g1 g2 g3 g4 g5
            change wpList _ _ _ _ _ y2.drew
            replace hK := hK.drew
            replace hC : y2.drew.heap[G]? = _ := hC
            generalize y2.drew = v3 at *
            obtain ⟨g0, g1, g2, g3, g4, g5⟩ := cell6 hC
            obtain ⟨f0, f1, f2, f3, f4, f5⟩ := free6 hC
            go_upto_region 10 with fail
            clear g0 g1 g2 g3 g4 g5 f0 f1 f2 f3 f4 f5 c0 c1
            replace hC := set6 hC 4 (.int .i64 (qq + q))
            simp only [List.setIfInBounds_toArray, List.set_cons_zero, List.set_cons_succ] at hC
            replace hK := hK.upto' hzG ((Below.refl G v3).setCell (p := ⟨G, 4, none⟩) (Nat.le_refl _) (.int .i64 (qq + q)))
            generalize v3.setCell ⟨G, 4, none⟩ (.int .i64 (qq + q)) = y3 at *
            have c0 := (hK.bel.cell (p := ⟨b, o + k * 2, none⟩) hb).trans r0
            have c1 := (hK.bel.cell (p := ⟨b, o + k * 2 + 1, none⟩) hb).trans r1
            obtain ⟨g0, g1, g2, g3, g4, g5⟩ := cell6 hC
            go_still_tail 14, (by kernel_rfl)
            clear g0 g1 g2 g3 g4 g5
            change wpList _ _ _ _ _ y3.drew
            replace hK := hK.drew
            replace hC : y3.drew.heap[G]? = _ := hC
            generalize y3.drew = v4 at *
            obtain ⟨g0, g1, g2, g3, g4, g5⟩ := cell6 hC
            obtain ⟨f0, f1, f2, f3, f4, f5⟩ := free6 hC
            go_wp2_with fail
            clear g0 g1 g2 g3 g4 g5 f0 f1 f2 f3 f4 f5 c0 c1
            replace hC := set6 hC 5 (.int .i64 (z + p * q))
            simp only [List.setIfInBounds_toArray, List.set_cons_zero, List.set_cons_succ] at hC
            replace hK := hK.upto' hzG ((Below.refl G v4).setCell (p := ⟨G, 5, none⟩) (Nat.le_refl _) (.int .i64 (z + p * q)))
            go_roundw
            case rel => exact ⟨k + 1, by omega, by go_num, by rw [E1.out, E2.out, E3.out, E4.out, show max h p = h by omega, show min l p = l by omega]; exact hC, hK⟩
            case measure => simp [intOf]; omega
        · obtain rfl : k = m + 1 := by omega
          have HC := Lib.hid hC
          have d2 := hK.one
          obtain ⟨f0, f1, f2, f3, f4, f5⟩ := free6 d2
          obtain ⟨c0, c1, c2, c3, c4, c5⟩ := cell6 d2
          obtain ⟨g0, g1, g2, g3, g4, g5⟩ := cell6 hC
          have D2 := Lib.hid d2
          have hB := hK.bel
          have HE : Hid (num zs ((m + 1 - 1) * 2) = pl) := Lib.hid (by rw [show m + 1 - 1 = m by omega]; exact HP.out.2)
          clear hC d2 hK hl
          go_wp2_with fail
          have r3 := put6 (u0 := .int .i64 p0) (u1 := .int .i64 (hiA zs (m + 1))) (u2 := .int .i64 (loA zs (m + 1))) (u3 := .int .i64 pl) (u4 := .int .i64 (qtA zs (m + 1))) (u5 := .int .i64 (woA zs (m + 1))) D2.out
          obtain ⟨e0, e1, e2, e3, e4, e5⟩ := cell6 r3
          refine bodyPost_ret (v := .tuple #[.agg #[.int .i64 p0, .int .i64 (hiA zs (m + 1)), .int .i64 (loA zs (m + 1)), .int .i64 pl, .int .i64 (qtA zs (m + 1)), .int .i64 (woA zs (m + 1))], .bool true]) (by simp [results, Try.results25, go_sem, e0, e1, e2, e3, e4, e5]) rfl ⟨by rw [HN.out, HE.out, HP.out.1], ?_⟩
          exact below6 hB (Nat.le_refl _) _ _ _ _ _ _
end Go.Proofs.Yteikflfchkmbnaa
