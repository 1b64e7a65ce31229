/-
  The candle of some trades: the program's.
-/
import Derived.Test.YteikflfchkmbnaaCnd
namespace Go.Proofs.Yteikflfchkmbnaa
open Go.RowKit Wire

theorem cell2' {w : World} {S : Nat} {a b : Value} {T : TypeId} (h : w.heap[S]? = some (.cells #[a, b] T (0, 0))) : w.cell? ⟨S, 0, none⟩ = some a ∧ w.cell? ⟨S, 1, none⟩ = some b := by
  refine ⟨?_, ?_⟩ <;> simp [World.cell?, h]
set_option linter.unusedSimpArgs false in
set_option maxHeartbeats 3200000 in
set_option maxRecDepth 100000 in
theorem impl_CandleOf (A : Option Addr) (n c : Nat) (zs : List Int) (w : World) (hl : Lst w w.heap.size 2 A n zs) (hn : n ≤ 1048576) (hcap : n ≤ c ∧ c ≤ maxLen) :
    Calls Try.prog 24 #[.slice A n c] w fun e w' => e = .returned (cndV zs n) ∧ Below w.heap.size w w' := by
  have hK0 : Keeps w.heap.size w [(w.heap.size, (.cells #[.int .i64 0, .int .i64 0, .int .i64 0, .int .i64 0, .int .i64 0, .int .i64 0] 44))] (w.alloc (.cells #[.int .i64 0, .int .i64 0, .int .i64 0, .int .i64 0, .int .i64 0, .int .i64 0] 44)) := ⟨(Below.refl _ _).alloc (Nat.le_refl _) _, by simp, fun p hp => by
    simp only [List.mem_cons, List.not_mem_nil, or_false] at hp
    subst hp
    exact heap_alloc_new w (.cells #[.int .i64 0, .int .i64 0, .int .i64 0, .int .i64 0, .int .i64 0, .int .i64 0] 44)⟩
  rcases Bool.eq_false_or_eq_true (inB 1 (n : Int) 1000) with hin | hin
  rotate_left
  · have HN := Lib.hid (cndV_no (zs := zs) (n := n) (by
      unfold inB at hin
      rw [cndB, ← Bool.and_assoc, show (decide (1 ≤ n) && decide (n ≤ 1000)) = (decide (1 ≤ (n : Int)) && decide ((n : Int) ≤ 1000)) by congr 1 <;> (rw [decide_eq_decide]; omega), hin]; rfl))
    go_enter Try.func24, Try.ntmps24
    go_wp2_with fail
    generalize w.alloc (.cells #[.int .i64 0, .int .i64 0, .int .i64 0, .int .i64 0, .int .i64 0, .int .i64 0] 44) = w0 at *
    refine (within_any _ _ _ _).mono ?_
    rw [hin]
    rintro e w1 ⟨rfl, rfl⟩
    obtain ⟨f0, f1, f2, f3, f4, f5⟩ := free6 hK0.one
    obtain ⟨c0, c1, c2, c3, c4, c5⟩ := cell6 hK0.one
    have HK := Lib.hid hK0
    clear hK0 hl
    go_wp2_with fail
    have r2 := put6 (u0 := .int .i64 0) (u1 := .int .i64 0) (u2 := .int .i64 0) (u3 := .int .i64 0) (u4 := .int .i64 0) (u5 := .int .i64 0) HK.out.one
    obtain ⟨e0, e1, e2, e3, e4, e5⟩ := cell6 r2
    refine bodyPost_ret (v := .tuple #[.agg #[.int .i64 0, .int .i64 0, .int .i64 0, .int .i64 0, .int .i64 0, .int .i64 0], .bool false]) (by simp [results, Try.results24, go_sem, e0, e1, e2, e3, e4, e5]) rfl ⟨by rw [HN.out], ?_⟩
    exact below6 HK.out.bel (Nat.le_refl _) _ _ _ _ _ _
  rcases Bool.eq_false_or_eq_true (trdTo zs n) with htr | htr
  rotate_left
  · have HN := Lib.hid (cndV_no (zs := zs) (n := n) (by simp [cndB, htr]))
    go_enter Try.func24, Try.ntmps24
    go_wp2_with fail
    generalize w.alloc (.cells #[.int .i64 0, .int .i64 0, .int .i64 0, .int .i64 0, .int .i64 0, .int .i64 0] 44) = w0 at *
    refine (within_any _ _ _ _).mono ?_
    rw [hin]
    rintro e w1 ⟨rfl, rfl⟩
    go_wp2_with fail
    refine (impl_ContainsFunc A n c zs _ (hl.later hK0.bel) hn).mono ?_
    rw [htr]
    rintro e w1 ⟨rfl, hb1⟩
    replace hK0 := hK0.upto (Nat.le_refl _) hb1
    clear hb1 htr
    obtain ⟨f0, f1, f2, f3, f4, f5⟩ := free6 hK0.one
    obtain ⟨c0, c1, c2, c3, c4, c5⟩ := cell6 hK0.one
    have HK := Lib.hid hK0
    clear hK0 hl
    go_wp2_with fail
    have r2 := put6 (u0 := .int .i64 0) (u1 := .int .i64 0) (u2 := .int .i64 0) (u3 := .int .i64 0) (u4 := .int .i64 0) (u5 := .int .i64 0) HK.out.one
    obtain ⟨e0, e1, e2, e3, e4, e5⟩ := cell6 r2
    refine bodyPost_ret (v := .tuple #[.agg #[.int .i64 0, .int .i64 0, .int .i64 0, .int .i64 0, .int .i64 0, .int .i64 0], .bool false]) (by simp [results, Try.results24, go_sem, e0, e1, e2, e3, e4, e5]) rfl ⟨by rw [HN.out], ?_⟩
    exact below6 HK.out.bel (Nat.le_refl _) _ _ _ _ _ _
  have hin' := hin
  simp only [inB, Bool.and_eq_true, decide_eq_true_eq] at hin'
  obtain ⟨n1, n2⟩ := hin'
  have HT := Lib.hid htr
  have HN := Lib.hid (cndV_yes (zs := zs) (n := n) (by simp [cndB, htr]; omega))
  go_enter Try.func24, Try.ntmps24
  go_wp2_with fail
  generalize w.alloc (.cells #[.int .i64 0, .int .i64 0, .int .i64 0, .int .i64 0, .int .i64 0, .int .i64 0] 44) = w0 at *
  refine (within_any _ _ _ _).mono ?_
  rw [hin]
  rintro e w1 ⟨rfl, rfl⟩
  go_wp2_with fail
  refine (impl_ContainsFunc A n c zs _ (hl.later hK0.bel) hn).mono ?_
  rw [htr]
  rintro e w1 ⟨rfl, hb1⟩
  replace hK0 := hK0.upto (Nat.le_refl _) hb1
  clear hb1 htr
  obtain ⟨b, o, rfl, hb, p0c, q0c⟩ := hl.row2 (k := 0) (by omega)
  obtain ⟨t0, t1, t2, t3⟩ := trdTo_at n 0 HT.out (by omega)
  simp at p0c q0c t0 t1 t2 t3
  have s0 := (hK0.bel.cell (p := ⟨b, o, none⟩) hb).trans p0c
  have s1 := (hK0.bel.cell (p := ⟨b, o + 1, none⟩) hb).trans q0c
  have H1 := Lib.hid (show hiA zs 1 = max (num zs 0) (num zs (0 * 2)) from rfl)
  have H2 := Lib.hid (show loA zs 1 = min (num zs 0) (num zs (0 * 2)) from rfl)
  have H3 := Lib.hid (show qtA zs 1 = 0 + num zs (0 * 2 + 1) from rfl)
  have H4 := Lib.hid (show woA zs 1 = 0 + num zs (0 * 2) * num zs (0 * 2 + 1) from rfl)
  clear p0c q0c
  generalize hp0 : num zs 0 = p0 at *
  have HP := Lib.hid hp0
  clear hp0
  generalize num zs 1 = q0 at *
  obtain ⟨z2, z3⟩ := mulb t0 t1 t2 t3
  have W0 := Lib.hid (IntWalk.wrap64_in (p0 * q0) (by omega))
  rcases (show n = 0 + 1 ∨ ∃ m', n = m' + 1 + 1 by rcases n with _ | _ | m'; omega; exact .inl rfl; exact .inr ⟨m', rfl⟩) with rfl | ⟨m', rfl⟩
  · rcases (show c = 1 ∨ 1 < c by omega) with rfl | hc1
    · go_wp2_with fail
      refine (impl_candleOfOne p0 q0 _).mono ?_
      rintro e w3 ⟨rfl, hb3⟩
      replace hK0 := hK0.upto (Nat.le_refl _) hb3
      clear hb3 s0 s1
      go_wp2_with fail
      have hC := heap_alloc_new w3 (.cells #[.int .i64 p0, .int .i64 p0, .int .i64 p0, .int .i64 p0, .int .i64 q0, .int .i64 (wrap64 (p0 * q0))] 44)
      have hzG := hK0.lo
      replace hK0 := hK0.upto (Nat.le_refl _) ((Below.refl _ _).alloc (Nat.le_refl _) (.cells #[.int .i64 p0, .int .i64 p0, .int .i64 p0, .int .i64 p0, .int .i64 q0, .int .i64 (wrap64 (p0 * q0))] 44))
      generalize w3.alloc (.cells #[.int .i64 p0, .int .i64 p0, .int .i64 p0, .int .i64 p0, .int .i64 q0, .int .i64 (wrap64 (p0 * q0))] 44) = wz at *
      generalize w3.heap.size = G at *
      rw [W0.out] at hC
      replace hC : wz.heap[G]? = some (.cells #[.int .i64 p0, .int .i64 (hiA zs (0 + 1)), .int .i64 (loA zs (0 + 1)), .int .i64 (num zs (0 * 2)), .int .i64 (qtA zs (0 + 1)), .int .i64 (woA zs (0 + 1))] 44 (0, 0)) := by
        rw [show hiA zs (0 + 1) = p0 from H1.out.trans (by omega), show loA zs (0 + 1) = p0 from H2.out.trans (by omega), show num zs (0 * 2) = p0 from HP.out, show qtA zs (0 + 1) = q0 from H3.out.trans (by omega), show woA zs (0 + 1) = p0 * q0 from H4.out.trans (by omega)]
        exact hC
      go_loopw [23] (fun i wr => ∃ j : Nat, j ≤ 0 ∧ i = .int .i64 (j : Int) ∧ wr.heap[G]? = some (.cells #[.int .i64 p0, .int .i64 (hiA zs (j + 1)), .int .i64 (loA zs (j + 1)), .int .i64 (num zs (j * 2)), .int .i64 (qtA zs (j + 1)), .int .i64 (woA zs (j + 1))] 44 (0, 0)) ∧ Keeps w.heap.size w [(w.heap.size, (.cells #[.int .i64 0, .int .i64 0, .int .i64 0, .int .i64 0, .int .i64 0, .int .i64 0] 44))] wr) (fun i _ => 0 - (intOf i).toNat)
      case atStart => exact ⟨0, Nat.zero_le _, rfl, hC, hK0⟩
      case round =>
        clear hC hK0
        obtain ⟨j, hj, rfl, hC, hK⟩ := hrel
        obtain rfl : j = 0 := by omega
        have HC := Lib.hid hC
        have d2 := hK.one
        obtain ⟨f0, f1, f2, f3, f4, f5⟩ := free6 d2
        obtain ⟨c0, c1, c2, c3, c4, c5⟩ := cell6 d2
        obtain ⟨g0, g1, g2, g3, g4, g5⟩ := cell6 hC
        have D2 := Lib.hid d2
        have hB := hK.bel
        clear hC d2 hK hl
        go_wp2_with fail
        have r3 := put6 (u0 := .int .i64 p0) (u1 := .int .i64 (hiA zs (0 + 1))) (u2 := .int .i64 (loA zs (0 + 1))) (u3 := .int .i64 (num zs (0 * 2))) (u4 := .int .i64 (qtA zs (0 + 1))) (u5 := .int .i64 (woA zs (0 + 1))) D2.out
        obtain ⟨e0, e1, e2, e3, e4, e5⟩ := cell6 r3
        refine bodyPost_ret (v := .tuple #[.agg #[.int .i64 p0, .int .i64 (hiA zs (0 + 1)), .int .i64 (loA zs (0 + 1)), .int .i64 (num zs (0 * 2)), .int .i64 (qtA zs (0 + 1)), .int .i64 (woA zs (0 + 1))], .bool true]) (by simp [results, Try.results24, go_sem, e0, e1, e2, e3, e4, e5]) rfl ⟨by rw [HN.out, HP.out], ?_⟩
        exact below6 hB (Nat.le_refl _) _ _ _ _ _ _
    · go_wp2_with fail
      refine (impl_candleOfOne p0 q0 _).mono ?_
      rintro e w3 ⟨rfl, hb3⟩
      replace hK0 := hK0.upto (Nat.le_refl _) hb3
      clear hb3 s0 s1
      go_wp2_with fail
      have hC := heap_alloc_new w3 (.cells #[.int .i64 p0, .int .i64 p0, .int .i64 p0, .int .i64 p0, .int .i64 q0, .int .i64 (wrap64 (p0 * q0))] 44)
      have hzG := hK0.lo
      replace hK0 := hK0.upto (Nat.le_refl _) ((Below.refl _ _).alloc (Nat.le_refl _) (.cells #[.int .i64 p0, .int .i64 p0, .int .i64 p0, .int .i64 p0, .int .i64 q0, .int .i64 (wrap64 (p0 * q0))] 44))
      generalize w3.alloc (.cells #[.int .i64 p0, .int .i64 p0, .int .i64 p0, .int .i64 p0, .int .i64 q0, .int .i64 (wrap64 (p0 * q0))] 44) = wz at *
      generalize w3.heap.size = G at *
      rw [W0.out] at hC
      replace hC : wz.heap[G]? = some (.cells #[.int .i64 p0, .int .i64 (hiA zs (0 + 1)), .int .i64 (loA zs (0 + 1)), .int .i64 (num zs (0 * 2)), .int .i64 (qtA zs (0 + 1)), .int .i64 (woA zs (0 + 1))] 44 (0, 0)) := by
        rw [show hiA zs (0 + 1) = p0 from H1.out.trans (by omega), show loA zs (0 + 1) = p0 from H2.out.trans (by omega), show num zs (0 * 2) = p0 from HP.out, show qtA zs (0 + 1) = q0 from H3.out.trans (by omega), show woA zs (0 + 1) = p0 * q0 from H4.out.trans (by omega)]
        exact hC
      go_loopw [23] (fun i wr => ∃ j : Nat, j ≤ 0 ∧ i = .int .i64 (j : Int) ∧ wr.heap[G]? = some (.cells #[.int .i64 p0, .int .i64 (hiA zs (j + 1)), .int .i64 (loA zs (j + 1)), .int .i64 (num zs (j * 2)), .int .i64 (qtA zs (j + 1)), .int .i64 (woA zs (j + 1))] 44 (0, 0)) ∧ Keeps w.heap.size w [(w.heap.size, (.cells #[.int .i64 0, .int .i64 0, .int .i64 0, .int .i64 0, .int .i64 0, .int .i64 0] 44))] wr) (fun i _ => 0 - (intOf i).toNat)
      case atStart => exact ⟨0, Nat.zero_le _, rfl, hC, hK0⟩
      case round =>
        clear hC hK0
        obtain ⟨j, hj, rfl, hC, hK⟩ := hrel
        obtain rfl : j = 0 := by omega
        have HC := Lib.hid hC
        have d2 := hK.one
        obtain ⟨f0, f1, f2, f3, f4, f5⟩ := free6 d2
        obtain ⟨c0, c1, c2, c3, c4, c5⟩ := cell6 d2
        obtain ⟨g0, g1, g2, g3, g4, g5⟩ := cell6 hC
        have D2 := Lib.hid d2
        have hB := hK.bel
        clear hC d2 hK hl
        go_wp2_with fail
        have r3 := put6 (u0 := .int .i64 p0) (u1 := .int .i64 (hiA zs (0 + 1))) (u2 := .int .i64 (loA zs (0 + 1))) (u3 := .int .i64 (num zs (0 * 2))) (u4 := .int .i64 (qtA zs (0 + 1))) (u5 := .int .i64 (woA zs (0 + 1))) D2.out
        obtain ⟨e0, e1, e2, e3, e4, e5⟩ := cell6 r3
        refine bodyPost_ret (v := .tuple #[.agg #[.int .i64 p0, .int .i64 (hiA zs (0 + 1)), .int .i64 (loA zs (0 + 1)), .int .i64 (num zs (0 * 2)), .int .i64 (qtA zs (0 + 1)), .int .i64 (woA zs (0 + 1))], .bool true]) (by simp [results, Try.results24, go_sem, e0, e1, e2, e3, e4, e5]) rfl ⟨by rw [HN.out, HP.out], ?_⟩
        exact below6 hB (Nat.le_refl _) _ _ _ _ _ _
  · go_wp2_with fail
    refine (impl_candleOfOne p0 q0 _).mono ?_
    rintro e w3 ⟨rfl, hb3⟩
    replace hK0 := hK0.upto (Nat.le_refl _) hb3
    clear hb3 s0 s1
    go_wp2_with fail
    have hC := heap_alloc_new w3 (.cells #[.int .i64 p0, .int .i64 p0, .int .i64 p0, .int .i64 p0, .int .i64 q0, .int .i64 (wrap64 (p0 * q0))] 44)
    have hzG := hK0.lo
    replace hK0 := hK0.upto (Nat.le_refl _) ((Below.refl _ _).alloc (Nat.le_refl _) (.cells #[.int .i64 p0, .int .i64 p0, .int .i64 p0, .int .i64 p0, .int .i64 q0, .int .i64 (wrap64 (p0 * q0))] 44))
    generalize w3.alloc (.cells #[.int .i64 p0, .int .i64 p0, .int .i64 p0, .int .i64 p0, .int .i64 q0, .int .i64 (wrap64 (p0 * q0))] 44) = wz at *
    generalize w3.heap.size = G at *
    rw [W0.out] at hC
    replace hC : wz.heap[G]? = some (.cells #[.int .i64 p0, .int .i64 (hiA zs (0 + 1)), .int .i64 (loA zs (0 + 1)), .int .i64 (num zs (0 * 2)), .int .i64 (qtA zs (0 + 1)), .int .i64 (woA zs (0 + 1))] 44 (0, 0)) := by
      rw [show hiA zs (0 + 1) = p0 from H1.out.trans (by omega), show loA zs (0 + 1) = p0 from H2.out.trans (by omega), show num zs (0 * 2) = p0 from HP.out, show qtA zs (0 + 1) = q0 from H3.out.trans (by omega), show woA zs (0 + 1) = p0 * q0 from H4.out.trans (by omega)]
      exact hC
    go_loopw [23] (fun i wr => ∃ j : Nat, j ≤ m' + 1 ∧ i = .int .i64 (j : Int) ∧ wr.heap[G]? = some (.cells #[.int .i64 p0, .int .i64 (hiA zs (j + 1)), .int .i64 (loA zs (j + 1)), .int .i64 (num zs (j * 2)), .int .i64 (qtA zs (j + 1)), .int .i64 (woA zs (j + 1))] 44 (0, 0)) ∧ Keeps w.heap.size w [(w.heap.size, (.cells #[.int .i64 0, .int .i64 0, .int .i64 0, .int .i64 0, .int .i64 0, .int .i64 0] 44))] wr) (fun i _ => m' + 1 - (intOf i).toNat)
    case atStart => exact ⟨0, Nat.zero_le _, rfl, hC, hK0⟩
    case round =>
      clear hC hK0
      obtain ⟨j, hj, rfl, hC, hK⟩ := hrel
      by_cases hlt : j < m' + 1
      · obtain ⟨b', o', e, _, r0, r1⟩ := hl.row2 (k := j + 1) (by omega)
        injection e with e
        injection e with e1 e2
        subst e1 e2
        obtain ⟨t0, t1, t2, t3⟩ := trdTo_at (m' + 1 + 1) (j + 1) HT.out (by omega)
        obtain ⟨q0, q1⟩ := qtA_le HT.out (j + 1) (by omega)
        obtain ⟨z0, z1⟩ := woA_le HT.out (j + 1) (by omega)
        have E1 := Lib.hid (show hiA zs (j + 1 + 1) = max (hiA zs (j + 1)) (num zs ((j + 1) * 2)) from rfl)
        have E2 := Lib.hid (show loA zs (j + 1 + 1) = min (loA zs (j + 1)) (num zs ((j + 1) * 2)) from rfl)
        have E3 := Lib.hid (show qtA zs (j + 1 + 1) = qtA zs (j + 1) + num zs ((j + 1) * 2 + 1) from rfl)
        have E4 := Lib.hid (show woA zs (j + 1 + 1) = woA zs (j + 1) + num zs ((j + 1) * 2) * num zs ((j + 1) * 2 + 1) from rfl)
        have c0 : wr.cell? ⟨b, o + 2 + j * 2, none⟩ = some (.int .i64 (num zs ((j + 1) * 2))) := by
          rw [show o + 2 + j * 2 = o + (j + 1) * 2 by omega]; exact (hK.bel.cell (p := ⟨b, o + (j + 1) * 2, none⟩) hb).trans r0
        have c1 : wr.cell? ⟨b, o + 2 + j * 2 + 1, none⟩ = some (.int .i64 (num zs ((j + 1) * 2 + 1))) := by
          rw [show o + 2 + j * 2 + 1 = o + (j + 1) * 2 + 1 by omega]; exact (hK.bel.cell (p := ⟨b, o + (j + 1) * 2 + 1, none⟩) hb).trans r1
        clear r0 r1
        generalize hiA zs (j + 1) = h at *
        generalize loA zs (j + 1) = l at *
        generalize qtA zs (j + 1) = qq at *
        generalize woA zs (j + 1) = z at *
        generalize num zs (j * 2) = cl at *
        generalize hpp : num zs ((j + 1) * 2) = p at *
        generalize num zs ((j + 1) * 2 + 1) = q at *
        have E5 := Lib.hid hpp
        clear hpp
        obtain ⟨z2, z3⟩ := mulb t0 t1 t2 t3
        have W1 := Lib.hid (IntWalk.wrap64_in (qq + q) (by omega))
        have W2 := Lib.hid (IntWalk.wrap64_in (p * q) (by omega))
        have W3 := Lib.hid (IntWalk.wrap64_in (z + p * q) (by omega))
        go_upto_region 7 with fail
        have hx := heap_alloc_new wr (.cells #[.int .i64 p, .int .i64 q] 31)
        replace hC := (Below.heap_alloc wr (.cells #[.int .i64 p, .int .i64 q] 31) G (heap_lt' hC)).trans hC
        replace hK := hK.upto (Nat.le_refl _) ((Below.refl _ _).alloc (Nat.le_refl _) (.cells #[.int .i64 p, .int .i64 q] 31))
        generalize wr.alloc (.cells #[.int .i64 p, .int .i64 q] 31) = wx at *
        generalize wr.heap.size = xb at *
        clear c0 c1 hj
        refine wp_region_any (by kernel_rfl) ?_
        change wpAny _ _ _ _ _ _ _ wx.drew
        replace hK := hK.drew
        replace hC : wx.drew.heap[G]? = _ := hC
        replace hx : wx.drew.heap[xb]? = _ := hx
        generalize wx.drew = wd at *
        refine wpAny_ready (rs := [0, 1]) (by kernel_rfl) (by simp) ?_
        refine AllReady.cons (o := ?or1_0) ?hor1_0 (fun K hK' => ?stepr1_0) (AllReady.cons (o := ?or1_1) ?hor1_1 (fun K hK' => ?stepr1_1) (AllReady.nil))
        case hor1_0 => simp only [List.getElem?_toArray, List.getElem?_cons_succ, List.getElem?_cons_zero]; exact rfl
        case hor1_1 => simp only [List.getElem?_toArray, List.getElem?_cons_succ, List.getElem?_cons_zero]; exact rfl
        case stepr1_0 =>
          have HKK := Lib.hid hK'
          clear hK'
          obtain ⟨g0, g1, g2, g3, g4, g5⟩ := cell6 hC
          go_simp
          clear g0 g1 g2 g3 g4 g5
          refine HKK.out _ _ ?restr1_0
          clear HKK K
          try simp only [Act.put, List.setIfInBounds_toArray, List.set_cons_zero, List.set_cons_succ]
          refine wpAny_ready (rs := [1]) (by kernel_rfl) (by simp) ?_
          refine AllReady.cons (o := ?or2_1) ?hor2_1 (fun K hK' => ?stepr2_1) (AllReady.nil)
          case hor2_1 => simp only [List.getElem?_toArray, List.getElem?_cons_succ, List.getElem?_cons_zero]; exact rfl
          case stepr2_1 =>
            have HKK := Lib.hid hK'
            clear hK'
            obtain ⟨g0, g1⟩ := cell2' hx
            go_simp
            clear g0 g1
            refine HKK.out _ _ ?restr2_1
            clear HKK K
            try simp only [Act.put, List.setIfInBounds_toArray, List.set_cons_zero, List.set_cons_succ]
            refine wpAny_ready (rs := [2]) (by kernel_rfl) (by simp) ?_
            refine AllReady.cons (o := ?or3_2) ?hor3_2 (fun K hK' => ?stepr3_2) (AllReady.nil)
            case hor3_2 => simp only [List.getElem?_toArray, List.getElem?_cons_succ, List.getElem?_cons_zero]; exact rfl
            case stepr3_2 =>
              have HKK := Lib.hid hK'
              clear hK'
              go_simp
              refine (impl_candleOfOne p q wd).mono ?_
              rintro e w4x ⟨rfl, hb1⟩
              replace hK := hK.upto (Nat.le_refl _) hb1
              replace hx := (hb1.block _ (heap_lt' hx)).trans hx
              replace hC := (hb1.block _ (heap_lt' hC)).trans hC
              clear hb1
              refine HKK.out _ _ ?restr3_2
              clear HKK K
              try simp only [Act.put, List.setIfInBounds_toArray, List.set_cons_zero, List.set_cons_succ]
              refine wpAny_ready (rs := [3]) (by kernel_rfl) (by simp) ?_
              refine AllReady.cons (o := ?or5_3) ?hor5_3 (fun K hK' => ?stepr5_3) (AllReady.nil)
              case hor5_3 => simp only [List.getElem?_toArray, List.getElem?_cons_succ, List.getElem?_cons_zero]; exact rfl
              case stepr5_3 =>
                have HKK := Lib.hid hK'
                clear hK'
                go_simp
                refine (impl_joined p0 h l cl qq z p p p p q (wrap64 (p * q)) w4x).mono ?_
                rintro e w6x ⟨rfl, hb1⟩
                replace hK := hK.upto (Nat.le_refl _) hb1
                replace hx := (hb1.block _ (heap_lt' hx)).trans hx
                replace hC := (hb1.block _ (heap_lt' hC)).trans hC
                clear hb1
                refine HKK.out _ _ ?restr5_3
                clear HKK K
                try simp only [Act.put, List.setIfInBounds_toArray, List.set_cons_zero, List.set_cons_succ]
                refine wpAny_ready (rs := [4]) (by kernel_rfl) (by simp) ?_
                refine AllReady.cons (o := ?or7_4) ?hor7_4 (fun K hK' => ?stepr7_4) (AllReady.nil)
                case hor7_4 => simp only [List.getElem?_toArray, List.getElem?_cons_succ, List.getElem?_cons_zero]; exact rfl
                case stepr7_4 =>
                  have HKK := Lib.hid hK'
                  clear hK'
                  obtain ⟨g0, g1, g2, g3, g4, g5⟩ := cell6 hC
                  obtain ⟨f0, f1, f2, f3, f4, f5⟩ := free6 hC
                  go_simp
                  clear g0 g1 g2 g3 g4 g5 f0 f1 f2 f3 f4 f5
                  refine HKK.out _ _ ?restr7_4
                  clear HKK K
                  try simp only [Act.put, List.setIfInBounds_toArray, List.set_cons_zero, List.set_cons_succ]
                  replace hC := put6 (u0 := .int .i64 p0) (u1 := .int .i64 (max h p)) (u2 := .int .i64 (min l p)) (u3 := .int .i64 p) (u4 := .int .i64 (wrap64 (qq + q))) (u5 := .int .i64 (wrap64 (z + wrap64 (p * q)))) hC
                  replace hK := hK.upto' hzG (below6 (B := G) (Below.refl G w6x) (Nat.le_refl _) (.int .i64 p0) (.int .i64 (max h p)) (.int .i64 (min l p)) (.int .i64 p) (.int .i64 (wrap64 (qq + q))) (.int .i64 (wrap64 (z + wrap64 (p * q)))))
                  generalize ((((((w6x.setCell ⟨G, 0, none⟩ (.int .i64 p0)).setCell ⟨G, 1, none⟩ (.int .i64 (max h p))).setCell ⟨G, 2, none⟩ (.int .i64 (min l p))).setCell ⟨G, 3, none⟩ (.int .i64 p)).setCell ⟨G, 4, none⟩ (.int .i64 (wrap64 (qq + q)))).setCell ⟨G, 5, none⟩ (.int .i64 (wrap64 (z + wrap64 (p * q))))) = wy at *
                  refine wpAny_done (by kernel_rfl) ?_ _
                  go_wp2_with fail
                  rw [W1.out, W2.out, W3.out] at hC
                  go_roundw
                  case rel => exact ⟨j + 1, by omega, by go_num, by rw [E1.out, E2.out, E3.out, E4.out, E5.out]; exact hC, hK⟩
                  case measure => simp [intOf]; omega
        case stepr1_1 =>
          have HKK := Lib.hid hK'
          clear hK'
          obtain ⟨g0, g1⟩ := cell2' hx
          go_simp
          clear g0 g1
          refine HKK.out _ _ ?restr1_1
          clear HKK K
          try simp only [Act.put, List.setIfInBounds_toArray, List.set_cons_zero, List.set_cons_succ]
          refine wpAny_ready (rs := [0, 2]) (by kernel_rfl) (by simp) ?_
          refine AllReady.cons (o := ?or8_0) ?hor8_0 (fun K hK' => ?stepr8_0) (AllReady.cons (o := ?or8_2) ?hor8_2 (fun K hK' => ?stepr8_2) (AllReady.nil))
          case hor8_0 => simp only [List.getElem?_toArray, List.getElem?_cons_succ, List.getElem?_cons_zero]; exact rfl
          case hor8_2 => simp only [List.getElem?_toArray, List.getElem?_cons_succ, List.getElem?_cons_zero]; exact rfl
          case stepr8_0 =>
            have HKK := Lib.hid hK'
            clear hK'
            obtain ⟨g0, g1, g2, g3, g4, g5⟩ := cell6 hC
            go_simp
            clear g0 g1 g2 g3 g4 g5
            refine HKK.out _ _ ?restr8_0
            clear HKK K
            try simp only [Act.put, List.setIfInBounds_toArray, List.set_cons_zero, List.set_cons_succ]
            refine wpAny_ready (rs := [2]) (by kernel_rfl) (by simp) ?_
            refine AllReady.cons (o := ?or9_2) ?hor9_2 (fun K hK' => ?stepr9_2) (AllReady.nil)
            case hor9_2 => simp only [List.getElem?_toArray, List.getElem?_cons_succ, List.getElem?_cons_zero]; exact rfl
            case stepr9_2 =>
              have HKK := Lib.hid hK'
              clear hK'
              go_simp
              refine (impl_candleOfOne p q wd).mono ?_
              rintro e w10x ⟨rfl, hb1⟩
              replace hK := hK.upto (Nat.le_refl _) hb1
              replace hx := (hb1.block _ (heap_lt' hx)).trans hx
              replace hC := (hb1.block _ (heap_lt' hC)).trans hC
              clear hb1
              refine HKK.out _ _ ?restr9_2
              clear HKK K
              try simp only [Act.put, List.setIfInBounds_toArray, List.set_cons_zero, List.set_cons_succ]
              refine wpAny_ready (rs := [3]) (by kernel_rfl) (by simp) ?_
              refine AllReady.cons (o := ?or11_3) ?hor11_3 (fun K hK' => ?stepr11_3) (AllReady.nil)
              case hor11_3 => simp only [List.getElem?_toArray, List.getElem?_cons_succ, List.getElem?_cons_zero]; exact rfl
              case stepr11_3 =>
                have HKK := Lib.hid hK'
                clear hK'
                go_simp
                refine (impl_joined p0 h l cl qq z p p p p q (wrap64 (p * q)) w10x).mono ?_
                rintro e w12x ⟨rfl, hb1⟩
                replace hK := hK.upto (Nat.le_refl _) hb1
                replace hx := (hb1.block _ (heap_lt' hx)).trans hx
                replace hC := (hb1.block _ (heap_lt' hC)).trans hC
                clear hb1
                refine HKK.out _ _ ?restr11_3
                clear HKK K
                try simp only [Act.put, List.setIfInBounds_toArray, List.set_cons_zero, List.set_cons_succ]
                refine wpAny_ready (rs := [4]) (by kernel_rfl) (by simp) ?_
                refine AllReady.cons (o := ?or13_4) ?hor13_4 (fun K hK' => ?stepr13_4) (AllReady.nil)
                case hor13_4 => simp only [List.getElem?_toArray, List.getElem?_cons_succ, List.getElem?_cons_zero]; exact rfl
                case stepr13_4 =>
                  have HKK := Lib.hid hK'
                  clear hK'
                  obtain ⟨g0, g1, g2, g3, g4, g5⟩ := cell6 hC
                  obtain ⟨f0, f1, f2, f3, f4, f5⟩ := free6 hC
                  go_simp
                  clear g0 g1 g2 g3 g4 g5 f0 f1 f2 f3 f4 f5
                  refine HKK.out _ _ ?restr13_4
                  clear HKK K
                  try simp only [Act.put, List.setIfInBounds_toArray, List.set_cons_zero, List.set_cons_succ]
                  replace hC := put6 (u0 := .int .i64 p0) (u1 := .int .i64 (max h p)) (u2 := .int .i64 (min l p)) (u3 := .int .i64 p) (u4 := .int .i64 (wrap64 (qq + q))) (u5 := .int .i64 (wrap64 (z + wrap64 (p * q)))) hC
                  replace hK := hK.upto' hzG (below6 (B := G) (Below.refl G w12x) (Nat.le_refl _) (.int .i64 p0) (.int .i64 (max h p)) (.int .i64 (min l p)) (.int .i64 p) (.int .i64 (wrap64 (qq + q))) (.int .i64 (wrap64 (z + wrap64 (p * q)))))
                  generalize ((((((w12x.setCell ⟨G, 0, none⟩ (.int .i64 p0)).setCell ⟨G, 1, none⟩ (.int .i64 (max h p))).setCell ⟨G, 2, none⟩ (.int .i64 (min l p))).setCell ⟨G, 3, none⟩ (.int .i64 p)).setCell ⟨G, 4, none⟩ (.int .i64 (wrap64 (qq + q)))).setCell ⟨G, 5, none⟩ (.int .i64 (wrap64 (z + wrap64 (p * q))))) = wy at *
                  refine wpAny_done (by kernel_rfl) ?_ _
                  go_wp2_with fail
                  rw [W1.out, W2.out, W3.out] at hC
                  go_roundw
                  case rel => exact ⟨j + 1, by omega, by go_num, by rw [E1.out, E2.out, E3.out, E4.out, E5.out]; exact hC, hK⟩
                  case measure => simp [intOf]; omega
          case stepr8_2 =>
            have HKK := Lib.hid hK'
            clear hK'
            go_simp
            refine (impl_candleOfOne p q wd).mono ?_
            rintro e w14x ⟨rfl, hb1⟩
            replace hK := hK.upto (Nat.le_refl _) hb1
            replace hx := (hb1.block _ (heap_lt' hx)).trans hx
            replace hC := (hb1.block _ (heap_lt' hC)).trans hC
            clear hb1
            refine HKK.out _ _ ?restr8_2
            clear HKK K
            try simp only [Act.put, List.setIfInBounds_toArray, List.set_cons_zero, List.set_cons_succ]
            refine wpAny_ready (rs := [0]) (by kernel_rfl) (by simp) ?_
            refine AllReady.cons (o := ?or15_0) ?hor15_0 (fun K hK' => ?stepr15_0) (AllReady.nil)
            case hor15_0 => simp only [List.getElem?_toArray, List.getElem?_cons_succ, List.getElem?_cons_zero]; exact rfl
            case stepr15_0 =>
              have HKK := Lib.hid hK'
              clear hK'
              obtain ⟨g0, g1, g2, g3, g4, g5⟩ := cell6 hC
              go_simp
              clear g0 g1 g2 g3 g4 g5
              refine HKK.out _ _ ?restr15_0
              clear HKK K
              try simp only [Act.put, List.setIfInBounds_toArray, List.set_cons_zero, List.set_cons_succ]
              refine wpAny_ready (rs := [3]) (by kernel_rfl) (by simp) ?_
              refine AllReady.cons (o := ?or16_3) ?hor16_3 (fun K hK' => ?stepr16_3) (AllReady.nil)
              case hor16_3 => simp only [List.getElem?_toArray, List.getElem?_cons_succ, List.getElem?_cons_zero]; exact rfl
              case stepr16_3 =>
                have HKK := Lib.hid hK'
                clear hK'
                go_simp
                refine (impl_joined p0 h l cl qq z p p p p q (wrap64 (p * q)) w14x).mono ?_
                rintro e w17x ⟨rfl, hb1⟩
                replace hK := hK.upto (Nat.le_refl _) hb1
                replace hx := (hb1.block _ (heap_lt' hx)).trans hx
                replace hC := (hb1.block _ (heap_lt' hC)).trans hC
                clear hb1
                refine HKK.out _ _ ?restr16_3
                clear HKK K
                try simp only [Act.put, List.setIfInBounds_toArray, List.set_cons_zero, List.set_cons_succ]
                refine wpAny_ready (rs := [4]) (by kernel_rfl) (by simp) ?_
                refine AllReady.cons (o := ?or18_4) ?hor18_4 (fun K hK' => ?stepr18_4) (AllReady.nil)
                case hor18_4 => simp only [List.getElem?_toArray, List.getElem?_cons_succ, List.getElem?_cons_zero]; exact rfl
                case stepr18_4 =>
                  have HKK := Lib.hid hK'
                  clear hK'
                  obtain ⟨g0, g1, g2, g3, g4, g5⟩ := cell6 hC
                  obtain ⟨f0, f1, f2, f3, f4, f5⟩ := free6 hC
                  go_simp
                  clear g0 g1 g2 g3 g4 g5 f0 f1 f2 f3 f4 f5
                  refine HKK.out _ _ ?restr18_4
                  clear HKK K
                  try simp only [Act.put, List.setIfInBounds_toArray, List.set_cons_zero, List.set_cons_succ]
                  replace hC := put6 (u0 := .int .i64 p0) (u1 := .int .i64 (max h p)) (u2 := .int .i64 (min l p)) (u3 := .int .i64 p) (u4 := .int .i64 (wrap64 (qq + q))) (u5 := .int .i64 (wrap64 (z + wrap64 (p * q)))) hC
                  replace hK := hK.upto' hzG (below6 (B := G) (Below.refl G w17x) (Nat.le_refl _) (.int .i64 p0) (.int .i64 (max h p)) (.int .i64 (min l p)) (.int .i64 p) (.int .i64 (wrap64 (qq + q))) (.int .i64 (wrap64 (z + wrap64 (p * q)))))
                  generalize ((((((w17x.setCell ⟨G, 0, none⟩ (.int .i64 p0)).setCell ⟨G, 1, none⟩ (.int .i64 (max h p))).setCell ⟨G, 2, none⟩ (.int .i64 (min l p))).setCell ⟨G, 3, none⟩ (.int .i64 p)).setCell ⟨G, 4, none⟩ (.int .i64 (wrap64 (qq + q)))).setCell ⟨G, 5, none⟩ (.int .i64 (wrap64 (z + wrap64 (p * q))))) = wy at *
                  refine wpAny_done (by kernel_rfl) ?_ _
                  go_wp2_with fail
                  rw [W1.out, W2.out, W3.out] at hC
                  go_roundw
                  case rel => exact ⟨j + 1, by omega, by go_num, by rw [E1.out, E2.out, E3.out, E4.out, E5.out]; exact hC, hK⟩
                  case measure => simp [intOf]; omega
      · obtain rfl : j = m' + 1 := by omega
        have HC := Lib.hid hC
        have d2 := hK.one
        obtain ⟨f0, f1, f2, f3, f4, f5⟩ := free6 d2
        obtain ⟨c0, c1, c2, c3, c4, c5⟩ := cell6 d2
        obtain ⟨g0, g1, g2, g3, g4, g5⟩ := cell6 hC
        have D2 := Lib.hid d2
        have hB := hK.bel
        clear hC d2 hK hl
        go_wp2_with fail
        have r3 := put6 (u0 := .int .i64 p0) (u1 := .int .i64 (hiA zs (m' + 1 + 1))) (u2 := .int .i64 (loA zs (m' + 1 + 1))) (u3 := .int .i64 (num zs ((m' + 1) * 2))) (u4 := .int .i64 (qtA zs (m' + 1 + 1))) (u5 := .int .i64 (woA zs (m' + 1 + 1))) D2.out
        obtain ⟨e0, e1, e2, e3, e4, e5⟩ := cell6 r3
        refine bodyPost_ret (v := .tuple #[.agg #[.int .i64 p0, .int .i64 (hiA zs (m' + 1 + 1)), .int .i64 (loA zs (m' + 1 + 1)), .int .i64 (num zs ((m' + 1) * 2)), .int .i64 (qtA zs (m' + 1 + 1)), .int .i64 (woA zs (m' + 1 + 1))], .bool true]) (by simp [results, Try.results24, go_sem, e0, e1, e2, e3, e4, e5]) rfl ⟨by rw [HN.out]; (first | done | rfl), ?_⟩
        exact below6 hB (Nat.le_refl _) _ _ _ _ _ _
end Go.Proofs.Yteikflfchkmbnaa
