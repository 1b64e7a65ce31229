/-
  Drawn orders of an auction.
-/
import Derived.Test.YtnldfbcelakimaaDrawTrd
import Derived.Test.YtnldfbcelakimaaKeep
namespace Go.Proofs.Ytnldfbcelakimaa
open Go.RowKit Wire

theorem ord_cell {w : World} {S : Nat} {a b c d : Value} {T : TypeId} (h : w.heap[S]? = some (.cells #[a, b, c, d] T (0, 0))) : w.cell? ⟨S, 0, none⟩ = some a ∧ w.cell? ⟨S, 1, none⟩ = some b ∧ w.cell? ⟨S, 2, none⟩ = some c ∧ w.cell? ⟨S, 3, none⟩ = some d ∧ w.frozen? ⟨S, 0, none⟩ = false ∧ w.frozen? ⟨S, 1, none⟩ = false ∧ w.frozen? ⟨S, 2, none⟩ = false ∧ w.frozen? ⟨S, 3, none⟩ = false := by
  refine ⟨?_, ?_, ?_, ?_, ?_, ?_, ?_, ?_⟩ <;> simp [World.cell?, World.frozen?, h]
theorem ord_set {w : World} {S : Nat} {a b c d : Value} {T : TypeId} (h : w.heap[S]? = some (.cells #[a, b, c, d] T (0, 0))) (j : Nat) (u : Value) : (w.setCell ⟨S, j, none⟩ u).heap[S]? = some (.cells (#[a, b, c, d].setIfInBounds j u) T (0, 0)) := by
  simp [World.setCell, Array.getElem?_modify, h]
theorem ord_put {w : World} {S : Nat} {a b c d u0 u1 u2 u3 : Value} {T : TypeId} (h : w.heap[S]? = some (.cells #[a, b, c, d] T (0, 0))) :
    ((((w.setCell ⟨S, 0, none⟩ u0).setCell ⟨S, 1, none⟩ u1).setCell ⟨S, 2, none⟩ u2).setCell ⟨S, 3, none⟩ u3).heap[S]? = some (.cells #[u0, u1, u2, u3] T (0, 0)) := by
  simp [World.setCell, Array.getElem?_modify, h]
theorem ord_put_other {w : World} {S k : Nat} {o : Obj} {u0 u1 u2 u3 : Value} (h : w.heap[k]? = some o) (hne : k ≠ S) :
    ((((w.setCell ⟨S, 0, none⟩ u0).setCell ⟨S, 1, none⟩ u1).setCell ⟨S, 2, none⟩ u2).setCell ⟨S, 3, none⟩ u3).heap[k]? = some o := by
  have e := fun (v : World) (i : Nat) (u : Value) => Below.heap_setCell v ⟨S, i, none⟩ u k hne
  rw [e, e, e, e]
  exact h
/-- a drawn order -/
def DrawnOrd (w : World) (g : Nat) (A : Option Addr) (len cap : Nat) (e : Ending) (w' : World) : Prop :=
  ∃ (a b c d : Int) (p : Nat), e = .returned (.agg #[.int .i64 a, .int .i64 b, .int .i64 c, .int .i64 d]) ∧ RdAt w' g A len cap p ∧ w.grownBy w' (some g)
set_option linter.unusedSimpArgs false in
set_option maxHeartbeats 1600000 in
set_option maxRecDepth 100000 in
theorem order_any (g : Nat) (A : Option Addr) (len cap p : Nat) (w : World) (hr : RdAt w g A len cap p) (hs : Src w g A len) (hl : len ≤ 9223372036854775807) :
    Calls Try.prog 64 #[.pointer (some ⟨g, 0, none⟩)] w (DrawnOrd w g A len cap) := by
  have hlt := hr.lt
  have k0 := heap_alloc_new w (.cells #[.int .i64 0, .int .i64 0, .int .i64 0, .int .i64 0] 36)
  have hG : w.grownBy (w.alloc (.cells #[.int .i64 0, .int .i64 0, .int .i64 0, .int .i64 0] 36)) (some g) := only_alloc (World.grownBy.refl _ _) _
  replace hr := hr.alloc (.cells #[.int .i64 0, .int .i64 0, .int .i64 0, .int .i64 0] 36)
  go_enter Try.func64, Try.ntmps64
  go_wp2_with fail
  generalize w.alloc (.cells #[.int .i64 0, .int .i64 0, .int .i64 0, .int .i64 0] 36) = v0 at *
  refine (below_any 14 g A len cap _ _ hr (hs.keep hG (Nat.le_of_lt hlt)) hl (by omega) (by omega)).mono ?_
  rintro e v1 ⟨x1, p1, x10, x11, rfl, hr', hg'⟩
  replace k0 := (hg'.block w.heap.size (heap_lt' k0) (fun e => by injection e with e; omega)).trans k0
  replace hG := only_trans hG hg'
  replace hr := hr'
  clear hr' hg'
  go_wp2_with fail
  refine (below_any 3 g A len cap _ _ hr (hs.keep hG (Nat.le_of_lt hlt)) hl (by omega) (by omega)).mono ?_
  rintro e v2 ⟨x2, p2, x20, x21, rfl, hr', hg'⟩
  replace k0 := (hg'.block w.heap.size (heap_lt' k0) (fun e => by injection e with e; omega)).trans k0
  replace hG := only_trans hG hg'
  replace hr := hr'
  clear hr' hg'
  go_wp2_with fail
  refine (below_any 7 g A len cap _ _ hr (hs.keep hG (Nat.le_of_lt hlt)) hl (by omega) (by omega)).mono ?_
  rintro e v3 ⟨x3, p3, x30, x31, rfl, hr', hg'⟩
  replace k0 := (hg'.block w.heap.size (heap_lt' k0) (fun e => by injection e with e; omega)).trans k0
  replace hG := only_trans hG hg'
  replace hr := hr'
  clear hr' hg'
  go_wp2_with fail
  refine (below_any 9 g A len cap _ _ hr (hs.keep hG (Nat.le_of_lt hlt)) hl (by omega) (by omega)).mono ?_
  rintro e v4 ⟨x4, p4, x40, x41, rfl, hr', hg'⟩
  replace k0 := (hg'.block w.heap.size (heap_lt' k0) (fun e => by injection e with e; omega)).trans k0
  replace hG := only_trans hG hg'
  replace hr := hr'
  clear hr' hg'
  have kB := heap_alloc_new v4 (.cells #[.int .i64 (1 + x1), .int .i64 (1 + x2), .int .i64 (97 + x3), .int .i64 (1 + x4)] 36)
  have hGB : w.heap.size < v4.heap.size := heap_lt' k0
  have hgB : g < v4.heap.size := hr.lt
  replace k0 := (Below.heap_alloc v4 (.cells #[.int .i64 (1 + x1), .int .i64 (1 + x2), .int .i64 (97 + x3), .int .i64 (1 + x4)] 36) w.heap.size hGB).trans k0
  replace hG := only_alloc hG (.cells #[.int .i64 (1 + x1), .int .i64 (1 + x2), .int .i64 (97 + x3), .int .i64 (1 + x4)] 36)
  replace hr := hr.alloc (.cells #[.int .i64 (1 + x1), .int .i64 (1 + x2), .int .i64 (97 + x3), .int .i64 (1 + x4)] 36)
  go_wp2_with fail
  generalize v4.alloc (.cells #[.int .i64 (1 + x1), .int .i64 (1 + x2), .int .i64 (97 + x3), .int .i64 (1 + x4)] 36) = v4' at *
  generalize v4.heap.size = GB at *
  refine (below_any 40 g A len cap _ _ hr (hs.keep hG (Nat.le_of_lt hlt)) hl (by omega) (by omega)).mono ?_
  rintro e v5 ⟨x5, p5, x50, x51, rfl, hr', hg'⟩
  replace k0 := (hg'.block w.heap.size (heap_lt' k0) (fun e => by injection e with e; omega)).trans k0
  replace kB := (hg'.block GB (heap_lt' kB) (fun e => by injection e with e; omega)).trans kB
  replace hG := only_trans hG hg'
  replace hr := hr'
  clear hr' hg'
  rcases (show x5 = 38 ∨ x5 = 39 ∨ (x5 ≠ 38 ∧ x5 ≠ 39) from by omega) with rfl | rfl | ⟨h38, h39⟩
  · go_wp2_with fail
    refine (off_any 1 1000000 g A len cap _ _ hr (hs.keep hG (Nat.le_of_lt hlt)) hl (by omega) (by omega) (by omega)).mono ?_
    rintro e v6 ⟨y, p6, _, rfl, hr', hg'⟩
    replace k0 := (hg'.block w.heap.size (heap_lt' k0) (fun e => by injection e with e; omega)).trans k0
    replace kB := (hg'.block GB (heap_lt' kB) (fun e => by injection e with e; omega)).trans kB
    replace hG := only_trans hG hg'
    replace hr := hr'
    clear hr' hg'
    obtain ⟨c0, c1, c2, c3, f0, f1, f2, f3⟩ := ord_cell kB
    go_upto_region 7 with fail
    clear c0 c1 c2 c3 f0 f1 f2 f3
    replace kB := ord_set kB 2 (.int .i64 y)
    simp only [List.setIfInBounds_toArray, List.set_cons_zero, List.set_cons_succ] at kB
    replace k0 := (Below.heap_setCell v6 ⟨GB, 2, none⟩ (.int .i64 y) w.heap.size (show w.heap.size ≠ GB by omega)).trans k0
    replace hG := only_setCell hG (p := ⟨GB, 2, none⟩) (.inr (show w.heap.size ≤ GB by omega)) (.int .i64 y)
    replace hr : RdAt (v6.setCell ⟨GB, 2, none⟩ (.int .i64 y)) g A len cap p6 := ⟨hr.1, (Below.heap_setCell v6 ⟨GB, 2, none⟩ (.int .i64 y) g (show g ≠ GB by omega)).trans hr.2⟩
    generalize v6.setCell ⟨GB, 2, none⟩ (.int .i64 y) = v7 at *
    obtain ⟨c0, c1, c2, c3, _, _, _, _⟩ := ord_cell kB
    obtain ⟨d0, d1, d2, d3, f0, f1, f2, f3⟩ := ord_cell k0
    have R0 := Lib.hid k0
    have RB := Lib.hid hG
    have RR := Lib.hid hr
    clear kB k0 hG hr
    go_wp2_with fail
    have r0 := ord_put (u0 := .int .i64 (1 + x1)) (u1 := .int .i64 (1 + x2)) (u2 := .int .i64 y) (u3 := .int .i64 (1 + x4)) R0.out
    obtain ⟨e0, e1, e2, e3, _, _, _, _⟩ := ord_cell r0
    refine bodyPost_ret (v := .agg #[.int .i64 (1 + x1), .int .i64 (1 + x2), .int .i64 y, .int .i64 (1 + x4)]) (by simp [results, Try.results64, go_sem, e0, e1, e2, e3]) rfl ⟨(1 + x1), (1 + x2), y, (1 + x4), p6, rfl, ?_, ?_⟩
    · exact ⟨RR.out.1, ord_put_other (S := w.heap.size) RR.out.2 (by omega)⟩
    · exact only_setCell (only_setCell (only_setCell (only_setCell RB.out (p := ⟨w.heap.size, 0, none⟩) (.inr (Nat.le_refl _)) _) (p := ⟨w.heap.size, 1, none⟩) (.inr (Nat.le_refl _)) _) (p := ⟨w.heap.size, 2, none⟩) (.inr (Nat.le_refl _)) _) (p := ⟨w.heap.size, 3, none⟩) (.inr (Nat.le_refl _)) _
  · go_wp2_with fail
    refine (off_any 1 1000000 g A len cap _ _ hr (hs.keep hG (Nat.le_of_lt hlt)) hl (by omega) (by omega) (by omega)).mono ?_
    rintro e v6 ⟨y, p6, _, rfl, hr', hg'⟩
    replace k0 := (hg'.block w.heap.size (heap_lt' k0) (fun e => by injection e with e; omega)).trans k0
    replace kB := (hg'.block GB (heap_lt' kB) (fun e => by injection e with e; omega)).trans kB
    replace hG := only_trans hG hg'
    replace hr := hr'
    clear hr' hg'
    obtain ⟨c0, c1, c2, c3, f0, f1, f2, f3⟩ := ord_cell kB
    go_upto_region 7 with fail
    clear c0 c1 c2 c3 f0 f1 f2 f3
    replace kB := ord_set kB 3 (.int .i64 y)
    simp only [List.setIfInBounds_toArray, List.set_cons_zero, List.set_cons_succ] at kB
    replace k0 := (Below.heap_setCell v6 ⟨GB, 3, none⟩ (.int .i64 y) w.heap.size (show w.heap.size ≠ GB by omega)).trans k0
    replace hG := only_setCell hG (p := ⟨GB, 3, none⟩) (.inr (show w.heap.size ≤ GB by omega)) (.int .i64 y)
    replace hr : RdAt (v6.setCell ⟨GB, 3, none⟩ (.int .i64 y)) g A len cap p6 := ⟨hr.1, (Below.heap_setCell v6 ⟨GB, 3, none⟩ (.int .i64 y) g (show g ≠ GB by omega)).trans hr.2⟩
    generalize v6.setCell ⟨GB, 3, none⟩ (.int .i64 y) = v7 at *
    obtain ⟨c0, c1, c2, c3, _, _, _, _⟩ := ord_cell kB
    obtain ⟨d0, d1, d2, d3, f0, f1, f2, f3⟩ := ord_cell k0
    have R0 := Lib.hid k0
    have RB := Lib.hid hG
    have RR := Lib.hid hr
    clear kB k0 hG hr
    go_wp2_with fail
    have r0 := ord_put (u0 := .int .i64 (1 + x1)) (u1 := .int .i64 (1 + x2)) (u2 := .int .i64 (97 + x3)) (u3 := .int .i64 y) R0.out
    obtain ⟨e0, e1, e2, e3, _, _, _, _⟩ := ord_cell r0
    refine bodyPost_ret (v := .agg #[.int .i64 (1 + x1), .int .i64 (1 + x2), .int .i64 (97 + x3), .int .i64 y]) (by simp [results, Try.results64, go_sem, e0, e1, e2, e3]) rfl ⟨(1 + x1), (1 + x2), (97 + x3), y, p6, rfl, ?_, ?_⟩
    · exact ⟨RR.out.1, ord_put_other (S := w.heap.size) RR.out.2 (by omega)⟩
    · exact only_setCell (only_setCell (only_setCell (only_setCell RB.out (p := ⟨w.heap.size, 0, none⟩) (.inr (Nat.le_refl _)) _) (p := ⟨w.heap.size, 1, none⟩) (.inr (Nat.le_refl _)) _) (p := ⟨w.heap.size, 2, none⟩) (.inr (Nat.le_refl _)) _) (p := ⟨w.heap.size, 3, none⟩) (.inr (Nat.le_refl _)) _
  · have z0 : (x5 == 38) = false := beq_eq_false_iff_ne.2 h38
    have z1 : (x5 == 39) = false := beq_eq_false_iff_ne.2 h39
    obtain ⟨c0, c1, c2, c3, _, _, _, _⟩ := ord_cell kB
    obtain ⟨d0, d1, d2, d3, f0, f1, f2, f3⟩ := ord_cell k0
    have R0 := Lib.hid k0
    have RB := Lib.hid hG
    have RR := Lib.hid hr
    clear kB k0 hG hr
    go_wp2_with fail
    have r0 := ord_put (u0 := .int .i64 (1 + x1)) (u1 := .int .i64 (1 + x2)) (u2 := .int .i64 (97 + x3)) (u3 := .int .i64 (1 + x4)) R0.out
    obtain ⟨e0, e1, e2, e3, _, _, _, _⟩ := ord_cell r0
    refine bodyPost_ret (v := .agg #[.int .i64 (1 + x1), .int .i64 (1 + x2), .int .i64 (97 + x3), .int .i64 (1 + x4)]) (by simp [results, Try.results64, go_sem, e0, e1, e2, e3]) rfl ⟨(1 + x1), (1 + x2), (97 + x3), (1 + x4), p5, rfl, ?_, ?_⟩
    · exact ⟨RR.out.1, ord_put_other (S := w.heap.size) RR.out.2 (by omega)⟩
    · exact only_setCell (only_setCell (only_setCell (only_setCell RB.out (p := ⟨w.heap.size, 0, none⟩) (.inr (Nat.le_refl _)) _) (p := ⟨w.heap.size, 1, none⟩) (.inr (Nat.le_refl _)) _) (p := ⟨w.heap.size, 2, none⟩) (.inr (Nat.le_refl _)) _) (p := ⟨w.heap.size, 3, none⟩) (.inr (Nat.le_refl _)) _
end Go.Proofs.Ytnldfbcelakimaa
