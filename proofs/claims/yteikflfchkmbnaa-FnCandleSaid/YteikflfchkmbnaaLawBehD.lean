/-
  The drawn law of Behind.
-/
import Derived.Test.YteikflfchkmbnaaDrawBeh
import Derived.Test.YteikflfchkmbnaaLawInts
namespace Go.Proofs.Yteikflfchkmbnaa
open Go.RowKit Wire

def jnF (fa fb : Nat → Int) (j : Nat) : Int := match j with
  | 0 => fa 0 | 1 => max (fa 1) (fb 1) | 2 => min (fa 2) (fb 2) | 3 => fb 3 | 4 => wrap64 (fa 4 + fb 4) | _ => wrap64 (fa 5 + fb 5)
def okF (f : Nat → Int) : Bool := cdlB (f 0) (f 1) (f 2) (f 3) (f 4) (f 5)
def zF (_ : Nat) : Int := 0
theorem beh_yes {fa fb : Nat → Int} (h : behB (fa 0) (fa 1) (fa 2) (fa 3) (fa 4) (fa 5) (fb 0) (fb 1) (fb 2) (fb 3) (fb 4) (fb 5) = true) : behV (fa 0) (fa 1) (fa 2) (fa 3) (fa 4) (fa 5) (fb 0) (fb 1) (fb 2) (fb 3) (fb 4) (fb 5) = .tuple #[.agg #[.int .i64 (jnF fa fb 0), .int .i64 (jnF fa fb 1), .int .i64 (jnF fa fb 2), .int .i64 (jnF fa fb 3), .int .i64 (jnF fa fb 4), .int .i64 (jnF fa fb 5)], .bool true] := behV_yes h
theorem beh_no {fa fb : Nat → Int} (h : behB (fa 0) (fa 1) (fa 2) (fa 3) (fa 4) (fa 5) (fb 0) (fb 1) (fb 2) (fb 3) (fb 4) (fb 5) = false) : behV (fa 0) (fa 1) (fa 2) (fa 3) (fa 4) (fa 5) (fb 0) (fb 1) (fb 2) (fb 3) (fb 4) (fb 5) = .tuple #[.agg #[.int .i64 (zF 0), .int .i64 (zF 1), .int .i64 (zF 2), .int .i64 (zF 3), .int .i64 (zF 4), .int .i64 (zF 5)], .bool false] := behV_no h
theorem beh_split (fa fb : Nat → Int) : behB (fa 0) (fa 1) (fa 2) (fa 3) (fa 4) (fa 5) (fb 0) (fb 1) (fb 2) (fb 3) (fb 4) (fb 5) = (okF fa && (okF fb && okF (jnF fa fb))) := rfl
theorem ok_iff {f : Nat → Int} : okF f = true ↔ CdlOk (f 0) (f 1) (f 2) (f 3) (f 4) (f 5) := cdl_iff
theorem beh_all {fa fb : Nat → Int} (hGa : Gd fa) (hGb : Gd fb) (h : behB (fa 0) (fa 1) (fa 2) (fa 3) (fa 4) (fa 5) (fb 0) (fb 1) (fb 2) (fb 3) (fb 4) (fb 5) = true) : ∃ fc fx fy : Nat → Int,
    Hid (behV (fa 0) (fa 1) (fa 2) (fa 3) (fa 4) (fa 5) (fb 0) (fb 1) (fb 2) (fb 3) (fb 4) (fb 5) = .tuple #[.agg #[.int .i64 (fc 0), .int .i64 (fc 1), .int .i64 (fc 2), .int .i64 (fc 3), .int .i64 (fc 4), .int .i64 (fc 5)], .bool true]) ∧ Hid (behV (fc 0) (fc 1) (fc 2) (fc 3) (fc 4) (fc 5) (fa 0) (fa 1) (fa 2) (fa 3) (fa 4) (fa 5) = .tuple #[.agg #[.int .i64 (fx 0), .int .i64 (fx 1), .int .i64 (fx 2), .int .i64 (fx 3), .int .i64 (fx 4), .int .i64 (fx 5)], .bool true]) ∧
    Hid (behV (fb 0) (fb 1) (fb 2) (fb 3) (fb 4) (fb 5) (fa 0) (fa 1) (fa 2) (fa 3) (fa 4) (fa 5) = .tuple #[.agg #[.int .i64 (fy 0), .int .i64 (fy 1), .int .i64 (fy 2), .int .i64 (fy 3), .int .i64 (fy 4), .int .i64 (fy 5)], .bool true]) ∧ Hid (behV (fa 0) (fa 1) (fa 2) (fa 3) (fa 4) (fa 5) (fy 0) (fy 1) (fy 2) (fy 3) (fy 4) (fy 5) = .tuple #[.agg #[.int .i64 (fx 0), .int .i64 (fx 1), .int .i64 (fx 2), .int .i64 (fx 3), .int .i64 (fx 4), .int .i64 (fx 5)], .bool true]) ∧
    Hid (cdlB (fc 0) (fc 1) (fc 2) (fc 3) (fc 4) (fc 5) = true) ∧ fa 1 ≤ fc 1 ∧ fc 2 ≤ fb 2 := by
  have hs := h
  rw [beh_split] at hs
  simp only [Bool.and_eq_true] at hs
  obtain ⟨ha, hb, hc⟩ := hs
  have qa := hGa ha
  have qb := hGb hb
  have ka := ok_iff.1 ha
  have kb := ok_iff.1 hb
  have kc := ok_iff.1 hc
  have ea := ka.q1
  have eb := kb.q1
  have za := ka.zM
  have zb := kb.zM
  have w1 : wrap64 (fa 4 + fb 4) = fa 4 + fb 4 := w64 _ (by omega) (by omega)
  have w2 : wrap64 (fb 4 + fa 4) = fb 4 + fa 4 := w64 _ (by omega) (by omega)
  have w3 : wrap64 (fa 5 + fb 5) = fa 5 + fb 5 := w64 _ (by omega) (by omega)
  have w4 : wrap64 (fb 5 + fa 5) = fb 5 + fa 5 := w64 _ (by omega) (by omega)
  have kx : CdlOk ((jnF (jnF fa fb) fa) 0) ((jnF (jnF fa fb) fa) 1) ((jnF (jnF fa fb) fa) 2) ((jnF (jnF fa fb) fa) 3) ((jnF (jnF fa fb) fa) 4) ((jnF (jnF fa fb) fa) 5) := CdlOk.join kc ka (by show wrap64 (fa 4 + fb 4) + fa 4 ≤ _; omega)
  have ky : CdlOk ((jnF fb fa) 0) ((jnF fb fa) 1) ((jnF fb fa) 2) ((jnF fb fa) 3) ((jnF fb fa) 4) ((jnF fb fa) 5) := CdlOk.join kb ka (by omega)
  have kz : CdlOk ((jnF fa (jnF fb fa)) 0) ((jnF fa (jnF fb fa)) 1) ((jnF fa (jnF fb fa)) 2) ((jnF fa (jnF fb fa)) 3) ((jnF fa (jnF fb fa)) 4) ((jnF fa (jnF fb fa)) 5) := CdlOk.join ka ky (by show fa 4 + wrap64 (fb 4 + fa 4) ≤ _; omega)
  have e : ∀ j, jnF fa (jnF fb fa) j = jnF (jnF fa fb) fa j := by
    intro j
    match j with
    | 0 => rfl
    | 1 => show max (fa 1) (max (fb 1) (fa 1)) = max (max (fa 1) (fb 1)) (fa 1); omega
    | 2 => show min (fa 2) (min (fb 2) (fa 2)) = min (min (fa 2) (fb 2)) (fa 2); omega
    | 3 => rfl
    | 4 => show wrap64 (fa 4 + wrap64 (fb 4 + fa 4)) = wrap64 (wrap64 (fa 4 + fb 4) + fa 4); rw [w1, w2]; congr 1; omega
    | _ + 5 => show wrap64 (fa 5 + wrap64 (fb 5 + fa 5)) = wrap64 (wrap64 (fa 5 + fb 5) + fa 5); rw [w3, w4]; congr 1; omega
  refine ⟨jnF fa fb, jnF (jnF fa fb) fa, jnF fb fa, beh_yes h, beh_yes ?_, beh_yes ?_, ?_, hc, ?_, ?_⟩
  · rw [beh_split, hc, ha, ok_iff.2 kx]; rfl
  · rw [beh_split, hb, ha, ok_iff.2 ky]; rfl
  · have h2 : behB (fa 0) (fa 1) (fa 2) (fa 3) (fa 4) (fa 5) ((jnF fb fa) 0) ((jnF fb fa) 1) ((jnF fb fa) 2) ((jnF fb fa) 3) ((jnF fb fa) 4) ((jnF fb fa) 5) = true := by rw [beh_split, ha, ok_iff.2 ky, ok_iff.2 kz]; rfl
    show _ = _
    rw [beh_yes h2, e 0, e 1, e 2, e 3, e 4, e 5]
  · show fa 1 ≤ max (fa 1) (fb 1); omega
  · show min (fa 2) (fb 2) ≤ fb 2; omega
set_option linter.unusedSimpArgs false in
set_option maxHeartbeats 3200000 in
set_option maxRecDepth 100000 in
theorem law_BehindD (A : Option Addr) (len cap : Nat) (ys : List Int) (w : World) (hrow : IsRow .u8 w A len cap ys) :
    Calls Try.prog 7 #[.slice A len cap] w fun e w' => e = .returned (.bool true) ∧ Below w.heap.size w w' := by
  have hs := src_of_row hrow
  have hl := row_len hrow
  clear hrow
  by_cases hbig : 1048576 < len
  · go_enter Try.func7, Try.ntmps7
    go_wp2_with (go_at_call 11; go_in)
    go_ret
    exact ⟨rfl, Below.refl _ _⟩
  go_enter Try.func7, Try.ntmps7
  go_wp2_with (go_at_call 11; go_in)
  refine (DrawBehind_any A len cap _ hs hl).mono ?_
  rintro e w1 ⟨fa, fb, hGa, hGb, rfl, hb1⟩
  obtain ⟨kA, kB⟩ := two_blocks w1 (.cells #[.int .i64 (fa 0), .int .i64 (fa 1), .int .i64 (fa 2), .int .i64 (fa 3), .int .i64 (fa 4), .int .i64 (fa 5)] 44) (.cells #[.int .i64 (fb 0), .int .i64 (fb 1), .int .i64 (fb 2), .int .i64 (fb 3), .int .i64 (fb 4), .int .i64 (fb 5)] 44)
  have hBel : Below w.heap.size w ((w1.alloc (.cells #[.int .i64 (fa 0), .int .i64 (fa 1), .int .i64 (fa 2), .int .i64 (fa 3), .int .i64 (fa 4), .int .i64 (fa 5)] 44)).alloc (.cells #[.int .i64 (fb 0), .int .i64 (fb 1), .int .i64 (fb 2), .int .i64 (fb 3), .int .i64 (fb 4), .int .i64 (fb 5)] 44)) := (hb1.alloc hb1.size _).alloc (by have := hb1.size; simp; omega) _
  go_wp2_with fail
  generalize (w1.alloc (.cells #[.int .i64 (fa 0), .int .i64 (fa 1), .int .i64 (fa 2), .int .i64 (fa 3), .int .i64 (fa 4), .int .i64 (fa 5)] 44)).alloc (.cells #[.int .i64 (fb 0), .int .i64 (fb 1), .int .i64 (fb 2), .int .i64 (fb 3), .int .i64 (fb 4), .int .i64 (fb 5)] 44) = W1 at *
  generalize w1.heap.size = GA at *
  clear hb1
  refine (impl_Behind (fa 0) (fa 1) (fa 2) (fa 3) (fa 4) (fa 5) (fb 0) (fb 1) (fb 2) (fb 3) (fb 4) (fb 5) _).mono ?_
  rcases Bool.eq_false_or_eq_true (behB (fa 0) (fa 1) (fa 2) (fa 3) (fa 4) (fa 5) (fb 0) (fb 1) (fb 2) (fb 3) (fb 4) (fb 5)) with hb | hb
  rotate_left
  · rw [beh_no hb]
    rintro e w2 ⟨rfl, hb2⟩
    have hbx2 := hb2.alloc hb2.size (.cells #[.int .i64 (zF 0), .int .i64 (zF 1), .int .i64 (zF 2), .int .i64 (zF 3), .int .i64 (zF 4), .int .i64 (zF 5)] 44)
    replace kA := (hbx2.block GA (heap_lt' kA)).trans kA
    replace kB := (hbx2.block (GA + 1) (heap_lt' kB)).trans kB
    have kGC := heap_alloc_new w2 (.cells #[.int .i64 (zF 0), .int .i64 (zF 1), .int .i64 (zF 2), .int .i64 (zF 3), .int .i64 (zF 4), .int .i64 (zF 5)] 44)
    replace hBel := below_later hBel hbx2
    clear hb2 hbx2
    obtain ⟨c0, c1, c2, c3, c4, c5⟩ := cell6 kA
    obtain ⟨d0, d1, d2, d3, d4, d5⟩ := cell6 kB
    go_wp2_with fail
    generalize w2.alloc (.cells #[.int .i64 (zF 0), .int .i64 (zF 1), .int .i64 (zF 2), .int .i64 (zF 3), .int .i64 (zF 4), .int .i64 (zF 5)] 44) = W2 at *
    generalize w2.heap.size = GC at *
    clear c0 c1 c2 c3 c4 c5
    clear d0 d1 d2 d3 d4 d5
    refine (spec_Behind (fa 0) (fa 1) (fa 2) (fa 3) (fa 4) (fa 5) (fb 0) (fb 1) (fb 2) (fb 3) (fb 4) (fb 5) _).mono ?_
    rw [beh_no hb]
    rintro e w3 ⟨rfl, hb3⟩
    have hbx3 := hb3.alloc hb3.size (.cells #[.int .i64 (zF 0), .int .i64 (zF 1), .int .i64 (zF 2), .int .i64 (zF 3), .int .i64 (zF 4), .int .i64 (zF 5)] 44)
    replace kA := (hbx3.block GA (heap_lt' kA)).trans kA
    replace kB := (hbx3.block (GA + 1) (heap_lt' kB)).trans kB
    replace kGC := (hbx3.block GC (heap_lt' kGC)).trans kGC
    have kGD := heap_alloc_new w3 (.cells #[.int .i64 (zF 0), .int .i64 (zF 1), .int .i64 (zF 2), .int .i64 (zF 3), .int .i64 (zF 4), .int .i64 (zF 5)] 44)
    replace hBel := below_later hBel hbx3
    clear hb3 hbx3
    obtain ⟨c0, c1, c2, c3, c4, c5⟩ := cell6 kGC
    obtain ⟨d0, d1, d2, d3, d4, d5⟩ := cell6 kGD
    go_wp2_with fail
    go_ret
    exact ⟨by first | rfl | simp, hBel⟩
  · obtain ⟨fc, fx, fy, H1, H2, H3, H4, H5, H6, H7⟩ := beh_all hGa hGb hb
    clear hGa hGb hb
    rw [H1.out]
    rintro e w2 ⟨rfl, hb2⟩
    have hbx2 := hb2.alloc hb2.size (.cells #[.int .i64 (fc 0), .int .i64 (fc 1), .int .i64 (fc 2), .int .i64 (fc 3), .int .i64 (fc 4), .int .i64 (fc 5)] 44)
    replace kA := (hbx2.block GA (heap_lt' kA)).trans kA
    replace kB := (hbx2.block (GA + 1) (heap_lt' kB)).trans kB
    have kGC := heap_alloc_new w2 (.cells #[.int .i64 (fc 0), .int .i64 (fc 1), .int .i64 (fc 2), .int .i64 (fc 3), .int .i64 (fc 4), .int .i64 (fc 5)] 44)
    replace hBel := below_later hBel hbx2
    clear hb2 hbx2
    obtain ⟨c0, c1, c2, c3, c4, c5⟩ := cell6 kA
    obtain ⟨d0, d1, d2, d3, d4, d5⟩ := cell6 kB
    go_wp2_with fail
    generalize w2.alloc (.cells #[.int .i64 (fc 0), .int .i64 (fc 1), .int .i64 (fc 2), .int .i64 (fc 3), .int .i64 (fc 4), .int .i64 (fc 5)] 44) = W2 at *
    generalize w2.heap.size = GC at *
    clear c0 c1 c2 c3 c4 c5
    clear d0 d1 d2 d3 d4 d5
    refine (spec_Behind (fa 0) (fa 1) (fa 2) (fa 3) (fa 4) (fa 5) (fb 0) (fb 1) (fb 2) (fb 3) (fb 4) (fb 5) _).mono ?_
    rw [H1.out]
    rintro e w3 ⟨rfl, hb3⟩
    have hbx3 := hb3.alloc hb3.size (.cells #[.int .i64 (fc 0), .int .i64 (fc 1), .int .i64 (fc 2), .int .i64 (fc 3), .int .i64 (fc 4), .int .i64 (fc 5)] 44)
    replace kA := (hbx3.block GA (heap_lt' kA)).trans kA
    replace kB := (hbx3.block (GA + 1) (heap_lt' kB)).trans kB
    replace kGC := (hbx3.block GC (heap_lt' kGC)).trans kGC
    have kGD := heap_alloc_new w3 (.cells #[.int .i64 (fc 0), .int .i64 (fc 1), .int .i64 (fc 2), .int .i64 (fc 3), .int .i64 (fc 4), .int .i64 (fc 5)] 44)
    replace hBel := below_later hBel hbx3
    clear hb3 hbx3
    obtain ⟨c0, c1, c2, c3, c4, c5⟩ := cell6 kGC
    obtain ⟨d0, d1, d2, d3, d4, d5⟩ := cell6 kGD
    obtain ⟨g0, g1, g2, g3, g4, g5⟩ := cell6 kA
    go_wp2_with fail
    generalize w3.alloc (.cells #[.int .i64 (fc 0), .int .i64 (fc 1), .int .i64 (fc 2), .int .i64 (fc 3), .int .i64 (fc 4), .int .i64 (fc 5)] 44) = W3 at *
    generalize w3.heap.size = GD at *
    clear c0 c1 c2 c3 c4 c5
    clear d0 d1 d2 d3 d4 d5
    clear g0 g1 g2 g3 g4 g5
    refine (impl_Behind (fc 0) (fc 1) (fc 2) (fc 3) (fc 4) (fc 5) (fa 0) (fa 1) (fa 2) (fa 3) (fa 4) (fa 5) _).mono ?_
    rw [H2.out]
    rintro e w4 ⟨rfl, hb4⟩
    have hbx4 := hb4.alloc hb4.size (.cells #[.int .i64 (fx 0), .int .i64 (fx 1), .int .i64 (fx 2), .int .i64 (fx 3), .int .i64 (fx 4), .int .i64 (fx 5)] 44)
    replace kA := (hbx4.block GA (heap_lt' kA)).trans kA
    replace kB := (hbx4.block (GA + 1) (heap_lt' kB)).trans kB
    replace kGC := (hbx4.block GC (heap_lt' kGC)).trans kGC
    replace kGD := (hbx4.block GD (heap_lt' kGD)).trans kGD
    have kGX := heap_alloc_new w4 (.cells #[.int .i64 (fx 0), .int .i64 (fx 1), .int .i64 (fx 2), .int .i64 (fx 3), .int .i64 (fx 4), .int .i64 (fx 5)] 44)
    replace hBel := below_later hBel hbx4
    clear hb4 hbx4
    obtain ⟨c0, c1, c2, c3, c4, c5⟩ := cell6 kB
    obtain ⟨d0, d1, d2, d3, d4, d5⟩ := cell6 kA
    go_wp2_with fail
    generalize w4.alloc (.cells #[.int .i64 (fx 0), .int .i64 (fx 1), .int .i64 (fx 2), .int .i64 (fx 3), .int .i64 (fx 4), .int .i64 (fx 5)] 44) = W4 at *
    generalize w4.heap.size = GX at *
    clear c0 c1 c2 c3 c4 c5
    clear d0 d1 d2 d3 d4 d5
    refine (impl_Behind (fb 0) (fb 1) (fb 2) (fb 3) (fb 4) (fb 5) (fa 0) (fa 1) (fa 2) (fa 3) (fa 4) (fa 5) _).mono ?_
    rw [H3.out]
    rintro e w5 ⟨rfl, hb5⟩
    have hbx5 := hb5.alloc hb5.size (.cells #[.int .i64 (fy 0), .int .i64 (fy 1), .int .i64 (fy 2), .int .i64 (fy 3), .int .i64 (fy 4), .int .i64 (fy 5)] 44)
    replace kA := (hbx5.block GA (heap_lt' kA)).trans kA
    replace kB := (hbx5.block (GA + 1) (heap_lt' kB)).trans kB
    replace kGC := (hbx5.block GC (heap_lt' kGC)).trans kGC
    replace kGD := (hbx5.block GD (heap_lt' kGD)).trans kGD
    replace kGX := (hbx5.block GX (heap_lt' kGX)).trans kGX
    have kGY := heap_alloc_new w5 (.cells #[.int .i64 (fy 0), .int .i64 (fy 1), .int .i64 (fy 2), .int .i64 (fy 3), .int .i64 (fy 4), .int .i64 (fy 5)] 44)
    replace hBel := below_later hBel hbx5
    clear hb5 hbx5
    obtain ⟨c0, c1, c2, c3, c4, c5⟩ := cell6 kA
    obtain ⟨d0, d1, d2, d3, d4, d5⟩ := cell6 kGY
    go_wp2_with fail
    generalize w5.alloc (.cells #[.int .i64 (fy 0), .int .i64 (fy 1), .int .i64 (fy 2), .int .i64 (fy 3), .int .i64 (fy 4), .int .i64 (fy 5)] 44) = W5 at *
    generalize w5.heap.size = GY at *
    clear c0 c1 c2 c3 c4 c5
    clear d0 d1 d2 d3 d4 d5
    refine (impl_Behind (fa 0) (fa 1) (fa 2) (fa 3) (fa 4) (fa 5) (fy 0) (fy 1) (fy 2) (fy 3) (fy 4) (fy 5) _).mono ?_
    rw [H4.out]
    rintro e w6 ⟨rfl, hb6⟩
    have hbx6 := hb6.alloc hb6.size (.cells #[.int .i64 (fx 0), .int .i64 (fx 1), .int .i64 (fx 2), .int .i64 (fx 3), .int .i64 (fx 4), .int .i64 (fx 5)] 44)
    replace kA := (hbx6.block GA (heap_lt' kA)).trans kA
    replace kB := (hbx6.block (GA + 1) (heap_lt' kB)).trans kB
    replace kGC := (hbx6.block GC (heap_lt' kGC)).trans kGC
    replace kGD := (hbx6.block GD (heap_lt' kGD)).trans kGD
    replace kGX := (hbx6.block GX (heap_lt' kGX)).trans kGX
    replace kGY := (hbx6.block GY (heap_lt' kGY)).trans kGY
    have kGZ := heap_alloc_new w6 (.cells #[.int .i64 (fx 0), .int .i64 (fx 1), .int .i64 (fx 2), .int .i64 (fx 3), .int .i64 (fx 4), .int .i64 (fx 5)] 44)
    replace hBel := below_later hBel hbx6
    clear hb6 hbx6
    obtain ⟨c0, c1, c2, c3, c4, c5⟩ := cell6 kGC
    go_wp2_with fail
    generalize w6.alloc (.cells #[.int .i64 (fx 0), .int .i64 (fx 1), .int .i64 (fx 2), .int .i64 (fx 3), .int .i64 (fx 4), .int .i64 (fx 5)] 44) = W6 at *
    generalize w6.heap.size = GZ at *
    clear c0 c1 c2 c3 c4 c5
    refine (impl_CandleOk (fc 0) (fc 1) (fc 2) (fc 3) (fc 4) (fc 5) _).mono ?_
    rw [show cdlB (fc 0) (fc 1) (fc 2) (fc 3) (fc 4) (fc 5) = true from H5.out]
    rintro e w7 ⟨rfl, hb7⟩
    replace kA := (hb7.block GA (heap_lt' kA)).trans kA
    replace kB := (hb7.block (GA + 1) (heap_lt' kB)).trans kB
    replace kGC := (hb7.block GC (heap_lt' kGC)).trans kGC
    replace kGD := (hb7.block GD (heap_lt' kGD)).trans kGD
    replace kGX := (hb7.block GX (heap_lt' kGX)).trans kGX
    replace kGY := (hb7.block GY (heap_lt' kGY)).trans kGY
    replace kGZ := (hb7.block GZ (heap_lt' kGZ)).trans kGZ
    replace hBel := below_later hBel hb7
    clear hb7
    obtain ⟨c0, c1, c2, c3, c4, c5⟩ := cell6 kGX
    obtain ⟨d0, d1, d2, d3, d4, d5⟩ := cell6 kGZ
    obtain ⟨g0, g1, g2, g3, g4, g5⟩ := cell6 kGC
    obtain ⟨m0, m1, m2, m3, m4, m5⟩ := cell6 kA
    obtain ⟨r0, r1, r2, r3, r4, r5⟩ := cell6 kB
    go_wp2_with fail
    go_ret
    exact ⟨by first | rfl | simp, hBel⟩
end Go.Proofs.Yteikflfchkmbnaa
