/-
  Two candles, one behind the other, in both programs.
-/
import Derived.Test.YteikflfchkmbnaaCdl
namespace Go.Proofs.Yteikflfchkmbnaa
open Go.RowKit Wire

theorem cell6 {w : World} {S : Nat} {a b c d e f : Value} {T : TypeId} (h : w.heap[S]? = some (.cells #[a, b, c, d, e, f] T (0, 0))) : w.cell? ⟨S, 0, none⟩ = some a ∧ w.cell? ⟨S, 1, none⟩ = some b ∧ w.cell? ⟨S, 2, none⟩ = some c ∧ w.cell? ⟨S, 3, none⟩ = some d ∧ w.cell? ⟨S, 4, none⟩ = some e ∧ w.cell? ⟨S, 5, none⟩ = some f := by
  refine ⟨?_, ?_, ?_, ?_, ?_, ?_⟩ <;> simp [World.cell?, h]
theorem free6 {w : World} {S : Nat} {a b c d e f : Value} {T : TypeId} (h : w.heap[S]? = some (.cells #[a, b, c, d, e, f] T (0, 0))) : w.frozen? ⟨S, 0, none⟩ = false ∧ w.frozen? ⟨S, 1, none⟩ = false ∧ w.frozen? ⟨S, 2, none⟩ = false ∧ w.frozen? ⟨S, 3, none⟩ = false ∧ w.frozen? ⟨S, 4, none⟩ = false ∧ w.frozen? ⟨S, 5, none⟩ = false := by
  refine ⟨?_, ?_, ?_, ?_, ?_, ?_⟩ <;> simp [World.frozen?, h]
theorem put6 {w : World} {S : Nat} {a b c d e f u0 u1 u2 u3 u4 u5 : Value} {T : TypeId} (h : w.heap[S]? = some (.cells #[a, b, c, d, e, f] T (0, 0))) :
    ((((((w.setCell ⟨S, 0, none⟩ u0).setCell ⟨S, 1, none⟩ u1).setCell ⟨S, 2, none⟩ u2).setCell ⟨S, 3, none⟩ u3).setCell ⟨S, 4, none⟩ u4).setCell ⟨S, 5, none⟩ u5).heap[S]? = some (.cells #[u0, u1, u2, u3, u4, u5] T (0, 0)) := by
  simp [World.setCell, Array.getElem?_modify, h]
theorem below6 {B : Nat} {a w : World} (h : Below B a w) {S : Nat} (hS : B ≤ S) (u0 u1 u2 u3 u4 u5 : Value) :
    Below B a ((((((w.setCell ⟨S, 0, none⟩ u0).setCell ⟨S, 1, none⟩ u1).setCell ⟨S, 2, none⟩ u2).setCell ⟨S, 3, none⟩ u3).setCell ⟨S, 4, none⟩ u4).setCell ⟨S, 5, none⟩ u5) :=
  (((((h.setCell (p := ⟨S, 0, none⟩) hS _).setCell (p := ⟨S, 1, none⟩) hS _).setCell (p := ⟨S, 2, none⟩) hS _).setCell (p := ⟨S, 3, none⟩) hS _).setCell (p := ⟨S, 4, none⟩) hS _).setCell (p := ⟨S, 5, none⟩) hS _
set_option maxHeartbeats 800000 in
set_option maxRecDepth 100000 in
theorem impl_joined (o h l c q z o' h' l' c' q' z' : Int) (w : World) :
    Calls Try.prog 66 #[.agg #[.int .i64 o, .int .i64 h, .int .i64 l, .int .i64 c, .int .i64 q, .int .i64 z], .agg #[.int .i64 o', .int .i64 h', .int .i64 l', .int .i64 c', .int .i64 q', .int .i64 z']] w
      fun x w' => x = .returned (.agg #[.int .i64 o, .int .i64 (max h h'), .int .i64 (min l l'), .int .i64 c', .int .i64 (wrap64 (q + q')), .int .i64 (wrap64 (z + z'))]) ∧ Below w.heap.size w w' := by
  rcases (show h < h' ∨ h' ≤ h by omega) with hh | hh <;> rcases (show l' < l ∨ l ≤ l' by omega) with hl | hl
  · rw [show max h h' = h' by omega, show min l l' = l' by omega]
    go_enter Try.func66, Try.ntmps66
    go_wp2
    refine bodyPost_ret (v := .agg #[.int .i64 o, .int .i64 h', .int .i64 l', .int .i64 c', .int .i64 (wrap64 (q + q')), .int .i64 (wrap64 (z + z'))]) (by simp [results, Try.results66, go_sem]) rfl ⟨rfl, ?_⟩
    go_grown
  · rw [show max h h' = h' by omega, show min l l' = l by omega]
    go_enter Try.func66, Try.ntmps66
    go_wp2
    refine bodyPost_ret (v := .agg #[.int .i64 o, .int .i64 h', .int .i64 l, .int .i64 c', .int .i64 (wrap64 (q + q')), .int .i64 (wrap64 (z + z'))]) (by simp [results, Try.results66, go_sem]) rfl ⟨rfl, ?_⟩
    go_grown
  · rw [show max h h' = h by omega, show min l l' = l' by omega]
    go_enter Try.func66, Try.ntmps66
    go_wp2
    refine bodyPost_ret (v := .agg #[.int .i64 o, .int .i64 h, .int .i64 l', .int .i64 c', .int .i64 (wrap64 (q + q')), .int .i64 (wrap64 (z + z'))]) (by simp [results, Try.results66, go_sem]) rfl ⟨rfl, ?_⟩
    go_grown
  · rw [show max h h' = h by omega, show min l l' = l by omega]
    go_enter Try.func66, Try.ntmps66
    go_wp2
    refine bodyPost_ret (v := .agg #[.int .i64 o, .int .i64 h, .int .i64 l, .int .i64 c', .int .i64 (wrap64 (q + q')), .int .i64 (wrap64 (z + z'))]) (by simp [results, Try.results66, go_sem]) rfl ⟨rfl, ?_⟩
    go_grown
/-- what both programs answer: the joined candle where all three are right -/
def behB (o h l c q z o' h' l' c' q' z' : Int) : Bool := cdlB o h l c q z && (cdlB o' h' l' c' q' z' && cdlB o (max h h') (min l l') c' (wrap64 (q + q')) (wrap64 (z + z')))
def behN (b : Bool) (x : Int) : Int := if b = true then x else 0
def behV (o h l c q z o' h' l' c' q' z' : Int) : Value := .tuple #[.agg #[.int .i64 (behN (behB o h l c q z o' h' l' c' q' z') o), .int .i64 (behN (behB o h l c q z o' h' l' c' q' z') (max h h')), .int .i64 (behN (behB o h l c q z o' h' l' c' q' z') (min l l')), .int .i64 (behN (behB o h l c q z o' h' l' c' q' z') c'), .int .i64 (behN (behB o h l c q z o' h' l' c' q' z') (wrap64 (q + q'))), .int .i64 (behN (behB o h l c q z o' h' l' c' q' z') (wrap64 (z + z')))], .bool (behB o h l c q z o' h' l' c' q' z')]
theorem behV_no {o h l c q z o' h' l' c' q' z' : Int} (h0 : behB o h l c q z o' h' l' c' q' z' = false) : behV o h l c q z o' h' l' c' q' z' = .tuple #[.agg #[.int .i64 0, .int .i64 0, .int .i64 0, .int .i64 0, .int .i64 0, .int .i64 0], .bool false] := by
  simp [behV, behN, h0]
theorem behV_yes {o h l c q z o' h' l' c' q' z' : Int} (h0 : behB o h l c q z o' h' l' c' q' z' = true) : behV o h l c q z o' h' l' c' q' z' = .tuple #[.agg #[.int .i64 o, .int .i64 (max h h'), .int .i64 (min l l'), .int .i64 c', .int .i64 (wrap64 (q + q')), .int .i64 (wrap64 (z + z'))], .bool true] := by
  simp [behV, behN, h0]
set_option maxHeartbeats 1600000 in
set_option maxRecDepth 100000 in
theorem impl_Behind (o h l c q z o' h' l' c' q' z' : Int) (w : World) :
    Calls Try.prog 29 #[.agg #[.int .i64 o, .int .i64 h, .int .i64 l, .int .i64 c, .int .i64 q, .int .i64 z], .agg #[.int .i64 o', .int .i64 h', .int .i64 l', .int .i64 c', .int .i64 q', .int .i64 z']] w
      fun x w' => x = .returned (behV o h l c q z o' h' l' c' q' z') ∧ Below w.heap.size w w' := by
  obtain ⟨b0, b1, b2⟩ := three_blocks w (.cells #[.int .i64 o, .int .i64 h, .int .i64 l, .int .i64 c, .int .i64 q, .int .i64 z] 44) (.cells #[.int .i64 o', .int .i64 h', .int .i64 l', .int .i64 c', .int .i64 q', .int .i64 z'] 44) (.cells #[.int .i64 0, .int .i64 0, .int .i64 0, .int .i64 0, .int .i64 0, .int .i64 0] 44)
  have hb0 : Below w.heap.size w (((w.alloc (.cells #[.int .i64 o, .int .i64 h, .int .i64 l, .int .i64 c, .int .i64 q, .int .i64 z] 44)).alloc (.cells #[.int .i64 o', .int .i64 h', .int .i64 l', .int .i64 c', .int .i64 q', .int .i64 z'] 44)).alloc (.cells #[.int .i64 0, .int .i64 0, .int .i64 0, .int .i64 0, .int .i64 0, .int .i64 0] 44)) := (((Below.refl _ _).alloc (Nat.le_refl _) _).alloc (by simp) _).alloc (by simp; omega) _
  have hs0 : (((w.alloc (.cells #[.int .i64 o, .int .i64 h, .int .i64 l, .int .i64 c, .int .i64 q, .int .i64 z] 44)).alloc (.cells #[.int .i64 o', .int .i64 h', .int .i64 l', .int .i64 c', .int .i64 q', .int .i64 z'] 44)).alloc (.cells #[.int .i64 0, .int .i64 0, .int .i64 0, .int .i64 0, .int .i64 0, .int .i64 0] 44)).heap.size = w.heap.size + 1 + 1 + 1 := by simp
  go_enter Try.func29, Try.ntmps29
  go_wp2_with fail
  generalize (((w.alloc (.cells #[.int .i64 o, .int .i64 h, .int .i64 l, .int .i64 c, .int .i64 q, .int .i64 z] 44)).alloc (.cells #[.int .i64 o', .int .i64 h', .int .i64 l', .int .i64 c', .int .i64 q', .int .i64 z'] 44)).alloc (.cells #[.int .i64 0, .int .i64 0, .int .i64 0, .int .i64 0, .int .i64 0, .int .i64 0] 44)) = w0 at *
  refine (impl_CandleOk o h l c q z w0).mono ?_
  rcases Bool.eq_false_or_eq_true (cdlB o h l c q z) with k1 | k1
  rotate_left
  · have HN := Lib.hid (behV_no (h0 := (show behB o h l c q z o' h' l' c' q' z' = false by simp [behB, k1])))
    rw [k1]
    rintro e w1 ⟨rfl, hb1⟩
    have d2 := (hb1.block (w.heap.size + 1 + 1) (by omega)).trans b2
    obtain ⟨f0, f1, f2, f3, f4, f5⟩ := free6 d2
    obtain ⟨c0, c1, c2, c3, c4, c5⟩ := cell6 d2
    have D2 := Lib.hid d2
    have hB := hb0.trans (hb1.mono hb0.size)
    clear k1 d2 hs0 b0 b1 b2 hb0 hb1
    go_wp2_with fail
    have r2 := put6 (u0 := .int .i64 0) (u1 := .int .i64 0) (u2 := .int .i64 0) (u3 := .int .i64 0) (u4 := .int .i64 0) (u5 := .int .i64 0) D2.out
    obtain ⟨e0, e1, e2, e3, e4, e5⟩ := cell6 r2
    refine bodyPost_ret (v := .tuple #[.agg #[.int .i64 0, .int .i64 0, .int .i64 0, .int .i64 0, .int .i64 0, .int .i64 0], .bool false]) (by simp [results, Try.results29, go_sem, e0, e1, e2, e3, e4, e5]) rfl ⟨by rw [HN.out], ?_⟩
    exact below6 hB (by omega) _ _ _ _ _ _
  have HK1 := Lib.hid k1
  rw [k1]
  clear k1
  rintro e w1 ⟨rfl, hb1⟩
  have hs1 : w.heap.size + 1 + 1 + 1 ≤ w1.heap.size := by have := hb1.size; omega
  have b0 := (hb1.block (w.heap.size) (by omega)).trans b0
  have b1 := (hb1.block (w.heap.size + 1) (by omega)).trans b1
  have b2 := (hb1.block (w.heap.size + 1 + 1) (by omega)).trans b2
  have hB1 := hb0.trans (hb1.mono hb0.size)
  clear hb0 hb1 hs0
  obtain ⟨c0, c1, c2, c3, c4, c5⟩ := cell6 b1
  go_wp2_with fail
  clear c0 c1 c2 c3 c4 c5
  refine (impl_CandleOk o' h' l' c' q' z' w1).mono ?_
  rcases Bool.eq_false_or_eq_true (cdlB o' h' l' c' q' z') with k1 | k1
  rotate_left
  · have HN := Lib.hid (behV_no (h0 := (show behB o h l c q z o' h' l' c' q' z' = false by simp [behB, k1])))
    rw [k1]
    rintro e w2 ⟨rfl, hb1⟩
    have d2 := (hb1.block (w.heap.size + 1 + 1) (by omega)).trans b2
    obtain ⟨f0, f1, f2, f3, f4, f5⟩ := free6 d2
    obtain ⟨c0, c1, c2, c3, c4, c5⟩ := cell6 d2
    have D2 := Lib.hid d2
    have hB := hB1.trans (hb1.mono hB1.size)
    clear k1 d2 b0 b1 b2 hB1 hb1
    go_wp2_with fail
    have r2 := put6 (u0 := .int .i64 0) (u1 := .int .i64 0) (u2 := .int .i64 0) (u3 := .int .i64 0) (u4 := .int .i64 0) (u5 := .int .i64 0) D2.out
    obtain ⟨e0, e1, e2, e3, e4, e5⟩ := cell6 r2
    refine bodyPost_ret (v := .tuple #[.agg #[.int .i64 0, .int .i64 0, .int .i64 0, .int .i64 0, .int .i64 0, .int .i64 0], .bool false]) (by simp [results, Try.results29, go_sem, e0, e1, e2, e3, e4, e5]) rfl ⟨by rw [HN.out], ?_⟩
    exact below6 hB (by omega) _ _ _ _ _ _
  have HK2 := Lib.hid k1
  rw [k1]
  clear k1
  rintro e w2 ⟨rfl, hb1⟩
  have hs2 : w.heap.size + 1 + 1 + 1 ≤ w2.heap.size := by have := hb1.size; omega
  have b0 := (hb1.block (w.heap.size) (by omega)).trans b0
  have b1 := (hb1.block (w.heap.size + 1) (by omega)).trans b1
  have b2 := (hb1.block (w.heap.size + 1 + 1) (by omega)).trans b2
  have hB2 := hB1.trans (hb1.mono hB1.size)
  clear hB1 hb1 hs1
  obtain ⟨c0, c1, c2, c3, c4, c5⟩ := cell6 b0
  obtain ⟨d0, d1, d2, d3, d4, d5⟩ := cell6 b1
  go_wp2_with fail
  clear c0 c1 c2 c3 c4 c5 d0 d1 d2 d3 d4 d5
  refine (impl_joined o h l c q z o' h' l' c' q' z' w2).mono ?_
  rintro e w3 ⟨rfl, hb3⟩
  have hs3 : w.heap.size + 1 + 1 + 1 ≤ w3.heap.size := by have := hb3.size; omega
  have b2 := (hb3.block (w.heap.size + 1 + 1) (by omega)).trans b2
  have hB3 := hB2.trans (hb3.mono hB2.size)
  clear hB2 hb3 b0 b1 hs2
  have r2 := (Below.heap_alloc w3 (.cells #[.int .i64 o, .int .i64 (max h h'), .int .i64 (min l l'), .int .i64 c', .int .i64 (wrap64 (q + q')), .int .i64 (wrap64 (z + z'))] 44) (w.heap.size + 1 + 1) (by omega)).trans b2
  have rJ := heap_alloc_new w3 (.cells #[.int .i64 o, .int .i64 (max h h'), .int .i64 (min l l'), .int .i64 c', .int .i64 (wrap64 (q + q')), .int .i64 (wrap64 (z + z'))] 44)
  have hB4 := hB3.alloc hB3.size (.cells #[.int .i64 o, .int .i64 (max h h'), .int .i64 (min l l'), .int .i64 c', .int .i64 (wrap64 (q + q')), .int .i64 (wrap64 (z + z'))] 44)
  have hs4 : (w3.alloc (.cells #[.int .i64 o, .int .i64 (max h h'), .int .i64 (min l l'), .int .i64 c', .int .i64 (wrap64 (q + q')), .int .i64 (wrap64 (z + z'))] 44)).heap.size = w3.heap.size + 1 := by simp
  have hG : w.heap.size + 1 + 1 + 1 ≤ w3.heap.size := hs3
  go_wp2_with fail
  generalize w3.alloc (.cells #[.int .i64 o, .int .i64 (max h h'), .int .i64 (min l l'), .int .i64 c', .int .i64 (wrap64 (q + q')), .int .i64 (wrap64 (z + z'))] 44) = w4 at *
  generalize w3.heap.size = G at *
  refine (impl_CandleOk o (max h h') (min l l') c' (wrap64 (q + q')) (wrap64 (z + z')) w4).mono ?_
  rcases Bool.eq_false_or_eq_true (cdlB o (max h h') (min l l') c' (wrap64 (q + q')) (wrap64 (z + z'))) with k1 | k1
  rotate_left
  · have HN := Lib.hid (behV_no (h0 := (show behB o h l c q z o' h' l' c' q' z' = false by simp [behB, k1])))
    rw [k1]
    rintro e w5 ⟨rfl, hb5⟩
    have d2 := (hb5.block (w.heap.size + 1 + 1) (by omega)).trans r2
    obtain ⟨f0, f1, f2, f3, f4, f5⟩ := free6 d2
    obtain ⟨c0, c1, c2, c3, c4, c5⟩ := cell6 d2
    have D2 := Lib.hid d2
    have hB := hB4.trans (hb5.mono hB4.size)
    clear k1 d2 r2 rJ hB4 hb5 hs4
    go_wp2_with fail
    have r2 := put6 (u0 := .int .i64 0) (u1 := .int .i64 0) (u2 := .int .i64 0) (u3 := .int .i64 0) (u4 := .int .i64 0) (u5 := .int .i64 0) D2.out
    obtain ⟨e0, e1, e2, e3, e4, e5⟩ := cell6 r2
    refine bodyPost_ret (v := .tuple #[.agg #[.int .i64 0, .int .i64 0, .int .i64 0, .int .i64 0, .int .i64 0, .int .i64 0], .bool false]) (by simp [results, Try.results29, go_sem, e0, e1, e2, e3, e4, e5]) rfl ⟨by rw [HN.out], ?_⟩
    exact below6 hB (by omega) _ _ _ _ _ _
  have HN := Lib.hid (behV_yes (h0 := (show behB o h l c q z o' h' l' c' q' z' = true by simp [behB, HK1.out, HK2.out, k1])))
  rw [k1]
  rintro e w5 ⟨rfl, hb5⟩
  have d2 := (hb5.block (w.heap.size + 1 + 1) (by omega)).trans r2
  have dJ := (hb5.block G (by omega)).trans rJ
  obtain ⟨f0, f1, f2, f3, f4, f5⟩ := free6 d2
  obtain ⟨c0, c1, c2, c3, c4, c5⟩ := cell6 d2
  obtain ⟨g0, g1, g2, g3, g4, g5⟩ := cell6 dJ
  have D2 := Lib.hid d2
  have hB := hB4.trans (hb5.mono hB4.size)
  clear k1 d2 dJ r2 rJ hB4 hb5 hs4
  go_wp2_with fail
  have r3 := put6 (u0 := .int .i64 o) (u1 := .int .i64 (max h h')) (u2 := .int .i64 (min l l')) (u3 := .int .i64 c') (u4 := .int .i64 (wrap64 (q + q'))) (u5 := .int .i64 (wrap64 (z + z'))) D2.out
  obtain ⟨e0, e1, e2, e3, e4, e5⟩ := cell6 r3
  refine bodyPost_ret (v := .tuple #[.agg #[.int .i64 o, .int .i64 (max h h'), .int .i64 (min l l'), .int .i64 c', .int .i64 (wrap64 (q + q')), .int .i64 (wrap64 (z + z'))], .bool true]) (by simp [results, Try.results29, go_sem, e0, e1, e2, e3, e4, e5]) rfl ⟨by rw [HN.out], ?_⟩
  exact below6 hB (by omega) _ _ _ _ _ _
set_option maxHeartbeats 1600000 in
set_option maxRecDepth 100000 in
theorem spec_Behind1 (o h l c q z o' h' l' c' q' z' : Int) (w : World) (hh : h < h') (hl : l' < l) :
    Calls Try.prog 31 #[.agg #[.int .i64 o, .int .i64 h, .int .i64 l, .int .i64 c, .int .i64 q, .int .i64 z], .agg #[.int .i64 o', .int .i64 h', .int .i64 l', .int .i64 c', .int .i64 q', .int .i64 z']] w
      fun x w' => x = .returned (behV o h l c q z o' h' l' c' q' z') ∧ Below w.heap.size w w' := by
  have hmx : max h h' = h' := by omega
  have hmn : min l l' = l' := by omega
  have HMX := Lib.hid hmx
  have HMN := Lib.hid hmn
  clear hmx hmn
  obtain ⟨b0, b1, b2⟩ := three_blocks w (.cells #[.int .i64 o, .int .i64 h, .int .i64 l, .int .i64 c, .int .i64 q, .int .i64 z] 44) (.cells #[.int .i64 o', .int .i64 h', .int .i64 l', .int .i64 c', .int .i64 q', .int .i64 z'] 44) (.cells #[.int .i64 0, .int .i64 0, .int .i64 0, .int .i64 0, .int .i64 0, .int .i64 0] 44)
  have hb0 : Below w.heap.size w (((w.alloc (.cells #[.int .i64 o, .int .i64 h, .int .i64 l, .int .i64 c, .int .i64 q, .int .i64 z] 44)).alloc (.cells #[.int .i64 o', .int .i64 h', .int .i64 l', .int .i64 c', .int .i64 q', .int .i64 z'] 44)).alloc (.cells #[.int .i64 0, .int .i64 0, .int .i64 0, .int .i64 0, .int .i64 0, .int .i64 0] 44)) := (((Below.refl _ _).alloc (Nat.le_refl _) _).alloc (by simp) _).alloc (by simp; omega) _
  have hs0 : (((w.alloc (.cells #[.int .i64 o, .int .i64 h, .int .i64 l, .int .i64 c, .int .i64 q, .int .i64 z] 44)).alloc (.cells #[.int .i64 o', .int .i64 h', .int .i64 l', .int .i64 c', .int .i64 q', .int .i64 z'] 44)).alloc (.cells #[.int .i64 0, .int .i64 0, .int .i64 0, .int .i64 0, .int .i64 0, .int .i64 0] 44)).heap.size = w.heap.size + 1 + 1 + 1 := by simp
  go_enter Try.func31, Try.ntmps31
  go_wp2_with fail
  generalize (((w.alloc (.cells #[.int .i64 o, .int .i64 h, .int .i64 l, .int .i64 c, .int .i64 q, .int .i64 z] 44)).alloc (.cells #[.int .i64 o', .int .i64 h', .int .i64 l', .int .i64 c', .int .i64 q', .int .i64 z'] 44)).alloc (.cells #[.int .i64 0, .int .i64 0, .int .i64 0, .int .i64 0, .int .i64 0, .int .i64 0] 44)) = w0 at *
  refine (spec_CandleOk o h l c q z w0).mono ?_
  rcases Bool.eq_false_or_eq_true (cdlB o h l c q z) with k1 | k1
  rotate_left
  · have HN := Lib.hid (behV_no (h0 := (show behB o h l c q z o' h' l' c' q' z' = false by simp [behB, k1])))
    rw [k1]
    rintro e w1 ⟨rfl, hb1⟩
    have d2 := (hb1.block (w.heap.size + 1 + 1) (by omega)).trans b2
    obtain ⟨f0, f1, f2, f3, f4, f5⟩ := free6 d2
    obtain ⟨c0, c1, c2, c3, c4, c5⟩ := cell6 d2
    have D2 := Lib.hid d2
    have hB := hb0.trans (hb1.mono hb0.size)
    clear k1 d2 hs0 b0 b1 b2 hb0 hb1
    go_wp2_with fail
    have r2 := put6 (u0 := .int .i64 0) (u1 := .int .i64 0) (u2 := .int .i64 0) (u3 := .int .i64 0) (u4 := .int .i64 0) (u5 := .int .i64 0) D2.out
    obtain ⟨e0, e1, e2, e3, e4, e5⟩ := cell6 r2
    refine bodyPost_ret (v := .tuple #[.agg #[.int .i64 0, .int .i64 0, .int .i64 0, .int .i64 0, .int .i64 0, .int .i64 0], .bool false]) (by simp [results, Try.results31, go_sem, e0, e1, e2, e3, e4, e5]) rfl ⟨by rw [HN.out], ?_⟩
    exact below6 hB (by omega) _ _ _ _ _ _
  have HK1 := Lib.hid k1
  rw [k1]
  clear k1
  rintro e w1 ⟨rfl, hb1⟩
  have hs1 : w.heap.size + 1 + 1 + 1 ≤ w1.heap.size := by have := hb1.size; omega
  have b0 := (hb1.block (w.heap.size) (by omega)).trans b0
  have b1 := (hb1.block (w.heap.size + 1) (by omega)).trans b1
  have b2 := (hb1.block (w.heap.size + 1 + 1) (by omega)).trans b2
  have hB1 := hb0.trans (hb1.mono hb0.size)
  clear hb0 hb1 hs0
  obtain ⟨c0, c1, c2, c3, c4, c5⟩ := cell6 b1
  go_wp2_with fail
  clear c0 c1 c2 c3 c4 c5
  refine (spec_CandleOk o' h' l' c' q' z' w1).mono ?_
  rcases Bool.eq_false_or_eq_true (cdlB o' h' l' c' q' z') with k1 | k1
  rotate_left
  · have HN := Lib.hid (behV_no (h0 := (show behB o h l c q z o' h' l' c' q' z' = false by simp [behB, k1])))
    rw [k1]
    rintro e w2 ⟨rfl, hb1⟩
    have d2 := (hb1.block (w.heap.size + 1 + 1) (by omega)).trans b2
    obtain ⟨f0, f1, f2, f3, f4, f5⟩ := free6 d2
    obtain ⟨c0, c1, c2, c3, c4, c5⟩ := cell6 d2
    have D2 := Lib.hid d2
    have hB := hB1.trans (hb1.mono hB1.size)
    clear k1 d2 b0 b1 b2 hB1 hb1
    go_wp2_with fail
    have r2 := put6 (u0 := .int .i64 0) (u1 := .int .i64 0) (u2 := .int .i64 0) (u3 := .int .i64 0) (u4 := .int .i64 0) (u5 := .int .i64 0) D2.out
    obtain ⟨e0, e1, e2, e3, e4, e5⟩ := cell6 r2
    refine bodyPost_ret (v := .tuple #[.agg #[.int .i64 0, .int .i64 0, .int .i64 0, .int .i64 0, .int .i64 0, .int .i64 0], .bool false]) (by simp [results, Try.results31, go_sem, e0, e1, e2, e3, e4, e5]) rfl ⟨by rw [HN.out], ?_⟩
    exact below6 hB (by omega) _ _ _ _ _ _
  have HK2 := Lib.hid k1
  rw [k1]
  clear k1
  rintro e w2 ⟨rfl, hb1⟩
  have hs2 : w.heap.size + 1 + 1 + 1 ≤ w2.heap.size := by have := hb1.size; omega
  have b0 := (hb1.block (w.heap.size) (by omega)).trans b0
  have b1 := (hb1.block (w.heap.size + 1) (by omega)).trans b1
  have b2 := (hb1.block (w.heap.size + 1 + 1) (by omega)).trans b2
  have hB2 := hB1.trans (hb1.mono hB1.size)
  clear hB1 hb1 hs1
  obtain ⟨c0, c1, c2, c3, c4, c5⟩ := cell6 b0
  obtain ⟨d0, d1, d2, d3, d4, d5⟩ := cell6 b1
  go_wp2_with fail
  clear c0 c1 c2 c3 c4 c5 d0 d1 d2 d3 d4 d5
  clear b0 b1
  have r2 := (Below.heap_alloc w2 (.cells #[.int .i64 o, .int .i64 h', .int .i64 l', .int .i64 c', .int .i64 (wrap64 (q + q')), .int .i64 (wrap64 (z + z'))] 44) (w.heap.size + 1 + 1) (by omega)).trans b2
  have rJ := heap_alloc_new w2 (.cells #[.int .i64 o, .int .i64 h', .int .i64 l', .int .i64 c', .int .i64 (wrap64 (q + q')), .int .i64 (wrap64 (z + z'))] 44)
  have hB4 := hB2.alloc hB2.size (.cells #[.int .i64 o, .int .i64 h', .int .i64 l', .int .i64 c', .int .i64 (wrap64 (q + q')), .int .i64 (wrap64 (z + z'))] 44)
  have hs4 : (w2.alloc (.cells #[.int .i64 o, .int .i64 h', .int .i64 l', .int .i64 c', .int .i64 (wrap64 (q + q')), .int .i64 (wrap64 (z + z'))] 44)).heap.size = w2.heap.size + 1 := by simp
  have hG : w.heap.size + 1 + 1 + 1 ≤ w2.heap.size := hs2
  go_wp2_with fail
  generalize w2.alloc (.cells #[.int .i64 o, .int .i64 h', .int .i64 l', .int .i64 c', .int .i64 (wrap64 (q + q')), .int .i64 (wrap64 (z + z'))] 44) = w4 at *
  generalize w2.heap.size = G at *
  refine (spec_CandleOk o h' l' c' (wrap64 (q + q')) (wrap64 (z + z')) w4).mono ?_
  rcases Bool.eq_false_or_eq_true (cdlB o h' l' c' (wrap64 (q + q')) (wrap64 (z + z'))) with k1 | k1
  rotate_left
  · have HN := Lib.hid (behV_no (h0 := (show behB o h l c q z o' h' l' c' q' z' = false by simp [behB, HMX.out, HMN.out, k1])))
    rw [k1]
    rintro e w5 ⟨rfl, hb5⟩
    have d2 := (hb5.block (w.heap.size + 1 + 1) (by omega)).trans r2
    obtain ⟨f0, f1, f2, f3, f4, f5⟩ := free6 d2
    obtain ⟨c0, c1, c2, c3, c4, c5⟩ := cell6 d2
    have D2 := Lib.hid d2
    have hB := hB4.trans (hb5.mono hB4.size)
    clear k1 d2 r2 rJ hB4 hb5 hs4
    go_wp2_with fail
    have r2 := put6 (u0 := .int .i64 0) (u1 := .int .i64 0) (u2 := .int .i64 0) (u3 := .int .i64 0) (u4 := .int .i64 0) (u5 := .int .i64 0) D2.out
    obtain ⟨e0, e1, e2, e3, e4, e5⟩ := cell6 r2
    refine bodyPost_ret (v := .tuple #[.agg #[.int .i64 0, .int .i64 0, .int .i64 0, .int .i64 0, .int .i64 0, .int .i64 0], .bool false]) (by simp [results, Try.results31, go_sem, e0, e1, e2, e3, e4, e5]) rfl ⟨by rw [HN.out], ?_⟩
    exact below6 hB (by omega) _ _ _ _ _ _
  have HN := Lib.hid (behV_yes (h0 := (show behB o h l c q z o' h' l' c' q' z' = true by simp [behB, HK1.out, HK2.out, HMX.out, HMN.out, k1])))
  rw [k1]
  rintro e w5 ⟨rfl, hb5⟩
  have d2 := (hb5.block (w.heap.size + 1 + 1) (by omega)).trans r2
  have dJ := (hb5.block G (by omega)).trans rJ
  obtain ⟨f0, f1, f2, f3, f4, f5⟩ := free6 d2
  obtain ⟨c0, c1, c2, c3, c4, c5⟩ := cell6 d2
  obtain ⟨g0, g1, g2, g3, g4, g5⟩ := cell6 dJ
  have D2 := Lib.hid d2
  have hB := hB4.trans (hb5.mono hB4.size)
  clear k1 d2 dJ r2 rJ hB4 hb5 hs4
  go_wp2_with fail
  have r3 := put6 (u0 := .int .i64 o) (u1 := .int .i64 h') (u2 := .int .i64 l') (u3 := .int .i64 c') (u4 := .int .i64 (wrap64 (q + q'))) (u5 := .int .i64 (wrap64 (z + z'))) D2.out
  obtain ⟨e0, e1, e2, e3, e4, e5⟩ := cell6 r3
  refine bodyPost_ret (v := .tuple #[.agg #[.int .i64 o, .int .i64 h', .int .i64 l', .int .i64 c', .int .i64 (wrap64 (q + q')), .int .i64 (wrap64 (z + z'))], .bool true]) (by simp [results, Try.results31, go_sem, e0, e1, e2, e3, e4, e5]) rfl ⟨by rw [HN.out, HMX.out, HMN.out], ?_⟩
  exact below6 hB (by omega) _ _ _ _ _ _
set_option maxHeartbeats 1600000 in
set_option maxRecDepth 100000 in
theorem spec_Behind2 (o h l c q z o' h' l' c' q' z' : Int) (w : World) (hh : h < h') (hl : l ≤ l') :
    Calls Try.prog 31 #[.agg #[.int .i64 o, .int .i64 h, .int .i64 l, .int .i64 c, .int .i64 q, .int .i64 z], .agg #[.int .i64 o', .int .i64 h', .int .i64 l', .int .i64 c', .int .i64 q', .int .i64 z']] w
      fun x w' => x = .returned (behV o h l c q z o' h' l' c' q' z') ∧ Below w.heap.size w w' := by
  have hmx : max h h' = h' := by omega
  have hmn : min l l' = l := by omega
  have HMX := Lib.hid hmx
  have HMN := Lib.hid hmn
  clear hmx hmn
  obtain ⟨b0, b1, b2⟩ := three_blocks w (.cells #[.int .i64 o, .int .i64 h, .int .i64 l, .int .i64 c, .int .i64 q, .int .i64 z] 44) (.cells #[.int .i64 o', .int .i64 h', .int .i64 l', .int .i64 c', .int .i64 q', .int .i64 z'] 44) (.cells #[.int .i64 0, .int .i64 0, .int .i64 0, .int .i64 0, .int .i64 0, .int .i64 0] 44)
  have hb0 : Below w.heap.size w (((w.alloc (.cells #[.int .i64 o, .int .i64 h, .int .i64 l, .int .i64 c, .int .i64 q, .int .i64 z] 44)).alloc (.cells #[.int .i64 o', .int .i64 h', .int .i64 l', .int .i64 c', .int .i64 q', .int .i64 z'] 44)).alloc (.cells #[.int .i64 0, .int .i64 0, .int .i64 0, .int .i64 0, .int .i64 0, .int .i64 0] 44)) := (((Below.refl _ _).alloc (Nat.le_refl _) _).alloc (by simp) _).alloc (by simp; omega) _
  have hs0 : (((w.alloc (.cells #[.int .i64 o, .int .i64 h, .int .i64 l, .int .i64 c, .int .i64 q, .int .i64 z] 44)).alloc (.cells #[.int .i64 o', .int .i64 h', .int .i64 l', .int .i64 c', .int .i64 q', .int .i64 z'] 44)).alloc (.cells #[.int .i64 0, .int .i64 0, .int .i64 0, .int .i64 0, .int .i64 0, .int .i64 0] 44)).heap.size = w.heap.size + 1 + 1 + 1 := by simp
  go_enter Try.func31, Try.ntmps31
  go_wp2_with fail
  generalize (((w.alloc (.cells #[.int .i64 o, .int .i64 h, .int .i64 l, .int .i64 c, .int .i64 q, .int .i64 z] 44)).alloc (.cells #[.int .i64 o', .int .i64 h', .int .i64 l', .int .i64 c', .int .i64 q', .int .i64 z'] 44)).alloc (.cells #[.int .i64 0, .int .i64 0, .int .i64 0, .int .i64 0, .int .i64 0, .int .i64 0] 44)) = w0 at *
  refine (spec_CandleOk o h l c q z w0).mono ?_
  rcases Bool.eq_false_or_eq_true (cdlB o h l c q z) with k1 | k1
  rotate_left
  · have HN := Lib.hid (behV_no (h0 := (show behB o h l c q z o' h' l' c' q' z' = false by simp [behB, k1])))
    rw [k1]
    rintro e w1 ⟨rfl, hb1⟩
    have d2 := (hb1.block (w.heap.size + 1 + 1) (by omega)).trans b2
    obtain ⟨f0, f1, f2, f3, f4, f5⟩ := free6 d2
    obtain ⟨c0, c1, c2, c3, c4, c5⟩ := cell6 d2
    have D2 := Lib.hid d2
    have hB := hb0.trans (hb1.mono hb0.size)
    clear k1 d2 hs0 b0 b1 b2 hb0 hb1
    go_wp2_with fail
    have r2 := put6 (u0 := .int .i64 0) (u1 := .int .i64 0) (u2 := .int .i64 0) (u3 := .int .i64 0) (u4 := .int .i64 0) (u5 := .int .i64 0) D2.out
    obtain ⟨e0, e1, e2, e3, e4, e5⟩ := cell6 r2
    refine bodyPost_ret (v := .tuple #[.agg #[.int .i64 0, .int .i64 0, .int .i64 0, .int .i64 0, .int .i64 0, .int .i64 0], .bool false]) (by simp [results, Try.results31, go_sem, e0, e1, e2, e3, e4, e5]) rfl ⟨by rw [HN.out], ?_⟩
    exact below6 hB (by omega) _ _ _ _ _ _
  have HK1 := Lib.hid k1
  rw [k1]
  clear k1
  rintro e w1 ⟨rfl, hb1⟩
  have hs1 : w.heap.size + 1 + 1 + 1 ≤ w1.heap.size := by have := hb1.size; omega
  have b0 := (hb1.block (w.heap.size) (by omega)).trans b0
  have b1 := (hb1.block (w.heap.size + 1) (by omega)).trans b1
  have b2 := (hb1.block (w.heap.size + 1 + 1) (by omega)).trans b2
  have hB1 := hb0.trans (hb1.mono hb0.size)
  clear hb0 hb1 hs0
  obtain ⟨c0, c1, c2, c3, c4, c5⟩ := cell6 b1
  go_wp2_with fail
  clear c0 c1 c2 c3 c4 c5
  refine (spec_CandleOk o' h' l' c' q' z' w1).mono ?_
  rcases Bool.eq_false_or_eq_true (cdlB o' h' l' c' q' z') with k1 | k1
  rotate_left
  · have HN := Lib.hid (behV_no (h0 := (show behB o h l c q z o' h' l' c' q' z' = false by simp [behB, k1])))
    rw [k1]
    rintro e w2 ⟨rfl, hb1⟩
    have d2 := (hb1.block (w.heap.size + 1 + 1) (by omega)).trans b2
    obtain ⟨f0, f1, f2, f3, f4, f5⟩ := free6 d2
    obtain ⟨c0, c1, c2, c3, c4, c5⟩ := cell6 d2
    have D2 := Lib.hid d2
    have hB := hB1.trans (hb1.mono hB1.size)
    clear k1 d2 b0 b1 b2 hB1 hb1
    go_wp2_with fail
    have r2 := put6 (u0 := .int .i64 0) (u1 := .int .i64 0) (u2 := .int .i64 0) (u3 := .int .i64 0) (u4 := .int .i64 0) (u5 := .int .i64 0) D2.out
    obtain ⟨e0, e1, e2, e3, e4, e5⟩ := cell6 r2
    refine bodyPost_ret (v := .tuple #[.agg #[.int .i64 0, .int .i64 0, .int .i64 0, .int .i64 0, .int .i64 0, .int .i64 0], .bool false]) (by simp [results, Try.results31, go_sem, e0, e1, e2, e3, e4, e5]) rfl ⟨by rw [HN.out], ?_⟩
    exact below6 hB (by omega) _ _ _ _ _ _
  have HK2 := Lib.hid k1
  rw [k1]
  clear k1
  rintro e w2 ⟨rfl, hb1⟩
  have hs2 : w.heap.size + 1 + 1 + 1 ≤ w2.heap.size := by have := hb1.size; omega
  have b0 := (hb1.block (w.heap.size) (by omega)).trans b0
  have b1 := (hb1.block (w.heap.size + 1) (by omega)).trans b1
  have b2 := (hb1.block (w.heap.size + 1 + 1) (by omega)).trans b2
  have hB2 := hB1.trans (hb1.mono hB1.size)
  clear hB1 hb1 hs1
  obtain ⟨c0, c1, c2, c3, c4, c5⟩ := cell6 b0
  obtain ⟨d0, d1, d2, d3, d4, d5⟩ := cell6 b1
  go_wp2_with fail
  clear c0 c1 c2 c3 c4 c5 d0 d1 d2 d3 d4 d5
  clear b0 b1
  have r2 := (Below.heap_alloc w2 (.cells #[.int .i64 o, .int .i64 h', .int .i64 l, .int .i64 c', .int .i64 (wrap64 (q + q')), .int .i64 (wrap64 (z + z'))] 44) (w.heap.size + 1 + 1) (by omega)).trans b2
  have rJ := heap_alloc_new w2 (.cells #[.int .i64 o, .int .i64 h', .int .i64 l, .int .i64 c', .int .i64 (wrap64 (q + q')), .int .i64 (wrap64 (z + z'))] 44)
  have hB4 := hB2.alloc hB2.size (.cells #[.int .i64 o, .int .i64 h', .int .i64 l, .int .i64 c', .int .i64 (wrap64 (q + q')), .int .i64 (wrap64 (z + z'))] 44)
  have hs4 : (w2.alloc (.cells #[.int .i64 o, .int .i64 h', .int .i64 l, .int .i64 c', .int .i64 (wrap64 (q + q')), .int .i64 (wrap64 (z + z'))] 44)).heap.size = w2.heap.size + 1 := by simp
  have hG : w.heap.size + 1 + 1 + 1 ≤ w2.heap.size := hs2
  go_wp2_with fail
  generalize w2.alloc (.cells #[.int .i64 o, .int .i64 h', .int .i64 l, .int .i64 c', .int .i64 (wrap64 (q + q')), .int .i64 (wrap64 (z + z'))] 44) = w4 at *
  generalize w2.heap.size = G at *
  refine (spec_CandleOk o h' l c' (wrap64 (q + q')) (wrap64 (z + z')) w4).mono ?_
  rcases Bool.eq_false_or_eq_true (cdlB o h' l c' (wrap64 (q + q')) (wrap64 (z + z'))) with k1 | k1
  rotate_left
  · have HN := Lib.hid (behV_no (h0 := (show behB o h l c q z o' h' l' c' q' z' = false by simp [behB, HMX.out, HMN.out, k1])))
    rw [k1]
    rintro e w5 ⟨rfl, hb5⟩
    have d2 := (hb5.block (w.heap.size + 1 + 1) (by omega)).trans r2
    obtain ⟨f0, f1, f2, f3, f4, f5⟩ := free6 d2
    obtain ⟨c0, c1, c2, c3, c4, c5⟩ := cell6 d2
    have D2 := Lib.hid d2
    have hB := hB4.trans (hb5.mono hB4.size)
    clear k1 d2 r2 rJ hB4 hb5 hs4
    go_wp2_with fail
    have r2 := put6 (u0 := .int .i64 0) (u1 := .int .i64 0) (u2 := .int .i64 0) (u3 := .int .i64 0) (u4 := .int .i64 0) (u5 := .int .i64 0) D2.out
    obtain ⟨e0, e1, e2, e3, e4, e5⟩ := cell6 r2
    refine bodyPost_ret (v := .tuple #[.agg #[.int .i64 0, .int .i64 0, .int .i64 0, .int .i64 0, .int .i64 0, .int .i64 0], .bool false]) (by simp [results, Try.results31, go_sem, e0, e1, e2, e3, e4, e5]) rfl ⟨by rw [HN.out], ?_⟩
    exact below6 hB (by omega) _ _ _ _ _ _
  have HN := Lib.hid (behV_yes (h0 := (show behB o h l c q z o' h' l' c' q' z' = true by simp [behB, HK1.out, HK2.out, HMX.out, HMN.out, k1])))
  rw [k1]
  rintro e w5 ⟨rfl, hb5⟩
  have d2 := (hb5.block (w.heap.size + 1 + 1) (by omega)).trans r2
  have dJ := (hb5.block G (by omega)).trans rJ
  obtain ⟨f0, f1, f2, f3, f4, f5⟩ := free6 d2
  obtain ⟨c0, c1, c2, c3, c4, c5⟩ := cell6 d2
  obtain ⟨g0, g1, g2, g3, g4, g5⟩ := cell6 dJ
  have D2 := Lib.hid d2
  have hB := hB4.trans (hb5.mono hB4.size)
  clear k1 d2 dJ r2 rJ hB4 hb5 hs4
  go_wp2_with fail
  have r3 := put6 (u0 := .int .i64 o) (u1 := .int .i64 h') (u2 := .int .i64 l) (u3 := .int .i64 c') (u4 := .int .i64 (wrap64 (q + q'))) (u5 := .int .i64 (wrap64 (z + z'))) D2.out
  obtain ⟨e0, e1, e2, e3, e4, e5⟩ := cell6 r3
  refine bodyPost_ret (v := .tuple #[.agg #[.int .i64 o, .int .i64 h', .int .i64 l, .int .i64 c', .int .i64 (wrap64 (q + q')), .int .i64 (wrap64 (z + z'))], .bool true]) (by simp [results, Try.results31, go_sem, e0, e1, e2, e3, e4, e5]) rfl ⟨by rw [HN.out, HMX.out, HMN.out], ?_⟩
  exact below6 hB (by omega) _ _ _ _ _ _
set_option maxHeartbeats 1600000 in
set_option maxRecDepth 100000 in
theorem spec_Behind3 (o h l c q z o' h' l' c' q' z' : Int) (w : World) (hh : h' ≤ h) (hl : l' < l) :
    Calls Try.prog 31 #[.agg #[.int .i64 o, .int .i64 h, .int .i64 l, .int .i64 c, .int .i64 q, .int .i64 z], .agg #[.int .i64 o', .int .i64 h', .int .i64 l', .int .i64 c', .int .i64 q', .int .i64 z']] w
      fun x w' => x = .returned (behV o h l c q z o' h' l' c' q' z') ∧ Below w.heap.size w w' := by
  have hmx : max h h' = h := by omega
  have hmn : min l l' = l' := by omega
  have HMX := Lib.hid hmx
  have HMN := Lib.hid hmn
  clear hmx hmn
  obtain ⟨b0, b1, b2⟩ := three_blocks w (.cells #[.int .i64 o, .int .i64 h, .int .i64 l, .int .i64 c, .int .i64 q, .int .i64 z] 44) (.cells #[.int .i64 o', .int .i64 h', .int .i64 l', .int .i64 c', .int .i64 q', .int .i64 z'] 44) (.cells #[.int .i64 0, .int .i64 0, .int .i64 0, .int .i64 0, .int .i64 0, .int .i64 0] 44)
  have hb0 : Below w.heap.size w (((w.alloc (.cells #[.int .i64 o, .int .i64 h, .int .i64 l, .int .i64 c, .int .i64 q, .int .i64 z] 44)).alloc (.cells #[.int .i64 o', .int .i64 h', .int .i64 l', .int .i64 c', .int .i64 q', .int .i64 z'] 44)).alloc (.cells #[.int .i64 0, .int .i64 0, .int .i64 0, .int .i64 0, .int .i64 0, .int .i64 0] 44)) := (((Below.refl _ _).alloc (Nat.le_refl _) _).alloc (by simp) _).alloc (by simp; omega) _
  have hs0 : (((w.alloc (.cells #[.int .i64 o, .int .i64 h, .int .i64 l, .int .i64 c, .int .i64 q, .int .i64 z] 44)).alloc (.cells #[.int .i64 o', .int .i64 h', .int .i64 l', .int .i64 c', .int .i64 q', .int .i64 z'] 44)).alloc (.cells #[.int .i64 0, .int .i64 0, .int .i64 0, .int .i64 0, .int .i64 0, .int .i64 0] 44)).heap.size = w.heap.size + 1 + 1 + 1 := by simp
  go_enter Try.func31, Try.ntmps31
  go_wp2_with fail
  generalize (((w.alloc (.cells #[.int .i64 o, .int .i64 h, .int .i64 l, .int .i64 c, .int .i64 q, .int .i64 z] 44)).alloc (.cells #[.int .i64 o', .int .i64 h', .int .i64 l', .int .i64 c', .int .i64 q', .int .i64 z'] 44)).alloc (.cells #[.int .i64 0, .int .i64 0, .int .i64 0, .int .i64 0, .int .i64 0, .int .i64 0] 44)) = w0 at *
  refine (spec_CandleOk o h l c q z w0).mono ?_
  rcases Bool.eq_false_or_eq_true (cdlB o h l c q z) with k1 | k1
  rotate_left
  · have HN := Lib.hid (behV_no (h0 := (show behB o h l c q z o' h' l' c' q' z' = false by simp [behB, k1])))
    rw [k1]
    rintro e w1 ⟨rfl, hb1⟩
    have d2 := (hb1.block (w.heap.size + 1 + 1) (by omega)).trans b2
    obtain ⟨f0, f1, f2, f3, f4, f5⟩ := free6 d2
    obtain ⟨c0, c1, c2, c3, c4, c5⟩ := cell6 d2
    have D2 := Lib.hid d2
    have hB := hb0.trans (hb1.mono hb0.size)
    clear k1 d2 hs0 b0 b1 b2 hb0 hb1
    go_wp2_with fail
    have r2 := put6 (u0 := .int .i64 0) (u1 := .int .i64 0) (u2 := .int .i64 0) (u3 := .int .i64 0) (u4 := .int .i64 0) (u5 := .int .i64 0) D2.out
    obtain ⟨e0, e1, e2, e3, e4, e5⟩ := cell6 r2
    refine bodyPost_ret (v := .tuple #[.agg #[.int .i64 0, .int .i64 0, .int .i64 0, .int .i64 0, .int .i64 0, .int .i64 0], .bool false]) (by simp [results, Try.results31, go_sem, e0, e1, e2, e3, e4, e5]) rfl ⟨by rw [HN.out], ?_⟩
    exact below6 hB (by omega) _ _ _ _ _ _
  have HK1 := Lib.hid k1
  rw [k1]
  clear k1
  rintro e w1 ⟨rfl, hb1⟩
  have hs1 : w.heap.size + 1 + 1 + 1 ≤ w1.heap.size := by have := hb1.size; omega
  have b0 := (hb1.block (w.heap.size) (by omega)).trans b0
  have b1 := (hb1.block (w.heap.size + 1) (by omega)).trans b1
  have b2 := (hb1.block (w.heap.size + 1 + 1) (by omega)).trans b2
  have hB1 := hb0.trans (hb1.mono hb0.size)
  clear hb0 hb1 hs0
  obtain ⟨c0, c1, c2, c3, c4, c5⟩ := cell6 b1
  go_wp2_with fail
  clear c0 c1 c2 c3 c4 c5
  refine (spec_CandleOk o' h' l' c' q' z' w1).mono ?_
  rcases Bool.eq_false_or_eq_true (cdlB o' h' l' c' q' z') with k1 | k1
  rotate_left
  · have HN := Lib.hid (behV_no (h0 := (show behB o h l c q z o' h' l' c' q' z' = false by simp [behB, k1])))
    rw [k1]
    rintro e w2 ⟨rfl, hb1⟩
    have d2 := (hb1.block (w.heap.size + 1 + 1) (by omega)).trans b2
    obtain ⟨f0, f1, f2, f3, f4, f5⟩ := free6 d2
    obtain ⟨c0, c1, c2, c3, c4, c5⟩ := cell6 d2
    have D2 := Lib.hid d2
    have hB := hB1.trans (hb1.mono hB1.size)
    clear k1 d2 b0 b1 b2 hB1 hb1
    go_wp2_with fail
    have r2 := put6 (u0 := .int .i64 0) (u1 := .int .i64 0) (u2 := .int .i64 0) (u3 := .int .i64 0) (u4 := .int .i64 0) (u5 := .int .i64 0) D2.out
    obtain ⟨e0, e1, e2, e3, e4, e5⟩ := cell6 r2
    refine bodyPost_ret (v := .tuple #[.agg #[.int .i64 0, .int .i64 0, .int .i64 0, .int .i64 0, .int .i64 0, .int .i64 0], .bool false]) (by simp [results, Try.results31, go_sem, e0, e1, e2, e3, e4, e5]) rfl ⟨by rw [HN.out], ?_⟩
    exact below6 hB (by omega) _ _ _ _ _ _
  have HK2 := Lib.hid k1
  rw [k1]
  clear k1
  rintro e w2 ⟨rfl, hb1⟩
  have hs2 : w.heap.size + 1 + 1 + 1 ≤ w2.heap.size := by have := hb1.size; omega
  have b0 := (hb1.block (w.heap.size) (by omega)).trans b0
  have b1 := (hb1.block (w.heap.size + 1) (by omega)).trans b1
  have b2 := (hb1.block (w.heap.size + 1 + 1) (by omega)).trans b2
  have hB2 := hB1.trans (hb1.mono hB1.size)
  clear hB1 hb1 hs1
  obtain ⟨c0, c1, c2, c3, c4, c5⟩ := cell6 b0
  obtain ⟨d0, d1, d2, d3, d4, d5⟩ := cell6 b1
  go_wp2_with fail
  clear c0 c1 c2 c3 c4 c5 d0 d1 d2 d3 d4 d5
  clear b0 b1
  have r2 := (Below.heap_alloc w2 (.cells #[.int .i64 o, .int .i64 h, .int .i64 l', .int .i64 c', .int .i64 (wrap64 (q + q')), .int .i64 (wrap64 (z + z'))] 44) (w.heap.size + 1 + 1) (by omega)).trans b2
  have rJ := heap_alloc_new w2 (.cells #[.int .i64 o, .int .i64 h, .int .i64 l', .int .i64 c', .int .i64 (wrap64 (q + q')), .int .i64 (wrap64 (z + z'))] 44)
  have hB4 := hB2.alloc hB2.size (.cells #[.int .i64 o, .int .i64 h, .int .i64 l', .int .i64 c', .int .i64 (wrap64 (q + q')), .int .i64 (wrap64 (z + z'))] 44)
  have hs4 : (w2.alloc (.cells #[.int .i64 o, .int .i64 h, .int .i64 l', .int .i64 c', .int .i64 (wrap64 (q + q')), .int .i64 (wrap64 (z + z'))] 44)).heap.size = w2.heap.size + 1 := by simp
  have hG : w.heap.size + 1 + 1 + 1 ≤ w2.heap.size := hs2
  go_wp2_with fail
  generalize w2.alloc (.cells #[.int .i64 o, .int .i64 h, .int .i64 l', .int .i64 c', .int .i64 (wrap64 (q + q')), .int .i64 (wrap64 (z + z'))] 44) = w4 at *
  generalize w2.heap.size = G at *
  refine (spec_CandleOk o h l' c' (wrap64 (q + q')) (wrap64 (z + z')) w4).mono ?_
  rcases Bool.eq_false_or_eq_true (cdlB o h l' c' (wrap64 (q + q')) (wrap64 (z + z'))) with k1 | k1
  rotate_left
  · have HN := Lib.hid (behV_no (h0 := (show behB o h l c q z o' h' l' c' q' z' = false by simp [behB, HMX.out, HMN.out, k1])))
    rw [k1]
    rintro e w5 ⟨rfl, hb5⟩
    have d2 := (hb5.block (w.heap.size + 1 + 1) (by omega)).trans r2
    obtain ⟨f0, f1, f2, f3, f4, f5⟩ := free6 d2
    obtain ⟨c0, c1, c2, c3, c4, c5⟩ := cell6 d2
    have D2 := Lib.hid d2
    have hB := hB4.trans (hb5.mono hB4.size)
    clear k1 d2 r2 rJ hB4 hb5 hs4
    go_wp2_with fail
    have r2 := put6 (u0 := .int .i64 0) (u1 := .int .i64 0) (u2 := .int .i64 0) (u3 := .int .i64 0) (u4 := .int .i64 0) (u5 := .int .i64 0) D2.out
    obtain ⟨e0, e1, e2, e3, e4, e5⟩ := cell6 r2
    refine bodyPost_ret (v := .tuple #[.agg #[.int .i64 0, .int .i64 0, .int .i64 0, .int .i64 0, .int .i64 0, .int .i64 0], .bool false]) (by simp [results, Try.results31, go_sem, e0, e1, e2, e3, e4, e5]) rfl ⟨by rw [HN.out], ?_⟩
    exact below6 hB (by omega) _ _ _ _ _ _
  have HN := Lib.hid (behV_yes (h0 := (show behB o h l c q z o' h' l' c' q' z' = true by simp [behB, HK1.out, HK2.out, HMX.out, HMN.out, k1])))
  rw [k1]
  rintro e w5 ⟨rfl, hb5⟩
  have d2 := (hb5.block (w.heap.size + 1 + 1) (by omega)).trans r2
  have dJ := (hb5.block G (by omega)).trans rJ
  obtain ⟨f0, f1, f2, f3, f4, f5⟩ := free6 d2
  obtain ⟨c0, c1, c2, c3, c4, c5⟩ := cell6 d2
  obtain ⟨g0, g1, g2, g3, g4, g5⟩ := cell6 dJ
  have D2 := Lib.hid d2
  have hB := hB4.trans (hb5.mono hB4.size)
  clear k1 d2 dJ r2 rJ hB4 hb5 hs4
  go_wp2_with fail
  have r3 := put6 (u0 := .int .i64 o) (u1 := .int .i64 h) (u2 := .int .i64 l') (u3 := .int .i64 c') (u4 := .int .i64 (wrap64 (q + q'))) (u5 := .int .i64 (wrap64 (z + z'))) D2.out
  obtain ⟨e0, e1, e2, e3, e4, e5⟩ := cell6 r3
  refine bodyPost_ret (v := .tuple #[.agg #[.int .i64 o, .int .i64 h, .int .i64 l', .int .i64 c', .int .i64 (wrap64 (q + q')), .int .i64 (wrap64 (z + z'))], .bool true]) (by simp [results, Try.results31, go_sem, e0, e1, e2, e3, e4, e5]) rfl ⟨by rw [HN.out, HMX.out, HMN.out], ?_⟩
  exact below6 hB (by omega) _ _ _ _ _ _
set_option maxHeartbeats 1600000 in
set_option maxRecDepth 100000 in
theorem spec_Behind4 (o h l c q z o' h' l' c' q' z' : Int) (w : World) (hh : h' ≤ h) (hl : l ≤ l') :
    Calls Try.prog 31 #[.agg #[.int .i64 o, .int .i64 h, .int .i64 l, .int .i64 c, .int .i64 q, .int .i64 z], .agg #[.int .i64 o', .int .i64 h', .int .i64 l', .int .i64 c', .int .i64 q', .int .i64 z']] w
      fun x w' => x = .returned (behV o h l c q z o' h' l' c' q' z') ∧ Below w.heap.size w w' := by
  have hmx : max h h' = h := by omega
  have hmn : min l l' = l := by omega
  have HMX := Lib.hid hmx
  have HMN := Lib.hid hmn
  clear hmx hmn
  obtain ⟨b0, b1, b2⟩ := three_blocks w (.cells #[.int .i64 o, .int .i64 h, .int .i64 l, .int .i64 c, .int .i64 q, .int .i64 z] 44) (.cells #[.int .i64 o', .int .i64 h', .int .i64 l', .int .i64 c', .int .i64 q', .int .i64 z'] 44) (.cells #[.int .i64 0, .int .i64 0, .int .i64 0, .int .i64 0, .int .i64 0, .int .i64 0] 44)
  have hb0 : Below w.heap.size w (((w.alloc (.cells #[.int .i64 o, .int .i64 h, .int .i64 l, .int .i64 c, .int .i64 q, .int .i64 z] 44)).alloc (.cells #[.int .i64 o', .int .i64 h', .int .i64 l', .int .i64 c', .int .i64 q', .int .i64 z'] 44)).alloc (.cells #[.int .i64 0, .int .i64 0, .int .i64 0, .int .i64 0, .int .i64 0, .int .i64 0] 44)) := (((Below.refl _ _).alloc (Nat.le_refl _) _).alloc (by simp) _).alloc (by simp; omega) _
  have hs0 : (((w.alloc (.cells #[.int .i64 o, .int .i64 h, .int .i64 l, .int .i64 c, .int .i64 q, .int .i64 z] 44)).alloc (.cells #[.int .i64 o', .int .i64 h', .int .i64 l', .int .i64 c', .int .i64 q', .int .i64 z'] 44)).alloc (.cells #[.int .i64 0, .int .i64 0, .int .i64 0, .int .i64 0, .int .i64 0, .int .i64 0] 44)).heap.size = w.heap.size + 1 + 1 + 1 := by simp
  go_enter Try.func31, Try.ntmps31
  go_wp2_with fail
  generalize (((w.alloc (.cells #[.int .i64 o, .int .i64 h, .int .i64 l, .int .i64 c, .int .i64 q, .int .i64 z] 44)).alloc (.cells #[.int .i64 o', .int .i64 h', .int .i64 l', .int .i64 c', .int .i64 q', .int .i64 z'] 44)).alloc (.cells #[.int .i64 0, .int .i64 0, .int .i64 0, .int .i64 0, .int .i64 0, .int .i64 0] 44)) = w0 at *
  refine (spec_CandleOk o h l c q z w0).mono ?_
  rcases Bool.eq_false_or_eq_true (cdlB o h l c q z) with k1 | k1
  rotate_left
  · have HN := Lib.hid (behV_no (h0 := (show behB o h l c q z o' h' l' c' q' z' = false by simp [behB, k1])))
    rw [k1]
    rintro e w1 ⟨rfl, hb1⟩
    have d2 := (hb1.block (w.heap.size + 1 + 1) (by omega)).trans b2
    obtain ⟨f0, f1, f2, f3, f4, f5⟩ := free6 d2
    obtain ⟨c0, c1, c2, c3, c4, c5⟩ := cell6 d2
    have D2 := Lib.hid d2
    have hB := hb0.trans (hb1.mono hb0.size)
    clear k1 d2 hs0 b0 b1 b2 hb0 hb1
    go_wp2_with fail
    have r2 := put6 (u0 := .int .i64 0) (u1 := .int .i64 0) (u2 := .int .i64 0) (u3 := .int .i64 0) (u4 := .int .i64 0) (u5 := .int .i64 0) D2.out
    obtain ⟨e0, e1, e2, e3, e4, e5⟩ := cell6 r2
    refine bodyPost_ret (v := .tuple #[.agg #[.int .i64 0, .int .i64 0, .int .i64 0, .int .i64 0, .int .i64 0, .int .i64 0], .bool false]) (by simp [results, Try.results31, go_sem, e0, e1, e2, e3, e4, e5]) rfl ⟨by rw [HN.out], ?_⟩
    exact below6 hB (by omega) _ _ _ _ _ _
  have HK1 := Lib.hid k1
  rw [k1]
  clear k1
  rintro e w1 ⟨rfl, hb1⟩
  have hs1 : w.heap.size + 1 + 1 + 1 ≤ w1.heap.size := by have := hb1.size; omega
  have b0 := (hb1.block (w.heap.size) (by omega)).trans b0
  have b1 := (hb1.block (w.heap.size + 1) (by omega)).trans b1
  have b2 := (hb1.block (w.heap.size + 1 + 1) (by omega)).trans b2
  have hB1 := hb0.trans (hb1.mono hb0.size)
  clear hb0 hb1 hs0
  obtain ⟨c0, c1, c2, c3, c4, c5⟩ := cell6 b1
  go_wp2_with fail
  clear c0 c1 c2 c3 c4 c5
  refine (spec_CandleOk o' h' l' c' q' z' w1).mono ?_
  rcases Bool.eq_false_or_eq_true (cdlB o' h' l' c' q' z') with k1 | k1
  rotate_left
  · have HN := Lib.hid (behV_no (h0 := (show behB o h l c q z o' h' l' c' q' z' = false by simp [behB, k1])))
    rw [k1]
    rintro e w2 ⟨rfl, hb1⟩
    have d2 := (hb1.block (w.heap.size + 1 + 1) (by omega)).trans b2
    obtain ⟨f0, f1, f2, f3, f4, f5⟩ := free6 d2
    obtain ⟨c0, c1, c2, c3, c4, c5⟩ := cell6 d2
    have D2 := Lib.hid d2
    have hB := hB1.trans (hb1.mono hB1.size)
    clear k1 d2 b0 b1 b2 hB1 hb1
    go_wp2_with fail
    have r2 := put6 (u0 := .int .i64 0) (u1 := .int .i64 0) (u2 := .int .i64 0) (u3 := .int .i64 0) (u4 := .int .i64 0) (u5 := .int .i64 0) D2.out
    obtain ⟨e0, e1, e2, e3, e4, e5⟩ := cell6 r2
    refine bodyPost_ret (v := .tuple #[.agg #[.int .i64 0, .int .i64 0, .int .i64 0, .int .i64 0, .int .i64 0, .int .i64 0], .bool false]) (by simp [results, Try.results31, go_sem, e0, e1, e2, e3, e4, e5]) rfl ⟨by rw [HN.out], ?_⟩
    exact below6 hB (by omega) _ _ _ _ _ _
  have HK2 := Lib.hid k1
  rw [k1]
  clear k1
  rintro e w2 ⟨rfl, hb1⟩
  have hs2 : w.heap.size + 1 + 1 + 1 ≤ w2.heap.size := by have := hb1.size; omega
  have b0 := (hb1.block (w.heap.size) (by omega)).trans b0
  have b1 := (hb1.block (w.heap.size + 1) (by omega)).trans b1
  have b2 := (hb1.block (w.heap.size + 1 + 1) (by omega)).trans b2
  have hB2 := hB1.trans (hb1.mono hB1.size)
  clear hB1 hb1 hs1
  obtain ⟨c0, c1, c2, c3, c4, c5⟩ := cell6 b0
  obtain ⟨d0, d1, d2, d3, d4, d5⟩ := cell6 b1
  go_wp2_with fail
  clear c0 c1 c2 c3 c4 c5 d0 d1 d2 d3 d4 d5
  clear b0 b1
  have r2 := (Below.heap_alloc w2 (.cells #[.int .i64 o, .int .i64 h, .int .i64 l, .int .i64 c', .int .i64 (wrap64 (q + q')), .int .i64 (wrap64 (z + z'))] 44) (w.heap.size + 1 + 1) (by omega)).trans b2
  have rJ := heap_alloc_new w2 (.cells #[.int .i64 o, .int .i64 h, .int .i64 l, .int .i64 c', .int .i64 (wrap64 (q + q')), .int .i64 (wrap64 (z + z'))] 44)
  have hB4 := hB2.alloc hB2.size (.cells #[.int .i64 o, .int .i64 h, .int .i64 l, .int .i64 c', .int .i64 (wrap64 (q + q')), .int .i64 (wrap64 (z + z'))] 44)
  have hs4 : (w2.alloc (.cells #[.int .i64 o, .int .i64 h, .int .i64 l, .int .i64 c', .int .i64 (wrap64 (q + q')), .int .i64 (wrap64 (z + z'))] 44)).heap.size = w2.heap.size + 1 := by simp
  have hG : w.heap.size + 1 + 1 + 1 ≤ w2.heap.size := hs2
  go_wp2_with fail
  generalize w2.alloc (.cells #[.int .i64 o, .int .i64 h, .int .i64 l, .int .i64 c', .int .i64 (wrap64 (q + q')), .int .i64 (wrap64 (z + z'))] 44) = w4 at *
  generalize w2.heap.size = G at *
  refine (spec_CandleOk o h l c' (wrap64 (q + q')) (wrap64 (z + z')) w4).mono ?_
  rcases Bool.eq_false_or_eq_true (cdlB o h l c' (wrap64 (q + q')) (wrap64 (z + z'))) with k1 | k1
  rotate_left
  · have HN := Lib.hid (behV_no (h0 := (show behB o h l c q z o' h' l' c' q' z' = false by simp [behB, HMX.out, HMN.out, k1])))
    rw [k1]
    rintro e w5 ⟨rfl, hb5⟩
    have d2 := (hb5.block (w.heap.size + 1 + 1) (by omega)).trans r2
    obtain ⟨f0, f1, f2, f3, f4, f5⟩ := free6 d2
    obtain ⟨c0, c1, c2, c3, c4, c5⟩ := cell6 d2
    have D2 := Lib.hid d2
    have hB := hB4.trans (hb5.mono hB4.size)
    clear k1 d2 r2 rJ hB4 hb5 hs4
    go_wp2_with fail
    have r2 := put6 (u0 := .int .i64 0) (u1 := .int .i64 0) (u2 := .int .i64 0) (u3 := .int .i64 0) (u4 := .int .i64 0) (u5 := .int .i64 0) D2.out
    obtain ⟨e0, e1, e2, e3, e4, e5⟩ := cell6 r2
    refine bodyPost_ret (v := .tuple #[.agg #[.int .i64 0, .int .i64 0, .int .i64 0, .int .i64 0, .int .i64 0, .int .i64 0], .bool false]) (by simp [results, Try.results31, go_sem, e0, e1, e2, e3, e4, e5]) rfl ⟨by rw [HN.out], ?_⟩
    exact below6 hB (by omega) _ _ _ _ _ _
  have HN := Lib.hid (behV_yes (h0 := (show behB o h l c q z o' h' l' c' q' z' = true by simp [behB, HK1.out, HK2.out, HMX.out, HMN.out, k1])))
  rw [k1]
  rintro e w5 ⟨rfl, hb5⟩
  have d2 := (hb5.block (w.heap.size + 1 + 1) (by omega)).trans r2
  have dJ := (hb5.block G (by omega)).trans rJ
  obtain ⟨f0, f1, f2, f3, f4, f5⟩ := free6 d2
  obtain ⟨c0, c1, c2, c3, c4, c5⟩ := cell6 d2
  obtain ⟨g0, g1, g2, g3, g4, g5⟩ := cell6 dJ
  have D2 := Lib.hid d2
  have hB := hB4.trans (hb5.mono hB4.size)
  clear k1 d2 dJ r2 rJ hB4 hb5 hs4
  go_wp2_with fail
  have r3 := put6 (u0 := .int .i64 o) (u1 := .int .i64 h) (u2 := .int .i64 l) (u3 := .int .i64 c') (u4 := .int .i64 (wrap64 (q + q'))) (u5 := .int .i64 (wrap64 (z + z'))) D2.out
  obtain ⟨e0, e1, e2, e3, e4, e5⟩ := cell6 r3
  refine bodyPost_ret (v := .tuple #[.agg #[.int .i64 o, .int .i64 h, .int .i64 l, .int .i64 c', .int .i64 (wrap64 (q + q')), .int .i64 (wrap64 (z + z'))], .bool true]) (by simp [results, Try.results31, go_sem, e0, e1, e2, e3, e4, e5]) rfl ⟨by rw [HN.out, HMX.out, HMN.out], ?_⟩
  exact below6 hB (by omega) _ _ _ _ _ _
theorem spec_Behind (o h l c q z o' h' l' c' q' z' : Int) (w : World) :
    Calls Try.prog 31 #[.agg #[.int .i64 o, .int .i64 h, .int .i64 l, .int .i64 c, .int .i64 q, .int .i64 z], .agg #[.int .i64 o', .int .i64 h', .int .i64 l', .int .i64 c', .int .i64 q', .int .i64 z']] w
      fun x w' => x = .returned (behV o h l c q z o' h' l' c' q' z') ∧ Below w.heap.size w w' := by
  rcases (show h < h' ∨ h' ≤ h by omega) with hh | hh <;> rcases (show l' < l ∨ l ≤ l' by omega) with hl | hl
  · exact spec_Behind1 _ _ _ _ _ _ _ _ _ _ _ _ w hh hl
  · exact spec_Behind2 _ _ _ _ _ _ _ _ _ _ _ _ w hh hl
  · exact spec_Behind3 _ _ _ _ _ _ _ _ _ _ _ _ w hh hl
  · exact spec_Behind4 _ _ _ _ _ _ _ _ _ _ _ _ w hh hl
end Go.Proofs.Yteikflfchkmbnaa
