/-
  The book that the program opens: two lists of pointers to copies.
-/
import Derived.Test.YtempggikcpminaaSide
namespace Go.Proofs.Ytempggikcpminaa
open Go.RowKit Wire

theorem Opened.set {w : World} {X S L : Nat} {T0 T1 T2 : TypeId} {F : Value} {side : Int} {zs : List Int} {n : Nat} {v : Value} {gs : Nat → Nat} (h : Opened w X S L T0 T1 T2 F side zs n v gs) (g i : Nat) (u : Value) (hg : g < X) : Opened (w.setCell ⟨g, i, none⟩ u) X S L T0 T1 T2 F side zs n v gs :=
  ⟨h.low, (Below.heap_setCell w _ u S (by have := h.low.1; show S ≠ g; omega)).trans h.side, (Below.heap_setCell w _ u L (by have := h.low.2.1; show L ≠ g; omega)).trans h.list, h.own.kept (set_grown w g i u) (.inr (fun e => by have := (h.own.lt g e).1; omega)), h.far⟩
theorem Copies.set {w : World} {X S L : Nat} {T : TypeId} {zs : List Int} {n : Nat} {v : Value} {gs : Nat → Nat} (h : Copies w X S L T zs n v gs) (g i : Nat) (u : Value) (hg : g < X) : Copies (w.setCell ⟨g, i, none⟩ u) X S L T zs n v gs := fun k hk => by
  obtain ⟨h1, h2, h3, h4, h5⟩ := h k hk
  exact ⟨h1, h2, h3, h4, h5.setOther (a := ⟨g, i, none⟩) (by show gs k ≠ g; omega) _⟩
theorem heap_set1 {w : World} {L : Nat} {a b u : Value} {T : TypeId} (h : w.heap[L]? = some (.cells #[a, b] T (0, 0))) : (w.setCell ⟨L, 1, none⟩ u).heap[L]? = some (.cells #[a, u] T (0, 0)) := by
  simp [World.setCell, Array.getElem?_modify, h]
set_option linter.unusedSimpArgs false in
set_option maxHeartbeats 1600000 in
set_option maxRecDepth 100000 in
theorem impl_opened (A : Option Addr) (n c : Nat) (B : Option Addr) (m d : Nat) (za zb : List Int) (w : World) (ha : Lst w w.heap.size 4 A n za) (hb : Lst w w.heap.size 4 B m zb) (hn : n ≤ 1048576) (hm : m ≤ 1048576) :
    Calls Try.prog 39 #[.agg #[.slice A n c, .slice B m d]] w fun e w' => ∃ X1 S1 L1 v1 gs1 X2 S2 L2 v2 gs2, e = .returned (.agg #[.pointer (some ⟨L1, 0, none⟩), .pointer (some ⟨L2, 0, none⟩)]) ∧ (Opened w' X1 S1 L1 2 110 76 (.func (.func 104) #[] #[.pointer (some ⟨S1, 0, none⟩)]) 1 za n v1 gs1 ∧ Copies w' X1 S1 L1 28 za n v1 gs1) ∧ (Opened w' X2 S2 L2 2 110 76 (.func (.func 104) #[] #[.pointer (some ⟨S2, 0, none⟩)]) 2 zb m v2 gs2 ∧ Copies w' X2 S2 L2 28 zb m v2 gs2) ∧ w.heap.size ≤ X1 ∧ X1 ≤ X2 ∧ (S1 < X2 ∧ L1 < X2 ∧ (∀ q, v1.ownBlock = some q → q < X2) ∧ ∀ k, k < n → gs1 k < X2) ∧ Below w.heap.size w w' := by
  obtain ⟨k0, k1⟩ := two_blocks w (.cells #[.slice A n c, .slice B m d] 26) (.cells #[.pointer none, .pointer none] 68)
  have hb0 : Below w.heap.size w ((w.alloc (.cells #[.slice A n c, .slice B m d] 26)).alloc (.cells #[.pointer none, .pointer none] 68)) := ((Below.refl _ _).alloc (Nat.le_refl _) _).alloc (by simp) _
  have hs0 : w.heap.size + 1 < ((w.alloc (.cells #[.slice A n c, .slice B m d] 26)).alloc (.cells #[.pointer none, .pointer none] 68)).heap.size := by simp
  go_enter Try.func39, Try.ntmps39
  go_upto_region 1 with fail
  generalize ((w.alloc (.cells #[.slice A n c, .slice B m d] 26)).alloc (.cells #[.pointer none, .pointer none] 68)) = w0 at *
  have p0 := cell_of_row w0 w.heap.size 0 _ _ (0, 0) k0
  have p1 := cell_of_row w0 w.heap.size 1 _ _ (0, 0) k0
  simp at p0 p1
  refine wp_region_held_drew (S := (fun w' => Below w.heap.size w w' ∧ w'.cell? ⟨w.heap.size, 0, none⟩ = some (.slice A n c) ∧ w'.cell? ⟨w.heap.size, 1, none⟩ = some (.slice B m d) ∧ w.heap.size + 1 < w'.heap.size ∧ ∃ x y, w'.heap[w.heap.size + 1]? = some (.cells #[x, y] 68 (0, 0)))) (by kernel_rfl) ?hS0 (fun hHeld => ?rest0)
  case hS0 => exact ⟨hb0.drew, p0, p1, hs0, _, _, k1⟩
  refine wpAnyH_take (i := 0) (oi := ?oio1) (v := ?vo1) ?hio1 (by kernel_rfl) (by kernel_rfl) (by kernel_rfl) ?hQo1 (Or.inl ⟨?hwo1, ?hyo1⟩) (by assumption) ?resto1
  case hio1 => simp only [List.getElem?_toArray, List.getElem?_cons_succ, List.getElem?_cons_zero]; exact rfl
  case hQo1 => exact fun _ _ _ h => h
  case hwo1 => rfl
  case hyo1 => ((intro w hSw; (try dsimp only at hSw); go_simp) <;> with_reducible rfl)
  try simp only [Act.put, List.setIfInBounds_toArray, List.set_cons_zero, List.set_cons_succ]
  refine wpAnyH_take (i := 1) (oi := ?oio2) (v := ?vo2) ?hio2 (by kernel_rfl) (by kernel_rfl) (by kernel_rfl) ?hQo2 (Or.inl ⟨?hwo2, ?hyo2⟩) (by assumption) ?resto2
  case hio2 => simp only [List.getElem?_toArray, List.getElem?_cons_succ, List.getElem?_cons_zero]; exact rfl
  case hQo2 => exact fun _ _ _ h => h
  case hwo2 => rfl
  case hyo2 => ((intro w hSw; (try dsimp only at hSw); go_simp) <;> with_reducible rfl)
  try simp only [Act.put, List.setIfInBounds_toArray, List.set_cons_zero, List.set_cons_succ]
  refine wpAnyH_take (i := 3) (oi := ?oio3) (v := ?vo3) ?hio3 (by kernel_rfl) (by kernel_rfl) (by kernel_rfl) ?hQo3 (Or.inl ⟨?hwo3, ?hyo3⟩) (by assumption) ?resto3
  case hio3 => simp only [List.getElem?_toArray, List.getElem?_cons_succ, List.getElem?_cons_zero]; exact rfl
  case hQo3 => exact fun _ _ _ h => h
  case hwo3 => rfl
  case hyo3 => ((intro w hSw; (try dsimp only at hSw); go_simp) <;> with_reducible rfl)
  try simp only [Act.put, List.setIfInBounds_toArray, List.set_cons_zero, List.set_cons_succ]
  refine wpAnyH_take (i := 4) (oi := ?oio4) (v := ?vo4) ?hio4 (by kernel_rfl) (by kernel_rfl) (by kernel_rfl) ?hQo4 (Or.inl ⟨?hwo4, ?hyo4⟩) (by assumption) ?resto4
  case hio4 => simp only [List.getElem?_toArray, List.getElem?_cons_succ, List.getElem?_cons_zero]; exact rfl
  case hQo4 => exact fun _ _ _ h => h
  case hwo4 => rfl
  case hyo4 => ((intro w hSw; (try dsimp only at hSw); go_simp) <;> with_reducible rfl)
  try simp only [Act.put, List.setIfInBounds_toArray, List.set_cons_zero, List.set_cons_succ]
  refine wpAnyH_ready (rs := [2]) (by kernel_rfl) (by simp) ?_
  refine AllReadyH.cons (o := ?oo5) ?hoo5 (fun K hK => ?stepo5) ?moreo5
  case hoo5 => simp only [List.getElem?_toArray, List.getElem?_cons_succ, List.getElem?_cons_zero]; exact rfl
  case moreo5 => exact AllReadyH.nil
  have hG1 := hHeld.2.2.2.1
  go_simp
  go_at_call 71
  refine (impl_openedSide A n c za 1 _ ((ha.below hHeld.1).more hHeld.1.size) hn).mono ?_
  rintro e u1 ⟨S1, L1, v1, gs1, rfl, hop1, hcp1, hb1'⟩
  refine hK.out _ _ ?hSo5 (fun hHeld => ?resto5)
  case hSo5 => exact ⟨hHeld.1.trans (hb1'.mono hHeld.1.size), (hb1'.cell (p := ⟨w.heap.size, 0, none⟩) (show w.heap.size < _ by omega)).trans hHeld.2.1, (hb1'.cell (p := ⟨w.heap.size, 1, none⟩) (show w.heap.size < _ by omega)).trans hHeld.2.2.1, Nat.lt_of_lt_of_le hG1 hb1'.size, by obtain ⟨x, y, h⟩ := hHeld.2.2.2.2; exact ⟨x, y, (hb1'.block _ hG1).trans h⟩⟩
  clear hK K
  try simp only [Act.put, List.setIfInBounds_toArray, List.set_cons_zero, List.set_cons_succ]
  have hN1 : S1 < u1.heap.size ∧ L1 < u1.heap.size ∧ (∀ q, v1.ownBlock = some q → q < u1.heap.size) ∧ ∀ k, k < n → gs1 k < u1.heap.size := ⟨heap_lt hop1.side, heap_lt hop1.list, fun q hq => (hop1.own.lt q hq).2, fun k hk => (hcp1 k hk).2.2.2.2.lt⟩
  refine wpAnyH_ready (rs := [5]) (by kernel_rfl) (by simp) ?_
  refine AllReadyH.cons (o := ?oo6) ?hoo6 (fun K hK => ?stepo6) ?moreo6
  case hoo6 => simp only [List.getElem?_toArray, List.getElem?_cons_succ, List.getElem?_cons_zero]; exact rfl
  case moreo6 => exact AllReadyH.nil
  have hG2 := hHeld.2.2.2.1
  go_simp
  go_at_call 71
  refine (impl_openedSide B m d zb 2 _ ((hb.below hHeld.1).more hHeld.1.size) hm).mono ?_
  rintro e u2 ⟨S2, L2, v2, gs2, rfl, hop2, hcp2, hb2'⟩
  refine hK.out _ _ ?hSo6 (fun hHeld => ?resto6)
  case hSo6 => exact ⟨hHeld.1.trans (hb2'.mono hHeld.1.size), (hb2'.cell (p := ⟨w.heap.size, 0, none⟩) (show w.heap.size < _ by omega)).trans hHeld.2.1, (hb2'.cell (p := ⟨w.heap.size, 1, none⟩) (show w.heap.size < _ by omega)).trans hHeld.2.2.1, Nat.lt_of_lt_of_le hG2 hb2'.size, by obtain ⟨x, y, h⟩ := hHeld.2.2.2.2; exact ⟨x, y, (hb2'.block _ hG2).trans h⟩⟩
  clear hK K
  try simp only [Act.put, List.setIfInBounds_toArray, List.set_cons_zero, List.set_cons_succ]
  have hop1 := hop1.below hb2'
  have hcp1 := hcp1.below hb2'
  obtain ⟨x, y, hr⟩ := hHeld.2.2.2.2
  refine wpAnyH_take (i := 6) (oi := ?oio7) (v := ?vo7) ?hio7 (by kernel_rfl) (by kernel_rfl) (by kernel_rfl) ?hQo7 (Or.inl ⟨?hwo7, ?hyo7⟩) (by assumption) ?resto7
  case hio7 => simp only [List.getElem?_toArray, List.getElem?_cons_succ, List.getElem?_cons_zero]; exact rfl
  case hQo7 => exact fun _ _ _ h => h
  case hwo7 => rfl
  case hyo7 => ((intro w hSw; (try dsimp only at hSw); go_simp) <;> with_reducible rfl)
  try simp only [Act.put, List.setIfInBounds_toArray, List.set_cons_zero, List.set_cons_succ]
  refine wpAnyH_ready (rs := [7]) (by kernel_rfl) (by simp) ?_
  refine AllReadyH.cons (o := ?oo8) ?hoo8 (fun K hK => ?stepo8) ?moreo8
  case hoo8 => simp only [List.getElem?_toArray, List.getElem?_cons_succ, List.getElem?_cons_zero]; exact rfl
  case moreo8 => exact AllReadyH.nil
  have hX := hHeld
  have r0 := cell_of_row u2 (w.heap.size + 1) 0 _ _ (0, 0) hr
  have r1 := cell_of_row u2 (w.heap.size + 1) 1 _ _ (0, 0) hr
  have z0 := frozen_of_row u2 (w.heap.size + 1) 0 _ _ hr
  have z1 := frozen_of_row u2 (w.heap.size + 1) 1 _ _ hr
  simp at r0 r1
  go_simp
  refine hK.out _ _ ?hSo8 (fun hHeld => ?resto8)
  case hSo8 => exact ⟨(hX.1.setCell (p := ⟨w.heap.size + 1, 0, none⟩) (show w.heap.size ≤ w.heap.size + 1 by omega) _).setCell (p := ⟨w.heap.size + 1, 1, none⟩) (show w.heap.size ≤ w.heap.size + 1 by omega) _, by simp [go_sem, hX.2.1], by simp [go_sem, hX.2.2.1], by simpa [World.setCell] using hX.2.2.2.1, _, _, heap_set1 (heap_set0 hr)⟩
  clear hK K
  try simp only [Act.put, List.setIfInBounds_toArray, List.set_cons_zero, List.set_cons_succ]
  refine wpAnyH_done (by kernel_rfl) ?_ _
  have f0 := cell_of_row _ (w.heap.size + 1) 0 _ _ (0, 0) (heap_set1 (b := y) (u := .pointer (some ⟨L2, 0, none⟩)) (heap_set0 (u := .pointer (some ⟨L1, 0, none⟩)) hr))
  have f1 := cell_of_row _ (w.heap.size + 1) 1 _ _ (0, 0) (heap_set1 (b := y) (u := .pointer (some ⟨L2, 0, none⟩)) (heap_set0 (u := .pointer (some ⟨L1, 0, none⟩)) hr))
  simp at f0 f1
  have hz1 := hb1'.size
  go_wp2_with fail
  refine bodyPost_ret (v := .agg #[.pointer (some ⟨L1, 0, none⟩), .pointer (some ⟨L2, 0, none⟩)]) (by simp [results, Try.results39, go_sem, f0, f1]) rfl ⟨_, S1, L1, v1, gs1, _, S2, L2, v2, gs2, rfl, ⟨(hop1.set _ _ _ ?_).set _ _ _ ?_, (hcp1.set _ _ _ ?_).set _ _ _ ?_⟩, ⟨(hop2.set _ _ _ ?_).set _ _ _ ?_, (hcp2.set _ _ _ ?_).set _ _ _ ?_⟩, ?_, ?_, hN1, hHeld.1⟩ <;> omega
end Go.Proofs.Ytempggikcpminaa
