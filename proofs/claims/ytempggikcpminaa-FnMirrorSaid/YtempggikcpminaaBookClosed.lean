/-
  The opened book closed again: two fresh slices of orders.
-/
import Derived.Test.YtempggikcpminaaTake
namespace Go.Proofs.Ytempggikcpminaa
open Go.RowKit Wire

set_option linter.unusedSimpArgs false in
set_option maxHeartbeats 1600000 in
set_option maxRecDepth 100000 in
theorem impl_closed (X1 S1 L1 X2 S2 L2 n m : Nat) (v1 v2 : Value) (gs1 gs2 : Nat → Nat) (za zb : List Int) (w : World) (hop1 : Opened w X1 S1 L1 2 110 76 (.func (.func 104) #[] #[.pointer (some ⟨S1, 0, none⟩)]) 1 za n v1 gs1) (hcp1 : Copies w X1 S1 L1 28 za n v1 gs1) (hop2 : Opened w X2 S2 L2 2 110 76 (.func (.func 104) #[] #[.pointer (some ⟨S2, 0, none⟩)]) 2 zb m v2 gs2) (hcp2 : Copies w X2 S2 L2 28 zb m v2 gs2) (hn : n ≤ 1048576) (hm : m ≤ 1048576) (hza : za.length = n * 4) (hzb : zb.length = m * 4) :
    Calls Try.prog 44 #[.agg #[.pointer (some ⟨L1, 0, none⟩), .pointer (some ⟨L2, 0, none⟩)]] w fun e w' => (∃ r1 r2, e = .returned (.agg #[r1, r2]) ∧ w'.ownsRow w.heap.size 28 4 r1 n (nums za) ∧ w'.ownsRow w.heap.size 28 4 r2 m (nums zb) ∧ ∀ q, r1.ownBlock = some q → r2.ownBlock ≠ some q) ∧ Below w.heap.size w w' := by
  obtain ⟨k0, k1⟩ := two_blocks w (.cells #[.pointer (some ⟨L1, 0, none⟩), .pointer (some ⟨L2, 0, none⟩)] 68) (.cells #[.slice none 0 0, .slice none 0 0] 26)
  have hb0 : Below w.heap.size w ((w.alloc (.cells #[.pointer (some ⟨L1, 0, none⟩), .pointer (some ⟨L2, 0, none⟩)] 68)).alloc (.cells #[.slice none 0 0, .slice none 0 0] 26)) := ((Below.refl _ _).alloc (Nat.le_refl _) _).alloc (by simp) _
  have hs0 : w.heap.size + 1 < ((w.alloc (.cells #[.pointer (some ⟨L1, 0, none⟩), .pointer (some ⟨L2, 0, none⟩)] 68)).alloc (.cells #[.slice none 0 0, .slice none 0 0] 26)).heap.size := by simp
  go_enter Try.func44, Try.ntmps44
  go_upto_region 1 with fail
  generalize ((w.alloc (.cells #[.pointer (some ⟨L1, 0, none⟩), .pointer (some ⟨L2, 0, none⟩)] 68)).alloc (.cells #[.slice none 0 0, .slice none 0 0] 26)) = w0 at *
  have p0 := cell_of_row w0 w.heap.size 0 _ _ (0, 0) k0
  have p1 := cell_of_row w0 w.heap.size 1 _ _ (0, 0) k0
  simp at p0 p1
  refine wp_region_held_drew (S := (fun w' => Below w.heap.size w w' ∧ w'.cell? ⟨w.heap.size, 0, none⟩ = some (.pointer (some ⟨L1, 0, none⟩)) ∧ w'.cell? ⟨w.heap.size, 1, none⟩ = some (.pointer (some ⟨L2, 0, none⟩)) ∧ w.heap.size + 1 < w'.heap.size ∧ ∃ x y, w'.heap[w.heap.size + 1]? = some (.cells #[x, y] 26 (0, 0)))) (by kernel_rfl) ?hS0 (fun hHeld => ?rest0)
  case hS0 => exact ⟨hb0.drew, p0, p1, hs0, _, _, k1⟩
  refine wpAnyH_take (i := 0) (oi := ?oio1) (v := ?vo1) ?hio1 (by kernel_rfl) (by kernel_rfl) (by kernel_rfl) ?hQo1 (Or.inl ⟨?hwo1, ?hyo1⟩) (by assumption) ?resto1
  case hio1 => simp only [List.getElem?_toArray, List.getElem?_cons_succ, List.getElem?_cons_zero]; exact rfl
  case hQo1 => exact fun _ _ _ h => h
  case hwo1 => rfl
  case hyo1 => ((intro w hSw; (try dsimp only at hSw); go_simp) <;> with_reducible rfl)
  try simp only [Act.put, List.setIfInBounds_toArray, List.set_cons_zero, List.set_cons_succ]
  refine wpAnyH_take (i := 1) (oi := ?oio2) (v := ?vo2) ?hio2 (by kernel_rfl) (by kernel_rfl) (by kernel_rfl) ?hQo2 (Or.inl ⟨?hwo2, ?hyo2⟩) (by assumption) ?resto2
  case hio2 => simp only [List.getElem?_toArray, List.getElem?_cons_succ, List.getElem?_cons_zero]; exact rfl
  case hQo2 => exact fun _ _ _ h => h
  case hwo2 => rfl
  case hyo2 => ((intro w hSw; (try dsimp only at hSw); go_simp) <;> with_reducible rfl)
  try simp only [Act.put, List.setIfInBounds_toArray, List.set_cons_zero, List.set_cons_succ]
  refine wpAnyH_take (i := 3) (oi := ?oio3) (v := ?vo3) ?hio3 (by kernel_rfl) (by kernel_rfl) (by kernel_rfl) ?hQo3 (Or.inl ⟨?hwo3, ?hyo3⟩) (by assumption) ?resto3
  case hio3 => simp only [List.getElem?_toArray, List.getElem?_cons_succ, List.getElem?_cons_zero]; exact rfl
  case hQo3 => exact fun _ _ _ h => h
  case hwo3 => rfl
  case hyo3 => ((intro w hSw; (try dsimp only at hSw); go_simp) <;> with_reducible rfl)
  try simp only [Act.put, List.setIfInBounds_toArray, List.set_cons_zero, List.set_cons_succ]
  refine wpAnyH_take (i := 4) (oi := ?oio4) (v := ?vo4) ?hio4 (by kernel_rfl) (by kernel_rfl) (by kernel_rfl) ?hQo4 (Or.inl ⟨?hwo4, ?hyo4⟩) (by assumption) ?resto4
  case hio4 => simp only [List.getElem?_toArray, List.getElem?_cons_succ, List.getElem?_cons_zero]; exact rfl
  case hQo4 => exact fun _ _ _ h => h
  case hwo4 => rfl
  case hyo4 => ((intro w hSw; (try dsimp only at hSw); go_simp) <;> with_reducible rfl)
  try simp only [Act.put, List.setIfInBounds_toArray, List.set_cons_zero, List.set_cons_succ]
  refine wpAnyH_ready (rs := [2]) (by kernel_rfl) (by simp) ?_
  refine AllReadyH.cons (o := ?oo5) ?hoo5 (fun K hK => ?stepo5) ?moreo5
  case hoo5 => simp only [List.getElem?_toArray, List.getElem?_cons_succ, List.getElem?_cons_zero]; exact rfl
  case moreo5 => exact AllReadyH.nil
  have hG1 := hHeld.2.2.2.1
  go_simp
  go_at_call 79
  refine (impl_closedSide X1 S1 L1 n 1 za v1 gs1 _ (hop1.below hHeld.1) (hcp1.below hHeld.1) hn hza).mono ?_
  rintro e u1 ⟨r1, rfl, hr1, hb1'⟩
  have hsz1 := hHeld.1.size
  have lr1 := hr1.lt
  refine hK.out _ _ ?hSo5 (fun hHeld => ?resto5)
  case hSo5 => exact ⟨hHeld.1.trans (hb1'.mono hHeld.1.size), (hb1'.cell (p := ⟨w.heap.size, 0, none⟩) (show w.heap.size < _ by omega)).trans hHeld.2.1, (hb1'.cell (p := ⟨w.heap.size, 1, none⟩) (show w.heap.size < _ by omega)).trans hHeld.2.2.1, Nat.lt_of_lt_of_le hG1 hb1'.size, by obtain ⟨x, y, h⟩ := hHeld.2.2.2.2; exact ⟨x, y, (hb1'.block _ hG1).trans h⟩⟩
  clear hK K
  try simp only [Act.put, List.setIfInBounds_toArray, List.set_cons_zero, List.set_cons_succ]
  refine wpAnyH_ready (rs := [5]) (by kernel_rfl) (by simp) ?_
  refine AllReadyH.cons (o := ?oo6) ?hoo6 (fun K hK => ?stepo6) ?moreo6
  case hoo6 => simp only [List.getElem?_toArray, List.getElem?_cons_succ, List.getElem?_cons_zero]; exact rfl
  case moreo6 => exact AllReadyH.nil
  have hG2 := hHeld.2.2.2.1
  go_simp
  go_at_call 79
  refine (impl_closedSide X2 S2 L2 m 2 zb v2 gs2 _ (hop2.below hHeld.1) (hcp2.below hHeld.1) hm hzb).mono ?_
  rintro e u2 ⟨r2, rfl, hr2, hb2'⟩
  have hsz2 := hHeld.1.size
  have lr2 := hr2.lt
  refine hK.out _ _ ?hSo6 (fun hHeld => ?resto6)
  case hSo6 => exact ⟨hHeld.1.trans (hb2'.mono hHeld.1.size), (hb2'.cell (p := ⟨w.heap.size, 0, none⟩) (show w.heap.size < _ by omega)).trans hHeld.2.1, (hb2'.cell (p := ⟨w.heap.size, 1, none⟩) (show w.heap.size < _ by omega)).trans hHeld.2.2.1, Nat.lt_of_lt_of_le hG2 hb2'.size, by obtain ⟨x, y, h⟩ := hHeld.2.2.2.2; exact ⟨x, y, (hb2'.block _ hG2).trans h⟩⟩
  clear hK K
  try simp only [Act.put, List.setIfInBounds_toArray, List.set_cons_zero, List.set_cons_succ]
  have hr1 := own_below hr1 hb2'
  obtain ⟨A1, d1, rfl, _, _⟩ := own_slice hr1
  obtain ⟨A2, d2, rfl, _, _⟩ := own_slice hr2
  have hz1 := hb1'.size
  have hne : ∀ q, (Value.slice A1 n d1).ownBlock = some q → (Value.slice A2 m d2).ownBlock ≠ some q := fun q h1 h2 => by have a := (lr1 q h1).2; have b := (lr2 q h2).1; omega
  obtain ⟨x, y, hr⟩ := hHeld.2.2.2.2
  refine wpAnyH_take (i := 6) (oi := ?oio7) (v := ?vo7) ?hio7 (by kernel_rfl) (by kernel_rfl) (by kernel_rfl) ?hQo7 (Or.inl ⟨?hwo7, ?hyo7⟩) (by assumption) ?resto7
  case hio7 => simp only [List.getElem?_toArray, List.getElem?_cons_succ, List.getElem?_cons_zero]; exact rfl
  case hQo7 => exact fun _ _ _ h => h
  case hwo7 => rfl
  case hyo7 => ((intro w hSw; (try dsimp only at hSw); go_simp) <;> with_reducible rfl)
  try simp only [Act.put, List.setIfInBounds_toArray, List.set_cons_zero, List.set_cons_succ]
  refine wpAnyH_ready (rs := [7]) (by kernel_rfl) (by simp) ?_
  refine AllReadyH.cons (o := ?oo8) ?hoo8 (fun K hK => ?stepo8) ?moreo8
  case hoo8 => simp only [List.getElem?_toArray, List.getElem?_cons_succ, List.getElem?_cons_zero]; exact rfl
  case moreo8 => exact AllReadyH.nil
  have hX := hHeld
  have r0 := cell_of_row u2 (w.heap.size + 1) 0 _ _ (0, 0) hr
  have r1 := cell_of_row u2 (w.heap.size + 1) 1 _ _ (0, 0) hr
  have z0 := frozen_of_row u2 (w.heap.size + 1) 0 _ _ hr
  have z1 := frozen_of_row u2 (w.heap.size + 1) 1 _ _ hr
  simp at r0 r1
  go_simp
  refine hK.out _ _ ?hSo8 (fun hHeld => ?resto8)
  case hSo8 => exact ⟨(hX.1.setCell (p := ⟨w.heap.size + 1, 0, none⟩) (show w.heap.size ≤ w.heap.size + 1 by omega) _).setCell (p := ⟨w.heap.size + 1, 1, none⟩) (show w.heap.size ≤ w.heap.size + 1 by omega) _, by simp [go_sem, hX.2.1], by simp [go_sem, hX.2.2.1], by simpa [World.setCell] using hX.2.2.2.1, _, _, heap_set1 (heap_set0 hr)⟩
  clear hK K
  try simp only [Act.put, List.setIfInBounds_toArray, List.set_cons_zero, List.set_cons_succ]
  refine wpAnyH_done (by kernel_rfl) ?_ _
  have f0 := cell_of_row _ (w.heap.size + 1) 0 _ _ (0, 0) (heap_set1 (b := y) (u := .slice A2 m d2) (heap_set0 (u := .slice A1 n d1) hr))
  have f1 := cell_of_row _ (w.heap.size + 1) 1 _ _ (0, 0) (heap_set1 (b := y) (u := .slice A2 m d2) (heap_set0 (u := .slice A1 n d1) hr))
  simp at f0 f1
  have E0 := Lib.hid hr1
  have E1 := Lib.hid hr2
  go_wp2_with fail
  have ap : ∀ {B : Nat} {v : Value} {N : Nat} {xs : List Value}, u2.ownsRow B 28 4 v N xs → w.heap.size + 1 < B → ((u2.setCell ⟨w.heap.size + 1, 0, none⟩ (.slice A1 n d1)).setCell ⟨w.heap.size + 1, 1, none⟩ (.slice A2 m d2)).ownsRow w.heap.size 28 4 v N xs := fun h hB => by
    have h1 := own_apart h (set_grown u2 (w.heap.size + 1) 0 (.slice A1 n d1)) (fun q hq e => by have := (h.lt q hq).1; injection e with e; omega)
    exact own_mono (own_apart h1 (set_grown _ (w.heap.size + 1) 1 (.slice A2 m d2)) (fun q hq e => by have := (h.lt q hq).1; injection e with e; omega)) (by omega)
  exact bodyPost_ret (v := .agg #[.slice A1 n d1, .slice A2 m d2]) (by simp [results, Try.results44, go_sem, f0, f1]) rfl ⟨⟨_, _, rfl, ap E0.out hG1, ap E1.out hG2, hne⟩, hHeld.1⟩
end Go.Proofs.Ytempggikcpminaa
