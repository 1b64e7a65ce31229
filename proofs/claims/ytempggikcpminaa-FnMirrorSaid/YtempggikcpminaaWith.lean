/-
  The document's copy of a book, and a book with other orders on a side.
-/
import Derived.Test.YtempggikcpminaaGH
import Derived.Test.YtempggikcpminaaFindS
namespace Go.Proofs.Ytempggikcpminaa
open Go.RowKit Wire

theorem cell_al {w : World} {a : Addr} {u : Value} (o : Obj) (h : w.cell? a = some u) : (w.alloc o).cell? a = some u :=
  (World.cell?_alloc_some w a o (by rw [h]; rfl)).trans h
theorem some_at {v v' : Value} {q : Nat} (h : v'.ownBlock = v.ownBlock ∨ v'.ownBlock = some q) (hv : v.ownBlock.isSome = true) : v'.ownBlock.isSome = true := by
  rcases h with h | h
  · rw [h]; exact hv
  · rw [h]; rfl
def CpS (w : World) (v1 v2 : Value) (T : TypeId) (w' : World) : Prop := Below w.heap.size w w' ∧ w'.cell? ⟨w.heap.size, 0, none⟩ = some v1 ∧ w'.cell? ⟨w.heap.size, 1, none⟩ = some v2 ∧ w.heap.size + 2 ≤ w'.heap.size ∧ ∃ x y, w'.heap[w.heap.size + 1]? = some (.cells #[x, y] T (0, 0))
theorem cpS_alloc {w W : World} {v1 v2 : Value} {T : TypeId} (h : CpS w v1 v2 T W) (o : Obj) : CpS w v1 v2 T (W.alloc o) :=
  ⟨h.1.alloc h.1.size _, cell_al _ h.2.1, cell_al _ h.2.2.1, by have := h.2.2.2.1; simp; omega, by obtain ⟨x, y, hr⟩ := h.2.2.2.2; exact ⟨x, y, (Below.heap_alloc W o _ (by have := h.2.2.2.1; omega)).trans hr⟩⟩
theorem cpS_grown {w W W' : World} {v1 v2 : Value} {T : TypeId} {row : Option Nat} (h : CpS w v1 v2 T W) (hg : W.grownBy W' row) (hr : ∀ q, row = some q → w.heap.size + 2 ≤ q) : CpS w v1 v2 T W' :=
  ⟨h.1.grown hg h.1.size (fun q hq => by have := hr q hq; omega), hg.cell h.2.1 (fun e => by have := hr _ e.symm; simp at this; omega), hg.cell h.2.2.1 (fun e => by have := hr _ e.symm; simp at this; omega), Nat.le_trans h.2.2.2.1 hg.size, by obtain ⟨x, y, hx⟩ := h.2.2.2.2; exact ⟨x, y, (hg.block _ (by have := h.2.2.2.1; omega) (fun e => by have := hr _ e.symm; omega)).trans hx⟩⟩
theorem cpS_set {w W : World} {v1 v2 : Value} {T : TypeId} (h : CpS w v1 v2 T W) (x y : Value) : CpS w v1 v2 T ((W.setCell ⟨w.heap.size + 1, 0, none⟩ x).setCell ⟨w.heap.size + 1, 1, none⟩ y) :=
  ⟨(h.1.setCell (p := ⟨w.heap.size + 1, 0, none⟩) (show w.heap.size ≤ w.heap.size + 1 by omega) x).setCell (p := ⟨w.heap.size + 1, 1, none⟩) (show w.heap.size ≤ w.heap.size + 1 by omega) y, (World.cell?_setCell_far _ _ _ _ (show w.heap.size + 1 ≠ w.heap.size by omega)).trans ((World.cell?_setCell_far _ _ _ _ (show w.heap.size + 1 ≠ w.heap.size by omega)).trans h.2.1), (World.cell?_setCell_far _ _ _ _ (show w.heap.size + 1 ≠ w.heap.size by omega)).trans ((World.cell?_setCell_far _ _ _ _ (show w.heap.size + 1 ≠ w.heap.size by omega)).trans h.2.2.1), by simpa [World.setCell] using h.2.2.2.1, by obtain ⟨a, b, hr⟩ := h.2.2.2.2; exact ⟨_, _, heap_set1 (heap_set0 hr)⟩⟩
theorem cpS_put {w W : World} {v1 v2 : Value} {T : TypeId} (h : CpS w v1 v2 T W) (x y : Value) : Below w.heap.size w ((W.setCell ⟨w.heap.size + 1, 0, none⟩ x).setCell ⟨w.heap.size + 1, 1, none⟩ y) :=
  (h.1.setCell (p := ⟨w.heap.size + 1, 0, none⟩) (show w.heap.size ≤ w.heap.size + 1 by omega) x).setCell (p := ⟨w.heap.size + 1, 1, none⟩) (show w.heap.size ≤ w.heap.size + 1 by omega) y
/-- an empty row of orders is appended to: one operation of a region -/
theorem step_app (w : World) {ops : Array Oper} {o : Oper} {a : Act} {K : Act → World → Prop} {Q : Exit → Act → World → Prop} {E : Prop} (hgd : o.guard = none) (s x : Operand) (ho : o.op = .call { callee := .builtin .append, args := #[s, x], argTypes := #[24, 24] })
    (base : Nat) (v : Value) (hs : a.eval s = v) (hown : w.ownsRow base 28 4 v 0 []) (A : Option Addr) (m c : Nat) (hA : A = none → m = 0 ∧ c = 0) (zs : List Int) (hx : a.eval x = .slice A m c) (B : Nat) (hl : Lst w B 4 A m zs) (hm : m ≤ 1048576) (hbase : base ≤ w.heap.size)
    (h : ∀ v' w', w'.ownsRow base 28 4 v' m (nums zs) → w.grownBy w' v.ownBlock → (v'.ownBlock = v.ownBlock ∨ v'.ownBlock = some w.heap.size) → K (a.put o.dst v') w') :
    if Region.wanted o (yielded ops a.tmps) = true then Oper.wp Try.prog o a w K Q else E := by
  obtain ⟨i0, hi, hz0, hz1, hz2⟩ := info_parts ord_info
  rw [if_pos (by simp [Region.wanted, hgd])]
  cases A with
  | some ad =>
    obtain ⟨v', w', hr, h2, h3, h4, h5⟩ := run_append_own_at (P := Try.prog) w base 24 o.type 28 i0 _ 4 32 Try.underlying24 hi hz0 hz1 hz2 rfl (by decide) v 0 [] hown ad m c (nums zs) (by rw [nums_length]; exact hl.1) hl.news (nums_one _) (by unfold maxLen; omega) (by omega) hbase
    rw [Nat.zero_add, List.nil_append] at h2
    unfold Oper.wp execOp
    simp only [ho, resolve, invoke, builtin, Sem.run_bind, Sem.run_pure, Result.andThen_ok, List.map_toArray, List.map_cons, List.map_nil, hs, hx]
    simp only [hr]
    exact h v' w' h2 h3 h5
  | none =>
    obtain ⟨rfl, rfl⟩ := hA rfl
    have e0 : zs = [] := List.eq_nil_of_length_eq_zero (by have := hl.1; omega)
    subst e0
    have hr := run_append_owned_none (P := Try.prog) (w := w) base 24 o.type 28 i0 4 Try.underlying24 hi v 0 [] hown
    unfold Oper.wp execOp
    simp only [ho, resolve, invoke, builtin, Sem.run_bind, Sem.run_pure, Result.andThen_ok, List.map_toArray, List.map_cons, List.map_nil, hs, hx]
    simp only [hr]
    exact h v w hown (World.grownBy.refl _ _) (.inl rfl)
set_option linter.unusedSimpArgs false in
set_option maxHeartbeats 3200000 in
set_option maxRecDepth 100000 in
theorem spec_l2CopyO (O1 : Option Addr) (n c : Nat) (O2 : Option Addr) (m d : Nat) (za zb : List Int) (w : World) (ha : Lst w w.heap.size 4 O1 n za) (hb : Lst w w.heap.size 4 O2 m zb) (hn : n ≤ 1048576) (hm : m ≤ 1048576) (hO1 : O1 = none → n = 0 ∧ c = 0) (hO2 : O2 = none → m = 0 ∧ d = 0) :
    Calls Try.prog 47 #[.agg #[.slice O1 n c, .slice O2 m d]] w fun e w' => (∃ r1 r2, e = .returned (.agg #[r1, r2]) ∧ TwoRows w' w.heap.size r1 n za r2 m zb ∧ r1.ownBlock.isSome = true ∧ r2.ownBlock.isSome = true) ∧ Below w.heap.size w w' := by
  obtain ⟨i0, hi, hz0, hz1, hz2⟩ := info_parts ord_info
  obtain ⟨k0, k1⟩ := two_blocks w (.cells #[.slice O1 n c, .slice O2 m d] 26) (.cells #[.slice none 0 0, .slice none 0 0] 26)
  have hb0 : Below w.heap.size w ((w.alloc (.cells #[.slice O1 n c, .slice O2 m d] 26)).alloc (.cells #[.slice none 0 0, .slice none 0 0] 26)) := ((Below.refl _ _).alloc (Nat.le_refl _) _).alloc (by simp) _
  have hs0 : w.heap.size + 2 ≤ ((w.alloc (.cells #[.slice O1 n c, .slice O2 m d] 26)).alloc (.cells #[.slice none 0 0, .slice none 0 0] 26)).heap.size := by simp
  go_enter Try.func47, Try.ntmps47
  go_upto_region 1 with fail
  generalize ((w.alloc (.cells #[.slice O1 n c, .slice O2 m d] 26)).alloc (.cells #[.slice none 0 0, .slice none 0 0] 26)) = w0 at *
  have p0 := cell_of_row w0 w.heap.size 0 _ _ (0, 0) k0
  have p1 := cell_of_row w0 w.heap.size 1 _ _ (0, 0) k0
  simp at p0 p1
  have hCS : CpS w (.slice O1 n c) (.slice O2 m d) 26 w0.drew := ⟨hb0.drew, p0, p1, hs0, _, _, k1⟩
  clear p0 p1 hb0 k0 k1
  refine wp_region_held_drew (S := (fun w' => Below w.heap.size w w' ∧ w'.cell? ⟨w.heap.size, 0, none⟩ = some (.slice O1 n c) ∧ w'.cell? ⟨w.heap.size, 1, none⟩ = some (.slice O2 m d) ∧ w.heap.size + 2 ≤ w'.heap.size ∧ ∃ x y, w'.heap[w.heap.size + 1]? = some (.cells #[x, y] 26 (0, 0)))) (by kernel_rfl) ?hSr (fun hHeld => ?restr)
  case hSr => exact hCS
  refine wpAnyH_take (i := 1) (oi := ?oiw1) (v := ?vw1) ?hiw1 (by kernel_rfl) (by kernel_rfl) (by kernel_rfl) ?hQw1 (Or.inl ⟨?hww1, ?hyw1⟩) (by assumption) ?restw1
  case hiw1 => simp only [List.getElem?_toArray, List.getElem?_cons_succ, List.getElem?_cons_zero]; exact rfl
  case hQw1 => exact fun _ _ _ h => h
  case hww1 => rfl
  case hyw1 => ((intro w hSw; (try dsimp only at hSw); go_simp) <;> with_reducible rfl)
  try simp only [Act.put, List.setIfInBounds_toArray, List.set_cons_zero, List.set_cons_succ]
  refine wpAnyH_take (i := 2) (oi := ?oiw2) (v := ?vw2) ?hiw2 (by kernel_rfl) (by kernel_rfl) (by kernel_rfl) ?hQw2 (Or.inl ⟨?hww2, ?hyw2⟩) (by assumption) ?restw2
  case hiw2 => simp only [List.getElem?_toArray, List.getElem?_cons_succ, List.getElem?_cons_zero]; exact rfl
  case hQw2 => exact fun _ _ _ h => h
  case hww2 => rfl
  case hyw2 => ((intro w hSw; (try dsimp only at hSw); go_simp) <;> with_reducible rfl)
  try simp only [Act.put, List.setIfInBounds_toArray, List.set_cons_zero, List.set_cons_succ]
  refine wpAnyH_take (i := 5) (oi := ?oiw3) (v := ?vw3) ?hiw3 (by kernel_rfl) (by kernel_rfl) (by kernel_rfl) ?hQw3 (Or.inl ⟨?hww3, ?hyw3⟩) (by assumption) ?restw3
  case hiw3 => simp only [List.getElem?_toArray, List.getElem?_cons_succ, List.getElem?_cons_zero]; exact rfl
  case hQw3 => exact fun _ _ _ h => h
  case hww3 => rfl
  case hyw3 => ((intro w hSw; (try dsimp only at hSw); go_simp) <;> with_reducible rfl)
  try simp only [Act.put, List.setIfInBounds_toArray, List.set_cons_zero, List.set_cons_succ]
  refine wpAnyH_take (i := 6) (oi := ?oiw4) (v := ?vw4) ?hiw4 (by kernel_rfl) (by kernel_rfl) (by kernel_rfl) ?hQw4 (Or.inl ⟨?hww4, ?hyw4⟩) (by assumption) ?restw4
  case hiw4 => simp only [List.getElem?_toArray, List.getElem?_cons_succ, List.getElem?_cons_zero]; exact rfl
  case hQw4 => exact fun _ _ _ h => h
  case hww4 => rfl
  case hyw4 => ((intro w hSw; (try dsimp only at hSw); go_simp) <;> with_reducible rfl)
  try simp only [Act.put, List.setIfInBounds_toArray, List.set_cons_zero, List.set_cons_succ]
  have hs0 : w.heap.size + 2 ≤ w0.drew.heap.size := hHeld.2.2.2.1
  generalize w0.drew = W at *
  refine wpAnyH_ready (rs := [0, 4]) (by kernel_rfl) (by simp) ?_
  refine AllReadyH.cons (o := ?ow5) ?how5 (fun K hK => ?stepw5) ?morew5
  case how5 => simp only [List.getElem?_toArray, List.getElem?_cons_succ, List.getElem?_cons_zero]; exact rfl
  case stepw5 =>
    go_simp
    refine hK.out _ _ ?hSw5 (fun hHeld => ?restw5)
    case hSw5 => exact cpS_alloc hHeld _
    clear hK K
    try simp only [Act.put, List.setIfInBounds_toArray, List.set_cons_zero, List.set_cons_succ]
    have o1 := own_mono (base' := w.heap.size + 2) (own_empty W 28 4) hs0
    refine wpAnyH_ready (rs := [3, 4]) (by kernel_rfl) (by simp) ?_
    refine AllReadyH.cons (o := ?ow6) ?how6 (fun K hK => ?stepw6) ?morew6
    case how6 => simp only [List.getElem?_toArray, List.getElem?_cons_succ, List.getElem?_cons_zero]; exact rfl
    case stepw6 =>
      have hsz1 := hHeld.2.2.2.1
      (refine step_app _ rfl _ _ rfl (w.heap.size + 2) (.slice (some ⟨W.heap.size, 0, none⟩) 0 0) rfl o1 O1 n c hO1 za rfl w.heap.size (ha.below hHeld.1) (by omega) hsz1 ?_; intro r1 u1 hown1 hgrow1 hat1)
      have hlt1 := o1.lt
      refine hK.out _ _ ?hSw6 (fun hHeld => ?restw6)
      case hSw6 => exact cpS_grown hHeld hgrow1 (fun q hq => (hlt1 q hq).1)
      clear hK K
      try simp only [Act.put, List.setIfInBounds_toArray, List.set_cons_zero, List.set_cons_succ]
      have hsu1 := hHeld.2.2.2.1
      refine wpAnyH_ready (rs := [4]) (by kernel_rfl) (by simp) ?_
      refine AllReadyH.cons (o := ?ow7) ?how7 (fun K hK => ?stepw7) ?morew7
      case how7 => simp only [List.getElem?_toArray, List.getElem?_cons_succ, List.getElem?_cons_zero]; exact rfl
      case morew7 => exact AllReadyH.nil
      go_simp
      refine hK.out _ _ ?hSw7 (fun hHeld => ?restw7)
      case hSw7 => exact cpS_alloc hHeld _
      clear hK K
      try simp only [Act.put, List.setIfInBounds_toArray, List.set_cons_zero, List.set_cons_succ]
      have o2 := own_mono (base' := w.heap.size + 2) (own_empty u1 28 4) hsu1
      have ox := hown1.alloc (.cells #[] 28)
      refine wpAnyH_ready (rs := [7]) (by kernel_rfl) (by simp) ?_
      refine AllReadyH.cons (o := ?ow8) ?how8 (fun K hK => ?stepw8) ?morew8
      case how8 => simp only [List.getElem?_toArray, List.getElem?_cons_succ, List.getElem?_cons_zero]; exact rfl
      case morew8 => exact AllReadyH.nil
      have hsz2 := hHeld.2.2.2.1
      (refine step_app _ rfl _ _ rfl (w.heap.size + 2) (.slice (some ⟨u1.heap.size, 0, none⟩) 0 0) rfl o2 O2 m d hO2 zb rfl w.heap.size (hb.below hHeld.1) (by omega) hsz2 ?_; intro r2 u2 hown2 hgrow2 hat2)
      have hlt2 := o2.lt
      refine hK.out _ _ ?hSw8 (fun hHeld => ?restw8)
      case hSw8 => exact cpS_grown hHeld hgrow2 (fun q hq => (hlt2 q hq).1)
      clear hK K
      try simp only [Act.put, List.setIfInBounds_toArray, List.set_cons_zero, List.set_cons_succ]
      have hne : ∀ q, r1.ownBlock = some q → r2.ownBlock ≠ some q := fun q h1 h2 => by have h3 := (hown1.lt q h1).2; rcases hat2 with h | h <;> (rw [h] at h2; simp [Value.ownBlock] at h2; omega)
      have hownF := own_apart ox hgrow2 (fun q hq e => by have := (hown1.lt q hq).2; simp [Value.ownBlock] at e; omega)
      have hso1 := some_at hat1 rfl
      have hso2 := some_at hat2 rfl
      obtain ⟨A1, d1, rfl, _, _⟩ := own_slice hownF
      obtain ⟨A2, d2, rfl, _, _⟩ := own_slice hown2
      refine wpAnyH_take (i := 8) (oi := ?oiw9) (v := ?vw9) ?hiw9 (by kernel_rfl) (by kernel_rfl) (by kernel_rfl) ?hQw9 (Or.inl ⟨?hww9, ?hyw9⟩) (by assumption) ?restw9
      case hiw9 => simp only [List.getElem?_toArray, List.getElem?_cons_succ, List.getElem?_cons_zero]; exact rfl
      case hQw9 => exact fun _ _ _ h => h
      case hww9 => rfl
      case hyw9 => ((intro w hSw; (try dsimp only at hSw); go_simp) <;> with_reducible rfl)
      try simp only [Act.put, List.setIfInBounds_toArray, List.set_cons_zero, List.set_cons_succ]
      refine wpAnyH_ready (rs := [9]) (by kernel_rfl) (by simp) ?_
      refine AllReadyH.cons (o := ?ow10) ?how10 (fun K hK => ?stepw10) ?morew10
      case how10 => simp only [List.getElem?_toArray, List.getElem?_cons_succ, List.getElem?_cons_zero]; exact rfl
      case morew10 => exact AllReadyH.nil
      have hX := hHeld
      obtain ⟨x, y, hr⟩ := hX.2.2.2.2
      have r0 := cell_of_row u2 (w.heap.size + 1) 0 _ _ (0, 0) hr
      have r1 := cell_of_row u2 (w.heap.size + 1) 1 _ _ (0, 0) hr
      have z0 := frozen_of_row u2 (w.heap.size + 1) 0 _ _ hr
      have z1 := frozen_of_row u2 (w.heap.size + 1) 1 _ _ hr
      simp at r0 r1
      have E0 := Lib.hid (heap_set1 (u := .slice A2 m d2) (heap_set0 (u := .slice A1 n d1) hr))
      go_simp
      refine hK.out _ _ ?hSw10 (fun hHeld => ?restw10)
      case hSw10 => exact cpS_set hX _ _
      clear hK K
      try simp only [Act.put, List.setIfInBounds_toArray, List.set_cons_zero, List.set_cons_succ]
      refine wpAnyH_done (by kernel_rfl) ?_ _
      have f0 := cell_of_row _ (w.heap.size + 1) 0 _ _ (0, 0) E0.out
      have f1 := cell_of_row _ (w.heap.size + 1) 1 _ _ (0, 0) E0.out
      simp at f0 f1
      have HT := Lib.hid (((TwoRows.mk hownF hown2 hne).kept (set_grown u2 (w.heap.size + 1) 0 (.slice A1 n d1)) (by omega)).kept (set_grown _ (w.heap.size + 1) 1 (.slice A2 m d2)) (by omega))
      have HB := Lib.hid ((hX.1.setCell (p := ⟨w.heap.size + 1, 0, none⟩) (show w.heap.size ≤ w.heap.size + 1 by omega) (.slice A1 n d1)).setCell (p := ⟨w.heap.size + 1, 1, none⟩) (show w.heap.size ≤ w.heap.size + 1 by omega) (.slice A2 m d2))
      have HS1 := Lib.hid hso1
      have HS2 := Lib.hid hso2
      clear hownF hown2 hX hso1 hso2
      go_wp2_with fail
      exact bodyPost_ret (v := .agg #[.slice A1 n d1, .slice A2 m d2]) (by simp [results, Try.results47, go_sem, f0, f1]) rfl ⟨⟨_, _, rfl, HT.out.mono (by omega), HS1.out, HS2.out⟩, HB.out⟩
    refine AllReadyH.cons (o := ?ow11) ?how11 (fun K hK => ?stepw11) ?morew11
    case how11 => simp only [List.getElem?_toArray, List.getElem?_cons_succ, List.getElem?_cons_zero]; exact rfl
    case morew11 => exact AllReadyH.nil
    go_simp
    refine hK.out _ _ ?hSw11 (fun hHeld => ?restw11)
    case hSw11 => exact cpS_alloc hHeld _
    clear hK K
    try simp only [Act.put, List.setIfInBounds_toArray, List.set_cons_zero, List.set_cons_succ]
    have o1 : ((W.alloc (.cells #[] 28)).alloc (.cells #[] 28)).ownsRow (w.heap.size + 2) 28 4 (.slice (some ⟨W.heap.size, 0, none⟩) 0 0) 0 [] := (own_mono (own_empty W 28 4) hs0).alloc (.cells #[] 28)
    have o2 : ((W.alloc (.cells #[] 28)).alloc (.cells #[] 28)).ownsRow (w.heap.size + 2) 28 4 (.slice (some ⟨W.heap.size + 1, 0, none⟩) 0 0) 0 [] := by have h := own_mono (base' := w.heap.size + 2) (own_empty (W.alloc (.cells #[] 28)) 28 4) (by simp; omega); rw [World.size_alloc] at h; exact h
    refine wpAnyH_ready (rs := [3]) (by kernel_rfl) (by simp) ?_
    refine AllReadyH.cons (o := ?ow12) ?how12 (fun K hK => ?stepw12) ?morew12
    case how12 => simp only [List.getElem?_toArray, List.getElem?_cons_succ, List.getElem?_cons_zero]; exact rfl
    case morew12 => exact AllReadyH.nil
    have hsz1 := hHeld.2.2.2.1
    (refine step_app _ rfl _ _ rfl (w.heap.size + 2) (.slice (some ⟨W.heap.size, 0, none⟩) 0 0) rfl o1 O1 n c hO1 za rfl w.heap.size (ha.below hHeld.1) (by omega) hsz1 ?_; intro r1 u1 hown1 hgrow1 hat1)
    have hlt1 := o1.lt
    refine hK.out _ _ ?hSw12 (fun hHeld => ?restw12)
    case hSw12 => exact cpS_grown hHeld hgrow1 (fun q hq => (hlt1 q hq).1)
    clear hK K
    try simp only [Act.put, List.setIfInBounds_toArray, List.set_cons_zero, List.set_cons_succ]
    have o2 := own_apart o2 hgrow1 (fun q hq e => by simp [Value.ownBlock] at hq e; omega)
    refine wpAnyH_ready (rs := [7]) (by kernel_rfl) (by simp) ?_
    refine AllReadyH.cons (o := ?ow13) ?how13 (fun K hK => ?stepw13) ?morew13
    case how13 => simp only [List.getElem?_toArray, List.getElem?_cons_succ, List.getElem?_cons_zero]; exact rfl
    case morew13 => exact AllReadyH.nil
    have hsz2 := hHeld.2.2.2.1
    (refine step_app _ rfl _ _ rfl (w.heap.size + 2) (.slice (some ⟨W.heap.size + 1, 0, none⟩) 0 0) rfl o2 O2 m d hO2 zb rfl w.heap.size (hb.below hHeld.1) (by omega) hsz2 ?_; intro r2 u2 hown2 hgrow2 hat2)
    have hlt2 := o2.lt
    refine hK.out _ _ ?hSw13 (fun hHeld => ?restw13)
    case hSw13 => exact cpS_grown hHeld hgrow2 (fun q hq => (hlt2 q hq).1)
    clear hK K
    try simp only [Act.put, List.setIfInBounds_toArray, List.set_cons_zero, List.set_cons_succ]
    have hne : ∀ q, r1.ownBlock = some q → r2.ownBlock ≠ some q := fun q h1 h2 => by have h3 := (hown1.lt q h1).2; rcases hat1 with g | g <;> rcases hat2 with h | h <;> (rw [g] at h1; rw [h] at h2; simp [Value.ownBlock] at h1 h2; omega)
    have hownF := own_apart hown1 hgrow2 (fun q hq e => by have h3 := (hown1.lt q hq).2; rcases hat1 with g | g <;> (rw [g] at hq; simp [Value.ownBlock] at hq e; omega))
    have hso1 := some_at hat1 rfl
    have hso2 := some_at hat2 rfl
    obtain ⟨A1, d1, rfl, _, _⟩ := own_slice hownF
    obtain ⟨A2, d2, rfl, _, _⟩ := own_slice hown2
    refine wpAnyH_take (i := 8) (oi := ?oiw14) (v := ?vw14) ?hiw14 (by kernel_rfl) (by kernel_rfl) (by kernel_rfl) ?hQw14 (Or.inl ⟨?hww14, ?hyw14⟩) (by assumption) ?restw14
    case hiw14 => simp only [List.getElem?_toArray, List.getElem?_cons_succ, List.getElem?_cons_zero]; exact rfl
    case hQw14 => exact fun _ _ _ h => h
    case hww14 => rfl
    case hyw14 => ((intro w hSw; (try dsimp only at hSw); go_simp) <;> with_reducible rfl)
    try simp only [Act.put, List.setIfInBounds_toArray, List.set_cons_zero, List.set_cons_succ]
    refine wpAnyH_ready (rs := [9]) (by kernel_rfl) (by simp) ?_
    refine AllReadyH.cons (o := ?ow15) ?how15 (fun K hK => ?stepw15) ?morew15
    case how15 => simp only [List.getElem?_toArray, List.getElem?_cons_succ, List.getElem?_cons_zero]; exact rfl
    case morew15 => exact AllReadyH.nil
    have hX := hHeld
    obtain ⟨x, y, hr⟩ := hX.2.2.2.2
    have r0 := cell_of_row u2 (w.heap.size + 1) 0 _ _ (0, 0) hr
    have r1 := cell_of_row u2 (w.heap.size + 1) 1 _ _ (0, 0) hr
    have z0 := frozen_of_row u2 (w.heap.size + 1) 0 _ _ hr
    have z1 := frozen_of_row u2 (w.heap.size + 1) 1 _ _ hr
    simp at r0 r1
    have E0 := Lib.hid (heap_set1 (u := .slice A2 m d2) (heap_set0 (u := .slice A1 n d1) hr))
    go_simp
    refine hK.out _ _ ?hSw15 (fun hHeld => ?restw15)
    case hSw15 => exact cpS_set hX _ _
    clear hK K
    try simp only [Act.put, List.setIfInBounds_toArray, List.set_cons_zero, List.set_cons_succ]
    refine wpAnyH_done (by kernel_rfl) ?_ _
    have f0 := cell_of_row _ (w.heap.size + 1) 0 _ _ (0, 0) E0.out
    have f1 := cell_of_row _ (w.heap.size + 1) 1 _ _ (0, 0) E0.out
    simp at f0 f1
    have HT := Lib.hid (((TwoRows.mk hownF hown2 hne).kept (set_grown u2 (w.heap.size + 1) 0 (.slice A1 n d1)) (by omega)).kept (set_grown _ (w.heap.size + 1) 1 (.slice A2 m d2)) (by omega))
    have HB := Lib.hid ((hX.1.setCell (p := ⟨w.heap.size + 1, 0, none⟩) (show w.heap.size ≤ w.heap.size + 1 by omega) (.slice A1 n d1)).setCell (p := ⟨w.heap.size + 1, 1, none⟩) (show w.heap.size ≤ w.heap.size + 1 by omega) (.slice A2 m d2))
    have HS1 := Lib.hid hso1
    have HS2 := Lib.hid hso2
    clear hownF hown2 hX hso1 hso2
    go_wp2_with fail
    exact bodyPost_ret (v := .agg #[.slice A1 n d1, .slice A2 m d2]) (by simp [results, Try.results47, go_sem, f0, f1]) rfl ⟨⟨_, _, rfl, HT.out.mono (by omega), HS1.out, HS2.out⟩, HB.out⟩
  refine AllReadyH.cons (o := ?ow16) ?how16 (fun K hK => ?stepw16) ?morew16
  case how16 => simp only [List.getElem?_toArray, List.getElem?_cons_succ, List.getElem?_cons_zero]; exact rfl
  case morew16 => exact AllReadyH.nil
  go_simp
  refine hK.out _ _ ?hSw16 (fun hHeld => ?restw16)
  case hSw16 => exact cpS_alloc hHeld _
  clear hK K
  try simp only [Act.put, List.setIfInBounds_toArray, List.set_cons_zero, List.set_cons_succ]
  refine wpAnyH_ready (rs := [0]) (by kernel_rfl) (by simp) ?_
  refine AllReadyH.cons (o := ?ow17) ?how17 (fun K hK => ?stepw17) ?morew17
  case how17 => simp only [List.getElem?_toArray, List.getElem?_cons_succ, List.getElem?_cons_zero]; exact rfl
  case morew17 => exact AllReadyH.nil
  go_simp
  refine hK.out _ _ ?hSw17 (fun hHeld => ?restw17)
  case hSw17 => exact cpS_alloc hHeld _
  clear hK K
  try simp only [Act.put, List.setIfInBounds_toArray, List.set_cons_zero, List.set_cons_succ]
  have o1 : ((W.alloc (.cells #[] 28)).alloc (.cells #[] 28)).ownsRow (w.heap.size + 2) 28 4 (.slice (some ⟨W.heap.size + 1, 0, none⟩) 0 0) 0 [] := by have h := own_mono (base' := w.heap.size + 2) (own_empty (W.alloc (.cells #[] 28)) 28 4) (by simp; omega); rw [World.size_alloc] at h; exact h
  have o2 : ((W.alloc (.cells #[] 28)).alloc (.cells #[] 28)).ownsRow (w.heap.size + 2) 28 4 (.slice (some ⟨W.heap.size, 0, none⟩) 0 0) 0 [] := (own_mono (own_empty W 28 4) hs0).alloc (.cells #[] 28)
  refine wpAnyH_ready (rs := [3]) (by kernel_rfl) (by simp) ?_
  refine AllReadyH.cons (o := ?ow18) ?how18 (fun K hK => ?stepw18) ?morew18
  case how18 => simp only [List.getElem?_toArray, List.getElem?_cons_succ, List.getElem?_cons_zero]; exact rfl
  case morew18 => exact AllReadyH.nil
  have hsz1 := hHeld.2.2.2.1
  (refine step_app _ rfl _ _ rfl (w.heap.size + 2) (.slice (some ⟨W.heap.size + 1, 0, none⟩) 0 0) rfl o1 O1 n c hO1 za rfl w.heap.size (ha.below hHeld.1) (by omega) hsz1 ?_; intro r1 u1 hown1 hgrow1 hat1)
  have hlt1 := o1.lt
  refine hK.out _ _ ?hSw18 (fun hHeld => ?restw18)
  case hSw18 => exact cpS_grown hHeld hgrow1 (fun q hq => (hlt1 q hq).1)
  clear hK K
  try simp only [Act.put, List.setIfInBounds_toArray, List.set_cons_zero, List.set_cons_succ]
  have o2 := own_apart o2 hgrow1 (fun q hq e => by simp [Value.ownBlock] at hq e; omega)
  refine wpAnyH_ready (rs := [7]) (by kernel_rfl) (by simp) ?_
  refine AllReadyH.cons (o := ?ow19) ?how19 (fun K hK => ?stepw19) ?morew19
  case how19 => simp only [List.getElem?_toArray, List.getElem?_cons_succ, List.getElem?_cons_zero]; exact rfl
  case morew19 => exact AllReadyH.nil
  have hsz2 := hHeld.2.2.2.1
  (refine step_app _ rfl _ _ rfl (w.heap.size + 2) (.slice (some ⟨W.heap.size, 0, none⟩) 0 0) rfl o2 O2 m d hO2 zb rfl w.heap.size (hb.below hHeld.1) (by omega) hsz2 ?_; intro r2 u2 hown2 hgrow2 hat2)
  have hlt2 := o2.lt
  refine hK.out _ _ ?hSw19 (fun hHeld => ?restw19)
  case hSw19 => exact cpS_grown hHeld hgrow2 (fun q hq => (hlt2 q hq).1)
  clear hK K
  try simp only [Act.put, List.setIfInBounds_toArray, List.set_cons_zero, List.set_cons_succ]
  have hne : ∀ q, r1.ownBlock = some q → r2.ownBlock ≠ some q := fun q h1 h2 => by have h3 := (hown1.lt q h1).2; rcases hat1 with g | g <;> rcases hat2 with h | h <;> (rw [g] at h1; rw [h] at h2; simp [Value.ownBlock] at h1 h2; omega)
  have hownF := own_apart hown1 hgrow2 (fun q hq e => by have h3 := (hown1.lt q hq).2; rcases hat1 with g | g <;> (rw [g] at hq; simp [Value.ownBlock] at hq e; omega))
  have hso1 := some_at hat1 rfl
  have hso2 := some_at hat2 rfl
  obtain ⟨A1, d1, rfl, _, _⟩ := own_slice hownF
  obtain ⟨A2, d2, rfl, _, _⟩ := own_slice hown2
  refine wpAnyH_take (i := 8) (oi := ?oiw20) (v := ?vw20) ?hiw20 (by kernel_rfl) (by kernel_rfl) (by kernel_rfl) ?hQw20 (Or.inl ⟨?hww20, ?hyw20⟩) (by assumption) ?restw20
  case hiw20 => simp only [List.getElem?_toArray, List.getElem?_cons_succ, List.getElem?_cons_zero]; exact rfl
  case hQw20 => exact fun _ _ _ h => h
  case hww20 => rfl
  case hyw20 => ((intro w hSw; (try dsimp only at hSw); go_simp) <;> with_reducible rfl)
  try simp only [Act.put, List.setIfInBounds_toArray, List.set_cons_zero, List.set_cons_succ]
  refine wpAnyH_ready (rs := [9]) (by kernel_rfl) (by simp) ?_
  refine AllReadyH.cons (o := ?ow21) ?how21 (fun K hK => ?stepw21) ?morew21
  case how21 => simp only [List.getElem?_toArray, List.getElem?_cons_succ, List.getElem?_cons_zero]; exact rfl
  case morew21 => exact AllReadyH.nil
  have hX := hHeld
  obtain ⟨x, y, hr⟩ := hX.2.2.2.2
  have r0 := cell_of_row u2 (w.heap.size + 1) 0 _ _ (0, 0) hr
  have r1 := cell_of_row u2 (w.heap.size + 1) 1 _ _ (0, 0) hr
  have z0 := frozen_of_row u2 (w.heap.size + 1) 0 _ _ hr
  have z1 := frozen_of_row u2 (w.heap.size + 1) 1 _ _ hr
  simp at r0 r1
  have E0 := Lib.hid (heap_set1 (u := .slice A2 m d2) (heap_set0 (u := .slice A1 n d1) hr))
  go_simp
  refine hK.out _ _ ?hSw21 (fun hHeld => ?restw21)
  case hSw21 => exact cpS_set hX _ _
  clear hK K
  try simp only [Act.put, List.setIfInBounds_toArray, List.set_cons_zero, List.set_cons_succ]
  refine wpAnyH_done (by kernel_rfl) ?_ _
  have f0 := cell_of_row _ (w.heap.size + 1) 0 _ _ (0, 0) E0.out
  have f1 := cell_of_row _ (w.heap.size + 1) 1 _ _ (0, 0) E0.out
  simp at f0 f1
  have HT := Lib.hid (((TwoRows.mk hownF hown2 hne).kept (set_grown u2 (w.heap.size + 1) 0 (.slice A1 n d1)) (by omega)).kept (set_grown _ (w.heap.size + 1) 1 (.slice A2 m d2)) (by omega))
  have HB := Lib.hid ((hX.1.setCell (p := ⟨w.heap.size + 1, 0, none⟩) (show w.heap.size ≤ w.heap.size + 1 by omega) (.slice A1 n d1)).setCell (p := ⟨w.heap.size + 1, 1, none⟩) (show w.heap.size ≤ w.heap.size + 1 by omega) (.slice A2 m d2))
  have HS1 := Lib.hid hso1
  have HS2 := Lib.hid hso2
  clear hownF hown2 hX hso1 hso2
  go_wp2_with fail
  exact bodyPost_ret (v := .agg #[.slice A1 n d1, .slice A2 m d2]) (by simp [results, Try.results47, go_sem, f0, f1]) rfl ⟨⟨_, _, rfl, HT.out.mono (by omega), HS1.out, HS2.out⟩, HB.out⟩
theorem spec_l2Copy (a1 : Addr) (n c : Nat) (a2 : Addr) (m d : Nat) (za zb : List Int) (w : World) (ha : Lst w w.heap.size 4 (some a1) n za) (hb : Lst w w.heap.size 4 (some a2) m zb) (hn : n ≤ 1048576) (hm : m ≤ 1048576) :
    Calls Try.prog 47 #[.agg #[.slice (some a1) n c, .slice (some a2) m d]] w fun e w' => (∃ r1 r2, e = .returned (.agg #[r1, r2]) ∧ TwoRows w' w.heap.size r1 n za r2 m zb ∧ r1.ownBlock.isSome = true ∧ r2.ownBlock.isSome = true) ∧ Below w.heap.size w w' :=
  spec_l2CopyO (some a1) n c (some a2) m d za zb w ha hb hn hm (fun e => by cases e) (fun e => by cases e)
end Go.Proofs.Ytempggikcpminaa
