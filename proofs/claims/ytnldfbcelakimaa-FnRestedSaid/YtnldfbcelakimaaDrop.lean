/-
  Orders dropped from the opened book, by their number.
-/
import Derived.Test.YtnldfbcelakimaaSel
import Derived.Test.YtnldfbcelakimaaBookClosed
namespace Go.Proofs.Ytnldfbcelakimaa
open Go.RowKit Wire

theorem Opened.drew {w : World} {X S L : Nat} {T0 T1 T2 : TypeId} {F : Value} {side : Int} {zs : List Int} {n : Nat} {v : Value} {gs : Nat → Nat} (h : Opened w X S L T0 T1 T2 F side zs n v gs) : Opened w.drew X S L T0 T1 T2 F side zs n v gs := h.below (Below.refl _ _).drew
theorem Copies.drew {w : World} {X S L : Nat} {T : TypeId} {zs : List Int} {n : Nat} {v : Value} {gs : Nat → Nat} (h : Copies w X S L T zs n v gs) : Copies w.drew X S L T zs n v gs := h.below (Below.refl _ _).drew
theorem Opened.kept {w w' : World} {X S L : Nat} {T0 T1 T2 : TypeId} {F : Value} {side : Int} {zs : List Int} {n : Nat} {v : Value} {gs : Nat → Nat} {row : Option Nat} (h : Opened w X S L T0 T1 T2 F side zs n v gs) (hg : w.grownBy w' row) (hr : ∀ q, row = some q → q ≠ S ∧ q ≠ L ∧ v.ownBlock ≠ some q) : Opened w' X S L T0 T1 T2 F side zs n v gs :=
  ⟨h.low, (hg.block S (heap_lt h.side) (fun e => (hr S e.symm).1 rfl)).trans h.side, (hg.block L (heap_lt h.list) (fun e => (hr L e.symm).2.1 rfl)).trans h.list, own_apart h.own hg (fun q hq e => (hr q e).2.2 hq), h.far⟩
theorem Copies.kept {w w' : World} {X S L : Nat} {T : TypeId} {zs : List Int} {n : Nat} {v : Value} {gs : Nat → Nat} {row : Option Nat} (h : Copies w X S L T zs n v gs) (hg : w.grownBy w' row) (hr : ∀ q, row = some q → ∀ k, k < n → gs k ≠ q) : Copies w' X S L T zs n v gs := fun k hk => by
  obtain ⟨h1, h2, h3, h4, h5⟩ := h k hk
  exact ⟨h1, h2, h3, h4, h5.of_block (hg.block _ h5.lt (fun e => hr _ e.symm k hk rfl))⟩
theorem drop_far {w : World} {X S L : Nat} {T0 T1 T2 : TypeId} {F : Value} {side : Int} {zs : List Int} {n : Nat} {v : Value} {gs : Nat → Nat} (h : Opened w X S L T0 T1 T2 F side zs n v gs) {q : Nat} (hq : q < X) : q ≠ S ∧ q ≠ L ∧ v.ownBlock ≠ some q := by
  obtain ⟨h1, h2, _⟩ := h.low
  exact ⟨by omega, by omega, fun e => by have := (h.own.lt q e).1; omega⟩
/-- one side's list, filtered in place and stored -/
theorem drop_one {u u1 : World} {X S L : Nat} {T T0 T1 T2 : TypeId} {F : Value} {side : Int} {zs zs' : List Int} {n N : Nat} {v v' : Value} {gs g' : Nat → Nat} (hop : Opened u X S L T0 T1 T2 F side zs n v gs) (_ : Copies u X S L T zs n v gs) (hg : u.grownBy u1 v.ownBlock) (hv : v'.ownBlock = v.ownBlock) (hown : u1.ownsRow X T2 1 v' N (ptrs g' N)) (hcp : Copies u X S L T zs' N v' g') :
    Opened (u1.setCell ⟨L, 0, none⟩ v') X S L T0 T1 T2 F side zs' N v' g' ∧ Copies (u1.setCell ⟨L, 0, none⟩ v') X S L T zs' N v' g' := by
  refine ⟨⟨hop.low, (Below.heap_setCell u1 _ _ S hop.low.2.2).trans ((hg.block S (heap_lt hop.side) (fun e => hop.far.2 e.symm)).trans hop.side), heap_set0 ((hg.block L (heap_lt hop.list) (fun e => hop.far.1 e.symm)).trans hop.list), hown.kept (set_grown u1 L 0 v') (.inr (fun e => hop.far.1 (hv.symm.trans e))), by rw [hv]; exact hop.far⟩, fun k hk => ?_⟩
  obtain ⟨h1, h2, h3, h4, h5⟩ := hcp k hk
  exact ⟨h1, h2, h3, h4, (h5.of_block (hg.block _ h5.lt (by rw [← hv]; exact h4))).setOther (a := ⟨L, 0, none⟩) h3 _⟩
set_option linter.unusedSimpArgs false in
set_option maxHeartbeats 1600000 in
set_option maxRecDepth 100000 in
theorem impl_drop (X1 S1 L1 X2 S2 L2 n m J : Nat) (v1 v2 : Value) (gs1 gs2 : Nat → Nat) (id : Int) (za zb : List Int) (w : World) (hp1 : Opened w X1 S1 L1 2 123 86 (.func (.func 126) #[] #[.pointer (some ⟨S1, 0, none⟩)]) 1 za n v1 gs1 ∧ Copies w X1 S1 L1 36 za n v1 gs1) (hp2 : Opened w X2 S2 L2 2 123 86 (.func (.func 126) #[] #[.pointer (some ⟨S2, 0, none⟩)]) 2 zb m v2 gs2 ∧ Copies w X2 S2 L2 36 zb m v2 gs2) (hn : n ≤ 1048576) (hm : m ≤ 1048576) (hJ : w.cell? ⟨J, 0, none⟩ = some (.int .i64 id)) (hJX : J < X1) (hX : X1 ≤ X2) (hfar : S1 < X2 ∧ L1 < X2 ∧ (∀ q, v1.ownBlock = some q → q < X2) ∧ ∀ k, k < n → gs1 k < X2) :
    Calls Try.prog 71 #[.agg #[.pointer (some ⟨L1, 0, none⟩), .pointer (some ⟨L2, 0, none⟩)], .func (.func 72) #[] #[.pointer (some ⟨J, 0, none⟩)]] w fun e w' => (∃ u, e = .returned u) ∧ ∃ u1 u2, (Opened w' X1 S1 L1 2 123 86 (.func (.func 126) #[] #[.pointer (some ⟨S1, 0, none⟩)]) 1 (tkZ za id n) (tkN za id n) u1 (sel za id gs1 n) ∧ Copies w' X1 S1 L1 36 (tkZ za id n) (tkN za id n) u1 (sel za id gs1 n)) ∧ (Opened w' X2 S2 L2 2 123 86 (.func (.func 126) #[] #[.pointer (some ⟨S2, 0, none⟩)]) 2 (tkZ zb id m) (tkN zb id m) u2 (sel zb id gs2 m) ∧ Copies w' X2 S2 L2 36 (tkZ zb id m) (tkN zb id m) u2 (sel zb id gs2 m)) ∧ Below X1 w w' ∧ ∀ i, i < w.heap.size → i ≠ L1 → i ≠ L2 → some i ≠ v1.ownBlock → some i ≠ v2.ownBlock → w'.heap[i]? = w.heap[i]? := by
  obtain ⟨hop1, hcp1⟩ := hp1
  obtain ⟨hop2, hcp2⟩ := hp2
  obtain ⟨hf1, hf2, hf3, hf4⟩ := hfar
  have hb0 : Below w.heap.size w (w.alloc (.cells #[.pointer (some ⟨L1, 0, none⟩), .pointer (some ⟨L2, 0, none⟩)] 77)) := (Below.refl _ _).alloc (Nat.le_refl _) _
  have k0 := heap_alloc_new w (.cells #[.pointer (some ⟨L1, 0, none⟩), .pointer (some ⟨L2, 0, none⟩)] 77)
  have p0 := cell_of_row _ w.heap.size 0 _ _ (0, 0) k0
  have p1 := cell_of_row _ w.heap.size 1 _ _ (0, 0) k0
  have hopA := hop1.below hb0
  have hcpA := hcp1.below hb0
  have hopB := hop2.below hb0
  have hcpB := hcp2.below hb0
  have hJ0 := (hb0.cell (p := ⟨J, 0, none⟩) (Nat.lt_of_lt_of_le hJX (Nat.le_of_lt (Nat.lt_of_le_of_lt hop1.low.1 (heap_lt hop1.side))))).trans hJ
  go_enter Try.func71, Try.ntmps71
  go_upto_region 1 with fail
  generalize (w.alloc (.cells #[.pointer (some ⟨L1, 0, none⟩), .pointer (some ⟨L2, 0, none⟩)] 77)) = w0 at *
  simp at p0 p1
  have hJs : J < w0.heap.size := Nat.lt_of_lt_of_le hJX (Nat.le_of_lt (Nat.lt_of_le_of_lt hopA.low.1 (heap_lt hopA.side)))
  have hws : w.heap.size < w0.heap.size := heap_lt k0
  have hb1 : Below X1 w w0 := hb0.mono (Nat.le_trans hop1.low.1 (Nat.le_of_lt (heap_lt hop1.side)))
  have hL1w : w.heap.size ≠ L1 := fun e => by have := heap_lt hop1.list; omega
  have hL2w : w.heap.size ≠ L2 := fun e => by have := heap_lt hop2.list; omega
  have hJb1 : some w.heap.size ≠ v1.ownBlock := fun e => by have := (hop1.own.lt _ e.symm).2; omega
  have hJb2 : some w.heap.size ≠ v2.ownBlock := fun e => by have := (hop2.own.lt _ e.symm).2; omega
  have hJv1 : some J ≠ v1.ownBlock := fun e => by have := (hop1.own.lt _ e.symm).1; omega
  have hJv2 : some J ≠ v2.ownBlock := fun e => by have := (hop2.own.lt _ e.symm).1; omega
  have hWL1 : L1 ≠ w.heap.size := fun e => hL1w e.symm
  have hWL2 : L2 ≠ w.heap.size := fun e => hL2w e.symm
  have hXs : X1 ≤ w0.heap.size := Nat.le_trans hopA.low.1 (Nat.le_of_lt (heap_lt hopA.side))
  have hk0 : ∀ i, i < w.heap.size → w0.heap[i]? = w.heap[i]? := fun i hi => hb0.block i hi
  clear hop1 hcp1 hop2 hcp2 hb0 k0 hJ
  have hJ := hJ0
  have hop1 := hopA
  have hcp1 := hcpA
  clear hopA hcpA hJ0
  refine wp_region_held_drew (S := (fun w' => w'.cell? ⟨w.heap.size, 0, none⟩ = some (.pointer (some ⟨L1, 0, none⟩)) ∧ w'.cell? ⟨w.heap.size, 1, none⟩ = some (.pointer (some ⟨L2, 0, none⟩)))) (by kernel_rfl) ?hSr1 (fun hHeld => ?restr1)
  case hSr1 => exact ⟨p0, p1⟩
  refine wpAnyH_take (i := 0) (oi := ?oid1) (v := ?vd1) ?hid1 (by kernel_rfl) (by kernel_rfl) (by kernel_rfl) ?hQd1 (Or.inl ⟨?hwd1, ?hyd1⟩) (by assumption) ?restd1
  case hid1 => simp only [List.getElem?_toArray, List.getElem?_cons_succ, List.getElem?_cons_zero]; exact rfl
  case hQd1 => exact fun _ _ _ h => h
  case hwd1 => rfl
  case hyd1 => ((intro w hSw; (try dsimp only at hSw); go_simp) <;> with_reducible rfl)
  try simp only [Act.put, List.setIfInBounds_toArray, List.set_cons_zero, List.set_cons_succ]
  refine wpAnyH_take (i := 1) (oi := ?oid2) (v := ?vd2) ?hid2 (by kernel_rfl) (by kernel_rfl) (by kernel_rfl) ?hQd2 (Or.inl ⟨?hwd2, ?hyd2⟩) (by assumption) ?restd2
  case hid2 => simp only [List.getElem?_toArray, List.getElem?_cons_succ, List.getElem?_cons_zero]; exact rfl
  case hQd2 => exact fun _ _ _ h => h
  case hwd2 => rfl
  case hyd2 => ((intro w hSw; (try dsimp only at hSw); go_simp) <;> with_reducible rfl)
  try simp only [Act.put, List.setIfInBounds_toArray, List.set_cons_zero, List.set_cons_succ]
  refine wpAnyH_take (i := 2) (oi := ?oid3) (v := ?vd3) ?hid3 (by kernel_rfl) (by kernel_rfl) (by kernel_rfl) ?hQd3 (Or.inl ⟨?hwd3, ?hyd3⟩) (by assumption) ?restd3
  case hid3 => simp only [List.getElem?_toArray, List.getElem?_cons_succ, List.getElem?_cons_zero]; exact rfl
  case hQd3 => exact fun _ _ _ h => h
  case hwd3 => rfl
  case hyd3 => ((intro w hSw; (try dsimp only at hSw); go_simp) <;> with_reducible rfl)
  try simp only [Act.put, List.setIfInBounds_toArray, List.set_cons_zero, List.set_cons_succ]
  refine wpAnyH_take (i := 3) (oi := ?oid4) (v := ?vd4) ?hid4 (by kernel_rfl) (by kernel_rfl) (by kernel_rfl) ?hQd4 (Or.inl ⟨?hwd4, ?hyd4⟩) (by assumption) ?restd4
  case hid4 => simp only [List.getElem?_toArray, List.getElem?_cons_succ, List.getElem?_cons_zero]; exact rfl
  case hQd4 => exact fun _ _ _ h => h
  case hwd4 => rfl
  case hyd4 => ((intro w hSw; (try dsimp only at hSw); go_simp) <;> with_reducible rfl)
  try simp only [Act.put, List.setIfInBounds_toArray, List.set_cons_zero, List.set_cons_succ]
  refine wpAnyH_take (i := 4) (oi := ?oid5) (v := ?vd5) ?hid5 (by kernel_rfl) (by kernel_rfl) (by kernel_rfl) ?hQd5 (Or.inl ⟨?hwd5, ?hyd5⟩) (by assumption) ?restd5
  case hid5 => simp only [List.getElem?_toArray, List.getElem?_cons_succ, List.getElem?_cons_zero]; exact rfl
  case hQd5 => exact fun _ _ _ h => h
  case hwd5 => rfl
  case hyd5 => ((intro w hSw; (try dsimp only at hSw); go_simp) <;> with_reducible rfl)
  try simp only [Act.put, List.setIfInBounds_toArray, List.set_cons_zero, List.set_cons_succ]
  refine wpAnyH_take (i := 5) (oi := ?oid6) (v := ?vd6) ?hid6 (by kernel_rfl) (by kernel_rfl) (by kernel_rfl) ?hQd6 (Or.inl ⟨?hwd6, ?hyd6⟩) (by assumption) ?restd6
  case hid6 => simp only [List.getElem?_toArray, List.getElem?_cons_succ, List.getElem?_cons_zero]; exact rfl
  case hQd6 => exact fun _ _ _ h => h
  case hwd6 => rfl
  case hyd6 => ((intro w hSw; (try dsimp only at hSw); go_simp) <;> with_reducible rfl)
  try simp only [Act.put, List.setIfInBounds_toArray, List.set_cons_zero, List.set_cons_succ]
  refine wpAnyH_take (i := 7) (oi := ?oid7) (v := ?vd7) ?hid7 (by kernel_rfl) (by kernel_rfl) (by kernel_rfl) ?hQd7 (Or.inl ⟨?hwd7, ?hyd7⟩) (by assumption) ?restd7
  case hid7 => simp only [List.getElem?_toArray, List.getElem?_cons_succ, List.getElem?_cons_zero]; exact rfl
  case hQd7 => exact fun _ _ _ h => h
  case hwd7 => rfl
  case hyd7 => ((intro w hSw; (try dsimp only at hSw); go_simp) <;> with_reducible rfl)
  try simp only [Act.put, List.setIfInBounds_toArray, List.set_cons_zero, List.set_cons_succ]
  have hl1 := cell_of_row _ L1 0 _ _ (0, 0) hop1.drew.list
  simp only [List.getElem?_toArray, List.getElem?_cons_zero] at hl1
  refine wpAnyH_ready (rs := [6]) (by kernel_rfl) (by simp) ?_
  refine AllReadyH.cons (o := ?od8) ?hod8 (fun K hK => ?stepd8) ?mored8
  case hod8 => simp only [List.getElem?_toArray, List.getElem?_cons_succ, List.getElem?_cons_zero]; exact rfl
  case mored8 => exact AllReadyH.nil
  go_simp
  refine hK.out _ _ ?hSd8 (fun hHeld => ?restd8)
  case hSd8 => exact hHeld
  clear hK K
  try simp only [Act.put, List.setIfInBounds_toArray, List.set_cons_zero, List.set_cons_succ]
  clear hl1
  refine wpAnyH_ready (rs := [8]) (by kernel_rfl) (by simp) ?_
  refine AllReadyH.cons (o := ?od9) ?hod9 (fun K hK => ?stepd9) ?mored9
  case hod9 => simp only [List.getElem?_toArray, List.getElem?_cons_succ, List.getElem?_cons_zero]; exact rfl
  case mored9 => exact AllReadyH.nil
  go_simp
  go_at_call 108
  refine (impl_DeleteFunc X1 S1 L1 n J 1 id za v1 gs1 _ hop1.drew hcp1.drew hn hJ hJs hJv1).mono ?_
  rintro e u1 ⟨⟨r1, rfl, hr1, hv1⟩, hg1⟩
  obtain ⟨A1, d1, rfl, _, _⟩ := own_slice hr1
  have hx10 : u1.cell? ⟨w.heap.size, 0, none⟩ = _ := (hg1.cell p0 hJb1)
  have hx11 : u1.cell? ⟨w.heap.size, 1, none⟩ = _ := (hg1.cell p1 hJb1)
  refine hK.out _ _ ?hSd9 (fun hHeld => ?restd9)
  case hSd9 => exact ⟨hx10, hx11⟩
  clear hK K
  try simp only [Act.put, List.setIfInBounds_toArray, List.set_cons_zero, List.set_cons_succ]
  refine wpAnyH_take (i := 9) (oi := ?oid10) (v := ?vd10) ?hid10 (by kernel_rfl) (by kernel_rfl) (by kernel_rfl) ?hQd10 (Or.inl ⟨?hwd10, ?hyd10⟩) (by assumption) ?restd10
  case hid10 => simp only [List.getElem?_toArray, List.getElem?_cons_succ, List.getElem?_cons_zero]; exact rfl
  case hQd10 => exact fun _ _ _ h => h
  case hwd10 => rfl
  case hyd10 => ((intro w hSw; (try dsimp only at hSw); go_simp) <;> with_reducible rfl)
  try simp only [Act.put, List.setIfInBounds_toArray, List.set_cons_zero, List.set_cons_succ]
  refine wpAnyH_take (i := 10) (oi := ?oid11) (v := ?vd11) ?hid11 (by kernel_rfl) (by kernel_rfl) (by kernel_rfl) ?hQd11 (Or.inl ⟨?hwd11, ?hyd11⟩) (by assumption) ?restd11
  case hid11 => simp only [List.getElem?_toArray, List.getElem?_cons_succ, List.getElem?_cons_zero]; exact rfl
  case hQd11 => exact fun _ _ _ h => h
  case hwd11 => rfl
  case hyd11 => ((intro w hSw; (try dsimp only at hSw); go_simp) <;> with_reducible rfl)
  try simp only [Act.put, List.setIfInBounds_toArray, List.set_cons_zero, List.set_cons_succ]
  have hk1 := (hg1.block L1 (heap_lt hop1.drew.list) (fun e => hop1.far.1 e.symm)).trans hop1.drew.list
  have hq1 := cell_of_row _ L1 0 _ _ (0, 0) hk1
  have hf1z := frozen_of_row _ L1 0 _ _ hk1
  simp only [List.getElem?_toArray, List.getElem?_cons_zero] at hq1
  refine wpAnyH_ready (rs := [11]) (by kernel_rfl) (by simp) ?_
  refine AllReadyH.cons (o := ?od12) ?hod12 (fun K hK => ?stepd12) ?mored12
  case hod12 => simp only [List.getElem?_toArray, List.getElem?_cons_succ, List.getElem?_cons_zero]; exact rfl
  case mored12 => exact AllReadyH.nil
  go_simp
  refine hK.out _ _ ?hSd12 (fun hHeld => ?restd12)
  case hSd12 => exact ⟨(World.cell?_setCell_far _ _ _ _ hWL1).trans hHeld.1, (World.cell?_setCell_far _ _ _ _ hWL1).trans hHeld.2⟩
  clear hK K
  try simp only [Act.put, List.setIfInBounds_toArray, List.set_cons_zero, List.set_cons_succ]
  refine wpAnyH_done (by kernel_rfl) ?_ _
  obtain ⟨hop1, hcp1⟩ := drop_one hop1.drew hcp1.drew hg1 hv1 hr1 (hcp1.drew.left id hv1)
  have hB := (hopB.drew.kept hg1 (fun q hq => drop_far hopB (hf3 q hq))).kept (set_grown u1 L1 0 (.slice A1 (tkN za id n) d1)) (fun q hq => drop_far hopB (by injection hq with hq; omega))
  have hC := (hcpB.drew.kept hg1 (fun q hq k hk => by have := (hcpB k hk).1; have := hf3 q hq; omega)).kept (set_grown u1 L1 0 (.slice A1 (tkN za id n) d1)) (fun q hq k hk => by have := (hcpB k hk).1; injection hq with hq; omega)
  have hJ := (World.cell?_setCell_far u1 ⟨L1, 0, none⟩ ⟨J, 0, none⟩ (.slice A1 (tkN za id n) d1) (fun e => by have := hop1.low.2.1; have e : L1 = J := e; omega)).trans (hg1.cell (show w0.drew.cell? _ = _ from hJ) hJv1)
  have hz1 : (u1.setCell ⟨L1, 0, none⟩ (.slice A1 (tkN za id n) d1)).heap.size = u1.heap.size := by simp [World.setCell]
  have hs1 : w0.heap.size ≤ u1.heap.size := hg1.size
  have hJs : J < (u1.setCell ⟨L1, 0, none⟩ (.slice A1 (tkN za id n) d1)).heap.size := by omega
  have hbX := (hb1.drew.grown hg1 hXs (fun q hq => (hop1.own.lt q (hv1.trans hq)).1)).setCell (p := ⟨L1, 0, none⟩) hop1.low.2.1 (.slice A1 (tkN za id n) d1)
  have hN1 := Lib.hid hv1
  have HK := Lib.hid (fun (i : Nat) (hi : i < w.heap.size) (h1 : i ≠ L1) (h2 : some i ≠ v1.ownBlock) => (Below.heap_setCell u1 ⟨L1, 0, none⟩ (.slice A1 (tkN za id n) d1) i h1).trans ((hg1.block i (Nat.lt_trans hi hws) h2).trans (hk0 i hi)))
  have hwy : w.heap.size < (u1.setCell ⟨L1, 0, none⟩ (.slice A1 (tkN za id n) d1)).heap.size := by omega
  obtain ⟨p0, p1⟩ := hHeld
  clear hopB hcpB hk1 hq1 hf1z hr1 hg1 hx10 hx11 hb1 hv1
  have hXy1 : X1 ≤ (u1.setCell ⟨L1, 0, none⟩ (.slice A1 (tkN za id n) d1)).heap.size := by omega
  generalize hA1 : (Value.slice A1 (tkN za id n) d1) = t1 at *
  generalize (u1.setCell ⟨L1, 0, none⟩ t1) = y1 at *
  have hop2 := hB
  have hcp2 := hC
  clear hB hC
  go_upto_region 2 with fail
  refine wp_region_held_drew (S := (fun w' => w'.cell? ⟨w.heap.size, 0, none⟩ = some (.pointer (some ⟨L1, 0, none⟩)) ∧ w'.cell? ⟨w.heap.size, 1, none⟩ = some (.pointer (some ⟨L2, 0, none⟩)))) (by kernel_rfl) ?hSr2 (fun hHeld => ?restr2)
  case hSr2 => exact ⟨p0, p1⟩
  refine wpAnyH_take (i := 0) (oi := ?oid13) (v := ?vd13) ?hid13 (by kernel_rfl) (by kernel_rfl) (by kernel_rfl) ?hQd13 (Or.inl ⟨?hwd13, ?hyd13⟩) (by assumption) ?restd13
  case hid13 => simp only [List.getElem?_toArray, List.getElem?_cons_succ, List.getElem?_cons_zero]; exact rfl
  case hQd13 => exact fun _ _ _ h => h
  case hwd13 => rfl
  case hyd13 => ((intro w hSw; (try dsimp only at hSw); go_simp) <;> with_reducible rfl)
  try simp only [Act.put, List.setIfInBounds_toArray, List.set_cons_zero, List.set_cons_succ]
  refine wpAnyH_take (i := 1) (oi := ?oid14) (v := ?vd14) ?hid14 (by kernel_rfl) (by kernel_rfl) (by kernel_rfl) ?hQd14 (Or.inl ⟨?hwd14, ?hyd14⟩) (by assumption) ?restd14
  case hid14 => simp only [List.getElem?_toArray, List.getElem?_cons_succ, List.getElem?_cons_zero]; exact rfl
  case hQd14 => exact fun _ _ _ h => h
  case hwd14 => rfl
  case hyd14 => ((intro w hSw; (try dsimp only at hSw); go_simp) <;> with_reducible rfl)
  try simp only [Act.put, List.setIfInBounds_toArray, List.set_cons_zero, List.set_cons_succ]
  refine wpAnyH_take (i := 2) (oi := ?oid15) (v := ?vd15) ?hid15 (by kernel_rfl) (by kernel_rfl) (by kernel_rfl) ?hQd15 (Or.inl ⟨?hwd15, ?hyd15⟩) (by assumption) ?restd15
  case hid15 => simp only [List.getElem?_toArray, List.getElem?_cons_succ, List.getElem?_cons_zero]; exact rfl
  case hQd15 => exact fun _ _ _ h => h
  case hwd15 => rfl
  case hyd15 => ((intro w hSw; (try dsimp only at hSw); go_simp) <;> with_reducible rfl)
  try simp only [Act.put, List.setIfInBounds_toArray, List.set_cons_zero, List.set_cons_succ]
  refine wpAnyH_take (i := 3) (oi := ?oid16) (v := ?vd16) ?hid16 (by kernel_rfl) (by kernel_rfl) (by kernel_rfl) ?hQd16 (Or.inl ⟨?hwd16, ?hyd16⟩) (by assumption) ?restd16
  case hid16 => simp only [List.getElem?_toArray, List.getElem?_cons_succ, List.getElem?_cons_zero]; exact rfl
  case hQd16 => exact fun _ _ _ h => h
  case hwd16 => rfl
  case hyd16 => ((intro w hSw; (try dsimp only at hSw); go_simp) <;> with_reducible rfl)
  try simp only [Act.put, List.setIfInBounds_toArray, List.set_cons_zero, List.set_cons_succ]
  refine wpAnyH_take (i := 4) (oi := ?oid17) (v := ?vd17) ?hid17 (by kernel_rfl) (by kernel_rfl) (by kernel_rfl) ?hQd17 (Or.inl ⟨?hwd17, ?hyd17⟩) (by assumption) ?restd17
  case hid17 => simp only [List.getElem?_toArray, List.getElem?_cons_succ, List.getElem?_cons_zero]; exact rfl
  case hQd17 => exact fun _ _ _ h => h
  case hwd17 => rfl
  case hyd17 => ((intro w hSw; (try dsimp only at hSw); go_simp) <;> with_reducible rfl)
  try simp only [Act.put, List.setIfInBounds_toArray, List.set_cons_zero, List.set_cons_succ]
  refine wpAnyH_take (i := 5) (oi := ?oid18) (v := ?vd18) ?hid18 (by kernel_rfl) (by kernel_rfl) (by kernel_rfl) ?hQd18 (Or.inl ⟨?hwd18, ?hyd18⟩) (by assumption) ?restd18
  case hid18 => simp only [List.getElem?_toArray, List.getElem?_cons_succ, List.getElem?_cons_zero]; exact rfl
  case hQd18 => exact fun _ _ _ h => h
  case hwd18 => rfl
  case hyd18 => ((intro w hSw; (try dsimp only at hSw); go_simp) <;> with_reducible rfl)
  try simp only [Act.put, List.setIfInBounds_toArray, List.set_cons_zero, List.set_cons_succ]
  refine wpAnyH_take (i := 7) (oi := ?oid19) (v := ?vd19) ?hid19 (by kernel_rfl) (by kernel_rfl) (by kernel_rfl) ?hQd19 (Or.inl ⟨?hwd19, ?hyd19⟩) (by assumption) ?restd19
  case hid19 => simp only [List.getElem?_toArray, List.getElem?_cons_succ, List.getElem?_cons_zero]; exact rfl
  case hQd19 => exact fun _ _ _ h => h
  case hwd19 => rfl
  case hyd19 => ((intro w hSw; (try dsimp only at hSw); go_simp) <;> with_reducible rfl)
  try simp only [Act.put, List.setIfInBounds_toArray, List.set_cons_zero, List.set_cons_succ]
  have hl2 := cell_of_row _ L2 0 _ _ (0, 0) hop2.drew.list
  simp only [List.getElem?_toArray, List.getElem?_cons_zero] at hl2
  refine wpAnyH_ready (rs := [6]) (by kernel_rfl) (by simp) ?_
  refine AllReadyH.cons (o := ?od20) ?hod20 (fun K hK => ?stepd20) ?mored20
  case hod20 => simp only [List.getElem?_toArray, List.getElem?_cons_succ, List.getElem?_cons_zero]; exact rfl
  case mored20 => exact AllReadyH.nil
  go_simp
  refine hK.out _ _ ?hSd20 (fun hHeld => ?restd20)
  case hSd20 => exact hHeld
  clear hK K
  try simp only [Act.put, List.setIfInBounds_toArray, List.set_cons_zero, List.set_cons_succ]
  clear hl2
  refine wpAnyH_ready (rs := [8]) (by kernel_rfl) (by simp) ?_
  refine AllReadyH.cons (o := ?od21) ?hod21 (fun K hK => ?stepd21) ?mored21
  case hod21 => simp only [List.getElem?_toArray, List.getElem?_cons_succ, List.getElem?_cons_zero]; exact rfl
  case mored21 => exact AllReadyH.nil
  go_simp
  go_at_call 108
  refine (impl_DeleteFunc X2 S2 L2 m J 2 id zb v2 gs2 _ hop2.drew hcp2.drew hm hJ hJs hJv2).mono ?_
  rintro e u2 ⟨⟨r2, rfl, hr2, hv2⟩, hg2⟩
  obtain ⟨A2, d2, rfl, _, _⟩ := own_slice hr2
  have hx20 : u2.cell? ⟨w.heap.size, 0, none⟩ = _ := (hg2.cell p0 hJb2)
  have hx21 : u2.cell? ⟨w.heap.size, 1, none⟩ = _ := (hg2.cell p1 hJb2)
  refine hK.out _ _ ?hSd21 (fun hHeld => ?restd21)
  case hSd21 => exact ⟨hx20, hx21⟩
  clear hK K
  try simp only [Act.put, List.setIfInBounds_toArray, List.set_cons_zero, List.set_cons_succ]
  refine wpAnyH_take (i := 9) (oi := ?oid22) (v := ?vd22) ?hid22 (by kernel_rfl) (by kernel_rfl) (by kernel_rfl) ?hQd22 (Or.inl ⟨?hwd22, ?hyd22⟩) (by assumption) ?restd22
  case hid22 => simp only [List.getElem?_toArray, List.getElem?_cons_succ, List.getElem?_cons_zero]; exact rfl
  case hQd22 => exact fun _ _ _ h => h
  case hwd22 => rfl
  case hyd22 => ((intro w hSw; (try dsimp only at hSw); go_simp) <;> with_reducible rfl)
  try simp only [Act.put, List.setIfInBounds_toArray, List.set_cons_zero, List.set_cons_succ]
  refine wpAnyH_take (i := 10) (oi := ?oid23) (v := ?vd23) ?hid23 (by kernel_rfl) (by kernel_rfl) (by kernel_rfl) ?hQd23 (Or.inl ⟨?hwd23, ?hyd23⟩) (by assumption) ?restd23
  case hid23 => simp only [List.getElem?_toArray, List.getElem?_cons_succ, List.getElem?_cons_zero]; exact rfl
  case hQd23 => exact fun _ _ _ h => h
  case hwd23 => rfl
  case hyd23 => ((intro w hSw; (try dsimp only at hSw); go_simp) <;> with_reducible rfl)
  try simp only [Act.put, List.setIfInBounds_toArray, List.set_cons_zero, List.set_cons_succ]
  have hk2 := (hg2.block L2 (heap_lt hop2.drew.list) (fun e => hop2.far.1 e.symm)).trans hop2.drew.list
  have hq2 := cell_of_row _ L2 0 _ _ (0, 0) hk2
  have hf2z := frozen_of_row _ L2 0 _ _ hk2
  simp only [List.getElem?_toArray, List.getElem?_cons_zero] at hq2
  refine wpAnyH_ready (rs := [11]) (by kernel_rfl) (by simp) ?_
  refine AllReadyH.cons (o := ?od24) ?hod24 (fun K hK => ?stepd24) ?mored24
  case hod24 => simp only [List.getElem?_toArray, List.getElem?_cons_succ, List.getElem?_cons_zero]; exact rfl
  case mored24 => exact AllReadyH.nil
  go_simp
  refine hK.out _ _ ?hSd24 (fun hHeld => ?restd24)
  case hSd24 => exact ⟨(World.cell?_setCell_far _ _ _ _ hWL2).trans hHeld.1, (World.cell?_setCell_far _ _ _ _ hWL2).trans hHeld.2⟩
  clear hK K
  try simp only [Act.put, List.setIfInBounds_toArray, List.set_cons_zero, List.set_cons_succ]
  refine wpAnyH_done (by kernel_rfl) ?_ _
  have hBop2 := hop2
  have hXy : X1 ≤ y1.heap.size := by omega
  obtain ⟨hop2, hcp2⟩ := drop_one hop2.drew hcp2.drew hg2 hv2 hr2 (hcp2.drew.left id hv2)
  have hge : ∀ q, v2.ownBlock = some q → X2 ≤ q := fun q hq => (hBop2.own.lt q hq).1
  have hsel : ∀ k, k < tkN za id n → sel za id gs1 n k < X2 := fun k hk => by
    obtain ⟨j, hj, he, _⟩ := tk_at za id gs1 n k hk
    rw [he]
    exact hf4 j hj
  have fr : ∀ q, X2 ≤ q → q ≠ S1 ∧ q ≠ L1 ∧ t1.ownBlock ≠ some q := fun q hq => ⟨by omega, by omega, fun e => by have := hf3 q (hN1.out.symm.trans e); omega⟩
  have hL2X : X2 ≤ L2 := hBop2.low.2.1
  have h1 := (hop1.drew.kept hg2 (fun q hq => fr q (hge q hq))).kept (set_grown u2 L2 0 (.slice A2 (tkN zb id m) d2)) (fun q hq => fr q (by injection hq with hq; omega))
  have h2 := (hcp1.drew.kept hg2 (fun q hq k hk => by have := hsel k hk; have := hge q hq; omega)).kept (set_grown u2 L2 0 (.slice A2 (tkN zb id m) d2)) (fun q hq k hk => by have := hsel k hk; injection hq with hq; omega)
  have hfin := (hbX.drew.grown hg2 hXy (fun q hq => Nat.le_trans hX (hge q hq))).setCell (p := ⟨L2, 0, none⟩) (Nat.le_trans hX hL2X) (.slice A2 (tkN zb id m) d2)
  have HK2 := fun (i : Nat) (hi : i < w.heap.size) (h1 : i ≠ L1) (h2 : i ≠ L2) (h3 : some i ≠ v1.ownBlock) (h4 : some i ≠ v2.ownBlock) => (Below.heap_setCell u2 ⟨L2, 0, none⟩ (.slice A2 (tkN zb id m) d2) i h2).trans ((hg2.block i (Nat.lt_trans hi hwy) h4).trans (HK.out i hi h1 h3))
  go_wp2_with fail
  go_end0
  exact ⟨⟨_, rfl⟩, _, _, ⟨h1, h2⟩, ⟨hop2, hcp2⟩, hfin, HK2⟩
end Go.Proofs.Ytnldfbcelakimaa
