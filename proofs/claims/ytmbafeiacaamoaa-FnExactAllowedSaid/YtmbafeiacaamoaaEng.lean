/-
  Engines compared; a new engine, marked and found marked.
-/
import Derived.Test.YtmbafeiacaamoaaOrd
import Derived.Test.YtmbafeiacaamoaaOwn
import Derived.Deep.Cut
namespace Go.Proofs.Ytmbafeiacaamoaa
open Go.RowKit Wire

/-- some books in memory, in blocks below X -/
def BooksAt (w : World) (X : Nat) (A : Option Addr) (bs : List (List Int × List Int)) : Prop := ∀ (k : Nat) (x : List Int × List Int), bs[k]? = some x → ∃ b o A1 n1 c1 A2 n2 c2, A = some ⟨b, o, none⟩ ∧ b < X ∧ w.cell? ⟨b, o + k * 2, none⟩ = some (.slice A1 n1 c1) ∧ w.cell? ⟨b, o + k * 2 + 1, none⟩ = some (.slice A2 n2 c2) ∧ (Lst w X 4 A1 n1 x.1 ∧ Lst w X 4 A2 n2 x.2) ∧ n1 ≤ 1048576 ∧ n2 ≤ 1048576
theorem BooksAt.below {w w' : World} {X : Nat} {A : Option Addr} {bs : List (List Int × List Int)} (h : BooksAt w X A bs) (hb : Below X w w') : BooksAt w' X A bs := fun k x hx => by
  obtain ⟨b, o, A1, n1, c1, A2, n2, c2, h1, h2, h3, h4, h5, h6, h7⟩ := h k x hx
  exact ⟨b, o, A1, n1, c1, A2, n2, c2, h1, h2, (hb.cell (p := ⟨b, _, none⟩) h2).trans h3, (hb.cell (p := ⟨b, _, none⟩) h2).trans h4, ⟨h5.1.below hb, h5.2.below hb⟩, h6, h7⟩
theorem BooksAt.more {w : World} {X X' : Nat} {A : Option Addr} {bs : List (List Int × List Int)} (h : BooksAt w X A bs) (hX : X ≤ X') : BooksAt w X' A bs := fun k x hx => by
  obtain ⟨b, o, A1, n1, c1, A2, n2, c2, h1, h2, h3, h4, h5, h6, h7⟩ := h k x hx
  exact ⟨b, o, A1, n1, c1, A2, n2, c2, h1, Nat.lt_of_lt_of_le h2 hX, h3, h4, ⟨h5.1.more hX, h5.2.more hX⟩, h6, h7⟩
theorem BooksAt.later {w w' : World} {A : Option Addr} {bs : List (List Int × List Int)} (h : BooksAt w w.heap.size A bs) (hb : Below w.heap.size w w') : BooksAt w' w'.heap.size A bs := (h.below hb).more hb.size
theorem lst_len {w w' : World} {X X' n n' : Nat} {A A' : Option Addr} {zs : List Int} (h : Lst w X 4 A n zs) (h' : Lst w' X' 4 A' n' zs) : n' = n := by
  have h1 := h.1
  have h2 := h'.1
  omega
set_option linter.unusedSimpArgs false in
set_option maxHeartbeats 1600000 in
set_option maxRecDepth 100000 in
theorem eqBookS_same (A B : Option Addr) (n c d : Nat) (bs : List (List Int × List Int)) (w : World) (hA : BooksAt w w.heap.size A bs) (hB : BooksAt w w.heap.size B bs) (hlen : bs.length = n) (hn : n ≤ 1048576) :
    Calls Try.prog 35 #[.slice A n c, .slice B n d] w fun e w' => e = .returned (.bool true) ∧ Below w.heap.size w w' := by
  go_enter Try.func35, Try.ntmps35
  go_wp2_with fail
  go_loopw [5] (fun i wr => ∃ k : Nat, k ≤ n ∧ i = .int .i64 (k : Int) ∧ Below w.heap.size w wr) (fun i _ => n - (intOf i).toNat)
  case atStart => exact ⟨0, Nat.zero_le _, rfl, Below.refl _ _⟩
  case round =>
    obtain ⟨k, hk, rfl, hbel⟩ := hrel
    by_cases hlt : k < n
    · obtain ⟨x, hx⟩ : ∃ x, bs[k]? = some x := ⟨bs[k]'(by omega), List.getElem?_eq_getElem (by omega)⟩
      obtain ⟨b, o, A1, n1, c1, A2, n2, c2, rfl, hb, q0, q1, hI, hn1, hn2⟩ := hA k x hx
      obtain ⟨b', o', A1', n1', c1', A2', n2', c2', rfl, hb', q0', q1', hI', _, _⟩ := hB k x hx
      obtain rfl := lst_len hI'.1 hI.1
      obtain rfl := lst_len hI'.2 hI.2
      have hI : BookIn w w.heap.size A1 n1 A2 n2 x.1 x.2 := hI
      have hI' : BookIn w w.heap.size A1' n1 A2' n2 x.1 x.2 := hI'
      have p0 := (hbel.cell (p := ⟨b, o + k * 2, none⟩) hb).trans q0
      have p1 := (hbel.cell (p := ⟨b, o + k * 2 + 1, none⟩) hb).trans q1
      have p2 := (hbel.cell (p := ⟨b', o' + k * 2, none⟩) hb').trans q0'
      have p3 := (hbel.cell (p := ⟨b', o' + k * 2 + 1, none⟩) hb').trans q1'
      clear hA hB hx
      have hb1 := hbel.size
      go_upto_region 6 with fail
      refine wp_region_held_drew (S := (fun w' => Below w.heap.size w w' ∧ w'.cell? ⟨b, o + k * 2, none⟩ = some (.slice A1 n1 c1) ∧ w'.cell? ⟨b, o + k * 2 + 1, none⟩ = some (.slice A2 n2 c2) ∧ w'.cell? ⟨b', o' + k * 2, none⟩ = some (.slice A1' n1 c1') ∧ w'.cell? ⟨b', o' + k * 2 + 1, none⟩ = some (.slice A2' n2 c2'))) (by kernel_rfl) ?hSq1xs (fun hHeld => ?restq1xs)
      case hSq1xs => ((first | assumption | ((((try dsimp only); repeat' apply And.intro) <;> (first | assumption | (refine below_later ?_ (by assumption); first | assumption | (simp only [*]; done) | (go_grown; done)) | (refine cell_later (by assumption) ?_; first | assumption | (simp only [*]; done) | (simp [go_sem]; done)) | (go_grown; done) | (simp [go_sem]; done))))))
      refine wpAnyH_take (i := 0) (oi := ?oiq1x1) (v := ?vq1x1) ?hiq1x1 (by kernel_rfl) (by kernel_rfl) (by kernel_rfl) ?hQq1x1 (Or.inl ⟨?hwq1x1, ?hyq1x1⟩) (by assumption) ?restq1x1
      case hiq1x1 => simp only [List.getElem?_toArray, List.getElem?_cons_succ, List.getElem?_cons_zero]; exact rfl
      case hQq1x1 => exact fun _ _ _ h => h
      case hwq1x1 => rfl
      case hyq1x1 => ((intro w hSw; (try dsimp only at hSw); go_simp) <;> with_reducible rfl)
      try simp only [Act.put, List.setIfInBounds_toArray, List.set_cons_zero, List.set_cons_succ]
      refine wpAnyH_take (i := 1) (oi := ?oiq1x2) (v := ?vq1x2) ?hiq1x2 (by kernel_rfl) (by kernel_rfl) (by kernel_rfl) ?hQq1x2 (Or.inl ⟨?hwq1x2, ?hyq1x2⟩) (by assumption) ?restq1x2
      case hiq1x2 => simp only [List.getElem?_toArray, List.getElem?_cons_succ, List.getElem?_cons_zero]; exact rfl
      case hQq1x2 => exact fun _ _ _ h => h
      case hwq1x2 => rfl
      case hyq1x2 => ((intro w hSw; (try dsimp only at hSw); go_simp) <;> with_reducible rfl)
      try simp only [Act.put, List.setIfInBounds_toArray, List.set_cons_zero, List.set_cons_succ]
      refine wpAnyH_take (i := 2) (oi := ?oiq1x3) (v := ?vq1x3) ?hiq1x3 (by kernel_rfl) (by kernel_rfl) (by kernel_rfl) ?hQq1x3 (Or.inl ⟨?hwq1x3, ?hyq1x3⟩) (by assumption) ?restq1x3
      case hiq1x3 => simp only [List.getElem?_toArray, List.getElem?_cons_succ, List.getElem?_cons_zero]; exact rfl
      case hQq1x3 => exact fun _ _ _ h => h
      case hwq1x3 => rfl
      case hyq1x3 => ((intro w hSw; (try dsimp only at hSw); go_simp) <;> with_reducible rfl)
      try simp only [Act.put, List.setIfInBounds_toArray, List.set_cons_zero, List.set_cons_succ]
      refine wpAnyH_take (i := 3) (oi := ?oiq1x4) (v := ?vq1x4) ?hiq1x4 (by kernel_rfl) (by kernel_rfl) (by kernel_rfl) ?hQq1x4 (Or.inl ⟨?hwq1x4, ?hyq1x4⟩) (by assumption) ?restq1x4
      case hiq1x4 => simp only [List.getElem?_toArray, List.getElem?_cons_succ, List.getElem?_cons_zero]; exact rfl
      case hQq1x4 => exact fun _ _ _ h => h
      case hwq1x4 => rfl
      case hyq1x4 => ((intro w hSw; (try dsimp only at hSw); go_simp) <;> with_reducible rfl)
      try simp only [Act.put, List.setIfInBounds_toArray, List.set_cons_zero, List.set_cons_succ]
      refine wpAnyH_take (i := 4) (oi := ?oiq1x5) (v := ?vq1x5) ?hiq1x5 (by kernel_rfl) (by kernel_rfl) (by kernel_rfl) ?hQq1x5 (Or.inl ⟨?hwq1x5, ?hyq1x5⟩) (by assumption) ?restq1x5
      case hiq1x5 => simp only [List.getElem?_toArray, List.getElem?_cons_succ, List.getElem?_cons_zero]; exact rfl
      case hQq1x5 => exact fun _ _ _ h => h
      case hwq1x5 => rfl
      case hyq1x5 => ((intro w hSw; (try dsimp only at hSw); go_simp) <;> with_reducible rfl)
      try simp only [Act.put, List.setIfInBounds_toArray, List.set_cons_zero, List.set_cons_succ]
      refine wpAnyH_take (i := 5) (oi := ?oiq1x6) (v := ?vq1x6) ?hiq1x6 (by kernel_rfl) (by kernel_rfl) (by kernel_rfl) ?hQq1x6 (Or.inl ⟨?hwq1x6, ?hyq1x6⟩) (by assumption) ?restq1x6
      case hiq1x6 => simp only [List.getElem?_toArray, List.getElem?_cons_succ, List.getElem?_cons_zero]; exact rfl
      case hQq1x6 => exact fun _ _ _ h => h
      case hwq1x6 => rfl
      case hyq1x6 => ((intro w hSw; (try dsimp only at hSw); go_simp) <;> with_reducible rfl)
      try simp only [Act.put, List.setIfInBounds_toArray, List.set_cons_zero, List.set_cons_succ]
      refine wpAnyH_take (i := 6) (oi := ?oiq1x7) (v := ?vq1x7) ?hiq1x7 (by kernel_rfl) (by kernel_rfl) (by kernel_rfl) ?hQq1x7 (Or.inl ⟨?hwq1x7, ?hyq1x7⟩) (by assumption) ?restq1x7
      case hiq1x7 => simp only [List.getElem?_toArray, List.getElem?_cons_succ, List.getElem?_cons_zero]; exact rfl
      case hQq1x7 => exact fun _ _ _ h => h
      case hwq1x7 => rfl
      case hyq1x7 => ((intro w hSw; (try dsimp only at hSw); go_simp) <;> with_reducible rfl)
      try simp only [Act.put, List.setIfInBounds_toArray, List.set_cons_zero, List.set_cons_succ]
      refine wpAnyH_take (i := 7) (oi := ?oiq1x8) (v := ?vq1x8) ?hiq1x8 (by kernel_rfl) (by kernel_rfl) (by kernel_rfl) ?hQq1x8 (Or.inl ⟨?hwq1x8, ?hyq1x8⟩) (by assumption) ?restq1x8
      case hiq1x8 => simp only [List.getElem?_toArray, List.getElem?_cons_succ, List.getElem?_cons_zero]; exact rfl
      case hQq1x8 => exact fun _ _ _ h => h
      case hwq1x8 => rfl
      case hyq1x8 => ((intro w hSw; (try dsimp only at hSw); go_simp) <;> with_reducible rfl)
      try simp only [Act.put, List.setIfInBounds_toArray, List.set_cons_zero, List.set_cons_succ]
      refine wpAnyH_ready (rs := [8]) (by kernel_rfl) (by simp) ?_
      refine AllReadyH.cons (o := ?oq1x9) ?hoq1x9 (fun K hK => ?stepq1x9) ?moreq1x9
      case hoq1x9 => simp only [List.getElem?_toArray, List.getElem?_cons_succ, List.getElem?_cons_zero]; exact rfl
      case moreq1x9 => exact AllReadyH.nil
      go_simp
      (go_at_call 66; refine (eqBook_same _ _ _ _ n1 n2 _ _ _ _ _ _ _ (hI.later hHeld.1) (hI'.later hHeld.1) hn1 hn2).mono ?_; rintro e w6 ⟨rfl, hb6⟩)
      refine hK.out _ _ ?hSq1x9 (fun hHeld => ?restq1x9)
      case hSq1x9 => ((first | assumption | ((((try dsimp only); repeat' apply And.intro) <;> (first | assumption | (refine below_later ?_ (by assumption); first | assumption | (simp only [*]; done) | (go_grown; done)) | (refine cell_later (by assumption) ?_; first | assumption | (simp only [*]; done) | (simp [go_sem]; done)) | (go_grown; done) | (simp [go_sem]; done))))))
      clear hK K
      try simp only [Act.put, List.setIfInBounds_toArray, List.set_cons_zero, List.set_cons_succ]
      refine wpAnyH_take (i := 9) (oi := ?oiq1x10) (v := ?vq1x10) ?hiq1x10 (by kernel_rfl) (by kernel_rfl) (by kernel_rfl) ?hQq1x10 (Or.inl ⟨?hwq1x10, ?hyq1x10⟩) (by assumption) ?restq1x10
      case hiq1x10 => simp only [List.getElem?_toArray, List.getElem?_cons_succ, List.getElem?_cons_zero]; exact rfl
      case hQq1x10 => exact fun _ _ _ h => h
      case hwq1x10 => rfl
      case hyq1x10 => ((intro w hSw; (try dsimp only at hSw); go_simp) <;> with_reducible rfl)
      try simp only [Act.put, List.setIfInBounds_toArray, List.set_cons_zero, List.set_cons_succ]
      refine wpAnyH_done (by kernel_rfl) ?_ _
      obtain ⟨hbel, -, -, -, -⟩ := hHeld
      go_wp2_with fail
      go_roundw
      case rel => exact ⟨k + 1, by omega, by go_num, hbel⟩
      case measure => simp [intOf]; omega
    · obtain rfl : k = n := by omega
      go_wp2_with fail
      go_ret
      exact ⟨rfl, hbel⟩
set_option maxHeartbeats 1600000 in
set_option maxRecDepth 100000 in
theorem eqInt64S_same (A B : Option Addr) (n c d : Nat) (zs : List Int) (w : World) (hA : Lst w w.heap.size 1 A n zs) (hB : Lst w w.heap.size 1 B n zs) (hn : n ≤ 1048576) :
    Calls Try.prog 36 #[.slice A n c, .slice B n d] w fun e w' => e = .returned (.bool true) ∧ Below w.heap.size w w' := by
  go_enter Try.func36, Try.ntmps36
  go_wp2_with fail
  go_loopw [5] (fun i wr => ∃ k : Nat, k ≤ n ∧ i = .int .i64 (k : Int) ∧ Below w.heap.size w wr) (fun i _ => n - (intOf i).toNat)
  case atStart => exact ⟨0, Nat.zero_le _, rfl, Below.refl _ _⟩
  case round =>
    obtain ⟨k, hk, rfl, hbel⟩ := hrel
    by_cases hlt : k < n
    · obtain ⟨b, o, rfl, hb, h0⟩ := (hA.below hbel).get hlt
      obtain ⟨b', o', rfl, hb', h0'⟩ := (hB.below hbel).get hlt
      have p0 := h0 0 (by omega)
      have p1 := h0' 0 (by omega)
      simp only [Nat.mul_one, Nat.add_zero] at p0 p1
      clear hA hB h0 h0'
      go_wp2_with fail
      go_region
      all_goals go_wp2_with fail
      all_goals go_roundw
      case rel => exact ⟨k + 1, by omega, by go_num, hbel.drew⟩
      case measure => simp [intOf]; omega
    · obtain rfl : k = n := by omega
      go_wp2_with fail
      go_ret
      exact ⟨rfl, hbel⟩
/-- an engine's parts, in blocks below X -/
structure EngIn (w : World) (X : Nat) (A : Option Addr) (n : Nat) (I : Option Addr) (i : Nat) (bs : List (List Int × List Int)) (is : List Int) : Prop where
  books : BooksAt w X A bs
  len : bs.length = n
  accts : Lst w X 1 I i is
theorem EngIn.later {w w' : World} {A I : Option Addr} {n i : Nat} {bs : List (List Int × List Int)} {is : List Int} (h : EngIn w w.heap.size A n I i bs is) (hb : Below w.heap.size w w') : EngIn w' w'.heap.size A n I i bs is := ⟨h.books.later hb, h.len, h.accts.later hb⟩
set_option maxHeartbeats 1600000 in
set_option maxRecDepth 100000 in
theorem eqEngine_same (A I B J : Option Addr) (n c i d c' d' : Nat) (bs : List (List Int × List Int)) (is : List Int) (w : World) (h1 : EngIn w w.heap.size A n I i bs is) (h2 : EngIn w w.heap.size B n J i bs is) (hn : n ≤ 1048576) (hi : i ≤ 1048576) :
    Calls Try.prog 13 #[.agg #[.slice A n c, .slice I i d], .agg #[.slice B n c', .slice J i d']] w fun e w' => e = .returned (.bool true) ∧ Below w.heap.size w w' := by
  obtain ⟨k0, k1⟩ := two_blocks w (.cells #[.slice A n c, .slice I i d] 31) (.cells #[.slice B n c', .slice J i d'] 31)
  have hb0 : Below w.heap.size w ((w.alloc (.cells #[.slice A n c, .slice I i d] 31)).alloc (.cells #[.slice B n c', .slice J i d'] 31)) := ((Below.refl _ _).alloc (Nat.le_refl _) _).alloc (by simp) _
  have hs0 : ((w.alloc (.cells #[.slice A n c, .slice I i d] 31)).alloc (.cells #[.slice B n c', .slice J i d'] 31)).heap.size = w.heap.size + 2 := by simp
  have i1 := h1.later hb0
  have i2 := h2.later hb0
  go_enter Try.func13, Try.ntmps13
  go_wp2_with fail
  generalize ((w.alloc (.cells #[.slice A n c, .slice I i d] 31)).alloc (.cells #[.slice B n c', .slice J i d'] 31)) = w0 at *
  refine (eqBookS_same A B n c c' bs w0 i1.books i2.books i1.len hn).mono ?_
  rintro e w1 ⟨rfl, hb1⟩
  have k0 := (hb1.block w.heap.size (by omega)).trans k0
  have k1 := (hb1.block (w.heap.size + 1) (by omega)).trans k1
  have x1 := cell_of_row w1 w.heap.size 1 _ _ (0, 0) k0
  have y1 := cell_of_row w1 (w.heap.size + 1) 1 _ _ (0, 0) k1
  simp at x1 y1
  have i1 := i1.later hb1
  have i2 := i2.later hb1
  have hB := ord_later hb0 hb1
  clear k0 k1 hb0 hb1
  go_wp2_with fail
  refine (eqInt64S_same I J i d d' is w1 i1.accts i2.accts hi).mono ?_
  rintro e w2 ⟨rfl, hb2⟩
  clear x1 y1
  go_wp2_with fail
  go_ret
  exact ⟨rfl, ord_later hB hb2⟩
theorem book_info : (Try.prog.info? 58).map (fun i => (i.zero, i.size, i.bytes)) = some (some (.agg #[.slice none 0 0, .slice none 0 0]), 2, 48) := by kernel_rfl
def nil8 : Array Value := #[.slice none 0 0, .slice none 0 0, .slice none 0 0, .slice none 0 0, .slice none 0 0, .slice none 0 0, .slice none 0 0, .slice none 0 0]
theorem nil8_at : ∀ i, i < 8 → nil8[i]? = some (.slice none 0 0)
  | 0, _ => rfl
  | 1, _ => rfl
  | 2, _ => rfl
  | 3, _ => rfl
  | 4, _ => rfl
  | 5, _ => rfl
  | 6, _ => rfl
  | 7, _ => rfl
  | i + 8, h => by omega
theorem make_four (w : World) : (Instr.makeSlice 29 (.int .i64 4) (.int .i64 4)).run Try.prog w = .ok (.slice (some ⟨w.heap.size, 0, none⟩) 4 4) (w.alloc (.cells nil8 58)) := by
  obtain ⟨i0, hi, hz0, hz1, hz2⟩ := info_parts book_info
  have hm : madeCells (Value.agg #[.slice none 0 0, .slice none 0 0]).cells (4 * 2) = nil8 := by kernel_rfl
  rw [← hm]
  exact run_make_rows (P := Try.prog) w 29 58 i0 _ 2 48 Try.underlying29 hi hz0 hz1 hz2 .i64 .i64 4 (by decide) (by decide)
/-- a new engine: four empty books in a row of their own -/
def NewEng (w : World) (base : Nat) (v : Value) : Prop := ∃ g, base ≤ g ∧ v = .agg #[.slice (some ⟨g, 0, none⟩) 4 4, .slice none 0 0] ∧ w.rowIs g 58 8 (fun _ => .slice none 0 0)
theorem NewEng.below {w w' : World} {base : Nat} {v : Value} (h : NewEng w base v) (hb : Below w.heap.size w w') : NewEng w' base v := by
  obtain ⟨g, h1, h2, h3⟩ := h
  exact ⟨g, h1, h2, h3.of_block (hb.block g h3.lt)⟩
theorem NewEng.engIn {w : World} {g : Nat} (h : w.rowIs g 58 8 (fun _ => .slice none 0 0)) : EngIn w w.heap.size (some ⟨g, 0, none⟩) 4 none 0 [([], []), ([], []), ([], []), ([], [])] [] :=
  ⟨fun k x hx => by
    have hk : k < 4 := by
      have := (List.getElem?_eq_some_iff.1 hx).1
      simpa using this
    have hx : x = ([], []) := by
      rcases (show k = 0 ∨ k = 1 ∨ k = 2 ∨ k = 3 from by omega) with rfl | rfl | rfl | rfl <;> (simp at hx; exact hx.symm)
    subst hx
    refine ⟨g, 0, none, 0, 0, none, 0, 0, rfl, h.lt, ?_, ?_, ⟨Lst.nil _ _ _ _, Lst.nil _ _ _ _⟩, by omega, by omega⟩
    · rw [Nat.zero_add]; exact h.cell (i := k * 2) (by omega)
    · rw [Nat.zero_add]; exact h.cell (i := k * 2 + 1) (by omega), rfl, Lst.nil _ _ _ _⟩
set_option maxRecDepth 100000 in
theorem spec_EngineNew (w : World) : Calls Try.prog 101 #[] w fun e w' => (∃ v, e = .returned v ∧ NewEng w' w.heap.size v) ∧ Below w.heap.size w w' := by
  obtain ⟨k0, k1⟩ := two_blocks w (.cells #[.slice (some ⟨w.heap.size + 1, 0, none⟩) 4 4, .slice none 0 0] 31) (.cells nil8 58)
  have hb0 : Below w.heap.size w ((w.alloc (.cells #[.slice (some ⟨w.heap.size + 1, 0, none⟩) 4 4, .slice none 0 0] 31)).alloc (.cells nil8 58)) := ((Below.refl _ _).alloc (Nat.le_refl _) _).alloc (by simp) _
  have r0 := cell_of_row _ w.heap.size 0 _ _ (0, 0) k0
  have r1 := cell_of_row _ w.heap.size 1 _ _ (0, 0) k0
  go_enter Try.func101, Try.ntmps101
  go_wp2_with (simp only [make_four])
  generalize ((w.alloc (.cells #[.slice (some ⟨w.heap.size + 1, 0, none⟩) 4 4, .slice none 0 0] 31)).alloc (.cells nil8 58)) = w0 at *
  simp at r0 r1
  exact bodyPost_ret (v := .agg #[.slice (some ⟨w.heap.size + 1, 0, none⟩) 4 4, .slice none 0 0]) (by simp [results, Try.results101, go_sem, r0, r1]) rfl ⟨⟨_, rfl, w.heap.size + 1, by omega, rfl, nil8, k1, rfl, nil8_at⟩, hb0⟩
end Go.Proofs.Ytmbafeiacaamoaa
