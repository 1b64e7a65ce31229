/-
  The volume of a book: the fills, one after another (a range over a function), and the document's loop.
-/
import Derived.Test.YteikflfchkmbnaaRound
import Derived.Test.YteikflfchkmbnaaSums
namespace Go.Proofs.Yteikflfchkmbnaa
open Go.RowKit Go.Shelf Wire

/-- record k is a fill of the book -/
def volAt (zs : List Int) (sym : Int) (k : Nat) : Bool := (num zs (k * 8 + 1) == 3) && (num zs (k * 8 + 2) == sym)
/-- the fills among the first k of n records -/
def fillsOf (zs : List Int) (sym : Int) (n k : Nat) : List (Fin n) := ((List.finRange n).take k).filter fun j => volAt zs sym j.1
theorem fillsOf_zero (zs : List Int) (sym : Int) (n : Nat) : fillsOf zs sym n 0 = [] := rfl
theorem fillsOf_yes {zs : List Int} {sym : Int} {n k : Nat} (h : k < n) (hv : volAt zs sym k = true) : fillsOf zs sym n (k + 1) = fillsOf zs sym n k ++ [⟨k, h⟩] := by
  unfold fillsOf
  rw [List.take_succ_eq_append_getElem (by simpa using h), List.filter_append]
  simp [hv]
theorem fillsOf_no {zs : List Int} {sym : Int} {n k : Nat} (h : k < n) (hv : volAt zs sym k = false) : fillsOf zs sym n (k + 1) = fillsOf zs sym n k := by
  unfold fillsOf
  rw [List.take_succ_eq_append_getElem (by simpa using h), List.filter_append]
  simp [hv]
theorem fillsOf_le {zs : List Int} {sym : Int} {n k : Nat} (h : k ≤ n) : (fillsOf zs sym n k).length ≤ k := by
  unfold fillsOf
  refine Nat.le_trans (List.length_filter_le _ _) ?_
  simp [h]
/-- what some records bear together -/
def sumRows (zs : List Int) {n : Nat} : List (Fin n) → Int
  | [] => 0
  | j :: l => num zs (j.1 * 8 + 7) + sumRows zs l
theorem sumRows_snoc (zs : List Int) {n : Nat} (j : Fin n) : ∀ l : List (Fin n), sumRows zs (l ++ [j]) = sumRows zs l + num zs (j.1 * 8 + 7)
  | [] => by simp [sumRows]
  | i :: l => by rw [List.cons_append, sumRows, sumRows_snoc zs j l, sumRows, Int.add_assoc]
theorem sumRows_fills (zs : List Int) (sym : Int) (n : Nat) : ∀ k, k ≤ n → sumRows zs (fillsOf zs sym n k) = sumIf zs (volAt zs sym) k
  | 0, _ => rfl
  | k + 1, h => by
    rw [sumIf]
    cases hv : volAt zs sym k
    · rw [fillsOf_no (by omega) hv, sumRows_fills zs sym n k (by omega)]; simp
    · rw [fillsOf_yes (by omega) hv, sumRows_snoc, sumRows_fills zs sym n k (by omega)]; simp
theorem sumRows_le {zs : List Int} {n : Nat} (h : ∀ k, k < n → 0 ≤ num zs (k * 8 + 7) ∧ num zs (k * 8 + 7) ≤ 1000000) : ∀ l : List (Fin n), 0 ≤ sumRows zs l ∧ sumRows zs l ≤ 1000000 * l.length
  | [] => by simp [sumRows]
  | i :: l => by
    have h1 := sumRows_le h l
    have h2 := h i.1 i.2
    simp only [sumRows, List.length_cons]
    omega
def volV (zs : List Int) (n : Nat) (sym : Int) : Int := if okTo zs n = true then sumIf zs (volAt zs sym) n else -1
theorem volV_no {zs : List Int} {n k : Nat} {sym : Int} (h : okAt zs k = false) (hk : k < n) : volV zs n sym = -1 := by
  simp [volV, okTo_no h n hk]
/-- the record k -/
def recV (zs : List Int) (k : Nat) : Value := .agg #[.int .i64 (num zs (k * 8)), .int .i64 (num zs (k * 8 + 1)), .int .i64 (num zs (k * 8 + 2)), .int .i64 (num zs (k * 8 + 3)), .int .i64 (num zs (k * 8 + 4)), .int .i64 (num zs (k * 8 + 5)), .int .i64 (num zs (k * 8 + 6)), .int .i64 (num zs (k * 8 + 7))]
/-- all blocks below Bd lie as they lay, but one -/
structure AllBut (x Bd : Nat) (w w' : World) : Prop where
  size : w.heap.size ≤ w'.heap.size
  block : ∀ b, b < Bd → b ≠ x → w'.heap[b]? = w.heap[b]?
theorem AllBut.refl (x Bd : Nat) (w : World) : AllBut x Bd w w := ⟨Nat.le_refl _, fun _ _ _ => rfl⟩
theorem AllBut.trans {x Bd : Nat} {a b c : World} (h : AllBut x Bd a b) (k : AllBut x Bd b c) : AllBut x Bd a c := ⟨Nat.le_trans h.size k.size, fun i hi hx => (k.block i hi hx).trans (h.block i hi hx)⟩
theorem AllBut.alloc {x Bd : Nat} {a b : World} (h : AllBut x Bd a b) (ha : Bd ≤ a.heap.size) (o : Obj) : AllBut x Bd a (b.alloc o) :=
  ⟨by have := h.size; simp; omega, fun i hi hx => (Below.heap_alloc b o i (by have := h.size; omega)).trans (h.block i hi hx)⟩
theorem AllBut.cell {x Bd : Nat} {a b : World} (h : AllBut x Bd a b) {p : Addr} (hp : p.block < Bd) (hx : p.block ≠ x) : b.cell? p = a.cell? p := World.cell?_of_block (h.block p.block hp hx)
theorem fAbides_alloc {β : Type} {B : Nat} {J : β → World → Prop} (h : AbidesFrom B J) {s : β} {w : World} (o : Obj) (hs : J s w) : J s (w.alloc o) :=
  h s w _ none hs (World.grownBy_alloc w o none) (fun r e => by cases e)
attribute [local go_sem] Oper.semAt_some
set_option linter.unusedSimpArgs false in
set_option maxHeartbeats 1600000 in
set_option maxRecDepth 100000 in
theorem impl_fills1 (fo l x Bd B n c b1 b2 : Nat) (A : Option Addr) (sym : Int) (zs : List Int) (J Jx : List (Fin n) → World → Prop) (B₀ : Nat) (hJ : AbidesFrom B₀ J)
    (hY : ∀ pre (y : Fin n) W, J pre W → pre.length < n → YieldAt Fence.wide fo Try.prog l #[recV zs y.1] W fun e W' =>
      (e = .returned (.bool true) ∧ J (pre ++ [y]) W' ∧ AllBut x Bd W W') ∨ (e = .returned (.bool false) ∧ Jx (pre ++ [y]) W'))
    (W : World) (hl : Lst W B 8 A n zs) (hBx : B ≤ x) (hB : B ≤ Bd) (hn : n ≤ 1048576) (h1 : W.cell? ⟨b1, 0, none⟩ = some (.slice A n c)) (h2 : W.cell? ⟨b2, 0, none⟩ = some (.int .i64 sym)) (hb2 : b2 < Bd) (hx2 : b2 ≠ x) (hBd : Bd ≤ W.heap.size) (h0 : J [] W) :
    CallsIn Fence.wide (fo + 1) Try.prog 84 #[.func (.yield l) #[] #[], .pointer (some ⟨b1, 0, none⟩), .pointer (some ⟨b2, 0, none⟩)] W fun e W' => (∃ u, e = .returned u) ∧
      ((∃ ys, ys = fillsOf zs sym n n ∧ J ys W') ∨ (∃ pre, (∃ k, pre = fillsOf zs sym n k) ∧ Jx pre W')) := by
  refine callsIn_of_wp Try.func84 rfl trivial ?_ rfl
  simp only [Try.ntmps84, List.size_toArray, List.length_cons, List.length_nil, Nat.reduceAdd, Nat.reduceSub, Array.replicate_succ, Array.replicate_zero, List.push_toArray, List.append_toArray, List.nil_append, List.cons_append]
  gi_wp2
  gi_loopw [8] (fun i wr => ∃ k : Nat, k ≤ n ∧ i = .int .i64 (k : Int) ∧ J (fillsOf zs sym n k) wr ∧ AllBut x Bd W wr) (fun i _ => n - (intOf i).toNat)
  case atStart => exact ⟨0, Nat.zero_le _, rfl, h0, .refl _ _ _⟩
  case round =>
    obtain ⟨k, hk, rfl, hJk, hM⟩ := hrel
    by_cases hlt : k < n
    · have hlr : Lst wr B 8 A n zs := hl.keep fun p hp => hM.cell (Nat.lt_of_lt_of_le hp hB) (by omega)
      obtain ⟨b, o, rfl, hb, c0, c1, c2, c3, c4, c5, c6, c7⟩ := hlr.row8 hlt
      have d2 := (hM.cell (p := ⟨b2, 0, none⟩) hb2 hx2).trans h2
      have hbw : b2 < wr.heap.size := Nat.lt_of_lt_of_le hb2 (Nat.le_trans hBd hM.size)
      have hMA := hM.alloc hBd (.cells #[.int .i64 (num zs (k * 8)), .int .i64 (num zs (k * 8 + 1)), .int .i64 (num zs (k * 8 + 2)), .int .i64 (num zs (k * 8 + 3)), .int .i64 (num zs (k * 8 + 4)), .int .i64 (num zs (k * 8 + 5)), .int .i64 (num zs (k * 8 + 6)), .int .i64 (num zs (k * 8 + 7))] 41)
      have hJA := fAbides_alloc hJ (.cells #[.int .i64 (num zs (k * 8)), .int .i64 (num zs (k * 8 + 1)), .int .i64 (num zs (k * 8 + 2)), .int .i64 (num zs (k * 8 + 3)), .int .i64 (num zs (k * 8 + 4)), .int .i64 (num zs (k * 8 + 5)), .int .i64 (num zs (k * 8 + 6)), .int .i64 (num zs (k * 8 + 7))] 41) hJk
      rcases Bool.eq_false_or_eq_true (volAt zs sym k) with hv | hv
      · have HF := Lib.hid (fillsOf_yes hlt hv)
        obtain ⟨hv1, hv2⟩ : (num zs (k * 8 + 1) == 3) = true ∧ (num zs (k * 8 + 2) == sym) = true := by simpa [volAt] using hv
        obtain ⟨fn, tmps, assign, body, hy, hR⟩ := hY _ ⟨k, hlt⟩ _ hJA (Nat.lt_of_le_of_lt (fillsOf_le (Nat.le_of_lt hlt)) hlt)
        dsimp only [recV] at hy
        clear hv
        gi_wp2
        refine hR.mono ?_
        rintro e W3 (⟨rfl, hJ3, hk3⟩ | ⟨rfl, hJx3⟩)
        · gi_wp2
          go_roundw
          case rel => exact ⟨k + 1, by omega, by go_num, by rw [HF.out]; exact hJ3, hMA.trans hk3⟩
          case measure => simp [intOf]; omega
        · gi_wp2
          refine bodyPost_ret (results_none rfl _ _ _) rfl ?_
          exact ⟨⟨_, rfl⟩, .inr ⟨_, ⟨k + 1, HF.out.symm⟩, hJx3⟩⟩
      · have HF := Lib.hid (fillsOf_no hlt hv)
        rcases Bool.eq_false_or_eq_true (num zs (k * 8 + 1) == 3) with hv1 | hv1
        · have hv2 : (num zs (k * 8 + 2) == sym) = false := by simpa [volAt, hv1] using hv
          clear hv
          gi_wp2
          refine ⟨fun _ h => (by cases h), ?_⟩
          gi_wp2
          go_roundw
          case rel => exact ⟨k + 1, by omega, by go_num, by rw [HF.out]; exact hJA, hMA⟩
          case measure => simp [intOf]; omega
        · clear hv
          gi_wp2
          refine ⟨fun _ h => (by cases h), ?_⟩
          gi_wp2
          go_roundw
          case rel => exact ⟨k + 1, by omega, by go_num, by rw [HF.out]; exact hJA, hMA⟩
          case measure => simp [intOf]; omega
    · obtain rfl : n = k := by omega
      gi_wp2
      go_end0
      exact ⟨⟨_, rfl⟩, .inl ⟨_, rfl, hJk⟩⟩
/-- the iterator's contract, in the law's form -/
theorem fills_stops (fo x B n c b1 b2 : Nat) (A : Option Addr) (sym : Int) (zs : List Int) (w : World) (hl : Lst w B 8 A n zs) (hBx : B ≤ x) (hB : B ≤ w.heap.size) (hn : n ≤ 1048576) (h1 : w.cell? ⟨b1, 0, none⟩ = some (.slice A n c)) (h2 : w.cell? ⟨b2, 0, none⟩ = some (.int .i64 sym)) (hb1 : b1 < w.heap.size) (hb2 : b2 < w.heap.size) (hx2 : b2 ≠ x) :
    SeqStopsK Fence.wide (fo + 1) Try.prog 84 #[.pointer (some ⟨b1, 0, none⟩), .pointer (some ⟨b2, 0, none⟩)] (fun y : Fin n => #[recV zs y.1]) (AllBut x w.heap.size) (fun ys => ys = fillsOf zs sym n n) (fun pre => ∃ k, pre = fillsOf zs sym n k) n w := fun l J Jx W hW hJ _ hY h0 =>
  impl_fills1 fo l x w.heap.size B n c b1 b2 A sym zs J Jx W.heap.size hJ hY W (hl.below (hW.mono hB)) hBx hB hn ((hW.cell (p := ⟨b1, 0, none⟩) hb1).trans h1) ((hW.cell (p := ⟨b2, 0, none⟩) hb2).trans h2) hb2 hx2 hW.size h0
set_option maxRecDepth 100000 in
theorem impl_fillsIn (A : Option Addr) (n c : Nat) (sym : Int) (w : World) :
    Calls Try.prog 50 #[.slice A n c, .int .i64 sym] w fun e w' => e = .returned (.func (.func 84) #[] #[.pointer (some ⟨w.heap.size, 0, none⟩), .pointer (some ⟨w.heap.size + 1, 0, none⟩)]) ∧ w' = (w.alloc (.cells #[.slice A n c] 24)).alloc (.cells #[.int .i64 sym] 2) := by
  go_enter Try.func50, Try.ntmps50
  go_wp2_with fail
  go_ret
  exact ⟨by simp, rfl⟩
theorem ownFrom_rec {β : Type} (B Bx : Nat) (cs : Array Value) (T : TypeId) : OwnFrom B (fun (_ : β) W => W.heap[Bx]? = some (.cells cs T (0, 0))) := fun s X Y row hs hg hr => by
  refine (hg.block Bx (Array.getElem?_eq_some_iff.1 hs).1 (fun e => ?_)).trans hs
  obtain ⟨_, o, ho, hc⟩ := hr Bx e.symm
  rw [hs] at ho
  injection ho with ho
  subst ho
  simp [Obj.isCells] at hc
attribute [local go_sem] Oper.semAt_some
set_option linter.unusedSimpArgs false in
set_option maxHeartbeats 1600000 in
set_option maxRecDepth 100000 in
theorem impl_Volume (A : Option Addr) (n c : Nat) (zs : List Int) (sym : Int) (w : World) (hl : Lst w w.heap.size 8 A n zs) (hn : n ≤ 1048576) :
    Calls Try.prog 13 #[.slice A n c, .int .i64 sym] w fun e w' => e = .returned (.int .i64 (volV zs n sym)) ∧ Below w.heap.size w w' := by
  refine callsIn_wide.1 (callsIn_of_wp_marks (n := 9) Try.func13 rfl trivial (wpIn_wide.2 ?_) rfl)
  simp only [Try.ntmps13, List.size_toArray, List.length_cons, List.length_nil, Nat.reduceAdd, Nat.reduceSub, Array.replicate_succ, Array.replicate_zero, List.push_toArray, List.append_toArray, List.nil_append, List.cons_append]
  go_wp2_with fail
  refine (impl_recsOk A n c zs w hl hn).mono ?_
  rcases Bool.eq_false_or_eq_true (okTo zs n) with hall | hall
  rotate_left
  · have HN : Hid (volV zs n sym = -1) := Lib.hid (by simp [volV, hall])
    rw [hall]
    rintro e w1 ⟨rfl, hb1⟩
    clear hall
    go_wp2_with fail
    exact ⟨_, results_tmp rfl _ _ _, by rw [HN.out]; rfl, hb1⟩
  · have HN : Hid (volV zs n sym = sumIf zs (volAt zs sym) n) := Lib.hid (by simp [volV, hall])
    have Hq := Lib.hid (fun k (hk : k < n) => okAt_qty (okTo_at n k hall hk))
    rw [hall]
    rintro e w1 ⟨rfl, hb1⟩
    clear hall
    go_wp2_with fail
    have hl1 := hl.below hb1
    have bV : Boxed (w1.alloc (.cells #[.int .i64 0] 2)) w1.heap.size 2 (.int .i64 0) := Boxed.new w1 _ _
    refine (impl_fillsIn A n c sym _).mono ?_
    rintro e w2 ⟨rfl, rfl⟩
    go_wp2_with fail
    have hbA : Below w.heap.size w (w1.alloc (.cells #[.int .i64 0] 2)) := hb1.alloc hb1.size _
    obtain ⟨m1, m2⟩ := two_blocks (w1.alloc (.cells #[.int .i64 0] 2)) (.cells #[.slice A n c] 24) (.cells #[.int .i64 sym] 2)
    have hb5 : Below w.heap.size w (((w1.alloc (.cells #[.int .i64 0] 2)).alloc (.cells #[.slice A n c] 24)).alloc (.cells #[.int .i64 sym] 2)) := (hbA.alloc hbA.size _).alloc (by have := hb1.size; simp; omega) _
    have bV := (bV.alloc (.cells #[.slice A n c] 24)).alloc (.cells #[.int .i64 sym] 2)
    have hsz5 : (((w1.alloc (.cells #[.int .i64 0] 2)).alloc (.cells #[.slice A n c] 24)).alloc (.cells #[.int .i64 sym] 2)).heap.size = w1.heap.size + 3 := by simp
    rw [show (w1.alloc (.cells #[.int .i64 0] 2)).heap.size = w1.heap.size + 1 by simp] at m1 m2
    generalize (((w1.alloc (.cells #[.int .i64 0] 2)).alloc (.cells #[.slice A n c] 24)).alloc (.cells #[.int .i64 sym] 2)) = w5 at *
    have hl5 : Lst w5 w.heap.size 8 A n zs := hl.below hb5
    have c1 := cell_of_row w5 (w1.heap.size + 1) 0 _ _ (0, 0) m1
    have c2 := cell_of_row w5 (w1.heap.size + 1 + 1) 0 _ _ (0, 0) m2
    simp at c1 c2
    have hsz1 : w.heap.size ≤ w1.heap.size := hb1.size
    clear m1 m2 hbA hl1 hb1 hl
    refine (wpIn_wide (n := 9)).1 ?_
    refine wpIn_rangeFunc_ownH rfl (by omega) (gf := 84) (lb := #[.pointer (some ⟨w1.heap.size + 1, 0, none⟩), .pointer (some ⟨w1.heap.size + 1 + 1, 0, none⟩)]) rfl trivial (enters_of Try.func84 (by kernel_rfl) rfl)
      (fills_stops 7 w1.heap.size w.heap.size n c _ _ A sym zs w5 hl5 hsz1 hb5.size hn c1 c2 (by omega) (by omega) (by omega)) AllBut.trans (fun W l o o' hl h _ _ => ⟨by simp, fun i hi _ => World.putObj_heap_other (by omega)⟩) (Below.refl _ _) (fun _ => rfl)
      (fun pre W => Boxed W w1.heap.size 2 (.int .i64 (sumRows zs pre)) ∧ Below w.heap.size w W ∧ w5.heap.size ≤ W.heap.size)
      (fun _ _ _ => False)
      (OwnFrom.and (Own.from (boxed_own w1.heap.size 2 (fun pre : List (Fin n) => .int .i64 (sumRows zs pre))) _) (OwnFrom.and (ownFrom_below (Nat.le_refl _) hb5.size) (fun _ _ _ _ hs hg _ => Nat.le_trans hs hg.size)))
      (fun _ _ _ _ _ hs _ _ => hs)
      ⟨bV, hb5, Nat.le_refl _⟩
      (fun y a' W => ∃ Bx, w1.heap.size < Bx ∧ W.heap[Bx]? = some (.cells #[.int .i64 (num zs (y.1 * 8)), .int .i64 (num zs (y.1 * 8 + 1)), .int .i64 (num zs (y.1 * 8 + 2)), .int .i64 (num zs (y.1 * 8 + 3)), .int .i64 (num zs (y.1 * 8 + 4)), .int .i64 (num zs (y.1 * 8 + 5)), .int .i64 (num zs (y.1 * 8 + 6)), .int .i64 (num zs (y.1 * 8 + 7))] 41 (0, 0)) ∧ a' = { tmps := #[.slice A n c, .int .i64 sym, undef, undef, .int .i64 0, .pointer (some ⟨w1.heap.size, 0, none⟩), .pointer (some ⟨Bx, 0, none⟩), .slice A n c, .bool true, .bool false, .slice A n c, .int .i64 sym, .func (.func 84) #[] #[.pointer (some ⟨w1.heap.size + 1, 0, none⟩), .pointer (some ⟨w1.heap.size + 1 + 1, 0, none⟩)], .agg #[.int .i64 (num zs (y.1 * 8)), .int .i64 (num zs (y.1 * 8 + 1)), .int .i64 (num zs (y.1 * 8 + 2)), .int .i64 (num zs (y.1 * 8 + 3)), .int .i64 (num zs (y.1 * 8 + 4)), .int .i64 (num zs (y.1 * 8 + 5)), .int .i64 (num zs (y.1 * 8 + 6)), .int .i64 (num zs (y.1 * 8 + 7))], undef, undef, undef, undef, undef], defers := [] })
      (fun y a' s W W' row hs hg hr => by
        obtain ⟨Bx, hx, hrow, ha⟩ := hs
        exact ⟨Bx, hx, ownFrom_rec _ Bx _ _ () W W' row hrow hg hr, ha⟩) ?assign ?body ?done ?stop
    case assign =>
      rintro l pre y W K ⟨hbx, hbl, hsW⟩ hK
      have hWs : w1.heap.size < W.heap.size := hbx.lt
      dsimp only [recV]
      gi_wp2
      exact hK _ _ ((KeepsOthers.alloc _ _).from _) ⟨by simp, fun b hb _ => Below.heap_alloc W _ b (by omega)⟩ ⟨hbx.alloc _, hbl.alloc hbl.size _, by simp; omega⟩ ⟨W.heap.size, hWs, heap_alloc_new W (.cells #[.int .i64 (num zs (y.1 * 8)), .int .i64 (num zs (y.1 * 8 + 1)), .int .i64 (num zs (y.1 * 8 + 2)), .int .i64 (num zs (y.1 * 8 + 3)), .int .i64 (num zs (y.1 * 8 + 4)), .int .i64 (num zs (y.1 * 8 + 5)), .int .i64 (num zs (y.1 * 8 + 6)), .int .i64 (num zs (y.1 * 8 + 7))] 41), rfl⟩
    case body =>
      rintro l pre y a' W hlw hrec ⟨hbx, hbl, hsW⟩ ⟨Bx, hBx, hrow, rfl⟩ hlen
      have r7 := cell_of_row W Bx 7 _ _ (0, 0) hrow
      simp at r7
      have hcx := hbx.cell
      have hfx := hbx.frozen
      have hs := sumRows_le Hq.out pre
      have hq := Hq.out y.1 y.2
      have HS := Lib.hid (sumRows_snoc zs y pre)
      generalize hsum : sumRows zs pre = s at *
      gi_wp2
      refine ⟨(KeepsOthers.setCell _ _ _).from _, ⟨by simp [World.setCell], fun b _ hb => Below.heap_setCell W _ _ b (fun e => hb e)⟩, ?_, hbl.setCell (p := ⟨w1.heap.size, 0, none⟩) hsz1 _, by simpa [World.setCell] using hsW⟩
      rw [HS.out]
      exact hbx.set _
    case done =>
      rintro D ys W hD rfl ⟨hbx, hbl, hsW⟩ hK
      have hcx := hbx.cell
      have HF := Lib.hid (sumRows_fills zs sym n n (Nat.le_refl _))
      go_wp2_with fail
      refine ⟨by simp, .inl ⟨_, _, rfl, run_takeDeferred hK, ?_⟩⟩
      refine ⟨_, results_tmp rfl _ _ _, by rw [HN.out, ← HF.out]; rfl, hbl.trans (belowK_b (n₀ := w.heap.size) (w := w5) hb5.size W D _ _ hD hK rfl rfl)⟩
    case stop =>
      rintro D c pre W _ _ h _
      exact h.elim
theorem vol_step (zs : List Int) (sym : Int) (k : Nat) : sumIf zs (volAt zs sym) (k + 1) = plusIf (sumIf zs (volAt zs sym) k) ((num zs (k * 8 + 1) == 3) && (num zs (k * 8 + 2) == sym)) (num zs (k * 8 + 7)) := sum_step zs (volAt zs sym) k
set_option linter.unusedSimpArgs false in
set_option maxHeartbeats 1600000 in
set_option maxRecDepth 100000 in
theorem spec_Volume (A : Option Addr) (n c : Nat) (zs : List Int) (sym : Int) (w : World) (hl : Lst w w.heap.size 8 A n zs) (hn : n ≤ 1048576) :
    Calls Try.prog 14 #[.slice A n c, .int .i64 sym] w fun e w' => e = .returned (.int .i64 (volV zs n sym)) ∧ Below w.heap.size w w' := by
  go_enter Try.func14, Try.ntmps14
  go_wp2_with fail
  go_loopw [5, 6] (fun s i wr => ∃ k : Nat, k ≤ n ∧ i = .int .i64 (k : Int) ∧ s = .int .i64 (sumIf zs (volAt zs sym) k) ∧ okTo zs k = true ∧ Below w.heap.size w wr) (fun _ i _ => n - (intOf i).toNat)
  case atStart => exact ⟨0, Nat.zero_le _, rfl, rfl, rfl, Below.refl _ _⟩
  case round =>
    obtain ⟨k, hk, rfl, rfl, hok, hbel⟩ := hrel
    by_cases hlt : k < n
    · obtain ⟨b, o, rfl, hb, c0, c1, c2, c3, c4, c5, c6, c7⟩ := (hl.below hbel).row8 hlt
      have HST := Lib.hid (vol_step zs sym k)
      have hs := sumIf_le (p := volAt zs sym) k hok
      have hok2 := fun h => okTo_step (k := k) hok h
      have hno := fun h => @volV_no zs n k sym h hlt
      have hq := @okAt_qty zs k
      have HA : Hid (okAt zs k = recB (num zs (k * 8)) (num zs (k * 8 + 1)) (num zs (k * 8 + 2)) (num zs (k * 8 + 3)) (num zs (k * 8 + 4)) (num zs (k * 8 + 5)) (num zs (k * 8 + 6)) (num zs (k * 8 + 7))) := Lib.hid rfl
      generalize sumIf zs (volAt zs sym) k = s at *
      generalize num zs (k * 8) = z0 at *
      generalize num zs (k * 8 + 1) = z1 at *
      generalize num zs (k * 8 + 2) = z2 at *
      generalize num zs (k * 8 + 3) = z3 at *
      generalize num zs (k * 8 + 4) = z4 at *
      generalize num zs (k * 8 + 5) = z5 at *
      generalize num zs (k * 8 + 6) = z6 at *
      generalize num zs (k * 8 + 7) = z7 at *
      clear hok
      rcases Bool.eq_false_or_eq_true (okAt zs k) with hat | hat
      · have HO := Lib.hid (hok2 hat)
        have hq := hq hat
        have HR : Hid (recB z0 z1 z2 z3 z4 z5 z6 z7 = true) := Lib.hid (HA.out ▸ hat)
        clear hok2 hno hat HA
        go_wp2_with fail
        refine (spec_RecOk _ _ _ _ _ _ _ _ _).mono ?_
        rw [HR.out]
        rintro e w1 ⟨rfl, hb1⟩
        have hbw : b < wr.heap.size := Nat.lt_of_lt_of_le hb hbel.size
        have e1 := (hb1.cell (p := ⟨b, o + k * 8 + 1, none⟩) hbw).trans c1
        have e2 := (hb1.cell (p := ⟨b, o + k * 8 + 2, none⟩) hbw).trans c2
        have e7 := (hb1.cell (p := ⟨b, o + k * 8 + 7, none⟩) hbw).trans c7
        have hbel1 := Lib.hid (hbel.trans (hb1.mono hbel.size))
        clear hb1 hbel c0 c1 c2 c3 c4 c5 c6 c7 hl hb hbw
        rcases Bool.eq_false_or_eq_true (z1 == 3) with t1 | t1
        · rcases Bool.eq_false_or_eq_true (z2 == sym) with t2 | t2
          · go_wp2_with fail
            go_roundw
            case rel => exact ⟨k + 1, by omega, by go_num, by rw [HST.out, t1, t2]; rfl, HO.out, hbel1.out⟩
            case measure => simp [intOf]; omega
          · go_wp2_with fail
            go_roundw
            case rel => exact ⟨k + 1, by omega, by go_num, by rw [HST.out, t1, t2]; rfl, HO.out, hbel1.out⟩
            case measure => simp [intOf]; omega
        · go_wp2_with fail
          go_roundw
          case rel => exact ⟨k + 1, by omega, by go_num, by rw [HST.out, t1]; rfl, HO.out, hbel1.out⟩
          case measure => simp [intOf]; omega
      · have hno := Lib.hid (hno hat)
        have HR : Hid (recB z0 z1 z2 z3 z4 z5 z6 z7 = false) := Lib.hid (HA.out ▸ hat)
        clear hok2 hat HA hq
        go_wp2_with fail
        refine (spec_RecOk _ _ _ _ _ _ _ _ _).mono ?_
        rw [HR.out]
        rintro e w1 ⟨rfl, hb1⟩
        go_wp2_with fail
        go_ret
        exact ⟨by rw [hno.out]; rfl, hbel.trans (hb1.mono hbel.size)⟩
    · obtain rfl : k = n := by omega
      have HN : Hid (volV zs k sym = sumIf zs (volAt zs sym) k) := Lib.hid (by simp [volV, hok])
      clear hok hl
      go_wp2_with fail
      go_ret
      exact ⟨by rw [HN.out]; rfl, hbel⟩
end Go.Proofs.Yteikflfchkmbnaa
