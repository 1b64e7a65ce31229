/-
  The trades of a tape: the program's.
-/
import Derived.Test.YteikflfchkmbnaaTrOf
import Derived.OwnWalkIn
namespace Go.Proofs.Yteikflfchkmbnaa
open Go.RowKit Go.Shelf Wire

/-- the right trades among some fills -/
def trR (zs : List Int) {n : Nat} (j : Fin n) : Bool := trdI (num zs (j.1 * 8 + 6)) (num zs (j.1 * 8 + 7))
def lisR (zs : List Int) {n : Nat} : List (Fin n) → List Int
  | [] => []
  | j :: l => (if trR zs j = true then [num zs (j.1 * 8 + 6), num zs (j.1 * 8 + 7)] else []) ++ lisR zs l
def cntR (zs : List Int) {n : Nat} : List (Fin n) → Nat
  | [] => 0
  | j :: l => (if trR zs j = true then 1 else 0) + cntR zs l
theorem lisR_snoc (zs : List Int) {n : Nat} (j : Fin n) : ∀ l : List (Fin n), lisR zs (l ++ [j]) = lisR zs l ++ (if trR zs j = true then [num zs (j.1 * 8 + 6), num zs (j.1 * 8 + 7)] else [])
  | [] => by simp [lisR]
  | i :: l => by rw [List.cons_append, lisR, lisR_snoc zs j l, lisR, List.append_assoc]
theorem cntR_snoc (zs : List Int) {n : Nat} (j : Fin n) : ∀ l : List (Fin n), cntR zs (l ++ [j]) = cntR zs l + (if trR zs j = true then 1 else 0)
  | [] => by simp [cntR]
  | i :: l => by rw [List.cons_append, cntR, cntR_snoc zs j l, cntR, Nat.add_assoc]
theorem cntR_le (zs : List Int) {n : Nat} : ∀ l : List (Fin n), cntR zs l ≤ l.length
  | [] => Nat.le_refl _
  | i :: l => by
    have := cntR_le zs l
    rw [cntR, List.length_cons]
    split <;> omega
theorem lisR_fills (zs : List Int) (sym : Int) (n : Nat) : ∀ k, k ≤ n → lisR zs (fillsOf zs sym n k) = trZ zs sym k ∧ cntR zs (fillsOf zs sym n k) = trN zs sym k
  | 0, _ => ⟨rfl, rfl⟩
  | k + 1, h => by
    obtain ⟨h1, h2⟩ := lisR_fills zs sym n k (by omega)
    rw [trZ, trN]
    cases hv : volAt zs sym k
    · rw [fillsOf_no (by omega) hv, h1, h2]
      simp [trAt, hv]
    · have ht : trAt zs sym k = trR zs (⟨k, by omega⟩ : Fin n) := by simp [trAt, hv, trR]
      rw [fillsOf_yes (by omega) hv, lisR_snoc, cntR_snoc, h1, h2, ht]
      cases trR zs (⟨k, by omega⟩ : Fin n)
      · exact ⟨by rw [if_neg (by simp), if_neg (by simp), List.append_nil], by rw [if_neg (by simp), if_neg (by simp), Nat.add_zero]⟩
      · exact ⟨rfl, rfl⟩
theorem cells_row {w : World} {base sz n : Nat} {e : TypeId} {v : Value} {xs : List Value} (h : w.ownsRow base e sz v n xs) {j : Nat} {o : Obj} (hv : v.ownBlock = some j) (ho : w.heap[j]? = some o) : o.isCells = true := by
  rcases h.2 with ⟨h1, _⟩ | ⟨q, _, cur, h1, _, hq, _⟩
  · rw [h1] at hv; cases hv
  · rw [h1] at hv
    simp [Value.ownBlock] at hv
    subst hv
    rw [hq] at ho
    injection ho with ho
    subst ho
    rfl
theorem own_far {w w' : World} {base sz n : Nat} {e : TypeId} {v : Value} {xs : List Value} {row : Option Nat} (h : w.ownsRow base e sz v n xs) (hg : w.grownBy w' row) (hr : ∀ r, row = some r → ∃ o : Obj, w.heap[r]? = some o ∧ o.isCells = false) : w'.ownsRow base e sz v n xs := by
  refine h.kept hg ?_
  cases hv : v.ownBlock with
  | none => exact .inl rfl
  | some j =>
    refine .inr (fun e => ?_)
    obtain ⟨o, ho, hc⟩ := hr j e.symm
    rw [cells_row h hv ho] at hc
    cases hc
theorem keeps_below {W W' : World} (h : Below W.heap.size W W') : KeepsOthers W W' := KeepsOthers.of_grownBy (row := none) ⟨h.os, h.tape, h.output, h.size, fun k hk _ => h.block k hk⟩ (fun j o e => by cases e)
attribute [local go_sem] Oper.semAt_some
set_option linter.unusedSimpArgs false in
set_option maxHeartbeats 3200000 in
set_option maxRecDepth 100000 in
theorem impl_TradesOf (A : Option Addr) (n c : Nat) (zs : List Int) (sym : Int) (w : World) (hl : Lst w w.heap.size 8 A n zs) (hn : n ≤ 1048576) :
    Calls Try.prog 15 #[.slice A n c, .int .i64 sym] w fun e w' => ∃ v, e = .returned v ∧ w'.ownsRow w.heap.size 31 2 v (trM zs sym n) (nums (trV zs sym n)) ∧ Below w.heap.size w w' := by
  obtain ⟨i0, hi, hz0, hz1, hz2⟩ := info_parts tro_info
  refine callsIn_wide.1 (callsIn_of_wp_marks (n := 9) Try.func15 rfl trivial (wpIn_wide.2 ?_) rfl)
  simp only [Try.ntmps15, List.size_toArray, List.length_cons, List.length_nil, Nat.reduceAdd, Nat.reduceSub, Array.replicate_succ, Array.replicate_zero, List.push_toArray, List.append_toArray, List.nil_append, List.cons_append]
  go_wp2_with fail
  refine (impl_recsOk A n c zs w hl hn).mono ?_
  rcases Bool.eq_false_or_eq_true (okTo zs n) with hall | hall
  rotate_left
  · have HN : Hid (trV zs sym n = [] ∧ trM zs sym n = 0) := Lib.hid (by simp [trV, trM, hall])
    rw [hall]
    rintro e w1 ⟨rfl, hb1⟩
    clear hall
    go_wp2_with fail
    refine ⟨_, results_tmp rfl _ _ _, ⟨_, rfl, ?_, hb1⟩⟩
    rw [HN.out.1, HN.out.2]
    exact World.ownsRow_nil _ _ _ _
  · have HN : Hid (trV zs sym n = trZ zs sym n ∧ trM zs sym n = trN zs sym n) := Lib.hid (by simp [trV, trM, hall])
    rw [hall]
    rintro e w1 ⟨rfl, hb1⟩
    clear hall
    go_wp2_with fail
    have hl1 := hl.below hb1
    have bV : Boxed (w1.alloc (.cells #[.slice none 0 0] 28)) w1.heap.size 28 (.slice none 0 0) := Boxed.new w1 _ _
    refine (impl_fillsIn A n c sym _).mono ?_
    rintro e w2 ⟨rfl, rfl⟩
    go_wp2_with fail
    have hbA : Below w.heap.size w (w1.alloc (.cells #[.slice none 0 0] 28)) := hb1.alloc hb1.size _
    obtain ⟨m1, m2⟩ := two_blocks (w1.alloc (.cells #[.slice none 0 0] 28)) (.cells #[.slice A n c] 24) (.cells #[.int .i64 sym] 2)
    have hb5 : Below w.heap.size w (((w1.alloc (.cells #[.slice none 0 0] 28)).alloc (.cells #[.slice A n c] 24)).alloc (.cells #[.int .i64 sym] 2)) := (hbA.alloc hbA.size _).alloc (by have := hb1.size; simp; omega) _
    have bV := (bV.alloc (.cells #[.slice A n c] 24)).alloc (.cells #[.int .i64 sym] 2)
    have hsz5 : (((w1.alloc (.cells #[.slice none 0 0] 28)).alloc (.cells #[.slice A n c] 24)).alloc (.cells #[.int .i64 sym] 2)).heap.size = w1.heap.size + 3 := by simp
    rw [show (w1.alloc (.cells #[.slice none 0 0] 28)).heap.size = w1.heap.size + 1 by simp] at m1 m2
    generalize (((w1.alloc (.cells #[.slice none 0 0] 28)).alloc (.cells #[.slice A n c] 24)).alloc (.cells #[.int .i64 sym] 2)) = w5 at *
    have hl5 : Lst w5 w.heap.size 8 A n zs := hl.below hb5
    have c1 := cell_of_row w5 (w1.heap.size + 1) 0 _ _ (0, 0) m1
    have c2 := cell_of_row w5 (w1.heap.size + 1 + 1) 0 _ _ (0, 0) m2
    simp at c1 c2
    have hsz1 : w.heap.size ≤ w1.heap.size := hb1.size
    clear m1 m2 hbA hl1 hb1 hl
    refine (wpIn_wide (n := 9)).1 ?_
    refine wpIn_rangeFunc_ownH rfl (by omega) (gf := 84) (lb := #[.pointer (some ⟨w1.heap.size + 1, 0, none⟩), .pointer (some ⟨w1.heap.size + 1 + 1, 0, none⟩)]) rfl trivial (enters_of Try.func84 (by kernel_rfl) rfl)
      (fills_stops 7 w1.heap.size w.heap.size n c _ _ A sym zs w5 hl5 hsz1 hb5.size hn c1 c2 (by omega) (by omega) (by omega)) AllBut.trans (fun W l o o' hl h _ _ => ⟨by simp, fun i hi _ => World.putObj_heap_other (by omega)⟩) (Below.refl _ _) (fun _ => rfl)
      (fun pre W => ∃ v, Boxed W w1.heap.size 28 v ∧ W.ownsRow w5.heap.size 31 2 v (cntR zs pre) (nums (lisR zs pre)) ∧ Below w.heap.size w W ∧ w5.heap.size ≤ W.heap.size)
      (fun _ _ _ => False)
      (fun pre X Y row hs hg hr => by
        obtain ⟨v, hbx, hro, hbl, hsz⟩ := hs
        refine ⟨v, ownFrom_rec _ w1.heap.size _ _ () X Y row hbx hg hr, own_far hro hg (fun r e => (hr r e).2), ownFrom_below (Nat.le_refl _) hb5.size pre X Y row hbl hg hr, Nat.le_trans hsz hg.size⟩)
      (fun _ _ _ _ _ hs _ _ => hs)
      ⟨_, bV, World.ownsRow_nil _ _ _ _, hb5, Nat.le_refl _⟩
      (fun y a' W => ∃ Bx, w1.heap.size < Bx ∧ W.heap[Bx]? = some (.cells #[.int .i64 (num zs (y.1 * 8)), .int .i64 (num zs (y.1 * 8 + 1)), .int .i64 (num zs (y.1 * 8 + 2)), .int .i64 (num zs (y.1 * 8 + 3)), .int .i64 (num zs (y.1 * 8 + 4)), .int .i64 (num zs (y.1 * 8 + 5)), .int .i64 (num zs (y.1 * 8 + 6)), .int .i64 (num zs (y.1 * 8 + 7))] 41 (0, 0)) ∧ a' = { tmps := #[.slice A n c, .int .i64 sym, undef, undef, .slice none 0 0, .pointer (some ⟨w1.heap.size, 0, none⟩), .pointer (some ⟨Bx, 0, none⟩), undef, .slice A n c, .bool true, .bool false, .slice A n c, .int .i64 sym, .func (.func 84) #[] #[.pointer (some ⟨w1.heap.size + 1, 0, none⟩), .pointer (some ⟨w1.heap.size + 1 + 1, 0, none⟩)], .agg #[.int .i64 (num zs (y.1 * 8)), .int .i64 (num zs (y.1 * 8 + 1)), .int .i64 (num zs (y.1 * 8 + 2)), .int .i64 (num zs (y.1 * 8 + 3)), .int .i64 (num zs (y.1 * 8 + 4)), .int .i64 (num zs (y.1 * 8 + 5)), .int .i64 (num zs (y.1 * 8 + 6)), .int .i64 (num zs (y.1 * 8 + 7))], undef, undef, undef, undef, undef, undef, undef, undef, undef, undef, undef, undef], defers := [] })
      (fun y a' s W W' row hs hg hr => by
        obtain ⟨Bx, hx, hrow, ha⟩ := hs
        exact ⟨Bx, hx, ownFrom_rec _ Bx _ _ () W W' row hrow hg hr, ha⟩) ?assign ?body ?done ?stop
    case assign =>
      rintro l pre y W K ⟨v, hbx, hro, hbl, hsW⟩ hK
      have hWs : w1.heap.size < W.heap.size := hbx.lt
      dsimp only [recV]
      gi_wp2
      exact hK _ _ ((KeepsOthers.alloc _ _).from _) ⟨by simp, fun b hb _ => Below.heap_alloc W _ b (by omega)⟩ ⟨v, hbx.alloc _, hro.alloc _, hbl.alloc hbl.size _, by simp; omega⟩ ⟨W.heap.size, hWs, heap_alloc_new W (.cells #[.int .i64 (num zs (y.1 * 8)), .int .i64 (num zs (y.1 * 8 + 1)), .int .i64 (num zs (y.1 * 8 + 2)), .int .i64 (num zs (y.1 * 8 + 3)), .int .i64 (num zs (y.1 * 8 + 4)), .int .i64 (num zs (y.1 * 8 + 5)), .int .i64 (num zs (y.1 * 8 + 6)), .int .i64 (num zs (y.1 * 8 + 7))] 41), rfl⟩
    case body =>
      rintro l pre y a' W hlw hrec ⟨v, hbx, hro, hbl, hsW⟩ ⟨Bx, hBx, hrow, rfl⟩ hlen
      have r6 := cell_of_row W Bx 6 _ _ (0, 0) hrow
      have r7 := cell_of_row W Bx 7 _ _ (0, 0) hrow
      simp at r6 r7
      have HL := Lib.hid (lisR_snoc zs y pre)
      have HC := Lib.hid (cntR_snoc zs y pre)
      have hcl := cntR_le zs pre
      have HT : Hid (trR zs y = trdI (num zs (y.1 * 8 + 6)) (num zs (y.1 * 8 + 7))) := Lib.hid rfl
      generalize lisR zs pre = ls at *
      generalize cntR zs pre = cn at *
      generalize trR zs y = tb at *
      clear hrow
      generalize num zs (y.1 * 8 + 6) = p at *
      generalize num zs (y.1 * 8 + 7) = q at *
      gi_wp2
      refine ⟨trivial, (CallsIn.inRound l (callsIn_wide.2 (impl_tradeOk p q _))).mono ?_⟩
      have hN := heap_alloc_new W (.cells #[.int .i64 p, .int .i64 q] 31)
      have hbA : Below W.heap.size W (W.alloc (.cells #[.int .i64 p, .int .i64 q] 31)) := (Below.refl _ _).alloc (Nat.le_refl _) _
      rcases Bool.eq_false_or_eq_true (trdI p q) with ht | ht
      rotate_left
      · have HF : Hid (tb = false) := Lib.hid (HT.out.trans ht)
        rw [ht]
        rintro e W3 ⟨rfl, hb3⟩
        have hW3 := below_later hbA hb3
        clear ht hN r6 r7 hbA hb3
        gi_wp2
        refine ⟨(keeps_below hW3).from _, ⟨hW3.size, fun b hb _ => hW3.block b (by omega)⟩, v, (hW3.block _ hbx.lt).trans hbx, ?_, hbl.trans (hW3.mono hbl.size), Nat.le_trans hsW hW3.size⟩
        rw [HL.out, HC.out, HF.out]
        simpa using own_below hro hW3
      · have HF : Hid (tb = true) := Lib.hid (HT.out.trans ht)
        rw [ht]
        rintro e W3 ⟨rfl, hb3⟩
        have hW3 := below_later hbA hb3
        replace hN := (hb3.block W.heap.size (by simp)).trans hN
        obtain ⟨g0, g1⟩ := tro_cell2 hN
        have hbx3 : Boxed W3 w1.heap.size 28 v := (hW3.block _ hbx.lt).trans hbx
        have hro3 := own_below hro hW3
        have hcx := hbx3.cell
        have hfx := hbx3.frozen
        have hWg : W.heap.size < W3.heap.size := heap_lt' hN
        clear ht r6 r7 hbA hb3 hN
        have hbl3 := hbl.trans (hW3.mono hbl.size)
        have hs3 := Nat.le_trans hsW hW3.size
        have hW1 := hbx3.lt
        have hov := hro3.lt
        have hw15 : w1.heap.size < w5.heap.size := by omega
        gi_wp2_with (gi_at_builtin; refine wpListIn_append_own _ rfl _ _ 28 rfl w5.heap.size 31 i0 _ 2 16 Try.underlying28 hi hz0 hz1 hz2 rfl (by decide) _ _ _ rfl (hro3.alloc _) ⟨W3.heap.size, 0, none⟩ 1 1 (nums [p, q]) rfl rfl ?c1 ?c2 ?c3 ?c4 ?c5 ?_)
        case c1 => exact World.news_of_block (heap_alloc_new W3 _)
        case c2 => exact nums_one _
        case c3 => unfold maxLen; omega
        case c4 => omega
        case c5 => simp; omega
        intro v' w4 hown4 hgrow4 _
        rw [← nums_append] at hown4
        obtain ⟨A4, d4, rfl, _, _⟩ := own_slice hown4
        have hne : ∀ b, b < w5.heap.size → some b ≠ v.ownBlock := fun b hb e => by have := (hov b e.symm).1; omega
        have hbx4 : Boxed w4 w1.heap.size 28 v := (hgrow4.block w1.heap.size (by simp; omega) (hne _ hw15)).trans ((Below.heap_alloc W3 (.cells #[.int .i64 p, .int .i64 q] 31) w1.heap.size hW1).trans hbx3)
        have hcx4 := hbx4.cell
        have hfx4 := hbx4.frozen
        have hbl4 := (hbl3.alloc hbl3.size (.cells #[.int .i64 p, .int .i64 q] 31)).grown hgrow4 (by have := hbl3.size; simp; omega) (fun k hk => by have := (hov k hk).1; have := hb5.size; omega)
        have hs4 : W3.heap.size ≤ w4.heap.size := by have := hgrow4.size; simp at this; omega
        have HG := Lib.hid hgrow4
        have HO := Lib.hid hown4
        have HR := Lib.hid hro3
        clear hgrow4 hown4 hro3 g0 g1 hcx hfx
        gi_wp2
        refine ⟨((keeps_below hW3).trans ((KeepsOthers.alloc W3 (.cells #[.int .i64 p, .int .i64 q] 31)).trans ((KeepsOthers.of_grownBy HG.out (fun j o e ho => cells_row (HR.out.alloc (.cells #[.int .i64 p, .int .i64 q] 31)) e ho)).trans (KeepsOthers.setCell _ _ _)))).from _,
          ⟨by have := hW3.size; simp [World.setCell]; omega, fun b hb hb1 => (Below.heap_setCell w4 ⟨w1.heap.size, 0, none⟩ _ b hb1).trans ((HG.out.block b (by simp; omega) (hne b hb)).trans ((Below.heap_alloc W3 (.cells #[.int .i64 p, .int .i64 q] 31) b (by omega)).trans (hW3.block b (by omega))))⟩,
          _, hbx4.set _, ?_, hbl4.setCell (p := ⟨w1.heap.size, 0, none⟩) hsz1 _, by simp [World.setCell]; omega⟩
        rw [HL.out, HC.out, HF.out, if_pos rfl, if_pos rfl]
        first | rw [hsz5] | skip
        refine HO.out.kept (put_grown w4 w1.heap.size 0 _) ?_
        cases hv : (Value.slice A4 (cn + 1) d4).ownBlock with
        | none => exact .inl rfl
        | some j => exact .inr (fun e => by have := (HO.out.lt j hv).1; injection e with e; omega)
    case done =>
      rintro D ys W hD rfl ⟨v, hbx, hro, hbl, hsW⟩ hK
      have hcx := hbx.cell
      have HF := Lib.hid (lisR_fills zs sym n n (Nat.le_refl _))
      go_wp2_with fail
      refine ⟨by simp, .inl ⟨_, _, rfl, run_takeDeferred hK, ?_⟩⟩
      refine ⟨_, results_tmp rfl _ _ _, ⟨_, rfl, ?_, ?_⟩⟩
      · rw [HN.out.1, HN.out.2, ← HF.out.1, ← HF.out.2]
        have hp : W.grownBy (W.putObj D (.deferred none)) (some D) := ⟨rfl, rfl, rfl, by simp, fun k hk hne => World.putObj_heap_other (fun e => hne (by rw [e]))⟩
        exact tro_lower (own_far hro hp (fun r e => by injection e with e; subst e; exact ⟨_, hK, rfl⟩)) hb5.size
      · exact hbl.trans (belowK_b (n₀ := w.heap.size) (w := w5) hb5.size W D _ _ hD hK rfl rfl)
    case stop =>
      rintro D c pre W _ _ h _
      exact h.elim
end Go.Proofs.Yteikflfchkmbnaa
