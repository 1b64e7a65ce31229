/-
  The sums of an order, in both programs.
-/
import Derived.Test.YtgpfpaifbgdleaaFilled
namespace Go.Proofs.Ytgpfpaifbgdleaa
open Go.RowKit Wire

/-- record k adds to a sum: of the book, of the kind, of the order -/
def ackB (z1 z2 z4 sym id : Int) : Bool := (z2 == sym) && ((z4 == id) && (z1 == 1))
def canB (z1 z2 z4 sym id : Int) : Bool := (z2 == sym) && ((z4 == id) && (z1 == 4))
def filB (z1 z2 z4 z5 sym id : Int) : Bool := (z2 == sym) && fillB z1 z4 z5 id
/-- what the first k records bear where a test holds -/
def sumIf (zs : List Int) (p : Nat → Bool) : Nat → Int
  | 0 => 0
  | k + 1 => sumIf zs p k + if p k = true then num zs (k * 8 + 7) else 0
def ackAt (zs : List Int) (sym id : Int) (k : Nat) : Bool := ackB (num zs (k * 8 + 1)) (num zs (k * 8 + 2)) (num zs (k * 8 + 4)) sym id
def canAt (zs : List Int) (sym id : Int) (k : Nat) : Bool := canB (num zs (k * 8 + 1)) (num zs (k * 8 + 2)) (num zs (k * 8 + 4)) sym id
def filAt (zs : List Int) (sym id : Int) (k : Nat) : Bool := filB (num zs (k * 8 + 1)) (num zs (k * 8 + 2)) (num zs (k * 8 + 4)) (num zs (k * 8 + 5)) sym id
theorem sumIf_le {zs : List Int} {p : Nat → Bool} : ∀ k, okTo zs k = true → 0 ≤ sumIf zs p k ∧ sumIf zs p k ≤ 1000000 * k
  | 0, _ => by simp [sumIf]
  | k + 1, h => by
    simp only [okTo, Bool.and_eq_true] at h
    have h1 := sumIf_le (p := p) k h.1
    have h2 := okAt_qty h.2
    simp only [sumIf]
    split <;> omega
/-- the three sums -/
def sumsV (zs : List Int) (n : Nat) (sym id : Int) : Value := if okTo zs n = true then .agg #[.int .i64 (sumIf zs (ackAt zs sym id) n), .int .i64 (sumIf zs (filAt zs sym id) n), .int .i64 (sumIf zs (canAt zs sym id) n)] else .agg #[.int .i64 0, .int .i64 0, .int .i64 0]
theorem sumsV_no {zs : List Int} {n k : Nat} {sym id : Int} (h : okAt zs k = false) (hk : k < n) : sumsV zs n sym id = .agg #[.int .i64 0, .int .i64 0, .int .i64 0] := by
  simp [sumsV, okTo_no h n hk]
/-- a sum, raised where a test holds -/
def plusIf (a : Int) (b : Bool) (z : Int) : Int := if b = true then a + z else a
theorem heap_put3 {w : World} {S j : Nat} {a b c u : Value} {T : TypeId} (h : w.heap[S]? = some (.cells #[a, b, c] T (0, 0))) : (w.setCell ⟨S, j, none⟩ u).heap[S]? = some (.cells (#[a, b, c].setIfInBounds j u) T (0, 0)) := by
  simp [World.setCell, Array.getElem?_modify, h]
theorem cell3 {w : World} {S : Nat} {a b c : Value} {T : TypeId} (h : w.heap[S]? = some (.cells #[a, b, c] T (0, 0))) : w.cell? ⟨S, 0, none⟩ = some a ∧ w.cell? ⟨S, 1, none⟩ = some b ∧ w.cell? ⟨S, 2, none⟩ = some c ∧ w.frozen? ⟨S, 0, none⟩ = false ∧ w.frozen? ⟨S, 1, none⟩ = false ∧ w.frozen? ⟨S, 2, none⟩ = false := by
  refine ⟨?_, ?_, ?_, ?_, ?_, ?_⟩ <;> simp [World.cell?, World.frozen?, h]
theorem put_grown (w : World) (g i : Nat) (u : Value) : w.grownBy (w.setCell ⟨g, i, none⟩ u) (some g) :=
  ⟨rfl, rfl, rfl, by simp [World.setCell], fun k _ hne => Below.heap_setCell w ⟨g, i, none⟩ u k (fun e => hne (by rw [e]))⟩
theorem add_grown {w : World} {S j : Nat} {u : Value} (o : Obj) : w.grownBy (((w.alloc o).setCell ⟨S, j, none⟩ u).drew) (some S) :=
  have h : w.grownBy (w.alloc o) (some S) := ⟨(World.grownBy_alloc w o none).os, (World.grownBy_alloc w o none).tape, (World.grownBy_alloc w o none).output, (World.grownBy_alloc w o none).size, fun k hk _ => (World.grownBy_alloc w o none).block k hk (by simp)⟩
  have k := h.trans (put_grown _ S j u)
  ⟨k.os, k.tape, k.output, k.size, k.block⟩
theorem below_grown {w w' : World} {S : Nat} (h : Below w.heap.size w w') : w.grownBy w' (some S) := ⟨h.os, h.tape, h.output, h.size, fun k hk _ => h.block k hk⟩
set_option maxHeartbeats 1600000 in
set_option maxRecDepth 100000 in
theorem impl_add (S : Nat) (z0 z1 z2 z3 z4 z5 z6 z7 id a f c : Int) (w : World) (hS : w.heap[S]? = some (.cells #[.int .i64 a, .int .i64 f, .int .i64 c] 49 (0, 0)))
    (ha : 0 ≤ a ∧ a ≤ 1099511627776) (hf : 0 ≤ f ∧ f ≤ 1099511627776) (hc : 0 ≤ c ∧ c ≤ 1099511627776) (hz : 0 ≤ z7 ∧ z7 ≤ 1000000) :
    Calls Try.prog 64 #[.pointer (some ⟨S, 0, none⟩), .agg #[.int .i64 z0, .int .i64 z1, .int .i64 z2, .int .i64 z3, .int .i64 z4, .int .i64 z5, .int .i64 z6, .int .i64 z7], .int .i64 id] w fun e w' => (∃ u, e = .returned u) ∧
      w'.heap[S]? = some (.cells #[.int .i64 (plusIf a (z4 == id && z1 == 1) z7), .int .i64 (plusIf f (fillB z1 z4 z5 id) z7), .int .i64 (plusIf c (z4 == id && z1 == 4) z7)] 49 (0, 0)) ∧ w.grownBy w' (some S) := by
  obtain ⟨ha0, ha1⟩ := ha
  obtain ⟨hf0, hf1⟩ := hf
  obtain ⟨hc0, hc1⟩ := hc
  obtain ⟨hz0, hz1⟩ := hz
  have hB : (w.alloc (.cells #[.int .i64 z0, .int .i64 z1, .int .i64 z2, .int .i64 z3, .int .i64 z4, .int .i64 z5, .int .i64 z6, .int .i64 z7] 69)).heap[S]? = _ := (Below.heap_alloc w _ S (Array.getElem?_eq_some_iff.1 hS).1).trans hS
  obtain ⟨p0, p1, p2, f0, f1, f2⟩ := cell3 hB
  have HB := Lib.hid hB
  have hlt : S < (w.alloc (.cells #[.int .i64 z0, .int .i64 z1, .int .i64 z2, .int .i64 z3, .int .i64 z4, .int .i64 z5, .int .i64 z6, .int .i64 z7] 69)).heap.size := (Array.getElem?_eq_some_iff.1 hB).1
  clear hB hS
  rcases Bool.eq_false_or_eq_true (z1 == 1) with t1 | t1
  · obtain rfl : z1 = 1 := by simpa using t1
    clear t1
    have FX : Hid (fillB 1 z4 z5 id = false) := Lib.hid (by simp [fillB])
    rcases Bool.eq_false_or_eq_true (z4 == id) with t2 | t2
    · go_enter Try.func64, Try.ntmps64
      go_wp2_with fail
      go_region
      go_wp2_with fail
      go_end0
      refine ⟨⟨_, rfl⟩, (heap_put3 (j := 0) HB.out).trans ?_, add_grown _⟩
      simp [FX.out, plusIf, *]
    · go_enter Try.func64, Try.ntmps64
      go_wp2_with fail
      refine (impl_isFillOf _ _ _ _ _ _ _ _ _ _).mono ?_
      rw [FX.out]
      rintro e w1 ⟨rfl, hb1⟩
      have HB1 := Lib.hid ((hb1.block S hlt).trans HB.out)
      have hb1 := below_alloc hb1
      go_wp2_with fail
      go_end0
      refine ⟨⟨_, rfl⟩, HB1.out.trans ?_, below_grown hb1⟩
      simp [FX.out, plusIf, *]
  · rcases Bool.eq_false_or_eq_true (z1 == 4) with t3 | t3
    · obtain rfl : z1 = 4 := by simpa using t3
      clear t1 t3
      have FX : Hid (fillB 4 z4 z5 id = false) := Lib.hid (by simp [fillB])
      rcases Bool.eq_false_or_eq_true (z4 == id) with t2 | t2
      · go_enter Try.func64, Try.ntmps64
        go_wp2_with fail
        go_region
        go_wp2_with fail
        go_end0
        refine ⟨⟨_, rfl⟩, (heap_put3 (j := 2) HB.out).trans ?_, add_grown _⟩
        simp [FX.out, plusIf, *]
      · go_enter Try.func64, Try.ntmps64
        go_wp2_with fail
        refine (impl_isFillOf _ _ _ _ _ _ _ _ _ _).mono ?_
        rw [FX.out]
        rintro e w1 ⟨rfl, hb1⟩
        have HB1 := Lib.hid ((hb1.block S hlt).trans HB.out)
        have hb1 := below_alloc hb1
        go_wp2_with fail
        go_end0
        refine ⟨⟨_, rfl⟩, HB1.out.trans ?_, below_grown hb1⟩
        simp [FX.out, plusIf, *]
    · rcases Bool.eq_false_or_eq_true (fillB z1 z4 z5 id) with t2 | t2
      · have FX := Lib.hid t2
        clear t2
        go_enter Try.func64, Try.ntmps64
        go_wp2_with fail
        refine (impl_isFillOf _ _ _ _ _ _ _ _ _ _).mono ?_
        rw [FX.out]
        rintro e w1 ⟨rfl, hb1⟩
        have hB1 := (hb1.block S hlt).trans HB.out
        obtain ⟨p0, p1, p2, f0, f1, f2⟩ := cell3 hB1
        have e7 := box_cell hb1 7
        simp at e7
        have HB1 := Lib.hid hB1
        have hb1 := below_alloc hb1
        clear hB1
        go_wp2_with fail
        go_region
        go_wp2_with fail
        go_end0
        refine ⟨⟨_, rfl⟩, (heap_put3 (j := 1) HB1.out).trans ?_, ?_⟩
        · simp [FX.out, plusIf, *]
        · have k := (below_grown (S := S) hb1).trans (put_grown w1 S 1 (.int .i64 (f + z7)))
          exact ⟨k.os, k.tape, k.output, k.size, k.block⟩
      · have FX := Lib.hid t2
        clear t2
        go_enter Try.func64, Try.ntmps64
        go_wp2_with fail
        refine (impl_isFillOf _ _ _ _ _ _ _ _ _ _).mono ?_
        rw [FX.out]
        rintro e w1 ⟨rfl, hb1⟩
        have HB1 := Lib.hid ((hb1.block S hlt).trans HB.out)
        have hb1 := below_alloc hb1
        go_wp2_with fail
        go_end0
        refine ⟨⟨_, rfl⟩, HB1.out.trans ?_, below_grown hb1⟩
        simp [FX.out, plusIf, *]
theorem sum_step (zs : List Int) (p : Nat → Bool) (k : Nat) : sumIf zs p (k + 1) = plusIf (sumIf zs p k) (p k) (num zs (k * 8 + 7)) := by
  rw [sumIf]
  unfold plusIf
  split <;> simp
theorem sum_steps (zs : List Int) (sym id : Int) (k : Nat) : (sumIf zs (ackAt zs sym id) (k + 1) = plusIf (sumIf zs (ackAt zs sym id) k) (ackB (num zs (k * 8 + 1)) (num zs (k * 8 + 2)) (num zs (k * 8 + 4)) sym id) (num zs (k * 8 + 7))) ∧ (sumIf zs (filAt zs sym id) (k + 1) = plusIf (sumIf zs (filAt zs sym id) k) (filB (num zs (k * 8 + 1)) (num zs (k * 8 + 2)) (num zs (k * 8 + 4)) (num zs (k * 8 + 5)) sym id) (num zs (k * 8 + 7))) ∧ (sumIf zs (canAt zs sym id) (k + 1) = plusIf (sumIf zs (canAt zs sym id) k) (canB (num zs (k * 8 + 1)) (num zs (k * 8 + 2)) (num zs (k * 8 + 4)) sym id) (num zs (k * 8 + 7))) :=
  ⟨sum_step _ _ _, sum_step _ _ _, sum_step _ _ _⟩
theorem plus_far {z1 z2 z4 z5 sym id a f c z : Int} (h : (z2 == sym) = false) : plusIf a (ackB z1 z2 z4 sym id) z = a ∧ plusIf f (filB z1 z2 z4 z5 sym id) z = f ∧ plusIf c (canB z1 z2 z4 sym id) z = c := by
  simp [plusIf, ackB, filB, canB, h]
theorem plus_near {z1 z2 z4 z5 sym id a f c z : Int} (h : (z2 == sym) = true) : plusIf a (ackB z1 z2 z4 sym id) z = plusIf a (z4 == id && z1 == 1) z ∧ plusIf f (filB z1 z2 z4 z5 sym id) z = plusIf f (fillB z1 z4 z5 id) z ∧ plusIf c (canB z1 z2 z4 sym id) z = plusIf c (z4 == id && z1 == 4) z := by
  simp [ackB, filB, canB, h]
set_option linter.unusedSimpArgs false in
set_option maxHeartbeats 3200000 in
set_option maxRecDepth 100000 in
theorem impl_SumsOf (A : Option Addr) (n c : Nat) (zs : List Int) (sym id : Int) (w : World) (hl : Lst w w.heap.size 8 A n zs) (hn : n ≤ 1048576) :
    Calls Try.prog 28 #[.slice A n c, .int .i64 sym, .int .i64 id] w fun e w' => e = .returned (sumsV zs n sym id) ∧ Below w.heap.size w w' := by
  have k0 : (w.alloc (.cells #[.int .i64 0, .int .i64 0, .int .i64 0] 49)).heap[w.heap.size]? = some (.cells #[.int .i64 0, .int .i64 0, .int .i64 0] 49 (0, 0)) := heap_alloc_new w _
  have hb0 : Below w.heap.size w (w.alloc (.cells #[.int .i64 0, .int .i64 0, .int .i64 0] 49)) := (Below.refl _ _).alloc (Nat.le_refl _) _
  have hs0 : w.heap.size < (w.alloc (.cells #[.int .i64 0, .int .i64 0, .int .i64 0] 49)).heap.size := by simp
  go_enter Try.func28, Try.ntmps28
  go_wp2_with fail
  generalize (w.alloc (.cells #[.int .i64 0, .int .i64 0, .int .i64 0] 49)) = w0 at *
  refine (impl_recsOk _ _ _ zs _ ((hl.below hb0).more hb0.size) hn).mono ?_
  rcases Bool.eq_false_or_eq_true (okTo zs n) with hall | hall
  rotate_left
  · have HN : Hid (sumsV zs n sym id = .agg #[.int .i64 0, .int .i64 0, .int .i64 0]) := Lib.hid (by simp [sumsV, hall])
    rw [hall]
    rintro e w1 ⟨rfl, hb1⟩
    have k1 := (hb1.block w.heap.size hs0).trans k0
    obtain ⟨x0, x1, x2, y0, y1, y2⟩ := cell3 k1
    have hB := hb0.trans (hb1.mono hb0.size)
    clear hall k0
    go_wp2_with fail
    have k2 := heap_put3 (j := 2) (u := .int .i64 0) (heap_put3 (j := 1) (u := .int .i64 0) (heap_put3 (j := 0) (u := .int .i64 0) k1))
    obtain ⟨e0, e1, e2, _, _, _⟩ := cell3 k2
    refine bodyPost_ret (v := .agg #[.int .i64 0, .int .i64 0, .int .i64 0]) (by simp [results, Try.results28, go_sem, e0, e1, e2]) rfl ⟨by rw [HN.out], ?_⟩
    exact ((hB.setCell (p := ⟨w.heap.size, 0, none⟩) (Nat.le_refl _) _).setCell (p := ⟨w.heap.size, 1, none⟩) (Nat.le_refl _) _).setCell (p := ⟨w.heap.size, 2, none⟩) (Nat.le_refl _) _
  · have HN : Hid (sumsV zs n sym id = .agg #[.int .i64 (sumIf zs (ackAt zs sym id) n), .int .i64 (sumIf zs (filAt zs sym id) n), .int .i64 (sumIf zs (canAt zs sym id) n)]) := Lib.hid (by simp [sumsV, hall])
    have Hall := Lib.hid (fun k => okTo_at n k hall)
    rw [hall]
    rintro e w1 ⟨rfl, hb1⟩
    have k1 := (hb1.block w.heap.size hs0).trans k0
    have hB := hb0.trans (hb1.mono hb0.size)
    have hs1 := Nat.lt_of_lt_of_le hs0 hb1.size
    clear hall k0 hb0 hb1 hs0
    go_wp2_with fail
    have s1 := heap_alloc_new w1 (.cells #[.int .i64 0, .int .i64 0, .int .i64 0] 49)
    have hB2 := hB.alloc hB.size (.cells #[.int .i64 0, .int .i64 0, .int .i64 0] 49)
    have k3 : (w1.alloc (.cells #[.int .i64 0, .int .i64 0, .int .i64 0] 49)).heap[w.heap.size]? = _ := (Below.heap_alloc w1 _ w.heap.size hs1).trans k1
    have hne : w.heap.size ≠ w1.heap.size := Nat.ne_of_lt hs1
    clear k1
    generalize hW : (w1.alloc (.cells #[.int .i64 0, .int .i64 0, .int .i64 0] 49)) = w2 at *
    clear hW hB
    generalize w1.heap.size = G at *
    go_loopw [17] (fun i wr => ∃ k : Nat, k ≤ n ∧ i = .int .i64 (k : Int) ∧ okTo zs k = true ∧ wr.heap[G]? = some (.cells #[.int .i64 (sumIf zs (ackAt zs sym id) k), .int .i64 (sumIf zs (filAt zs sym id) k), .int .i64 (sumIf zs (canAt zs sym id) k)] 49 (0, 0)) ∧ wr.heap[w.heap.size]? = some (.cells #[.int .i64 0, .int .i64 0, .int .i64 0] 49 (0, 0)) ∧ Below w.heap.size w wr) (fun i _ => n - (intOf i).toNat)
    case atStart => exact ⟨0, Nat.zero_le _, rfl, rfl, s1, k3, hB2⟩
    case round =>
      clear s1 k3 hB2
      obtain ⟨k, hk, rfl, hok, hG, hR, hbel⟩ := hrel
      by_cases hlt : k < n
      · obtain ⟨b, o, rfl, hb, c0, c1, c2, c3, c4, c5, c6, c7⟩ := (hl.below hbel).row8 hlt
        have HST := Lib.hid (sum_steps zs sym id k)
        have ha := sumIf_le (p := ackAt zs sym id) k hok
        have hf := sumIf_le (p := filAt zs sym id) k hok
        have hc := sumIf_le (p := canAt zs sym id) k hok
        have hat := Hall.out k hlt
        have HO := Lib.hid (okTo_step (k := k) hok hat)
        have hq := okAt_qty hat
        have HG := Lib.hid hG
        have HR := Lib.hid hR
        generalize sumIf zs (ackAt zs sym id) k = sa at *
        generalize sumIf zs (filAt zs sym id) k = sf at *
        generalize sumIf zs (canAt zs sym id) k = sc at *
        generalize num zs (k * 8) = z0 at *
        generalize num zs (k * 8 + 1) = z1 at *
        generalize num zs (k * 8 + 2) = z2 at *
        generalize num zs (k * 8 + 3) = z3 at *
        generalize num zs (k * 8 + 4) = z4 at *
        generalize num zs (k * 8 + 5) = z5 at *
        generalize num zs (k * 8 + 6) = z6 at *
        generalize num zs (k * 8 + 7) = z7 at *
        clear hl hok hat Hall hG hR
        rcases Bool.eq_false_or_eq_true (z2 == sym) with t1 | t1
        · have HP := Lib.hid (plus_near (z1 := z1) (z4 := z4) (z5 := z5) (id := id) (a := sa) (f := sf) (c := sc) (z := z7) t1)
          go_wp2_with fail
          refine (impl_add G z0 z1 z2 z3 z4 z5 z6 z7 id sa sf sc _ ((Below.heap_alloc wr _ G (Array.getElem?_eq_some_iff.1 HG.out).1).trans HG.out) ⟨ha.1, by omega⟩ ⟨hf.1, by omega⟩ ⟨hc.1, by omega⟩ hq).mono ?_
          rintro e w3 ⟨⟨u, rfl⟩, hG3, hg3⟩
          have HG3 := Lib.hid hG3
          have HR3 := Lib.hid ((hg3.block w.heap.size (by have := (Array.getElem?_eq_some_iff.1 HR.out).1; simp; omega) (fun e => hne (by injection e))).trans ((Below.heap_alloc wr _ w.heap.size (Array.getElem?_eq_some_iff.1 HR.out).1).trans HR.out))
          have HB3 := Lib.hid ((hbel.alloc hbel.size (.cells #[.int .i64 z0, .int .i64 z1, .int .i64 z2, .int .i64 z3, .int .i64 z4, .int .i64 z5, .int .i64 z6, .int .i64 z7] 69)).grown hg3 (by have := hbel.size; simp; omega) (fun q e => by cases e; exact Nat.le_of_lt hs1))
          clear hG3 hg3 hbel c0 c1 c2 c3 c4 c5 c6 c7
          go_wp2_with fail
          go_roundw
          case rel => exact ⟨k + 1, by omega, by go_num, HO.out, by rw [HST.out.1, HST.out.2.1, HST.out.2.2, HP.out.1, HP.out.2.1, HP.out.2.2]; exact HG3.out, HR3.out, HB3.out⟩
          case measure => simp [intOf]; omega
        · have HP := Lib.hid (plus_far (z1 := z1) (z4 := z4) (z5 := z5) (id := id) (a := sa) (f := sf) (c := sc) (z := z7) t1)
          have HG3 := Lib.hid ((Below.heap_alloc wr (.cells #[.int .i64 z0, .int .i64 z1, .int .i64 z2, .int .i64 z3, .int .i64 z4, .int .i64 z5, .int .i64 z6, .int .i64 z7] 69) G (Array.getElem?_eq_some_iff.1 HG.out).1).trans HG.out)
          have HR3 := Lib.hid ((Below.heap_alloc wr (.cells #[.int .i64 z0, .int .i64 z1, .int .i64 z2, .int .i64 z3, .int .i64 z4, .int .i64 z5, .int .i64 z6, .int .i64 z7] 69) w.heap.size (Array.getElem?_eq_some_iff.1 HR.out).1).trans HR.out)
          have HB3 := Lib.hid (hbel.alloc hbel.size (.cells #[.int .i64 z0, .int .i64 z1, .int .i64 z2, .int .i64 z3, .int .i64 z4, .int .i64 z5, .int .i64 z6, .int .i64 z7] 69))
          clear hbel
          go_wp2_with fail
          go_roundw
          case rel => exact ⟨k + 1, by omega, by go_num, HO.out, by rw [HST.out.1, HST.out.2.1, HST.out.2.2, HP.out.1, HP.out.2.1, HP.out.2.2]; exact HG3.out, HR3.out, HB3.out⟩
          case measure => simp [intOf]; omega
      · obtain rfl : k = n := by omega
        clear hok hl
        obtain ⟨g0, g1, g2, _, _, _⟩ := cell3 hG
        obtain ⟨r0, r1, r2, f0, f1, f2⟩ := cell3 hR
        have HR := Lib.hid hR
        clear hR
        go_wp2_with fail
        have k2 := heap_put3 (j := 2) (u := .int .i64 (sumIf zs (canAt zs sym id) k)) (heap_put3 (j := 1) (u := .int .i64 (sumIf zs (filAt zs sym id) k)) (heap_put3 (j := 0) (u := .int .i64 (sumIf zs (ackAt zs sym id) k)) HR.out))
        obtain ⟨e0, e1, e2, _, _, _⟩ := cell3 k2
        refine bodyPost_ret (v := .agg #[.int .i64 (sumIf zs (ackAt zs sym id) k), .int .i64 (sumIf zs (filAt zs sym id) k), .int .i64 (sumIf zs (canAt zs sym id) k)]) (by simp [results, Try.results28, go_sem, e0, e1, e2]) rfl ⟨by rw [HN.out], ?_⟩
        exact ((hbel.setCell (p := ⟨w.heap.size, 0, none⟩) (Nat.le_refl _) _).setCell (p := ⟨w.heap.size, 1, none⟩) (Nat.le_refl _) _).setCell (p := ⟨w.heap.size, 2, none⟩) (Nat.le_refl _) _
theorem okTo_sumsV {zs : List Int} {n k : Nat} (sym id : Int) (h : okAt zs k = false) (hk : k < n) : Hid (sumsV zs n sym id = .agg #[.int .i64 0, .int .i64 0, .int .i64 0]) := Lib.hid (sumsV_no h hk)
set_option linter.unusedSimpArgs false in
set_option linter.unusedVariables false in
set_option maxHeartbeats 3200000 in
set_option maxRecDepth 100000 in
theorem spec_SumsOf (A : Option Addr) (n c : Nat) (zs : List Int) (sym id : Int) (w : World) (hl : Lst w w.heap.size 8 A n zs) (hn : n ≤ 1048576) :
    Calls Try.prog 27 #[.slice A n c, .int .i64 sym, .int .i64 id] w fun e w' => e = .returned (sumsV zs n sym id) ∧ Below w.heap.size w w' := by
  obtain ⟨k0, k1⟩ := two_blocks w (.cells #[.int .i64 0, .int .i64 0, .int .i64 0] 49) (.cells #[.int .i64 0, .int .i64 0, .int .i64 0] 49)
  have hb0 : Below w.heap.size w ((w.alloc (.cells #[.int .i64 0, .int .i64 0, .int .i64 0] 49)).alloc (.cells #[.int .i64 0, .int .i64 0, .int .i64 0] 49)) := ((Below.refl _ _).alloc (Nat.le_refl _) _).alloc (by simp) _
  go_enter Try.func27, Try.ntmps27
  go_wp2_with fail
  generalize hW : ((w.alloc (.cells #[.int .i64 0, .int .i64 0, .int .i64 0] 49)).alloc (.cells #[.int .i64 0, .int .i64 0, .int .i64 0] 49)) = w2 at *
  have hG0 : (w.alloc (.cells #[.int .i64 0, .int .i64 0, .int .i64 0] 49)).heap.size = w.heap.size + 1 := by simp
  clear hW
  have hne : w.heap.size ≠ w.heap.size + 1 := by omega
  have hs1 : w.heap.size ≤ w.heap.size + 1 := by omega
  generalize w.heap.size + 1 = G at *
  go_loopw [8] (fun i wr => ∃ k : Nat, k ≤ n ∧ i = .int .i64 (k : Int) ∧ okTo zs k = true ∧ wr.heap[G]? = some (.cells #[.int .i64 (sumIf zs (ackAt zs sym id) k), .int .i64 (sumIf zs (filAt zs sym id) k), .int .i64 (sumIf zs (canAt zs sym id) k)] 49 (0, 0)) ∧ wr.heap[w.heap.size]? = some (.cells #[.int .i64 0, .int .i64 0, .int .i64 0] 49 (0, 0)) ∧ Below w.heap.size w wr) (fun i _ => n - (intOf i).toNat)
  case atStart => exact ⟨0, Nat.zero_le _, rfl, rfl, k1, k0, hb0⟩
  case round =>
    clear k0 k1 hb0
    obtain ⟨k, hk, rfl, hok, hG, hR, hbel⟩ := hrel
    by_cases hlt : k < n
    · obtain ⟨b, o, rfl, hb, c0, c1, c2, c3, c4, c5, c6, c7⟩ := (hl.below hbel).row8 hlt
      have HST := Lib.hid (sum_steps zs sym id k)
      have ha := sumIf_le (p := ackAt zs sym id) k hok
      have hf := sumIf_le (p := filAt zs sym id) k hok
      have hc := sumIf_le (p := canAt zs sym id) k hok
      have hok2 := fun h => okTo_step (k := k) hok h
      have hno := fun h => @okTo_sumsV zs n k sym id h hlt
      have hq := @okAt_qty zs k
      have HA : Hid (okAt zs k = recB (num zs (k * 8)) (num zs (k * 8 + 1)) (num zs (k * 8 + 2)) (num zs (k * 8 + 3)) (num zs (k * 8 + 4)) (num zs (k * 8 + 5)) (num zs (k * 8 + 6)) (num zs (k * 8 + 7))) := Lib.hid rfl
      have HG := Lib.hid hG
      have HR := Lib.hid hR
      generalize sumIf zs (ackAt zs sym id) k = sa at *
      generalize sumIf zs (filAt zs sym id) k = sf at *
      generalize sumIf zs (canAt zs sym id) k = sc at *
      generalize num zs (k * 8) = z0 at *
      generalize num zs (k * 8 + 1) = z1 at *
      generalize num zs (k * 8 + 2) = z2 at *
      generalize num zs (k * 8 + 3) = z3 at *
      generalize num zs (k * 8 + 4) = z4 at *
      generalize num zs (k * 8 + 5) = z5 at *
      generalize num zs (k * 8 + 6) = z6 at *
      generalize num zs (k * 8 + 7) = z7 at *
      clear hl hok hG hR
      rcases Bool.eq_false_or_eq_true (okAt zs k) with hat | hat
      · have HO := Lib.hid (hok2 hat)
        have hq := hq hat
        have HK : Hid (recB z0 z1 z2 z3 z4 z5 z6 z7 = true) := Lib.hid (HA.out ▸ hat)
        clear hok2 hno hat HA
        go_wp2_with fail
        refine (spec_RecOk _ _ _ _ _ _ _ _ _).mono ?_
        rw [HK.out]
        rintro e w1 ⟨rfl, hb1⟩
        have e0 := box_cell hb1 0
        have e1 := box_cell hb1 1
        have e2 := box_cell hb1 2
        have e4 := box_cell hb1 4
        have e5 := box_cell hb1 5
        have e7 := box_cell hb1 7
        simp at e0 e1 e2 e4 e5 e7
        have hG1 := (below_alloc hb1).block G (Array.getElem?_eq_some_iff.1 HG.out).1
        have HG1 := Lib.hid (hG1.trans HG.out)
        have hR1 := (below_alloc hb1).block w.heap.size (Array.getElem?_eq_some_iff.1 HR.out).1
        have HR1 := Lib.hid (hR1.trans HR.out)
        obtain ⟨p0, p1, p2, f0, f1, f2⟩ := cell3 HG1.out
        have HB1 := Lib.hid (hbel.trans ((below_alloc hb1).mono hbel.size))
        have hGn : ¬ G = wr.heap.size := Nat.ne_of_lt (Array.getElem?_eq_some_iff.1 HG.out).1
        have hGn' : ¬ wr.heap.size = G := fun e => hGn e.symm
        clear hb1 hbel c0 c1 c2 c3 c4 c5 c6 c7 hG1 hR1 HG HR HK
        rcases Bool.eq_false_or_eq_true (z2 == sym) with t1 | t1
        · have HP := Lib.hid (plus_near (z1 := z1) (z4 := z4) (z5 := z5) (id := id) (a := sa) (f := sf) (c := sc) (z := z7) t1)
          have t1' : (z2 != sym) = false := by simpa [bne] using t1
          rcases Bool.eq_false_or_eq_true (z1 == 1) with u1 | u1
          · obtain rfl : z1 = 1 := by simpa using u1
            clear u1
            rcases Bool.eq_false_or_eq_true (z4 == id) with t2 | t2
            · have HG3 := Lib.hid (heap_put3 (j := 0) (u := .int .i64 (sa + z7)) HG1.out)
              have HR3 := Lib.hid ((Below.heap_setCell w1 ⟨G, 0, none⟩ (.int .i64 (sa + z7)) _ hne).trans HR1.out)
              have HB3 := Lib.hid (HB1.out.setCell (p := ⟨G, 0, none⟩) hs1 (.int .i64 (sa + z7)))
              go_wp2_with fail
              go_roundw
              case rel => exact ⟨k + 1, by omega, by go_num, HO.out, by rw [HST.out.1, HST.out.2.1, HST.out.2.2, HP.out.1, HP.out.2.1, HP.out.2.2]; exact HG3.out.trans (by simp [plusIf, fillB, *]), HR3.out, HB3.out⟩
              case measure => simp [intOf]; omega
            · go_wp2_with fail
              go_roundw
              case rel => exact ⟨k + 1, by omega, by go_num, HO.out, by rw [HST.out.1, HST.out.2.1, HST.out.2.2, HP.out.1, HP.out.2.1, HP.out.2.2]; exact HG1.out.trans (by simp [plusIf, fillB, *]), HR1.out, HB1.out⟩
              case measure => simp [intOf]; omega
          · rcases Bool.eq_false_or_eq_true (z1 == 3) with u3 | u3
            · obtain rfl : z1 = 3 := by simpa using u3
              clear u3
              rcases Bool.eq_false_or_eq_true (z4 == id) with t2 | t2
              · have HG3 := Lib.hid (heap_put3 (j := 1) (u := .int .i64 (sf + z7)) HG1.out)
                have HR3 := Lib.hid ((Below.heap_setCell w1 ⟨G, 1, none⟩ (.int .i64 (sf + z7)) _ hne).trans HR1.out)
                have HB3 := Lib.hid (HB1.out.setCell (p := ⟨G, 1, none⟩) hs1 (.int .i64 (sf + z7)))
                go_wp2_with fail
                go_roundw
                case rel => exact ⟨k + 1, by omega, by go_num, HO.out, by rw [HST.out.1, HST.out.2.1, HST.out.2.2, HP.out.1, HP.out.2.1, HP.out.2.2]; exact HG3.out.trans (by simp [plusIf, fillB, *]), HR3.out, HB3.out⟩
                case measure => simp [intOf]; omega
              · rcases Bool.eq_false_or_eq_true (z5 == id) with t5 | t5
                · have HG3 := Lib.hid (heap_put3 (j := 1) (u := .int .i64 (sf + z7)) HG1.out)
                  have HR3 := Lib.hid ((Below.heap_setCell w1 ⟨G, 1, none⟩ (.int .i64 (sf + z7)) _ hne).trans HR1.out)
                  have HB3 := Lib.hid (HB1.out.setCell (p := ⟨G, 1, none⟩) hs1 (.int .i64 (sf + z7)))
                  go_wp2_with fail
                  go_roundw
                  case rel => exact ⟨k + 1, by omega, by go_num, HO.out, by rw [HST.out.1, HST.out.2.1, HST.out.2.2, HP.out.1, HP.out.2.1, HP.out.2.2]; exact HG3.out.trans (by simp [plusIf, fillB, *]), HR3.out, HB3.out⟩
                  case measure => simp [intOf]; omega
                · go_wp2_with fail
                  go_roundw
                  case rel => exact ⟨k + 1, by omega, by go_num, HO.out, by rw [HST.out.1, HST.out.2.1, HST.out.2.2, HP.out.1, HP.out.2.1, HP.out.2.2]; exact HG1.out.trans (by simp [plusIf, fillB, *]), HR1.out, HB1.out⟩
                  case measure => simp [intOf]; omega
            · rcases Bool.eq_false_or_eq_true (z1 == 4) with u4 | u4
              · obtain rfl : z1 = 4 := by simpa using u4
                clear u4
                rcases Bool.eq_false_or_eq_true (z4 == id) with t2 | t2
                · have HG3 := Lib.hid (heap_put3 (j := 2) (u := .int .i64 (sc + z7)) HG1.out)
                  have HR3 := Lib.hid ((Below.heap_setCell w1 ⟨G, 2, none⟩ (.int .i64 (sc + z7)) _ hne).trans HR1.out)
                  have HB3 := Lib.hid (HB1.out.setCell (p := ⟨G, 2, none⟩) hs1 (.int .i64 (sc + z7)))
                  go_wp2_with fail
                  go_roundw
                  case rel => exact ⟨k + 1, by omega, by go_num, HO.out, by rw [HST.out.1, HST.out.2.1, HST.out.2.2, HP.out.1, HP.out.2.1, HP.out.2.2]; exact HG3.out.trans (by simp [plusIf, fillB, *]), HR3.out, HB3.out⟩
                  case measure => simp [intOf]; omega
                · go_wp2_with fail
                  go_roundw
                  case rel => exact ⟨k + 1, by omega, by go_num, HO.out, by rw [HST.out.1, HST.out.2.1, HST.out.2.2, HP.out.1, HP.out.2.1, HP.out.2.2]; exact HG1.out.trans (by simp [plusIf, fillB, *]), HR1.out, HB1.out⟩
                  case measure => simp [intOf]; omega
              · rcases Bool.eq_false_or_eq_true (z4 == id) with t2 | t2
                · go_wp2_with fail
                  go_roundw
                  case rel => exact ⟨k + 1, by omega, by go_num, HO.out, by rw [HST.out.1, HST.out.2.1, HST.out.2.2, HP.out.1, HP.out.2.1, HP.out.2.2]; exact HG1.out.trans (by simp [plusIf, fillB, *]), HR1.out, HB1.out⟩
                  case measure => simp [intOf]; omega
                · go_wp2_with fail
                  go_roundw
                  case rel => exact ⟨k + 1, by omega, by go_num, HO.out, by rw [HST.out.1, HST.out.2.1, HST.out.2.2, HP.out.1, HP.out.2.1, HP.out.2.2]; exact HG1.out.trans (by simp [plusIf, fillB, *]), HR1.out, HB1.out⟩
                  case measure => simp [intOf]; omega
        · have HP := Lib.hid (plus_far (z1 := z1) (z4 := z4) (z5 := z5) (id := id) (a := sa) (f := sf) (c := sc) (z := z7) t1)
          have t1' : (z2 != sym) = true := by simpa [bne] using t1
          go_wp2_with fail
          go_roundw
          case rel => exact ⟨k + 1, by omega, by go_num, HO.out, by rw [HST.out.1, HST.out.2.1, HST.out.2.2, HP.out.1, HP.out.2.1, HP.out.2.2]; exact HG1.out, HR1.out, HB1.out⟩
          case measure => simp [intOf]; omega
      · have HN := hno hat
        have HK : Hid (recB z0 z1 z2 z3 z4 z5 z6 z7 = false) := Lib.hid (HA.out ▸ hat)
        clear hok2 hat HA hq hno
        go_wp2_with fail
        refine (spec_RecOk _ _ _ _ _ _ _ _ _).mono ?_
        rw [HK.out]
        rintro e w1 ⟨rfl, hb1⟩
        have hR1 := ((below_alloc hb1).block w.heap.size (Array.getElem?_eq_some_iff.1 HR.out).1).trans HR.out
        obtain ⟨x0, x1, x2, y0, y1, y2⟩ := cell3 hR1
        have hB := hbel.trans ((below_alloc hb1).mono hbel.size)
        clear hb1 hbel c0 c1 c2 c3 c4 c5 c6 c7
        go_wp2_with fail
        have k2 := heap_put3 (j := 2) (u := .int .i64 0) (heap_put3 (j := 1) (u := .int .i64 0) (heap_put3 (j := 0) (u := .int .i64 0) hR1))
        obtain ⟨e0, e1, e2, _, _, _⟩ := cell3 k2
        refine bodyPost_ret (v := .agg #[.int .i64 0, .int .i64 0, .int .i64 0]) (by simp [results, Try.results27, go_sem, e0, e1, e2]) rfl ⟨by rw [HN.out], ?_⟩
        exact ((hB.setCell (p := ⟨w.heap.size, 0, none⟩) (Nat.le_refl _) _).setCell (p := ⟨w.heap.size, 1, none⟩) (Nat.le_refl _) _).setCell (p := ⟨w.heap.size, 2, none⟩) (Nat.le_refl _) _
    · obtain rfl : k = n := by omega
      have HN : Hid (sumsV zs k sym id = .agg #[.int .i64 (sumIf zs (ackAt zs sym id) k), .int .i64 (sumIf zs (filAt zs sym id) k), .int .i64 (sumIf zs (canAt zs sym id) k)]) := Lib.hid (by simp [sumsV, hok])
      clear hok hl
      obtain ⟨g0, g1, g2, _, _, _⟩ := cell3 hG
      obtain ⟨r0, r1, r2, f0, f1, f2⟩ := cell3 hR
      have HR := Lib.hid hR
      clear hR
      go_wp2_with fail
      have k2 := heap_put3 (j := 2) (u := .int .i64 (sumIf zs (canAt zs sym id) k)) (heap_put3 (j := 1) (u := .int .i64 (sumIf zs (filAt zs sym id) k)) (heap_put3 (j := 0) (u := .int .i64 (sumIf zs (ackAt zs sym id) k)) HR.out))
      obtain ⟨e0, e1, e2, _, _, _⟩ := cell3 k2
      refine bodyPost_ret (v := .agg #[.int .i64 (sumIf zs (ackAt zs sym id) k), .int .i64 (sumIf zs (filAt zs sym id) k), .int .i64 (sumIf zs (canAt zs sym id) k)]) (by simp [results, Try.results27, go_sem, e0, e1, e2]) rfl ⟨by rw [HN.out], ?_⟩
      exact ((hbel.setCell (p := ⟨w.heap.size, 0, none⟩) (Nat.le_refl _) _).setCell (p := ⟨w.heap.size, 1, none⟩) (Nat.le_refl _) _).setCell (p := ⟨w.heap.size, 2, none⟩) (Nat.le_refl _) _
set_option maxRecDepth 100000 in
theorem eqSums_same (a b c : Int) (w : World) :
    Calls Try.prog 29 #[.agg #[.int .i64 a, .int .i64 b, .int .i64 c], .agg #[.int .i64 a, .int .i64 b, .int .i64 c]] w fun x w' => x = .returned (.bool true) ∧ Below w.heap.size w w' := by
  go_enter Try.func29, Try.ntmps29
  go_wp2
  go_ret
  exact ⟨rfl, by go_grown⟩
theorem eqSums_V (zs : List Int) (n : Nat) (sym id : Int) (w : World) :
    Calls Try.prog 29 #[sumsV zs n sym id, sumsV zs n sym id] w fun x w' => x = .returned (.bool true) ∧ Below w.heap.size w w' := by
  unfold sumsV
  split
  · exact eqSums_same _ _ _ w
  · exact eqSums_same _ _ _ w
end Go.Proofs.Ytgpfpaifbgdleaa
