/-
  Draw, DrawTrd, DrawOrd, DrawBook, DrawSide, DrawB, DrawM.
-/
import Derived.Test.YtempggikcpminaaNum
import Derived.Handy
import Derived.Deep.QuietTactic
import Derived.BigQuiet
import Derived.Deep.DeepFit
import Derived.Test.YtempggikcpminaaOwn
import Derived.Test.YtempggikcpminaaKeep
import Derived.Test.YtempggikcpminaaRestS
import Derived.Test.YtempggikcpminaaLawCell
import Derived.Test.YtempggikcpminaaMtL
namespace Go.Proofs.Ytempggikcpminaa
open Go.RowKit Wire

theorem Dqa {α : Type _} {xs : List α} {i : Nat} : xs.toArray[i]? = xs[i]? := by simp
theorem Dqb {α : Type _} {a : α} {l : List α} {i : Nat} : (a :: l)[i + 1]? = l[i]? := rfl
theorem Dqc {α : Type _} {a : α} {l : List α} : (a :: l)[0]? = some a := rfl
theorem Dqd {α : Type _} {xs : List α} {i : Nat} {a : α} : xs.toArray.setIfInBounds i a = (xs.set i a).toArray := by simp
theorem Dqe {α : Type _} {x a : α} {l : List α} : (x :: l).set 0 a = a :: l := rfl
theorem Dqf {α : Type _} {x a : α} {l : List α} {i : Nat} : (x :: l).set (i + 1) a = x :: l.set i a := rfl

/-- block g is a reader of the bytes at A, at place p -/
def RdAt (w : World) (g : Nat) (A : Option Addr) (len cap p : Nat) : Prop := p ≤ len ∧ w.heap[g]? = some (.cells #[.slice A len cap, .int .i64 (p : Int)] 100 (0, 0))
/-- len bytes lie at A, in blocks below B -/
def Src (w : World) (B : Nat) (A : Option Addr) (len : Nat) : Prop := ∀ i, i < len → ∃ (b o : Nat) (n : Int), A = some ⟨b, o, none⟩ ∧ b < B ∧ 0 ≤ n ∧ n < 256 ∧ w.cell? ⟨b, o + i, none⟩ = some (.int .u8 n)
/-- what a draw leaves: a number in its range, the reader further on -/
def Drawn (w : World) (g : Nat) (A : Option Addr) (len cap : Nat) (lo hi : Int) (e : Ending) (w' : World) : Prop :=
  ∃ (n : Int) (p : Nat), lo ≤ n ∧ n ≤ hi ∧ e = .returned (.int .i64 n) ∧ RdAt w' g A len cap p ∧ w.grownBy w' (some g)
theorem Src.keep {w w' : World} {g : Nat} {A : Option Addr} {len : Nat} (h : Src w g A len) (hg : w.grownBy w' (some g)) (hs : g ≤ w.heap.size) : Src w' g A len := fun i hi => by
  obtain ⟨b, o, n, h1, h2, h3, h4, h5⟩ := h i hi
  exact ⟨b, o, n, h1, h2, h3, h4, (World.cell?_of_block (hg.block b (by omega) (fun e => by injection e with e; omega))).trans h5⟩

theorem only_drewN {a w : World} {row : Option Nat} (h : a.grownBy w row) (n : Nat) : a.grownBy (w.drewN n) row := ⟨h.os, h.tape, h.output, h.size, h.block⟩
theorem only_alloc {a w : World} {row : Option Nat} (h : a.grownBy w row) (o : Obj) : a.grownBy (w.alloc o) row :=
  ⟨h.os, h.tape, h.output, Nat.le_trans h.size (by simp), fun i hi hne => (Below.heap_alloc w o i (Nat.lt_of_lt_of_le hi h.size)).trans (h.block i hi hne)⟩
theorem only_setCell {a w : World} {g : Nat} (h : a.grownBy w (some g)) {p : Addr} (hp : p.block = g ∨ a.heap.size ≤ p.block) (u : Value) : a.grownBy (w.setCell p u) (some g) :=
  ⟨h.os, h.tape, h.output, by simpa [World.setCell] using h.size, fun i hi hne => (Below.heap_setCell w p u i (by
    rintro rfl
    rcases hp with hp | hp
    · exact hne (by rw [hp])
    · omega)).trans (h.block i hi hne)⟩
theorem only_trans {a w w1 : World} {row : Option Nat} (h : a.grownBy w row) (hb : w.grownBy w1 row) : a.grownBy w1 row :=
  ⟨hb.os.trans h.os, hb.tape.trans h.tape, hb.output.trans h.output, Nat.le_trans h.size hb.size, fun i hi hn => (hb.block i (Nat.lt_of_lt_of_le hi h.size) hn).trans (h.block i hi hn)⟩

set_option maxHeartbeats 800000 in
set_option maxRecDepth 100000 in
theorem next_any (g : Nat) (A : Option Addr) (len cap p : Nat) (w : World) (hr : RdAt w g A len cap p) (hs : Src w g A len) (hl : len ≤ 9223372036854775807) :
    Calls Try.prog 64 #[.pointer (some ⟨g, 0, none⟩)] w (Drawn w g A len cap 0 255) := by
  obtain ⟨hp, hh⟩ := hr
  have c0 : w.cell? ⟨g, 0, none⟩ = some (.slice A len cap) := (cell_of_row w g 0 _ _ (0, 0) hh).trans rfl
  have c1 : w.cell? ⟨g, 1, none⟩ = some (.int .i64 (p : Int)) := (cell_of_row w g 1 _ _ (0, 0) hh).trans rfl
  have f1 : w.frozen? ⟨g, 1, none⟩ = false := frozen_of_row w g 1 _ _ hh
  have HH := Lib.hid hh
  clear hh
  by_cases hlt : p < len
  · obtain ⟨b, o, n, rfl, hb, h0, h1, hc⟩ := hs p hlt
    have hne : b ≠ g := by omega
    clear hs
    go_enter Try.func64, Try.ntmps64
    go_wp2
    go_quiet (fail)
    go_wp2
    have e1 : (p : Int) + 1 - 1 = (p : Int) := by omega
    go_quiet (fail)
    go_wp2
    go_ret
    exact ⟨n, p + 1, h0, by omega, rfl, ⟨by omega, (heap_setCell_same _ g 1 _ _ (.int .i64 ((p : Int) + 1)) HH.out).trans (by simp)⟩, only_drewN (only_setCell (only_drewN (World.grownBy.refl _ _) _) (.inl rfl) _) _⟩
  · obtain rfl : p = len := by omega
    clear hs
    go_enter Try.func64, Try.ntmps64
    go_wp2
    go_quiet (fail)
    go_wp2
    go_ret
    exact ⟨0, p, by omega, by omega, rfl, ⟨Nat.le_refl _, HH.out⟩, only_drewN (World.grownBy.refl _ _) _⟩
theorem RdAt.lt {w : World} {g : Nat} {A : Option Addr} {len cap p : Nat} (h : RdAt w g A len cap p) : g < w.heap.size := by
  rcases Nat.lt_or_ge g w.heap.size with hlt | hge
  · exact hlt
  · have := h.2; rw [Array.getElem?_eq_none hge] at this; cases this
set_option maxHeartbeats 800000 in
set_option maxRecDepth 100000 in
theorem below_any (n : Int) (g : Nat) (A : Option Addr) (len cap p : Nat) (w : World) (hr : RdAt w g A len cap p) (hs : Src w g A len) (hl : len ≤ 9223372036854775807) (h1 : 1 ≤ n) (h2 : n ≤ 9223372036854775807) :
    Calls Try.prog 32 #[.pointer (some ⟨g, 0, none⟩), .int .i64 n] w (Drawn w g A len cap 0 (n - 1)) := by
  by_cases hn1 : n ≤ 1
  · go_enter Try.func32, Try.ntmps32
    go_wp2_with fail
    go_ret
    exact ⟨0, p, by omega, by omega, rfl, hr, World.grownBy.refl _ _⟩
  · by_cases hn2 : n ≤ 256
    · have h0 : (n == 0) = false := beq_eq_false_iff_ne.2 (by omega)
      go_enter Try.func32, Try.ntmps32
      go_wp2_with fail
      refine (next_any g A len cap p _ hr hs hl).mono ?_
      rintro e w1 ⟨m, p1, m0, m1, rfl, hr1, hg1⟩
      go_wp2_with fail
      go_ret
      exact ⟨m % n, p1, Int.emod_nonneg _ (by omega), by have := Int.emod_lt_of_pos m (show 0 < n by omega); omega, rfl, hr1, hg1⟩
    · have h0 : (n == 0) = false := beq_eq_false_iff_ne.2 (by omega)
      go_enter Try.func32, Try.ntmps32
      go_wp2_with fail
      refine (next_any g A len cap p _ hr hs hl).mono ?_
      rintro e w1 ⟨m, p1, m0, m1, rfl, hr1, hg1⟩
      go_wp2_with fail
      refine (next_any g A len cap p1 _ hr1 (hs.keep hg1 (Nat.le_of_lt hr.lt)) hl).mono ?_
      rintro e w2 ⟨k, p2, k0, k1, rfl, hr2, hg2⟩
      go_wp2_with fail
      go_ret
      exact ⟨(m * 256 + k) % n, p2, Int.emod_nonneg _ (by omega), by have := Int.emod_lt_of_pos (m * 256 + k) (show 0 < n by omega); omega, rfl, hr2, only_trans hg1 hg2⟩
/-- a draw of yes or no -/
def DrawnB (w : World) (g : Nat) (A : Option Addr) (len cap : Nat) (e : Ending) (w' : World) : Prop :=
  ∃ (b : Bool) (p : Nat), e = .returned (.bool b) ∧ RdAt w' g A len cap p ∧ w.grownBy w' (some g)
set_option maxHeartbeats 400000 in
set_option maxRecDepth 100000 in
theorem once_any (n : Int) (g : Nat) (A : Option Addr) (len cap p : Nat) (w : World) (hr : RdAt w g A len cap p) (hs : Src w g A len) (hl : len ≤ 9223372036854775807) (h1 : 1 ≤ n) (h2 : n ≤ 9223372036854775807) :
    Calls Try.prog 31 #[.pointer (some ⟨g, 0, none⟩), .int .i64 n] w (DrawnB w g A len cap) := by
  go_enter Try.func31, Try.ntmps31
  go_wp2_with fail
  refine (below_any n g A len cap p _ hr hs hl h1 h2).mono ?_
  rintro e w1 ⟨m, p1, m0, m1, rfl, hr1, hg1⟩
  go_wp2_with fail
  go_ret
  exact ⟨_, p1, rfl, hr1, hg1⟩
/-- a draw of 64 bits -/
def DrawnU (w : World) (g : Nat) (A : Option Addr) (len cap : Nat) (e : Ending) (w' : World) : Prop :=
  ∃ (n : Int) (p : Nat), 0 ≤ n ∧ e = .returned (.int .u64 n) ∧ RdAt w' g A len cap p ∧ w.grownBy w' (some g)
theorem bits_u64_nonneg (o : BinOp) (a b : Int) : 0 ≤ bits o .u64 a b := by
  unfold bits
  simp only [IntKind.wrap_u64]
  omega
set_option maxHeartbeats 800000 in
set_option maxRecDepth 100000 in
theorem word_any (g : Nat) (A : Option Addr) (len cap p : Nat) (w : World) (hr : RdAt w g A len cap p) (hs : Src w g A len) (hl : len ≤ 9223372036854775807) :
    Calls Try.prog 102 #[.pointer (some ⟨g, 0, none⟩)] w (DrawnU w g A len cap) := by
  go_enter Try.func102, Try.ntmps102
  go_wp2_with fail
  go_loopw [3, 4] (fun x i wr => ∃ (X : Int) (k q : Nat), 0 ≤ X ∧ k ≤ 8 ∧ x = .int .u64 X ∧ i = .int .i64 (k : Int) ∧ RdAt wr g A len cap q ∧ w.grownBy wr (some g)) (fun _ i _ => 8 - (intOf i).toNat)
  case atStart => exact ⟨0, 0, p, by omega, by omega, rfl, rfl, hr, World.grownBy.refl _ _⟩
  case round =>
    obtain ⟨X, k, q, hX, hk, rfl, rfl, hq, hgr⟩ := hrel
    by_cases h8 : k < 8
    · go_wp2_with fail
      refine (next_any g A len cap q _ hq (hs.keep hgr (Nat.le_of_lt hr.lt)) hl).mono ?_
      rintro e w1 ⟨m, p1, m0, m1, rfl, hr1, hg1⟩
      go_wp2_with fail
      go_roundw
      case rel => exact ⟨_, k + 1, p1, bits_u64_nonneg _ _ _, by omega, rfl, by go_num, hr1, only_trans hgr hg1⟩
      case measure => simp [intOf]; omega
    · go_wp2_with fail
      go_ret
      exact ⟨X, q, hX, rfl, hq, hgr⟩
set_option maxHeartbeats 800000 in
set_option maxRecDepth 100000 in
theorem near_any (lo hi : Int) (g : Nat) (A : Option Addr) (len cap p : Nat) (w : World) (hr : RdAt w g A len cap p) (hs : Src w g A len) (hl : len ≤ 9223372036854775807) (h1 : -10 ≤ lo) (h2 : lo ≤ hi) (h3 : hi ≤ 2000000000) :
    Calls Try.prog 65 #[.pointer (some ⟨g, 0, none⟩), .int .i64 lo, .int .i64 hi] w (Drawn w g A len cap lo hi) := by
  go_enter Try.func65, Try.ntmps65
  go_wp2_with fail
  refine (below_any 8 g A len cap p _ hr hs hl (by omega) (by omega)).mono ?_
  rintro e w1 ⟨m, p1, m0, m1, rfl, hr1, hg1⟩
  have hs1 := hs.keep hg1 (Nat.le_of_lt hr.lt)
  rcases (show m = 0 ∨ m = 1 ∨ 2 ≤ m from by omega) with rfl | rfl | h2m
  · go_wp2_with fail
    go_ret
    exact ⟨lo, p1, by omega, h2, rfl, hr1, hg1⟩
  · go_wp2_with fail
    go_ret
    exact ⟨hi, p1, h2, by omega, rfl, hr1, hg1⟩
  · have z0 : (m == 0) = false := beq_eq_false_iff_ne.2 (by omega)
    have z1 : (m == 1) = false := beq_eq_false_iff_ne.2 (by omega)
    have z2 : (hi - lo + 1 == 0) = false := beq_eq_false_iff_ne.2 (by omega)
    go_wp2_with fail
    refine (word_any g A len cap p1 _ hr1 hs1 hl).mono ?_
    rintro e w2 ⟨n, p2, n0, rfl, hr2, hg2⟩
    have hb0 : 0 ≤ n / 2 % (hi - lo + 1) := Int.emod_nonneg _ (by omega)
    have hb1 : n / 2 % (hi - lo + 1) < hi - lo + 1 := Int.emod_lt_of_pos _ (by omega)
    go_wp2_with fail
    go_ret
    exact ⟨lo + n / 2 % (hi - lo + 1), p2, by omega, by omega, rfl, hr2, only_trans hg1 hg2⟩
theorem RdAt.alloc {w : World} {g : Nat} {A : Option Addr} {len cap p : Nat} (h : RdAt w g A len cap p) (o : Obj) : RdAt (w.alloc o) g A len cap p :=
  ⟨h.1, (Below.heap_alloc w o g h.lt).trans h.2⟩
/-- a draw of some int64 -/
def DrawnI (w : World) (g : Nat) (A : Option Addr) (len cap : Nat) (e : Ending) (w' : World) : Prop :=
  ∃ (n : Int) (p : Nat), I64 n ∧ e = .returned (.int .i64 n) ∧ RdAt w' g A len cap p ∧ w.grownBy w' (some g)
set_option maxHeartbeats 800000 in
set_option maxRecDepth 100000 in
theorem off_any (lo hi : Int) (g : Nat) (A : Option Addr) (len cap p : Nat) (w : World) (hr : RdAt w g A len cap p) (hs : Src w g A len) (hl : len ≤ 9223372036854775807) (h1 : -9 ≤ lo) (h2 : lo ≤ hi) (h3 : hi ≤ 1000000001) :
    Calls Try.prog 33 #[.pointer (some ⟨g, 0, none⟩), .int .i64 lo, .int .i64 hi] w (DrawnI w g A len cap) := by
  go_enter Try.func33, Try.ntmps33
  go_wp2_with fail
  refine (once_any 24 g A len cap p _ hr hs hl (by omega) (by omega)).mono ?_
  rintro e w1 ⟨b, p1, rfl, hr1, hg1⟩
  have hs1 := hs.keep hg1 (Nat.le_of_lt hr.lt)
  cases b
  · go_wp2_with fail
    refine (near_any lo hi g A len cap p1 _ hr1 hs1 hl (by omega) h2 (by omega)).mono ?_
    rintro e w2 ⟨n, p2, n0, n1, rfl, hr2, hg2⟩
    go_wp2_with fail
    go_ret
    exact ⟨n, p2, ⟨by omega, by omega⟩, rfl, hr2, only_trans hg1 hg2⟩
  · go_wp2_with fail
    refine (below_any 4 g A len cap p1 _ (hr1.alloc _) (hs1.keep (only_alloc (World.grownBy.refl _ _) _) (Nat.le_of_lt hr1.lt)) hl (by omega) (by omega)).mono ?_
    rintro e w2 ⟨m, p2, m0, m1, rfl, hr2, hg2⟩
    have hlt1 := hr1.lt
    have hA := (hg2.block w1.heap.size (by simp) (fun e => by injection e with e; omega)).trans (heap_alloc_new w1 _)
    have c0 := cell_of_row w2 w1.heap.size 0 _ _ (0, 0) hA
    have c1 := cell_of_row w2 w1.heap.size 1 _ _ (0, 0) hA
    have c2 := cell_of_row w2 w1.heap.size 2 _ _ (0, 0) hA
    have c3 := cell_of_row w2 w1.heap.size 3 _ _ (0, 0) hA
    simp at c0 c1 c2 c3
    have hg3 := only_trans hg1 (only_trans (only_alloc (World.grownBy.refl w1 (some g)) _) hg2)
    clear hA hg2 hlt1
    rcases (show m = 0 ∨ m = 1 ∨ m = 2 ∨ m = 3 from by omega) with rfl | rfl | rfl | rfl
    all_goals
      go_wp2_with fail
      go_ret
      exact ⟨_, p2, ⟨by omega, by omega⟩, rfl, hr2, hg3⟩
set_option maxHeartbeats 400000 in
theorem open_any (A : Option Addr) (len cap : Nat) (w : World) :
    Calls Try.prog 27 #[.slice A len cap] w fun e w' => e = .returned (.pointer (some ⟨w.heap.size, 0, none⟩)) ∧ w' = w.alloc (.cells #[.slice A len cap, .int .i64 0] 100) := by
  go_enter Try.func27, Try.ntmps27
  go_wp2_with fail
  go_ret
  exact ⟨rfl, rfl⟩
theorem RdAt.own {w w1 : World} {g : Nat} {A : Option Addr} {len cap p : Nat} {row : Option Nat} (h : RdAt w g A len cap p) (hb : w.grownBy w1 row) (hr : ∀ k, row = some k → g < k) : RdAt w1 g A len cap p :=
  ⟨h.1, (hb.block g h.lt (fun e => by have := hr g e.symm; omega)).trans h.2⟩
end Go.Proofs.Ytempggikcpminaa

namespace Go.Proofs.Ytempggikcpminaa
open Go.RowKit Wire

theorem nums_set (zs : List Int) (j : Nat) (x : Int) : nums (zs.set j x) = (nums zs).set j (.int .i64 x) := by simp [nums, List.map_set]
theorem only_below {a w w1 : World} {row : Option Nat} (h : a.grownBy w row) (hb : Below w.heap.size w w1) : a.grownBy w1 row :=
  ⟨hb.os.trans h.os, hb.tape.trans h.tape, hb.output.trans h.output, Nat.le_trans h.size hb.size, fun k hk hne => (hb.block k (Nat.lt_of_lt_of_le hk h.size)).trans (h.block k hk hne)⟩
theorem RdAt.below {w w1 : World} {g : Nat} {A : Option Addr} {len cap p : Nat} (h : RdAt w g A len cap p) (hb : Below w.heap.size w w1) : RdAt w1 g A len cap p := ⟨h.1, (hb.block g h.lt).trans h.2⟩
end Go.Proofs.Ytempggikcpminaa

namespace Go.Proofs.Ytempggikcpminaa
open Go.RowKit Wire

theorem ord_cell {w : World} {S : Nat} {a b c d : Value} {T : TypeId} (h : w.heap[S]? = some (.cells #[a, b, c, d] T (0, 0))) : w.cell? ⟨S, 0, none⟩ = some a ∧ w.cell? ⟨S, 1, none⟩ = some b ∧ w.cell? ⟨S, 2, none⟩ = some c ∧ w.cell? ⟨S, 3, none⟩ = some d ∧ w.frozen? ⟨S, 0, none⟩ = false ∧ w.frozen? ⟨S, 1, none⟩ = false ∧ w.frozen? ⟨S, 2, none⟩ = false ∧ w.frozen? ⟨S, 3, none⟩ = false := by
  refine ⟨?_, ?_, ?_, ?_, ?_, ?_, ?_, ?_⟩ <;> simp [World.cell?, World.frozen?, h]
theorem ord_set {w : World} {S : Nat} {a b c d : Value} {T : TypeId} (h : w.heap[S]? = some (.cells #[a, b, c, d] T (0, 0))) (j : Nat) (u : Value) : (w.setCell ⟨S, j, none⟩ u).heap[S]? = some (.cells (#[a, b, c, d].setIfInBounds j u) T (0, 0)) := by
  simp [World.setCell, Array.getElem?_modify, h]
theorem ord_put {w : World} {S : Nat} {a b c d u0 u1 u2 u3 : Value} {T : TypeId} (h : w.heap[S]? = some (.cells #[a, b, c, d] T (0, 0))) :
    ((((w.setCell ⟨S, 0, none⟩ u0).setCell ⟨S, 1, none⟩ u1).setCell ⟨S, 2, none⟩ u2).setCell ⟨S, 3, none⟩ u3).heap[S]? = some (.cells #[u0, u1, u2, u3] T (0, 0)) := by
  simp [World.setCell, Array.getElem?_modify, h]
theorem ord_put_other {w : World} {S k : Nat} {o : Obj} {u0 u1 u2 u3 : Value} (h : w.heap[k]? = some o) (hne : k ≠ S) :
    ((((w.setCell ⟨S, 0, none⟩ u0).setCell ⟨S, 1, none⟩ u1).setCell ⟨S, 2, none⟩ u2).setCell ⟨S, 3, none⟩ u3).heap[k]? = some o := by
  have e := fun (v : World) (i : Nat) (u : Value) => Below.heap_setCell v ⟨S, i, none⟩ u k hne
  rw [e, e, e, e]
  exact h
/-- a drawn order -/
def DrawnOrd (w : World) (g : Nat) (A : Option Addr) (len cap : Nat) (e : Ending) (w' : World) : Prop :=
  ∃ (a b c d : Int) (p : Nat), e = .returned (.agg #[.int .i64 a, .int .i64 b, .int .i64 c, .int .i64 d]) ∧ RdAt w' g A len cap p ∧ w.grownBy w' (some g)
set_option linter.unusedSimpArgs false in
set_option maxHeartbeats 1600000 in
set_option maxRecDepth 100000 in
theorem order_any (g : Nat) (A : Option Addr) (len cap p : Nat) (w : World) (hr : RdAt w g A len cap p) (hs : Src w g A len) (hl : len ≤ 9223372036854775807) :
    Calls Try.prog 30 #[.pointer (some ⟨g, 0, none⟩)] w (DrawnOrd w g A len cap) := by
  have hlt := hr.lt
  have k0 := heap_alloc_new w (.cells #[.int .i64 0, .int .i64 0, .int .i64 0, .int .i64 0] 28)
  have hG : w.grownBy (w.alloc (.cells #[.int .i64 0, .int .i64 0, .int .i64 0, .int .i64 0] 28)) (some g) := only_alloc (World.grownBy.refl _ _) _
  replace hr := hr.alloc (.cells #[.int .i64 0, .int .i64 0, .int .i64 0, .int .i64 0] 28)
  go_enter Try.func30, Try.ntmps30
  go_wp2_with fail
  generalize w.alloc (.cells #[.int .i64 0, .int .i64 0, .int .i64 0, .int .i64 0] 28) = v0 at *
  refine (below_any 14 g A len cap _ _ hr (hs.keep hG (Nat.le_of_lt hlt)) hl (by omega) (by omega)).mono ?_
  rintro e v1 ⟨x1, p1, x10, x11, rfl, hr', hg'⟩
  replace k0 := (hg'.block w.heap.size (heap_lt' k0) (fun e => by injection e with e; omega)).trans k0
  replace hG := only_trans hG hg'
  replace hr := hr'
  clear hr' hg'
  go_wp2_with fail
  refine (below_any 3 g A len cap _ _ hr (hs.keep hG (Nat.le_of_lt hlt)) hl (by omega) (by omega)).mono ?_
  rintro e v2 ⟨x2, p2, x20, x21, rfl, hr', hg'⟩
  replace k0 := (hg'.block w.heap.size (heap_lt' k0) (fun e => by injection e with e; omega)).trans k0
  replace hG := only_trans hG hg'
  replace hr := hr'
  clear hr' hg'
  go_wp2_with fail
  refine (below_any 7 g A len cap _ _ hr (hs.keep hG (Nat.le_of_lt hlt)) hl (by omega) (by omega)).mono ?_
  rintro e v3 ⟨x3, p3, x30, x31, rfl, hr', hg'⟩
  replace k0 := (hg'.block w.heap.size (heap_lt' k0) (fun e => by injection e with e; omega)).trans k0
  replace hG := only_trans hG hg'
  replace hr := hr'
  clear hr' hg'
  go_wp2_with fail
  refine (below_any 9 g A len cap _ _ hr (hs.keep hG (Nat.le_of_lt hlt)) hl (by omega) (by omega)).mono ?_
  rintro e v4 ⟨x4, p4, x40, x41, rfl, hr', hg'⟩
  replace k0 := (hg'.block w.heap.size (heap_lt' k0) (fun e => by injection e with e; omega)).trans k0
  replace hG := only_trans hG hg'
  replace hr := hr'
  clear hr' hg'
  have kB := heap_alloc_new v4 (.cells #[.int .i64 (1 + x1), .int .i64 (1 + x2), .int .i64 (97 + x3), .int .i64 (1 + x4)] 28)
  have hGB : w.heap.size < v4.heap.size := heap_lt' k0
  have hgB : g < v4.heap.size := hr.lt
  replace k0 := (Below.heap_alloc v4 (.cells #[.int .i64 (1 + x1), .int .i64 (1 + x2), .int .i64 (97 + x3), .int .i64 (1 + x4)] 28) w.heap.size hGB).trans k0
  replace hG := only_alloc hG (.cells #[.int .i64 (1 + x1), .int .i64 (1 + x2), .int .i64 (97 + x3), .int .i64 (1 + x4)] 28)
  replace hr := hr.alloc (.cells #[.int .i64 (1 + x1), .int .i64 (1 + x2), .int .i64 (97 + x3), .int .i64 (1 + x4)] 28)
  go_wp2_with fail
  generalize v4.alloc (.cells #[.int .i64 (1 + x1), .int .i64 (1 + x2), .int .i64 (97 + x3), .int .i64 (1 + x4)] 28) = v4' at *
  generalize v4.heap.size = GB at *
  refine (below_any 40 g A len cap _ _ hr (hs.keep hG (Nat.le_of_lt hlt)) hl (by omega) (by omega)).mono ?_
  rintro e v5 ⟨x5, p5, x50, x51, rfl, hr', hg'⟩
  replace k0 := (hg'.block w.heap.size (heap_lt' k0) (fun e => by injection e with e; omega)).trans k0
  replace kB := (hg'.block GB (heap_lt' kB) (fun e => by injection e with e; omega)).trans kB
  replace hG := only_trans hG hg'
  replace hr := hr'
  clear hr' hg'
  rcases (show x5 = 38 ∨ x5 = 39 ∨ (x5 ≠ 38 ∧ x5 ≠ 39) from by omega) with rfl | rfl | ⟨h38, h39⟩
  · go_wp2_with fail
    refine (off_any 1 1000000 g A len cap _ _ hr (hs.keep hG (Nat.le_of_lt hlt)) hl (by omega) (by omega) (by omega)).mono ?_
    rintro e v6 ⟨y, p6, _, rfl, hr', hg'⟩
    replace k0 := (hg'.block w.heap.size (heap_lt' k0) (fun e => by injection e with e; omega)).trans k0
    replace kB := (hg'.block GB (heap_lt' kB) (fun e => by injection e with e; omega)).trans kB
    replace hG := only_trans hG hg'
    replace hr := hr'
    clear hr' hg'
    obtain ⟨c0, c1, c2, c3, f0, f1, f2, f3⟩ := ord_cell kB
    go_upto_region 7 with fail
    clear c0 c1 c2 c3 f0 f1 f2 f3
    replace kB := ord_set kB 2 (.int .i64 y)
    simp only [List.setIfInBounds_toArray, List.set_cons_zero, List.set_cons_succ] at kB
    replace k0 := (Below.heap_setCell v6 ⟨GB, 2, none⟩ (.int .i64 y) w.heap.size (show w.heap.size ≠ GB by omega)).trans k0
    replace hG := only_setCell hG (p := ⟨GB, 2, none⟩) (.inr (show w.heap.size ≤ GB by omega)) (.int .i64 y)
    replace hr : RdAt (v6.setCell ⟨GB, 2, none⟩ (.int .i64 y)) g A len cap p6 := ⟨hr.1, (Below.heap_setCell v6 ⟨GB, 2, none⟩ (.int .i64 y) g (show g ≠ GB by omega)).trans hr.2⟩
    generalize v6.setCell ⟨GB, 2, none⟩ (.int .i64 y) = v7 at *
    obtain ⟨c0, c1, c2, c3, _, _, _, _⟩ := ord_cell kB
    obtain ⟨d0, d1, d2, d3, f0, f1, f2, f3⟩ := ord_cell k0
    have R0 := Lib.hid k0
    have RB := Lib.hid hG
    have RR := Lib.hid hr
    clear kB k0 hG hr
    go_wp2_with fail
    have r0 := ord_put (u0 := .int .i64 (1 + x1)) (u1 := .int .i64 (1 + x2)) (u2 := .int .i64 y) (u3 := .int .i64 (1 + x4)) R0.out
    obtain ⟨e0, e1, e2, e3, _, _, _, _⟩ := ord_cell r0
    refine bodyPost_ret (v := .agg #[.int .i64 (1 + x1), .int .i64 (1 + x2), .int .i64 y, .int .i64 (1 + x4)]) (by simp [results, Try.results30, go_sem, e0, e1, e2, e3]) rfl ⟨(1 + x1), (1 + x2), y, (1 + x4), p6, rfl, ?_, ?_⟩
    · exact ⟨RR.out.1, ord_put_other (S := w.heap.size) RR.out.2 (by omega)⟩
    · exact only_setCell (only_setCell (only_setCell (only_setCell RB.out (p := ⟨w.heap.size, 0, none⟩) (.inr (Nat.le_refl _)) _) (p := ⟨w.heap.size, 1, none⟩) (.inr (Nat.le_refl _)) _) (p := ⟨w.heap.size, 2, none⟩) (.inr (Nat.le_refl _)) _) (p := ⟨w.heap.size, 3, none⟩) (.inr (Nat.le_refl _)) _
  · go_wp2_with fail
    refine (off_any 1 1000000 g A len cap _ _ hr (hs.keep hG (Nat.le_of_lt hlt)) hl (by omega) (by omega) (by omega)).mono ?_
    rintro e v6 ⟨y, p6, _, rfl, hr', hg'⟩
    replace k0 := (hg'.block w.heap.size (heap_lt' k0) (fun e => by injection e with e; omega)).trans k0
    replace kB := (hg'.block GB (heap_lt' kB) (fun e => by injection e with e; omega)).trans kB
    replace hG := only_trans hG hg'
    replace hr := hr'
    clear hr' hg'
    obtain ⟨c0, c1, c2, c3, f0, f1, f2, f3⟩ := ord_cell kB
    go_upto_region 7 with fail
    clear c0 c1 c2 c3 f0 f1 f2 f3
    replace kB := ord_set kB 3 (.int .i64 y)
    simp only [List.setIfInBounds_toArray, List.set_cons_zero, List.set_cons_succ] at kB
    replace k0 := (Below.heap_setCell v6 ⟨GB, 3, none⟩ (.int .i64 y) w.heap.size (show w.heap.size ≠ GB by omega)).trans k0
    replace hG := only_setCell hG (p := ⟨GB, 3, none⟩) (.inr (show w.heap.size ≤ GB by omega)) (.int .i64 y)
    replace hr : RdAt (v6.setCell ⟨GB, 3, none⟩ (.int .i64 y)) g A len cap p6 := ⟨hr.1, (Below.heap_setCell v6 ⟨GB, 3, none⟩ (.int .i64 y) g (show g ≠ GB by omega)).trans hr.2⟩
    generalize v6.setCell ⟨GB, 3, none⟩ (.int .i64 y) = v7 at *
    obtain ⟨c0, c1, c2, c3, _, _, _, _⟩ := ord_cell kB
    obtain ⟨d0, d1, d2, d3, f0, f1, f2, f3⟩ := ord_cell k0
    have R0 := Lib.hid k0
    have RB := Lib.hid hG
    have RR := Lib.hid hr
    clear kB k0 hG hr
    go_wp2_with fail
    have r0 := ord_put (u0 := .int .i64 (1 + x1)) (u1 := .int .i64 (1 + x2)) (u2 := .int .i64 (97 + x3)) (u3 := .int .i64 y) R0.out
    obtain ⟨e0, e1, e2, e3, _, _, _, _⟩ := ord_cell r0
    refine bodyPost_ret (v := .agg #[.int .i64 (1 + x1), .int .i64 (1 + x2), .int .i64 (97 + x3), .int .i64 y]) (by simp [results, Try.results30, go_sem, e0, e1, e2, e3]) rfl ⟨(1 + x1), (1 + x2), (97 + x3), y, p6, rfl, ?_, ?_⟩
    · exact ⟨RR.out.1, ord_put_other (S := w.heap.size) RR.out.2 (by omega)⟩
    · exact only_setCell (only_setCell (only_setCell (only_setCell RB.out (p := ⟨w.heap.size, 0, none⟩) (.inr (Nat.le_refl _)) _) (p := ⟨w.heap.size, 1, none⟩) (.inr (Nat.le_refl _)) _) (p := ⟨w.heap.size, 2, none⟩) (.inr (Nat.le_refl _)) _) (p := ⟨w.heap.size, 3, none⟩) (.inr (Nat.le_refl _)) _
  · have z0 : (x5 == 38) = false := beq_eq_false_iff_ne.2 h38
    have z1 : (x5 == 39) = false := beq_eq_false_iff_ne.2 h39
    obtain ⟨c0, c1, c2, c3, _, _, _, _⟩ := ord_cell kB
    obtain ⟨d0, d1, d2, d3, f0, f1, f2, f3⟩ := ord_cell k0
    have R0 := Lib.hid k0
    have RB := Lib.hid hG
    have RR := Lib.hid hr
    clear kB k0 hG hr
    go_wp2_with fail
    have r0 := ord_put (u0 := .int .i64 (1 + x1)) (u1 := .int .i64 (1 + x2)) (u2 := .int .i64 (97 + x3)) (u3 := .int .i64 (1 + x4)) R0.out
    obtain ⟨e0, e1, e2, e3, _, _, _, _⟩ := ord_cell r0
    refine bodyPost_ret (v := .agg #[.int .i64 (1 + x1), .int .i64 (1 + x2), .int .i64 (97 + x3), .int .i64 (1 + x4)]) (by simp [results, Try.results30, go_sem, e0, e1, e2, e3]) rfl ⟨(1 + x1), (1 + x2), (97 + x3), (1 + x4), p5, rfl, ?_, ?_⟩
    · exact ⟨RR.out.1, ord_put_other (S := w.heap.size) RR.out.2 (by omega)⟩
    · exact only_setCell (only_setCell (only_setCell (only_setCell RB.out (p := ⟨w.heap.size, 0, none⟩) (.inr (Nat.le_refl _)) _) (p := ⟨w.heap.size, 1, none⟩) (.inr (Nat.le_refl _)) _) (p := ⟨w.heap.size, 2, none⟩) (.inr (Nat.le_refl _)) _) (p := ⟨w.heap.size, 3, none⟩) (.inr (Nat.le_refl _)) _
end Go.Proofs.Ytempggikcpminaa

namespace Go.Proofs.Ytempggikcpminaa
open Go.RowKit Wire

theorem own_nil {w : World} {base sz n c : Nat} {e : TypeId} {A : Option Addr} {xs : List Value} (h : w.ownsRow base e sz (.slice A n c) n xs) : A = none → n = 0 ∧ c = 0 := fun e0 => by
  subst e0
  rcases h.2 with ⟨h1, h2⟩ | ⟨g, cap, cur, h1, _⟩
  · injection h1 with _ h3 h4
    exact ⟨h3, h4⟩
  · simp at h1
theorem own_cap {w : World} {base sz n c : Nat} {e : TypeId} {A : Option Addr} {xs : List Value} (h : w.ownsRow base e sz (.slice A n c) n xs) : n ≤ c := by
  obtain ⟨A', c', e1, h1, _⟩ := own_slice h
  injection e1 with _ _ e3
  omega
theorem only_drew {a w : World} {row : Option Nat} (h : a.grownBy w row) : a.grownBy w.drew row := ⟨h.os, h.tape, h.output, h.size, h.block⟩
theorem TwoRows.drew {w : World} {base : Nat} {r1 r2 : Value} {n1 n2 : Nat} {z1 z2 : List Int} (h : TwoRows w base r1 n1 z1 r2 n2 z2) : TwoRows w.drew base r1 n1 z1 r2 n2 z2 := h.below (Below.refl _ _).drew
theorem TwoRows.put {w w' : World} {base q : Nat} {r1 r2 : Value} {n1 n2 : Nat} {z1 z2 : List Int} (h : TwoRows w base r1 n1 z1 r2 n2 z2) (hg : w.grownBy w' (some q)) (h1 : r1.ownBlock ≠ some q) (h2 : r2.ownBlock ≠ some q) : TwoRows w' base r1 n1 z1 r2 n2 z2 :=
  ⟨own_apart h.one hg (fun _ hk e => h1 (hk.trans e.symm)), own_apart h.two hg (fun _ hk e => h2 (hk.trans e.symm)), h.apart⟩
theorem free2 {w : World} {S : Nat} {a b : Value} {T : TypeId} (h : w.heap[S]? = some (.cells #[a, b] T (0, 0))) : w.frozen? ⟨S, 0, none⟩ = false ∧ w.frozen? ⟨S, 1, none⟩ = false := by
  refine ⟨?_, ?_⟩ <;> simp [World.frozen?, h]
/-- a number of an owned row is stored -/
theorem own_put {w : World} {base n c q : Nat} {T : TypeId} {zs : List Int} (h : w.ownsRow base T 4 (.slice (some ⟨q, 0, none⟩) n c) n (nums zs)) (j : Nat) (y : Int) :
    (w.setCell ⟨q, j, none⟩ (.int .i64 y)).ownsRow base T 4 (.slice (some ⟨q, 0, none⟩) n c) n (nums (zs.set j y)) := by
  refine ⟨by have := h.1; rw [nums_length] at this ⊢; rw [List.length_set]; exact this, ?_⟩
  rcases h.2 with ⟨h1, _⟩ | ⟨g, cap, cur, hv, hbg, hh, hnc, hcm, hsz, htk⟩
  · simp at h1
  · injection hv with e1 _ e3
    injection e1 with e1
    injection e1 with e1
    subst e1 e3
    exact .inr ⟨_, _, cur.setIfInBounds j (.int .i64 y), rfl, hbg, by simp [World.setCell, Array.getElem?_modify, hh], hnc, hcm, by simpa using hsz, by rw [Array.toList_setIfInBounds, List.take_set, htk, nums_set]⟩
theorem own_free {w : World} {base n c q : Nat} {T : TypeId} {zs : List Int} (h : w.ownsRow base T 4 (.slice (some ⟨q, 0, none⟩) n c) n (nums zs)) (j : Nat) (hj : j < n * 4) :
    w.cell? ⟨q, j, none⟩ = some (.int .i64 (num zs j)) ∧ w.frozen? ⟨q, j, none⟩ = false := by
  refine ⟨?_, ?_⟩
  · rw [h.cellAt j hj]
    exact nums_get (by have := h.1; rw [nums_length] at this; omega)
  · rcases h.2 with ⟨h1, _⟩ | ⟨g, cap, cur, hv, _, hh, _⟩
    · simp at h1
    · injection hv with e1 _ _
      injection e1 with e1
      injection e1 with e1
      subst e1
      simp [World.frozen?, hh]
/-- what rests leaves small sides -/
theorem rest_small {side oi oa op oq : Int} {za zb : List Int} {n m : Nat} : onN (restOk side oi oa op oq za n zb m) (restN1 side n) ≤ 20 ∧ onN (restOk side oi oa op oq za n zb m) (restN2 side m) ≤ 20 := by
  rcases hok : restOk side oi oa op oq za n zb m with _ | _
  · exact ⟨Nat.zero_le _, Nat.zero_le _⟩
  · unfold restOk at hok
    simp only [Bool.and_eq_true] at hok
    exact book_small hok.2.2.2
set_option linter.unusedSimpArgs false in
set_option maxHeartbeats 3200000 in
set_option maxRecDepth 100000 in
theorem book_any (g : Nat) (A : Option Addr) (len cap p : Nat) (w : World) (hr : RdAt w g A len cap p) (hs : Src w g A len) (hl : len ≤ 9223372036854775807) :
    Calls Try.prog 28 #[.pointer (some ⟨g, 0, none⟩)] w fun e w' => ∃ v1 n1 z1 v2 n2 z2 p', e = .returned (.agg #[v1, v2]) ∧ n1 ≤ 20 ∧ n2 ≤ 20 ∧ TwoRows w' w.heap.size v1 n1 z1 v2 n2 z2 ∧ RdAt w' g A len cap p' ∧ w.grownBy w' (some g) := by
  have hlt := hr.lt
  obtain ⟨k0, k1⟩ := two_blocks w (.cells #[.slice none 0 0, .slice none 0 0] 26) (.cells #[.slice none 0 0, .slice none 0 0] 26)
  have hG : w.grownBy ((w.alloc (.cells #[.slice none 0 0, .slice none 0 0] 26)).alloc (.cells #[.slice none 0 0, .slice none 0 0] 26)) (some g) := only_alloc (only_alloc (World.grownBy.refl _ _) _) _
  replace hr := (hr.alloc (.cells #[.slice none 0 0, .slice none 0 0] 26)).alloc (.cells #[.slice none 0 0, .slice none 0 0] 26)
  have hs0 : w.heap.size + 2 ≤ ((w.alloc (.cells #[.slice none 0 0, .slice none 0 0] 26)).alloc (.cells #[.slice none 0 0, .slice none 0 0] 26)).heap.size := by simp
  have TR := TwoRows.nil ((w.alloc (.cells #[.slice none 0 0, .slice none 0 0] 26)).alloc (.cells #[.slice none 0 0, .slice none 0 0] 26)) (w.heap.size + 2)
  go_enter Try.func28, Try.ntmps28
  go_wp2_with fail
  generalize ((w.alloc (.cells #[.slice none 0 0, .slice none 0 0] 26)).alloc (.cells #[.slice none 0 0, .slice none 0 0] 26)) = v0 at *
  refine (below_any 8 g A len cap _ _ hr (hs.keep hG (Nat.le_of_lt hlt)) hl (by omega) (by omega)).mono ?_
  rintro e v1 ⟨m, p1, m0, m1, rfl, hr', hg'⟩
  replace k0 := (hg'.block w.heap.size (heap_lt' k0) (fun e => by injection e with e; omega)).trans k0
  replace k1 := (hg'.block (w.heap.size + 1) (heap_lt' k1) (fun e => by injection e with e; omega)).trans k1
  replace TR := TR.kept hg' (by omega)
  replace hG := only_trans hG hg'
  replace hr := hr'
  clear hr' hg'
  obtain ⟨M, rfl⟩ := Int.eq_ofNat_of_zero_le m0
  have hM : M ≤ 8 := by omega
  clear m0 m1 hs0
  have HI : ∃ v1' n1 z1 v2 n2 z2, v1.heap[w.heap.size + 1]? = some (.cells #[v1', v2] 26 (0, 0)) ∧ n1 ≤ 20 ∧ n2 ≤ 20 ∧ TwoRows v1 (w.heap.size + 2) v1' n1 z1 v2 n2 z2 := ⟨_, _, _, _, _, _, k1, by omega, by omega, TR⟩
  clear k1 TR
  go_wp2_with fail
  go_loopw [4] (fun i wr => ∃ k q : Nat, k ≤ 8 ∧ i = .int .i64 (k : Int) ∧ RdAt wr g A len cap q ∧ w.grownBy wr (some g) ∧ wr.heap[w.heap.size]? = some (.cells #[.slice none 0 0, .slice none 0 0] 26 (0, 0)) ∧ ∃ v1' n1 z1 v2 n2 z2, wr.heap[w.heap.size + 1]? = some (.cells #[v1', v2] 26 (0, 0)) ∧ n1 ≤ 20 ∧ n2 ≤ 20 ∧ TwoRows wr (w.heap.size + 2) v1' n1 z1 v2 n2 z2) (fun i _ => (intOf i).toNat)
  case atStart => exact ⟨M, _, hM, rfl, hr, hG, k0, HI⟩
  case round =>
    clear hr hG k0 HI
    obtain ⟨k, q, hk, rfl, hr, hG, k0, x1, n1, z1, x2, n2, z2, k1, hn1, hn2, TR⟩ := hrel
    obtain ⟨A1, c1, A2, c2, rfl, rfl⟩ := TR.slices
    rcases k with _ | k
    · go_wp2_with fail
      refine (below_any 30 g A len cap _ _ hr (hs.keep hG (Nat.le_of_lt hlt)) hl (by omega) (by omega)).mono ?_
      rintro e v2 ⟨y, p2, y0, y1, rfl, hr', hg'⟩
      replace k0 := (hg'.block w.heap.size (heap_lt' k0) (fun e => by injection e with e; omega)).trans k0
      replace k1 := (hg'.block (w.heap.size + 1) (heap_lt' k1) (fun e => by injection e with e; omega)).trans k1
      replace TR := TR.kept hg' (by omega)
      replace hG := only_trans hG hg'
      replace hr := hr'
      clear hr' hg'
      rcases (show y = 28 ∨ y = 29 ∨ (y ≠ 28 ∧ y ≠ 29) from by omega) with rfl | rfl | ⟨h28, h29⟩
      · rcases Nat.eq_zero_or_pos n1 with hz | hpos
        · subst hz
          obtain ⟨u0, u1⟩ := cell2 k1
          obtain ⟨q0, q1⟩ := cell2 k0
          obtain ⟨f0, f1⟩ := free2 k0
          have K0 := Lib.hid k0
          have RR := Lib.hid hr
          have RB := Lib.hid hG
          have HTR := Lib.hid TR
          clear k0 k1 hr hG TR
          go_wp2_with fail
          have r0 := heap_set1 (u := .slice A2 n2 c2) (heap_set0 (u := .slice A1 0 c1) K0.out)
          obtain ⟨e0, e1⟩ := cell2 r0
          refine bodyPost_ret (v := .agg #[.slice A1 0 c1, .slice A2 n2 c2]) (by simp [results, Try.results28, go_sem, e0, e1]) rfl ⟨_, 0, z1, _, n2, z2, p2, rfl, hn1, hn2, ?_, ?_, ?_⟩
          · exact ((HTR.out.kept (set_grown _ w.heap.size 0 _) (by omega)).kept (set_grown _ w.heap.size 1 _) (by omega)).mono (by omega)
          · exact ⟨RR.out.1, (Below.heap_setCell _ ⟨w.heap.size, 1, none⟩ _ g (show g ≠ w.heap.size by omega)).trans ((Below.heap_setCell _ ⟨w.heap.size, 0, none⟩ _ g (show g ≠ w.heap.size by omega)).trans RR.out.2)⟩
          · exact only_setCell (only_setCell RB.out (p := ⟨w.heap.size, 0, none⟩) (.inr (Nat.le_refl _)) _) (p := ⟨w.heap.size, 1, none⟩) (.inr (Nat.le_refl _)) _
        · obtain ⟨qq, cc, hv, hbq, hlq⟩ := TR.one.form hpos
          injection hv with e1 _ e3
          subst e1 e3
          have hne : (Value.slice A2 n2 c2).ownBlock ≠ some qq := TR.apart qq rfl
          obtain ⟨u0, u1⟩ := cell2 k1
          have t3 : (0 : Int) < (n1 : Int) := by omega
          go_upto_region 15 with fail
          clear u0 u1
          refine wp_region_held_drew (S := (fun w' => (∃ p, RdAt w' g A len cap p) ∧ w.grownBy w' (some g) ∧ w'.heap[w.heap.size]? = some (.cells #[.slice none 0 0, .slice none 0 0] 26 (0, 0)) ∧ w'.heap[w.heap.size + 1]? = some (.cells #[.slice (some ⟨qq, 0, none⟩) n1 c1, .slice A2 n2 c2] 26 (0, 0)) ∧ qq < w'.heap.size)) (by kernel_rfl) ?hSm1 (fun hHeld => ?restm1)
          case hSm1 => exact ⟨⟨_, hr⟩, only_drew hG, k0, k1, hlq⟩
          replace TR : TwoRows v2.drew _ _ _ _ _ _ _ := TR.drew
          replace hr : RdAt v2.drew _ _ _ _ _ := hr
          replace hG : w.grownBy v2.drew _ := only_drew hG
          replace k0 : v2.drew.heap[w.heap.size]? = _ := k0
          replace k1 : v2.drew.heap[w.heap.size + 1]? = _ := k1
          replace hlq : qq < v2.drew.heap.size := hlq
          generalize v2.drew = vd at *
          refine wpAnyH_take (i := 0) (oi := ?oim1a) (v := ?vm1a) ?him1a (by kernel_rfl) (by kernel_rfl) (by kernel_rfl) ?hQm1a (Or.inl ⟨?hwm1a, ?hym1a⟩) (by assumption) ?restm1a
          case him1a => simp only [Dqa, Dqb, Dqc]; exact rfl
          case hQm1a => exact fun _ _ _ h => h
          case hwm1a => rfl
          case hym1a => ((intro w hSw; (try dsimp only at hSw); go_simp) <;> with_reducible rfl)
          try simp only [Act.put, Dqd, Dqe, Dqf]
          refine wpAnyH_take (i := 1) (oi := ?oim1b) (v := ?vm1b) ?him1b (by kernel_rfl) (by kernel_rfl) (by kernel_rfl) ?hQm1b (Or.inl ⟨?hwm1b, ?hym1b⟩) (by assumption) ?restm1b
          case him1b => simp only [Dqa, Dqb, Dqc]; exact rfl
          case hQm1b => exact fun _ _ _ h => h
          case hwm1b => rfl
          case hym1b => ((intro w hSw; obtain ⟨_, _, _, hbx, _⟩ := hSw; obtain ⟨x0', x1'⟩ := cell2 hbx; go_simp) <;> with_reducible rfl)
          try simp only [Act.put, Dqd, Dqe, Dqf]
          refine wpAnyH_take (i := 2) (oi := ?oim1c) (v := ?vm1c) ?him1c (by kernel_rfl) (by kernel_rfl) (by kernel_rfl) ?hQm1c (Or.inl ⟨?hwm1c, ?hym1c⟩) (by assumption) ?restm1c
          case him1c => simp only [Dqa, Dqb, Dqc]; exact rfl
          case hQm1c => exact fun _ _ _ h => h
          case hwm1c => rfl
          case hym1c => ((intro w hSw; (try dsimp only at hSw); go_simp) <;> with_reducible rfl)
          try simp only [Act.put, Dqd, Dqe, Dqf]
          refine wpAnyH_ready (rs := [3]) (by kernel_rfl) (by simp) ?_
          refine AllReadyH.cons (o := ?om1) ?hom1 (fun K hK => ?stepm1) AllReadyH.nil
          case hom1 => simp only [Dqa, Dqb, Dqc]; exact rfl
          go_simp
          refine (off_any 97 103 g A len cap _ _ hr (hs.keep hG (Nat.le_of_lt hlt)) hl (by omega) (by omega) (by omega)).mono ?_
          rintro e v3 ⟨y', p3, _, rfl, hr', hg'⟩
          replace hlq := Nat.lt_of_lt_of_le hlq hg'.size
          replace k0 := (hg'.block w.heap.size (heap_lt' k0) (fun e => by injection e with e; omega)).trans k0
          replace k1 := (hg'.block (w.heap.size + 1) (heap_lt' k1) (fun e => by injection e with e; omega)).trans k1
          replace TR := TR.kept hg' (by omega)
          replace hG := only_trans hG hg'
          replace hr := hr'
          clear hr' hg'
          refine hK.out _ _ ?hSn1 (fun hHeld => ?restn1)
          case hSn1 => exact ⟨⟨_, hr⟩, hG, k0, k1, hlq⟩
          clear hK K
          try simp only [Act.put, Dqd, Dqe, Dqf]
          refine wpAnyH_take (i := 4) (oi := ?oim1d) (v := ?vm1d) ?him1d (by kernel_rfl) (by kernel_rfl) (by kernel_rfl) ?hQm1d (Or.inl ⟨?hwm1d, ?hym1d⟩) (by assumption) ?restm1d
          case him1d => simp only [Dqa, Dqb, Dqc]; exact rfl
          case hQm1d => exact fun _ _ _ h => h
          case hwm1d => rfl
          case hym1d => ((intro w hSw; (try dsimp only at hSw); go_simp) <;> with_reducible rfl)
          try simp only [Act.put, Dqd, Dqe, Dqf]
          refine wpAnyH_take (i := 5) (oi := ?oim1e) (v := ?vm1e) ?him1e (by kernel_rfl) (by kernel_rfl) (by kernel_rfl) ?hQm1e (Or.inl ⟨?hwm1e, ?hym1e⟩) (by assumption) ?restm1e
          case him1e => simp only [Dqa, Dqb, Dqc]; exact rfl
          case hQm1e => exact fun _ _ _ h => h
          case hwm1e => rfl
          case hym1e => ((intro w hSw; (try dsimp only at hSw); go_simp) <;> with_reducible rfl)
          try simp only [Act.put, Dqd, Dqe, Dqf]
          obtain ⟨x0, x1⟩ := own_free TR.one 2 (by omega)
          refine wpAnyH_ready (rs := [6]) (by kernel_rfl) (by simp) ?_
          refine AllReadyH.cons (o := ?op1) ?hop1 (fun K hK => ?stepp1) AllReadyH.nil
          case hop1 => simp only [Dqa, Dqb, Dqc]; exact rfl
          go_simp
          replace TR : TwoRows (v3.setCell ⟨qq, 2, none⟩ (.int .i64 y')) _ _ _ (z1.set 2 y') _ _ z2 := ⟨own_put TR.one 2 y', own_apart TR.two (set_grown _ _ _ _) (fun _ hk e => hne (hk.trans e.symm)), TR.apart⟩
          replace hr : RdAt (v3.setCell ⟨qq, 2, none⟩ (.int .i64 y')) g A len cap p3 := ⟨hr.1, (Below.heap_setCell v3 ⟨qq, 2, none⟩ (.int .i64 y') g (show g ≠ qq by omega)).trans hr.2⟩
          replace k0 := (Below.heap_setCell v3 ⟨qq, 2, none⟩ (.int .i64 y') w.heap.size (show w.heap.size ≠ qq by omega)).trans k0
          replace k1 := (Below.heap_setCell v3 ⟨qq, 2, none⟩ (.int .i64 y') (w.heap.size + 1) (show (w.heap.size + 1) ≠ qq by omega)).trans k1
          replace hG := only_setCell hG (p := ⟨qq, 2, none⟩) (.inr (show w.heap.size ≤ qq by omega)) (.int .i64 y')
          refine hK.out _ _ ?hSp1 (fun hHeld => ?restp1)
          case hSp1 => exact ⟨⟨_, hr⟩, hG, k0, k1, by simpa [World.setCell] using hlq⟩
          clear hK K hHeld x0 x1
          try simp only [Act.put, Dqd, Dqe, Dqf]
          refine wpAnyH_done (by kernel_rfl) ?_ _
          generalize (v3.setCell ⟨qq, 2, none⟩ (.int .i64 y')) = v4 at *
          obtain ⟨u0, u1⟩ := cell2 k1
          obtain ⟨q0, q1⟩ := cell2 k0
          obtain ⟨f0, f1⟩ := free2 k0
          have K0 := Lib.hid k0
          have RR := Lib.hid hr
          have RB := Lib.hid hG
          have HTR := Lib.hid TR
          clear k0 k1 hr hG TR
          go_wp2_with fail
          have r0 := heap_set1 (u := .slice A2 n2 c2) (heap_set0 (u := .slice (some ⟨qq, 0, none⟩) n1 c1) K0.out)
          obtain ⟨e0, e1⟩ := cell2 r0
          refine bodyPost_ret (v := .agg #[.slice (some ⟨qq, 0, none⟩) n1 c1, .slice A2 n2 c2]) (by simp [results, Try.results28, go_sem, e0, e1]) rfl ⟨_, n1, (z1.set 2 y'), _, n2, z2, p3, rfl, hn1, hn2, ?_, ?_, ?_⟩
          · exact ((HTR.out.kept (set_grown _ w.heap.size 0 _) (by omega)).kept (set_grown _ w.heap.size 1 _) (by omega)).mono (by omega)
          · exact ⟨RR.out.1, (Below.heap_setCell _ ⟨w.heap.size, 1, none⟩ _ g (show g ≠ w.heap.size by omega)).trans ((Below.heap_setCell _ ⟨w.heap.size, 0, none⟩ _ g (show g ≠ w.heap.size by omega)).trans RR.out.2)⟩
          · exact only_setCell (only_setCell RB.out (p := ⟨w.heap.size, 0, none⟩) (.inr (Nat.le_refl _)) _) (p := ⟨w.heap.size, 1, none⟩) (.inr (Nat.le_refl _)) _
      · rcases Nat.eq_zero_or_pos n2 with hz | hpos
        · subst hz
          obtain ⟨u0, u1⟩ := cell2 k1
          obtain ⟨q0, q1⟩ := cell2 k0
          obtain ⟨f0, f1⟩ := free2 k0
          have K0 := Lib.hid k0
          have RR := Lib.hid hr
          have RB := Lib.hid hG
          have HTR := Lib.hid TR
          clear k0 k1 hr hG TR
          go_wp2_with fail
          have r0 := heap_set1 (u := .slice A2 0 c2) (heap_set0 (u := .slice A1 n1 c1) K0.out)
          obtain ⟨e0, e1⟩ := cell2 r0
          refine bodyPost_ret (v := .agg #[.slice A1 n1 c1, .slice A2 0 c2]) (by simp [results, Try.results28, go_sem, e0, e1]) rfl ⟨_, n1, z1, _, 0, z2, p2, rfl, hn1, hn2, ?_, ?_, ?_⟩
          · exact ((HTR.out.kept (set_grown _ w.heap.size 0 _) (by omega)).kept (set_grown _ w.heap.size 1 _) (by omega)).mono (by omega)
          · exact ⟨RR.out.1, (Below.heap_setCell _ ⟨w.heap.size, 1, none⟩ _ g (show g ≠ w.heap.size by omega)).trans ((Below.heap_setCell _ ⟨w.heap.size, 0, none⟩ _ g (show g ≠ w.heap.size by omega)).trans RR.out.2)⟩
          · exact only_setCell (only_setCell RB.out (p := ⟨w.heap.size, 0, none⟩) (.inr (Nat.le_refl _)) _) (p := ⟨w.heap.size, 1, none⟩) (.inr (Nat.le_refl _)) _
        · obtain ⟨qq, cc, hv, hbq, hlq⟩ := TR.two.form hpos
          injection hv with e1 _ e3
          subst e1 e3
          have hne : (Value.slice A1 n1 c1).ownBlock ≠ some qq := fun h => TR.apart qq h rfl
          obtain ⟨u0, u1⟩ := cell2 k1
          have t3 : (0 : Int) < (n2 : Int) := by omega
          go_upto_region 18 with fail
          clear u0 u1
          refine wp_region_held_drew (S := (fun w' => (∃ p, RdAt w' g A len cap p) ∧ w.grownBy w' (some g) ∧ w'.heap[w.heap.size]? = some (.cells #[.slice none 0 0, .slice none 0 0] 26 (0, 0)) ∧ w'.heap[w.heap.size + 1]? = some (.cells #[.slice A1 n1 c1, .slice (some ⟨qq, 0, none⟩) n2 c2] 26 (0, 0)) ∧ qq < w'.heap.size)) (by kernel_rfl) ?hSm2 (fun hHeld => ?restm2)
          case hSm2 => exact ⟨⟨_, hr⟩, only_drew hG, k0, k1, hlq⟩
          replace TR : TwoRows v2.drew _ _ _ _ _ _ _ := TR.drew
          replace hr : RdAt v2.drew _ _ _ _ _ := hr
          replace hG : w.grownBy v2.drew _ := only_drew hG
          replace k0 : v2.drew.heap[w.heap.size]? = _ := k0
          replace k1 : v2.drew.heap[w.heap.size + 1]? = _ := k1
          replace hlq : qq < v2.drew.heap.size := hlq
          generalize v2.drew = vd at *
          refine wpAnyH_take (i := 0) (oi := ?oim2a) (v := ?vm2a) ?him2a (by kernel_rfl) (by kernel_rfl) (by kernel_rfl) ?hQm2a (Or.inl ⟨?hwm2a, ?hym2a⟩) (by assumption) ?restm2a
          case him2a => simp only [Dqa, Dqb, Dqc]; exact rfl
          case hQm2a => exact fun _ _ _ h => h
          case hwm2a => rfl
          case hym2a => ((intro w hSw; (try dsimp only at hSw); go_simp) <;> with_reducible rfl)
          try simp only [Act.put, Dqd, Dqe, Dqf]
          refine wpAnyH_take (i := 1) (oi := ?oim2b) (v := ?vm2b) ?him2b (by kernel_rfl) (by kernel_rfl) (by kernel_rfl) ?hQm2b (Or.inl ⟨?hwm2b, ?hym2b⟩) (by assumption) ?restm2b
          case him2b => simp only [Dqa, Dqb, Dqc]; exact rfl
          case hQm2b => exact fun _ _ _ h => h
          case hwm2b => rfl
          case hym2b => ((intro w hSw; obtain ⟨_, _, _, hbx, _⟩ := hSw; obtain ⟨x0', x1'⟩ := cell2 hbx; go_simp) <;> with_reducible rfl)
          try simp only [Act.put, Dqd, Dqe, Dqf]
          refine wpAnyH_take (i := 2) (oi := ?oim2c) (v := ?vm2c) ?him2c (by kernel_rfl) (by kernel_rfl) (by kernel_rfl) ?hQm2c (Or.inl ⟨?hwm2c, ?hym2c⟩) (by assumption) ?restm2c
          case him2c => simp only [Dqa, Dqb, Dqc]; exact rfl
          case hQm2c => exact fun _ _ _ h => h
          case hwm2c => rfl
          case hym2c => ((intro w hSw; (try dsimp only at hSw); go_simp) <;> with_reducible rfl)
          try simp only [Act.put, Dqd, Dqe, Dqf]
          refine wpAnyH_ready (rs := [3]) (by kernel_rfl) (by simp) ?_
          refine AllReadyH.cons (o := ?om2) ?hom2 (fun K hK => ?stepm2) AllReadyH.nil
          case hom2 => simp only [Dqa, Dqb, Dqc]; exact rfl
          go_simp
          refine (off_any 1 14 g A len cap _ _ hr (hs.keep hG (Nat.le_of_lt hlt)) hl (by omega) (by omega) (by omega)).mono ?_
          rintro e v3 ⟨y', p3, _, rfl, hr', hg'⟩
          replace hlq := Nat.lt_of_lt_of_le hlq hg'.size
          replace k0 := (hg'.block w.heap.size (heap_lt' k0) (fun e => by injection e with e; omega)).trans k0
          replace k1 := (hg'.block (w.heap.size + 1) (heap_lt' k1) (fun e => by injection e with e; omega)).trans k1
          replace TR := TR.kept hg' (by omega)
          replace hG := only_trans hG hg'
          replace hr := hr'
          clear hr' hg'
          refine hK.out _ _ ?hSn2 (fun hHeld => ?restn2)
          case hSn2 => exact ⟨⟨_, hr⟩, hG, k0, k1, hlq⟩
          clear hK K
          try simp only [Act.put, Dqd, Dqe, Dqf]
          refine wpAnyH_take (i := 4) (oi := ?oim2d) (v := ?vm2d) ?him2d (by kernel_rfl) (by kernel_rfl) (by kernel_rfl) ?hQm2d (Or.inl ⟨?hwm2d, ?hym2d⟩) (by assumption) ?restm2d
          case him2d => simp only [Dqa, Dqb, Dqc]; exact rfl
          case hQm2d => exact fun _ _ _ h => h
          case hwm2d => rfl
          case hym2d => ((intro w hSw; (try dsimp only at hSw); go_simp) <;> with_reducible rfl)
          try simp only [Act.put, Dqd, Dqe, Dqf]
          refine wpAnyH_take (i := 5) (oi := ?oim2e) (v := ?vm2e) ?him2e (by kernel_rfl) (by kernel_rfl) (by kernel_rfl) ?hQm2e (Or.inl ⟨?hwm2e, ?hym2e⟩) (by assumption) ?restm2e
          case him2e => simp only [Dqa, Dqb, Dqc]; exact rfl
          case hQm2e => exact fun _ _ _ h => h
          case hwm2e => rfl
          case hym2e => ((intro w hSw; (try dsimp only at hSw); go_simp) <;> with_reducible rfl)
          try simp only [Act.put, Dqd, Dqe, Dqf]
          obtain ⟨x0, x1⟩ := own_free TR.two 0 (by omega)
          refine wpAnyH_ready (rs := [6]) (by kernel_rfl) (by simp) ?_
          refine AllReadyH.cons (o := ?op2) ?hop2 (fun K hK => ?stepp2) AllReadyH.nil
          case hop2 => simp only [Dqa, Dqb, Dqc]; exact rfl
          go_simp
          replace TR : TwoRows (v3.setCell ⟨qq, 0, none⟩ (.int .i64 y')) _ _ _ z1 _ _ (z2.set 0 y') := ⟨own_apart TR.one (set_grown _ _ _ _) (fun _ hk e => hne (hk.trans e.symm)), own_put TR.two 0 y', TR.apart⟩
          replace hr : RdAt (v3.setCell ⟨qq, 0, none⟩ (.int .i64 y')) g A len cap p3 := ⟨hr.1, (Below.heap_setCell v3 ⟨qq, 0, none⟩ (.int .i64 y') g (show g ≠ qq by omega)).trans hr.2⟩
          replace k0 := (Below.heap_setCell v3 ⟨qq, 0, none⟩ (.int .i64 y') w.heap.size (show w.heap.size ≠ qq by omega)).trans k0
          replace k1 := (Below.heap_setCell v3 ⟨qq, 0, none⟩ (.int .i64 y') (w.heap.size + 1) (show (w.heap.size + 1) ≠ qq by omega)).trans k1
          replace hG := only_setCell hG (p := ⟨qq, 0, none⟩) (.inr (show w.heap.size ≤ qq by omega)) (.int .i64 y')
          refine hK.out _ _ ?hSp2 (fun hHeld => ?restp2)
          case hSp2 => exact ⟨⟨_, hr⟩, hG, k0, k1, by simpa [World.setCell] using hlq⟩
          clear hK K hHeld x0 x1
          try simp only [Act.put, Dqd, Dqe, Dqf]
          refine wpAnyH_done (by kernel_rfl) ?_ _
          generalize (v3.setCell ⟨qq, 0, none⟩ (.int .i64 y')) = v4 at *
          obtain ⟨u0, u1⟩ := cell2 k1
          obtain ⟨q0, q1⟩ := cell2 k0
          obtain ⟨f0, f1⟩ := free2 k0
          have K0 := Lib.hid k0
          have RR := Lib.hid hr
          have RB := Lib.hid hG
          have HTR := Lib.hid TR
          clear k0 k1 hr hG TR
          go_wp2_with fail
          have r0 := heap_set1 (u := .slice (some ⟨qq, 0, none⟩) n2 c2) (heap_set0 (u := .slice A1 n1 c1) K0.out)
          obtain ⟨e0, e1⟩ := cell2 r0
          refine bodyPost_ret (v := .agg #[.slice A1 n1 c1, .slice (some ⟨qq, 0, none⟩) n2 c2]) (by simp [results, Try.results28, go_sem, e0, e1]) rfl ⟨_, n1, z1, _, n2, (z2.set 0 y'), p3, rfl, hn1, hn2, ?_, ?_, ?_⟩
          · exact ((HTR.out.kept (set_grown _ w.heap.size 0 _) (by omega)).kept (set_grown _ w.heap.size 1 _) (by omega)).mono (by omega)
          · exact ⟨RR.out.1, (Below.heap_setCell _ ⟨w.heap.size, 1, none⟩ _ g (show g ≠ w.heap.size by omega)).trans ((Below.heap_setCell _ ⟨w.heap.size, 0, none⟩ _ g (show g ≠ w.heap.size by omega)).trans RR.out.2)⟩
          · exact only_setCell (only_setCell RB.out (p := ⟨w.heap.size, 0, none⟩) (.inr (Nat.le_refl _)) _) (p := ⟨w.heap.size, 1, none⟩) (.inr (Nat.le_refl _)) _
      · have t28 : (y == 28) = false := beq_eq_false_iff_ne.2 h28
        have t29 : (y == 29) = false := beq_eq_false_iff_ne.2 h29
        obtain ⟨u0, u1⟩ := cell2 k1
        obtain ⟨q0, q1⟩ := cell2 k0
        obtain ⟨f0, f1⟩ := free2 k0
        have K0 := Lib.hid k0
        have RR := Lib.hid hr
        have RB := Lib.hid hG
        have HTR := Lib.hid TR
        clear k0 k1 hr hG TR
        go_wp2_with fail
        have r0 := heap_set1 (u := .slice A2 n2 c2) (heap_set0 (u := .slice A1 n1 c1) K0.out)
        obtain ⟨e0, e1⟩ := cell2 r0
        refine bodyPost_ret (v := .agg #[.slice A1 n1 c1, .slice A2 n2 c2]) (by simp [results, Try.results28, go_sem, e0, e1]) rfl ⟨_, n1, z1, _, n2, z2, p2, rfl, hn1, hn2, ?_, ?_, ?_⟩
        · exact ((HTR.out.kept (set_grown _ w.heap.size 0 _) (by omega)).kept (set_grown _ w.heap.size 1 _) (by omega)).mono (by omega)
        · exact ⟨RR.out.1, (Below.heap_setCell _ ⟨w.heap.size, 1, none⟩ _ g (show g ≠ w.heap.size by omega)).trans ((Below.heap_setCell _ ⟨w.heap.size, 0, none⟩ _ g (show g ≠ w.heap.size by omega)).trans RR.out.2)⟩
        · exact only_setCell (only_setCell RB.out (p := ⟨w.heap.size, 0, none⟩) (.inr (Nat.le_refl _)) _) (p := ⟨w.heap.size, 1, none⟩) (.inr (Nat.le_refl _)) _
    · go_wp2_with fail
      refine (below_any 2 g A len cap _ _ hr (hs.keep hG (Nat.le_of_lt hlt)) hl (by omega) (by omega)).mono ?_
      rintro e v2 ⟨x, p2, x0, x1, rfl, hr', hg'⟩
      replace k0 := (hg'.block w.heap.size (heap_lt' k0) (fun e => by injection e with e; omega)).trans k0
      replace k1 := (hg'.block (w.heap.size + 1) (heap_lt' k1) (fun e => by injection e with e; omega)).trans k1
      replace TR := TR.kept hg' (by omega)
      replace hG := only_trans hG hg'
      replace hr := hr'
      clear hr' hg'
      go_wp2_with fail
      refine (order_any g A len cap _ _ hr (hs.keep hG (Nat.le_of_lt hlt)) hl).mono ?_
      rintro e v3 ⟨a, b, c, d, p3, rfl, hr', hg'⟩
      replace k0 := (hg'.block w.heap.size (heap_lt' k0) (fun e => by injection e with e; omega)).trans k0
      replace k1 := (hg'.block (w.heap.size + 1) (heap_lt' k1) (fun e => by injection e with e; omega)).trans k1
      replace TR := TR.kept hg' (by omega)
      replace hG := only_trans hG hg'
      replace hr := hr'
      clear hr' hg'
      have HSZ : w.heap.size + 1 < v3.heap.size := heap_lt' k1
      have TR3 := TR
      have kO := heap_alloc_new v3 (.cells #[.int .i64 a, .int .i64 b, .int .i64 c, .int .i64 d] 28)
      replace k0 := (Below.heap_alloc v3 (.cells #[.int .i64 a, .int .i64 b, .int .i64 c, .int .i64 d] 28) w.heap.size (heap_lt' k0)).trans k0
      replace k1 := (Below.heap_alloc v3 (.cells #[.int .i64 a, .int .i64 b, .int .i64 c, .int .i64 d] 28) (w.heap.size + 1) (heap_lt' k1)).trans k1
      replace TR := TR.alloc (.cells #[.int .i64 a, .int .i64 b, .int .i64 c, .int .i64 d] 28)
      replace hG := only_alloc hG (.cells #[.int .i64 a, .int .i64 b, .int .i64 c, .int .i64 d] 28)
      replace hr := hr.alloc (.cells #[.int .i64 a, .int .i64 b, .int .i64 c, .int .i64 d] 28)
      go_wp2_with fail
      have hGO : w.heap.size + 1 < v3.heap.size := HSZ
      have hOw1 : (Value.slice A1 n1 c1).ownBlock ≠ some v3.heap.size := fun e => by have := (TR3.one.lt _ e).2; omega
      have hOw2 : (Value.slice A2 n2 c2).ownBlock ≠ some v3.heap.size := fun e => by have := (TR3.two.lt _ e).2; omega
      clear TR3
      generalize v3.alloc (.cells #[.int .i64 a, .int .i64 b, .int .i64 c, .int .i64 d] 28) = v3' at *
      generalize v3.heap.size = GO at *
      refine (once_any 2 g A len cap _ _ hr (hs.keep hG (Nat.le_of_lt hlt)) hl (by omega) (by omega)).mono ?_
      rintro e v4 ⟨bb, p4, rfl, hr', hg'⟩
      replace k0 := (hg'.block w.heap.size (heap_lt' k0) (fun e => by injection e with e; omega)).trans k0
      replace k1 := (hg'.block (w.heap.size + 1) (heap_lt' k1) (fun e => by injection e with e; omega)).trans k1
      replace TR := TR.kept hg' (by omega)
      replace kO := (hg'.block GO (heap_lt' kO) (fun e => by injection e with e; omega)).trans kO
      replace hG := only_trans hG hg'
      replace hr := hr'
      clear hr' hg'
      rcases bb with _ | _
      · skip
        obtain ⟨y0, y1⟩ := cell2 k1
        obtain ⟨c0, c1', c2', c3', _, _, _, _⟩ := ord_cell kO
        go_wp2_with fail
        refine (spec_RestedO A1 n1 c1 A2 n2 c2 z1 z2 (1 + x) a b c d v4 TR.bookIn.1 TR.bookIn.2 (by omega) (by omega) (own_nil TR.one) (own_nil TR.two) (own_cap TR.one) (own_cap TR.two)).mono ?_
        rintro e v5 ⟨⟨r1, r2, rfl, TN⟩, hb5⟩
        clear y0 y1 c0 c1' c2' c3' kO
        have hB0 : w.heap.size + 2 ≤ v4.heap.size := Nat.succ_le_of_lt (heap_lt' k1)
        replace k0 := (hb5.block _ (heap_lt' k0)).trans k0
        replace k1 := (hb5.block _ (heap_lt' k1)).trans k1
        replace TR := TR.below hb5
        replace hG := only_below hG hb5
        replace hr := hr.below hb5
        clear hb5
        replace TN := TN.mono hB0
        clear hB0
        skip
        obtain ⟨HN1, HN2⟩ := rest_small (side := 1 + x) (oi := a) (oa := b) (op := c) (oq := d) (za := z1) (zb := z2) (n := n1) (m := n2)
        generalize restOk (1 + x) a b c d z1 n1 z2 n2 = ok at *
        generalize onN ok (restN1 _ _) = N1 at *
        generalize onN ok (restN2 _ _) = N2 at *
        generalize onZ ok (rest1 _ _ _ _ _) = Z1 at *
        generalize onZ ok (rest2 _ _ _ _ _) = Z2 at *
        obtain ⟨B1, e1, B2, e2, rfl, rfl⟩ := TN.slices
        have kN := heap_alloc_new v5 (.cells #[.slice B1 N1 e1, .slice B2 N2 e2] 26)
        have hNz : w.heap.size + 1 < v5.heap.size := heap_lt' k1
        replace k0 := (Below.heap_alloc v5 (.cells #[.slice B1 N1 e1, .slice B2 N2 e2] 26) w.heap.size (heap_lt' k0)).trans k0
        replace k1 := (Below.heap_alloc v5 (.cells #[.slice B1 N1 e1, .slice B2 N2 e2] 26) (w.heap.size + 1) (heap_lt' k1)).trans k1
        replace TR := TR.alloc (.cells #[.slice B1 N1 e1, .slice B2 N2 e2] 26)
        replace hG := only_alloc hG (.cells #[.slice B1 N1 e1, .slice B2 N2 e2] 26)
        replace hr := hr.alloc (.cells #[.slice B1 N1 e1, .slice B2 N2 e2] 26)
        replace TN := TN.alloc (.cells #[.slice B1 N1 e1, .slice B2 N2 e2] 26)
        rcases ok with _ | _
        · go_wp2_with fail
          go_roundw
          case rel => exact ⟨k, _, by omega, by go_num, hr, hG, k0, _, n1, z1, _, n2, z2, k1, hn1, hn2, TR⟩
          case measure => simp [intOf]
        · obtain ⟨y0, y1⟩ := cell2 kN
          obtain ⟨u0, u1⟩ := cell2 k1
          obtain ⟨f0, f1⟩ := free2 k1
          go_upto_region 11 with fail
          generalize v5.alloc (.cells #[.slice B1 N1 e1, .slice B2 N2 e2] 26) = v6 at *
          go_wp2_with fail
          go_roundw
          case rel => exact ⟨k, _, by omega, by go_num, ⟨hr.1, (Below.heap_setCell _ ⟨w.heap.size + 1, 1, none⟩ _ g (show g ≠ w.heap.size + 1 by omega)).trans ((Below.heap_setCell _ ⟨w.heap.size + 1, 0, none⟩ _ g (show g ≠ w.heap.size + 1 by omega)).trans hr.2)⟩, only_setCell (only_setCell hG (p := ⟨w.heap.size + 1, 0, none⟩) (.inr (show w.heap.size ≤ w.heap.size + 1 by omega)) _) (p := ⟨w.heap.size + 1, 1, none⟩) (.inr (show w.heap.size ≤ w.heap.size + 1 by omega)) _, (Below.heap_setCell _ ⟨w.heap.size + 1, 1, none⟩ _ w.heap.size (show w.heap.size ≠ w.heap.size + 1 by omega)).trans ((Below.heap_setCell _ ⟨w.heap.size + 1, 0, none⟩ _ w.heap.size (show w.heap.size ≠ w.heap.size + 1 by omega)).trans k0), _, N1, Z1, _, N2, Z2, heap_set1 (heap_set0 k1), HN1, HN2, (TN.kept (set_grown v6 (w.heap.size + 1) 0 _) (by omega)).kept (set_grown _ (w.heap.size + 1) 1 _) (by omega)⟩
          case measure => simp [intOf]
      · rcases (show x = 0 ∨ x = 1 by omega) with rfl | rfl
        · have kB := heap_alloc_new v4 (.cells #[.int .i64 98, .int .i64 102] 2)
          replace k0 := (Below.heap_alloc v4 (.cells #[.int .i64 98, .int .i64 102] 2) w.heap.size (heap_lt' k0)).trans k0
          replace k1 := (Below.heap_alloc v4 (.cells #[.int .i64 98, .int .i64 102] 2) (w.heap.size + 1) (heap_lt' k1)).trans k1
          replace kO := (Below.heap_alloc v4 (.cells #[.int .i64 98, .int .i64 102] 2) GO (heap_lt' kO)).trans kO
          replace TR := TR.alloc (.cells #[.int .i64 98, .int .i64 102] 2)
          replace hG := only_alloc hG (.cells #[.int .i64 98, .int .i64 102] 2)
          replace hr := hr.alloc (.cells #[.int .i64 98, .int .i64 102] 2)
          obtain ⟨b0, b1⟩ := cell2 kB
          obtain ⟨c0, c1', c2', c3', f0, f1, f2, f3⟩ := ord_cell kO
          go_upto_region 9 with fail
          clear c0 c1' c2' c3' f0 f1 f2 f3 b0 b1 kB
          replace kO := ord_set kO 2 (.int .i64 98)
          simp only [List.setIfInBounds_toArray, List.set_cons_zero, List.set_cons_succ] at kO
          replace k0 := (Below.heap_setCell (v4.alloc (.cells #[.int .i64 98, .int .i64 102] 2)) ⟨GO, 2, none⟩ (.int .i64 98) w.heap.size (show w.heap.size ≠ GO by omega)).trans k0
          replace k1 := (Below.heap_setCell (v4.alloc (.cells #[.int .i64 98, .int .i64 102] 2)) ⟨GO, 2, none⟩ (.int .i64 98) (w.heap.size + 1) (show w.heap.size + 1 ≠ GO by omega)).trans k1
          replace hG := only_setCell hG (p := ⟨GO, 2, none⟩) (.inr (show w.heap.size ≤ GO by omega)) (.int .i64 98)
          replace hr : RdAt ((v4.alloc (.cells #[.int .i64 98, .int .i64 102] 2)).setCell ⟨GO, 2, none⟩ (.int .i64 98)) g A len cap p4 := ⟨hr.1, (Below.heap_setCell (v4.alloc (.cells #[.int .i64 98, .int .i64 102] 2)) ⟨GO, 2, none⟩ (.int .i64 98) g (show g ≠ GO by omega)).trans hr.2⟩
          replace TR := TR.put (set_grown (v4.alloc (.cells #[.int .i64 98, .int .i64 102] 2)) GO 2 (.int .i64 98)) hOw1 hOw2
          generalize (v4.alloc (.cells #[.int .i64 98, .int .i64 102] 2)).setCell ⟨GO, 2, none⟩ (.int .i64 98) = v5' at *
          obtain ⟨y0, y1⟩ := cell2 k1
          obtain ⟨c0, c1', c2', c3', _, _, _, _⟩ := ord_cell kO
          go_wp2_with fail
          refine (spec_RestedO A1 n1 c1 A2 n2 c2 z1 z2 (1) a b 98 d v5' TR.bookIn.1 TR.bookIn.2 (by omega) (by omega) (own_nil TR.one) (own_nil TR.two) (own_cap TR.one) (own_cap TR.two)).mono ?_
          rintro e v5 ⟨⟨r1, r2, rfl, TN⟩, hb5⟩
          clear y0 y1 c0 c1' c2' c3' kO
          have hB0 : w.heap.size + 2 ≤ v5'.heap.size := Nat.succ_le_of_lt (heap_lt' k1)
          replace k0 := (hb5.block _ (heap_lt' k0)).trans k0
          replace k1 := (hb5.block _ (heap_lt' k1)).trans k1
          replace TR := TR.below hb5
          replace hG := only_below hG hb5
          replace hr := hr.below hb5
          clear hb5
          replace TN := TN.mono hB0
          clear hB0
          skip
          obtain ⟨HN1, HN2⟩ := rest_small (side := 1) (oi := a) (oa := b) (op := 98) (oq := d) (za := z1) (zb := z2) (n := n1) (m := n2)
          generalize restOk (1) a b 98 d z1 n1 z2 n2 = ok at *
          generalize onN ok (restN1 _ _) = N1 at *
          generalize onN ok (restN2 _ _) = N2 at *
          generalize onZ ok (rest1 _ _ _ _ _) = Z1 at *
          generalize onZ ok (rest2 _ _ _ _ _) = Z2 at *
          obtain ⟨B1, e1, B2, e2, rfl, rfl⟩ := TN.slices
          have kN := heap_alloc_new v5 (.cells #[.slice B1 N1 e1, .slice B2 N2 e2] 26)
          have hNz : w.heap.size + 1 < v5.heap.size := heap_lt' k1
          replace k0 := (Below.heap_alloc v5 (.cells #[.slice B1 N1 e1, .slice B2 N2 e2] 26) w.heap.size (heap_lt' k0)).trans k0
          replace k1 := (Below.heap_alloc v5 (.cells #[.slice B1 N1 e1, .slice B2 N2 e2] 26) (w.heap.size + 1) (heap_lt' k1)).trans k1
          replace TR := TR.alloc (.cells #[.slice B1 N1 e1, .slice B2 N2 e2] 26)
          replace hG := only_alloc hG (.cells #[.slice B1 N1 e1, .slice B2 N2 e2] 26)
          replace hr := hr.alloc (.cells #[.slice B1 N1 e1, .slice B2 N2 e2] 26)
          replace TN := TN.alloc (.cells #[.slice B1 N1 e1, .slice B2 N2 e2] 26)
          rcases ok with _ | _
          · go_wp2_with fail
            go_roundw
            case rel => exact ⟨k, _, by omega, by go_num, hr, hG, k0, _, n1, z1, _, n2, z2, k1, hn1, hn2, TR⟩
            case measure => simp [intOf]
          · obtain ⟨y0, y1⟩ := cell2 kN
            obtain ⟨u0, u1⟩ := cell2 k1
            obtain ⟨f0, f1⟩ := free2 k1
            go_upto_region 11 with fail
            generalize v5.alloc (.cells #[.slice B1 N1 e1, .slice B2 N2 e2] 26) = v6 at *
            go_wp2_with fail
            go_roundw
            case rel => exact ⟨k, _, by omega, by go_num, ⟨hr.1, (Below.heap_setCell _ ⟨w.heap.size + 1, 1, none⟩ _ g (show g ≠ w.heap.size + 1 by omega)).trans ((Below.heap_setCell _ ⟨w.heap.size + 1, 0, none⟩ _ g (show g ≠ w.heap.size + 1 by omega)).trans hr.2)⟩, only_setCell (only_setCell hG (p := ⟨w.heap.size + 1, 0, none⟩) (.inr (show w.heap.size ≤ w.heap.size + 1 by omega)) _) (p := ⟨w.heap.size + 1, 1, none⟩) (.inr (show w.heap.size ≤ w.heap.size + 1 by omega)) _, (Below.heap_setCell _ ⟨w.heap.size + 1, 1, none⟩ _ w.heap.size (show w.heap.size ≠ w.heap.size + 1 by omega)).trans ((Below.heap_setCell _ ⟨w.heap.size + 1, 0, none⟩ _ w.heap.size (show w.heap.size ≠ w.heap.size + 1 by omega)).trans k0), _, N1, Z1, _, N2, Z2, heap_set1 (heap_set0 k1), HN1, HN2, (TN.kept (set_grown v6 (w.heap.size + 1) 0 _) (by omega)).kept (set_grown _ (w.heap.size + 1) 1 _) (by omega)⟩
            case measure => simp [intOf]
        · have kB := heap_alloc_new v4 (.cells #[.int .i64 98, .int .i64 102] 2)
          replace k0 := (Below.heap_alloc v4 (.cells #[.int .i64 98, .int .i64 102] 2) w.heap.size (heap_lt' k0)).trans k0
          replace k1 := (Below.heap_alloc v4 (.cells #[.int .i64 98, .int .i64 102] 2) (w.heap.size + 1) (heap_lt' k1)).trans k1
          replace kO := (Below.heap_alloc v4 (.cells #[.int .i64 98, .int .i64 102] 2) GO (heap_lt' kO)).trans kO
          replace TR := TR.alloc (.cells #[.int .i64 98, .int .i64 102] 2)
          replace hG := only_alloc hG (.cells #[.int .i64 98, .int .i64 102] 2)
          replace hr := hr.alloc (.cells #[.int .i64 98, .int .i64 102] 2)
          obtain ⟨b0, b1⟩ := cell2 kB
          obtain ⟨c0, c1', c2', c3', f0, f1, f2, f3⟩ := ord_cell kO
          go_upto_region 9 with fail
          clear c0 c1' c2' c3' f0 f1 f2 f3 b0 b1 kB
          replace kO := ord_set kO 2 (.int .i64 102)
          simp only [List.setIfInBounds_toArray, List.set_cons_zero, List.set_cons_succ] at kO
          replace k0 := (Below.heap_setCell (v4.alloc (.cells #[.int .i64 98, .int .i64 102] 2)) ⟨GO, 2, none⟩ (.int .i64 102) w.heap.size (show w.heap.size ≠ GO by omega)).trans k0
          replace k1 := (Below.heap_setCell (v4.alloc (.cells #[.int .i64 98, .int .i64 102] 2)) ⟨GO, 2, none⟩ (.int .i64 102) (w.heap.size + 1) (show w.heap.size + 1 ≠ GO by omega)).trans k1
          replace hG := only_setCell hG (p := ⟨GO, 2, none⟩) (.inr (show w.heap.size ≤ GO by omega)) (.int .i64 102)
          replace hr : RdAt ((v4.alloc (.cells #[.int .i64 98, .int .i64 102] 2)).setCell ⟨GO, 2, none⟩ (.int .i64 102)) g A len cap p4 := ⟨hr.1, (Below.heap_setCell (v4.alloc (.cells #[.int .i64 98, .int .i64 102] 2)) ⟨GO, 2, none⟩ (.int .i64 102) g (show g ≠ GO by omega)).trans hr.2⟩
          replace TR := TR.put (set_grown (v4.alloc (.cells #[.int .i64 98, .int .i64 102] 2)) GO 2 (.int .i64 102)) hOw1 hOw2
          generalize (v4.alloc (.cells #[.int .i64 98, .int .i64 102] 2)).setCell ⟨GO, 2, none⟩ (.int .i64 102) = v5' at *
          obtain ⟨y0, y1⟩ := cell2 k1
          obtain ⟨c0, c1', c2', c3', _, _, _, _⟩ := ord_cell kO
          go_wp2_with fail
          refine (spec_RestedO A1 n1 c1 A2 n2 c2 z1 z2 (2) a b 102 d v5' TR.bookIn.1 TR.bookIn.2 (by omega) (by omega) (own_nil TR.one) (own_nil TR.two) (own_cap TR.one) (own_cap TR.two)).mono ?_
          rintro e v5 ⟨⟨r1, r2, rfl, TN⟩, hb5⟩
          clear y0 y1 c0 c1' c2' c3' kO
          have hB0 : w.heap.size + 2 ≤ v5'.heap.size := Nat.succ_le_of_lt (heap_lt' k1)
          replace k0 := (hb5.block _ (heap_lt' k0)).trans k0
          replace k1 := (hb5.block _ (heap_lt' k1)).trans k1
          replace TR := TR.below hb5
          replace hG := only_below hG hb5
          replace hr := hr.below hb5
          clear hb5
          replace TN := TN.mono hB0
          clear hB0
          skip
          obtain ⟨HN1, HN2⟩ := rest_small (side := 2) (oi := a) (oa := b) (op := 102) (oq := d) (za := z1) (zb := z2) (n := n1) (m := n2)
          generalize restOk (2) a b 102 d z1 n1 z2 n2 = ok at *
          generalize onN ok (restN1 _ _) = N1 at *
          generalize onN ok (restN2 _ _) = N2 at *
          generalize onZ ok (rest1 _ _ _ _ _) = Z1 at *
          generalize onZ ok (rest2 _ _ _ _ _) = Z2 at *
          obtain ⟨B1, e1, B2, e2, rfl, rfl⟩ := TN.slices
          have kN := heap_alloc_new v5 (.cells #[.slice B1 N1 e1, .slice B2 N2 e2] 26)
          have hNz : w.heap.size + 1 < v5.heap.size := heap_lt' k1
          replace k0 := (Below.heap_alloc v5 (.cells #[.slice B1 N1 e1, .slice B2 N2 e2] 26) w.heap.size (heap_lt' k0)).trans k0
          replace k1 := (Below.heap_alloc v5 (.cells #[.slice B1 N1 e1, .slice B2 N2 e2] 26) (w.heap.size + 1) (heap_lt' k1)).trans k1
          replace TR := TR.alloc (.cells #[.slice B1 N1 e1, .slice B2 N2 e2] 26)
          replace hG := only_alloc hG (.cells #[.slice B1 N1 e1, .slice B2 N2 e2] 26)
          replace hr := hr.alloc (.cells #[.slice B1 N1 e1, .slice B2 N2 e2] 26)
          replace TN := TN.alloc (.cells #[.slice B1 N1 e1, .slice B2 N2 e2] 26)
          rcases ok with _ | _
          · go_wp2_with fail
            go_roundw
            case rel => exact ⟨k, _, by omega, by go_num, hr, hG, k0, _, n1, z1, _, n2, z2, k1, hn1, hn2, TR⟩
            case measure => simp [intOf]
          · obtain ⟨y0, y1⟩ := cell2 kN
            obtain ⟨u0, u1⟩ := cell2 k1
            obtain ⟨f0, f1⟩ := free2 k1
            go_upto_region 11 with fail
            generalize v5.alloc (.cells #[.slice B1 N1 e1, .slice B2 N2 e2] 26) = v6 at *
            go_wp2_with fail
            go_roundw
            case rel => exact ⟨k, _, by omega, by go_num, ⟨hr.1, (Below.heap_setCell _ ⟨w.heap.size + 1, 1, none⟩ _ g (show g ≠ w.heap.size + 1 by omega)).trans ((Below.heap_setCell _ ⟨w.heap.size + 1, 0, none⟩ _ g (show g ≠ w.heap.size + 1 by omega)).trans hr.2)⟩, only_setCell (only_setCell hG (p := ⟨w.heap.size + 1, 0, none⟩) (.inr (show w.heap.size ≤ w.heap.size + 1 by omega)) _) (p := ⟨w.heap.size + 1, 1, none⟩) (.inr (show w.heap.size ≤ w.heap.size + 1 by omega)) _, (Below.heap_setCell _ ⟨w.heap.size + 1, 1, none⟩ _ w.heap.size (show w.heap.size ≠ w.heap.size + 1 by omega)).trans ((Below.heap_setCell _ ⟨w.heap.size + 1, 0, none⟩ _ w.heap.size (show w.heap.size ≠ w.heap.size + 1 by omega)).trans k0), _, N1, Z1, _, N2, Z2, heap_set1 (heap_set0 k1), HN1, HN2, (TN.kept (set_grown v6 (w.heap.size + 1) 0 _) (by omega)).kept (set_grown _ (w.heap.size + 1) 1 _) (by omega)⟩
            case measure => simp [intOf]
end Go.Proofs.Ytempggikcpminaa

namespace Go.Proofs.Ytempggikcpminaa
open Go.RowKit Wire

set_option linter.unusedVariables false in
set_option maxHeartbeats 3200000 in
set_option maxRecDepth 100000 in
theorem side_any (g : Nat) (A : Option Addr) (len cap p : Nat) (w : World) (hr : RdAt w g A len cap p) (hs : Src w g A len) (hl : len ≤ 9223372036854775807) :
    Calls Try.prog 29 #[.pointer (some ⟨g, 0, none⟩)] w (DrawnI w g A len cap) := by
  have hlt := hr.lt
  go_enter Try.func29, Try.ntmps29
  go_wp2_with fail
  refine (once_any 40 g A len cap _ _ hr hs hl (by omega) (by omega)).mono ?_
  rintro e v1 ⟨bb, p1, rfl, hr1, hg1⟩
  rcases bb with _ | _
  · go_wp2_with fail
    refine (below_any 2 g A len cap _ _ hr1 (hs.keep hg1 (Nat.le_of_lt hlt)) hl (by omega) (by omega)).mono ?_
    rintro e v2 ⟨x, p2, x0, x1, rfl, hr2, hg2⟩
    go_wp2_with fail
    go_ret
    exact ⟨1 + x, p2, by unfold I64; omega, rfl, hr2, only_trans hg1 hg2⟩
  · go_wp2_with fail
    refine (off_any 1 2 g A len cap _ _ hr1 (hs.keep hg1 (Nat.le_of_lt hlt)) hl (by omega) (by omega) (by omega)).mono ?_
    rintro e v2 ⟨x, p2, hx, rfl, hr2, hg2⟩
    go_wp2_with fail
    go_ret
    exact ⟨x, p2, hx, rfl, hr2, only_trans hg1 hg2⟩
end Go.Proofs.Ytempggikcpminaa

namespace Go.Proofs.Ytempggikcpminaa
open Go.RowKit Wire

/-- a drawn book in its box, the result's cells, the reader -/
structure DrB (w wr : World) (T g : Nat) (A : Option Addr) (len cap p : Nat) (v1 v2 u1 u2 : Value) (n1 : Nat) (z1 : List Int) (n2 : Nat) (z2 : List Int) : Prop where
  box : wr.heap[T]? = some (.cells #[v1, v2] 26 (0, 0))
  res : wr.heap[w.heap.size]? = some (.cells #[u1, u2] 26 (0, 0))
  rd : RdAt wr g A len cap p
  rows : TwoRows wr (g + 1) v1 n1 z1 v2 n2 z2
  bel : Below w.heap.size w wr
  far : w.heap.size < g ∧ g < T
section
variable {w wr wx : World} {S T g len cap p n1 n2 : Nat} {A : Option Addr} {v1 v2 u1 u2 : Value} {z1 z2 : List Int}
theorem DrB.drew (h : DrB w wr T g A len cap p v1 v2 u1 u2 n1 z1 n2 z2) : DrB w wr.drew T g A len cap p v1 v2 u1 u2 n1 z1 n2 z2 := ⟨h.box, h.res, h.rd, h.rows.drew, h.bel.drew, h.far⟩
theorem DrB.step {p' : Nat} (h : DrB w wr T g A len cap p v1 v2 u1 u2 n1 z1 n2 z2) (hr : RdAt wx g A len cap p') (hg : wr.grownBy wx (some g)) : DrB w wx T g A len cap p' v1 v2 u1 u2 n1 z1 n2 z2 :=
  ⟨(hg.block T (heap_lt h.box) (fun e => by injection e with e; have := h.far; omega)).trans h.box, (hg.block _ (heap_lt h.res) (fun e => by injection e with e; have := h.far; omega)).trans h.res, hr,
    h.rows.kept hg (Nat.lt_succ_self g), h.bel.grown hg h.bel.size (fun k e => by injection e with e; have := h.far; omega), h.far⟩
theorem DrB.put (h : DrB w wr T g A len cap p v1 v2 u1 u2 n1 z1 n2 z2) : DrB w ((wr.setCell ⟨w.heap.size, 0, none⟩ v1).setCell ⟨w.heap.size, 1, none⟩ v2) T g A len cap p v1 v2 v1 v2 n1 z1 n2 z2 :=
  ⟨mset2_other h.box (by have := h.far; omega), mset2 h.res, ⟨h.rd.1, mset2_other h.rd.2 (by have := h.far; omega)⟩,
    (h.rows.kept (set_grown wr w.heap.size 0 v1) (by have := h.far; omega)).kept (set_grown _ w.heap.size 1 v2) (by have := h.far; omega),
    (h.bel.setCell (p := ⟨w.heap.size, 0, none⟩) (Nat.le_refl _) _).setCell (p := ⟨w.heap.size, 1, none⟩) (Nat.le_refl _) _, h.far⟩
theorem DrB.setO (h : DrB w wr T g A len cap p v1 v2 u1 u2 n1 z1 n2 z2) (hS : w.heap.size < S) (hg : S < g) (a b c d : Value) : DrB w ((((wr.setCell ⟨S, 0, none⟩ a).setCell ⟨S, 1, none⟩ b).setCell ⟨S, 2, none⟩ c).setCell ⟨S, 3, none⟩ d) T g A len cap p v1 v2 u1 u2 n1 z1 n2 z2 :=
  ⟨ord_put_other h.box (by have := h.far; omega), ord_put_other h.res (by omega), ⟨h.rd.1, ord_put_other h.rd.2 (by omega)⟩,
    (((h.rows.kept (set_grown wr S 0 a) (by omega)).kept (set_grown _ S 1 b) (by omega)).kept (set_grown _ S 2 c) (by omega)).kept (set_grown _ S 3 d) (by omega),
    (((h.bel.setCell (p := ⟨S, 0, none⟩) (Nat.le_of_lt hS) _).setCell (p := ⟨S, 1, none⟩) (Nat.le_of_lt hS) _).setCell (p := ⟨S, 2, none⟩) (Nat.le_of_lt hS) _).setCell (p := ⟨S, 3, none⟩) (Nat.le_of_lt hS) _, h.far⟩
end
end Go.Proofs.Ytempggikcpminaa

namespace Go.Proofs.Ytempggikcpminaa
open Go.RowKit Wire

theorem ord_put1 {w : World} {S k j : Nat} {o : Obj} {u : Value} (h : w.heap[k]? = some o) (hne : k ≠ S) : (w.setCell ⟨S, j, none⟩ u).heap[k]? = some o := (Below.heap_setCell w ⟨S, j, none⟩ u k hne).trans h
/-- a drawn book in its box, an order in its box, the results' cells, the reader -/
structure DmS (w wr : World) (T g X : Nat) (A : Option Addr) (len cap p : Nat) (v1 v2 u1 u2 : Value) (n1 : Nat) (z1 : List Int) (n2 : Nat) (z2 : List Int) (a b c d : Int) : Prop where
  dr : DrB w wr T g A len cap p v1 v2 u1 u2 n1 z1 n2 z2
  od : wr.heap[w.heap.size + 1]? = some (.cells #[.int .i64 0, .int .i64 0, .int .i64 0, .int .i64 0] 28)
  q : wr.heap[X]? = some (.cells #[.int .i64 a, .int .i64 b, .int .i64 c, .int .i64 d] 28)
  far : w.heap.size + 1 < g ∧ g < X ∧ X ≠ T
  r1 : v1.ownBlock ≠ some X
  r2 : v2.ownBlock ≠ some X
section
variable {w wr wx : World} {T g X len cap p n1 n2 : Nat} {A : Option Addr} {v1 v2 u1 u2 : Value} {z1 z2 : List Int} {a b c d : Int}
theorem DmS.drew (h : DmS w wr T g X A len cap p v1 v2 u1 u2 n1 z1 n2 z2 a b c d) : DmS w wr.drew T g X A len cap p v1 v2 u1 u2 n1 z1 n2 z2 a b c d := ⟨h.dr.drew, h.od, h.q, h.far, h.r1, h.r2⟩
theorem DmS.step {p' : Nat} (h : DmS w wr T g X A len cap p v1 v2 u1 u2 n1 z1 n2 z2 a b c d) (hr : RdAt wx g A len cap p') (hg : wr.grownBy wx (some g)) : DmS w wx T g X A len cap p' v1 v2 u1 u2 n1 z1 n2 z2 a b c d :=
  ⟨h.dr.step hr hg, (hg.block _ (heap_lt h.od) (fun e => by injection e with e; have := h.far; omega)).trans h.od, (hg.block _ (heap_lt h.q) (fun e => by injection e with e; have := h.far; omega)).trans h.q, h.far, h.r1, h.r2⟩
theorem DmS.later (h : DmS w wr T g X A len cap p v1 v2 u1 u2 n1 z1 n2 z2 a b c d) (hb : Below wr.heap.size wr wx) : DmS w wx T g X A len cap p v1 v2 u1 u2 n1 z1 n2 z2 a b c d :=
  ⟨⟨(hb.block _ (heap_lt h.dr.box)).trans h.dr.box, (hb.block _ (heap_lt h.dr.res)).trans h.dr.res, ⟨h.dr.rd.1, (hb.block _ (heap_lt h.dr.rd.2)).trans h.dr.rd.2⟩, h.dr.rows.below hb, h.dr.bel.trans (hb.mono h.dr.bel.size), h.dr.far⟩,
    (hb.block _ (heap_lt h.od)).trans h.od, (hb.block _ (heap_lt h.q)).trans h.q, h.far, h.r1, h.r2⟩
theorem DmS.setX (h : DmS w wr T g X A len cap p v1 v2 u1 u2 n1 z1 n2 z2 a b c d) (j : Nat) (u : Value) {a' b' c' d' : Int} (hq : (wr.setCell ⟨X, j, none⟩ u).heap[X]? = some (.cells #[.int .i64 a', .int .i64 b', .int .i64 c', .int .i64 d'] 28)) : DmS w (wr.setCell ⟨X, j, none⟩ u) T g X A len cap p v1 v2 u1 u2 n1 z1 n2 z2 a' b' c' d' :=
  ⟨⟨ord_put1 h.dr.box (fun e => h.far.2.2 e.symm), ord_put1 h.dr.res (by have := h.far; omega), ⟨h.dr.rd.1, ord_put1 h.dr.rd.2 (by have := h.far; omega)⟩,
    h.dr.rows.put (set_grown wr X j u) h.r1 h.r2, h.dr.bel.setCell (p := ⟨X, j, none⟩) (show w.heap.size ≤ X by have := h.far; omega) _, h.dr.far⟩,
    ord_put1 h.od (by have := h.far; omega), hq, h.far, h.r1, h.r2⟩
theorem DmS.set0 (h : DmS w wr T g X A len cap p v1 v2 u1 u2 n1 z1 n2 z2 a b c d) (u : Int) : DmS w (wr.setCell ⟨X, 0, none⟩ (.int .i64 u)) T g X A len cap p v1 v2 u1 u2 n1 z1 n2 z2 u b c d := h.setX 0 _ (by have := ord_set h.q 0 (.int .i64 u); simpa using this)
theorem DmS.set2 (h : DmS w wr T g X A len cap p v1 v2 u1 u2 n1 z1 n2 z2 a b c d) (u : Int) : DmS w (wr.setCell ⟨X, 2, none⟩ (.int .i64 u)) T g X A len cap p v1 v2 u1 u2 n1 z1 n2 z2 a b u d := h.setX 2 _ (by have := ord_set h.q 2 (.int .i64 u); simpa using this)
theorem DmS.set3 (h : DmS w wr T g X A len cap p v1 v2 u1 u2 n1 z1 n2 z2 a b c d) (u : Int) : DmS w (wr.setCell ⟨X, 3, none⟩ (.int .i64 u)) T g X A len cap p v1 v2 u1 u2 n1 z1 n2 z2 a b c u := h.setX 3 _ (by have := ord_set h.q 3 (.int .i64 u); simpa using this)
theorem DmS.put (h : DmS w wr T g X A len cap p v1 v2 u1 u2 n1 z1 n2 z2 a b c d) : DmS w ((wr.setCell ⟨w.heap.size, 0, none⟩ v1).setCell ⟨w.heap.size, 1, none⟩ v2) T g X A len cap p v1 v2 v1 v2 n1 z1 n2 z2 a b c d :=
  ⟨h.dr.put, mset2_other h.od (by omega), mset2_other h.q (by have := h.far; omega), h.far, h.r1, h.r2⟩
end
set_option linter.unusedVariables false in
set_option linter.unusedSimpArgs false in
set_option maxHeartbeats 3200000 in
set_option maxRecDepth 100000 in
theorem DrawMatched_any (A : Option Addr) (len cap : Nat) (w : World) (hs : Src w w.heap.size A len) (hl : len ≤ 9223372036854775807) :
    Calls Try.prog 8 #[.slice A len cap] w fun e w' => ∃ v1 n1 z1 v2 n2 z2 s oi oa op oq md, e = .returned (.tuple #[.agg #[v1, v2], .int .i64 s, .agg #[.int .i64 oi, .int .i64 oa, .int .i64 op, .int .i64 oq], .int .i64 md]) ∧ n1 ≤ 20 ∧ n2 ≤ 20 ∧ TwoRows w' w.heap.size v1 n1 z1 v2 n2 z2 ∧ Below w.heap.size w w' := by
  go_enter Try.func8, Try.ntmps8
  obtain ⟨b0, b1⟩ := two_blocks w (.cells #[.slice none 0 0, .slice none 0 0] 26) (.cells #[.int .i64 0, .int .i64 0, .int .i64 0, .int .i64 0] 28)
  have hbw : Below w.heap.size w ((w.alloc (.cells #[.slice none 0 0, .slice none 0 0] 26)).alloc (.cells #[.int .i64 0, .int .i64 0, .int .i64 0, .int .i64 0] 28)) := ((Below.refl _ _).alloc (Nat.le_refl _) _).alloc (by simp) _
  have hsw : w.heap.size < ((w.alloc (.cells #[.slice none 0 0, .slice none 0 0] 26)).alloc (.cells #[.int .i64 0, .int .i64 0, .int .i64 0, .int .i64 0] 28)).heap.size := by simp; omega
  have hso : w.heap.size + 1 < ((w.alloc (.cells #[.slice none 0 0, .slice none 0 0] 26)).alloc (.cells #[.int .i64 0, .int .i64 0, .int .i64 0, .int .i64 0] 28)).heap.size := by simp
  have hsrc : ∀ w', Below w.heap.size w w' → ∀ g, w.heap.size ≤ g → Src w' g A len := fun w' hb g hg i hi => by
    obtain ⟨b, o, n, h1, h2, h3, h4, h5⟩ := hs i hi
    exact ⟨b, o, n, h1, Nat.lt_of_lt_of_le h2 hg, h3, h4, (hb.cell (p := ⟨b, o + i, none⟩) h2).trans h5⟩
  go_wp2_with fail
  generalize ((w.alloc (.cells #[.slice none 0 0, .slice none 0 0] 26)).alloc (.cells #[.int .i64 0, .int .i64 0, .int .i64 0, .int .i64 0] 28)) = ww at *
  refine (open_any A len cap _).mono ?_
  rintro e w1 ⟨rfl, rfl⟩
  have hr0 : RdAt (ww.alloc (.cells #[.slice A len cap, .int .i64 0] 100)) ww.heap.size A len cap 0 := ⟨Nat.zero_le _, heap_alloc_new ww _⟩
  have hb0 : Below w.heap.size w (ww.alloc (.cells #[.slice A len cap, .int .i64 0] 100)) := hbw.alloc hbw.size _
  have r0 := (Below.heap_alloc ww (.cells #[.slice A len cap, .int .i64 0] 100) w.heap.size hsw).trans b0
  have o0 := (Below.heap_alloc ww (.cells #[.slice A len cap, .int .i64 0] 100) (w.heap.size + 1) hso).trans b1
  have hlt0 : ww.heap.size < (ww.alloc (.cells #[.slice A len cap, .int .i64 0] 100)).heap.size := by simp
  clear b0 hbw b1
  generalize ww.alloc (.cells #[.slice A len cap, .int .i64 0] 100) = w0 at *
  generalize ww.heap.size = g at *
  go_wp2_with fail
  refine (book_any g A len cap _ w0 hr0 (hsrc w0 hb0 _ (Nat.le_of_lt hsw)) hl).mono ?_
  rintro e w2 ⟨v1, n1, z1, v2, n2, z2, p2, rfl, hn1, hn2, TR, hr2, hg2⟩
  obtain ⟨A1, c1, A2, c2, rfl, rfl⟩ := TR.slices
  have hB2 : Below w.heap.size w w2 := hb0.grown hg2 hb0.size (fun k h => by injection h with h; omega)
  have r2 := (hg2.block w.heap.size (by omega) (fun e => by injection e with e; omega)).trans r0
  have o2 := (hg2.block (w.heap.size + 1) (by omega) (fun e => by injection e with e; omega)).trans o0
  have TR2 := TR.mono (base' := g + 1) hlt0
  have hg2s := hg2.size
  clear TR hr0 hb0 r0 hg2 o0
  have kT := heap_alloc_new w2 (.cells #[.slice A1 n1 c1, .slice A2 n2 c2] 26)
  have hD : DrB w (w2.alloc (.cells #[.slice A1 n1 c1, .slice A2 n2 c2] 26)) w2.heap.size g A len cap p2 (.slice A1 n1 c1) (.slice A2 n2 c2) (.slice none 0 0) (.slice none 0 0) n1 z1 n2 z2 :=
    ⟨kT, (Below.heap_alloc w2 (.cells #[.slice A1 n1 c1, .slice A2 n2 c2] 26) w.heap.size (by omega)).trans r2, hr2.alloc _, TR2.alloc _, hB2.alloc hB2.size _, by omega, by omega⟩
  have hO := (Below.heap_alloc w2 (.cells #[.slice A1 n1 c1, .slice A2 n2 c2] 26) (w.heap.size + 1) (by omega)).trans o2
  clear o2
  clear kT r2 hr2 TR2
  have hg1 : w.heap.size + 1 < g := by omega
  have hO2 : w.heap.size + 1 < (w2.alloc (.cells #[.slice A1 n1 c1, .slice A2 n2 c2] 26)).heap.size := by simp; omega
  go_wp2_with fail
  clear hB2 hlt0
  generalize w2.alloc (.cells #[.slice A1 n1 c1, .slice A2 n2 c2] 26) = w3 at *
  generalize w2.heap.size = T at *
  refine (side_any g A len cap _ _ hD.rd (hsrc _ hD.bel _ (Nat.le_of_lt hD.far.1)) hl).mono ?_
  rintro e w4 ⟨s, p3, hs3, rfl, hr3, hg3⟩
  replace hD := hD.step hr3 hg3
  replace hO := (hg3.block (w.heap.size + 1) hO2 (fun e => by injection e with e; omega)).trans hO
  clear hr3 hg3 hO2
  have hO2 := heap_lt' hO
  go_wp2_with fail
  refine (order_any g A len cap _ _ hD.rd (hsrc _ hD.bel _ (Nat.le_of_lt hD.far.1)) hl).mono ?_
  rintro e w5 ⟨oi, oa, op, oq, p4, rfl, hr4, hg4⟩
  replace hD := hD.step hr4 hg4
  replace hO := (hg4.block (w.heap.size + 1) hO2 (fun e => by injection e with e; omega)).trans hO
  clear hr4 hg4 hO2
  have hgl : g < w5.heap.size := hD.rd.lt
  have hTl : T < w5.heap.size := heap_lt' hD.box
  have hQ : DmS w (w5.alloc (.cells #[.int .i64 oi, .int .i64 oa, .int .i64 op, .int .i64 oq] 28)) T g w5.heap.size A len cap p4 (.slice A1 n1 c1) (.slice A2 n2 c2) (.slice none 0 0) (.slice none 0 0) n1 z1 n2 z2 oi oa op oq :=
    ⟨⟨(Below.heap_alloc w5 (.cells #[.int .i64 oi, .int .i64 oa, .int .i64 op, .int .i64 oq] 28) _ hTl).trans hD.box, (Below.heap_alloc w5 (.cells #[.int .i64 oi, .int .i64 oa, .int .i64 op, .int .i64 oq] 28) _ (heap_lt' hD.res)).trans hD.res, hD.rd.alloc _, hD.rows.alloc _, hD.bel.alloc hD.bel.size _, hD.far⟩, (Below.heap_alloc w5 (.cells #[.int .i64 oi, .int .i64 oa, .int .i64 op, .int .i64 oq] 28) _ (heap_lt' hO)).trans hO, heap_alloc_new w5 _, ⟨hg1, hgl, by omega⟩,
      fun e => absurd (hD.rows.one.lt _ e).2 (Nat.lt_irrefl _), fun e => absurd (hD.rows.two.lt _ e).2 (Nat.lt_irrefl _)⟩
  clear hD hO hgl hTl hg1
  go_wp2_with fail
  generalize w5.alloc (.cells #[.int .i64 oi, .int .i64 oa, .int .i64 op, .int .i64 oq] 28) = w6 at *
  generalize w5.heap.size = X at *
  refine (once_any 6 g A len cap _ _ hQ.dr.rd (hsrc _ hQ.dr.bel _ (Nat.le_of_lt hQ.dr.far.1)) hl (by omega) (by omega)).mono ?_
  rintro e w7 ⟨bb, p5, rfl, hrx, hgx⟩
  replace hQ := hQ.step hrx hgx
  clear hrx hgx
  have hok6 := hQ.far
  obtain ⟨y0, y1, y2, y3, f0, f1, f2, f3⟩ := ord_cell hQ.q
  cases bb
  · have hQ2 := Lib.hid (hQ.set0 20)
    go_wp2_with fail
    clear y0 y1 y2 y3 f0 f1 f2 f3
    replace hQ := hQ2.out
    clear hQ2
    generalize (w7.setCell ⟨X, 0, none⟩ (.int .i64 20)) = w7a at *
    refine (once_any 3 g A len cap _ _ hQ.dr.rd (hsrc _ hQ.dr.bel _ (Nat.le_of_lt hQ.dr.far.1)) hl (by omega) (by omega)).mono ?_
    rintro e w8 ⟨bb, p6, rfl, hrx, hgx⟩
    replace hQ := hQ.step hrx hgx
    clear hrx hgx
    cases bb
    · have hba : Below w8.heap.size w8 (w8.alloc (.cells #[.int .i64 104, .int .i64 96, .int .i64 0] 2)) := (Below.refl _ _).alloc (Nat.le_refl _) _
      have kA := heap_alloc_new w8 (.cells #[.int .i64 104, .int .i64 96, .int .i64 0] 2)
      replace hQ := hQ.later hba
      clear hba
      go_wp2_with fail
      generalize w8.alloc (.cells #[.int .i64 104, .int .i64 96, .int .i64 0] 2) = wA at *
      have hAl := heap_lt' kA
      generalize hAB : w8.heap.size = B at *
      clear hAB
      have hBg : g ≠ B := fun e => by have h1 := hQ.dr.rd.2; rw [e, kA] at h1; simp at h1
      refine (below_any 3 g A len cap _ _ hQ.dr.rd (hsrc _ hQ.dr.bel _ (Nat.le_of_lt hQ.dr.far.1)) hl (by omega) (by omega)).mono ?_
      rintro e wB ⟨t, p7, t0, t1, rfl, hr7, hg7⟩
      replace kA := (hg7.block B hAl (fun e => by injection e with e; exact hBg e.symm)).trans kA
      replace hQ := hQ.step hr7 hg7
      clear hr7 hg7
      obtain ⟨tk, rfl⟩ := Int.eq_ofNat_of_zero_le t0
      have htk : tk < 3 := by omega
      obtain ⟨pp, hpp⟩ : ∃ pp : Int, wB.cell? ⟨B, tk, none⟩ = some (.int .i64 pp) := by
        rcases (show tk = 0 ∨ tk = 1 ∨ tk = 2 by omega) with rfl | rfl | rfl
        · exact ⟨104, by simp [World.cell?, kA]⟩
        · exact ⟨96, by simp [World.cell?, kA]⟩
        · exact ⟨0, by simp [World.cell?, kA]⟩
      have htk2 : (tk : Int) < 3 := by omega
      obtain ⟨y0, y1, y2, y3, f0, f1, f2, f3⟩ := ord_cell hQ.q
      have hQ2 := Lib.hid (hQ.set2 pp)
      clear kA
      go_upto_region 9 with fail
      clear y0 y1 y2 y3 f0 f1 f2 f3 hpp
      replace hQ := hQ2.out
      clear hQ2
      generalize (wB.setCell ⟨X, 2, none⟩ (.int .i64 pp)) = w9a at *
      go_upto_region 9 with fail
      refine wp_region_held_drew (S := (fun _ => True)) (by kernel_rfl) ?hSm1 (fun hHeld => ?restm1)
      case hSm1 => exact trivial
      refine wpAnyH_take (i := 0) (oi := ?oim2) (v := ?vm2) ?him2 (by kernel_rfl) (by kernel_rfl) (by kernel_rfl) ?hQm2 (Or.inl ⟨?hwm2, ?hym2⟩) (by assumption) ?restm2
      case him2 => simp only [Dqa, Dqb, Dqc]; exact rfl
      case hQm2 => exact fun _ _ _ h => h
      case hwm2 => rfl
      case hym2 => ((intro w hSw; (try dsimp only at hSw); go_simp) <;> with_reducible rfl)
      try simp only [Act.put, Dqd, Dqe, Dqf]
      refine wpAnyH_take (i := 2) (oi := ?oim3) (v := ?vm3) ?him3 (by kernel_rfl) (by kernel_rfl) (by kernel_rfl) ?hQm3 (Or.inl ⟨?hwm3, ?hym3⟩) (by assumption) ?restm3
      case him3 => simp only [Dqa, Dqb, Dqc]; exact rfl
      case hQm3 => exact fun _ _ _ h => h
      case hwm3 => rfl
      case hym3 => ((intro w hSw; (try dsimp only at hSw); go_simp) <;> with_reducible rfl)
      try simp only [Act.put, Dqd, Dqe, Dqf]
      refine wpAnyH_ready (rs := [1, 3]) (by kernel_rfl) (by simp) ?_
      refine AllReadyH.cons (o := ?or4_1) ?hor4_1 (fun K hK => ?stepr4_1) (AllReadyH.cons (o := ?or4_3) ?hor4_3 (fun K hK => ?stepr4_3) (AllReadyH.nil))
      case hor4_1 => simp only [Dqa, Dqb, Dqc]; exact rfl
      case hor4_3 => simp only [Dqa, Dqb, Dqc]; exact rfl
      case stepr4_1 =>
        obtain ⟨y0, y1, y2, y3, -⟩ := ord_cell hQ.q
        go_simp
        clear y0 y1 y2 y3
        refine hK.out _ _ ?hSr4_1 (fun hHeld => ?restr4_1)
        case hSr4_1 => exact trivial
        clear hK K
        try simp only [Act.put, Dqd, Dqe, Dqf]
        refine wpAnyH_ready (rs := [3]) (by kernel_rfl) (by simp) ?_
        refine AllReadyH.cons (o := ?or5_3) ?hor5_3 (fun K hK => ?stepr5_3) (AllReadyH.nil)
        case hor5_3 => simp only [Dqa, Dqb, Dqc]; exact rfl
        case stepr5_3 =>
          replace hQ := hQ.drew
          go_simp
          refine (below_any 3 g A len cap _ _ hQ.dr.rd (hsrc _ hQ.dr.bel _ (Nat.le_of_lt hQ.dr.far.1)) hl (by omega) (by omega)).mono ?_
          rintro e w9 ⟨x, p9, x0, x1, rfl, hr9, hg9⟩
          replace hQ := hQ.step hr9 hg9
          clear hr9 hg9
          have hwr : IntKind.i64.wrap (1 + x) = 1 + x := by rw [IntKind.wrap_i64]; omega
          refine hK.out _ _ ?hSr5_3 (fun hHeld => ?restr5_3)
          case hSr5_3 => exact trivial
          clear hK K
          try simp only [Act.put, Dqd, Dqe, Dqf]
          refine wpAnyH_take (i := 4) (oi := ?oim6) (v := ?vm6) ?him6 (by kernel_rfl) (by kernel_rfl) (by kernel_rfl) ?hQm6 (Or.inl ⟨?hwm6, ?hym6⟩) (by assumption) ?restm6
          case him6 => simp only [Dqa, Dqb, Dqc]; exact rfl
          case hQm6 => exact fun _ _ _ h => h
          case hwm6 => rfl
          case hym6 => ((intro w hSw; (try dsimp only at hSw); go_simp) <;> with_reducible rfl)
          try simp only [Act.put, Dqd, Dqe, Dqf]
          refine wpAnyH_take (i := 5) (oi := ?oim7) (v := ?vm7) ?him7 (by kernel_rfl) (by kernel_rfl) (by kernel_rfl) ?hQm7 (Or.inl ⟨?hwm7, ?hym7⟩) (by assumption) ?restm7
          case him7 => simp only [Dqa, Dqb, Dqc]; exact rfl
          case hQm7 => exact fun _ _ _ h => h
          case hwm7 => rfl
          case hym7 => ((intro w hSw; (try dsimp only at hSw); go_simp) <;> with_reducible rfl)
          try simp only [Act.put, Dqd, Dqe, Dqf]
          refine wpAnyH_take (i := 6) (oi := ?oim8) (v := ?vm8) ?him8 (by kernel_rfl) (by kernel_rfl) (by kernel_rfl) ?hQm8 (Or.inl ⟨?hwm8, ?hym8⟩) (by assumption) ?restm8
          case him8 => simp only [Dqa, Dqb, Dqc]; exact rfl
          case hQm8 => exact fun _ _ _ h => h
          case hwm8 => rfl
          case hym8 => ((intro w hSw; (try dsimp only at hSw); go_simp) <;> with_reducible rfl)
          try simp only [Act.put, Dqd, Dqe, Dqf]
          refine wpAnyH_ready (rs := [7]) (by kernel_rfl) (by simp) ?_
          refine AllReadyH.cons (o := ?or9_7) ?hor9_7 (fun K hK => ?stepr9_7) (AllReadyH.nil)
          case hor9_7 => simp only [Dqa, Dqb, Dqc]; exact rfl
          case stepr9_7 =>
            obtain ⟨y0, y1, y2, y3, f0, f1, f2, f3⟩ := ord_cell hQ.q
            go_simp
            clear y0 y1 y2 y3 f0 f1 f2 f3
            replace hQ := hQ.set3 (IntKind.i64.wrap (oq * (1 + x)))
            generalize w9.setCell ⟨X, 3, none⟩ (.int .i64 (IntKind.i64.wrap (oq * (1 + x)))) = wa at *
            refine hK.out _ _ ?hSr9_7 (fun hHeld => ?restr9_7)
            case hSr9_7 => exact trivial
            clear hK K
            try simp only [Act.put, Dqd, Dqe, Dqf]
            refine wpAnyH_done (by kernel_rfl) ?_ _
            clear hHeld hwr
            generalize IntKind.i64.wrap (oq * (1 + x)) = oq2 at *
            go_upto_region 10 with fail
            obtain ⟨b0, b1⟩ := cell2 hQ.dr.box
            obtain ⟨y0, y1, y2, y3, -⟩ := ord_cell hQ.q
            have hSt : _ ∧ _ ∧ _ ∧ _ ∧ _ ∧ _ := ⟨b0, b1, y0, y1, y2, y3⟩
            replace hQ := hQ.drew
            refine wp_region_held_drew (S := (fun w' => w'.cell? ⟨T, 0, none⟩ = some (.slice A1 n1 c1) ∧ w'.cell? ⟨T, 1, none⟩ = some (.slice A2 n2 c2) ∧ w'.cell? ⟨X, 0, none⟩ = some (.int .i64 20) ∧ w'.cell? ⟨X, 1, none⟩ = some (.int .i64 oa) ∧ w'.cell? ⟨X, 2, none⟩ = some (.int .i64 pp) ∧ w'.cell? ⟨X, 3, none⟩ = some (.int .i64 oq2))) (by kernel_rfl) ?hSm10 (fun hHeld => ?restm10)
            case hSm10 => exact hSt
            refine wpAnyH_take (i := 0) (oi := ?oim11) (v := ?vm11) ?him11 (by kernel_rfl) (by kernel_rfl) (by kernel_rfl) ?hQm11 (Or.inl ⟨?hwm11, ?hym11⟩) (by assumption) ?restm11
            case him11 => simp only [Dqa, Dqb, Dqc]; exact rfl
            case hQm11 => exact fun _ _ _ h => h
            case hwm11 => rfl
            case hym11 => ((intro w hSw; (try dsimp only at hSw); go_simp) <;> with_reducible rfl)
            try simp only [Act.put, Dqd, Dqe, Dqf]
            refine wpAnyH_take (i := 1) (oi := ?oim12) (v := ?vm12) ?him12 (by kernel_rfl) (by kernel_rfl) (by kernel_rfl) ?hQm12 (Or.inl ⟨?hwm12, ?hym12⟩) (by assumption) ?restm12
            case him12 => simp only [Dqa, Dqb, Dqc]; exact rfl
            case hQm12 => exact fun _ _ _ h => h
            case hwm12 => rfl
            case hym12 => ((intro w hSw; (try dsimp only at hSw); go_simp) <;> with_reducible rfl)
            try simp only [Act.put, Dqd, Dqe, Dqf]
            refine wpAnyH_take (i := 2) (oi := ?oim13) (v := ?vm13) ?him13 (by kernel_rfl) (by kernel_rfl) (by kernel_rfl) ?hQm13 (Or.inl ⟨?hwm13, ?hym13⟩) (by assumption) ?restm13
            case him13 => simp only [Dqa, Dqb, Dqc]; exact rfl
            case hQm13 => exact fun _ _ _ h => h
            case hwm13 => rfl
            case hym13 => ((intro w hSw; (try dsimp only at hSw); go_simp) <;> with_reducible rfl)
            try simp only [Act.put, Dqd, Dqe, Dqf]
            refine wpAnyH_take (i := 3) (oi := ?oim14) (v := ?vm14) ?him14 (by kernel_rfl) (by kernel_rfl) (by kernel_rfl) ?hQm14 (Or.inl ⟨?hwm14, ?hym14⟩) (by assumption) ?restm14
            case him14 => simp only [Dqa, Dqb, Dqc]; exact rfl
            case hQm14 => exact fun _ _ _ h => h
            case hwm14 => rfl
            case hym14 => ((intro w hSw; (try dsimp only at hSw); go_simp) <;> with_reducible rfl)
            try simp only [Act.put, Dqd, Dqe, Dqf]
            refine wpAnyH_ready (rs := [4]) (by kernel_rfl) (by simp) ?_
            refine AllReadyH.cons (o := ?or15_4) ?hor15_4 (fun K hK => ?stepr15_4) (AllReadyH.nil)
            case hor15_4 => simp only [Dqa, Dqb, Dqc]; exact rfl
            case stepr15_4 =>
              go_simp
              refine (off_any 1 3 g A len cap _ _ hQ.dr.rd (hsrc _ hQ.dr.bel _ (Nat.le_of_lt hQ.dr.far.1)) hl (by omega) (by omega) (by omega)).mono ?_
              rintro e wx ⟨md, px, hx, rfl, hrx, hgx⟩
              replace hQ := hQ.step hrx hgx
              clear hrx hgx
              refine hK.out _ _ ?hSr15_4 (fun hHeld => ?restr15_4)
              case hSr15_4 => exact ⟨(cell2 hQ.dr.box).1, (cell2 hQ.dr.box).2, (ord_cell hQ.q).1, (ord_cell hQ.q).2.1, (ord_cell hQ.q).2.2.1, (ord_cell hQ.q).2.2.2.1⟩
              clear hK K
              try simp only [Act.put, Dqd, Dqe, Dqf]
              refine wpAnyH_ready (rs := [5]) (by kernel_rfl) (by simp) ?_
              refine AllReadyH.cons (o := ?or16_5) ?hor16_5 (fun K hK => ?stepr16_5) (AllReadyH.nil)
              case hor16_5 => simp only [Dqa, Dqb, Dqc]; exact rfl
              case stepr16_5 =>
                obtain ⟨r0, r1⟩ := cell2 hQ.dr.res
                have f0 := mfree hQ.dr.res 0
                have f1 := mfree hQ.dr.res 1
                go_simp
                clear r0 r1 f0 f1
                replace hQ := hQ.put
                generalize ((wx.setCell ⟨w.heap.size, 0, none⟩ (.slice A1 n1 c1)).setCell ⟨w.heap.size, 1, none⟩ (.slice A2 n2 c2)) = wb at *
                refine hK.out _ _ ?hSr16_5 (fun hHeld => ?restr16_5)
                case hSr16_5 => exact ⟨(cell2 hQ.dr.box).1, (cell2 hQ.dr.box).2, (ord_cell hQ.q).1, (ord_cell hQ.q).2.1, (ord_cell hQ.q).2.2.1, (ord_cell hQ.q).2.2.2.1⟩
                clear hK K
                try simp only [Act.put, Dqd, Dqe, Dqf]
                refine wpAnyH_take (i := 6) (oi := ?oim17) (v := ?vm17) ?him17 (by kernel_rfl) (by kernel_rfl) (by kernel_rfl) ?hQm17 (Or.inl ⟨?hwm17, ?hym17⟩) (by assumption) ?restm17
                case him17 => simp only [Dqa, Dqb, Dqc]; exact rfl
                case hQm17 => exact fun _ _ _ h => h
                case hwm17 => rfl
                case hym17 => ((intro w hSw; (try dsimp only at hSw); go_simp) <;> with_reducible rfl)
                try simp only [Act.put, Dqd, Dqe, Dqf]
                refine wpAnyH_ready (rs := [7]) (by kernel_rfl) (by simp) ?_
                refine AllReadyH.cons (o := ?or18_7) ?hor18_7 (fun K hK => ?stepr18_7) (AllReadyH.nil)
                case hor18_7 => simp only [Dqa, Dqb, Dqc]; exact rfl
                case stepr18_7 =>
                  obtain ⟨e0, e1, e2, e3, f0, f1, f2, f3⟩ := ord_cell hQ.od
                  go_simp
                  clear e0 e1 e2 e3 f0 f1 f2 f3
                  have hOf := ord_put (u0 := .int .i64 20) (u1 := .int .i64 oa) (u2 := .int .i64 pp) (u3 := .int .i64 oq2) hQ.od
                  have hDf := hQ.dr.setO (S := w.heap.size + 1) (Nat.lt_succ_self _) hQ.far.1 (.int .i64 20) (.int .i64 oa) (.int .i64 pp) (.int .i64 oq2)
                  have hXf := ord_put_other (u0 := .int .i64 20) (u1 := .int .i64 oa) (u2 := .int .i64 pp) (u3 := .int .i64 oq2) (S := w.heap.size + 1) hQ.q (by have := hQ.far; omega)
                  refine hK.out _ _ ?hSr18_7 (fun hHeld => ?restr18_7)
                  case hSr18_7 => exact ⟨(cell2 hDf.box).1, (cell2 hDf.box).2, (ord_cell hXf).1, (ord_cell hXf).2.1, (ord_cell hXf).2.2.1, (ord_cell hXf).2.2.2.1⟩
                  clear hK K
                  try simp only [Act.put, Dqd, Dqe, Dqf]
                  refine wpAnyH_take (i := 8) (oi := ?oim19) (v := ?vm19) ?him19 (by kernel_rfl) (by kernel_rfl) (by kernel_rfl) ?hQm19 (Or.inl ⟨?hwm19, ?hym19⟩) (by assumption) ?restm19
                  case him19 => simp only [Dqa, Dqb, Dqc]; exact rfl
                  case hQm19 => exact fun _ _ _ h => h
                  case hwm19 => rfl
                  case hym19 => ((intro w hSw; (try dsimp only at hSw); go_simp) <;> with_reducible rfl)
                  try simp only [Act.put, Dqd, Dqe, Dqf]
                  refine wpAnyH_done (by kernel_rfl) ?_ _
                  clear hHeld
                  obtain ⟨g0, g1⟩ := cell2 hDf.res
                  obtain ⟨e0, e1, e2, e3, -⟩ := ord_cell hOf
                  go_wp2_with fail
                  exact bodyPost_ret (v := .tuple #[.agg #[(.slice A1 n1 c1), (.slice A2 n2 c2)], .int .i64 s, .agg #[.int .i64 20, .int .i64 oa, .int .i64 pp, .int .i64 oq2], .int .i64 md]) (by simp [results, Try.results8, go_sem, g0, g1, e0, e1, e2, e3]) rfl ⟨_, _, _, _, _, _, _, _, _, _, _, _, rfl, hn1, hn2, hDf.rows.mono (by have := hDf.far; omega), hDf.bel⟩
      case stepr4_3 =>
        replace hQ := hQ.drew
        go_simp
        refine (below_any 3 g A len cap _ _ hQ.dr.rd (hsrc _ hQ.dr.bel _ (Nat.le_of_lt hQ.dr.far.1)) hl (by omega) (by omega)).mono ?_
        rintro e w9 ⟨x, p9, x0, x1, rfl, hr9, hg9⟩
        replace hQ := hQ.step hr9 hg9
        clear hr9 hg9
        have hwr : IntKind.i64.wrap (1 + x) = 1 + x := by rw [IntKind.wrap_i64]; omega
        refine hK.out _ _ ?hSr4_3 (fun hHeld => ?restr4_3)
        case hSr4_3 => exact trivial
        clear hK K
        try simp only [Act.put, Dqd, Dqe, Dqf]
        refine wpAnyH_take (i := 4) (oi := ?oim20) (v := ?vm20) ?him20 (by kernel_rfl) (by kernel_rfl) (by kernel_rfl) ?hQm20 (Or.inl ⟨?hwm20, ?hym20⟩) (by assumption) ?restm20
        case him20 => simp only [Dqa, Dqb, Dqc]; exact rfl
        case hQm20 => exact fun _ _ _ h => h
        case hwm20 => rfl
        case hym20 => ((intro w hSw; (try dsimp only at hSw); go_simp) <;> with_reducible rfl)
        try simp only [Act.put, Dqd, Dqe, Dqf]
        refine wpAnyH_ready (rs := [1]) (by kernel_rfl) (by simp) ?_
        refine AllReadyH.cons (o := ?or21_1) ?hor21_1 (fun K hK => ?stepr21_1) (AllReadyH.nil)
        case hor21_1 => simp only [Dqa, Dqb, Dqc]; exact rfl
        case stepr21_1 =>
          obtain ⟨y0, y1, y2, y3, -⟩ := ord_cell hQ.q
          go_simp
          clear y0 y1 y2 y3
          refine hK.out _ _ ?hSr21_1 (fun hHeld => ?restr21_1)
          case hSr21_1 => exact trivial
          clear hK K
          try simp only [Act.put, Dqd, Dqe, Dqf]
          refine wpAnyH_take (i := 5) (oi := ?oim22) (v := ?vm22) ?him22 (by kernel_rfl) (by kernel_rfl) (by kernel_rfl) ?hQm22 (Or.inl ⟨?hwm22, ?hym22⟩) (by assumption) ?restm22
          case him22 => simp only [Dqa, Dqb, Dqc]; exact rfl
          case hQm22 => exact fun _ _ _ h => h
          case hwm22 => rfl
          case hym22 => ((intro w hSw; (try dsimp only at hSw); go_simp) <;> with_reducible rfl)
          try simp only [Act.put, Dqd, Dqe, Dqf]
          refine wpAnyH_take (i := 6) (oi := ?oim23) (v := ?vm23) ?him23 (by kernel_rfl) (by kernel_rfl) (by kernel_rfl) ?hQm23 (Or.inl ⟨?hwm23, ?hym23⟩) (by assumption) ?restm23
          case him23 => simp only [Dqa, Dqb, Dqc]; exact rfl
          case hQm23 => exact fun _ _ _ h => h
          case hwm23 => rfl
          case hym23 => ((intro w hSw; (try dsimp only at hSw); go_simp) <;> with_reducible rfl)
          try simp only [Act.put, Dqd, Dqe, Dqf]
          refine wpAnyH_ready (rs := [7]) (by kernel_rfl) (by simp) ?_
          refine AllReadyH.cons (o := ?or24_7) ?hor24_7 (fun K hK => ?stepr24_7) (AllReadyH.nil)
          case hor24_7 => simp only [Dqa, Dqb, Dqc]; exact rfl
          case stepr24_7 =>
            obtain ⟨y0, y1, y2, y3, f0, f1, f2, f3⟩ := ord_cell hQ.q
            go_simp
            clear y0 y1 y2 y3 f0 f1 f2 f3
            replace hQ := hQ.set3 (IntKind.i64.wrap (oq * (1 + x)))
            generalize w9.setCell ⟨X, 3, none⟩ (.int .i64 (IntKind.i64.wrap (oq * (1 + x)))) = wa at *
            refine hK.out _ _ ?hSr24_7 (fun hHeld => ?restr24_7)
            case hSr24_7 => exact trivial
            clear hK K
            try simp only [Act.put, Dqd, Dqe, Dqf]
            refine wpAnyH_done (by kernel_rfl) ?_ _
            clear hHeld hwr
            generalize IntKind.i64.wrap (oq * (1 + x)) = oq2 at *
            go_upto_region 10 with fail
            obtain ⟨b0, b1⟩ := cell2 hQ.dr.box
            obtain ⟨y0, y1, y2, y3, -⟩ := ord_cell hQ.q
            have hSt : _ ∧ _ ∧ _ ∧ _ ∧ _ ∧ _ := ⟨b0, b1, y0, y1, y2, y3⟩
            replace hQ := hQ.drew
            refine wp_region_held_drew (S := (fun w' => w'.cell? ⟨T, 0, none⟩ = some (.slice A1 n1 c1) ∧ w'.cell? ⟨T, 1, none⟩ = some (.slice A2 n2 c2) ∧ w'.cell? ⟨X, 0, none⟩ = some (.int .i64 20) ∧ w'.cell? ⟨X, 1, none⟩ = some (.int .i64 oa) ∧ w'.cell? ⟨X, 2, none⟩ = some (.int .i64 pp) ∧ w'.cell? ⟨X, 3, none⟩ = some (.int .i64 oq2))) (by kernel_rfl) ?hSm25 (fun hHeld => ?restm25)
            case hSm25 => exact hSt
            refine wpAnyH_take (i := 0) (oi := ?oim26) (v := ?vm26) ?him26 (by kernel_rfl) (by kernel_rfl) (by kernel_rfl) ?hQm26 (Or.inl ⟨?hwm26, ?hym26⟩) (by assumption) ?restm26
            case him26 => simp only [Dqa, Dqb, Dqc]; exact rfl
            case hQm26 => exact fun _ _ _ h => h
            case hwm26 => rfl
            case hym26 => ((intro w hSw; (try dsimp only at hSw); go_simp) <;> with_reducible rfl)
            try simp only [Act.put, Dqd, Dqe, Dqf]
            refine wpAnyH_take (i := 1) (oi := ?oim27) (v := ?vm27) ?him27 (by kernel_rfl) (by kernel_rfl) (by kernel_rfl) ?hQm27 (Or.inl ⟨?hwm27, ?hym27⟩) (by assumption) ?restm27
            case him27 => simp only [Dqa, Dqb, Dqc]; exact rfl
            case hQm27 => exact fun _ _ _ h => h
            case hwm27 => rfl
            case hym27 => ((intro w hSw; (try dsimp only at hSw); go_simp) <;> with_reducible rfl)
            try simp only [Act.put, Dqd, Dqe, Dqf]
            refine wpAnyH_take (i := 2) (oi := ?oim28) (v := ?vm28) ?him28 (by kernel_rfl) (by kernel_rfl) (by kernel_rfl) ?hQm28 (Or.inl ⟨?hwm28, ?hym28⟩) (by assumption) ?restm28
            case him28 => simp only [Dqa, Dqb, Dqc]; exact rfl
            case hQm28 => exact fun _ _ _ h => h
            case hwm28 => rfl
            case hym28 => ((intro w hSw; (try dsimp only at hSw); go_simp) <;> with_reducible rfl)
            try simp only [Act.put, Dqd, Dqe, Dqf]
            refine wpAnyH_take (i := 3) (oi := ?oim29) (v := ?vm29) ?him29 (by kernel_rfl) (by kernel_rfl) (by kernel_rfl) ?hQm29 (Or.inl ⟨?hwm29, ?hym29⟩) (by assumption) ?restm29
            case him29 => simp only [Dqa, Dqb, Dqc]; exact rfl
            case hQm29 => exact fun _ _ _ h => h
            case hwm29 => rfl
            case hym29 => ((intro w hSw; (try dsimp only at hSw); go_simp) <;> with_reducible rfl)
            try simp only [Act.put, Dqd, Dqe, Dqf]
            refine wpAnyH_ready (rs := [4]) (by kernel_rfl) (by simp) ?_
            refine AllReadyH.cons (o := ?or30_4) ?hor30_4 (fun K hK => ?stepr30_4) (AllReadyH.nil)
            case hor30_4 => simp only [Dqa, Dqb, Dqc]; exact rfl
            case stepr30_4 =>
              go_simp
              refine (off_any 1 3 g A len cap _ _ hQ.dr.rd (hsrc _ hQ.dr.bel _ (Nat.le_of_lt hQ.dr.far.1)) hl (by omega) (by omega) (by omega)).mono ?_
              rintro e wx ⟨md, px, hx, rfl, hrx, hgx⟩
              replace hQ := hQ.step hrx hgx
              clear hrx hgx
              refine hK.out _ _ ?hSr30_4 (fun hHeld => ?restr30_4)
              case hSr30_4 => exact ⟨(cell2 hQ.dr.box).1, (cell2 hQ.dr.box).2, (ord_cell hQ.q).1, (ord_cell hQ.q).2.1, (ord_cell hQ.q).2.2.1, (ord_cell hQ.q).2.2.2.1⟩
              clear hK K
              try simp only [Act.put, Dqd, Dqe, Dqf]
              refine wpAnyH_ready (rs := [5]) (by kernel_rfl) (by simp) ?_
              refine AllReadyH.cons (o := ?or31_5) ?hor31_5 (fun K hK => ?stepr31_5) (AllReadyH.nil)
              case hor31_5 => simp only [Dqa, Dqb, Dqc]; exact rfl
              case stepr31_5 =>
                obtain ⟨r0, r1⟩ := cell2 hQ.dr.res
                have f0 := mfree hQ.dr.res 0
                have f1 := mfree hQ.dr.res 1
                go_simp
                clear r0 r1 f0 f1
                replace hQ := hQ.put
                generalize ((wx.setCell ⟨w.heap.size, 0, none⟩ (.slice A1 n1 c1)).setCell ⟨w.heap.size, 1, none⟩ (.slice A2 n2 c2)) = wb at *
                refine hK.out _ _ ?hSr31_5 (fun hHeld => ?restr31_5)
                case hSr31_5 => exact ⟨(cell2 hQ.dr.box).1, (cell2 hQ.dr.box).2, (ord_cell hQ.q).1, (ord_cell hQ.q).2.1, (ord_cell hQ.q).2.2.1, (ord_cell hQ.q).2.2.2.1⟩
                clear hK K
                try simp only [Act.put, Dqd, Dqe, Dqf]
                refine wpAnyH_take (i := 6) (oi := ?oim32) (v := ?vm32) ?him32 (by kernel_rfl) (by kernel_rfl) (by kernel_rfl) ?hQm32 (Or.inl ⟨?hwm32, ?hym32⟩) (by assumption) ?restm32
                case him32 => simp only [Dqa, Dqb, Dqc]; exact rfl
                case hQm32 => exact fun _ _ _ h => h
                case hwm32 => rfl
                case hym32 => ((intro w hSw; (try dsimp only at hSw); go_simp) <;> with_reducible rfl)
                try simp only [Act.put, Dqd, Dqe, Dqf]
                refine wpAnyH_ready (rs := [7]) (by kernel_rfl) (by simp) ?_
                refine AllReadyH.cons (o := ?or33_7) ?hor33_7 (fun K hK => ?stepr33_7) (AllReadyH.nil)
                case hor33_7 => simp only [Dqa, Dqb, Dqc]; exact rfl
                case stepr33_7 =>
                  obtain ⟨e0, e1, e2, e3, f0, f1, f2, f3⟩ := ord_cell hQ.od
                  go_simp
                  clear e0 e1 e2 e3 f0 f1 f2 f3
                  have hOf := ord_put (u0 := .int .i64 20) (u1 := .int .i64 oa) (u2 := .int .i64 pp) (u3 := .int .i64 oq2) hQ.od
                  have hDf := hQ.dr.setO (S := w.heap.size + 1) (Nat.lt_succ_self _) hQ.far.1 (.int .i64 20) (.int .i64 oa) (.int .i64 pp) (.int .i64 oq2)
                  have hXf := ord_put_other (u0 := .int .i64 20) (u1 := .int .i64 oa) (u2 := .int .i64 pp) (u3 := .int .i64 oq2) (S := w.heap.size + 1) hQ.q (by have := hQ.far; omega)
                  refine hK.out _ _ ?hSr33_7 (fun hHeld => ?restr33_7)
                  case hSr33_7 => exact ⟨(cell2 hDf.box).1, (cell2 hDf.box).2, (ord_cell hXf).1, (ord_cell hXf).2.1, (ord_cell hXf).2.2.1, (ord_cell hXf).2.2.2.1⟩
                  clear hK K
                  try simp only [Act.put, Dqd, Dqe, Dqf]
                  refine wpAnyH_take (i := 8) (oi := ?oim34) (v := ?vm34) ?him34 (by kernel_rfl) (by kernel_rfl) (by kernel_rfl) ?hQm34 (Or.inl ⟨?hwm34, ?hym34⟩) (by assumption) ?restm34
                  case him34 => simp only [Dqa, Dqb, Dqc]; exact rfl
                  case hQm34 => exact fun _ _ _ h => h
                  case hwm34 => rfl
                  case hym34 => ((intro w hSw; (try dsimp only at hSw); go_simp) <;> with_reducible rfl)
                  try simp only [Act.put, Dqd, Dqe, Dqf]
                  refine wpAnyH_done (by kernel_rfl) ?_ _
                  clear hHeld
                  obtain ⟨g0, g1⟩ := cell2 hDf.res
                  obtain ⟨e0, e1, e2, e3, -⟩ := ord_cell hOf
                  go_wp2_with fail
                  exact bodyPost_ret (v := .tuple #[.agg #[(.slice A1 n1 c1), (.slice A2 n2 c2)], .int .i64 s, .agg #[.int .i64 20, .int .i64 oa, .int .i64 pp, .int .i64 oq2], .int .i64 md]) (by simp [results, Try.results8, go_sem, g0, g1, e0, e1, e2, e3]) rfl ⟨_, _, _, _, _, _, _, _, _, _, _, _, rfl, hn1, hn2, hDf.rows.mono (by have := hDf.far; omega), hDf.bel⟩
    · skip
      go_upto_region 9 with fail
      refine wp_region_held_drew (S := (fun _ => True)) (by kernel_rfl) ?hSm35 (fun hHeld => ?restm35)
      case hSm35 => exact trivial
      refine wpAnyH_take (i := 0) (oi := ?oim36) (v := ?vm36) ?him36 (by kernel_rfl) (by kernel_rfl) (by kernel_rfl) ?hQm36 (Or.inl ⟨?hwm36, ?hym36⟩) (by assumption) ?restm36
      case him36 => simp only [Dqa, Dqb, Dqc]; exact rfl
      case hQm36 => exact fun _ _ _ h => h
      case hwm36 => rfl
      case hym36 => ((intro w hSw; (try dsimp only at hSw); go_simp) <;> with_reducible rfl)
      try simp only [Act.put, Dqd, Dqe, Dqf]
      refine wpAnyH_take (i := 2) (oi := ?oim37) (v := ?vm37) ?him37 (by kernel_rfl) (by kernel_rfl) (by kernel_rfl) ?hQm37 (Or.inl ⟨?hwm37, ?hym37⟩) (by assumption) ?restm37
      case him37 => simp only [Dqa, Dqb, Dqc]; exact rfl
      case hQm37 => exact fun _ _ _ h => h
      case hwm37 => rfl
      case hym37 => ((intro w hSw; (try dsimp only at hSw); go_simp) <;> with_reducible rfl)
      try simp only [Act.put, Dqd, Dqe, Dqf]
      refine wpAnyH_ready (rs := [1, 3]) (by kernel_rfl) (by simp) ?_
      refine AllReadyH.cons (o := ?or38_1) ?hor38_1 (fun K hK => ?stepr38_1) (AllReadyH.cons (o := ?or38_3) ?hor38_3 (fun K hK => ?stepr38_3) (AllReadyH.nil))
      case hor38_1 => simp only [Dqa, Dqb, Dqc]; exact rfl
      case hor38_3 => simp only [Dqa, Dqb, Dqc]; exact rfl
      case stepr38_1 =>
        obtain ⟨y0, y1, y2, y3, -⟩ := ord_cell hQ.q
        go_simp
        clear y0 y1 y2 y3
        refine hK.out _ _ ?hSr38_1 (fun hHeld => ?restr38_1)
        case hSr38_1 => exact trivial
        clear hK K
        try simp only [Act.put, Dqd, Dqe, Dqf]
        refine wpAnyH_ready (rs := [3]) (by kernel_rfl) (by simp) ?_
        refine AllReadyH.cons (o := ?or39_3) ?hor39_3 (fun K hK => ?stepr39_3) (AllReadyH.nil)
        case hor39_3 => simp only [Dqa, Dqb, Dqc]; exact rfl
        case stepr39_3 =>
          replace hQ := hQ.drew
          go_simp
          refine (below_any 3 g A len cap _ _ hQ.dr.rd (hsrc _ hQ.dr.bel _ (Nat.le_of_lt hQ.dr.far.1)) hl (by omega) (by omega)).mono ?_
          rintro e w9 ⟨x, p9, x0, x1, rfl, hr9, hg9⟩
          replace hQ := hQ.step hr9 hg9
          clear hr9 hg9
          have hwr : IntKind.i64.wrap (1 + x) = 1 + x := by rw [IntKind.wrap_i64]; omega
          refine hK.out _ _ ?hSr39_3 (fun hHeld => ?restr39_3)
          case hSr39_3 => exact trivial
          clear hK K
          try simp only [Act.put, Dqd, Dqe, Dqf]
          refine wpAnyH_take (i := 4) (oi := ?oim40) (v := ?vm40) ?him40 (by kernel_rfl) (by kernel_rfl) (by kernel_rfl) ?hQm40 (Or.inl ⟨?hwm40, ?hym40⟩) (by assumption) ?restm40
          case him40 => simp only [Dqa, Dqb, Dqc]; exact rfl
          case hQm40 => exact fun _ _ _ h => h
          case hwm40 => rfl
          case hym40 => ((intro w hSw; (try dsimp only at hSw); go_simp) <;> with_reducible rfl)
          try simp only [Act.put, Dqd, Dqe, Dqf]
          refine wpAnyH_take (i := 5) (oi := ?oim41) (v := ?vm41) ?him41 (by kernel_rfl) (by kernel_rfl) (by kernel_rfl) ?hQm41 (Or.inl ⟨?hwm41, ?hym41⟩) (by assumption) ?restm41
          case him41 => simp only [Dqa, Dqb, Dqc]; exact rfl
          case hQm41 => exact fun _ _ _ h => h
          case hwm41 => rfl
          case hym41 => ((intro w hSw; (try dsimp only at hSw); go_simp) <;> with_reducible rfl)
          try simp only [Act.put, Dqd, Dqe, Dqf]
          refine wpAnyH_take (i := 6) (oi := ?oim42) (v := ?vm42) ?him42 (by kernel_rfl) (by kernel_rfl) (by kernel_rfl) ?hQm42 (Or.inl ⟨?hwm42, ?hym42⟩) (by assumption) ?restm42
          case him42 => simp only [Dqa, Dqb, Dqc]; exact rfl
          case hQm42 => exact fun _ _ _ h => h
          case hwm42 => rfl
          case hym42 => ((intro w hSw; (try dsimp only at hSw); go_simp) <;> with_reducible rfl)
          try simp only [Act.put, Dqd, Dqe, Dqf]
          refine wpAnyH_ready (rs := [7]) (by kernel_rfl) (by simp) ?_
          refine AllReadyH.cons (o := ?or43_7) ?hor43_7 (fun K hK => ?stepr43_7) (AllReadyH.nil)
          case hor43_7 => simp only [Dqa, Dqb, Dqc]; exact rfl
          case stepr43_7 =>
            obtain ⟨y0, y1, y2, y3, f0, f1, f2, f3⟩ := ord_cell hQ.q
            go_simp
            clear y0 y1 y2 y3 f0 f1 f2 f3
            replace hQ := hQ.set3 (IntKind.i64.wrap (oq * (1 + x)))
            generalize w9.setCell ⟨X, 3, none⟩ (.int .i64 (IntKind.i64.wrap (oq * (1 + x)))) = wa at *
            refine hK.out _ _ ?hSr43_7 (fun hHeld => ?restr43_7)
            case hSr43_7 => exact trivial
            clear hK K
            try simp only [Act.put, Dqd, Dqe, Dqf]
            refine wpAnyH_done (by kernel_rfl) ?_ _
            clear hHeld hwr
            generalize IntKind.i64.wrap (oq * (1 + x)) = oq2 at *
            go_upto_region 10 with fail
            obtain ⟨b0, b1⟩ := cell2 hQ.dr.box
            obtain ⟨y0, y1, y2, y3, -⟩ := ord_cell hQ.q
            have hSt : _ ∧ _ ∧ _ ∧ _ ∧ _ ∧ _ := ⟨b0, b1, y0, y1, y2, y3⟩
            replace hQ := hQ.drew
            refine wp_region_held_drew (S := (fun w' => w'.cell? ⟨T, 0, none⟩ = some (.slice A1 n1 c1) ∧ w'.cell? ⟨T, 1, none⟩ = some (.slice A2 n2 c2) ∧ w'.cell? ⟨X, 0, none⟩ = some (.int .i64 20) ∧ w'.cell? ⟨X, 1, none⟩ = some (.int .i64 oa) ∧ w'.cell? ⟨X, 2, none⟩ = some (.int .i64 op) ∧ w'.cell? ⟨X, 3, none⟩ = some (.int .i64 oq2))) (by kernel_rfl) ?hSm44 (fun hHeld => ?restm44)
            case hSm44 => exact hSt
            refine wpAnyH_take (i := 0) (oi := ?oim45) (v := ?vm45) ?him45 (by kernel_rfl) (by kernel_rfl) (by kernel_rfl) ?hQm45 (Or.inl ⟨?hwm45, ?hym45⟩) (by assumption) ?restm45
            case him45 => simp only [Dqa, Dqb, Dqc]; exact rfl
            case hQm45 => exact fun _ _ _ h => h
            case hwm45 => rfl
            case hym45 => ((intro w hSw; (try dsimp only at hSw); go_simp) <;> with_reducible rfl)
            try simp only [Act.put, Dqd, Dqe, Dqf]
            refine wpAnyH_take (i := 1) (oi := ?oim46) (v := ?vm46) ?him46 (by kernel_rfl) (by kernel_rfl) (by kernel_rfl) ?hQm46 (Or.inl ⟨?hwm46, ?hym46⟩) (by assumption) ?restm46
            case him46 => simp only [Dqa, Dqb, Dqc]; exact rfl
            case hQm46 => exact fun _ _ _ h => h
            case hwm46 => rfl
            case hym46 => ((intro w hSw; (try dsimp only at hSw); go_simp) <;> with_reducible rfl)
            try simp only [Act.put, Dqd, Dqe, Dqf]
            refine wpAnyH_take (i := 2) (oi := ?oim47) (v := ?vm47) ?him47 (by kernel_rfl) (by kernel_rfl) (by kernel_rfl) ?hQm47 (Or.inl ⟨?hwm47, ?hym47⟩) (by assumption) ?restm47
            case him47 => simp only [Dqa, Dqb, Dqc]; exact rfl
            case hQm47 => exact fun _ _ _ h => h
            case hwm47 => rfl
            case hym47 => ((intro w hSw; (try dsimp only at hSw); go_simp) <;> with_reducible rfl)
            try simp only [Act.put, Dqd, Dqe, Dqf]
            refine wpAnyH_take (i := 3) (oi := ?oim48) (v := ?vm48) ?him48 (by kernel_rfl) (by kernel_rfl) (by kernel_rfl) ?hQm48 (Or.inl ⟨?hwm48, ?hym48⟩) (by assumption) ?restm48
            case him48 => simp only [Dqa, Dqb, Dqc]; exact rfl
            case hQm48 => exact fun _ _ _ h => h
            case hwm48 => rfl
            case hym48 => ((intro w hSw; (try dsimp only at hSw); go_simp) <;> with_reducible rfl)
            try simp only [Act.put, Dqd, Dqe, Dqf]
            refine wpAnyH_ready (rs := [4]) (by kernel_rfl) (by simp) ?_
            refine AllReadyH.cons (o := ?or49_4) ?hor49_4 (fun K hK => ?stepr49_4) (AllReadyH.nil)
            case hor49_4 => simp only [Dqa, Dqb, Dqc]; exact rfl
            case stepr49_4 =>
              go_simp
              refine (off_any 1 3 g A len cap _ _ hQ.dr.rd (hsrc _ hQ.dr.bel _ (Nat.le_of_lt hQ.dr.far.1)) hl (by omega) (by omega) (by omega)).mono ?_
              rintro e wx ⟨md, px, hx, rfl, hrx, hgx⟩
              replace hQ := hQ.step hrx hgx
              clear hrx hgx
              refine hK.out _ _ ?hSr49_4 (fun hHeld => ?restr49_4)
              case hSr49_4 => exact ⟨(cell2 hQ.dr.box).1, (cell2 hQ.dr.box).2, (ord_cell hQ.q).1, (ord_cell hQ.q).2.1, (ord_cell hQ.q).2.2.1, (ord_cell hQ.q).2.2.2.1⟩
              clear hK K
              try simp only [Act.put, Dqd, Dqe, Dqf]
              refine wpAnyH_ready (rs := [5]) (by kernel_rfl) (by simp) ?_
              refine AllReadyH.cons (o := ?or50_5) ?hor50_5 (fun K hK => ?stepr50_5) (AllReadyH.nil)
              case hor50_5 => simp only [Dqa, Dqb, Dqc]; exact rfl
              case stepr50_5 =>
                obtain ⟨r0, r1⟩ := cell2 hQ.dr.res
                have f0 := mfree hQ.dr.res 0
                have f1 := mfree hQ.dr.res 1
                go_simp
                clear r0 r1 f0 f1
                replace hQ := hQ.put
                generalize ((wx.setCell ⟨w.heap.size, 0, none⟩ (.slice A1 n1 c1)).setCell ⟨w.heap.size, 1, none⟩ (.slice A2 n2 c2)) = wb at *
                refine hK.out _ _ ?hSr50_5 (fun hHeld => ?restr50_5)
                case hSr50_5 => exact ⟨(cell2 hQ.dr.box).1, (cell2 hQ.dr.box).2, (ord_cell hQ.q).1, (ord_cell hQ.q).2.1, (ord_cell hQ.q).2.2.1, (ord_cell hQ.q).2.2.2.1⟩
                clear hK K
                try simp only [Act.put, Dqd, Dqe, Dqf]
                refine wpAnyH_take (i := 6) (oi := ?oim51) (v := ?vm51) ?him51 (by kernel_rfl) (by kernel_rfl) (by kernel_rfl) ?hQm51 (Or.inl ⟨?hwm51, ?hym51⟩) (by assumption) ?restm51
                case him51 => simp only [Dqa, Dqb, Dqc]; exact rfl
                case hQm51 => exact fun _ _ _ h => h
                case hwm51 => rfl
                case hym51 => ((intro w hSw; (try dsimp only at hSw); go_simp) <;> with_reducible rfl)
                try simp only [Act.put, Dqd, Dqe, Dqf]
                refine wpAnyH_ready (rs := [7]) (by kernel_rfl) (by simp) ?_
                refine AllReadyH.cons (o := ?or52_7) ?hor52_7 (fun K hK => ?stepr52_7) (AllReadyH.nil)
                case hor52_7 => simp only [Dqa, Dqb, Dqc]; exact rfl
                case stepr52_7 =>
                  obtain ⟨e0, e1, e2, e3, f0, f1, f2, f3⟩ := ord_cell hQ.od
                  go_simp
                  clear e0 e1 e2 e3 f0 f1 f2 f3
                  have hOf := ord_put (u0 := .int .i64 20) (u1 := .int .i64 oa) (u2 := .int .i64 op) (u3 := .int .i64 oq2) hQ.od
                  have hDf := hQ.dr.setO (S := w.heap.size + 1) (Nat.lt_succ_self _) hQ.far.1 (.int .i64 20) (.int .i64 oa) (.int .i64 op) (.int .i64 oq2)
                  have hXf := ord_put_other (u0 := .int .i64 20) (u1 := .int .i64 oa) (u2 := .int .i64 op) (u3 := .int .i64 oq2) (S := w.heap.size + 1) hQ.q (by have := hQ.far; omega)
                  refine hK.out _ _ ?hSr52_7 (fun hHeld => ?restr52_7)
                  case hSr52_7 => exact ⟨(cell2 hDf.box).1, (cell2 hDf.box).2, (ord_cell hXf).1, (ord_cell hXf).2.1, (ord_cell hXf).2.2.1, (ord_cell hXf).2.2.2.1⟩
                  clear hK K
                  try simp only [Act.put, Dqd, Dqe, Dqf]
                  refine wpAnyH_take (i := 8) (oi := ?oim53) (v := ?vm53) ?him53 (by kernel_rfl) (by kernel_rfl) (by kernel_rfl) ?hQm53 (Or.inl ⟨?hwm53, ?hym53⟩) (by assumption) ?restm53
                  case him53 => simp only [Dqa, Dqb, Dqc]; exact rfl
                  case hQm53 => exact fun _ _ _ h => h
                  case hwm53 => rfl
                  case hym53 => ((intro w hSw; (try dsimp only at hSw); go_simp) <;> with_reducible rfl)
                  try simp only [Act.put, Dqd, Dqe, Dqf]
                  refine wpAnyH_done (by kernel_rfl) ?_ _
                  clear hHeld
                  obtain ⟨g0, g1⟩ := cell2 hDf.res
                  obtain ⟨e0, e1, e2, e3, -⟩ := ord_cell hOf
                  go_wp2_with fail
                  exact bodyPost_ret (v := .tuple #[.agg #[(.slice A1 n1 c1), (.slice A2 n2 c2)], .int .i64 s, .agg #[.int .i64 20, .int .i64 oa, .int .i64 op, .int .i64 oq2], .int .i64 md]) (by simp [results, Try.results8, go_sem, g0, g1, e0, e1, e2, e3]) rfl ⟨_, _, _, _, _, _, _, _, _, _, _, _, rfl, hn1, hn2, hDf.rows.mono (by have := hDf.far; omega), hDf.bel⟩
      case stepr38_3 =>
        replace hQ := hQ.drew
        go_simp
        refine (below_any 3 g A len cap _ _ hQ.dr.rd (hsrc _ hQ.dr.bel _ (Nat.le_of_lt hQ.dr.far.1)) hl (by omega) (by omega)).mono ?_
        rintro e w9 ⟨x, p9, x0, x1, rfl, hr9, hg9⟩
        replace hQ := hQ.step hr9 hg9
        clear hr9 hg9
        have hwr : IntKind.i64.wrap (1 + x) = 1 + x := by rw [IntKind.wrap_i64]; omega
        refine hK.out _ _ ?hSr38_3 (fun hHeld => ?restr38_3)
        case hSr38_3 => exact trivial
        clear hK K
        try simp only [Act.put, Dqd, Dqe, Dqf]
        refine wpAnyH_take (i := 4) (oi := ?oim54) (v := ?vm54) ?him54 (by kernel_rfl) (by kernel_rfl) (by kernel_rfl) ?hQm54 (Or.inl ⟨?hwm54, ?hym54⟩) (by assumption) ?restm54
        case him54 => simp only [Dqa, Dqb, Dqc]; exact rfl
        case hQm54 => exact fun _ _ _ h => h
        case hwm54 => rfl
        case hym54 => ((intro w hSw; (try dsimp only at hSw); go_simp) <;> with_reducible rfl)
        try simp only [Act.put, Dqd, Dqe, Dqf]
        refine wpAnyH_ready (rs := [1]) (by kernel_rfl) (by simp) ?_
        refine AllReadyH.cons (o := ?or55_1) ?hor55_1 (fun K hK => ?stepr55_1) (AllReadyH.nil)
        case hor55_1 => simp only [Dqa, Dqb, Dqc]; exact rfl
        case stepr55_1 =>
          obtain ⟨y0, y1, y2, y3, -⟩ := ord_cell hQ.q
          go_simp
          clear y0 y1 y2 y3
          refine hK.out _ _ ?hSr55_1 (fun hHeld => ?restr55_1)
          case hSr55_1 => exact trivial
          clear hK K
          try simp only [Act.put, Dqd, Dqe, Dqf]
          refine wpAnyH_take (i := 5) (oi := ?oim56) (v := ?vm56) ?him56 (by kernel_rfl) (by kernel_rfl) (by kernel_rfl) ?hQm56 (Or.inl ⟨?hwm56, ?hym56⟩) (by assumption) ?restm56
          case him56 => simp only [Dqa, Dqb, Dqc]; exact rfl
          case hQm56 => exact fun _ _ _ h => h
          case hwm56 => rfl
          case hym56 => ((intro w hSw; (try dsimp only at hSw); go_simp) <;> with_reducible rfl)
          try simp only [Act.put, Dqd, Dqe, Dqf]
          refine wpAnyH_take (i := 6) (oi := ?oim57) (v := ?vm57) ?him57 (by kernel_rfl) (by kernel_rfl) (by kernel_rfl) ?hQm57 (Or.inl ⟨?hwm57, ?hym57⟩) (by assumption) ?restm57
          case him57 => simp only [Dqa, Dqb, Dqc]; exact rfl
          case hQm57 => exact fun _ _ _ h => h
          case hwm57 => rfl
          case hym57 => ((intro w hSw; (try dsimp only at hSw); go_simp) <;> with_reducible rfl)
          try simp only [Act.put, Dqd, Dqe, Dqf]
          refine wpAnyH_ready (rs := [7]) (by kernel_rfl) (by simp) ?_
          refine AllReadyH.cons (o := ?or58_7) ?hor58_7 (fun K hK => ?stepr58_7) (AllReadyH.nil)
          case hor58_7 => simp only [Dqa, Dqb, Dqc]; exact rfl
          case stepr58_7 =>
            obtain ⟨y0, y1, y2, y3, f0, f1, f2, f3⟩ := ord_cell hQ.q
            go_simp
            clear y0 y1 y2 y3 f0 f1 f2 f3
            replace hQ := hQ.set3 (IntKind.i64.wrap (oq * (1 + x)))
            generalize w9.setCell ⟨X, 3, none⟩ (.int .i64 (IntKind.i64.wrap (oq * (1 + x)))) = wa at *
            refine hK.out _ _ ?hSr58_7 (fun hHeld => ?restr58_7)
            case hSr58_7 => exact trivial
            clear hK K
            try simp only [Act.put, Dqd, Dqe, Dqf]
            refine wpAnyH_done (by kernel_rfl) ?_ _
            clear hHeld hwr
            generalize IntKind.i64.wrap (oq * (1 + x)) = oq2 at *
            go_upto_region 10 with fail
            obtain ⟨b0, b1⟩ := cell2 hQ.dr.box
            obtain ⟨y0, y1, y2, y3, -⟩ := ord_cell hQ.q
            have hSt : _ ∧ _ ∧ _ ∧ _ ∧ _ ∧ _ := ⟨b0, b1, y0, y1, y2, y3⟩
            replace hQ := hQ.drew
            refine wp_region_held_drew (S := (fun w' => w'.cell? ⟨T, 0, none⟩ = some (.slice A1 n1 c1) ∧ w'.cell? ⟨T, 1, none⟩ = some (.slice A2 n2 c2) ∧ w'.cell? ⟨X, 0, none⟩ = some (.int .i64 20) ∧ w'.cell? ⟨X, 1, none⟩ = some (.int .i64 oa) ∧ w'.cell? ⟨X, 2, none⟩ = some (.int .i64 op) ∧ w'.cell? ⟨X, 3, none⟩ = some (.int .i64 oq2))) (by kernel_rfl) ?hSm59 (fun hHeld => ?restm59)
            case hSm59 => exact hSt
            refine wpAnyH_take (i := 0) (oi := ?oim60) (v := ?vm60) ?him60 (by kernel_rfl) (by kernel_rfl) (by kernel_rfl) ?hQm60 (Or.inl ⟨?hwm60, ?hym60⟩) (by assumption) ?restm60
            case him60 => simp only [Dqa, Dqb, Dqc]; exact rfl
            case hQm60 => exact fun _ _ _ h => h
            case hwm60 => rfl
            case hym60 => ((intro w hSw; (try dsimp only at hSw); go_simp) <;> with_reducible rfl)
            try simp only [Act.put, Dqd, Dqe, Dqf]
            refine wpAnyH_take (i := 1) (oi := ?oim61) (v := ?vm61) ?him61 (by kernel_rfl) (by kernel_rfl) (by kernel_rfl) ?hQm61 (Or.inl ⟨?hwm61, ?hym61⟩) (by assumption) ?restm61
            case him61 => simp only [Dqa, Dqb, Dqc]; exact rfl
            case hQm61 => exact fun _ _ _ h => h
            case hwm61 => rfl
            case hym61 => ((intro w hSw; (try dsimp only at hSw); go_simp) <;> with_reducible rfl)
            try simp only [Act.put, Dqd, Dqe, Dqf]
            refine wpAnyH_take (i := 2) (oi := ?oim62) (v := ?vm62) ?him62 (by kernel_rfl) (by kernel_rfl) (by kernel_rfl) ?hQm62 (Or.inl ⟨?hwm62, ?hym62⟩) (by assumption) ?restm62
            case him62 => simp only [Dqa, Dqb, Dqc]; exact rfl
            case hQm62 => exact fun _ _ _ h => h
            case hwm62 => rfl
            case hym62 => ((intro w hSw; (try dsimp only at hSw); go_simp) <;> with_reducible rfl)
            try simp only [Act.put, Dqd, Dqe, Dqf]
            refine wpAnyH_take (i := 3) (oi := ?oim63) (v := ?vm63) ?him63 (by kernel_rfl) (by kernel_rfl) (by kernel_rfl) ?hQm63 (Or.inl ⟨?hwm63, ?hym63⟩) (by assumption) ?restm63
            case him63 => simp only [Dqa, Dqb, Dqc]; exact rfl
            case hQm63 => exact fun _ _ _ h => h
            case hwm63 => rfl
            case hym63 => ((intro w hSw; (try dsimp only at hSw); go_simp) <;> with_reducible rfl)
            try simp only [Act.put, Dqd, Dqe, Dqf]
            refine wpAnyH_ready (rs := [4]) (by kernel_rfl) (by simp) ?_
            refine AllReadyH.cons (o := ?or64_4) ?hor64_4 (fun K hK => ?stepr64_4) (AllReadyH.nil)
            case hor64_4 => simp only [Dqa, Dqb, Dqc]; exact rfl
            case stepr64_4 =>
              go_simp
              refine (off_any 1 3 g A len cap _ _ hQ.dr.rd (hsrc _ hQ.dr.bel _ (Nat.le_of_lt hQ.dr.far.1)) hl (by omega) (by omega) (by omega)).mono ?_
              rintro e wx ⟨md, px, hx, rfl, hrx, hgx⟩
              replace hQ := hQ.step hrx hgx
              clear hrx hgx
              refine hK.out _ _ ?hSr64_4 (fun hHeld => ?restr64_4)
              case hSr64_4 => exact ⟨(cell2 hQ.dr.box).1, (cell2 hQ.dr.box).2, (ord_cell hQ.q).1, (ord_cell hQ.q).2.1, (ord_cell hQ.q).2.2.1, (ord_cell hQ.q).2.2.2.1⟩
              clear hK K
              try simp only [Act.put, Dqd, Dqe, Dqf]
              refine wpAnyH_ready (rs := [5]) (by kernel_rfl) (by simp) ?_
              refine AllReadyH.cons (o := ?or65_5) ?hor65_5 (fun K hK => ?stepr65_5) (AllReadyH.nil)
              case hor65_5 => simp only [Dqa, Dqb, Dqc]; exact rfl
              case stepr65_5 =>
                obtain ⟨r0, r1⟩ := cell2 hQ.dr.res
                have f0 := mfree hQ.dr.res 0
                have f1 := mfree hQ.dr.res 1
                go_simp
                clear r0 r1 f0 f1
                replace hQ := hQ.put
                generalize ((wx.setCell ⟨w.heap.size, 0, none⟩ (.slice A1 n1 c1)).setCell ⟨w.heap.size, 1, none⟩ (.slice A2 n2 c2)) = wb at *
                refine hK.out _ _ ?hSr65_5 (fun hHeld => ?restr65_5)
                case hSr65_5 => exact ⟨(cell2 hQ.dr.box).1, (cell2 hQ.dr.box).2, (ord_cell hQ.q).1, (ord_cell hQ.q).2.1, (ord_cell hQ.q).2.2.1, (ord_cell hQ.q).2.2.2.1⟩
                clear hK K
                try simp only [Act.put, Dqd, Dqe, Dqf]
                refine wpAnyH_take (i := 6) (oi := ?oim66) (v := ?vm66) ?him66 (by kernel_rfl) (by kernel_rfl) (by kernel_rfl) ?hQm66 (Or.inl ⟨?hwm66, ?hym66⟩) (by assumption) ?restm66
                case him66 => simp only [Dqa, Dqb, Dqc]; exact rfl
                case hQm66 => exact fun _ _ _ h => h
                case hwm66 => rfl
                case hym66 => ((intro w hSw; (try dsimp only at hSw); go_simp) <;> with_reducible rfl)
                try simp only [Act.put, Dqd, Dqe, Dqf]
                refine wpAnyH_ready (rs := [7]) (by kernel_rfl) (by simp) ?_
                refine AllReadyH.cons (o := ?or67_7) ?hor67_7 (fun K hK => ?stepr67_7) (AllReadyH.nil)
                case hor67_7 => simp only [Dqa, Dqb, Dqc]; exact rfl
                case stepr67_7 =>
                  obtain ⟨e0, e1, e2, e3, f0, f1, f2, f3⟩ := ord_cell hQ.od
                  go_simp
                  clear e0 e1 e2 e3 f0 f1 f2 f3
                  have hOf := ord_put (u0 := .int .i64 20) (u1 := .int .i64 oa) (u2 := .int .i64 op) (u3 := .int .i64 oq2) hQ.od
                  have hDf := hQ.dr.setO (S := w.heap.size + 1) (Nat.lt_succ_self _) hQ.far.1 (.int .i64 20) (.int .i64 oa) (.int .i64 op) (.int .i64 oq2)
                  have hXf := ord_put_other (u0 := .int .i64 20) (u1 := .int .i64 oa) (u2 := .int .i64 op) (u3 := .int .i64 oq2) (S := w.heap.size + 1) hQ.q (by have := hQ.far; omega)
                  refine hK.out _ _ ?hSr67_7 (fun hHeld => ?restr67_7)
                  case hSr67_7 => exact ⟨(cell2 hDf.box).1, (cell2 hDf.box).2, (ord_cell hXf).1, (ord_cell hXf).2.1, (ord_cell hXf).2.2.1, (ord_cell hXf).2.2.2.1⟩
                  clear hK K
                  try simp only [Act.put, Dqd, Dqe, Dqf]
                  refine wpAnyH_take (i := 8) (oi := ?oim68) (v := ?vm68) ?him68 (by kernel_rfl) (by kernel_rfl) (by kernel_rfl) ?hQm68 (Or.inl ⟨?hwm68, ?hym68⟩) (by assumption) ?restm68
                  case him68 => simp only [Dqa, Dqb, Dqc]; exact rfl
                  case hQm68 => exact fun _ _ _ h => h
                  case hwm68 => rfl
                  case hym68 => ((intro w hSw; (try dsimp only at hSw); go_simp) <;> with_reducible rfl)
                  try simp only [Act.put, Dqd, Dqe, Dqf]
                  refine wpAnyH_done (by kernel_rfl) ?_ _
                  clear hHeld
                  obtain ⟨g0, g1⟩ := cell2 hDf.res
                  obtain ⟨e0, e1, e2, e3, -⟩ := ord_cell hOf
                  go_wp2_with fail
                  exact bodyPost_ret (v := .tuple #[.agg #[(.slice A1 n1 c1), (.slice A2 n2 c2)], .int .i64 s, .agg #[.int .i64 20, .int .i64 oa, .int .i64 op, .int .i64 oq2], .int .i64 md]) (by simp [results, Try.results8, go_sem, g0, g1, e0, e1, e2, e3]) rfl ⟨_, _, _, _, _, _, _, _, _, _, _, _, rfl, hn1, hn2, hDf.rows.mono (by have := hDf.far; omega), hDf.bel⟩
  · clear y0 y1 y2 y3 f0 f1 f2 f3
    go_wp2_with fail
    refine (once_any 3 g A len cap _ _ hQ.dr.rd (hsrc _ hQ.dr.bel _ (Nat.le_of_lt hQ.dr.far.1)) hl (by omega) (by omega)).mono ?_
    rintro e w8 ⟨bb, p6, rfl, hrx, hgx⟩
    replace hQ := hQ.step hrx hgx
    clear hrx hgx
    cases bb
    · have hba : Below w8.heap.size w8 (w8.alloc (.cells #[.int .i64 104, .int .i64 96, .int .i64 0] 2)) := (Below.refl _ _).alloc (Nat.le_refl _) _
      have kA := heap_alloc_new w8 (.cells #[.int .i64 104, .int .i64 96, .int .i64 0] 2)
      replace hQ := hQ.later hba
      clear hba
      go_wp2_with fail
      generalize w8.alloc (.cells #[.int .i64 104, .int .i64 96, .int .i64 0] 2) = wA at *
      have hAl := heap_lt' kA
      generalize hAB : w8.heap.size = B at *
      clear hAB
      have hBg : g ≠ B := fun e => by have h1 := hQ.dr.rd.2; rw [e, kA] at h1; simp at h1
      refine (below_any 3 g A len cap _ _ hQ.dr.rd (hsrc _ hQ.dr.bel _ (Nat.le_of_lt hQ.dr.far.1)) hl (by omega) (by omega)).mono ?_
      rintro e wB ⟨t, p7, t0, t1, rfl, hr7, hg7⟩
      replace kA := (hg7.block B hAl (fun e => by injection e with e; exact hBg e.symm)).trans kA
      replace hQ := hQ.step hr7 hg7
      clear hr7 hg7
      obtain ⟨tk, rfl⟩ := Int.eq_ofNat_of_zero_le t0
      have htk : tk < 3 := by omega
      obtain ⟨pp, hpp⟩ : ∃ pp : Int, wB.cell? ⟨B, tk, none⟩ = some (.int .i64 pp) := by
        rcases (show tk = 0 ∨ tk = 1 ∨ tk = 2 by omega) with rfl | rfl | rfl
        · exact ⟨104, by simp [World.cell?, kA]⟩
        · exact ⟨96, by simp [World.cell?, kA]⟩
        · exact ⟨0, by simp [World.cell?, kA]⟩
      have htk2 : (tk : Int) < 3 := by omega
      obtain ⟨y0, y1, y2, y3, f0, f1, f2, f3⟩ := ord_cell hQ.q
      have hQ2 := Lib.hid (hQ.set2 pp)
      clear kA
      go_upto_region 9 with fail
      clear y0 y1 y2 y3 f0 f1 f2 f3 hpp
      replace hQ := hQ2.out
      clear hQ2
      generalize (wB.setCell ⟨X, 2, none⟩ (.int .i64 pp)) = w9a at *
      go_upto_region 9 with fail
      refine wp_region_held_drew (S := (fun _ => True)) (by kernel_rfl) ?hSm69 (fun hHeld => ?restm69)
      case hSm69 => exact trivial
      refine wpAnyH_take (i := 0) (oi := ?oim70) (v := ?vm70) ?him70 (by kernel_rfl) (by kernel_rfl) (by kernel_rfl) ?hQm70 (Or.inl ⟨?hwm70, ?hym70⟩) (by assumption) ?restm70
      case him70 => simp only [Dqa, Dqb, Dqc]; exact rfl
      case hQm70 => exact fun _ _ _ h => h
      case hwm70 => rfl
      case hym70 => ((intro w hSw; (try dsimp only at hSw); go_simp) <;> with_reducible rfl)
      try simp only [Act.put, Dqd, Dqe, Dqf]
      refine wpAnyH_take (i := 2) (oi := ?oim71) (v := ?vm71) ?him71 (by kernel_rfl) (by kernel_rfl) (by kernel_rfl) ?hQm71 (Or.inl ⟨?hwm71, ?hym71⟩) (by assumption) ?restm71
      case him71 => simp only [Dqa, Dqb, Dqc]; exact rfl
      case hQm71 => exact fun _ _ _ h => h
      case hwm71 => rfl
      case hym71 => ((intro w hSw; (try dsimp only at hSw); go_simp) <;> with_reducible rfl)
      try simp only [Act.put, Dqd, Dqe, Dqf]
      refine wpAnyH_ready (rs := [1, 3]) (by kernel_rfl) (by simp) ?_
      refine AllReadyH.cons (o := ?or72_1) ?hor72_1 (fun K hK => ?stepr72_1) (AllReadyH.cons (o := ?or72_3) ?hor72_3 (fun K hK => ?stepr72_3) (AllReadyH.nil))
      case hor72_1 => simp only [Dqa, Dqb, Dqc]; exact rfl
      case hor72_3 => simp only [Dqa, Dqb, Dqc]; exact rfl
      case stepr72_1 =>
        obtain ⟨y0, y1, y2, y3, -⟩ := ord_cell hQ.q
        go_simp
        clear y0 y1 y2 y3
        refine hK.out _ _ ?hSr72_1 (fun hHeld => ?restr72_1)
        case hSr72_1 => exact trivial
        clear hK K
        try simp only [Act.put, Dqd, Dqe, Dqf]
        refine wpAnyH_ready (rs := [3]) (by kernel_rfl) (by simp) ?_
        refine AllReadyH.cons (o := ?or73_3) ?hor73_3 (fun K hK => ?stepr73_3) (AllReadyH.nil)
        case hor73_3 => simp only [Dqa, Dqb, Dqc]; exact rfl
        case stepr73_3 =>
          replace hQ := hQ.drew
          go_simp
          refine (below_any 3 g A len cap _ _ hQ.dr.rd (hsrc _ hQ.dr.bel _ (Nat.le_of_lt hQ.dr.far.1)) hl (by omega) (by omega)).mono ?_
          rintro e w9 ⟨x, p9, x0, x1, rfl, hr9, hg9⟩
          replace hQ := hQ.step hr9 hg9
          clear hr9 hg9
          have hwr : IntKind.i64.wrap (1 + x) = 1 + x := by rw [IntKind.wrap_i64]; omega
          refine hK.out _ _ ?hSr73_3 (fun hHeld => ?restr73_3)
          case hSr73_3 => exact trivial
          clear hK K
          try simp only [Act.put, Dqd, Dqe, Dqf]
          refine wpAnyH_take (i := 4) (oi := ?oim74) (v := ?vm74) ?him74 (by kernel_rfl) (by kernel_rfl) (by kernel_rfl) ?hQm74 (Or.inl ⟨?hwm74, ?hym74⟩) (by assumption) ?restm74
          case him74 => simp only [Dqa, Dqb, Dqc]; exact rfl
          case hQm74 => exact fun _ _ _ h => h
          case hwm74 => rfl
          case hym74 => ((intro w hSw; (try dsimp only at hSw); go_simp) <;> with_reducible rfl)
          try simp only [Act.put, Dqd, Dqe, Dqf]
          refine wpAnyH_take (i := 5) (oi := ?oim75) (v := ?vm75) ?him75 (by kernel_rfl) (by kernel_rfl) (by kernel_rfl) ?hQm75 (Or.inl ⟨?hwm75, ?hym75⟩) (by assumption) ?restm75
          case him75 => simp only [Dqa, Dqb, Dqc]; exact rfl
          case hQm75 => exact fun _ _ _ h => h
          case hwm75 => rfl
          case hym75 => ((intro w hSw; (try dsimp only at hSw); go_simp) <;> with_reducible rfl)
          try simp only [Act.put, Dqd, Dqe, Dqf]
          refine wpAnyH_take (i := 6) (oi := ?oim76) (v := ?vm76) ?him76 (by kernel_rfl) (by kernel_rfl) (by kernel_rfl) ?hQm76 (Or.inl ⟨?hwm76, ?hym76⟩) (by assumption) ?restm76
          case him76 => simp only [Dqa, Dqb, Dqc]; exact rfl
          case hQm76 => exact fun _ _ _ h => h
          case hwm76 => rfl
          case hym76 => ((intro w hSw; (try dsimp only at hSw); go_simp) <;> with_reducible rfl)
          try simp only [Act.put, Dqd, Dqe, Dqf]
          refine wpAnyH_ready (rs := [7]) (by kernel_rfl) (by simp) ?_
          refine AllReadyH.cons (o := ?or77_7) ?hor77_7 (fun K hK => ?stepr77_7) (AllReadyH.nil)
          case hor77_7 => simp only [Dqa, Dqb, Dqc]; exact rfl
          case stepr77_7 =>
            obtain ⟨y0, y1, y2, y3, f0, f1, f2, f3⟩ := ord_cell hQ.q
            go_simp
            clear y0 y1 y2 y3 f0 f1 f2 f3
            replace hQ := hQ.set3 (IntKind.i64.wrap (oq * (1 + x)))
            generalize w9.setCell ⟨X, 3, none⟩ (.int .i64 (IntKind.i64.wrap (oq * (1 + x)))) = wa at *
            refine hK.out _ _ ?hSr77_7 (fun hHeld => ?restr77_7)
            case hSr77_7 => exact trivial
            clear hK K
            try simp only [Act.put, Dqd, Dqe, Dqf]
            refine wpAnyH_done (by kernel_rfl) ?_ _
            clear hHeld hwr
            generalize IntKind.i64.wrap (oq * (1 + x)) = oq2 at *
            go_upto_region 10 with fail
            obtain ⟨b0, b1⟩ := cell2 hQ.dr.box
            obtain ⟨y0, y1, y2, y3, -⟩ := ord_cell hQ.q
            have hSt : _ ∧ _ ∧ _ ∧ _ ∧ _ ∧ _ := ⟨b0, b1, y0, y1, y2, y3⟩
            replace hQ := hQ.drew
            refine wp_region_held_drew (S := (fun w' => w'.cell? ⟨T, 0, none⟩ = some (.slice A1 n1 c1) ∧ w'.cell? ⟨T, 1, none⟩ = some (.slice A2 n2 c2) ∧ w'.cell? ⟨X, 0, none⟩ = some (.int .i64 oi) ∧ w'.cell? ⟨X, 1, none⟩ = some (.int .i64 oa) ∧ w'.cell? ⟨X, 2, none⟩ = some (.int .i64 pp) ∧ w'.cell? ⟨X, 3, none⟩ = some (.int .i64 oq2))) (by kernel_rfl) ?hSm78 (fun hHeld => ?restm78)
            case hSm78 => exact hSt
            refine wpAnyH_take (i := 0) (oi := ?oim79) (v := ?vm79) ?him79 (by kernel_rfl) (by kernel_rfl) (by kernel_rfl) ?hQm79 (Or.inl ⟨?hwm79, ?hym79⟩) (by assumption) ?restm79
            case him79 => simp only [Dqa, Dqb, Dqc]; exact rfl
            case hQm79 => exact fun _ _ _ h => h
            case hwm79 => rfl
            case hym79 => ((intro w hSw; (try dsimp only at hSw); go_simp) <;> with_reducible rfl)
            try simp only [Act.put, Dqd, Dqe, Dqf]
            refine wpAnyH_take (i := 1) (oi := ?oim80) (v := ?vm80) ?him80 (by kernel_rfl) (by kernel_rfl) (by kernel_rfl) ?hQm80 (Or.inl ⟨?hwm80, ?hym80⟩) (by assumption) ?restm80
            case him80 => simp only [Dqa, Dqb, Dqc]; exact rfl
            case hQm80 => exact fun _ _ _ h => h
            case hwm80 => rfl
            case hym80 => ((intro w hSw; (try dsimp only at hSw); go_simp) <;> with_reducible rfl)
            try simp only [Act.put, Dqd, Dqe, Dqf]
            refine wpAnyH_take (i := 2) (oi := ?oim81) (v := ?vm81) ?him81 (by kernel_rfl) (by kernel_rfl) (by kernel_rfl) ?hQm81 (Or.inl ⟨?hwm81, ?hym81⟩) (by assumption) ?restm81
            case him81 => simp only [Dqa, Dqb, Dqc]; exact rfl
            case hQm81 => exact fun _ _ _ h => h
            case hwm81 => rfl
            case hym81 => ((intro w hSw; (try dsimp only at hSw); go_simp) <;> with_reducible rfl)
            try simp only [Act.put, Dqd, Dqe, Dqf]
            refine wpAnyH_take (i := 3) (oi := ?oim82) (v := ?vm82) ?him82 (by kernel_rfl) (by kernel_rfl) (by kernel_rfl) ?hQm82 (Or.inl ⟨?hwm82, ?hym82⟩) (by assumption) ?restm82
            case him82 => simp only [Dqa, Dqb, Dqc]; exact rfl
            case hQm82 => exact fun _ _ _ h => h
            case hwm82 => rfl
            case hym82 => ((intro w hSw; (try dsimp only at hSw); go_simp) <;> with_reducible rfl)
            try simp only [Act.put, Dqd, Dqe, Dqf]
            refine wpAnyH_ready (rs := [4]) (by kernel_rfl) (by simp) ?_
            refine AllReadyH.cons (o := ?or83_4) ?hor83_4 (fun K hK => ?stepr83_4) (AllReadyH.nil)
            case hor83_4 => simp only [Dqa, Dqb, Dqc]; exact rfl
            case stepr83_4 =>
              go_simp
              refine (off_any 1 3 g A len cap _ _ hQ.dr.rd (hsrc _ hQ.dr.bel _ (Nat.le_of_lt hQ.dr.far.1)) hl (by omega) (by omega) (by omega)).mono ?_
              rintro e wx ⟨md, px, hx, rfl, hrx, hgx⟩
              replace hQ := hQ.step hrx hgx
              clear hrx hgx
              refine hK.out _ _ ?hSr83_4 (fun hHeld => ?restr83_4)
              case hSr83_4 => exact ⟨(cell2 hQ.dr.box).1, (cell2 hQ.dr.box).2, (ord_cell hQ.q).1, (ord_cell hQ.q).2.1, (ord_cell hQ.q).2.2.1, (ord_cell hQ.q).2.2.2.1⟩
              clear hK K
              try simp only [Act.put, Dqd, Dqe, Dqf]
              refine wpAnyH_ready (rs := [5]) (by kernel_rfl) (by simp) ?_
              refine AllReadyH.cons (o := ?or84_5) ?hor84_5 (fun K hK => ?stepr84_5) (AllReadyH.nil)
              case hor84_5 => simp only [Dqa, Dqb, Dqc]; exact rfl
              case stepr84_5 =>
                obtain ⟨r0, r1⟩ := cell2 hQ.dr.res
                have f0 := mfree hQ.dr.res 0
                have f1 := mfree hQ.dr.res 1
                go_simp
                clear r0 r1 f0 f1
                replace hQ := hQ.put
                generalize ((wx.setCell ⟨w.heap.size, 0, none⟩ (.slice A1 n1 c1)).setCell ⟨w.heap.size, 1, none⟩ (.slice A2 n2 c2)) = wb at *
                refine hK.out _ _ ?hSr84_5 (fun hHeld => ?restr84_5)
                case hSr84_5 => exact ⟨(cell2 hQ.dr.box).1, (cell2 hQ.dr.box).2, (ord_cell hQ.q).1, (ord_cell hQ.q).2.1, (ord_cell hQ.q).2.2.1, (ord_cell hQ.q).2.2.2.1⟩
                clear hK K
                try simp only [Act.put, Dqd, Dqe, Dqf]
                refine wpAnyH_take (i := 6) (oi := ?oim85) (v := ?vm85) ?him85 (by kernel_rfl) (by kernel_rfl) (by kernel_rfl) ?hQm85 (Or.inl ⟨?hwm85, ?hym85⟩) (by assumption) ?restm85
                case him85 => simp only [Dqa, Dqb, Dqc]; exact rfl
                case hQm85 => exact fun _ _ _ h => h
                case hwm85 => rfl
                case hym85 => ((intro w hSw; (try dsimp only at hSw); go_simp) <;> with_reducible rfl)
                try simp only [Act.put, Dqd, Dqe, Dqf]
                refine wpAnyH_ready (rs := [7]) (by kernel_rfl) (by simp) ?_
                refine AllReadyH.cons (o := ?or86_7) ?hor86_7 (fun K hK => ?stepr86_7) (AllReadyH.nil)
                case hor86_7 => simp only [Dqa, Dqb, Dqc]; exact rfl
                case stepr86_7 =>
                  obtain ⟨e0, e1, e2, e3, f0, f1, f2, f3⟩ := ord_cell hQ.od
                  go_simp
                  clear e0 e1 e2 e3 f0 f1 f2 f3
                  have hOf := ord_put (u0 := .int .i64 oi) (u1 := .int .i64 oa) (u2 := .int .i64 pp) (u3 := .int .i64 oq2) hQ.od
                  have hDf := hQ.dr.setO (S := w.heap.size + 1) (Nat.lt_succ_self _) hQ.far.1 (.int .i64 oi) (.int .i64 oa) (.int .i64 pp) (.int .i64 oq2)
                  have hXf := ord_put_other (u0 := .int .i64 oi) (u1 := .int .i64 oa) (u2 := .int .i64 pp) (u3 := .int .i64 oq2) (S := w.heap.size + 1) hQ.q (by have := hQ.far; omega)
                  refine hK.out _ _ ?hSr86_7 (fun hHeld => ?restr86_7)
                  case hSr86_7 => exact ⟨(cell2 hDf.box).1, (cell2 hDf.box).2, (ord_cell hXf).1, (ord_cell hXf).2.1, (ord_cell hXf).2.2.1, (ord_cell hXf).2.2.2.1⟩
                  clear hK K
                  try simp only [Act.put, Dqd, Dqe, Dqf]
                  refine wpAnyH_take (i := 8) (oi := ?oim87) (v := ?vm87) ?him87 (by kernel_rfl) (by kernel_rfl) (by kernel_rfl) ?hQm87 (Or.inl ⟨?hwm87, ?hym87⟩) (by assumption) ?restm87
                  case him87 => simp only [Dqa, Dqb, Dqc]; exact rfl
                  case hQm87 => exact fun _ _ _ h => h
                  case hwm87 => rfl
                  case hym87 => ((intro w hSw; (try dsimp only at hSw); go_simp) <;> with_reducible rfl)
                  try simp only [Act.put, Dqd, Dqe, Dqf]
                  refine wpAnyH_done (by kernel_rfl) ?_ _
                  clear hHeld
                  obtain ⟨g0, g1⟩ := cell2 hDf.res
                  obtain ⟨e0, e1, e2, e3, -⟩ := ord_cell hOf
                  go_wp2_with fail
                  exact bodyPost_ret (v := .tuple #[.agg #[(.slice A1 n1 c1), (.slice A2 n2 c2)], .int .i64 s, .agg #[.int .i64 oi, .int .i64 oa, .int .i64 pp, .int .i64 oq2], .int .i64 md]) (by simp [results, Try.results8, go_sem, g0, g1, e0, e1, e2, e3]) rfl ⟨_, _, _, _, _, _, _, _, _, _, _, _, rfl, hn1, hn2, hDf.rows.mono (by have := hDf.far; omega), hDf.bel⟩
      case stepr72_3 =>
        replace hQ := hQ.drew
        go_simp
        refine (below_any 3 g A len cap _ _ hQ.dr.rd (hsrc _ hQ.dr.bel _ (Nat.le_of_lt hQ.dr.far.1)) hl (by omega) (by omega)).mono ?_
        rintro e w9 ⟨x, p9, x0, x1, rfl, hr9, hg9⟩
        replace hQ := hQ.step hr9 hg9
        clear hr9 hg9
        have hwr : IntKind.i64.wrap (1 + x) = 1 + x := by rw [IntKind.wrap_i64]; omega
        refine hK.out _ _ ?hSr72_3 (fun hHeld => ?restr72_3)
        case hSr72_3 => exact trivial
        clear hK K
        try simp only [Act.put, Dqd, Dqe, Dqf]
        refine wpAnyH_take (i := 4) (oi := ?oim88) (v := ?vm88) ?him88 (by kernel_rfl) (by kernel_rfl) (by kernel_rfl) ?hQm88 (Or.inl ⟨?hwm88, ?hym88⟩) (by assumption) ?restm88
        case him88 => simp only [Dqa, Dqb, Dqc]; exact rfl
        case hQm88 => exact fun _ _ _ h => h
        case hwm88 => rfl
        case hym88 => ((intro w hSw; (try dsimp only at hSw); go_simp) <;> with_reducible rfl)
        try simp only [Act.put, Dqd, Dqe, Dqf]
        refine wpAnyH_ready (rs := [1]) (by kernel_rfl) (by simp) ?_
        refine AllReadyH.cons (o := ?or89_1) ?hor89_1 (fun K hK => ?stepr89_1) (AllReadyH.nil)
        case hor89_1 => simp only [Dqa, Dqb, Dqc]; exact rfl
        case stepr89_1 =>
          obtain ⟨y0, y1, y2, y3, -⟩ := ord_cell hQ.q
          go_simp
          clear y0 y1 y2 y3
          refine hK.out _ _ ?hSr89_1 (fun hHeld => ?restr89_1)
          case hSr89_1 => exact trivial
          clear hK K
          try simp only [Act.put, Dqd, Dqe, Dqf]
          refine wpAnyH_take (i := 5) (oi := ?oim90) (v := ?vm90) ?him90 (by kernel_rfl) (by kernel_rfl) (by kernel_rfl) ?hQm90 (Or.inl ⟨?hwm90, ?hym90⟩) (by assumption) ?restm90
          case him90 => simp only [Dqa, Dqb, Dqc]; exact rfl
          case hQm90 => exact fun _ _ _ h => h
          case hwm90 => rfl
          case hym90 => ((intro w hSw; (try dsimp only at hSw); go_simp) <;> with_reducible rfl)
          try simp only [Act.put, Dqd, Dqe, Dqf]
          refine wpAnyH_take (i := 6) (oi := ?oim91) (v := ?vm91) ?him91 (by kernel_rfl) (by kernel_rfl) (by kernel_rfl) ?hQm91 (Or.inl ⟨?hwm91, ?hym91⟩) (by assumption) ?restm91
          case him91 => simp only [Dqa, Dqb, Dqc]; exact rfl
          case hQm91 => exact fun _ _ _ h => h
          case hwm91 => rfl
          case hym91 => ((intro w hSw; (try dsimp only at hSw); go_simp) <;> with_reducible rfl)
          try simp only [Act.put, Dqd, Dqe, Dqf]
          refine wpAnyH_ready (rs := [7]) (by kernel_rfl) (by simp) ?_
          refine AllReadyH.cons (o := ?or92_7) ?hor92_7 (fun K hK => ?stepr92_7) (AllReadyH.nil)
          case hor92_7 => simp only [Dqa, Dqb, Dqc]; exact rfl
          case stepr92_7 =>
            obtain ⟨y0, y1, y2, y3, f0, f1, f2, f3⟩ := ord_cell hQ.q
            go_simp
            clear y0 y1 y2 y3 f0 f1 f2 f3
            replace hQ := hQ.set3 (IntKind.i64.wrap (oq * (1 + x)))
            generalize w9.setCell ⟨X, 3, none⟩ (.int .i64 (IntKind.i64.wrap (oq * (1 + x)))) = wa at *
            refine hK.out _ _ ?hSr92_7 (fun hHeld => ?restr92_7)
            case hSr92_7 => exact trivial
            clear hK K
            try simp only [Act.put, Dqd, Dqe, Dqf]
            refine wpAnyH_done (by kernel_rfl) ?_ _
            clear hHeld hwr
            generalize IntKind.i64.wrap (oq * (1 + x)) = oq2 at *
            go_upto_region 10 with fail
            obtain ⟨b0, b1⟩ := cell2 hQ.dr.box
            obtain ⟨y0, y1, y2, y3, -⟩ := ord_cell hQ.q
            have hSt : _ ∧ _ ∧ _ ∧ _ ∧ _ ∧ _ := ⟨b0, b1, y0, y1, y2, y3⟩
            replace hQ := hQ.drew
            refine wp_region_held_drew (S := (fun w' => w'.cell? ⟨T, 0, none⟩ = some (.slice A1 n1 c1) ∧ w'.cell? ⟨T, 1, none⟩ = some (.slice A2 n2 c2) ∧ w'.cell? ⟨X, 0, none⟩ = some (.int .i64 oi) ∧ w'.cell? ⟨X, 1, none⟩ = some (.int .i64 oa) ∧ w'.cell? ⟨X, 2, none⟩ = some (.int .i64 pp) ∧ w'.cell? ⟨X, 3, none⟩ = some (.int .i64 oq2))) (by kernel_rfl) ?hSm93 (fun hHeld => ?restm93)
            case hSm93 => exact hSt
            refine wpAnyH_take (i := 0) (oi := ?oim94) (v := ?vm94) ?him94 (by kernel_rfl) (by kernel_rfl) (by kernel_rfl) ?hQm94 (Or.inl ⟨?hwm94, ?hym94⟩) (by assumption) ?restm94
            case him94 => simp only [Dqa, Dqb, Dqc]; exact rfl
            case hQm94 => exact fun _ _ _ h => h
            case hwm94 => rfl
            case hym94 => ((intro w hSw; (try dsimp only at hSw); go_simp) <;> with_reducible rfl)
            try simp only [Act.put, Dqd, Dqe, Dqf]
            refine wpAnyH_take (i := 1) (oi := ?oim95) (v := ?vm95) ?him95 (by kernel_rfl) (by kernel_rfl) (by kernel_rfl) ?hQm95 (Or.inl ⟨?hwm95, ?hym95⟩) (by assumption) ?restm95
            case him95 => simp only [Dqa, Dqb, Dqc]; exact rfl
            case hQm95 => exact fun _ _ _ h => h
            case hwm95 => rfl
            case hym95 => ((intro w hSw; (try dsimp only at hSw); go_simp) <;> with_reducible rfl)
            try simp only [Act.put, Dqd, Dqe, Dqf]
            refine wpAnyH_take (i := 2) (oi := ?oim96) (v := ?vm96) ?him96 (by kernel_rfl) (by kernel_rfl) (by kernel_rfl) ?hQm96 (Or.inl ⟨?hwm96, ?hym96⟩) (by assumption) ?restm96
            case him96 => simp only [Dqa, Dqb, Dqc]; exact rfl
            case hQm96 => exact fun _ _ _ h => h
            case hwm96 => rfl
            case hym96 => ((intro w hSw; (try dsimp only at hSw); go_simp) <;> with_reducible rfl)
            try simp only [Act.put, Dqd, Dqe, Dqf]
            refine wpAnyH_take (i := 3) (oi := ?oim97) (v := ?vm97) ?him97 (by kernel_rfl) (by kernel_rfl) (by kernel_rfl) ?hQm97 (Or.inl ⟨?hwm97, ?hym97⟩) (by assumption) ?restm97
            case him97 => simp only [Dqa, Dqb, Dqc]; exact rfl
            case hQm97 => exact fun _ _ _ h => h
            case hwm97 => rfl
            case hym97 => ((intro w hSw; (try dsimp only at hSw); go_simp) <;> with_reducible rfl)
            try simp only [Act.put, Dqd, Dqe, Dqf]
            refine wpAnyH_ready (rs := [4]) (by kernel_rfl) (by simp) ?_
            refine AllReadyH.cons (o := ?or98_4) ?hor98_4 (fun K hK => ?stepr98_4) (AllReadyH.nil)
            case hor98_4 => simp only [Dqa, Dqb, Dqc]; exact rfl
            case stepr98_4 =>
              go_simp
              refine (off_any 1 3 g A len cap _ _ hQ.dr.rd (hsrc _ hQ.dr.bel _ (Nat.le_of_lt hQ.dr.far.1)) hl (by omega) (by omega) (by omega)).mono ?_
              rintro e wx ⟨md, px, hx, rfl, hrx, hgx⟩
              replace hQ := hQ.step hrx hgx
              clear hrx hgx
              refine hK.out _ _ ?hSr98_4 (fun hHeld => ?restr98_4)
              case hSr98_4 => exact ⟨(cell2 hQ.dr.box).1, (cell2 hQ.dr.box).2, (ord_cell hQ.q).1, (ord_cell hQ.q).2.1, (ord_cell hQ.q).2.2.1, (ord_cell hQ.q).2.2.2.1⟩
              clear hK K
              try simp only [Act.put, Dqd, Dqe, Dqf]
              refine wpAnyH_ready (rs := [5]) (by kernel_rfl) (by simp) ?_
              refine AllReadyH.cons (o := ?or99_5) ?hor99_5 (fun K hK => ?stepr99_5) (AllReadyH.nil)
              case hor99_5 => simp only [Dqa, Dqb, Dqc]; exact rfl
              case stepr99_5 =>
                obtain ⟨r0, r1⟩ := cell2 hQ.dr.res
                have f0 := mfree hQ.dr.res 0
                have f1 := mfree hQ.dr.res 1
                go_simp
                clear r0 r1 f0 f1
                replace hQ := hQ.put
                generalize ((wx.setCell ⟨w.heap.size, 0, none⟩ (.slice A1 n1 c1)).setCell ⟨w.heap.size, 1, none⟩ (.slice A2 n2 c2)) = wb at *
                refine hK.out _ _ ?hSr99_5 (fun hHeld => ?restr99_5)
                case hSr99_5 => exact ⟨(cell2 hQ.dr.box).1, (cell2 hQ.dr.box).2, (ord_cell hQ.q).1, (ord_cell hQ.q).2.1, (ord_cell hQ.q).2.2.1, (ord_cell hQ.q).2.2.2.1⟩
                clear hK K
                try simp only [Act.put, Dqd, Dqe, Dqf]
                refine wpAnyH_take (i := 6) (oi := ?oim100) (v := ?vm100) ?him100 (by kernel_rfl) (by kernel_rfl) (by kernel_rfl) ?hQm100 (Or.inl ⟨?hwm100, ?hym100⟩) (by assumption) ?restm100
                case him100 => simp only [Dqa, Dqb, Dqc]; exact rfl
                case hQm100 => exact fun _ _ _ h => h
                case hwm100 => rfl
                case hym100 => ((intro w hSw; (try dsimp only at hSw); go_simp) <;> with_reducible rfl)
                try simp only [Act.put, Dqd, Dqe, Dqf]
                refine wpAnyH_ready (rs := [7]) (by kernel_rfl) (by simp) ?_
                refine AllReadyH.cons (o := ?or101_7) ?hor101_7 (fun K hK => ?stepr101_7) (AllReadyH.nil)
                case hor101_7 => simp only [Dqa, Dqb, Dqc]; exact rfl
                case stepr101_7 =>
                  obtain ⟨e0, e1, e2, e3, f0, f1, f2, f3⟩ := ord_cell hQ.od
                  go_simp
                  clear e0 e1 e2 e3 f0 f1 f2 f3
                  have hOf := ord_put (u0 := .int .i64 oi) (u1 := .int .i64 oa) (u2 := .int .i64 pp) (u3 := .int .i64 oq2) hQ.od
                  have hDf := hQ.dr.setO (S := w.heap.size + 1) (Nat.lt_succ_self _) hQ.far.1 (.int .i64 oi) (.int .i64 oa) (.int .i64 pp) (.int .i64 oq2)
                  have hXf := ord_put_other (u0 := .int .i64 oi) (u1 := .int .i64 oa) (u2 := .int .i64 pp) (u3 := .int .i64 oq2) (S := w.heap.size + 1) hQ.q (by have := hQ.far; omega)
                  refine hK.out _ _ ?hSr101_7 (fun hHeld => ?restr101_7)
                  case hSr101_7 => exact ⟨(cell2 hDf.box).1, (cell2 hDf.box).2, (ord_cell hXf).1, (ord_cell hXf).2.1, (ord_cell hXf).2.2.1, (ord_cell hXf).2.2.2.1⟩
                  clear hK K
                  try simp only [Act.put, Dqd, Dqe, Dqf]
                  refine wpAnyH_take (i := 8) (oi := ?oim102) (v := ?vm102) ?him102 (by kernel_rfl) (by kernel_rfl) (by kernel_rfl) ?hQm102 (Or.inl ⟨?hwm102, ?hym102⟩) (by assumption) ?restm102
                  case him102 => simp only [Dqa, Dqb, Dqc]; exact rfl
                  case hQm102 => exact fun _ _ _ h => h
                  case hwm102 => rfl
                  case hym102 => ((intro w hSw; (try dsimp only at hSw); go_simp) <;> with_reducible rfl)
                  try simp only [Act.put, Dqd, Dqe, Dqf]
                  refine wpAnyH_done (by kernel_rfl) ?_ _
                  clear hHeld
                  obtain ⟨g0, g1⟩ := cell2 hDf.res
                  obtain ⟨e0, e1, e2, e3, -⟩ := ord_cell hOf
                  go_wp2_with fail
                  exact bodyPost_ret (v := .tuple #[.agg #[(.slice A1 n1 c1), (.slice A2 n2 c2)], .int .i64 s, .agg #[.int .i64 oi, .int .i64 oa, .int .i64 pp, .int .i64 oq2], .int .i64 md]) (by simp [results, Try.results8, go_sem, g0, g1, e0, e1, e2, e3]) rfl ⟨_, _, _, _, _, _, _, _, _, _, _, _, rfl, hn1, hn2, hDf.rows.mono (by have := hDf.far; omega), hDf.bel⟩
    · skip
      go_upto_region 9 with fail
      refine wp_region_held_drew (S := (fun _ => True)) (by kernel_rfl) ?hSm103 (fun hHeld => ?restm103)
      case hSm103 => exact trivial
      refine wpAnyH_take (i := 0) (oi := ?oim104) (v := ?vm104) ?him104 (by kernel_rfl) (by kernel_rfl) (by kernel_rfl) ?hQm104 (Or.inl ⟨?hwm104, ?hym104⟩) (by assumption) ?restm104
      case him104 => simp only [Dqa, Dqb, Dqc]; exact rfl
      case hQm104 => exact fun _ _ _ h => h
      case hwm104 => rfl
      case hym104 => ((intro w hSw; (try dsimp only at hSw); go_simp) <;> with_reducible rfl)
      try simp only [Act.put, Dqd, Dqe, Dqf]
      refine wpAnyH_take (i := 2) (oi := ?oim105) (v := ?vm105) ?him105 (by kernel_rfl) (by kernel_rfl) (by kernel_rfl) ?hQm105 (Or.inl ⟨?hwm105, ?hym105⟩) (by assumption) ?restm105
      case him105 => simp only [Dqa, Dqb, Dqc]; exact rfl
      case hQm105 => exact fun _ _ _ h => h
      case hwm105 => rfl
      case hym105 => ((intro w hSw; (try dsimp only at hSw); go_simp) <;> with_reducible rfl)
      try simp only [Act.put, Dqd, Dqe, Dqf]
      refine wpAnyH_ready (rs := [1, 3]) (by kernel_rfl) (by simp) ?_
      refine AllReadyH.cons (o := ?or106_1) ?hor106_1 (fun K hK => ?stepr106_1) (AllReadyH.cons (o := ?or106_3) ?hor106_3 (fun K hK => ?stepr106_3) (AllReadyH.nil))
      case hor106_1 => simp only [Dqa, Dqb, Dqc]; exact rfl
      case hor106_3 => simp only [Dqa, Dqb, Dqc]; exact rfl
      case stepr106_1 =>
        obtain ⟨y0, y1, y2, y3, -⟩ := ord_cell hQ.q
        go_simp
        clear y0 y1 y2 y3
        refine hK.out _ _ ?hSr106_1 (fun hHeld => ?restr106_1)
        case hSr106_1 => exact trivial
        clear hK K
        try simp only [Act.put, Dqd, Dqe, Dqf]
        refine wpAnyH_ready (rs := [3]) (by kernel_rfl) (by simp) ?_
        refine AllReadyH.cons (o := ?or107_3) ?hor107_3 (fun K hK => ?stepr107_3) (AllReadyH.nil)
        case hor107_3 => simp only [Dqa, Dqb, Dqc]; exact rfl
        case stepr107_3 =>
          replace hQ := hQ.drew
          go_simp
          refine (below_any 3 g A len cap _ _ hQ.dr.rd (hsrc _ hQ.dr.bel _ (Nat.le_of_lt hQ.dr.far.1)) hl (by omega) (by omega)).mono ?_
          rintro e w9 ⟨x, p9, x0, x1, rfl, hr9, hg9⟩
          replace hQ := hQ.step hr9 hg9
          clear hr9 hg9
          have hwr : IntKind.i64.wrap (1 + x) = 1 + x := by rw [IntKind.wrap_i64]; omega
          refine hK.out _ _ ?hSr107_3 (fun hHeld => ?restr107_3)
          case hSr107_3 => exact trivial
          clear hK K
          try simp only [Act.put, Dqd, Dqe, Dqf]
          refine wpAnyH_take (i := 4) (oi := ?oim108) (v := ?vm108) ?him108 (by kernel_rfl) (by kernel_rfl) (by kernel_rfl) ?hQm108 (Or.inl ⟨?hwm108, ?hym108⟩) (by assumption) ?restm108
          case him108 => simp only [Dqa, Dqb, Dqc]; exact rfl
          case hQm108 => exact fun _ _ _ h => h
          case hwm108 => rfl
          case hym108 => ((intro w hSw; (try dsimp only at hSw); go_simp) <;> with_reducible rfl)
          try simp only [Act.put, Dqd, Dqe, Dqf]
          refine wpAnyH_take (i := 5) (oi := ?oim109) (v := ?vm109) ?him109 (by kernel_rfl) (by kernel_rfl) (by kernel_rfl) ?hQm109 (Or.inl ⟨?hwm109, ?hym109⟩) (by assumption) ?restm109
          case him109 => simp only [Dqa, Dqb, Dqc]; exact rfl
          case hQm109 => exact fun _ _ _ h => h
          case hwm109 => rfl
          case hym109 => ((intro w hSw; (try dsimp only at hSw); go_simp) <;> with_reducible rfl)
          try simp only [Act.put, Dqd, Dqe, Dqf]
          refine wpAnyH_take (i := 6) (oi := ?oim110) (v := ?vm110) ?him110 (by kernel_rfl) (by kernel_rfl) (by kernel_rfl) ?hQm110 (Or.inl ⟨?hwm110, ?hym110⟩) (by assumption) ?restm110
          case him110 => simp only [Dqa, Dqb, Dqc]; exact rfl
          case hQm110 => exact fun _ _ _ h => h
          case hwm110 => rfl
          case hym110 => ((intro w hSw; (try dsimp only at hSw); go_simp) <;> with_reducible rfl)
          try simp only [Act.put, Dqd, Dqe, Dqf]
          refine wpAnyH_ready (rs := [7]) (by kernel_rfl) (by simp) ?_
          refine AllReadyH.cons (o := ?or111_7) ?hor111_7 (fun K hK => ?stepr111_7) (AllReadyH.nil)
          case hor111_7 => simp only [Dqa, Dqb, Dqc]; exact rfl
          case stepr111_7 =>
            obtain ⟨y0, y1, y2, y3, f0, f1, f2, f3⟩ := ord_cell hQ.q
            go_simp
            clear y0 y1 y2 y3 f0 f1 f2 f3
            replace hQ := hQ.set3 (IntKind.i64.wrap (oq * (1 + x)))
            generalize w9.setCell ⟨X, 3, none⟩ (.int .i64 (IntKind.i64.wrap (oq * (1 + x)))) = wa at *
            refine hK.out _ _ ?hSr111_7 (fun hHeld => ?restr111_7)
            case hSr111_7 => exact trivial
            clear hK K
            try simp only [Act.put, Dqd, Dqe, Dqf]
            refine wpAnyH_done (by kernel_rfl) ?_ _
            clear hHeld hwr
            generalize IntKind.i64.wrap (oq * (1 + x)) = oq2 at *
            go_upto_region 10 with fail
            obtain ⟨b0, b1⟩ := cell2 hQ.dr.box
            obtain ⟨y0, y1, y2, y3, -⟩ := ord_cell hQ.q
            have hSt : _ ∧ _ ∧ _ ∧ _ ∧ _ ∧ _ := ⟨b0, b1, y0, y1, y2, y3⟩
            replace hQ := hQ.drew
            refine wp_region_held_drew (S := (fun w' => w'.cell? ⟨T, 0, none⟩ = some (.slice A1 n1 c1) ∧ w'.cell? ⟨T, 1, none⟩ = some (.slice A2 n2 c2) ∧ w'.cell? ⟨X, 0, none⟩ = some (.int .i64 oi) ∧ w'.cell? ⟨X, 1, none⟩ = some (.int .i64 oa) ∧ w'.cell? ⟨X, 2, none⟩ = some (.int .i64 op) ∧ w'.cell? ⟨X, 3, none⟩ = some (.int .i64 oq2))) (by kernel_rfl) ?hSm112 (fun hHeld => ?restm112)
            case hSm112 => exact hSt
            refine wpAnyH_take (i := 0) (oi := ?oim113) (v := ?vm113) ?him113 (by kernel_rfl) (by kernel_rfl) (by kernel_rfl) ?hQm113 (Or.inl ⟨?hwm113, ?hym113⟩) (by assumption) ?restm113
            case him113 => simp only [Dqa, Dqb, Dqc]; exact rfl
            case hQm113 => exact fun _ _ _ h => h
            case hwm113 => rfl
            case hym113 => ((intro w hSw; (try dsimp only at hSw); go_simp) <;> with_reducible rfl)
            try simp only [Act.put, Dqd, Dqe, Dqf]
            refine wpAnyH_take (i := 1) (oi := ?oim114) (v := ?vm114) ?him114 (by kernel_rfl) (by kernel_rfl) (by kernel_rfl) ?hQm114 (Or.inl ⟨?hwm114, ?hym114⟩) (by assumption) ?restm114
            case him114 => simp only [Dqa, Dqb, Dqc]; exact rfl
            case hQm114 => exact fun _ _ _ h => h
            case hwm114 => rfl
            case hym114 => ((intro w hSw; (try dsimp only at hSw); go_simp) <;> with_reducible rfl)
            try simp only [Act.put, Dqd, Dqe, Dqf]
            refine wpAnyH_take (i := 2) (oi := ?oim115) (v := ?vm115) ?him115 (by kernel_rfl) (by kernel_rfl) (by kernel_rfl) ?hQm115 (Or.inl ⟨?hwm115, ?hym115⟩) (by assumption) ?restm115
            case him115 => simp only [Dqa, Dqb, Dqc]; exact rfl
            case hQm115 => exact fun _ _ _ h => h
            case hwm115 => rfl
            case hym115 => ((intro w hSw; (try dsimp only at hSw); go_simp) <;> with_reducible rfl)
            try simp only [Act.put, Dqd, Dqe, Dqf]
            refine wpAnyH_take (i := 3) (oi := ?oim116) (v := ?vm116) ?him116 (by kernel_rfl) (by kernel_rfl) (by kernel_rfl) ?hQm116 (Or.inl ⟨?hwm116, ?hym116⟩) (by assumption) ?restm116
            case him116 => simp only [Dqa, Dqb, Dqc]; exact rfl
            case hQm116 => exact fun _ _ _ h => h
            case hwm116 => rfl
            case hym116 => ((intro w hSw; (try dsimp only at hSw); go_simp) <;> with_reducible rfl)
            try simp only [Act.put, Dqd, Dqe, Dqf]
            refine wpAnyH_ready (rs := [4]) (by kernel_rfl) (by simp) ?_
            refine AllReadyH.cons (o := ?or117_4) ?hor117_4 (fun K hK => ?stepr117_4) (AllReadyH.nil)
            case hor117_4 => simp only [Dqa, Dqb, Dqc]; exact rfl
            case stepr117_4 =>
              go_simp
              refine (off_any 1 3 g A len cap _ _ hQ.dr.rd (hsrc _ hQ.dr.bel _ (Nat.le_of_lt hQ.dr.far.1)) hl (by omega) (by omega) (by omega)).mono ?_
              rintro e wx ⟨md, px, hx, rfl, hrx, hgx⟩
              replace hQ := hQ.step hrx hgx
              clear hrx hgx
              refine hK.out _ _ ?hSr117_4 (fun hHeld => ?restr117_4)
              case hSr117_4 => exact ⟨(cell2 hQ.dr.box).1, (cell2 hQ.dr.box).2, (ord_cell hQ.q).1, (ord_cell hQ.q).2.1, (ord_cell hQ.q).2.2.1, (ord_cell hQ.q).2.2.2.1⟩
              clear hK K
              try simp only [Act.put, Dqd, Dqe, Dqf]
              refine wpAnyH_ready (rs := [5]) (by kernel_rfl) (by simp) ?_
              refine AllReadyH.cons (o := ?or118_5) ?hor118_5 (fun K hK => ?stepr118_5) (AllReadyH.nil)
              case hor118_5 => simp only [Dqa, Dqb, Dqc]; exact rfl
              case stepr118_5 =>
                obtain ⟨r0, r1⟩ := cell2 hQ.dr.res
                have f0 := mfree hQ.dr.res 0
                have f1 := mfree hQ.dr.res 1
                go_simp
                clear r0 r1 f0 f1
                replace hQ := hQ.put
                generalize ((wx.setCell ⟨w.heap.size, 0, none⟩ (.slice A1 n1 c1)).setCell ⟨w.heap.size, 1, none⟩ (.slice A2 n2 c2)) = wb at *
                refine hK.out _ _ ?hSr118_5 (fun hHeld => ?restr118_5)
                case hSr118_5 => exact ⟨(cell2 hQ.dr.box).1, (cell2 hQ.dr.box).2, (ord_cell hQ.q).1, (ord_cell hQ.q).2.1, (ord_cell hQ.q).2.2.1, (ord_cell hQ.q).2.2.2.1⟩
                clear hK K
                try simp only [Act.put, Dqd, Dqe, Dqf]
                refine wpAnyH_take (i := 6) (oi := ?oim119) (v := ?vm119) ?him119 (by kernel_rfl) (by kernel_rfl) (by kernel_rfl) ?hQm119 (Or.inl ⟨?hwm119, ?hym119⟩) (by assumption) ?restm119
                case him119 => simp only [Dqa, Dqb, Dqc]; exact rfl
                case hQm119 => exact fun _ _ _ h => h
                case hwm119 => rfl
                case hym119 => ((intro w hSw; (try dsimp only at hSw); go_simp) <;> with_reducible rfl)
                try simp only [Act.put, Dqd, Dqe, Dqf]
                refine wpAnyH_ready (rs := [7]) (by kernel_rfl) (by simp) ?_
                refine AllReadyH.cons (o := ?or120_7) ?hor120_7 (fun K hK => ?stepr120_7) (AllReadyH.nil)
                case hor120_7 => simp only [Dqa, Dqb, Dqc]; exact rfl
                case stepr120_7 =>
                  obtain ⟨e0, e1, e2, e3, f0, f1, f2, f3⟩ := ord_cell hQ.od
                  go_simp
                  clear e0 e1 e2 e3 f0 f1 f2 f3
                  have hOf := ord_put (u0 := .int .i64 oi) (u1 := .int .i64 oa) (u2 := .int .i64 op) (u3 := .int .i64 oq2) hQ.od
                  have hDf := hQ.dr.setO (S := w.heap.size + 1) (Nat.lt_succ_self _) hQ.far.1 (.int .i64 oi) (.int .i64 oa) (.int .i64 op) (.int .i64 oq2)
                  have hXf := ord_put_other (u0 := .int .i64 oi) (u1 := .int .i64 oa) (u2 := .int .i64 op) (u3 := .int .i64 oq2) (S := w.heap.size + 1) hQ.q (by have := hQ.far; omega)
                  refine hK.out _ _ ?hSr120_7 (fun hHeld => ?restr120_7)
                  case hSr120_7 => exact ⟨(cell2 hDf.box).1, (cell2 hDf.box).2, (ord_cell hXf).1, (ord_cell hXf).2.1, (ord_cell hXf).2.2.1, (ord_cell hXf).2.2.2.1⟩
                  clear hK K
                  try simp only [Act.put, Dqd, Dqe, Dqf]
                  refine wpAnyH_take (i := 8) (oi := ?oim121) (v := ?vm121) ?him121 (by kernel_rfl) (by kernel_rfl) (by kernel_rfl) ?hQm121 (Or.inl ⟨?hwm121, ?hym121⟩) (by assumption) ?restm121
                  case him121 => simp only [Dqa, Dqb, Dqc]; exact rfl
                  case hQm121 => exact fun _ _ _ h => h
                  case hwm121 => rfl
                  case hym121 => ((intro w hSw; (try dsimp only at hSw); go_simp) <;> with_reducible rfl)
                  try simp only [Act.put, Dqd, Dqe, Dqf]
                  refine wpAnyH_done (by kernel_rfl) ?_ _
                  clear hHeld
                  obtain ⟨g0, g1⟩ := cell2 hDf.res
                  obtain ⟨e0, e1, e2, e3, -⟩ := ord_cell hOf
                  go_wp2_with fail
                  exact bodyPost_ret (v := .tuple #[.agg #[(.slice A1 n1 c1), (.slice A2 n2 c2)], .int .i64 s, .agg #[.int .i64 oi, .int .i64 oa, .int .i64 op, .int .i64 oq2], .int .i64 md]) (by simp [results, Try.results8, go_sem, g0, g1, e0, e1, e2, e3]) rfl ⟨_, _, _, _, _, _, _, _, _, _, _, _, rfl, hn1, hn2, hDf.rows.mono (by have := hDf.far; omega), hDf.bel⟩
      case stepr106_3 =>
        replace hQ := hQ.drew
        go_simp
        refine (below_any 3 g A len cap _ _ hQ.dr.rd (hsrc _ hQ.dr.bel _ (Nat.le_of_lt hQ.dr.far.1)) hl (by omega) (by omega)).mono ?_
        rintro e w9 ⟨x, p9, x0, x1, rfl, hr9, hg9⟩
        replace hQ := hQ.step hr9 hg9
        clear hr9 hg9
        have hwr : IntKind.i64.wrap (1 + x) = 1 + x := by rw [IntKind.wrap_i64]; omega
        refine hK.out _ _ ?hSr106_3 (fun hHeld => ?restr106_3)
        case hSr106_3 => exact trivial
        clear hK K
        try simp only [Act.put, Dqd, Dqe, Dqf]
        refine wpAnyH_take (i := 4) (oi := ?oim122) (v := ?vm122) ?him122 (by kernel_rfl) (by kernel_rfl) (by kernel_rfl) ?hQm122 (Or.inl ⟨?hwm122, ?hym122⟩) (by assumption) ?restm122
        case him122 => simp only [Dqa, Dqb, Dqc]; exact rfl
        case hQm122 => exact fun _ _ _ h => h
        case hwm122 => rfl
        case hym122 => ((intro w hSw; (try dsimp only at hSw); go_simp) <;> with_reducible rfl)
        try simp only [Act.put, Dqd, Dqe, Dqf]
        refine wpAnyH_ready (rs := [1]) (by kernel_rfl) (by simp) ?_
        refine AllReadyH.cons (o := ?or123_1) ?hor123_1 (fun K hK => ?stepr123_1) (AllReadyH.nil)
        case hor123_1 => simp only [Dqa, Dqb, Dqc]; exact rfl
        case stepr123_1 =>
          obtain ⟨y0, y1, y2, y3, -⟩ := ord_cell hQ.q
          go_simp
          clear y0 y1 y2 y3
          refine hK.out _ _ ?hSr123_1 (fun hHeld => ?restr123_1)
          case hSr123_1 => exact trivial
          clear hK K
          try simp only [Act.put, Dqd, Dqe, Dqf]
          refine wpAnyH_take (i := 5) (oi := ?oim124) (v := ?vm124) ?him124 (by kernel_rfl) (by kernel_rfl) (by kernel_rfl) ?hQm124 (Or.inl ⟨?hwm124, ?hym124⟩) (by assumption) ?restm124
          case him124 => simp only [Dqa, Dqb, Dqc]; exact rfl
          case hQm124 => exact fun _ _ _ h => h
          case hwm124 => rfl
          case hym124 => ((intro w hSw; (try dsimp only at hSw); go_simp) <;> with_reducible rfl)
          try simp only [Act.put, Dqd, Dqe, Dqf]
          refine wpAnyH_take (i := 6) (oi := ?oim125) (v := ?vm125) ?him125 (by kernel_rfl) (by kernel_rfl) (by kernel_rfl) ?hQm125 (Or.inl ⟨?hwm125, ?hym125⟩) (by assumption) ?restm125
          case him125 => simp only [Dqa, Dqb, Dqc]; exact rfl
          case hQm125 => exact fun _ _ _ h => h
          case hwm125 => rfl
          case hym125 => ((intro w hSw; (try dsimp only at hSw); go_simp) <;> with_reducible rfl)
          try simp only [Act.put, Dqd, Dqe, Dqf]
          refine wpAnyH_ready (rs := [7]) (by kernel_rfl) (by simp) ?_
          refine AllReadyH.cons (o := ?or126_7) ?hor126_7 (fun K hK => ?stepr126_7) (AllReadyH.nil)
          case hor126_7 => simp only [Dqa, Dqb, Dqc]; exact rfl
          case stepr126_7 =>
            obtain ⟨y0, y1, y2, y3, f0, f1, f2, f3⟩ := ord_cell hQ.q
            go_simp
            clear y0 y1 y2 y3 f0 f1 f2 f3
            replace hQ := hQ.set3 (IntKind.i64.wrap (oq * (1 + x)))
            generalize w9.setCell ⟨X, 3, none⟩ (.int .i64 (IntKind.i64.wrap (oq * (1 + x)))) = wa at *
            refine hK.out _ _ ?hSr126_7 (fun hHeld => ?restr126_7)
            case hSr126_7 => exact trivial
            clear hK K
            try simp only [Act.put, Dqd, Dqe, Dqf]
            refine wpAnyH_done (by kernel_rfl) ?_ _
            clear hHeld hwr
            generalize IntKind.i64.wrap (oq * (1 + x)) = oq2 at *
            go_upto_region 10 with fail
            obtain ⟨b0, b1⟩ := cell2 hQ.dr.box
            obtain ⟨y0, y1, y2, y3, -⟩ := ord_cell hQ.q
            have hSt : _ ∧ _ ∧ _ ∧ _ ∧ _ ∧ _ := ⟨b0, b1, y0, y1, y2, y3⟩
            replace hQ := hQ.drew
            refine wp_region_held_drew (S := (fun w' => w'.cell? ⟨T, 0, none⟩ = some (.slice A1 n1 c1) ∧ w'.cell? ⟨T, 1, none⟩ = some (.slice A2 n2 c2) ∧ w'.cell? ⟨X, 0, none⟩ = some (.int .i64 oi) ∧ w'.cell? ⟨X, 1, none⟩ = some (.int .i64 oa) ∧ w'.cell? ⟨X, 2, none⟩ = some (.int .i64 op) ∧ w'.cell? ⟨X, 3, none⟩ = some (.int .i64 oq2))) (by kernel_rfl) ?hSm127 (fun hHeld => ?restm127)
            case hSm127 => exact hSt
            refine wpAnyH_take (i := 0) (oi := ?oim128) (v := ?vm128) ?him128 (by kernel_rfl) (by kernel_rfl) (by kernel_rfl) ?hQm128 (Or.inl ⟨?hwm128, ?hym128⟩) (by assumption) ?restm128
            case him128 => simp only [Dqa, Dqb, Dqc]; exact rfl
            case hQm128 => exact fun _ _ _ h => h
            case hwm128 => rfl
            case hym128 => ((intro w hSw; (try dsimp only at hSw); go_simp) <;> with_reducible rfl)
            try simp only [Act.put, Dqd, Dqe, Dqf]
            refine wpAnyH_take (i := 1) (oi := ?oim129) (v := ?vm129) ?him129 (by kernel_rfl) (by kernel_rfl) (by kernel_rfl) ?hQm129 (Or.inl ⟨?hwm129, ?hym129⟩) (by assumption) ?restm129
            case him129 => simp only [Dqa, Dqb, Dqc]; exact rfl
            case hQm129 => exact fun _ _ _ h => h
            case hwm129 => rfl
            case hym129 => ((intro w hSw; (try dsimp only at hSw); go_simp) <;> with_reducible rfl)
            try simp only [Act.put, Dqd, Dqe, Dqf]
            refine wpAnyH_take (i := 2) (oi := ?oim130) (v := ?vm130) ?him130 (by kernel_rfl) (by kernel_rfl) (by kernel_rfl) ?hQm130 (Or.inl ⟨?hwm130, ?hym130⟩) (by assumption) ?restm130
            case him130 => simp only [Dqa, Dqb, Dqc]; exact rfl
            case hQm130 => exact fun _ _ _ h => h
            case hwm130 => rfl
            case hym130 => ((intro w hSw; (try dsimp only at hSw); go_simp) <;> with_reducible rfl)
            try simp only [Act.put, Dqd, Dqe, Dqf]
            refine wpAnyH_take (i := 3) (oi := ?oim131) (v := ?vm131) ?him131 (by kernel_rfl) (by kernel_rfl) (by kernel_rfl) ?hQm131 (Or.inl ⟨?hwm131, ?hym131⟩) (by assumption) ?restm131
            case him131 => simp only [Dqa, Dqb, Dqc]; exact rfl
            case hQm131 => exact fun _ _ _ h => h
            case hwm131 => rfl
            case hym131 => ((intro w hSw; (try dsimp only at hSw); go_simp) <;> with_reducible rfl)
            try simp only [Act.put, Dqd, Dqe, Dqf]
            refine wpAnyH_ready (rs := [4]) (by kernel_rfl) (by simp) ?_
            refine AllReadyH.cons (o := ?or132_4) ?hor132_4 (fun K hK => ?stepr132_4) (AllReadyH.nil)
            case hor132_4 => simp only [Dqa, Dqb, Dqc]; exact rfl
            case stepr132_4 =>
              go_simp
              refine (off_any 1 3 g A len cap _ _ hQ.dr.rd (hsrc _ hQ.dr.bel _ (Nat.le_of_lt hQ.dr.far.1)) hl (by omega) (by omega) (by omega)).mono ?_
              rintro e wx ⟨md, px, hx, rfl, hrx, hgx⟩
              replace hQ := hQ.step hrx hgx
              clear hrx hgx
              refine hK.out _ _ ?hSr132_4 (fun hHeld => ?restr132_4)
              case hSr132_4 => exact ⟨(cell2 hQ.dr.box).1, (cell2 hQ.dr.box).2, (ord_cell hQ.q).1, (ord_cell hQ.q).2.1, (ord_cell hQ.q).2.2.1, (ord_cell hQ.q).2.2.2.1⟩
              clear hK K
              try simp only [Act.put, Dqd, Dqe, Dqf]
              refine wpAnyH_ready (rs := [5]) (by kernel_rfl) (by simp) ?_
              refine AllReadyH.cons (o := ?or133_5) ?hor133_5 (fun K hK => ?stepr133_5) (AllReadyH.nil)
              case hor133_5 => simp only [Dqa, Dqb, Dqc]; exact rfl
              case stepr133_5 =>
                obtain ⟨r0, r1⟩ := cell2 hQ.dr.res
                have f0 := mfree hQ.dr.res 0
                have f1 := mfree hQ.dr.res 1
                go_simp
                clear r0 r1 f0 f1
                replace hQ := hQ.put
                generalize ((wx.setCell ⟨w.heap.size, 0, none⟩ (.slice A1 n1 c1)).setCell ⟨w.heap.size, 1, none⟩ (.slice A2 n2 c2)) = wb at *
                refine hK.out _ _ ?hSr133_5 (fun hHeld => ?restr133_5)
                case hSr133_5 => exact ⟨(cell2 hQ.dr.box).1, (cell2 hQ.dr.box).2, (ord_cell hQ.q).1, (ord_cell hQ.q).2.1, (ord_cell hQ.q).2.2.1, (ord_cell hQ.q).2.2.2.1⟩
                clear hK K
                try simp only [Act.put, Dqd, Dqe, Dqf]
                refine wpAnyH_take (i := 6) (oi := ?oim134) (v := ?vm134) ?him134 (by kernel_rfl) (by kernel_rfl) (by kernel_rfl) ?hQm134 (Or.inl ⟨?hwm134, ?hym134⟩) (by assumption) ?restm134
                case him134 => simp only [Dqa, Dqb, Dqc]; exact rfl
                case hQm134 => exact fun _ _ _ h => h
                case hwm134 => rfl
                case hym134 => ((intro w hSw; (try dsimp only at hSw); go_simp) <;> with_reducible rfl)
                try simp only [Act.put, Dqd, Dqe, Dqf]
                refine wpAnyH_ready (rs := [7]) (by kernel_rfl) (by simp) ?_
                refine AllReadyH.cons (o := ?or135_7) ?hor135_7 (fun K hK => ?stepr135_7) (AllReadyH.nil)
                case hor135_7 => simp only [Dqa, Dqb, Dqc]; exact rfl
                case stepr135_7 =>
                  obtain ⟨e0, e1, e2, e3, f0, f1, f2, f3⟩ := ord_cell hQ.od
                  go_simp
                  clear e0 e1 e2 e3 f0 f1 f2 f3
                  have hOf := ord_put (u0 := .int .i64 oi) (u1 := .int .i64 oa) (u2 := .int .i64 op) (u3 := .int .i64 oq2) hQ.od
                  have hDf := hQ.dr.setO (S := w.heap.size + 1) (Nat.lt_succ_self _) hQ.far.1 (.int .i64 oi) (.int .i64 oa) (.int .i64 op) (.int .i64 oq2)
                  have hXf := ord_put_other (u0 := .int .i64 oi) (u1 := .int .i64 oa) (u2 := .int .i64 op) (u3 := .int .i64 oq2) (S := w.heap.size + 1) hQ.q (by have := hQ.far; omega)
                  refine hK.out _ _ ?hSr135_7 (fun hHeld => ?restr135_7)
                  case hSr135_7 => exact ⟨(cell2 hDf.box).1, (cell2 hDf.box).2, (ord_cell hXf).1, (ord_cell hXf).2.1, (ord_cell hXf).2.2.1, (ord_cell hXf).2.2.2.1⟩
                  clear hK K
                  try simp only [Act.put, Dqd, Dqe, Dqf]
                  refine wpAnyH_take (i := 8) (oi := ?oim136) (v := ?vm136) ?him136 (by kernel_rfl) (by kernel_rfl) (by kernel_rfl) ?hQm136 (Or.inl ⟨?hwm136, ?hym136⟩) (by assumption) ?restm136
                  case him136 => simp only [Dqa, Dqb, Dqc]; exact rfl
                  case hQm136 => exact fun _ _ _ h => h
                  case hwm136 => rfl
                  case hym136 => ((intro w hSw; (try dsimp only at hSw); go_simp) <;> with_reducible rfl)
                  try simp only [Act.put, Dqd, Dqe, Dqf]
                  refine wpAnyH_done (by kernel_rfl) ?_ _
                  clear hHeld
                  obtain ⟨g0, g1⟩ := cell2 hDf.res
                  obtain ⟨e0, e1, e2, e3, -⟩ := ord_cell hOf
                  go_wp2_with fail
                  exact bodyPost_ret (v := .tuple #[.agg #[(.slice A1 n1 c1), (.slice A2 n2 c2)], .int .i64 s, .agg #[.int .i64 oi, .int .i64 oa, .int .i64 op, .int .i64 oq2], .int .i64 md]) (by simp [results, Try.results8, go_sem, g0, g1, e0, e1, e2, e3]) rfl ⟨_, _, _, _, _, _, _, _, _, _, _, _, rfl, hn1, hn2, hDf.rows.mono (by have := hDf.far; omega), hDf.bel⟩
end Go.Proofs.Ytempggikcpminaa
