/-
  Draw, DrawTrd, DrawOrd, DrawBook, DrawSide, DrawB.
-/
import Derived.Test.YtfodkefaflpicaaNum
import Derived.Handy
import Derived.Deep.QuietTactic
import Derived.BigQuiet
import Derived.Deep.DeepFit
import Derived.Test.YtfodkefaflpicaaOwn
import Derived.Test.YtfodkefaflpicaaKeep
import Derived.Test.YtfodkefaflpicaaRestS
import Derived.Test.YtfodkefaflpicaaLawCell
import Derived.Test.YtfodkefaflpicaaMtL
namespace Go.Proofs.Ytfodkefaflpicaa
open Go.RowKit Wire

/-- block g is a reader of the bytes at A, at place p -/
def RdAt (w : World) (g : Nat) (A : Option Addr) (len cap p : Nat) : Prop := p ≤ len ∧ w.heap[g]? = some (.cells #[.slice A len cap, .int .i64 (p : Int)] 119 (0, 0))
/-- len bytes lie at A, in blocks below B -/
def Src (w : World) (B : Nat) (A : Option Addr) (len : Nat) : Prop := ∀ i, i < len → ∃ (b o : Nat) (n : Int), A = some ⟨b, o, none⟩ ∧ b < B ∧ 0 ≤ n ∧ n < 256 ∧ w.cell? ⟨b, o + i, none⟩ = some (.int .u8 n)
/-- what a draw leaves: a number in its range, the reader further on -/
def Drawn (w : World) (g : Nat) (A : Option Addr) (len cap : Nat) (lo hi : Int) (e : Ending) (w' : World) : Prop :=
  ∃ (n : Int) (p : Nat), lo ≤ n ∧ n ≤ hi ∧ e = .returned (.int .i64 n) ∧ RdAt w' g A len cap p ∧ w.grownBy w' (some g)
theorem Src.keep {w w' : World} {g : Nat} {A : Option Addr} {len : Nat} (h : Src w g A len) (hg : w.grownBy w' (some g)) (hs : g ≤ w.heap.size) : Src w' g A len := fun i hi => by
  obtain ⟨b, o, n, h1, h2, h3, h4, h5⟩ := h i hi
  exact ⟨b, o, n, h1, h2, h3, h4, (World.cell?_of_block (hg.block b (by omega) (fun e => by injection e with e; omega))).trans h5⟩

theorem only_drewN {a w : World} {row : Option Nat} (h : a.grownBy w row) (n : Nat) : a.grownBy (w.drewN n) row := ⟨h.os, h.tape, h.output, h.size, h.block⟩
theorem only_alloc {a w : World} {row : Option Nat} (h : a.grownBy w row) (o : Obj) : a.grownBy (w.alloc o) row :=
  ⟨h.os, h.tape, h.output, Nat.le_trans h.size (by simp), fun i hi hne => (Below.heap_alloc w o i (Nat.lt_of_lt_of_le hi h.size)).trans (h.block i hi hne)⟩
theorem only_setCell {a w : World} {g : Nat} (h : a.grownBy w (some g)) {p : Addr} (hp : p.block = g ∨ a.heap.size ≤ p.block) (u : Value) : a.grownBy (w.setCell p u) (some g) :=
  ⟨h.os, h.tape, h.output, by simpa [World.setCell] using h.size, fun i hi hne => (Below.heap_setCell w p u i (by
    rintro rfl
    rcases hp with hp | hp
    · exact hne (by rw [hp])
    · omega)).trans (h.block i hi hne)⟩
theorem only_trans {a w w1 : World} {row : Option Nat} (h : a.grownBy w row) (hb : w.grownBy w1 row) : a.grownBy w1 row :=
  ⟨hb.os.trans h.os, hb.tape.trans h.tape, hb.output.trans h.output, Nat.le_trans h.size hb.size, fun i hi hn => (hb.block i (Nat.lt_of_lt_of_le hi h.size) hn).trans (h.block i hi hn)⟩

set_option maxHeartbeats 800000 in
set_option maxRecDepth 100000 in
theorem next_any (g : Nat) (A : Option Addr) (len cap p : Nat) (w : World) (hr : RdAt w g A len cap p) (hs : Src w g A len) (hl : len ≤ 9223372036854775807) :
    Calls Try.prog 90 #[.pointer (some ⟨g, 0, none⟩)] w (Drawn w g A len cap 0 255) := by
  obtain ⟨hp, hh⟩ := hr
  have c0 : w.cell? ⟨g, 0, none⟩ = some (.slice A len cap) := (cell_of_row w g 0 _ _ (0, 0) hh).trans rfl
  have c1 : w.cell? ⟨g, 1, none⟩ = some (.int .i64 (p : Int)) := (cell_of_row w g 1 _ _ (0, 0) hh).trans rfl
  have f1 : w.frozen? ⟨g, 1, none⟩ = false := frozen_of_row w g 1 _ _ hh
  have HH := Lib.hid hh
  clear hh
  by_cases hlt : p < len
  · obtain ⟨b, o, n, rfl, hb, h0, h1, hc⟩ := hs p hlt
    have hne : b ≠ g := by omega
    clear hs
    go_enter Try.func90, Try.ntmps90
    go_wp2
    go_quiet (fail)
    go_wp2
    have e1 : (p : Int) + 1 - 1 = (p : Int) := by omega
    go_quiet (fail)
    go_wp2
    go_ret
    exact ⟨n, p + 1, h0, by omega, rfl, ⟨by omega, (heap_setCell_same _ g 1 _ _ (.int .i64 ((p : Int) + 1)) HH.out).trans (by simp)⟩, only_drewN (only_setCell (only_drewN (World.grownBy.refl _ _) _) (.inl rfl) _) _⟩
  · obtain rfl : p = len := by omega
    clear hs
    go_enter Try.func90, Try.ntmps90
    go_wp2
    go_quiet (fail)
    go_wp2
    go_ret
    exact ⟨0, p, by omega, by omega, rfl, ⟨Nat.le_refl _, HH.out⟩, only_drewN (World.grownBy.refl _ _) _⟩
theorem RdAt.lt {w : World} {g : Nat} {A : Option Addr} {len cap p : Nat} (h : RdAt w g A len cap p) : g < w.heap.size := by
  rcases Nat.lt_or_ge g w.heap.size with hlt | hge
  · exact hlt
  · have := h.2; rw [Array.getElem?_eq_none hge] at this; cases this
set_option maxHeartbeats 800000 in
set_option maxRecDepth 100000 in
theorem below_any (n : Int) (g : Nat) (A : Option Addr) (len cap p : Nat) (w : World) (hr : RdAt w g A len cap p) (hs : Src w g A len) (hl : len ≤ 9223372036854775807) (h1 : 1 ≤ n) (h2 : n ≤ 9223372036854775807) :
    Calls Try.prog 46 #[.pointer (some ⟨g, 0, none⟩), .int .i64 n] w (Drawn w g A len cap 0 (n - 1)) := by
  by_cases hn1 : n ≤ 1
  · go_enter Try.func46, Try.ntmps46
    go_wp2_with fail
    go_ret
    exact ⟨0, p, by omega, by omega, rfl, hr, World.grownBy.refl _ _⟩
  · by_cases hn2 : n ≤ 256
    · have h0 : (n == 0) = false := beq_eq_false_iff_ne.2 (by omega)
      go_enter Try.func46, Try.ntmps46
      go_wp2_with fail
      refine (next_any g A len cap p _ hr hs hl).mono ?_
      rintro e w1 ⟨m, p1, m0, m1, rfl, hr1, hg1⟩
      go_wp2_with fail
      go_ret
      exact ⟨m % n, p1, Int.emod_nonneg _ (by omega), by have := Int.emod_lt_of_pos m (show 0 < n by omega); omega, rfl, hr1, hg1⟩
    · have h0 : (n == 0) = false := beq_eq_false_iff_ne.2 (by omega)
      go_enter Try.func46, Try.ntmps46
      go_wp2_with fail
      refine (next_any g A len cap p _ hr hs hl).mono ?_
      rintro e w1 ⟨m, p1, m0, m1, rfl, hr1, hg1⟩
      go_wp2_with fail
      refine (next_any g A len cap p1 _ hr1 (hs.keep hg1 (Nat.le_of_lt hr.lt)) hl).mono ?_
      rintro e w2 ⟨k, p2, k0, k1, rfl, hr2, hg2⟩
      go_wp2_with fail
      go_ret
      exact ⟨(m * 256 + k) % n, p2, Int.emod_nonneg _ (by omega), by have := Int.emod_lt_of_pos (m * 256 + k) (show 0 < n by omega); omega, rfl, hr2, only_trans hg1 hg2⟩
/-- a draw of yes or no -/
def DrawnB (w : World) (g : Nat) (A : Option Addr) (len cap : Nat) (e : Ending) (w' : World) : Prop :=
  ∃ (b : Bool) (p : Nat), e = .returned (.bool b) ∧ RdAt w' g A len cap p ∧ w.grownBy w' (some g)
set_option maxHeartbeats 400000 in
set_option maxRecDepth 100000 in
theorem once_any (n : Int) (g : Nat) (A : Option Addr) (len cap p : Nat) (w : World) (hr : RdAt w g A len cap p) (hs : Src w g A len) (hl : len ≤ 9223372036854775807) (h1 : 1 ≤ n) (h2 : n ≤ 9223372036854775807) :
    Calls Try.prog 45 #[.pointer (some ⟨g, 0, none⟩), .int .i64 n] w (DrawnB w g A len cap) := by
  go_enter Try.func45, Try.ntmps45
  go_wp2_with fail
  refine (below_any n g A len cap p _ hr hs hl h1 h2).mono ?_
  rintro e w1 ⟨m, p1, m0, m1, rfl, hr1, hg1⟩
  go_wp2_with fail
  go_ret
  exact ⟨_, p1, rfl, hr1, hg1⟩
/-- a draw of 64 bits -/
def DrawnU (w : World) (g : Nat) (A : Option Addr) (len cap : Nat) (e : Ending) (w' : World) : Prop :=
  ∃ (n : Int) (p : Nat), 0 ≤ n ∧ e = .returned (.int .u64 n) ∧ RdAt w' g A len cap p ∧ w.grownBy w' (some g)
theorem bits_u64_nonneg (o : BinOp) (a b : Int) : 0 ≤ bits o .u64 a b := by
  unfold bits
  simp only [IntKind.wrap_u64]
  omega
set_option maxHeartbeats 800000 in
set_option maxRecDepth 100000 in
theorem word_any (g : Nat) (A : Option Addr) (len cap p : Nat) (w : World) (hr : RdAt w g A len cap p) (hs : Src w g A len) (hl : len ≤ 9223372036854775807) :
    Calls Try.prog 132 #[.pointer (some ⟨g, 0, none⟩)] w (DrawnU w g A len cap) := by
  go_enter Try.func132, Try.ntmps132
  go_wp2_with fail
  go_loopw [3, 4] (fun x i wr => ∃ (X : Int) (k q : Nat), 0 ≤ X ∧ k ≤ 8 ∧ x = .int .u64 X ∧ i = .int .i64 (k : Int) ∧ RdAt wr g A len cap q ∧ w.grownBy wr (some g)) (fun _ i _ => 8 - (intOf i).toNat)
  case atStart => exact ⟨0, 0, p, by omega, by omega, rfl, rfl, hr, World.grownBy.refl _ _⟩
  case round =>
    obtain ⟨X, k, q, hX, hk, rfl, rfl, hq, hgr⟩ := hrel
    by_cases h8 : k < 8
    · go_wp2_with fail
      refine (next_any g A len cap q _ hq (hs.keep hgr (Nat.le_of_lt hr.lt)) hl).mono ?_
      rintro e w1 ⟨m, p1, m0, m1, rfl, hr1, hg1⟩
      go_wp2_with fail
      go_roundw
      case rel => exact ⟨_, k + 1, p1, bits_u64_nonneg _ _ _, by omega, rfl, by go_num, hr1, only_trans hgr hg1⟩
      case measure => simp [intOf]; omega
    · go_wp2_with fail
      go_ret
      exact ⟨X, q, hX, rfl, hq, hgr⟩
set_option maxHeartbeats 800000 in
set_option maxRecDepth 100000 in
theorem near_any (lo hi : Int) (g : Nat) (A : Option Addr) (len cap p : Nat) (w : World) (hr : RdAt w g A len cap p) (hs : Src w g A len) (hl : len ≤ 9223372036854775807) (h1 : -10 ≤ lo) (h2 : lo ≤ hi) (h3 : hi ≤ 2000000000) :
    Calls Try.prog 91 #[.pointer (some ⟨g, 0, none⟩), .int .i64 lo, .int .i64 hi] w (Drawn w g A len cap lo hi) := by
  go_enter Try.func91, Try.ntmps91
  go_wp2_with fail
  refine (below_any 8 g A len cap p _ hr hs hl (by omega) (by omega)).mono ?_
  rintro e w1 ⟨m, p1, m0, m1, rfl, hr1, hg1⟩
  have hs1 := hs.keep hg1 (Nat.le_of_lt hr.lt)
  rcases (show m = 0 ∨ m = 1 ∨ 2 ≤ m from by omega) with rfl | rfl | h2m
  · go_wp2_with fail
    go_ret
    exact ⟨lo, p1, by omega, h2, rfl, hr1, hg1⟩
  · go_wp2_with fail
    go_ret
    exact ⟨hi, p1, h2, by omega, rfl, hr1, hg1⟩
  · have z0 : (m == 0) = false := beq_eq_false_iff_ne.2 (by omega)
    have z1 : (m == 1) = false := beq_eq_false_iff_ne.2 (by omega)
    have z2 : (hi - lo + 1 == 0) = false := beq_eq_false_iff_ne.2 (by omega)
    go_wp2_with fail
    refine (word_any g A len cap p1 _ hr1 hs1 hl).mono ?_
    rintro e w2 ⟨n, p2, n0, rfl, hr2, hg2⟩
    have hb0 : 0 ≤ n / 2 % (hi - lo + 1) := Int.emod_nonneg _ (by omega)
    have hb1 : n / 2 % (hi - lo + 1) < hi - lo + 1 := Int.emod_lt_of_pos _ (by omega)
    go_wp2_with fail
    go_ret
    exact ⟨lo + n / 2 % (hi - lo + 1), p2, by omega, by omega, rfl, hr2, only_trans hg1 hg2⟩
theorem RdAt.alloc {w : World} {g : Nat} {A : Option Addr} {len cap p : Nat} (h : RdAt w g A len cap p) (o : Obj) : RdAt (w.alloc o) g A len cap p :=
  ⟨h.1, (Below.heap_alloc w o g h.lt).trans h.2⟩
/-- a draw of some int64 -/
def DrawnI (w : World) (g : Nat) (A : Option Addr) (len cap : Nat) (e : Ending) (w' : World) : Prop :=
  ∃ (n : Int) (p : Nat), I64 n ∧ e = .returned (.int .i64 n) ∧ RdAt w' g A len cap p ∧ w.grownBy w' (some g)
set_option maxHeartbeats 800000 in
set_option maxRecDepth 100000 in
theorem off_any (lo hi : Int) (g : Nat) (A : Option Addr) (len cap p : Nat) (w : World) (hr : RdAt w g A len cap p) (hs : Src w g A len) (hl : len ≤ 9223372036854775807) (h1 : -9 ≤ lo) (h2 : lo ≤ hi) (h3 : hi ≤ 1000000001) :
    Calls Try.prog 47 #[.pointer (some ⟨g, 0, none⟩), .int .i64 lo, .int .i64 hi] w (DrawnI w g A len cap) := by
  go_enter Try.func47, Try.ntmps47
  go_wp2_with fail
  refine (once_any 24 g A len cap p _ hr hs hl (by omega) (by omega)).mono ?_
  rintro e w1 ⟨b, p1, rfl, hr1, hg1⟩
  have hs1 := hs.keep hg1 (Nat.le_of_lt hr.lt)
  cases b
  · go_wp2_with fail
    refine (near_any lo hi g A len cap p1 _ hr1 hs1 hl (by omega) h2 (by omega)).mono ?_
    rintro e w2 ⟨n, p2, n0, n1, rfl, hr2, hg2⟩
    go_wp2_with fail
    go_ret
    exact ⟨n, p2, ⟨by omega, by omega⟩, rfl, hr2, only_trans hg1 hg2⟩
  · go_wp2_with fail
    refine (below_any 4 g A len cap p1 _ (hr1.alloc _) (hs1.keep (only_alloc (World.grownBy.refl _ _) _) (Nat.le_of_lt hr1.lt)) hl (by omega) (by omega)).mono ?_
    rintro e w2 ⟨m, p2, m0, m1, rfl, hr2, hg2⟩
    have hlt1 := hr1.lt
    have hA := (hg2.block w1.heap.size (by simp) (fun e => by injection e with e; omega)).trans (heap_alloc_new w1 _)
    have c0 := cell_of_row w2 w1.heap.size 0 _ _ (0, 0) hA
    have c1 := cell_of_row w2 w1.heap.size 1 _ _ (0, 0) hA
    have c2 := cell_of_row w2 w1.heap.size 2 _ _ (0, 0) hA
    have c3 := cell_of_row w2 w1.heap.size 3 _ _ (0, 0) hA
    simp at c0 c1 c2 c3
    have hg3 := only_trans hg1 (only_trans (only_alloc (World.grownBy.refl w1 (some g)) _) hg2)
    clear hA hg2 hlt1
    rcases (show m = 0 ∨ m = 1 ∨ m = 2 ∨ m = 3 from by omega) with rfl | rfl | rfl | rfl
    all_goals
      go_wp2_with fail
      go_ret
      exact ⟨_, p2, ⟨by omega, by omega⟩, rfl, hr2, hg3⟩
set_option maxHeartbeats 400000 in
theorem open_any (A : Option Addr) (len cap : Nat) (w : World) :
    Calls Try.prog 41 #[.slice A len cap] w fun e w' => e = .returned (.pointer (some ⟨w.heap.size, 0, none⟩)) ∧ w' = w.alloc (.cells #[.slice A len cap, .int .i64 0] 119) := by
  go_enter Try.func41, Try.ntmps41
  go_wp2_with fail
  go_ret
  exact ⟨rfl, rfl⟩
theorem only_own {a w w1 : World} {g : Nat} {row : Option Nat} (h : a.grownBy w (some g)) (hb : w.grownBy w1 row) (hr : ∀ k, row = some k → a.heap.size ≤ k) : a.grownBy w1 (some g) :=
  ⟨hb.os.trans h.os, hb.tape.trans h.tape, hb.output.trans h.output, Nat.le_trans h.size hb.size, fun i hi hn =>
    (hb.block i (Nat.lt_of_lt_of_le hi h.size) (fun e => by have := hr i e.symm; omega)).trans (h.block i hi hn)⟩
theorem RdAt.own {w w1 : World} {g : Nat} {A : Option Addr} {len cap p : Nat} {row : Option Nat} (h : RdAt w g A len cap p) (hb : w.grownBy w1 row) (hr : ∀ k, row = some k → g < k) : RdAt w1 g A len cap p :=
  ⟨h.1, (hb.block g h.lt (fun e => by have := hr g e.symm; omega)).trans h.2⟩
theorem bcells_snoc (l : List UInt8) (m : Int) (h0 : 0 ≤ m) (h1 : m ≤ 255) : bcells (l ++ [UInt8.ofNat m.toNat]) = bcells l ++ [.int .u8 m] := by
  have e : ((UInt8.ofNat m.toNat).toNat : Int) = m := by simp; omega
  unfold bcells
  rw [List.map_append, List.map_cons, List.map_nil, e]
/-- a drawn string of at most so many bytes -/
def DrawnS (w : World) (g : Nat) (A : Option Addr) (len cap : Nat) (most : Nat) (e : Ending) (w' : World) : Prop :=
  ∃ (s : ByteArray) (p : Nat), s.size ≤ most ∧ e = .returned (.string s) ∧ RdAt w' g A len cap p ∧ w.grownBy w' (some g)
/-- a drawn string -/
def SomeS (w : World) (most : Nat) (e : Ending) (w' : World) : Prop := ∃ s : ByteArray, s.size ≤ most ∧ e = .returned (.string s) ∧ Below w.heap.size w w'
end Go.Proofs.Ytfodkefaflpicaa

namespace Go.Proofs.Ytfodkefaflpicaa
open Go.RowKit Wire

theorem nums_set (zs : List Int) (j : Nat) (x : Int) : nums (zs.set j x) = (nums zs).set j (.int .i64 x) := by simp [nums, List.map_set]
/-- drawn rows of a call's own -/
def DrawnRows (w : World) (g : Nat) (A : Option Addr) (len cap : Nat) (T : TypeId) (sz most : Nat) (e : Ending) (w' : World) : Prop :=
  ∃ (v : Value) (n : Nat) (zs : List Int) (p : Nat), n ≤ most ∧ e = .returned v ∧ w'.ownsRow w.heap.size T sz v n (nums zs) ∧ RdAt w' g A len cap p ∧ w.grownBy w' (some g)
theorem only_below {a w w1 : World} {row : Option Nat} (h : a.grownBy w row) (hb : Below w.heap.size w w1) : a.grownBy w1 row :=
  ⟨hb.os.trans h.os, hb.tape.trans h.tape, hb.output.trans h.output, Nat.le_trans h.size hb.size, fun k hk hne => (hb.block k (Nat.lt_of_lt_of_le hk h.size)).trans (h.block k hk hne)⟩
theorem RdAt.below {w w1 : World} {g : Nat} {A : Option Addr} {len cap p : Nat} (h : RdAt w g A len cap p) (hb : Below w.heap.size w w1) : RdAt w1 g A len cap p := ⟨h.1, (hb.block g h.lt).trans h.2⟩
end Go.Proofs.Ytfodkefaflpicaa

namespace Go.Proofs.Ytfodkefaflpicaa
open Go.RowKit Wire

theorem ord_cell {w : World} {S : Nat} {a b c d : Value} {T : TypeId} (h : w.heap[S]? = some (.cells #[a, b, c, d] T (0, 0))) : w.cell? ⟨S, 0, none⟩ = some a ∧ w.cell? ⟨S, 1, none⟩ = some b ∧ w.cell? ⟨S, 2, none⟩ = some c ∧ w.cell? ⟨S, 3, none⟩ = some d ∧ w.frozen? ⟨S, 0, none⟩ = false ∧ w.frozen? ⟨S, 1, none⟩ = false ∧ w.frozen? ⟨S, 2, none⟩ = false ∧ w.frozen? ⟨S, 3, none⟩ = false := by
  refine ⟨?_, ?_, ?_, ?_, ?_, ?_, ?_, ?_⟩ <;> simp [World.cell?, World.frozen?, h]
theorem ord_set {w : World} {S : Nat} {a b c d : Value} {T : TypeId} (h : w.heap[S]? = some (.cells #[a, b, c, d] T (0, 0))) (j : Nat) (u : Value) : (w.setCell ⟨S, j, none⟩ u).heap[S]? = some (.cells (#[a, b, c, d].setIfInBounds j u) T (0, 0)) := by
  simp [World.setCell, Array.getElem?_modify, h]
theorem ord_put {w : World} {S : Nat} {a b c d u0 u1 u2 u3 : Value} {T : TypeId} (h : w.heap[S]? = some (.cells #[a, b, c, d] T (0, 0))) :
    ((((w.setCell ⟨S, 0, none⟩ u0).setCell ⟨S, 1, none⟩ u1).setCell ⟨S, 2, none⟩ u2).setCell ⟨S, 3, none⟩ u3).heap[S]? = some (.cells #[u0, u1, u2, u3] T (0, 0)) := by
  simp [World.setCell, Array.getElem?_modify, h]
theorem ord_put_other {w : World} {S k : Nat} {o : Obj} {u0 u1 u2 u3 : Value} (h : w.heap[k]? = some o) (hne : k ≠ S) :
    ((((w.setCell ⟨S, 0, none⟩ u0).setCell ⟨S, 1, none⟩ u1).setCell ⟨S, 2, none⟩ u2).setCell ⟨S, 3, none⟩ u3).heap[k]? = some o := by
  have e := fun (v : World) (i : Nat) (u : Value) => Below.heap_setCell v ⟨S, i, none⟩ u k hne
  rw [e, e, e, e]
  exact h
/-- a drawn order -/
def DrawnOrd (w : World) (g : Nat) (A : Option Addr) (len cap : Nat) (e : Ending) (w' : World) : Prop :=
  ∃ (a b c d : Int) (p : Nat), e = .returned (.agg #[.int .i64 a, .int .i64 b, .int .i64 c, .int .i64 d]) ∧ RdAt w' g A len cap p ∧ w.grownBy w' (some g)
set_option linter.unusedSimpArgs false in
set_option maxHeartbeats 1600000 in
set_option maxRecDepth 100000 in
theorem order_any (g : Nat) (A : Option Addr) (len cap p : Nat) (w : World) (hr : RdAt w g A len cap p) (hs : Src w g A len) (hl : len ≤ 9223372036854775807) :
    Calls Try.prog 44 #[.pointer (some ⟨g, 0, none⟩)] w (DrawnOrd w g A len cap) := by
  have hlt := hr.lt
  have k0 := heap_alloc_new w (.cells #[.int .i64 0, .int .i64 0, .int .i64 0, .int .i64 0] 28)
  have hG : w.grownBy (w.alloc (.cells #[.int .i64 0, .int .i64 0, .int .i64 0, .int .i64 0] 28)) (some g) := only_alloc (World.grownBy.refl _ _) _
  replace hr := hr.alloc (.cells #[.int .i64 0, .int .i64 0, .int .i64 0, .int .i64 0] 28)
  go_enter Try.func44, Try.ntmps44
  go_wp2_with fail
  generalize w.alloc (.cells #[.int .i64 0, .int .i64 0, .int .i64 0, .int .i64 0] 28) = v0 at *
  refine (below_any 14 g A len cap _ _ hr (hs.keep hG (Nat.le_of_lt hlt)) hl (by omega) (by omega)).mono ?_
  rintro e v1 ⟨x1, p1, x10, x11, rfl, hr', hg'⟩
  replace k0 := (hg'.block w.heap.size (heap_lt' k0) (fun e => by injection e with e; omega)).trans k0
  replace hG := only_trans hG hg'
  replace hr := hr'
  clear hr' hg'
  go_wp2_with fail
  refine (below_any 3 g A len cap _ _ hr (hs.keep hG (Nat.le_of_lt hlt)) hl (by omega) (by omega)).mono ?_
  rintro e v2 ⟨x2, p2, x20, x21, rfl, hr', hg'⟩
  replace k0 := (hg'.block w.heap.size (heap_lt' k0) (fun e => by injection e with e; omega)).trans k0
  replace hG := only_trans hG hg'
  replace hr := hr'
  clear hr' hg'
  go_wp2_with fail
  refine (below_any 7 g A len cap _ _ hr (hs.keep hG (Nat.le_of_lt hlt)) hl (by omega) (by omega)).mono ?_
  rintro e v3 ⟨x3, p3, x30, x31, rfl, hr', hg'⟩
  replace k0 := (hg'.block w.heap.size (heap_lt' k0) (fun e => by injection e with e; omega)).trans k0
  replace hG := only_trans hG hg'
  replace hr := hr'
  clear hr' hg'
  go_wp2_with fail
  refine (below_any 9 g A len cap _ _ hr (hs.keep hG (Nat.le_of_lt hlt)) hl (by omega) (by omega)).mono ?_
  rintro e v4 ⟨x4, p4, x40, x41, rfl, hr', hg'⟩
  replace k0 := (hg'.block w.heap.size (heap_lt' k0) (fun e => by injection e with e; omega)).trans k0
  replace hG := only_trans hG hg'
  replace hr := hr'
  clear hr' hg'
  have kB := heap_alloc_new v4 (.cells #[.int .i64 (1 + x1), .int .i64 (1 + x2), .int .i64 (97 + x3), .int .i64 (1 + x4)] 28)
  have hGB : w.heap.size < v4.heap.size := heap_lt' k0
  have hgB : g < v4.heap.size := hr.lt
  replace k0 := (Below.heap_alloc v4 (.cells #[.int .i64 (1 + x1), .int .i64 (1 + x2), .int .i64 (97 + x3), .int .i64 (1 + x4)] 28) w.heap.size hGB).trans k0
  replace hG := only_alloc hG (.cells #[.int .i64 (1 + x1), .int .i64 (1 + x2), .int .i64 (97 + x3), .int .i64 (1 + x4)] 28)
  replace hr := hr.alloc (.cells #[.int .i64 (1 + x1), .int .i64 (1 + x2), .int .i64 (97 + x3), .int .i64 (1 + x4)] 28)
  go_wp2_with fail
  generalize v4.alloc (.cells #[.int .i64 (1 + x1), .int .i64 (1 + x2), .int .i64 (97 + x3), .int .i64 (1 + x4)] 28) = v4' at *
  generalize v4.heap.size = GB at *
  refine (below_any 40 g A len cap _ _ hr (hs.keep hG (Nat.le_of_lt hlt)) hl (by omega) (by omega)).mono ?_
  rintro e v5 ⟨x5, p5, x50, x51, rfl, hr', hg'⟩
  replace k0 := (hg'.block w.heap.size (heap_lt' k0) (fun e => by injection e with e; omega)).trans k0
  replace kB := (hg'.block GB (heap_lt' kB) (fun e => by injection e with e; omega)).trans kB
  replace hG := only_trans hG hg'
  replace hr := hr'
  clear hr' hg'
  rcases (show x5 = 38 ∨ x5 = 39 ∨ (x5 ≠ 38 ∧ x5 ≠ 39) from by omega) with rfl | rfl | ⟨h38, h39⟩
  · go_wp2_with fail
    refine (off_any 1 1000000 g A len cap _ _ hr (hs.keep hG (Nat.le_of_lt hlt)) hl (by omega) (by omega) (by omega)).mono ?_
    rintro e v6 ⟨y, p6, _, rfl, hr', hg'⟩
    replace k0 := (hg'.block w.heap.size (heap_lt' k0) (fun e => by injection e with e; omega)).trans k0
    replace kB := (hg'.block GB (heap_lt' kB) (fun e => by injection e with e; omega)).trans kB
    replace hG := only_trans hG hg'
    replace hr := hr'
    clear hr' hg'
    obtain ⟨c0, c1, c2, c3, f0, f1, f2, f3⟩ := ord_cell kB
    go_upto_region 7 with fail
    clear c0 c1 c2 c3 f0 f1 f2 f3
    replace kB := ord_set kB 2 (.int .i64 y)
    simp only [List.setIfInBounds_toArray, List.set_cons_zero, List.set_cons_succ] at kB
    replace k0 := (Below.heap_setCell v6 ⟨GB, 2, none⟩ (.int .i64 y) w.heap.size (show w.heap.size ≠ GB by omega)).trans k0
    replace hG := only_setCell hG (p := ⟨GB, 2, none⟩) (.inr (show w.heap.size ≤ GB by omega)) (.int .i64 y)
    replace hr : RdAt (v6.setCell ⟨GB, 2, none⟩ (.int .i64 y)) g A len cap p6 := ⟨hr.1, (Below.heap_setCell v6 ⟨GB, 2, none⟩ (.int .i64 y) g (show g ≠ GB by omega)).trans hr.2⟩
    generalize v6.setCell ⟨GB, 2, none⟩ (.int .i64 y) = v7 at *
    obtain ⟨c0, c1, c2, c3, _, _, _, _⟩ := ord_cell kB
    obtain ⟨d0, d1, d2, d3, f0, f1, f2, f3⟩ := ord_cell k0
    have R0 := Lib.hid k0
    have RB := Lib.hid hG
    have RR := Lib.hid hr
    clear kB k0 hG hr
    go_wp2_with fail
    have r0 := ord_put (u0 := .int .i64 (1 + x1)) (u1 := .int .i64 (1 + x2)) (u2 := .int .i64 y) (u3 := .int .i64 (1 + x4)) R0.out
    obtain ⟨e0, e1, e2, e3, _, _, _, _⟩ := ord_cell r0
    refine bodyPost_ret (v := .agg #[.int .i64 (1 + x1), .int .i64 (1 + x2), .int .i64 y, .int .i64 (1 + x4)]) (by simp [results, Try.results44, go_sem, e0, e1, e2, e3]) rfl ⟨(1 + x1), (1 + x2), y, (1 + x4), p6, rfl, ?_, ?_⟩
    · exact ⟨RR.out.1, ord_put_other (S := w.heap.size) RR.out.2 (by omega)⟩
    · exact only_setCell (only_setCell (only_setCell (only_setCell RB.out (p := ⟨w.heap.size, 0, none⟩) (.inr (Nat.le_refl _)) _) (p := ⟨w.heap.size, 1, none⟩) (.inr (Nat.le_refl _)) _) (p := ⟨w.heap.size, 2, none⟩) (.inr (Nat.le_refl _)) _) (p := ⟨w.heap.size, 3, none⟩) (.inr (Nat.le_refl _)) _
  · go_wp2_with fail
    refine (off_any 1 1000000 g A len cap _ _ hr (hs.keep hG (Nat.le_of_lt hlt)) hl (by omega) (by omega) (by omega)).mono ?_
    rintro e v6 ⟨y, p6, _, rfl, hr', hg'⟩
    replace k0 := (hg'.block w.heap.size (heap_lt' k0) (fun e => by injection e with e; omega)).trans k0
    replace kB := (hg'.block GB (heap_lt' kB) (fun e => by injection e with e; omega)).trans kB
    replace hG := only_trans hG hg'
    replace hr := hr'
    clear hr' hg'
    obtain ⟨c0, c1, c2, c3, f0, f1, f2, f3⟩ := ord_cell kB
    go_upto_region 7 with fail
    clear c0 c1 c2 c3 f0 f1 f2 f3
    replace kB := ord_set kB 3 (.int .i64 y)
    simp only [List.setIfInBounds_toArray, List.set_cons_zero, List.set_cons_succ] at kB
    replace k0 := (Below.heap_setCell v6 ⟨GB, 3, none⟩ (.int .i64 y) w.heap.size (show w.heap.size ≠ GB by omega)).trans k0
    replace hG := only_setCell hG (p := ⟨GB, 3, none⟩) (.inr (show w.heap.size ≤ GB by omega)) (.int .i64 y)
    replace hr : RdAt (v6.setCell ⟨GB, 3, none⟩ (.int .i64 y)) g A len cap p6 := ⟨hr.1, (Below.heap_setCell v6 ⟨GB, 3, none⟩ (.int .i64 y) g (show g ≠ GB by omega)).trans hr.2⟩
    generalize v6.setCell ⟨GB, 3, none⟩ (.int .i64 y) = v7 at *
    obtain ⟨c0, c1, c2, c3, _, _, _, _⟩ := ord_cell kB
    obtain ⟨d0, d1, d2, d3, f0, f1, f2, f3⟩ := ord_cell k0
    have R0 := Lib.hid k0
    have RB := Lib.hid hG
    have RR := Lib.hid hr
    clear kB k0 hG hr
    go_wp2_with fail
    have r0 := ord_put (u0 := .int .i64 (1 + x1)) (u1 := .int .i64 (1 + x2)) (u2 := .int .i64 (97 + x3)) (u3 := .int .i64 y) R0.out
    obtain ⟨e0, e1, e2, e3, _, _, _, _⟩ := ord_cell r0
    refine bodyPost_ret (v := .agg #[.int .i64 (1 + x1), .int .i64 (1 + x2), .int .i64 (97 + x3), .int .i64 y]) (by simp [results, Try.results44, go_sem, e0, e1, e2, e3]) rfl ⟨(1 + x1), (1 + x2), (97 + x3), y, p6, rfl, ?_, ?_⟩
    · exact ⟨RR.out.1, ord_put_other (S := w.heap.size) RR.out.2 (by omega)⟩
    · exact only_setCell (only_setCell (only_setCell (only_setCell RB.out (p := ⟨w.heap.size, 0, none⟩) (.inr (Nat.le_refl _)) _) (p := ⟨w.heap.size, 1, none⟩) (.inr (Nat.le_refl _)) _) (p := ⟨w.heap.size, 2, none⟩) (.inr (Nat.le_refl _)) _) (p := ⟨w.heap.size, 3, none⟩) (.inr (Nat.le_refl _)) _
  · have z0 : (x5 == 38) = false := beq_eq_false_iff_ne.2 h38
    have z1 : (x5 == 39) = false := beq_eq_false_iff_ne.2 h39
    obtain ⟨c0, c1, c2, c3, _, _, _, _⟩ := ord_cell kB
    obtain ⟨d0, d1, d2, d3, f0, f1, f2, f3⟩ := ord_cell k0
    have R0 := Lib.hid k0
    have RB := Lib.hid hG
    have RR := Lib.hid hr
    clear kB k0 hG hr
    go_wp2_with fail
    have r0 := ord_put (u0 := .int .i64 (1 + x1)) (u1 := .int .i64 (1 + x2)) (u2 := .int .i64 (97 + x3)) (u3 := .int .i64 (1 + x4)) R0.out
    obtain ⟨e0, e1, e2, e3, _, _, _, _⟩ := ord_cell r0
    refine bodyPost_ret (v := .agg #[.int .i64 (1 + x1), .int .i64 (1 + x2), .int .i64 (97 + x3), .int .i64 (1 + x4)]) (by simp [results, Try.results44, go_sem, e0, e1, e2, e3]) rfl ⟨(1 + x1), (1 + x2), (97 + x3), (1 + x4), p5, rfl, ?_, ?_⟩
    · exact ⟨RR.out.1, ord_put_other (S := w.heap.size) RR.out.2 (by omega)⟩
    · exact only_setCell (only_setCell (only_setCell (only_setCell RB.out (p := ⟨w.heap.size, 0, none⟩) (.inr (Nat.le_refl _)) _) (p := ⟨w.heap.size, 1, none⟩) (.inr (Nat.le_refl _)) _) (p := ⟨w.heap.size, 2, none⟩) (.inr (Nat.le_refl _)) _) (p := ⟨w.heap.size, 3, none⟩) (.inr (Nat.le_refl _)) _
end Go.Proofs.Ytfodkefaflpicaa

namespace Go.Proofs.Ytfodkefaflpicaa
open Go.RowKit Wire

theorem own_nil {w : World} {base sz n c : Nat} {e : TypeId} {A : Option Addr} {xs : List Value} (h : w.ownsRow base e sz (.slice A n c) n xs) : A = none → n = 0 ∧ c = 0 := fun e0 => by
  subst e0
  rcases h.2 with ⟨h1, h2⟩ | ⟨g, cap, cur, h1, _⟩
  · injection h1 with _ h3 h4
    exact ⟨h3, h4⟩
  · simp at h1
theorem own_cap {w : World} {base sz n c : Nat} {e : TypeId} {A : Option Addr} {xs : List Value} (h : w.ownsRow base e sz (.slice A n c) n xs) : n ≤ c := by
  obtain ⟨A', c', e1, h1, _⟩ := own_slice h
  injection e1 with _ _ e3
  omega
theorem only_drew {a w : World} {row : Option Nat} (h : a.grownBy w row) : a.grownBy w.drew row := ⟨h.os, h.tape, h.output, h.size, h.block⟩
theorem TwoRows.drew {w : World} {base : Nat} {r1 r2 : Value} {n1 n2 : Nat} {z1 z2 : List Int} (h : TwoRows w base r1 n1 z1 r2 n2 z2) : TwoRows w.drew base r1 n1 z1 r2 n2 z2 := h.below (Below.refl _ _).drew
theorem TwoRows.put {w w' : World} {base q : Nat} {r1 r2 : Value} {n1 n2 : Nat} {z1 z2 : List Int} (h : TwoRows w base r1 n1 z1 r2 n2 z2) (hg : w.grownBy w' (some q)) (h1 : r1.ownBlock ≠ some q) (h2 : r2.ownBlock ≠ some q) : TwoRows w' base r1 n1 z1 r2 n2 z2 :=
  ⟨own_apart h.one hg (fun _ hk e => h1 (hk.trans e.symm)), own_apart h.two hg (fun _ hk e => h2 (hk.trans e.symm)), h.apart⟩
theorem free2 {w : World} {S : Nat} {a b : Value} {T : TypeId} (h : w.heap[S]? = some (.cells #[a, b] T (0, 0))) : w.frozen? ⟨S, 0, none⟩ = false ∧ w.frozen? ⟨S, 1, none⟩ = false := by
  refine ⟨?_, ?_⟩ <;> simp [World.frozen?, h]
/-- a number of an owned row is stored -/
theorem own_put {w : World} {base n c q : Nat} {T : TypeId} {zs : List Int} (h : w.ownsRow base T 4 (.slice (some ⟨q, 0, none⟩) n c) n (nums zs)) (j : Nat) (y : Int) :
    (w.setCell ⟨q, j, none⟩ (.int .i64 y)).ownsRow base T 4 (.slice (some ⟨q, 0, none⟩) n c) n (nums (zs.set j y)) := by
  refine ⟨by have := h.1; rw [nums_length] at this ⊢; rw [List.length_set]; exact this, ?_⟩
  rcases h.2 with ⟨h1, _⟩ | ⟨g, cap, cur, hv, hbg, hh, hnc, hcm, hsz, htk⟩
  · simp at h1
  · injection hv with e1 _ e3
    injection e1 with e1
    injection e1 with e1
    subst e1 e3
    exact .inr ⟨_, _, cur.setIfInBounds j (.int .i64 y), rfl, hbg, by simp [World.setCell, Array.getElem?_modify, hh], hnc, hcm, by simpa using hsz, by rw [Array.toList_setIfInBounds, List.take_set, htk, nums_set]⟩
theorem own_free {w : World} {base n c q : Nat} {T : TypeId} {zs : List Int} (h : w.ownsRow base T 4 (.slice (some ⟨q, 0, none⟩) n c) n (nums zs)) (j : Nat) (hj : j < n * 4) :
    w.cell? ⟨q, j, none⟩ = some (.int .i64 (num zs j)) ∧ w.frozen? ⟨q, j, none⟩ = false := by
  refine ⟨?_, ?_⟩
  · rw [h.cellAt j hj]
    exact nums_get (by have := h.1; rw [nums_length] at this; omega)
  · rcases h.2 with ⟨h1, _⟩ | ⟨g, cap, cur, hv, _, hh, _⟩
    · simp at h1
    · injection hv with e1 _ _
      injection e1 with e1
      injection e1 with e1
      subst e1
      simp [World.frozen?, hh]
/-- what rests leaves small sides -/
theorem rest_small {side oi oa op oq : Int} {za zb : List Int} {n m : Nat} : onN (restOk side oi oa op oq za n zb m) (restN1 side n) ≤ 20 ∧ onN (restOk side oi oa op oq za n zb m) (restN2 side m) ≤ 20 := by
  rcases hok : restOk side oi oa op oq za n zb m with _ | _
  · exact ⟨Nat.zero_le _, Nat.zero_le _⟩
  · unfold restOk at hok
    simp only [Bool.and_eq_true] at hok
    exact book_small hok.2.2.2
set_option linter.unusedSimpArgs false in
set_option maxHeartbeats 3200000 in
set_option maxRecDepth 100000 in
theorem book_any (g : Nat) (A : Option Addr) (len cap p : Nat) (w : World) (hr : RdAt w g A len cap p) (hs : Src w g A len) (hl : len ≤ 9223372036854775807) :
    Calls Try.prog 42 #[.pointer (some ⟨g, 0, none⟩)] w fun e w' => ∃ v1 n1 z1 v2 n2 z2 p', e = .returned (.agg #[v1, v2]) ∧ n1 ≤ 20 ∧ n2 ≤ 20 ∧ TwoRows w' w.heap.size v1 n1 z1 v2 n2 z2 ∧ RdAt w' g A len cap p' ∧ w.grownBy w' (some g) := by
  have hlt := hr.lt
  obtain ⟨k0, k1⟩ := two_blocks w (.cells #[.slice none 0 0, .slice none 0 0] 26) (.cells #[.slice none 0 0, .slice none 0 0] 26)
  have hG : w.grownBy ((w.alloc (.cells #[.slice none 0 0, .slice none 0 0] 26)).alloc (.cells #[.slice none 0 0, .slice none 0 0] 26)) (some g) := only_alloc (only_alloc (World.grownBy.refl _ _) _) _
  replace hr := (hr.alloc (.cells #[.slice none 0 0, .slice none 0 0] 26)).alloc (.cells #[.slice none 0 0, .slice none 0 0] 26)
  have hs0 : w.heap.size + 2 ≤ ((w.alloc (.cells #[.slice none 0 0, .slice none 0 0] 26)).alloc (.cells #[.slice none 0 0, .slice none 0 0] 26)).heap.size := by simp
  have TR := TwoRows.nil ((w.alloc (.cells #[.slice none 0 0, .slice none 0 0] 26)).alloc (.cells #[.slice none 0 0, .slice none 0 0] 26)) (w.heap.size + 2)
  go_enter Try.func42, Try.ntmps42
  go_wp2_with fail
  generalize ((w.alloc (.cells #[.slice none 0 0, .slice none 0 0] 26)).alloc (.cells #[.slice none 0 0, .slice none 0 0] 26)) = v0 at *
  refine (below_any 8 g A len cap _ _ hr (hs.keep hG (Nat.le_of_lt hlt)) hl (by omega) (by omega)).mono ?_
  rintro e v1 ⟨m, p1, m0, m1, rfl, hr', hg'⟩
  replace k0 := (hg'.block w.heap.size (heap_lt' k0) (fun e => by injection e with e; omega)).trans k0
  replace k1 := (hg'.block (w.heap.size + 1) (heap_lt' k1) (fun e => by injection e with e; omega)).trans k1
  replace TR := TR.kept hg' (by omega)
  replace hG := only_trans hG hg'
  replace hr := hr'
  clear hr' hg'
  obtain ⟨M, rfl⟩ := Int.eq_ofNat_of_zero_le m0
  have hM : M ≤ 8 := by omega
  clear m0 m1 hs0
  have HI : ∃ v1' n1 z1 v2 n2 z2, v1.heap[w.heap.size + 1]? = some (.cells #[v1', v2] 26 (0, 0)) ∧ n1 ≤ 20 ∧ n2 ≤ 20 ∧ TwoRows v1 (w.heap.size + 2) v1' n1 z1 v2 n2 z2 := ⟨_, _, _, _, _, _, k1, by omega, by omega, TR⟩
  clear k1 TR
  go_wp2_with fail
  go_loopw [4] (fun i wr => ∃ k q : Nat, k ≤ 8 ∧ i = .int .i64 (k : Int) ∧ RdAt wr g A len cap q ∧ w.grownBy wr (some g) ∧ wr.heap[w.heap.size]? = some (.cells #[.slice none 0 0, .slice none 0 0] 26 (0, 0)) ∧ ∃ v1' n1 z1 v2 n2 z2, wr.heap[w.heap.size + 1]? = some (.cells #[v1', v2] 26 (0, 0)) ∧ n1 ≤ 20 ∧ n2 ≤ 20 ∧ TwoRows wr (w.heap.size + 2) v1' n1 z1 v2 n2 z2) (fun i _ => (intOf i).toNat)
  case atStart => exact ⟨M, _, hM, rfl, hr, hG, k0, HI⟩
  case round =>
    clear hr hG k0 HI
    obtain ⟨k, q, hk, rfl, hr, hG, k0, x1, n1, z1, x2, n2, z2, k1, hn1, hn2, TR⟩ := hrel
    obtain ⟨A1, c1, A2, c2, rfl, rfl⟩ := TR.slices
    rcases k with _ | k
    · go_wp2_with fail
      refine (below_any 30 g A len cap _ _ hr (hs.keep hG (Nat.le_of_lt hlt)) hl (by omega) (by omega)).mono ?_
      rintro e v2 ⟨y, p2, y0, y1, rfl, hr', hg'⟩
      replace k0 := (hg'.block w.heap.size (heap_lt' k0) (fun e => by injection e with e; omega)).trans k0
      replace k1 := (hg'.block (w.heap.size + 1) (heap_lt' k1) (fun e => by injection e with e; omega)).trans k1
      replace TR := TR.kept hg' (by omega)
      replace hG := only_trans hG hg'
      replace hr := hr'
      clear hr' hg'
      rcases (show y = 28 ∨ y = 29 ∨ (y ≠ 28 ∧ y ≠ 29) from by omega) with rfl | rfl | ⟨h28, h29⟩
      · rcases Nat.eq_zero_or_pos n1 with hz | hpos
        · subst hz
          obtain ⟨u0, u1⟩ := cell2 k1
          obtain ⟨q0, q1⟩ := cell2 k0
          obtain ⟨f0, f1⟩ := free2 k0
          have K0 := Lib.hid k0
          have RR := Lib.hid hr
          have RB := Lib.hid hG
          have HTR := Lib.hid TR
          clear k0 k1 hr hG TR
          go_wp2_with fail
          have r0 := heap_set1 (u := .slice A2 n2 c2) (heap_set0 (u := .slice A1 0 c1) K0.out)
          obtain ⟨e0, e1⟩ := cell2 r0
          refine bodyPost_ret (v := .agg #[.slice A1 0 c1, .slice A2 n2 c2]) (by simp [results, Try.results42, go_sem, e0, e1]) rfl ⟨_, 0, z1, _, n2, z2, p2, rfl, hn1, hn2, ?_, ?_, ?_⟩
          · exact ((HTR.out.kept (set_grown _ w.heap.size 0 _) (by omega)).kept (set_grown _ w.heap.size 1 _) (by omega)).mono (by omega)
          · exact ⟨RR.out.1, (Below.heap_setCell _ ⟨w.heap.size, 1, none⟩ _ g (show g ≠ w.heap.size by omega)).trans ((Below.heap_setCell _ ⟨w.heap.size, 0, none⟩ _ g (show g ≠ w.heap.size by omega)).trans RR.out.2)⟩
          · exact only_setCell (only_setCell RB.out (p := ⟨w.heap.size, 0, none⟩) (.inr (Nat.le_refl _)) _) (p := ⟨w.heap.size, 1, none⟩) (.inr (Nat.le_refl _)) _
        · obtain ⟨qq, cc, hv, hbq, hlq⟩ := TR.one.form hpos
          injection hv with e1 _ e3
          subst e1 e3
          have hne : (Value.slice A2 n2 c2).ownBlock ≠ some qq := TR.apart qq rfl
          obtain ⟨u0, u1⟩ := cell2 k1
          have t3 : (0 : Int) < (n1 : Int) := by omega
          go_upto_region 15 with fail
          clear u0 u1
          refine wp_region_held_drew (S := (fun w' => (∃ p, RdAt w' g A len cap p) ∧ w.grownBy w' (some g) ∧ w'.heap[w.heap.size]? = some (.cells #[.slice none 0 0, .slice none 0 0] 26 (0, 0)) ∧ w'.heap[w.heap.size + 1]? = some (.cells #[.slice (some ⟨qq, 0, none⟩) n1 c1, .slice A2 n2 c2] 26 (0, 0)) ∧ qq < w'.heap.size)) (by kernel_rfl) ?hSm1 (fun hHeld => ?restm1)
          case hSm1 => exact ⟨⟨_, hr⟩, only_drew hG, k0, k1, hlq⟩
          replace TR : TwoRows v2.drew _ _ _ _ _ _ _ := TR.drew
          replace hr : RdAt v2.drew _ _ _ _ _ := hr
          replace hG : w.grownBy v2.drew _ := only_drew hG
          replace k0 : v2.drew.heap[w.heap.size]? = _ := k0
          replace k1 : v2.drew.heap[w.heap.size + 1]? = _ := k1
          replace hlq : qq < v2.drew.heap.size := hlq
          generalize v2.drew = vd at *
          refine wpAnyH_take (i := 0) (oi := ?oim1a) (v := ?vm1a) ?him1a (by kernel_rfl) (by kernel_rfl) (by kernel_rfl) ?hQm1a (Or.inl ⟨?hwm1a, ?hym1a⟩) (by assumption) ?restm1a
          case him1a => simp only [List.getElem?_toArray, List.getElem?_cons_succ, List.getElem?_cons_zero]; exact rfl
          case hQm1a => exact fun _ _ _ h => h
          case hwm1a => rfl
          case hym1a => ((intro w hSw; (try dsimp only at hSw); go_simp) <;> with_reducible rfl)
          try simp only [Act.put, List.setIfInBounds_toArray, List.set_cons_zero, List.set_cons_succ]
          refine wpAnyH_take (i := 1) (oi := ?oim1b) (v := ?vm1b) ?him1b (by kernel_rfl) (by kernel_rfl) (by kernel_rfl) ?hQm1b (Or.inl ⟨?hwm1b, ?hym1b⟩) (by assumption) ?restm1b
          case him1b => simp only [List.getElem?_toArray, List.getElem?_cons_succ, List.getElem?_cons_zero]; exact rfl
          case hQm1b => exact fun _ _ _ h => h
          case hwm1b => rfl
          case hym1b => ((intro w hSw; obtain ⟨_, _, _, hbx, _⟩ := hSw; obtain ⟨x0', x1'⟩ := cell2 hbx; go_simp) <;> with_reducible rfl)
          try simp only [Act.put, List.setIfInBounds_toArray, List.set_cons_zero, List.set_cons_succ]
          refine wpAnyH_take (i := 2) (oi := ?oim1c) (v := ?vm1c) ?him1c (by kernel_rfl) (by kernel_rfl) (by kernel_rfl) ?hQm1c (Or.inl ⟨?hwm1c, ?hym1c⟩) (by assumption) ?restm1c
          case him1c => simp only [List.getElem?_toArray, List.getElem?_cons_succ, List.getElem?_cons_zero]; exact rfl
          case hQm1c => exact fun _ _ _ h => h
          case hwm1c => rfl
          case hym1c => ((intro w hSw; (try dsimp only at hSw); go_simp) <;> with_reducible rfl)
          try simp only [Act.put, List.setIfInBounds_toArray, List.set_cons_zero, List.set_cons_succ]
          refine wpAnyH_ready (rs := [3]) (by kernel_rfl) (by simp) ?_
          refine AllReadyH.cons (o := ?om1) ?hom1 (fun K hK => ?stepm1) AllReadyH.nil
          case hom1 => simp only [List.getElem?_toArray, List.getElem?_cons_succ, List.getElem?_cons_zero]; exact rfl
          go_simp
          refine (off_any 97 103 g A len cap _ _ hr (hs.keep hG (Nat.le_of_lt hlt)) hl (by omega) (by omega) (by omega)).mono ?_
          rintro e v3 ⟨y', p3, _, rfl, hr', hg'⟩
          replace hlq := Nat.lt_of_lt_of_le hlq hg'.size
          replace k0 := (hg'.block w.heap.size (heap_lt' k0) (fun e => by injection e with e; omega)).trans k0
          replace k1 := (hg'.block (w.heap.size + 1) (heap_lt' k1) (fun e => by injection e with e; omega)).trans k1
          replace TR := TR.kept hg' (by omega)
          replace hG := only_trans hG hg'
          replace hr := hr'
          clear hr' hg'
          refine hK.out _ _ ?hSn1 (fun hHeld => ?restn1)
          case hSn1 => exact ⟨⟨_, hr⟩, hG, k0, k1, hlq⟩
          clear hK K
          try simp only [Act.put, List.setIfInBounds_toArray, List.set_cons_zero, List.set_cons_succ]
          refine wpAnyH_take (i := 4) (oi := ?oim1d) (v := ?vm1d) ?him1d (by kernel_rfl) (by kernel_rfl) (by kernel_rfl) ?hQm1d (Or.inl ⟨?hwm1d, ?hym1d⟩) (by assumption) ?restm1d
          case him1d => simp only [List.getElem?_toArray, List.getElem?_cons_succ, List.getElem?_cons_zero]; exact rfl
          case hQm1d => exact fun _ _ _ h => h
          case hwm1d => rfl
          case hym1d => ((intro w hSw; (try dsimp only at hSw); go_simp) <;> with_reducible rfl)
          try simp only [Act.put, List.setIfInBounds_toArray, List.set_cons_zero, List.set_cons_succ]
          refine wpAnyH_take (i := 5) (oi := ?oim1e) (v := ?vm1e) ?him1e (by kernel_rfl) (by kernel_rfl) (by kernel_rfl) ?hQm1e (Or.inl ⟨?hwm1e, ?hym1e⟩) (by assumption) ?restm1e
          case him1e => simp only [List.getElem?_toArray, List.getElem?_cons_succ, List.getElem?_cons_zero]; exact rfl
          case hQm1e => exact fun _ _ _ h => h
          case hwm1e => rfl
          case hym1e => ((intro w hSw; (try dsimp only at hSw); go_simp) <;> with_reducible rfl)
          try simp only [Act.put, List.setIfInBounds_toArray, List.set_cons_zero, List.set_cons_succ]
          obtain ⟨x0, x1⟩ := own_free TR.one 2 (by omega)
          refine wpAnyH_ready (rs := [6]) (by kernel_rfl) (by simp) ?_
          refine AllReadyH.cons (o := ?op1) ?hop1 (fun K hK => ?stepp1) AllReadyH.nil
          case hop1 => simp only [List.getElem?_toArray, List.getElem?_cons_succ, List.getElem?_cons_zero]; exact rfl
          go_simp
          replace TR : TwoRows (v3.setCell ⟨qq, 2, none⟩ (.int .i64 y')) _ _ _ (z1.set 2 y') _ _ z2 := ⟨own_put TR.one 2 y', own_apart TR.two (set_grown _ _ _ _) (fun _ hk e => hne (hk.trans e.symm)), TR.apart⟩
          replace hr : RdAt (v3.setCell ⟨qq, 2, none⟩ (.int .i64 y')) g A len cap p3 := ⟨hr.1, (Below.heap_setCell v3 ⟨qq, 2, none⟩ (.int .i64 y') g (show g ≠ qq by omega)).trans hr.2⟩
          replace k0 := (Below.heap_setCell v3 ⟨qq, 2, none⟩ (.int .i64 y') w.heap.size (show w.heap.size ≠ qq by omega)).trans k0
          replace k1 := (Below.heap_setCell v3 ⟨qq, 2, none⟩ (.int .i64 y') (w.heap.size + 1) (show (w.heap.size + 1) ≠ qq by omega)).trans k1
          replace hG := only_setCell hG (p := ⟨qq, 2, none⟩) (.inr (show w.heap.size ≤ qq by omega)) (.int .i64 y')
          refine hK.out _ _ ?hSp1 (fun hHeld => ?restp1)
          case hSp1 => exact ⟨⟨_, hr⟩, hG, k0, k1, by simpa [World.setCell] using hlq⟩
          clear hK K hHeld x0 x1
          try simp only [Act.put, List.setIfInBounds_toArray, List.set_cons_zero, List.set_cons_succ]
          refine wpAnyH_done (by kernel_rfl) ?_ _
          generalize (v3.setCell ⟨qq, 2, none⟩ (.int .i64 y')) = v4 at *
          obtain ⟨u0, u1⟩ := cell2 k1
          obtain ⟨q0, q1⟩ := cell2 k0
          obtain ⟨f0, f1⟩ := free2 k0
          have K0 := Lib.hid k0
          have RR := Lib.hid hr
          have RB := Lib.hid hG
          have HTR := Lib.hid TR
          clear k0 k1 hr hG TR
          go_wp2_with fail
          have r0 := heap_set1 (u := .slice A2 n2 c2) (heap_set0 (u := .slice (some ⟨qq, 0, none⟩) n1 c1) K0.out)
          obtain ⟨e0, e1⟩ := cell2 r0
          refine bodyPost_ret (v := .agg #[.slice (some ⟨qq, 0, none⟩) n1 c1, .slice A2 n2 c2]) (by simp [results, Try.results42, go_sem, e0, e1]) rfl ⟨_, n1, (z1.set 2 y'), _, n2, z2, p3, rfl, hn1, hn2, ?_, ?_, ?_⟩
          · exact ((HTR.out.kept (set_grown _ w.heap.size 0 _) (by omega)).kept (set_grown _ w.heap.size 1 _) (by omega)).mono (by omega)
          · exact ⟨RR.out.1, (Below.heap_setCell _ ⟨w.heap.size, 1, none⟩ _ g (show g ≠ w.heap.size by omega)).trans ((Below.heap_setCell _ ⟨w.heap.size, 0, none⟩ _ g (show g ≠ w.heap.size by omega)).trans RR.out.2)⟩
          · exact only_setCell (only_setCell RB.out (p := ⟨w.heap.size, 0, none⟩) (.inr (Nat.le_refl _)) _) (p := ⟨w.heap.size, 1, none⟩) (.inr (Nat.le_refl _)) _
      · rcases Nat.eq_zero_or_pos n2 with hz | hpos
        · subst hz
          obtain ⟨u0, u1⟩ := cell2 k1
          obtain ⟨q0, q1⟩ := cell2 k0
          obtain ⟨f0, f1⟩ := free2 k0
          have K0 := Lib.hid k0
          have RR := Lib.hid hr
          have RB := Lib.hid hG
          have HTR := Lib.hid TR
          clear k0 k1 hr hG TR
          go_wp2_with fail
          have r0 := heap_set1 (u := .slice A2 0 c2) (heap_set0 (u := .slice A1 n1 c1) K0.out)
          obtain ⟨e0, e1⟩ := cell2 r0
          refine bodyPost_ret (v := .agg #[.slice A1 n1 c1, .slice A2 0 c2]) (by simp [results, Try.results42, go_sem, e0, e1]) rfl ⟨_, n1, z1, _, 0, z2, p2, rfl, hn1, hn2, ?_, ?_, ?_⟩
          · exact ((HTR.out.kept (set_grown _ w.heap.size 0 _) (by omega)).kept (set_grown _ w.heap.size 1 _) (by omega)).mono (by omega)
          · exact ⟨RR.out.1, (Below.heap_setCell _ ⟨w.heap.size, 1, none⟩ _ g (show g ≠ w.heap.size by omega)).trans ((Below.heap_setCell _ ⟨w.heap.size, 0, none⟩ _ g (show g ≠ w.heap.size by omega)).trans RR.out.2)⟩
          · exact only_setCell (only_setCell RB.out (p := ⟨w.heap.size, 0, none⟩) (.inr (Nat.le_refl _)) _) (p := ⟨w.heap.size, 1, none⟩) (.inr (Nat.le_refl _)) _
        · obtain ⟨qq, cc, hv, hbq, hlq⟩ := TR.two.form hpos
          injection hv with e1 _ e3
          subst e1 e3
          have hne : (Value.slice A1 n1 c1).ownBlock ≠ some qq := fun h => TR.apart qq h rfl
          obtain ⟨u0, u1⟩ := cell2 k1
          have t3 : (0 : Int) < (n2 : Int) := by omega
          go_upto_region 18 with fail
          clear u0 u1
          refine wp_region_held_drew (S := (fun w' => (∃ p, RdAt w' g A len cap p) ∧ w.grownBy w' (some g) ∧ w'.heap[w.heap.size]? = some (.cells #[.slice none 0 0, .slice none 0 0] 26 (0, 0)) ∧ w'.heap[w.heap.size + 1]? = some (.cells #[.slice A1 n1 c1, .slice (some ⟨qq, 0, none⟩) n2 c2] 26 (0, 0)) ∧ qq < w'.heap.size)) (by kernel_rfl) ?hSm2 (fun hHeld => ?restm2)
          case hSm2 => exact ⟨⟨_, hr⟩, only_drew hG, k0, k1, hlq⟩
          replace TR : TwoRows v2.drew _ _ _ _ _ _ _ := TR.drew
          replace hr : RdAt v2.drew _ _ _ _ _ := hr
          replace hG : w.grownBy v2.drew _ := only_drew hG
          replace k0 : v2.drew.heap[w.heap.size]? = _ := k0
          replace k1 : v2.drew.heap[w.heap.size + 1]? = _ := k1
          replace hlq : qq < v2.drew.heap.size := hlq
          generalize v2.drew = vd at *
          refine wpAnyH_take (i := 0) (oi := ?oim2a) (v := ?vm2a) ?him2a (by kernel_rfl) (by kernel_rfl) (by kernel_rfl) ?hQm2a (Or.inl ⟨?hwm2a, ?hym2a⟩) (by assumption) ?restm2a
          case him2a => simp only [List.getElem?_toArray, List.getElem?_cons_succ, List.getElem?_cons_zero]; exact rfl
          case hQm2a => exact fun _ _ _ h => h
          case hwm2a => rfl
          case hym2a => ((intro w hSw; (try dsimp only at hSw); go_simp) <;> with_reducible rfl)
          try simp only [Act.put, List.setIfInBounds_toArray, List.set_cons_zero, List.set_cons_succ]
          refine wpAnyH_take (i := 1) (oi := ?oim2b) (v := ?vm2b) ?him2b (by kernel_rfl) (by kernel_rfl) (by kernel_rfl) ?hQm2b (Or.inl ⟨?hwm2b, ?hym2b⟩) (by assumption) ?restm2b
          case him2b => simp only [List.getElem?_toArray, List.getElem?_cons_succ, List.getElem?_cons_zero]; exact rfl
          case hQm2b => exact fun _ _ _ h => h
          case hwm2b => rfl
          case hym2b => ((intro w hSw; obtain ⟨_, _, _, hbx, _⟩ := hSw; obtain ⟨x0', x1'⟩ := cell2 hbx; go_simp) <;> with_reducible rfl)
          try simp only [Act.put, List.setIfInBounds_toArray, List.set_cons_zero, List.set_cons_succ]
          refine wpAnyH_take (i := 2) (oi := ?oim2c) (v := ?vm2c) ?him2c (by kernel_rfl) (by kernel_rfl) (by kernel_rfl) ?hQm2c (Or.inl ⟨?hwm2c, ?hym2c⟩) (by assumption) ?restm2c
          case him2c => simp only [List.getElem?_toArray, List.getElem?_cons_succ, List.getElem?_cons_zero]; exact rfl
          case hQm2c => exact fun _ _ _ h => h
          case hwm2c => rfl
          case hym2c => ((intro w hSw; (try dsimp only at hSw); go_simp) <;> with_reducible rfl)
          try simp only [Act.put, List.setIfInBounds_toArray, List.set_cons_zero, List.set_cons_succ]
          refine wpAnyH_ready (rs := [3]) (by kernel_rfl) (by simp) ?_
          refine AllReadyH.cons (o := ?om2) ?hom2 (fun K hK => ?stepm2) AllReadyH.nil
          case hom2 => simp only [List.getElem?_toArray, List.getElem?_cons_succ, List.getElem?_cons_zero]; exact rfl
          go_simp
          refine (off_any 1 14 g A len cap _ _ hr (hs.keep hG (Nat.le_of_lt hlt)) hl (by omega) (by omega) (by omega)).mono ?_
          rintro e v3 ⟨y', p3, _, rfl, hr', hg'⟩
          replace hlq := Nat.lt_of_lt_of_le hlq hg'.size
          replace k0 := (hg'.block w.heap.size (heap_lt' k0) (fun e => by injection e with e; omega)).trans k0
          replace k1 := (hg'.block (w.heap.size + 1) (heap_lt' k1) (fun e => by injection e with e; omega)).trans k1
          replace TR := TR.kept hg' (by omega)
          replace hG := only_trans hG hg'
          replace hr := hr'
          clear hr' hg'
          refine hK.out _ _ ?hSn2 (fun hHeld => ?restn2)
          case hSn2 => exact ⟨⟨_, hr⟩, hG, k0, k1, hlq⟩
          clear hK K
          try simp only [Act.put, List.setIfInBounds_toArray, List.set_cons_zero, List.set_cons_succ]
          refine wpAnyH_take (i := 4) (oi := ?oim2d) (v := ?vm2d) ?him2d (by kernel_rfl) (by kernel_rfl) (by kernel_rfl) ?hQm2d (Or.inl ⟨?hwm2d, ?hym2d⟩) (by assumption) ?restm2d
          case him2d => simp only [List.getElem?_toArray, List.getElem?_cons_succ, List.getElem?_cons_zero]; exact rfl
          case hQm2d => exact fun _ _ _ h => h
          case hwm2d => rfl
          case hym2d => ((intro w hSw; (try dsimp only at hSw); go_simp) <;> with_reducible rfl)
          try simp only [Act.put, List.setIfInBounds_toArray, List.set_cons_zero, List.set_cons_succ]
          refine wpAnyH_take (i := 5) (oi := ?oim2e) (v := ?vm2e) ?him2e (by kernel_rfl) (by kernel_rfl) (by kernel_rfl) ?hQm2e (Or.inl ⟨?hwm2e, ?hym2e⟩) (by assumption) ?restm2e
          case him2e => simp only [List.getElem?_toArray, List.getElem?_cons_succ, List.getElem?_cons_zero]; exact rfl
          case hQm2e => exact fun _ _ _ h => h
          case hwm2e => rfl
          case hym2e => ((intro w hSw; (try dsimp only at hSw); go_simp) <;> with_reducible rfl)
          try simp only [Act.put, List.setIfInBounds_toArray, List.set_cons_zero, List.set_cons_succ]
          obtain ⟨x0, x1⟩ := own_free TR.two 0 (by omega)
          refine wpAnyH_ready (rs := [6]) (by kernel_rfl) (by simp) ?_
          refine AllReadyH.cons (o := ?op2) ?hop2 (fun K hK => ?stepp2) AllReadyH.nil
          case hop2 => simp only [List.getElem?_toArray, List.getElem?_cons_succ, List.getElem?_cons_zero]; exact rfl
          go_simp
          replace TR : TwoRows (v3.setCell ⟨qq, 0, none⟩ (.int .i64 y')) _ _ _ z1 _ _ (z2.set 0 y') := ⟨own_apart TR.one (set_grown _ _ _ _) (fun _ hk e => hne (hk.trans e.symm)), own_put TR.two 0 y', TR.apart⟩
          replace hr : RdAt (v3.setCell ⟨qq, 0, none⟩ (.int .i64 y')) g A len cap p3 := ⟨hr.1, (Below.heap_setCell v3 ⟨qq, 0, none⟩ (.int .i64 y') g (show g ≠ qq by omega)).trans hr.2⟩
          replace k0 := (Below.heap_setCell v3 ⟨qq, 0, none⟩ (.int .i64 y') w.heap.size (show w.heap.size ≠ qq by omega)).trans k0
          replace k1 := (Below.heap_setCell v3 ⟨qq, 0, none⟩ (.int .i64 y') (w.heap.size + 1) (show (w.heap.size + 1) ≠ qq by omega)).trans k1
          replace hG := only_setCell hG (p := ⟨qq, 0, none⟩) (.inr (show w.heap.size ≤ qq by omega)) (.int .i64 y')
          refine hK.out _ _ ?hSp2 (fun hHeld => ?restp2)
          case hSp2 => exact ⟨⟨_, hr⟩, hG, k0, k1, by simpa [World.setCell] using hlq⟩
          clear hK K hHeld x0 x1
          try simp only [Act.put, List.setIfInBounds_toArray, List.set_cons_zero, List.set_cons_succ]
          refine wpAnyH_done (by kernel_rfl) ?_ _
          generalize (v3.setCell ⟨qq, 0, none⟩ (.int .i64 y')) = v4 at *
          obtain ⟨u0, u1⟩ := cell2 k1
          obtain ⟨q0, q1⟩ := cell2 k0
          obtain ⟨f0, f1⟩ := free2 k0
          have K0 := Lib.hid k0
          have RR := Lib.hid hr
          have RB := Lib.hid hG
          have HTR := Lib.hid TR
          clear k0 k1 hr hG TR
          go_wp2_with fail
          have r0 := heap_set1 (u := .slice (some ⟨qq, 0, none⟩) n2 c2) (heap_set0 (u := .slice A1 n1 c1) K0.out)
          obtain ⟨e0, e1⟩ := cell2 r0
          refine bodyPost_ret (v := .agg #[.slice A1 n1 c1, .slice (some ⟨qq, 0, none⟩) n2 c2]) (by simp [results, Try.results42, go_sem, e0, e1]) rfl ⟨_, n1, z1, _, n2, (z2.set 0 y'), p3, rfl, hn1, hn2, ?_, ?_, ?_⟩
          · exact ((HTR.out.kept (set_grown _ w.heap.size 0 _) (by omega)).kept (set_grown _ w.heap.size 1 _) (by omega)).mono (by omega)
          · exact ⟨RR.out.1, (Below.heap_setCell _ ⟨w.heap.size, 1, none⟩ _ g (show g ≠ w.heap.size by omega)).trans ((Below.heap_setCell _ ⟨w.heap.size, 0, none⟩ _ g (show g ≠ w.heap.size by omega)).trans RR.out.2)⟩
          · exact only_setCell (only_setCell RB.out (p := ⟨w.heap.size, 0, none⟩) (.inr (Nat.le_refl _)) _) (p := ⟨w.heap.size, 1, none⟩) (.inr (Nat.le_refl _)) _
      · have t28 : (y == 28) = false := beq_eq_false_iff_ne.2 h28
        have t29 : (y == 29) = false := beq_eq_false_iff_ne.2 h29
        obtain ⟨u0, u1⟩ := cell2 k1
        obtain ⟨q0, q1⟩ := cell2 k0
        obtain ⟨f0, f1⟩ := free2 k0
        have K0 := Lib.hid k0
        have RR := Lib.hid hr
        have RB := Lib.hid hG
        have HTR := Lib.hid TR
        clear k0 k1 hr hG TR
        go_wp2_with fail
        have r0 := heap_set1 (u := .slice A2 n2 c2) (heap_set0 (u := .slice A1 n1 c1) K0.out)
        obtain ⟨e0, e1⟩ := cell2 r0
        refine bodyPost_ret (v := .agg #[.slice A1 n1 c1, .slice A2 n2 c2]) (by simp [results, Try.results42, go_sem, e0, e1]) rfl ⟨_, n1, z1, _, n2, z2, p2, rfl, hn1, hn2, ?_, ?_, ?_⟩
        · exact ((HTR.out.kept (set_grown _ w.heap.size 0 _) (by omega)).kept (set_grown _ w.heap.size 1 _) (by omega)).mono (by omega)
        · exact ⟨RR.out.1, (Below.heap_setCell _ ⟨w.heap.size, 1, none⟩ _ g (show g ≠ w.heap.size by omega)).trans ((Below.heap_setCell _ ⟨w.heap.size, 0, none⟩ _ g (show g ≠ w.heap.size by omega)).trans RR.out.2)⟩
        · exact only_setCell (only_setCell RB.out (p := ⟨w.heap.size, 0, none⟩) (.inr (Nat.le_refl _)) _) (p := ⟨w.heap.size, 1, none⟩) (.inr (Nat.le_refl _)) _
    · go_wp2_with fail
      refine (below_any 2 g A len cap _ _ hr (hs.keep hG (Nat.le_of_lt hlt)) hl (by omega) (by omega)).mono ?_
      rintro e v2 ⟨x, p2, x0, x1, rfl, hr', hg'⟩
      replace k0 := (hg'.block w.heap.size (heap_lt' k0) (fun e => by injection e with e; omega)).trans k0
      replace k1 := (hg'.block (w.heap.size + 1) (heap_lt' k1) (fun e => by injection e with e; omega)).trans k1
      replace TR := TR.kept hg' (by omega)
      replace hG := only_trans hG hg'
      replace hr := hr'
      clear hr' hg'
      go_wp2_with fail
      refine (order_any g A len cap _ _ hr (hs.keep hG (Nat.le_of_lt hlt)) hl).mono ?_
      rintro e v3 ⟨a, b, c, d, p3, rfl, hr', hg'⟩
      replace k0 := (hg'.block w.heap.size (heap_lt' k0) (fun e => by injection e with e; omega)).trans k0
      replace k1 := (hg'.block (w.heap.size + 1) (heap_lt' k1) (fun e => by injection e with e; omega)).trans k1
      replace TR := TR.kept hg' (by omega)
      replace hG := only_trans hG hg'
      replace hr := hr'
      clear hr' hg'
      have HSZ : w.heap.size + 1 < v3.heap.size := heap_lt' k1
      have TR3 := TR
      have kO := heap_alloc_new v3 (.cells #[.int .i64 a, .int .i64 b, .int .i64 c, .int .i64 d] 28)
      replace k0 := (Below.heap_alloc v3 (.cells #[.int .i64 a, .int .i64 b, .int .i64 c, .int .i64 d] 28) w.heap.size (heap_lt' k0)).trans k0
      replace k1 := (Below.heap_alloc v3 (.cells #[.int .i64 a, .int .i64 b, .int .i64 c, .int .i64 d] 28) (w.heap.size + 1) (heap_lt' k1)).trans k1
      replace TR := TR.alloc (.cells #[.int .i64 a, .int .i64 b, .int .i64 c, .int .i64 d] 28)
      replace hG := only_alloc hG (.cells #[.int .i64 a, .int .i64 b, .int .i64 c, .int .i64 d] 28)
      replace hr := hr.alloc (.cells #[.int .i64 a, .int .i64 b, .int .i64 c, .int .i64 d] 28)
      go_wp2_with fail
      have hGO : w.heap.size + 1 < v3.heap.size := HSZ
      have hOw1 : (Value.slice A1 n1 c1).ownBlock ≠ some v3.heap.size := fun e => by have := (TR3.one.lt _ e).2; omega
      have hOw2 : (Value.slice A2 n2 c2).ownBlock ≠ some v3.heap.size := fun e => by have := (TR3.two.lt _ e).2; omega
      clear TR3
      generalize v3.alloc (.cells #[.int .i64 a, .int .i64 b, .int .i64 c, .int .i64 d] 28) = v3' at *
      generalize v3.heap.size = GO at *
      refine (once_any 2 g A len cap _ _ hr (hs.keep hG (Nat.le_of_lt hlt)) hl (by omega) (by omega)).mono ?_
      rintro e v4 ⟨bb, p4, rfl, hr', hg'⟩
      replace k0 := (hg'.block w.heap.size (heap_lt' k0) (fun e => by injection e with e; omega)).trans k0
      replace k1 := (hg'.block (w.heap.size + 1) (heap_lt' k1) (fun e => by injection e with e; omega)).trans k1
      replace TR := TR.kept hg' (by omega)
      replace kO := (hg'.block GO (heap_lt' kO) (fun e => by injection e with e; omega)).trans kO
      replace hG := only_trans hG hg'
      replace hr := hr'
      clear hr' hg'
      rcases bb with _ | _
      · skip
        obtain ⟨y0, y1⟩ := cell2 k1
        obtain ⟨c0, c1', c2', c3', _, _, _, _⟩ := ord_cell kO
        go_wp2_with fail
        refine (spec_RestedO A1 n1 c1 A2 n2 c2 z1 z2 (1 + x) a b c d v4 TR.bookIn.1 TR.bookIn.2 (by omega) (by omega) (own_nil TR.one) (own_nil TR.two) (own_cap TR.one) (own_cap TR.two)).mono ?_
        rintro e v5 ⟨⟨r1, r2, rfl, TN⟩, hb5⟩
        clear y0 y1 c0 c1' c2' c3' kO
        have hB0 : w.heap.size + 2 ≤ v4.heap.size := Nat.succ_le_of_lt (heap_lt' k1)
        replace k0 := (hb5.block _ (heap_lt' k0)).trans k0
        replace k1 := (hb5.block _ (heap_lt' k1)).trans k1
        replace TR := TR.below hb5
        replace hG := only_below hG hb5
        replace hr := hr.below hb5
        clear hb5
        replace TN := TN.mono hB0
        clear hB0
        skip
        obtain ⟨HN1, HN2⟩ := rest_small (side := 1 + x) (oi := a) (oa := b) (op := c) (oq := d) (za := z1) (zb := z2) (n := n1) (m := n2)
        generalize restOk (1 + x) a b c d z1 n1 z2 n2 = ok at *
        generalize onN ok (restN1 _ _) = N1 at *
        generalize onN ok (restN2 _ _) = N2 at *
        generalize onZ ok (rest1 _ _ _ _ _) = Z1 at *
        generalize onZ ok (rest2 _ _ _ _ _) = Z2 at *
        obtain ⟨B1, e1, B2, e2, rfl, rfl⟩ := TN.slices
        have kN := heap_alloc_new v5 (.cells #[.slice B1 N1 e1, .slice B2 N2 e2] 26)
        have hNz : w.heap.size + 1 < v5.heap.size := heap_lt' k1
        replace k0 := (Below.heap_alloc v5 (.cells #[.slice B1 N1 e1, .slice B2 N2 e2] 26) w.heap.size (heap_lt' k0)).trans k0
        replace k1 := (Below.heap_alloc v5 (.cells #[.slice B1 N1 e1, .slice B2 N2 e2] 26) (w.heap.size + 1) (heap_lt' k1)).trans k1
        replace TR := TR.alloc (.cells #[.slice B1 N1 e1, .slice B2 N2 e2] 26)
        replace hG := only_alloc hG (.cells #[.slice B1 N1 e1, .slice B2 N2 e2] 26)
        replace hr := hr.alloc (.cells #[.slice B1 N1 e1, .slice B2 N2 e2] 26)
        replace TN := TN.alloc (.cells #[.slice B1 N1 e1, .slice B2 N2 e2] 26)
        rcases ok with _ | _
        · go_wp2_with fail
          go_roundw
          case rel => exact ⟨k, _, by omega, by go_num, hr, hG, k0, _, n1, z1, _, n2, z2, k1, hn1, hn2, TR⟩
          case measure => simp [intOf]
        · obtain ⟨y0, y1⟩ := cell2 kN
          obtain ⟨u0, u1⟩ := cell2 k1
          obtain ⟨f0, f1⟩ := free2 k1
          go_upto_region 11 with fail
          generalize v5.alloc (.cells #[.slice B1 N1 e1, .slice B2 N2 e2] 26) = v6 at *
          go_wp2_with fail
          go_roundw
          case rel => exact ⟨k, _, by omega, by go_num, ⟨hr.1, (Below.heap_setCell _ ⟨w.heap.size + 1, 1, none⟩ _ g (show g ≠ w.heap.size + 1 by omega)).trans ((Below.heap_setCell _ ⟨w.heap.size + 1, 0, none⟩ _ g (show g ≠ w.heap.size + 1 by omega)).trans hr.2)⟩, only_setCell (only_setCell hG (p := ⟨w.heap.size + 1, 0, none⟩) (.inr (show w.heap.size ≤ w.heap.size + 1 by omega)) _) (p := ⟨w.heap.size + 1, 1, none⟩) (.inr (show w.heap.size ≤ w.heap.size + 1 by omega)) _, (Below.heap_setCell _ ⟨w.heap.size + 1, 1, none⟩ _ w.heap.size (show w.heap.size ≠ w.heap.size + 1 by omega)).trans ((Below.heap_setCell _ ⟨w.heap.size + 1, 0, none⟩ _ w.heap.size (show w.heap.size ≠ w.heap.size + 1 by omega)).trans k0), _, N1, Z1, _, N2, Z2, heap_set1 (heap_set0 k1), HN1, HN2, (TN.kept (set_grown v6 (w.heap.size + 1) 0 _) (by omega)).kept (set_grown _ (w.heap.size + 1) 1 _) (by omega)⟩
          case measure => simp [intOf]
      · rcases (show x = 0 ∨ x = 1 by omega) with rfl | rfl
        · have kB := heap_alloc_new v4 (.cells #[.int .i64 98, .int .i64 102] 2)
          replace k0 := (Below.heap_alloc v4 (.cells #[.int .i64 98, .int .i64 102] 2) w.heap.size (heap_lt' k0)).trans k0
          replace k1 := (Below.heap_alloc v4 (.cells #[.int .i64 98, .int .i64 102] 2) (w.heap.size + 1) (heap_lt' k1)).trans k1
          replace kO := (Below.heap_alloc v4 (.cells #[.int .i64 98, .int .i64 102] 2) GO (heap_lt' kO)).trans kO
          replace TR := TR.alloc (.cells #[.int .i64 98, .int .i64 102] 2)
          replace hG := only_alloc hG (.cells #[.int .i64 98, .int .i64 102] 2)
          replace hr := hr.alloc (.cells #[.int .i64 98, .int .i64 102] 2)
          obtain ⟨b0, b1⟩ := cell2 kB
          obtain ⟨c0, c1', c2', c3', f0, f1, f2, f3⟩ := ord_cell kO
          go_upto_region 9 with fail
          clear c0 c1' c2' c3' f0 f1 f2 f3 b0 b1 kB
          replace kO := ord_set kO 2 (.int .i64 98)
          simp only [List.setIfInBounds_toArray, List.set_cons_zero, List.set_cons_succ] at kO
          replace k0 := (Below.heap_setCell (v4.alloc (.cells #[.int .i64 98, .int .i64 102] 2)) ⟨GO, 2, none⟩ (.int .i64 98) w.heap.size (show w.heap.size ≠ GO by omega)).trans k0
          replace k1 := (Below.heap_setCell (v4.alloc (.cells #[.int .i64 98, .int .i64 102] 2)) ⟨GO, 2, none⟩ (.int .i64 98) (w.heap.size + 1) (show w.heap.size + 1 ≠ GO by omega)).trans k1
          replace hG := only_setCell hG (p := ⟨GO, 2, none⟩) (.inr (show w.heap.size ≤ GO by omega)) (.int .i64 98)
          replace hr : RdAt ((v4.alloc (.cells #[.int .i64 98, .int .i64 102] 2)).setCell ⟨GO, 2, none⟩ (.int .i64 98)) g A len cap p4 := ⟨hr.1, (Below.heap_setCell (v4.alloc (.cells #[.int .i64 98, .int .i64 102] 2)) ⟨GO, 2, none⟩ (.int .i64 98) g (show g ≠ GO by omega)).trans hr.2⟩
          replace TR := TR.put (set_grown (v4.alloc (.cells #[.int .i64 98, .int .i64 102] 2)) GO 2 (.int .i64 98)) hOw1 hOw2
          generalize (v4.alloc (.cells #[.int .i64 98, .int .i64 102] 2)).setCell ⟨GO, 2, none⟩ (.int .i64 98) = v5' at *
          obtain ⟨y0, y1⟩ := cell2 k1
          obtain ⟨c0, c1', c2', c3', _, _, _, _⟩ := ord_cell kO
          go_wp2_with fail
          refine (spec_RestedO A1 n1 c1 A2 n2 c2 z1 z2 (1) a b 98 d v5' TR.bookIn.1 TR.bookIn.2 (by omega) (by omega) (own_nil TR.one) (own_nil TR.two) (own_cap TR.one) (own_cap TR.two)).mono ?_
          rintro e v5 ⟨⟨r1, r2, rfl, TN⟩, hb5⟩
          clear y0 y1 c0 c1' c2' c3' kO
          have hB0 : w.heap.size + 2 ≤ v5'.heap.size := Nat.succ_le_of_lt (heap_lt' k1)
          replace k0 := (hb5.block _ (heap_lt' k0)).trans k0
          replace k1 := (hb5.block _ (heap_lt' k1)).trans k1
          replace TR := TR.below hb5
          replace hG := only_below hG hb5
          replace hr := hr.below hb5
          clear hb5
          replace TN := TN.mono hB0
          clear hB0
          skip
          obtain ⟨HN1, HN2⟩ := rest_small (side := 1) (oi := a) (oa := b) (op := 98) (oq := d) (za := z1) (zb := z2) (n := n1) (m := n2)
          generalize restOk (1) a b 98 d z1 n1 z2 n2 = ok at *
          generalize onN ok (restN1 _ _) = N1 at *
          generalize onN ok (restN2 _ _) = N2 at *
          generalize onZ ok (rest1 _ _ _ _ _) = Z1 at *
          generalize onZ ok (rest2 _ _ _ _ _) = Z2 at *
          obtain ⟨B1, e1, B2, e2, rfl, rfl⟩ := TN.slices
          have kN := heap_alloc_new v5 (.cells #[.slice B1 N1 e1, .slice B2 N2 e2] 26)
          have hNz : w.heap.size + 1 < v5.heap.size := heap_lt' k1
          replace k0 := (Below.heap_alloc v5 (.cells #[.slice B1 N1 e1, .slice B2 N2 e2] 26) w.heap.size (heap_lt' k0)).trans k0
          replace k1 := (Below.heap_alloc v5 (.cells #[.slice B1 N1 e1, .slice B2 N2 e2] 26) (w.heap.size + 1) (heap_lt' k1)).trans k1
          replace TR := TR.alloc (.cells #[.slice B1 N1 e1, .slice B2 N2 e2] 26)
          replace hG := only_alloc hG (.cells #[.slice B1 N1 e1, .slice B2 N2 e2] 26)
          replace hr := hr.alloc (.cells #[.slice B1 N1 e1, .slice B2 N2 e2] 26)
          replace TN := TN.alloc (.cells #[.slice B1 N1 e1, .slice B2 N2 e2] 26)
          rcases ok with _ | _
          · go_wp2_with fail
            go_roundw
            case rel => exact ⟨k, _, by omega, by go_num, hr, hG, k0, _, n1, z1, _, n2, z2, k1, hn1, hn2, TR⟩
            case measure => simp [intOf]
          · obtain ⟨y0, y1⟩ := cell2 kN
            obtain ⟨u0, u1⟩ := cell2 k1
            obtain ⟨f0, f1⟩ := free2 k1
            go_upto_region 11 with fail
            generalize v5.alloc (.cells #[.slice B1 N1 e1, .slice B2 N2 e2] 26) = v6 at *
            go_wp2_with fail
            go_roundw
            case rel => exact ⟨k, _, by omega, by go_num, ⟨hr.1, (Below.heap_setCell _ ⟨w.heap.size + 1, 1, none⟩ _ g (show g ≠ w.heap.size + 1 by omega)).trans ((Below.heap_setCell _ ⟨w.heap.size + 1, 0, none⟩ _ g (show g ≠ w.heap.size + 1 by omega)).trans hr.2)⟩, only_setCell (only_setCell hG (p := ⟨w.heap.size + 1, 0, none⟩) (.inr (show w.heap.size ≤ w.heap.size + 1 by omega)) _) (p := ⟨w.heap.size + 1, 1, none⟩) (.inr (show w.heap.size ≤ w.heap.size + 1 by omega)) _, (Below.heap_setCell _ ⟨w.heap.size + 1, 1, none⟩ _ w.heap.size (show w.heap.size ≠ w.heap.size + 1 by omega)).trans ((Below.heap_setCell _ ⟨w.heap.size + 1, 0, none⟩ _ w.heap.size (show w.heap.size ≠ w.heap.size + 1 by omega)).trans k0), _, N1, Z1, _, N2, Z2, heap_set1 (heap_set0 k1), HN1, HN2, (TN.kept (set_grown v6 (w.heap.size + 1) 0 _) (by omega)).kept (set_grown _ (w.heap.size + 1) 1 _) (by omega)⟩
            case measure => simp [intOf]
        · have kB := heap_alloc_new v4 (.cells #[.int .i64 98, .int .i64 102] 2)
          replace k0 := (Below.heap_alloc v4 (.cells #[.int .i64 98, .int .i64 102] 2) w.heap.size (heap_lt' k0)).trans k0
          replace k1 := (Below.heap_alloc v4 (.cells #[.int .i64 98, .int .i64 102] 2) (w.heap.size + 1) (heap_lt' k1)).trans k1
          replace kO := (Below.heap_alloc v4 (.cells #[.int .i64 98, .int .i64 102] 2) GO (heap_lt' kO)).trans kO
          replace TR := TR.alloc (.cells #[.int .i64 98, .int .i64 102] 2)
          replace hG := only_alloc hG (.cells #[.int .i64 98, .int .i64 102] 2)
          replace hr := hr.alloc (.cells #[.int .i64 98, .int .i64 102] 2)
          obtain ⟨b0, b1⟩ := cell2 kB
          obtain ⟨c0, c1', c2', c3', f0, f1, f2, f3⟩ := ord_cell kO
          go_upto_region 9 with fail
          clear c0 c1' c2' c3' f0 f1 f2 f3 b0 b1 kB
          replace kO := ord_set kO 2 (.int .i64 102)
          simp only [List.setIfInBounds_toArray, List.set_cons_zero, List.set_cons_succ] at kO
          replace k0 := (Below.heap_setCell (v4.alloc (.cells #[.int .i64 98, .int .i64 102] 2)) ⟨GO, 2, none⟩ (.int .i64 102) w.heap.size (show w.heap.size ≠ GO by omega)).trans k0
          replace k1 := (Below.heap_setCell (v4.alloc (.cells #[.int .i64 98, .int .i64 102] 2)) ⟨GO, 2, none⟩ (.int .i64 102) (w.heap.size + 1) (show w.heap.size + 1 ≠ GO by omega)).trans k1
          replace hG := only_setCell hG (p := ⟨GO, 2, none⟩) (.inr (show w.heap.size ≤ GO by omega)) (.int .i64 102)
          replace hr : RdAt ((v4.alloc (.cells #[.int .i64 98, .int .i64 102] 2)).setCell ⟨GO, 2, none⟩ (.int .i64 102)) g A len cap p4 := ⟨hr.1, (Below.heap_setCell (v4.alloc (.cells #[.int .i64 98, .int .i64 102] 2)) ⟨GO, 2, none⟩ (.int .i64 102) g (show g ≠ GO by omega)).trans hr.2⟩
          replace TR := TR.put (set_grown (v4.alloc (.cells #[.int .i64 98, .int .i64 102] 2)) GO 2 (.int .i64 102)) hOw1 hOw2
          generalize (v4.alloc (.cells #[.int .i64 98, .int .i64 102] 2)).setCell ⟨GO, 2, none⟩ (.int .i64 102) = v5' at *
          obtain ⟨y0, y1⟩ := cell2 k1
          obtain ⟨c0, c1', c2', c3', _, _, _, _⟩ := ord_cell kO
          go_wp2_with fail
          refine (spec_RestedO A1 n1 c1 A2 n2 c2 z1 z2 (2) a b 102 d v5' TR.bookIn.1 TR.bookIn.2 (by omega) (by omega) (own_nil TR.one) (own_nil TR.two) (own_cap TR.one) (own_cap TR.two)).mono ?_
          rintro e v5 ⟨⟨r1, r2, rfl, TN⟩, hb5⟩
          clear y0 y1 c0 c1' c2' c3' kO
          have hB0 : w.heap.size + 2 ≤ v5'.heap.size := Nat.succ_le_of_lt (heap_lt' k1)
          replace k0 := (hb5.block _ (heap_lt' k0)).trans k0
          replace k1 := (hb5.block _ (heap_lt' k1)).trans k1
          replace TR := TR.below hb5
          replace hG := only_below hG hb5
          replace hr := hr.below hb5
          clear hb5
          replace TN := TN.mono hB0
          clear hB0
          skip
          obtain ⟨HN1, HN2⟩ := rest_small (side := 2) (oi := a) (oa := b) (op := 102) (oq := d) (za := z1) (zb := z2) (n := n1) (m := n2)
          generalize restOk (2) a b 102 d z1 n1 z2 n2 = ok at *
          generalize onN ok (restN1 _ _) = N1 at *
          generalize onN ok (restN2 _ _) = N2 at *
          generalize onZ ok (rest1 _ _ _ _ _) = Z1 at *
          generalize onZ ok (rest2 _ _ _ _ _) = Z2 at *
          obtain ⟨B1, e1, B2, e2, rfl, rfl⟩ := TN.slices
          have kN := heap_alloc_new v5 (.cells #[.slice B1 N1 e1, .slice B2 N2 e2] 26)
          have hNz : w.heap.size + 1 < v5.heap.size := heap_lt' k1
          replace k0 := (Below.heap_alloc v5 (.cells #[.slice B1 N1 e1, .slice B2 N2 e2] 26) w.heap.size (heap_lt' k0)).trans k0
          replace k1 := (Below.heap_alloc v5 (.cells #[.slice B1 N1 e1, .slice B2 N2 e2] 26) (w.heap.size + 1) (heap_lt' k1)).trans k1
          replace TR := TR.alloc (.cells #[.slice B1 N1 e1, .slice B2 N2 e2] 26)
          replace hG := only_alloc hG (.cells #[.slice B1 N1 e1, .slice B2 N2 e2] 26)
          replace hr := hr.alloc (.cells #[.slice B1 N1 e1, .slice B2 N2 e2] 26)
          replace TN := TN.alloc (.cells #[.slice B1 N1 e1, .slice B2 N2 e2] 26)
          rcases ok with _ | _
          · go_wp2_with fail
            go_roundw
            case rel => exact ⟨k, _, by omega, by go_num, hr, hG, k0, _, n1, z1, _, n2, z2, k1, hn1, hn2, TR⟩
            case measure => simp [intOf]
          · obtain ⟨y0, y1⟩ := cell2 kN
            obtain ⟨u0, u1⟩ := cell2 k1
            obtain ⟨f0, f1⟩ := free2 k1
            go_upto_region 11 with fail
            generalize v5.alloc (.cells #[.slice B1 N1 e1, .slice B2 N2 e2] 26) = v6 at *
            go_wp2_with fail
            go_roundw
            case rel => exact ⟨k, _, by omega, by go_num, ⟨hr.1, (Below.heap_setCell _ ⟨w.heap.size + 1, 1, none⟩ _ g (show g ≠ w.heap.size + 1 by omega)).trans ((Below.heap_setCell _ ⟨w.heap.size + 1, 0, none⟩ _ g (show g ≠ w.heap.size + 1 by omega)).trans hr.2)⟩, only_setCell (only_setCell hG (p := ⟨w.heap.size + 1, 0, none⟩) (.inr (show w.heap.size ≤ w.heap.size + 1 by omega)) _) (p := ⟨w.heap.size + 1, 1, none⟩) (.inr (show w.heap.size ≤ w.heap.size + 1 by omega)) _, (Below.heap_setCell _ ⟨w.heap.size + 1, 1, none⟩ _ w.heap.size (show w.heap.size ≠ w.heap.size + 1 by omega)).trans ((Below.heap_setCell _ ⟨w.heap.size + 1, 0, none⟩ _ w.heap.size (show w.heap.size ≠ w.heap.size + 1 by omega)).trans k0), _, N1, Z1, _, N2, Z2, heap_set1 (heap_set0 k1), HN1, HN2, (TN.kept (set_grown v6 (w.heap.size + 1) 0 _) (by omega)).kept (set_grown _ (w.heap.size + 1) 1 _) (by omega)⟩
            case measure => simp [intOf]
end Go.Proofs.Ytfodkefaflpicaa

namespace Go.Proofs.Ytfodkefaflpicaa
open Go.RowKit Wire

set_option linter.unusedVariables false in
set_option maxHeartbeats 3200000 in
set_option maxRecDepth 100000 in
theorem side_any (g : Nat) (A : Option Addr) (len cap p : Nat) (w : World) (hr : RdAt w g A len cap p) (hs : Src w g A len) (hl : len ≤ 9223372036854775807) :
    Calls Try.prog 43 #[.pointer (some ⟨g, 0, none⟩)] w (DrawnI w g A len cap) := by
  have hlt := hr.lt
  go_enter Try.func43, Try.ntmps43
  go_wp2_with fail
  refine (once_any 40 g A len cap _ _ hr hs hl (by omega) (by omega)).mono ?_
  rintro e v1 ⟨bb, p1, rfl, hr1, hg1⟩
  rcases bb with _ | _
  · go_wp2_with fail
    refine (below_any 2 g A len cap _ _ hr1 (hs.keep hg1 (Nat.le_of_lt hlt)) hl (by omega) (by omega)).mono ?_
    rintro e v2 ⟨x, p2, x0, x1, rfl, hr2, hg2⟩
    go_wp2_with fail
    go_ret
    exact ⟨1 + x, p2, by unfold I64; omega, rfl, hr2, only_trans hg1 hg2⟩
  · go_wp2_with fail
    refine (off_any 1 2 g A len cap _ _ hr1 (hs.keep hg1 (Nat.le_of_lt hlt)) hl (by omega) (by omega) (by omega)).mono ?_
    rintro e v2 ⟨x, p2, hx, rfl, hr2, hg2⟩
    go_wp2_with fail
    go_ret
    exact ⟨x, p2, hx, rfl, hr2, only_trans hg1 hg2⟩
end Go.Proofs.Ytfodkefaflpicaa

namespace Go.Proofs.Ytfodkefaflpicaa
open Go.RowKit Wire

/-- a drawn book in its box, the result's cells, the reader -/
structure DrB (w wr : World) (T g : Nat) (A : Option Addr) (len cap p : Nat) (v1 v2 u1 u2 : Value) (n1 : Nat) (z1 : List Int) (n2 : Nat) (z2 : List Int) : Prop where
  box : wr.heap[T]? = some (.cells #[v1, v2] 26 (0, 0))
  res : wr.heap[w.heap.size]? = some (.cells #[u1, u2] 26 (0, 0))
  rd : RdAt wr g A len cap p
  rows : TwoRows wr (g + 1) v1 n1 z1 v2 n2 z2
  bel : Below w.heap.size w wr
  far : w.heap.size < g ∧ g < T
section
variable {w wr wx : World} {S T g len cap p n1 n2 : Nat} {A : Option Addr} {v1 v2 u1 u2 : Value} {z1 z2 : List Int}
theorem DrB.drew (h : DrB w wr T g A len cap p v1 v2 u1 u2 n1 z1 n2 z2) : DrB w wr.drew T g A len cap p v1 v2 u1 u2 n1 z1 n2 z2 := ⟨h.box, h.res, h.rd, h.rows.drew, h.bel.drew, h.far⟩
theorem DrB.step {p' : Nat} (h : DrB w wr T g A len cap p v1 v2 u1 u2 n1 z1 n2 z2) (hr : RdAt wx g A len cap p') (hg : wr.grownBy wx (some g)) : DrB w wx T g A len cap p' v1 v2 u1 u2 n1 z1 n2 z2 :=
  ⟨(hg.block T (heap_lt h.box) (fun e => by injection e with e; have := h.far; omega)).trans h.box, (hg.block _ (heap_lt h.res) (fun e => by injection e with e; have := h.far; omega)).trans h.res, hr,
    h.rows.kept hg (Nat.lt_succ_self g), h.bel.grown hg h.bel.size (fun k e => by injection e with e; have := h.far; omega), h.far⟩
theorem DrB.put (h : DrB w wr T g A len cap p v1 v2 u1 u2 n1 z1 n2 z2) : DrB w ((wr.setCell ⟨w.heap.size, 0, none⟩ v1).setCell ⟨w.heap.size, 1, none⟩ v2) T g A len cap p v1 v2 v1 v2 n1 z1 n2 z2 :=
  ⟨mset2_other h.box (by have := h.far; omega), mset2 h.res, ⟨h.rd.1, mset2_other h.rd.2 (by have := h.far; omega)⟩,
    (h.rows.kept (set_grown wr w.heap.size 0 v1) (by have := h.far; omega)).kept (set_grown _ w.heap.size 1 v2) (by have := h.far; omega),
    (h.bel.setCell (p := ⟨w.heap.size, 0, none⟩) (Nat.le_refl _) _).setCell (p := ⟨w.heap.size, 1, none⟩) (Nat.le_refl _) _, h.far⟩
theorem DrB.setO (h : DrB w wr T g A len cap p v1 v2 u1 u2 n1 z1 n2 z2) (hS : w.heap.size < S) (hg : S < g) (a b c d : Value) : DrB w ((((wr.setCell ⟨S, 0, none⟩ a).setCell ⟨S, 1, none⟩ b).setCell ⟨S, 2, none⟩ c).setCell ⟨S, 3, none⟩ d) T g A len cap p v1 v2 u1 u2 n1 z1 n2 z2 :=
  ⟨ord_put_other h.box (by have := h.far; omega), ord_put_other h.res (by omega), ⟨h.rd.1, ord_put_other h.rd.2 (by omega)⟩,
    (((h.rows.kept (set_grown wr S 0 a) (by omega)).kept (set_grown _ S 1 b) (by omega)).kept (set_grown _ S 2 c) (by omega)).kept (set_grown _ S 3 d) (by omega),
    (((h.bel.setCell (p := ⟨S, 0, none⟩) (Nat.le_of_lt hS) _).setCell (p := ⟨S, 1, none⟩) (Nat.le_of_lt hS) _).setCell (p := ⟨S, 2, none⟩) (Nat.le_of_lt hS) _).setCell (p := ⟨S, 3, none⟩) (Nat.le_of_lt hS) _, h.far⟩
end
/-- a drawn book with more -/
def DrawnBk (w : World) (R : List Value → Prop) (e : Ending) (w' : World) : Prop := ∃ v1 n1 z1 v2 n2 z2 xs, e = .returned (.tuple (#[.agg #[v1, v2]] ++ xs.toArray)) ∧ R xs ∧ n1 ≤ 20 ∧ n2 ≤ 20 ∧ TwoRows w' w.heap.size v1 n1 z1 v2 n2 z2 ∧ Below w.heap.size w w'
end Go.Proofs.Ytfodkefaflpicaa
