/-
  Draw, DrawTrd, DrawOrd.
-/
import Derived.Test.YtfodkefaflpicabNum
import Derived.Handy
import Derived.Deep.QuietTactic
import Derived.BigQuiet
import Derived.Deep.DeepFit
import Derived.Test.YtfodkefaflpicabOwn
import Derived.Test.YtfodkefaflpicabKeep
namespace Go.Proofs.Ytfodkefaflpicab
open Go.RowKit Wire

/-- block g is a reader of the bytes at A, at place p -/
def RdAt (w : World) (g : Nat) (A : Option Addr) (len cap p : Nat) : Prop := p ≤ len ∧ w.heap[g]? = some (.cells #[.slice A len cap, .int .i64 (p : Int)] 102 (0, 0))
/-- len bytes lie at A, in blocks below B -/
def Src (w : World) (B : Nat) (A : Option Addr) (len : Nat) : Prop := ∀ i, i < len → ∃ (b o : Nat) (n : Int), A = some ⟨b, o, none⟩ ∧ b < B ∧ 0 ≤ n ∧ n < 256 ∧ w.cell? ⟨b, o + i, none⟩ = some (.int .u8 n)
/-- what a draw leaves: a number in its range, the reader further on -/
def Drawn (w : World) (g : Nat) (A : Option Addr) (len cap : Nat) (lo hi : Int) (e : Ending) (w' : World) : Prop :=
  ∃ (n : Int) (p : Nat), lo ≤ n ∧ n ≤ hi ∧ e = .returned (.int .i64 n) ∧ RdAt w' g A len cap p ∧ w.grownBy w' (some g)
theorem Src.keep {w w' : World} {g : Nat} {A : Option Addr} {len : Nat} (h : Src w g A len) (hg : w.grownBy w' (some g)) (hs : g ≤ w.heap.size) : Src w' g A len := fun i hi => by
  obtain ⟨b, o, n, h1, h2, h3, h4, h5⟩ := h i hi
  exact ⟨b, o, n, h1, h2, h3, h4, (World.cell?_of_block (hg.block b (by omega) (fun e => by injection e with e; omega))).trans h5⟩

theorem only_drewN {a w : World} {row : Option Nat} (h : a.grownBy w row) (n : Nat) : a.grownBy (w.drewN n) row := ⟨h.os, h.tape, h.output, h.size, h.block⟩
theorem only_alloc {a w : World} {row : Option Nat} (h : a.grownBy w row) (o : Obj) : a.grownBy (w.alloc o) row :=
  ⟨h.os, h.tape, h.output, Nat.le_trans h.size (by simp), fun i hi hne => (Below.heap_alloc w o i (Nat.lt_of_lt_of_le hi h.size)).trans (h.block i hi hne)⟩
theorem only_setCell {a w : World} {g : Nat} (h : a.grownBy w (some g)) {p : Addr} (hp : p.block = g ∨ a.heap.size ≤ p.block) (u : Value) : a.grownBy (w.setCell p u) (some g) :=
  ⟨h.os, h.tape, h.output, by simpa [World.setCell] using h.size, fun i hi hne => (Below.heap_setCell w p u i (by
    rintro rfl
    rcases hp with hp | hp
    · exact hne (by rw [hp])
    · omega)).trans (h.block i hi hne)⟩
theorem only_trans {a w w1 : World} {row : Option Nat} (h : a.grownBy w row) (hb : w.grownBy w1 row) : a.grownBy w1 row :=
  ⟨hb.os.trans h.os, hb.tape.trans h.tape, hb.output.trans h.output, Nat.le_trans h.size hb.size, fun i hi hn => (hb.block i (Nat.lt_of_lt_of_le hi h.size) hn).trans (h.block i hi hn)⟩

set_option maxHeartbeats 800000 in
set_option maxRecDepth 100000 in
theorem next_any (g : Nat) (A : Option Addr) (len cap p : Nat) (w : World) (hr : RdAt w g A len cap p) (hs : Src w g A len) (hl : len ≤ 9223372036854775807) :
    Calls Try.prog 86 #[.pointer (some ⟨g, 0, none⟩)] w (Drawn w g A len cap 0 255) := by
  obtain ⟨hp, hh⟩ := hr
  have c0 : w.cell? ⟨g, 0, none⟩ = some (.slice A len cap) := (cell_of_row w g 0 _ _ (0, 0) hh).trans rfl
  have c1 : w.cell? ⟨g, 1, none⟩ = some (.int .i64 (p : Int)) := (cell_of_row w g 1 _ _ (0, 0) hh).trans rfl
  have f1 : w.frozen? ⟨g, 1, none⟩ = false := frozen_of_row w g 1 _ _ hh
  have HH := Lib.hid hh
  clear hh
  by_cases hlt : p < len
  · obtain ⟨b, o, n, rfl, hb, h0, h1, hc⟩ := hs p hlt
    have hne : b ≠ g := by omega
    clear hs
    go_enter Try.func86, Try.ntmps86
    go_wp2
    go_quiet (fail)
    go_wp2
    have e1 : (p : Int) + 1 - 1 = (p : Int) := by omega
    go_quiet (fail)
    go_wp2
    go_ret
    exact ⟨n, p + 1, h0, by omega, rfl, ⟨by omega, (heap_setCell_same _ g 1 _ _ (.int .i64 ((p : Int) + 1)) HH.out).trans (by simp)⟩, only_drewN (only_setCell (only_drewN (World.grownBy.refl _ _) _) (.inl rfl) _) _⟩
  · obtain rfl : p = len := by omega
    clear hs
    go_enter Try.func86, Try.ntmps86
    go_wp2
    go_quiet (fail)
    go_wp2
    go_ret
    exact ⟨0, p, by omega, by omega, rfl, ⟨Nat.le_refl _, HH.out⟩, only_drewN (World.grownBy.refl _ _) _⟩
theorem RdAt.lt {w : World} {g : Nat} {A : Option Addr} {len cap p : Nat} (h : RdAt w g A len cap p) : g < w.heap.size := by
  rcases Nat.lt_or_ge g w.heap.size with hlt | hge
  · exact hlt
  · have := h.2; rw [Array.getElem?_eq_none hge] at this; cases this
set_option maxHeartbeats 800000 in
set_option maxRecDepth 100000 in
theorem below_any (n : Int) (g : Nat) (A : Option Addr) (len cap p : Nat) (w : World) (hr : RdAt w g A len cap p) (hs : Src w g A len) (hl : len ≤ 9223372036854775807) (h1 : 1 ≤ n) (h2 : n ≤ 9223372036854775807) :
    Calls Try.prog 48 #[.pointer (some ⟨g, 0, none⟩), .int .i64 n] w (Drawn w g A len cap 0 (n - 1)) := by
  by_cases hn1 : n ≤ 1
  · go_enter Try.func48, Try.ntmps48
    go_wp2_with fail
    go_ret
    exact ⟨0, p, by omega, by omega, rfl, hr, World.grownBy.refl _ _⟩
  · by_cases hn2 : n ≤ 256
    · have h0 : (n == 0) = false := beq_eq_false_iff_ne.2 (by omega)
      go_enter Try.func48, Try.ntmps48
      go_wp2_with fail
      refine (next_any g A len cap p _ hr hs hl).mono ?_
      rintro e w1 ⟨m, p1, m0, m1, rfl, hr1, hg1⟩
      go_wp2_with fail
      go_ret
      exact ⟨m % n, p1, Int.emod_nonneg _ (by omega), by have := Int.emod_lt_of_pos m (show 0 < n by omega); omega, rfl, hr1, hg1⟩
    · have h0 : (n == 0) = false := beq_eq_false_iff_ne.2 (by omega)
      go_enter Try.func48, Try.ntmps48
      go_wp2_with fail
      refine (next_any g A len cap p _ hr hs hl).mono ?_
      rintro e w1 ⟨m, p1, m0, m1, rfl, hr1, hg1⟩
      go_wp2_with fail
      refine (next_any g A len cap p1 _ hr1 (hs.keep hg1 (Nat.le_of_lt hr.lt)) hl).mono ?_
      rintro e w2 ⟨k, p2, k0, k1, rfl, hr2, hg2⟩
      go_wp2_with fail
      go_ret
      exact ⟨(m * 256 + k) % n, p2, Int.emod_nonneg _ (by omega), by have := Int.emod_lt_of_pos (m * 256 + k) (show 0 < n by omega); omega, rfl, hr2, only_trans hg1 hg2⟩
/-- a draw of yes or no -/
def DrawnB (w : World) (g : Nat) (A : Option Addr) (len cap : Nat) (e : Ending) (w' : World) : Prop :=
  ∃ (b : Bool) (p : Nat), e = .returned (.bool b) ∧ RdAt w' g A len cap p ∧ w.grownBy w' (some g)
set_option maxHeartbeats 400000 in
set_option maxRecDepth 100000 in
theorem once_any (n : Int) (g : Nat) (A : Option Addr) (len cap p : Nat) (w : World) (hr : RdAt w g A len cap p) (hs : Src w g A len) (hl : len ≤ 9223372036854775807) (h1 : 1 ≤ n) (h2 : n ≤ 9223372036854775807) :
    Calls Try.prog 57 #[.pointer (some ⟨g, 0, none⟩), .int .i64 n] w (DrawnB w g A len cap) := by
  go_enter Try.func57, Try.ntmps57
  go_wp2_with fail
  refine (below_any n g A len cap p _ hr hs hl h1 h2).mono ?_
  rintro e w1 ⟨m, p1, m0, m1, rfl, hr1, hg1⟩
  go_wp2_with fail
  go_ret
  exact ⟨_, p1, rfl, hr1, hg1⟩
/-- a draw of 64 bits -/
def DrawnU (w : World) (g : Nat) (A : Option Addr) (len cap : Nat) (e : Ending) (w' : World) : Prop :=
  ∃ (n : Int) (p : Nat), 0 ≤ n ∧ e = .returned (.int .u64 n) ∧ RdAt w' g A len cap p ∧ w.grownBy w' (some g)
theorem bits_u64_nonneg (o : BinOp) (a b : Int) : 0 ≤ bits o .u64 a b := by
  unfold bits
  simp only [IntKind.wrap_u64]
  omega
set_option maxHeartbeats 800000 in
set_option maxRecDepth 100000 in
theorem word_any (g : Nat) (A : Option Addr) (len cap p : Nat) (w : World) (hr : RdAt w g A len cap p) (hs : Src w g A len) (hl : len ≤ 9223372036854775807) :
    Calls Try.prog 106 #[.pointer (some ⟨g, 0, none⟩)] w (DrawnU w g A len cap) := by
  go_enter Try.func106, Try.ntmps106
  go_wp2_with fail
  go_loopw [3, 4] (fun x i wr => ∃ (X : Int) (k q : Nat), 0 ≤ X ∧ k ≤ 8 ∧ x = .int .u64 X ∧ i = .int .i64 (k : Int) ∧ RdAt wr g A len cap q ∧ w.grownBy wr (some g)) (fun _ i _ => 8 - (intOf i).toNat)
  case atStart => exact ⟨0, 0, p, by omega, by omega, rfl, rfl, hr, World.grownBy.refl _ _⟩
  case round =>
    obtain ⟨X, k, q, hX, hk, rfl, rfl, hq, hgr⟩ := hrel
    by_cases h8 : k < 8
    · go_wp2_with fail
      refine (next_any g A len cap q _ hq (hs.keep hgr (Nat.le_of_lt hr.lt)) hl).mono ?_
      rintro e w1 ⟨m, p1, m0, m1, rfl, hr1, hg1⟩
      go_wp2_with fail
      go_roundw
      case rel => exact ⟨_, k + 1, p1, bits_u64_nonneg _ _ _, by omega, rfl, by go_num, hr1, only_trans hgr hg1⟩
      case measure => simp [intOf]; omega
    · go_wp2_with fail
      go_ret
      exact ⟨X, q, hX, rfl, hq, hgr⟩
set_option maxHeartbeats 800000 in
set_option maxRecDepth 100000 in
theorem near_any (lo hi : Int) (g : Nat) (A : Option Addr) (len cap p : Nat) (w : World) (hr : RdAt w g A len cap p) (hs : Src w g A len) (hl : len ≤ 9223372036854775807) (h1 : -10 ≤ lo) (h2 : lo ≤ hi) (h3 : hi ≤ 2000000000) :
    Calls Try.prog 78 #[.pointer (some ⟨g, 0, none⟩), .int .i64 lo, .int .i64 hi] w (Drawn w g A len cap lo hi) := by
  go_enter Try.func78, Try.ntmps78
  go_wp2_with fail
  refine (below_any 8 g A len cap p _ hr hs hl (by omega) (by omega)).mono ?_
  rintro e w1 ⟨m, p1, m0, m1, rfl, hr1, hg1⟩
  have hs1 := hs.keep hg1 (Nat.le_of_lt hr.lt)
  rcases (show m = 0 ∨ m = 1 ∨ 2 ≤ m from by omega) with rfl | rfl | h2m
  · go_wp2_with fail
    go_ret
    exact ⟨lo, p1, by omega, h2, rfl, hr1, hg1⟩
  · go_wp2_with fail
    go_ret
    exact ⟨hi, p1, h2, by omega, rfl, hr1, hg1⟩
  · have z0 : (m == 0) = false := beq_eq_false_iff_ne.2 (by omega)
    have z1 : (m == 1) = false := beq_eq_false_iff_ne.2 (by omega)
    have z2 : (hi - lo + 1 == 0) = false := beq_eq_false_iff_ne.2 (by omega)
    go_wp2_with fail
    refine (word_any g A len cap p1 _ hr1 hs1 hl).mono ?_
    rintro e w2 ⟨n, p2, n0, rfl, hr2, hg2⟩
    have hb0 : 0 ≤ n / 2 % (hi - lo + 1) := Int.emod_nonneg _ (by omega)
    have hb1 : n / 2 % (hi - lo + 1) < hi - lo + 1 := Int.emod_lt_of_pos _ (by omega)
    go_wp2_with fail
    go_ret
    exact ⟨lo + n / 2 % (hi - lo + 1), p2, by omega, by omega, rfl, hr2, only_trans hg1 hg2⟩
theorem RdAt.alloc {w : World} {g : Nat} {A : Option Addr} {len cap p : Nat} (h : RdAt w g A len cap p) (o : Obj) : RdAt (w.alloc o) g A len cap p :=
  ⟨h.1, (Below.heap_alloc w o g h.lt).trans h.2⟩
/-- a draw of some int64 -/
def DrawnI (w : World) (g : Nat) (A : Option Addr) (len cap : Nat) (e : Ending) (w' : World) : Prop :=
  ∃ (n : Int) (p : Nat), I64 n ∧ e = .returned (.int .i64 n) ∧ RdAt w' g A len cap p ∧ w.grownBy w' (some g)
set_option maxHeartbeats 800000 in
set_option maxRecDepth 100000 in
theorem off_any (lo hi : Int) (g : Nat) (A : Option Addr) (len cap p : Nat) (w : World) (hr : RdAt w g A len cap p) (hs : Src w g A len) (hl : len ≤ 9223372036854775807) (h1 : -9 ≤ lo) (h2 : lo ≤ hi) (h3 : hi ≤ 1000000001) :
    Calls Try.prog 38 #[.pointer (some ⟨g, 0, none⟩), .int .i64 lo, .int .i64 hi] w (DrawnI w g A len cap) := by
  go_enter Try.func38, Try.ntmps38
  go_wp2_with fail
  refine (once_any 24 g A len cap p _ hr hs hl (by omega) (by omega)).mono ?_
  rintro e w1 ⟨b, p1, rfl, hr1, hg1⟩
  have hs1 := hs.keep hg1 (Nat.le_of_lt hr.lt)
  cases b
  · go_wp2_with fail
    refine (near_any lo hi g A len cap p1 _ hr1 hs1 hl (by omega) h2 (by omega)).mono ?_
    rintro e w2 ⟨n, p2, n0, n1, rfl, hr2, hg2⟩
    go_wp2_with fail
    go_ret
    exact ⟨n, p2, ⟨by omega, by omega⟩, rfl, hr2, only_trans hg1 hg2⟩
  · go_wp2_with fail
    refine (below_any 4 g A len cap p1 _ (hr1.alloc _) (hs1.keep (only_alloc (World.grownBy.refl _ _) _) (Nat.le_of_lt hr1.lt)) hl (by omega) (by omega)).mono ?_
    rintro e w2 ⟨m, p2, m0, m1, rfl, hr2, hg2⟩
    have hlt1 := hr1.lt
    have hA := (hg2.block w1.heap.size (by simp) (fun e => by injection e with e; omega)).trans (heap_alloc_new w1 _)
    have c0 := cell_of_row w2 w1.heap.size 0 _ _ (0, 0) hA
    have c1 := cell_of_row w2 w1.heap.size 1 _ _ (0, 0) hA
    have c2 := cell_of_row w2 w1.heap.size 2 _ _ (0, 0) hA
    have c3 := cell_of_row w2 w1.heap.size 3 _ _ (0, 0) hA
    simp at c0 c1 c2 c3
    have hg3 := only_trans hg1 (only_trans (only_alloc (World.grownBy.refl w1 (some g)) _) hg2)
    clear hA hg2 hlt1
    rcases (show m = 0 ∨ m = 1 ∨ m = 2 ∨ m = 3 from by omega) with rfl | rfl | rfl | rfl
    all_goals
      go_wp2_with fail
      go_ret
      exact ⟨_, p2, ⟨by omega, by omega⟩, rfl, hr2, hg3⟩
set_option maxHeartbeats 400000 in
theorem open_any (A : Option Addr) (len cap : Nat) (w : World) :
    Calls Try.prog 29 #[.slice A len cap] w fun e w' => e = .returned (.pointer (some ⟨w.heap.size, 0, none⟩)) ∧ w' = w.alloc (.cells #[.slice A len cap, .int .i64 0] 102) := by
  go_enter Try.func29, Try.ntmps29
  go_wp2_with fail
  go_ret
  exact ⟨rfl, rfl⟩
theorem only_own {a w w1 : World} {g : Nat} {row : Option Nat} (h : a.grownBy w (some g)) (hb : w.grownBy w1 row) (hr : ∀ k, row = some k → a.heap.size ≤ k) : a.grownBy w1 (some g) :=
  ⟨hb.os.trans h.os, hb.tape.trans h.tape, hb.output.trans h.output, Nat.le_trans h.size hb.size, fun i hi hn =>
    (hb.block i (Nat.lt_of_lt_of_le hi h.size) (fun e => by have := hr i e.symm; omega)).trans (h.block i hi hn)⟩
theorem RdAt.own {w w1 : World} {g : Nat} {A : Option Addr} {len cap p : Nat} {row : Option Nat} (h : RdAt w g A len cap p) (hb : w.grownBy w1 row) (hr : ∀ k, row = some k → g < k) : RdAt w1 g A len cap p :=
  ⟨h.1, (hb.block g h.lt (fun e => by have := hr g e.symm; omega)).trans h.2⟩
theorem bcells_snoc (l : List UInt8) (m : Int) (h0 : 0 ≤ m) (h1 : m ≤ 255) : bcells (l ++ [UInt8.ofNat m.toNat]) = bcells l ++ [.int .u8 m] := by
  have e : ((UInt8.ofNat m.toNat).toNat : Int) = m := by simp; omega
  unfold bcells
  rw [List.map_append, List.map_cons, List.map_nil, e]
/-- a drawn string of at most so many bytes -/
def DrawnS (w : World) (g : Nat) (A : Option Addr) (len cap : Nat) (most : Nat) (e : Ending) (w' : World) : Prop :=
  ∃ (s : ByteArray) (p : Nat), s.size ≤ most ∧ e = .returned (.string s) ∧ RdAt w' g A len cap p ∧ w.grownBy w' (some g)
/-- a drawn string -/
def SomeS (w : World) (most : Nat) (e : Ending) (w' : World) : Prop := ∃ s : ByteArray, s.size ≤ most ∧ e = .returned (.string s) ∧ Below w.heap.size w w'
end Go.Proofs.Ytfodkefaflpicab

namespace Go.Proofs.Ytfodkefaflpicab
open Go.RowKit Wire

theorem nums_set (zs : List Int) (j : Nat) (x : Int) : nums (zs.set j x) = (nums zs).set j (.int .i64 x) := by simp [nums, List.map_set]
/-- drawn rows of a call's own -/
def DrawnRows (w : World) (g : Nat) (A : Option Addr) (len cap : Nat) (T : TypeId) (sz most : Nat) (e : Ending) (w' : World) : Prop :=
  ∃ (v : Value) (n : Nat) (zs : List Int) (p : Nat), n ≤ most ∧ e = .returned v ∧ w'.ownsRow w.heap.size T sz v n (nums zs) ∧ RdAt w' g A len cap p ∧ w.grownBy w' (some g)
theorem only_below {a w w1 : World} {row : Option Nat} (h : a.grownBy w row) (hb : Below w.heap.size w w1) : a.grownBy w1 row :=
  ⟨hb.os.trans h.os, hb.tape.trans h.tape, hb.output.trans h.output, Nat.le_trans h.size hb.size, fun k hk hne => (hb.block k (Nat.lt_of_lt_of_le hk h.size)).trans (h.block k hk hne)⟩
theorem RdAt.below {w w1 : World} {g : Nat} {A : Option Addr} {len cap p : Nat} (h : RdAt w g A len cap p) (hb : Below w.heap.size w w1) : RdAt w1 g A len cap p := ⟨h.1, (hb.block g h.lt).trans h.2⟩
end Go.Proofs.Ytfodkefaflpicab

namespace Go.Proofs.Ytfodkefaflpicab
open Go.RowKit Wire

theorem ord_cell {w : World} {S : Nat} {a b c d : Value} {T : TypeId} (h : w.heap[S]? = some (.cells #[a, b, c, d] T (0, 0))) : w.cell? ⟨S, 0, none⟩ = some a ∧ w.cell? ⟨S, 1, none⟩ = some b ∧ w.cell? ⟨S, 2, none⟩ = some c ∧ w.cell? ⟨S, 3, none⟩ = some d ∧ w.frozen? ⟨S, 0, none⟩ = false ∧ w.frozen? ⟨S, 1, none⟩ = false ∧ w.frozen? ⟨S, 2, none⟩ = false ∧ w.frozen? ⟨S, 3, none⟩ = false := by
  refine ⟨?_, ?_, ?_, ?_, ?_, ?_, ?_, ?_⟩ <;> simp [World.cell?, World.frozen?, h]
theorem ord_set {w : World} {S : Nat} {a b c d : Value} {T : TypeId} (h : w.heap[S]? = some (.cells #[a, b, c, d] T (0, 0))) (j : Nat) (u : Value) : (w.setCell ⟨S, j, none⟩ u).heap[S]? = some (.cells (#[a, b, c, d].setIfInBounds j u) T (0, 0)) := by
  simp [World.setCell, Array.getElem?_modify, h]
theorem ord_put {w : World} {S : Nat} {a b c d u0 u1 u2 u3 : Value} {T : TypeId} (h : w.heap[S]? = some (.cells #[a, b, c, d] T (0, 0))) :
    ((((w.setCell ⟨S, 0, none⟩ u0).setCell ⟨S, 1, none⟩ u1).setCell ⟨S, 2, none⟩ u2).setCell ⟨S, 3, none⟩ u3).heap[S]? = some (.cells #[u0, u1, u2, u3] T (0, 0)) := by
  simp [World.setCell, Array.getElem?_modify, h]
theorem ord_put_other {w : World} {S k : Nat} {o : Obj} {u0 u1 u2 u3 : Value} (h : w.heap[k]? = some o) (hne : k ≠ S) :
    ((((w.setCell ⟨S, 0, none⟩ u0).setCell ⟨S, 1, none⟩ u1).setCell ⟨S, 2, none⟩ u2).setCell ⟨S, 3, none⟩ u3).heap[k]? = some o := by
  have e := fun (v : World) (i : Nat) (u : Value) => Below.heap_setCell v ⟨S, i, none⟩ u k hne
  rw [e, e, e, e]
  exact h
/-- a drawn order -/
def DrawnOrd (w : World) (g : Nat) (A : Option Addr) (len cap : Nat) (e : Ending) (w' : World) : Prop :=
  ∃ (a b c d : Int) (p : Nat), e = .returned (.agg #[.int .i64 a, .int .i64 b, .int .i64 c, .int .i64 d]) ∧ RdAt w' g A len cap p ∧ w.grownBy w' (some g)
set_option linter.unusedSimpArgs false in
set_option maxHeartbeats 1600000 in
set_option maxRecDepth 100000 in
theorem order_any (g : Nat) (A : Option Addr) (len cap p : Nat) (w : World) (hr : RdAt w g A len cap p) (hs : Src w g A len) (hl : len ≤ 9223372036854775807) :
    Calls Try.prog 70 #[.pointer (some ⟨g, 0, none⟩)] w (DrawnOrd w g A len cap) := by
  have hlt := hr.lt
  have k0 := heap_alloc_new w (.cells #[.int .i64 0, .int .i64 0, .int .i64 0, .int .i64 0] 33)
  have hG : w.grownBy (w.alloc (.cells #[.int .i64 0, .int .i64 0, .int .i64 0, .int .i64 0] 33)) (some g) := only_alloc (World.grownBy.refl _ _) _
  replace hr := hr.alloc (.cells #[.int .i64 0, .int .i64 0, .int .i64 0, .int .i64 0] 33)
  go_enter Try.func70, Try.ntmps70
  go_wp2_with fail
  generalize w.alloc (.cells #[.int .i64 0, .int .i64 0, .int .i64 0, .int .i64 0] 33) = v0 at *
  refine (below_any 14 g A len cap _ _ hr (hs.keep hG (Nat.le_of_lt hlt)) hl (by omega) (by omega)).mono ?_
  rintro e v1 ⟨x1, p1, x10, x11, rfl, hr', hg'⟩
  replace k0 := (hg'.block w.heap.size (heap_lt' k0) (fun e => by injection e with e; omega)).trans k0
  replace hG := only_trans hG hg'
  replace hr := hr'
  clear hr' hg'
  go_wp2_with fail
  refine (below_any 3 g A len cap _ _ hr (hs.keep hG (Nat.le_of_lt hlt)) hl (by omega) (by omega)).mono ?_
  rintro e v2 ⟨x2, p2, x20, x21, rfl, hr', hg'⟩
  replace k0 := (hg'.block w.heap.size (heap_lt' k0) (fun e => by injection e with e; omega)).trans k0
  replace hG := only_trans hG hg'
  replace hr := hr'
  clear hr' hg'
  go_wp2_with fail
  refine (below_any 7 g A len cap _ _ hr (hs.keep hG (Nat.le_of_lt hlt)) hl (by omega) (by omega)).mono ?_
  rintro e v3 ⟨x3, p3, x30, x31, rfl, hr', hg'⟩
  replace k0 := (hg'.block w.heap.size (heap_lt' k0) (fun e => by injection e with e; omega)).trans k0
  replace hG := only_trans hG hg'
  replace hr := hr'
  clear hr' hg'
  go_wp2_with fail
  refine (below_any 9 g A len cap _ _ hr (hs.keep hG (Nat.le_of_lt hlt)) hl (by omega) (by omega)).mono ?_
  rintro e v4 ⟨x4, p4, x40, x41, rfl, hr', hg'⟩
  replace k0 := (hg'.block w.heap.size (heap_lt' k0) (fun e => by injection e with e; omega)).trans k0
  replace hG := only_trans hG hg'
  replace hr := hr'
  clear hr' hg'
  have kB := heap_alloc_new v4 (.cells #[.int .i64 (1 + x1), .int .i64 (1 + x2), .int .i64 (97 + x3), .int .i64 (1 + x4)] 33)
  have hGB : w.heap.size < v4.heap.size := heap_lt' k0
  have hgB : g < v4.heap.size := hr.lt
  replace k0 := (Below.heap_alloc v4 (.cells #[.int .i64 (1 + x1), .int .i64 (1 + x2), .int .i64 (97 + x3), .int .i64 (1 + x4)] 33) w.heap.size hGB).trans k0
  replace hG := only_alloc hG (.cells #[.int .i64 (1 + x1), .int .i64 (1 + x2), .int .i64 (97 + x3), .int .i64 (1 + x4)] 33)
  replace hr := hr.alloc (.cells #[.int .i64 (1 + x1), .int .i64 (1 + x2), .int .i64 (97 + x3), .int .i64 (1 + x4)] 33)
  go_wp2_with fail
  generalize v4.alloc (.cells #[.int .i64 (1 + x1), .int .i64 (1 + x2), .int .i64 (97 + x3), .int .i64 (1 + x4)] 33) = v4' at *
  generalize v4.heap.size = GB at *
  refine (below_any 40 g A len cap _ _ hr (hs.keep hG (Nat.le_of_lt hlt)) hl (by omega) (by omega)).mono ?_
  rintro e v5 ⟨x5, p5, x50, x51, rfl, hr', hg'⟩
  replace k0 := (hg'.block w.heap.size (heap_lt' k0) (fun e => by injection e with e; omega)).trans k0
  replace kB := (hg'.block GB (heap_lt' kB) (fun e => by injection e with e; omega)).trans kB
  replace hG := only_trans hG hg'
  replace hr := hr'
  clear hr' hg'
  rcases (show x5 = 38 ∨ x5 = 39 ∨ (x5 ≠ 38 ∧ x5 ≠ 39) from by omega) with rfl | rfl | ⟨h38, h39⟩
  · go_wp2_with fail
    refine (off_any 1 1000000 g A len cap _ _ hr (hs.keep hG (Nat.le_of_lt hlt)) hl (by omega) (by omega) (by omega)).mono ?_
    rintro e v6 ⟨y, p6, _, rfl, hr', hg'⟩
    replace k0 := (hg'.block w.heap.size (heap_lt' k0) (fun e => by injection e with e; omega)).trans k0
    replace kB := (hg'.block GB (heap_lt' kB) (fun e => by injection e with e; omega)).trans kB
    replace hG := only_trans hG hg'
    replace hr := hr'
    clear hr' hg'
    obtain ⟨c0, c1, c2, c3, f0, f1, f2, f3⟩ := ord_cell kB
    go_upto_region 7 with fail
    clear c0 c1 c2 c3 f0 f1 f2 f3
    replace kB := ord_set kB 2 (.int .i64 y)
    simp only [List.setIfInBounds_toArray, List.set_cons_zero, List.set_cons_succ] at kB
    replace k0 := (Below.heap_setCell v6 ⟨GB, 2, none⟩ (.int .i64 y) w.heap.size (show w.heap.size ≠ GB by omega)).trans k0
    replace hG := only_setCell hG (p := ⟨GB, 2, none⟩) (.inr (show w.heap.size ≤ GB by omega)) (.int .i64 y)
    replace hr : RdAt (v6.setCell ⟨GB, 2, none⟩ (.int .i64 y)) g A len cap p6 := ⟨hr.1, (Below.heap_setCell v6 ⟨GB, 2, none⟩ (.int .i64 y) g (show g ≠ GB by omega)).trans hr.2⟩
    generalize v6.setCell ⟨GB, 2, none⟩ (.int .i64 y) = v7 at *
    obtain ⟨c0, c1, c2, c3, _, _, _, _⟩ := ord_cell kB
    obtain ⟨d0, d1, d2, d3, f0, f1, f2, f3⟩ := ord_cell k0
    have R0 := Lib.hid k0
    have RB := Lib.hid hG
    have RR := Lib.hid hr
    clear kB k0 hG hr
    go_wp2_with fail
    have r0 := ord_put (u0 := .int .i64 (1 + x1)) (u1 := .int .i64 (1 + x2)) (u2 := .int .i64 y) (u3 := .int .i64 (1 + x4)) R0.out
    obtain ⟨e0, e1, e2, e3, _, _, _, _⟩ := ord_cell r0
    refine bodyPost_ret (v := .agg #[.int .i64 (1 + x1), .int .i64 (1 + x2), .int .i64 y, .int .i64 (1 + x4)]) (by simp [results, Try.results70, go_sem, e0, e1, e2, e3]) rfl ⟨(1 + x1), (1 + x2), y, (1 + x4), p6, rfl, ?_, ?_⟩
    · exact ⟨RR.out.1, ord_put_other (S := w.heap.size) RR.out.2 (by omega)⟩
    · exact only_setCell (only_setCell (only_setCell (only_setCell RB.out (p := ⟨w.heap.size, 0, none⟩) (.inr (Nat.le_refl _)) _) (p := ⟨w.heap.size, 1, none⟩) (.inr (Nat.le_refl _)) _) (p := ⟨w.heap.size, 2, none⟩) (.inr (Nat.le_refl _)) _) (p := ⟨w.heap.size, 3, none⟩) (.inr (Nat.le_refl _)) _
  · go_wp2_with fail
    refine (off_any 1 1000000 g A len cap _ _ hr (hs.keep hG (Nat.le_of_lt hlt)) hl (by omega) (by omega) (by omega)).mono ?_
    rintro e v6 ⟨y, p6, _, rfl, hr', hg'⟩
    replace k0 := (hg'.block w.heap.size (heap_lt' k0) (fun e => by injection e with e; omega)).trans k0
    replace kB := (hg'.block GB (heap_lt' kB) (fun e => by injection e with e; omega)).trans kB
    replace hG := only_trans hG hg'
    replace hr := hr'
    clear hr' hg'
    obtain ⟨c0, c1, c2, c3, f0, f1, f2, f3⟩ := ord_cell kB
    go_upto_region 7 with fail
    clear c0 c1 c2 c3 f0 f1 f2 f3
    replace kB := ord_set kB 3 (.int .i64 y)
    simp only [List.setIfInBounds_toArray, List.set_cons_zero, List.set_cons_succ] at kB
    replace k0 := (Below.heap_setCell v6 ⟨GB, 3, none⟩ (.int .i64 y) w.heap.size (show w.heap.size ≠ GB by omega)).trans k0
    replace hG := only_setCell hG (p := ⟨GB, 3, none⟩) (.inr (show w.heap.size ≤ GB by omega)) (.int .i64 y)
    replace hr : RdAt (v6.setCell ⟨GB, 3, none⟩ (.int .i64 y)) g A len cap p6 := ⟨hr.1, (Below.heap_setCell v6 ⟨GB, 3, none⟩ (.int .i64 y) g (show g ≠ GB by omega)).trans hr.2⟩
    generalize v6.setCell ⟨GB, 3, none⟩ (.int .i64 y) = v7 at *
    obtain ⟨c0, c1, c2, c3, _, _, _, _⟩ := ord_cell kB
    obtain ⟨d0, d1, d2, d3, f0, f1, f2, f3⟩ := ord_cell k0
    have R0 := Lib.hid k0
    have RB := Lib.hid hG
    have RR := Lib.hid hr
    clear kB k0 hG hr
    go_wp2_with fail
    have r0 := ord_put (u0 := .int .i64 (1 + x1)) (u1 := .int .i64 (1 + x2)) (u2 := .int .i64 (97 + x3)) (u3 := .int .i64 y) R0.out
    obtain ⟨e0, e1, e2, e3, _, _, _, _⟩ := ord_cell r0
    refine bodyPost_ret (v := .agg #[.int .i64 (1 + x1), .int .i64 (1 + x2), .int .i64 (97 + x3), .int .i64 y]) (by simp [results, Try.results70, go_sem, e0, e1, e2, e3]) rfl ⟨(1 + x1), (1 + x2), (97 + x3), y, p6, rfl, ?_, ?_⟩
    · exact ⟨RR.out.1, ord_put_other (S := w.heap.size) RR.out.2 (by omega)⟩
    · exact only_setCell (only_setCell (only_setCell (only_setCell RB.out (p := ⟨w.heap.size, 0, none⟩) (.inr (Nat.le_refl _)) _) (p := ⟨w.heap.size, 1, none⟩) (.inr (Nat.le_refl _)) _) (p := ⟨w.heap.size, 2, none⟩) (.inr (Nat.le_refl _)) _) (p := ⟨w.heap.size, 3, none⟩) (.inr (Nat.le_refl _)) _
  · have z0 : (x5 == 38) = false := beq_eq_false_iff_ne.2 h38
    have z1 : (x5 == 39) = false := beq_eq_false_iff_ne.2 h39
    obtain ⟨c0, c1, c2, c3, _, _, _, _⟩ := ord_cell kB
    obtain ⟨d0, d1, d2, d3, f0, f1, f2, f3⟩ := ord_cell k0
    have R0 := Lib.hid k0
    have RB := Lib.hid hG
    have RR := Lib.hid hr
    clear kB k0 hG hr
    go_wp2_with fail
    have r0 := ord_put (u0 := .int .i64 (1 + x1)) (u1 := .int .i64 (1 + x2)) (u2 := .int .i64 (97 + x3)) (u3 := .int .i64 (1 + x4)) R0.out
    obtain ⟨e0, e1, e2, e3, _, _, _, _⟩ := ord_cell r0
    refine bodyPost_ret (v := .agg #[.int .i64 (1 + x1), .int .i64 (1 + x2), .int .i64 (97 + x3), .int .i64 (1 + x4)]) (by simp [results, Try.results70, go_sem, e0, e1, e2, e3]) rfl ⟨(1 + x1), (1 + x2), (97 + x3), (1 + x4), p5, rfl, ?_, ?_⟩
    · exact ⟨RR.out.1, ord_put_other (S := w.heap.size) RR.out.2 (by omega)⟩
    · exact only_setCell (only_setCell (only_setCell (only_setCell RB.out (p := ⟨w.heap.size, 0, none⟩) (.inr (Nat.le_refl _)) _) (p := ⟨w.heap.size, 1, none⟩) (.inr (Nat.le_refl _)) _) (p := ⟨w.heap.size, 2, none⟩) (.inr (Nat.le_refl _)) _) (p := ⟨w.heap.size, 3, none⟩) (.inr (Nat.le_refl _)) _
end Go.Proofs.Ytfodkefaflpicab
