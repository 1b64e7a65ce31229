/-
  The reader of drawn bytes: each of its functions returns, with a number in its range, and turns nothing but its own block.
-/
import Derived.Test.YtnldfbcelakimaaNum
import Derived.Handy
import Derived.Deep.QuietTactic
import Derived.BigQuiet
import Derived.Deep.DeepFit
namespace Go.Proofs.Ytnldfbcelakimaa
open Go.RowKit Wire

/-- block g is a reader of the bytes at A, at place p -/
def RdAt (w : World) (g : Nat) (A : Option Addr) (len cap p : Nat) : Prop := p ≤ len ∧ w.heap[g]? = some (.cells #[.slice A len cap, .int .i64 (p : Int)] 118 (0, 0))
/-- len bytes lie at A, in blocks below B -/
def Src (w : World) (B : Nat) (A : Option Addr) (len : Nat) : Prop := ∀ i, i < len → ∃ (b o : Nat) (n : Int), A = some ⟨b, o, none⟩ ∧ b < B ∧ 0 ≤ n ∧ n < 256 ∧ w.cell? ⟨b, o + i, none⟩ = some (.int .u8 n)
/-- what a draw leaves: a number in its range, the reader further on -/
def Drawn (w : World) (g : Nat) (A : Option Addr) (len cap : Nat) (lo hi : Int) (e : Ending) (w' : World) : Prop :=
  ∃ (n : Int) (p : Nat), lo ≤ n ∧ n ≤ hi ∧ e = .returned (.int .i64 n) ∧ RdAt w' g A len cap p ∧ w.grownBy w' (some g)
theorem Src.keep {w w' : World} {g : Nat} {A : Option Addr} {len : Nat} (h : Src w g A len) (hg : w.grownBy w' (some g)) (hs : g ≤ w.heap.size) : Src w' g A len := fun i hi => by
  obtain ⟨b, o, n, h1, h2, h3, h4, h5⟩ := h i hi
  exact ⟨b, o, n, h1, h2, h3, h4, (World.cell?_of_block (hg.block b (by omega) (fun e => by injection e with e; omega))).trans h5⟩

theorem only_drewN {a w : World} {row : Option Nat} (h : a.grownBy w row) (n : Nat) : a.grownBy (w.drewN n) row := ⟨h.os, h.tape, h.output, h.size, h.block⟩
theorem only_alloc {a w : World} {row : Option Nat} (h : a.grownBy w row) (o : Obj) : a.grownBy (w.alloc o) row :=
  ⟨h.os, h.tape, h.output, Nat.le_trans h.size (by simp), fun i hi hne => (Below.heap_alloc w o i (Nat.lt_of_lt_of_le hi h.size)).trans (h.block i hi hne)⟩
theorem only_setCell {a w : World} {g : Nat} (h : a.grownBy w (some g)) {p : Addr} (hp : p.block = g ∨ a.heap.size ≤ p.block) (u : Value) : a.grownBy (w.setCell p u) (some g) :=
  ⟨h.os, h.tape, h.output, by simpa [World.setCell] using h.size, fun i hi hne => (Below.heap_setCell w p u i (by
    rintro rfl
    rcases hp with hp | hp
    · exact hne (by rw [hp])
    · omega)).trans (h.block i hi hne)⟩
theorem only_trans {a w w1 : World} {row : Option Nat} (h : a.grownBy w row) (hb : w.grownBy w1 row) : a.grownBy w1 row :=
  ⟨hb.os.trans h.os, hb.tape.trans h.tape, hb.output.trans h.output, Nat.le_trans h.size hb.size, fun i hi hn => (hb.block i (Nat.lt_of_lt_of_le hi h.size) hn).trans (h.block i hi hn)⟩

set_option maxHeartbeats 800000 in
set_option maxRecDepth 100000 in
theorem next_any (g : Nat) (A : Option Addr) (len cap p : Nat) (w : World) (hr : RdAt w g A len cap p) (hs : Src w g A len) (hl : len ≤ 9223372036854775807) :
    Calls Try.prog 109 #[.pointer (some ⟨g, 0, none⟩)] w (Drawn w g A len cap 0 255) := by
  obtain ⟨hp, hh⟩ := hr
  have c0 : w.cell? ⟨g, 0, none⟩ = some (.slice A len cap) := (cell_of_row w g 0 _ _ (0, 0) hh).trans rfl
  have c1 : w.cell? ⟨g, 1, none⟩ = some (.int .i64 (p : Int)) := (cell_of_row w g 1 _ _ (0, 0) hh).trans rfl
  have f1 : w.frozen? ⟨g, 1, none⟩ = false := frozen_of_row w g 1 _ _ hh
  have HH := Lib.hid hh
  clear hh
  by_cases hlt : p < len
  · obtain ⟨b, o, n, rfl, hb, h0, h1, hc⟩ := hs p hlt
    have hne : b ≠ g := by omega
    clear hs
    go_enter Try.func109, Try.ntmps109
    go_wp2
    go_quiet (fail)
    go_wp2
    have e1 : (p : Int) + 1 - 1 = (p : Int) := by omega
    go_quiet (fail)
    go_wp2
    go_ret
    exact ⟨n, p + 1, h0, by omega, rfl, ⟨by omega, (heap_setCell_same _ g 1 _ _ (.int .i64 ((p : Int) + 1)) HH.out).trans (by simp)⟩, only_drewN (only_setCell (only_drewN (World.grownBy.refl _ _) _) (.inl rfl) _) _⟩
  · obtain rfl : p = len := by omega
    clear hs
    go_enter Try.func109, Try.ntmps109
    go_wp2
    go_quiet (fail)
    go_wp2
    go_ret
    exact ⟨0, p, by omega, by omega, rfl, ⟨Nat.le_refl _, HH.out⟩, only_drewN (World.grownBy.refl _ _) _⟩
theorem RdAt.lt {w : World} {g : Nat} {A : Option Addr} {len cap p : Nat} (h : RdAt w g A len cap p) : g < w.heap.size := by
  rcases Nat.lt_or_ge g w.heap.size with hlt | hge
  · exact hlt
  · have := h.2; rw [Array.getElem?_eq_none hge] at this; cases this
set_option maxHeartbeats 800000 in
set_option maxRecDepth 100000 in
theorem below_any (n : Int) (g : Nat) (A : Option Addr) (len cap p : Nat) (w : World) (hr : RdAt w g A len cap p) (hs : Src w g A len) (hl : len ≤ 9223372036854775807) (h1 : 1 ≤ n) (h2 : n ≤ 9223372036854775807) :
    Calls Try.prog 74 #[.pointer (some ⟨g, 0, none⟩), .int .i64 n] w (Drawn w g A len cap 0 (n - 1)) := by
  by_cases hn1 : n ≤ 1
  · go_enter Try.func74, Try.ntmps74
    go_wp2_with fail
    go_ret
    exact ⟨0, p, by omega, by omega, rfl, hr, World.grownBy.refl _ _⟩
  · by_cases hn2 : n ≤ 256
    · have h0 : (n == 0) = false := beq_eq_false_iff_ne.2 (by omega)
      go_enter Try.func74, Try.ntmps74
      go_wp2_with fail
      refine (next_any g A len cap p _ hr hs hl).mono ?_
      rintro e w1 ⟨m, p1, m0, m1, rfl, hr1, hg1⟩
      go_wp2_with fail
      go_ret
      exact ⟨m % n, p1, Int.emod_nonneg _ (by omega), by have := Int.emod_lt_of_pos m (show 0 < n by omega); omega, rfl, hr1, hg1⟩
    · have h0 : (n == 0) = false := beq_eq_false_iff_ne.2 (by omega)
      go_enter Try.func74, Try.ntmps74
      go_wp2_with fail
      refine (next_any g A len cap p _ hr hs hl).mono ?_
      rintro e w1 ⟨m, p1, m0, m1, rfl, hr1, hg1⟩
      go_wp2_with fail
      refine (next_any g A len cap p1 _ hr1 (hs.keep hg1 (Nat.le_of_lt hr.lt)) hl).mono ?_
      rintro e w2 ⟨k, p2, k0, k1, rfl, hr2, hg2⟩
      go_wp2_with fail
      go_ret
      exact ⟨(m * 256 + k) % n, p2, Int.emod_nonneg _ (by omega), by have := Int.emod_lt_of_pos (m * 256 + k) (show 0 < n by omega); omega, rfl, hr2, only_trans hg1 hg2⟩
/-- a draw of yes or no -/
def DrawnB (w : World) (g : Nat) (A : Option Addr) (len cap : Nat) (e : Ending) (w' : World) : Prop :=
  ∃ (b : Bool) (p : Nat), e = .returned (.bool b) ∧ RdAt w' g A len cap p ∧ w.grownBy w' (some g)
set_option maxHeartbeats 400000 in
set_option maxRecDepth 100000 in
theorem once_any (n : Int) (g : Nat) (A : Option Addr) (len cap p : Nat) (w : World) (hr : RdAt w g A len cap p) (hs : Src w g A len) (hl : len ≤ 9223372036854775807) (h1 : 1 ≤ n) (h2 : n ≤ 9223372036854775807) :
    Calls Try.prog 75 #[.pointer (some ⟨g, 0, none⟩), .int .i64 n] w (DrawnB w g A len cap) := by
  go_enter Try.func75, Try.ntmps75
  go_wp2_with fail
  refine (below_any n g A len cap p _ hr hs hl h1 h2).mono ?_
  rintro e w1 ⟨m, p1, m0, m1, rfl, hr1, hg1⟩
  go_wp2_with fail
  go_ret
  exact ⟨_, p1, rfl, hr1, hg1⟩
/-- a draw of 64 bits -/
def DrawnU (w : World) (g : Nat) (A : Option Addr) (len cap : Nat) (e : Ending) (w' : World) : Prop :=
  ∃ (n : Int) (p : Nat), 0 ≤ n ∧ e = .returned (.int .u64 n) ∧ RdAt w' g A len cap p ∧ w.grownBy w' (some g)
theorem bits_u64_nonneg (o : BinOp) (a b : Int) : 0 ≤ bits o .u64 a b := by
  unfold bits
  simp only [IntKind.wrap_u64]
  omega
set_option maxHeartbeats 800000 in
set_option maxRecDepth 100000 in
theorem word_any (g : Nat) (A : Option Addr) (len cap p : Nat) (w : World) (hr : RdAt w g A len cap p) (hs : Src w g A len) (hl : len ≤ 9223372036854775807) :
    Calls Try.prog 130 #[.pointer (some ⟨g, 0, none⟩)] w (DrawnU w g A len cap) := by
  go_enter Try.func130, Try.ntmps130
  go_wp2_with fail
  go_loopw [3, 4] (fun x i wr => ∃ (X : Int) (k q : Nat), 0 ≤ X ∧ k ≤ 8 ∧ x = .int .u64 X ∧ i = .int .i64 (k : Int) ∧ RdAt wr g A len cap q ∧ w.grownBy wr (some g)) (fun _ i _ => 8 - (intOf i).toNat)
  case atStart => exact ⟨0, 0, p, by omega, by omega, rfl, rfl, hr, World.grownBy.refl _ _⟩
  case round =>
    obtain ⟨X, k, q, hX, hk, rfl, rfl, hq, hgr⟩ := hrel
    by_cases h8 : k < 8
    · go_wp2_with fail
      refine (next_any g A len cap q _ hq (hs.keep hgr (Nat.le_of_lt hr.lt)) hl).mono ?_
      rintro e w1 ⟨m, p1, m0, m1, rfl, hr1, hg1⟩
      go_wp2_with fail
      go_roundw
      case rel => exact ⟨_, k + 1, p1, bits_u64_nonneg _ _ _, by omega, rfl, by go_num, hr1, only_trans hgr hg1⟩
      case measure => simp [intOf]; omega
    · go_wp2_with fail
      go_ret
      exact ⟨X, q, hX, rfl, hq, hgr⟩
set_option maxHeartbeats 800000 in
set_option maxRecDepth 100000 in
theorem near_any (lo hi : Int) (g : Nat) (A : Option Addr) (len cap p : Nat) (w : World) (hr : RdAt w g A len cap p) (hs : Src w g A len) (hl : len ≤ 9223372036854775807) (h1 : -10 ≤ lo) (h2 : lo ≤ hi) (h3 : hi ≤ 2000000000) :
    Calls Try.prog 110 #[.pointer (some ⟨g, 0, none⟩), .int .i64 lo, .int .i64 hi] w (Drawn w g A len cap lo hi) := by
  go_enter Try.func110, Try.ntmps110
  go_wp2_with fail
  refine (below_any 8 g A len cap p _ hr hs hl (by omega) (by omega)).mono ?_
  rintro e w1 ⟨m, p1, m0, m1, rfl, hr1, hg1⟩
  have hs1 := hs.keep hg1 (Nat.le_of_lt hr.lt)
  rcases (show m = 0 ∨ m = 1 ∨ 2 ≤ m from by omega) with rfl | rfl | h2m
  · go_wp2_with fail
    go_ret
    exact ⟨lo, p1, by omega, h2, rfl, hr1, hg1⟩
  · go_wp2_with fail
    go_ret
    exact ⟨hi, p1, h2, by omega, rfl, hr1, hg1⟩
  · have z0 : (m == 0) = false := beq_eq_false_iff_ne.2 (by omega)
    have z1 : (m == 1) = false := beq_eq_false_iff_ne.2 (by omega)
    have z2 : (hi - lo + 1 == 0) = false := beq_eq_false_iff_ne.2 (by omega)
    go_wp2_with fail
    refine (word_any g A len cap p1 _ hr1 hs1 hl).mono ?_
    rintro e w2 ⟨n, p2, n0, rfl, hr2, hg2⟩
    have hb0 : 0 ≤ n / 2 % (hi - lo + 1) := Int.emod_nonneg _ (by omega)
    have hb1 : n / 2 % (hi - lo + 1) < hi - lo + 1 := Int.emod_lt_of_pos _ (by omega)
    go_wp2_with fail
    go_ret
    exact ⟨lo + n / 2 % (hi - lo + 1), p2, by omega, by omega, rfl, hr2, only_trans hg1 hg2⟩
theorem RdAt.alloc {w : World} {g : Nat} {A : Option Addr} {len cap p : Nat} (h : RdAt w g A len cap p) (o : Obj) : RdAt (w.alloc o) g A len cap p :=
  ⟨h.1, (Below.heap_alloc w o g h.lt).trans h.2⟩
/-- a draw of some int64 -/
def DrawnI (w : World) (g : Nat) (A : Option Addr) (len cap : Nat) (e : Ending) (w' : World) : Prop :=
  ∃ (n : Int) (p : Nat), I64 n ∧ e = .returned (.int .i64 n) ∧ RdAt w' g A len cap p ∧ w.grownBy w' (some g)
set_option maxHeartbeats 800000 in
set_option maxRecDepth 100000 in
theorem off_any (lo hi : Int) (g : Nat) (A : Option Addr) (len cap p : Nat) (w : World) (hr : RdAt w g A len cap p) (hs : Src w g A len) (hl : len ≤ 9223372036854775807) (h1 : -9 ≤ lo) (h2 : lo ≤ hi) (h3 : hi ≤ 1000000001) :
    Calls Try.prog 76 #[.pointer (some ⟨g, 0, none⟩), .int .i64 lo, .int .i64 hi] w (DrawnI w g A len cap) := by
  go_enter Try.func76, Try.ntmps76
  go_wp2_with fail
  refine (once_any 24 g A len cap p _ hr hs hl (by omega) (by omega)).mono ?_
  rintro e w1 ⟨b, p1, rfl, hr1, hg1⟩
  have hs1 := hs.keep hg1 (Nat.le_of_lt hr.lt)
  cases b
  · go_wp2_with fail
    refine (near_any lo hi g A len cap p1 _ hr1 hs1 hl (by omega) h2 (by omega)).mono ?_
    rintro e w2 ⟨n, p2, n0, n1, rfl, hr2, hg2⟩
    go_wp2_with fail
    go_ret
    exact ⟨n, p2, ⟨by omega, by omega⟩, rfl, hr2, only_trans hg1 hg2⟩
  · go_wp2_with fail
    refine (below_any 4 g A len cap p1 _ (hr1.alloc _) (hs1.keep (only_alloc (World.grownBy.refl _ _) _) (Nat.le_of_lt hr1.lt)) hl (by omega) (by omega)).mono ?_
    rintro e w2 ⟨m, p2, m0, m1, rfl, hr2, hg2⟩
    have hlt1 := hr1.lt
    have hA := (hg2.block w1.heap.size (by simp) (fun e => by injection e with e; omega)).trans (heap_alloc_new w1 _)
    have c0 := cell_of_row w2 w1.heap.size 0 _ _ (0, 0) hA
    have c1 := cell_of_row w2 w1.heap.size 1 _ _ (0, 0) hA
    have c2 := cell_of_row w2 w1.heap.size 2 _ _ (0, 0) hA
    have c3 := cell_of_row w2 w1.heap.size 3 _ _ (0, 0) hA
    simp at c0 c1 c2 c3
    have hg3 := only_trans hg1 (only_trans (only_alloc (World.grownBy.refl w1 (some g)) _) hg2)
    clear hA hg2 hlt1
    rcases (show m = 0 ∨ m = 1 ∨ m = 2 ∨ m = 3 from by omega) with rfl | rfl | rfl | rfl
    all_goals
      go_wp2_with fail
      go_ret
      exact ⟨_, p2, ⟨by omega, by omega⟩, rfl, hr2, hg3⟩
set_option maxHeartbeats 400000 in
theorem open_any (A : Option Addr) (len cap : Nat) (w : World) :
    Calls Try.prog 50 #[.slice A len cap] w fun e w' => e = .returned (.pointer (some ⟨w.heap.size, 0, none⟩)) ∧ w' = w.alloc (.cells #[.slice A len cap, .int .i64 0] 118) := by
  go_enter Try.func50, Try.ntmps50
  go_wp2_with fail
  go_ret
  exact ⟨rfl, rfl⟩
theorem only_own {a w w1 : World} {g : Nat} {row : Option Nat} (h : a.grownBy w (some g)) (hb : w.grownBy w1 row) (hr : ∀ k, row = some k → a.heap.size ≤ k) : a.grownBy w1 (some g) :=
  ⟨hb.os.trans h.os, hb.tape.trans h.tape, hb.output.trans h.output, Nat.le_trans h.size hb.size, fun i hi hn =>
    (hb.block i (Nat.lt_of_lt_of_le hi h.size) (fun e => by have := hr i e.symm; omega)).trans (h.block i hi hn)⟩
theorem RdAt.own {w w1 : World} {g : Nat} {A : Option Addr} {len cap p : Nat} {row : Option Nat} (h : RdAt w g A len cap p) (hb : w.grownBy w1 row) (hr : ∀ k, row = some k → g < k) : RdAt w1 g A len cap p :=
  ⟨h.1, (hb.block g h.lt (fun e => by have := hr g e.symm; omega)).trans h.2⟩
theorem bcells_snoc (l : List UInt8) (m : Int) (h0 : 0 ≤ m) (h1 : m ≤ 255) : bcells (l ++ [UInt8.ofNat m.toNat]) = bcells l ++ [.int .u8 m] := by
  have e : ((UInt8.ofNat m.toNat).toNat : Int) = m := by simp; omega
  unfold bcells
  rw [List.map_append, List.map_cons, List.map_nil, e]
/-- a drawn string of at most so many bytes -/
def DrawnS (w : World) (g : Nat) (A : Option Addr) (len cap : Nat) (most : Nat) (e : Ending) (w' : World) : Prop :=
  ∃ (s : ByteArray) (p : Nat), s.size ≤ most ∧ e = .returned (.string s) ∧ RdAt w' g A len cap p ∧ w.grownBy w' (some g)
/-- a drawn string -/
def SomeS (w : World) (most : Nat) (e : Ending) (w' : World) : Prop := ∃ s : ByteArray, s.size ≤ most ∧ e = .returned (.string s) ∧ Below w.heap.size w w'
end Go.Proofs.Ytnldfbcelakimaa
