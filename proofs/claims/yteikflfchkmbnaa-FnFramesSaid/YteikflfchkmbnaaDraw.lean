/-
  The reader of drawn bytes: each of its functions returns, with a number in its range, and turns nothing but its own block.
-/
import Derived.Test.YteikflfchkmbnaaNum
import Derived.Handy
import Derived.Deep.QuietTactic
import Derived.BigQuiet
import Derived.Deep.DeepFit
namespace Go.Proofs.Yteikflfchkmbnaa
open Go.RowKit Wire

/-- block g is a reader of the bytes at A, at place p -/
def RdAt (w : World) (g : Nat) (A : Option Addr) (len cap p : Nat) : Prop := p ≤ len ∧ w.heap[g]? = some (.cells #[.slice A len cap, .int .i64 (p : Int)] 112 (0, 0))
/-- len bytes lie at A, in blocks below B -/
def Src (w : World) (B : Nat) (A : Option Addr) (len : Nat) : Prop := ∀ i, i < len → ∃ (b o : Nat) (n : Int), A = some ⟨b, o, none⟩ ∧ b < B ∧ 0 ≤ n ∧ n < 256 ∧ w.cell? ⟨b, o + i, none⟩ = some (.int .u8 n)
/-- what a draw leaves: a number in its range, the reader further on -/
def Drawn (w : World) (g : Nat) (A : Option Addr) (len cap : Nat) (lo hi : Int) (e : Ending) (w' : World) : Prop :=
  ∃ (n : Int) (p : Nat), lo ≤ n ∧ n ≤ hi ∧ e = .returned (.int .i64 n) ∧ RdAt w' g A len cap p ∧ w.grownBy w' (some g)
theorem Src.keep {w w' : World} {g : Nat} {A : Option Addr} {len : Nat} (h : Src w g A len) (hg : w.grownBy w' (some g)) (hs : g ≤ w.heap.size) : Src w' g A len := fun i hi => by
  obtain ⟨b, o, n, h1, h2, h3, h4, h5⟩ := h i hi
  exact ⟨b, o, n, h1, h2, h3, h4, (World.cell?_of_block (hg.block b (by omega) (fun e => by injection e with e; omega))).trans h5⟩

theorem only_drewN {a w : World} {row : Option Nat} (h : a.grownBy w row) (n : Nat) : a.grownBy (w.drewN n) row := ⟨h.os, h.tape, h.output, h.size, h.block⟩
theorem only_alloc {a w : World} {row : Option Nat} (h : a.grownBy w row) (o : Obj) : a.grownBy (w.alloc o) row :=
  ⟨h.os, h.tape, h.output, Nat.le_trans h.size (by simp), fun i hi hne => (Below.heap_alloc w o i (Nat.lt_of_lt_of_le hi h.size)).trans (h.block i hi hne)⟩
theorem only_setCell {a w : World} {g : Nat} (h : a.grownBy w (some g)) {p : Addr} (hp : p.block = g ∨ a.heap.size ≤ p.block) (u : Value) : a.grownBy (w.setCell p u) (some g) :=
  ⟨h.os, h.tape, h.output, by simpa [World.setCell] using h.size, fun i hi hne => (Below.heap_setCell w p u i (by
    rintro rfl
    rcases hp with hp | hp
    · exact hne (by rw [hp])
    · omega)).trans (h.block i hi hne)⟩
theorem only_trans {a w w1 : World} {row : Option Nat} (h : a.grownBy w row) (hb : w.grownBy w1 row) : a.grownBy w1 row :=
  ⟨hb.os.trans h.os, hb.tape.trans h.tape, hb.output.trans h.output, Nat.le_trans h.size hb.size, fun i hi hn => (hb.block i (Nat.lt_of_lt_of_le hi h.size) hn).trans (h.block i hi hn)⟩

set_option maxHeartbeats 800000 in
set_option maxRecDepth 100000 in
theorem next_any (g : Nat) (A : Option Addr) (len cap p : Nat) (w : World) (hr : RdAt w g A len cap p) (hs : Src w g A len) (hl : len ≤ 9223372036854775807) :
    Calls Try.prog 93 #[.pointer (some ⟨g, 0, none⟩)] w (Drawn w g A len cap 0 255) := by
  obtain ⟨hp, hh⟩ := hr
  have c0 : w.cell? ⟨g, 0, none⟩ = some (.slice A len cap) := (cell_of_row w g 0 _ _ (0, 0) hh).trans rfl
  have c1 : w.cell? ⟨g, 1, none⟩ = some (.int .i64 (p : Int)) := (cell_of_row w g 1 _ _ (0, 0) hh).trans rfl
  have f1 : w.frozen? ⟨g, 1, none⟩ = false := frozen_of_row w g 1 _ _ hh
  have HH := Lib.hid hh
  clear hh
  by_cases hlt : p < len
  · obtain ⟨b, o, n, rfl, hb, h0, h1, hc⟩ := hs p hlt
    have hne : b ≠ g := by omega
    clear hs
    go_enter Try.func93, Try.ntmps93
    go_wp2
    go_quiet (fail)
    go_wp2
    have e1 : (p : Int) + 1 - 1 = (p : Int) := by omega
    go_quiet (fail)
    go_wp2
    go_ret
    exact ⟨n, p + 1, h0, by omega, rfl, ⟨by omega, (heap_setCell_same _ g 1 _ _ (.int .i64 ((p : Int) + 1)) HH.out).trans (by simp)⟩, only_drewN (only_setCell (only_drewN (World.grownBy.refl _ _) _) (.inl rfl) _) _⟩
  · obtain rfl : p = len := by omega
    clear hs
    go_enter Try.func93, Try.ntmps93
    go_wp2
    go_quiet (fail)
    go_wp2
    go_ret
    exact ⟨0, p, by omega, by omega, rfl, ⟨Nat.le_refl _, HH.out⟩, only_drewN (World.grownBy.refl _ _) _⟩
theorem RdAt.lt {w : World} {g : Nat} {A : Option Addr} {len cap p : Nat} (h : RdAt w g A len cap p) : g < w.heap.size := by
  rcases Nat.lt_or_ge g w.heap.size with hlt | hge
  · exact hlt
  · have := h.2; rw [Array.getElem?_eq_none hge] at this; cases this
set_option maxHeartbeats 800000 in
set_option maxRecDepth 100000 in
theorem below_any (n : Int) (g : Nat) (A : Option Addr) (len cap p : Nat) (w : World) (hr : RdAt w g A len cap p) (hs : Src w g A len) (hl : len ≤ 9223372036854775807) (h1 : 1 ≤ n) (h2 : n ≤ 9223372036854775807) :
    Calls Try.prog 68 #[.pointer (some ⟨g, 0, none⟩), .int .i64 n] w (Drawn w g A len cap 0 (n - 1)) := by
  by_cases hn1 : n ≤ 1
  · go_enter Try.func68, Try.ntmps68
    go_wp2_with fail
    go_ret
    exact ⟨0, p, by omega, by omega, rfl, hr, World.grownBy.refl _ _⟩
  · by_cases hn2 : n ≤ 256
    · have h0 : (n == 0) = false := beq_eq_false_iff_ne.2 (by omega)
      go_enter Try.func68, Try.ntmps68
      go_wp2_with fail
      refine (next_any g A len cap p _ hr hs hl).mono ?_
      rintro e w1 ⟨m, p1, m0, m1, rfl, hr1, hg1⟩
      go_wp2_with fail
      go_ret
      exact ⟨m % n, p1, Int.emod_nonneg _ (by omega), by have := Int.emod_lt_of_pos m (show 0 < n by omega); omega, rfl, hr1, hg1⟩
    · have h0 : (n == 0) = false := beq_eq_false_iff_ne.2 (by omega)
      go_enter Try.func68, Try.ntmps68
      go_wp2_with fail
      refine (next_any g A len cap p _ hr hs hl).mono ?_
      rintro e w1 ⟨m, p1, m0, m1, rfl, hr1, hg1⟩
      go_wp2_with fail
      refine (next_any g A len cap p1 _ hr1 (hs.keep hg1 (Nat.le_of_lt hr.lt)) hl).mono ?_
      rintro e w2 ⟨k, p2, k0, k1, rfl, hr2, hg2⟩
      go_wp2_with fail
      go_ret
      exact ⟨(m * 256 + k) % n, p2, Int.emod_nonneg _ (by omega), by have := Int.emod_lt_of_pos (m * 256 + k) (show 0 < n by omega); omega, rfl, hr2, only_trans hg1 hg2⟩
/-- a draw of yes or no -/
def DrawnB (w : World) (g : Nat) (A : Option Addr) (len cap : Nat) (e : Ending) (w' : World) : Prop :=
  ∃ (b : Bool) (p : Nat), e = .returned (.bool b) ∧ RdAt w' g A len cap p ∧ w.grownBy w' (some g)
set_option maxHeartbeats 400000 in
set_option maxRecDepth 100000 in
theorem once_any (n : Int) (g : Nat) (A : Option Addr) (len cap p : Nat) (w : World) (hr : RdAt w g A len cap p) (hs : Src w g A len) (hl : len ≤ 9223372036854775807) (h1 : 1 ≤ n) (h2 : n ≤ 9223372036854775807) :
    Calls Try.prog 86 #[.pointer (some ⟨g, 0, none⟩), .int .i64 n] w (DrawnB w g A len cap) := by
  go_enter Try.func86, Try.ntmps86
  go_wp2_with fail
  refine (below_any n g A len cap p _ hr hs hl h1 h2).mono ?_
  rintro e w1 ⟨m, p1, m0, m1, rfl, hr1, hg1⟩
  go_wp2_with fail
  go_ret
  exact ⟨_, p1, rfl, hr1, hg1⟩
/-- a draw of 64 bits -/
def DrawnU (w : World) (g : Nat) (A : Option Addr) (len cap : Nat) (e : Ending) (w' : World) : Prop :=
  ∃ (n : Int) (p : Nat), 0 ≤ n ∧ e = .returned (.int .u64 n) ∧ RdAt w' g A len cap p ∧ w.grownBy w' (some g)
theorem bits_u64_nonneg (o : BinOp) (a b : Int) : 0 ≤ bits o .u64 a b := by
  unfold bits
  simp only [IntKind.wrap_u64]
  omega
set_option maxHeartbeats 800000 in
set_option maxRecDepth 100000 in
theorem word_any (g : Nat) (A : Option Addr) (len cap p : Nat) (w : World) (hr : RdAt w g A len cap p) (hs : Src w g A len) (hl : len ≤ 9223372036854775807) :
    Calls Try.prog 99 #[.pointer (some ⟨g, 0, none⟩)] w (DrawnU w g A len cap) := by
  go_enter Try.func99, Try.ntmps99
  go_wp2_with fail
  go_loopw [3, 4] (fun x i wr => ∃ (X : Int) (k q : Nat), 0 ≤ X ∧ k ≤ 8 ∧ x = .int .u64 X ∧ i = .int .i64 (k : Int) ∧ RdAt wr g A len cap q ∧ w.grownBy wr (some g)) (fun _ i _ => 8 - (intOf i).toNat)
  case atStart => exact ⟨0, 0, p, by omega, by omega, rfl, rfl, hr, World.grownBy.refl _ _⟩
  case round =>
    obtain ⟨X, k, q, hX, hk, rfl, rfl, hq, hgr⟩ := hrel
    by_cases h8 : k < 8
    · go_wp2_with fail
      refine (next_any g A len cap q _ hq (hs.keep hgr (Nat.le_of_lt hr.lt)) hl).mono ?_
      rintro e w1 ⟨m, p1, m0, m1, rfl, hr1, hg1⟩
      go_wp2_with fail
      go_roundw
      case rel => exact ⟨_, k + 1, p1, bits_u64_nonneg _ _ _, by omega, rfl, by go_num, hr1, only_trans hgr hg1⟩
      case measure => simp [intOf]; omega
    · go_wp2_with fail
      go_ret
      exact ⟨X, q, hX, rfl, hq, hgr⟩
set_option maxHeartbeats 800000 in
set_option maxRecDepth 100000 in
theorem near_any (lo hi : Int) (g : Nat) (A : Option Addr) (len cap p : Nat) (w : World) (hr : RdAt w g A len cap p) (hs : Src w g A len) (hl : len ≤ 9223372036854775807) (h1 : -10 ≤ lo) (h2 : lo ≤ hi) (h3 : hi ≤ 2000000000) :
    Calls Try.prog 87 #[.pointer (some ⟨g, 0, none⟩), .int .i64 lo, .int .i64 hi] w (Drawn w g A len cap lo hi) := by
  go_enter Try.func87, Try.ntmps87
  go_wp2_with fail
  refine (below_any 8 g A len cap p _ hr hs hl (by omega) (by omega)).mono ?_
  rintro e w1 ⟨m, p1, m0, m1, rfl, hr1, hg1⟩
  have hs1 := hs.keep hg1 (Nat.le_of_lt hr.lt)
  rcases (show m = 0 ∨ m = 1 ∨ 2 ≤ m from by omega) with rfl | rfl | h2m
  · go_wp2_with fail
    go_ret
    exact ⟨lo, p1, by omega, h2, rfl, hr1, hg1⟩
  · go_wp2_with fail
    go_ret
    exact ⟨hi, p1, h2, by omega, rfl, hr1, hg1⟩
  · have z0 : (m == 0) = false := beq_eq_false_iff_ne.2 (by omega)
    have z1 : (m == 1) = false := beq_eq_false_iff_ne.2 (by omega)
    have z2 : (hi - lo + 1 == 0) = false := beq_eq_false_iff_ne.2 (by omega)
    go_wp2_with fail
    refine (word_any g A len cap p1 _ hr1 hs1 hl).mono ?_
    rintro e w2 ⟨n, p2, n0, rfl, hr2, hg2⟩
    have hb0 : 0 ≤ n / 2 % (hi - lo + 1) := Int.emod_nonneg _ (by omega)
    have hb1 : n / 2 % (hi - lo + 1) < hi - lo + 1 := Int.emod_lt_of_pos _ (by omega)
    go_wp2_with fail
    go_ret
    exact ⟨lo + n / 2 % (hi - lo + 1), p2, by omega, by omega, rfl, hr2, only_trans hg1 hg2⟩
theorem RdAt.alloc {w : World} {g : Nat} {A : Option Addr} {len cap p : Nat} (h : RdAt w g A len cap p) (o : Obj) : RdAt (w.alloc o) g A len cap p :=
  ⟨h.1, (Below.heap_alloc w o g h.lt).trans h.2⟩
/-- a draw of some int64 -/
def DrawnI (w : World) (g : Nat) (A : Option Addr) (len cap : Nat) (e : Ending) (w' : World) : Prop :=
  ∃ (n : Int) (p : Nat), I64 n ∧ e = .returned (.int .i64 n) ∧ RdAt w' g A len cap p ∧ w.grownBy w' (some g)
set_option maxHeartbeats 800000 in
set_option maxRecDepth 100000 in
theorem off_any (lo hi : Int) (g : Nat) (A : Option Addr) (len cap p : Nat) (w : World) (hr : RdAt w g A len cap p) (hs : Src w g A len) (hl : len ≤ 9223372036854775807) (h1 : -9 ≤ lo) (h2 : lo ≤ hi) (h3 : hi ≤ 1000000001) :
    Calls Try.prog 54 #[.pointer (some ⟨g, 0, none⟩), .int .i64 lo, .int .i64 hi] w (DrawnI w g A len cap) := by
  go_enter Try.func54, Try.ntmps54
  go_wp2_with fail
  refine (once_any 24 g A len cap p _ hr hs hl (by omega) (by omega)).mono ?_
  rintro e w1 ⟨b, p1, rfl, hr1, hg1⟩
  have hs1 := hs.keep hg1 (Nat.le_of_lt hr.lt)
  cases b
  · go_wp2_with fail
    refine (near_any lo hi g A len cap p1 _ hr1 hs1 hl (by omega) h2 (by omega)).mono ?_
    rintro e w2 ⟨n, p2, n0, n1, rfl, hr2, hg2⟩
    go_wp2_with fail
    go_ret
    exact ⟨n, p2, ⟨by omega, by omega⟩, rfl, hr2, only_trans hg1 hg2⟩
  · go_wp2_with fail
    refine (below_any 4 g A len cap p1 _ (hr1.alloc _) (hs1.keep (only_alloc (World.grownBy.refl _ _) _) (Nat.le_of_lt hr1.lt)) hl (by omega) (by omega)).mono ?_
    rintro e w2 ⟨m, p2, m0, m1, rfl, hr2, hg2⟩
    have hlt1 := hr1.lt
    have hA := (hg2.block w1.heap.size (by simp) (fun e => by injection e with e; omega)).trans (heap_alloc_new w1 _)
    have c0 := cell_of_row w2 w1.heap.size 0 _ _ (0, 0) hA
    have c1 := cell_of_row w2 w1.heap.size 1 _ _ (0, 0) hA
    have c2 := cell_of_row w2 w1.heap.size 2 _ _ (0, 0) hA
    have c3 := cell_of_row w2 w1.heap.size 3 _ _ (0, 0) hA
    simp at c0 c1 c2 c3
    have hg3 := only_trans hg1 (only_trans (only_alloc (World.grownBy.refl w1 (some g)) _) hg2)
    clear hA hg2 hlt1
    rcases (show m = 0 ∨ m = 1 ∨ m = 2 ∨ m = 3 from by omega) with rfl | rfl | rfl | rfl
    all_goals
      go_wp2_with fail
      go_ret
      exact ⟨_, p2, ⟨by omega, by omega⟩, rfl, hr2, hg3⟩
set_option maxHeartbeats 400000 in
theorem open_any (A : Option Addr) (len cap : Nat) (w : World) :
    Calls Try.prog 52 #[.slice A len cap] w fun e w' => e = .returned (.pointer (some ⟨w.heap.size, 0, none⟩)) ∧ w' = w.alloc (.cells #[.slice A len cap, .int .i64 0] 112) := by
  go_enter Try.func52, Try.ntmps52
  go_wp2_with fail
  go_ret
  exact ⟨rfl, rfl⟩
theorem only_own {a w w1 : World} {g : Nat} {row : Option Nat} (h : a.grownBy w (some g)) (hb : w.grownBy w1 row) (hr : ∀ k, row = some k → a.heap.size ≤ k) : a.grownBy w1 (some g) :=
  ⟨hb.os.trans h.os, hb.tape.trans h.tape, hb.output.trans h.output, Nat.le_trans h.size hb.size, fun i hi hn =>
    (hb.block i (Nat.lt_of_lt_of_le hi h.size) (fun e => by have := hr i e.symm; omega)).trans (h.block i hi hn)⟩
theorem RdAt.own {w w1 : World} {g : Nat} {A : Option Addr} {len cap p : Nat} {row : Option Nat} (h : RdAt w g A len cap p) (hb : w.grownBy w1 row) (hr : ∀ k, row = some k → g < k) : RdAt w1 g A len cap p :=
  ⟨h.1, (hb.block g h.lt (fun e => by have := hr g e.symm; omega)).trans h.2⟩
theorem bcells_snoc (l : List UInt8) (m : Int) (h0 : 0 ≤ m) (h1 : m ≤ 255) : bcells (l ++ [UInt8.ofNat m.toNat]) = bcells l ++ [.int .u8 m] := by
  have e : ((UInt8.ofNat m.toNat).toNat : Int) = m := by simp; omega
  unfold bcells
  rw [List.map_append, List.map_cons, List.map_nil, e]
/-- a drawn string of at most so many bytes -/
def DrawnS (w : World) (g : Nat) (A : Option Addr) (len cap : Nat) (most : Nat) (e : Ending) (w' : World) : Prop :=
  ∃ (s : ByteArray) (p : Nat), s.size ≤ most ∧ e = .returned (.string s) ∧ RdAt w' g A len cap p ∧ w.grownBy w' (some g)
set_option maxHeartbeats 800000 in
set_option maxRecDepth 100000 in
theorem bytes_any (most : Nat) (g : Nat) (A : Option Addr) (len cap p : Nat) (w : World) (hr : RdAt w g A len cap p) (hs : Src w g A len) (hl : len ≤ 9223372036854775807) (hmost : most ≤ 1000) :
    Calls Try.prog 77 #[.pointer (some ⟨g, 0, none⟩), .int .i64 (most : Int)] w (DrawnS w g A len cap most) := by
  obtain ⟨i0, hi, hz0, hz1, hz2⟩ := info_parts u8_info
  go_enter Try.func77, Try.ntmps77
  go_wp2_with fail
  go_fit (below_any ((most : Int) + 1) g A len cap p _ (hr.alloc _) (hs.keep (only_alloc (World.grownBy.refl _ _) _) (Nat.le_of_lt hr.lt)) hl (by omega) (by omega))
  rintro e w1 ⟨m, p1, m0, m1, rfl, hr1, hg1⟩
  have hlt := hr.lt
  have hB : w1.heap[w.heap.size]? = some (.cells #[] 5 (0, 0)) := (hg1.block w.heap.size (by simp) (fun e => by injection e with e; omega)).trans (heap_alloc_new w _)
  have hown1 : w1.ownsRow w.heap.size 5 1 (.slice (some ⟨w.heap.size, 0, none⟩) 0 0) 0 [] := ⟨rfl, .inr ⟨w.heap.size, 0, #[], rfl, Nat.le_refl _, hB, Nat.le_refl _, Nat.zero_le _, rfl, rfl⟩⟩
  have hgw1 : w.grownBy w1 (some g) := only_trans (only_alloc (World.grownBy.refl _ _) _) hg1
  obtain ⟨M, rfl⟩ := Int.eq_ofNat_of_zero_le m0
  have hM : M ≤ most := by omega
  clear hB hg1 m0 m1
  go_wp2_with fail
  go_loopw [5, 6] (fun v i wr => ∃ (l : List UInt8) (k q : Nat), l.length + k ≤ most ∧ i = .int .i64 (k : Int) ∧ (∃ g' cap', v = .slice (some ⟨g', 0, none⟩) l.length cap') ∧ wr.ownsRow w.heap.size 5 1 v l.length (bcells l) ∧ RdAt wr g A len cap q ∧ w.grownBy wr (some g)) (fun _ i _ => (intOf i).toNat)
  case atStart => exact ⟨[], M, p1, by simpa using hM, rfl, ⟨_, _, rfl⟩, hown1, hr1, hgw1⟩
  case round =>
    obtain ⟨l, k, q, hk, rfl, ⟨g', cap', rfl⟩, hown, hq, hgr⟩ := hrel
    rcases k with _ | k
    · have hcv := run_convert_bytes_back (P := Try.prog) wr 22 9 5 ⟨g', 0, none⟩ cap' l Try.underlying22 Try.underlying5 Try.underlying9 (own_bytes hown)
      clear hown
      go_wp2_with fail
      go_ret
      exact ⟨⟨l.toArray⟩, q, by simp [ByteArray.size]; omega, rfl, hq, hgr⟩
    · go_wp2_with fail
      refine (below_any 256 g A len cap q _ hq (hs.keep hgr (Nat.le_of_lt hlt)) hl (by omega) (by omega)).mono ?_
      rintro e w2 ⟨m, p2, m0, m1, rfl, hr2, hg2⟩
      have hown2 := hown.kept hg2 (.inr (fun e => by have := (hown.lt g' rfl).1; simp [Value.ownBlock] at e; omega))
      have hgr2 := only_trans hgr hg2
      clear hown hq hgr hg2
      go_wp2_with (at_builtin; refine wpList_append_own _ rfl _ _ 22 rfl w.heap.size 5 i0 (.int .u8 0) 1 1 Try.underlying22 hi hz0 hz1 hz2 rfl (by decide) _ _ _ rfl (hown2.alloc _) ⟨w2.heap.size, 0, none⟩ 1 1 [.int .u8 m] rfl rfl ?c1 ?c2 ?c3 ?c4 ?c5 ?_)
      case c1 =>
        intro j u hj
        match j, hj with
        | 0, hj => simp at hj; subst hj; simp [Addr.add]
      case c2 => intro u hu; simp at hu; subst hu; rfl
      case c3 => unfold maxLen; omega
      case c4 => omega
      case c5 => have := hgr2.size; simp; omega
      intro v' w3 hown3 hgrow3 _
      have hown4 : w3.ownsRow w.heap.size 5 1 v' (l ++ [UInt8.ofNat m.toNat]).length (bcells (l ++ [UInt8.ofNat m.toNat])) := by
        rw [bcells_snoc l m m0 (by omega), List.length_append]; exact hown3
      have hv : ∃ g2 cap2, v' = .slice (some ⟨g2, 0, none⟩) (l ++ [UInt8.ofNat m.toNat]).length cap2 := by
        rcases hown4.2 with ⟨_, h⟩ | ⟨a, b, c, h, _⟩
        · simp at h
        · exact ⟨_, _, h⟩
      have hbase := (hown2.lt g' rfl).1
      have hr3 : RdAt w3 g A len cap p2 := (hr2.alloc _).own hgrow3 (fun k hk => by simp [Value.ownBlock] at hk; omega)
      have hgr3 := only_own (only_alloc hgr2 _) hgrow3 (fun k hk => by simp [Value.ownBlock] at hk; omega)
      clear hown3 hgrow3 hown2 hr2 hgr2
      go_wp2_with fail
      go_roundw
      case rel => exact ⟨l ++ [UInt8.ofNat m.toNat], k, p2, by simp; omega, by go_num, hv, hown4, hr3, hgr3⟩
      case measure => simp [intOf]
end Go.Proofs.Yteikflfchkmbnaa
