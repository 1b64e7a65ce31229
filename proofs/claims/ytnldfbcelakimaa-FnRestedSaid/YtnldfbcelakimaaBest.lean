/-
  Best, the program's and the document's.
-/
import Derived.Test.YtnldfbcelakimaaSides
namespace Go.Proofs.Ytnldfbcelakimaa
open Go.RowKit Wire

def bestB (bk : Bool) (side : Int) (n m : Nat) : Bool := decide (sideN bk side n m ≠ 0)
def bestP (bk : Bool) (side : Int) (za zb : List Int) (n m : Nat) : Int := if sideN bk side n m = 0 then 0 else num (sideZ bk side za zb) 2
theorem sideN_le {bk : Bool} {side : Int} {n m M : Nat} (hn : n ≤ M) (hm : m ≤ M) : sideN bk side n m ≤ M := by
  unfold sideN
  split
  · exact hn
  · split
    · exact hm
    · omega
set_option linter.unusedSimpArgs false in
set_option maxHeartbeats 1600000 in
set_option maxRecDepth 100000 in
theorem impl_Best (A : Option Addr) (n c : Nat) (B : Option Addr) (m d : Nat) (za zb : List Int) (side : Int) (w : World) (ha : Lst w w.heap.size 4 A n za) (hb : Lst w w.heap.size 4 B m zb) (hn : n ≤ 1048576) (hm : m ≤ 1048576) :
    Calls Try.prog 13 #[.agg #[.slice A n c, .slice B m d], .int .i64 side] w fun e w' => e = .returned (.tuple #[.int .i64 (bestP (bookB za n zb m) side za zb n m), .bool (bestB (bookB za n zb m) side n m)]) ∧ Below w.heap.size w w' := by
  have hb0 : Below w.heap.size w (w.alloc (.cells #[.slice A n c, .slice B m d] 26)) := (Below.refl _ _).alloc (Nat.le_refl _) _
  have k0 : (w.alloc (.cells #[.slice A n c, .slice B m d] 26)).heap[w.heap.size]? = some (.cells #[.slice A n c, .slice B m d] 26 (0, 0)) := heap_alloc_new w _
  have hs0 : w.heap.size < (w.alloc (.cells #[.slice A n c, .slice B m d] 26)).heap.size := by simp
  go_enter Try.func13, Try.ntmps13
  go_wp2_with fail
  generalize (w.alloc (.cells #[.slice A n c, .slice B m d] 26)) = w0 at *
  refine (impl_Side A n c B m d za zb side w0 ((ha.below hb0).more hb0.size) ((hb.below hb0).more hb0.size) hn hm).mono ?_
  have HB := Lib.hid (show bestB (bookB za n zb m) side n m = decide (sideN (bookB za n zb m) side n m ≠ 0) from rfl)
  have HP := Lib.hid (show bestP (bookB za n zb m) side za zb n m = if sideN (bookB za n zb m) side n m = 0 then 0 else num (sideZ (bookB za n zb m) side za zb) 2 from rfl)
  have hN : sideN (bookB za n zb m) side n m ≤ 1048576 := sideN_le hn hm
  generalize sideN (bookB za n zb m) side n m = N at *
  generalize sideZ (bookB za n zb m) side za zb = Z at *
  rintro e w1 ⟨⟨r, rfl, hown⟩, hb1⟩
  obtain ⟨A1, d1, rfl, _, _⟩ := own_slice hown
  have hL := Lst.of_own hown
  have hb1 := hb0.trans (hb1.mono hb0.size)
  clear hown k0 hs0
  rcases Nat.eq_zero_or_pos N with rfl | hpos
  · go_wp2_with fail
    refine bodyPost_ret (v := .tuple #[.int .i64 0, .bool false]) (by simp [results, Try.results13, go_sem]) rfl ⟨?_, hb1⟩
    rw [HB.out, HP.out]
    rfl
  · obtain ⟨b, o, rfl, hbo, c0, c1, c2, c3⟩ := hL.row4 (k := 0) hpos
    simp only [Nat.zero_mul, Nat.add_zero, Nat.zero_add] at c0 c1 c2 c3
    have t : ((N : Int) == 0) = false := beq_eq_false_iff_ne.2 (by omega)
    have b1 : (0 : Int) < (N : Int) := by omega
    clear hL
    go_wp2_with fail
    refine bodyPost_ret (v := .tuple #[.int .i64 (num Z 2), .bool true]) (by simp [results, Try.results13, go_sem]) rfl ⟨?_, hb1⟩
    rw [HB.out, HP.out, if_neg (by omega), decide_eq_true (by omega)]
set_option linter.unusedSimpArgs false in
set_option maxHeartbeats 1600000 in
set_option maxRecDepth 100000 in
theorem spec_Best (a1 : Addr) (n c : Nat) (a2 : Addr) (m d : Nat) (za zb : List Int) (side : Int) (w : World) (ha : Lst w w.heap.size 4 (some a1) n za) (hb : Lst w w.heap.size 4 (some a2) m zb) (hn : n ≤ 1048576) (hm : m ≤ 1048576) :
    Calls Try.prog 14 #[.agg #[.slice (some a1) n c, .slice (some a2) m d], .int .i64 side] w fun e w' => e = .returned (.tuple #[.int .i64 (bestP (bookB za n zb m) side za zb n m), .bool (bestB (bookB za n zb m) side n m)]) ∧ Below w.heap.size w w' := by
  have hb0 : Below w.heap.size w (w.alloc (.cells #[.slice (some a1) n c, .slice (some a2) m d] 26)) := (Below.refl _ _).alloc (Nat.le_refl _) _
  have k0 : (w.alloc (.cells #[.slice (some a1) n c, .slice (some a2) m d] 26)).heap[w.heap.size]? = some (.cells #[.slice (some a1) n c, .slice (some a2) m d] 26 (0, 0)) := heap_alloc_new w _
  have hs0 : w.heap.size < (w.alloc (.cells #[.slice (some a1) n c, .slice (some a2) m d] 26)).heap.size := by simp
  go_enter Try.func14, Try.ntmps14
  go_wp2_with fail
  generalize (w.alloc (.cells #[.slice (some a1) n c, .slice (some a2) m d] 26)) = w0 at *
  refine (spec_Side a1 n c a2 m d za zb side w0 ((ha.below hb0).more hb0.size) ((hb.below hb0).more hb0.size) hn hm).mono ?_
  have HB := Lib.hid (show bestB (bookB za n zb m) side n m = decide (sideN (bookB za n zb m) side n m ≠ 0) from rfl)
  have HP := Lib.hid (show bestP (bookB za n zb m) side za zb n m = if sideN (bookB za n zb m) side n m = 0 then 0 else num (sideZ (bookB za n zb m) side za zb) 2 from rfl)
  have hN : sideN (bookB za n zb m) side n m ≤ 1048576 := sideN_le hn hm
  generalize sideN (bookB za n zb m) side n m = N at *
  generalize sideZ (bookB za n zb m) side za zb = Z at *
  rintro e w1 ⟨⟨r, rfl, hown⟩, hb1⟩
  obtain ⟨A1, d1, rfl, _, _⟩ := own_slice hown
  have hL := Lst.of_own hown
  have hb1 := hb0.trans (hb1.mono hb0.size)
  clear hown k0 hs0
  rcases Nat.eq_zero_or_pos N with rfl | hpos
  · go_wp2_with fail
    refine bodyPost_ret (v := .tuple #[.int .i64 0, .bool false]) (by simp [results, Try.results14, go_sem]) rfl ⟨?_, hb1⟩
    rw [HB.out, HP.out]
    rfl
  · obtain ⟨b, o, rfl, hbo, c0, c1, c2, c3⟩ := hL.row4 (k := 0) hpos
    simp only [Nat.zero_mul, Nat.add_zero, Nat.zero_add] at c0 c1 c2 c3
    have t : ((N : Int) == 0) = false := beq_eq_false_iff_ne.2 (by omega)
    have b1 : (0 : Int) < (N : Int) := by omega
    clear hL
    go_wp2_with fail
    refine bodyPost_ret (v := .tuple #[.int .i64 (num Z 2), .bool true]) (by simp [results, Try.results14, go_sem]) rfl ⟨?_, hb1⟩
    rw [HB.out, HP.out, if_neg (by omega), decide_eq_true (by omega)]
end Go.Proofs.Ytnldfbcelakimaa
