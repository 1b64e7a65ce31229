/-
  Drawn texts of several commands, of a tape.
-/
import Derived.Test.YthmoddohkchhfaaDrawMore
import Derived.Test.YthmoddohkchhfaaTape
namespace Go.Proofs.Ythmoddohkchhfaa
open Go.RowKit Wire

set_option maxHeartbeats 1600000 in
set_option maxRecDepth 100000 in
theorem DrawCmdsOf_any (A : Option Addr) (len cap : Nat) (w : World) (hs : Src w w.heap.size A len) (hl : len ≤ 9223372036854775807) :
    Calls Try.prog 31 #[.slice A len cap] w (SomeS w 2000) := by
  go_enter Try.func31, Try.ntmps31
  go_wp2_with fail
  refine (open_any A len cap _).mono ?_
  rintro e w1 ⟨rfl, rfl⟩
  have hr0 : RdAt (w.alloc (.cells #[.slice A len cap, .int .i64 0] 138)) w.heap.size A len cap 0 := ⟨Nat.zero_le _, heap_alloc_new w _⟩
  have hs0 : Src (w.alloc (.cells #[.slice A len cap, .int .i64 0] 138)) w.heap.size A len := hs.keep (only_alloc (World.grownBy.refl _ _) _) (Nat.le_refl _)
  have hb0 : Below w.heap.size w (w.alloc (.cells #[.slice A len cap, .int .i64 0] 138)) := (Below.refl _ _).alloc (Nat.le_refl _) _
  generalize w.alloc (.cells #[.slice A len cap, .int .i64 0] 138) = w0 at *
  go_wp2_with fail
  refine (below_any 4 w.heap.size A len cap 0 _ hr0 hs0 hl (by omega) (by omega)).mono ?_
  rintro e w1 ⟨m, p1, m0, m1, rfl, hr1, hg1⟩
  obtain ⟨M, rfl⟩ := Int.eq_ofNat_of_zero_le m0
  have hM : M ≤ 3 := by omega
  clear m0 m1
  have hlt0 := hr0.lt
  go_wp2_with fail
  go_loopw [4, 5] (fun v i wr => ∃ (s : ByteArray) (k q : Nat), s.size + 300 * k ≤ 900 ∧ i = .int .i64 (k : Int) ∧ v = .string s ∧ RdAt wr w.heap.size A len cap q ∧ w0.grownBy wr (some w.heap.size)) (fun _ i _ => (intOf i).toNat)
  case atStart => exact ⟨⟨#[]⟩, M, p1, by have : (⟨#[]⟩ : ByteArray).size = 0 := rfl; omega, rfl, rfl, hr1, hg1⟩
  case round =>
    obtain ⟨s, k, q, hk, rfl, rfl, hq, hgr⟩ := hrel
    rcases k with _ | k
    · go_wp2_with fail
      refine (hurt_any s w.heap.size A len cap q _ hq (hs0.keep hgr (Nat.le_of_lt hlt0)) hl (by omega)).mono ?_
      rintro e w4 ⟨t, p4, ht, rfl, hr4, hg4⟩
      go_wp2_with fail
      go_ret
      exact ⟨t, ht, rfl, hb0.grown (only_trans hgr hg4) hb0.size (fun k h => by cases h; exact Nat.le_refl _)⟩
    · go_wp2_with fail
      refine (cmd_any w.heap.size A len cap q _ hq (hs0.keep hgr (Nat.le_of_lt hlt0)) hl).mono ?_
      rintro e w2 ⟨f, p2, hf, rfl, hr2, hg2⟩
      have hgr2 := only_trans hgr hg2
      go_wp2_with fail
      refine (spec_CmdBytes _ _ _ _ _ _ _ _ _).mono ?_
      rintro e w3 ⟨rfl, hb3⟩
      have hr3 := hr2.below hb3 hr2.lt
      have hg3 := only_below hgr2 hb3
      have hsz := cmdBytesB_size (f 0) (f 1) (f 2) (f 3) (f 4) (f 5) (f 6) (f 7)
      generalize cmdBytesB (f 0) (f 1) (f 2) (f 3) (f 4) (f 5) (f 6) (f 7) = u at *
      clear hb3 hr2 hgr2 hg2 hgr hq
      have hno : ¬ 9223372036854775807 < s.size + u.size := by omega
      go_wp2_with fail
      go_roundw
      case rel => exact ⟨s ++ u, k, p2, by rw [ByteArray.size_append]; omega, by go_num, rfl, hr3, hg3⟩
      case measure => simp [intOf]
end Go.Proofs.Ythmoddohkchhfaa
