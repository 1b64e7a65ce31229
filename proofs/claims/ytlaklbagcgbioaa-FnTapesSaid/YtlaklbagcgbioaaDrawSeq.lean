/-
  Drawn texts of several commands, of a tape.
-/
import Derived.Test.YtlaklbagcgbioaaDrawMore
import Derived.Test.YtlaklbagcgbioaaTape
namespace Go.Proofs.Ytlaklbagcgbioaa
open Go.RowKit Wire

set_option maxHeartbeats 1600000 in
set_option maxRecDepth 100000 in
theorem DrawCmdsOf_any (A : Option Addr) (len cap : Nat) (w : World) (hs : Src w w.heap.size A len) (hl : len ≤ 9223372036854775807) :
    Calls Try.prog 37 #[.slice A len cap] w (SomeS w 2000) := by
  go_enter Try.func37, Try.ntmps37
  go_wp2_with fail
  refine (open_any A len cap _).mono ?_
  rintro e w1 ⟨rfl, rfl⟩
  have hr0 : RdAt (w.alloc (.cells #[.slice A len cap, .int .i64 0] 98)) w.heap.size A len cap 0 := ⟨Nat.zero_le _, heap_alloc_new w _⟩
  have hs0 : Src (w.alloc (.cells #[.slice A len cap, .int .i64 0] 98)) w.heap.size A len := hs.keep (only_alloc (World.grownBy.refl _ _) _) (Nat.le_refl _)
  have hb0 : Below w.heap.size w (w.alloc (.cells #[.slice A len cap, .int .i64 0] 98)) := (Below.refl _ _).alloc (Nat.le_refl _) _
  generalize w.alloc (.cells #[.slice A len cap, .int .i64 0] 98) = w0 at *
  go_wp2_with fail
  refine (below_any 4 w.heap.size A len cap 0 _ hr0 hs0 hl (by omega) (by omega)).mono ?_
  rintro e w1 ⟨m, p1, m0, m1, rfl, hr1, hg1⟩
  obtain ⟨M, rfl⟩ := Int.eq_ofNat_of_zero_le m0
  have hM : M ≤ 3 := by omega
  clear m0 m1
  have hlt0 := hr0.lt
  go_wp2_with fail
  go_loopw [4, 5] (fun v i wr => ∃ (s : ByteArray) (k q : Nat), s.size + 300 * k ≤ 900 ∧ i = .int .i64 (k : Int) ∧ v = .string s ∧ RdAt wr w.heap.size A len cap q ∧ w0.grownBy wr (some w.heap.size)) (fun _ i _ => (intOf i).toNat)
  case atStart => exact ⟨⟨#[]⟩, M, p1, by have : (⟨#[]⟩ : ByteArray).size = 0 := rfl; omega, rfl, rfl, hr1, hg1⟩
  case round =>
    obtain ⟨s, k, q, hk, rfl, rfl, hq, hgr⟩ := hrel
    rcases k with _ | k
    · go_wp2_with fail
      refine (hurt_any s w.heap.size A len cap q _ hq (hs0.keep hgr (Nat.le_of_lt hlt0)) hl (by omega)).mono ?_
      rintro e w4 ⟨t, p4, ht, rfl, hr4, hg4⟩
      go_wp2_with fail
      go_ret
      exact ⟨t, ht, rfl, hb0.grown (only_trans hgr hg4) hb0.size (fun k h => by cases h; exact Nat.le_refl _)⟩
    · go_wp2_with fail
      refine (cmd_any w.heap.size A len cap q _ hq (hs0.keep hgr (Nat.le_of_lt hlt0)) hl).mono ?_
      rintro e w2 ⟨f, p2, hf, rfl, hr2, hg2⟩
      have hgr2 := only_trans hgr hg2
      go_wp2_with fail
      refine (spec_CmdBytes _ _ _ _ _ _ _ _ _).mono ?_
      rintro e w3 ⟨rfl, hb3⟩
      have hr3 := hr2.below hb3 hr2.lt
      have hg3 := only_below hgr2 hb3
      have hsz := cmdBytesB_size (f 0) (f 1) (f 2) (f 3) (f 4) (f 5) (f 6) (f 7)
      generalize cmdBytesB (f 0) (f 1) (f 2) (f 3) (f 4) (f 5) (f 6) (f 7) = u at *
      clear hb3 hr2 hgr2 hg2 hgr hq
      have hno : ¬ 9223372036854775807 < s.size + u.size := by omega
      go_wp2_with fail
      go_roundw
      case rel => exact ⟨s ++ u, k, p2, by rw [ByteArray.size_append]; omega, by go_num, rfl, hr3, hg3⟩
      case measure => simp [intOf]
set_option maxHeartbeats 1600000 in
set_option maxRecDepth 100000 in
theorem DrawReadTape_any (A : Option Addr) (len cap : Nat) (w : World) (hs : Src w w.heap.size A len) (hl : len ≤ 9223372036854775807) :
    Calls Try.prog 52 #[.slice A len cap] w (SomeS w 2000) := by
  go_enter Try.func52, Try.ntmps52
  go_wp2_with fail
  refine (open_any A len cap _).mono ?_
  rintro e w1 ⟨rfl, rfl⟩
  have hr0 : RdAt (w.alloc (.cells #[.slice A len cap, .int .i64 0] 98)) w.heap.size A len cap 0 := ⟨Nat.zero_le _, heap_alloc_new w _⟩
  have hs0 : Src (w.alloc (.cells #[.slice A len cap, .int .i64 0] 98)) w.heap.size A len := hs.keep (only_alloc (World.grownBy.refl _ _) _) (Nat.le_refl _)
  have hb0 : Below w.heap.size w (w.alloc (.cells #[.slice A len cap, .int .i64 0] 98)) := (Below.refl _ _).alloc (Nat.le_refl _) _
  have hsa := hs.later hb0
  generalize w.alloc (.cells #[.slice A len cap, .int .i64 0] 98) = w0 at *
  have hlt0 := hr0.lt
  go_wp2_with fail
  refine (DrawTape_any A len cap _ hsa hl).mono ?_
  rintro e w1 ⟨A1, n, c, zs, hn, rfl, hh, hb1, _⟩
  go_wp2_with fail
  refine (spec_TapeBytes A1 n c zs w1 hh.2.2.2 (by omega)).mono ?_
  rintro e w2 ⟨rfl, hb2⟩
  have hsz : (tapeB zs n).size ≤ 100 := by
    unfold tapeB
    split
    · rename_i h
      show (tapeL zs n).toArray.size ≤ 100
      rw [List.size_toArray, tapeL_len n h.2]
      omega
    · exact Nat.zero_le _
  have hb12 := below_later' hb1 hb2
  have hr2 := hr0.below hb12 hlt0
  have hg2 : w0.grownBy w2 (some w.heap.size) := only_below (World.grownBy.refl _ _) hb12
  have hs2 := hs0.keep hg2 (Nat.le_of_lt hlt0)
  generalize tapeB zs n = s at *
  clear hh hb1 hb2
  go_wp2_with fail
  refine (hurt_any s w.heap.size A len cap 0 _ hr2 hs2 hl (by omega)).mono ?_
  rintro e w4 ⟨t, p4, ht, rfl, hr4, hg4⟩
  go_wp2_with fail
  go_ret
  exact ⟨t, ht, rfl, hb0.grown (only_trans hg2 hg4) hb0.size (fun k h => by cases h; exact Nat.le_refl _)⟩
end Go.Proofs.Ytlaklbagcgbioaa
