/-
  Drawn texts, hurt or not; drawn frames; two slices of texts that are the same.
-/
import Derived.Test.YteikflfchkmbnaaDrawTrd
import Derived.Test.YteikflfchkmbnaaTakeM
import Derived.Test.YteikflfchkmbnaaStrs
import Derived.Deep.Cut
import Derived.Deep.RegionWith
namespace Go.Proofs.Yteikflfchkmbnaa
open Go.RowKit Wire

/-- a drawn text -/
def SomeT (w : World) (most : Nat) (e : Ending) (w' : World) : Prop := ∃ s : ByteArray, s.size ≤ most ∧ e = .returned (.string s) ∧ Below w.heap.size w w'
theorem hurt_byte {n : Int} (h0 : 0 ≤ n) (h1 : n ≤ 256 - 1) : ∃ b : UInt8, n = (b.toNat : Int) :=
  ⟨UInt8.ofNat n.toNat, by simp; omega⟩
theorem hurt_wrap (b : UInt8) : IntKind.u8.wrap (b.toNat : Int) = (b.toNat : Int) := by
  have := b.toNat_lt
  rw [IntKind.wrap_u8]
  omega
theorem hurt_conv (w : World) (b : UInt8) : (convert 22 9 (.slice (some ⟨w.heap.size, 0, none⟩) 1 1)).run Try.prog (w.alloc (.cells #[.int .u8 (b.toNat : Int)] 5)) = .ok (.string ⟨#[b]⟩) (w.alloc (.cells #[.int .u8 (b.toNat : Int)] 5)) :=
  run_convert_bytes_back (P := Try.prog) (w.alloc (.cells #[.int .u8 (b.toNat : Int)] 5)) 22 9 5 ⟨w.heap.size, 0, none⟩ 1 [b] Try.underlying22 Try.underlying5 Try.underlying9
    (fun j hj => by
      simp at hj
      subst hj
      simp [Addr.add])
set_option maxHeartbeats 1600000 in
set_option maxRecDepth 100000 in
theorem hurt_any (s : ByteArray) (g : Nat) (A : Option Addr) (len cap p : Nat) (w : World) (hr : RdAt w g A len cap p) (hs : Src w g A len) (hl : len ≤ 9223372036854775807) (hm : s.size ≤ 1000) :
    Calls Try.prog 71 #[.pointer (some ⟨g, 0, none⟩), .string s] w (DrawnS w g A len cap 2000) := by
  go_enter Try.func71, Try.ntmps71
  go_wp2_with fail
  refine (below_any 6 g A len cap p _ hr hs hl (by omega) (by omega)).mono ?_
  rintro e w1 ⟨m, p1, m0, m1, rfl, hr1, hg1⟩
  have hs1 := hs.keep hg1 (Nat.le_of_lt hr.lt)
  rcases (show m = 1 ∨ m = 2 ∨ m = 3 ∨ m = 0 ∨ 4 ≤ m from by omega) with rfl | rfl | rfl | hm4
  · go_wp2_with fail
    refine (below_any ((s.size : Int) + 1) g A len cap p1 _ hr1 hs1 hl (by omega) (by omega)).mono ?_
    rintro e w2 ⟨k, p2, k0, k1, rfl, hr2, hg2⟩
    obtain ⟨K, rfl⟩ := Int.eq_ofNat_of_zero_le k0
    have hk : (K : Int) ≤ (s.size : Int) := by omega
    go_wp2_with fail
    go_ret
    refine ⟨_, p2, ?_, rfl, hr2, only_trans hg1 hg2⟩
    simp [ByteArray.size_extract]
    omega
  · by_cases h0 : 0 < s.size
    · go_wp2_with fail
      refine (below_any (s.size : Int) g A len cap p1 _ hr1 hs1 hl (by omega) (by omega)).mono ?_
      rintro e w2 ⟨k, p2, k0, k1, rfl, hr2, hg2⟩
      have hs2 := hs1.keep hg2 (Nat.le_of_lt hr1.lt)
      obtain ⟨K, rfl⟩ := Int.eq_ofNat_of_zero_le k0
      have hk : (K : Int) + 1 ≤ (s.size : Int) := by omega
      have hg12 := only_trans hg1 hg2
      have hk1 : (0 : Int) ≤ (K : Int) + 1 := by omega
      have hk2 : ((K : Int) + 1).toNat = K + 1 := by omega
      have hk3 : IntKind.i64.wrap ((K : Int) + 1) = (K : Int) + 1 := IntWalk.i64_in _ (by omega)
      clear hr hr1 hs hs1 hg1 hg2
      go_wp2_with fail
      go_region_with ((go_at_call 68; refine (below_any 256 g A len cap p2 _ (by exact hr2) (by exact hs2) hl (by omega) (by omega)).mono ?_; rintro e w10 ⟨n10, p10, l10, u10, rfl, hr10, hg10x⟩; have hg10 : w2.grownBy w10 (some g) := ⟨hg10x.os, hg10x.tape, hg10x.output, hg10x.size, hg10x.block⟩; clear hg10x; obtain ⟨b, rfl⟩ := hurt_byte l10 u10; have hw8 := hurt_wrap b; have hcv := hurt_conv w10 b; clear l10 u10))
      all_goals
        go_wp2_with fail
        go_ret
        refine ⟨_, p10, ?_, rfl, hr10.alloc _, only_alloc (only_trans hg12 hg10) _⟩
        rw [ByteArray.size_append, ByteArray.size_append, ByteArray.size_extract, ByteArray.size_extract]
        have hb1 : (⟨#[b]⟩ : ByteArray).size = 1 := rfl
        rw [hb1]
        omega
    · have h0' : decide (0 < (s.size : Int)) = false := decide_eq_false (by omega)
      go_wp2_with fail
      go_ret
      exact ⟨s, p1, by omega, rfl, hr1, hg1⟩
  · go_wp2_with fail
    refine (below_any 4 g A len cap p1 _ (hr1.alloc _) (hs1.keep (only_alloc (World.grownBy.refl _ _) _) (Nat.le_of_lt hr1.lt)) hl (by omega) (by omega)).mono ?_
    rintro e w2 ⟨m, p2, m0, m1, rfl, hr2, hg2⟩
    have hlt1 := hr1.lt
    have hA := (hg2.block w1.heap.size (by simp) (fun e => by injection e with e; omega)).trans (heap_alloc_new w1 _)
    have c0 := cell_of_row w2 w1.heap.size 0 _ _ (0, 0) hA
    have c1 := cell_of_row w2 w1.heap.size 1 _ _ (0, 0) hA
    have c2 := cell_of_row w2 w1.heap.size 2 _ _ (0, 0) hA
    have c3 := cell_of_row w2 w1.heap.size 3 _ _ (0, 0) hA
    simp at c0 c1 c2 c3
    have hg3 := only_trans hg1 (only_trans (only_alloc (World.grownBy.refl w1 (some g)) _) hg2)
    clear hA hg2 hlt1
    rcases (show m = 0 ∨ m = 1 ∨ m = 2 ∨ m = 3 from by omega) with rfl | rfl | rfl | rfl
    all_goals
      go_wp2_with fail
      go_ret
      exact ⟨_, p2, by rw [ByteArray.size_append]; exact Nat.le_trans (Nat.add_le_add_left (Nat.le_refl 1) _) (by omega), rfl, hr2, hg3⟩
  · have e1 : (m == 1) = false := beq_eq_false_iff_ne.2 (by omega)
    have e2 : (m == 2) = false := beq_eq_false_iff_ne.2 (by omega)
    have e3 : (m == 3) = false := beq_eq_false_iff_ne.2 (by omega)
    go_wp2_with fail
    go_ret
    exact ⟨s, p1, by omega, rfl, hr1, hg1⟩
set_option maxHeartbeats 800000 in
set_option maxRecDepth 100000 in
theorem text_any (g : Nat) (A : Option Addr) (len cap p : Nat) (w : World) (hr : RdAt w g A len cap p) (hs : Src w g A len) (hl : len ≤ 9223372036854775807) :
    Calls Try.prog 70 #[.pointer (some ⟨g, 0, none⟩)] w (DrawnS w g A len cap 3) := by
  go_enter Try.func70, Try.ntmps70
  go_wp2_with fail
  refine (below_any 5 g A len cap p _ (hr.alloc _) (hs.keep (only_alloc (World.grownBy.refl _ _) _) (Nat.le_of_lt hr.lt)) hl (by omega) (by omega)).mono ?_
  rintro e w2 ⟨m, p2, m0, m1, rfl, hr2, hg2⟩
  have hlt := hr.lt
  have hA := (hg2.block w.heap.size (by simp) (fun e => by injection e with e; omega)).trans (heap_alloc_new w _)
  have c0 := cell_of_row w2 w.heap.size 0 _ _ (0, 0) hA
  have c1 := cell_of_row w2 w.heap.size 1 _ _ (0, 0) hA
  have c2 := cell_of_row w2 w.heap.size 2 _ _ (0, 0) hA
  have c3 := cell_of_row w2 w.heap.size 3 _ _ (0, 0) hA
  have c4 := cell_of_row w2 w.heap.size 4 _ _ (0, 0) hA
  simp at c0 c1 c2 c3 c4
  have hg3 := only_trans (only_alloc (World.grownBy.refl w (some g)) _) hg2
  clear hA hg2 hlt hr hs
  rcases (show m = 0 ∨ m = 1 ∨ m = 2 ∨ m = 3 ∨ m = 4 from by omega) with rfl | rfl | rfl | rfl | rfl
  all_goals
    go_wp2_with fail
    go_ret
    exact ⟨_, p2, by decide, rfl, hr2, hg3⟩
set_option maxHeartbeats 800000 in
set_option maxRecDepth 100000 in
theorem DrawFrameOf_any (A : Option Addr) (len cap : Nat) (w : World) (hs : Src w w.heap.size A len) (hl : len ≤ 9223372036854775807) :
    Calls Try.prog 40 #[.slice A len cap] w (SomeT w 8) := by
  go_enter Try.func40, Try.ntmps40
  go_wp2_with fail
  refine (open_any A len cap _).mono ?_
  rintro e w1 ⟨rfl, rfl⟩
  have hr0 : RdAt (w.alloc (.cells #[.slice A len cap, .int .i64 0] 112)) w.heap.size A len cap 0 := ⟨Nat.zero_le _, heap_alloc_new w _⟩
  have hs0 : Src (w.alloc (.cells #[.slice A len cap, .int .i64 0] 112)) w.heap.size A len := hs.keep (only_alloc (World.grownBy.refl _ _) _) (Nat.le_refl _)
  have hb0 : Below w.heap.size w (w.alloc (.cells #[.slice A len cap, .int .i64 0] 112)) := (Below.refl _ _).alloc (Nat.le_refl _) _
  have hlt0 : w.heap.size < (w.alloc (.cells #[.slice A len cap, .int .i64 0] 112)).heap.size := by simp
  generalize w.alloc (.cells #[.slice A len cap, .int .i64 0] 112) = w0 at *
  go_wp2_with fail
  refine (text_any w.heap.size A len cap 0 _ hr0 hs0 hl).mono ?_
  rintro e w1 ⟨s, p1, hsz, rfl, hr1, hg1⟩
  go_wp2_with fail
  refine (bytes_any 5 w.heap.size A len cap p1 _ hr1 (hs0.keep hg1 (Nat.le_of_lt hlt0)) hl (by omega)).mono ?_
  rintro e w2 ⟨t, p2, htz, rfl, hr2, hg2⟩
  have hbz := (hb0.grown hg1 hb0.size (fun k h => by cases h; exact Nat.le_refl _)).grown hg2 (Nat.le_trans hb0.size hg1.size) (fun k h => by cases h; exact Nat.le_refl _)
  go_wp2_with fail
  go_ret
  exact ⟨s ++ t, by rw [ByteArray.size_append]; omega, rfl, hbz⟩
set_option maxHeartbeats 800000 in
set_option maxRecDepth 100000 in
theorem DrawTakeFrames_any (A : Option Addr) (len cap : Nat) (w : World) (hs : Src w w.heap.size A len) (hl : len ≤ 9223372036854775807) :
    Calls Try.prog 35 #[.slice A len cap] w (SomeT w 2000) := by
  go_enter Try.func35, Try.ntmps35
  go_wp2_with fail
  refine (open_any A len cap _).mono ?_
  rintro e w1 ⟨rfl, rfl⟩
  have hr0 : RdAt (w.alloc (.cells #[.slice A len cap, .int .i64 0] 112)) w.heap.size A len cap 0 := ⟨Nat.zero_le _, heap_alloc_new w _⟩
  have hs0 : Src (w.alloc (.cells #[.slice A len cap, .int .i64 0] 112)) w.heap.size A len := hs.keep (only_alloc (World.grownBy.refl _ _) _) (Nat.le_refl _)
  have hb0 : Below w.heap.size w (w.alloc (.cells #[.slice A len cap, .int .i64 0] 112)) := (Below.refl _ _).alloc (Nat.le_refl _) _
  have hlt0 : w.heap.size < (w.alloc (.cells #[.slice A len cap, .int .i64 0] 112)).heap.size := by simp
  generalize w.alloc (.cells #[.slice A len cap, .int .i64 0] 112) = w0 at *
  go_wp2_with fail
  refine (below_any 4 w.heap.size A len cap 0 _ hr0 hs0 hl (by omega) (by omega)).mono ?_
  rintro e w1 ⟨m, p1, m0, m1, rfl, hr1, hg1⟩
  obtain ⟨M, rfl⟩ := Int.eq_ofNat_of_zero_le m0
  go_wp2_with fail
  go_loopw [4, 5] (fun v i wr => ∃ (s : ByteArray) (k q : Nat), s.size + k * 11 ≤ 33 ∧ v = .string s ∧ i = .int .i64 (k : Int) ∧ RdAt wr w.heap.size A len cap q ∧ w0.grownBy wr (some w.heap.size)) (fun _ i _ => (intOf i).toNat)
  case atStart => exact ⟨⟨#[]⟩, M, p1, by have h0 : (⟨#[]⟩ : ByteArray).size = 0 := rfl; omega, rfl, rfl, hr1, hg1⟩
  case round =>
    clear hr1 hg1
    obtain ⟨s, k, q, hk, rfl, rfl, hq, hgr⟩ := hrel
    rcases k with _ | k
    · go_wp2_with fail
      refine (hurt_any s w.heap.size A len cap q _ hq (hs0.keep hgr (Nat.le_of_lt hlt0)) hl (by omega)).mono ?_
      rintro e w2 ⟨t, p2, htz, rfl, hr2, hg2⟩
      have hbz := (hb0.grown hgr hb0.size (fun k h => by cases h; exact Nat.le_refl _)).grown hg2 (Nat.le_trans hb0.size hgr.size) (fun k h => by cases h; exact Nat.le_refl _)
      go_wp2_with fail
      go_ret
      exact ⟨t, htz, rfl, hbz⟩
    · go_wp2_with fail
      refine (text_any w.heap.size A len cap q _ hq (hs0.keep hgr (Nat.le_of_lt hlt0)) hl).mono ?_
      rintro e w2 ⟨t, p2, htz, rfl, hr2, hg2⟩
      have hgr2 := only_trans hgr hg2
      clear hq hgr hg2
      go_wp2_with fail
      refine (spec_FrameOf t _ (by unfold maxLen; omega)).mono ?_
      rintro e w3 ⟨rfl, hb3⟩
      have hf := frameB_size (d := t) (by omega)
      have hr3 := hr2.below hb3
      have hgr3 := only_below hgr2 hb3
      clear hr2 hgr2 hb3
      generalize frameB t = f at *
      go_wp2_with fail
      go_roundw
      case rel => exact ⟨s ++ f, k, p2, by rw [ByteArray.size_append]; omega, rfl, by go_num, hr3, hgr3⟩
      case measure => simp [intOf]
set_option linter.unusedSimpArgs false in
set_option maxHeartbeats 1600000 in
set_option maxRecDepth 100000 in
theorem sameTexts_same (A B : Option Addr) (n c d : Nat) (l : List ByteArray) (w : World) (hA : SRow w w.heap.size A n l) (hB : SRow w w.heap.size B n l) (hn : n ≤ 1048576) :
    Calls Try.prog 38 #[.slice A n c, .slice B n d] w fun e w' => e = .returned (.bool true) ∧ Below w.heap.size w w' := by
  go_enter Try.func38, Try.ntmps38
  go_wp2_with fail
  go_loopw [5] (fun i wr => ∃ k : Nat, k ≤ n ∧ i = .int .i64 (k : Int) ∧ Below w.heap.size w wr) (fun i _ => n - (intOf i).toNat)
  case atStart => exact ⟨0, Nat.zero_le _, rfl, Below.refl _ _⟩
  case round =>
    obtain ⟨k, hk, rfl, hbel⟩ := hrel
    by_cases hlt : k < n
    · have hbs := hbel.size
      obtain ⟨b, hb, rfl, h0⟩ := hA.below (Nat.le_refl _) hbel (by omega)
      obtain ⟨b', hb', rfl, h0'⟩ := hB.below (Nat.le_refl _) hbel (by omega)
      have p0 := h0 k hlt
      have p1 := h0' k hlt
      generalize l.getD k ⟨#[]⟩ = x at p0 p1
      clear hA hB h0 h0'
      go_wp2_with fail
      go_region
      all_goals go_wp2_with fail
      all_goals go_roundw
      case rel => exact ⟨k + 1, by omega, by go_num, hbel.drew⟩
      case measure => simp [intOf]; omega
    · obtain rfl : k = n := by omega
      go_wp2_with fail
      go_ret
      exact ⟨rfl, hbel⟩
end Go.Proofs.Yteikflfchkmbnaa
