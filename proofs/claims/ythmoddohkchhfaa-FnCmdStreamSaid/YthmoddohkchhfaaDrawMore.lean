/-
  Drawn commands, records, and texts of them, hurt or not.
-/
import Derived.Test.YthmoddohkchhfaaDrawCmd
import Derived.Test.YthmoddohkchhfaaDrawRec
import Derived.Test.YthmoddohkchhfaaLawFilledD
import Derived.Test.YthmoddohkchhfaaLawRead
import Derived.Deep.Cut
import Derived.Deep.RegionWith
namespace Go.Proofs.Ythmoddohkchhfaa
open Go.RowKit Wire

/-- some struct of eight int64 -/
def Some8 (w : World) (e : Ending) (w' : World) : Prop := ∃ f : Nat → Int, (∀ j, I64 (f j)) ∧ e = .returned (.agg #[.int .i64 (f 0), .int .i64 (f 1), .int .i64 (f 2), .int .i64 (f 3), .int .i64 (f 4), .int .i64 (f 5), .int .i64 (f 6), .int .i64 (f 7)]) ∧ Below w.heap.size w w'
theorem byte_of {n : Int} (h0 : 0 ≤ n) (h1 : n ≤ 256 - 1) : ∃ b : UInt8, n = (b.toNat : Int) :=
  ⟨UInt8.ofNat n.toNat, by simp; omega⟩
theorem wrap_byte (b : UInt8) : IntKind.u8.wrap (b.toNat : Int) = (b.toNat : Int) := by
  have := b.toNat_lt
  rw [IntKind.wrap_u8]
  omega
theorem conv_one (w : World) (b : UInt8) : (convert 36 9 (.slice (some ⟨w.heap.size, 0, none⟩) 1 1)).run Try.prog (w.alloc (.cells #[.int .u8 (b.toNat : Int)] 5)) = .ok (.string ⟨#[b]⟩) (w.alloc (.cells #[.int .u8 (b.toNat : Int)] 5)) :=
  run_convert_bytes_back (P := Try.prog) (w.alloc (.cells #[.int .u8 (b.toNat : Int)] 5)) 36 9 5 ⟨w.heap.size, 0, none⟩ 1 [b] Try.underlying36 Try.underlying5 Try.underlying9
    (fun j hj => by
      simp at hj
      subst hj
      simp [Addr.add])
set_option maxHeartbeats 1600000 in
set_option maxRecDepth 100000 in
theorem hurt_any (s : ByteArray) (g : Nat) (A : Option Addr) (len cap p : Nat) (w : World) (hr : RdAt w g A len cap p) (hs : Src w g A len) (hl : len ≤ 9223372036854775807) (hm : s.size ≤ 1000) :
    Calls Try.prog 74 #[.pointer (some ⟨g, 0, none⟩), .string s] w (DrawnS w g A len cap 2000) := by
  go_enter Try.func74, Try.ntmps74
  go_wp2_with fail
  refine (below_any 6 g A len cap p _ hr hs hl (by omega) (by omega)).mono ?_
  rintro e w1 ⟨m, p1, m0, m1, rfl, hr1, hg1⟩
  have hs1 := hs.keep hg1 (Nat.le_of_lt hr.lt)
  rcases (show m = 1 ∨ m = 2 ∨ m = 3 ∨ m = 0 ∨ 4 ≤ m from by omega) with rfl | rfl | rfl | hm4
  · go_wp2_with fail
    refine (below_any ((s.size : Int) + 1) g A len cap p1 _ hr1 hs1 hl (by omega) (by omega)).mono ?_
    rintro e w2 ⟨k, p2, k0, k1, rfl, hr2, hg2⟩
    obtain ⟨K, rfl⟩ := Int.eq_ofNat_of_zero_le k0
    have hk : (K : Int) ≤ (s.size : Int) := by omega
    go_wp2_with fail
    go_ret
    refine ⟨_, p2, ?_, rfl, hr2, only_trans hg1 hg2⟩
    simp [ByteArray.size_extract]
    omega
  · by_cases h0 : 0 < s.size
    · go_wp2_with fail
      refine (below_any (s.size : Int) g A len cap p1 _ hr1 hs1 hl (by omega) (by omega)).mono ?_
      rintro e w2 ⟨k, p2, k0, k1, rfl, hr2, hg2⟩
      have hs2 := hs1.keep hg2 (Nat.le_of_lt hr1.lt)
      obtain ⟨K, rfl⟩ := Int.eq_ofNat_of_zero_le k0
      have hk : (K : Int) + 1 ≤ (s.size : Int) := by omega
      have hg12 := only_trans hg1 hg2
      have hk1 : (0 : Int) ≤ (K : Int) + 1 := by omega
      have hk2 : ((K : Int) + 1).toNat = K + 1 := by omega
      have hk3 : IntKind.i64.wrap ((K : Int) + 1) = (K : Int) + 1 := IntWalk.i64_in _ (by omega)
      clear hr hr1 hs hs1 hg1 hg2
      go_wp2_with fail
      go_region_with ((go_at_call 71; refine (below_any 256 g A len cap p2 _ (by exact hr2) (by exact hs2) hl (by omega) (by omega)).mono ?_; rintro e w10 ⟨n10, p10, l10, u10, rfl, hr10, hg10x⟩; have hg10 : w2.grownBy w10 (some g) := ⟨hg10x.os, hg10x.tape, hg10x.output, hg10x.size, hg10x.block⟩; clear hg10x; obtain ⟨b, rfl⟩ := byte_of l10 u10; have hw8 := wrap_byte b; have hcv := conv_one w10 b; clear l10 u10))
      all_goals
        go_wp2_with fail
        go_ret
        refine ⟨_, p10, ?_, rfl, hr10.alloc _, only_alloc (only_trans hg12 hg10) _⟩
        rw [ByteArray.size_append, ByteArray.size_append, ByteArray.size_extract, ByteArray.size_extract]
        have hb1 : (⟨#[b]⟩ : ByteArray).size = 1 := rfl
        rw [hb1]
        omega
    · have h0' : decide (0 < (s.size : Int)) = false := decide_eq_false (by omega)
      go_wp2_with fail
      go_ret
      exact ⟨s, p1, by omega, rfl, hr1, hg1⟩
  · go_wp2_with fail
    refine (below_any 4 g A len cap p1 _ (hr1.alloc _) (hs1.keep (only_alloc (World.grownBy.refl _ _) _) (Nat.le_of_lt hr1.lt)) hl (by omega) (by omega)).mono ?_
    rintro e w2 ⟨m, p2, m0, m1, rfl, hr2, hg2⟩
    have hlt1 := hr1.lt
    have hA := (hg2.block w1.heap.size (by simp) (fun e => by injection e with e; omega)).trans (heap_alloc_new w1 _)
    have c0 := cell_of_row w2 w1.heap.size 0 _ _ (0, 0) hA
    have c1 := cell_of_row w2 w1.heap.size 1 _ _ (0, 0) hA
    have c2 := cell_of_row w2 w1.heap.size 2 _ _ (0, 0) hA
    have c3 := cell_of_row w2 w1.heap.size 3 _ _ (0, 0) hA
    simp at c0 c1 c2 c3
    have hg3 := only_trans hg1 (only_trans (only_alloc (World.grownBy.refl w1 (some g)) _) hg2)
    clear hA hg2 hlt1
    rcases (show m = 0 ∨ m = 1 ∨ m = 2 ∨ m = 3 from by omega) with rfl | rfl | rfl | rfl
    all_goals
      go_wp2_with fail
      go_ret
      exact ⟨_, p2, by rw [ByteArray.size_append]; exact Nat.le_trans (Nat.add_le_add_left (Nat.le_refl 1) _) (by omega), rfl, hr2, hg3⟩
  · have e1 : (m == 1) = false := beq_eq_false_iff_ne.2 (by omega)
    have e2 : (m == 2) = false := beq_eq_false_iff_ne.2 (by omega)
    have e3 : (m == 3) = false := beq_eq_false_iff_ne.2 (by omega)
    go_wp2_with fail
    go_ret
    exact ⟨s, p1, by omega, rfl, hr1, hg1⟩
set_option maxHeartbeats 3200000 in
set_option maxRecDepth 100000 in
theorem DrawCmdOk_any (A : Option Addr) (len cap : Nat) (w : World) (hs : Src w w.heap.size A len) (hl : len ≤ 9223372036854775807) :
    Calls Try.prog 29 #[.slice A len cap] w (Some8 w) := by
  go_enter Try.func29, Try.ntmps29
  go_wp2_with fail
  have hz0 : Ns (w.alloc (.cells #[.int .i64 0, .int .i64 0, .int .i64 0, .int .i64 0, .int .i64 0, .int .i64 0, .int .i64 0, .int .i64 0] 25)) w.heap.size 25 8 := Ns.new w _ (eight 0 0 0 0 0 0 0 0) (eight_i64 (i64_small (by omega) (by omega)) (i64_small (by omega) (by omega)) (i64_small (by omega) (by omega)) (i64_small (by omega) (by omega)) (i64_small (by omega) (by omega)) (i64_small (by omega) (by omega)) (i64_small (by omega) (by omega)) (i64_small (by omega) (by omega))) _ (eight_at 0 0 0 0 0 0 0 0)
  have hba : Below w.heap.size w (w.alloc (.cells #[.int .i64 0, .int .i64 0, .int .i64 0, .int .i64 0, .int .i64 0, .int .i64 0, .int .i64 0, .int .i64 0] 25)) := (Below.refl _ _).alloc (Nat.le_refl _) _
  have hsa := hs.later hba
  have hlta : w.heap.size < (w.alloc (.cells #[.int .i64 0, .int .i64 0, .int .i64 0, .int .i64 0, .int .i64 0, .int .i64 0, .int .i64 0, .int .i64 0] 25)).heap.size := by simp
  generalize w.alloc (.cells #[.int .i64 0, .int .i64 0, .int .i64 0, .int .i64 0, .int .i64 0, .int .i64 0, .int .i64 0, .int .i64 0] 25) = wa at *
  refine (open_any A len cap _).mono ?_
  rintro e w1 ⟨rfl, rfl⟩
  have hr0 : RdAt (wa.alloc (.cells #[.slice A len cap, .int .i64 0] 138)) wa.heap.size A len cap 0 := ⟨Nat.zero_le _, heap_alloc_new wa _⟩
  have hs0 : Src (wa.alloc (.cells #[.slice A len cap, .int .i64 0] 138)) wa.heap.size A len := hsa.keep (only_alloc (World.grownBy.refl _ _) _) (Nat.le_refl _)
  have hb0 : Below w.heap.size w (wa.alloc (.cells #[.slice A len cap, .int .i64 0] 138)) := hba.alloc hba.size _
  have hz1 : Ns (wa.alloc (.cells #[.slice A len cap, .int .i64 0] 138)) w.heap.size 25 8 := hz0.alloc _
  have hlt0 := hr0.lt
  generalize wa.alloc (.cells #[.slice A len cap, .int .i64 0] 138) = w0 at *
  have hgw : w.heap.size ≠ wa.heap.size := by omega
  generalize wa.heap.size = g at *
  clear hz0 hba hsa
  go_wp2_with fail
  refine (cmd_any g A len cap 0 _ hr0 hs0 hl).mono ?_
  rintro e w1 ⟨f, p1, hf, rfl, hr1, hg1⟩
  have hs1 := hs0.keep hg1 (Nat.le_of_lt hlt0)
  have hz2 := hz1.grown hg1 (by simp; omega)
  have hlt1 := hr1.lt
  have hlt2 := hz2.lt
  go_wp2_with fail
  have hm1 : Mid w0 g A len cap 25 w.heap.size w1.heap.size (w1.alloc (.cells #[.int .i64 (f 0), .int .i64 (f 1), .int .i64 (f 2), .int .i64 (f 3), .int .i64 (f 4), .int .i64 (f 5), .int .i64 (f 6), .int .i64 (f 7)] 25)) :=
    ⟨p1, hr1.alloc _, hz2.alloc _, Ns.new w1 _ _ (eight_i64 (hf 0) (hf 1) (hf 2) (hf 3) (hf 4) (hf 5) (hf 6) (hf 7)) _ (eight_at _ _ _ _ _ _ _ _), only_alloc hg1 _⟩
  refine (below_any 8 g A len cap p1 _ (hr1.alloc _) (hs1.keep (only_alloc (World.grownBy.refl _ _) _) (Nat.le_of_lt hlt1)) hl (by omega) (by omega)).mono ?_
  rintro e w2 ⟨m, p2, m0, m1, rfl, hr2, hg2⟩
  have hs2 : Src w2 g A len := (hs1.keep (only_alloc (World.grownBy.refl _ _) _) (Nat.le_of_lt hlt1)).keep hg2 (by simp; omega)
  have hm2 := hm1.step (by omega) (by omega) hr2 hg2
  have hszz : w0.heap.size ≤ w1.heap.size := hg1.size
  clear hm1 hg2 hz1 hz2 hr0 hs0 hs1 hr1 hg1
  generalize w1.heap.size = G at *
  rcases (show m = 6 ∨ m = 7 ∨ m < 6 from by omega) with rfl | rfl | hm6
  · go_wp2_with fail
    refine (off_any 1 3 g A len cap p2 _ hr2 hs2 hl (by omega) (by omega) (by omega)).mono ?_
    rintro e w3 ⟨n9, p3, hn9, rfl, hr3, hg3⟩
    have hm3 := hm2.step (by omega) (by omega) hr3 hg3
    have hmid : Mid w0 g A len cap 25 w.heap.size G (w3.setCell ⟨G, 7, none⟩ (.int .i64 n9)) := hm3.set (by omega) (by omega) (by omega) 7 hn9
    obtain ⟨_, _, _, ⟨f3, _, hrow3⟩, _⟩ := hm3
    have cc : w3.cell? ⟨G, 7, none⟩ = some (.int .i64 (f3 7)) := hrow3.cell (by omega)
    have zz : w3.frozen? ⟨G, 7, none⟩ = false := hrow3.frozen _
    clear hrow3 hm2 hr2 hs2 hr3 hg3
    go_upto_region 8 with fail
    clear cc zz
    generalize w3.setCell ⟨G, 7, none⟩ (.int .i64 n9) = wz at *
    have hm := hmid
    clear hmid
    obtain ⟨q, hrz, ⟨f1, hf1, hrow1⟩, ⟨f2, hf2, hrow2⟩, hgz⟩ := hm
    have c0 : wz.cell? ⟨G, 0, none⟩ = some (.int .i64 (f2 0)) := hrow2.cell (by omega)
    have d0 : wz.cell? ⟨w.heap.size, 0, none⟩ = some (.int .i64 (f1 0)) := hrow1.cell (by omega)
    have z0 : wz.frozen? ⟨w.heap.size, 0, none⟩ = false := hrow1.frozen _
    have c1 : wz.cell? ⟨G, 1, none⟩ = some (.int .i64 (f2 1)) := hrow2.cell (by omega)
    have d1 : wz.cell? ⟨w.heap.size, 1, none⟩ = some (.int .i64 (f1 1)) := hrow1.cell (by omega)
    have z1 : wz.frozen? ⟨w.heap.size, 1, none⟩ = false := hrow1.frozen _
    have c2 : wz.cell? ⟨G, 2, none⟩ = some (.int .i64 (f2 2)) := hrow2.cell (by omega)
    have d2 : wz.cell? ⟨w.heap.size, 2, none⟩ = some (.int .i64 (f1 2)) := hrow1.cell (by omega)
    have z2 : wz.frozen? ⟨w.heap.size, 2, none⟩ = false := hrow1.frozen _
    have c3 : wz.cell? ⟨G, 3, none⟩ = some (.int .i64 (f2 3)) := hrow2.cell (by omega)
    have d3 : wz.cell? ⟨w.heap.size, 3, none⟩ = some (.int .i64 (f1 3)) := hrow1.cell (by omega)
    have z3 : wz.frozen? ⟨w.heap.size, 3, none⟩ = false := hrow1.frozen _
    have c4 : wz.cell? ⟨G, 4, none⟩ = some (.int .i64 (f2 4)) := hrow2.cell (by omega)
    have d4 : wz.cell? ⟨w.heap.size, 4, none⟩ = some (.int .i64 (f1 4)) := hrow1.cell (by omega)
    have z4 : wz.frozen? ⟨w.heap.size, 4, none⟩ = false := hrow1.frozen _
    have c5 : wz.cell? ⟨G, 5, none⟩ = some (.int .i64 (f2 5)) := hrow2.cell (by omega)
    have d5 : wz.cell? ⟨w.heap.size, 5, none⟩ = some (.int .i64 (f1 5)) := hrow1.cell (by omega)
    have z5 : wz.frozen? ⟨w.heap.size, 5, none⟩ = false := hrow1.frozen _
    have c6 : wz.cell? ⟨G, 6, none⟩ = some (.int .i64 (f2 6)) := hrow2.cell (by omega)
    have d6 : wz.cell? ⟨w.heap.size, 6, none⟩ = some (.int .i64 (f1 6)) := hrow1.cell (by omega)
    have z6 : wz.frozen? ⟨w.heap.size, 6, none⟩ = false := hrow1.frozen _
    have c7 : wz.cell? ⟨G, 7, none⟩ = some (.int .i64 (f2 7)) := hrow2.cell (by omega)
    have d7 : wz.cell? ⟨w.heap.size, 7, none⟩ = some (.int .i64 (f1 7)) := hrow1.cell (by omega)
    have z7 : wz.frozen? ⟨w.heap.size, 7, none⟩ = false := hrow1.frozen _
    have hbz : Below w.heap.size w wz := hb0.grown hgz hb0.size (fun k h => by cases h; omega)
    clear hrow1 hrow2 hgz hrz
    go_wp2_with fail
    refine bodyPost_ret (v := .agg #[.int .i64 (f2 0), .int .i64 (f2 1), .int .i64 (f2 2), .int .i64 (f2 3), .int .i64 (f2 4), .int .i64 (f2 5), .int .i64 (f2 6), .int .i64 (f2 7)]) (by simp [results, Try.results29, go_sem, d0, d1, d2, d3, d4, d5, d6, d7]) rfl ⟨f2, hf2, rfl, ?_⟩
    exact below_put8 hbz (Nat.le_refl w.heap.size) 0 1 2 3 4 5 6 7 _ _ _ _ _ _ _ _
  · go_wp2_with fail
    refine (off_any 1 10 g A len cap p2 _ hr2 hs2 hl (by omega) (by omega) (by omega)).mono ?_
    rintro e w3 ⟨n9, p3, hn9, rfl, hr3, hg3⟩
    have hm3 := hm2.step (by omega) (by omega) hr3 hg3
    have hmid : Mid w0 g A len cap 25 w.heap.size G (w3.setCell ⟨G, 0, none⟩ (.int .i64 n9)) := hm3.set (by omega) (by omega) (by omega) 0 hn9
    obtain ⟨_, _, _, ⟨f3, _, hrow3⟩, _⟩ := hm3
    have cc : w3.cell? ⟨G, 0, none⟩ = some (.int .i64 (f3 0)) := hrow3.cell (by omega)
    have zz : w3.frozen? ⟨G, 0, none⟩ = false := hrow3.frozen _
    clear hrow3 hm2 hr2 hs2 hr3 hg3
    go_upto_region 8 with fail
    clear cc zz
    generalize w3.setCell ⟨G, 0, none⟩ (.int .i64 n9) = wz at *
    have hm := hmid
    clear hmid
    obtain ⟨q, hrz, ⟨f1, hf1, hrow1⟩, ⟨f2, hf2, hrow2⟩, hgz⟩ := hm
    have c0 : wz.cell? ⟨G, 0, none⟩ = some (.int .i64 (f2 0)) := hrow2.cell (by omega)
    have d0 : wz.cell? ⟨w.heap.size, 0, none⟩ = some (.int .i64 (f1 0)) := hrow1.cell (by omega)
    have z0 : wz.frozen? ⟨w.heap.size, 0, none⟩ = false := hrow1.frozen _
    have c1 : wz.cell? ⟨G, 1, none⟩ = some (.int .i64 (f2 1)) := hrow2.cell (by omega)
    have d1 : wz.cell? ⟨w.heap.size, 1, none⟩ = some (.int .i64 (f1 1)) := hrow1.cell (by omega)
    have z1 : wz.frozen? ⟨w.heap.size, 1, none⟩ = false := hrow1.frozen _
    have c2 : wz.cell? ⟨G, 2, none⟩ = some (.int .i64 (f2 2)) := hrow2.cell (by omega)
    have d2 : wz.cell? ⟨w.heap.size, 2, none⟩ = some (.int .i64 (f1 2)) := hrow1.cell (by omega)
    have z2 : wz.frozen? ⟨w.heap.size, 2, none⟩ = false := hrow1.frozen _
    have c3 : wz.cell? ⟨G, 3, none⟩ = some (.int .i64 (f2 3)) := hrow2.cell (by omega)
    have d3 : wz.cell? ⟨w.heap.size, 3, none⟩ = some (.int .i64 (f1 3)) := hrow1.cell (by omega)
    have z3 : wz.frozen? ⟨w.heap.size, 3, none⟩ = false := hrow1.frozen _
    have c4 : wz.cell? ⟨G, 4, none⟩ = some (.int .i64 (f2 4)) := hrow2.cell (by omega)
    have d4 : wz.cell? ⟨w.heap.size, 4, none⟩ = some (.int .i64 (f1 4)) := hrow1.cell (by omega)
    have z4 : wz.frozen? ⟨w.heap.size, 4, none⟩ = false := hrow1.frozen _
    have c5 : wz.cell? ⟨G, 5, none⟩ = some (.int .i64 (f2 5)) := hrow2.cell (by omega)
    have d5 : wz.cell? ⟨w.heap.size, 5, none⟩ = some (.int .i64 (f1 5)) := hrow1.cell (by omega)
    have z5 : wz.frozen? ⟨w.heap.size, 5, none⟩ = false := hrow1.frozen _
    have c6 : wz.cell? ⟨G, 6, none⟩ = some (.int .i64 (f2 6)) := hrow2.cell (by omega)
    have d6 : wz.cell? ⟨w.heap.size, 6, none⟩ = some (.int .i64 (f1 6)) := hrow1.cell (by omega)
    have z6 : wz.frozen? ⟨w.heap.size, 6, none⟩ = false := hrow1.frozen _
    have c7 : wz.cell? ⟨G, 7, none⟩ = some (.int .i64 (f2 7)) := hrow2.cell (by omega)
    have d7 : wz.cell? ⟨w.heap.size, 7, none⟩ = some (.int .i64 (f1 7)) := hrow1.cell (by omega)
    have z7 : wz.frozen? ⟨w.heap.size, 7, none⟩ = false := hrow1.frozen _
    have hbz : Below w.heap.size w wz := hb0.grown hgz hb0.size (fun k h => by cases h; omega)
    clear hrow1 hrow2 hgz hrz
    go_wp2_with fail
    refine bodyPost_ret (v := .agg #[.int .i64 (f2 0), .int .i64 (f2 1), .int .i64 (f2 2), .int .i64 (f2 3), .int .i64 (f2 4), .int .i64 (f2 5), .int .i64 (f2 6), .int .i64 (f2 7)]) (by simp [results, Try.results29, go_sem, d0, d1, d2, d3, d4, d5, d6, d7]) rfl ⟨f2, hf2, rfl, ?_⟩
    exact below_put8 hbz (Nat.le_refl w.heap.size) 0 1 2 3 4 5 6 7 _ _ _ _ _ _ _ _
  · have e1 : (m == 6) = false := beq_eq_false_iff_ne.2 (by omega)
    have e2 : (m == 7) = false := beq_eq_false_iff_ne.2 (by omega)
    obtain ⟨wz, hwz⟩ : ∃ wz : World, wz = w2 := ⟨_, rfl⟩
    subst hwz
    have hm := hm2
    clear hm2 hr2 hs2
    obtain ⟨q, hrz, ⟨f1, hf1, hrow1⟩, ⟨f2, hf2, hrow2⟩, hgz⟩ := hm
    have c0 : wz.cell? ⟨G, 0, none⟩ = some (.int .i64 (f2 0)) := hrow2.cell (by omega)
    have d0 : wz.cell? ⟨w.heap.size, 0, none⟩ = some (.int .i64 (f1 0)) := hrow1.cell (by omega)
    have z0 : wz.frozen? ⟨w.heap.size, 0, none⟩ = false := hrow1.frozen _
    have c1 : wz.cell? ⟨G, 1, none⟩ = some (.int .i64 (f2 1)) := hrow2.cell (by omega)
    have d1 : wz.cell? ⟨w.heap.size, 1, none⟩ = some (.int .i64 (f1 1)) := hrow1.cell (by omega)
    have z1 : wz.frozen? ⟨w.heap.size, 1, none⟩ = false := hrow1.frozen _
    have c2 : wz.cell? ⟨G, 2, none⟩ = some (.int .i64 (f2 2)) := hrow2.cell (by omega)
    have d2 : wz.cell? ⟨w.heap.size, 2, none⟩ = some (.int .i64 (f1 2)) := hrow1.cell (by omega)
    have z2 : wz.frozen? ⟨w.heap.size, 2, none⟩ = false := hrow1.frozen _
    have c3 : wz.cell? ⟨G, 3, none⟩ = some (.int .i64 (f2 3)) := hrow2.cell (by omega)
    have d3 : wz.cell? ⟨w.heap.size, 3, none⟩ = some (.int .i64 (f1 3)) := hrow1.cell (by omega)
    have z3 : wz.frozen? ⟨w.heap.size, 3, none⟩ = false := hrow1.frozen _
    have c4 : wz.cell? ⟨G, 4, none⟩ = some (.int .i64 (f2 4)) := hrow2.cell (by omega)
    have d4 : wz.cell? ⟨w.heap.size, 4, none⟩ = some (.int .i64 (f1 4)) := hrow1.cell (by omega)
    have z4 : wz.frozen? ⟨w.heap.size, 4, none⟩ = false := hrow1.frozen _
    have c5 : wz.cell? ⟨G, 5, none⟩ = some (.int .i64 (f2 5)) := hrow2.cell (by omega)
    have d5 : wz.cell? ⟨w.heap.size, 5, none⟩ = some (.int .i64 (f1 5)) := hrow1.cell (by omega)
    have z5 : wz.frozen? ⟨w.heap.size, 5, none⟩ = false := hrow1.frozen _
    have c6 : wz.cell? ⟨G, 6, none⟩ = some (.int .i64 (f2 6)) := hrow2.cell (by omega)
    have d6 : wz.cell? ⟨w.heap.size, 6, none⟩ = some (.int .i64 (f1 6)) := hrow1.cell (by omega)
    have z6 : wz.frozen? ⟨w.heap.size, 6, none⟩ = false := hrow1.frozen _
    have c7 : wz.cell? ⟨G, 7, none⟩ = some (.int .i64 (f2 7)) := hrow2.cell (by omega)
    have d7 : wz.cell? ⟨w.heap.size, 7, none⟩ = some (.int .i64 (f1 7)) := hrow1.cell (by omega)
    have z7 : wz.frozen? ⟨w.heap.size, 7, none⟩ = false := hrow1.frozen _
    have hbz : Below w.heap.size w wz := hb0.grown hgz hb0.size (fun k h => by cases h; omega)
    clear hrow1 hrow2 hgz hrz
    go_wp2_with fail
    refine bodyPost_ret (v := .agg #[.int .i64 (f2 0), .int .i64 (f2 1), .int .i64 (f2 2), .int .i64 (f2 3), .int .i64 (f2 4), .int .i64 (f2 5), .int .i64 (f2 6), .int .i64 (f2 7)]) (by simp [results, Try.results29, go_sem, d0, d1, d2, d3, d4, d5, d6, d7]) rfl ⟨f2, hf2, rfl, ?_⟩
    exact below_put8 hbz (Nat.le_refl w.heap.size) 0 1 2 3 4 5 6 7 _ _ _ _ _ _ _ _
theorem cmdBytesB_size (a b c d e f g h : Int) : (cmdBytesB a b c d e f g h).size ≤ 21 := by
  unfold cmdBytesB
  split
  · show (frameL _ _ _ _ _ _ _ _).toArray.size ≤ 21
    rw [List.size_toArray]
    simp [frameL, be_length]
  · exact Nat.zero_le _
set_option maxHeartbeats 800000 in
set_option maxRecDepth 100000 in
theorem DrawCmdBytes_any (A : Option Addr) (len cap : Nat) (w : World) (hs : Src w w.heap.size A len) (hl : len ≤ 9223372036854775807) :
    Calls Try.prog 28 #[.slice A len cap] w (Some8 w) := by
  go_enter Try.func28, Try.ntmps28
  go_wp2_with fail
  have hba : Below w.heap.size w (w.alloc (.cells #[.int .i64 0, .int .i64 0, .int .i64 0, .int .i64 0, .int .i64 0, .int .i64 0, .int .i64 0, .int .i64 0] 25)) := (Below.refl _ _).alloc (Nat.le_refl _) _
  have hsa := hs.later hba
  have hz0 : Ns (w.alloc (.cells #[.int .i64 0, .int .i64 0, .int .i64 0, .int .i64 0, .int .i64 0, .int .i64 0, .int .i64 0, .int .i64 0] 25)) w.heap.size 25 8 := Ns.new w _ (eight 0 0 0 0 0 0 0 0) (eight_i64 (i64_small (by omega) (by omega)) (i64_small (by omega) (by omega)) (i64_small (by omega) (by omega)) (i64_small (by omega) (by omega)) (i64_small (by omega) (by omega)) (i64_small (by omega) (by omega)) (i64_small (by omega) (by omega)) (i64_small (by omega) (by omega))) _ (eight_at 0 0 0 0 0 0 0 0)
  generalize w.alloc (.cells #[.int .i64 0, .int .i64 0, .int .i64 0, .int .i64 0, .int .i64 0, .int .i64 0, .int .i64 0, .int .i64 0] 25) = wa at *
  have hlt := hz0.lt
  refine (DrawCmdOk_any A len cap _ hsa hl).mono ?_
  rintro e wz ⟨f, hf, rfl, hb⟩
  obtain ⟨f1, _, hrow0⟩ := hz0
  have hrow1 := hrow0.of_block (hb.block _ hrow0.lt)
  have hbz : Below w.heap.size w wz := hba.trans (hb.mono hba.size)
  have d0 : wz.cell? ⟨w.heap.size, 0, none⟩ = some (.int .i64 (f1 0)) := hrow1.cell (by omega)
  have z0 : wz.frozen? ⟨w.heap.size, 0, none⟩ = false := hrow1.frozen _
  have d1 : wz.cell? ⟨w.heap.size, 1, none⟩ = some (.int .i64 (f1 1)) := hrow1.cell (by omega)
  have z1 : wz.frozen? ⟨w.heap.size, 1, none⟩ = false := hrow1.frozen _
  have d2 : wz.cell? ⟨w.heap.size, 2, none⟩ = some (.int .i64 (f1 2)) := hrow1.cell (by omega)
  have z2 : wz.frozen? ⟨w.heap.size, 2, none⟩ = false := hrow1.frozen _
  have d3 : wz.cell? ⟨w.heap.size, 3, none⟩ = some (.int .i64 (f1 3)) := hrow1.cell (by omega)
  have z3 : wz.frozen? ⟨w.heap.size, 3, none⟩ = false := hrow1.frozen _
  have d4 : wz.cell? ⟨w.heap.size, 4, none⟩ = some (.int .i64 (f1 4)) := hrow1.cell (by omega)
  have z4 : wz.frozen? ⟨w.heap.size, 4, none⟩ = false := hrow1.frozen _
  have d5 : wz.cell? ⟨w.heap.size, 5, none⟩ = some (.int .i64 (f1 5)) := hrow1.cell (by omega)
  have z5 : wz.frozen? ⟨w.heap.size, 5, none⟩ = false := hrow1.frozen _
  have d6 : wz.cell? ⟨w.heap.size, 6, none⟩ = some (.int .i64 (f1 6)) := hrow1.cell (by omega)
  have z6 : wz.frozen? ⟨w.heap.size, 6, none⟩ = false := hrow1.frozen _
  have d7 : wz.cell? ⟨w.heap.size, 7, none⟩ = some (.int .i64 (f1 7)) := hrow1.cell (by omega)
  have z7 : wz.frozen? ⟨w.heap.size, 7, none⟩ = false := hrow1.frozen _
  clear hrow0 hrow1 hb hba hsa
  go_wp2_with fail
  refine bodyPost_ret (v := .agg #[.int .i64 (f 0), .int .i64 (f 1), .int .i64 (f 2), .int .i64 (f 3), .int .i64 (f 4), .int .i64 (f 5), .int .i64 (f 6), .int .i64 (f 7)]) (by simp [results, Try.results28, go_sem, d0, d1, d2, d3, d4, d5, d6, d7]) rfl ⟨f, hf, rfl, ?_⟩
  exact below_put8 hbz (Nat.le_refl w.heap.size) 0 1 2 3 4 5 6 7 _ _ _ _ _ _ _ _
set_option maxHeartbeats 800000 in
set_option maxRecDepth 100000 in
theorem DrawReadCmd_any (A : Option Addr) (len cap : Nat) (w : World) (hs : Src w w.heap.size A len) (hl : len ≤ 9223372036854775807) :
    Calls Try.prog 30 #[.slice A len cap] w (SomeS w 2000) := by
  go_enter Try.func30, Try.ntmps30
  go_wp2_with fail
  refine (open_any A len cap _).mono ?_
  rintro e w1 ⟨rfl, rfl⟩
  have hr0 : RdAt (w.alloc (.cells #[.slice A len cap, .int .i64 0] 138)) w.heap.size A len cap 0 := ⟨Nat.zero_le _, heap_alloc_new w _⟩
  have hs0 : Src (w.alloc (.cells #[.slice A len cap, .int .i64 0] 138)) w.heap.size A len := hs.keep (only_alloc (World.grownBy.refl _ _) _) (Nat.le_refl _)
  have hb0 : Below w.heap.size w (w.alloc (.cells #[.slice A len cap, .int .i64 0] 138)) := (Below.refl _ _).alloc (Nat.le_refl _) _
  generalize w.alloc (.cells #[.slice A len cap, .int .i64 0] 138) = w0 at *
  go_wp2_with fail
  refine (cmd_any w.heap.size A len cap 0 _ hr0 hs0 hl).mono ?_
  rintro e w1 ⟨f, p1, hf, rfl, hr1, hg1⟩
  have hs1 := hs0.keep hg1 (Nat.le_of_lt hr0.lt)
  go_wp2_with fail
  refine (spec_CmdBytes _ _ _ _ _ _ _ _ _).mono ?_
  rintro e w2 ⟨rfl, hb2⟩
  have hr2 := hr1.below hb2 hr1.lt
  have hg2 := only_below hg1 hb2
  have hs2 : Src w2 w.heap.size A len := hs0.keep hg2 (Nat.le_of_lt hr0.lt)
  have hsz := cmdBytesB_size (f 0) (f 1) (f 2) (f 3) (f 4) (f 5) (f 6) (f 7)
  generalize cmdBytesB (f 0) (f 1) (f 2) (f 3) (f 4) (f 5) (f 6) (f 7) = s at *
  clear hb2 hs1 hg1 hr1
  go_wp2_with fail
  refine (once_any 2 w.heap.size A len cap p1 _ hr2 hs2 hl (by omega) (by omega)).mono ?_
  rintro e w3 ⟨b, p3, rfl, hr3, hg3⟩
  have hs3 := hs2.keep hg3 (Nat.le_of_lt hr2.lt)
  have hg3 := only_trans hg2 hg3
  cases b
  · go_wp2_with fail
    refine (hurt_any s w.heap.size A len cap p3 _ hr3 hs3 hl (by omega)).mono ?_
    rintro e w4 ⟨t, p4, ht, rfl, hr4, hg4⟩
    go_wp2_with fail
    go_ret
    exact ⟨t, ht, rfl, hb0.grown (only_trans hg3 hg4) hb0.size (fun k h => by cases h; exact Nat.le_refl _)⟩
  · go_wp2_with fail
    go_ret
    exact ⟨s, by omega, rfl, hb0.grown hg3 hb0.size (fun k h => by cases h; exact Nat.le_refl _)⟩
end Go.Proofs.Ythmoddohkchhfaa
