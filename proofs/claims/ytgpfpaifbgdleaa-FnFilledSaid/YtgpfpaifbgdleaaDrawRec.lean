/-
  A drawn record, whatever it is.
-/
import Derived.Test.YtgpfpaifbgdleaaMid
import Derived.Deep.Cut
import Derived.Deep.CutBlock
import Derived.Deep.DeepCutAuto
namespace Go.Proofs.Ytgpfpaifbgdleaa
open Go.RowKit Wire

set_option maxHeartbeats 3200000 in
set_option maxRecDepth 100000 in
theorem rec_any (g : Nat) (A : Option Addr) (len cap p : Nat) (w : World) (hr : RdAt w g A len cap p) (hs : Src w g A len) (hl : len ≤ 9223372036854775807) :
    Calls Try.prog 76 #[.pointer (some ⟨g, 0, none⟩)] w (Drawn8 w g A len cap) := by
  go_enter Try.func76, Try.ntmps76
  go_wp2_with fail
  have hr0 : RdAt (w.alloc (.cells #[.int .i64 0, .int .i64 0, .int .i64 0, .int .i64 0, .int .i64 0, .int .i64 0, .int .i64 0, .int .i64 0] 69)) g A len cap p := ⟨hr.1, (Below.heap_alloc w _ g hr.lt).trans hr.2⟩
  have hs0 : Src (w.alloc (.cells #[.int .i64 0, .int .i64 0, .int .i64 0, .int .i64 0, .int .i64 0, .int .i64 0, .int .i64 0, .int .i64 0] 69)) g A len := hs.keep (only_alloc (World.grownBy.refl _ _) _) (Nat.le_of_lt hr.lt)
  have hg0 : w.grownBy (w.alloc (.cells #[.int .i64 0, .int .i64 0, .int .i64 0, .int .i64 0, .int .i64 0, .int .i64 0, .int .i64 0, .int .i64 0] 69)) (some g) := only_alloc (World.grownBy.refl _ _) _
  have hz0 : Ns (w.alloc (.cells #[.int .i64 0, .int .i64 0, .int .i64 0, .int .i64 0, .int .i64 0, .int .i64 0, .int .i64 0, .int .i64 0] 69)) w.heap.size 69 8 := Ns.new w _ (eight 0 0 0 0 0 0 0 0) (eight_i64 (i64_small (by omega) (by omega)) (i64_small (by omega) (by omega)) (i64_small (by omega) (by omega)) (i64_small (by omega) (by omega)) (i64_small (by omega) (by omega)) (i64_small (by omega) (by omega)) (i64_small (by omega) (by omega)) (i64_small (by omega) (by omega))) _ (eight_at 0 0 0 0 0 0 0 0)
  have hlt := hr.lt
  generalize w.alloc (.cells #[.int .i64 0, .int .i64 0, .int .i64 0, .int .i64 0, .int .i64 0, .int .i64 0, .int .i64 0, .int .i64 0] 69) = w0 at *
  refine (below_any 300 g A len cap p _ hr0 hs0 hl (by omega) (by omega)).mono ?_
  rintro e w1 ⟨n0, p1, l0, u0, rfl, hr1, hg1⟩
  have hs1 := hs0.keep hg1 (Nat.le_of_lt hr0.lt)
  go_wp2_with fail
  refine (below_any 5 g A len cap p1 _ hr1 hs1 hl (by omega) (by omega)).mono ?_
  rintro e w2 ⟨n1, p2, l1, u1, rfl, hr2, hg2⟩
  have hs2 := hs1.keep hg2 (Nat.le_of_lt hr1.lt)
  go_wp2_with fail
  refine (below_any 3 g A len cap p2 _ hr2 hs2 hl (by omega) (by omega)).mono ?_
  rintro e w3 ⟨n2, p3, l2, u2, rfl, hr3, hg3⟩
  have hs3 := hs2.keep hg3 (Nat.le_of_lt hr2.lt)
  go_wp2_with fail
  refine (below_any 3 g A len cap p3 _ hr3 hs3 hl (by omega) (by omega)).mono ?_
  rintro e w4 ⟨n3, p4, l3, u3, rfl, hr4, hg4⟩
  have hs4 := hs3.keep hg4 (Nat.le_of_lt hr3.lt)
  go_wp2_with fail
  refine (below_any 14 g A len cap p4 _ hr4 hs4 hl (by omega) (by omega)).mono ?_
  rintro e w5 ⟨n4, p5, l4, u4, rfl, hr5, hg5⟩
  have hs5 := hs4.keep hg5 (Nat.le_of_lt hr4.lt)
  go_wp2_with fail
  refine (below_any 14 g A len cap p5 _ hr5 hs5 hl (by omega) (by omega)).mono ?_
  rintro e w6 ⟨n5, p6, l5, u5, rfl, hr6, hg6⟩
  have hs6 := hs5.keep hg6 (Nat.le_of_lt hr5.lt)
  go_wp2_with fail
  refine (below_any 7 g A len cap p6 _ hr6 hs6 hl (by omega) (by omega)).mono ?_
  rintro e w7 ⟨n6, p7, l6, u6, rfl, hr7, hg7⟩
  have hs7 := hs6.keep hg7 (Nat.le_of_lt hr6.lt)
  go_wp2_with fail
  refine (below_any 9 g A len cap p7 _ hr7 hs7 hl (by omega) (by omega)).mono ?_
  rintro e w8 ⟨n7, p8, l7, u7, rfl, hr8, hg8⟩
  have hs8 := hs7.keep hg8 (Nat.le_of_lt hr7.lt)
  go_wp2_with fail
  have hgw : w.grownBy w8 (some g) := only_trans hg0 (only_trans hg1 (only_trans hg2 (only_trans hg3 (only_trans hg4 (only_trans hg5 (only_trans hg6 (only_trans hg7 hg8)))))))
  have hzw : Ns w8 w.heap.size 69 8 := hz0.grown (only_trans hg1 (only_trans hg2 (only_trans hg3 (only_trans hg4 (only_trans hg5 (only_trans hg6 (only_trans hg7 hg8))))))) (by simp; omega)
  have hG12 := hzw.lt
  have hG2g := hr8.lt
  have hm8 : Mid w g A len cap 69 w.heap.size w8.heap.size (w8.alloc (.cells #[.int .i64 n0, .int .i64 (1 + n1), .int .i64 n2, .int .i64 (1 + n3), .int .i64 n4, .int .i64 n5, .int .i64 (97 + n6), .int .i64 n7] 69)) := ⟨p8, hr8.alloc _, hzw.alloc _, Ns.new w8 _ _ (eight_i64 (i64_small (by omega) (by omega)) (i64_small (by omega) (by omega)) (i64_small (by omega) (by omega)) (i64_small (by omega) (by omega)) (i64_small (by omega) (by omega)) (i64_small (by omega) (by omega)) (i64_small (by omega) (by omega)) (i64_small (by omega) (by omega))) _ (eight_at _ _ _ _ _ _ _ _), only_alloc hgw _⟩
  refine (below_any 30 g A len cap p8 _ (hr8.alloc _) (hs8.keep (only_alloc (World.grownBy.refl _ _) _) (Nat.le_of_lt hr8.lt)) hl (by omega) (by omega)).mono ?_
  rintro e w10 ⟨n8, p10, l8, u8, rfl, hr10, hg10⟩
  have hs10 : Src w10 g A len := (hs8.keep (only_alloc (World.grownBy.refl _ _) _) (Nat.le_of_lt hr8.lt)).keep hg10 (by simp; omega)
  have hm10 := hm8.step (by omega) (by omega) hr10 hg10
  clear hm8 hg10 hgw hzw hz0 hg0 hr0 hs0 hr1 hr2 hr3 hr4 hr5 hr6 hr7 hr8 hs1 hs2 hs3 hs4 hs5 hs6 hs7 hs8 hg1 hg2 hg3 hg4 hg5 hg6 hg7 hg8
  have hne12 : w.heap.size ≠ w8.heap.size := by omega
  have hneg : g ≠ w8.heap.size := by omega
  have hge : w.heap.size ≤ w8.heap.size := by omega
  generalize w8.heap.size = G at *
  go_upto_block 0 with fail
  go_cut [] (fun wx => Mid w g A len cap 69 w.heap.size G wx)
  case first =>
    obtain ⟨_, _, _, ⟨f2, hf2, hrow2⟩, _⟩ := id hm10
    rcases (show n8 = 28 ∨ n8 = 29 ∨ n8 < 28 from by omega) with rfl | rfl | h57
    · go_wp2_with fail
      refine (off_any 0 1000000 g A len cap p10 _ hr10 hs10 hl (by omega) (by omega) (by omega)).mono ?_
      rintro e w11 ⟨n9, p11, hn9, rfl, hr11, hg11⟩
      have hm11 := hm10.step (by omega) (by omega) hr11 hg11
      have hrow11 := hrow2.of_block (hg11.block G hrow2.lt (by simp; omega))
      have c5 : w11.cell? ⟨G, 6, none⟩ = some (.int .i64 (f2 6)) := hrow11.cell (by omega)
      have z5 : w11.frozen? ⟨G, 6, none⟩ = false := hrow11.frozen _
      go_wp2_with fail
      go_meet
      exact hm11.set hne12 hneg hge _ hn9
    · go_wp2_with fail
      refine (off_any 0 1000000000 g A len cap p10 _ hr10 hs10 hl (by omega) (by omega) (by omega)).mono ?_
      rintro e w11 ⟨n9, p11, hn9, rfl, hr11, hg11⟩
      have hm11 := hm10.step (by omega) (by omega) hr11 hg11
      have hrow11 := hrow2.of_block (hg11.block G hrow2.lt (by simp; omega))
      have c5 : w11.cell? ⟨G, 4, none⟩ = some (.int .i64 (f2 4)) := hrow11.cell (by omega)
      have z5 : w11.frozen? ⟨G, 4, none⟩ = false := hrow11.frozen _
      go_wp2_with fail
      go_meet
      exact hm11.set hne12 hneg hge _ hn9
    · have e0 : (n8 == 28) = false := beq_eq_false_iff_ne.2 (by omega)
      have e1 : (n8 == 29) = false := beq_eq_false_iff_ne.2 (by omega)
      go_wp2_with fail
      go_meet
      exact hm10
  case rest =>
    obtain ⟨q, hr11, ⟨f1, hf1, hrow1⟩, ⟨f2, hf2, hrow2⟩, hg11⟩ := hcut
    have c0 : wc.cell? ⟨G, 0, none⟩ = some (.int .i64 (f2 0)) := hrow2.cell (by omega)
    have d0 : wc.cell? ⟨w.heap.size, 0, none⟩ = some (.int .i64 (f1 0)) := hrow1.cell (by omega)
    have z0 : wc.frozen? ⟨w.heap.size, 0, none⟩ = false := hrow1.frozen _
    have c1 : wc.cell? ⟨G, 1, none⟩ = some (.int .i64 (f2 1)) := hrow2.cell (by omega)
    have d1 : wc.cell? ⟨w.heap.size, 1, none⟩ = some (.int .i64 (f1 1)) := hrow1.cell (by omega)
    have z1 : wc.frozen? ⟨w.heap.size, 1, none⟩ = false := hrow1.frozen _
    have c2 : wc.cell? ⟨G, 2, none⟩ = some (.int .i64 (f2 2)) := hrow2.cell (by omega)
    have d2 : wc.cell? ⟨w.heap.size, 2, none⟩ = some (.int .i64 (f1 2)) := hrow1.cell (by omega)
    have z2 : wc.frozen? ⟨w.heap.size, 2, none⟩ = false := hrow1.frozen _
    have c3 : wc.cell? ⟨G, 3, none⟩ = some (.int .i64 (f2 3)) := hrow2.cell (by omega)
    have d3 : wc.cell? ⟨w.heap.size, 3, none⟩ = some (.int .i64 (f1 3)) := hrow1.cell (by omega)
    have z3 : wc.frozen? ⟨w.heap.size, 3, none⟩ = false := hrow1.frozen _
    have c4 : wc.cell? ⟨G, 4, none⟩ = some (.int .i64 (f2 4)) := hrow2.cell (by omega)
    have d4 : wc.cell? ⟨w.heap.size, 4, none⟩ = some (.int .i64 (f1 4)) := hrow1.cell (by omega)
    have z4 : wc.frozen? ⟨w.heap.size, 4, none⟩ = false := hrow1.frozen _
    have c5 : wc.cell? ⟨G, 5, none⟩ = some (.int .i64 (f2 5)) := hrow2.cell (by omega)
    have d5 : wc.cell? ⟨w.heap.size, 5, none⟩ = some (.int .i64 (f1 5)) := hrow1.cell (by omega)
    have z5 : wc.frozen? ⟨w.heap.size, 5, none⟩ = false := hrow1.frozen _
    have c6 : wc.cell? ⟨G, 6, none⟩ = some (.int .i64 (f2 6)) := hrow2.cell (by omega)
    have d6 : wc.cell? ⟨w.heap.size, 6, none⟩ = some (.int .i64 (f1 6)) := hrow1.cell (by omega)
    have z6 : wc.frozen? ⟨w.heap.size, 6, none⟩ = false := hrow1.frozen _
    have c7 : wc.cell? ⟨G, 7, none⟩ = some (.int .i64 (f2 7)) := hrow2.cell (by omega)
    have d7 : wc.cell? ⟨w.heap.size, 7, none⟩ = some (.int .i64 (f1 7)) := hrow1.cell (by omega)
    have z7 : wc.frozen? ⟨w.heap.size, 7, none⟩ = false := hrow1.frozen _
    go_wp2_with fail
    refine bodyPost_ret (v := .agg #[.int .i64 (f2 0), .int .i64 (f2 1), .int .i64 (f2 2), .int .i64 (f2 3), .int .i64 (f2 4), .int .i64 (f2 5), .int .i64 (f2 6), .int .i64 (f2 7)]) (by simp [results, Try.results76, go_sem, d0, d1, d2, d3, d4, d5, d6, d7]) rfl ⟨f2, q, hf2, rfl, ?_, ?_⟩
    · repeat (refine RdAt.setCell ?_ (by simp; omega) _)
      exact hr11
    · repeat (refine only_setCell ?_ (.inr (by simp)) _)
      exact hg11
end Go.Proofs.Ytgpfpaifbgdleaa
