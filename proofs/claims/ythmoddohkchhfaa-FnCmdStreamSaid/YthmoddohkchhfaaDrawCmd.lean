/-
  A drawn command, whatever it is.
-/
import Derived.Test.YthmoddohkchhfaaMid
import Derived.Deep.Cut
import Derived.Deep.CutBlock
import Derived.Deep.RegionWith
import Derived.Deep.DeepCutAuto
namespace Go.Proofs.Ythmoddohkchhfaa
open Go.RowKit Wire

set_option maxHeartbeats 3200000 in
set_option maxRecDepth 100000 in
theorem cmd_any (g : Nat) (A : Option Addr) (len cap p : Nat) (w : World) (hr : RdAt w g A len cap p) (hs : Src w g A len) (hl : len ≤ 9223372036854775807) :
    Calls Try.prog 70 #[.pointer (some ⟨g, 0, none⟩)] w (Drawn8 w g A len cap) := by
  go_enter Try.func70, Try.ntmps70
  go_wp2_with fail
  have hr0 : RdAt (w.alloc (.cells #[.int .i64 0, .int .i64 0, .int .i64 0, .int .i64 0, .int .i64 0, .int .i64 0, .int .i64 0, .int .i64 0] 25)) g A len cap p := ⟨hr.1, (Below.heap_alloc w _ g hr.lt).trans hr.2⟩
  have hs0 : Src (w.alloc (.cells #[.int .i64 0, .int .i64 0, .int .i64 0, .int .i64 0, .int .i64 0, .int .i64 0, .int .i64 0, .int .i64 0] 25)) g A len := hs.keep (only_alloc (World.grownBy.refl _ _) _) (Nat.le_of_lt hr.lt)
  have hg0 : w.grownBy (w.alloc (.cells #[.int .i64 0, .int .i64 0, .int .i64 0, .int .i64 0, .int .i64 0, .int .i64 0, .int .i64 0, .int .i64 0] 25)) (some g) := only_alloc (World.grownBy.refl _ _) _
  have hz0 : Ns (w.alloc (.cells #[.int .i64 0, .int .i64 0, .int .i64 0, .int .i64 0, .int .i64 0, .int .i64 0, .int .i64 0, .int .i64 0] 25)) w.heap.size 25 8 := Ns.new w _ (eight 0 0 0 0 0 0 0 0) (eight_i64 (i64_small (by omega) (by omega)) (i64_small (by omega) (by omega)) (i64_small (by omega) (by omega)) (i64_small (by omega) (by omega)) (i64_small (by omega) (by omega)) (i64_small (by omega) (by omega)) (i64_small (by omega) (by omega)) (i64_small (by omega) (by omega))) _ (eight_at 0 0 0 0 0 0 0 0)
  have hlt := hr.lt
  generalize w.alloc (.cells #[.int .i64 0, .int .i64 0, .int .i64 0, .int .i64 0, .int .i64 0, .int .i64 0, .int .i64 0, .int .i64 0] 25) = w0 at *
  refine (below_any 3 g A len cap p _ hr0 hs0 hl (by omega) (by omega)).mono ?_
  rintro e w1 ⟨n0, p1, l0, u0, rfl, hr1, hg1⟩
  have hs1 := hs0.keep hg1 (Nat.le_of_lt hr0.lt)
  go_wp2_with fail
  refine (below_any 3 g A len cap p1 _ hr1 hs1 hl (by omega) (by omega)).mono ?_
  rintro e w2 ⟨n1, p2, l1, u1, rfl, hr2, hg2⟩
  have hs2 := hs1.keep hg2 (Nat.le_of_lt hr1.lt)
  go_wp2_with fail
  refine (below_any 14 g A len cap p2 _ hr2 hs2 hl (by omega) (by omega)).mono ?_
  rintro e w3 ⟨n2, p3, l2, u2, rfl, hr3, hg3⟩
  have hs3 := hs2.keep hg3 (Nat.le_of_lt hr2.lt)
  go_wp2_with fail
  refine (below_any 2 g A len cap p3 _ hr3 hs3 hl (by omega) (by omega)).mono ?_
  rintro e w4 ⟨n3, p4, l3, u3, rfl, hr4, hg4⟩
  have hs4 := hs3.keep hg4 (Nat.le_of_lt hr3.lt)
  go_wp2_with fail
  refine (below_any 7 g A len cap p4 _ hr4 hs4 hl (by omega) (by omega)).mono ?_
  rintro e w5 ⟨n4, p5, l4, u4, rfl, hr5, hg5⟩
  have hs5 := hs4.keep hg5 (Nat.le_of_lt hr4.lt)
  go_wp2_with fail
  refine (below_any 9 g A len cap p5 _ hr5 hs5 hl (by omega) (by omega)).mono ?_
  rintro e w6 ⟨n5, p6, l5, u5, rfl, hr6, hg6⟩
  have hs6 := hs5.keep hg6 (Nat.le_of_lt hr5.lt)
  go_wp2_with fail
  refine (below_any 3 g A len cap p6 _ hr6 hs6 hl (by omega) (by omega)).mono ?_
  rintro e w7 ⟨n6, p7, l6, u6, rfl, hr7, hg7⟩
  have hs7 := hs6.keep hg7 (Nat.le_of_lt hr6.lt)
  go_wp2_with fail
  have hgw : w.grownBy w7 (some g) := only_trans hg0 (only_trans hg1 (only_trans hg2 (only_trans hg3 (only_trans hg4 (only_trans hg5 (only_trans hg6 hg7))))))
  have hzw : Ns w7 w.heap.size 25 8 := hz0.grown (only_trans hg1 (only_trans hg2 (only_trans hg3 (only_trans hg4 (only_trans hg5 (only_trans hg6 hg7)))))) (by simp; omega)
  have hG12 := hzw.lt
  have hG2g := hr7.lt
  have hm7 : Mid w g A len cap 25 w.heap.size w7.heap.size (w7.alloc (.cells #[.int .i64 1, .int .i64 n0, .int .i64 (1 + n1), .int .i64 (1 + n2), .int .i64 (1 + n3), .int .i64 (97 + n4), .int .i64 (1 + n5), .int .i64 (1 + n6)] 25)) := ⟨p7, hr7.alloc _, hzw.alloc _, Ns.new w7 _ _ (eight_i64 (i64_small (by omega) (by omega)) (i64_small (by omega) (by omega)) (i64_small (by omega) (by omega)) (i64_small (by omega) (by omega)) (i64_small (by omega) (by omega)) (i64_small (by omega) (by omega)) (i64_small (by omega) (by omega)) (i64_small (by omega) (by omega))) _ (eight_at _ _ _ _ _ _ _ _), only_alloc hgw _⟩
  refine (below_any 12 g A len cap p7 _ (hr7.alloc _) (hs7.keep (only_alloc (World.grownBy.refl _ _) _) (Nat.le_of_lt hr7.lt)) hl (by omega) (by omega)).mono ?_
  rintro e w8 ⟨n7, p8, l7, u7, rfl, hr8, hg8⟩
  have hs8 : Src w8 g A len := (hs7.keep (only_alloc (World.grownBy.refl _ _) _) (Nat.le_of_lt hr7.lt)).keep hg8 (by simp; omega)
  have hm8 := hm7.step (by omega) (by omega) hr8 hg8
  clear hm7 hg8 hgw hzw hz0 hg0 hr0 hs0 hr1 hr2 hr3 hr4 hr5 hr6 hr7 hs1 hs2 hs3 hs4 hs5 hs6 hs7 hg1 hg2 hg3 hg4 hg5 hg6 hg7
  have hne12 : w.heap.size ≠ w7.heap.size := by omega
  have hneg : g ≠ w7.heap.size := by omega
  have hge : w.heap.size ≤ w7.heap.size := by omega
  generalize w7.heap.size = G at *
  go_upto_block 0 with fail
  go_cut [] (fun wx => Mid w g A len cap 25 w.heap.size G wx)
  case first =>
    obtain ⟨q8, _, _, ⟨f2, hf2, hrow2⟩, _⟩ := id hm8
    have cw80 : w8.cell? ⟨G, 0, none⟩ = some (.int .i64 (f2 0)) := hrow2.cell (by omega)
    have zw80 : w8.frozen? ⟨G, 0, none⟩ = false := hrow2.frozen _
    have cw81 : w8.cell? ⟨G, 1, none⟩ = some (.int .i64 (f2 1)) := hrow2.cell (by omega)
    have zw81 : w8.frozen? ⟨G, 1, none⟩ = false := hrow2.frozen _
    have cw82 : w8.cell? ⟨G, 2, none⟩ = some (.int .i64 (f2 2)) := hrow2.cell (by omega)
    have zw82 : w8.frozen? ⟨G, 2, none⟩ = false := hrow2.frozen _
    have cw83 : w8.cell? ⟨G, 3, none⟩ = some (.int .i64 (f2 3)) := hrow2.cell (by omega)
    have zw83 : w8.frozen? ⟨G, 3, none⟩ = false := hrow2.frozen _
    have cw84 : w8.cell? ⟨G, 4, none⟩ = some (.int .i64 (f2 4)) := hrow2.cell (by omega)
    have zw84 : w8.frozen? ⟨G, 4, none⟩ = false := hrow2.frozen _
    have cw85 : w8.cell? ⟨G, 5, none⟩ = some (.int .i64 (f2 5)) := hrow2.cell (by omega)
    have zw85 : w8.frozen? ⟨G, 5, none⟩ = false := hrow2.frozen _
    have cw86 : w8.cell? ⟨G, 6, none⟩ = some (.int .i64 (f2 6)) := hrow2.cell (by omega)
    have zw86 : w8.frozen? ⟨G, 6, none⟩ = false := hrow2.frozen _
    have cw87 : w8.cell? ⟨G, 7, none⟩ = some (.int .i64 (f2 7)) := hrow2.cell (by omega)
    have zw87 : w8.frozen? ⟨G, 7, none⟩ = false := hrow2.frozen _
    rcases (show n7 = 0 ∨ n7 = 1 ∨ n7 = 2 ∨ n7 = 3 ∨ n7 = 4 ∨ n7 = 5 ∨ n7 = 6 ∨ 7 ≤ n7 from by omega) with rfl | rfl | rfl | rfl | rfl | rfl | rfl | h7
    iterate 6
      (go_wp2_with fail
       go_meet
       (repeat (refine Mid.set ?_ hne12 hneg hge _ (by first | exact hf2 _ | exact i64_small (by omega) (by omega))))
       exact hm8)
    · go_wp2_with fail
      refine (once_any 2 g A len cap p8 _ hr8 hs8 hl (by omega) (by omega)).mono ?_
      rintro e w9 ⟨b, p9, rfl, hr9, hg9⟩
      have hs9 := hs8.keep hg9 (Nat.le_of_lt hr8.lt)
      have hm9 := hm8.step (by omega) (by omega) hr9 hg9
      have hrow9 := hrow2.of_block (hg9.block G hrow2.lt (by simp; omega))
      clear cw80 zw80
      clear cw81 zw81
      clear cw82 zw82
      clear cw83 zw83
      clear cw84 zw84
      clear cw85 zw85
      clear cw86 zw86
      clear cw87 zw87
      have cw90 : w9.cell? ⟨G, 0, none⟩ = some (.int .i64 (f2 0)) := hrow9.cell (by omega)
      have zw90 : w9.frozen? ⟨G, 0, none⟩ = false := hrow9.frozen _
      have cw91 : w9.cell? ⟨G, 1, none⟩ = some (.int .i64 (f2 1)) := hrow9.cell (by omega)
      have zw91 : w9.frozen? ⟨G, 1, none⟩ = false := hrow9.frozen _
      have cw92 : w9.cell? ⟨G, 2, none⟩ = some (.int .i64 (f2 2)) := hrow9.cell (by omega)
      have zw92 : w9.frozen? ⟨G, 2, none⟩ = false := hrow9.frozen _
      have cw93 : w9.cell? ⟨G, 3, none⟩ = some (.int .i64 (f2 3)) := hrow9.cell (by omega)
      have zw93 : w9.frozen? ⟨G, 3, none⟩ = false := hrow9.frozen _
      have cw94 : w9.cell? ⟨G, 4, none⟩ = some (.int .i64 (f2 4)) := hrow9.cell (by omega)
      have zw94 : w9.frozen? ⟨G, 4, none⟩ = false := hrow9.frozen _
      have cw95 : w9.cell? ⟨G, 5, none⟩ = some (.int .i64 (f2 5)) := hrow9.cell (by omega)
      have zw95 : w9.frozen? ⟨G, 5, none⟩ = false := hrow9.frozen _
      have cw96 : w9.cell? ⟨G, 6, none⟩ = some (.int .i64 (f2 6)) := hrow9.cell (by omega)
      have zw96 : w9.frozen? ⟨G, 6, none⟩ = false := hrow9.frozen _
      have cw97 : w9.cell? ⟨G, 7, none⟩ = some (.int .i64 (f2 7)) := hrow9.cell (by omega)
      have zw97 : w9.frozen? ⟨G, 7, none⟩ = false := hrow9.frozen _
      clear hg9 hrow2 hm8 hr8 hs8
      cases b
      · go_wp2_with fail
        go_meet
        exact hm9
      · go_wp2_with fail
        go_region_with ((go_at_call 71; refine (below_any 3 g A len cap p9 _ (by exact hr9) (by exact hs9) hl (by omega) (by omega)).mono ?_; rintro e w10 ⟨n10, p10, l10, u10, rfl, hr10, hg10x⟩; have hg10 : w9.grownBy w10 (some g) := ⟨hg10x.os, hg10x.tape, hg10x.output, hg10x.size, hg10x.block⟩; clear hg10x; have hm10 := hm9.step (by omega) (by omega) hr10 hg10; have hrow10 := hrow9.of_block (hg10.block G hrow9.lt (by simp; omega)); have cw100 : w10.cell? ⟨G, 0, none⟩ = some (.int .i64 (f2 0)) := hrow10.cell (by omega); have zw100 : w10.frozen? ⟨G, 0, none⟩ = false := hrow10.frozen _; have cw101 : w10.cell? ⟨G, 1, none⟩ = some (.int .i64 (f2 1)) := hrow10.cell (by omega); have zw101 : w10.frozen? ⟨G, 1, none⟩ = false := hrow10.frozen _; have cw102 : w10.cell? ⟨G, 2, none⟩ = some (.int .i64 (f2 2)) := hrow10.cell (by omega); have zw102 : w10.frozen? ⟨G, 2, none⟩ = false := hrow10.frozen _; have cw103 : w10.cell? ⟨G, 3, none⟩ = some (.int .i64 (f2 3)) := hrow10.cell (by omega); have zw103 : w10.frozen? ⟨G, 3, none⟩ = false := hrow10.frozen _; have cw104 : w10.cell? ⟨G, 4, none⟩ = some (.int .i64 (f2 4)) := hrow10.cell (by omega); have zw104 : w10.frozen? ⟨G, 4, none⟩ = false := hrow10.frozen _; have cw105 : w10.cell? ⟨G, 5, none⟩ = some (.int .i64 (f2 5)) := hrow10.cell (by omega); have zw105 : w10.frozen? ⟨G, 5, none⟩ = false := hrow10.frozen _; have cw106 : w10.cell? ⟨G, 6, none⟩ = some (.int .i64 (f2 6)) := hrow10.cell (by omega); have zw106 : w10.frozen? ⟨G, 6, none⟩ = false := hrow10.frozen _; have cw107 : w10.cell? ⟨G, 7, none⟩ = some (.int .i64 (f2 7)) := hrow10.cell (by omega); have zw107 : w10.frozen? ⟨G, 7, none⟩ = false := hrow10.frozen _; clear hrow10 hg10 hr10))
        all_goals
          go_wp2_with fail
          go_meet
          repeat (refine Mid.set ?_ hne12 hneg hge _ (by first | exact i64_wrap _ | exact hf2 _ | exact i64_small (by omega) (by omega)))
          first | exact hm10 | exact hm10.drewN _
    · have e0 : (n7 == 0) = false := beq_eq_false_iff_ne.2 (by omega)
      have e1 : (n7 == 1) = false := beq_eq_false_iff_ne.2 (by omega)
      have e2 : (n7 == 2) = false := beq_eq_false_iff_ne.2 (by omega)
      have e3 : (n7 == 3) = false := beq_eq_false_iff_ne.2 (by omega)
      have e4 : (n7 == 4) = false := beq_eq_false_iff_ne.2 (by omega)
      have e5 : (n7 == 5) = false := beq_eq_false_iff_ne.2 (by omega)
      have e6 : (n7 == 6) = false := beq_eq_false_iff_ne.2 (by omega)
      go_wp2_with fail
      go_meet
      exact hm8
  case rest =>
    clear hs8 hr8 hm8
    obtain ⟨q, hr9, hz9, hc9, hg9⟩ := id hcut
    have hs9 : Src wc g A len := hs.keep hg9 (Nat.le_of_lt hlt)
    go_wp2_with fail
    refine (below_any 60 g A len cap q _ hr9 hs9 hl (by omega) (by omega)).mono ?_
    rintro e w10 ⟨n8, p10, l8, u8, rfl, hr10, hg10⟩
    have hm10 := Mid.step hcut (by omega) (by omega) hr10 hg10
    have hs10 := hs9.keep hg10 (Nat.le_of_lt hr9.lt)
    clear hcut hr9 hz9 hc9 hg9 hs9 hg10
    go_upto_block 1 with fail
    go_cut [] (fun wx => Mid w g A len cap 25 w.heap.size G wx)
    case first =>
      obtain ⟨_, _, _, ⟨f2, hf2, hrow2⟩, _⟩ := id hm10
      rcases (show n8 = 57 ∨ n8 = 58 ∨ n8 = 59 ∨ n8 < 57 from by omega) with rfl | rfl | rfl | h57
      · go_wp2_with fail
        refine (off_any 1 1000000 g A len cap p10 _ hr10 hs10 hl (by omega) (by omega) (by omega)).mono ?_
        rintro e w11 ⟨n9, p11, hn9, rfl, hr11, hg11⟩
        have hm11 := hm10.step (by omega) (by omega) hr11 hg11
        have hrow11 := hrow2.of_block (hg11.block G hrow2.lt (by simp; omega))
        have c5 : w11.cell? ⟨G, 5, none⟩ = some (.int .i64 (f2 5)) := hrow11.cell (by omega)
        have z5 : w11.frozen? ⟨G, 5, none⟩ = false := hrow11.frozen _
        go_wp2_with fail
        go_meet
        exact hm11.set hne12 hneg hge _ hn9
      · go_wp2_with fail
        refine (off_any 1 1000000 g A len cap p10 _ hr10 hs10 hl (by omega) (by omega) (by omega)).mono ?_
        rintro e w11 ⟨n9, p11, hn9, rfl, hr11, hg11⟩
        have hm11 := hm10.step (by omega) (by omega) hr11 hg11
        have hrow11 := hrow2.of_block (hg11.block G hrow2.lt (by simp; omega))
        have c6 : w11.cell? ⟨G, 6, none⟩ = some (.int .i64 (f2 6)) := hrow11.cell (by omega)
        have z6 : w11.frozen? ⟨G, 6, none⟩ = false := hrow11.frozen _
        go_wp2_with fail
        go_meet
        exact hm11.set hne12 hneg hge _ hn9
      · go_wp2_with fail
        refine (off_any 0 3 g A len cap p10 _ hr10 hs10 hl (by omega) (by omega) (by omega)).mono ?_
        rintro e w11 ⟨n9, p11, hn9, rfl, hr11, hg11⟩
        have hm11 := hm10.step (by omega) (by omega) hr11 hg11
        have hrow11 := hrow2.of_block (hg11.block G hrow2.lt (by simp; omega))
        have c1 : w11.cell? ⟨G, 1, none⟩ = some (.int .i64 (f2 1)) := hrow11.cell (by omega)
        have z1 : w11.frozen? ⟨G, 1, none⟩ = false := hrow11.frozen _
        go_wp2_with fail
        go_meet
        exact hm11.set hne12 hneg hge _ hn9
      · have e0 : (n8 == 57) = false := beq_eq_false_iff_ne.2 (by omega)
        have e1 : (n8 == 58) = false := beq_eq_false_iff_ne.2 (by omega)
        have e2 : (n8 == 59) = false := beq_eq_false_iff_ne.2 (by omega)
        go_wp2_with fail
        go_meet
        exact hm10
    case rest =>
      obtain ⟨q, hr11, ⟨f1, hf1, hrow1⟩, ⟨f2, hf2, hrow2⟩, hg11⟩ := hcut
      have c0 : wc.cell? ⟨G, 0, none⟩ = some (.int .i64 (f2 0)) := hrow2.cell (by omega)
      have d0 : wc.cell? ⟨w.heap.size, 0, none⟩ = some (.int .i64 (f1 0)) := hrow1.cell (by omega)
      have z0 : wc.frozen? ⟨w.heap.size, 0, none⟩ = false := hrow1.frozen _
      have c1 : wc.cell? ⟨G, 1, none⟩ = some (.int .i64 (f2 1)) := hrow2.cell (by omega)
      have d1 : wc.cell? ⟨w.heap.size, 1, none⟩ = some (.int .i64 (f1 1)) := hrow1.cell (by omega)
      have z1 : wc.frozen? ⟨w.heap.size, 1, none⟩ = false := hrow1.frozen _
      have c2 : wc.cell? ⟨G, 2, none⟩ = some (.int .i64 (f2 2)) := hrow2.cell (by omega)
      have d2 : wc.cell? ⟨w.heap.size, 2, none⟩ = some (.int .i64 (f1 2)) := hrow1.cell (by omega)
      have z2 : wc.frozen? ⟨w.heap.size, 2, none⟩ = false := hrow1.frozen _
      have c3 : wc.cell? ⟨G, 3, none⟩ = some (.int .i64 (f2 3)) := hrow2.cell (by omega)
      have d3 : wc.cell? ⟨w.heap.size, 3, none⟩ = some (.int .i64 (f1 3)) := hrow1.cell (by omega)
      have z3 : wc.frozen? ⟨w.heap.size, 3, none⟩ = false := hrow1.frozen _
      have c4 : wc.cell? ⟨G, 4, none⟩ = some (.int .i64 (f2 4)) := hrow2.cell (by omega)
      have d4 : wc.cell? ⟨w.heap.size, 4, none⟩ = some (.int .i64 (f1 4)) := hrow1.cell (by omega)
      have z4 : wc.frozen? ⟨w.heap.size, 4, none⟩ = false := hrow1.frozen _
      have c5 : wc.cell? ⟨G, 5, none⟩ = some (.int .i64 (f2 5)) := hrow2.cell (by omega)
      have d5 : wc.cell? ⟨w.heap.size, 5, none⟩ = some (.int .i64 (f1 5)) := hrow1.cell (by omega)
      have z5 : wc.frozen? ⟨w.heap.size, 5, none⟩ = false := hrow1.frozen _
      have c6 : wc.cell? ⟨G, 6, none⟩ = some (.int .i64 (f2 6)) := hrow2.cell (by omega)
      have d6 : wc.cell? ⟨w.heap.size, 6, none⟩ = some (.int .i64 (f1 6)) := hrow1.cell (by omega)
      have z6 : wc.frozen? ⟨w.heap.size, 6, none⟩ = false := hrow1.frozen _
      have c7 : wc.cell? ⟨G, 7, none⟩ = some (.int .i64 (f2 7)) := hrow2.cell (by omega)
      have d7 : wc.cell? ⟨w.heap.size, 7, none⟩ = some (.int .i64 (f1 7)) := hrow1.cell (by omega)
      have z7 : wc.frozen? ⟨w.heap.size, 7, none⟩ = false := hrow1.frozen _
      go_wp2_with fail
      refine bodyPost_ret (v := .agg #[.int .i64 (f2 0), .int .i64 (f2 1), .int .i64 (f2 2), .int .i64 (f2 3), .int .i64 (f2 4), .int .i64 (f2 5), .int .i64 (f2 6), .int .i64 (f2 7)]) (by simp [results, Try.results70, go_sem, d0, d1, d2, d3, d4, d5, d6, d7]) rfl ⟨f2, q, hf2, rfl, ?_, ?_⟩
      · repeat (refine RdAt.setCell ?_ (by simp; omega) _)
        exact hr11
      · repeat (refine only_setCell ?_ (.inr (by simp)) _)
        exact hg11
end Go.Proofs.Ythmoddohkchhfaa
