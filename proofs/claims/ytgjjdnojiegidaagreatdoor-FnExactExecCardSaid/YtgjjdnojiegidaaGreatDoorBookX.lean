/-
 Which books are right: the program's functions.
-/
import Derived.Test.YtgjjdnojiegidaaGreatDoorTak
import Derived.Test.YtgjjdnojiegidaaGreatDoorBookW
import Derived.Test.YtgjjdnojiegidaaGreatDoorHA
import Derived.Maps.OwnOps
namespace Go.Proofs.YtgjjdnojiegidaaGreatDoor
open Go.RowKit Wire
set_option maxHeartbeats 1600000
set_option maxRecDepth 100000
set_option linter.unusedSimpArgs false
open Go.Maps (Keyed int_keyed)
set_option maxHeartbeats 1600000
set_option maxRecDepth 100000
set_option linter.unusedSimpArgs false

theorem add0 (g j : Nat) : (⟨g, 0, none⟩ : Addr).add j = ⟨g, j, none⟩ := by
 unfold Addr.add
 split <;> simp_all
theorem impl_isSorted (X S L n : Nat) (side : Int) (zs : List Int) (v : Value) (gs : Nat → Nat) (w : World) (hop : Opened w X S L 2 106 101 (.func (.func 77) #[] #[.pointer (some ⟨S, 0, none⟩)]) side zs n v gs) (hcp : Copies w X S L 65 zs n v gs) (hn : n ≤ 1048576) :
 Calls Tryz.prog 73 #[.pointer (some ⟨L, 0, none⟩)] w fun e w' => e = .returned (.bool (srtO side zs n)) ∧ Below w.heap.size w w' := by
 rcases Nat.eq_zero_or_pos n with rfl | hpos
 · have cL := cell_of_row w L 0 _ _ (0, 0) hop.list
   simp at cL
   obtain ⟨A1, d1, rfl, _, _⟩ := oSl hop.own
   go_enter Tryz.func73, Tryz.ntmps73
   go_wp2_with fail
   go_loopw [3] (fun i wr => i = .int .i64 1 ∧ wr = w) (fun _ _ => 0)
   case atStart => exact ⟨rfl, by first | trivial | rfl⟩
   case round =>
    obtain ⟨rfl, rfl⟩ := hrel
    go_wp2_with fail
    go_ret
    exact ⟨rfl, Below.refl _ _⟩
 · obtain ⟨g, cap, rfl, _, _⟩ := hop.own.form hpos
   go_enter Tryz.func73, Tryz.ntmps73
   go_wp2_with fail
   go_loopw [3] (fun i wr => ∃ k : Nat, k + 1 ≤ n ∧ i = .int .i64 ((k : Int) + 1) ∧ srtO side zs (k + 1) = true ∧ Below w.heap.size w wr) (fun i _ => n - (intOf i).toNat)
   case atStart => exact ⟨0, hpos, rfl, rfl, Below.refl _ _⟩
   case round =>
    obtain ⟨k, hk, rfl, hsrt, hbel⟩ := hrel
    have hopr := hop.below hbel
    have hcpr := hcp.below hbel
    have hbsz := hbel.size
    have cL := cell_of_row wr L 0 _ _ (0, 0) hopr.list
    have cF := cell_of_row wr L 1 _ _ (0, 0) hopr.list
    have cS := cell_of_row wr S 0 _ _ (0, 0) hopr.side
    simp at cL cF cS
    by_cases hlt : k + 1 < n
    · have p0 := hopr.own.cells (g := g) rfl k _ (ptrs_at gs n k (by omega))
      have p1 := hopr.own.cells (g := g) rfl (k + 1) _ (ptrs_at gs n (k + 1) hlt)
      have q0 : wr.cell? ⟨gs k, 2, none⟩ = some (.int .i64 (price zs k)) := (hcpr k (by omega)).2.2.2.2.cell (i := 2) (by omega)
      have q1 : wr.cell? ⟨gs (k + 1), 2, none⟩ = some (.int .i64 (price zs (k + 1))) := (hcpr (k + 1) hlt).2.2.2.2.cell (i := 2) (by omega)
      have e0 : (⟨g, 0, none⟩ : Addr).add k = ⟨g, k, none⟩ := add0 g _
      have e1 : (⟨g, 0, none⟩ : Addr).add (k + 1) = ⟨g, k + 1, none⟩ := add0 g _
      rw [e0] at p0
      rw [e1] at p1
      have HS := Lib.hid hsrt
      have HB := Lib.hid hbel
      have hcap := (oSl hopr.own)
      clear e0 e1 hop hcp hopr hcpr hsrt hbel
      have b0 : (0 : Int) ≤ (k : Int) := by omega
      have b1 : (k : Int) < (n : Int) := by omega
      have b2 : (k : Int) + 1 < (n : Int) := by omega
      have b3 : k < n := by omega
      have b4 : (0 : Int) ≤ (k : Int) + 1 := by omega
      have b5 : (k : Int) + 1 - 1 = (k : Int) := by omega
      have b6 : IntKind.i64.wrap ((k : Int) + 1 - 1) = (k : Int) := by rw [IntKind.wrap_i64]; omega
      have b7 : IntKind.i64.wrap (k : Int) = (k : Int) := by rw [IntKind.wrap_i64]; omega
      rcases Bool.eq_false_or_eq_true (betB side (price zs (k + 1)) (price zs k)) with hbt | hbt
      · have HT := Lib.hid hbt
        go_upto_region 4 with fail
        go_region_held3 (fun w' => Below wr.heap.size wr w' ∧ w'.cell? ⟨L, 0, none⟩ = some (.slice (some ⟨g, 0, none⟩) n cap) ∧ w'.cell? ⟨L, 1, none⟩ = some (.func (.func 77) #[] #[.pointer (some ⟨S, 0, none⟩)]) ∧ w'.cell? ⟨g, k, none⟩ = some (.pointer (some ⟨gs k, 0, none⟩)) ∧ w'.cell? ⟨g, k + 1, none⟩ = some (.pointer (some ⟨gs (k + 1), 0, none⟩)) ∧ w'.cell? ⟨S, 0, none⟩ = some (.int .i64 side) ∧ w'.cell? ⟨gs k, 2, none⟩ = some (.int .i64 (price zs k)) ∧ w'.cell? ⟨gs (k + 1), 2, none⟩ = some (.int .i64 (price zs (k + 1)))) (exact kp1)
         ((go_at_call 77; refine (impl_worse (gs k) (gs (k + 1)) S side (price zs k) (price zs (k + 1)) _ (by simp only [*]) (by simp only [*]) (by simp only [*])).mono ?_; rw [hbt]; rintro e w' ⟨rfl, hb⟩))
        rename_i wz hSz
        have hBz := hSz.1
        clear hSz
        have hno := srtO_no (side := side) (zs := zs) (k := k + 1) (by omega) HT.out n hlt
        have hBf := HB.out.trans (hBz.mono HB.out.size)
        have HN := Lib.hid hno
        clear hno hBz
        go_wp2_with fail
        go_ret
        exact ⟨by rw [HN.out]; rfl, hBf⟩
      · have HT := Lib.hid hbt
        go_upto_region 4 with fail
        go_region_held3 (fun w' => Below wr.heap.size wr w' ∧ w'.cell? ⟨L, 0, none⟩ = some (.slice (some ⟨g, 0, none⟩) n cap) ∧ w'.cell? ⟨L, 1, none⟩ = some (.func (.func 77) #[] #[.pointer (some ⟨S, 0, none⟩)]) ∧ w'.cell? ⟨g, k, none⟩ = some (.pointer (some ⟨gs k, 0, none⟩)) ∧ w'.cell? ⟨g, k + 1, none⟩ = some (.pointer (some ⟨gs (k + 1), 0, none⟩)) ∧ w'.cell? ⟨S, 0, none⟩ = some (.int .i64 side) ∧ w'.cell? ⟨gs k, 2, none⟩ = some (.int .i64 (price zs k)) ∧ w'.cell? ⟨gs (k + 1), 2, none⟩ = some (.int .i64 (price zs (k + 1)))) (exact kp1)
         ((go_at_call 77; refine (impl_worse (gs k) (gs (k + 1)) S side (price zs k) (price zs (k + 1)) _ (by simp only [*]) (by simp only [*]) (by simp only [*])).mono ?_; rw [hbt]; rintro e w' ⟨rfl, hb⟩))
        rename_i wz hSz
        have hBz := hSz.1
        clear hSz
        have hBf := HB.out.trans (hBz.mono HB.out.size)
        clear hBz
        go_wp2_with fail
        go_roundw
        case rel => exact ⟨k + 1, by omega, by go_num, srtO_step HS.out (.inr HT.out), hBf⟩
        case measure => simp [intOf]; omega
    · obtain rfl : k + 1 = n := by omega
      have HS := Lib.hid hsrt
      clear hsrt
      go_wp2_with fail
      go_ret
      exact ⟨by rw [HS.out]; rfl, hbel⟩
theorem impl_ordersOk (A : Option Addr) (n c : Nat) (zs : List Int) (side : Int) (w : World) (hl : Lst w w.heap.size 4 A n zs) (hn : n ≤ 1048576) :
 Calls Tryz.prog 47 #[.slice A n c, .int .i64 side] w fun e w' => e = .returned (.bool (sideB side zs n)) ∧ Below w.heap.size w w' := by
 by_cases h20 : 20 < n
 · have t0 : decide (20 < (n : Int)) = true := decide_eq_true (by omega)
   have HS : Hid (sideB side zs n = false) := Lib.hid (by unfold sideB; rw [decide_eq_false (by omega)]; rfl)
   go_enter Tryz.func47, Tryz.ntmps47
   go_wp2_with fail
   go_ret
   exact ⟨by rw [HS.out]; rfl, Below.refl _ _⟩
 have t0 : decide (20 < (n : Int)) = false := decide_eq_false (by omega)
 have HS := Lib.hid (show sideB side zs n = (allO zs n && srtO side zs n) from by unfold sideB; rw [decide_eq_true (by omega)]; rfl)
 go_enter Tryz.func47, Tryz.ntmps47
 go_wp2_with fail
 go_loopw [12] (fun i wr => ∃ k : Nat, k ≤ n ∧ i = .int .i64 (k : Int) ∧ allO zs k = true ∧ Below w.heap.size w wr) (fun i _ => n - (intOf i).toNat)
 case atStart => exact ⟨0, Nat.zero_le _, rfl, rfl, Below.refl _ _⟩
 case round =>
  obtain ⟨k, hk, rfl, hall, hbel⟩ := hrel
  by_cases hlt : k < n
  · obtain ⟨b, o, rfl, hb, c0, c1, c2, c3⟩ := (hl.below hbel).row4 hlt
    have HE := Lib.hid (ordB_eq zs k)
    have HA := Lib.hid (show allO zs (k + 1) = (allO zs k && ordB zs k) from rfl)
    have HL := Lib.hid hall
    clear hall
    rcases Bool.eq_false_or_eq_true (ordB zs k) with hat | hat
    · have HT := Lib.hid hat
      clear hat
      go_wp2_with fail
      refine (impl_orderOk _ _ _ _ _).mono ?_
      rw [← HE.out, HT.out]
      rintro e w1 ⟨rfl, hb1⟩
      have hbel1 := hbel.trans ((below_alloc hb1).mono hbel.size)
      clear hb1 hbel
      go_wp2_with fail
      go_roundw
      case rel => exact ⟨k + 1, by omega, by go_num, by rw [HA.out, HL.out, HT.out]; rfl, hbel1⟩
      case measure => simp [intOf]; omega
    · have HT := Lib.hid hat
      have HN := Lib.hid (allO_no hat n hlt)
      clear hat
      go_wp2_with fail
      refine (impl_orderOk _ _ _ _ _).mono ?_
      rw [← HE.out, HT.out]
      rintro e w1 ⟨rfl, hb1⟩
      have hbel1 := hbel.trans ((below_alloc hb1).mono hbel.size)
      clear hb1 hbel
      go_wp2_with fail
      go_ret
      exact ⟨by rw [HS.out, HN.out]; rfl, hbel1⟩
  · obtain rfl : k = n := by omega
    have HL := Lib.hid hall
    clear hall
    go_wp2_with fail
    refine (impl_openedSide A k c zs side wr ((hl.below hbel).more hbel.size) hn).mono ?_
    rintro e w1 ⟨S, L, v, gs, rfl, hop, hcp, hb1⟩
    have hbel1 := hbel.trans (hb1.mono hbel.size)
    clear hb1
    go_wp2_with fail
    refine (impl_isSorted _ S L k side zs v gs w1 hop hcp hn).mono ?_
    rintro e w2 ⟨rfl, hb2⟩
    have hbel2 := hbel1.trans (hb2.mono hbel1.size)
    clear hb2 hop hcp
    go_wp2_with fail
    go_ret
    exact ⟨by rw [HS.out, HL.out]; rfl, hbel2⟩
theorem impl_crossed (A : Option Addr) (n c : Nat) (B : Option Addr) (m d : Nat) (za zb : List Int) (w : World) (ha : Lst w w.heap.size 4 A n za) (hb : Lst w w.heap.size 4 B m zb) :
 Calls Tryz.prog 48 #[.agg #[.slice A n c, .slice B m d]] w fun e w' => e = .returned (.bool (crossB za n zb m)) ∧ Below w.heap.size w w' := by
 have hb0 : Below w.heap.size w (w.alloc (.cells #[.slice A n c, .slice B m d] 30)) := (Below.refl _ _).alloc (Nat.le_refl _) _
 have k0 : (w.alloc (.cells #[.slice A n c, .slice B m d] 30)).heap[w.heap.size]? = some (.cells #[.slice A n c, .slice B m d] 30 (0, 0)) := heap_alloc_new w _
 have a0 := cell_of_row _ (w.heap.size) 0 _ _ (0, 0) k0
 have a1 := cell_of_row _ (w.heap.size) 1 _ _ (0, 0) k0
 simp at a0 a1
 have HC := Lib.hid (show crossB za n zb m = (decide (0 < n) && (decide (0 < m) && decide (price zb 0 ≤ price za 0))) from rfl)
 go_enter Tryz.func48, Tryz.ntmps48
 go_upto_region 1 with fail
 rcases Nat.eq_zero_or_pos n with rfl | hn
 · clear ha hb
   skip
   refine wp_region_held_drew (S := (fun w' => Below w.heap.size w w' ∧ w'.cell? ⟨w.heap.size, 0, none⟩ = some (.slice A 0 c) ∧ w'.cell? ⟨w.heap.size, 1, none⟩ = some (.slice B m d))) (by kernel_rfl) ?hSq1xs (fun zH => ?restq1xs)
   case hSq1xs => (exact kp2)
   refine tkV 0 ?_
   refine tkV 1 ?_
   refine tkV 2 ?_
   refine tkV 3 ?_
   refine tkV 4 ?_
   refine hdN 5 ?_
   refine hdN 6 ?_
   refine hdN 7 ?_
   refine hdN 8 ?_
   refine tkV 9 ?_
   refine tkV 10 ?_
   refine hdN 11 ?_
   refine hdN 12 ?_
   refine hdN 13 ?_
   refine hdN 14 ?_
   refine hdN 15 ?_
   refine hdN 16 ?_
   refine hdN 17 ?_
   refine hdN 18 ?_
   refine hdN 19 ?_
   refine hdN 20 ?_
   refine hdN 21 ?_
   refine tkV 22 ?_
   refine tkV 23 ?_
   refine dn1 ?_
   have hB := zH.1
   clear zH
   go_wp2_with fail
   go_ret
   exact ⟨by rw [HC.out]; rfl, hB⟩
 · have n1 : (0 : Int) < (n : Int) := by omega
   rcases Nat.eq_zero_or_pos m with rfl | hm
   · clear ha hb
     skip
     refine wp_region_held_drew (S := (fun w' => Below w.heap.size w w' ∧ w'.cell? ⟨w.heap.size, 0, none⟩ = some (.slice A n c) ∧ w'.cell? ⟨w.heap.size, 1, none⟩ = some (.slice B 0 d))) (by kernel_rfl) ?hSq2xs (fun zH => ?restq2xs)
     case hSq2xs => (exact kp2)
     refine tkV 0 ?_
     refine tkV 1 ?_
     refine tkV 2 ?_
     refine tkV 3 ?_
     refine tkV 4 ?_
     refine tkV 5 ?_
     refine tkV 6 ?_
     refine tkV 7 ?_
     refine tkV 8 ?_
     refine tkV 9 ?_
     refine tkV 10 ?_
     refine hdN 11 ?_
     refine hdN 12 ?_
     refine hdN 13 ?_
     refine hdN 14 ?_
     refine hdN 15 ?_
     refine hdN 16 ?_
     refine hdN 17 ?_
     refine hdN 18 ?_
     refine hdN 19 ?_
     refine hdN 20 ?_
     refine hdN 21 ?_
     refine tkV 22 ?_
     refine tkV 23 ?_
     refine dn1 ?_
     have hB := zH.1
     clear zH
     go_wp2_with fail
     go_ret
     exact ⟨by rw [HC.out, decide_eq_true hn]; rfl, hB⟩
   · have m1 : (0 : Int) < (m : Int) := by omega
     obtain ⟨b, o, rfl, hlb, _, _, c2, _⟩ := (ha.below hb0).row4 hn
     obtain ⟨b', o', rfl, hlb', _, _, d2, _⟩ := (hb.below hb0).row4 hm
     have HD := Lib.hid (show crossB za n zb m = decide (price zb 0 ≤ price za 0) from by rw [HC.out, decide_eq_true hn, decide_eq_true hm]; rfl)
     have HPa : num za (0 * 4 + 2) = price za 0 := rfl
     have HPb : num zb (0 * 4 + 2) = price zb 0 := rfl
     rw [HPa] at c2
     rw [HPb] at d2
     clear ha hb HC HPa HPb
     simp at c2 d2
     generalize price za 0 = pa at *
     generalize price zb 0 = pb at *
     refine wp_region_held_drew (S := (fun w' => Below w.heap.size w w' ∧ w'.cell? ⟨w.heap.size, 0, none⟩ = some (.slice (some ⟨b, o, none⟩) n c) ∧ w'.cell? ⟨w.heap.size, 1, none⟩ = some (.slice (some ⟨b', o', none⟩) m d) ∧ w'.cell? ⟨b, o + 2, none⟩ = some (.int .i64 pa) ∧ w'.cell? ⟨b', o' + 2, none⟩ = some (.int .i64 pb))) (by kernel_rfl) ?hSq3xs (fun zH => ?restq3xs)
     case hSq3xs => (exact kp2)
     refine tkV 0 ?_
     refine tkV 1 ?_
     refine tkV 2 ?_
     refine tkV 3 ?_
     refine tkV 4 ?_
     refine tkV 5 ?_
     refine tkV 6 ?_
     refine tkV 7 ?_
     refine tkV 8 ?_
     refine tkV 9 ?_
     refine tkV 10 ?_
     refine tkV 11 ?_
     refine tkV 12 ?_
     refine tkV 13 ?_
     refine tkV 14 ?_
     refine tkV 15 ?_
     refine tkV 16 ?_
     refine tkV 17 ?_
     refine tkV 18 ?_
     refine tkV 19 ?_
     refine tkV 20 ?_
     refine tkV 21 ?_
     refine tkV 22 ?_
     refine tkV 23 ?_
     refine dn1 ?_
     have hB := zH.1
     clear zH
     go_wp2_with fail
     go_ret
     exact ⟨by rw [HD.out]; first | rfl | simp, hB⟩
end Go.Proofs.YtgjjdnojiegidaaGreatDoor
