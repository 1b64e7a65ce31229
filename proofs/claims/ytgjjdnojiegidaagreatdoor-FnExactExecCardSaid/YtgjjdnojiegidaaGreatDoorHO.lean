/-
 TakeO, OptS.
-/
import Derived.Test.YtgjjdnojiegidaaGreatDoorTak
import Derived.Test.YtgjjdnojiegidaaGreatDoorHD
import Derived.Test.YtgjjdnojiegidaaGreatDoorHC
import Derived.Test.YtgjjdnojiegidaaGreatDoorGT
import Derived.Test.YtgjjdnojiegidaaGreatDoorRestS
namespace Go.Proofs.YtgjjdnojiegidaaGreatDoor
open Go.RowKit Wire
set_option maxHeartbeats 3200000
set_option maxRecDepth 100000
set_option linter.unusedSimpArgs false

theorem spec_l2TakeO (O1 : Option Addr) (n c : Nat) (O2 : Option Addr) (m d : Nat) (za zb : List Int) (id : Int) (w : World) (ha : Lst w w.heap.size 4 O1 n za) (hb : Lst w w.heap.size 4 O2 m zb) (hn : n ≤ 1048576) (hm : m ≤ 1048576) :
 Calls Tryz.prog 39 #[.agg #[.slice O1 n c, .slice O2 m d], .int .i64 id] w fun e w' => (∃ v1 v2, e = .returned (.agg #[v1, v2]) ∧ w'.ownsRow w.heap.size 65 4 v1 (tkN za id n) (nums (tkZ za id n)) ∧ w'.ownsRow w.heap.size 65 4 v2 (tkN zb id m) (nums (tkZ zb id m)) ∧ ∀ q, v1.ownBlock = some q → v2.ownBlock ≠ some q) ∧ Below w.heap.size w w' := by
 obtain ⟨i0, hi, hz0, hz1, hz2⟩ := info_parts ord_info
 obtain ⟨k0, k1, k2⟩ := three_blocks w (.cells #[.slice O1 n c, .slice O2 m d] 30) (.cells #[.slice none 0 0, .slice none 0 0] 30) (.cells #[.slice none 0 0, .slice none 0 0] 30)
 have hb0 : Below w.heap.size w (((w.alloc (.cells #[.slice O1 n c, .slice O2 m d] 30)).alloc (.cells #[.slice none 0 0, .slice none 0 0] 30)).alloc (.cells #[.slice none 0 0, .slice none 0 0] 30)) := (((Below.refl _ _).alloc (Nat.le_refl _) _).alloc (by simp) _).alloc (by simp; omega) _
 have hs0 : w.heap.size + 2 < (((w.alloc (.cells #[.slice O1 n c, .slice O2 m d] 30)).alloc (.cells #[.slice none 0 0, .slice none 0 0] 30)).alloc (.cells #[.slice none 0 0, .slice none 0 0] 30)).heap.size := by simp
 go_enter Tryz.func39, Tryz.ntmps39
 go_upto_region 2 with fail
 generalize (((w.alloc (.cells #[.slice O1 n c, .slice O2 m d] 30)).alloc (.cells #[.slice none 0 0, .slice none 0 0] 30)).alloc (.cells #[.slice none 0 0, .slice none 0 0] 30)) = w0 at *
 go_wp2_with fail
 go_loopw [6] (fun i wr => ∃ (k : Nat) (v : Value), k ≤ n ∧ i = .int .i64 (k : Int) ∧ wr.heap[w.heap.size]? = some (.cells #[.slice O1 n c, .slice O2 m d] 30 (0, 0)) ∧ wr.heap[w.heap.size + 1]? = some (.cells #[.slice none 0 0, .slice none 0 0] 30 (0, 0)) ∧ wr.heap[w.heap.size + 2]? = some (.cells #[v, .slice none 0 0] 30 (0, 0)) ∧ wr.ownsRow (w.heap.size + 3) 65 4 v (tkN za id k) (nums (tkZ za id k)) ∧ Below w.heap.size w wr ∧ w.heap.size + 2 < wr.heap.size) (fun i _ => n - (intOf i).toNat)
 case atStart => exact ⟨0, .slice none 0 0, Nat.zero_le _, rfl, k0, k1, k2, World.ownsRow_nil _ _ _ _, hb0, hs0⟩
 case round =>
  clear k0 k1 k2 hb0 hs0
  obtain ⟨k, v, hk, rfl, hbx, hrs, hout, hown, hbel, hsz⟩ := hrel
  obtain ⟨A2, d2, rfl, _, _⟩ := oSl hown
  have x0 := cell_of_row wr w.heap.size 0 _ _ (0, 0) hbx
  have x1 := cell_of_row wr w.heap.size 1 _ _ (0, 0) hbx
  simp at x0 x1
  by_cases hlt : k < n
  · obtain ⟨b, o, hax, hbo, c0, c1, c2, c3⟩ := (ha.below hbel).row4 hlt
    subst hax
    have HT := Lib.hid (show tkN za id (k + 1) = if num za (k * 4) = id then tkN za id k else tkN za id k + 1 from rfl)
    have HZ := Lib.hid (show tkZ za id (k + 1) = if num za (k * 4) = id then tkZ za id k else tkZ za id k ++ [num za (k * 4), num za (k * 4 + 1), num za (k * 4 + 2), num za (k * 4 + 3)] from rfl)
    rcases Bool.eq_false_or_eq_true (num za (k * 4) == id) with hy | hy
    · have HE := Lib.hid (beq_iff_eq.1 hy)
      have HO := Lib.hid hout
      have HW := Lib.hid hown
      clear hout hown
      go_wp2_with fail
      go_roundw
      case rel => exact ⟨k + 1, _, by omega, by go_num, hbx, hrs, HO.out, by rw [HT.out, HZ.out, if_pos HE.out, if_pos HE.out]; exact HW.out, hbel, hsz⟩
      case measure => simp [intOf]; omega
    · have HE : Hid (num za (k * 4) ≠ id) := Lib.hid (by simpa using hy)
      have C0 := Lib.hid c0
      have C1 := Lib.hid c1
      have C2 := Lib.hid c2
      have C3 := Lib.hid c3
      have hov := hown.lt
      have hle := tkN_le za id k
      have hownA := (show wr.drew.ownsRow (w.heap.size + 3) 65 4 _ _ _ from hown).alloc (.cells #[.int .i64 (num za (k * 4)), .int .i64 (num za (k * 4 + 1)), .int .i64 (num za (k * 4 + 2)), .int .i64 (num za (k * 4 + 3))] 65)
      go_upto_region 6 with fail
      refine wp_region_held_drew (S := fun w' => Below w.heap.size w w' ∧ w'.cell? ⟨w.heap.size, 0, none⟩ = some (.slice (some ⟨b, o, none⟩) n c) ∧ w'.cell? ⟨w.heap.size, 1, none⟩ = some (.slice O2 m d) ∧ w'.cell? ⟨b, o + k * 4, none⟩ = some (.int .i64 (num za (k * 4))) ∧ w'.cell? ⟨b, o + k * 4 + 1, none⟩ = some (.int .i64 (num za (k * 4 + 1))) ∧ w'.cell? ⟨b, o + k * 4 + 2, none⟩ = some (.int .i64 (num za (k * 4 + 2))) ∧ w'.cell? ⟨b, o + k * 4 + 3, none⟩ = some (.int .i64 (num za (k * 4 + 3))) ∧ w'.heap[w.heap.size]? = some (.cells #[.slice (some ⟨b, o, none⟩) n c, .slice O2 m d] 30 (0, 0)) ∧ w'.heap[w.heap.size + 1]? = some (.cells #[.slice none 0 0, .slice none 0 0] 30 (0, 0)) ∧ w.heap.size + 2 < w'.heap.size ∧ ∃ x y, w'.heap[w.heap.size + 2]? = some (.cells #[x, y] 30 (0, 0))) (by kernel_rfl) ?hS0s (fun zH => ?rest0s)
      case hS0s => exact ⟨hbel.drew, x0, x1, C0.out, C1.out, C2.out, C3.out, hbx, hrs, hsz, _, _, hout⟩
      refine tkV 0 ?_
      refine tkV 2 ?_
      refine tkV 3 ?_
      refine tkV 4 ?_
      refine tkV 5 ?_
      refine tkV 6 ?_
      refine wpAnyH_ready (rs := [1, 7]) (by kernel_rfl) (by simp) ?_
      refine AllReadyH.cons (o := ?ot7) ?hot7 (fun K hK => ?stept7) ?moret7
      case hot7 => simp only [gA, gB, gC]; exact rfl
      case stept7 =>
       have rl : wr.drew.cell? ⟨w.heap.size + 2, 0, none⟩ = some (.slice A2 (tkN za id k) d2) := cell_of_row wr.drew (w.heap.size + 2) 0 _ _ (0, 0) hout
       go_simp
       refine hK.out _ _ (zH) (fun zH => ?_)
       clear hK K
       try simp only [Act.put, sA, sB, sC]
       refine rd1 7 (fun K hK => ?_)
       go_simp
       refine hK.out _ _ (TkS.keep zH hbo (zH.1.alloc (Nat.le_of_lt (by have := zH.2.2.2.2.2.2.2.2.2.1; omega)) _) (fun q hq => Below.heap_alloc _ _ q (by have := zH.2.2.2.2.2.2.2.2.2.1; omega)) (by have := zH.2.2.2.2.2.2.2.2.2.1; simp; omega) (by obtain ⟨x, y, h⟩ := zH.2.2.2.2.2.2.2.2.2.2; exact ⟨x, y, (Below.heap_alloc _ _ _ (by have := zH.2.2.2.2.2.2.2.2.2.1; omega)).trans h⟩)) (fun zH => ?_)
       clear hK K
       try simp only [Act.put, sA, sB, sC]
       refine rd1 8 (fun K hK => ?_)
       (refine step_append_own _ rfl _ _ 28 rfl (w.heap.size + 3) 65 i0 _ 4 32 Tryz.underlying28 hi hz0 hz1 hz2 rfl (by decide) _ _ _ rfl hownA ⟨wr.heap.size, 0, none⟩ 1 1 [.int .i64 (num za (k * 4)), .int .i64 (num za (k * 4 + 1)), .int .i64 (num za (k * 4 + 2)), .int .i64 (num za (k * 4 + 3))] rfl rfl (World.news_of_block (heap_alloc_new wr.drew _)) (by intro u hu; simp at hu; rcases hu with rfl | rfl | rfl | rfl <;> rfl) (by unfold maxLen; omega) (by omega) (by simp; omega) ?_; intro v' u2 hown2 hgrow2 _)
       obtain ⟨A3, d3, rfl, _, _⟩ := oSl hown2
       have hgq := fun q (hq : q < wr.heap.size) (h3 : q < w.heap.size + 3) => (hgrow2.block q (by simp; omega) (fun e => by have := (hov q e.symm).1; omega)).trans (Below.heap_alloc wr.drew _ q hq)
       refine hK.out _ _ (TkS.keep zH hbo (zH.1.grown hgrow2 (by simp; omega) (fun q hq => by have := (hov q hq).1; omega)) (fun q hq => (hgrow2.block q (by simp; omega) (fun e => by have := (hov q e.symm).1; omega))) (Nat.lt_of_lt_of_le zH.2.2.2.2.2.2.2.2.2.1 hgrow2.size) ⟨_, _, (hgq _ (by omega) (by omega)).trans hout⟩) (fun zH => ?_)
       clear hK K
       try simp only [Act.put, sA, sB, sC]
       refine tkV 9 ?_
       refine rd1 10 (fun K hK => ?_)
       have hX := zH
       have ho2 := (hgq (w.heap.size + 2) (by omega) (by omega)).trans hout
       have r0 := cell_of_row u2 (w.heap.size + 2) 0 _ _ (0, 0) ho2
       have z0 := frozen_of_row u2 (w.heap.size + 2) 0 _ _ ho2
       simp at r0
       go_simp
       refine hK.out _ _ (TkS.keep hX hbo (hX.1.setCell (p := ⟨w.heap.size + 2, 0, none⟩) (show w.heap.size ≤ w.heap.size + 2 by omega) _) (fun q hq => Below.heap_setCell _ _ _ q (show q ≠ w.heap.size + 2 by omega)) (by simpa [World.setCell] using hX.2.2.2.2.2.2.2.2.2.1) ⟨_, _, zS0 ho2⟩) (fun zH => ?_)
       clear hK K
       try simp only [Act.put, sA, sB, sC]
       refine dn1 ?_
       have HW := Lib.hid (hown2.kept (set_grown u2 (w.heap.size + 2) 0 (.slice A3 (tkN za id k + 1) d3)) (.inr (fun e => by have := (hown2.lt _ e).1; omega)))
       have HO := Lib.hid (zS0 (u := .slice A3 (tkN za id k + 1) d3) ho2)
       have HH := Lib.hid zH
       clear zH hX hown2 hgq hgrow2 hown hownA hout ho2 r0 z0 hbx hrs x0 x1 c0 c1 c2 c3
       go_wp2_with fail
       go_roundw
       case rel => exact ⟨k + 1, _, by omega, by go_num, HH.out.2.2.2.2.2.2.2.1, HH.out.2.2.2.2.2.2.2.2.1, HO.out, by rw [HT.out, HZ.out, if_neg HE.out, if_neg HE.out, nums_append]; exact HW.out, HH.out.1, HH.out.2.2.2.2.2.2.2.2.2.1⟩
       case measure => simp [intOf]; omega
      refine AllReadyH.cons (o := ?ot12) ?hot12 (fun K hK => ?stept12) ?moret12
      case hot12 => simp only [gA, gB, gC]; exact rfl
      case moret12 => exact AllReadyH.nil
      go_simp
      refine hK.out _ _ (TkS.keep zH hbo (zH.1.alloc (Nat.le_of_lt (by have := zH.2.2.2.2.2.2.2.2.2.1; omega)) _) (fun q hq => Below.heap_alloc _ _ q (by have := zH.2.2.2.2.2.2.2.2.2.1; omega)) (by have := zH.2.2.2.2.2.2.2.2.2.1; simp; omega) (by obtain ⟨x, y, h⟩ := zH.2.2.2.2.2.2.2.2.2.2; exact ⟨x, y, (Below.heap_alloc _ _ _ (by have := zH.2.2.2.2.2.2.2.2.2.1; omega)).trans h⟩)) (fun zH => ?_)
      clear hK K
      try simp only [Act.put, sA, sB, sC]
      refine rd1 1 (fun K hK => ?_)
      have rl : wr.drew.cell? ⟨w.heap.size + 2, 0, none⟩ = some (.slice A2 (tkN za id k) d2) := cell_of_row wr.drew (w.heap.size + 2) 0 _ _ (0, 0) hout
      have rl2 : (wr.drew.alloc (.cells #[.int .i64 (num za (k * 4)), .int .i64 (num za (k * 4 + 1)), .int .i64 (num za (k * 4 + 2)), .int .i64 (num za (k * 4 + 3))] 65)).cell? ⟨w.heap.size + 2, 0, none⟩ = some (.slice A2 (tkN za id k) d2) := cell_of_row _ (w.heap.size + 2) 0 _ _ (0, 0) ((Below.heap_alloc wr.drew (.cells #[.int .i64 (num za (k * 4)), .int .i64 (num za (k * 4 + 1)), .int .i64 (num za (k * 4 + 2)), .int .i64 (num za (k * 4 + 3))] 65) _ (show w.heap.size + 2 < wr.heap.size by omega)).trans hout)
      have rl0 : wr.cell? ⟨w.heap.size + 1 + 1, 0, none⟩ = some (.slice A2 (tkN za id k) d2) := cell_of_row wr (w.heap.size + 2) 0 _ _ (0, 0) hout
      go_simp
      refine hK.out _ _ (zH) (fun zH => ?_)
      clear hK K
      try simp only [Act.put, sA, sB, sC]
      refine rd1 8 (fun K hK => ?_)
      (refine step_append_own _ rfl _ _ 28 rfl (w.heap.size + 3) 65 i0 _ 4 32 Tryz.underlying28 hi hz0 hz1 hz2 rfl (by decide) _ _ _ rfl hownA ⟨wr.heap.size, 0, none⟩ 1 1 [.int .i64 (num za (k * 4)), .int .i64 (num za (k * 4 + 1)), .int .i64 (num za (k * 4 + 2)), .int .i64 (num za (k * 4 + 3))] rfl rfl (World.news_of_block (heap_alloc_new wr.drew _)) (by intro u hu; simp at hu; rcases hu with rfl | rfl | rfl | rfl <;> rfl) (by unfold maxLen; omega) (by omega) (by simp; omega) ?_; intro v' u2 hown2 hgrow2 _)
      obtain ⟨A3, d3, rfl, _, _⟩ := oSl hown2
      have hgq := fun q (hq : q < wr.heap.size) (h3 : q < w.heap.size + 3) => (hgrow2.block q (by simp; omega) (fun e => by have := (hov q e.symm).1; omega)).trans (Below.heap_alloc wr.drew _ q hq)
      refine hK.out _ _ (TkS.keep zH hbo (zH.1.grown hgrow2 (by simp; omega) (fun q hq => by have := (hov q hq).1; omega)) (fun q hq => (hgrow2.block q (by simp; omega) (fun e => by have := (hov q e.symm).1; omega))) (Nat.lt_of_lt_of_le zH.2.2.2.2.2.2.2.2.2.1 hgrow2.size) ⟨_, _, (hgq _ (by omega) (by omega)).trans hout⟩) (fun zH => ?_)
      clear hK K
      try simp only [Act.put, sA, sB, sC]
      refine tkV 9 ?_
      refine rd1 10 (fun K hK => ?_)
      have hX := zH
      have ho2 := (hgq (w.heap.size + 2) (by omega) (by omega)).trans hout
      have r0 := cell_of_row u2 (w.heap.size + 2) 0 _ _ (0, 0) ho2
      have z0 := frozen_of_row u2 (w.heap.size + 2) 0 _ _ ho2
      simp at r0
      go_simp
      refine hK.out _ _ (TkS.keep hX hbo (hX.1.setCell (p := ⟨w.heap.size + 2, 0, none⟩) (show w.heap.size ≤ w.heap.size + 2 by omega) _) (fun q hq => Below.heap_setCell _ _ _ q (show q ≠ w.heap.size + 2 by omega)) (by simpa [World.setCell] using hX.2.2.2.2.2.2.2.2.2.1) ⟨_, _, zS0 ho2⟩) (fun zH => ?_)
      clear hK K
      try simp only [Act.put, sA, sB, sC]
      refine dn1 ?_
      have HW := Lib.hid (hown2.kept (set_grown u2 (w.heap.size + 2) 0 (.slice A3 (tkN za id k + 1) d3)) (.inr (fun e => by have := (hown2.lt _ e).1; omega)))
      have HO := Lib.hid (zS0 (u := .slice A3 (tkN za id k + 1) d3) ho2)
      have HH := Lib.hid zH
      clear zH hX hown2 hgq hgrow2 hown hownA hout ho2 r0 z0 hbx hrs x0 x1 c0 c1 c2 c3
      go_wp2_with fail
      go_roundw
      case rel => exact ⟨k + 1, _, by omega, by go_num, HH.out.2.2.2.2.2.2.2.1, HH.out.2.2.2.2.2.2.2.2.1, HO.out, by rw [HT.out, HZ.out, if_neg HE.out, if_neg HE.out, nums_append]; exact HW.out, HH.out.1, HH.out.2.2.2.2.2.2.2.2.2.1⟩
      case measure => simp [intOf]; omega
  · obtain rfl : n = k := by omega
    have hv1 := hown
    have hlt1 := fun q hq => (hown.lt q hq).2
    have hwl : w.heap.size + 3 ≤ wr.heap.size := by omega
    clear hown
    generalize wr = wl at *
    go_wp2_with fail
    go_loopw [7] (fun i wr => ∃ (k : Nat) (v : Value), k ≤ m ∧ i = .int .i64 (k : Int) ∧ wr.heap[w.heap.size]? = some (.cells #[.slice O1 n c, .slice O2 m d] 30 (0, 0)) ∧ wr.heap[w.heap.size + 1]? = some (.cells #[.slice none 0 0, .slice none 0 0] 30 (0, 0)) ∧ wr.heap[w.heap.size + 2]? = some (.cells #[.slice A2 (tkN za id n) d2, v] 30 (0, 0)) ∧ wr.ownsRow (w.heap.size + 3) 65 4 (.slice A2 (tkN za id n) d2) (tkN za id n) (nums (tkZ za id n)) ∧ wr.ownsRow wl.heap.size 65 4 v (tkN zb id k) (nums (tkZ zb id k)) ∧ Below w.heap.size w wr ∧ w.heap.size + 2 < wr.heap.size ∧ wl.heap.size ≤ wr.heap.size) (fun i _ => m - (intOf i).toNat)
    case atStart => exact ⟨0, .slice none 0 0, Nat.zero_le _, rfl, hbx, hrs, hout, hv1, World.ownsRow_nil _ _ _ _, hbel, hsz, Nat.le_refl _⟩
    case round =>
     clear hbx hrs hout hv1 hbel hsz x0 x1
     obtain ⟨k, v, hk, rfl, hbx, hrs, hout, hv1, hown, hbel, hsz, hwr⟩ := hrel
     obtain ⟨A4, d4, rfl, _, _⟩ := oSl hown
     have x0 := cell_of_row wr w.heap.size 0 _ _ (0, 0) hbx
     have x1 := cell_of_row wr w.heap.size 1 _ _ (0, 0) hbx
     simp at x0 x1
     by_cases hlt : k < m
     · obtain ⟨b, o, hax, hbo, c0, c1, c2, c3⟩ := (hb.below hbel).row4 hlt
       subst hax
       have HT := Lib.hid (show tkN zb id (k + 1) = if num zb (k * 4) = id then tkN zb id k else tkN zb id k + 1 from rfl)
       have HZ := Lib.hid (show tkZ zb id (k + 1) = if num zb (k * 4) = id then tkZ zb id k else tkZ zb id k ++ [num zb (k * 4), num zb (k * 4 + 1), num zb (k * 4 + 2), num zb (k * 4 + 3)] from rfl)
       rcases Bool.eq_false_or_eq_true (num zb (k * 4) == id) with hy | hy
       · have HE := Lib.hid (beq_iff_eq.1 hy)
         have HO := Lib.hid hout
         have HW := Lib.hid hown
         have HV := Lib.hid hv1
         clear hout hown hv1
         go_wp2_with fail
         go_roundw
         case rel => exact ⟨k + 1, _, by omega, by go_num, hbx, hrs, HO.out, HV.out, by rw [HT.out, HZ.out, if_pos HE.out, if_pos HE.out]; exact HW.out, hbel, hsz, hwr⟩
         case measure => simp [intOf]; omega
       · have HE : Hid (num zb (k * 4) ≠ id) := Lib.hid (by simpa using hy)
         have C0 := Lib.hid c0
         have C1 := Lib.hid c1
         have C2 := Lib.hid c2
         have C3 := Lib.hid c3
         have hov := hown.lt
         have hle := tkN_le zb id k
         have hownA := (show wr.drew.ownsRow wl.heap.size 65 4 _ _ _ from hown).alloc (.cells #[.int .i64 (num zb (k * 4)), .int .i64 (num zb (k * 4 + 1)), .int .i64 (num zb (k * 4 + 2)), .int .i64 (num zb (k * 4 + 3))] 65)
         go_upto_region 11 with fail
         refine wp_region_held_drew (S := fun w' => Below w.heap.size w w' ∧ w'.cell? ⟨w.heap.size, 0, none⟩ = some (.slice O1 n c) ∧ w'.cell? ⟨w.heap.size, 1, none⟩ = some (.slice (some ⟨b, o, none⟩) m d) ∧ w'.cell? ⟨b, o + k * 4, none⟩ = some (.int .i64 (num zb (k * 4))) ∧ w'.cell? ⟨b, o + k * 4 + 1, none⟩ = some (.int .i64 (num zb (k * 4 + 1))) ∧ w'.cell? ⟨b, o + k * 4 + 2, none⟩ = some (.int .i64 (num zb (k * 4 + 2))) ∧ w'.cell? ⟨b, o + k * 4 + 3, none⟩ = some (.int .i64 (num zb (k * 4 + 3))) ∧ w'.heap[w.heap.size]? = some (.cells #[.slice O1 n c, .slice (some ⟨b, o, none⟩) m d] 30 (0, 0)) ∧ w'.heap[w.heap.size + 1]? = some (.cells #[.slice none 0 0, .slice none 0 0] 30 (0, 0)) ∧ w.heap.size + 2 < w'.heap.size ∧ ∃ x y, w'.heap[w.heap.size + 2]? = some (.cells #[x, y] 30 (0, 0))) (by kernel_rfl) ?hS1s (fun zH => ?rest1s)
         case hS1s => exact ⟨hbel.drew, x0, x1, C0.out, C1.out, C2.out, C3.out, hbx, hrs, hsz, _, _, hout⟩
         refine tkV 0 ?_
         refine tkV 2 ?_
         refine tkV 3 ?_
         refine tkV 4 ?_
         refine tkV 5 ?_
         refine tkV 6 ?_
         refine wpAnyH_ready (rs := [1, 7]) (by kernel_rfl) (by simp) ?_
         refine AllReadyH.cons (o := ?ot23) ?hot23 (fun K hK => ?stept23) ?moret23
         case hot23 => simp only [gA, gB, gC]; exact rfl
         case stept23 =>
          have rl : wr.drew.cell? ⟨w.heap.size + 2, 1, none⟩ = some (.slice A4 (tkN zb id k) d4) := cell_of_row wr.drew (w.heap.size + 2) 1 _ _ (0, 0) hout
          go_simp
          refine hK.out _ _ (zH) (fun zH => ?_)
          clear hK K
          try simp only [Act.put, sA, sB, sC]
          refine rd1 7 (fun K hK => ?_)
          go_simp
          refine hK.out _ _ (TkS.keep zH hbo (zH.1.alloc (Nat.le_of_lt (by have := zH.2.2.2.2.2.2.2.2.2.1; omega)) _) (fun q hq => Below.heap_alloc _ _ q (by have := zH.2.2.2.2.2.2.2.2.2.1; omega)) (by have := zH.2.2.2.2.2.2.2.2.2.1; simp; omega) (by obtain ⟨x, y, h⟩ := zH.2.2.2.2.2.2.2.2.2.2; exact ⟨x, y, (Below.heap_alloc _ _ _ (by have := zH.2.2.2.2.2.2.2.2.2.1; omega)).trans h⟩)) (fun zH => ?_)
          clear hK K
          try simp only [Act.put, sA, sB, sC]
          refine rd1 8 (fun K hK => ?_)
          (refine step_append_own _ rfl _ _ 28 rfl (wl.heap.size) 65 i0 _ 4 32 Tryz.underlying28 hi hz0 hz1 hz2 rfl (by decide) _ _ _ rfl hownA ⟨wr.heap.size, 0, none⟩ 1 1 [.int .i64 (num zb (k * 4)), .int .i64 (num zb (k * 4 + 1)), .int .i64 (num zb (k * 4 + 2)), .int .i64 (num zb (k * 4 + 3))] rfl rfl (World.news_of_block (heap_alloc_new wr.drew _)) (by intro u hu; simp at hu; rcases hu with rfl | rfl | rfl | rfl <;> rfl) (by unfold maxLen; omega) (by omega) (by simp; omega) ?_; intro v' u2 hown2 hgrow2 _)
          obtain ⟨A3, d3, rfl, _, _⟩ := oSl hown2
          have hgq := fun q (hq : q < wr.heap.size) (h3 : q < w.heap.size + 3) => (hgrow2.block q (by simp; omega) (fun e => by have := (hov q e.symm).1; omega)).trans (Below.heap_alloc wr.drew _ q hq)
          refine hK.out _ _ (TkS.keep zH hbo (zH.1.grown hgrow2 (by simp; omega) (fun q hq => by have := (hov q hq).1; omega)) (fun q hq => (hgrow2.block q (by simp; omega) (fun e => by have := (hov q e.symm).1; omega))) (Nat.lt_of_lt_of_le zH.2.2.2.2.2.2.2.2.2.1 hgrow2.size) ⟨_, _, (hgq _ (by omega) (by omega)).trans hout⟩) (fun zH => ?_)
          clear hK K
          try simp only [Act.put, sA, sB, sC]
          refine tkV 9 ?_
          refine rd1 10 (fun K hK => ?_)
          have hX := zH
          have ho2 := (hgq (w.heap.size + 2) (by omega) (by omega)).trans hout
          have r0 := cell_of_row u2 (w.heap.size + 2) 1 _ _ (0, 0) ho2
          have z0 := frozen_of_row u2 (w.heap.size + 2) 1 _ _ ho2
          simp at r0
          go_simp
          refine hK.out _ _ (TkS.keep hX hbo (hX.1.setCell (p := ⟨w.heap.size + 2, 1, none⟩) (show w.heap.size ≤ w.heap.size + 2 by omega) _) (fun q hq => Below.heap_setCell _ _ _ q (show q ≠ w.heap.size + 2 by omega)) (by simpa [World.setCell] using hX.2.2.2.2.2.2.2.2.2.1) ⟨_, _, zS1 ho2⟩) (fun zH => ?_)
          clear hK K
          try simp only [Act.put, sA, sB, sC]
          refine dn1 ?_
          have HW := Lib.hid (hown2.kept (set_grown u2 (w.heap.size + 2) 1 (.slice A3 (tkN zb id k + 1) d3)) (.inr (fun e => by have := (hown2.lt _ e).1; omega)))
          have HO := Lib.hid (zS1 (u := .slice A3 (tkN zb id k + 1) d3) ho2)
          have HH := Lib.hid zH
          have HV := Lib.hid (own_apart (own_apart ((show wr.drew.ownsRow (w.heap.size + 3) 65 4 _ _ _ from hv1).alloc (.cells #[.int .i64 (num zb (k * 4)), .int .i64 (num zb (k * 4 + 1)), .int .i64 (num zb (k * 4 + 2)), .int .i64 (num zb (k * 4 + 3))] 65)) hgrow2 (fun q hq e => by have h1 := hlt1 q hq; have h2 := (hov q e).1; omega)) (set_grown u2 (w.heap.size + 2) 1 (.slice A3 (tkN zb id k + 1) d3)) (fun q hq e => by have h1 := (hv1.lt q hq).1; injection e with e; omega))
          have HL := Lib.hid (show wl.heap.size ≤ (u2.setCell ⟨w.heap.size + 2, 1, none⟩ (.slice A3 (tkN zb id k + 1) d3)).heap.size from by have h1 := hgrow2.size; simp [World.setCell] at h1 ⊢; omega)
          clear zH hX hown2 hgq hgrow2 hown hownA hout ho2 r0 z0 hbx hrs x0 x1 c0 c1 c2 c3
          go_wp2_with fail
          go_roundw
          case rel => exact ⟨k + 1, _, by omega, by go_num, HH.out.2.2.2.2.2.2.2.1, HH.out.2.2.2.2.2.2.2.2.1, HO.out, HV.out, by rw [HT.out, HZ.out, if_neg HE.out, if_neg HE.out, nums_append]; exact HW.out, HH.out.1, HH.out.2.2.2.2.2.2.2.2.2.1, HL.out⟩
          case measure => simp [intOf]; omega
         refine AllReadyH.cons (o := ?ot28) ?hot28 (fun K hK => ?stept28) ?moret28
         case hot28 => simp only [gA, gB, gC]; exact rfl
         case moret28 => exact AllReadyH.nil
         go_simp
         refine hK.out _ _ (TkS.keep zH hbo (zH.1.alloc (Nat.le_of_lt (by have := zH.2.2.2.2.2.2.2.2.2.1; omega)) _) (fun q hq => Below.heap_alloc _ _ q (by have := zH.2.2.2.2.2.2.2.2.2.1; omega)) (by have := zH.2.2.2.2.2.2.2.2.2.1; simp; omega) (by obtain ⟨x, y, h⟩ := zH.2.2.2.2.2.2.2.2.2.2; exact ⟨x, y, (Below.heap_alloc _ _ _ (by have := zH.2.2.2.2.2.2.2.2.2.1; omega)).trans h⟩)) (fun zH => ?_)
         clear hK K
         try simp only [Act.put, sA, sB, sC]
         refine rd1 1 (fun K hK => ?_)
         have rl : wr.drew.cell? ⟨w.heap.size + 2, 1, none⟩ = some (.slice A4 (tkN zb id k) d4) := cell_of_row wr.drew (w.heap.size + 2) 1 _ _ (0, 0) hout
         have rl2 : (wr.drew.alloc (.cells #[.int .i64 (num zb (k * 4)), .int .i64 (num zb (k * 4 + 1)), .int .i64 (num zb (k * 4 + 2)), .int .i64 (num zb (k * 4 + 3))] 65)).cell? ⟨w.heap.size + 2, 1, none⟩ = some (.slice A4 (tkN zb id k) d4) := cell_of_row _ (w.heap.size + 2) 1 _ _ (0, 0) ((Below.heap_alloc wr.drew (.cells #[.int .i64 (num zb (k * 4)), .int .i64 (num zb (k * 4 + 1)), .int .i64 (num zb (k * 4 + 2)), .int .i64 (num zb (k * 4 + 3))] 65) _ (show w.heap.size + 2 < wr.heap.size by omega)).trans hout)
         have rl0 : wr.cell? ⟨w.heap.size + 1 + 1, 1, none⟩ = some (.slice A4 (tkN zb id k) d4) := cell_of_row wr (w.heap.size + 2) 1 _ _ (0, 0) hout
         go_simp
         refine hK.out _ _ (zH) (fun zH => ?_)
         clear hK K
         try simp only [Act.put, sA, sB, sC]
         refine rd1 8 (fun K hK => ?_)
         (refine step_append_own _ rfl _ _ 28 rfl (wl.heap.size) 65 i0 _ 4 32 Tryz.underlying28 hi hz0 hz1 hz2 rfl (by decide) _ _ _ rfl hownA ⟨wr.heap.size, 0, none⟩ 1 1 [.int .i64 (num zb (k * 4)), .int .i64 (num zb (k * 4 + 1)), .int .i64 (num zb (k * 4 + 2)), .int .i64 (num zb (k * 4 + 3))] rfl rfl (World.news_of_block (heap_alloc_new wr.drew _)) (by intro u hu; simp at hu; rcases hu with rfl | rfl | rfl | rfl <;> rfl) (by unfold maxLen; omega) (by omega) (by simp; omega) ?_; intro v' u2 hown2 hgrow2 _)
         obtain ⟨A3, d3, rfl, _, _⟩ := oSl hown2
         have hgq := fun q (hq : q < wr.heap.size) (h3 : q < w.heap.size + 3) => (hgrow2.block q (by simp; omega) (fun e => by have := (hov q e.symm).1; omega)).trans (Below.heap_alloc wr.drew _ q hq)
         refine hK.out _ _ (TkS.keep zH hbo (zH.1.grown hgrow2 (by simp; omega) (fun q hq => by have := (hov q hq).1; omega)) (fun q hq => (hgrow2.block q (by simp; omega) (fun e => by have := (hov q e.symm).1; omega))) (Nat.lt_of_lt_of_le zH.2.2.2.2.2.2.2.2.2.1 hgrow2.size) ⟨_, _, (hgq _ (by omega) (by omega)).trans hout⟩) (fun zH => ?_)
         clear hK K
         try simp only [Act.put, sA, sB, sC]
         refine tkV 9 ?_
         refine rd1 10 (fun K hK => ?_)
         have hX := zH
         have ho2 := (hgq (w.heap.size + 2) (by omega) (by omega)).trans hout
         have r0 := cell_of_row u2 (w.heap.size + 2) 1 _ _ (0, 0) ho2
         have z0 := frozen_of_row u2 (w.heap.size + 2) 1 _ _ ho2
         simp at r0
         go_simp
         refine hK.out _ _ (TkS.keep hX hbo (hX.1.setCell (p := ⟨w.heap.size + 2, 1, none⟩) (show w.heap.size ≤ w.heap.size + 2 by omega) _) (fun q hq => Below.heap_setCell _ _ _ q (show q ≠ w.heap.size + 2 by omega)) (by simpa [World.setCell] using hX.2.2.2.2.2.2.2.2.2.1) ⟨_, _, zS1 ho2⟩) (fun zH => ?_)
         clear hK K
         try simp only [Act.put, sA, sB, sC]
         refine dn1 ?_
         have HW := Lib.hid (hown2.kept (set_grown u2 (w.heap.size + 2) 1 (.slice A3 (tkN zb id k + 1) d3)) (.inr (fun e => by have := (hown2.lt _ e).1; omega)))
         have HO := Lib.hid (zS1 (u := .slice A3 (tkN zb id k + 1) d3) ho2)
         have HH := Lib.hid zH
         have HV := Lib.hid (own_apart (own_apart ((show wr.drew.ownsRow (w.heap.size + 3) 65 4 _ _ _ from hv1).alloc (.cells #[.int .i64 (num zb (k * 4)), .int .i64 (num zb (k * 4 + 1)), .int .i64 (num zb (k * 4 + 2)), .int .i64 (num zb (k * 4 + 3))] 65)) hgrow2 (fun q hq e => by have h1 := hlt1 q hq; have h2 := (hov q e).1; omega)) (set_grown u2 (w.heap.size + 2) 1 (.slice A3 (tkN zb id k + 1) d3)) (fun q hq e => by have h1 := (hv1.lt q hq).1; injection e with e; omega))
         have HL := Lib.hid (show wl.heap.size ≤ (u2.setCell ⟨w.heap.size + 2, 1, none⟩ (.slice A3 (tkN zb id k + 1) d3)).heap.size from by have h1 := hgrow2.size; simp [World.setCell] at h1 ⊢; omega)
         clear zH hX hown2 hgq hgrow2 hown hownA hout ho2 r0 z0 hbx hrs x0 x1 c0 c1 c2 c3
         go_wp2_with fail
         go_roundw
         case rel => exact ⟨k + 1, _, by omega, by go_num, HH.out.2.2.2.2.2.2.2.1, HH.out.2.2.2.2.2.2.2.2.1, HO.out, HV.out, by rw [HT.out, HZ.out, if_neg HE.out, if_neg HE.out, nums_append]; exact HW.out, HH.out.1, HH.out.2.2.2.2.2.2.2.2.2.1, HL.out⟩
         case measure => simp [intOf]; omega
     · obtain rfl : m = k := by omega
       have r0 := cell_of_row wr (w.heap.size + 2) 0 _ _ (0, 0) hout
       have r1 := cell_of_row wr (w.heap.size + 2) 1 _ _ (0, 0) hout
       have s0 := cell_of_row wr (w.heap.size + 1) 0 _ _ (0, 0) hrs
       have s1 := cell_of_row wr (w.heap.size + 1) 1 _ _ (0, 0) hrs
       have z0 := frozen_of_row wr (w.heap.size + 1) 0 _ _ hrs
       have z1 := frozen_of_row wr (w.heap.size + 1) 1 _ _ hrs
       simp at r0 r1 s0 s1
       go_wp2_with fail
       have f0 := cell_of_row _ (w.heap.size + 1) 0 _ _ (0, 0) (zS1 (b := .slice none 0 0) (u := .slice A4 (tkN zb id m) d4) (zS0 (u := .slice A2 (tkN za id n) d2) hrs))
       have f1 := cell_of_row _ (w.heap.size + 1) 1 _ _ (0, 0) (zS1 (b := .slice none 0 0) (u := .slice A4 (tkN zb id m) d4) (zS0 (u := .slice A2 (tkN za id n) d2) hrs))
       simp at f0 f1
       have ap : ∀ {B : Nat} {v : Value} {N : Nat} {xs : List Value}, wr.ownsRow B 65 4 v N xs → w.heap.size + 3 ≤ B → ((wr.setCell ⟨w.heap.size + 1, 0, none⟩ (.slice A2 (tkN za id n) d2)).setCell ⟨w.heap.size + 1, 1, none⟩ (.slice A4 (tkN zb id m) d4)).ownsRow w.heap.size 65 4 v N xs := fun h hB => by
        have h1 := own_apart h (set_grown wr (w.heap.size + 1) 0 (.slice A2 (tkN za id n) d2)) (fun q hq e => by have := (h.lt q hq).1; injection e with e; omega)
        exact oMn (own_apart h1 (set_grown _ (w.heap.size + 1) 1 (.slice A4 (tkN zb id m) d4)) (fun q hq e => by have := (h.lt q hq).1; injection e with e; omega)) (by omega)
       refine bodyPost_ret (v := .agg #[.slice A2 (tkN za id n) d2, .slice A4 (tkN zb id m) d4]) (by simp [results, Tryz.results39, go_sem, f0, f1]) rfl ⟨⟨_, _, rfl, ap hv1 (Nat.le_refl _), ap hown hwl, fun q hq e => ?_⟩, ?_⟩
       · have h1 := hlt1 q hq
         have h2 := (hown.lt q e).1
         omega
       · exact (hbel.setCell (p := ⟨w.heap.size + 1, 0, none⟩) (show w.heap.size ≤ w.heap.size + 1 by omega) _).setCell (p := ⟨w.heap.size + 1, 1, none⟩) (show w.heap.size ≤ w.heap.size + 1 by omega) _
end Go.Proofs.YtgjjdnojiegidaaGreatDoor

namespace Go.Proofs.YtgjjdnojiegidaaGreatDoor
open Go.RowKit Wire
set_option maxHeartbeats 3200000
set_option maxRecDepth 100000
set_option linter.unusedSimpArgs false

theorem spec_CrossingO (O1 : Option Addr) (n c : Nat) (O2 : Option Addr) (m d : Nat) (za zb : List Int) (side lim : Int) (w : World) (ha : Lst w w.heap.size 4 O1 n za) (hb : Lst w w.heap.size 4 O2 m zb) (hn : n ≤ 1048576) (hm : m ≤ 1048576) (hO1 : O1 = none → n = 0 ∧ c = 0) (hO2 : O2 = none → m = 0 ∧ d = 0) :
 Calls Tryz.prog 43 #[.agg #[.slice O1 n c, .slice O2 m d], .int .i64 side, .int .i64 lim] w fun e w' => (∃ r, e = .returned r ∧ Crossed w' w.heap.size r (crN (bookB za n zb m) side lim za zb n m) (crZ (bookB za n zb m) side lim za zb n m)) ∧ Below w.heap.size w w' := by
 obtain ⟨i0, hi, hz0, hz1, hz2⟩ := info_parts ord_info
 obtain ⟨k0, k1⟩ := two_blocks w (.cells #[.slice O1 n c, .slice O2 m d] 30) (.cells #[] 65)
 have hb0 : Below w.heap.size w ((w.alloc (.cells #[.slice O1 n c, .slice O2 m d] 30)).alloc (.cells #[] 65)) := ((Below.refl _ _).alloc (Nat.le_refl _) _).alloc (by simp) _
 have hs0 : w.heap.size + 1 < ((w.alloc (.cells #[.slice O1 n c, .slice O2 m d] 30)).alloc (.cells #[] 65)).heap.size := by simp
 have hown0 : ((w.alloc (.cells #[.slice O1 n c, .slice O2 m d] 30)).alloc (.cells #[] 65)).ownsRow w.heap.size 65 4 (.slice (some ⟨w.heap.size + 1, 0, none⟩) 0 0) 0 [] := by
  have h := oMn (base' := w.heap.size) (own_empty (w.alloc (.cells #[.slice O1 n c, .slice O2 m d] 30)) 65 4) (by simp)
  rwa [show (w.alloc (.cells #[.slice O1 n c, .slice O2 m d] 30)).heap.size = w.heap.size + 1 from by simp] at h
 go_enter Tryz.func43, Tryz.ntmps43
 go_wp2_with fail
 generalize ((w.alloc (.cells #[.slice O1 n c, .slice O2 m d] 30)).alloc (.cells #[] 65)) = w0 at *
 refine (spec_BookOkO O1 n c O2 m d za zb w0 ((ha.below hb0).more hb0.size) ((hb.below hb0).more hb0.size) hn hm hO1 hO2).mono ?_
 generalize hbk : bookB za n zb m = bk
 rintro e w1 ⟨rfl, hb1⟩
 have k0 := (hb1.block w.heap.size (by omega)).trans k0
 have hown := oBw hown0 hb1
 have hs1 := Nat.lt_of_lt_of_le hs0 hb1.size
 have x0 := cell_of_row w1 w.heap.size 0 _ _ (0, 0) k0
 have x1 := cell_of_row w1 w.heap.size 1 _ _ (0, 0) k0
 simp at x0 x1
 have hb1 := hb0.trans (hb1.mono hb0.size)
 clear k1 hb0 hs0 hown0
 have HBK := Lib.hid hbk
 cases bk
 · clear hbk
   go_wp2_with fail
   go_ret
   exact ⟨⟨_, rfl, by rw [HBK.out, (cr_no rfl).1, (cr_no rfl).2]; exact hown⟩, hb1⟩
 clear hbk
 go_wp2_with fail
 refine (spec_isSide side w1).mono ?_
 rintro e w2 ⟨rfl, rfl⟩
 rcases side_cases side with ⟨rfl, hok⟩ | ⟨rfl, hok⟩ | ⟨h1, h2, hok⟩
 rotate_left 2
 · have HX := Lib.hid (show crOk true side lim = false from by unfold crOk; rw [hok]; rfl)
   rw [hok]
   clear h1 h2 hok
   go_wp2_with fail
   go_ret
   exact ⟨⟨_, rfl, by rw [HBK.out, (cr_no HX.out).1, (cr_no HX.out).2]; exact hown⟩, hb1⟩
 · rw [hok]
   go_wp2_with fail
   refine (l1In_any lim 0 1000000 w1).mono ?_
   rintro e w2 ⟨rfl, rfl⟩
   have hX := k0
   rcases Bool.eq_false_or_eq_true (inB 0 lim 1000000) with hlim | hlim
   · have HX := Lib.hid hX
     have HO := Lib.hid (show crOk true 1 lim = true from by unfold crOk; rw [hok, hlim]; rfl)
     have HN := Lib.hid (crN_1 (lim := lim) (za := za) (zb := zb) (n := n) (m := m) HO.out)
     have HZ := Lib.hid (crZ_1 (lim := lim) (za := za) (zb := zb) (n := n) (m := m) HO.out)
     rw [hlim]
     clear hok hlim
     go_upto_region 4 with fail
     refine wp_region_held_drew (S := (fun w' => Below w1.heap.size w1 w' ∧ w'.cell? ⟨w.heap.size, 0, none⟩ = some (.slice O1 n c) ∧ w'.cell? ⟨w.heap.size, 1, none⟩ = some (.slice O2 m d))) (by kernel_rfl) ?hSq1xs (fun zH => ?restq1xs)
     case hSq1xs => (exact kp2)
     refine tkV 0 ?_
     refine tkV 1 ?_
     refine rd1 2 (fun K hK => ?_)
     go_simp
     (go_at_call 69; refine (spec_other1 _).mono ?_; rintro e w' ⟨rfl, rfl⟩)
     refine hK.out _ _ ?hSq1x3 (fun zH => ?restq1x3)
     case hSq1x3 => (exact kp2)
     clear hK K
     try simp only [Act.put, sA, sB, sC]
     refine rd1 3 (fun K hK => ?_)
     go_simp
     (go_at_call 44; refine (spec_l2ListO O1 n c O2 m d 2 _).mono ?_; simp only [show ((2 : Int) = 1) = False from by simp, if_false]; rintro e w3 ⟨rfl, hb3⟩)
     refine hK.out _ _ ?hSq1x4 (fun zH => ?restq1x4)
     case hSq1x4 => (exact kp2)
     clear hK K
     try simp only [Act.put, sA, sB, sC]
     refine tkV 4 ?_
     refine dn1 ?_
     obtain ⟨hb3, _, _⟩ := zH
     have hown3 := oBw hown hb3
     have hbel3 := hb1.trans (hb3.mono hb1.size)
     have hl3 := hb.below hbel3
     clear hown hb3 x0 x1 hX
     have hlen := hb.1
     generalize O2 = ax at *
     go_wp2_with fail
     go_loopw [9, 7] (fun i r wr => ∃ k : Nat, k ≤ m ∧ i = .int .i64 (k : Int) ∧ (∀ j, j < k → meetB 1 lim (price zb j) = true) ∧ wr.ownsRow w.heap.size 65 4 r k (ordV zb k) ∧ Below w.heap.size w wr) (fun i _ _ => m - (intOf i).toNat)
     case atStart => exact ⟨0, Nat.zero_le _, rfl, fun j hj => absurd hj (Nat.not_lt_zero j), hown3, hbel3⟩
     case round =>
      obtain ⟨k, hk, rfl, hall, hown, hbel⟩ := hrel
      have HA := Lib.hid hall
      obtain ⟨A2, d2, rfl, _, _⟩ := oSl hown
      clear hall hown3 hbel3
      by_cases hlt : k < m
      · obtain ⟨b, o, hax, hbo, c0, c1, c2, c3⟩ := (hb.below hbel).row4 hlt
        subst hax
        rcases Bool.eq_false_or_eq_true (meetB 1 lim (price zb k)) with hmt | hmt
        · have HM := Lib.hid hmt
          clear hmt
          go_wp2_with fail
          refine (spec_meets 1 lim _ _).mono ?_
          rw [show meetB 1 lim (num zb (k * 4 + 2)) = true from HM.out]
          rintro e w5 ⟨rfl, rfl⟩
          have hbs := hbel.size
          have hov := hown.lt
          go_wp2_with (at_builtin; refine wpList_append_own_at _ rfl _ _ 28 rfl w.heap.size 65 i0 _ 4 32 Tryz.underlying28 hi hz0 hz1 hz2 rfl (by decide) _ _ _ rfl (hown.alloc _) ⟨wr.heap.size, 0, none⟩ 1 1 [.int .i64 (num zb (k * 4)), .int .i64 (num zb (k * 4 + 1)), .int .i64 (num zb (k * 4 + 2)), .int .i64 (num zb (k * 4 + 3))] rfl rfl (World.news_of_block (heap_alloc_new wr _)) (by intro u hu; simp at hu; rcases hu with rfl | rfl | rfl | rfl <;> rfl) (by unfold maxLen; omega) (by omega) (by simp; omega) ?_)
          intro v' w2 hown2 hgrow2 _ _
          have hbel2 := (hbel.alloc hbs (.cells #[.int .i64 (num zb (k * 4)), .int .i64 (num zb (k * 4 + 1)), .int .i64 (num zb (k * 4 + 2)), .int .i64 (num zb (k * 4 + 3))] 65)).grown hgrow2 (by simp; omega) (fun q hq => (hov q hq).1)
          obtain ⟨A3, d3, rfl, _, _⟩ := oSl hown2
          have HO2 := Lib.hid hown2
          have HB2 := Lib.hid hbel2
          clear hbel2 hgrow2 hown2 hbel hown c0 c1 c2 c3
          go_wp2_with fail
          go_roundw
          case rel => exact ⟨k + 1, by omega, by go_num, fun j hj => by
           rcases Nat.lt_or_ge j k with h | h
           · exact HA.out j h
           · obtain rfl : j = k := by omega
             exact HM.out, HO2.out, HB2.out⟩
          case measure => simp [intOf]; omega
        · have HM := Lib.hid hmt
          have HL := Lib.hid (lead_one m (fun k => meetB 1 lim (price zb k)) k hk HA.out (.inr hmt))
          clear hmt
          go_wp2_with fail
          refine (spec_meets 1 lim _ _).mono ?_
          rw [show meetB 1 lim (num zb (k * 4 + 2)) = false from HM.out]
          rintro e w5 ⟨rfl, rfl⟩
          go_wp2_with fail
          go_ret
          exact ⟨⟨_, rfl, by rw [HBK.out, HN.out, HZ.out, HL.out]; exact crossed_ord hown (by omega)⟩, hbel⟩
      · obtain rfl : k = m := by omega
        have HL := Lib.hid (lead_one k (fun k => meetB 1 lim (price zb k)) k hk HA.out (.inl rfl))
        go_wp2_with fail
        go_ret
        exact ⟨⟨_, rfl, by rw [HBK.out, HN.out, HZ.out, HL.out]; exact crossed_ord hown (by omega)⟩, hbel⟩
   · have HX := Lib.hid (show crOk true 1 lim = false from by unfold crOk; rw [hok, hlim]; rfl)
     rw [hlim]
     clear hok hlim
     go_wp2_with fail
     go_ret
     exact ⟨⟨_, rfl, by rw [HBK.out, (cr_no HX.out).1, (cr_no HX.out).2]; exact hown⟩, hb1⟩
 · rw [hok]
   go_wp2_with fail
   refine (l1In_any lim 0 1000000 w1).mono ?_
   rintro e w2 ⟨rfl, rfl⟩
   have hX := k0
   rcases Bool.eq_false_or_eq_true (inB 0 lim 1000000) with hlim | hlim
   · have HX := Lib.hid hX
     have HO := Lib.hid (show crOk true 2 lim = true from by unfold crOk; rw [hok, hlim]; rfl)
     have HN := Lib.hid (crN_2 (lim := lim) (za := za) (zb := zb) (n := n) (m := m) HO.out)
     have HZ := Lib.hid (crZ_2 (lim := lim) (za := za) (zb := zb) (n := n) (m := m) HO.out)
     rw [hlim]
     clear hok hlim
     go_upto_region 4 with fail
     refine wp_region_held_drew (S := (fun w' => Below w1.heap.size w1 w' ∧ w'.cell? ⟨w.heap.size, 0, none⟩ = some (.slice O1 n c) ∧ w'.cell? ⟨w.heap.size, 1, none⟩ = some (.slice O2 m d))) (by kernel_rfl) ?hSq2xs (fun zH => ?restq2xs)
     case hSq2xs => (exact kp2)
     refine tkV 0 ?_
     refine tkV 1 ?_
     refine rd1 2 (fun K hK => ?_)
     go_simp
     (go_at_call 69; refine (spec_other2 _).mono ?_; rintro e w' ⟨rfl, rfl⟩)
     refine hK.out _ _ ?hSq2x3 (fun zH => ?restq2x3)
     case hSq2x3 => (exact kp2)
     clear hK K
     try simp only [Act.put, sA, sB, sC]
     refine rd1 3 (fun K hK => ?_)
     go_simp
     (go_at_call 44; refine (spec_l2ListO O1 n c O2 m d 1 _).mono ?_; simp only [if_pos]; rintro e w3 ⟨rfl, hb3⟩)
     refine hK.out _ _ ?hSq2x4 (fun zH => ?restq2x4)
     case hSq2x4 => (exact kp2)
     clear hK K
     try simp only [Act.put, sA, sB, sC]
     refine tkV 4 ?_
     refine dn1 ?_
     obtain ⟨hb3, _, _⟩ := zH
     have hown3 := oBw hown hb3
     have hbel3 := hb1.trans (hb3.mono hb1.size)
     have hl3 := ha.below hbel3
     clear hown hb3 x0 x1 hX
     have hlen := ha.1
     generalize O1 = ax at *
     go_wp2_with fail
     go_loopw [9, 7] (fun i r wr => ∃ k : Nat, k ≤ n ∧ i = .int .i64 (k : Int) ∧ (∀ j, j < k → meetB 2 lim (price za j) = true) ∧ wr.ownsRow w.heap.size 65 4 r k (ordV za k) ∧ Below w.heap.size w wr) (fun i _ _ => n - (intOf i).toNat)
     case atStart => exact ⟨0, Nat.zero_le _, rfl, fun j hj => absurd hj (Nat.not_lt_zero j), hown3, hbel3⟩
     case round =>
      obtain ⟨k, hk, rfl, hall, hown, hbel⟩ := hrel
      have HA := Lib.hid hall
      obtain ⟨A2, d2, rfl, _, _⟩ := oSl hown
      clear hall hown3 hbel3
      by_cases hlt : k < n
      · obtain ⟨b, o, hax, hbo, c0, c1, c2, c3⟩ := (ha.below hbel).row4 hlt
        subst hax
        rcases Bool.eq_false_or_eq_true (meetB 2 lim (price za k)) with hmt | hmt
        · have HM := Lib.hid hmt
          clear hmt
          go_wp2_with fail
          refine (spec_meets 2 lim _ _).mono ?_
          rw [show meetB 2 lim (num za (k * 4 + 2)) = true from HM.out]
          rintro e w5 ⟨rfl, rfl⟩
          have hbs := hbel.size
          have hov := hown.lt
          go_wp2_with (at_builtin; refine wpList_append_own_at _ rfl _ _ 28 rfl w.heap.size 65 i0 _ 4 32 Tryz.underlying28 hi hz0 hz1 hz2 rfl (by decide) _ _ _ rfl (hown.alloc _) ⟨wr.heap.size, 0, none⟩ 1 1 [.int .i64 (num za (k * 4)), .int .i64 (num za (k * 4 + 1)), .int .i64 (num za (k * 4 + 2)), .int .i64 (num za (k * 4 + 3))] rfl rfl (World.news_of_block (heap_alloc_new wr _)) (by intro u hu; simp at hu; rcases hu with rfl | rfl | rfl | rfl <;> rfl) (by unfold maxLen; omega) (by omega) (by simp; omega) ?_)
          intro v' w2 hown2 hgrow2 _ _
          have hbel2 := (hbel.alloc hbs (.cells #[.int .i64 (num za (k * 4)), .int .i64 (num za (k * 4 + 1)), .int .i64 (num za (k * 4 + 2)), .int .i64 (num za (k * 4 + 3))] 65)).grown hgrow2 (by simp; omega) (fun q hq => (hov q hq).1)
          obtain ⟨A3, d3, rfl, _, _⟩ := oSl hown2
          have HO2 := Lib.hid hown2
          have HB2 := Lib.hid hbel2
          clear hbel2 hgrow2 hown2 hbel hown c0 c1 c2 c3
          go_wp2_with fail
          go_roundw
          case rel => exact ⟨k + 1, by omega, by go_num, fun j hj => by
           rcases Nat.lt_or_ge j k with h | h
           · exact HA.out j h
           · obtain rfl : j = k := by omega
             exact HM.out, HO2.out, HB2.out⟩
          case measure => simp [intOf]; omega
        · have HM := Lib.hid hmt
          have HL := Lib.hid (lead_one n (fun k => meetB 2 lim (price za k)) k hk HA.out (.inr hmt))
          clear hmt
          go_wp2_with fail
          refine (spec_meets 2 lim _ _).mono ?_
          rw [show meetB 2 lim (num za (k * 4 + 2)) = false from HM.out]
          rintro e w5 ⟨rfl, rfl⟩
          go_wp2_with fail
          go_ret
          exact ⟨⟨_, rfl, by rw [HBK.out, HN.out, HZ.out, HL.out]; exact crossed_ord hown (by omega)⟩, hbel⟩
      · obtain rfl : k = n := by omega
        have HL := Lib.hid (lead_one k (fun k => meetB 2 lim (price za k)) k hk HA.out (.inl rfl))
        go_wp2_with fail
        go_ret
        exact ⟨⟨_, rfl, by rw [HBK.out, HN.out, HZ.out, HL.out]; exact crossed_ord hown (by omega)⟩, hbel⟩
   · have HX := Lib.hid (show crOk true 2 lim = false from by unfold crOk; rw [hok, hlim]; rfl)
     rw [hlim]
     clear hok hlim
     go_wp2_with fail
     go_ret
     exact ⟨⟨_, rfl, by rw [HBK.out, (cr_no HX.out).1, (cr_no HX.out).2]; exact hown⟩, hb1⟩
end Go.Proofs.YtgjjdnojiegidaaGreatDoor
