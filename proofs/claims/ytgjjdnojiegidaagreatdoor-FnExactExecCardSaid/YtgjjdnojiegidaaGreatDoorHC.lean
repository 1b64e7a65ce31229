/-
 Side, Opened, BookZ, Find, FindS, Sides, Best, Cross.
-/
import Derived.Test.YtgjjdnojiegidaaGreatDoorTak
import Derived.Test.YtgjjdnojiegidaaGreatDoorBookX
import Derived.Test.YtgjjdnojiegidaaGreatDoorBookT
namespace Go.Proofs.YtgjjdnojiegidaaGreatDoor
open Go.RowKit Wire
set_option maxHeartbeats 3200000
set_option maxRecDepth 100000
set_option linter.unusedSimpArgs false

def ordV (zs : List Int) : Nat → List Value
 | 0 => []
 | k + 1 => ordV zs k ++ [.int .i64 (num zs (k * 4)), .int .i64 (num zs (k * 4 + 1)), .int .i64 (num zs (k * 4 + 2)), .int .i64 (num zs (k * 4 + 3))]
theorem ordV_eq {zs : List Int} : ∀ n, n * 4 ≤ zs.length → ordV zs n = nums (zs.take (n * 4))
 | 0, _ => by simp [ordV, nums]
 | n + 1, h => by
  have g : ∀ i, i < zs.length → zs[i]? = some (num zs i) := fun i hi => by simp [num, List.getD, hi]
  rw [ordV, ordV_eq n (by omega), show (n + 1) * 4 = n * 4 + 1 + 1 + 1 + 1 from by omega, List.take_add_one, List.take_add_one, List.take_add_one, List.take_add_one, g _ (by omega), g _ (by omega), g _ (by omega), g _ (by omega)]
  simp [nums]
theorem ordV_all {zs : List Int} {n : Nat} (h : zs.length = n * 4) : ordV zs n = nums zs := by
 rw [ordV_eq n (by omega), ← h, List.take_length]
theorem impl_closedSide (X S L n : Nat) (side : Int) (zs : List Int) (v : Value) (gs : Nat → Nat) (w : World) (hop : Opened w X S L 2 106 101 (.func (.func 77) #[] #[.pointer (some ⟨S, 0, none⟩)]) side zs n v gs) (hcp : Copies w X S L 65 zs n v gs) (hn : n ≤ 1048576) (hz : zs.length = n * 4) :
 Calls Tryz.prog 52 #[.pointer (some ⟨L, 0, none⟩)] w fun e w' => ∃ r, e = .returned r ∧ w'.ownsRow w.heap.size 65 4 r n (nums zs) ∧ Below w.heap.size w w' := by
 obtain ⟨i0, hi, hz0, hz1, hz2⟩ := info_parts ord_info
 have cL := cell_of_row w L 0 _ _ (0, 0) hop.list
 simp at cL
 obtain ⟨A1, d1, hv, _, _⟩ := oSl hop.own
 subst hv
 go_enter Tryz.func52, Tryz.ntmps52
 go_wp2_with fail
 clear cL
 go_loopw [11, 3] (fun i r wr => ∃ k : Nat, k ≤ n ∧ i = .int .i64 (k : Int) ∧ wr.ownsRow w.heap.size 65 4 r k (ordV zs k) ∧ Below w.heap.size w wr) (fun i _ _ => n - (intOf i).toNat)
 case atStart => exact ⟨0, Nat.zero_le _, rfl, World.ownsRow_nil _ _ _ _, Below.refl _ _⟩
 case round =>
  obtain ⟨k, hk, rfl, hown, hbel⟩ := hrel
  obtain ⟨A2, d2, rfl, _, _⟩ := oSl hown
  by_cases hlt : k < n
  · obtain ⟨g, cap, hg, _, _⟩ := hop.own.form (by omega)
    injection hg with hg1 hg2 hg3
    subst hg1 hg3
    have hopr := hop.below hbel
    have hcpr := hcp.below hbel
    have p0 := hopr.own.cells (g := g) rfl k _ (ptrs_at gs n k hlt)
    rw [add0 g] at p0
    have q0 := (hcpr k hlt).2.2.2.2.cell (i := 0) (by omega)
    have q1 := (hcpr k hlt).2.2.2.2.cell (i := 1) (by omega)
    have q2 := (hcpr k hlt).2.2.2.2.cell (i := 2) (by omega)
    have q3 := (hcpr k hlt).2.2.2.2.cell (i := 3) (by omega)
    simp only [numAt, Nat.add_zero] at q0 q1 q2 q3
    have hbs := hbel.size
    have hov := hown.lt
    clear hopr hcpr
    go_wp2_with (at_builtin; refine wpList_append_own_at _ rfl _ _ 28 rfl w.heap.size 65 i0 _ 4 32 Tryz.underlying28 hi hz0 hz1 hz2 rfl (by decide) _ _ _ rfl (hown.alloc _) ⟨wr.heap.size, 0, none⟩ 1 1 [.int .i64 (num zs (k * 4)), .int .i64 (num zs (k * 4 + 1)), .int .i64 (num zs (k * 4 + 2)), .int .i64 (num zs (k * 4 + 3))] rfl rfl ?c1 ?c2 ?c3 ?c4 ?c5 ?_)
    case c2 => exact ⟨rfl, rfl, rfl, rfl⟩
    case c3 => unfold maxLen; omega
    case c4 => omega
    case c5 => omega
    intro v' w2 hown2 hgrow2 _ hat2
    have hbel2 := (hbel.alloc hbs (.cells #[.int .i64 (num zs (k * 4)), .int .i64 (num zs (k * 4 + 1)), .int .i64 (num zs (k * 4 + 2)), .int .i64 (num zs (k * 4 + 3))] 65)).grown hgrow2 (by simp; omega) (fun q hq => (hov q hq).1)
    obtain ⟨A3, d3, rfl, _, _⟩ := oSl hown2
    have HO := Lib.hid hown2
    have HB := Lib.hid hbel2
    clear hbel2 hgrow2 hat2 hown2 hbel hown p0 q0 q1 q2 q3
    go_wp2_with fail
    go_roundw
    case rel => exact ⟨k + 1, by omega, by go_num, HO.out, HB.out⟩
    case measure => simp [intOf]; omega
  · obtain rfl : k = n := by omega
    rw [ordV_all hz] at hown
    go_wp2_with fail
    go_ret
    exact ⟨_, rfl, hown, hbel⟩
end Go.Proofs.YtgjjdnojiegidaaGreatDoor

namespace Go.Proofs.YtgjjdnojiegidaaGreatDoor
open Go.RowKit Wire
set_option maxHeartbeats 3200000
set_option maxRecDepth 100000
set_option linter.unusedSimpArgs false

theorem Opened.set {w : World} {X S L : Nat} {T0 T1 T2 : TypeId} {F : Value} {side : Int} {zs : List Int} {n : Nat} {v : Value} {gs : Nat → Nat} (h : Opened w X S L T0 T1 T2 F side zs n v gs) (g i : Nat) (u : Value) (hg : g < X) : Opened (w.setCell ⟨g, i, none⟩ u) X S L T0 T1 T2 F side zs n v gs :=
 ⟨h.low, (Below.heap_setCell w _ u S (by have := h.low.1; show S ≠ g; omega)).trans h.side, (Below.heap_setCell w _ u L (by have := h.low.2.1; show L ≠ g; omega)).trans h.list, h.own.kept (set_grown w g i u) (.inr (fun e => by have := (h.own.lt g e).1; omega)), h.far⟩
theorem Copies.set {w : World} {X S L : Nat} {T : TypeId} {zs : List Int} {n : Nat} {v : Value} {gs : Nat → Nat} (h : Copies w X S L T zs n v gs) (g i : Nat) (u : Value) (hg : g < X) : Copies (w.setCell ⟨g, i, none⟩ u) X S L T zs n v gs := fun k hk => by
 obtain ⟨h1, h2, h3, h4, h5⟩ := h k hk
 exact ⟨h1, h2, h3, h4, h5.setOther (a := ⟨g, i, none⟩) (by show gs k ≠ g; omega) _⟩
theorem zS1 {w : World} {L : Nat} {a b u : Value} {T : TypeId} (h : w.heap[L]? = some (.cells #[a, b] T (0, 0))) : (w.setCell ⟨L, 1, none⟩ u).heap[L]? = some (.cells #[a, u] T (0, 0)) := by
 simp [World.setCell, Array.getElem?_modify, h]
theorem impl_opened (A : Option Addr) (n c : Nat) (B : Option Addr) (m d : Nat) (za zb : List Int) (w : World) (ha : Lst w w.heap.size 4 A n za) (hb : Lst w w.heap.size 4 B m zb) (hn : n ≤ 1048576) (hm : m ≤ 1048576) :
 Calls Tryz.prog 24 #[.agg #[.slice A n c, .slice B m d]] w fun e w' => ∃ X1 S1 L1 v1 gs1 X2 S2 L2 v2 gs2, e = .returned (.agg #[.pointer (some ⟨L1, 0, none⟩), .pointer (some ⟨L2, 0, none⟩)]) ∧ (Opened w' X1 S1 L1 2 106 101 (.func (.func 77) #[] #[.pointer (some ⟨S1, 0, none⟩)]) 1 za n v1 gs1 ∧ Copies w' X1 S1 L1 65 za n v1 gs1) ∧ (Opened w' X2 S2 L2 2 106 101 (.func (.func 77) #[] #[.pointer (some ⟨S2, 0, none⟩)]) 2 zb m v2 gs2 ∧ Copies w' X2 S2 L2 65 zb m v2 gs2) ∧ w.heap.size ≤ X1 ∧ X1 ≤ X2 ∧ (S1 < X2 ∧ L1 < X2 ∧ (∀ q, v1.ownBlock = some q → q < X2) ∧ ∀ k, k < n → gs1 k < X2) ∧ Below w.heap.size w w' := by
 obtain ⟨k0, k1⟩ := two_blocks w (.cells #[.slice A n c, .slice B m d] 30) (.cells #[.pointer none, .pointer none] 55)
 have hb0 : Below w.heap.size w ((w.alloc (.cells #[.slice A n c, .slice B m d] 30)).alloc (.cells #[.pointer none, .pointer none] 55)) := ((Below.refl _ _).alloc (Nat.le_refl _) _).alloc (by simp) _
 have hs0 : w.heap.size + 1 < ((w.alloc (.cells #[.slice A n c, .slice B m d] 30)).alloc (.cells #[.pointer none, .pointer none] 55)).heap.size := by simp
 go_enter Tryz.func24, Tryz.ntmps24
 go_upto_region 1 with fail
 generalize ((w.alloc (.cells #[.slice A n c, .slice B m d] 30)).alloc (.cells #[.pointer none, .pointer none] 55)) = w0 at *
 have p0 := cell_of_row w0 w.heap.size 0 _ _ (0, 0) k0
 have p1 := cell_of_row w0 w.heap.size 1 _ _ (0, 0) k0
 simp at p0 p1
 refine wp_region_held_drew (S := (fun w' => Below w.heap.size w w' ∧ w'.cell? ⟨w.heap.size, 0, none⟩ = some (.slice A n c) ∧ w'.cell? ⟨w.heap.size, 1, none⟩ = some (.slice B m d) ∧ w.heap.size + 1 < w'.heap.size ∧ ∃ x y, w'.heap[w.heap.size + 1]? = some (.cells #[x, y] 55 (0, 0)))) (by kernel_rfl) ?hS0 (fun zH => ?rest0)
 case hS0 => exact ⟨hb0.drew, p0, p1, hs0, _, _, k1⟩
 refine tkV 0 ?_
 refine tkV 1 ?_
 refine tkV 3 ?_
 refine tkV 4 ?_
 refine rd1 2 (fun K hK => ?_)
 have hG1 := zH.2.2.2.1
 go_simp
 go_at_call 51
 refine (impl_openedSide A n c za 1 _ ((ha.below zH.1).more zH.1.size) hn).mono ?_
 rintro e u1 ⟨S1, L1, v1, gs1, rfl, hop1, hcp1, hb1'⟩
 refine hK.out _ _ (⟨zH.1.trans (hb1'.mono zH.1.size), (hb1'.cell (p := ⟨w.heap.size, 0, none⟩) (show w.heap.size < _ by omega)).trans zH.2.1, (hb1'.cell (p := ⟨w.heap.size, 1, none⟩) (show w.heap.size < _ by omega)).trans zH.2.2.1, Nat.lt_of_lt_of_le hG1 hb1'.size, by obtain ⟨x, y, h⟩ := zH.2.2.2.2; exact ⟨x, y, (hb1'.block _ hG1).trans h⟩⟩) (fun zH => ?_)
 clear hK K
 try simp only [Act.put, sA, sB, sC]
 have hN1 : S1 < u1.heap.size ∧ L1 < u1.heap.size ∧ (∀ q, v1.ownBlock = some q → q < u1.heap.size) ∧ ∀ k, k < n → gs1 k < u1.heap.size := ⟨hlT hop1.side, hlT hop1.list, fun q hq => (hop1.own.lt q hq).2, fun k hk => (hcp1 k hk).2.2.2.2.lt⟩
 refine rd1 5 (fun K hK => ?_)
 have hG2 := zH.2.2.2.1
 go_simp
 go_at_call 51
 refine (impl_openedSide B m d zb 2 _ ((hb.below zH.1).more zH.1.size) hm).mono ?_
 rintro e u2 ⟨S2, L2, v2, gs2, rfl, hop2, hcp2, hb2'⟩
 refine hK.out _ _ (⟨zH.1.trans (hb2'.mono zH.1.size), (hb2'.cell (p := ⟨w.heap.size, 0, none⟩) (show w.heap.size < _ by omega)).trans zH.2.1, (hb2'.cell (p := ⟨w.heap.size, 1, none⟩) (show w.heap.size < _ by omega)).trans zH.2.2.1, Nat.lt_of_lt_of_le hG2 hb2'.size, by obtain ⟨x, y, h⟩ := zH.2.2.2.2; exact ⟨x, y, (hb2'.block _ hG2).trans h⟩⟩) (fun zH => ?_)
 clear hK K
 try simp only [Act.put, sA, sB, sC]
 have hop1 := hop1.below hb2'
 have hcp1 := hcp1.below hb2'
 obtain ⟨x, y, hr⟩ := zH.2.2.2.2
 refine tkV 6 ?_
 refine rd1 7 (fun K hK => ?_)
 have hX := zH
 have r0 := cell_of_row u2 (w.heap.size + 1) 0 _ _ (0, 0) hr
 have r1 := cell_of_row u2 (w.heap.size + 1) 1 _ _ (0, 0) hr
 have z0 := frozen_of_row u2 (w.heap.size + 1) 0 _ _ hr
 have z1 := frozen_of_row u2 (w.heap.size + 1) 1 _ _ hr
 simp at r0 r1
 go_simp
 refine hK.out _ _ (⟨(hX.1.setCell (p := ⟨w.heap.size + 1, 0, none⟩) (show w.heap.size ≤ w.heap.size + 1 by omega) _).setCell (p := ⟨w.heap.size + 1, 1, none⟩) (show w.heap.size ≤ w.heap.size + 1 by omega) _, by simp [go_sem, hX.2.1], by simp [go_sem, hX.2.2.1], by simpa [World.setCell] using hX.2.2.2.1, _, _, zS1 (zS0 hr)⟩) (fun zH => ?_)
 clear hK K
 try simp only [Act.put, sA, sB, sC]
 refine dn1 ?_
 have f0 := cell_of_row _ (w.heap.size + 1) 0 _ _ (0, 0) (zS1 (b := y) (u := .pointer (some ⟨L2, 0, none⟩)) (zS0 (u := .pointer (some ⟨L1, 0, none⟩)) hr))
 have f1 := cell_of_row _ (w.heap.size + 1) 1 _ _ (0, 0) (zS1 (b := y) (u := .pointer (some ⟨L2, 0, none⟩)) (zS0 (u := .pointer (some ⟨L1, 0, none⟩)) hr))
 simp at f0 f1
 have hz1 := hb1'.size
 go_wp2_with fail
 refine bodyPost_ret (v := .agg #[.pointer (some ⟨L1, 0, none⟩), .pointer (some ⟨L2, 0, none⟩)]) (by simp [results, Tryz.results24, go_sem, f0, f1]) rfl ⟨_, S1, L1, v1, gs1, _, S2, L2, v2, gs2, rfl, ⟨(hop1.set _ _ _ ?_).set _ _ _ ?_, (hcp1.set _ _ _ ?_).set _ _ _ ?_⟩, ⟨(hop2.set _ _ _ ?_).set _ _ _ ?_, (hcp2.set _ _ _ ?_).set _ _ _ ?_⟩, ?_, ?_, hN1, zH.1⟩ <;> omega
end Go.Proofs.YtgjjdnojiegidaaGreatDoor

namespace Go.Proofs.YtgjjdnojiegidaaGreatDoor
open Go.RowKit Wire
set_option maxHeartbeats 3200000
set_option maxRecDepth 100000
set_option linter.unusedSimpArgs false
open Go.Maps (Keyed int_keyed)
set_option maxHeartbeats 3200000
set_option maxRecDepth 100000
set_option linter.unusedSimpArgs false

theorem impl_idsDiffer (A : Option Addr) (n c : Nat) (B : Option Addr) (m d : Nat) (za zb : List Int) (w : World) (ha : Lst w w.heap.size 4 A n za) (hb : Lst w w.heap.size 4 B m zb) (hn : n ≤ 20) (hm : m ≤ 20) (hI : ∀ k, k < n + m → I64 (idA za n zb k)) :
 Calls Tryz.prog 49 #[.agg #[.slice A n c, .slice B m d]] w fun e w' => e = .returned (.bool (distB (idA za n zb) (n + m))) ∧ Below w.heap.size w w' := by
 have hb0 : Below w.heap.size w ((w.alloc (.cells #[.slice A n c, .slice B m d] 30)).alloc (.map #[] 0)) := ((Below.refl _ _).alloc (Nat.le_refl _) _).alloc (by simp) _
 have k0 : ((w.alloc (.cells #[.slice A n c, .slice B m d] 30)).alloc (.map #[] 0)).heap[w.heap.size]? = some (.cells #[.slice A n c, .slice B m d] 30 (0, 0)) := (Below.heap_alloc _ _ _ (by simp)).trans (heap_alloc_new w _)
 have hown0 : ((w.alloc (.cells #[.slice A n c, .slice B m d] 30)).alloc (.map #[] 0)).ownsMap Tryz.prog 2 (plainElem (H := Unit) Tryz.prog 4) (w.heap.size + 1) 0 (seenD (idA za n zb) 0) := by
  have := World.ownsMap_made (w.alloc (.cells #[.slice A n c, .slice B m d] 30)) Tryz.prog 2 (plainElem (H := Unit) Tryz.prog 4)
  have e : (w.alloc (.cells #[.slice A n c, .slice B m d] 30)).heap.size = w.heap.size + 1 := by simp
  rw [e] at this
  exact this
 have hmm := @run_makeMap Tryz.prog
 have HSZ := Lib.hid (show Maps.size (seenD (idA za n zb) (n + m)) = cntB (idA za n zb) (n + m) from seen_size _ _)
 have HIF := Lib.hid (cntB_iff (idA za n zb) (n + m))
 have HLE := Lib.hid (cntB_le (idA za n zb) (n + m))
 go_enter Tryz.func49, Tryz.ntmps49
 go_wp2_with fail
 go_loopw [12] (fun i wr => ∃ k : Nat, k ≤ n ∧ i = .int .i64 (k : Int) ∧ wr.ownsMap Tryz.prog 2 (plainElem (H := Unit) Tryz.prog 4) (w.heap.size + 1) k (seenD (idA za n zb) k) ∧ wr.heap[w.heap.size]? = some (.cells #[.slice A n c, .slice B m d] 30 (0, 0)) ∧ Below w.heap.size w wr) (fun i _ => n - (intOf i).toNat)
 case atStart => exact ⟨0, Nat.zero_le _, rfl, hown0, k0, hb0⟩
 case round =>
  clear hown0 k0 hb0 hmm
  obtain ⟨k, hk, rfl, hown, hbx, hbel⟩ := hrel
  by_cases hltk : k < n
  · skip
    obtain ⟨b, o, rfl, hb, c0, c1, c2, c3⟩ := (ha.below hbel).row4 hltk
    have hq : num za (k * 4) = idA za n zb (k) := by unfold idA; rw [if_pos hltk]
    have hwf := hI (k) (by omega)
    rw [hq] at c0
    have HB := Lib.hid hbel
    have hown1 := hown.alloc (.cells #[.int .i64 (idA za n zb (k)), .int .i64 (num za (k * 4 + 1)), .int .i64 (num za (k * 4 + 2)), .int .i64 (num za (k * 4 + 3))] 65)
    have hbel1 := hbel.alloc hbel.size (.cells #[.int .i64 (idA za n zb (k)), .int .i64 (num za (k * 4 + 1)), .int .i64 (num za (k * 4 + 2)), .int .i64 (num za (k * 4 + 3))] 65)
    have hbx1 := (Below.heap_alloc wr (.cells #[.int .i64 (idA za n zb (k)), .int .i64 (num za (k * 4 + 1)), .int .i64 (num za (k * 4 + 2)), .int .i64 (num za (k * 4 + 3))] 65) w.heap.size (hlT hbx)).trans hbx
    have hkey := Maps.keyOf_int_mk (P := Tryz.prog) (k := 2) (q := .i64) Tryz.underlying2 (a := idA za n zb (k)) (by simp only [Lit.wf, Bool.and_eq_true, decide_eq_true_eq]; exact hwf)
    have hsz1 : w.heap.size + 1 < wr.heap.size := hown.lt
    clear hbel hown hbx hb
    go_wp2_with (at_mapUpdate; refine wpList_mapUpdate_own _ rfl _ _ _ 102 rfl 2 4 (int_keyed Tryz.underlying2) Tryz.underlying102 _ (w.heap.size + 1) (k) _ rfl hown1 (by unfold maxLen; omega) _ _ _ rfl rfl hkey _ [] (plainElem_bool Tryz.underlying4 true) ?_; intro w2 hown2 hgrow2)
    have hbel2 := hbel1.grown hgrow2 (by simp; omega) (fun q hq => by injection hq with hq; omega)
    have hbx2 := (hgrow2.block w.heap.size (by simp; omega) (fun e => by injection e with e; omega)).trans hbx1
    clear hgrow2 hbel1 hbx1 hown1
    go_wp2_with fail
    go_roundw
    case rel => exact ⟨k + 1, by omega, by go_num, hown2, hbx2, hbel2⟩
    case measure => simp [intOf]; omega
  · obtain rfl : k = n := by omega
    have x0 := cell_of_row wr w.heap.size 0 _ _ (0, 0) hbx
    have x1 := cell_of_row wr w.heap.size 1 _ _ (0, 0) hbx
    simp at x0 x1
    go_wp2_with fail
    go_loopw [23] (fun i wr => ∃ j : Nat, j ≤ m ∧ i = .int .i64 (j : Int) ∧ wr.ownsMap Tryz.prog 2 (plainElem (H := Unit) Tryz.prog 4) (w.heap.size + 1) (k + j) (seenD (idA za k zb) (k + j)) ∧ wr.heap[w.heap.size]? = some (.cells #[.slice A k c, .slice B m d] 30 (0, 0)) ∧ Below w.heap.size w wr) (fun i _ => m - (intOf i).toNat)
    case atStart => exact ⟨0, Nat.zero_le _, rfl, hown, hbx, hbel⟩
    case round =>
     clear hown hbx hbel
     obtain ⟨j, hj, rfl, hown, hbx, hbel⟩ := hrel
     by_cases hltj : j < m
     · skip
       obtain ⟨b, o, rfl, hb, c0, c1, c2, c3⟩ := (hb.below hbel).row4 hltj
       have hq : num zb (j * 4) = idA za k zb (k + j) := by unfold idA; rw [if_neg (by omega), Nat.add_sub_cancel_left]
       have hwf := hI (k + j) (by omega)
       rw [hq] at c0
       have HB := Lib.hid hbel
       have hown1 := hown.alloc (.cells #[.int .i64 (idA za k zb (k + j)), .int .i64 (num zb (j * 4 + 1)), .int .i64 (num zb (j * 4 + 2)), .int .i64 (num zb (j * 4 + 3))] 65)
       have hbel1 := hbel.alloc hbel.size (.cells #[.int .i64 (idA za k zb (k + j)), .int .i64 (num zb (j * 4 + 1)), .int .i64 (num zb (j * 4 + 2)), .int .i64 (num zb (j * 4 + 3))] 65)
       have hbx1 := (Below.heap_alloc wr (.cells #[.int .i64 (idA za k zb (k + j)), .int .i64 (num zb (j * 4 + 1)), .int .i64 (num zb (j * 4 + 2)), .int .i64 (num zb (j * 4 + 3))] 65) w.heap.size (hlT hbx)).trans hbx
       have hkey := Maps.keyOf_int_mk (P := Tryz.prog) (k := 2) (q := .i64) Tryz.underlying2 (a := idA za k zb (k + j)) (by simp only [Lit.wf, Bool.and_eq_true, decide_eq_true_eq]; exact hwf)
       have hsz1 : w.heap.size + 1 < wr.heap.size := hown.lt
       clear hbel hown hbx hb
       go_wp2_with (at_mapUpdate; refine wpList_mapUpdate_own _ rfl _ _ _ 102 rfl 2 4 (int_keyed Tryz.underlying2) Tryz.underlying102 _ (w.heap.size + 1) (k + j) _ rfl hown1 (by unfold maxLen; omega) _ _ _ rfl rfl hkey _ [] (plainElem_bool Tryz.underlying4 true) ?_; intro w2 hown2 hgrow2)
       have hbel2 := hbel1.grown hgrow2 (by simp; omega) (fun q hq => by injection hq with hq; omega)
       have hbx2 := (hgrow2.block w.heap.size (by simp; omega) (fun e => by injection e with e; omega)).trans hbx1
       clear hgrow2 hbel1 hbx1 hown1
       go_wp2_with fail
       go_roundw
       case rel => exact ⟨j + 1, by omega, by go_num, hown2, hbx2, hbel2⟩
       case measure => simp [intOf]; omega
     · obtain rfl : j = m := by omega
       have y0 := cell_of_row wr w.heap.size 0 _ _ (0, 0) hbx
       have y1 := cell_of_row wr w.heap.size 1 _ _ (0, 0) hbx
       simp at y0 y1
       rcases Bool.eq_false_or_eq_true (distB (idA za k zb) (k + j)) with hd | hd
       · have hC : (((cntB (idA za k zb) (k + j) : Nat) : Int) == (k : Int) + (j : Int)) = true := beq_iff_eq.2 (by have := HIF.out.2 hd; omega)
         have HD := Lib.hid hd
         clear hd
         go_wp2_with (at_len; refine wpList_len_own _ rfl _ 102 rfl 2 4 Tryz.underlying102 _ (w.heap.size + 1) (k + j) _ rfl hown ?_; rw [HSZ.out])
         go_ret
         exact ⟨by rw [HD.out]; rfl, hbel⟩
       · have hC : (((cntB (idA za k zb) (k + j) : Nat) : Int) == (k : Int) + (j : Int)) = false := beq_eq_false_iff_ne.2 (fun e => by
          have := HIF.out.1 (by omega)
          rw [hd] at this
          cases this)
         have HD := Lib.hid hd
         clear hd
         go_wp2_with (at_len; refine wpList_len_own _ rfl _ 102 rfl 2 4 Tryz.underlying102 _ (w.heap.size + 1) (k + j) _ rfl hown ?_; rw [HSZ.out])
         go_ret
         exact ⟨by rw [HD.out]; rfl, hbel⟩
theorem ids_in {za zb : List Int} {n m : Nat} (h1 : allO za n = true) (h2 : allO zb m = true) : ∀ k, k < n + m → I64 (idA za n zb k) := fun k hk => by
 unfold idA
 have key : ∀ zs q, ordB zs q = true → I64 (num zs (q * 4)) := fun zs q h => by
  unfold ordB inB at h
  simp only [Bool.and_eq_true, decide_eq_true_eq] at h
  exact ⟨by omega, by omega⟩
 split
 · exact key _ _ (allO_at n k h1 (by assumption))
 · exact key _ _ (allO_at m _ h2 (by omega))
theorem impl_BookOk (A : Option Addr) (n c : Nat) (B : Option Addr) (m d : Nat) (za zb : List Int) (w : World) (ha : Lst w w.heap.size 4 A n za) (hb : Lst w w.heap.size 4 B m zb) (hn : n ≤ 1048576) (hm : m ≤ 1048576) :
 Calls Tryz.prog 22 #[.agg #[.slice A n c, .slice B m d]] w fun e w' => e = .returned (.bool (bookB za n zb m)) ∧ Below w.heap.size w w' := by
 have hb0 : Below w.heap.size w (w.alloc (.cells #[.slice A n c, .slice B m d] 30)) := (Below.refl _ _).alloc (Nat.le_refl _) _
 have k0 : (w.alloc (.cells #[.slice A n c, .slice B m d] 30)).heap[w.heap.size]? = some (.cells #[.slice A n c, .slice B m d] 30 (0, 0)) := heap_alloc_new w _
 have hs0 : w.heap.size < (w.alloc (.cells #[.slice A n c, .slice B m d] 30)).heap.size := by simp
 have HC := Lib.hid (show bookB za n zb m = (sideB 1 za n && (sideB 2 zb m && (!crossB za n zb m && distB (idA za n zb) (n + m)))) from rfl)
 have HA := Lib.hid (show sideB 1 za n = true → n ≤ 20 ∧ allO za n = true from fun h => by unfold sideB at h; simp only [Bool.and_eq_true, decide_eq_true_eq] at h; exact ⟨h.1, h.2.1⟩)
 have HB := Lib.hid (show sideB 2 zb m = true → m ≤ 20 ∧ allO zb m = true from fun h => by unfold sideB at h; simp only [Bool.and_eq_true, decide_eq_true_eq] at h; exact ⟨h.1, h.2.1⟩)
 go_enter Tryz.func22, Tryz.ntmps22
 go_wp2_with fail
 generalize (w.alloc (.cells #[.slice A n c, .slice B m d] 30)) = w0 at *
 refine (impl_ordersOk A n c za 1 w0 ((ha.below hb0).more hb0.size) hn).mono ?_
 rcases Bool.eq_false_or_eq_true (sideB 1 za n) with h1 | h1
 · have H1 := Lib.hid h1
   rw [h1]
   rintro e w1 ⟨rfl, hb1⟩
   have k1 := (hb1.block w.heap.size hs0).trans k0
   have x0 := cell_of_row w1 w.heap.size 0 _ _ (0, 0) k1
   have x1 := cell_of_row w1 w.heap.size 1 _ _ (0, 0) k1
   simp at x0 x1
   have hs1 := hb1.size
   have hb1 := hb0.trans (hb1.mono hb0.size)
   clear k0 hb0 h1
   go_wp2_with fail
   refine (impl_ordersOk B m d zb 2 w1 ((hb.below hb1).more hb1.size) hm).mono ?_
   rcases Bool.eq_false_or_eq_true (sideB 2 zb m) with h2 | h2
   · have H2 := Lib.hid h2
     rw [h2]
     rintro e w2 ⟨rfl, hb2⟩
     have k2 := (hb2.block w.heap.size (by omega)).trans k1
     have y0 := cell_of_row w2 w.heap.size 0 _ _ (0, 0) k2
     have y1 := cell_of_row w2 w.heap.size 1 _ _ (0, 0) k2
     simp at y0 y1
     have hs2 := hb2.size
     have hb2 := hb1.trans (hb2.mono hb1.size)
     clear k1 hb1 h2 x0 x1
     go_wp2_with fail
     refine (impl_crossed A n c B m d za zb w2 ((ha.below hb2).more hb2.size) ((hb.below hb2).more hb2.size)).mono ?_
     rcases Bool.eq_false_or_eq_true (crossB za n zb m) with h3 | h3
     · have H3 := Lib.hid h3
       rw [h3]
       rintro e w3 ⟨rfl, hb3⟩
       have hb3 := hb2.trans (hb3.mono hb2.size)
       clear h3 k2
       go_wp2_with fail
       go_ret
       exact ⟨by rw [HC.out, H1.out, H2.out, H3.out]; rfl, hb3⟩
     · have H3 := Lib.hid h3
       rw [h3]
       rintro e w3 ⟨rfl, hb3⟩
       have k3 := (hb3.block w.heap.size (by omega)).trans k2
       have z0 := cell_of_row w3 w.heap.size 0 _ _ (0, 0) k3
       have z1 := cell_of_row w3 w.heap.size 1 _ _ (0, 0) k3
       simp at z0 z1
       have hb3 := hb2.trans (hb3.mono hb2.size)
       clear h3 k2 k3 y0 y1
       go_wp2_with fail
       refine (impl_idsDiffer A n c B m d za zb w3 ((ha.below hb3).more hb3.size) ((hb.below hb3).more hb3.size) (HA.out H1.out).1 (HB.out H2.out).1 (ids_in (HA.out H1.out).2 (HB.out H2.out).2)).mono ?_
       rintro e w4 ⟨rfl, hb4⟩
       have hb4 := hb3.trans (hb4.mono hb3.size)
       clear hb3 hb2
       go_wp2_with fail
       go_ret
       exact ⟨by rw [HC.out, H1.out, H2.out, H3.out]; rfl, hb4⟩
   · have H2 := Lib.hid h2
     rw [h2]
     rintro e w2 ⟨rfl, hb2⟩
     have hb2 := hb1.trans (hb2.mono hb1.size)
     clear h2 k1
     go_wp2_with fail
     go_ret
     exact ⟨by rw [HC.out, H1.out, H2.out]; rfl, hb2⟩
 · have H1 := Lib.hid h1
   rw [h1]
   rintro e w1 ⟨rfl, hb1⟩
   have hb1 := hb0.trans (hb1.mono hb0.size)
   clear h1 k0
   go_wp2_with fail
   go_ret
   exact ⟨by rw [HC.out, H1.out]; rfl, hb1⟩
end Go.Proofs.YtgjjdnojiegidaaGreatDoor

namespace Go.Proofs.YtgjjdnojiegidaaGreatDoor
open Go.RowKit Wire
set_option maxHeartbeats 3200000
set_option maxRecDepth 100000
set_option linter.unusedSimpArgs false

def FindRel (bk : Bool) (za : List Int) (n : Nat) (zb : List Int) (m : Nat) (id s : Int) (f : Nat → Int) (ok : Bool) : Prop :=
 (bk = true ∧ ∃ k : Nat, k < n ∧ (∀ j, j < k → idN za j ≠ id) ∧ idN za k = id ∧ s = 1 ∧ ok = true ∧ ∀ j, j < 4 → f j = num za (k * 4 + j)) ∨
 (bk = true ∧ (∀ j, j < n → idN za j ≠ id) ∧ ∃ k : Nat, k < m ∧ (∀ j, j < k → idN zb j ≠ id) ∧ idN zb k = id ∧ s = 2 ∧ ok = true ∧ ∀ j, j < 4 → f j = num zb (k * 4 + j)) ∨
 ((bk = false ∨ ((∀ j, j < n → idN za j ≠ id) ∧ ∀ j, j < m → idN zb j ≠ id)) ∧ s = 0 ∧ ok = false ∧ ∀ j, j < 4 → f j = 0)
theorem first_one {f : Nat → Int} {x : Int} {k l : Nat} (h1 : ∀ j, j < k → f j ≠ x) (h2 : f k = x) (h3 : ∀ j, j < l → f j ≠ x) (h4 : f l = x) : k = l := by
 rcases Nat.lt_trichotomy k l with h | h | h
 · exact absurd h2 (h3 k h)
 · exact h
 · exact absurd h4 (h1 l h)
theorem FindRel.one {bk : Bool} {za zb : List Int} {n m : Nat} {id s t : Int} {f g : Nat → Int} {ok is : Bool} (h : FindRel bk za n zb m id s f ok) (k : FindRel bk za n zb m id t g is) : s = t ∧ ok = is ∧ ∀ j, j < 4 → f j = g j := by
 rcases h with ⟨h0, K, h1, h2, h3, h4, h5, h6⟩ | ⟨h0, hn, K, h1, h2, h3, h4, h5, h6⟩ | ⟨h0, h4, h5, h6⟩ <;> rcases k with ⟨k0, L, k1, k2, k3, k4, k5, k6⟩ | ⟨k0, kn, L, k1, k2, k3, k4, k5, k6⟩ | ⟨k0, k4, k5, k6⟩
 · obtain rfl := first_one h2 h3 k2 k3
   exact ⟨by omega, by rw [h5, k5], fun j hj => (h6 j hj).trans (k6 j hj).symm⟩
 · exact absurd h3 (kn K h1)
 · rcases k0 with k0 | ⟨k0, _⟩
   · rw [h0] at k0; cases k0
   · exact absurd h3 (k0 K h1)
 · exact absurd k3 (hn L k1)
 · obtain rfl := first_one h2 h3 k2 k3
   exact ⟨by omega, by rw [h5, k5], fun j hj => (h6 j hj).trans (k6 j hj).symm⟩
 · rcases k0 with k0 | ⟨_, k0⟩
   · rw [h0] at k0; cases k0
   · exact absurd h3 (k0 K h1)
 · rcases h0 with h0 | ⟨h0, _⟩
   · rw [k0] at h0; cases h0
   · exact absurd k3 (h0 L k1)
 · rcases h0 with h0 | ⟨_, h0⟩
   · rw [k0] at h0; cases h0
   · exact absurd k3 (h0 L k1)
 · exact ⟨by omega, by rw [h5, k5], fun j hj => (h6 j hj).trans (k6 j hj).symm⟩
theorem impl_Find (A : Option Addr) (n c : Nat) (B : Option Addr) (m d : Nat) (za zb : List Int) (id : Int) (w : World) (ha : Lst w w.heap.size 4 A n za) (hb : Lst w w.heap.size 4 B m zb) (hn : n ≤ 1048576) (hm : m ≤ 1048576) :
 Calls Tryz.prog 56 #[.agg #[.slice A n c, .slice B m d], .int .i64 id] w fun e w' => (∃ s f ok, FindRel (bookB za n zb m) za n zb m id s f ok ∧ e = .returned (.tuple #[.int .i64 s, .agg #[.int .i64 (f 0), .int .i64 (f 1), .int .i64 (f 2), .int .i64 (f 3)], .bool ok])) ∧ Below w.heap.size w w' := by
 obtain ⟨k0, k1⟩ := two_blocks w (.cells #[.slice A n c, .slice B m d] 30) (.cells #[.int .i64 0, .int .i64 0, .int .i64 0, .int .i64 0] 65)
 have hb0 : Below w.heap.size w ((w.alloc (.cells #[.slice A n c, .slice B m d] 30)).alloc (.cells #[.int .i64 0, .int .i64 0, .int .i64 0, .int .i64 0] 65)) := ((Below.refl _ _).alloc (Nat.le_refl _) _).alloc (by simp) _
 have hs0 : w.heap.size + 1 < ((w.alloc (.cells #[.slice A n c, .slice B m d] 30)).alloc (.cells #[.int .i64 0, .int .i64 0, .int .i64 0, .int .i64 0] 65)).heap.size := by simp
 go_enter Tryz.func56, Tryz.ntmps56
 go_wp2_with fail
 generalize ((w.alloc (.cells #[.slice A n c, .slice B m d] 30)).alloc (.cells #[.int .i64 0, .int .i64 0, .int .i64 0, .int .i64 0] 65)) = w0 at *
 refine (impl_BookOk A n c B m d za zb w0 ((ha.below hb0).more hb0.size) ((hb.below hb0).more hb0.size) hn hm).mono ?_
 generalize hbk : bookB za n zb m = bk
 rintro e w1 ⟨rfl, hb1⟩
 have k0 := (hb1.block w.heap.size (by omega)).trans k0
 have k1 := (hb1.block (w.heap.size + 1) hs0).trans k1
 have hs1 := hb1.size
 have hb1 := hb0.trans (hb1.mono hb0.size)
 have x0 := cell_of_row w1 w.heap.size 0 _ _ (0, 0) k0
 have x1 := cell_of_row w1 w.heap.size 1 _ _ (0, 0) k0
 simp at x0 x1
 have r0 := cell_of_row w1 (w.heap.size + 1) 0 _ _ (0, 0) k1
 have r1 := cell_of_row w1 (w.heap.size + 1) 1 _ _ (0, 0) k1
 have r2 := cell_of_row w1 (w.heap.size + 1) 2 _ _ (0, 0) k1
 have r3 := cell_of_row w1 (w.heap.size + 1) 3 _ _ (0, 0) k1
 have z0 := frozen_of_row w1 (w.heap.size + 1) 0 _ _ k1
 have z1 := frozen_of_row w1 (w.heap.size + 1) 1 _ _ k1
 have z2 := frozen_of_row w1 (w.heap.size + 1) 2 _ _ k1
 have z3 := frozen_of_row w1 (w.heap.size + 1) 3 _ _ k1
 simp at r0 r1 r2 r3
 clear hb0
 cases bk
 · go_wp2_with fail
   refine bodyPost_ret (v := .tuple #[.int .i64 0, .agg #[.int .i64 0, .int .i64 0, .int .i64 0, .int .i64 0], .bool false]) (by simp [results, Tryz.results56, go_sem, r0, r1, r2, r3]) rfl ⟨⟨0, fun _ => 0, false, .inr (.inr ⟨.inl hbk, rfl, rfl, fun _ _ => rfl⟩), rfl⟩, ?_⟩
   exact below_put4 hb1 (show w.heap.size ≤ w.heap.size + 1 by omega) 0 1 2 3 _ _ _ _
 · go_wp2_with fail
   go_loopw [18] (fun i wr => ∃ k : Nat, k ≤ n ∧ i = .int .i64 (k : Int) ∧ (∀ j, j < k → idN za j ≠ id) ∧ Below w.heap.size w wr ∧ Below w1.heap.size w1 wr) (fun i _ => n - (intOf i).toNat)
   case atStart => exact ⟨0, Nat.zero_le _, rfl, fun j hj => absurd hj (Nat.not_lt_zero j), hb1, Below.refl _ _⟩
   case round =>
    obtain ⟨k, hk, rfl, hno, hbel, hbq⟩ := hrel
    have HN := Lib.hid hno
    have HB := Lib.hid hbel
    have HQ := Lib.hid hbq
    have k0r := (hbq.block w.heap.size (by omega)).trans k0
    have k1r := (hbq.block (w.heap.size + 1) (by omega)).trans k1
    have hsr := hbq.size
    clear hno x0 x1 r0 r1 r2 r3 z0 z1 z2 z3
    by_cases hlt : k < n
    · obtain ⟨b, o, rfl, hbo, c0, c1, c2, c3⟩ := (ha.below hbel).row4 hlt
      have HI := Lib.hid (show idN za k = num za (k * 4) from rfl)
      clear hbel hbq
      rcases Bool.eq_false_or_eq_true (num za (k * 4) == id) with hyx | hyx
      · have HX := Lib.hid (beq_iff_eq.1 hyx)
        go_upto_region 7 with fail
        have hR := (Below.heap_alloc wr (.cells #[.int .i64 (num za (k * 4)), .int .i64 (num za (k * 4 + 1)), .int .i64 (num za (k * 4 + 2)), .int .i64 (num za (k * 4 + 3))] 65) (w.heap.size + 1) (by omega)).trans k1r
        have hba := HB.out.alloc HB.out.size (.cells #[.int .i64 (num za (k * 4)), .int .i64 (num za (k * 4 + 1)), .int .i64 (num za (k * 4 + 2)), .int .i64 (num za (k * 4 + 3))] 65)
        have hO : (wr.alloc (.cells #[.int .i64 (num za (k * 4)), .int .i64 (num za (k * 4 + 1)), .int .i64 (num za (k * 4 + 2)), .int .i64 (num za (k * 4 + 3))] 65)).heap[wr.heap.size]? = some (.cells #[.int .i64 (num za (k * 4)), .int .i64 (num za (k * 4 + 1)), .int .i64 (num za (k * 4 + 2)), .int .i64 (num za (k * 4 + 3))] 65 (0, 0)) := heap_alloc_new wr _
        generalize wr.alloc (.cells #[.int .i64 (num za (k * 4)), .int .i64 (num za (k * 4 + 1)), .int .i64 (num za (k * 4 + 2)), .int .i64 (num za (k * 4 + 3))] 65) = W at *
        have hne : w.heap.size + 1 ≠ wr.heap.size := by omega
        generalize wr.heap.size = G at *
        have r0 := cell_of_row W (w.heap.size + 1) 0 _ _ (0, 0) hR
        have r1 := cell_of_row W (w.heap.size + 1) 1 _ _ (0, 0) hR
        have r2 := cell_of_row W (w.heap.size + 1) 2 _ _ (0, 0) hR
        have r3 := cell_of_row W (w.heap.size + 1) 3 _ _ (0, 0) hR
        have z0 := frozen_of_row W (w.heap.size + 1) 0 _ _ hR
        have z1 := frozen_of_row W (w.heap.size + 1) 1 _ _ hR
        have z2 := frozen_of_row W (w.heap.size + 1) 2 _ _ hR
        have z3 := frozen_of_row W (w.heap.size + 1) 3 _ _ hR
        simp at r0 r1 r2 r3
        have o0 := cell_of_row W G 0 _ _ (0, 0) hO
        have o1 := cell_of_row W G 1 _ _ (0, 0) hO
        have o2 := cell_of_row W G 2 _ _ (0, 0) hO
        have o3 := cell_of_row W G 3 _ _ (0, 0) hO
        simp at o0 o1 o2 o3
        go_region
        all_goals
         go_wp2_with fail
         refine bodyPost_ret (v := .tuple #[.int .i64 1, .agg #[.int .i64 (num za (k * 4)), .int .i64 (num za (k * 4 + 1)), .int .i64 (num za (k * 4 + 2)), .int .i64 (num za (k * 4 + 3))], .bool true]) (by simp [results, Tryz.results56, go_sem, r0, r1, r2, r3]) rfl ⟨⟨1, fun j => num za (k * 4 + j), true, .inl ⟨hbk, k, hlt, HN.out, HI.out.trans HX.out, rfl, rfl, fun _ _ => rfl⟩, rfl⟩, ?_⟩
         exact (below_put4 hba (show w.heap.size ≤ w.heap.size + 1 by omega) 0 1 2 3 _ _ _ _).drew
      · have HX : Hid (num za (k * 4) ≠ id) := Lib.hid (by simpa using hyx)
        go_wp2_with fail
        go_roundw
        case rel => exact ⟨k + 1, by omega, by go_num, fun j hj => by
         rcases Nat.lt_or_ge j k with h | h
         · exact HN.out j h
         · obtain rfl : j = k := by omega
           rw [HI.out]
           exact HX.out, HB.out.alloc HB.out.size _, HQ.out.alloc HQ.out.size _⟩
        case measure => simp [intOf]; omega
    · obtain rfl : k = n := by omega
      have x0 := cell_of_row wr w.heap.size 0 _ _ (0, 0) k0r
      have x1 := cell_of_row wr w.heap.size 1 _ _ (0, 0) k0r
      simp at x0 x1
      clear hbel hbq k0 k1
      go_wp2_with fail
      go_loopw [31] (fun i wq => ∃ l : Nat, l ≤ m ∧ i = .int .i64 (l : Int) ∧ (∀ j, j < l → idN zb j ≠ id) ∧ Below w.heap.size w wq ∧ Below wr.heap.size wr wq) (fun i _ => m - (intOf i).toNat)
      case atStart => exact ⟨0, Nat.zero_le _, rfl, fun j hj => absurd hj (Nat.not_lt_zero j), HB.out, Below.refl _ _⟩
      case round =>
       clear x0 x1
       obtain ⟨l, hl, rfl, hno2, hbel, hbq⟩ := hrel
       have HM := Lib.hid hno2
       have HB2 := Lib.hid hbel
       have HQ2 := Lib.hid hbq
       have k1q := (hbq.block (w.heap.size + 1) (by omega)).trans k1r
       have hsq := hbq.size
       clear hno2
       by_cases hlm : l < m
       · obtain ⟨b, o, rfl, hbo, c0, c1, c2, c3⟩ := (hb.below hbel).row4 hlm
         have HI := Lib.hid (show idN zb l = num zb (l * 4) from rfl)
         clear hbel hbq
         rcases Bool.eq_false_or_eq_true (num zb (l * 4) == id) with hyx | hyx
         · have HX := Lib.hid (beq_iff_eq.1 hyx)
           go_upto_region 13 with fail
           have hR := (Below.heap_alloc wr (.cells #[.int .i64 (num zb (l * 4)), .int .i64 (num zb (l * 4 + 1)), .int .i64 (num zb (l * 4 + 2)), .int .i64 (num zb (l * 4 + 3))] 65) (w.heap.size + 1) (by omega)).trans k1q
           have hba := HB2.out.alloc HB2.out.size (.cells #[.int .i64 (num zb (l * 4)), .int .i64 (num zb (l * 4 + 1)), .int .i64 (num zb (l * 4 + 2)), .int .i64 (num zb (l * 4 + 3))] 65)
           have hO : (wr.alloc (.cells #[.int .i64 (num zb (l * 4)), .int .i64 (num zb (l * 4 + 1)), .int .i64 (num zb (l * 4 + 2)), .int .i64 (num zb (l * 4 + 3))] 65)).heap[wr.heap.size]? = some (.cells #[.int .i64 (num zb (l * 4)), .int .i64 (num zb (l * 4 + 1)), .int .i64 (num zb (l * 4 + 2)), .int .i64 (num zb (l * 4 + 3))] 65 (0, 0)) := heap_alloc_new wr _
           generalize wr.alloc (.cells #[.int .i64 (num zb (l * 4)), .int .i64 (num zb (l * 4 + 1)), .int .i64 (num zb (l * 4 + 2)), .int .i64 (num zb (l * 4 + 3))] 65) = W at *
           have hne : w.heap.size + 1 ≠ wr.heap.size := by omega
           generalize wr.heap.size = G at *
           have r0 := cell_of_row W (w.heap.size + 1) 0 _ _ (0, 0) hR
           have r1 := cell_of_row W (w.heap.size + 1) 1 _ _ (0, 0) hR
           have r2 := cell_of_row W (w.heap.size + 1) 2 _ _ (0, 0) hR
           have r3 := cell_of_row W (w.heap.size + 1) 3 _ _ (0, 0) hR
           have z0 := frozen_of_row W (w.heap.size + 1) 0 _ _ hR
           have z1 := frozen_of_row W (w.heap.size + 1) 1 _ _ hR
           have z2 := frozen_of_row W (w.heap.size + 1) 2 _ _ hR
           have z3 := frozen_of_row W (w.heap.size + 1) 3 _ _ hR
           simp at r0 r1 r2 r3
           have o0 := cell_of_row W G 0 _ _ (0, 0) hO
           have o1 := cell_of_row W G 1 _ _ (0, 0) hO
           have o2 := cell_of_row W G 2 _ _ (0, 0) hO
           have o3 := cell_of_row W G 3 _ _ (0, 0) hO
           simp at o0 o1 o2 o3
           go_region
           all_goals
            go_wp2_with fail
            refine bodyPost_ret (v := .tuple #[.int .i64 2, .agg #[.int .i64 (num zb (l * 4)), .int .i64 (num zb (l * 4 + 1)), .int .i64 (num zb (l * 4 + 2)), .int .i64 (num zb (l * 4 + 3))], .bool true]) (by simp [results, Tryz.results56, go_sem, r0, r1, r2, r3]) rfl ⟨⟨2, fun j => num zb (l * 4 + j), true, .inr (.inl ⟨hbk, HN.out, l, hlm, HM.out, HI.out.trans HX.out, rfl, rfl, fun _ _ => rfl⟩), rfl⟩, ?_⟩
            exact (below_put4 hba (show w.heap.size ≤ w.heap.size + 1 by omega) 0 1 2 3 _ _ _ _).drew
         · have HX : Hid (num zb (l * 4) ≠ id) := Lib.hid (by simpa using hyx)
           go_wp2_with fail
           go_roundw
           case rel => exact ⟨l + 1, by omega, by go_num, fun j hj => by
            rcases Nat.lt_or_ge j l with h | h
            · exact HM.out j h
            · obtain rfl : j = l := by omega
              rw [HI.out]
              exact HX.out, HB2.out.alloc HB2.out.size _, HQ2.out.alloc HQ2.out.size _⟩
           case measure => simp [intOf]; omega
       · obtain rfl : l = m := by omega
         have r0 := cell_of_row wr (w.heap.size + 1) 0 _ _ (0, 0) k1q
         have r1 := cell_of_row wr (w.heap.size + 1) 1 _ _ (0, 0) k1q
         have r2 := cell_of_row wr (w.heap.size + 1) 2 _ _ (0, 0) k1q
         have r3 := cell_of_row wr (w.heap.size + 1) 3 _ _ (0, 0) k1q
         have z0 := frozen_of_row wr (w.heap.size + 1) 0 _ _ k1q
         have z1 := frozen_of_row wr (w.heap.size + 1) 1 _ _ k1q
         have z2 := frozen_of_row wr (w.heap.size + 1) 2 _ _ k1q
         have z3 := frozen_of_row wr (w.heap.size + 1) 3 _ _ k1q
         simp at r0 r1 r2 r3
         clear hbq
         go_wp2_with fail
         refine bodyPost_ret (v := .tuple #[.int .i64 0, .agg #[.int .i64 0, .int .i64 0, .int .i64 0, .int .i64 0], .bool false]) (by simp [results, Tryz.results56, go_sem, r0, r1, r2, r3]) rfl ⟨⟨0, fun _ => 0, false, .inr (.inr ⟨.inr ⟨HN.out, HM.out⟩, rfl, rfl, fun _ _ => rfl⟩), rfl⟩, ?_⟩
         exact below_put4 hbel (show w.heap.size ≤ w.heap.size + 1 by omega) 0 1 2 3 _ _ _ _
end Go.Proofs.YtgjjdnojiegidaaGreatDoor

namespace Go.Proofs.YtgjjdnojiegidaaGreatDoor
open Go.RowKit Wire
set_option maxHeartbeats 3200000
set_option maxRecDepth 100000
set_option linter.unusedSimpArgs false

theorem spec_l2ListO (O1 : Option Addr) (n c : Nat) (O2 : Option Addr) (m d : Nat) (side : Int) (w : World) :
 Calls Tryz.prog 44 #[.agg #[.slice O1 n c, .slice O2 m d], .int .i64 side] w fun e w' => e = .returned (if side = 1 then .slice O1 n c else .slice O2 m d) ∧ Below w.heap.size w w' := by
 by_cases h : side = 1
 · subst h
   rw [if_pos rfl]
   go_enter Tryz.func44, Tryz.ntmps44
   go_wp2_with fail
   go_ret
   exact ⟨rfl, by go_grown⟩
 · rw [if_neg h]
   have t : (side == 1) = false := beq_eq_false_iff_ne.2 h
   go_enter Tryz.func44, Tryz.ntmps44
   go_wp2_with fail
   go_ret
   exact ⟨rfl, by go_grown⟩
theorem spec_FindO (A1 : Option Addr) (n c : Nat) (A2 : Option Addr) (m d : Nat) (za zb : List Int) (id : Int) (w : World) (ha : Lst w w.heap.size 4 A1 n za) (hb : Lst w w.heap.size 4 A2 m zb) (hn : n ≤ 1048576) (hm : m ≤ 1048576) (hA1 : A1 = none → n = 0 ∧ c = 0) (hA2 : A2 = none → m = 0 ∧ d = 0) :
 Calls Tryz.prog 38 #[.agg #[.slice A1 n c, .slice A2 m d], .int .i64 id] w fun e w' => (∃ s f ok, FindRel (bookB za n zb m) za n zb m id s f ok ∧ e = .returned (.tuple #[.int .i64 s, .agg #[.int .i64 (f 0), .int .i64 (f 1), .int .i64 (f 2), .int .i64 (f 3)], .bool ok])) ∧ Below w.heap.size w w' := by
 obtain ⟨k0, k1⟩ := two_blocks w (.cells #[.slice A1 n c, .slice A2 m d] 30) (.cells #[.int .i64 0, .int .i64 0, .int .i64 0, .int .i64 0] 65)
 have hb0 : Below w.heap.size w ((w.alloc (.cells #[.slice A1 n c, .slice A2 m d] 30)).alloc (.cells #[.int .i64 0, .int .i64 0, .int .i64 0, .int .i64 0] 65)) := ((Below.refl _ _).alloc (Nat.le_refl _) _).alloc (by simp) _
 have hs0 : w.heap.size + 1 < ((w.alloc (.cells #[.slice A1 n c, .slice A2 m d] 30)).alloc (.cells #[.int .i64 0, .int .i64 0, .int .i64 0, .int .i64 0] 65)).heap.size := by simp
 go_enter Tryz.func38, Tryz.ntmps38
 go_wp2_with fail
 generalize ((w.alloc (.cells #[.slice A1 n c, .slice A2 m d] 30)).alloc (.cells #[.int .i64 0, .int .i64 0, .int .i64 0, .int .i64 0] 65)) = w0 at *
 generalize hbk : bookB za n zb m = bk
 go_loopw [7] (fun i wr => ∃ s : Int, i = .int .i64 s ∧ (s = 1 ∨ (s = 2 ∧ ∀ j, j < n → idN za j ≠ id) ∨ (s = 3 ∧ (∀ j, j < n → idN za j ≠ id) ∧ ∀ j, j < m → idN zb j ≠ id)) ∧ Below w.heap.size w wr ∧ wr.heap[w.heap.size]? = some (.cells #[.slice A1 n c, .slice A2 m d] 30 (0, 0)) ∧ wr.heap[w.heap.size + 1]? = some (.cells #[.int .i64 0, .int .i64 0, .int .i64 0, .int .i64 0] 65 (0, 0)) ∧ w.heap.size + 1 < wr.heap.size) (fun i _ => 4 - (intOf i).toNat)
 case atStart => exact ⟨1, rfl, .inl rfl, hb0, k0, k1, hs0⟩
 case round =>
  clear k0 k1 hb0 hs0
  obtain ⟨s, rfl, hs, hbel, k0, k1, hsz⟩ := hrel
  have HS := Lib.hid hs
  have x0 := cell_of_row wr w.heap.size 0 _ _ (0, 0) k0
  have x1 := cell_of_row wr w.heap.size 1 _ _ (0, 0) k0
  simp at x0 x1
  go_wp2_with fail
  refine (spec_BookOkO A1 n c A2 m d za zb wr ((ha.below hbel).more hbel.size) ((hb.below hbel).more hbel.size) hn hm hA1 hA2).mono ?_
  rw [hbk]
  rintro e w2 ⟨rfl, hb2⟩
  have k0 := (hb2.block w.heap.size (by omega)).trans k0
  have k1 := (hb2.block (w.heap.size + 1) (by omega)).trans k1
  have hsz2 := hb2.size
  have hbel := hbel.trans (hb2.mono hbel.size)
  clear hb2
  clear x0 x1
  have x0 := cell_of_row w2 w.heap.size 0 _ _ (0, 0) k0
  have x1 := cell_of_row w2 w.heap.size 1 _ _ (0, 0) k0
  simp at x0 x1
  have r0 := cell_of_row w2 (w.heap.size + 1) 0 _ _ (0, 0) k1
  have r1 := cell_of_row w2 (w.heap.size + 1) 1 _ _ (0, 0) k1
  have r2 := cell_of_row w2 (w.heap.size + 1) 2 _ _ (0, 0) k1
  have r3 := cell_of_row w2 (w.heap.size + 1) 3 _ _ (0, 0) k1
  have z0 := frozen_of_row w2 (w.heap.size + 1) 0 _ _ k1
  have z1 := frozen_of_row w2 (w.heap.size + 1) 1 _ _ k1
  have z2 := frozen_of_row w2 (w.heap.size + 1) 2 _ _ k1
  have z3 := frozen_of_row w2 (w.heap.size + 1) 3 _ _ k1
  simp at r0 r1 r2 r3
  cases bk
  · go_wp2_with fail
    refine bodyPost_ret (v := .tuple #[.int .i64 0, .agg #[.int .i64 0, .int .i64 0, .int .i64 0, .int .i64 0], .bool false]) (by simp [results, Tryz.results38, go_sem, r0, r1, r2, r3]) rfl ⟨⟨0, fun _ => 0, false, .inr (.inr ⟨.inl hbk, rfl, rfl, fun _ _ => rfl⟩), rfl⟩, ?_⟩
    exact below_put4 hbel (show w.heap.size ≤ w.heap.size + 1 by omega) 0 1 2 3 _ _ _ _
  · rcases hs with rfl | ⟨rfl, hs⟩ | ⟨rfl, hs⟩
    · clear r0 r1 r2 r3 z0 z1 z2 z3
      go_wp2_with fail
      refine (spec_l2ListO A1 n c A2 m d 1 _).mono ?_
      rintro e w3 ⟨rfl, hb3⟩
      have k0 := (hb3.block w.heap.size (by omega)).trans k0
      have k1 := (hb3.block (w.heap.size + 1) (by omega)).trans k1
      have hsz3 := hb3.size
      have hbel := hbel.trans (hb3.mono hbel.size)
      clear hb3
      go_wp2_with fail
      refine (spec_l2At A1 n c za id w3 ((ha.below hbel).more hbel.size) (by omega)).mono ?_
      rintro e w4 ⟨⟨z, hz, rfl⟩, hb4⟩
      have k0 := (hb4.block w.heap.size (by omega)).trans k0
      have k1 := (hb4.block (w.heap.size + 1) (by omega)).trans k1
      have hsz4 := hb4.size
      have hbel := hbel.trans (hb4.mono hbel.size)
      clear hb4
      rcases hz with ⟨rfl, hnone⟩ | ⟨k, hlt, rfl, hit, hbefore⟩
      · have HX := Lib.hid hnone
        clear hnone
        go_wp2_with fail
        go_roundw
        case rel => exact ⟨2, rfl, .inr (.inl ⟨rfl, HX.out⟩), hbel, k0, k1, by omega⟩
        case measure => simp [intOf]
      · have HX := Lib.hid hit
        have HY := Lib.hid hbefore
        clear hbefore hit
        obtain ⟨b, o, e1, hbo, c0, c1, c2, c3⟩ := (ha.below hbel).row4 hlt
        subst e1
        have i1 : (0 : Int) ≤ (k : Int) := by omega
        have i2 : (k : Int) < (n : Int) := by omega
        have r0 := cell_of_row w4 (w.heap.size + 1) 0 _ _ (0, 0) k1
        have r1 := cell_of_row w4 (w.heap.size + 1) 1 _ _ (0, 0) k1
        have r2 := cell_of_row w4 (w.heap.size + 1) 2 _ _ (0, 0) k1
        have r3 := cell_of_row w4 (w.heap.size + 1) 3 _ _ (0, 0) k1
        have z0 := frozen_of_row w4 (w.heap.size + 1) 0 _ _ k1
        have z1 := frozen_of_row w4 (w.heap.size + 1) 1 _ _ k1
        have z2 := frozen_of_row w4 (w.heap.size + 1) 2 _ _ k1
        have z3 := frozen_of_row w4 (w.heap.size + 1) 3 _ _ k1
        simp at r0 r1 r2 r3
        go_upto_region 7 with fail
        go_region
        all_goals
         go_wp2_with fail
         refine bodyPost_ret (v := .tuple #[.int .i64 1, .agg #[.int .i64 (num za (k * 4)), .int .i64 (num za (k * 4 + 1)), .int .i64 (num za (k * 4 + 2)), .int .i64 (num za (k * 4 + 3))], .bool true]) (by simp [results, Tryz.results38, go_sem, r0, r1, r2, r3]) rfl ⟨⟨1, fun j => num za (k * 4 + j), true, .inl ⟨hbk, k, hlt, HY.out, HX.out, rfl, rfl, fun _ _ => rfl⟩, rfl⟩, ?_⟩
         first
          | exact (below_put4 hbel (show w.heap.size ≤ w.heap.size + 1 by omega) 0 1 2 3 _ _ _ _).drew
          | exact below_put4 hbel.drew (show w.heap.size ≤ w.heap.size + 1 by omega) 0 1 2 3 _ _ _ _
    · have HP := Lib.hid hs
      clear r0 r1 r2 r3 z0 z1 z2 z3 hs
      go_wp2_with fail
      refine (spec_l2ListO A1 n c A2 m d 2 _).mono ?_
      rintro e w3 ⟨rfl, hb3⟩
      have k0 := (hb3.block w.heap.size (by omega)).trans k0
      have k1 := (hb3.block (w.heap.size + 1) (by omega)).trans k1
      have hsz3 := hb3.size
      have hbel := hbel.trans (hb3.mono hbel.size)
      clear hb3
      go_wp2_with fail
      refine (spec_l2At A2 m d zb id w3 ((hb.below hbel).more hbel.size) (by omega)).mono ?_
      rintro e w4 ⟨⟨z, hz, rfl⟩, hb4⟩
      have k0 := (hb4.block w.heap.size (by omega)).trans k0
      have k1 := (hb4.block (w.heap.size + 1) (by omega)).trans k1
      have hsz4 := hb4.size
      have hbel := hbel.trans (hb4.mono hbel.size)
      clear hb4
      rcases hz with ⟨rfl, hnone⟩ | ⟨k, hlt, rfl, hit, hbefore⟩
      · have HX := Lib.hid hnone
        clear hnone
        go_wp2_with fail
        go_roundw
        case rel => exact ⟨3, rfl, .inr (.inr ⟨rfl, HP.out, HX.out⟩), hbel, k0, k1, by omega⟩
        case measure => simp [intOf]
      · have HX := Lib.hid hit
        have HY := Lib.hid hbefore
        clear hbefore hit
        obtain ⟨b, o, e1, hbo, c0, c1, c2, c3⟩ := (hb.below hbel).row4 hlt
        subst e1
        have i1 : (0 : Int) ≤ (k : Int) := by omega
        have i2 : (k : Int) < (m : Int) := by omega
        have r0 := cell_of_row w4 (w.heap.size + 1) 0 _ _ (0, 0) k1
        have r1 := cell_of_row w4 (w.heap.size + 1) 1 _ _ (0, 0) k1
        have r2 := cell_of_row w4 (w.heap.size + 1) 2 _ _ (0, 0) k1
        have r3 := cell_of_row w4 (w.heap.size + 1) 3 _ _ (0, 0) k1
        have z0 := frozen_of_row w4 (w.heap.size + 1) 0 _ _ k1
        have z1 := frozen_of_row w4 (w.heap.size + 1) 1 _ _ k1
        have z2 := frozen_of_row w4 (w.heap.size + 1) 2 _ _ k1
        have z3 := frozen_of_row w4 (w.heap.size + 1) 3 _ _ k1
        simp at r0 r1 r2 r3
        go_upto_region 7 with fail
        go_region
        all_goals
         go_wp2_with fail
         refine bodyPost_ret (v := .tuple #[.int .i64 2, .agg #[.int .i64 (num zb (k * 4)), .int .i64 (num zb (k * 4 + 1)), .int .i64 (num zb (k * 4 + 2)), .int .i64 (num zb (k * 4 + 3))], .bool true]) (by simp [results, Tryz.results38, go_sem, r0, r1, r2, r3]) rfl ⟨⟨2, fun j => num zb (k * 4 + j), true, .inr (.inl ⟨hbk, HP.out, k, hlt, HY.out, HX.out, rfl, rfl, fun _ _ => rfl⟩), rfl⟩, ?_⟩
         first
          | exact (below_put4 hbel (show w.heap.size ≤ w.heap.size + 1 by omega) 0 1 2 3 _ _ _ _).drew
          | exact below_put4 hbel.drew (show w.heap.size ≤ w.heap.size + 1 by omega) 0 1 2 3 _ _ _ _
    · have HP := Lib.hid hs
      clear hs
      go_wp2_with fail
      refine bodyPost_ret (v := .tuple #[.int .i64 0, .agg #[.int .i64 0, .int .i64 0, .int .i64 0, .int .i64 0], .bool false]) (by simp [results, Tryz.results38, go_sem, r0, r1, r2, r3]) rfl ⟨⟨0, fun _ => 0, false, .inr (.inr ⟨.inr HP.out, rfl, rfl, fun _ _ => rfl⟩), rfl⟩, ?_⟩
      exact below_put4 hbel (show w.heap.size ≤ w.heap.size + 1 by omega) 0 1 2 3 _ _ _ _
end Go.Proofs.YtgjjdnojiegidaaGreatDoor

namespace Go.Proofs.YtgjjdnojiegidaaGreatDoor
open Go.RowKit Wire
set_option maxHeartbeats 3200000
set_option maxRecDepth 100000
set_option linter.unusedSimpArgs false

def sideN (bk : Bool) (side : Int) (n m : Nat) : Nat := if bk = true ∧ side = 1 then n else if bk = true ∧ side = 2 then m else 0
def sideZ (bk : Bool) (side : Int) (za zb : List Int) : List Int := if bk = true ∧ side = 1 then za else if bk = true ∧ side = 2 then zb else []
theorem sideN_no (side : Int) (n m : Nat) : sideN false side n m = 0 := by simp [sideN]
theorem sideZ_no (side : Int) (za zb : List Int) : sideZ false side za zb = [] := by simp [sideZ]
theorem oMn {w : World} {base base' sz n : Nat} {e : TypeId} {v : Value} {xs : List Value} (h : w.ownsRow base e sz v n xs) (hb : base' ≤ base) : w.ownsRow base' e sz v n xs :=
 ⟨h.1, h.2.imp id (fun ⟨g, cap, cur, a, b, c⟩ => ⟨g, cap, cur, a, Nat.le_trans hb b, c⟩)⟩
def sideOkB (side : Int) : Bool := decide (side = 1) || decide (side = 2)
theorem side_cases (side : Int) : (side = 1 ∧ sideOkB side = true) ∨ (side = 2 ∧ sideOkB side = true) ∨ (side ≠ 1 ∧ side ≠ 2 ∧ sideOkB side = false) := by
 unfold sideOkB
 by_cases h1 : side = 1
 · exact .inl ⟨h1, by simp [h1]⟩
 · by_cases h2 : side = 2
   · exact .inr (.inl ⟨h2, by simp [h2]⟩)
   · exact .inr (.inr ⟨h1, h2, by simp [h1, h2]⟩)
theorem impl_sideOk (side : Int) (w : World) :
 Calls Tryz.prog 106 #[.int .i64 side] w fun e w' => e = .returned (.bool (sideOkB side)) ∧ w = w' := by
 rcases side_cases side with ⟨rfl, hok⟩ | ⟨rfl, hok⟩ | ⟨h1, h2, hok⟩
 · rw [hok]
   go_enter Tryz.func106, Tryz.ntmps106
   go_wp2_with fail
   go_ret
   exact ⟨rfl, rfl⟩
 · rw [hok]
   go_enter Tryz.func106, Tryz.ntmps106
   go_wp2_with fail
   go_ret
   exact ⟨rfl, rfl⟩
 · rw [hok]
   have t1 : (side == 1) = false := beq_eq_false_iff_ne.2 h1
   have t2 : (side == 2) = false := beq_eq_false_iff_ne.2 h2
   go_enter Tryz.func106, Tryz.ntmps106
   go_wp2_with fail
   go_ret
   exact ⟨rfl, rfl⟩
theorem spec_isSide (side : Int) (w : World) :
 Calls Tryz.prog 68 #[.int .i64 side] w fun e w' => e = .returned (.bool (sideOkB side)) ∧ w = w' := by
 have h : inB 1 side 2 = sideOkB side := by
  unfold inB sideOkB
  rw [Bool.eq_iff_iff]
  simp
  omega
 go_enter Tryz.func68, Tryz.ntmps68
 go_wp2_with (go_at_call 35; refine (l1In_any _ _ _ _).mono ?_; rintro e w' ⟨rfl, rfl⟩)
 go_ret
 exact ⟨rfl, rfl⟩
theorem own_empty (w : World) (e : TypeId) (sz : Nat) : (w.alloc (.cells #[] e)).ownsRow w.heap.size e sz (.slice (some ⟨w.heap.size, 0, none⟩) 0 0) 0 [] :=
 ⟨by simp, .inr ⟨w.heap.size, 0, #[], rfl, Nat.le_refl _, heap_alloc_new w _, Nat.le_refl _, Nat.zero_le _, by simp, by simp⟩⟩
theorem impl_side (L1 L2 : Addr) (side : Int) (w : World) :
 Calls Tryz.prog 103 #[.agg #[.pointer (some L1), .pointer (some L2)], .int .i64 side] w fun e w' => e = .returned (if side = 1 then .pointer (some L1) else .pointer (some L2)) ∧ Below w.heap.size w w' := by
 by_cases h : side = 1
 · subst h
   rw [if_pos rfl]
   go_enter Tryz.func103, Tryz.ntmps103
   go_wp2_with fail
   go_ret
   exact ⟨rfl, by go_grown⟩
 · rw [if_neg h]
   have t : (side == 1) = false := beq_eq_false_iff_ne.2 h
   go_enter Tryz.func103, Tryz.ntmps103
   go_wp2_with fail
   go_ret
   exact ⟨rfl, by go_grown⟩
theorem impl_Side (A : Option Addr) (n c : Nat) (B : Option Addr) (m d : Nat) (za zb : List Int) (side : Int) (w : World) (ha : Lst w w.heap.size 4 A n za) (hb : Lst w w.heap.size 4 B m zb) (hn : n ≤ 1048576) (hm : m ≤ 1048576) :
 Calls Tryz.prog 111 #[.agg #[.slice A n c, .slice B m d], .int .i64 side] w fun e w' => (∃ r, e = .returned r ∧ w'.ownsRow w.heap.size 65 4 r (sideN (bookB za n zb m) side n m) (nums (sideZ (bookB za n zb m) side za zb))) ∧ Below w.heap.size w w' := by
 have hb0 : Below w.heap.size w (w.alloc (.cells #[.slice A n c, .slice B m d] 30)) := (Below.refl _ _).alloc (Nat.le_refl _) _
 have k0 : (w.alloc (.cells #[.slice A n c, .slice B m d] 30)).heap[w.heap.size]? = some (.cells #[.slice A n c, .slice B m d] 30 (0, 0)) := heap_alloc_new w _
 have hs0 : w.heap.size < (w.alloc (.cells #[.slice A n c, .slice B m d] 30)).heap.size := by simp
 go_enter Tryz.func111, Tryz.ntmps111
 go_wp2_with fail
 generalize (w.alloc (.cells #[.slice A n c, .slice B m d] 30)) = w0 at *
 refine (impl_BookOk A n c B m d za zb w0 ((ha.below hb0).more hb0.size) ((hb.below hb0).more hb0.size) hn hm).mono ?_
 generalize hbk : bookB za n zb m = bk
 rintro e w1 ⟨rfl, hb1⟩
 have k1 := (hb1.block w.heap.size hs0).trans k0
 have hs1 := Nat.lt_of_lt_of_le hs0 hb1.size
 have x0 := cell_of_row w1 w.heap.size 0 _ _ (0, 0) k1
 have x1 := cell_of_row w1 w.heap.size 1 _ _ (0, 0) k1
 simp at x0 x1
 have hb1 := hb0.trans (hb1.mono hb0.size)
 clear k0 hb0 hs0
 cases bk
 · go_wp2_with fail
   go_ret
   exact ⟨⟨_, rfl, by rw [hbk, sideN_no, sideZ_no]; exact World.ownsRow_nil _ _ _ _⟩, hb1⟩
 go_wp2_with fail
 refine (impl_sideOk side w1).mono ?_
 rintro e w2 ⟨rfl, rfl⟩
 rcases side_cases side with ⟨rfl, hok⟩ | ⟨rfl, hok⟩ | ⟨h1, h2, hok⟩
 rotate_left 2
 · have HN := Lib.hid (show sideN true side n m = 0 from by unfold sideN; rw [if_neg (fun h => h1 h.2), if_neg (fun h => h2 h.2)])
   have HZ := Lib.hid (show sideZ true side za zb = [] from by unfold sideZ; rw [if_neg (fun h => h1 h.2), if_neg (fun h => h2 h.2)])
   rw [hok]
   clear h1 h2 hok
   go_wp2_with fail
   go_ret
   exact ⟨⟨_, rfl, by rw [hbk, HN.out, HZ.out]; exact World.ownsRow_nil _ _ _ _⟩, hb1⟩
 · rw [hok]
   clear hok
   go_wp2_with fail
   refine (impl_opened A n c B m d za zb w1 ((ha.below hb1).more hb1.size) ((hb.below hb1).more hb1.size) hn hm).mono ?_
   rintro e w3 ⟨X1, S1, L1, v1, gs1, X2, S2, L2, v2, gs2, rfl, ⟨hop1, hcp1⟩, ⟨hop2, hcp2⟩, _, _, _, hb3⟩
   have hb3 := hb1.trans (hb3.mono hb1.size)
   go_wp2_with fail
   refine (impl_side ⟨L1, 0, none⟩ ⟨L2, 0, none⟩ 1 w3).mono ?_
   rintro e w4 ⟨rfl, hb4⟩
   have hop1 := hop1.below hb4
   have hcp1 := hcp1.below hb4
   have hb4 := hb3.trans (hb4.mono hb3.size)
   clear hop2 hcp2
   simp only [if_pos]
   go_wp2_with fail
   refine (impl_closedSide X1 S1 L1 n 1 za v1 gs1 w4 hop1 hcp1 hn ha.1).mono ?_
   rintro e w5 ⟨r, rfl, hown, hb5⟩
   obtain ⟨A5, d5, rfl, _, _⟩ := oSl hown
   have hown := oMn hown hb4.size
   have hb5 := hb4.trans (hb5.mono hb4.size)
   go_wp2_with fail
   go_ret
   exact ⟨⟨_, rfl, by rw [hbk]; exact hown⟩, hb5⟩
 · rw [hok]
   clear hok
   go_wp2_with fail
   refine (impl_opened A n c B m d za zb w1 ((ha.below hb1).more hb1.size) ((hb.below hb1).more hb1.size) hn hm).mono ?_
   rintro e w3 ⟨X1, S1, L1, v1, gs1, X2, S2, L2, v2, gs2, rfl, ⟨hop1, hcp1⟩, ⟨hop2, hcp2⟩, _, _, _, hb3⟩
   have hb3 := hb1.trans (hb3.mono hb1.size)
   go_wp2_with fail
   refine (impl_side ⟨L1, 0, none⟩ ⟨L2, 0, none⟩ 2 w3).mono ?_
   rintro e w4 ⟨rfl, hb4⟩
   have hop2 := hop2.below hb4
   have hcp2 := hcp2.below hb4
   have hb4 := hb3.trans (hb4.mono hb3.size)
   clear hop1 hcp1
   simp only [show ((2 : Int) = 1) = False from by simp, if_false]
   go_wp2_with fail
   refine (impl_closedSide X2 S2 L2 m 2 zb v2 gs2 w4 hop2 hcp2 hm hb.1).mono ?_
   rintro e w5 ⟨r, rfl, hown, hb5⟩
   obtain ⟨A5, d5, rfl, _, _⟩ := oSl hown
   have hown := oMn hown hb4.size
   have hb5 := hb4.trans (hb5.mono hb4.size)
   go_wp2_with fail
   go_ret
   exact ⟨⟨_, rfl, by rw [hbk]; exact hown⟩, hb5⟩
end Go.Proofs.YtgjjdnojiegidaaGreatDoor

namespace Go.Proofs.YtgjjdnojiegidaaGreatDoor
open Go.RowKit Wire
set_option maxHeartbeats 3200000
set_option maxRecDepth 100000
set_option linter.unusedSimpArgs false

end Go.Proofs.YtgjjdnojiegidaaGreatDoor

namespace Go.Proofs.YtgjjdnojiegidaaGreatDoor
open Go.RowKit Wire
set_option maxHeartbeats 3200000
set_option maxRecDepth 100000
set_option linter.unusedSimpArgs false

def meetB (side lim p : Int) : Bool := lim == 0 || !betB side p lim
def lead (f : Nat → Bool) : Nat → Nat
 | 0 => 0
 | n + 1 => if f 0 = true then lead (fun j => f (j + 1)) n + 1 else 0
theorem lead_one : ∀ (n : Nat) (f : Nat → Bool) (k : Nat), k ≤ n → (∀ j, j < k → f j = true) → (k = n ∨ f k = false) → lead f n = k
 | 0, f, k, hk, _, _ => by simp [lead]; omega
 | n + 1, f, 0, _, _, h => by
  rcases h with h | h
  · omega
  · rw [lead, if_neg (by rw [h]; simp)]
 | n + 1, f, k + 1, hk, h1, h2 => by
  rw [lead, if_pos (h1 0 (by omega)), lead_one n (fun j => f (j + 1)) k (by omega) (fun j hj => h1 (j + 1) (by omega)) (h2.imp (fun h => by omega) id)]
def crOk (bk : Bool) (side lim : Int) : Bool := bk && (sideOkB side && inB 0 lim 1000000)
def crN (bk : Bool) (side lim : Int) (za zb : List Int) (n m : Nat) : Nat := if crOk bk side lim = true then (if side = 1 then lead (fun k => meetB side lim (price zb k)) m else lead (fun k => meetB side lim (price za k)) n) else 0
def crZ (bk : Bool) (side lim : Int) (za zb : List Int) (n m : Nat) : List Int := if crOk bk side lim = true then (if side = 1 then zb.take (lead (fun k => meetB side lim (price zb k)) m * 4) else za.take (lead (fun k => meetB side lim (price za k)) n * 4)) else []
theorem cr_no {bk : Bool} {side lim : Int} {za zb : List Int} {n m : Nat} (h : crOk bk side lim = false) : crN bk side lim za zb n m = 0 ∧ crZ bk side lim za zb n m = [] := by
 unfold crN crZ
 rw [h]
 exact ⟨rfl, rfl⟩
theorem crN_1 {lim : Int} {za zb : List Int} {n m : Nat} (h : crOk true 1 lim = true) : crN true 1 lim za zb n m = lead (fun k => meetB 1 lim (price zb k)) m := by
 unfold crN
 rw [if_pos h, if_pos rfl]
theorem crN_2 {lim : Int} {za zb : List Int} {n m : Nat} (h : crOk true 2 lim = true) : crN true 2 lim za zb n m = lead (fun k => meetB 2 lim (price za k)) n := by
 unfold crN
 rw [if_pos h, if_neg (by decide)]
theorem crZ_1 {lim : Int} {za zb : List Int} {n m : Nat} (h : crOk true 1 lim = true) : crZ true 1 lim za zb n m = zb.take (lead (fun k => meetB 1 lim (price zb k)) m * 4) := by
 unfold crZ
 rw [if_pos h, if_pos rfl]
theorem crZ_2 {lim : Int} {za zb : List Int} {n m : Nat} (h : crOk true 2 lim = true) : crZ true 2 lim za zb n m = za.take (lead (fun k => meetB 2 lim (price za k)) n * 4) := by
 unfold crZ
 rw [if_pos h, if_neg (by decide)]
theorem spec_meets (side lim p : Int) (w : World) :
 Calls Tryz.prog 70 #[.int .i64 side, .int .i64 lim, .int .i64 p] w fun e w' => e = .returned (.bool (meetB side lim p)) ∧ w = w' := by
 unfold meetB
 by_cases h : lim = 0
 · subst h
   go_enter Tryz.func70, Tryz.ntmps70
   go_wp2_with fail
   go_ret
   exact ⟨rfl, rfl⟩
 · have t : (lim == 0) = false := beq_eq_false_iff_ne.2 h
   go_enter Tryz.func70, Tryz.ntmps70
   go_wp2_with fail
   refine (spec_l2Ahead _ _ _ _).mono ?_
   rintro e w' ⟨rfl, rfl⟩
   go_wp2_with fail
   go_ret
   exact ⟨by rw [t]; rfl, rfl⟩
theorem impl_meets (side lim p : Int) (w : World) :
 Calls Tryz.prog 118 #[.int .i64 side, .int .i64 lim, .int .i64 p] w fun e w' => e = .returned (.bool (meetB side lim p)) ∧ w = w' := by
 unfold meetB
 by_cases h : lim = 0
 · subst h
   go_enter Tryz.func118, Tryz.ntmps118
   go_wp2_with fail
   go_ret
   exact ⟨rfl, rfl⟩
 · have t : (lim == 0) = false := beq_eq_false_iff_ne.2 h
   go_enter Tryz.func118, Tryz.ntmps118
   go_wp2_with fail
   refine (impl_better _ _ _ _).mono ?_
   rintro e w' ⟨rfl, rfl⟩
   go_wp2_with fail
   go_ret
   exact ⟨by rw [t]; rfl, rfl⟩
theorem spec_other1 (w : World) :
 Calls Tryz.prog 69 #[.int .i64 1] w fun e w' => e = .returned (.int .i64 2) ∧ w = w' := by
 go_enter Tryz.func69, Tryz.ntmps69
 go_wp2_with fail
 go_ret
 exact ⟨rfl, rfl⟩
theorem spec_other2 (w : World) :
 Calls Tryz.prog 69 #[.int .i64 2] w fun e w' => e = .returned (.int .i64 1) ∧ w = w' := by
 go_enter Tryz.func69, Tryz.ntmps69
 go_wp2_with fail
 go_ret
 exact ⟨rfl, rfl⟩
theorem impl_opposite1 (w : World) :
 Calls Tryz.prog 117 #[.int .i64 1] w fun e w' => e = .returned (.int .i64 2) ∧ w = w' := by
 go_enter Tryz.func117, Tryz.ntmps117
 go_wp2_with fail
 go_ret
 exact ⟨rfl, rfl⟩
theorem impl_opposite2 (w : World) :
 Calls Tryz.prog 117 #[.int .i64 2] w fun e w' => e = .returned (.int .i64 1) ∧ w = w' := by
 go_enter Tryz.func117, Tryz.ntmps117
 go_wp2_with fail
 go_ret
 exact ⟨rfl, rfl⟩
def Crossed (w : World) (base : Nat) (r : Value) (N : Nat) (Z : List Int) : Prop := w.ownsRow base 65 4 r N (nums Z)
theorem crossed_ord {w : World} {base k : Nat} {r : Value} {zs : List Int} (h : w.ownsRow base 65 4 r k (ordV zs k)) (hk : k * 4 ≤ zs.length) : Crossed w base r k (zs.take (k * 4)) := by
 rw [ordV_eq k hk] at h
 exact h
end Go.Proofs.YtgjjdnojiegidaaGreatDoor
