/-
  The program's Taken.
-/
import Derived.Test.YtgpllcjnbkhbnaaDrop
import Derived.Test.YtgpllcjnbkhbnaaTaken
import Derived.Test.YtgpllcjnbkhbnaaTwo
import Derived.Test.YtgpllcjnbkhbnaaOpened
namespace Go.Proofs.Ytgpllcjnbkhbnaa
open Go.RowKit Wire

set_option linter.unusedSimpArgs false in
set_option maxHeartbeats 1600000 in
set_option maxRecDepth 100000 in
theorem impl_hasOrder (A : Option Addr) (n c : Nat) (B : Option Addr) (m d : Nat) (za zb : List Int) (id : Int) (w : World) (ha : Lst w w.heap.size 4 A n za) (hb : Lst w w.heap.size 4 B m zb) (hn : n ≤ 1048576) (hm : m ≤ 1048576) :
    Calls Try.prog 68 #[.agg #[.slice A n c, .slice B m d], .int .i64 id] w fun e w' => (∃ s f ok, FindRel (bookB za n zb m) za n zb m id s f ok ∧ e = .returned (.bool ok)) ∧ Below w.heap.size w w' := by
  have hb0 : Below w.heap.size w (w.alloc (.cells #[.slice A n c, .slice B m d] 26)) := (Below.refl _ _).alloc (Nat.le_refl _) _
  go_enter Try.func68, Try.ntmps68
  go_wp2_with fail
  refine (impl_Find A n c B m d za zb id _ (ha.later hb0) (hb.later hb0) hn hm).mono ?_
  rintro e w1 ⟨⟨s, f, ok, hrel, rfl⟩, hb1⟩
  have HR := Lib.hid hrel
  have HB := Lib.hid (ord_later hb0 hb1)
  clear hrel hb0 hb1
  generalize f 0 = f0 at *
  generalize f 1 = f1 at *
  generalize f 2 = f2 at *
  generalize f 3 = f3 at *
  go_wp2_with fail
  go_ret
  exact ⟨⟨s, f, ok, HR.out, rfl⟩, HB.out.alloc HB.out.size _⟩
set_option linter.unusedSimpArgs false in
set_option maxHeartbeats 1600000 in
set_option maxRecDepth 100000 in
theorem impl_Taken (A : Option Addr) (n c : Nat) (B : Option Addr) (m d : Nat) (za zb : List Int) (id : Int) (w : World) (ha : Lst w w.heap.size 4 A n za) (hb : Lst w w.heap.size 4 B m zb) (hn : n ≤ 1048576) (hm : m ≤ 1048576) :
    Calls Try.prog 29 #[.agg #[.slice A n c, .slice B m d], .int .i64 id] w fun e w' => (∃ s f ok v1 v2, FindRel (bookB za n zb m) za n zb m id s f ok ∧ e = .returned (.tuple #[.agg #[v1, v2], .bool ok]) ∧ Without w' w.heap.size za zb n m id ok v1 v2) ∧ Below w.heap.size w w' := by
  obtain ⟨k0, k1, k2⟩ := three_blocks w (.cells #[.slice A n c, .slice B m d] 26) (.cells #[.int .i64 id] 2) (.cells #[.slice none 0 0, .slice none 0 0] 26)
  have hb0 : Below w.heap.size w (((w.alloc (.cells #[.slice A n c, .slice B m d] 26)).alloc (.cells #[.int .i64 id] 2)).alloc (.cells #[.slice none 0 0, .slice none 0 0] 26)) := (((Below.refl _ _).alloc (Nat.le_refl _) _).alloc (by simp) _).alloc (by simp; omega) _
  have hs0 : (((w.alloc (.cells #[.slice A n c, .slice B m d] 26)).alloc (.cells #[.int .i64 id] 2)).alloc (.cells #[.slice none 0 0, .slice none 0 0] 26)).heap.size = w.heap.size + 3 := by simp
  have x0 := cell_of_row _ w.heap.size 0 _ _ (0, 0) k0
  have x1 := cell_of_row _ w.heap.size 1 _ _ (0, 0) k0
  have j0 := cell_of_row _ (w.heap.size + 1) 0 _ _ (0, 0) k1
  simp at x0 x1 j0
  go_enter Try.func29, Try.ntmps29
  go_wp2_with fail
  generalize (((w.alloc (.cells #[.slice A n c, .slice B m d] 26)).alloc (.cells #[.int .i64 id] 2)).alloc (.cells #[.slice none 0 0, .slice none 0 0] 26)) = w0 at *
  refine (impl_hasOrder A n c B m d za zb id w0 ((ha.below hb0).more hb0.size) ((hb.below hb0).more hb0.size) hn hm).mono ?_
  rintro e w1 ⟨⟨s, f, ok, hrel, rfl⟩, hb1⟩
  have HR := Lib.hid hrel
  have k0 := (hb1.block w.heap.size (by omega)).trans k0
  have k1 := (hb1.block (w.heap.size + 1) (by omega)).trans k1
  have k2 := (hb1.block (w.heap.size + 1 + 1) (by omega)).trans k2
  have hs1 : w.heap.size + 3 ≤ w1.heap.size := by have := hb1.size; omega
  have hb1 := hb0.trans (hb1.mono hb0.size)
  clear hb0 hs0 hrel x0 x1 j0
  have x0 := cell_of_row w1 w.heap.size 0 _ _ (0, 0) k0
  have x1 := cell_of_row w1 w.heap.size 1 _ _ (0, 0) k0
  have j0 := cell_of_row w1 (w.heap.size + 1) 0 _ _ (0, 0) k1
  have s0 := cell_of_row w1 (w.heap.size + 1 + 1) 0 _ _ (0, 0) k2
  have s1 := cell_of_row w1 (w.heap.size + 1 + 1) 1 _ _ (0, 0) k2
  have z0 := frozen_of_row w1 (w.heap.size + 1 + 1) 0 _ _ k2
  have z1 := frozen_of_row w1 (w.heap.size + 1 + 1) 1 _ _ k2
  simp at x0 x1 j0 s0 s1
  cases ok
  · have hx := heap_set1 (u := .slice none 0 0) (heap_set0 (u := .slice none 0 0) k2)
    have E0 := Lib.hid (cell_of_row _ (w.heap.size + 1 + 1) 0 _ _ (0, 0) hx)
    have E1 := Lib.hid (cell_of_row _ (w.heap.size + 1 + 1) 1 _ _ (0, 0) hx)
    clear hx
    go_wp2_with fail
    have e0 := E0.out
    have e1 := E1.out
    simp at e0 e1
    refine bodyPost_ret (v := .tuple #[.agg #[.slice none 0 0, .slice none 0 0], .bool false]) (by simp [results, Try.results29, go_sem, e0, e1]) rfl ⟨⟨s, f, false, .slice none 0 0, .slice none 0 0, HR.out, rfl, World.ownsRow_nil _ _ _ _, World.ownsRow_nil _ _ _ _, fun q hq => by simp [Value.ownBlock] at hq⟩, ?_⟩
    exact ((hb1.setCell (p := ⟨w.heap.size + 1 + 1, 0, none⟩) (show w.heap.size ≤ w.heap.size + 1 + 1 by omega) _).setCell (p := ⟨w.heap.size + 1 + 1, 1, none⟩) (show w.heap.size ≤ w.heap.size + 1 + 1 by omega) _)
  · clear s0 s1 z0 z1
    go_wp2_with fail
    refine (impl_opened A n c B m d za zb w1 ((ha.below hb1).more hb1.size) ((hb.below hb1).more hb1.size) hn hm).mono ?_
    rintro e w2 ⟨X1, S1, L1, v1, gs1, X2, S2, L2, v2, gs2, rfl, hp1, hp2, hX1, hX2, hfar, hb2⟩
    have k1 := (hb2.block (w.heap.size + 1) (by omega)).trans k1
    have k2 := (hb2.block (w.heap.size + 1 + 1) (by omega)).trans k2
    have hs2 : w.heap.size + 3 ≤ w2.heap.size := by have := hb2.size; omega
    have hb2 := hb1.trans (hb2.mono hb1.size)
    clear hb1 k0 x0 x1 j0
    have o0 := heap_alloc_new w2 (.cells #[.pointer (some ⟨L1, 0, none⟩), .pointer (some ⟨L2, 0, none⟩)] 70)
    have hbA : Below w2.heap.size w2 (w2.alloc (.cells #[.pointer (some ⟨L1, 0, none⟩), .pointer (some ⟨L2, 0, none⟩)] 70)) := (Below.refl _ _).alloc (Nat.le_refl _) _
    have hsA : (w2.alloc (.cells #[.pointer (some ⟨L1, 0, none⟩), .pointer (some ⟨L2, 0, none⟩)] 70)).heap.size = w2.heap.size + 1 := by simp
    have k1 := (hbA.block (w.heap.size + 1) (by omega)).trans k1
    have k2 := (hbA.block (w.heap.size + 1 + 1) (by omega)).trans k2
    have hpw1 := hp1.1
    have hpw2 := hp2.1
    have hp1 := And.intro (hp1.1.below hbA) (hp1.2.below hbA)
    have hp2 := And.intro (hp2.1.below hbA) (hp2.2.below hbA)
    have o1 := cell_of_row _ w2.heap.size 0 _ _ (0, 0) o0
    have o2 := cell_of_row _ w2.heap.size 1 _ _ (0, 0) o0
    have j0 := cell_of_row _ (w.heap.size + 1) 0 _ _ (0, 0) k1
    simp at o1 o2 j0
    have hb3 := hb2.trans (hbA.mono hb2.size)
    have hLa : L1 < w2.heap.size := heap_lt hpw1.list
    have hLb : L2 < w2.heap.size := heap_lt hpw2.list
    have hva : some w2.heap.size ≠ v1.ownBlock := fun e => by have := (hpw1.own.lt _ e.symm).2; omega
    have hvb : some w2.heap.size ≠ v2.ownBlock := fun e => by have := (hpw2.own.lt _ e.symm).2; omega
    clear hpw1 hpw2
    go_wp2_with fail
    generalize (w2.alloc (.cells #[.pointer (some ⟨L1, 0, none⟩), .pointer (some ⟨L2, 0, none⟩)] 70)) = w3 at *
    refine (impl_drop X1 S1 L1 X2 S2 L2 n m (w.heap.size + 1) v1 v2 gs1 gs2 id za zb w3 hp1 hp2 hn hm j0 (by omega) hX2 hfar).mono ?_
    rintro e w4 ⟨⟨_, rfl⟩, u1, u2, hq1, hq2, hb4, hk4⟩
    have o0 := (hk4 w2.heap.size (by omega) (by omega) (by omega) hva hvb).trans o0
    have k2 := (hb4.block (w.heap.size + 1 + 1) (by omega)).trans k2
    have hs4 := hb4.size
    have hb5 := hb3.trans (hb4.mono (by omega))
    clear hp1 hp2 k1 o1 o2 j0 hb4 hk4 hva hvb
    have o1 := cell_of_row _ w2.heap.size 0 _ _ (0, 0) o0
    have o2 := cell_of_row _ w2.heap.size 1 _ _ (0, 0) o0
    simp at o1 o2
    have HN1 := Lib.hid (tkZ_len za id n)
    have HN2 := Lib.hid (tkZ_len zb id m)
    have hN1 : tkN za id n ≤ 1048576 := Nat.le_trans (tkN_le za id n) hn
    have hN2 : tkN zb id m ≤ 1048576 := Nat.le_trans (tkN_le zb id m) hm
    go_wp2_with fail
    refine (impl_closed X1 S1 L1 X2 S2 L2 _ _ u1 u2 _ _ _ _ w4 hq1.1 hq1.2 hq2.1 hq2.2 hN1 hN2 HN1.out HN2.out).mono ?_
    rintro e w5 ⟨⟨r1, r2, rfl, ho1, ho2, hne⟩, hb6⟩
    have k2 := (hb6.block (w.heap.size + 1 + 1) (by omega)).trans k2
    have hb7 := hb5.trans (hb6.mono hb5.size)
    have ho1 := own_mono (base' := w.heap.size + 3) ho1 (by omega)
    have ho2 := own_mono (base' := w.heap.size + 3) ho2 (by omega)
    obtain ⟨A1, d1, rfl, _, _⟩ := own_slice ho1
    obtain ⟨A2, d2, rfl, _, _⟩ := own_slice ho2
    clear hb5 hb6 o0 o1 o2 hq1 hq2
    have s0 := cell_of_row w5 (w.heap.size + 1 + 1) 0 _ _ (0, 0) k2
    have s1 := cell_of_row w5 (w.heap.size + 1 + 1) 1 _ _ (0, 0) k2
    have z0 := frozen_of_row w5 (w.heap.size + 1 + 1) 0 _ _ k2
    have z1 := frozen_of_row w5 (w.heap.size + 1 + 1) 1 _ _ k2
    simp at s0 s1
    generalize hN1' : tkN za id n = N1 at *
    generalize hN2' : tkN zb id m = N2 at *
    have E0 := Lib.hid (cell_of_row _ (w.heap.size + 1 + 1) 0 _ _ (0, 0) (heap_set1 (u := .slice A2 N2 d2) (heap_set0 (u := .slice A1 N1 d1) k2)))
    have E1 := Lib.hid (cell_of_row _ (w.heap.size + 1 + 1) 1 _ _ (0, 0) (heap_set1 (u := .slice A2 N2 d2) (heap_set0 (u := .slice A1 N1 d1) k2)))
    have H1 := Lib.hid hN1'
    have H2 := Lib.hid hN2'
    clear hN1' hN2' HN1 HN2
    go_wp2_with fail
    have e0 := E0.out
    have e1 := E1.out
    simp at e0 e1
    have ap : ∀ {v : Value} {N : Nat} {xs : List Value}, w5.ownsRow (w.heap.size + 3) 36 4 v N xs → ((w5.setCell ⟨w.heap.size + 1 + 1, 0, none⟩ (.slice A1 N1 d1)).setCell ⟨w.heap.size + 1 + 1, 1, none⟩ (.slice A2 N2 d2)).ownsRow w.heap.size 36 4 v N xs := fun h => by
      have h1 := own_apart h (set_grown w5 (w.heap.size + 1 + 1) 0 (.slice A1 N1 d1)) (fun q hq e => by have := (h.lt q hq).1; injection e with e; omega)
      exact own_mono (own_apart h1 (set_grown _ (w.heap.size + 1 + 1) 1 (.slice A2 N2 d2)) (fun q hq e => by have := (h.lt q hq).1; injection e with e; omega)) (by omega)
    refine bodyPost_ret (v := .tuple #[.agg #[.slice A1 N1 d1, .slice A2 N2 d2], .bool true]) (by simp [results, Try.results29, go_sem, e0, e1]) rfl ⟨⟨s, f, true, _, _, HR.out, rfl, by rw [if_pos rfl, if_pos rfl, H1.out]; exact ap ho1, by rw [if_pos rfl, if_pos rfl, H2.out]; exact ap ho2, hne⟩, ?_⟩
    exact (hb7.setCell (p := ⟨w.heap.size + 1 + 1, 0, none⟩) (show w.heap.size ≤ w.heap.size + 1 + 1 by omega) _).setCell (p := ⟨w.heap.size + 1 + 1, 1, none⟩) (show w.heap.size ≤ w.heap.size + 1 + 1 by omega) _
end Go.Proofs.Ytgpllcjnbkhbnaa
