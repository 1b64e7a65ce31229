/-
  A side as the program answers it: the opened list, closed again into a fresh slice of orders.
-/
import Derived.Test.YtempggikcpminaaBookX
import Derived.Test.YtempggikcpminaaBookT
namespace Go.Proofs.Ytempggikcpminaa
open Go.RowKit Wire

/-- the first orders of a list as cells -/
def ordV (zs : List Int) : Nat → List Value
  | 0 => []
  | k + 1 => ordV zs k ++ [.int .i64 (num zs (k * 4)), .int .i64 (num zs (k * 4 + 1)), .int .i64 (num zs (k * 4 + 2)), .int .i64 (num zs (k * 4 + 3))]
theorem ordV_eq {zs : List Int} : ∀ n, n * 4 ≤ zs.length → ordV zs n = nums (zs.take (n * 4))
  | 0, _ => by simp [ordV, nums]
  | n + 1, h => by
    have g : ∀ i, i < zs.length → zs[i]? = some (num zs i) := fun i hi => by simp [num, List.getD, hi]
    rw [ordV, ordV_eq n (by omega), show (n + 1) * 4 = n * 4 + 1 + 1 + 1 + 1 from by omega, List.take_add_one, List.take_add_one, List.take_add_one, List.take_add_one, g _ (by omega), g _ (by omega), g _ (by omega), g _ (by omega)]
    simp [nums]
theorem ordV_all {zs : List Int} {n : Nat} (h : zs.length = n * 4) : ordV zs n = nums zs := by
  rw [ordV_eq n (by omega), ← h, List.take_length]
set_option maxHeartbeats 1600000 in
set_option maxRecDepth 100000 in
theorem impl_closedSide (X S L n : Nat) (side : Int) (zs : List Int) (v : Value) (gs : Nat → Nat) (w : World) (hop : Opened w X S L 2 110 76 (.func (.func 104) #[] #[.pointer (some ⟨S, 0, none⟩)]) side zs n v gs) (hcp : Copies w X S L 28 zs n v gs) (hn : n ≤ 1048576) (hz : zs.length = n * 4) :
    Calls Try.prog 79 #[.pointer (some ⟨L, 0, none⟩)] w fun e w' => ∃ r, e = .returned r ∧ w'.ownsRow w.heap.size 28 4 r n (nums zs) ∧ Below w.heap.size w w' := by
  obtain ⟨i0, hi, hz0, hz1, hz2⟩ := info_parts ord_info
  have cL := cell_of_row w L 0 _ _ (0, 0) hop.list
  simp at cL
  obtain ⟨A1, d1, hv, _, _⟩ := own_slice hop.own
  subst hv
  go_enter Try.func79, Try.ntmps79
  go_wp2_with fail
  clear cL
  go_loopw [11, 3] (fun i r wr => ∃ k : Nat, k ≤ n ∧ i = .int .i64 (k : Int) ∧ wr.ownsRow w.heap.size 28 4 r k (ordV zs k) ∧ Below w.heap.size w wr) (fun i _ _ => n - (intOf i).toNat)
  case atStart => exact ⟨0, Nat.zero_le _, rfl, World.ownsRow_nil _ _ _ _, Below.refl _ _⟩
  case round =>
    obtain ⟨k, hk, rfl, hown, hbel⟩ := hrel
    obtain ⟨A2, d2, rfl, _, _⟩ := own_slice hown
    by_cases hlt : k < n
    · obtain ⟨g, cap, hg, _, _⟩ := hop.own.form (by omega)
      injection hg with hg1 hg2 hg3
      subst hg1 hg3
      have hopr := hop.below hbel
      have hcpr := hcp.below hbel
      have p0 := hopr.own.cells (g := g) rfl k _ (ptrs_at gs n k hlt)
      rw [add0 g] at p0
      have q0 := (hcpr k hlt).2.2.2.2.cell (i := 0) (by omega)
      have q1 := (hcpr k hlt).2.2.2.2.cell (i := 1) (by omega)
      have q2 := (hcpr k hlt).2.2.2.2.cell (i := 2) (by omega)
      have q3 := (hcpr k hlt).2.2.2.2.cell (i := 3) (by omega)
      simp only [numAt, Nat.add_zero] at q0 q1 q2 q3
      have hbs := hbel.size
      have hov := hown.lt
      clear hopr hcpr
      go_wp2_with (at_builtin; refine wpList_append_own_at _ rfl _ _ 24 rfl w.heap.size 28 i0 _ 4 32 Try.underlying24 hi hz0 hz1 hz2 rfl (by decide) _ _ _ rfl (hown.alloc _) ⟨wr.heap.size, 0, none⟩ 1 1 [.int .i64 (num zs (k * 4)), .int .i64 (num zs (k * 4 + 1)), .int .i64 (num zs (k * 4 + 2)), .int .i64 (num zs (k * 4 + 3))] rfl rfl ?c1 ?c2 ?c3 ?c4 ?c5 ?_)
      case c2 => exact ⟨rfl, rfl, rfl, rfl⟩
      case c3 => unfold maxLen; omega
      case c4 => omega
      case c5 => omega
      intro v' w2 hown2 hgrow2 _ hat2
      have hbel2 := (hbel.alloc hbs (.cells #[.int .i64 (num zs (k * 4)), .int .i64 (num zs (k * 4 + 1)), .int .i64 (num zs (k * 4 + 2)), .int .i64 (num zs (k * 4 + 3))] 28)).grown hgrow2 (by simp; omega) (fun q hq => (hov q hq).1)
      obtain ⟨A3, d3, rfl, _, _⟩ := own_slice hown2
      have HO := Lib.hid hown2
      have HB := Lib.hid hbel2
      clear hbel2 hgrow2 hat2 hown2 hbel hown p0 q0 q1 q2 q3
      go_wp2_with fail
      go_roundw
      case rel => exact ⟨k + 1, by omega, by go_num, HO.out, HB.out⟩
      case measure => simp [intOf]; omega
    · obtain rfl : k = n := by omega
      rw [ordV_all hz] at hown
      go_wp2_with fail
      go_ret
      exact ⟨_, rfl, hown, hbel⟩
end Go.Proofs.Ytempggikcpminaa
