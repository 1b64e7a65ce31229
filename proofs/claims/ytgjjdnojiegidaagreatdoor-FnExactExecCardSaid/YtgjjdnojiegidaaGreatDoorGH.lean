/-
 Held, HeldBook, Two.
-/
import Derived.Test.YtgjjdnojiegidaaGreatDoorOrd
import Derived.Test.YtgjjdnojiegidaaGreatDoorHD
namespace Go.Proofs.YtgjjdnojiegidaaGreatDoor
open Go.RowKit Wire
set_option maxHeartbeats 1600000
set_option maxRecDepth 100000

def markFrom (s : Nat) (f : Nat → Value) (N j : Nat) : Value := if j < N then .int .i64 ((j + s : Nat) : Int) else f j
theorem rowIs_from4 {w : World} {g m k s : Nat} {t : TypeId} {f : Nat → Value} {V0 V1 V2 V3 : Int} (h : w.rowIs g t m (markFrom s f (k * 4))) (h0 : V0 = ((k * 4 + s : Nat) : Int)) (h1 : V1 = ((k * 4 + 1 + s : Nat) : Int)) (h2 : V2 = ((k * 4 + 2 + s : Nat) : Int)) (h3 : V3 = ((k * 4 + 3 + s : Nat) : Int)) :
 ((((w.setCell ⟨g, k * 4, none⟩ (.int .i64 V0)).setCell ⟨g, k * 4 + 1, none⟩ (.int .i64 V1)).setCell ⟨g, k * 4 + 2, none⟩ (.int .i64 V2)).setCell ⟨g, k * 4 + 3, none⟩ (.int .i64 V3)).rowIs g t m (markFrom s f ((k + 1) * 4)) := by
 subst h0 h1 h2 h3
 refine (((((h.set _ _).set _ _).set _ _).set _ _)).congr fun j _ => ?_
 rw [show (k + 1) * 4 = k * 4 + 4 from by omega]
 generalize k * 4 = i
 rcases (show j < i ∨ j = i ∨ j = i + 1 ∨ j = i + 2 ∨ j = i + 3 ∨ i + 4 ≤ j from by omega) with hj | rfl | rfl | rfl | rfl | hj
 · simp only [markFrom]
   repeat rw [if_neg (by omega)]
   rw [if_pos hj, if_pos (by omega)]
 iterate 4 (simp [markFrom]; try omega)
 · simp only [markFrom]
   repeat rw [if_neg (by omega)]
theorem rowIs_lookFrom4 {w : World} {g m k N s : Nat} {t : TypeId} {f : Nat → Value} (h : w.rowIs g t m (markFrom s f N)) (hk : (k + 1) * 4 ≤ N) (hN : N ≤ m) :
 w.cell? ⟨g, k * 4, none⟩ = some (.int .i64 ((k : Int) * 4 + (s : Int))) ∧ w.cell? ⟨g, k * 4 + 1, none⟩ = some (.int .i64 ((k : Int) * 4 + (s : Int) + 1)) ∧ w.cell? ⟨g, k * 4 + 2, none⟩ = some (.int .i64 ((k : Int) * 4 + (s : Int) + 2)) ∧ w.cell? ⟨g, k * 4 + 3, none⟩ = some (.int .i64 ((k : Int) * 4 + (s : Int) + 3)) :=
 ⟨by rw [h.cell (i := k * 4) (by omega), markFrom, if_pos (by omega)]; congr 2, by rw [h.cell (i := k * 4 + 1) (by omega), markFrom, if_pos (by omega)]; congr 2; omega, by rw [h.cell (i := k * 4 + 2) (by omega), markFrom, if_pos (by omega)]; congr 2; omega, by rw [h.cell (i := k * 4 + 3) (by omega), markFrom, if_pos (by omega)]; congr 2; omega⟩
theorem markOrderS_from (g n cap M s : Nat) (f : Nat → Value) (w : World) (hr : w.rowIs g 65 M f) (hn : n * 4 ≤ M) (hb : n ≤ 1048576) (hs : s ≤ 1073741824) :
 Calls Tryz.prog 30 #[.slice (some ⟨g, 0, none⟩) n cap, .int .i64 (s : Int)] w fun e w' => e = .returned (.int .i64 ((n : Int) * 4 + (s : Int))) ∧ w'.rowIs g 65 M (markFrom s f (n * 4)) ∧ w.grownBy w' (some g) := by
 go_enter Tryz.func30, Tryz.ntmps30
 go_wp2_with fail
 go_loopw [1, 5] (fun kv i wr => ∃ k : Nat, k ≤ n ∧ i = .int .i64 (k : Int) ∧ kv = .int .i64 ((k : Int) * 4 + (s : Int)) ∧ wr.rowIs g 65 M (markFrom s f (k * 4)) ∧ w.grownBy wr (some g)) (fun _ i _ => n - (intOf i).toNat)
 case atStart => exact ⟨0, Nat.zero_le _, rfl, by go_num, hr.congr (fun j _ => by simp [markFrom]), World.grownBy.refl _ _⟩
 case round =>
  obtain ⟨k, hk, rfl, rfl, hrow, hg⟩ := hrel
  by_cases hlt : k < n
  · have z := hrow.frozen
    have hk8 : (k + 1) * 4 ≤ M := Nat.le_trans (Nat.mul_le_mul_right _ hlt) hn
    have c0 : wr.cell? ⟨g, k * 4, none⟩ = _ := hrow.cell (i := k * 4) (by omega)
    have c1 : wr.cell? ⟨g, k * 4 + 1, none⟩ = _ := hrow.cell (i := k * 4 + 1) (by omega)
    have c2 : wr.cell? ⟨g, k * 4 + 2, none⟩ = _ := hrow.cell (i := k * 4 + 2) (by omega)
    have c3 : wr.cell? ⟨g, k * 4 + 3, none⟩ = _ := hrow.cell (i := k * 4 + 3) (by omega)
    go_wp2_with fail
    go_roundw
    case rel =>
     exact ⟨k + 1, by omega, by go_num, by go_num, rowIs_from4 hrow (by omega) (by omega) (by omega) (by omega), (mark_set (mark_set (mark_set (mark_set hg _ _) _ _) _ _) _ _)⟩
    case measure => simp [intOf]; omega
  · obtain rfl : k = n := by omega
    go_wp2_with fail
    go_ret
    exact ⟨rfl, hrow, hg⟩
theorem heldOrderS_from (g n cap M s : Nat) (f : Nat → Value) (w : World) (hr : w.rowIs g 65 M (markFrom s f (n * 4))) (hn : n * 4 ≤ M) (hb : n ≤ 1048576) (hs : s ≤ 1073741824) :
 Calls Tryz.prog 31 #[.slice (some ⟨g, 0, none⟩) n cap, .int .i64 (s : Int)] w fun e w' => e = .returned (.int .i64 ((n : Int) * 4 + (s : Int))) ∧ w' = w := by
 go_enter Tryz.func31, Tryz.ntmps31
 go_wp2_with fail
 go_loopw [1, 5] (fun kv i wr => ∃ k : Nat, k ≤ n ∧ i = .int .i64 (k : Int) ∧ kv = .int .i64 ((k : Int) * 4 + (s : Int)) ∧ wr = w) (fun _ i _ => n - (intOf i).toNat)
 case atStart => exact ⟨0, Nat.zero_le _, rfl, by go_num, by first | trivial | rfl⟩
 case round =>
  obtain ⟨k, hk, rfl, rfl, rfl⟩ := hrel
  by_cases hlt : k < n
  · obtain ⟨c0, c1, c2, c3⟩ := rowIs_lookFrom4 hr (k := k) (Nat.mul_le_mul_right _ hlt) hn
    go_wp2_with fail
    go_roundw
    case rel => exact ⟨k + 1, by omega, by go_num, by go_num, by first | trivial | rfl⟩
    case measure => simp [intOf]; omega
  · obtain rfl : k = n := by omega
    go_wp2_with fail
    go_ret
    exact ⟨rfl, by first | trivial | rfl⟩
end Go.Proofs.YtgjjdnojiegidaaGreatDoor

namespace Go.Proofs.YtgjjdnojiegidaaGreatDoor
open Go.RowKit Wire
set_option maxHeartbeats 1600000
set_option maxRecDepth 100000

theorem markOrderS_noneFrom (A : Option Addr) (cap s : Nat) (w : World) : Calls Tryz.prog 30 #[.slice A 0 cap, .int .i64 (s : Int)] w fun e w' => e = .returned (.int .i64 (s : Int)) ∧ w' = w := by
 go_enter Tryz.func30, Tryz.ntmps30
 go_wp2_with fail
 go_loopw [1, 5] (fun kv i wr => i = .int .i64 0 ∧ kv = .int .i64 (s : Int) ∧ wr = w) (fun _ _ _ => 0)
 case atStart => exact ⟨rfl, rfl, by first | trivial | rfl⟩
 case round =>
  obtain ⟨rfl, rfl, rfl⟩ := hrel
  go_wp2_with fail
  go_ret
  exact ⟨rfl, by first | trivial | rfl⟩
theorem heldOrderS_noneFrom (A : Option Addr) (cap s : Nat) (w : World) : Calls Tryz.prog 31 #[.slice A 0 cap, .int .i64 (s : Int)] w fun e w' => e = .returned (.int .i64 (s : Int)) ∧ w' = w := by
 go_enter Tryz.func31, Tryz.ntmps31
 go_wp2_with fail
 go_loopw [1, 5] (fun kv i wr => i = .int .i64 0 ∧ kv = .int .i64 (s : Int) ∧ wr = w) (fun _ _ _ => 0)
 case atStart => exact ⟨rfl, rfl, by first | trivial | rfl⟩
 case round =>
  obtain ⟨rfl, rfl, rfl⟩ := hrel
  go_wp2_with fail
  go_ret
  exact ⟨rfl, by first | trivial | rfl⟩
def MarkedFrom (s : Nat) (w : World) (v : Value) (n : Nat) : Prop := (n = 0 ∧ ∃ A c, v = .slice A 0 c) ∨ ∃ g cap f M, v = .slice (some ⟨g, 0, none⟩) n cap ∧ n * 4 ≤ M ∧ w.rowIs g 65 M (markFrom s f (n * 4))
theorem MarkedFrom.below {s : Nat} {w w' : World} {v : Value} {n : Nat} (h : MarkedFrom s w v n) (hb : Below w.heap.size w w') : MarkedFrom s w' v n := by
 rcases h with h | ⟨g, cap, f, M, h1, h2, h3⟩
 · exact .inl h
 · exact .inr ⟨g, cap, f, M, h1, h2, h3.of_block (hb.block g h3.lt)⟩
theorem MarkedFrom.apart {s : Nat} {w w' : World} {v : Value} {n : Nat} {row : Option Nat} (h : MarkedFrom s w v n) (hg : w.grownBy w' row) (hr : ∀ q, v.ownBlock = some q → row ≠ some q) : MarkedFrom s w' v n := by
 rcases h with h | ⟨g, cap, f, M, h1, h2, h3⟩
 · exact .inl h
 · exact .inr ⟨g, cap, f, M, h1, h2, h3.of_block (hg.block g h3.lt (fun e => hr g (by rw [h1]; rfl) e.symm))⟩
theorem markOrderS_anyFrom (B s : Nat) (v : Value) (n : Nat) (xs : List Value) (w : World) (ho : w.ownsRow B 65 4 v n xs) (hn : n ≤ 1048576) (hs : s ≤ 1073741824) :
 Calls Tryz.prog 30 #[v, .int .i64 (s : Int)] w fun e w' => e = .returned (.int .i64 ((n : Int) * 4 + (s : Int))) ∧ MarkedFrom s w' v n ∧ w.grownBy w' v.ownBlock := by
 rcases Nat.eq_zero_or_pos n with rfl | hpos
 · obtain ⟨A, c, rfl, _, _⟩ := oSl ho
   exact (markOrderS_noneFrom A c s w).mono fun e w' ⟨he, hw⟩ => ⟨by rw [he]; simp, .inl ⟨rfl, A, c, rfl⟩, by rw [hw]; exact World.grownBy.refl _ _⟩
 · obtain ⟨g, cap, rfl, _, _⟩ := ho.form hpos
   obtain ⟨f, M, h1, h2⟩ := row_of_own ho
   exact (markOrderS_from g n cap M s f w h2 h1 hn hs).mono fun e w' ⟨he, hr, hg⟩ => ⟨he, .inr ⟨g, cap, f, M, rfl, h1, hr⟩, hg⟩
theorem heldOrderS_anyFrom (s : Nat) (v : Value) (n : Nat) (w : World) (h : MarkedFrom s w v n) (hn : n ≤ 1048576) (hs : s ≤ 1073741824) :
 Calls Tryz.prog 31 #[v, .int .i64 (s : Int)] w fun e w' => e = .returned (.int .i64 ((n : Int) * 4 + (s : Int))) ∧ w' = w := by
 rcases h with ⟨rfl, A, c, rfl⟩ | ⟨g, cap, f, M, rfl, h2, h3⟩
 · exact (heldOrderS_noneFrom A c s w).mono fun e w' ⟨he, hw⟩ => ⟨by rw [he]; simp, hw⟩
 · exact heldOrderS_from g n cap M s f w h3 h2 hn hs
end Go.Proofs.YtgjjdnojiegidaaGreatDoor

namespace Go.Proofs.YtgjjdnojiegidaaGreatDoor
open Go.RowKit Wire
set_option maxHeartbeats 1600000
set_option maxRecDepth 100000

structure TwoRows (w : World) (base : Nat) (r1 : Value) (n1 : Nat) (z1 : List Int) (r2 : Value) (n2 : Nat) (z2 : List Int) : Prop where
 one : w.ownsRow base 65 4 r1 n1 (nums z1)
 two : w.ownsRow base 65 4 r2 n2 (nums z2)
 apart : ∀ q, r1.ownBlock = some q → r2.ownBlock ≠ some q
theorem TwoRows.below {w w' : World} {base : Nat} {r1 r2 : Value} {n1 n2 : Nat} {z1 z2 : List Int} (h : TwoRows w base r1 n1 z1 r2 n2 z2) (hb : Below w.heap.size w w') : TwoRows w' base r1 n1 z1 r2 n2 z2 :=
 ⟨oBw h.one hb, oBw h.two hb, h.apart⟩
theorem TwoRows.mono {w : World} {base base' : Nat} {r1 r2 : Value} {n1 n2 : Nat} {z1 z2 : List Int} (h : TwoRows w base r1 n1 z1 r2 n2 z2) (hb : base' ≤ base) : TwoRows w base' r1 n1 z1 r2 n2 z2 :=
 ⟨oMn h.one hb, oMn h.two hb, h.apart⟩
theorem TwoRows.kept {w w' : World} {base g : Nat} {r1 r2 : Value} {n1 n2 : Nat} {z1 z2 : List Int} (h : TwoRows w base r1 n1 z1 r2 n2 z2) (hg : w.grownBy w' (some g)) (hlt : g < base) : TwoRows w' base r1 n1 z1 r2 n2 z2 :=
 ⟨h.one.kept hg (.inr (fun e => absurd (h.one.lt g e).1 (Nat.not_le_of_lt hlt))), h.two.kept hg (.inr (fun e => absurd (h.two.lt g e).1 (Nat.not_le_of_lt hlt))), h.apart⟩
theorem TwoRows.alloc {w : World} {base : Nat} {r1 r2 : Value} {n1 n2 : Nat} {z1 z2 : List Int} (h : TwoRows w base r1 n1 z1 r2 n2 z2) (o : Obj) : TwoRows (w.alloc o) base r1 n1 z1 r2 n2 z2 := ⟨h.one.alloc o, h.two.alloc o, h.apart⟩
theorem TwoRows.nil (w : World) (base : Nat) : TwoRows w base (.slice none 0 0) 0 [] (.slice none 0 0) 0 [] := ⟨World.ownsRow_nil _ _ _ _, World.ownsRow_nil _ _ _ _, fun q hq => by simp [Value.ownBlock] at hq⟩
theorem TwoRows.slices {w : World} {base : Nat} {r1 r2 : Value} {n1 n2 : Nat} {z1 z2 : List Int} (h : TwoRows w base r1 n1 z1 r2 n2 z2) : ∃ A1 c1 A2 c2, r1 = .slice A1 n1 c1 ∧ r2 = .slice A2 n2 c2 := by
 obtain ⟨A1, c1, h1, _, _⟩ := oSl h.one
 obtain ⟨A2, c2, h2, _, _⟩ := oSl h.two
 exact ⟨A1, c1, A2, c2, h1, h2⟩
theorem TwoRows.bookIn {w : World} {base : Nat} {A1 A2 : Option Addr} {c1 c2 n1 n2 : Nat} {z1 z2 : List Int} (h : TwoRows w base (.slice A1 n1 c1) n1 z1 (.slice A2 n2 c2) n2 z2) : BookIn w w.heap.size A1 n1 A2 n2 z1 z2 := ⟨Lst.of_own h.one, Lst.of_own h.two⟩
def MarkedTwo (w : World) (r1 : Value) (n1 : Nat) (r2 : Value) (n2 : Nat) : Prop := MarkedFrom 1 w r1 n1 ∧ MarkedFrom (n1 * 4 + 1) w r2 n2
theorem MarkedTwo.below {w w' : World} {r1 r2 : Value} {n1 n2 : Nat} (h : MarkedTwo w r1 n1 r2 n2) (hb : Below w.heap.size w w') : MarkedTwo w' r1 n1 r2 n2 := ⟨h.1.below hb, h.2.below hb⟩
theorem markBook_own (base : Nat) (A1 A2 : Option Addr) (c1 c2 n1 n2 : Nat) (z1 z2 : List Int) (w : World) (h : TwoRows w base (.slice A1 n1 c1) n1 z1 (.slice A2 n2 c2) n2 z2) (h1 : n1 ≤ 1048576) (h2 : n2 ≤ 1048576) :
 Calls Tryz.prog 11 #[.agg #[.slice A1 n1 c1, .slice A2 n2 c2], .int .i64 1] w fun e w' => e = .returned (.int .i64 ((n2 : Int) * 4 + ((n1 : Int) * 4 + 1))) ∧ MarkedTwo w' (.slice A1 n1 c1) n1 (.slice A2 n2 c2) n2 ∧ (∀ B D, Below B D w → B ≤ base → B ≤ w.heap.size → Below B D w') ∧ ∀ i, i < w.heap.size → some i ≠ (Value.slice A1 n1 c1).ownBlock → some i ≠ (Value.slice A2 n2 c2).ownBlock → w'.heap[i]? = w.heap[i]? := by
 have ha := h.alloc (.cells #[.slice A1 n1 c1, .slice A2 n2 c2] 30)
 have k0 : (w.alloc (.cells #[.slice A1 n1 c1, .slice A2 n2 c2] 30)).heap[w.heap.size]? = some (.cells #[.slice A1 n1 c1, .slice A2 n2 c2] 30 (0, 0)) := heap_alloc_new w _
 go_enter Tryz.func11, Tryz.ntmps11
 go_wp2_with fail
 refine (markOrderS_anyFrom base 1 _ n1 _ _ ha.one h1 (by omega)).mono ?_
 rintro e w1 ⟨rfl, hM1, hg1⟩
 have hne : some w.heap.size ≠ (Value.slice A1 n1 c1).ownBlock := fun e => by have := (h.one.lt _ e.symm).2; omega
 have k1 := (hg1.block w.heap.size (by simp) hne).trans k0
 have x0 := cell_of_row w1 w.heap.size 0 _ _ (0, 0) k1
 have x1 := cell_of_row w1 w.heap.size 1 _ _ (0, 0) k1
 simp at x0 x1
 have hr2 := own_apart ha.two hg1 (fun q hq e => h.apart q e hq)
 clear k0 k1
 go_wp2_with fail
 have hm2 := markOrderS_anyFrom base (n1 * 4 + 1) _ n2 _ w1 hr2 h2 (by omega)
 rw [show ((n1 * 4 + 1 : Nat) : Int) = (n1 : Int) * 4 + 1 from by omega] at hm2
 refine hm2.mono ?_
 rintro e w2 ⟨rfl, hM2, hg2⟩
 clear x0 x1 hm2
 have hM1' : MarkedFrom 1 w2 (.slice A1 n1 c1) n1 := hM1.apart hg2 (fun q hq e => h.apart q hq e)
 go_wp2_with fail
 go_ret
 have hs1 : w.heap.size ≤ w1.heap.size := by have := hg1.size; simp at this; omega
 refine ⟨rfl, ⟨hM1', hM2⟩, fun B D hb hB hBw => ?_, fun i hi ha hb => (hg2.block i (by omega) hb).trans ((hg1.block i (by simp; omega) ha).trans (Below.heap_alloc w _ i hi))⟩
 exact ((hb.alloc hBw _).grown hg1 (Nat.le_trans hBw (by simp)) (fun q hq => Nat.le_trans hB (h.one.lt q hq).1)).grown hg2 (Nat.le_trans hBw hs1) (fun q hq => Nat.le_trans hB (h.two.lt q hq).1)
theorem heldBook_own (A1 A2 : Option Addr) (c1 c2 n1 n2 : Nat) (w : World) (h : MarkedTwo w (.slice A1 n1 c1) n1 (.slice A2 n2 c2) n2) (h1 : n1 ≤ 1048576) (h2 : n2 ≤ 1048576) :
 Calls Tryz.prog 13 #[.agg #[.slice A1 n1 c1, .slice A2 n2 c2], .int .i64 1] w fun e w' => e = .returned (.int .i64 ((n2 : Int) * 4 + ((n1 : Int) * 4 + 1))) ∧ Below w.heap.size w w' := by
 have hb0 : Below w.heap.size w (w.alloc (.cells #[.slice A1 n1 c1, .slice A2 n2 c2] 30)) := (Below.refl _ _).alloc (Nat.le_refl _) _
 have ha := h.below hb0
 have k0 : (w.alloc (.cells #[.slice A1 n1 c1, .slice A2 n2 c2] 30)).heap[w.heap.size]? = some (.cells #[.slice A1 n1 c1, .slice A2 n2 c2] 30 (0, 0)) := heap_alloc_new w _
 go_enter Tryz.func13, Tryz.ntmps13
 go_wp2_with fail
 refine (heldOrderS_anyFrom 1 _ n1 _ ha.1 h1 (by omega)).mono ?_
 rintro e w1 ⟨rfl, rfl⟩
 have x0 := cell_of_row _ w.heap.size 0 _ _ (0, 0) k0
 have x1 := cell_of_row _ w.heap.size 1 _ _ (0, 0) k0
 simp at x0 x1
 have t0 : decide ((n1 : Int) * 4 + 1 < 0) = false := decide_eq_false (by omega)
 clear k0
 go_wp2_with fail
 have hm2 := heldOrderS_anyFrom (n1 * 4 + 1) _ n2 _ ha.2 h2 (by omega)
 rw [show ((n1 * 4 + 1 : Nat) : Int) = (n1 : Int) * 4 + 1 from by omega] at hm2
 refine hm2.mono ?_
 rintro e w2 ⟨rfl, rfl⟩
 have t1 : decide ((n2 : Int) * 4 + ((n1 : Int) * 4 + 1) < 0) = false := decide_eq_false (by omega)
 clear x0 x1 hm2
 go_wp2_with fail
 go_ret
 exact ⟨rfl, hb0⟩
end Go.Proofs.YtgjjdnojiegidaaGreatDoor
