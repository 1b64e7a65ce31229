/-
  The document's book without an order.
-/
import Derived.Test.YtdjmejjponlfoabFindS
import Derived.Test.YtdjmejjponlfoabOpened
import Derived.Test.YtdjmejjponlfoabSides
namespace Go.Proofs.Ytdjmejjponlfoab
open Go.RowKit Wire

def tkZ (zs : List Int) (id : Int) : Nat → List Int
  | 0 => []
  | k + 1 => if num zs (k * 4) = id then tkZ zs id k else tkZ zs id k ++ [num zs (k * 4), num zs (k * 4 + 1), num zs (k * 4 + 2), num zs (k * 4 + 3)]
def tkN (zs : List Int) (id : Int) : Nat → Nat
  | 0 => 0
  | k + 1 => if num zs (k * 4) = id then tkN zs id k else tkN zs id k + 1
theorem own_apart {w w' : World} {B n sz : Nat} {e : TypeId} {v : Value} {xs : List Value} {row : Option Nat} (h : w.ownsRow B e sz v n xs) (hg : w.grownBy w' row) (hr : ∀ q, v.ownBlock = some q → row ≠ some q) : w'.ownsRow B e sz v n xs :=
  h.kept hg (by
    rcases h.2 with ⟨rfl, _⟩ | ⟨g, cap, cur, rfl, _⟩
    · exact .inl rfl
    · exact .inr (fun e => hr g rfl (e.symm.trans rfl)))
theorem tkN_le (zs : List Int) (id : Int) : ∀ k, tkN zs id k ≤ k
  | 0 => Nat.le_refl _
  | k + 1 => by
    have := tkN_le zs id k
    rw [tkN]
    split <;> omega
/-- what holds all through the copying of one order -/
def TkS (w w' : World) (A1 A2 : Option Addr) (n c m d b o k : Nat) (z0 z1 z2 z3 : Int) : Prop := Below w.heap.size w w' ∧ w'.cell? ⟨w.heap.size, 0, none⟩ = some (.slice A1 n c) ∧ w'.cell? ⟨w.heap.size, 1, none⟩ = some (.slice A2 m d) ∧ w'.cell? ⟨b, o + k * 4, none⟩ = some (.int .i64 z0) ∧ w'.cell? ⟨b, o + k * 4 + 1, none⟩ = some (.int .i64 z1) ∧ w'.cell? ⟨b, o + k * 4 + 2, none⟩ = some (.int .i64 z2) ∧ w'.cell? ⟨b, o + k * 4 + 3, none⟩ = some (.int .i64 z3) ∧ w'.heap[w.heap.size]? = some (.cells #[.slice A1 n c, .slice A2 m d] 26 (0, 0)) ∧ w'.heap[w.heap.size + 1]? = some (.cells #[.slice none 0 0, .slice none 0 0] 26 (0, 0)) ∧ w.heap.size + 2 < w'.heap.size ∧ ∃ x y, w'.heap[w.heap.size + 2]? = some (.cells #[x, y] 26 (0, 0))
theorem TkS.keep {w w' w'' : World} {A1 A2 : Option Addr} {n c m d b o k : Nat} {z0 z1 z2 z3 : Int} (h : TkS w w' A1 A2 n c m d b o k z0 z1 z2 z3) (hb : b < w.heap.size) (hbel : Below w.heap.size w w'') (e : ∀ q, q < w.heap.size + 2 → w''.heap[q]? = w'.heap[q]?) (hs : w.heap.size + 2 < w''.heap.size) (h2 : ∃ x y, w''.heap[w.heap.size + 2]? = some (.cells #[x, y] 26 (0, 0))) : TkS w w'' A1 A2 n c m d b o k z0 z1 z2 z3 := by
  have g : ∀ p : Addr, p.block < w.heap.size + 2 → w''.cell? p = w'.cell? p := fun p hp => by unfold World.cell?; rw [e _ hp]
  exact ⟨hbel, (g _ (by show w.heap.size < _; omega)).trans h.2.1, (g _ (by show w.heap.size < _; omega)).trans h.2.2.1, (g _ (by show b < _; omega)).trans h.2.2.2.1, (g _ (by show b < _; omega)).trans h.2.2.2.2.1, (g _ (by show b < _; omega)).trans h.2.2.2.2.2.1, (g _ (by show b < _; omega)).trans h.2.2.2.2.2.2.1, (e _ (by omega)).trans h.2.2.2.2.2.2.2.1, (e _ (by omega)).trans h.2.2.2.2.2.2.2.2.1, hs, h2⟩
set_option linter.unusedSimpArgs false in
set_option maxHeartbeats 3200000 in
set_option maxRecDepth 100000 in
theorem spec_l2Take (a1 : Addr) (n c : Nat) (a2 : Addr) (m d : Nat) (za zb : List Int) (id : Int) (w : World) (ha : Lst w w.heap.size 4 (some a1) n za) (hb : Lst w w.heap.size 4 (some a2) m zb) (hn : n ≤ 1048576) (hm : m ≤ 1048576) :
    Calls Try.prog 98 #[.agg #[.slice (some a1) n c, .slice (some a2) m d], .int .i64 id] w fun e w' => (∃ v1 v2, e = .returned (.agg #[v1, v2]) ∧ w'.ownsRow w.heap.size 28 4 v1 (tkN za id n) (nums (tkZ za id n)) ∧ w'.ownsRow w.heap.size 28 4 v2 (tkN zb id m) (nums (tkZ zb id m)) ∧ ∀ q, v1.ownBlock = some q → v2.ownBlock ≠ some q) ∧ Below w.heap.size w w' := by
  obtain ⟨i0, hi, hz0, hz1, hz2⟩ := info_parts ord_info
  obtain ⟨k0, k1, k2⟩ := three_blocks w (.cells #[.slice (some a1) n c, .slice (some a2) m d] 26) (.cells #[.slice none 0 0, .slice none 0 0] 26) (.cells #[.slice none 0 0, .slice none 0 0] 26)
  have hb0 : Below w.heap.size w (((w.alloc (.cells #[.slice (some a1) n c, .slice (some a2) m d] 26)).alloc (.cells #[.slice none 0 0, .slice none 0 0] 26)).alloc (.cells #[.slice none 0 0, .slice none 0 0] 26)) := (((Below.refl _ _).alloc (Nat.le_refl _) _).alloc (by simp) _).alloc (by simp; omega) _
  have hs0 : w.heap.size + 2 < (((w.alloc (.cells #[.slice (some a1) n c, .slice (some a2) m d] 26)).alloc (.cells #[.slice none 0 0, .slice none 0 0] 26)).alloc (.cells #[.slice none 0 0, .slice none 0 0] 26)).heap.size := by simp
  go_enter Try.func98, Try.ntmps98
  go_upto_region 2 with fail
  generalize (((w.alloc (.cells #[.slice (some a1) n c, .slice (some a2) m d] 26)).alloc (.cells #[.slice none 0 0, .slice none 0 0] 26)).alloc (.cells #[.slice none 0 0, .slice none 0 0] 26)) = w0 at *
  go_wp2_with fail
  go_loopw [6] (fun i wr => ∃ (k : Nat) (v : Value), k ≤ n ∧ i = .int .i64 (k : Int) ∧ wr.heap[w.heap.size]? = some (.cells #[.slice (some a1) n c, .slice (some a2) m d] 26 (0, 0)) ∧ wr.heap[w.heap.size + 1]? = some (.cells #[.slice none 0 0, .slice none 0 0] 26 (0, 0)) ∧ wr.heap[w.heap.size + 2]? = some (.cells #[v, .slice none 0 0] 26 (0, 0)) ∧ wr.ownsRow (w.heap.size + 3) 28 4 v (tkN za id k) (nums (tkZ za id k)) ∧ Below w.heap.size w wr ∧ w.heap.size + 2 < wr.heap.size) (fun i _ => n - (intOf i).toNat)
  case atStart => exact ⟨0, .slice none 0 0, Nat.zero_le _, rfl, k0, k1, k2, World.ownsRow_nil _ _ _ _, hb0, hs0⟩
  case round =>
    clear k0 k1 k2 hb0 hs0
    obtain ⟨k, v, hk, rfl, hbx, hrs, hout, hown, hbel, hsz⟩ := hrel
    obtain ⟨A2, d2, rfl, _, _⟩ := own_slice hown
    have x0 := cell_of_row wr w.heap.size 0 _ _ (0, 0) hbx
    have x1 := cell_of_row wr w.heap.size 1 _ _ (0, 0) hbx
    simp at x0 x1
    by_cases hlt : k < n
    · obtain ⟨b, o, hax, hbo, c0, c1, c2, c3⟩ := (ha.below hbel).row4 hlt
      injection hax with hax
      subst hax
      have HT := Lib.hid (show tkN za id (k + 1) = if num za (k * 4) = id then tkN za id k else tkN za id k + 1 from rfl)
      have HZ := Lib.hid (show tkZ za id (k + 1) = if num za (k * 4) = id then tkZ za id k else tkZ za id k ++ [num za (k * 4), num za (k * 4 + 1), num za (k * 4 + 2), num za (k * 4 + 3)] from rfl)
      rcases Bool.eq_false_or_eq_true (num za (k * 4) == id) with hy | hy
      · have HE := Lib.hid (beq_iff_eq.1 hy)
        have HO := Lib.hid hout
        have HW := Lib.hid hown
        clear hout hown
        go_wp2_with fail
        go_roundw
        case rel => exact ⟨k + 1, _, by omega, by go_num, hbx, hrs, HO.out, by rw [HT.out, HZ.out, if_pos HE.out, if_pos HE.out]; exact HW.out, hbel, hsz⟩
        case measure => simp [intOf]; omega
      · have HE : Hid (num za (k * 4) ≠ id) := Lib.hid (by simpa using hy)
        have C0 := Lib.hid c0
        have C1 := Lib.hid c1
        have C2 := Lib.hid c2
        have C3 := Lib.hid c3
        have hov := hown.lt
        have hle := tkN_le za id k
        have hownA := (show wr.drew.ownsRow (w.heap.size + 3) 28 4 _ _ _ from hown).alloc (.cells #[.int .i64 (num za (k * 4)), .int .i64 (num za (k * 4 + 1)), .int .i64 (num za (k * 4 + 2)), .int .i64 (num za (k * 4 + 3))] 28)
        go_upto_region 6 with fail
        refine wp_region_held_drew (S := fun w' => Below w.heap.size w w' ∧ w'.cell? ⟨w.heap.size, 0, none⟩ = some (.slice (some ⟨b, o, none⟩) n c) ∧ w'.cell? ⟨w.heap.size, 1, none⟩ = some (.slice (some a2) m d) ∧ w'.cell? ⟨b, o + k * 4, none⟩ = some (.int .i64 (num za (k * 4))) ∧ w'.cell? ⟨b, o + k * 4 + 1, none⟩ = some (.int .i64 (num za (k * 4 + 1))) ∧ w'.cell? ⟨b, o + k * 4 + 2, none⟩ = some (.int .i64 (num za (k * 4 + 2))) ∧ w'.cell? ⟨b, o + k * 4 + 3, none⟩ = some (.int .i64 (num za (k * 4 + 3))) ∧ w'.heap[w.heap.size]? = some (.cells #[.slice (some ⟨b, o, none⟩) n c, .slice (some a2) m d] 26 (0, 0)) ∧ w'.heap[w.heap.size + 1]? = some (.cells #[.slice none 0 0, .slice none 0 0] 26 (0, 0)) ∧ w.heap.size + 2 < w'.heap.size ∧ ∃ x y, w'.heap[w.heap.size + 2]? = some (.cells #[x, y] 26 (0, 0))) (by kernel_rfl) ?hS0s (fun hHeld => ?rest0s)
        case hS0s => exact ⟨hbel.drew, x0, x1, C0.out, C1.out, C2.out, C3.out, hbx, hrs, hsz, _, _, hout⟩
        refine wpAnyH_take (i := 0) (oi := ?oit1) (v := ?vt1) ?hit1 (by kernel_rfl) (by kernel_rfl) (by kernel_rfl) ?hQt1 (Or.inl ⟨?hwt1, ?hyt1⟩) (by assumption) ?restt1
        case hit1 => simp only [List.getElem?_toArray, List.getElem?_cons_succ, List.getElem?_cons_zero]; exact rfl
        case hQt1 => exact fun _ _ _ h => h
        case hwt1 => rfl
        case hyt1 => ((intro w hSw; (try dsimp only at hSw); go_simp) <;> with_reducible rfl)
        try simp only [Act.put, List.setIfInBounds_toArray, List.set_cons_zero, List.set_cons_succ]
        refine wpAnyH_take (i := 2) (oi := ?oit2) (v := ?vt2) ?hit2 (by kernel_rfl) (by kernel_rfl) (by kernel_rfl) ?hQt2 (Or.inl ⟨?hwt2, ?hyt2⟩) (by assumption) ?restt2
        case hit2 => simp only [List.getElem?_toArray, List.getElem?_cons_succ, List.getElem?_cons_zero]; exact rfl
        case hQt2 => exact fun _ _ _ h => h
        case hwt2 => rfl
        case hyt2 => ((intro w hSw; (try dsimp only at hSw); go_simp) <;> with_reducible rfl)
        try simp only [Act.put, List.setIfInBounds_toArray, List.set_cons_zero, List.set_cons_succ]
        refine wpAnyH_take (i := 3) (oi := ?oit3) (v := ?vt3) ?hit3 (by kernel_rfl) (by kernel_rfl) (by kernel_rfl) ?hQt3 (Or.inl ⟨?hwt3, ?hyt3⟩) (by assumption) ?restt3
        case hit3 => simp only [List.getElem?_toArray, List.getElem?_cons_succ, List.getElem?_cons_zero]; exact rfl
        case hQt3 => exact fun _ _ _ h => h
        case hwt3 => rfl
        case hyt3 => ((intro w hSw; (try dsimp only at hSw); go_simp) <;> with_reducible rfl)
        try simp only [Act.put, List.setIfInBounds_toArray, List.set_cons_zero, List.set_cons_succ]
        refine wpAnyH_take (i := 4) (oi := ?oit4) (v := ?vt4) ?hit4 (by kernel_rfl) (by kernel_rfl) (by kernel_rfl) ?hQt4 (Or.inl ⟨?hwt4, ?hyt4⟩) (by assumption) ?restt4
        case hit4 => simp only [List.getElem?_toArray, List.getElem?_cons_succ, List.getElem?_cons_zero]; exact rfl
        case hQt4 => exact fun _ _ _ h => h
        case hwt4 => rfl
        case hyt4 => ((intro w hSw; (try dsimp only at hSw); go_simp) <;> with_reducible rfl)
        try simp only [Act.put, List.setIfInBounds_toArray, List.set_cons_zero, List.set_cons_succ]
        refine wpAnyH_take (i := 5) (oi := ?oit5) (v := ?vt5) ?hit5 (by kernel_rfl) (by kernel_rfl) (by kernel_rfl) ?hQt5 (Or.inl ⟨?hwt5, ?hyt5⟩) (by assumption) ?restt5
        case hit5 => simp only [List.getElem?_toArray, List.getElem?_cons_succ, List.getElem?_cons_zero]; exact rfl
        case hQt5 => exact fun _ _ _ h => h
        case hwt5 => rfl
        case hyt5 => ((intro w hSw; (try dsimp only at hSw); go_simp) <;> with_reducible rfl)
        try simp only [Act.put, List.setIfInBounds_toArray, List.set_cons_zero, List.set_cons_succ]
        refine wpAnyH_take (i := 6) (oi := ?oit6) (v := ?vt6) ?hit6 (by kernel_rfl) (by kernel_rfl) (by kernel_rfl) ?hQt6 (Or.inl ⟨?hwt6, ?hyt6⟩) (by assumption) ?restt6
        case hit6 => simp only [List.getElem?_toArray, List.getElem?_cons_succ, List.getElem?_cons_zero]; exact rfl
        case hQt6 => exact fun _ _ _ h => h
        case hwt6 => rfl
        case hyt6 => ((intro w hSw; (try dsimp only at hSw); go_simp) <;> with_reducible rfl)
        try simp only [Act.put, List.setIfInBounds_toArray, List.set_cons_zero, List.set_cons_succ]
        refine wpAnyH_ready (rs := [1, 7]) (by kernel_rfl) (by simp) ?_
        refine AllReadyH.cons (o := ?ot7) ?hot7 (fun K hK => ?stept7) ?moret7
        case hot7 => simp only [List.getElem?_toArray, List.getElem?_cons_succ, List.getElem?_cons_zero]; exact rfl
        case stept7 =>
          have rl : wr.drew.cell? ⟨w.heap.size + 2, 0, none⟩ = some (.slice A2 (tkN za id k) d2) := cell_of_row wr.drew (w.heap.size + 2) 0 _ _ (0, 0) hout
          go_simp
          refine hK.out _ _ ?hSt7 (fun hHeld => ?restt7)
          case hSt7 => exact hHeld
          clear hK K
          try simp only [Act.put, List.setIfInBounds_toArray, List.set_cons_zero, List.set_cons_succ]
          refine wpAnyH_ready (rs := [7]) (by kernel_rfl) (by simp) ?_
          refine AllReadyH.cons (o := ?ot8) ?hot8 (fun K hK => ?stept8) ?moret8
          case hot8 => simp only [List.getElem?_toArray, List.getElem?_cons_succ, List.getElem?_cons_zero]; exact rfl
          case moret8 => exact AllReadyH.nil
          go_simp
          refine hK.out _ _ ?hSt8 (fun hHeld => ?restt8)
          case hSt8 => exact TkS.keep hHeld hbo (hHeld.1.alloc (Nat.le_of_lt (by have := hHeld.2.2.2.2.2.2.2.2.2.1; omega)) _) (fun q hq => Below.heap_alloc _ _ q (by have := hHeld.2.2.2.2.2.2.2.2.2.1; omega)) (by have := hHeld.2.2.2.2.2.2.2.2.2.1; simp; omega) (by obtain ⟨x, y, h⟩ := hHeld.2.2.2.2.2.2.2.2.2.2; exact ⟨x, y, (Below.heap_alloc _ _ _ (by have := hHeld.2.2.2.2.2.2.2.2.2.1; omega)).trans h⟩)
          clear hK K
          try simp only [Act.put, List.setIfInBounds_toArray, List.set_cons_zero, List.set_cons_succ]
          refine wpAnyH_ready (rs := [8]) (by kernel_rfl) (by simp) ?_
          refine AllReadyH.cons (o := ?ot9) ?hot9 (fun K hK => ?stept9) ?moret9
          case hot9 => simp only [List.getElem?_toArray, List.getElem?_cons_succ, List.getElem?_cons_zero]; exact rfl
          case moret9 => exact AllReadyH.nil
          (refine step_append_own _ rfl _ _ 24 rfl (w.heap.size + 3) 28 i0 _ 4 32 Try.underlying24 hi hz0 hz1 hz2 rfl (by decide) _ _ _ rfl hownA ⟨wr.heap.size, 0, none⟩ 1 1 [.int .i64 (num za (k * 4)), .int .i64 (num za (k * 4 + 1)), .int .i64 (num za (k * 4 + 2)), .int .i64 (num za (k * 4 + 3))] rfl rfl (World.news_of_block (heap_alloc_new wr.drew _)) (by intro u hu; simp at hu; rcases hu with rfl | rfl | rfl | rfl <;> rfl) (by unfold maxLen; omega) (by omega) (by simp; omega) ?_; intro v' u2 hown2 hgrow2 _)
          obtain ⟨A3, d3, rfl, _, _⟩ := own_slice hown2
          have hgq := fun q (hq : q < wr.heap.size) (h3 : q < w.heap.size + 3) => (hgrow2.block q (by simp; omega) (fun e => by have := (hov q e.symm).1; omega)).trans (Below.heap_alloc wr.drew _ q hq)
          refine hK.out _ _ ?hSt9 (fun hHeld => ?restt9)
          case hSt9 => exact TkS.keep hHeld hbo (hHeld.1.grown hgrow2 (by simp; omega) (fun q hq => by have := (hov q hq).1; omega)) (fun q hq => (hgrow2.block q (by simp; omega) (fun e => by have := (hov q e.symm).1; omega))) (Nat.lt_of_lt_of_le hHeld.2.2.2.2.2.2.2.2.2.1 hgrow2.size) ⟨_, _, (hgq _ (by omega) (by omega)).trans hout⟩
          clear hK K
          try simp only [Act.put, List.setIfInBounds_toArray, List.set_cons_zero, List.set_cons_succ]
          refine wpAnyH_take (i := 9) (oi := ?oit10) (v := ?vt10) ?hit10 (by kernel_rfl) (by kernel_rfl) (by kernel_rfl) ?hQt10 (Or.inl ⟨?hwt10, ?hyt10⟩) (by assumption) ?restt10
          case hit10 => simp only [List.getElem?_toArray, List.getElem?_cons_succ, List.getElem?_cons_zero]; exact rfl
          case hQt10 => exact fun _ _ _ h => h
          case hwt10 => rfl
          case hyt10 => ((intro w hSw; (try dsimp only at hSw); go_simp) <;> with_reducible rfl)
          try simp only [Act.put, List.setIfInBounds_toArray, List.set_cons_zero, List.set_cons_succ]
          refine wpAnyH_ready (rs := [10]) (by kernel_rfl) (by simp) ?_
          refine AllReadyH.cons (o := ?ot11) ?hot11 (fun K hK => ?stept11) ?moret11
          case hot11 => simp only [List.getElem?_toArray, List.getElem?_cons_succ, List.getElem?_cons_zero]; exact rfl
          case moret11 => exact AllReadyH.nil
          have hX := hHeld
          have ho2 := (hgq (w.heap.size + 2) (by omega) (by omega)).trans hout
          have r0 := cell_of_row u2 (w.heap.size + 2) 0 _ _ (0, 0) ho2
          have z0 := frozen_of_row u2 (w.heap.size + 2) 0 _ _ ho2
          simp at r0
          go_simp
          refine hK.out _ _ ?hSt11 (fun hHeld => ?restt11)
          case hSt11 => exact TkS.keep hX hbo (hX.1.setCell (p := ⟨w.heap.size + 2, 0, none⟩) (show w.heap.size ≤ w.heap.size + 2 by omega) _) (fun q hq => Below.heap_setCell _ _ _ q (show q ≠ w.heap.size + 2 by omega)) (by simpa [World.setCell] using hX.2.2.2.2.2.2.2.2.2.1) ⟨_, _, heap_set0 ho2⟩
          clear hK K
          try simp only [Act.put, List.setIfInBounds_toArray, List.set_cons_zero, List.set_cons_succ]
          refine wpAnyH_done (by kernel_rfl) ?_ _
          have HW := Lib.hid (hown2.kept (set_grown u2 (w.heap.size + 2) 0 (.slice A3 (tkN za id k + 1) d3)) (.inr (fun e => by have := (hown2.lt _ e).1; omega)))
          have HO := Lib.hid (heap_set0 (u := .slice A3 (tkN za id k + 1) d3) ho2)
          have HH := Lib.hid hHeld
          clear hHeld hX hown2 hgq hgrow2 hown hownA hout ho2 r0 z0 hbx hrs x0 x1 c0 c1 c2 c3
          go_wp2_with fail
          go_roundw
          case rel => exact ⟨k + 1, _, by omega, by go_num, HH.out.2.2.2.2.2.2.2.1, HH.out.2.2.2.2.2.2.2.2.1, HO.out, by rw [HT.out, HZ.out, if_neg HE.out, if_neg HE.out, nums_append]; exact HW.out, HH.out.1, HH.out.2.2.2.2.2.2.2.2.2.1⟩
          case measure => simp [intOf]; omega
        refine AllReadyH.cons (o := ?ot12) ?hot12 (fun K hK => ?stept12) ?moret12
        case hot12 => simp only [List.getElem?_toArray, List.getElem?_cons_succ, List.getElem?_cons_zero]; exact rfl
        case moret12 => exact AllReadyH.nil
        go_simp
        refine hK.out _ _ ?hSt12 (fun hHeld => ?restt12)
        case hSt12 => exact TkS.keep hHeld hbo (hHeld.1.alloc (Nat.le_of_lt (by have := hHeld.2.2.2.2.2.2.2.2.2.1; omega)) _) (fun q hq => Below.heap_alloc _ _ q (by have := hHeld.2.2.2.2.2.2.2.2.2.1; omega)) (by have := hHeld.2.2.2.2.2.2.2.2.2.1; simp; omega) (by obtain ⟨x, y, h⟩ := hHeld.2.2.2.2.2.2.2.2.2.2; exact ⟨x, y, (Below.heap_alloc _ _ _ (by have := hHeld.2.2.2.2.2.2.2.2.2.1; omega)).trans h⟩)
        clear hK K
        try simp only [Act.put, List.setIfInBounds_toArray, List.set_cons_zero, List.set_cons_succ]
        refine wpAnyH_ready (rs := [1]) (by kernel_rfl) (by simp) ?_
        refine AllReadyH.cons (o := ?ot13) ?hot13 (fun K hK => ?stept13) ?moret13
        case hot13 => simp only [List.getElem?_toArray, List.getElem?_cons_succ, List.getElem?_cons_zero]; exact rfl
        case moret13 => exact AllReadyH.nil
        have rl : wr.drew.cell? ⟨w.heap.size + 2, 0, none⟩ = some (.slice A2 (tkN za id k) d2) := cell_of_row wr.drew (w.heap.size + 2) 0 _ _ (0, 0) hout
        have rl2 : (wr.drew.alloc (.cells #[.int .i64 (num za (k * 4)), .int .i64 (num za (k * 4 + 1)), .int .i64 (num za (k * 4 + 2)), .int .i64 (num za (k * 4 + 3))] 28)).cell? ⟨w.heap.size + 2, 0, none⟩ = some (.slice A2 (tkN za id k) d2) := cell_of_row _ (w.heap.size + 2) 0 _ _ (0, 0) ((Below.heap_alloc wr.drew (.cells #[.int .i64 (num za (k * 4)), .int .i64 (num za (k * 4 + 1)), .int .i64 (num za (k * 4 + 2)), .int .i64 (num za (k * 4 + 3))] 28) _ (show w.heap.size + 2 < wr.heap.size by omega)).trans hout)
        have rl0 : wr.cell? ⟨w.heap.size + 1 + 1, 0, none⟩ = some (.slice A2 (tkN za id k) d2) := cell_of_row wr (w.heap.size + 2) 0 _ _ (0, 0) hout
        go_simp
        refine hK.out _ _ ?hSt13 (fun hHeld => ?restt13)
        case hSt13 => exact hHeld
        clear hK K
        try simp only [Act.put, List.setIfInBounds_toArray, List.set_cons_zero, List.set_cons_succ]
        refine wpAnyH_ready (rs := [8]) (by kernel_rfl) (by simp) ?_
        refine AllReadyH.cons (o := ?ot14) ?hot14 (fun K hK => ?stept14) ?moret14
        case hot14 => simp only [List.getElem?_toArray, List.getElem?_cons_succ, List.getElem?_cons_zero]; exact rfl
        case moret14 => exact AllReadyH.nil
        (refine step_append_own _ rfl _ _ 24 rfl (w.heap.size + 3) 28 i0 _ 4 32 Try.underlying24 hi hz0 hz1 hz2 rfl (by decide) _ _ _ rfl hownA ⟨wr.heap.size, 0, none⟩ 1 1 [.int .i64 (num za (k * 4)), .int .i64 (num za (k * 4 + 1)), .int .i64 (num za (k * 4 + 2)), .int .i64 (num za (k * 4 + 3))] rfl rfl (World.news_of_block (heap_alloc_new wr.drew _)) (by intro u hu; simp at hu; rcases hu with rfl | rfl | rfl | rfl <;> rfl) (by unfold maxLen; omega) (by omega) (by simp; omega) ?_; intro v' u2 hown2 hgrow2 _)
        obtain ⟨A3, d3, rfl, _, _⟩ := own_slice hown2
        have hgq := fun q (hq : q < wr.heap.size) (h3 : q < w.heap.size + 3) => (hgrow2.block q (by simp; omega) (fun e => by have := (hov q e.symm).1; omega)).trans (Below.heap_alloc wr.drew _ q hq)
        refine hK.out _ _ ?hSt14 (fun hHeld => ?restt14)
        case hSt14 => exact TkS.keep hHeld hbo (hHeld.1.grown hgrow2 (by simp; omega) (fun q hq => by have := (hov q hq).1; omega)) (fun q hq => (hgrow2.block q (by simp; omega) (fun e => by have := (hov q e.symm).1; omega))) (Nat.lt_of_lt_of_le hHeld.2.2.2.2.2.2.2.2.2.1 hgrow2.size) ⟨_, _, (hgq _ (by omega) (by omega)).trans hout⟩
        clear hK K
        try simp only [Act.put, List.setIfInBounds_toArray, List.set_cons_zero, List.set_cons_succ]
        refine wpAnyH_take (i := 9) (oi := ?oit15) (v := ?vt15) ?hit15 (by kernel_rfl) (by kernel_rfl) (by kernel_rfl) ?hQt15 (Or.inl ⟨?hwt15, ?hyt15⟩) (by assumption) ?restt15
        case hit15 => simp only [List.getElem?_toArray, List.getElem?_cons_succ, List.getElem?_cons_zero]; exact rfl
        case hQt15 => exact fun _ _ _ h => h
        case hwt15 => rfl
        case hyt15 => ((intro w hSw; (try dsimp only at hSw); go_simp) <;> with_reducible rfl)
        try simp only [Act.put, List.setIfInBounds_toArray, List.set_cons_zero, List.set_cons_succ]
        refine wpAnyH_ready (rs := [10]) (by kernel_rfl) (by simp) ?_
        refine AllReadyH.cons (o := ?ot16) ?hot16 (fun K hK => ?stept16) ?moret16
        case hot16 => simp only [List.getElem?_toArray, List.getElem?_cons_succ, List.getElem?_cons_zero]; exact rfl
        case moret16 => exact AllReadyH.nil
        have hX := hHeld
        have ho2 := (hgq (w.heap.size + 2) (by omega) (by omega)).trans hout
        have r0 := cell_of_row u2 (w.heap.size + 2) 0 _ _ (0, 0) ho2
        have z0 := frozen_of_row u2 (w.heap.size + 2) 0 _ _ ho2
        simp at r0
        go_simp
        refine hK.out _ _ ?hSt16 (fun hHeld => ?restt16)
        case hSt16 => exact TkS.keep hX hbo (hX.1.setCell (p := ⟨w.heap.size + 2, 0, none⟩) (show w.heap.size ≤ w.heap.size + 2 by omega) _) (fun q hq => Below.heap_setCell _ _ _ q (show q ≠ w.heap.size + 2 by omega)) (by simpa [World.setCell] using hX.2.2.2.2.2.2.2.2.2.1) ⟨_, _, heap_set0 ho2⟩
        clear hK K
        try simp only [Act.put, List.setIfInBounds_toArray, List.set_cons_zero, List.set_cons_succ]
        refine wpAnyH_done (by kernel_rfl) ?_ _
        have HW := Lib.hid (hown2.kept (set_grown u2 (w.heap.size + 2) 0 (.slice A3 (tkN za id k + 1) d3)) (.inr (fun e => by have := (hown2.lt _ e).1; omega)))
        have HO := Lib.hid (heap_set0 (u := .slice A3 (tkN za id k + 1) d3) ho2)
        have HH := Lib.hid hHeld
        clear hHeld hX hown2 hgq hgrow2 hown hownA hout ho2 r0 z0 hbx hrs x0 x1 c0 c1 c2 c3
        go_wp2_with fail
        go_roundw
        case rel => exact ⟨k + 1, _, by omega, by go_num, HH.out.2.2.2.2.2.2.2.1, HH.out.2.2.2.2.2.2.2.2.1, HO.out, by rw [HT.out, HZ.out, if_neg HE.out, if_neg HE.out, nums_append]; exact HW.out, HH.out.1, HH.out.2.2.2.2.2.2.2.2.2.1⟩
        case measure => simp [intOf]; omega
    · obtain rfl : n = k := by omega
      have hv1 := hown
      have hlt1 := fun q hq => (hown.lt q hq).2
      have hwl : w.heap.size + 3 ≤ wr.heap.size := by omega
      clear hown
      generalize wr = wl at *
      go_wp2_with fail
      go_loopw [7] (fun i wr => ∃ (k : Nat) (v : Value), k ≤ m ∧ i = .int .i64 (k : Int) ∧ wr.heap[w.heap.size]? = some (.cells #[.slice (some a1) n c, .slice (some a2) m d] 26 (0, 0)) ∧ wr.heap[w.heap.size + 1]? = some (.cells #[.slice none 0 0, .slice none 0 0] 26 (0, 0)) ∧ wr.heap[w.heap.size + 2]? = some (.cells #[.slice A2 (tkN za id n) d2, v] 26 (0, 0)) ∧ wr.ownsRow (w.heap.size + 3) 28 4 (.slice A2 (tkN za id n) d2) (tkN za id n) (nums (tkZ za id n)) ∧ wr.ownsRow wl.heap.size 28 4 v (tkN zb id k) (nums (tkZ zb id k)) ∧ Below w.heap.size w wr ∧ w.heap.size + 2 < wr.heap.size ∧ wl.heap.size ≤ wr.heap.size) (fun i _ => m - (intOf i).toNat)
      case atStart => exact ⟨0, .slice none 0 0, Nat.zero_le _, rfl, hbx, hrs, hout, hv1, World.ownsRow_nil _ _ _ _, hbel, hsz, Nat.le_refl _⟩
      case round =>
        clear hbx hrs hout hv1 hbel hsz x0 x1
        obtain ⟨k, v, hk, rfl, hbx, hrs, hout, hv1, hown, hbel, hsz, hwr⟩ := hrel
        obtain ⟨A4, d4, rfl, _, _⟩ := own_slice hown
        have x0 := cell_of_row wr w.heap.size 0 _ _ (0, 0) hbx
        have x1 := cell_of_row wr w.heap.size 1 _ _ (0, 0) hbx
        simp at x0 x1
        by_cases hlt : k < m
        · obtain ⟨b, o, hax, hbo, c0, c1, c2, c3⟩ := (hb.below hbel).row4 hlt
          injection hax with hax
          subst hax
          have HT := Lib.hid (show tkN zb id (k + 1) = if num zb (k * 4) = id then tkN zb id k else tkN zb id k + 1 from rfl)
          have HZ := Lib.hid (show tkZ zb id (k + 1) = if num zb (k * 4) = id then tkZ zb id k else tkZ zb id k ++ [num zb (k * 4), num zb (k * 4 + 1), num zb (k * 4 + 2), num zb (k * 4 + 3)] from rfl)
          rcases Bool.eq_false_or_eq_true (num zb (k * 4) == id) with hy | hy
          · have HE := Lib.hid (beq_iff_eq.1 hy)
            have HO := Lib.hid hout
            have HW := Lib.hid hown
            have HV := Lib.hid hv1
            clear hout hown hv1
            go_wp2_with fail
            go_roundw
            case rel => exact ⟨k + 1, _, by omega, by go_num, hbx, hrs, HO.out, HV.out, by rw [HT.out, HZ.out, if_pos HE.out, if_pos HE.out]; exact HW.out, hbel, hsz, hwr⟩
            case measure => simp [intOf]; omega
          · have HE : Hid (num zb (k * 4) ≠ id) := Lib.hid (by simpa using hy)
            have C0 := Lib.hid c0
            have C1 := Lib.hid c1
            have C2 := Lib.hid c2
            have C3 := Lib.hid c3
            have hov := hown.lt
            have hle := tkN_le zb id k
            have hownA := (show wr.drew.ownsRow wl.heap.size 28 4 _ _ _ from hown).alloc (.cells #[.int .i64 (num zb (k * 4)), .int .i64 (num zb (k * 4 + 1)), .int .i64 (num zb (k * 4 + 2)), .int .i64 (num zb (k * 4 + 3))] 28)
            go_upto_region 11 with fail
            refine wp_region_held_drew (S := fun w' => Below w.heap.size w w' ∧ w'.cell? ⟨w.heap.size, 0, none⟩ = some (.slice (some a1) n c) ∧ w'.cell? ⟨w.heap.size, 1, none⟩ = some (.slice (some ⟨b, o, none⟩) m d) ∧ w'.cell? ⟨b, o + k * 4, none⟩ = some (.int .i64 (num zb (k * 4))) ∧ w'.cell? ⟨b, o + k * 4 + 1, none⟩ = some (.int .i64 (num zb (k * 4 + 1))) ∧ w'.cell? ⟨b, o + k * 4 + 2, none⟩ = some (.int .i64 (num zb (k * 4 + 2))) ∧ w'.cell? ⟨b, o + k * 4 + 3, none⟩ = some (.int .i64 (num zb (k * 4 + 3))) ∧ w'.heap[w.heap.size]? = some (.cells #[.slice (some a1) n c, .slice (some ⟨b, o, none⟩) m d] 26 (0, 0)) ∧ w'.heap[w.heap.size + 1]? = some (.cells #[.slice none 0 0, .slice none 0 0] 26 (0, 0)) ∧ w.heap.size + 2 < w'.heap.size ∧ ∃ x y, w'.heap[w.heap.size + 2]? = some (.cells #[x, y] 26 (0, 0))) (by kernel_rfl) ?hS1s (fun hHeld => ?rest1s)
            case hS1s => exact ⟨hbel.drew, x0, x1, C0.out, C1.out, C2.out, C3.out, hbx, hrs, hsz, _, _, hout⟩
            refine wpAnyH_take (i := 0) (oi := ?oit17) (v := ?vt17) ?hit17 (by kernel_rfl) (by kernel_rfl) (by kernel_rfl) ?hQt17 (Or.inl ⟨?hwt17, ?hyt17⟩) (by assumption) ?restt17
            case hit17 => simp only [List.getElem?_toArray, List.getElem?_cons_succ, List.getElem?_cons_zero]; exact rfl
            case hQt17 => exact fun _ _ _ h => h
            case hwt17 => rfl
            case hyt17 => ((intro w hSw; (try dsimp only at hSw); go_simp) <;> with_reducible rfl)
            try simp only [Act.put, List.setIfInBounds_toArray, List.set_cons_zero, List.set_cons_succ]
            refine wpAnyH_take (i := 2) (oi := ?oit18) (v := ?vt18) ?hit18 (by kernel_rfl) (by kernel_rfl) (by kernel_rfl) ?hQt18 (Or.inl ⟨?hwt18, ?hyt18⟩) (by assumption) ?restt18
            case hit18 => simp only [List.getElem?_toArray, List.getElem?_cons_succ, List.getElem?_cons_zero]; exact rfl
            case hQt18 => exact fun _ _ _ h => h
            case hwt18 => rfl
            case hyt18 => ((intro w hSw; (try dsimp only at hSw); go_simp) <;> with_reducible rfl)
            try simp only [Act.put, List.setIfInBounds_toArray, List.set_cons_zero, List.set_cons_succ]
            refine wpAnyH_take (i := 3) (oi := ?oit19) (v := ?vt19) ?hit19 (by kernel_rfl) (by kernel_rfl) (by kernel_rfl) ?hQt19 (Or.inl ⟨?hwt19, ?hyt19⟩) (by assumption) ?restt19
            case hit19 => simp only [List.getElem?_toArray, List.getElem?_cons_succ, List.getElem?_cons_zero]; exact rfl
            case hQt19 => exact fun _ _ _ h => h
            case hwt19 => rfl
            case hyt19 => ((intro w hSw; (try dsimp only at hSw); go_simp) <;> with_reducible rfl)
            try simp only [Act.put, List.setIfInBounds_toArray, List.set_cons_zero, List.set_cons_succ]
            refine wpAnyH_take (i := 4) (oi := ?oit20) (v := ?vt20) ?hit20 (by kernel_rfl) (by kernel_rfl) (by kernel_rfl) ?hQt20 (Or.inl ⟨?hwt20, ?hyt20⟩) (by assumption) ?restt20
            case hit20 => simp only [List.getElem?_toArray, List.getElem?_cons_succ, List.getElem?_cons_zero]; exact rfl
            case hQt20 => exact fun _ _ _ h => h
            case hwt20 => rfl
            case hyt20 => ((intro w hSw; (try dsimp only at hSw); go_simp) <;> with_reducible rfl)
            try simp only [Act.put, List.setIfInBounds_toArray, List.set_cons_zero, List.set_cons_succ]
            refine wpAnyH_take (i := 5) (oi := ?oit21) (v := ?vt21) ?hit21 (by kernel_rfl) (by kernel_rfl) (by kernel_rfl) ?hQt21 (Or.inl ⟨?hwt21, ?hyt21⟩) (by assumption) ?restt21
            case hit21 => simp only [List.getElem?_toArray, List.getElem?_cons_succ, List.getElem?_cons_zero]; exact rfl
            case hQt21 => exact fun _ _ _ h => h
            case hwt21 => rfl
            case hyt21 => ((intro w hSw; (try dsimp only at hSw); go_simp) <;> with_reducible rfl)
            try simp only [Act.put, List.setIfInBounds_toArray, List.set_cons_zero, List.set_cons_succ]
            refine wpAnyH_take (i := 6) (oi := ?oit22) (v := ?vt22) ?hit22 (by kernel_rfl) (by kernel_rfl) (by kernel_rfl) ?hQt22 (Or.inl ⟨?hwt22, ?hyt22⟩) (by assumption) ?restt22
            case hit22 => simp only [List.getElem?_toArray, List.getElem?_cons_succ, List.getElem?_cons_zero]; exact rfl
            case hQt22 => exact fun _ _ _ h => h
            case hwt22 => rfl
            case hyt22 => ((intro w hSw; (try dsimp only at hSw); go_simp) <;> with_reducible rfl)
            try simp only [Act.put, List.setIfInBounds_toArray, List.set_cons_zero, List.set_cons_succ]
            refine wpAnyH_ready (rs := [1, 7]) (by kernel_rfl) (by simp) ?_
            refine AllReadyH.cons (o := ?ot23) ?hot23 (fun K hK => ?stept23) ?moret23
            case hot23 => simp only [List.getElem?_toArray, List.getElem?_cons_succ, List.getElem?_cons_zero]; exact rfl
            case stept23 =>
              have rl : wr.drew.cell? ⟨w.heap.size + 2, 1, none⟩ = some (.slice A4 (tkN zb id k) d4) := cell_of_row wr.drew (w.heap.size + 2) 1 _ _ (0, 0) hout
              go_simp
              refine hK.out _ _ ?hSt23 (fun hHeld => ?restt23)
              case hSt23 => exact hHeld
              clear hK K
              try simp only [Act.put, List.setIfInBounds_toArray, List.set_cons_zero, List.set_cons_succ]
              refine wpAnyH_ready (rs := [7]) (by kernel_rfl) (by simp) ?_
              refine AllReadyH.cons (o := ?ot24) ?hot24 (fun K hK => ?stept24) ?moret24
              case hot24 => simp only [List.getElem?_toArray, List.getElem?_cons_succ, List.getElem?_cons_zero]; exact rfl
              case moret24 => exact AllReadyH.nil
              go_simp
              refine hK.out _ _ ?hSt24 (fun hHeld => ?restt24)
              case hSt24 => exact TkS.keep hHeld hbo (hHeld.1.alloc (Nat.le_of_lt (by have := hHeld.2.2.2.2.2.2.2.2.2.1; omega)) _) (fun q hq => Below.heap_alloc _ _ q (by have := hHeld.2.2.2.2.2.2.2.2.2.1; omega)) (by have := hHeld.2.2.2.2.2.2.2.2.2.1; simp; omega) (by obtain ⟨x, y, h⟩ := hHeld.2.2.2.2.2.2.2.2.2.2; exact ⟨x, y, (Below.heap_alloc _ _ _ (by have := hHeld.2.2.2.2.2.2.2.2.2.1; omega)).trans h⟩)
              clear hK K
              try simp only [Act.put, List.setIfInBounds_toArray, List.set_cons_zero, List.set_cons_succ]
              refine wpAnyH_ready (rs := [8]) (by kernel_rfl) (by simp) ?_
              refine AllReadyH.cons (o := ?ot25) ?hot25 (fun K hK => ?stept25) ?moret25
              case hot25 => simp only [List.getElem?_toArray, List.getElem?_cons_succ, List.getElem?_cons_zero]; exact rfl
              case moret25 => exact AllReadyH.nil
              (refine step_append_own _ rfl _ _ 24 rfl (wl.heap.size) 28 i0 _ 4 32 Try.underlying24 hi hz0 hz1 hz2 rfl (by decide) _ _ _ rfl hownA ⟨wr.heap.size, 0, none⟩ 1 1 [.int .i64 (num zb (k * 4)), .int .i64 (num zb (k * 4 + 1)), .int .i64 (num zb (k * 4 + 2)), .int .i64 (num zb (k * 4 + 3))] rfl rfl (World.news_of_block (heap_alloc_new wr.drew _)) (by intro u hu; simp at hu; rcases hu with rfl | rfl | rfl | rfl <;> rfl) (by unfold maxLen; omega) (by omega) (by simp; omega) ?_; intro v' u2 hown2 hgrow2 _)
              obtain ⟨A3, d3, rfl, _, _⟩ := own_slice hown2
              have hgq := fun q (hq : q < wr.heap.size) (h3 : q < w.heap.size + 3) => (hgrow2.block q (by simp; omega) (fun e => by have := (hov q e.symm).1; omega)).trans (Below.heap_alloc wr.drew _ q hq)
              refine hK.out _ _ ?hSt25 (fun hHeld => ?restt25)
              case hSt25 => exact TkS.keep hHeld hbo (hHeld.1.grown hgrow2 (by simp; omega) (fun q hq => by have := (hov q hq).1; omega)) (fun q hq => (hgrow2.block q (by simp; omega) (fun e => by have := (hov q e.symm).1; omega))) (Nat.lt_of_lt_of_le hHeld.2.2.2.2.2.2.2.2.2.1 hgrow2.size) ⟨_, _, (hgq _ (by omega) (by omega)).trans hout⟩
              clear hK K
              try simp only [Act.put, List.setIfInBounds_toArray, List.set_cons_zero, List.set_cons_succ]
              refine wpAnyH_take (i := 9) (oi := ?oit26) (v := ?vt26) ?hit26 (by kernel_rfl) (by kernel_rfl) (by kernel_rfl) ?hQt26 (Or.inl ⟨?hwt26, ?hyt26⟩) (by assumption) ?restt26
              case hit26 => simp only [List.getElem?_toArray, List.getElem?_cons_succ, List.getElem?_cons_zero]; exact rfl
              case hQt26 => exact fun _ _ _ h => h
              case hwt26 => rfl
              case hyt26 => ((intro w hSw; (try dsimp only at hSw); go_simp) <;> with_reducible rfl)
              try simp only [Act.put, List.setIfInBounds_toArray, List.set_cons_zero, List.set_cons_succ]
              refine wpAnyH_ready (rs := [10]) (by kernel_rfl) (by simp) ?_
              refine AllReadyH.cons (o := ?ot27) ?hot27 (fun K hK => ?stept27) ?moret27
              case hot27 => simp only [List.getElem?_toArray, List.getElem?_cons_succ, List.getElem?_cons_zero]; exact rfl
              case moret27 => exact AllReadyH.nil
              have hX := hHeld
              have ho2 := (hgq (w.heap.size + 2) (by omega) (by omega)).trans hout
              have r0 := cell_of_row u2 (w.heap.size + 2) 1 _ _ (0, 0) ho2
              have z0 := frozen_of_row u2 (w.heap.size + 2) 1 _ _ ho2
              simp at r0
              go_simp
              refine hK.out _ _ ?hSt27 (fun hHeld => ?restt27)
              case hSt27 => exact TkS.keep hX hbo (hX.1.setCell (p := ⟨w.heap.size + 2, 1, none⟩) (show w.heap.size ≤ w.heap.size + 2 by omega) _) (fun q hq => Below.heap_setCell _ _ _ q (show q ≠ w.heap.size + 2 by omega)) (by simpa [World.setCell] using hX.2.2.2.2.2.2.2.2.2.1) ⟨_, _, heap_set1 ho2⟩
              clear hK K
              try simp only [Act.put, List.setIfInBounds_toArray, List.set_cons_zero, List.set_cons_succ]
              refine wpAnyH_done (by kernel_rfl) ?_ _
              have HW := Lib.hid (hown2.kept (set_grown u2 (w.heap.size + 2) 1 (.slice A3 (tkN zb id k + 1) d3)) (.inr (fun e => by have := (hown2.lt _ e).1; omega)))
              have HO := Lib.hid (heap_set1 (u := .slice A3 (tkN zb id k + 1) d3) ho2)
              have HH := Lib.hid hHeld
              have HV := Lib.hid (own_apart (own_apart ((show wr.drew.ownsRow (w.heap.size + 3) 28 4 _ _ _ from hv1).alloc (.cells #[.int .i64 (num zb (k * 4)), .int .i64 (num zb (k * 4 + 1)), .int .i64 (num zb (k * 4 + 2)), .int .i64 (num zb (k * 4 + 3))] 28)) hgrow2 (fun q hq e => by have h1 := hlt1 q hq; have h2 := (hov q e).1; omega)) (set_grown u2 (w.heap.size + 2) 1 (.slice A3 (tkN zb id k + 1) d3)) (fun q hq e => by have h1 := (hv1.lt q hq).1; injection e with e; omega))
              have HL := Lib.hid (show wl.heap.size ≤ (u2.setCell ⟨w.heap.size + 2, 1, none⟩ (.slice A3 (tkN zb id k + 1) d3)).heap.size from by have h1 := hgrow2.size; simp [World.setCell] at h1 ⊢; omega)
              clear hHeld hX hown2 hgq hgrow2 hown hownA hout ho2 r0 z0 hbx hrs x0 x1 c0 c1 c2 c3
              go_wp2_with fail
              go_roundw
              case rel => exact ⟨k + 1, _, by omega, by go_num, HH.out.2.2.2.2.2.2.2.1, HH.out.2.2.2.2.2.2.2.2.1, HO.out, HV.out, by rw [HT.out, HZ.out, if_neg HE.out, if_neg HE.out, nums_append]; exact HW.out, HH.out.1, HH.out.2.2.2.2.2.2.2.2.2.1, HL.out⟩
              case measure => simp [intOf]; omega
            refine AllReadyH.cons (o := ?ot28) ?hot28 (fun K hK => ?stept28) ?moret28
            case hot28 => simp only [List.getElem?_toArray, List.getElem?_cons_succ, List.getElem?_cons_zero]; exact rfl
            case moret28 => exact AllReadyH.nil
            go_simp
            refine hK.out _ _ ?hSt28 (fun hHeld => ?restt28)
            case hSt28 => exact TkS.keep hHeld hbo (hHeld.1.alloc (Nat.le_of_lt (by have := hHeld.2.2.2.2.2.2.2.2.2.1; omega)) _) (fun q hq => Below.heap_alloc _ _ q (by have := hHeld.2.2.2.2.2.2.2.2.2.1; omega)) (by have := hHeld.2.2.2.2.2.2.2.2.2.1; simp; omega) (by obtain ⟨x, y, h⟩ := hHeld.2.2.2.2.2.2.2.2.2.2; exact ⟨x, y, (Below.heap_alloc _ _ _ (by have := hHeld.2.2.2.2.2.2.2.2.2.1; omega)).trans h⟩)
            clear hK K
            try simp only [Act.put, List.setIfInBounds_toArray, List.set_cons_zero, List.set_cons_succ]
            refine wpAnyH_ready (rs := [1]) (by kernel_rfl) (by simp) ?_
            refine AllReadyH.cons (o := ?ot29) ?hot29 (fun K hK => ?stept29) ?moret29
            case hot29 => simp only [List.getElem?_toArray, List.getElem?_cons_succ, List.getElem?_cons_zero]; exact rfl
            case moret29 => exact AllReadyH.nil
            have rl : wr.drew.cell? ⟨w.heap.size + 2, 1, none⟩ = some (.slice A4 (tkN zb id k) d4) := cell_of_row wr.drew (w.heap.size + 2) 1 _ _ (0, 0) hout
            have rl2 : (wr.drew.alloc (.cells #[.int .i64 (num zb (k * 4)), .int .i64 (num zb (k * 4 + 1)), .int .i64 (num zb (k * 4 + 2)), .int .i64 (num zb (k * 4 + 3))] 28)).cell? ⟨w.heap.size + 2, 1, none⟩ = some (.slice A4 (tkN zb id k) d4) := cell_of_row _ (w.heap.size + 2) 1 _ _ (0, 0) ((Below.heap_alloc wr.drew (.cells #[.int .i64 (num zb (k * 4)), .int .i64 (num zb (k * 4 + 1)), .int .i64 (num zb (k * 4 + 2)), .int .i64 (num zb (k * 4 + 3))] 28) _ (show w.heap.size + 2 < wr.heap.size by omega)).trans hout)
            have rl0 : wr.cell? ⟨w.heap.size + 1 + 1, 1, none⟩ = some (.slice A4 (tkN zb id k) d4) := cell_of_row wr (w.heap.size + 2) 1 _ _ (0, 0) hout
            go_simp
            refine hK.out _ _ ?hSt29 (fun hHeld => ?restt29)
            case hSt29 => exact hHeld
            clear hK K
            try simp only [Act.put, List.setIfInBounds_toArray, List.set_cons_zero, List.set_cons_succ]
            refine wpAnyH_ready (rs := [8]) (by kernel_rfl) (by simp) ?_
            refine AllReadyH.cons (o := ?ot30) ?hot30 (fun K hK => ?stept30) ?moret30
            case hot30 => simp only [List.getElem?_toArray, List.getElem?_cons_succ, List.getElem?_cons_zero]; exact rfl
            case moret30 => exact AllReadyH.nil
            (refine step_append_own _ rfl _ _ 24 rfl (wl.heap.size) 28 i0 _ 4 32 Try.underlying24 hi hz0 hz1 hz2 rfl (by decide) _ _ _ rfl hownA ⟨wr.heap.size, 0, none⟩ 1 1 [.int .i64 (num zb (k * 4)), .int .i64 (num zb (k * 4 + 1)), .int .i64 (num zb (k * 4 + 2)), .int .i64 (num zb (k * 4 + 3))] rfl rfl (World.news_of_block (heap_alloc_new wr.drew _)) (by intro u hu; simp at hu; rcases hu with rfl | rfl | rfl | rfl <;> rfl) (by unfold maxLen; omega) (by omega) (by simp; omega) ?_; intro v' u2 hown2 hgrow2 _)
            obtain ⟨A3, d3, rfl, _, _⟩ := own_slice hown2
            have hgq := fun q (hq : q < wr.heap.size) (h3 : q < w.heap.size + 3) => (hgrow2.block q (by simp; omega) (fun e => by have := (hov q e.symm).1; omega)).trans (Below.heap_alloc wr.drew _ q hq)
            refine hK.out _ _ ?hSt30 (fun hHeld => ?restt30)
            case hSt30 => exact TkS.keep hHeld hbo (hHeld.1.grown hgrow2 (by simp; omega) (fun q hq => by have := (hov q hq).1; omega)) (fun q hq => (hgrow2.block q (by simp; omega) (fun e => by have := (hov q e.symm).1; omega))) (Nat.lt_of_lt_of_le hHeld.2.2.2.2.2.2.2.2.2.1 hgrow2.size) ⟨_, _, (hgq _ (by omega) (by omega)).trans hout⟩
            clear hK K
            try simp only [Act.put, List.setIfInBounds_toArray, List.set_cons_zero, List.set_cons_succ]
            refine wpAnyH_take (i := 9) (oi := ?oit31) (v := ?vt31) ?hit31 (by kernel_rfl) (by kernel_rfl) (by kernel_rfl) ?hQt31 (Or.inl ⟨?hwt31, ?hyt31⟩) (by assumption) ?restt31
            case hit31 => simp only [List.getElem?_toArray, List.getElem?_cons_succ, List.getElem?_cons_zero]; exact rfl
            case hQt31 => exact fun _ _ _ h => h
            case hwt31 => rfl
            case hyt31 => ((intro w hSw; (try dsimp only at hSw); go_simp) <;> with_reducible rfl)
            try simp only [Act.put, List.setIfInBounds_toArray, List.set_cons_zero, List.set_cons_succ]
            refine wpAnyH_ready (rs := [10]) (by kernel_rfl) (by simp) ?_
            refine AllReadyH.cons (o := ?ot32) ?hot32 (fun K hK => ?stept32) ?moret32
            case hot32 => simp only [List.getElem?_toArray, List.getElem?_cons_succ, List.getElem?_cons_zero]; exact rfl
            case moret32 => exact AllReadyH.nil
            have hX := hHeld
            have ho2 := (hgq (w.heap.size + 2) (by omega) (by omega)).trans hout
            have r0 := cell_of_row u2 (w.heap.size + 2) 1 _ _ (0, 0) ho2
            have z0 := frozen_of_row u2 (w.heap.size + 2) 1 _ _ ho2
            simp at r0
            go_simp
            refine hK.out _ _ ?hSt32 (fun hHeld => ?restt32)
            case hSt32 => exact TkS.keep hX hbo (hX.1.setCell (p := ⟨w.heap.size + 2, 1, none⟩) (show w.heap.size ≤ w.heap.size + 2 by omega) _) (fun q hq => Below.heap_setCell _ _ _ q (show q ≠ w.heap.size + 2 by omega)) (by simpa [World.setCell] using hX.2.2.2.2.2.2.2.2.2.1) ⟨_, _, heap_set1 ho2⟩
            clear hK K
            try simp only [Act.put, List.setIfInBounds_toArray, List.set_cons_zero, List.set_cons_succ]
            refine wpAnyH_done (by kernel_rfl) ?_ _
            have HW := Lib.hid (hown2.kept (set_grown u2 (w.heap.size + 2) 1 (.slice A3 (tkN zb id k + 1) d3)) (.inr (fun e => by have := (hown2.lt _ e).1; omega)))
            have HO := Lib.hid (heap_set1 (u := .slice A3 (tkN zb id k + 1) d3) ho2)
            have HH := Lib.hid hHeld
            have HV := Lib.hid (own_apart (own_apart ((show wr.drew.ownsRow (w.heap.size + 3) 28 4 _ _ _ from hv1).alloc (.cells #[.int .i64 (num zb (k * 4)), .int .i64 (num zb (k * 4 + 1)), .int .i64 (num zb (k * 4 + 2)), .int .i64 (num zb (k * 4 + 3))] 28)) hgrow2 (fun q hq e => by have h1 := hlt1 q hq; have h2 := (hov q e).1; omega)) (set_grown u2 (w.heap.size + 2) 1 (.slice A3 (tkN zb id k + 1) d3)) (fun q hq e => by have h1 := (hv1.lt q hq).1; injection e with e; omega))
            have HL := Lib.hid (show wl.heap.size ≤ (u2.setCell ⟨w.heap.size + 2, 1, none⟩ (.slice A3 (tkN zb id k + 1) d3)).heap.size from by have h1 := hgrow2.size; simp [World.setCell] at h1 ⊢; omega)
            clear hHeld hX hown2 hgq hgrow2 hown hownA hout ho2 r0 z0 hbx hrs x0 x1 c0 c1 c2 c3
            go_wp2_with fail
            go_roundw
            case rel => exact ⟨k + 1, _, by omega, by go_num, HH.out.2.2.2.2.2.2.2.1, HH.out.2.2.2.2.2.2.2.2.1, HO.out, HV.out, by rw [HT.out, HZ.out, if_neg HE.out, if_neg HE.out, nums_append]; exact HW.out, HH.out.1, HH.out.2.2.2.2.2.2.2.2.2.1, HL.out⟩
            case measure => simp [intOf]; omega
        · obtain rfl : m = k := by omega
          have r0 := cell_of_row wr (w.heap.size + 2) 0 _ _ (0, 0) hout
          have r1 := cell_of_row wr (w.heap.size + 2) 1 _ _ (0, 0) hout
          have s0 := cell_of_row wr (w.heap.size + 1) 0 _ _ (0, 0) hrs
          have s1 := cell_of_row wr (w.heap.size + 1) 1 _ _ (0, 0) hrs
          have z0 := frozen_of_row wr (w.heap.size + 1) 0 _ _ hrs
          have z1 := frozen_of_row wr (w.heap.size + 1) 1 _ _ hrs
          simp at r0 r1 s0 s1
          go_wp2_with fail
          have f0 := cell_of_row _ (w.heap.size + 1) 0 _ _ (0, 0) (heap_set1 (b := .slice none 0 0) (u := .slice A4 (tkN zb id m) d4) (heap_set0 (u := .slice A2 (tkN za id n) d2) hrs))
          have f1 := cell_of_row _ (w.heap.size + 1) 1 _ _ (0, 0) (heap_set1 (b := .slice none 0 0) (u := .slice A4 (tkN zb id m) d4) (heap_set0 (u := .slice A2 (tkN za id n) d2) hrs))
          simp at f0 f1
          have ap : ∀ {B : Nat} {v : Value} {N : Nat} {xs : List Value}, wr.ownsRow B 28 4 v N xs → w.heap.size + 3 ≤ B → ((wr.setCell ⟨w.heap.size + 1, 0, none⟩ (.slice A2 (tkN za id n) d2)).setCell ⟨w.heap.size + 1, 1, none⟩ (.slice A4 (tkN zb id m) d4)).ownsRow w.heap.size 28 4 v N xs := fun h hB => by
            have h1 := own_apart h (set_grown wr (w.heap.size + 1) 0 (.slice A2 (tkN za id n) d2)) (fun q hq e => by have := (h.lt q hq).1; injection e with e; omega)
            exact own_mono (own_apart h1 (set_grown _ (w.heap.size + 1) 1 (.slice A4 (tkN zb id m) d4)) (fun q hq e => by have := (h.lt q hq).1; injection e with e; omega)) (by omega)
          refine bodyPost_ret (v := .agg #[.slice A2 (tkN za id n) d2, .slice A4 (tkN zb id m) d4]) (by simp [results, Try.results98, go_sem, f0, f1]) rfl ⟨⟨_, _, rfl, ap hv1 (Nat.le_refl _), ap hown hwl, fun q hq e => ?_⟩, ?_⟩
          · have h1 := hlt1 q hq
            have h2 := (hown.lt q e).1
            omega
          · exact (hbel.setCell (p := ⟨w.heap.size + 1, 0, none⟩) (show w.heap.size ≤ w.heap.size + 1 by omega) _).setCell (p := ⟨w.heap.size + 1, 1, none⟩) (show w.heap.size ≤ w.heap.size + 1 by omega) _
end Go.Proofs.Ytdjmejjponlfoab
