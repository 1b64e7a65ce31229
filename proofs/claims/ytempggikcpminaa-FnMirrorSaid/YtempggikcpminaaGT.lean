/-
  Round, Met, Taken, CrossI, TakenI.
-/
import Derived.Test.YtempggikcpminaaKit
import Derived.RangeFuncNested
import Derived.RangeFuncBound
import Derived.RangeFuncCalls
import Derived.RangeFuncLeaves
import Derived.RangeFuncBox
import Derived.Shelf.Abstract
import Derived.OwnWalkIn
import Derived.TacticsInMore
import Derived.LoopNIn
import Derived.LoopIn
import Derived.Deep.RegionHeld
import Derived.Test.YtempggikcpminaaCross
import Derived.Test.YtempggikcpminaaTake
import Derived.Test.YtempggikcpminaaDrop
import Derived.Test.YtempggikcpminaaGH
import Derived.Test.YtempggikcpminaaOpened
namespace Go.Proofs.Ytempggikcpminaa
open Go.RowKit Go.Shelf

section
variable {P : Program} {ops : Array Oper} {Q : Exit → Act → World → Prop} {md : Region.Mode}
end
end Go.Proofs.Ytempggikcpminaa

namespace Go.Proofs.Ytempggikcpminaa
open Go.RowKit Go.Shelf Wire

/-- what the walk over the met orders reads lies as it lay -/
structure MetKeeps (b2 b3 : Nat) (r : Option Nat) (gs : Nat → Nat) (n : Nat) (w w' : World) : Prop where
  size : w.heap.size ≤ w'.heap.size
  block : ∀ b, b = b2 ∨ b = b3 ∨ r = some b → w'.heap[b]? = w.heap[b]?
  cell : ∀ k, k < n → ∀ j, j < 3 → w'.cell? ⟨gs k, j, none⟩ = w.cell? ⟨gs k, j, none⟩
theorem MetKeeps.refl (b2 b3 : Nat) (r : Option Nat) (gs : Nat → Nat) (n : Nat) (w : World) : MetKeeps b2 b3 r gs n w w := ⟨Nat.le_refl _, fun _ _ => rfl, fun _ _ _ _ => rfl⟩
theorem MetKeeps.trans {b2 b3 : Nat} {r : Option Nat} {gs : Nat → Nat} {n : Nat} {a b c : World} (h : MetKeeps b2 b3 r gs n a b) (k : MetKeeps b2 b3 r gs n b c) : MetKeeps b2 b3 r gs n a c :=
  ⟨Nat.le_trans h.size k.size, fun i hi => (k.block i hi).trans (h.block i hi), fun i hi j hj => (k.cell i hi j hj).trans (h.cell i hi j hj)⟩
theorem MetKeeps.of_blocks {b2 b3 : Nat} {r : Option Nat} {gs : Nat → Nat} {n : Nat} {a b : World} (hs : a.heap.size ≤ b.heap.size) (h : ∀ i, i = b2 ∨ i = b3 ∨ r = some i ∨ (∃ k, k < n ∧ gs k = i) → b.heap[i]? = a.heap[i]?) : MetKeeps b2 b3 r gs n a b :=
  ⟨hs, fun i hi => h i (by rcases hi with h | h | h <;> simp [h]), fun k hk j _ => World.cell?_of_block (a := ⟨gs k, j, none⟩) (h (gs k) (.inr (.inr (.inr ⟨k, hk, rfl⟩))))⟩
theorem MetKeeps.of_below {b2 b3 : Nat} {r : Option Nat} {gs : Nat → Nat} {n B : Nat} {a b : World} (h : Below B a b) (h2 : b2 < B) (h3 : b3 < B) (hr : ∀ q, r = some q → q < B) (hg : ∀ k, k < n → gs k < B) : MetKeeps b2 b3 r gs n a b :=
  .of_blocks h.size fun i hi => h.block i (by rcases hi with rfl | rfl | h | ⟨k, hk, rfl⟩; exact h2; exact h3; exact hr _ h; exact hg k hk)
theorem MetKeeps.drew {b2 b3 : Nat} {r : Option Nat} {gs : Nat → Nat} {n : Nat} {a b : World} (h : MetKeeps b2 b3 r gs n a b) : MetKeeps b2 b3 r gs n a b.drew := ⟨h.size, h.block, h.cell⟩
theorem abides_drew {β : Type} {B : Nat} {J : β → World → Prop} (h : AbidesFrom B J) {s : β} {w : World} (hs : J s w) : J s w.drew :=
  h s w w.drew none hs ⟨rfl, rfl, rfl, Nat.le_refl _, fun _ _ _ => rfl⟩ (fun r e => by cases e)
theorem abides_below {β : Type} {B : Nat} {J : β → World → Prop} (h : AbidesFrom B J) {s : β} {w w' : World} (hs : J s w) (hb : Below w.heap.size w w') : J s w' :=
  h s w w' none hs ⟨hb.os, hb.tape, hb.output, hb.size, fun k hk _ => hb.block k hk⟩ (fun r e => by cases e)
/-- the first k of n -/
def firstN (n k : Nat) : List (Fin n) := (List.finRange n).take k
theorem firstN_succ {n k : Nat} (h : k < n) : firstN n (k + 1) = firstN n k ++ [⟨k, h⟩] := by
  unfold firstN
  rw [List.take_succ_eq_append_getElem (by simpa using h)]
  simp
theorem firstN_length {n k : Nat} (h : k ≤ n) : (firstN n k).length = k := by simp [firstN, h]
set_option maxRecDepth 100000 in
theorem impl_opp (side so : Int) (w : World) (h : side = 1 ∧ so = 2 ∨ side = 2 ∧ so = 1) :
    Calls Try.prog 74 #[.int .i64 side] w fun e w' => e = .returned (.int .i64 so) ∧ w = w' := by
  rcases h with ⟨rfl, rfl⟩ | ⟨rfl, rfl⟩
  · exact impl_opposite1 w
  · exact impl_opposite2 w
theorem impl_sideAt (L1 L2 L : Nat) (so : Int) (w : World) (h : so = 1 ∧ L = L1 ∨ so = 2 ∧ L = L2) :
    Calls Try.prog 73 #[.agg #[.pointer (some ⟨L1, 0, none⟩), .pointer (some ⟨L2, 0, none⟩)], .int .i64 so] w fun e w' => e = .returned (.pointer (some ⟨L, 0, none⟩)) ∧ Below w.heap.size w w' := by
  rcases h with ⟨rfl, rfl⟩ | ⟨rfl, rfl⟩
  · exact (impl_side ⟨L, 0, none⟩ ⟨L2, 0, none⟩ 1 w).mono fun e w' ⟨he, hb⟩ => ⟨by rw [he, if_pos rfl], hb⟩
  · exact (impl_side ⟨L1, 0, none⟩ ⟨L, 0, none⟩ 2 w).mono fun e w' ⟨he, hb⟩ => ⟨by rw [he, if_neg (by decide)], hb⟩
theorem lead_le (f : Nat → Bool) (n : Nat) : lead f n ≤ n := by
  induction n generalizing f with
  | zero => simp [lead]
  | succ n ih =>
    rw [lead]
    split
    · have := ih (fun j => f (j + 1)); omega
    · omega
theorem lead_pre : ∀ (n : Nat) (f : Nat → Bool) (k : Nat), k ≤ n → (∀ j, j < k → f j = true) → k ≤ lead f n
  | _, _, 0, _, _ => Nat.zero_le _
  | n + 1, f, k + 1, hk, h => by
    rw [lead, if_pos (h 0 (by omega))]
    have := lead_pre n (fun j => f (j + 1)) k (by omega) (fun j hj => h (j + 1) (by omega))
    omega
attribute [local go_sem] Oper.semAt_some
set_option linter.unusedSimpArgs false in
set_option maxHeartbeats 1600000 in
set_option maxRecDepth 100000 in
theorem impl_met1 (fo l X S L n b1 b2 b3 L1 L2 : Nat) (side so lim : Int) (zs : List Int) (v : Value) (gs : Nat → Nat) (J Jx : List (Fin n) → World → Prop)
    (B₀ : Nat) (hJ : AbidesFrom B₀ J)
    (hY : ∀ pre (x : Fin n) W, J pre W → pre.length < n → YieldAt Fence.wide fo Try.prog l #[.pointer (some ⟨gs x.1, 0, none⟩)] W fun e W' =>
      (e = .returned (.bool true) ∧ J (pre ++ [x]) W' ∧ MetKeeps b2 b3 v.ownBlock gs n W W') ∨ (e = .returned (.bool false) ∧ Jx (pre ++ [x]) W'))
    (W : World) (hop : Opened W X S L 2 110 76 (.func (.func 104) #[] #[.pointer (some ⟨S, 0, none⟩)]) so zs n v gs) (hcp : Copies W X S L 28 zs n v gs) (hn : n ≤ 1048576)
    (hopp : side = 1 ∧ so = 2 ∨ side = 2 ∧ so = 1) (hso : so = 1 ∧ L = L1 ∨ so = 2 ∧ L = L2)
    (h1 : W.heap[b1]? = some (.cells #[.pointer (some ⟨L1, 0, none⟩), .pointer (some ⟨L2, 0, none⟩)] 68 (0, 0))) (h2 : W.heap[b2]? = some (.cells #[.int .i64 side] 2 (0, 0))) (h3 : W.heap[b3]? = some (.cells #[.int .i64 lim] 2 (0, 0)))
    (h0 : J [] W) :
    Calls Try.prog 72 #[.func (.yield l) #[] #[], .pointer (some ⟨b1, 0, none⟩), .pointer (some ⟨b2, 0, none⟩), .pointer (some ⟨b3, 0, none⟩)] W fun e W' => (∃ u, e = .returned u) ∧
      ((∃ ys, ys = firstN n (lead (fun k => meetB side lim (price zs k)) n) ∧ J ys W') ∨ (∃ pre, (∃ k, k ≤ lead (fun k => meetB side lim (price zs k)) n ∧ pre = firstN n k) ∧ Jx pre W')) := by
  obtain ⟨A1, d1, rfl, hnd, hdm⟩ := own_slice hop.own
  have c1 := cell_of_row W b1 0 _ _ (0, 0) h1
  have c2 := cell_of_row W b1 1 _ _ (0, 0) h1
  have c3 := cell_of_row W b2 0 _ _ (0, 0) h2
  have c4 := cell_of_row W b3 0 _ _ (0, 0) h3
  have c5 := cell_of_row W L 0 _ _ (0, 0) hop.list
  simp at c1 c2 c3 c4 c5
  go_enter Try.func72, Try.ntmps72
  go_upto_region 0 with fail
  refine wp_region_held_drew (S := (fun w' => Below W.heap.size W w' ∧ w'.cell? ⟨b1, 0, none⟩ = some (.pointer (some ⟨L1, 0, none⟩)) ∧ w'.cell? ⟨b1, 1, none⟩ = some (.pointer (some ⟨L2, 0, none⟩)) ∧ w'.cell? ⟨b2, 0, none⟩ = some (.int .i64 side) ∧ w'.cell? ⟨L, 0, none⟩ = some (.slice A1 n d1))) (by kernel_rfl) ?hSq1xs (fun hHeld => ?restq1xs)
  case hSq1xs => ((first | assumption | ((((try dsimp only); repeat' apply And.intro) <;> (first | assumption | (refine below_later ?_ (by assumption); first | assumption | (simp only [*]; done) | (go_grown; done)) | (refine cell_later (by assumption) ?_; first | assumption | (simp only [*]; done) | (simp [go_sem]; done)) | (go_grown; done) | (simp [go_sem]; done))))))
  refine wpAnyH_take (i := 0) (oi := ?oiq1x1) (v := ?vq1x1) ?hiq1x1 (by kernel_rfl) (by kernel_rfl) (by kernel_rfl) ?hQq1x1 (Or.inl ⟨?hwq1x1, ?hyq1x1⟩) (by assumption) ?restq1x1
  case hiq1x1 => simp only [List.getElem?_toArray, List.getElem?_cons_succ, List.getElem?_cons_zero]; exact rfl
  case hQq1x1 => exact fun _ _ _ h => h
  case hwq1x1 => rfl
  case hyq1x1 => ((intro w hSw; (try dsimp only at hSw); go_simp) <;> with_reducible rfl)
  try simp only [Act.put, List.setIfInBounds_toArray, List.set_cons_zero, List.set_cons_succ]
  refine wpAnyH_take (i := 1) (oi := ?oiq1x2) (v := ?vq1x2) ?hiq1x2 (by kernel_rfl) (by kernel_rfl) (by kernel_rfl) ?hQq1x2 (Or.inl ⟨?hwq1x2, ?hyq1x2⟩) (by assumption) ?restq1x2
  case hiq1x2 => simp only [List.getElem?_toArray, List.getElem?_cons_succ, List.getElem?_cons_zero]; exact rfl
  case hQq1x2 => exact fun _ _ _ h => h
  case hwq1x2 => rfl
  case hyq1x2 => ((intro w hSw; (try dsimp only at hSw); go_simp) <;> with_reducible rfl)
  try simp only [Act.put, List.setIfInBounds_toArray, List.set_cons_zero, List.set_cons_succ]
  refine wpAnyH_take (i := 8) (oi := ?oiq1x3) (v := ?vq1x3) ?hiq1x3 (by kernel_rfl) (by kernel_rfl) (by kernel_rfl) ?hQq1x3 (Or.inl ⟨?hwq1x3, ?hyq1x3⟩) (by assumption) ?restq1x3
  case hiq1x3 => simp only [List.getElem?_toArray, List.getElem?_cons_succ, List.getElem?_cons_zero]; exact rfl
  case hQq1x3 => exact fun _ _ _ h => h
  case hwq1x3 => rfl
  case hyq1x3 => ((intro w hSw; (try dsimp only at hSw); go_simp) <;> with_reducible rfl)
  try simp only [Act.put, List.setIfInBounds_toArray, List.set_cons_zero, List.set_cons_succ]
  refine wpAnyH_ready (rs := [2]) (by kernel_rfl) (by simp) ?_
  refine AllReadyH.cons (o := ?oq1x4) ?hoq1x4 (fun K hK => ?stepq1x4) ?moreq1x4
  case hoq1x4 => simp only [List.getElem?_toArray, List.getElem?_cons_succ, List.getElem?_cons_zero]; exact rfl
  case moreq1x4 => exact AllReadyH.nil
  go_simp
  (go_at_call 74; refine (impl_opp side so _ hopp).mono ?_; rintro e u2 ⟨rfl, rfl⟩)
  refine hK.out _ _ ?hSq1x4 (fun hHeld => ?restq1x4)
  case hSq1x4 => ((first | assumption | ((((try dsimp only); repeat' apply And.intro) <;> (first | assumption | (refine below_later ?_ (by assumption); first | assumption | (simp only [*]; done) | (go_grown; done)) | (refine cell_later (by assumption) ?_; first | assumption | (simp only [*]; done) | (simp [go_sem]; done)) | (go_grown; done) | (simp [go_sem]; done))))))
  clear hK K
  try simp only [Act.put, List.setIfInBounds_toArray, List.set_cons_zero, List.set_cons_succ]
  refine wpAnyH_ready (rs := [3]) (by kernel_rfl) (by simp) ?_
  refine AllReadyH.cons (o := ?oq1x5) ?hoq1x5 (fun K hK => ?stepq1x5) ?moreq1x5
  case hoq1x5 => simp only [List.getElem?_toArray, List.getElem?_cons_succ, List.getElem?_cons_zero]; exact rfl
  case moreq1x5 => exact AllReadyH.nil
  go_simp
  (go_at_call 73; refine (impl_sideAt L1 L2 L so _ hso).mono ?_; rintro e u3 ⟨rfl, hb3'⟩)
  refine hK.out _ _ ?hSq1x5 (fun hHeld => ?restq1x5)
  case hSq1x5 => ((first | assumption | ((((try dsimp only); repeat' apply And.intro) <;> (first | assumption | (refine below_later ?_ (by assumption); first | assumption | (simp only [*]; done) | (go_grown; done)) | (refine cell_later (by assumption) ?_; first | assumption | (simp only [*]; done) | (simp [go_sem]; done)) | (go_grown; done) | (simp [go_sem]; done))))))
  clear hK K
  try simp only [Act.put, List.setIfInBounds_toArray, List.set_cons_zero, List.set_cons_succ]
  refine wpAnyH_take (i := 4) (oi := ?oiq1x6) (v := ?vq1x6) ?hiq1x6 (by kernel_rfl) (by kernel_rfl) (by kernel_rfl) ?hQq1x6 (Or.inl ⟨?hwq1x6, ?hyq1x6⟩) (by assumption) ?restq1x6
  case hiq1x6 => simp only [List.getElem?_toArray, List.getElem?_cons_succ, List.getElem?_cons_zero]; exact rfl
  case hQq1x6 => exact fun _ _ _ h => h
  case hwq1x6 => rfl
  case hyq1x6 => ((intro w hSw; (try dsimp only at hSw); go_simp) <;> with_reducible rfl)
  try simp only [Act.put, List.setIfInBounds_toArray, List.set_cons_zero, List.set_cons_succ]
  refine wpAnyH_take (i := 5) (oi := ?oiq1x7) (v := ?vq1x7) ?hiq1x7 (by kernel_rfl) (by kernel_rfl) (by kernel_rfl) ?hQq1x7 (Or.inl ⟨?hwq1x7, ?hyq1x7⟩) (by assumption) ?restq1x7
  case hiq1x7 => simp only [List.getElem?_toArray, List.getElem?_cons_succ, List.getElem?_cons_zero]; exact rfl
  case hQq1x7 => exact fun _ _ _ h => h
  case hwq1x7 => rfl
  case hyq1x7 => ((intro w hSw; (try dsimp only at hSw); go_simp) <;> with_reducible rfl)
  try simp only [Act.put, List.setIfInBounds_toArray, List.set_cons_zero, List.set_cons_succ]
  refine wpAnyH_take (i := 6) (oi := ?oiq1x8) (v := ?vq1x8) ?hiq1x8 (by kernel_rfl) (by kernel_rfl) (by kernel_rfl) ?hQq1x8 (Or.inl ⟨?hwq1x8, ?hyq1x8⟩) (by assumption) ?restq1x8
  case hiq1x8 => simp only [List.getElem?_toArray, List.getElem?_cons_succ, List.getElem?_cons_zero]; exact rfl
  case hQq1x8 => exact fun _ _ _ h => h
  case hwq1x8 => rfl
  case hyq1x8 => ((intro w hSw; (try dsimp only at hSw); go_simp) <;> with_reducible rfl)
  try simp only [Act.put, List.setIfInBounds_toArray, List.set_cons_zero, List.set_cons_succ]
  refine wpAnyH_take (i := 7) (oi := ?oiq1x9) (v := ?vq1x9) ?hiq1x9 (by kernel_rfl) (by kernel_rfl) (by kernel_rfl) ?hQq1x9 (Or.inl ⟨?hwq1x9, ?hyq1x9⟩) (by assumption) ?restq1x9
  case hiq1x9 => simp only [List.getElem?_toArray, List.getElem?_cons_succ, List.getElem?_cons_zero]; exact rfl
  case hQq1x9 => exact fun _ _ _ h => h
  case hwq1x9 => rfl
  case hyq1x9 => ((intro w hSw; (try dsimp only at hSw); go_simp) <;> with_reducible rfl)
  try simp only [Act.put, List.setIfInBounds_toArray, List.set_cons_zero, List.set_cons_succ]
  refine wpAnyH_done (by kernel_rfl) ?_ _
  obtain ⟨hbA, -, -, -, -⟩ := hHeld
  have hJ0 : J [] u3 := abides_below hJ h0 hbA
  have M0 : MetKeeps b2 b3 (Value.slice A1 n d1).ownBlock gs n W u3 := .of_below hbA (heap_lt h2) (heap_lt h3) (fun q hq => (hop.own.lt q hq).2) (fun k hk => (hcp k hk).2.2.2.2.lt)
  have hle : lead (fun k => meetB side lim (price zs k)) n ≤ n := lead_le _ _
  clear hb3' hbA c1 c2 c3 c4 c5 hHeld
  go_wp2_with fail
  go_loopw [15] (fun i wr => ∃ k : Nat, k ≤ n ∧ i = .int .i64 (k : Int) ∧ (∀ j, j < k → meetB side lim (price zs j) = true) ∧ J (firstN n k) wr ∧ MetKeeps b2 b3 (Value.slice A1 n d1).ownBlock gs n W wr) (fun i _ => n - (intOf i).toNat)
  case atStart => exact ⟨0, Nat.zero_le _, rfl, fun j h => absurd h (Nat.not_lt_zero j), hJ0, M0⟩
  case round =>
    clear hJ0 M0
    obtain ⟨k, hk, rfl, hmeet, hJk, hM⟩ := hrel
    by_cases hlt : k < n
    · obtain ⟨g, cap, hg, _, _⟩ := hop.own.form (by omega)
      injection hg with hg1 hg2 hg3
      subst hg1 hg3
      have p0' := hop.own.cells (g := g) rfl k _ (ptrs_at gs n k hlt)
      rw [add0 g k] at p0'
      have p0 : wr.cell? ⟨g, k, none⟩ = _ := (World.cell?_of_block (hM.block g (.inr (.inr rfl)))).trans p0'
      clear p0'
      have p1 : wr.cell? ⟨gs k, 2, none⟩ = some (.int .i64 (price zs k)) := (hM.cell k hlt 2 (by omega)).trans ((hcp k hlt).2.2.2.2.cell (i := 2) (by omega))
      have q2 := (hM.block b2 (.inl rfl)).trans h2
      have q3 := (hM.block b3 (.inr (.inl rfl))).trans h3
      have d2 := cell_of_row wr b2 0 _ _ (0, 0) q2
      have d3 := cell_of_row wr b3 0 _ _ (0, 0) q3
      simp at d2 d3
      have Hm := Lib.hid hmeet
      clear hmeet q2 q3
      go_wp2_with fail
      rcases Bool.eq_false_or_eq_true (meetB side lim (price zs k)) with hy | hy
      · have HY := Lib.hid hy
        clear hy
        refine (wpIn_wide (n := fo + 1)).1 ?_
        refine wpIn_region_any (by kernel_rfl) ?_
        refine wpAnyIn_take (i := 2) (v := ?_) rfl rfl (by kernel_rfl) (by kernel_rfl) (by kernel_rfl) (fun _ _ _ h => h) ⟨Or.inl ⟨by rfl, ?_⟩, fun _ => rfl⟩ ?_
        rotate_left
        (intro w; go_simp; try with_reducible rfl)
        try simp only [Act.put, List.setIfInBounds_toArray, List.set_cons_zero, List.set_cons_succ]
        refine wpAnyIn_take (i := 3) (v := ?_) rfl rfl (by kernel_rfl) (by kernel_rfl) (by kernel_rfl) (fun _ _ _ h => h) ⟨Or.inl ⟨by rfl, ?_⟩, fun _ => rfl⟩ ?_
        rotate_left
        (intro w; go_simp; try with_reducible rfl)
        try simp only [Act.put, List.setIfInBounds_toArray, List.set_cons_zero, List.set_cons_succ]
        refine wpAnyIn_take (i := 4) (v := ?_) rfl rfl (by kernel_rfl) (by kernel_rfl) (by kernel_rfl) (fun _ _ _ h => h) ⟨Or.inl ⟨by rfl, ?_⟩, fun _ => rfl⟩ ?_
        rotate_left
        (intro w; go_simp; try with_reducible rfl)
        try simp only [Act.put, List.setIfInBounds_toArray, List.set_cons_zero, List.set_cons_succ]
        refine wpAnyIn_ready (rs := [0, 1, 5]) (by kernel_rfl) (by simp) ?_
        refine AllReadyIn.cons rfl (fun K hK => ?s0) (AllReadyIn.cons rfl (fun K hK => ?s1) (AllReadyIn.cons rfl (fun K hK => ?s5) AllReadyIn.nil))
        case' s0 =>
          go_simp
          refine hK _ _ ?_
          clear hK K
          try simp only [Act.put, List.setIfInBounds_toArray, List.set_cons_zero, List.set_cons_succ]
          refine wpAnyIn_ready (rs := [1, 5]) (by kernel_rfl) (by simp) ?_
          refine AllReadyIn.cons rfl (fun K hK => ?s01) (AllReadyIn.cons rfl (fun K hK => ?s05) AllReadyIn.nil)
          case' s01 =>
            go_simp
            refine hK _ _ ?_
            clear hK K
            try simp only [Act.put, List.setIfInBounds_toArray, List.set_cons_zero, List.set_cons_succ]
            refine wpAnyIn_ready (rs := [5]) (by kernel_rfl) (by simp) ?_
            refine AllReadyIn.cons rfl (fun K hK => ?s015) AllReadyIn.nil
            case' s015 =>
              go_simp
              refine hK _ _ ?_
              clear hK K
              try simp only [Act.put, List.setIfInBounds_toArray, List.set_cons_zero, List.set_cons_succ]
          case' s05 =>
            go_simp
            refine hK _ _ ?_
            clear hK K
            try simp only [Act.put, List.setIfInBounds_toArray, List.set_cons_zero, List.set_cons_succ]
            refine wpAnyIn_ready (rs := [1]) (by kernel_rfl) (by simp) ?_
            refine AllReadyIn.cons rfl (fun K hK => ?s051) AllReadyIn.nil
            case' s051 =>
              go_simp
              refine hK _ _ ?_
              clear hK K
              try simp only [Act.put, List.setIfInBounds_toArray, List.set_cons_zero, List.set_cons_succ]
        case' s1 =>
          go_simp
          refine hK _ _ ?_
          clear hK K
          try simp only [Act.put, List.setIfInBounds_toArray, List.set_cons_zero, List.set_cons_succ]
          refine wpAnyIn_ready (rs := [0, 5]) (by kernel_rfl) (by simp) ?_
          refine AllReadyIn.cons rfl (fun K hK => ?s10) (AllReadyIn.cons rfl (fun K hK => ?s15) AllReadyIn.nil)
          case' s10 =>
            go_simp
            refine hK _ _ ?_
            clear hK K
            try simp only [Act.put, List.setIfInBounds_toArray, List.set_cons_zero, List.set_cons_succ]
            refine wpAnyIn_ready (rs := [5]) (by kernel_rfl) (by simp) ?_
            refine AllReadyIn.cons rfl (fun K hK => ?s105) AllReadyIn.nil
            case' s105 =>
              go_simp
              refine hK _ _ ?_
              clear hK K
              try simp only [Act.put, List.setIfInBounds_toArray, List.set_cons_zero, List.set_cons_succ]
          case' s15 =>
            go_simp
            refine hK _ _ ?_
            clear hK K
            try simp only [Act.put, List.setIfInBounds_toArray, List.set_cons_zero, List.set_cons_succ]
            refine wpAnyIn_ready (rs := [0]) (by kernel_rfl) (by simp) ?_
            refine AllReadyIn.cons rfl (fun K hK => ?s150) AllReadyIn.nil
            case' s150 =>
              go_simp
              refine hK _ _ ?_
              clear hK K
              try simp only [Act.put, List.setIfInBounds_toArray, List.set_cons_zero, List.set_cons_succ]
        case' s5 =>
          go_simp
          refine hK _ _ ?_
          clear hK K
          try simp only [Act.put, List.setIfInBounds_toArray, List.set_cons_zero, List.set_cons_succ]
          refine wpAnyIn_ready (rs := [0, 1]) (by kernel_rfl) (by simp) ?_
          refine AllReadyIn.cons rfl (fun K hK => ?s50) (AllReadyIn.cons rfl (fun K hK => ?s51) AllReadyIn.nil)
          case' s50 =>
            go_simp
            refine hK _ _ ?_
            clear hK K
            try simp only [Act.put, List.setIfInBounds_toArray, List.set_cons_zero, List.set_cons_succ]
            refine wpAnyIn_ready (rs := [1]) (by kernel_rfl) (by simp) ?_
            refine AllReadyIn.cons rfl (fun K hK => ?s501) AllReadyIn.nil
            case' s501 =>
              go_simp
              refine hK _ _ ?_
              clear hK K
              try simp only [Act.put, List.setIfInBounds_toArray, List.set_cons_zero, List.set_cons_succ]
          case' s51 =>
            go_simp
            refine hK _ _ ?_
            clear hK K
            try simp only [Act.put, List.setIfInBounds_toArray, List.set_cons_zero, List.set_cons_succ]
            refine wpAnyIn_ready (rs := [0]) (by kernel_rfl) (by simp) ?_
            refine AllReadyIn.cons rfl (fun K hK => ?s510) AllReadyIn.nil
            case' s510 =>
              go_simp
              refine hK _ _ ?_
              clear hK K
              try simp only [Act.put, List.setIfInBounds_toArray, List.set_cons_zero, List.set_cons_succ]
        all_goals
          refine wpAnyIn_ready (rs := [6]) (by kernel_rfl) (by simp) ?_
          refine AllReadyIn.cons rfl (fun K hK => ?_) AllReadyIn.nil
          go_simp
          refine ⟨trivial, (callsIn_wide.2 (impl_meets side lim _ _)).mono ?_⟩
          rw [HY.out]
          rintro e w' ⟨rfl, rfl⟩
          refine hK _ _ ?_
          clear hK K
          try simp only [Act.put, List.setIfInBounds_toArray, List.set_cons_zero, List.set_cons_succ]
          refine wpAnyIn_take (i := 7) (v := ?_) rfl rfl (by kernel_rfl) (by kernel_rfl) (by kernel_rfl) (fun _ _ _ h => h) ⟨Or.inl ⟨by rfl, ?_⟩, fun _ => rfl⟩ ?_
          rotate_left
          (intro w; go_simp; try with_reducible rfl)
          try simp only [Act.put, List.setIfInBounds_toArray, List.set_cons_zero, List.set_cons_succ]
          refine wpAnyIn_take (i := 8) (v := ?_) rfl rfl (by kernel_rfl) (by kernel_rfl) (by kernel_rfl) (fun _ _ _ h => h) ⟨Or.inl ⟨by rfl, ?_⟩, fun _ => rfl⟩ ?_
          rotate_left
          (intro w; go_simp; try with_reducible rfl)
          try simp only [Act.put, List.setIfInBounds_toArray, List.set_cons_zero, List.set_cons_succ]
          refine wpAnyIn_take (i := 9) (v := ?_) rfl rfl (by kernel_rfl) (by kernel_rfl) (by kernel_rfl) (fun _ _ _ h => h) ⟨Or.inl ⟨by rfl, ?_⟩, fun _ => rfl⟩ ?_
          rotate_left
          (intro w; go_simp; try with_reducible rfl)
          try simp only [Act.put, List.setIfInBounds_toArray, List.set_cons_zero, List.set_cons_succ]
          refine wpAnyIn_take (i := 10) (v := ?_) rfl rfl (by kernel_rfl) (by kernel_rfl) (by kernel_rfl) (fun _ _ _ h => h) ⟨Or.inl ⟨by rfl, ?_⟩, fun _ => rfl⟩ ?_
          rotate_left
          (intro w; go_simp; try with_reducible rfl)
          try simp only [Act.put, List.setIfInBounds_toArray, List.set_cons_zero, List.set_cons_succ]
          obtain ⟨fn, tmps, assign, body, hy, hR⟩ := hY (firstN n k) ⟨k, hlt⟩ wr.drew (abides_drew hJ hJk) (by rw [firstN_length (by omega)]; exact hlt)
          refine wpAnyIn_ready (rs := [11]) (by kernel_rfl) (by simp) ?_
          refine AllReadyIn.cons rfl (fun K hK => ?_) AllReadyIn.nil
          go_simp
          refine hR.mono ?_
          rintro e W3 (⟨rfl, hJ3, hk3⟩ | ⟨rfl, hJx3⟩)
          · refine hK _ _ ?_
            clear hK K
            try simp only [Act.put, List.setIfInBounds_toArray, List.set_cons_zero, List.set_cons_succ]
            refine wpAnyIn_take (i := 12) (v := ?_) rfl rfl (by kernel_rfl) (by kernel_rfl) (by kernel_rfl) (fun _ _ _ h => h) ⟨Or.inl ⟨by rfl, ?_⟩, fun _ => rfl⟩ ?_
            rotate_left
            (intro w; go_simp; try with_reducible rfl)
            try simp only [Act.put, List.setIfInBounds_toArray, List.set_cons_zero, List.set_cons_succ]
            refine wpAnyIn_take (i := 13) (v := ?_) rfl rfl (by kernel_rfl) (by kernel_rfl) (by kernel_rfl) (fun _ _ _ h => h) ⟨Or.inl ⟨by rfl, ?_⟩, fun _ => rfl⟩ ?_
            rotate_left
            (intro w; go_simp; try with_reducible rfl)
            try simp only [Act.put, List.setIfInBounds_toArray, List.set_cons_zero, List.set_cons_succ]
            refine wpAnyIn_done (by kernel_rfl) ?_ _
            go_wp2_with fail
            go_roundw
            case rel => exact ⟨k + 1, by omega, by go_num, fun j hj => by rcases (show j < k ∨ j = k from by omega) with h | rfl; exact Hm.out j h; exact HY.out, by rw [firstN_succ hlt]; exact hJ3, hM.drew.trans hk3⟩
            case measure => simp [intOf]; omega
          · refine hK _ _ ?_
            clear hK K
            try simp only [Act.put, List.setIfInBounds_toArray, List.set_cons_zero, List.set_cons_succ]
            refine wpAnyIn_take (i := 12) (v := ?_) rfl rfl (by kernel_rfl) (by kernel_rfl) (by kernel_rfl) (fun _ _ _ h => h) ⟨Or.inl ⟨by rfl, ?_⟩, fun _ => rfl⟩ ?_
            rotate_left
            (intro w; go_simp; try with_reducible rfl)
            try simp only [Act.put, List.setIfInBounds_toArray, List.set_cons_zero, List.set_cons_succ]
            refine wpAnyIn_take (i := 13) (v := ?_) rfl rfl (by kernel_rfl) (by kernel_rfl) (by kernel_rfl) (fun _ _ _ h => h) ⟨Or.inl ⟨by rfl, ?_⟩, fun _ => rfl⟩ ?_
            rotate_left
            (intro w; go_simp; try with_reducible rfl)
            try simp only [Act.put, List.setIfInBounds_toArray, List.set_cons_zero, List.set_cons_succ]
            refine wpAnyIn_done (by kernel_rfl) ?_ _
            have hlk : k + 1 ≤ lead (fun k => meetB side lim (price zs k)) n := lead_pre n _ (k + 1) (by omega) (fun j hj => by rcases (show j < k ∨ j = k from by omega) with h | rfl; exact Hm.out j h; exact HY.out)
            go_wp2_with fail
            refine bodyPost_ret (results_none rfl _ _ _) rfl ?_
            exact ⟨⟨_, rfl⟩, .inr ⟨_, ⟨k + 1, hlk, (firstN_succ hlt).symm⟩, hJx3⟩⟩
      · have HY := Lib.hid hy
        have HL := Lib.hid (lead_one n (fun k => meetB side lim (price zs k)) k hk Hm.out (.inr hy))
        clear hy
        refine wp_region_held_drew (S := (fun w' => Below wr.heap.size wr w' ∧ w'.cell? ⟨b2, 0, none⟩ = some (.int .i64 side) ∧ w'.cell? ⟨b3, 0, none⟩ = some (.int .i64 lim) ∧ w'.cell? ⟨gs k, 2, none⟩ = some (.int .i64 (price zs k)))) (by kernel_rfl) ?hSq2xs (fun hHeld => ?restq2xs)
        case hSq2xs => ((first | assumption | ((((try dsimp only); repeat' apply And.intro) <;> (first | assumption | (refine below_later ?_ (by assumption); first | assumption | (simp only [*]; done) | (go_grown; done)) | (refine cell_later (by assumption) ?_; first | assumption | (simp only [*]; done) | (simp [go_sem]; done)) | (go_grown; done) | (simp [go_sem]; done))))))
        refine wpAnyH_take (i := 0) (oi := ?oiq2x1) (v := ?vq2x1) ?hiq2x1 (by kernel_rfl) (by kernel_rfl) (by kernel_rfl) ?hQq2x1 (Or.inl ⟨?hwq2x1, ?hyq2x1⟩) (by assumption) ?restq2x1
        case hiq2x1 => simp only [List.getElem?_toArray, List.getElem?_cons_succ, List.getElem?_cons_zero]; exact rfl
        case hQq2x1 => exact fun _ _ _ h => h
        case hwq2x1 => rfl
        case hyq2x1 => ((intro w hSw; (try dsimp only at hSw); go_simp) <;> with_reducible rfl)
        try simp only [Act.put, List.setIfInBounds_toArray, List.set_cons_zero, List.set_cons_succ]
        refine wpAnyH_take (i := 1) (oi := ?oiq2x2) (v := ?vq2x2) ?hiq2x2 (by kernel_rfl) (by kernel_rfl) (by kernel_rfl) ?hQq2x2 (Or.inl ⟨?hwq2x2, ?hyq2x2⟩) (by assumption) ?restq2x2
        case hiq2x2 => simp only [List.getElem?_toArray, List.getElem?_cons_succ, List.getElem?_cons_zero]; exact rfl
        case hQq2x2 => exact fun _ _ _ h => h
        case hwq2x2 => rfl
        case hyq2x2 => ((intro w hSw; (try dsimp only at hSw); go_simp) <;> with_reducible rfl)
        try simp only [Act.put, List.setIfInBounds_toArray, List.set_cons_zero, List.set_cons_succ]
        refine wpAnyH_take (i := 2) (oi := ?oiq2x3) (v := ?vq2x3) ?hiq2x3 (by kernel_rfl) (by kernel_rfl) (by kernel_rfl) ?hQq2x3 (Or.inl ⟨?hwq2x3, ?hyq2x3⟩) (by assumption) ?restq2x3
        case hiq2x3 => simp only [List.getElem?_toArray, List.getElem?_cons_succ, List.getElem?_cons_zero]; exact rfl
        case hQq2x3 => exact fun _ _ _ h => h
        case hwq2x3 => rfl
        case hyq2x3 => ((intro w hSw; (try dsimp only at hSw); go_simp) <;> with_reducible rfl)
        try simp only [Act.put, List.setIfInBounds_toArray, List.set_cons_zero, List.set_cons_succ]
        refine wpAnyH_take (i := 3) (oi := ?oiq2x4) (v := ?vq2x4) ?hiq2x4 (by kernel_rfl) (by kernel_rfl) (by kernel_rfl) ?hQq2x4 (Or.inl ⟨?hwq2x4, ?hyq2x4⟩) (by assumption) ?restq2x4
        case hiq2x4 => simp only [List.getElem?_toArray, List.getElem?_cons_succ, List.getElem?_cons_zero]; exact rfl
        case hQq2x4 => exact fun _ _ _ h => h
        case hwq2x4 => rfl
        case hyq2x4 => ((intro w hSw; (try dsimp only at hSw); go_simp) <;> with_reducible rfl)
        try simp only [Act.put, List.setIfInBounds_toArray, List.set_cons_zero, List.set_cons_succ]
        refine wpAnyH_take (i := 4) (oi := ?oiq2x5) (v := ?vq2x5) ?hiq2x5 (by kernel_rfl) (by kernel_rfl) (by kernel_rfl) ?hQq2x5 (Or.inl ⟨?hwq2x5, ?hyq2x5⟩) (by assumption) ?restq2x5
        case hiq2x5 => simp only [List.getElem?_toArray, List.getElem?_cons_succ, List.getElem?_cons_zero]; exact rfl
        case hQq2x5 => exact fun _ _ _ h => h
        case hwq2x5 => rfl
        case hyq2x5 => ((intro w hSw; (try dsimp only at hSw); go_simp) <;> with_reducible rfl)
        try simp only [Act.put, List.setIfInBounds_toArray, List.set_cons_zero, List.set_cons_succ]
        refine wpAnyH_take (i := 5) (oi := ?oiq2x6) (v := ?vq2x6) ?hiq2x6 (by kernel_rfl) (by kernel_rfl) (by kernel_rfl) ?hQq2x6 (Or.inl ⟨?hwq2x6, ?hyq2x6⟩) (by assumption) ?restq2x6
        case hiq2x6 => simp only [List.getElem?_toArray, List.getElem?_cons_succ, List.getElem?_cons_zero]; exact rfl
        case hQq2x6 => exact fun _ _ _ h => h
        case hwq2x6 => rfl
        case hyq2x6 => ((intro w hSw; (try dsimp only at hSw); go_simp) <;> with_reducible rfl)
        try simp only [Act.put, List.setIfInBounds_toArray, List.set_cons_zero, List.set_cons_succ]
        refine wpAnyH_ready (rs := [6]) (by kernel_rfl) (by simp) ?_
        refine AllReadyH.cons (o := ?oq2x7) ?hoq2x7 (fun K hK => ?stepq2x7) ?moreq2x7
        case hoq2x7 => simp only [List.getElem?_toArray, List.getElem?_cons_succ, List.getElem?_cons_zero]; exact rfl
        case moreq2x7 => exact AllReadyH.nil
        go_simp
        (go_at_call 75; refine (impl_meets side lim _ _).mono ?_; rw [HY.out]; rintro e u2 ⟨rfl, rfl⟩)
        refine hK.out _ _ ?hSq2x7 (fun hHeld => ?restq2x7)
        case hSq2x7 => ((first | assumption | ((((try dsimp only); repeat' apply And.intro) <;> (first | assumption | (refine below_later ?_ (by assumption); first | assumption | (simp only [*]; done) | (go_grown; done)) | (refine cell_later (by assumption) ?_; first | assumption | (simp only [*]; done) | (simp [go_sem]; done)) | (go_grown; done) | (simp [go_sem]; done))))))
        clear hK K
        try simp only [Act.put, List.setIfInBounds_toArray, List.set_cons_zero, List.set_cons_succ]
        refine wpAnyH_take (i := 7) (oi := ?oiq2x8) (v := ?vq2x8) ?hiq2x8 (by kernel_rfl) (by kernel_rfl) (by kernel_rfl) ?hQq2x8 (Or.inl ⟨?hwq2x8, ?hyq2x8⟩) (by assumption) ?restq2x8
        case hiq2x8 => simp only [List.getElem?_toArray, List.getElem?_cons_succ, List.getElem?_cons_zero]; exact rfl
        case hQq2x8 => exact fun _ _ _ h => h
        case hwq2x8 => rfl
        case hyq2x8 => ((intro w hSw; (try dsimp only at hSw); go_simp) <;> with_reducible rfl)
        try simp only [Act.put, List.setIfInBounds_toArray, List.set_cons_zero, List.set_cons_succ]
        refine wpAnyH_take (i := 8) (oi := ?oiq2x9) (v := ?vq2x9) ?hiq2x9 (by kernel_rfl) (by kernel_rfl) (by kernel_rfl) ?hQq2x9 (Or.inl ⟨?hwq2x9, ?hyq2x9⟩) (by assumption) ?restq2x9
        case hiq2x9 => simp only [List.getElem?_toArray, List.getElem?_cons_succ, List.getElem?_cons_zero]; exact rfl
        case hQq2x9 => exact fun _ _ _ h => h
        case hwq2x9 => rfl
        case hyq2x9 => ((intro w hSw; (try dsimp only at hSw); go_simp) <;> with_reducible rfl)
        try simp only [Act.put, List.setIfInBounds_toArray, List.set_cons_zero, List.set_cons_succ]
        refine wpAnyH_take (i := 9) (oi := ?oiq2x10) (v := _) ?hiq2x10 (by kernel_rfl) (by kernel_rfl) (by kernel_rfl) ?hQq2x10 (Or.inr ⟨?hwq2x10, rfl⟩) (by assumption) ?restq2x10
        case hiq2x10 => simp only [List.getElem?_toArray, List.getElem?_cons_succ, List.getElem?_cons_zero]; exact rfl
        case hQq2x10 => exact fun _ _ _ h => h
        case hwq2x10 => rfl
        try simp only [Act.put, List.setIfInBounds_toArray, List.set_cons_zero, List.set_cons_succ]
        refine wpAnyH_take (i := 10) (oi := ?oiq2x11) (v := _) ?hiq2x11 (by kernel_rfl) (by kernel_rfl) (by kernel_rfl) ?hQq2x11 (Or.inr ⟨?hwq2x11, rfl⟩) (by assumption) ?restq2x11
        case hiq2x11 => simp only [List.getElem?_toArray, List.getElem?_cons_succ, List.getElem?_cons_zero]; exact rfl
        case hQq2x11 => exact fun _ _ _ h => h
        case hwq2x11 => rfl
        try simp only [Act.put, List.setIfInBounds_toArray, List.set_cons_zero, List.set_cons_succ]
        refine wpAnyH_take (i := 11) (oi := ?oiq2x12) (v := _) ?hiq2x12 (by kernel_rfl) (by kernel_rfl) (by kernel_rfl) ?hQq2x12 (Or.inr ⟨?hwq2x12, rfl⟩) (by assumption) ?restq2x12
        case hiq2x12 => simp only [List.getElem?_toArray, List.getElem?_cons_succ, List.getElem?_cons_zero]; exact rfl
        case hQq2x12 => exact fun _ _ _ h => h
        case hwq2x12 => rfl
        try simp only [Act.put, List.setIfInBounds_toArray, List.set_cons_zero, List.set_cons_succ]
        refine wpAnyH_take (i := 12) (oi := ?oiq2x13) (v := _) ?hiq2x13 (by kernel_rfl) (by kernel_rfl) (by kernel_rfl) ?hQq2x13 (Or.inr ⟨?hwq2x13, rfl⟩) (by assumption) ?restq2x13
        case hiq2x13 => simp only [List.getElem?_toArray, List.getElem?_cons_succ, List.getElem?_cons_zero]; exact rfl
        case hQq2x13 => exact fun _ _ _ h => h
        case hwq2x13 => rfl
        try simp only [Act.put, List.setIfInBounds_toArray, List.set_cons_zero, List.set_cons_succ]
        refine wpAnyH_take (i := 13) (oi := ?oiq2x14) (v := ?vq2x14) ?hiq2x14 (by kernel_rfl) (by kernel_rfl) (by kernel_rfl) ?hQq2x14 (Or.inl ⟨?hwq2x14, ?hyq2x14⟩) (by assumption) ?restq2x14
        case hiq2x14 => simp only [List.getElem?_toArray, List.getElem?_cons_succ, List.getElem?_cons_zero]; exact rfl
        case hQq2x14 => exact fun _ _ _ h => h
        case hwq2x14 => rfl
        case hyq2x14 => ((intro w hSw; (try dsimp only at hSw); go_simp) <;> with_reducible rfl)
        try simp only [Act.put, List.setIfInBounds_toArray, List.set_cons_zero, List.set_cons_succ]
        refine wpAnyH_done (by kernel_rfl) ?_ _
        obtain ⟨hbR, -, -, -⟩ := hHeld
        have hJ9 := abides_below hJ hJk hbR
        go_wp2_with fail
        refine bodyPost_ret (results_none rfl _ _ _) rfl ?_
        exact ⟨⟨_, rfl⟩, .inl ⟨_, by rw [HL.out], hJ9⟩⟩
    · obtain rfl : n = k := by omega
      have HL := Lib.hid (lead_one n (fun k => meetB side lim (price zs k)) n (Nat.le_refl _) hmeet (.inl rfl))
      clear hmeet
      go_wp2_with fail
      go_end0
      exact ⟨⟨_, rfl⟩, .inl ⟨_, by rw [HL.out], hJk⟩⟩
/-- the iterator's contract, in the law's form -/
theorem met_stops (fo X S L n b1 b2 b3 L1 L2 : Nat) (side so lim : Int) (zs : List Int) (v : Value) (gs : Nat → Nat)
    (w : World) (hop : Opened w X S L 2 110 76 (.func (.func 104) #[] #[.pointer (some ⟨S, 0, none⟩)]) so zs n v gs) (hcp : Copies w X S L 28 zs n v gs) (hn : n ≤ 1048576)
    (hopp : side = 1 ∧ so = 2 ∨ side = 2 ∧ so = 1) (hso : so = 1 ∧ L = L1 ∨ so = 2 ∧ L = L2)
    (h1 : w.heap[b1]? = some (.cells #[.pointer (some ⟨L1, 0, none⟩), .pointer (some ⟨L2, 0, none⟩)] 68 (0, 0))) (h2 : w.heap[b2]? = some (.cells #[.int .i64 side] 2 (0, 0))) (h3 : w.heap[b3]? = some (.cells #[.int .i64 lim] 2 (0, 0))) :
    SeqStopsK Fence.wide (fo + 1) Try.prog 72 #[.pointer (some ⟨b1, 0, none⟩), .pointer (some ⟨b2, 0, none⟩), .pointer (some ⟨b3, 0, none⟩)] (fun x : Fin n => #[.pointer (some ⟨gs x.1, 0, none⟩)]) (MetKeeps b2 b3 v.ownBlock gs n)
      (fun ys => ys = firstN n (lead (fun k => meetB side lim (price zs k)) n)) (fun pre => ∃ k, k ≤ lead (fun k => meetB side lim (price zs k)) n ∧ pre = firstN n k) n w := fun l J Jx W hW hJ _ hY h0 =>
  callsIn_wide.2 (impl_met1 fo l X S L n b1 b2 b3 L1 L2 side so lim zs v gs J Jx W.heap.size hJ hY W (hop.below hW) (hcp.below hW) hn hopp hso ((hW.block b1 (heap_lt h1)).trans h1) ((hW.block b2 (heap_lt h2)).trans h2) ((hW.block b3 (heap_lt h3)).trans h3) h0)
end Go.Proofs.Ytempggikcpminaa

namespace Go.Proofs.Ytempggikcpminaa
open Go.RowKit Wire

end Go.Proofs.Ytempggikcpminaa

namespace Go.Proofs.Ytempggikcpminaa
open Go.RowKit Go.Shelf Wire

set_option maxRecDepth 100000 in
theorem impl_met (L1 L2 : Nat) (side lim : Int) (w : World) :
    Calls Try.prog 40 #[.agg #[.pointer (some ⟨L1, 0, none⟩), .pointer (some ⟨L2, 0, none⟩)], .int .i64 side, .int .i64 lim] w fun e w' => e = .returned (.func (.func 72) #[] #[.pointer (some ⟨w.heap.size, 0, none⟩), .pointer (some ⟨w.heap.size + 1, 0, none⟩), .pointer (some ⟨w.heap.size + 2, 0, none⟩)]) ∧ w' = ((w.alloc (.cells #[.pointer (some ⟨L1, 0, none⟩), .pointer (some ⟨L2, 0, none⟩)] 68)).alloc (.cells #[.int .i64 side] 2)).alloc (.cells #[.int .i64 lim] 2) := by
  go_enter Try.func40, Try.ntmps40
  go_wp2_with fail
  go_ret
  exact ⟨by simp, rfl⟩
end Go.Proofs.Ytempggikcpminaa

namespace Go.Proofs.Ytempggikcpminaa
open Go.RowKit Wire

set_option linter.unusedSimpArgs false in
set_option maxHeartbeats 1600000 in
set_option maxRecDepth 100000 in
theorem impl_hasOrder (A : Option Addr) (n c : Nat) (B : Option Addr) (m d : Nat) (za zb : List Int) (id : Int) (w : World) (ha : Lst w w.heap.size 4 A n za) (hb : Lst w w.heap.size 4 B m zb) (hn : n ≤ 1048576) (hm : m ≤ 1048576) :
    Calls Try.prog 38 #[.agg #[.slice A n c, .slice B m d], .int .i64 id] w fun e w' => (∃ s f ok, FindRel (bookB za n zb m) za n zb m id s f ok ∧ e = .returned (.bool ok)) ∧ Below w.heap.size w w' := by
  have hb0 : Below w.heap.size w (w.alloc (.cells #[.slice A n c, .slice B m d] 26)) := (Below.refl _ _).alloc (Nat.le_refl _) _
  go_enter Try.func38, Try.ntmps38
  go_wp2_with fail
  refine (impl_Find A n c B m d za zb id _ (ha.later hb0) (hb.later hb0) hn hm).mono ?_
  rintro e w1 ⟨⟨s, f, ok, hrel, rfl⟩, hb1⟩
  have HR := Lib.hid hrel
  have HB := Lib.hid (ord_later hb0 hb1)
  clear hrel hb0 hb1
  generalize f 0 = f0 at *
  generalize f 1 = f1 at *
  generalize f 2 = f2 at *
  generalize f 3 = f3 at *
  go_wp2_with fail
  go_ret
  exact ⟨⟨s, f, ok, HR.out, rfl⟩, HB.out.alloc HB.out.size _⟩
end Go.Proofs.Ytempggikcpminaa
