/-
  Round, Met, Taken, CrossI, TakenI.
-/
import Derived.Test.YtdjmejjponlfoaaKit
import Derived.RangeFuncNested
import Derived.RangeFuncBound
import Derived.RangeFuncCalls
import Derived.RangeFuncLeaves
import Derived.RangeFuncBox
import Derived.Shelf.Abstract
import Derived.OwnWalkIn
import Derived.TacticsInMore
import Derived.LoopNIn
import Derived.LoopIn
import Derived.Deep.RegionHeld
import Derived.Test.YtdjmejjponlfoaaCross
import Derived.Test.YtdjmejjponlfoaaTake
import Derived.Test.YtdjmejjponlfoaaDrop
import Derived.Test.YtdjmejjponlfoaaGH
import Derived.Test.YtdjmejjponlfoaaOpened
namespace Go.Proofs.Ytdjmejjponlfoaa
open Go.RowKit Go.Shelf

section
variable {P : Program} {ops : Array Oper} {Q : Exit → Act → World → Prop} {md : Region.Mode}
/-- no operation is a defer statement -/
def noDefer (ops : Array Oper) : Bool := ops.all fun o => match o.op with | .defer _ => false | _ => true
theorem noDefer_spec {i : Nat} {o : Oper} (h : noDefer ops = true) (hi : ops[i]? = some o) : ∀ c, o.op ≠ .defer c := by
  intro c hc
  obtain ⟨hl, he⟩ := Array.getElem?_eq_some_iff.1 hi
  have := (Array.all_eq_true (p := fun o : Oper => match o.op with | .defer _ => false | _ => true)).1 h i hl
  rw [he] at this
  simp [hc] at this
theorem rowsIn_round {n : Nat} {l : Nat} {row : String} {args : Array Value} {w : World} {R : Value → World → Prop} (h : Rows P row args w R) : RowsIn (Fence.wide.inRound l) n P row args w R := by
  intro c cs _
  obtain ⟨v, w', r, s⟩ := h c cs
  exact ⟨v, w', r, stepsIn_wide.2 s⟩
theorem wpOpIn_of_wpOp {n l i : Nat} {K K' : Act → World → Prop} (hd : noDefer ops = true) (hQ : ∀ a w, ¬ Q .outgrown a w) (hK : ∀ a w, K a w → K' a w) {a : Act} {w : World}
    (h : wpOp P ops Q i K a w) : wpOpIn (Fence.wide.inRound l) n P ops Q i K' a w := by
  unfold wpOp at h
  unfold wpOpIn
  cases ho : ops[i]? with
  | none => simp only [ho] at h ⊢; exact hK _ _ h
  | some o =>
    simp only [ho] at h ⊢
    split
    · rename_i hw
      simp only [hw, if_true] at h
      rcases h with h | ⟨_, a0, w0, h⟩
      · refine ⟨fun f _ => trivial, ?_⟩
        have hs : Oper.semAt (Fence.wide.inRound l).round a.eval o = execOp a.eval o := Oper.semAt_some l _ _ (noDefer_spec hd ho)
        rw [hs]
        unfold Oper.wp at h
        generalize (execOp a.eval o).run P w = r at *
        cases r with
        | ok x w' =>
          cases x <;> simp only [Oper.upon, Oper.uponIn] at h ⊢
          case value v => exact hK _ _ h
          case skip => exact hK _ _ h
          case defer d => exact hK _ _ h
          case enter f args => exact ⟨fun hd => by simp [Fence.wide] at hd, CallsIn.inRound l (callsIn_wide.2 (Calls.mono h fun e w'' he => by cases e <;> first | exact hK _ _ he | exact he))⟩
          case row row args => exact ⟨fun hd => by simp [Fence.wide] at hd, rowsIn_round (Rows.mono h fun v w'' he => hK _ _ he)⟩
        | halt x w' => cases x <;> simp only [Oper.upon, Oper.uponIn] at h ⊢ <;> exact h
      · exact absurd h (hQ _ _)
    · rename_i hw
      simp only [hw] at h
      exact ⟨fun f _ => trivial, hK _ _ h⟩
theorem wpAnyIn_of_wpAny {n l : Nat} (hd : noDefer ops = true) (hQ : ∀ a w, ¬ Q .outgrown a w) : ∀ (fuel : Nat) (listed : Array Bool) (a : Act) (w : World), wpAny P md ops Q fuel listed a w → wpAnyIn (Fence.wide.inRound l) n P md ops Q fuel listed a w
  | 0, _, _, _, h => h
  | fuel + 1, _, _, _, h => ⟨h.1, fun i hi => wpOpIn_of_wpOp hd hQ (fun a w => wpAnyIn_of_wpAny hd hQ fuel _ a w) (h.2 i hi)⟩
/-- a region that draws its order, within a round -/
theorem wpIn_region_round {S : World → Prop} {id n l : Nat} {a : Act} {w : World} (hm : P.follows .mixedOrders = true) (hd : noDefer ops = true) (hQ : ∀ a w, ¬ Q .outgrown a w) (hS : S w.drew)
    (h : S w.drew → wpAnyH P .any ops Q S ops.size (Array.replicate ops.size false) a w.drew) : (Code.region id ops true).wpIn (Fence.wide.inRound l) n P Q a w :=
  wpIn_region_any hm (wpAnyIn_of_wpAny hd hQ _ _ _ _ (wpAny_of_held _ _ _ _ (h hS)))
end
end Go.Proofs.Ytdjmejjponlfoaa

namespace Go.Proofs.Ytdjmejjponlfoaa
open Go.RowKit Go.Shelf Wire

/-- what the walk over the met orders reads lies as it lay -/
structure MetKeeps (b2 b3 : Nat) (r : Option Nat) (gs : Nat → Nat) (n : Nat) (w w' : World) : Prop where
  size : w.heap.size ≤ w'.heap.size
  block : ∀ b, b = b2 ∨ b = b3 ∨ r = some b → w'.heap[b]? = w.heap[b]?
  cell : ∀ k, k < n → ∀ j, j < 3 → w'.cell? ⟨gs k, j, none⟩ = w.cell? ⟨gs k, j, none⟩
theorem MetKeeps.refl (b2 b3 : Nat) (r : Option Nat) (gs : Nat → Nat) (n : Nat) (w : World) : MetKeeps b2 b3 r gs n w w := ⟨Nat.le_refl _, fun _ _ => rfl, fun _ _ _ _ => rfl⟩
theorem MetKeeps.trans {b2 b3 : Nat} {r : Option Nat} {gs : Nat → Nat} {n : Nat} {a b c : World} (h : MetKeeps b2 b3 r gs n a b) (k : MetKeeps b2 b3 r gs n b c) : MetKeeps b2 b3 r gs n a c :=
  ⟨Nat.le_trans h.size k.size, fun i hi => (k.block i hi).trans (h.block i hi), fun i hi j hj => (k.cell i hi j hj).trans (h.cell i hi j hj)⟩
theorem MetKeeps.of_blocks {b2 b3 : Nat} {r : Option Nat} {gs : Nat → Nat} {n : Nat} {a b : World} (hs : a.heap.size ≤ b.heap.size) (h : ∀ i, i = b2 ∨ i = b3 ∨ r = some i ∨ (∃ k, k < n ∧ gs k = i) → b.heap[i]? = a.heap[i]?) : MetKeeps b2 b3 r gs n a b :=
  ⟨hs, fun i hi => h i (by rcases hi with h | h | h <;> simp [h]), fun k hk j _ => World.cell?_of_block (a := ⟨gs k, j, none⟩) (h (gs k) (.inr (.inr (.inr ⟨k, hk, rfl⟩))))⟩
theorem MetKeeps.of_below {b2 b3 : Nat} {r : Option Nat} {gs : Nat → Nat} {n B : Nat} {a b : World} (h : Below B a b) (h2 : b2 < B) (h3 : b3 < B) (hr : ∀ q, r = some q → q < B) (hg : ∀ k, k < n → gs k < B) : MetKeeps b2 b3 r gs n a b :=
  .of_blocks h.size fun i hi => h.block i (by rcases hi with rfl | rfl | h | ⟨k, hk, rfl⟩; exact h2; exact h3; exact hr _ h; exact hg k hk)
theorem MetKeeps.drew {b2 b3 : Nat} {r : Option Nat} {gs : Nat → Nat} {n : Nat} {a b : World} (h : MetKeeps b2 b3 r gs n a b) : MetKeeps b2 b3 r gs n a b.drew := ⟨h.size, h.block, h.cell⟩
theorem abides_drew {β : Type} {B : Nat} {J : β → World → Prop} (h : AbidesFrom B J) {s : β} {w : World} (hs : J s w) : J s w.drew :=
  h s w w.drew none hs ⟨rfl, rfl, rfl, Nat.le_refl _, fun _ _ _ => rfl⟩ (fun r e => by cases e)
theorem abides_alloc {β : Type} {B : Nat} {J : β → World → Prop} (h : AbidesFrom B J) {s : β} {w : World} (o : Obj) (hs : J s w) : J s (w.alloc o) :=
  h s w _ none hs (World.grownBy_alloc w o none) (fun r e => by cases e)
theorem abides_below {β : Type} {B : Nat} {J : β → World → Prop} (h : AbidesFrom B J) {s : β} {w w' : World} (hs : J s w) (hb : Below w.heap.size w w') : J s w' :=
  h s w w' none hs ⟨hb.os, hb.tape, hb.output, hb.size, fun k hk _ => hb.block k hk⟩ (fun r e => by cases e)
/-- the first k of n -/
def firstN (n k : Nat) : List (Fin n) := (List.finRange n).take k
theorem firstN_zero (n : Nat) : firstN n 0 = [] := rfl
theorem firstN_succ {n k : Nat} (h : k < n) : firstN n (k + 1) = firstN n k ++ [⟨k, h⟩] := by
  unfold firstN
  rw [List.take_succ_eq_append_getElem (by simpa using h)]
  simp
theorem firstN_length {n k : Nat} (h : k ≤ n) : (firstN n k).length = k := by simp [firstN, h]
set_option maxRecDepth 100000 in
theorem impl_opp (side so : Int) (w : World) (h : side = 1 ∧ so = 2 ∨ side = 2 ∧ so = 1) :
    Calls Try.prog 59 #[.int .i64 side] w fun e w' => e = .returned (.int .i64 so) ∧ w = w' := by
  rcases h with ⟨rfl, rfl⟩ | ⟨rfl, rfl⟩
  · exact impl_opposite1 w
  · exact impl_opposite2 w
theorem impl_sideAt (L1 L2 L : Nat) (so : Int) (w : World) (h : so = 1 ∧ L = L1 ∨ so = 2 ∧ L = L2) :
    Calls Try.prog 49 #[.agg #[.pointer (some ⟨L1, 0, none⟩), .pointer (some ⟨L2, 0, none⟩)], .int .i64 so] w fun e w' => e = .returned (.pointer (some ⟨L, 0, none⟩)) ∧ Below w.heap.size w w' := by
  rcases h with ⟨rfl, rfl⟩ | ⟨rfl, rfl⟩
  · exact (impl_side ⟨L, 0, none⟩ ⟨L2, 0, none⟩ 1 w).mono fun e w' ⟨he, hb⟩ => ⟨by rw [he, if_pos rfl], hb⟩
  · exact (impl_side ⟨L1, 0, none⟩ ⟨L, 0, none⟩ 2 w).mono fun e w' ⟨he, hb⟩ => ⟨by rw [he, if_neg (by decide)], hb⟩
theorem lead_le (f : Nat → Bool) (n : Nat) : lead f n ≤ n := by
  induction n generalizing f with
  | zero => simp [lead]
  | succ n ih =>
    rw [lead]
    split
    · have := ih (fun j => f (j + 1)); omega
    · omega
theorem lead_pre : ∀ (n : Nat) (f : Nat → Bool) (k : Nat), k ≤ n → (∀ j, j < k → f j = true) → k ≤ lead f n
  | _, _, 0, _, _ => Nat.zero_le _
  | n + 1, f, k + 1, hk, h => by
    rw [lead, if_pos (h 0 (by omega))]
    have := lead_pre n (fun j => f (j + 1)) k (by omega) (fun j hj => h (j + 1) (by omega))
    omega
attribute [local go_sem] Oper.semAt_some
set_option linter.unusedSimpArgs false in
set_option maxHeartbeats 1600000 in
set_option maxRecDepth 100000 in
theorem impl_met1 (fo l X S L n b1 b2 b3 L1 L2 : Nat) (side so lim : Int) (zs : List Int) (v : Value) (gs : Nat → Nat) (J Jx : List (Fin n) → World → Prop)
    (B₀ : Nat) (hJ : AbidesFrom B₀ J)
    (hY : ∀ pre (x : Fin n) W, J pre W → pre.length < n → YieldAt Fence.wide fo Try.prog l #[.pointer (some ⟨gs x.1, 0, none⟩)] W fun e W' =>
      (e = .returned (.bool true) ∧ J (pre ++ [x]) W' ∧ MetKeeps b2 b3 v.ownBlock gs n W W') ∨ (e = .returned (.bool false) ∧ Jx (pre ++ [x]) W'))
    (W : World) (hop : Opened W X S L 2 90 70 (.func (.func 79) #[] #[.pointer (some ⟨S, 0, none⟩)]) so zs n v gs) (hcp : Copies W X S L 28 zs n v gs) (hn : n ≤ 1048576)
    (hopp : side = 1 ∧ so = 2 ∨ side = 2 ∧ so = 1) (hso : so = 1 ∧ L = L1 ∨ so = 2 ∧ L = L2)
    (h1 : W.heap[b1]? = some (.cells #[.pointer (some ⟨L1, 0, none⟩), .pointer (some ⟨L2, 0, none⟩)] 62 (0, 0))) (h2 : W.heap[b2]? = some (.cells #[.int .i64 side] 2 (0, 0))) (h3 : W.heap[b3]? = some (.cells #[.int .i64 lim] 2 (0, 0)))
    (h0 : J [] W) :
    Calls Try.prog 58 #[.func (.yield l) #[] #[], .pointer (some ⟨b1, 0, none⟩), .pointer (some ⟨b2, 0, none⟩), .pointer (some ⟨b3, 0, none⟩)] W fun e W' => (∃ u, e = .returned u) ∧
      ((∃ ys, ys = firstN n (lead (fun k => meetB side lim (price zs k)) n) ∧ J ys W') ∨ (∃ pre, (∃ k, k ≤ lead (fun k => meetB side lim (price zs k)) n ∧ pre = firstN n k) ∧ Jx pre W')) := by
  obtain ⟨A1, d1, rfl, hnd, hdm⟩ := own_slice hop.own
  have c1 := cell_of_row W b1 0 _ _ (0, 0) h1
  have c2 := cell_of_row W b1 1 _ _ (0, 0) h1
  have c3 := cell_of_row W b2 0 _ _ (0, 0) h2
  have c4 := cell_of_row W b3 0 _ _ (0, 0) h3
  have c5 := cell_of_row W L 0 _ _ (0, 0) hop.list
  simp at c1 c2 c3 c4 c5
  go_enter Try.func58, Try.ntmps58
  go_upto_region 0 with fail
  refine wp_region_held_drew (S := (fun w' => Below W.heap.size W w' ∧ w'.cell? ⟨b1, 0, none⟩ = some (.pointer (some ⟨L1, 0, none⟩)) ∧ w'.cell? ⟨b1, 1, none⟩ = some (.pointer (some ⟨L2, 0, none⟩)) ∧ w'.cell? ⟨b2, 0, none⟩ = some (.int .i64 side) ∧ w'.cell? ⟨L, 0, none⟩ = some (.slice A1 n d1))) (by kernel_rfl) ?hSq1xs (fun hHeld => ?restq1xs)
  case hSq1xs => ((first | assumption | ((((try dsimp only); repeat' apply And.intro) <;> (first | assumption | (refine below_later ?_ (by assumption); first | assumption | (simp only [*]; done) | (go_grown; done)) | (refine cell_later (by assumption) ?_; first | assumption | (simp only [*]; done) | (simp [go_sem]; done)) | (go_grown; done) | (simp [go_sem]; done))))))
  refine wpAnyH_take (i := 0) (oi := ?oiq1x1) (v := ?vq1x1) ?hiq1x1 (by kernel_rfl) (by kernel_rfl) (by kernel_rfl) ?hQq1x1 (Or.inl ⟨?hwq1x1, ?hyq1x1⟩) (by assumption) ?restq1x1
  case hiq1x1 => simp only [List.getElem?_toArray, List.getElem?_cons_succ, List.getElem?_cons_zero]; exact rfl
  case hQq1x1 => exact fun _ _ _ h => h
  case hwq1x1 => rfl
  case hyq1x1 => ((intro w hSw; (try dsimp only at hSw); go_simp) <;> with_reducible rfl)
  try simp only [Act.put, List.setIfInBounds_toArray, List.set_cons_zero, List.set_cons_succ]
  refine wpAnyH_take (i := 1) (oi := ?oiq1x2) (v := ?vq1x2) ?hiq1x2 (by kernel_rfl) (by kernel_rfl) (by kernel_rfl) ?hQq1x2 (Or.inl ⟨?hwq1x2, ?hyq1x2⟩) (by assumption) ?restq1x2
  case hiq1x2 => simp only [List.getElem?_toArray, List.getElem?_cons_succ, List.getElem?_cons_zero]; exact rfl
  case hQq1x2 => exact fun _ _ _ h => h
  case hwq1x2 => rfl
  case hyq1x2 => ((intro w hSw; (try dsimp only at hSw); go_simp) <;> with_reducible rfl)
  try simp only [Act.put, List.setIfInBounds_toArray, List.set_cons_zero, List.set_cons_succ]
  refine wpAnyH_take (i := 8) (oi := ?oiq1x3) (v := ?vq1x3) ?hiq1x3 (by kernel_rfl) (by kernel_rfl) (by kernel_rfl) ?hQq1x3 (Or.inl ⟨?hwq1x3, ?hyq1x3⟩) (by assumption) ?restq1x3
  case hiq1x3 => simp only [List.getElem?_toArray, List.getElem?_cons_succ, List.getElem?_cons_zero]; exact rfl
  case hQq1x3 => exact fun _ _ _ h => h
  case hwq1x3 => rfl
  case hyq1x3 => ((intro w hSw; (try dsimp only at hSw); go_simp) <;> with_reducible rfl)
  try simp only [Act.put, List.setIfInBounds_toArray, List.set_cons_zero, List.set_cons_succ]
  refine wpAnyH_ready (rs := [2]) (by kernel_rfl) (by simp) ?_
  refine AllReadyH.cons (o := ?oq1x4) ?hoq1x4 (fun K hK => ?stepq1x4) ?moreq1x4
  case hoq1x4 => simp only [List.getElem?_toArray, List.getElem?_cons_succ, List.getElem?_cons_zero]; exact rfl
  case moreq1x4 => exact AllReadyH.nil
  go_simp
  (go_at_call 59; refine (impl_opp side so _ hopp).mono ?_; rintro e u2 ⟨rfl, rfl⟩)
  refine hK.out _ _ ?hSq1x4 (fun hHeld => ?restq1x4)
  case hSq1x4 => ((first | assumption | ((((try dsimp only); repeat' apply And.intro) <;> (first | assumption | (refine below_later ?_ (by assumption); first | assumption | (simp only [*]; done) | (go_grown; done)) | (refine cell_later (by assumption) ?_; first | assumption | (simp only [*]; done) | (simp [go_sem]; done)) | (go_grown; done) | (simp [go_sem]; done))))))
  clear hK K
  try simp only [Act.put, List.setIfInBounds_toArray, List.set_cons_zero, List.set_cons_succ]
  refine wpAnyH_ready (rs := [3]) (by kernel_rfl) (by simp) ?_
  refine AllReadyH.cons (o := ?oq1x5) ?hoq1x5 (fun K hK => ?stepq1x5) ?moreq1x5
  case hoq1x5 => simp only [List.getElem?_toArray, List.getElem?_cons_succ, List.getElem?_cons_zero]; exact rfl
  case moreq1x5 => exact AllReadyH.nil
  go_simp
  (go_at_call 49; refine (impl_sideAt L1 L2 L so _ hso).mono ?_; rintro e u3 ⟨rfl, hb3'⟩)
  refine hK.out _ _ ?hSq1x5 (fun hHeld => ?restq1x5)
  case hSq1x5 => ((first | assumption | ((((try dsimp only); repeat' apply And.intro) <;> (first | assumption | (refine below_later ?_ (by assumption); first | assumption | (simp only [*]; done) | (go_grown; done)) | (refine cell_later (by assumption) ?_; first | assumption | (simp only [*]; done) | (simp [go_sem]; done)) | (go_grown; done) | (simp [go_sem]; done))))))
  clear hK K
  try simp only [Act.put, List.setIfInBounds_toArray, List.set_cons_zero, List.set_cons_succ]
  refine wpAnyH_take (i := 4) (oi := ?oiq1x6) (v := ?vq1x6) ?hiq1x6 (by kernel_rfl) (by kernel_rfl) (by kernel_rfl) ?hQq1x6 (Or.inl ⟨?hwq1x6, ?hyq1x6⟩) (by assumption) ?restq1x6
  case hiq1x6 => simp only [List.getElem?_toArray, List.getElem?_cons_succ, List.getElem?_cons_zero]; exact rfl
  case hQq1x6 => exact fun _ _ _ h => h
  case hwq1x6 => rfl
  case hyq1x6 => ((intro w hSw; (try dsimp only at hSw); go_simp) <;> with_reducible rfl)
  try simp only [Act.put, List.setIfInBounds_toArray, List.set_cons_zero, List.set_cons_succ]
  refine wpAnyH_take (i := 5) (oi := ?oiq1x7) (v := ?vq1x7) ?hiq1x7 (by kernel_rfl) (by kernel_rfl) (by kernel_rfl) ?hQq1x7 (Or.inl ⟨?hwq1x7, ?hyq1x7⟩) (by assumption) ?restq1x7
  case hiq1x7 => simp only [List.getElem?_toArray, List.getElem?_cons_succ, List.getElem?_cons_zero]; exact rfl
  case hQq1x7 => exact fun _ _ _ h => h
  case hwq1x7 => rfl
  case hyq1x7 => ((intro w hSw; (try dsimp only at hSw); go_simp) <;> with_reducible rfl)
  try simp only [Act.put, List.setIfInBounds_toArray, List.set_cons_zero, List.set_cons_succ]
  refine wpAnyH_take (i := 6) (oi := ?oiq1x8) (v := ?vq1x8) ?hiq1x8 (by kernel_rfl) (by kernel_rfl) (by kernel_rfl) ?hQq1x8 (Or.inl ⟨?hwq1x8, ?hyq1x8⟩) (by assumption) ?restq1x8
  case hiq1x8 => simp only [List.getElem?_toArray, List.getElem?_cons_succ, List.getElem?_cons_zero]; exact rfl
  case hQq1x8 => exact fun _ _ _ h => h
  case hwq1x8 => rfl
  case hyq1x8 => ((intro w hSw; (try dsimp only at hSw); go_simp) <;> with_reducible rfl)
  try simp only [Act.put, List.setIfInBounds_toArray, List.set_cons_zero, List.set_cons_succ]
  refine wpAnyH_take (i := 7) (oi := ?oiq1x9) (v := ?vq1x9) ?hiq1x9 (by kernel_rfl) (by kernel_rfl) (by kernel_rfl) ?hQq1x9 (Or.inl ⟨?hwq1x9, ?hyq1x9⟩) (by assumption) ?restq1x9
  case hiq1x9 => simp only [List.getElem?_toArray, List.getElem?_cons_succ, List.getElem?_cons_zero]; exact rfl
  case hQq1x9 => exact fun _ _ _ h => h
  case hwq1x9 => rfl
  case hyq1x9 => ((intro w hSw; (try dsimp only at hSw); go_simp) <;> with_reducible rfl)
  try simp only [Act.put, List.setIfInBounds_toArray, List.set_cons_zero, List.set_cons_succ]
  refine wpAnyH_done (by kernel_rfl) ?_ _
  obtain ⟨hbA, -, -, -, -⟩ := hHeld
  have hJ0 : J [] u3 := abides_below hJ h0 hbA
  have M0 : MetKeeps b2 b3 (Value.slice A1 n d1).ownBlock gs n W u3 := .of_below hbA (heap_lt h2) (heap_lt h3) (fun q hq => (hop.own.lt q hq).2) (fun k hk => (hcp k hk).2.2.2.2.lt)
  have hle : lead (fun k => meetB side lim (price zs k)) n ≤ n := lead_le _ _
  clear hb3' hbA c1 c2 c3 c4 c5 hHeld
  go_wp2_with fail
  go_loopw [15] (fun i wr => ∃ k : Nat, k ≤ n ∧ i = .int .i64 (k : Int) ∧ (∀ j, j < k → meetB side lim (price zs j) = true) ∧ J (firstN n k) wr ∧ MetKeeps b2 b3 (Value.slice A1 n d1).ownBlock gs n W wr) (fun i _ => n - (intOf i).toNat)
  case atStart => exact ⟨0, Nat.zero_le _, rfl, fun j h => absurd h (Nat.not_lt_zero j), hJ0, M0⟩
  case round =>
    clear hJ0 M0
    obtain ⟨k, hk, rfl, hmeet, hJk, hM⟩ := hrel
    by_cases hlt : k < n
    · obtain ⟨g, cap, hg, _, _⟩ := hop.own.form (by omega)
      injection hg with hg1 hg2 hg3
      subst hg1 hg3
      have p0' := hop.own.cells (g := g) rfl k _ (ptrs_at gs n k hlt)
      rw [add0 g k] at p0'
      have p0 : wr.cell? ⟨g, k, none⟩ = _ := (World.cell?_of_block (hM.block g (.inr (.inr rfl)))).trans p0'
      clear p0'
      have p1 : wr.cell? ⟨gs k, 2, none⟩ = some (.int .i64 (price zs k)) := (hM.cell k hlt 2 (by omega)).trans ((hcp k hlt).2.2.2.2.cell (i := 2) (by omega))
      have q2 := (hM.block b2 (.inl rfl)).trans h2
      have q3 := (hM.block b3 (.inr (.inl rfl))).trans h3
      have d2 := cell_of_row wr b2 0 _ _ (0, 0) q2
      have d3 := cell_of_row wr b3 0 _ _ (0, 0) q3
      simp at d2 d3
      have Hm := Lib.hid hmeet
      clear hmeet q2 q3
      go_wp2_with fail
      rcases Bool.eq_false_or_eq_true (meetB side lim (price zs k)) with hy | hy
      · have HY := Lib.hid hy
        clear hy
        refine (wpIn_wide (n := fo + 1)).1 ?_
        refine wpIn_region_any (by kernel_rfl) ?_
        refine wpAnyIn_take (i := 2) (v := ?_) rfl rfl (by kernel_rfl) (by kernel_rfl) (by kernel_rfl) (fun _ _ _ h => h) ⟨Or.inl ⟨by rfl, ?_⟩, fun _ => rfl⟩ ?_
        rotate_left
        (intro w; go_simp; try with_reducible rfl)
        try simp only [Act.put, List.setIfInBounds_toArray, List.set_cons_zero, List.set_cons_succ]
        refine wpAnyIn_take (i := 3) (v := ?_) rfl rfl (by kernel_rfl) (by kernel_rfl) (by kernel_rfl) (fun _ _ _ h => h) ⟨Or.inl ⟨by rfl, ?_⟩, fun _ => rfl⟩ ?_
        rotate_left
        (intro w; go_simp; try with_reducible rfl)
        try simp only [Act.put, List.setIfInBounds_toArray, List.set_cons_zero, List.set_cons_succ]
        refine wpAnyIn_take (i := 4) (v := ?_) rfl rfl (by kernel_rfl) (by kernel_rfl) (by kernel_rfl) (fun _ _ _ h => h) ⟨Or.inl ⟨by rfl, ?_⟩, fun _ => rfl⟩ ?_
        rotate_left
        (intro w; go_simp; try with_reducible rfl)
        try simp only [Act.put, List.setIfInBounds_toArray, List.set_cons_zero, List.set_cons_succ]
        refine wpAnyIn_ready (rs := [0, 1, 5]) (by kernel_rfl) (by simp) ?_
        refine AllReadyIn.cons rfl (fun K hK => ?s0) (AllReadyIn.cons rfl (fun K hK => ?s1) (AllReadyIn.cons rfl (fun K hK => ?s5) AllReadyIn.nil))
        case' s0 =>
          go_simp
          refine hK _ _ ?_
          clear hK K
          try simp only [Act.put, List.setIfInBounds_toArray, List.set_cons_zero, List.set_cons_succ]
          refine wpAnyIn_ready (rs := [1, 5]) (by kernel_rfl) (by simp) ?_
          refine AllReadyIn.cons rfl (fun K hK => ?s01) (AllReadyIn.cons rfl (fun K hK => ?s05) AllReadyIn.nil)
          case' s01 =>
            go_simp
            refine hK _ _ ?_
            clear hK K
            try simp only [Act.put, List.setIfInBounds_toArray, List.set_cons_zero, List.set_cons_succ]
            refine wpAnyIn_ready (rs := [5]) (by kernel_rfl) (by simp) ?_
            refine AllReadyIn.cons rfl (fun K hK => ?s015) AllReadyIn.nil
            case' s015 =>
              go_simp
              refine hK _ _ ?_
              clear hK K
              try simp only [Act.put, List.setIfInBounds_toArray, List.set_cons_zero, List.set_cons_succ]
          case' s05 =>
            go_simp
            refine hK _ _ ?_
            clear hK K
            try simp only [Act.put, List.setIfInBounds_toArray, List.set_cons_zero, List.set_cons_succ]
            refine wpAnyIn_ready (rs := [1]) (by kernel_rfl) (by simp) ?_
            refine AllReadyIn.cons rfl (fun K hK => ?s051) AllReadyIn.nil
            case' s051 =>
              go_simp
              refine hK _ _ ?_
              clear hK K
              try simp only [Act.put, List.setIfInBounds_toArray, List.set_cons_zero, List.set_cons_succ]
        case' s1 =>
          go_simp
          refine hK _ _ ?_
          clear hK K
          try simp only [Act.put, List.setIfInBounds_toArray, List.set_cons_zero, List.set_cons_succ]
          refine wpAnyIn_ready (rs := [0, 5]) (by kernel_rfl) (by simp) ?_
          refine AllReadyIn.cons rfl (fun K hK => ?s10) (AllReadyIn.cons rfl (fun K hK => ?s15) AllReadyIn.nil)
          case' s10 =>
            go_simp
            refine hK _ _ ?_
            clear hK K
            try simp only [Act.put, List.setIfInBounds_toArray, List.set_cons_zero, List.set_cons_succ]
            refine wpAnyIn_ready (rs := [5]) (by kernel_rfl) (by simp) ?_
            refine AllReadyIn.cons rfl (fun K hK => ?s105) AllReadyIn.nil
            case' s105 =>
              go_simp
              refine hK _ _ ?_
              clear hK K
              try simp only [Act.put, List.setIfInBounds_toArray, List.set_cons_zero, List.set_cons_succ]
          case' s15 =>
            go_simp
            refine hK _ _ ?_
            clear hK K
            try simp only [Act.put, List.setIfInBounds_toArray, List.set_cons_zero, List.set_cons_succ]
            refine wpAnyIn_ready (rs := [0]) (by kernel_rfl) (by simp) ?_
            refine AllReadyIn.cons rfl (fun K hK => ?s150) AllReadyIn.nil
            case' s150 =>
              go_simp
              refine hK _ _ ?_
              clear hK K
              try simp only [Act.put, List.setIfInBounds_toArray, List.set_cons_zero, List.set_cons_succ]
        case' s5 =>
          go_simp
          refine hK _ _ ?_
          clear hK K
          try simp only [Act.put, List.setIfInBounds_toArray, List.set_cons_zero, List.set_cons_succ]
          refine wpAnyIn_ready (rs := [0, 1]) (by kernel_rfl) (by simp) ?_
          refine AllReadyIn.cons rfl (fun K hK => ?s50) (AllReadyIn.cons rfl (fun K hK => ?s51) AllReadyIn.nil)
          case' s50 =>
            go_simp
            refine hK _ _ ?_
            clear hK K
            try simp only [Act.put, List.setIfInBounds_toArray, List.set_cons_zero, List.set_cons_succ]
            refine wpAnyIn_ready (rs := [1]) (by kernel_rfl) (by simp) ?_
            refine AllReadyIn.cons rfl (fun K hK => ?s501) AllReadyIn.nil
            case' s501 =>
              go_simp
              refine hK _ _ ?_
              clear hK K
              try simp only [Act.put, List.setIfInBounds_toArray, List.set_cons_zero, List.set_cons_succ]
          case' s51 =>
            go_simp
            refine hK _ _ ?_
            clear hK K
            try simp only [Act.put, List.setIfInBounds_toArray, List.set_cons_zero, List.set_cons_succ]
            refine wpAnyIn_ready (rs := [0]) (by kernel_rfl) (by simp) ?_
            refine AllReadyIn.cons rfl (fun K hK => ?s510) AllReadyIn.nil
            case' s510 =>
              go_simp
              refine hK _ _ ?_
              clear hK K
              try simp only [Act.put, List.setIfInBounds_toArray, List.set_cons_zero, List.set_cons_succ]
        all_goals
          refine wpAnyIn_ready (rs := [6]) (by kernel_rfl) (by simp) ?_
          refine AllReadyIn.cons rfl (fun K hK => ?_) AllReadyIn.nil
          go_simp
          refine ⟨trivial, (callsIn_wide.2 (impl_meets side lim _ _)).mono ?_⟩
          rw [HY.out]
          rintro e w' ⟨rfl, rfl⟩
          refine hK _ _ ?_
          clear hK K
          try simp only [Act.put, List.setIfInBounds_toArray, List.set_cons_zero, List.set_cons_succ]
          refine wpAnyIn_take (i := 7) (v := ?_) rfl rfl (by kernel_rfl) (by kernel_rfl) (by kernel_rfl) (fun _ _ _ h => h) ⟨Or.inl ⟨by rfl, ?_⟩, fun _ => rfl⟩ ?_
          rotate_left
          (intro w; go_simp; try with_reducible rfl)
          try simp only [Act.put, List.setIfInBounds_toArray, List.set_cons_zero, List.set_cons_succ]
          refine wpAnyIn_take (i := 8) (v := ?_) rfl rfl (by kernel_rfl) (by kernel_rfl) (by kernel_rfl) (fun _ _ _ h => h) ⟨Or.inl ⟨by rfl, ?_⟩, fun _ => rfl⟩ ?_
          rotate_left
          (intro w; go_simp; try with_reducible rfl)
          try simp only [Act.put, List.setIfInBounds_toArray, List.set_cons_zero, List.set_cons_succ]
          refine wpAnyIn_take (i := 9) (v := ?_) rfl rfl (by kernel_rfl) (by kernel_rfl) (by kernel_rfl) (fun _ _ _ h => h) ⟨Or.inl ⟨by rfl, ?_⟩, fun _ => rfl⟩ ?_
          rotate_left
          (intro w; go_simp; try with_reducible rfl)
          try simp only [Act.put, List.setIfInBounds_toArray, List.set_cons_zero, List.set_cons_succ]
          refine wpAnyIn_take (i := 10) (v := ?_) rfl rfl (by kernel_rfl) (by kernel_rfl) (by kernel_rfl) (fun _ _ _ h => h) ⟨Or.inl ⟨by rfl, ?_⟩, fun _ => rfl⟩ ?_
          rotate_left
          (intro w; go_simp; try with_reducible rfl)
          try simp only [Act.put, List.setIfInBounds_toArray, List.set_cons_zero, List.set_cons_succ]
          obtain ⟨fn, tmps, assign, body, hy, hR⟩ := hY (firstN n k) ⟨k, hlt⟩ wr.drew (abides_drew hJ hJk) (by rw [firstN_length (by omega)]; exact hlt)
          refine wpAnyIn_ready (rs := [11]) (by kernel_rfl) (by simp) ?_
          refine AllReadyIn.cons rfl (fun K hK => ?_) AllReadyIn.nil
          go_simp
          refine hR.mono ?_
          rintro e W3 (⟨rfl, hJ3, hk3⟩ | ⟨rfl, hJx3⟩)
          · refine hK _ _ ?_
            clear hK K
            try simp only [Act.put, List.setIfInBounds_toArray, List.set_cons_zero, List.set_cons_succ]
            refine wpAnyIn_take (i := 12) (v := ?_) rfl rfl (by kernel_rfl) (by kernel_rfl) (by kernel_rfl) (fun _ _ _ h => h) ⟨Or.inl ⟨by rfl, ?_⟩, fun _ => rfl⟩ ?_
            rotate_left
            (intro w; go_simp; try with_reducible rfl)
            try simp only [Act.put, List.setIfInBounds_toArray, List.set_cons_zero, List.set_cons_succ]
            refine wpAnyIn_take (i := 13) (v := ?_) rfl rfl (by kernel_rfl) (by kernel_rfl) (by kernel_rfl) (fun _ _ _ h => h) ⟨Or.inl ⟨by rfl, ?_⟩, fun _ => rfl⟩ ?_
            rotate_left
            (intro w; go_simp; try with_reducible rfl)
            try simp only [Act.put, List.setIfInBounds_toArray, List.set_cons_zero, List.set_cons_succ]
            refine wpAnyIn_done (by kernel_rfl) ?_ _
            go_wp2_with fail
            go_roundw
            case rel => exact ⟨k + 1, by omega, by go_num, fun j hj => by rcases (show j < k ∨ j = k from by omega) with h | rfl; exact Hm.out j h; exact HY.out, by rw [firstN_succ hlt]; exact hJ3, hM.drew.trans hk3⟩
            case measure => simp [intOf]; omega
          · refine hK _ _ ?_
            clear hK K
            try simp only [Act.put, List.setIfInBounds_toArray, List.set_cons_zero, List.set_cons_succ]
            refine wpAnyIn_take (i := 12) (v := ?_) rfl rfl (by kernel_rfl) (by kernel_rfl) (by kernel_rfl) (fun _ _ _ h => h) ⟨Or.inl ⟨by rfl, ?_⟩, fun _ => rfl⟩ ?_
            rotate_left
            (intro w; go_simp; try with_reducible rfl)
            try simp only [Act.put, List.setIfInBounds_toArray, List.set_cons_zero, List.set_cons_succ]
            refine wpAnyIn_take (i := 13) (v := ?_) rfl rfl (by kernel_rfl) (by kernel_rfl) (by kernel_rfl) (fun _ _ _ h => h) ⟨Or.inl ⟨by rfl, ?_⟩, fun _ => rfl⟩ ?_
            rotate_left
            (intro w; go_simp; try with_reducible rfl)
            try simp only [Act.put, List.setIfInBounds_toArray, List.set_cons_zero, List.set_cons_succ]
            refine wpAnyIn_done (by kernel_rfl) ?_ _
            have hlk : k + 1 ≤ lead (fun k => meetB side lim (price zs k)) n := lead_pre n _ (k + 1) (by omega) (fun j hj => by rcases (show j < k ∨ j = k from by omega) with h | rfl; exact Hm.out j h; exact HY.out)
            go_wp2_with fail
            refine bodyPost_ret (results_none rfl _ _ _) rfl ?_
            exact ⟨⟨_, rfl⟩, .inr ⟨_, ⟨k + 1, hlk, (firstN_succ hlt).symm⟩, hJx3⟩⟩
      · have HY := Lib.hid hy
        have HL := Lib.hid (lead_one n (fun k => meetB side lim (price zs k)) k hk Hm.out (.inr hy))
        clear hy
        refine wp_region_held_drew (S := (fun w' => Below wr.heap.size wr w' ∧ w'.cell? ⟨b2, 0, none⟩ = some (.int .i64 side) ∧ w'.cell? ⟨b3, 0, none⟩ = some (.int .i64 lim) ∧ w'.cell? ⟨gs k, 2, none⟩ = some (.int .i64 (price zs k)))) (by kernel_rfl) ?hSq2xs (fun hHeld => ?restq2xs)
        case hSq2xs => ((first | assumption | ((((try dsimp only); repeat' apply And.intro) <;> (first | assumption | (refine below_later ?_ (by assumption); first | assumption | (simp only [*]; done) | (go_grown; done)) | (refine cell_later (by assumption) ?_; first | assumption | (simp only [*]; done) | (simp [go_sem]; done)) | (go_grown; done) | (simp [go_sem]; done))))))
        refine wpAnyH_take (i := 0) (oi := ?oiq2x1) (v := ?vq2x1) ?hiq2x1 (by kernel_rfl) (by kernel_rfl) (by kernel_rfl) ?hQq2x1 (Or.inl ⟨?hwq2x1, ?hyq2x1⟩) (by assumption) ?restq2x1
        case hiq2x1 => simp only [List.getElem?_toArray, List.getElem?_cons_succ, List.getElem?_cons_zero]; exact rfl
        case hQq2x1 => exact fun _ _ _ h => h
        case hwq2x1 => rfl
        case hyq2x1 => ((intro w hSw; (try dsimp only at hSw); go_simp) <;> with_reducible rfl)
        try simp only [Act.put, List.setIfInBounds_toArray, List.set_cons_zero, List.set_cons_succ]
        refine wpAnyH_take (i := 1) (oi := ?oiq2x2) (v := ?vq2x2) ?hiq2x2 (by kernel_rfl) (by kernel_rfl) (by kernel_rfl) ?hQq2x2 (Or.inl ⟨?hwq2x2, ?hyq2x2⟩) (by assumption) ?restq2x2
        case hiq2x2 => simp only [List.getElem?_toArray, List.getElem?_cons_succ, List.getElem?_cons_zero]; exact rfl
        case hQq2x2 => exact fun _ _ _ h => h
        case hwq2x2 => rfl
        case hyq2x2 => ((intro w hSw; (try dsimp only at hSw); go_simp) <;> with_reducible rfl)
        try simp only [Act.put, List.setIfInBounds_toArray, List.set_cons_zero, List.set_cons_succ]
        refine wpAnyH_take (i := 2) (oi := ?oiq2x3) (v := ?vq2x3) ?hiq2x3 (by kernel_rfl) (by kernel_rfl) (by kernel_rfl) ?hQq2x3 (Or.inl ⟨?hwq2x3, ?hyq2x3⟩) (by assumption) ?restq2x3
        case hiq2x3 => simp only [List.getElem?_toArray, List.getElem?_cons_succ, List.getElem?_cons_zero]; exact rfl
        case hQq2x3 => exact fun _ _ _ h => h
        case hwq2x3 => rfl
        case hyq2x3 => ((intro w hSw; (try dsimp only at hSw); go_simp) <;> with_reducible rfl)
        try simp only [Act.put, List.setIfInBounds_toArray, List.set_cons_zero, List.set_cons_succ]
        refine wpAnyH_take (i := 3) (oi := ?oiq2x4) (v := ?vq2x4) ?hiq2x4 (by kernel_rfl) (by kernel_rfl) (by kernel_rfl) ?hQq2x4 (Or.inl ⟨?hwq2x4, ?hyq2x4⟩) (by assumption) ?restq2x4
        case hiq2x4 => simp only [List.getElem?_toArray, List.getElem?_cons_succ, List.getElem?_cons_zero]; exact rfl
        case hQq2x4 => exact fun _ _ _ h => h
        case hwq2x4 => rfl
        case hyq2x4 => ((intro w hSw; (try dsimp only at hSw); go_simp) <;> with_reducible rfl)
        try simp only [Act.put, List.setIfInBounds_toArray, List.set_cons_zero, List.set_cons_succ]
        refine wpAnyH_take (i := 4) (oi := ?oiq2x5) (v := ?vq2x5) ?hiq2x5 (by kernel_rfl) (by kernel_rfl) (by kernel_rfl) ?hQq2x5 (Or.inl ⟨?hwq2x5, ?hyq2x5⟩) (by assumption) ?restq2x5
        case hiq2x5 => simp only [List.getElem?_toArray, List.getElem?_cons_succ, List.getElem?_cons_zero]; exact rfl
        case hQq2x5 => exact fun _ _ _ h => h
        case hwq2x5 => rfl
        case hyq2x5 => ((intro w hSw; (try dsimp only at hSw); go_simp) <;> with_reducible rfl)
        try simp only [Act.put, List.setIfInBounds_toArray, List.set_cons_zero, List.set_cons_succ]
        refine wpAnyH_take (i := 5) (oi := ?oiq2x6) (v := ?vq2x6) ?hiq2x6 (by kernel_rfl) (by kernel_rfl) (by kernel_rfl) ?hQq2x6 (Or.inl ⟨?hwq2x6, ?hyq2x6⟩) (by assumption) ?restq2x6
        case hiq2x6 => simp only [List.getElem?_toArray, List.getElem?_cons_succ, List.getElem?_cons_zero]; exact rfl
        case hQq2x6 => exact fun _ _ _ h => h
        case hwq2x6 => rfl
        case hyq2x6 => ((intro w hSw; (try dsimp only at hSw); go_simp) <;> with_reducible rfl)
        try simp only [Act.put, List.setIfInBounds_toArray, List.set_cons_zero, List.set_cons_succ]
        refine wpAnyH_ready (rs := [6]) (by kernel_rfl) (by simp) ?_
        refine AllReadyH.cons (o := ?oq2x7) ?hoq2x7 (fun K hK => ?stepq2x7) ?moreq2x7
        case hoq2x7 => simp only [List.getElem?_toArray, List.getElem?_cons_succ, List.getElem?_cons_zero]; exact rfl
        case moreq2x7 => exact AllReadyH.nil
        go_simp
        (go_at_call 60; refine (impl_meets side lim _ _).mono ?_; rw [HY.out]; rintro e u2 ⟨rfl, rfl⟩)
        refine hK.out _ _ ?hSq2x7 (fun hHeld => ?restq2x7)
        case hSq2x7 => ((first | assumption | ((((try dsimp only); repeat' apply And.intro) <;> (first | assumption | (refine below_later ?_ (by assumption); first | assumption | (simp only [*]; done) | (go_grown; done)) | (refine cell_later (by assumption) ?_; first | assumption | (simp only [*]; done) | (simp [go_sem]; done)) | (go_grown; done) | (simp [go_sem]; done))))))
        clear hK K
        try simp only [Act.put, List.setIfInBounds_toArray, List.set_cons_zero, List.set_cons_succ]
        refine wpAnyH_take (i := 7) (oi := ?oiq2x8) (v := ?vq2x8) ?hiq2x8 (by kernel_rfl) (by kernel_rfl) (by kernel_rfl) ?hQq2x8 (Or.inl ⟨?hwq2x8, ?hyq2x8⟩) (by assumption) ?restq2x8
        case hiq2x8 => simp only [List.getElem?_toArray, List.getElem?_cons_succ, List.getElem?_cons_zero]; exact rfl
        case hQq2x8 => exact fun _ _ _ h => h
        case hwq2x8 => rfl
        case hyq2x8 => ((intro w hSw; (try dsimp only at hSw); go_simp) <;> with_reducible rfl)
        try simp only [Act.put, List.setIfInBounds_toArray, List.set_cons_zero, List.set_cons_succ]
        refine wpAnyH_take (i := 8) (oi := ?oiq2x9) (v := ?vq2x9) ?hiq2x9 (by kernel_rfl) (by kernel_rfl) (by kernel_rfl) ?hQq2x9 (Or.inl ⟨?hwq2x9, ?hyq2x9⟩) (by assumption) ?restq2x9
        case hiq2x9 => simp only [List.getElem?_toArray, List.getElem?_cons_succ, List.getElem?_cons_zero]; exact rfl
        case hQq2x9 => exact fun _ _ _ h => h
        case hwq2x9 => rfl
        case hyq2x9 => ((intro w hSw; (try dsimp only at hSw); go_simp) <;> with_reducible rfl)
        try simp only [Act.put, List.setIfInBounds_toArray, List.set_cons_zero, List.set_cons_succ]
        refine wpAnyH_take (i := 9) (oi := ?oiq2x10) (v := _) ?hiq2x10 (by kernel_rfl) (by kernel_rfl) (by kernel_rfl) ?hQq2x10 (Or.inr ⟨?hwq2x10, rfl⟩) (by assumption) ?restq2x10
        case hiq2x10 => simp only [List.getElem?_toArray, List.getElem?_cons_succ, List.getElem?_cons_zero]; exact rfl
        case hQq2x10 => exact fun _ _ _ h => h
        case hwq2x10 => rfl
        try simp only [Act.put, List.setIfInBounds_toArray, List.set_cons_zero, List.set_cons_succ]
        refine wpAnyH_take (i := 10) (oi := ?oiq2x11) (v := _) ?hiq2x11 (by kernel_rfl) (by kernel_rfl) (by kernel_rfl) ?hQq2x11 (Or.inr ⟨?hwq2x11, rfl⟩) (by assumption) ?restq2x11
        case hiq2x11 => simp only [List.getElem?_toArray, List.getElem?_cons_succ, List.getElem?_cons_zero]; exact rfl
        case hQq2x11 => exact fun _ _ _ h => h
        case hwq2x11 => rfl
        try simp only [Act.put, List.setIfInBounds_toArray, List.set_cons_zero, List.set_cons_succ]
        refine wpAnyH_take (i := 11) (oi := ?oiq2x12) (v := _) ?hiq2x12 (by kernel_rfl) (by kernel_rfl) (by kernel_rfl) ?hQq2x12 (Or.inr ⟨?hwq2x12, rfl⟩) (by assumption) ?restq2x12
        case hiq2x12 => simp only [List.getElem?_toArray, List.getElem?_cons_succ, List.getElem?_cons_zero]; exact rfl
        case hQq2x12 => exact fun _ _ _ h => h
        case hwq2x12 => rfl
        try simp only [Act.put, List.setIfInBounds_toArray, List.set_cons_zero, List.set_cons_succ]
        refine wpAnyH_take (i := 12) (oi := ?oiq2x13) (v := _) ?hiq2x13 (by kernel_rfl) (by kernel_rfl) (by kernel_rfl) ?hQq2x13 (Or.inr ⟨?hwq2x13, rfl⟩) (by assumption) ?restq2x13
        case hiq2x13 => simp only [List.getElem?_toArray, List.getElem?_cons_succ, List.getElem?_cons_zero]; exact rfl
        case hQq2x13 => exact fun _ _ _ h => h
        case hwq2x13 => rfl
        try simp only [Act.put, List.setIfInBounds_toArray, List.set_cons_zero, List.set_cons_succ]
        refine wpAnyH_take (i := 13) (oi := ?oiq2x14) (v := ?vq2x14) ?hiq2x14 (by kernel_rfl) (by kernel_rfl) (by kernel_rfl) ?hQq2x14 (Or.inl ⟨?hwq2x14, ?hyq2x14⟩) (by assumption) ?restq2x14
        case hiq2x14 => simp only [List.getElem?_toArray, List.getElem?_cons_succ, List.getElem?_cons_zero]; exact rfl
        case hQq2x14 => exact fun _ _ _ h => h
        case hwq2x14 => rfl
        case hyq2x14 => ((intro w hSw; (try dsimp only at hSw); go_simp) <;> with_reducible rfl)
        try simp only [Act.put, List.setIfInBounds_toArray, List.set_cons_zero, List.set_cons_succ]
        refine wpAnyH_done (by kernel_rfl) ?_ _
        obtain ⟨hbR, -, -, -⟩ := hHeld
        have hJ9 := abides_below hJ hJk hbR
        go_wp2_with fail
        refine bodyPost_ret (results_none rfl _ _ _) rfl ?_
        exact ⟨⟨_, rfl⟩, .inl ⟨_, by rw [HL.out], hJ9⟩⟩
    · obtain rfl : n = k := by omega
      have HL := Lib.hid (lead_one n (fun k => meetB side lim (price zs k)) n (Nat.le_refl _) hmeet (.inl rfl))
      clear hmeet
      go_wp2_with fail
      go_end0
      exact ⟨⟨_, rfl⟩, .inl ⟨_, by rw [HL.out], hJk⟩⟩
/-- the iterator's contract, in the law's form -/
theorem met_stops (fo X S L n b1 b2 b3 L1 L2 : Nat) (side so lim : Int) (zs : List Int) (v : Value) (gs : Nat → Nat)
    (w : World) (hop : Opened w X S L 2 90 70 (.func (.func 79) #[] #[.pointer (some ⟨S, 0, none⟩)]) so zs n v gs) (hcp : Copies w X S L 28 zs n v gs) (hn : n ≤ 1048576)
    (hopp : side = 1 ∧ so = 2 ∨ side = 2 ∧ so = 1) (hso : so = 1 ∧ L = L1 ∨ so = 2 ∧ L = L2)
    (h1 : w.heap[b1]? = some (.cells #[.pointer (some ⟨L1, 0, none⟩), .pointer (some ⟨L2, 0, none⟩)] 62 (0, 0))) (h2 : w.heap[b2]? = some (.cells #[.int .i64 side] 2 (0, 0))) (h3 : w.heap[b3]? = some (.cells #[.int .i64 lim] 2 (0, 0))) :
    SeqStopsK Fence.wide (fo + 1) Try.prog 58 #[.pointer (some ⟨b1, 0, none⟩), .pointer (some ⟨b2, 0, none⟩), .pointer (some ⟨b3, 0, none⟩)] (fun x : Fin n => #[.pointer (some ⟨gs x.1, 0, none⟩)]) (MetKeeps b2 b3 v.ownBlock gs n)
      (fun ys => ys = firstN n (lead (fun k => meetB side lim (price zs k)) n)) (fun pre => ∃ k, k ≤ lead (fun k => meetB side lim (price zs k)) n ∧ pre = firstN n k) n w := fun l J Jx W hW hJ _ hY h0 =>
  callsIn_wide.2 (impl_met1 fo l X S L n b1 b2 b3 L1 L2 side so lim zs v gs J Jx W.heap.size hJ hY W (hop.below hW) (hcp.below hW) hn hopp hso ((hW.block b1 (heap_lt h1)).trans h1) ((hW.block b2 (heap_lt h2)).trans h2) ((hW.block b3 (heap_lt h3)).trans h3) h0)
end Go.Proofs.Ytdjmejjponlfoaa

namespace Go.Proofs.Ytdjmejjponlfoaa
open Go.RowKit Wire

end Go.Proofs.Ytdjmejjponlfoaa

namespace Go.Proofs.Ytdjmejjponlfoaa
open Go.RowKit Go.Shelf Wire

/-- the rows of some orders, one behind another -/
def rowsOf (zs : List Int) {n : Nat} : List (Fin n) → List Int
  | [] => []
  | x :: l => [num zs (x.1 * 4), num zs (x.1 * 4 + 1), num zs (x.1 * 4 + 2), num zs (x.1 * 4 + 3)] ++ rowsOf zs l
theorem rowsOf_snoc (zs : List Int) {n : Nat} (x : Fin n) : ∀ l : List (Fin n), rowsOf zs (l ++ [x]) = rowsOf zs l ++ [num zs (x.1 * 4), num zs (x.1 * 4 + 1), num zs (x.1 * 4 + 2), num zs (x.1 * 4 + 3)]
  | [] => rfl
  | y :: l => by rw [List.cons_append, rowsOf, rowsOf_snoc zs x l, rowsOf, List.append_assoc]
theorem rowsOf_first (zs : List Int) {n : Nat} (hz : zs.length = n * 4) : ∀ k, k ≤ n → rowsOf zs (firstN n k) = zs.take (k * 4)
  | 0, _ => by simp [firstN_zero, rowsOf]
  | k + 1, h => by
    rw [firstN_succ (by omega), rowsOf_snoc, rowsOf_first zs hz k (by omega)]
    have e : (k + 1) * 4 = k * 4 + 1 + 1 + 1 + 1 := by omega
    have s : ∀ j, j < zs.length → zs.take (j + 1) = zs.take j ++ [num zs j] := fun j hj => by
      rw [List.take_succ_eq_append_getElem hj]
      congr 1
      simp [num, List.getElem?_eq_getElem hj]
    rw [e, s _ (by omega), s _ (by omega), s _ (by omega), s _ (by omega)]
    simp
theorem cell_later_al {w : World} {a : Addr} {u : Value} (o : Obj) (h : w.cell? a = some u) : (w.drew.alloc o).cell? a = some u :=
  (World.cell?_alloc_some w.drew a o (by rw [show w.drew.cell? a = w.cell? a from rfl, h]; rfl)).trans h
set_option maxRecDepth 100000 in
theorem impl_met (L1 L2 : Nat) (side lim : Int) (w : World) :
    Calls Try.prog 37 #[.agg #[.pointer (some ⟨L1, 0, none⟩), .pointer (some ⟨L2, 0, none⟩)], .int .i64 side, .int .i64 lim] w fun e w' => e = .returned (.func (.func 58) #[] #[.pointer (some ⟨w.heap.size, 0, none⟩), .pointer (some ⟨w.heap.size + 1, 0, none⟩), .pointer (some ⟨w.heap.size + 2, 0, none⟩)]) ∧ w' = ((w.alloc (.cells #[.pointer (some ⟨L1, 0, none⟩), .pointer (some ⟨L2, 0, none⟩)] 62)).alloc (.cells #[.int .i64 side] 2)).alloc (.cells #[.int .i64 lim] 2) := by
  go_enter Try.func37, Try.ntmps37
  go_wp2_with fail
  go_ret
  exact ⟨by simp, rfl⟩
attribute [local go_sem] Oper.semAt_some
set_option linter.unusedSimpArgs false in
set_option maxHeartbeats 3200000 in
set_option maxRecDepth 100000 in
theorem impl_Crossing (A : Option Addr) (n c : Nat) (B : Option Addr) (m d : Nat) (za zb : List Int) (side lim : Int) (w : World) (ha : Lst w w.heap.size 4 A n za) (hb : Lst w w.heap.size 4 B m zb) (hn : n ≤ 1048576) (hm : m ≤ 1048576) :
    Calls Try.prog 21 #[.agg #[.slice A n c, .slice B m d], .int .i64 side, .int .i64 lim] w fun e w' => (∃ r, e = .returned r ∧ Crossed w' w.heap.size r (crN (bookB za n zb m) side lim za zb n m) (crZ (bookB za n zb m) side lim za zb n m)) ∧ Below w.heap.size w w' := by
  refine callsIn_wide.1 (callsIn_of_wp_marks (n := 9) Try.func21 rfl trivial (wpIn_wide.2 ?_) rfl)
  simp only [Try.ntmps21, List.size_toArray, List.length_cons, List.length_nil, Nat.reduceAdd, Nat.reduceSub, Array.replicate_succ, Array.replicate_zero, List.push_toArray, List.append_toArray, List.nil_append, List.cons_append]
  have hb0 : Below w.heap.size w (w.alloc (.cells #[.slice A n c, .slice B m d] 26)) := (Below.refl _ _).alloc (Nat.le_refl _) _
  have k0 : (w.alloc (.cells #[.slice A n c, .slice B m d] 26)).heap[w.heap.size]? = some (.cells #[.slice A n c, .slice B m d] 26 (0, 0)) := heap_alloc_new w _
  have hs0 : w.heap.size < (w.alloc (.cells #[.slice A n c, .slice B m d] 26)).heap.size := by simp
  go_wp2_with fail
  generalize (w.alloc (.cells #[.slice A n c, .slice B m d] 26)) = w0 at *
  refine (impl_BookOk A n c B m d za zb w0 ((ha.below hb0).more hb0.size) ((hb.below hb0).more hb0.size) hn hm).mono ?_
  generalize hbk : bookB za n zb m = bk
  rintro e w1 ⟨rfl, hb1⟩
  have k1 := (hb1.block w.heap.size hs0).trans k0
  have hs1 := Nat.lt_of_lt_of_le hs0 hb1.size
  have x0 := cell_of_row w1 w.heap.size 0 _ _ (0, 0) k1
  have x1 := cell_of_row w1 w.heap.size 1 _ _ (0, 0) k1
  simp at x0 x1
  have hb1 := hb0.trans (hb1.mono hb0.size)
  have HBK := Lib.hid hbk
  clear k0 hb0 hs0 hbk
  cases bk
  · go_wp2_with fail
    refine ⟨_, results_tmp rfl _ _ _, ⟨_, rfl, ?_⟩, hb1⟩
    rw [HBK.out, (cr_no rfl).1, (cr_no rfl).2]
    exact World.ownsRow_nil _ _ _ _
  go_wp2_with fail
  refine (impl_sideOk side w1).mono ?_
  rintro e w2 ⟨rfl, rfl⟩
  rcases Bool.eq_false_or_eq_true (sideOkB side) with hok | hok
  rotate_left
  · have HX := Lib.hid (show crOk true side lim = false from by unfold crOk; rw [hok]; rfl)
    rw [hok]
    clear hok
    go_wp2_with fail
    refine ⟨_, results_tmp rfl _ _ _, ⟨_, rfl, ?_⟩, hb1⟩
    rw [HBK.out, (cr_no HX.out).1, (cr_no HX.out).2]
    exact World.ownsRow_nil _ _ _ _
  have HOK := Lib.hid hok
  rw [hok]
  clear hok
  go_wp2_with fail
  refine (within_any lim 0 1000000 w1).mono ?_
  rintro e w2 ⟨rfl, rfl⟩
  rcases Bool.eq_false_or_eq_true (inB 0 lim 1000000) with hok | hok
  rotate_left
  · have HX := Lib.hid (show crOk true side lim = false from by unfold crOk; rw [hok]; simp)
    rw [hok]
    clear hok
    go_wp2_with fail
    refine ⟨_, results_tmp rfl _ _ _, ⟨_, rfl, ?_⟩, hb1⟩
    rw [HBK.out, (cr_no HX.out).1, (cr_no HX.out).2]
    exact World.ownsRow_nil _ _ _ _
  have HO := Lib.hid (show crOk true side lim = true from by unfold crOk; rw [hok, HOK.out]; rfl)
  rw [hok]
  clear hok
  have y0 := cell_of_row (w1.alloc (.cells #[.slice none 0 0] 24)) w.heap.size 0 _ _ (0, 0) ((Below.heap_alloc w1 _ w.heap.size hs1).trans k1)
  have y1 := cell_of_row (w1.alloc (.cells #[.slice none 0 0] 24)) w.heap.size 1 _ _ (0, 0) ((Below.heap_alloc w1 _ w.heap.size hs1).trans k1)
  simp at y0 y1
  go_wp2_with fail
  have hbA : Below w.heap.size w (w1.alloc (.cells #[.slice none 0 0] 24)) := hb1.alloc hb1.size _
  have bO : Boxed (w1.alloc (.cells #[.slice none 0 0] 24)) w1.heap.size 24 (.slice none 0 0) := Boxed.new w1 _ _
  refine (impl_opened A n c B m d za zb _ ((ha.below hbA).more hbA.size) ((hb.below hbA).more hbA.size) hn hm).mono ?_
  rintro e w3 ⟨X1, S1, L1, v1, gs1, X2, S2, L2, v2, gs2, rfl, ⟨hop1, hcp1⟩, ⟨hop2, hcp2⟩, hX1, hX2, hfar, hb3⟩
  have bO : Boxed w3 w1.heap.size 24 (.slice none 0 0) := (hb3.block _ bO.lt).trans bO
  have hbm : w1.heap.size < X1 := Nat.lt_of_lt_of_le (by simp) hX1
  have hb3 := hbA.trans (hb3.mono hbA.size)
  go_wp2_with fail
  refine (impl_met L1 L2 side lim w3).mono ?_
  rintro e w4 ⟨rfl, rfl⟩
  go_wp2_with fail
  obtain ⟨so, X, S, L, N, v, gs, zs, hopp, hso, hop, hcp, hN, hzs, HC, HZ, hXm⟩ : ∃ (so : Int) (X S L N : Nat) (v : Value) (gs : Nat → Nat) (zs : List Int), (side = 1 ∧ so = 2 ∨ side = 2 ∧ so = 1) ∧ (so = 1 ∧ L = L1 ∨ so = 2 ∧ L = L2) ∧ Opened w3 X S L 2 90 70 (.func (.func 79) #[] #[.pointer (some ⟨S, 0, none⟩)]) so zs N v gs ∧ Copies w3 X S L 28 zs N v gs ∧ N ≤ 1048576 ∧ zs.length = N * 4 ∧ Hid (crN true side lim za zb n m = lead (fun k => meetB side lim (price zs k)) N) ∧ Hid (crZ true side lim za zb n m = zs.take (lead (fun k => meetB side lim (price zs k)) N * 4)) ∧ w1.heap.size < X := by
    rcases side_cases side with ⟨rfl, _⟩ | ⟨rfl, _⟩ | ⟨h1, h2, hno⟩
    · exact ⟨2, X2, S2, L2, m, v2, gs2, zb, .inl ⟨rfl, rfl⟩, .inr ⟨rfl, rfl⟩, hop2, hcp2, hm, hb.1, Lib.hid (crN_1 HO.out), Lib.hid (crZ_1 HO.out), by omega⟩
    · exact ⟨1, X1, S1, L1, n, v1, gs1, za, .inr ⟨rfl, rfl⟩, .inl ⟨rfl, rfl⟩, hop1, hcp1, hn, ha.1, Lib.hid (crN_2 HO.out), Lib.hid (crZ_2 HO.out), hbm⟩
    · exact absurd HOK.out (by rw [hno]; decide)
  clear hop1 hcp1 hop2 hcp2 hfar hX1 hX2 hbm y0 y1 x0 x1
  have hbm3 := bO.lt
  obtain ⟨i0, hi, hz0, hz1, hz2⟩ := info_parts ord_info
  obtain ⟨m1, m2, m3⟩ := three_blocks w3 (.cells #[.pointer (some ⟨L1, 0, none⟩), .pointer (some ⟨L2, 0, none⟩)] 62) (.cells #[.int .i64 side] 2) (.cells #[.int .i64 lim] 2)
  have hb5 : Below w3.heap.size w3 (((w3.alloc (.cells #[.pointer (some ⟨L1, 0, none⟩), .pointer (some ⟨L2, 0, none⟩)] 62)).alloc (.cells #[.int .i64 side] 2)).alloc (.cells #[.int .i64 lim] 2)) := (((Below.refl _ _).alloc (Nat.le_refl _) _).alloc (by simp) _).alloc (by simp; omega) _
  have hsz5 : (((w3.alloc (.cells #[.pointer (some ⟨L1, 0, none⟩), .pointer (some ⟨L2, 0, none⟩)] 62)).alloc (.cells #[.int .i64 side] 2)).alloc (.cells #[.int .i64 lim] 2)).heap.size = w3.heap.size + 3 := by simp
  generalize (((w3.alloc (.cells #[.pointer (some ⟨L1, 0, none⟩), .pointer (some ⟨L2, 0, none⟩)] 62)).alloc (.cells #[.int .i64 side] 2)).alloc (.cells #[.int .i64 lim] 2)) = w5 at *
  have bO : Boxed w5 w1.heap.size 24 (.slice none 0 0) := (hb5.block _ bO.lt).trans bO
  have hop := hop.below hb5
  have hcp := hcp.below hb5
  have hb5 := ord_later hb3 hb5
  have hBm : w.heap.size ≤ w1.heap.size := hb1.size
  refine (wpIn_wide (n := 9)).1 ?_
  refine wpIn_rangeFunc_ownG rfl (by omega) (gf := 58) (lb := #[.pointer (some ⟨w3.heap.size, 0, none⟩), .pointer (some ⟨w3.heap.size + 1, 0, none⟩), .pointer (some ⟨w3.heap.size + 2, 0, none⟩)]) rfl trivial (enters_of Try.func58 (by kernel_rfl) rfl)
    (met_stops 7 X S L N _ _ _ L1 L2 side so lim zs v gs w5 hop hcp hN hopp hso m1 m2 m3) MetKeeps.trans (fun W l o o' hl h _ _ => .of_blocks (by simp) fun i hi => World.putObj_heap_other (by rcases hi with rfl | rfl | h | ⟨k, hk, rfl⟩; omega; omega; (have := (hop.own.lt _ h).2; omega); (have := (hcp k hk).2.2.2.2.lt; omega))) (Below.refl _ _) (fun _ => rfl)
    (fun pre W => (∃ u, Boxed W w1.heap.size 24 u ∧ W.ownsRow w5.heap.size 28 4 u pre.length (nums (rowsOf zs pre)) ∧ True) ∧ w5.grownBy W (some w1.heap.size))
    (fun _ _ _ => False)
    (OwnFrom.and (Own.from (holdsRow_own w5.heap.size w1.heap.size 24 28 4 (fun pre : List (Fin N) => pre.length) (fun pre => nums (rowsOf zs pre)) (fun _ _ => True)) _) (fun s P Q row hs hg hr => ⟨hg.os.trans hs.os, hg.tape.trans hs.tape, hg.output.trans hs.output, Nat.le_trans hs.size hg.size, fun k hk hne => (hg.block k (Nat.lt_of_lt_of_le hk hs.size) (fun e => by have := (hr _ e.symm).1; omega)).trans (hs.block k hk hne)⟩))
    (fun _ _ _ _ _ hs _ _ => hs)
    ⟨⟨_, bO, World.ownsRow_nil _ _ _ _, trivial⟩, World.grownBy.refl _ _⟩
    (fun x => { tmps := #[.agg #[.slice A n c, .slice B m d], .int .i64 side, .int .i64 lim, .pointer (some ⟨w.heap.size, 0, none⟩), undef, undef, .slice none 0 0, .pointer (some ⟨w1.heap.size, 0, none⟩), .pointer (some ⟨gs x.1, 0, none⟩), .agg #[.slice A n c, .slice B m d], .bool true, .bool false, .bool false, .int .i64 side, .bool true, .bool false, .bool false, .bool false, .int .i64 lim, .bool true, .bool false, .bool false, .agg #[.slice A n c, .slice B m d], .agg #[.pointer (some ⟨L1, 0, none⟩), .pointer (some ⟨L2, 0, none⟩)], .int .i64 side, .int .i64 lim, .func (.func 58) #[] #[.pointer (some ⟨w3.heap.size, 0, none⟩), .pointer (some ⟨w3.heap.size + 1, 0, none⟩), .pointer (some ⟨w3.heap.size + 2, 0, none⟩)], .pointer (some ⟨gs x.1, 0, none⟩), undef, undef, undef, undef, undef, undef, undef], defers := [] }) ?assign ?body ?done ?stop
  case assign =>
    intro l x W K hK
    gi_wp2
    exact hK
  case body =>
    rintro l pre x W ⟨⟨u, hbox, hrow, _⟩, hgr⟩ hlen
    have hBW : w5.heap.size ≤ W.heap.size := hgr.size
    have hgx := hcp x.1 x.2
    have hbg : w1.heap.size ≠ gs x.1 := fun e => by have := hgx.1; omega
    have hgl := hgx.2.2.2.2.lt
    have hgr4 := hgx.2.2.2.2.of_block (hgr.block (gs x.1) hgl (fun e => hbg (by injection e with e; exact e.symm)))
    have hgne : some (gs x.1) ≠ u.ownBlock := fun e => by have := (hrow.lt _ e.symm).1; omega
    have hne : some w1.heap.size ≠ u.ownBlock := fun e => by have := (hrow.lt _ e.symm).1; have := bO.lt; omega
    have q0 : W.cell? ⟨gs x.1, 0, none⟩ = some (.int .i64 (num zs (x.1 * 4))) := hgr4.cell (i := 0) (by omega)
    have q1 : W.cell? ⟨gs x.1, 1, none⟩ = some (.int .i64 (num zs (x.1 * 4 + 1))) := hgr4.cell (i := 1) (by omega)
    have q2 : W.cell? ⟨gs x.1, 2, none⟩ = some (.int .i64 (num zs (x.1 * 4 + 2))) := hgr4.cell (i := 2) (by omega)
    have q3 : W.cell? ⟨gs x.1, 3, none⟩ = some (.int .i64 (num zs (x.1 * 4 + 3))) := hgr4.cell (i := 3) (by omega)
    have setfar : ∀ {W' : World} {j : Nat} {z y : Value}, W'.cell? ⟨gs x.1, j, none⟩ = some z → (W'.setCell ⟨w1.heap.size, 0, none⟩ y).cell? ⟨gs x.1, j, none⟩ = some z := fun h => (World.cell?_setCell_far _ _ _ _ hbg).trans h
    clear hgr4
    gi_wp2
    refine wpIn_region_round (S := (fun w' => w'.cell? ⟨gs x.1, 0, none⟩ = some (.int .i64 (num zs (x.1 * 4))) ∧ w'.cell? ⟨gs x.1, 1, none⟩ = some (.int .i64 (num zs (x.1 * 4 + 1))) ∧ w'.cell? ⟨gs x.1, 2, none⟩ = some (.int .i64 (num zs (x.1 * 4 + 2))) ∧ w'.cell? ⟨gs x.1, 3, none⟩ = some (.int .i64 (num zs (x.1 * 4 + 3))))) (by kernel_rfl) (by kernel_rfl) (fun _ _ h => h) ?hS0 (fun hHeld => ?rest0)
    case hS0 => exact ⟨q0, q1, q2, q3⟩
    refine wpAnyH_take (i := 1) (oi := ?oic1) (v := ?vc1) ?hic1 (by kernel_rfl) (by kernel_rfl) (by kernel_rfl) ?hQc1 (Or.inl ⟨?hwc1, ?hyc1⟩) (by assumption) ?restc1
    case hic1 => simp only [List.getElem?_toArray, List.getElem?_cons_succ, List.getElem?_cons_zero]; exact rfl
    case hQc1 => exact fun _ _ _ h => h
    case hwc1 => rfl
    case hyc1 => ((intro w hSw; (try dsimp only at hSw); go_simp) <;> with_reducible rfl)
    try simp only [Act.put, List.setIfInBounds_toArray, List.set_cons_zero, List.set_cons_succ]
    refine wpAnyH_take (i := 2) (oi := ?oic2) (v := ?vc2) ?hic2 (by kernel_rfl) (by kernel_rfl) (by kernel_rfl) ?hQc2 (Or.inl ⟨?hwc2, ?hyc2⟩) (by assumption) ?restc2
    case hic2 => simp only [List.getElem?_toArray, List.getElem?_cons_succ, List.getElem?_cons_zero]; exact rfl
    case hQc2 => exact fun _ _ _ h => h
    case hwc2 => rfl
    case hyc2 => ((intro w hSw; (try dsimp only at hSw); go_simp) <;> with_reducible rfl)
    try simp only [Act.put, List.setIfInBounds_toArray, List.set_cons_zero, List.set_cons_succ]
    refine wpAnyH_take (i := 3) (oi := ?oic3) (v := ?vc3) ?hic3 (by kernel_rfl) (by kernel_rfl) (by kernel_rfl) ?hQc3 (Or.inl ⟨?hwc3, ?hyc3⟩) (by assumption) ?restc3
    case hic3 => simp only [List.getElem?_toArray, List.getElem?_cons_succ, List.getElem?_cons_zero]; exact rfl
    case hQc3 => exact fun _ _ _ h => h
    case hwc3 => rfl
    case hyc3 => ((intro w hSw; (try dsimp only at hSw); go_simp) <;> with_reducible rfl)
    try simp only [Act.put, List.setIfInBounds_toArray, List.set_cons_zero, List.set_cons_succ]
    refine wpAnyH_ready (rs := [0, 4]) (by kernel_rfl) (by simp) ?_
    refine AllReadyH.cons (o := ?oc4) ?hoc4 (fun K hK => ?stepc4) ?morec4
    case hoc4 => simp only [List.getElem?_toArray, List.getElem?_cons_succ, List.getElem?_cons_zero]; exact rfl
    case stepc4 =>
      have hcx : W.drew.cell? ⟨w1.heap.size, 0, none⟩ = some u := hbox.cell
      go_simp
      refine hK.out _ _ ?hSc4 (fun hHeld => ?restc4)
      case hSc4 => exact hHeld
      clear hK K
      try simp only [Act.put, List.setIfInBounds_toArray, List.set_cons_zero, List.set_cons_succ]
      refine wpAnyH_ready (rs := [4]) (by kernel_rfl) (by simp) ?_
      refine AllReadyH.cons (o := ?oc5) ?hoc5 (fun K hK => ?stepc5) ?morec5
      case hoc5 => simp only [List.getElem?_toArray, List.getElem?_cons_succ, List.getElem?_cons_zero]; exact rfl
      case morec5 => exact AllReadyH.nil
      go_simp
      refine hK.out _ _ ?hSc5 (fun hHeld => ?restc5)
      case hSc5 => exact ⟨(cell_later_al _ q0), (cell_later_al _ q1), (cell_later_al _ q2), (cell_later_al _ q3)⟩
      clear hK K
      try simp only [Act.put, List.setIfInBounds_toArray, List.set_cons_zero, List.set_cons_succ]
      refine wpAnyH_ready (rs := [5]) (by kernel_rfl) (by simp) ?_
      refine AllReadyH.cons (o := ?oc6) ?hoc6 (fun K hK => ?stepc6) ?morec6
      case hoc6 => simp only [List.getElem?_toArray, List.getElem?_cons_succ, List.getElem?_cons_zero]; exact rfl
      case morec6 => exact AllReadyH.nil
      (refine step_append_own _ rfl _ _ 24 rfl w5.heap.size 28 i0 _ 4 32 Try.underlying24 hi hz0 hz1 hz2 rfl (by decide) _ _ _ rfl (show (W.drew.alloc (.cells #[.int .i64 (num zs (x.1 * 4)), .int .i64 (num zs (x.1 * 4 + 1)), .int .i64 (num zs (x.1 * 4 + 2)), .int .i64 (num zs (x.1 * 4 + 3))] 28)).ownsRow w5.heap.size 28 4 u _ _ from (show W.drew.ownsRow w5.heap.size 28 4 u _ _ from hrow).alloc _) ⟨W.heap.size, 0, none⟩ 1 1 [.int .i64 (num zs (x.1 * 4)), .int .i64 (num zs (x.1 * 4 + 1)), .int .i64 (num zs (x.1 * 4 + 2)), .int .i64 (num zs (x.1 * 4 + 3))] rfl rfl (World.news_of_block (heap_alloc_new W.drew _)) (by intro u hu; simp at hu; rcases hu with rfl | rfl | rfl | rfl <;> rfl) (by unfold maxLen; omega) (by omega) (by have := hBW; simp; omega) ?_; intro v' u2 hown2 hgrow2 _)
      have gcell : ∀ {j : Nat} {z : Value}, W.cell? ⟨gs x.1, j, none⟩ = some z → u2.cell? ⟨gs x.1, j, none⟩ = some z := fun h => hgrow2.cell (cell_later_al _ h) hgne
      obtain ⟨A3, d3, rfl, _, _⟩ := own_slice hown2
      have hbx : Boxed u2 w1.heap.size 24 u := (show Boxed (W.drew.alloc (.cells #[.int .i64 (num zs (x.1 * 4)), .int .i64 (num zs (x.1 * 4 + 1)), .int .i64 (num zs (x.1 * 4 + 2)), .int .i64 (num zs (x.1 * 4 + 3))] 28)) w1.heap.size _ u from (show Boxed W.drew w1.heap.size _ u from hbox).alloc _).kept hgrow2 hne
      refine hK.out _ _ ?hSc6 (fun hHeld => ?restc6)
      case hSc6 => exact ⟨gcell q0, gcell q1, gcell q2, gcell q3⟩
      clear hK K
      try simp only [Act.put, List.setIfInBounds_toArray, List.set_cons_zero, List.set_cons_succ]
      refine wpAnyH_ready (rs := [6]) (by kernel_rfl) (by simp) ?_
      refine AllReadyH.cons (o := ?oc7) ?hoc7 (fun K hK => ?stepc7) ?morec7
      case hoc7 => simp only [List.getElem?_toArray, List.getElem?_cons_succ, List.getElem?_cons_zero]; exact rfl
      case morec7 => exact AllReadyH.nil
      have hc3 := hbx.cell
      have hf3 := hbx.frozen
      go_simp
      refine hK.out _ _ ?hSc7 (fun hHeld => ?restc7)
      case hSc7 => exact ⟨setfar hHeld.1, setfar hHeld.2.1, setfar hHeld.2.2.1, setfar hHeld.2.2.2⟩
      clear hK K
      try simp only [Act.put, List.setIfInBounds_toArray, List.set_cons_zero, List.set_cons_succ]
      refine wpAnyH_done (by kernel_rfl) ?_ _
      have hr2 := hown2.kept (set_grown u2 w1.heap.size 0 (.slice A3 (pre.length + 1) d3)) (.inr (fun e => by have := (hown2.lt _ e).1; have := bO.lt; omega))
      have hsz2 : W.heap.size ≤ (u2.setCell ⟨w1.heap.size, 0, none⟩ (.slice A3 (pre.length + 1) d3)).heap.size := by have := hgrow2.size; simp [World.setCell] at this ⊢; omega
      obtain ⟨_, hv2, _, hk2, _⟩ := (show Boxed W.drew w1.heap.size 24 u from hbox).appended (n₀ := w.heap.size) (by decide) (own_mono (show W.drew.ownsRow w5.heap.size 28 4 u _ _ from hrow) hb5.size) (Nat.le_trans hb5.size hBW) hBm (own_mono hown2 hb5.size) hgrow2
      have hblk : ∀ i, i < w5.heap.size → i ≠ w1.heap.size → (u2.setCell ⟨w1.heap.size, 0, none⟩ (.slice A3 (pre.length + 1) d3)).heap[i]? = W.heap[i]? := fun i hi hne2 => (Below.heap_setCell u2 ⟨w1.heap.size, 0, none⟩ _ i (fun e => hne2 e)).trans ((hgrow2.block i (by simp; omega) (fun e => by have := (hrow.lt i e.symm).1; omega)).trans (Below.heap_alloc W.drew _ i (Nat.lt_of_lt_of_le hi hBW)))
      gi_wp2
      refine ⟨⟨hk2.size, fun k o _ hk ho => hk2.same k o hk ho⟩, .of_blocks hsz2 (fun i hi => ?_), ⟨⟨_, hv2, ?_, trivial⟩, ⟨hgrow2.os.trans hgr.os, hgrow2.tape.trans hgr.tape, hgrow2.output.trans hgr.output, Nat.le_trans hBW hsz2, fun k hk hne2 => (hblk k hk (fun e => hne2 (by rw [e]))).trans (hgr.block k hk hne2)⟩⟩⟩
      · rcases hi with rfl | rfl | h | ⟨k, hk, rfl⟩
        · exact hblk _ (by omega) (by omega)
        · exact hblk _ (by omega) (by omega)
        · exact hblk _ (hop.own.lt _ h).2 (fun e => by have := (hop.own.lt _ h).1; omega)
        · exact hblk _ (hcp k hk).2.2.2.2.lt (fun e => by have := (hcp k hk).1; omega)
      · rw [rowsOf_snoc, nums_append, List.length_append]
        exact hr2
    refine AllReadyH.cons (o := ?oc8) ?hoc8 (fun K hK => ?stepc8) ?morec8
    case hoc8 => simp only [List.getElem?_toArray, List.getElem?_cons_succ, List.getElem?_cons_zero]; exact rfl
    case morec8 => exact AllReadyH.nil
    go_simp
    refine hK.out _ _ ?hSc8 (fun hHeld => ?restc8)
    case hSc8 => exact ⟨(cell_later_al _ q0), (cell_later_al _ q1), (cell_later_al _ q2), (cell_later_al _ q3)⟩
    clear hK K
    try simp only [Act.put, List.setIfInBounds_toArray, List.set_cons_zero, List.set_cons_succ]
    refine wpAnyH_ready (rs := [0]) (by kernel_rfl) (by simp) ?_
    refine AllReadyH.cons (o := ?oc9) ?hoc9 (fun K hK => ?stepc9) ?morec9
    case hoc9 => simp only [List.getElem?_toArray, List.getElem?_cons_succ, List.getElem?_cons_zero]; exact rfl
    case morec9 => exact AllReadyH.nil
    have hcx := (show Boxed (W.drew.alloc (.cells #[.int .i64 (num zs (x.1 * 4)), .int .i64 (num zs (x.1 * 4 + 1)), .int .i64 (num zs (x.1 * 4 + 2)), .int .i64 (num zs (x.1 * 4 + 3))] 28)) w1.heap.size _ u from (show Boxed W.drew w1.heap.size _ u from hbox).alloc _).cell
    have hcx0 := hbox.cell
    have hcx1 := (hbox.alloc (.cells #[.int .i64 (num zs (x.1 * 4)), .int .i64 (num zs (x.1 * 4 + 1)), .int .i64 (num zs (x.1 * 4 + 2)), .int .i64 (num zs (x.1 * 4 + 3))] 28)).cell
    go_simp
    refine hK.out _ _ ?hSc9 (fun hHeld => ?restc9)
    case hSc9 => exact hHeld
    clear hK K
    try simp only [Act.put, List.setIfInBounds_toArray, List.set_cons_zero, List.set_cons_succ]
    refine wpAnyH_ready (rs := [5]) (by kernel_rfl) (by simp) ?_
    refine AllReadyH.cons (o := ?oc10) ?hoc10 (fun K hK => ?stepc10) ?morec10
    case hoc10 => simp only [List.getElem?_toArray, List.getElem?_cons_succ, List.getElem?_cons_zero]; exact rfl
    case morec10 => exact AllReadyH.nil
    (refine step_append_own _ rfl _ _ 24 rfl w5.heap.size 28 i0 _ 4 32 Try.underlying24 hi hz0 hz1 hz2 rfl (by decide) _ _ _ rfl (show (W.drew.alloc (.cells #[.int .i64 (num zs (x.1 * 4)), .int .i64 (num zs (x.1 * 4 + 1)), .int .i64 (num zs (x.1 * 4 + 2)), .int .i64 (num zs (x.1 * 4 + 3))] 28)).ownsRow w5.heap.size 28 4 u _ _ from (show W.drew.ownsRow w5.heap.size 28 4 u _ _ from hrow).alloc _) ⟨W.heap.size, 0, none⟩ 1 1 [.int .i64 (num zs (x.1 * 4)), .int .i64 (num zs (x.1 * 4 + 1)), .int .i64 (num zs (x.1 * 4 + 2)), .int .i64 (num zs (x.1 * 4 + 3))] rfl rfl (World.news_of_block (heap_alloc_new W.drew _)) (by intro u hu; simp at hu; rcases hu with rfl | rfl | rfl | rfl <;> rfl) (by unfold maxLen; omega) (by omega) (by have := hBW; simp; omega) ?_; intro v' u2 hown2 hgrow2 _)
    have gcell : ∀ {j : Nat} {z : Value}, W.cell? ⟨gs x.1, j, none⟩ = some z → u2.cell? ⟨gs x.1, j, none⟩ = some z := fun h => hgrow2.cell (cell_later_al _ h) hgne
    obtain ⟨A3, d3, rfl, _, _⟩ := own_slice hown2
    have hbx : Boxed u2 w1.heap.size 24 u := (show Boxed (W.drew.alloc (.cells #[.int .i64 (num zs (x.1 * 4)), .int .i64 (num zs (x.1 * 4 + 1)), .int .i64 (num zs (x.1 * 4 + 2)), .int .i64 (num zs (x.1 * 4 + 3))] 28)) w1.heap.size _ u from (show Boxed W.drew w1.heap.size _ u from hbox).alloc _).kept hgrow2 hne
    refine hK.out _ _ ?hSc10 (fun hHeld => ?restc10)
    case hSc10 => exact ⟨gcell q0, gcell q1, gcell q2, gcell q3⟩
    clear hK K
    try simp only [Act.put, List.setIfInBounds_toArray, List.set_cons_zero, List.set_cons_succ]
    refine wpAnyH_ready (rs := [6]) (by kernel_rfl) (by simp) ?_
    refine AllReadyH.cons (o := ?oc11) ?hoc11 (fun K hK => ?stepc11) ?morec11
    case hoc11 => simp only [List.getElem?_toArray, List.getElem?_cons_succ, List.getElem?_cons_zero]; exact rfl
    case morec11 => exact AllReadyH.nil
    have hc3 := hbx.cell
    have hf3 := hbx.frozen
    go_simp
    refine hK.out _ _ ?hSc11 (fun hHeld => ?restc11)
    case hSc11 => exact ⟨setfar hHeld.1, setfar hHeld.2.1, setfar hHeld.2.2.1, setfar hHeld.2.2.2⟩
    clear hK K
    try simp only [Act.put, List.setIfInBounds_toArray, List.set_cons_zero, List.set_cons_succ]
    refine wpAnyH_done (by kernel_rfl) ?_ _
    have hr2 := hown2.kept (set_grown u2 w1.heap.size 0 (.slice A3 (pre.length + 1) d3)) (.inr (fun e => by have := (hown2.lt _ e).1; have := bO.lt; omega))
    have hsz2 : W.heap.size ≤ (u2.setCell ⟨w1.heap.size, 0, none⟩ (.slice A3 (pre.length + 1) d3)).heap.size := by have := hgrow2.size; simp [World.setCell] at this ⊢; omega
    obtain ⟨_, hv2, _, hk2, _⟩ := (show Boxed W.drew w1.heap.size 24 u from hbox).appended (n₀ := w.heap.size) (by decide) (own_mono (show W.drew.ownsRow w5.heap.size 28 4 u _ _ from hrow) hb5.size) (Nat.le_trans hb5.size hBW) hBm (own_mono hown2 hb5.size) hgrow2
    have hblk : ∀ i, i < w5.heap.size → i ≠ w1.heap.size → (u2.setCell ⟨w1.heap.size, 0, none⟩ (.slice A3 (pre.length + 1) d3)).heap[i]? = W.heap[i]? := fun i hi hne2 => (Below.heap_setCell u2 ⟨w1.heap.size, 0, none⟩ _ i (fun e => hne2 e)).trans ((hgrow2.block i (by simp; omega) (fun e => by have := (hrow.lt i e.symm).1; omega)).trans (Below.heap_alloc W.drew _ i (Nat.lt_of_lt_of_le hi hBW)))
    gi_wp2
    refine ⟨⟨hk2.size, fun k o _ hk ho => hk2.same k o hk ho⟩, .of_blocks hsz2 (fun i hi => ?_), ⟨⟨_, hv2, ?_, trivial⟩, ⟨hgrow2.os.trans hgr.os, hgrow2.tape.trans hgr.tape, hgrow2.output.trans hgr.output, Nat.le_trans hBW hsz2, fun k hk hne2 => (hblk k hk (fun e => hne2 (by rw [e]))).trans (hgr.block k hk hne2)⟩⟩⟩
    · rcases hi with rfl | rfl | h | ⟨k, hk, rfl⟩
      · exact hblk _ (by omega) (by omega)
      · exact hblk _ (by omega) (by omega)
      · exact hblk _ (hop.own.lt _ h).2 (fun e => by have := (hop.own.lt _ h).1; omega)
      · exact hblk _ (hcp k hk).2.2.2.2.lt (fun e => by have := (hcp k hk).1; omega)
    · rw [rowsOf_snoc, nums_append, List.length_append]
      exact hr2
  case done =>
    rintro D ys W hD rfl ⟨⟨u, hbox, hrow, _⟩, hgr⟩ hK
    have hcx := hbox.cell
    go_wp2_with fail
    refine ⟨by simp, .inl ⟨_, _, rfl, run_takeDeferred hK, ?_⟩⟩
    refine ⟨_, results_tmp rfl _ _ _, ⟨_, rfl, ?_⟩, (hb5.grown hgr hb5.size (fun q e => by cases e; exact hBm)).trans (belowK_b (n₀ := w.heap.size) (w := w5) hb5.size W D _ _ hD hK rfl rfl)⟩
    have hle : lead (fun k => meetB side lim (price zs k)) N ≤ N := lead_le _ _
    rw [HBK.out, HC.out, HZ.out, ← rowsOf_first zs hzs _ hle]
    have h2 := ownsRow_putObj (own_mono hrow hb5.size) (.deferred none) hK rfl
    rw [firstN_length hle] at h2
    exact h2
  case stop =>
    rintro D c pre W _ _ h _
    exact h.elim
end Go.Proofs.Ytdjmejjponlfoaa

namespace Go.Proofs.Ytdjmejjponlfoaa
open Go.RowKit Wire

set_option linter.unusedSimpArgs false in
set_option maxHeartbeats 1600000 in
set_option maxRecDepth 100000 in
theorem impl_hasOrder (A : Option Addr) (n c : Nat) (B : Option Addr) (m d : Nat) (za zb : List Int) (id : Int) (w : World) (ha : Lst w w.heap.size 4 A n za) (hb : Lst w w.heap.size 4 B m zb) (hn : n ≤ 1048576) (hm : m ≤ 1048576) :
    Calls Try.prog 35 #[.agg #[.slice A n c, .slice B m d], .int .i64 id] w fun e w' => (∃ s f ok, FindRel (bookB za n zb m) za n zb m id s f ok ∧ e = .returned (.bool ok)) ∧ Below w.heap.size w w' := by
  have hb0 : Below w.heap.size w (w.alloc (.cells #[.slice A n c, .slice B m d] 26)) := (Below.refl _ _).alloc (Nat.le_refl _) _
  go_enter Try.func35, Try.ntmps35
  go_wp2_with fail
  refine (impl_Find A n c B m d za zb id _ (ha.later hb0) (hb.later hb0) hn hm).mono ?_
  rintro e w1 ⟨⟨s, f, ok, hrel, rfl⟩, hb1⟩
  have HR := Lib.hid hrel
  have HB := Lib.hid (ord_later hb0 hb1)
  clear hrel hb0 hb1
  generalize f 0 = f0 at *
  generalize f 1 = f1 at *
  generalize f 2 = f2 at *
  generalize f 3 = f3 at *
  go_wp2_with fail
  go_ret
  exact ⟨⟨s, f, ok, HR.out, rfl⟩, HB.out.alloc HB.out.size _⟩
end Go.Proofs.Ytdjmejjponlfoaa
