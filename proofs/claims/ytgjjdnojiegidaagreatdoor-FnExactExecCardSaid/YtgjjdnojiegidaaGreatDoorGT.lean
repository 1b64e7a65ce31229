/-
 Round, Met, Taken, CrossI, TakenI.
-/
import Derived.Test.YtgjjdnojiegidaaGreatDoorTak
import Derived.Test.YtgjjdnojiegidaaGreatDoorKit
import Derived.RangeFuncNested
import Derived.RangeFuncBound
import Derived.RangeFuncCalls
import Derived.RangeFuncLeaves
import Derived.RangeFuncBox
import Derived.Shelf.Abstract
import Derived.OwnWalkIn
import Derived.TacticsInMore
import Derived.LoopNIn
import Derived.LoopIn
import Derived.Deep.RegionHeld
import Derived.Test.YtgjjdnojiegidaaGreatDoorHC
import Derived.Test.YtgjjdnojiegidaaGreatDoorHD
import Derived.Test.YtgjjdnojiegidaaGreatDoorGH
namespace Go.Proofs.YtgjjdnojiegidaaGreatDoor
open Go.RowKit Go.Shelf
set_option maxHeartbeats 3200000
set_option maxRecDepth 100000
set_option linter.unusedSimpArgs false

section
variable {P : Program} {ops : Array Oper} {Q : Exit → Act → World → Prop} {md : Region.Mode}
def noDefer (ops : Array Oper) : Bool := ops.all fun o => match o.op with | .defer _ => false | _ => true
theorem noDefer_spec {i : Nat} {o : Oper} (h : noDefer ops = true) (hi : ops[i]? = some o) : ∀ c, o.op ≠ .defer c := by
 intro c hc
 obtain ⟨hl, he⟩ := Array.getElem?_eq_some_iff.1 hi
 have := (Array.all_eq_true (p := fun o : Oper => match o.op with | .defer _ => false | _ => true)).1 h i hl
 rw [he] at this
 simp [hc] at this
theorem rowsIn_round {n : Nat} {l : Nat} {row : String} {args : Array Value} {w : World} {R : Value → World → Prop} (h : Rows P row args w R) : RowsIn (Fence.wide.inRound l) n P row args w R := by
 intro c cs _
 obtain ⟨v, w', r, s⟩ := h c cs
 exact ⟨v, w', r, stepsIn_wide.2 s⟩
theorem wpOpIn_of_wpOp {n l i : Nat} {K K' : Act → World → Prop} (hd : noDefer ops = true) (hQ : ∀ a w, ¬ Q .outgrown a w) (hK : ∀ a w, K a w → K' a w) {a : Act} {w : World}
 (h : wpOp P ops Q i K a w) : wpOpIn (Fence.wide.inRound l) n P ops Q i K' a w := by
 unfold wpOp at h
 unfold wpOpIn
 cases ho : ops[i]? with
 | none => simp only [ho] at h ⊢; exact hK _ _ h
 | some o =>
  simp only [ho] at h ⊢
  split
  · rename_i hw
    simp only [hw, if_true] at h
    rcases h with h | ⟨_, a0, w0, h⟩
    · refine ⟨fun f _ => trivial, ?_⟩
      have hs : Oper.semAt (Fence.wide.inRound l).round a.eval o = execOp a.eval o := Oper.semAt_some l _ _ (noDefer_spec hd ho)
      rw [hs]
      unfold Oper.wp at h
      generalize (execOp a.eval o).run P w = r at *
      cases r with
      | ok x w' =>
       cases x <;> simp only [Oper.upon, Oper.uponIn] at h ⊢
       case value v => exact hK _ _ h
       case skip => exact hK _ _ h
       case defer d => exact hK _ _ h
       case enter f args => exact ⟨fun hd => by simp [Fence.wide] at hd, CallsIn.inRound l (callsIn_wide.2 (Calls.mono h fun e w'' he => by cases e <;> first | exact hK _ _ he | exact he))⟩
       case row row args => exact ⟨fun hd => by simp [Fence.wide] at hd, rowsIn_round (Rows.mono h fun v w'' he => hK _ _ he)⟩
      | halt x w' => cases x <;> simp only [Oper.upon, Oper.uponIn] at h ⊢ <;> exact h
    · exact absurd h (hQ _ _)
  · rename_i hw
    simp only [hw] at h
    exact ⟨fun f _ => trivial, hK _ _ h⟩
theorem wpAnyIn_of_wpAny {n l : Nat} (hd : noDefer ops = true) (hQ : ∀ a w, ¬ Q .outgrown a w) : ∀ (fuel : Nat) (listed : Array Bool) (a : Act) (w : World), wpAny P md ops Q fuel listed a w → wpAnyIn (Fence.wide.inRound l) n P md ops Q fuel listed a w
 | 0, _, _, _, h => h
 | fuel + 1, _, _, _, h => ⟨h.1, fun i hi => wpOpIn_of_wpOp hd hQ (fun a w => wpAnyIn_of_wpAny hd hQ fuel _ a w) (h.2 i hi)⟩
theorem wpIn_region_round {S : World → Prop} {id n l : Nat} {a : Act} {w : World} (hm : P.follows .mixedOrders = true) (hd : noDefer ops = true) (hQ : ∀ a w, ¬ Q .outgrown a w) (hS : S w.drew)
 (h : S w.drew → wpAnyH P .any ops Q S ops.size (Array.replicate ops.size false) a w.drew) : (Code.region id ops true).wpIn (Fence.wide.inRound l) n P Q a w :=
 wpIn_region_any hm (wpAnyIn_of_wpAny hd hQ _ _ _ _ (wpAny_of_held _ _ _ _ (h hS)))
end
end Go.Proofs.YtgjjdnojiegidaaGreatDoor

namespace Go.Proofs.YtgjjdnojiegidaaGreatDoor
open Go.RowKit Go.Shelf Wire
set_option maxHeartbeats 3200000
set_option maxRecDepth 100000
set_option linter.unusedSimpArgs false

structure MetKeeps (b2 b3 : Nat) (r : Option Nat) (gs : Nat → Nat) (n : Nat) (w w' : World) : Prop where
 size : w.heap.size ≤ w'.heap.size
 block : ∀ b, b = b2 ∨ b = b3 ∨ r = some b → w'.heap[b]? = w.heap[b]?
 cell : ∀ k, k < n → ∀ j, j < 3 → w'.cell? ⟨gs k, j, none⟩ = w.cell? ⟨gs k, j, none⟩
theorem MetKeeps.refl (b2 b3 : Nat) (r : Option Nat) (gs : Nat → Nat) (n : Nat) (w : World) : MetKeeps b2 b3 r gs n w w := ⟨Nat.le_refl _, fun _ _ => rfl, fun _ _ _ _ => rfl⟩
theorem MetKeeps.trans {b2 b3 : Nat} {r : Option Nat} {gs : Nat → Nat} {n : Nat} {a b c : World} (h : MetKeeps b2 b3 r gs n a b) (k : MetKeeps b2 b3 r gs n b c) : MetKeeps b2 b3 r gs n a c :=
 ⟨Nat.le_trans h.size k.size, fun i hi => (k.block i hi).trans (h.block i hi), fun i hi j hj => (k.cell i hi j hj).trans (h.cell i hi j hj)⟩
theorem MetKeeps.of_blocks {b2 b3 : Nat} {r : Option Nat} {gs : Nat → Nat} {n : Nat} {a b : World} (hs : a.heap.size ≤ b.heap.size) (h : ∀ i, i = b2 ∨ i = b3 ∨ r = some i ∨ (∃ k, k < n ∧ gs k = i) → b.heap[i]? = a.heap[i]?) : MetKeeps b2 b3 r gs n a b :=
 ⟨hs, fun i hi => h i (by rcases hi with h | h | h <;> simp [h]), fun k hk j _ => World.cell?_of_block (a := ⟨gs k, j, none⟩) (h (gs k) (.inr (.inr (.inr ⟨k, hk, rfl⟩))))⟩
theorem MetKeeps.of_below {b2 b3 : Nat} {r : Option Nat} {gs : Nat → Nat} {n B : Nat} {a b : World} (h : Below B a b) (h2 : b2 < B) (h3 : b3 < B) (hr : ∀ q, r = some q → q < B) (hg : ∀ k, k < n → gs k < B) : MetKeeps b2 b3 r gs n a b :=
 .of_blocks h.size fun i hi => h.block i (by rcases hi with rfl | rfl | h | ⟨k, hk, rfl⟩; exact h2; exact h3; exact hr _ h; exact hg k hk)
theorem MetKeeps.drew {b2 b3 : Nat} {r : Option Nat} {gs : Nat → Nat} {n : Nat} {a b : World} (h : MetKeeps b2 b3 r gs n a b) : MetKeeps b2 b3 r gs n a b.drew := ⟨h.size, h.block, h.cell⟩
theorem abides_drew {β : Type} {B : Nat} {J : β → World → Prop} (h : AbidesFrom B J) {s : β} {w : World} (hs : J s w) : J s w.drew :=
 h s w w.drew none hs ⟨rfl, rfl, rfl, Nat.le_refl _, fun _ _ _ => rfl⟩ (fun r e => by cases e)
theorem abides_below {β : Type} {B : Nat} {J : β → World → Prop} (h : AbidesFrom B J) {s : β} {w w' : World} (hs : J s w) (hb : Below w.heap.size w w') : J s w' :=
 h s w w' none hs ⟨hb.os, hb.tape, hb.output, hb.size, fun k hk _ => hb.block k hk⟩ (fun r e => by cases e)
def firstN (n k : Nat) : List (Fin n) := (List.finRange n).take k
theorem firstN_zero (n : Nat) : firstN n 0 = [] := rfl
theorem firstN_succ {n k : Nat} (h : k < n) : firstN n (k + 1) = firstN n k ++ [⟨k, h⟩] := by
 unfold firstN
 rw [List.take_succ_eq_append_getElem (by simpa using h)]
 simp
theorem firstN_length {n k : Nat} (h : k ≤ n) : (firstN n k).length = k := by simp [firstN, h]
theorem impl_opp (side so : Int) (w : World) (h : side = 1 ∧ so = 2 ∨ side = 2 ∧ so = 1) :
 Calls Tryz.prog 117 #[.int .i64 side] w fun e w' => e = .returned (.int .i64 so) ∧ w = w' := by
 rcases h with ⟨rfl, rfl⟩ | ⟨rfl, rfl⟩
 · exact impl_opposite1 w
 · exact impl_opposite2 w
theorem impl_sideAt (L1 L2 L : Nat) (so : Int) (w : World) (h : so = 1 ∧ L = L1 ∨ so = 2 ∧ L = L2) :
 Calls Tryz.prog 103 #[.agg #[.pointer (some ⟨L1, 0, none⟩), .pointer (some ⟨L2, 0, none⟩)], .int .i64 so] w fun e w' => e = .returned (.pointer (some ⟨L, 0, none⟩)) ∧ Below w.heap.size w w' := by
 rcases h with ⟨rfl, rfl⟩ | ⟨rfl, rfl⟩
 · exact (impl_side ⟨L, 0, none⟩ ⟨L2, 0, none⟩ 1 w).mono fun e w' ⟨he, hb⟩ => ⟨by rw [he, if_pos rfl], hb⟩
 · exact (impl_side ⟨L1, 0, none⟩ ⟨L, 0, none⟩ 2 w).mono fun e w' ⟨he, hb⟩ => ⟨by rw [he, if_neg (by decide)], hb⟩
theorem lead_le (f : Nat → Bool) (n : Nat) : lead f n ≤ n := by
 induction n generalizing f with
 | zero => simp [lead]
 | succ n ih =>
  rw [lead]
  split
  · have := ih (fun j => f (j + 1)); omega
  · omega
theorem lead_pre : ∀ (n : Nat) (f : Nat → Bool) (k : Nat), k ≤ n → (∀ j, j < k → f j = true) → k ≤ lead f n
 | _, _, 0, _, _ => Nat.zero_le _
 | n + 1, f, k + 1, hk, h => by
  rw [lead, if_pos (h 0 (by omega))]
  have := lead_pre n (fun j => f (j + 1)) k (by omega) (fun j hj => h (j + 1) (by omega))
  omega
attribute [local go_sem] Oper.semAt_some
theorem impl_met1 (fo l X S L n b1 b2 b3 L1 L2 : Nat) (side so lim : Int) (zs : List Int) (v : Value) (gs : Nat → Nat) (J Jx : List (Fin n) → World → Prop)
 (B₀ : Nat) (hJ : AbidesFrom B₀ J)
 (hY : ∀ pre (x : Fin n) W, J pre W → pre.length < n → YieldAt Fence.wide fo Tryz.prog l #[.pointer (some ⟨gs x.1, 0, none⟩)] W fun e W' =>
  (e = .returned (.bool true) ∧ J (pre ++ [x]) W' ∧ MetKeeps b2 b3 v.ownBlock gs n W W') ∨ (e = .returned (.bool false) ∧ Jx (pre ++ [x]) W'))
 (W : World) (hop : Opened W X S L 2 106 101 (.func (.func 77) #[] #[.pointer (some ⟨S, 0, none⟩)]) so zs n v gs) (hcp : Copies W X S L 65 zs n v gs) (hn : n ≤ 1048576)
 (hopp : side = 1 ∧ so = 2 ∨ side = 2 ∧ so = 1) (hso : so = 1 ∧ L = L1 ∨ so = 2 ∧ L = L2)
 (h1 : W.heap[b1]? = some (.cells #[.pointer (some ⟨L1, 0, none⟩), .pointer (some ⟨L2, 0, none⟩)] 55 (0, 0))) (h2 : W.heap[b2]? = some (.cells #[.int .i64 side] 2 (0, 0))) (h3 : W.heap[b3]? = some (.cells #[.int .i64 lim] 2 (0, 0)))
 (h0 : J [] W) :
 Calls Tryz.prog 116 #[.func (.yield l) #[] #[], .pointer (some ⟨b1, 0, none⟩), .pointer (some ⟨b2, 0, none⟩), .pointer (some ⟨b3, 0, none⟩)] W fun e W' => (∃ u, e = .returned u) ∧
  ((∃ ys, ys = firstN n (lead (fun k => meetB side lim (price zs k)) n) ∧ J ys W') ∨ (∃ pre, (∃ k, k ≤ lead (fun k => meetB side lim (price zs k)) n ∧ pre = firstN n k) ∧ Jx pre W')) := by
 obtain ⟨A1, d1, rfl, hnd, hdm⟩ := oSl hop.own
 have c1 := cell_of_row W b1 0 _ _ (0, 0) h1
 have c2 := cell_of_row W b1 1 _ _ (0, 0) h1
 have c3 := cell_of_row W b2 0 _ _ (0, 0) h2
 have c4 := cell_of_row W b3 0 _ _ (0, 0) h3
 have c5 := cell_of_row W L 0 _ _ (0, 0) hop.list
 simp at c1 c2 c3 c4 c5
 go_enter Tryz.func116, Tryz.ntmps116
 go_upto_region 0 with fail
 refine wp_region_held_drew (S := (fun w' => Below W.heap.size W w' ∧ w'.cell? ⟨b1, 0, none⟩ = some (.pointer (some ⟨L1, 0, none⟩)) ∧ w'.cell? ⟨b1, 1, none⟩ = some (.pointer (some ⟨L2, 0, none⟩)) ∧ w'.cell? ⟨b2, 0, none⟩ = some (.int .i64 side) ∧ w'.cell? ⟨L, 0, none⟩ = some (.slice A1 n d1))) (by kernel_rfl) ?hSq1xs (fun zH => ?restq1xs)
 case hSq1xs => (exact kp2)
 refine tkV 0 ?_
 refine tkV 1 ?_
 refine tkV 8 ?_
 refine rd1 2 (fun K hK => ?_)
 go_simp
 (go_at_call 117; refine (impl_opp side so _ hopp).mono ?_; rintro e u2 ⟨rfl, rfl⟩)
 refine hK.out _ _ ?hSq1x4 (fun zH => ?restq1x4)
 case hSq1x4 => (exact kp2)
 clear hK K
 try simp only [Act.put, sA, sB, sC]
 refine rd1 3 (fun K hK => ?_)
 go_simp
 (go_at_call 103; refine (impl_sideAt L1 L2 L so _ hso).mono ?_; rintro e u3 ⟨rfl, hb3'⟩)
 refine hK.out _ _ ?hSq1x5 (fun zH => ?restq1x5)
 case hSq1x5 => (exact kp2)
 clear hK K
 try simp only [Act.put, sA, sB, sC]
 refine tkV 4 ?_
 refine tkV 5 ?_
 refine tkV 6 ?_
 refine tkV 7 ?_
 refine dn1 ?_
 obtain ⟨hbA, -, -, -, -⟩ := zH
 have hJ0 : J [] u3 := abides_below hJ h0 hbA
 have M0 : MetKeeps b2 b3 (Value.slice A1 n d1).ownBlock gs n W u3 := .of_below hbA (hlT h2) (hlT h3) (fun q hq => (hop.own.lt q hq).2) (fun k hk => (hcp k hk).2.2.2.2.lt)
 have hle : lead (fun k => meetB side lim (price zs k)) n ≤ n := lead_le _ _
 clear hb3' hbA c1 c2 c3 c4 c5 zH
 go_wp2_with fail
 go_loopw [15] (fun i wr => ∃ k : Nat, k ≤ n ∧ i = .int .i64 (k : Int) ∧ (∀ j, j < k → meetB side lim (price zs j) = true) ∧ J (firstN n k) wr ∧ MetKeeps b2 b3 (Value.slice A1 n d1).ownBlock gs n W wr) (fun i _ => n - (intOf i).toNat)
 case atStart => exact ⟨0, Nat.zero_le _, rfl, fun j h => absurd h (Nat.not_lt_zero j), hJ0, M0⟩
 case round =>
  clear hJ0 M0
  obtain ⟨k, hk, rfl, hmeet, hJk, hM⟩ := hrel
  by_cases hlt : k < n
  · obtain ⟨g, cap, hg, _, _⟩ := hop.own.form (by omega)
    injection hg with hg1 hg2 hg3
    subst hg1 hg3
    have p0' := hop.own.cells (g := g) rfl k _ (ptrs_at gs n k hlt)
    rw [add0 g k] at p0'
    have p0 : wr.cell? ⟨g, k, none⟩ = _ := (World.cell?_of_block (hM.block g (.inr (.inr rfl)))).trans p0'
    clear p0'
    have p1 : wr.cell? ⟨gs k, 2, none⟩ = some (.int .i64 (price zs k)) := (hM.cell k hlt 2 (by omega)).trans ((hcp k hlt).2.2.2.2.cell (i := 2) (by omega))
    have q2 := (hM.block b2 (.inl rfl)).trans h2
    have q3 := (hM.block b3 (.inr (.inl rfl))).trans h3
    have d2 := cell_of_row wr b2 0 _ _ (0, 0) q2
    have d3 := cell_of_row wr b3 0 _ _ (0, 0) q3
    simp at d2 d3
    have Hm := Lib.hid hmeet
    clear hmeet q2 q3
    go_wp2_with fail
    rcases Bool.eq_false_or_eq_true (meetB side lim (price zs k)) with hy | hy
    · have HY := Lib.hid hy
      clear hy
      refine (wpIn_wide (n := fo + 1)).1 ?_
      refine wpIn_region_any (by kernel_rfl) ?_
      refine wpAnyIn_take (i := 2) (v := ?_) rfl rfl (by kernel_rfl) (by kernel_rfl) (by kernel_rfl) (fun _ _ _ h => h) ⟨Or.inl ⟨by rfl, ?_⟩, fun _ => rfl⟩ ?_
      rotate_left
      (intro w; go_simp; try with_reducible rfl)
      try simp only [Act.put, sA, sB, sC]
      refine wpAnyIn_take (i := 3) (v := ?_) rfl rfl (by kernel_rfl) (by kernel_rfl) (by kernel_rfl) (fun _ _ _ h => h) ⟨Or.inl ⟨by rfl, ?_⟩, fun _ => rfl⟩ ?_
      rotate_left
      (intro w; go_simp; try with_reducible rfl)
      try simp only [Act.put, sA, sB, sC]
      refine wpAnyIn_take (i := 4) (v := ?_) rfl rfl (by kernel_rfl) (by kernel_rfl) (by kernel_rfl) (fun _ _ _ h => h) ⟨Or.inl ⟨by rfl, ?_⟩, fun _ => rfl⟩ ?_
      rotate_left
      (intro w; go_simp; try with_reducible rfl)
      try simp only [Act.put, sA, sB, sC]
      refine wpAnyIn_ready (rs := [0, 1, 5]) (by kernel_rfl) (by simp) ?_
      refine AllReadyIn.cons rfl (fun K hK => ?s0) (AllReadyIn.cons rfl (fun K hK => ?s1) (AllReadyIn.cons rfl (fun K hK => ?s5) AllReadyIn.nil))
      case' s0 =>
       go_simp
       refine hK _ _ ?_
       clear hK K
       try simp only [Act.put, sA, sB, sC]
       refine wpAnyIn_ready (rs := [1, 5]) (by kernel_rfl) (by simp) ?_
       refine AllReadyIn.cons rfl (fun K hK => ?s01) (AllReadyIn.cons rfl (fun K hK => ?s05) AllReadyIn.nil)
       case' s01 =>
        go_simp
        refine hK _ _ ?_
        clear hK K
        try simp only [Act.put, sA, sB, sC]
        refine wpAnyIn_ready (rs := [5]) (by kernel_rfl) (by simp) ?_
        refine AllReadyIn.cons rfl (fun K hK => ?s015) AllReadyIn.nil
        case' s015 =>
         go_simp
         refine hK _ _ ?_
         clear hK K
         try simp only [Act.put, sA, sB, sC]
       case' s05 =>
        go_simp
        refine hK _ _ ?_
        clear hK K
        try simp only [Act.put, sA, sB, sC]
        refine wpAnyIn_ready (rs := [1]) (by kernel_rfl) (by simp) ?_
        refine AllReadyIn.cons rfl (fun K hK => ?s051) AllReadyIn.nil
        case' s051 =>
         go_simp
         refine hK _ _ ?_
         clear hK K
         try simp only [Act.put, sA, sB, sC]
      case' s1 =>
       go_simp
       refine hK _ _ ?_
       clear hK K
       try simp only [Act.put, sA, sB, sC]
       refine wpAnyIn_ready (rs := [0, 5]) (by kernel_rfl) (by simp) ?_
       refine AllReadyIn.cons rfl (fun K hK => ?s10) (AllReadyIn.cons rfl (fun K hK => ?s15) AllReadyIn.nil)
       case' s10 =>
        go_simp
        refine hK _ _ ?_
        clear hK K
        try simp only [Act.put, sA, sB, sC]
        refine wpAnyIn_ready (rs := [5]) (by kernel_rfl) (by simp) ?_
        refine AllReadyIn.cons rfl (fun K hK => ?s105) AllReadyIn.nil
        case' s105 =>
         go_simp
         refine hK _ _ ?_
         clear hK K
         try simp only [Act.put, sA, sB, sC]
       case' s15 =>
        go_simp
        refine hK _ _ ?_
        clear hK K
        try simp only [Act.put, sA, sB, sC]
        refine wpAnyIn_ready (rs := [0]) (by kernel_rfl) (by simp) ?_
        refine AllReadyIn.cons rfl (fun K hK => ?s150) AllReadyIn.nil
        case' s150 =>
         go_simp
         refine hK _ _ ?_
         clear hK K
         try simp only [Act.put, sA, sB, sC]
      case' s5 =>
       go_simp
       refine hK _ _ ?_
       clear hK K
       try simp only [Act.put, sA, sB, sC]
       refine wpAnyIn_ready (rs := [0, 1]) (by kernel_rfl) (by simp) ?_
       refine AllReadyIn.cons rfl (fun K hK => ?s50) (AllReadyIn.cons rfl (fun K hK => ?s51) AllReadyIn.nil)
       case' s50 =>
        go_simp
        refine hK _ _ ?_
        clear hK K
        try simp only [Act.put, sA, sB, sC]
        refine wpAnyIn_ready (rs := [1]) (by kernel_rfl) (by simp) ?_
        refine AllReadyIn.cons rfl (fun K hK => ?s501) AllReadyIn.nil
        case' s501 =>
         go_simp
         refine hK _ _ ?_
         clear hK K
         try simp only [Act.put, sA, sB, sC]
       case' s51 =>
        go_simp
        refine hK _ _ ?_
        clear hK K
        try simp only [Act.put, sA, sB, sC]
        refine wpAnyIn_ready (rs := [0]) (by kernel_rfl) (by simp) ?_
        refine AllReadyIn.cons rfl (fun K hK => ?s510) AllReadyIn.nil
        case' s510 =>
         go_simp
         refine hK _ _ ?_
         clear hK K
         try simp only [Act.put, sA, sB, sC]
      all_goals
       refine wpAnyIn_ready (rs := [6]) (by kernel_rfl) (by simp) ?_
       refine AllReadyIn.cons rfl (fun K hK => ?_) AllReadyIn.nil
       go_simp
       refine ⟨trivial, (callsIn_wide.2 (impl_meets side lim _ _)).mono ?_⟩
       rw [HY.out]
       rintro e w' ⟨rfl, rfl⟩
       refine hK _ _ ?_
       clear hK K
       try simp only [Act.put, sA, sB, sC]
       refine wpAnyIn_take (i := 7) (v := ?_) rfl rfl (by kernel_rfl) (by kernel_rfl) (by kernel_rfl) (fun _ _ _ h => h) ⟨Or.inl ⟨by rfl, ?_⟩, fun _ => rfl⟩ ?_
       rotate_left
       (intro w; go_simp; try with_reducible rfl)
       try simp only [Act.put, sA, sB, sC]
       refine wpAnyIn_take (i := 8) (v := ?_) rfl rfl (by kernel_rfl) (by kernel_rfl) (by kernel_rfl) (fun _ _ _ h => h) ⟨Or.inl ⟨by rfl, ?_⟩, fun _ => rfl⟩ ?_
       rotate_left
       (intro w; go_simp; try with_reducible rfl)
       try simp only [Act.put, sA, sB, sC]
       refine wpAnyIn_take (i := 9) (v := ?_) rfl rfl (by kernel_rfl) (by kernel_rfl) (by kernel_rfl) (fun _ _ _ h => h) ⟨Or.inl ⟨by rfl, ?_⟩, fun _ => rfl⟩ ?_
       rotate_left
       (intro w; go_simp; try with_reducible rfl)
       try simp only [Act.put, sA, sB, sC]
       refine wpAnyIn_take (i := 10) (v := ?_) rfl rfl (by kernel_rfl) (by kernel_rfl) (by kernel_rfl) (fun _ _ _ h => h) ⟨Or.inl ⟨by rfl, ?_⟩, fun _ => rfl⟩ ?_
       rotate_left
       (intro w; go_simp; try with_reducible rfl)
       try simp only [Act.put, sA, sB, sC]
       obtain ⟨fn, tmps, assign, body, hy, hR⟩ := hY (firstN n k) ⟨k, hlt⟩ wr.drew (abides_drew hJ hJk) (by rw [firstN_length (by omega)]; exact hlt)
       refine wpAnyIn_ready (rs := [11]) (by kernel_rfl) (by simp) ?_
       refine AllReadyIn.cons rfl (fun K hK => ?_) AllReadyIn.nil
       go_simp
       refine hR.mono ?_
       rintro e W3 (⟨rfl, hJ3, hk3⟩ | ⟨rfl, hJx3⟩)
       · refine hK _ _ ?_
         clear hK K
         try simp only [Act.put, sA, sB, sC]
         refine wpAnyIn_take (i := 12) (v := ?_) rfl rfl (by kernel_rfl) (by kernel_rfl) (by kernel_rfl) (fun _ _ _ h => h) ⟨Or.inl ⟨by rfl, ?_⟩, fun _ => rfl⟩ ?_
         rotate_left
         (intro w; go_simp; try with_reducible rfl)
         try simp only [Act.put, sA, sB, sC]
         refine wpAnyIn_take (i := 13) (v := ?_) rfl rfl (by kernel_rfl) (by kernel_rfl) (by kernel_rfl) (fun _ _ _ h => h) ⟨Or.inl ⟨by rfl, ?_⟩, fun _ => rfl⟩ ?_
         rotate_left
         (intro w; go_simp; try with_reducible rfl)
         try simp only [Act.put, sA, sB, sC]
         refine wpAnyIn_done (by kernel_rfl) ?_ _
         go_wp2_with fail
         go_roundw
         case rel => exact ⟨k + 1, by omega, by go_num, fun j hj => by rcases (show j < k ∨ j = k from by omega) with h | rfl; exact Hm.out j h; exact HY.out, by rw [firstN_succ hlt]; exact hJ3, hM.drew.trans hk3⟩
         case measure => simp [intOf]; omega
       · refine hK _ _ ?_
         clear hK K
         try simp only [Act.put, sA, sB, sC]
         refine wpAnyIn_take (i := 12) (v := ?_) rfl rfl (by kernel_rfl) (by kernel_rfl) (by kernel_rfl) (fun _ _ _ h => h) ⟨Or.inl ⟨by rfl, ?_⟩, fun _ => rfl⟩ ?_
         rotate_left
         (intro w; go_simp; try with_reducible rfl)
         try simp only [Act.put, sA, sB, sC]
         refine wpAnyIn_take (i := 13) (v := ?_) rfl rfl (by kernel_rfl) (by kernel_rfl) (by kernel_rfl) (fun _ _ _ h => h) ⟨Or.inl ⟨by rfl, ?_⟩, fun _ => rfl⟩ ?_
         rotate_left
         (intro w; go_simp; try with_reducible rfl)
         try simp only [Act.put, sA, sB, sC]
         refine wpAnyIn_done (by kernel_rfl) ?_ _
         have hlk : k + 1 ≤ lead (fun k => meetB side lim (price zs k)) n := lead_pre n _ (k + 1) (by omega) (fun j hj => by rcases (show j < k ∨ j = k from by omega) with h | rfl; exact Hm.out j h; exact HY.out)
         go_wp2_with fail
         refine bodyPost_ret (results_none rfl _ _ _) rfl ?_
         exact ⟨⟨_, rfl⟩, .inr ⟨_, ⟨k + 1, hlk, (firstN_succ hlt).symm⟩, hJx3⟩⟩
    · have HY := Lib.hid hy
      have HL := Lib.hid (lead_one n (fun k => meetB side lim (price zs k)) k hk Hm.out (.inr hy))
      clear hy
      refine wp_region_held_drew (S := (fun w' => Below wr.heap.size wr w' ∧ w'.cell? ⟨b2, 0, none⟩ = some (.int .i64 side) ∧ w'.cell? ⟨b3, 0, none⟩ = some (.int .i64 lim) ∧ w'.cell? ⟨gs k, 2, none⟩ = some (.int .i64 (price zs k)))) (by kernel_rfl) ?hSq2xs (fun zH => ?restq2xs)
      case hSq2xs => (exact kp2)
      refine tkV 0 ?_
      refine tkV 1 ?_
      refine tkV 2 ?_
      refine tkV 3 ?_
      refine tkV 4 ?_
      refine tkV 5 ?_
      refine rd1 6 (fun K hK => ?_)
      go_simp
      (go_at_call 118; refine (impl_meets side lim _ _).mono ?_; rw [HY.out]; rintro e u2 ⟨rfl, rfl⟩)
      refine hK.out _ _ ?hSq2x7 (fun zH => ?restq2x7)
      case hSq2x7 => (exact kp2)
      clear hK K
      try simp only [Act.put, sA, sB, sC]
      refine tkV 7 ?_
      refine tkV 8 ?_
      refine hdN 9 ?_
      refine hdN 10 ?_
      refine hdN 11 ?_
      refine hdN 12 ?_
      refine tkV 13 ?_
      refine dn1 ?_
      obtain ⟨hbR, -, -, -⟩ := zH
      have hJ9 := abides_below hJ hJk hbR
      go_wp2_with fail
      refine bodyPost_ret (results_none rfl _ _ _) rfl ?_
      exact ⟨⟨_, rfl⟩, .inl ⟨_, by rw [HL.out], hJ9⟩⟩
  · obtain rfl : n = k := by omega
    have HL := Lib.hid (lead_one n (fun k => meetB side lim (price zs k)) n (Nat.le_refl _) hmeet (.inl rfl))
    clear hmeet
    go_wp2_with fail
    go_end0
    exact ⟨⟨_, rfl⟩, .inl ⟨_, by rw [HL.out], hJk⟩⟩
theorem met_stops (fo X S L n b1 b2 b3 L1 L2 : Nat) (side so lim : Int) (zs : List Int) (v : Value) (gs : Nat → Nat)
 (w : World) (hop : Opened w X S L 2 106 101 (.func (.func 77) #[] #[.pointer (some ⟨S, 0, none⟩)]) so zs n v gs) (hcp : Copies w X S L 65 zs n v gs) (hn : n ≤ 1048576)
 (hopp : side = 1 ∧ so = 2 ∨ side = 2 ∧ so = 1) (hso : so = 1 ∧ L = L1 ∨ so = 2 ∧ L = L2)
 (h1 : w.heap[b1]? = some (.cells #[.pointer (some ⟨L1, 0, none⟩), .pointer (some ⟨L2, 0, none⟩)] 55 (0, 0))) (h2 : w.heap[b2]? = some (.cells #[.int .i64 side] 2 (0, 0))) (h3 : w.heap[b3]? = some (.cells #[.int .i64 lim] 2 (0, 0))) :
 SeqStopsK Fence.wide (fo + 1) Tryz.prog 116 #[.pointer (some ⟨b1, 0, none⟩), .pointer (some ⟨b2, 0, none⟩), .pointer (some ⟨b3, 0, none⟩)] (fun x : Fin n => #[.pointer (some ⟨gs x.1, 0, none⟩)]) (MetKeeps b2 b3 v.ownBlock gs n)
  (fun ys => ys = firstN n (lead (fun k => meetB side lim (price zs k)) n)) (fun pre => ∃ k, k ≤ lead (fun k => meetB side lim (price zs k)) n ∧ pre = firstN n k) n w := fun l J Jx W hW hJ _ hY h0 =>
 callsIn_wide.2 (impl_met1 fo l X S L n b1 b2 b3 L1 L2 side so lim zs v gs J Jx W.heap.size hJ hY W (hop.below hW) (hcp.below hW) hn hopp hso ((hW.block b1 (hlT h1)).trans h1) ((hW.block b2 (hlT h2)).trans h2) ((hW.block b3 (hlT h3)).trans h3) h0)
end Go.Proofs.YtgjjdnojiegidaaGreatDoor

namespace Go.Proofs.YtgjjdnojiegidaaGreatDoor
open Go.RowKit Wire
set_option maxHeartbeats 3200000
set_option maxRecDepth 100000
set_option linter.unusedSimpArgs false

def Without (w : World) (base : Nat) (za zb : List Int) (n m : Nat) (id : Int) (ok : Bool) (v1 v2 : Value) : Prop :=
 w.ownsRow base 65 4 v1 (if ok = true then tkN za id n else 0) (nums (if ok = true then tkZ za id n else [])) ∧ w.ownsRow base 65 4 v2 (if ok = true then tkN zb id m else 0) (nums (if ok = true then tkZ zb id m else [])) ∧ ∀ q, v1.ownBlock = some q → v2.ownBlock ≠ some q
end Go.Proofs.YtgjjdnojiegidaaGreatDoor

namespace Go.Proofs.YtgjjdnojiegidaaGreatDoor
open Go.RowKit Go.Shelf Wire
set_option maxHeartbeats 3200000
set_option maxRecDepth 100000
set_option linter.unusedSimpArgs false

def rowsOf (zs : List Int) {n : Nat} : List (Fin n) → List Int
 | [] => []
 | x :: l => [num zs (x.1 * 4), num zs (x.1 * 4 + 1), num zs (x.1 * 4 + 2), num zs (x.1 * 4 + 3)] ++ rowsOf zs l
theorem rowsOf_snoc (zs : List Int) {n : Nat} (x : Fin n) : ∀ l : List (Fin n), rowsOf zs (l ++ [x]) = rowsOf zs l ++ [num zs (x.1 * 4), num zs (x.1 * 4 + 1), num zs (x.1 * 4 + 2), num zs (x.1 * 4 + 3)]
 | [] => rfl
 | y :: l => by rw [List.cons_append, rowsOf, rowsOf_snoc zs x l, rowsOf, List.append_assoc]
theorem rowsOf_first (zs : List Int) {n : Nat} (hz : zs.length = n * 4) : ∀ k, k ≤ n → rowsOf zs (firstN n k) = zs.take (k * 4)
 | 0, _ => by simp [firstN_zero, rowsOf]
 | k + 1, h => by
  rw [firstN_succ (by omega), rowsOf_snoc, rowsOf_first zs hz k (by omega)]
  have e : (k + 1) * 4 = k * 4 + 1 + 1 + 1 + 1 := by omega
  have s : ∀ j, j < zs.length → zs.take (j + 1) = zs.take j ++ [num zs j] := fun j hj => by
   rw [List.take_succ_eq_append_getElem hj]
   congr 1
   simp [num, List.getElem?_eq_getElem hj]
  rw [e, s _ (by omega), s _ (by omega), s _ (by omega), s _ (by omega)]
  simp
theorem cell_later_al {w : World} {a : Addr} {u : Value} (o : Obj) (h : w.cell? a = some u) : (w.drew.alloc o).cell? a = some u :=
 (World.cell?_alloc_some w.drew a o (by rw [show w.drew.cell? a = w.cell? a from rfl, h]; rfl)).trans h
theorem impl_met (L1 L2 : Nat) (side lim : Int) (w : World) :
 Calls Tryz.prog 108 #[.agg #[.pointer (some ⟨L1, 0, none⟩), .pointer (some ⟨L2, 0, none⟩)], .int .i64 side, .int .i64 lim] w fun e w' => e = .returned (.func (.func 116) #[] #[.pointer (some ⟨w.heap.size, 0, none⟩), .pointer (some ⟨w.heap.size + 1, 0, none⟩), .pointer (some ⟨w.heap.size + 2, 0, none⟩)]) ∧ w' = ((w.alloc (.cells #[.pointer (some ⟨L1, 0, none⟩), .pointer (some ⟨L2, 0, none⟩)] 55)).alloc (.cells #[.int .i64 side] 2)).alloc (.cells #[.int .i64 lim] 2) := by
 go_enter Tryz.func108, Tryz.ntmps108
 go_wp2_with fail
 go_ret
 exact ⟨by simp, rfl⟩
attribute [local go_sem] Oper.semAt_some
theorem impl_Crossing (A : Option Addr) (n c : Nat) (B : Option Addr) (m d : Nat) (za zb : List Int) (side lim : Int) (w : World) (ha : Lst w w.heap.size 4 A n za) (hb : Lst w w.heap.size 4 B m zb) (hn : n ≤ 1048576) (hm : m ≤ 1048576) :
 Calls Tryz.prog 99 #[.agg #[.slice A n c, .slice B m d], .int .i64 side, .int .i64 lim] w fun e w' => (∃ r, e = .returned r ∧ Crossed w' w.heap.size r (crN (bookB za n zb m) side lim za zb n m) (crZ (bookB za n zb m) side lim za zb n m)) ∧ Below w.heap.size w w' := by
 refine callsIn_wide.1 (callsIn_of_wp_marks (n := 9) Tryz.func99 rfl trivial (wpIn_wide.2 ?_) rfl)
 simp only [Tryz.ntmps99, List.size_toArray, List.length_cons, List.length_nil, Nat.reduceAdd, Nat.reduceSub, Array.replicate_succ, Array.replicate_zero, List.push_toArray, List.append_toArray, List.nil_append, List.cons_append]
 have hb0 : Below w.heap.size w (w.alloc (.cells #[.slice A n c, .slice B m d] 30)) := (Below.refl _ _).alloc (Nat.le_refl _) _
 have k0 : (w.alloc (.cells #[.slice A n c, .slice B m d] 30)).heap[w.heap.size]? = some (.cells #[.slice A n c, .slice B m d] 30 (0, 0)) := heap_alloc_new w _
 have hs0 : w.heap.size < (w.alloc (.cells #[.slice A n c, .slice B m d] 30)).heap.size := by simp
 go_wp2_with fail
 generalize (w.alloc (.cells #[.slice A n c, .slice B m d] 30)) = w0 at *
 refine (impl_BookOk A n c B m d za zb w0 ((ha.below hb0).more hb0.size) ((hb.below hb0).more hb0.size) hn hm).mono ?_
 generalize hbk : bookB za n zb m = bk
 rintro e w1 ⟨rfl, hb1⟩
 have k1 := (hb1.block w.heap.size hs0).trans k0
 have hs1 := Nat.lt_of_lt_of_le hs0 hb1.size
 have x0 := cell_of_row w1 w.heap.size 0 _ _ (0, 0) k1
 have x1 := cell_of_row w1 w.heap.size 1 _ _ (0, 0) k1
 simp at x0 x1
 have hb1 := hb0.trans (hb1.mono hb0.size)
 have HBK := Lib.hid hbk
 clear k0 hb0 hs0 hbk
 cases bk
 · go_wp2_with fail
   refine ⟨_, results_tmp rfl _ _ _, ⟨_, rfl, ?_⟩, hb1⟩
   rw [HBK.out, (cr_no rfl).1, (cr_no rfl).2]
   exact World.ownsRow_nil _ _ _ _
 go_wp2_with fail
 refine (impl_sideOk side w1).mono ?_
 rintro e w2 ⟨rfl, rfl⟩
 rcases Bool.eq_false_or_eq_true (sideOkB side) with hok | hok
 rotate_left
 · have HX := Lib.hid (show crOk true side lim = false from by unfold crOk; rw [hok]; rfl)
   rw [hok]
   clear hok
   go_wp2_with fail
   refine ⟨_, results_tmp rfl _ _ _, ⟨_, rfl, ?_⟩, hb1⟩
   rw [HBK.out, (cr_no HX.out).1, (cr_no HX.out).2]
   exact World.ownsRow_nil _ _ _ _
 have HOK := Lib.hid hok
 rw [hok]
 clear hok
 go_wp2_with fail
 refine (within_any lim 0 1000000 w1).mono ?_
 rintro e w2 ⟨rfl, rfl⟩
 rcases Bool.eq_false_or_eq_true (inB 0 lim 1000000) with hok | hok
 rotate_left
 · have HX := Lib.hid (show crOk true side lim = false from by unfold crOk; rw [hok]; simp)
   rw [hok]
   clear hok
   go_wp2_with fail
   refine ⟨_, results_tmp rfl _ _ _, ⟨_, rfl, ?_⟩, hb1⟩
   rw [HBK.out, (cr_no HX.out).1, (cr_no HX.out).2]
   exact World.ownsRow_nil _ _ _ _
 have HO := Lib.hid (show crOk true side lim = true from by unfold crOk; rw [hok, HOK.out]; rfl)
 rw [hok]
 clear hok
 have y0 := cell_of_row (w1.alloc (.cells #[.slice none 0 0] 28)) w.heap.size 0 _ _ (0, 0) ((Below.heap_alloc w1 _ w.heap.size hs1).trans k1)
 have y1 := cell_of_row (w1.alloc (.cells #[.slice none 0 0] 28)) w.heap.size 1 _ _ (0, 0) ((Below.heap_alloc w1 _ w.heap.size hs1).trans k1)
 simp at y0 y1
 go_wp2_with fail
 have hbA : Below w.heap.size w (w1.alloc (.cells #[.slice none 0 0] 28)) := hb1.alloc hb1.size _
 have bO : Boxed (w1.alloc (.cells #[.slice none 0 0] 28)) w1.heap.size 28 (.slice none 0 0) := Boxed.new w1 _ _
 refine (impl_opened A n c B m d za zb _ ((ha.below hbA).more hbA.size) ((hb.below hbA).more hbA.size) hn hm).mono ?_
 rintro e w3 ⟨X1, S1, L1, v1, gs1, X2, S2, L2, v2, gs2, rfl, ⟨hop1, hcp1⟩, ⟨hop2, hcp2⟩, hX1, hX2, hfar, hb3⟩
 have bO : Boxed w3 w1.heap.size 28 (.slice none 0 0) := (hb3.block _ bO.lt).trans bO
 have hbm : w1.heap.size < X1 := Nat.lt_of_lt_of_le (by simp) hX1
 have hb3 := hbA.trans (hb3.mono hbA.size)
 go_wp2_with fail
 refine (impl_met L1 L2 side lim w3).mono ?_
 rintro e w4 ⟨rfl, rfl⟩
 go_wp2_with fail
 obtain ⟨so, X, S, L, N, v, gs, zs, hopp, hso, hop, hcp, hN, hzs, HC, HZ, hXm⟩ : ∃ (so : Int) (X S L N : Nat) (v : Value) (gs : Nat → Nat) (zs : List Int), (side = 1 ∧ so = 2 ∨ side = 2 ∧ so = 1) ∧ (so = 1 ∧ L = L1 ∨ so = 2 ∧ L = L2) ∧ Opened w3 X S L 2 106 101 (.func (.func 77) #[] #[.pointer (some ⟨S, 0, none⟩)]) so zs N v gs ∧ Copies w3 X S L 65 zs N v gs ∧ N ≤ 1048576 ∧ zs.length = N * 4 ∧ Hid (crN true side lim za zb n m = lead (fun k => meetB side lim (price zs k)) N) ∧ Hid (crZ true side lim za zb n m = zs.take (lead (fun k => meetB side lim (price zs k)) N * 4)) ∧ w1.heap.size < X := by
  rcases side_cases side with ⟨rfl, _⟩ | ⟨rfl, _⟩ | ⟨h1, h2, hno⟩
  · exact ⟨2, X2, S2, L2, m, v2, gs2, zb, .inl ⟨rfl, rfl⟩, .inr ⟨rfl, rfl⟩, hop2, hcp2, hm, hb.1, Lib.hid (crN_1 HO.out), Lib.hid (crZ_1 HO.out), by omega⟩
  · exact ⟨1, X1, S1, L1, n, v1, gs1, za, .inr ⟨rfl, rfl⟩, .inl ⟨rfl, rfl⟩, hop1, hcp1, hn, ha.1, Lib.hid (crN_2 HO.out), Lib.hid (crZ_2 HO.out), hbm⟩
  · exact absurd HOK.out (by rw [hno]; decide)
 clear hop1 hcp1 hop2 hcp2 hfar hX1 hX2 hbm y0 y1 x0 x1
 have hbm3 := bO.lt
 obtain ⟨i0, hi, hz0, hz1, hz2⟩ := info_parts ord_info
 obtain ⟨m1, m2, m3⟩ := three_blocks w3 (.cells #[.pointer (some ⟨L1, 0, none⟩), .pointer (some ⟨L2, 0, none⟩)] 55) (.cells #[.int .i64 side] 2) (.cells #[.int .i64 lim] 2)
 have hb5 : Below w3.heap.size w3 (((w3.alloc (.cells #[.pointer (some ⟨L1, 0, none⟩), .pointer (some ⟨L2, 0, none⟩)] 55)).alloc (.cells #[.int .i64 side] 2)).alloc (.cells #[.int .i64 lim] 2)) := (((Below.refl _ _).alloc (Nat.le_refl _) _).alloc (by simp) _).alloc (by simp; omega) _
 have hsz5 : (((w3.alloc (.cells #[.pointer (some ⟨L1, 0, none⟩), .pointer (some ⟨L2, 0, none⟩)] 55)).alloc (.cells #[.int .i64 side] 2)).alloc (.cells #[.int .i64 lim] 2)).heap.size = w3.heap.size + 3 := by simp
 generalize (((w3.alloc (.cells #[.pointer (some ⟨L1, 0, none⟩), .pointer (some ⟨L2, 0, none⟩)] 55)).alloc (.cells #[.int .i64 side] 2)).alloc (.cells #[.int .i64 lim] 2)) = w5 at *
 have bO : Boxed w5 w1.heap.size 28 (.slice none 0 0) := (hb5.block _ bO.lt).trans bO
 have hop := hop.below hb5
 have hcp := hcp.below hb5
 have hb5 := ord_later hb3 hb5
 have hBm : w.heap.size ≤ w1.heap.size := hb1.size
 refine (wpIn_wide (n := 9)).1 ?_
 refine wpIn_rangeFunc_ownG rfl (by omega) (gf := 116) (lb := #[.pointer (some ⟨w3.heap.size, 0, none⟩), .pointer (some ⟨w3.heap.size + 1, 0, none⟩), .pointer (some ⟨w3.heap.size + 2, 0, none⟩)]) rfl trivial (enters_of Tryz.func116 (by kernel_rfl) rfl)
  (met_stops 7 X S L N _ _ _ L1 L2 side so lim zs v gs w5 hop hcp hN hopp hso m1 m2 m3) MetKeeps.trans (fun W l o o' hl h _ _ => .of_blocks (by simp) fun i hi => World.putObj_heap_other (by rcases hi with rfl | rfl | h | ⟨k, hk, rfl⟩; omega; omega; (have := (hop.own.lt _ h).2; omega); (have := (hcp k hk).2.2.2.2.lt; omega))) (Below.refl _ _) (fun _ => rfl)
  (fun pre W => (∃ u, Boxed W w1.heap.size 28 u ∧ W.ownsRow w5.heap.size 65 4 u pre.length (nums (rowsOf zs pre)) ∧ True) ∧ w5.grownBy W (some w1.heap.size))
  (fun _ _ _ => False)
  (OwnFrom.and (Own.from (holdsRow_own w5.heap.size w1.heap.size 28 65 4 (fun pre : List (Fin N) => pre.length) (fun pre => nums (rowsOf zs pre)) (fun _ _ => True)) _) (fun s P Q row hs hg hr => ⟨hg.os.trans hs.os, hg.tape.trans hs.tape, hg.output.trans hs.output, Nat.le_trans hs.size hg.size, fun k hk hne => (hg.block k (Nat.lt_of_lt_of_le hk hs.size) (fun e => by have := (hr _ e.symm).1; omega)).trans (hs.block k hk hne)⟩))
  (fun _ _ _ _ _ hs _ _ => hs)
  ⟨⟨_, bO, World.ownsRow_nil _ _ _ _, trivial⟩, World.grownBy.refl _ _⟩
  (fun x => { tmps := #[.agg #[.slice A n c, .slice B m d], .int .i64 side, .int .i64 lim, .pointer (some ⟨w.heap.size, 0, none⟩), undef, undef, .slice none 0 0, .pointer (some ⟨w1.heap.size, 0, none⟩), .pointer (some ⟨gs x.1, 0, none⟩), .agg #[.slice A n c, .slice B m d], .bool true, .bool false, .bool false, .int .i64 side, .bool true, .bool false, .bool false, .bool false, .int .i64 lim, .bool true, .bool false, .bool false, .agg #[.slice A n c, .slice B m d], .agg #[.pointer (some ⟨L1, 0, none⟩), .pointer (some ⟨L2, 0, none⟩)], .int .i64 side, .int .i64 lim, .func (.func 116) #[] #[.pointer (some ⟨w3.heap.size, 0, none⟩), .pointer (some ⟨w3.heap.size + 1, 0, none⟩), .pointer (some ⟨w3.heap.size + 2, 0, none⟩)], .pointer (some ⟨gs x.1, 0, none⟩), undef, undef, undef, undef, undef, undef, undef], defers := [] }) ?assign ?body ?done ?stop
 case assign =>
  intro l x W K hK
  gi_wp2
  exact hK
 case body =>
  rintro l pre x W ⟨⟨u, hbox, hrow, _⟩, hgr⟩ hlen
  have hBW : w5.heap.size ≤ W.heap.size := hgr.size
  have hgx := hcp x.1 x.2
  have hbg : w1.heap.size ≠ gs x.1 := fun e => by have := hgx.1; omega
  have hgl := hgx.2.2.2.2.lt
  have hgr4 := hgx.2.2.2.2.of_block (hgr.block (gs x.1) hgl (fun e => hbg (by injection e with e; exact e.symm)))
  have hgne : some (gs x.1) ≠ u.ownBlock := fun e => by have := (hrow.lt _ e.symm).1; omega
  have hne : some w1.heap.size ≠ u.ownBlock := fun e => by have := (hrow.lt _ e.symm).1; have := bO.lt; omega
  have q0 : W.cell? ⟨gs x.1, 0, none⟩ = some (.int .i64 (num zs (x.1 * 4))) := hgr4.cell (i := 0) (by omega)
  have q1 : W.cell? ⟨gs x.1, 1, none⟩ = some (.int .i64 (num zs (x.1 * 4 + 1))) := hgr4.cell (i := 1) (by omega)
  have q2 : W.cell? ⟨gs x.1, 2, none⟩ = some (.int .i64 (num zs (x.1 * 4 + 2))) := hgr4.cell (i := 2) (by omega)
  have q3 : W.cell? ⟨gs x.1, 3, none⟩ = some (.int .i64 (num zs (x.1 * 4 + 3))) := hgr4.cell (i := 3) (by omega)
  have setfar : ∀ {W' : World} {j : Nat} {z y : Value}, W'.cell? ⟨gs x.1, j, none⟩ = some z → (W'.setCell ⟨w1.heap.size, 0, none⟩ y).cell? ⟨gs x.1, j, none⟩ = some z := fun h => (World.cell?_setCell_far _ _ _ _ hbg).trans h
  clear hgr4
  gi_wp2
  refine wpIn_region_round (S := (fun w' => w'.cell? ⟨gs x.1, 0, none⟩ = some (.int .i64 (num zs (x.1 * 4))) ∧ w'.cell? ⟨gs x.1, 1, none⟩ = some (.int .i64 (num zs (x.1 * 4 + 1))) ∧ w'.cell? ⟨gs x.1, 2, none⟩ = some (.int .i64 (num zs (x.1 * 4 + 2))) ∧ w'.cell? ⟨gs x.1, 3, none⟩ = some (.int .i64 (num zs (x.1 * 4 + 3))))) (by kernel_rfl) (by kernel_rfl) (fun _ _ h => h) ?hS0 (fun zH => ?rest0)
  case hS0 => exact ⟨q0, q1, q2, q3⟩
  refine tkV 1 ?_
  refine tkV 2 ?_
  refine tkV 3 ?_
  refine wpAnyH_ready (rs := [0, 4]) (by kernel_rfl) (by simp) ?_
  refine AllReadyH.cons (o := ?oc4) ?hoc4 (fun K hK => ?stepc4) ?morec4
  case hoc4 => simp only [gA, gB, gC]; exact rfl
  case stepc4 =>
   have hcx : W.drew.cell? ⟨w1.heap.size, 0, none⟩ = some u := hbox.cell
   go_simp
   refine hK.out _ _ (zH) (fun zH => ?_)
   clear hK K
   try simp only [Act.put, sA, sB, sC]
   refine rd1 4 (fun K hK => ?_)
   go_simp
   refine hK.out _ _ (⟨(cell_later_al _ q0), (cell_later_al _ q1), (cell_later_al _ q2), (cell_later_al _ q3)⟩) (fun zH => ?_)
   clear hK K
   try simp only [Act.put, sA, sB, sC]
   refine rd1 5 (fun K hK => ?_)
   (refine step_append_own _ rfl _ _ 28 rfl w5.heap.size 65 i0 _ 4 32 Tryz.underlying28 hi hz0 hz1 hz2 rfl (by decide) _ _ _ rfl (show (W.drew.alloc (.cells #[.int .i64 (num zs (x.1 * 4)), .int .i64 (num zs (x.1 * 4 + 1)), .int .i64 (num zs (x.1 * 4 + 2)), .int .i64 (num zs (x.1 * 4 + 3))] 65)).ownsRow w5.heap.size 65 4 u _ _ from (show W.drew.ownsRow w5.heap.size 65 4 u _ _ from hrow).alloc _) ⟨W.heap.size, 0, none⟩ 1 1 [.int .i64 (num zs (x.1 * 4)), .int .i64 (num zs (x.1 * 4 + 1)), .int .i64 (num zs (x.1 * 4 + 2)), .int .i64 (num zs (x.1 * 4 + 3))] rfl rfl (World.news_of_block (heap_alloc_new W.drew _)) (by intro u hu; simp at hu; rcases hu with rfl | rfl | rfl | rfl <;> rfl) (by unfold maxLen; omega) (by omega) (by have := hBW; simp; omega) ?_; intro v' u2 hown2 hgrow2 _)
   have gcell : ∀ {j : Nat} {z : Value}, W.cell? ⟨gs x.1, j, none⟩ = some z → u2.cell? ⟨gs x.1, j, none⟩ = some z := fun h => hgrow2.cell (cell_later_al _ h) hgne
   obtain ⟨A3, d3, rfl, _, _⟩ := oSl hown2
   have hbx : Boxed u2 w1.heap.size 28 u := (show Boxed (W.drew.alloc (.cells #[.int .i64 (num zs (x.1 * 4)), .int .i64 (num zs (x.1 * 4 + 1)), .int .i64 (num zs (x.1 * 4 + 2)), .int .i64 (num zs (x.1 * 4 + 3))] 65)) w1.heap.size _ u from (show Boxed W.drew w1.heap.size _ u from hbox).alloc _).kept hgrow2 hne
   refine hK.out _ _ (⟨gcell q0, gcell q1, gcell q2, gcell q3⟩) (fun zH => ?_)
   clear hK K
   try simp only [Act.put, sA, sB, sC]
   refine rd1 6 (fun K hK => ?_)
   have hc3 := hbx.cell
   have hf3 := hbx.frozen
   go_simp
   refine hK.out _ _ (⟨setfar zH.1, setfar zH.2.1, setfar zH.2.2.1, setfar zH.2.2.2⟩) (fun zH => ?_)
   clear hK K
   try simp only [Act.put, sA, sB, sC]
   refine dn1 ?_
   have hr2 := hown2.kept (set_grown u2 w1.heap.size 0 (.slice A3 (pre.length + 1) d3)) (.inr (fun e => by have := (hown2.lt _ e).1; have := bO.lt; omega))
   have hsz2 : W.heap.size ≤ (u2.setCell ⟨w1.heap.size, 0, none⟩ (.slice A3 (pre.length + 1) d3)).heap.size := by have := hgrow2.size; simp [World.setCell] at this ⊢; omega
   obtain ⟨_, hv2, _, hk2, _⟩ := (show Boxed W.drew w1.heap.size 28 u from hbox).appended (n₀ := w.heap.size) (by decide) (oMn (show W.drew.ownsRow w5.heap.size 65 4 u _ _ from hrow) hb5.size) (Nat.le_trans hb5.size hBW) hBm (oMn hown2 hb5.size) hgrow2
   have hblk : ∀ i, i < w5.heap.size → i ≠ w1.heap.size → (u2.setCell ⟨w1.heap.size, 0, none⟩ (.slice A3 (pre.length + 1) d3)).heap[i]? = W.heap[i]? := fun i hi hne2 => (Below.heap_setCell u2 ⟨w1.heap.size, 0, none⟩ _ i (fun e => hne2 e)).trans ((hgrow2.block i (by simp; omega) (fun e => by have := (hrow.lt i e.symm).1; omega)).trans (Below.heap_alloc W.drew _ i (Nat.lt_of_lt_of_le hi hBW)))
   gi_wp2
   refine ⟨⟨hk2.size, fun k o _ hk ho => hk2.same k o hk ho⟩, .of_blocks hsz2 (fun i hi => ?_), ⟨⟨_, hv2, ?_, trivial⟩, ⟨hgrow2.os.trans hgr.os, hgrow2.tape.trans hgr.tape, hgrow2.output.trans hgr.output, Nat.le_trans hBW hsz2, fun k hk hne2 => (hblk k hk (fun e => hne2 (by rw [e]))).trans (hgr.block k hk hne2)⟩⟩⟩
   · rcases hi with rfl | rfl | h | ⟨k, hk, rfl⟩
     · exact hblk _ (by omega) (by omega)
     · exact hblk _ (by omega) (by omega)
     · exact hblk _ (hop.own.lt _ h).2 (fun e => by have := (hop.own.lt _ h).1; omega)
     · exact hblk _ (hcp k hk).2.2.2.2.lt (fun e => by have := (hcp k hk).1; omega)
   · rw [rowsOf_snoc, nums_append, List.length_append]
     exact hr2
  refine AllReadyH.cons (o := ?oc8) ?hoc8 (fun K hK => ?stepc8) ?morec8
  case hoc8 => simp only [gA, gB, gC]; exact rfl
  case morec8 => exact AllReadyH.nil
  go_simp
  refine hK.out _ _ (⟨(cell_later_al _ q0), (cell_later_al _ q1), (cell_later_al _ q2), (cell_later_al _ q3)⟩) (fun zH => ?_)
  clear hK K
  try simp only [Act.put, sA, sB, sC]
  refine rd1 0 (fun K hK => ?_)
  have hcx := (show Boxed (W.drew.alloc (.cells #[.int .i64 (num zs (x.1 * 4)), .int .i64 (num zs (x.1 * 4 + 1)), .int .i64 (num zs (x.1 * 4 + 2)), .int .i64 (num zs (x.1 * 4 + 3))] 65)) w1.heap.size _ u from (show Boxed W.drew w1.heap.size _ u from hbox).alloc _).cell
  have hcx0 := hbox.cell
  have hcx1 := (hbox.alloc (.cells #[.int .i64 (num zs (x.1 * 4)), .int .i64 (num zs (x.1 * 4 + 1)), .int .i64 (num zs (x.1 * 4 + 2)), .int .i64 (num zs (x.1 * 4 + 3))] 65)).cell
  go_simp
  refine hK.out _ _ (zH) (fun zH => ?_)
  clear hK K
  try simp only [Act.put, sA, sB, sC]
  refine rd1 5 (fun K hK => ?_)
  (refine step_append_own _ rfl _ _ 28 rfl w5.heap.size 65 i0 _ 4 32 Tryz.underlying28 hi hz0 hz1 hz2 rfl (by decide) _ _ _ rfl (show (W.drew.alloc (.cells #[.int .i64 (num zs (x.1 * 4)), .int .i64 (num zs (x.1 * 4 + 1)), .int .i64 (num zs (x.1 * 4 + 2)), .int .i64 (num zs (x.1 * 4 + 3))] 65)).ownsRow w5.heap.size 65 4 u _ _ from (show W.drew.ownsRow w5.heap.size 65 4 u _ _ from hrow).alloc _) ⟨W.heap.size, 0, none⟩ 1 1 [.int .i64 (num zs (x.1 * 4)), .int .i64 (num zs (x.1 * 4 + 1)), .int .i64 (num zs (x.1 * 4 + 2)), .int .i64 (num zs (x.1 * 4 + 3))] rfl rfl (World.news_of_block (heap_alloc_new W.drew _)) (by intro u hu; simp at hu; rcases hu with rfl | rfl | rfl | rfl <;> rfl) (by unfold maxLen; omega) (by omega) (by have := hBW; simp; omega) ?_; intro v' u2 hown2 hgrow2 _)
  have gcell : ∀ {j : Nat} {z : Value}, W.cell? ⟨gs x.1, j, none⟩ = some z → u2.cell? ⟨gs x.1, j, none⟩ = some z := fun h => hgrow2.cell (cell_later_al _ h) hgne
  obtain ⟨A3, d3, rfl, _, _⟩ := oSl hown2
  have hbx : Boxed u2 w1.heap.size 28 u := (show Boxed (W.drew.alloc (.cells #[.int .i64 (num zs (x.1 * 4)), .int .i64 (num zs (x.1 * 4 + 1)), .int .i64 (num zs (x.1 * 4 + 2)), .int .i64 (num zs (x.1 * 4 + 3))] 65)) w1.heap.size _ u from (show Boxed W.drew w1.heap.size _ u from hbox).alloc _).kept hgrow2 hne
  refine hK.out _ _ (⟨gcell q0, gcell q1, gcell q2, gcell q3⟩) (fun zH => ?_)
  clear hK K
  try simp only [Act.put, sA, sB, sC]
  refine rd1 6 (fun K hK => ?_)
  have hc3 := hbx.cell
  have hf3 := hbx.frozen
  go_simp
  refine hK.out _ _ (⟨setfar zH.1, setfar zH.2.1, setfar zH.2.2.1, setfar zH.2.2.2⟩) (fun zH => ?_)
  clear hK K
  try simp only [Act.put, sA, sB, sC]
  refine dn1 ?_
  have hr2 := hown2.kept (set_grown u2 w1.heap.size 0 (.slice A3 (pre.length + 1) d3)) (.inr (fun e => by have := (hown2.lt _ e).1; have := bO.lt; omega))
  have hsz2 : W.heap.size ≤ (u2.setCell ⟨w1.heap.size, 0, none⟩ (.slice A3 (pre.length + 1) d3)).heap.size := by have := hgrow2.size; simp [World.setCell] at this ⊢; omega
  obtain ⟨_, hv2, _, hk2, _⟩ := (show Boxed W.drew w1.heap.size 28 u from hbox).appended (n₀ := w.heap.size) (by decide) (oMn (show W.drew.ownsRow w5.heap.size 65 4 u _ _ from hrow) hb5.size) (Nat.le_trans hb5.size hBW) hBm (oMn hown2 hb5.size) hgrow2
  have hblk : ∀ i, i < w5.heap.size → i ≠ w1.heap.size → (u2.setCell ⟨w1.heap.size, 0, none⟩ (.slice A3 (pre.length + 1) d3)).heap[i]? = W.heap[i]? := fun i hi hne2 => (Below.heap_setCell u2 ⟨w1.heap.size, 0, none⟩ _ i (fun e => hne2 e)).trans ((hgrow2.block i (by simp; omega) (fun e => by have := (hrow.lt i e.symm).1; omega)).trans (Below.heap_alloc W.drew _ i (Nat.lt_of_lt_of_le hi hBW)))
  gi_wp2
  refine ⟨⟨hk2.size, fun k o _ hk ho => hk2.same k o hk ho⟩, .of_blocks hsz2 (fun i hi => ?_), ⟨⟨_, hv2, ?_, trivial⟩, ⟨hgrow2.os.trans hgr.os, hgrow2.tape.trans hgr.tape, hgrow2.output.trans hgr.output, Nat.le_trans hBW hsz2, fun k hk hne2 => (hblk k hk (fun e => hne2 (by rw [e]))).trans (hgr.block k hk hne2)⟩⟩⟩
  · rcases hi with rfl | rfl | h | ⟨k, hk, rfl⟩
    · exact hblk _ (by omega) (by omega)
    · exact hblk _ (by omega) (by omega)
    · exact hblk _ (hop.own.lt _ h).2 (fun e => by have := (hop.own.lt _ h).1; omega)
    · exact hblk _ (hcp k hk).2.2.2.2.lt (fun e => by have := (hcp k hk).1; omega)
  · rw [rowsOf_snoc, nums_append, List.length_append]
    exact hr2
 case done =>
  rintro D ys W hD rfl ⟨⟨u, hbox, hrow, _⟩, hgr⟩ hK
  have hcx := hbox.cell
  go_wp2_with fail
  refine ⟨by simp, .inl ⟨_, _, rfl, run_takeDeferred hK, ?_⟩⟩
  refine ⟨_, results_tmp rfl _ _ _, ⟨_, rfl, ?_⟩, (hb5.grown hgr hb5.size (fun q e => by cases e; exact hBm)).trans (belowK_b (n₀ := w.heap.size) (w := w5) hb5.size W D _ _ hD hK rfl rfl)⟩
  have hle : lead (fun k => meetB side lim (price zs k)) N ≤ N := lead_le _ _
  rw [HBK.out, HC.out, HZ.out, ← rowsOf_first zs hzs _ hle]
  have h2 := ownsRow_putObj (oMn hrow hb5.size) (.deferred none) hK rfl
  rw [firstN_length hle] at h2
  exact h2
 case stop =>
  rintro D c pre W _ _ h _
  exact h.elim
end Go.Proofs.YtgjjdnojiegidaaGreatDoor

namespace Go.Proofs.YtgjjdnojiegidaaGreatDoor
open Go.RowKit Wire
set_option maxHeartbeats 3200000
set_option maxRecDepth 100000
set_option linter.unusedSimpArgs false

theorem impl_hasOrder (A : Option Addr) (n c : Nat) (B : Option Addr) (m d : Nat) (za zb : List Int) (id : Int) (w : World) (ha : Lst w w.heap.size 4 A n za) (hb : Lst w w.heap.size 4 B m zb) (hn : n ≤ 1048576) (hm : m ≤ 1048576) :
 Calls Tryz.prog 85 #[.agg #[.slice A n c, .slice B m d], .int .i64 id] w fun e w' => (∃ s f ok, FindRel (bookB za n zb m) za n zb m id s f ok ∧ e = .returned (.bool ok)) ∧ Below w.heap.size w w' := by
 have hb0 : Below w.heap.size w (w.alloc (.cells #[.slice A n c, .slice B m d] 30)) := (Below.refl _ _).alloc (Nat.le_refl _) _
 go_enter Tryz.func85, Tryz.ntmps85
 go_wp2_with fail
 refine (impl_Find A n c B m d za zb id _ (ha.later hb0) (hb.later hb0) hn hm).mono ?_
 rintro e w1 ⟨⟨s, f, ok, hrel, rfl⟩, hb1⟩
 have HR := Lib.hid hrel
 have HB := Lib.hid (ord_later hb0 hb1)
 clear hrel hb0 hb1
 generalize f 0 = f0 at *
 generalize f 1 = f1 at *
 generalize f 2 = f2 at *
 generalize f 3 = f3 at *
 go_wp2_with fail
 go_ret
 exact ⟨⟨s, f, ok, HR.out, rfl⟩, HB.out.alloc HB.out.size _⟩
theorem impl_Taken (A : Option Addr) (n c : Nat) (B : Option Addr) (m d : Nat) (za zb : List Int) (id : Int) (w : World) (ha : Lst w w.heap.size 4 A n za) (hb : Lst w w.heap.size 4 B m zb) (hn : n ≤ 1048576) (hm : m ≤ 1048576) :
 Calls Tryz.prog 57 #[.agg #[.slice A n c, .slice B m d], .int .i64 id] w fun e w' => (∃ s f ok v1 v2, FindRel (bookB za n zb m) za n zb m id s f ok ∧ e = .returned (.tuple #[.agg #[v1, v2], .bool ok]) ∧ Without w' w.heap.size za zb n m id ok v1 v2) ∧ Below w.heap.size w w' := by
 obtain ⟨k0, k1, k2⟩ := three_blocks w (.cells #[.slice A n c, .slice B m d] 30) (.cells #[.int .i64 id] 2) (.cells #[.slice none 0 0, .slice none 0 0] 30)
 have hb0 : Below w.heap.size w (((w.alloc (.cells #[.slice A n c, .slice B m d] 30)).alloc (.cells #[.int .i64 id] 2)).alloc (.cells #[.slice none 0 0, .slice none 0 0] 30)) := (((Below.refl _ _).alloc (Nat.le_refl _) _).alloc (by simp) _).alloc (by simp; omega) _
 have hs0 : (((w.alloc (.cells #[.slice A n c, .slice B m d] 30)).alloc (.cells #[.int .i64 id] 2)).alloc (.cells #[.slice none 0 0, .slice none 0 0] 30)).heap.size = w.heap.size + 3 := by simp
 have x0 := cell_of_row _ w.heap.size 0 _ _ (0, 0) k0
 have x1 := cell_of_row _ w.heap.size 1 _ _ (0, 0) k0
 have j0 := cell_of_row _ (w.heap.size + 1) 0 _ _ (0, 0) k1
 simp at x0 x1 j0
 go_enter Tryz.func57, Tryz.ntmps57
 go_wp2_with fail
 generalize (((w.alloc (.cells #[.slice A n c, .slice B m d] 30)).alloc (.cells #[.int .i64 id] 2)).alloc (.cells #[.slice none 0 0, .slice none 0 0] 30)) = w0 at *
 refine (impl_hasOrder A n c B m d za zb id w0 ((ha.below hb0).more hb0.size) ((hb.below hb0).more hb0.size) hn hm).mono ?_
 rintro e w1 ⟨⟨s, f, ok, hrel, rfl⟩, hb1⟩
 have HR := Lib.hid hrel
 have k0 := (hb1.block w.heap.size (by omega)).trans k0
 have k1 := (hb1.block (w.heap.size + 1) (by omega)).trans k1
 have k2 := (hb1.block (w.heap.size + 1 + 1) (by omega)).trans k2
 have hs1 : w.heap.size + 3 ≤ w1.heap.size := by have := hb1.size; omega
 have hb1 := hb0.trans (hb1.mono hb0.size)
 clear hb0 hs0 hrel x0 x1 j0
 have x0 := cell_of_row w1 w.heap.size 0 _ _ (0, 0) k0
 have x1 := cell_of_row w1 w.heap.size 1 _ _ (0, 0) k0
 have j0 := cell_of_row w1 (w.heap.size + 1) 0 _ _ (0, 0) k1
 have s0 := cell_of_row w1 (w.heap.size + 1 + 1) 0 _ _ (0, 0) k2
 have s1 := cell_of_row w1 (w.heap.size + 1 + 1) 1 _ _ (0, 0) k2
 have z0 := frozen_of_row w1 (w.heap.size + 1 + 1) 0 _ _ k2
 have z1 := frozen_of_row w1 (w.heap.size + 1 + 1) 1 _ _ k2
 simp at x0 x1 j0 s0 s1
 cases ok
 · have hx := zS1 (u := .slice none 0 0) (zS0 (u := .slice none 0 0) k2)
   have E0 := Lib.hid (cell_of_row _ (w.heap.size + 1 + 1) 0 _ _ (0, 0) hx)
   have E1 := Lib.hid (cell_of_row _ (w.heap.size + 1 + 1) 1 _ _ (0, 0) hx)
   clear hx
   go_wp2_with fail
   have e0 := E0.out
   have e1 := E1.out
   simp at e0 e1
   refine bodyPost_ret (v := .tuple #[.agg #[.slice none 0 0, .slice none 0 0], .bool false]) (by simp [results, Tryz.results57, go_sem, e0, e1]) rfl ⟨⟨s, f, false, .slice none 0 0, .slice none 0 0, HR.out, rfl, World.ownsRow_nil _ _ _ _, World.ownsRow_nil _ _ _ _, fun q hq => by simp [Value.ownBlock] at hq⟩, ?_⟩
   exact ((hb1.setCell (p := ⟨w.heap.size + 1 + 1, 0, none⟩) le2 _).setCell (p := ⟨w.heap.size + 1 + 1, 1, none⟩) le2 _)
 · clear s0 s1 z0 z1
   go_wp2_with fail
   refine (impl_opened A n c B m d za zb w1 ((ha.below hb1).more hb1.size) ((hb.below hb1).more hb1.size) hn hm).mono ?_
   rintro e w2 ⟨X1, S1, L1, v1, gs1, X2, S2, L2, v2, gs2, rfl, hp1, hp2, hX1, hX2, hfar, hb2⟩
   have k1 := (hb2.block (w.heap.size + 1) (by omega)).trans k1
   have k2 := (hb2.block (w.heap.size + 1 + 1) (by omega)).trans k2
   have hs2 : w.heap.size + 3 ≤ w2.heap.size := by have := hb2.size; omega
   have hb2 := hb1.trans (hb2.mono hb1.size)
   clear hb1 k0 x0 x1 j0
   have o0 := heap_alloc_new w2 (.cells #[.pointer (some ⟨L1, 0, none⟩), .pointer (some ⟨L2, 0, none⟩)] 55)
   have hbA : Below w2.heap.size w2 (w2.alloc (.cells #[.pointer (some ⟨L1, 0, none⟩), .pointer (some ⟨L2, 0, none⟩)] 55)) := (Below.refl _ _).alloc (Nat.le_refl _) _
   have hsA : (w2.alloc (.cells #[.pointer (some ⟨L1, 0, none⟩), .pointer (some ⟨L2, 0, none⟩)] 55)).heap.size = w2.heap.size + 1 := by simp
   have k1 := (hbA.block (w.heap.size + 1) (by omega)).trans k1
   have k2 := (hbA.block (w.heap.size + 1 + 1) (by omega)).trans k2
   have hpw1 := hp1.1
   have hpw2 := hp2.1
   have hp1 := And.intro (hp1.1.below hbA) (hp1.2.below hbA)
   have hp2 := And.intro (hp2.1.below hbA) (hp2.2.below hbA)
   have o1 := cell_of_row _ w2.heap.size 0 _ _ (0, 0) o0
   have o2 := cell_of_row _ w2.heap.size 1 _ _ (0, 0) o0
   have j0 := cell_of_row _ (w.heap.size + 1) 0 _ _ (0, 0) k1
   simp at o1 o2 j0
   have hb3 := hb2.trans (hbA.mono hb2.size)
   have hLa : L1 < w2.heap.size := hlT hpw1.list
   have hLb : L2 < w2.heap.size := hlT hpw2.list
   have hva : some w2.heap.size ≠ v1.ownBlock := fun e => by have := (hpw1.own.lt _ e.symm).2; omega
   have hvb : some w2.heap.size ≠ v2.ownBlock := fun e => by have := (hpw2.own.lt _ e.symm).2; omega
   clear hpw1 hpw2
   go_wp2_with fail
   generalize (w2.alloc (.cells #[.pointer (some ⟨L1, 0, none⟩), .pointer (some ⟨L2, 0, none⟩)] 55)) = w3 at *
   refine (impl_drop X1 S1 L1 X2 S2 L2 n m (w.heap.size + 1) v1 v2 gs1 gs2 id za zb w3 hp1 hp2 hn hm j0 (by omega) hX2 hfar).mono ?_
   rintro e w4 ⟨⟨_, rfl⟩, u1, u2, hq1, hq2, hb4, hk4⟩
   have o0 := (hk4 w2.heap.size (by omega) (by omega) (by omega) hva hvb).trans o0
   have k2 := (hb4.block (w.heap.size + 1 + 1) (by omega)).trans k2
   have hs4 := hb4.size
   have hb5 := hb3.trans (hb4.mono (by omega))
   clear hp1 hp2 k1 o1 o2 j0 hb4 hk4 hva hvb
   have o1 := cell_of_row _ w2.heap.size 0 _ _ (0, 0) o0
   have o2 := cell_of_row _ w2.heap.size 1 _ _ (0, 0) o0
   simp at o1 o2
   have HN1 := Lib.hid (tkZ_len za id n)
   have HN2 := Lib.hid (tkZ_len zb id m)
   have hN1 : tkN za id n ≤ 1048576 := Nat.le_trans (tkN_le za id n) hn
   have hN2 : tkN zb id m ≤ 1048576 := Nat.le_trans (tkN_le zb id m) hm
   go_wp2_with fail
   refine (impl_closed X1 S1 L1 X2 S2 L2 _ _ u1 u2 _ _ _ _ w4 hq1.1 hq1.2 hq2.1 hq2.2 hN1 hN2 HN1.out HN2.out).mono ?_
   rintro e w5 ⟨⟨r1, r2, rfl, ho1, ho2, hne⟩, hb6⟩
   have k2 := (hb6.block (w.heap.size + 1 + 1) (by omega)).trans k2
   have hb7 := hb5.trans (hb6.mono hb5.size)
   have ho1 := oMn (base' := w.heap.size + 3) ho1 (by omega)
   have ho2 := oMn (base' := w.heap.size + 3) ho2 (by omega)
   obtain ⟨A1, d1, rfl, _, _⟩ := oSl ho1
   obtain ⟨A2, d2, rfl, _, _⟩ := oSl ho2
   clear hb5 hb6 o0 o1 o2 hq1 hq2
   have s0 := cell_of_row w5 (w.heap.size + 1 + 1) 0 _ _ (0, 0) k2
   have s1 := cell_of_row w5 (w.heap.size + 1 + 1) 1 _ _ (0, 0) k2
   have z0 := frozen_of_row w5 (w.heap.size + 1 + 1) 0 _ _ k2
   have z1 := frozen_of_row w5 (w.heap.size + 1 + 1) 1 _ _ k2
   simp at s0 s1
   generalize hN1' : tkN za id n = N1 at *
   generalize hN2' : tkN zb id m = N2 at *
   have E0 := Lib.hid (cell_of_row _ (w.heap.size + 1 + 1) 0 _ _ (0, 0) (zS1 (u := .slice A2 N2 d2) (zS0 (u := .slice A1 N1 d1) k2)))
   have E1 := Lib.hid (cell_of_row _ (w.heap.size + 1 + 1) 1 _ _ (0, 0) (zS1 (u := .slice A2 N2 d2) (zS0 (u := .slice A1 N1 d1) k2)))
   have H1 := Lib.hid hN1'
   have H2 := Lib.hid hN2'
   clear hN1' hN2' HN1 HN2
   go_wp2_with fail
   have e0 := E0.out
   have e1 := E1.out
   simp at e0 e1
   have ap : ∀ {v : Value} {N : Nat} {xs : List Value}, w5.ownsRow (w.heap.size + 3) 65 4 v N xs → ((w5.setCell ⟨w.heap.size + 1 + 1, 0, none⟩ (.slice A1 N1 d1)).setCell ⟨w.heap.size + 1 + 1, 1, none⟩ (.slice A2 N2 d2)).ownsRow w.heap.size 65 4 v N xs := fun h => by
    have h1 := own_apart h (set_grown w5 (w.heap.size + 1 + 1) 0 (.slice A1 N1 d1)) (fun q hq e => by have := (h.lt q hq).1; injection e with e; omega)
    exact oMn (own_apart h1 (set_grown _ (w.heap.size + 1 + 1) 1 (.slice A2 N2 d2)) (fun q hq e => by have := (h.lt q hq).1; injection e with e; omega)) (by omega)
   refine bodyPost_ret (v := .tuple #[.agg #[.slice A1 N1 d1, .slice A2 N2 d2], .bool true]) (by simp [results, Tryz.results57, go_sem, e0, e1]) rfl ⟨⟨s, f, true, _, _, HR.out, rfl, by rw [if_pos rfl, if_pos rfl, H1.out]; exact ap ho1, by rw [if_pos rfl, if_pos rfl, H2.out]; exact ap ho2, hne⟩, ?_⟩
   exact (hb7.setCell (p := ⟨w.heap.size + 1 + 1, 0, none⟩) le2 _).setCell (p := ⟨w.heap.size + 1 + 1, 1, none⟩) le2 _
end Go.Proofs.YtgjjdnojiegidaaGreatDoor
