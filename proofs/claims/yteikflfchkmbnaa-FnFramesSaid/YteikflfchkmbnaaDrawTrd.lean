/-
  Drawn trades.
-/
import Derived.Test.YteikflfchkmbnaaDraw
import Derived.Test.YteikflfchkmbnaaOwn
namespace Go.Proofs.Yteikflfchkmbnaa
open Go.RowKit Wire

theorem nums_set (zs : List Int) (j : Nat) (x : Int) : nums (zs.set j x) = (nums zs).set j (.int .i64 x) := by simp [nums, List.map_set]
/-- drawn rows of a call's own -/
def DrawnRows (w : World) (g : Nat) (A : Option Addr) (len cap : Nat) (T : TypeId) (sz most : Nat) (e : Ending) (w' : World) : Prop :=
  ∃ (v : Value) (n : Nat) (zs : List Int) (p : Nat), n ≤ most ∧ e = .returned v ∧ w'.ownsRow w.heap.size T sz v n (nums zs) ∧ RdAt w' g A len cap p ∧ w.grownBy w' (some g)
theorem only_below {a w w1 : World} {row : Option Nat} (h : a.grownBy w row) (hb : Below w.heap.size w w1) : a.grownBy w1 row :=
  ⟨hb.os.trans h.os, hb.tape.trans h.tape, hb.output.trans h.output, Nat.le_trans h.size hb.size, fun k hk hne => (hb.block k (Nat.lt_of_lt_of_le hk h.size)).trans (h.block k hk hne)⟩
theorem RdAt.below {w w1 : World} {g : Nat} {A : Option Addr} {len cap p : Nat} (h : RdAt w g A len cap p) (hb : Below w.heap.size w w1) : RdAt w1 g A len cap p := ⟨h.1, (hb.block g h.lt).trans h.2⟩
theorem trd_info : (Try.prog.info? 31).map (fun i => (i.zero, i.size, i.bytes)) = some (some (.agg #[.int .i64 0, .int .i64 0]), 2, 16) := by kernel_rfl
set_option linter.unusedSimpArgs false in
set_option maxHeartbeats 1600000 in
set_option maxRecDepth 100000 in
theorem trades_any (most : Nat) (g : Nat) (A : Option Addr) (len cap p : Nat) (w : World) (hr : RdAt w g A len cap p) (hs : Src w g A len) (hl : len ≤ 9223372036854775807) (hmost : most ≤ 1000) :
    Calls Try.prog 62 #[.pointer (some ⟨g, 0, none⟩), .int .i64 (most : Int)] w (DrawnRows w g A len cap 31 2 most) := by
  obtain ⟨i0, hi, hz0, hz1, hz2⟩ := info_parts trd_info
  go_enter Try.func62, Try.ntmps62
  go_wp2_with fail
  refine (below_any ((most : Int) + 1) g A len cap p _ (hr.alloc _) (hs.keep (only_alloc (World.grownBy.refl _ _) _) (Nat.le_of_lt hr.lt)) hl (by omega) (by omega)).mono ?_
  rintro e w1 ⟨m, p1, m0, m1, rfl, hr1, hg1⟩
  have hlt := hr.lt
  have hB : w1.heap[w.heap.size]? = some (.cells #[] 31 (0, 0)) := (hg1.block w.heap.size (by simp) (fun e => by injection e with e; omega)).trans (heap_alloc_new w _)
  have hown1 : w1.ownsRow w.heap.size 31 2 (.slice (some ⟨w.heap.size, 0, none⟩) 0 0) 0 (nums []) := ⟨rfl, .inr ⟨w.heap.size, 0, #[], rfl, Nat.le_refl _, hB, Nat.le_refl _, Nat.zero_le _, rfl, rfl⟩⟩
  have hgw1 : w.grownBy w1 (some g) := only_trans (only_alloc (World.grownBy.refl _ _) _) hg1
  obtain ⟨M, rfl⟩ := Int.eq_ofNat_of_zero_le m0
  have hM : M ≤ most := by omega
  clear hB hg1 m0 m1
  go_wp2_with fail
  go_loopw [5, 6] (fun v i wr => ∃ (zs : List Int) (n k q : Nat), n + k ≤ most ∧ i = .int .i64 (k : Int) ∧ (∃ g' cap', v = .slice (some ⟨g', 0, none⟩) n cap') ∧ wr.ownsRow w.heap.size 31 2 v n (nums zs) ∧ RdAt wr g A len cap q ∧ w.grownBy wr (some g)) (fun _ i _ => (intOf i).toNat)
  case atStart => exact ⟨[], 0, M, p1, by omega, rfl, ⟨_, _, rfl⟩, hown1, hr1, hgw1⟩
  case round =>
    clear hown1 hr1 hgw1
    obtain ⟨zs, n, k, q, hk, rfl, ⟨g', cap', rfl⟩, hown, hq, hgr⟩ := hrel
    rcases k with _ | k
    · go_wp2_with fail
      refine (once_any 20 g A len cap q _ hq (hs.keep hgr (Nat.le_of_lt hlt)) hl (by omega) (by omega)).mono ?_
      rintro e w2 ⟨b, p2, rfl, hr2, hg2⟩
      have hown2 := hown.kept hg2 (.inr (fun e => by have := (hown.lt g' rfl).1; simp [Value.ownBlock] at e; omega))
      have hgr2 := only_trans hgr hg2
      clear hown hq hgr hg2
      by_cases hb : b = true ∧ 0 < n
      · obtain ⟨rfl, hn0⟩ := hb
        have t1 : decide (0 < (n : Int)) = true := decide_eq_true (by omega)
        go_wp2_with fail
        refine (off_any 1 1000000 g A len cap p2 _ hr2 (hs.keep hgr2 (Nat.le_of_lt hlt)) hl (by omega) (by omega) (by omega)).mono ?_
        rintro e w3 ⟨x, p3, hx, rfl, hr3, hg3⟩
        have hbase := (hown2.lt g' rfl).1
        have hown3 := hown2.kept hg3 (.inr (fun e => by simp [Value.ownBlock] at e; omega))
        have hgr3 := only_trans hgr2 hg3
        have hc := hown3.cellAt 0 (by omega)
        have hl3 : (nums zs).length = n * 2 := by simpa using hown3.1
        obtain ⟨u, hu⟩ : ∃ u, (nums zs)[0]? = some u := ⟨_, List.getElem?_eq_getElem (by omega)⟩
        rw [hu] at hc
        have hz := hown3.frozenAt 0
        obtain ⟨hown4, hgr4⟩ := hown3.stored 0 (.int .i64 x)
        rw [← nums_set] at hown4
        have hr4 : RdAt (w3.setCell ⟨g', 0, none⟩ (.int .i64 x)) g A len cap p3 := hr3.own hgr4 (fun k hk => by simp [Value.ownBlock] at hk; omega)
        have hgr5 := only_own hgr3 hgr4 (fun k hk => by simp [Value.ownBlock] at hk; omega)
        clear hown3 hgr4 hr3 hgr3 hown2 hr2 hgr2 hg3 hu hl3
        go_wp2_with fail
        go_ret
        exact ⟨_, n, zs.set 0 x, p3, by omega, rfl, hown4, hr4, hgr5⟩
      · have t1 : (b && decide (0 < (n : Int))) = false := by
          cases b
          · rfl
          · simp at hb ⊢; omega
        go_wp2_with fail
        all_goals first
          | (go_ret; exact ⟨_, n, zs, p2, by omega, rfl, hown2, hr2, hgr2⟩)
          | (exfalso; apply hb; exact ⟨by assumption, by omega⟩)
          | skip
    · go_wp2_with fail
      refine (below_any 7 g A len cap q _ hq (hs.keep hgr (Nat.le_of_lt hlt)) hl (by omega) (by omega)).mono ?_
      rintro e w2 ⟨x, p2, x0, x1, rfl, hr2, hg2⟩
      have hgr2 := only_trans hgr hg2
      have hown2 := hown.kept hg2 (.inr (fun e => by have := (hown.lt g' rfl).1; simp [Value.ownBlock] at e; omega))
      clear hown hq hgr hg2
      go_wp2_with fail
      refine (below_any 9 g A len cap p2 _ hr2 (hs.keep hgr2 (Nat.le_of_lt hlt)) hl (by omega) (by omega)).mono ?_
      rintro e w3 ⟨y, p3, y0, y1, rfl, hr3, hg3⟩
      have hgr3 := only_trans hgr2 hg3
      have hown3 := hown2.kept hg3 (.inr (fun e => by have := (hown2.lt g' rfl).1; simp [Value.ownBlock] at e; omega))
      have hsz3 := hgr3.size
      clear hown2 hr2 hgr2 hg3
      go_wp2_with (at_builtin; refine wpList_append_own _ rfl _ _ 28 rfl w.heap.size 31 i0 _ 2 16 Try.underlying28 hi hz0 hz1 hz2 rfl (by decide) _ _ _ rfl (hown3.alloc _) ⟨w3.heap.size, 0, none⟩ 1 1 (nums [97 + x, 1 + y]) rfl rfl ?c1 ?c2 ?c3 ?c4 ?c5 ?_)
      case c1 => exact World.news_of_block (heap_alloc_new w3 _)
      case c2 => exact nums_one _
      case c3 => unfold maxLen; omega
      case c4 => omega
      case c5 => simp; omega
      intro v' w4 hown4 hgrow4 _
      rw [← nums_append] at hown4
      have hv : ∃ g2 cap2, v' = .slice (some ⟨g2, 0, none⟩) (n + 1) cap2 := by
        rcases hown4.2 with ⟨_, h⟩ | ⟨a, b, c, h, _⟩
        · simp at h
        · exact ⟨_, _, h⟩
      have hbase := (hown3.lt g' rfl).1
      have hr4 : RdAt w4 g A len cap p3 := (hr3.alloc _).own hgrow4 (fun k hk => by simp [Value.ownBlock] at hk; omega)
      have hgr4 := only_own (only_alloc hgr3 _) hgrow4 (fun k hk => by simp [Value.ownBlock] at hk; omega)
      clear hgrow4 hown3 hr3 hgr3
      go_wp2_with fail
      go_roundw
      case rel => exact ⟨zs ++ [97 + x, 1 + y], n + 1, k, p3, by omega, by go_num, hv, hown4, hr4, hgr4⟩
      case measure => simp [intOf]
/-- rows that a call has drawn, and owns -/
def SomeOwn (T : TypeId) (sz most : Nat) (w : World) (e : Ending) (w' : World) : Prop := ∃ (v : Value) (n : Nat) (zs : List Int), n ≤ most ∧ e = .returned v ∧ w'.ownsRow w.heap.size T sz v n (nums zs) ∧ Below w.heap.size w w'
set_option maxHeartbeats 400000 in
set_option maxRecDepth 100000 in
theorem DrawCandleOf_any (A : Option Addr) (len cap : Nat) (w : World) (hs : Src w w.heap.size A len) (hl : len ≤ 9223372036854775807) :
    Calls Try.prog 23 #[.slice A len cap] w (SomeOwn 31 2 8 w) := by
  go_enter Try.func23, Try.ntmps23
  go_wp2_with fail
  refine (open_any A len cap _).mono ?_
  rintro e w1 ⟨rfl, rfl⟩
  have hr0 : RdAt (w.alloc (.cells #[.slice A len cap, .int .i64 0] 112)) w.heap.size A len cap 0 := ⟨Nat.zero_le _, heap_alloc_new w _⟩
  have hs0 : Src (w.alloc (.cells #[.slice A len cap, .int .i64 0] 112)) w.heap.size A len := hs.keep (only_alloc (World.grownBy.refl _ _) _) (Nat.le_refl _)
  have hb0 : Below w.heap.size w (w.alloc (.cells #[.slice A len cap, .int .i64 0] 112)) := (Below.refl _ _).alloc (Nat.le_refl _) _
  generalize w.alloc (.cells #[.slice A len cap, .int .i64 0] 112) = w0 at *
  go_wp2_with fail
  refine (trades_any 8 w.heap.size A len cap 0 _ hr0 hs0 hl (by omega)).mono ?_
  rintro e w1 ⟨v, n, zs, p, hn, rfl, hown, hr1, hg1⟩
  have hown1 : w1.ownsRow w.heap.size 31 2 v n (nums zs) := ⟨hown.1, hown.2.imp id (fun ⟨g, cap, cur, a, b, c⟩ => ⟨g, cap, cur, a, Nat.le_trans hb0.size b, c⟩)⟩
  have hbw : Below w.heap.size w w1 := hb0.grown hg1 hb0.size (fun k h => by cases h; exact Nat.le_refl _)
  obtain ⟨A1, c1, rfl, _, _⟩ := own_slice hown1
  clear hown hr1 hg1
  go_wp2_with fail
  go_ret
  exact ⟨_, n, zs, hn, rfl, hown1, hbw⟩
set_option maxHeartbeats 400000 in
set_option maxRecDepth 100000 in
theorem DrawVwap_any (A : Option Addr) (len cap : Nat) (w : World) (hs : Src w w.heap.size A len) (hl : len ≤ 9223372036854775807) :
    Calls Try.prog 32 #[.slice A len cap] w (SomeOwn 31 2 8 w) := by
  go_enter Try.func32, Try.ntmps32
  go_wp2_with fail
  refine (DrawCandleOf_any A len cap _ hs hl).mono ?_
  rintro e w1 ⟨v, n, zs, hn, rfl, hown, hb⟩
  obtain ⟨A1, c1, rfl, _, _⟩ := own_slice hown
  go_wp2_with fail
  go_ret
  exact ⟨_, n, zs, hn, rfl, hown, hb⟩
end Go.Proofs.Yteikflfchkmbnaa
