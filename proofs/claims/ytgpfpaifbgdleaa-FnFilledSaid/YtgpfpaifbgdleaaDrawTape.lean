/-
  A drawn list of records.
-/
import Derived.Test.YtgpfpaifbgdleaaDrawRec
import Derived.Test.YtgpfpaifbgdleaaListRec
namespace Go.Proofs.Ytgpfpaifbgdleaa
open Go.RowKit Wire

/-- a slice of n rows, with room for c -/
def Has (w : World) (sz : Nat) (A : Option Addr) (n c : Nat) (zs : List Int) : Prop := n ≤ c ∧ c ≤ maxLen ∧ (0 < n → A ≠ none) ∧ Lst w w.heap.size sz A n zs
theorem Has.later {w w' : World} {sz n c : Nat} {A : Option Addr} {zs : List Int} (h : Has w sz A n c zs) (hb : Below w.heap.size w w') : Has w' sz A n c zs := ⟨h.1, h.2.1, h.2.2.1, h.2.2.2.later hb⟩
theorem Has.of_own {w : World} {base sz n : Nat} {e : TypeId} {v : Value} {zs : List Int} (h : w.ownsRow base e sz v n (nums zs)) : ∃ (A : Option Addr) (c : Nat), v = .slice A n c ∧ Has w sz A n c zs := by
  rcases id h.2 with ⟨rfl, rfl⟩ | ⟨g, cap, cur, rfl, _, _, h1, h2, _⟩
  · exact ⟨none, 0, rfl, Nat.le_refl _, Nat.zero_le _, fun hn => by omega, Lst.of_own h⟩
  · exact ⟨_, cap, rfl, h1, h2, fun _ => by simp, Lst.of_own h⟩
/-- some list of at most so many rows -/
def SomeRows (sz most : Nat) (w : World) (e : Ending) (w' : World) : Prop := ∃ (A : Option Addr) (n c : Nat) (zs : List Int), n ≤ most ∧ e = .returned (.slice A n c) ∧ Has w' sz A n c zs ∧ Below w.heap.size w w' ∧ ∀ a, A = some a → w.heap.size ≤ a.block
set_option maxHeartbeats 1600000 in
set_option maxRecDepth 100000 in
theorem DrawTape_any (A : Option Addr) (len cap : Nat) (w : World) (hs : Src w w.heap.size A len) (hl : len ≤ 9223372036854775807) :
    Calls Try.prog 40 #[.slice A len cap] w (SomeRows 8 4 w) := by
  obtain ⟨i0, hi, hz0, hz1, hz2⟩ := info_parts rec_info
  go_enter Try.func40, Try.ntmps40
  go_wp2_with fail
  refine (open_any A len cap _).mono ?_
  rintro e w1 ⟨rfl, rfl⟩
  have hr0 : RdAt (w.alloc (.cells #[.slice A len cap, .int .i64 0] 111)) w.heap.size A len cap 0 := ⟨Nat.zero_le _, heap_alloc_new w _⟩
  have hs0 : Src (w.alloc (.cells #[.slice A len cap, .int .i64 0] 111)) w.heap.size A len := hs.keep (only_alloc (World.grownBy.refl _ _) _) (Nat.le_refl _)
  have hb0 : Below w.heap.size w (w.alloc (.cells #[.slice A len cap, .int .i64 0] 111)) := (Below.refl _ _).alloc (Nat.le_refl _) _
  have hlt0 : w.heap.size < (w.alloc (.cells #[.slice A len cap, .int .i64 0] 111)).heap.size := by simp
  generalize w.alloc (.cells #[.slice A len cap, .int .i64 0] 111) = w0 at *
  go_wp2_with fail
  refine (below_any 5 w.heap.size A len cap 0 _ (hr0.alloc _) (hs0.keep (only_alloc (World.grownBy.refl _ _) _) (Nat.le_of_lt hlt0)) hl (by omega) (by omega)).mono ?_
  rintro e w1 ⟨m, p1, m0, m1, rfl, hr1, hg1⟩
  have hB : w1.heap[w0.heap.size]? = some (.cells #[] 69 (0, 0)) := (hg1.block w0.heap.size (by simp) (fun e => by injection e with e; omega)).trans (heap_alloc_new w0 _)
  have hown1 : w1.ownsRow w0.heap.size 69 8 (.slice (some ⟨w0.heap.size, 0, none⟩) 0 0) 0 (nums []) := ⟨rfl, .inr ⟨w0.heap.size, 0, #[], rfl, Nat.le_refl _, hB, Nat.le_refl _, Nat.zero_le _, rfl, rfl⟩⟩
  have hgw1 : w0.grownBy w1 (some w.heap.size) := only_trans (only_alloc (World.grownBy.refl _ _) _) hg1
  obtain ⟨M, rfl⟩ := Int.eq_ofNat_of_zero_le m0
  have hM : M ≤ 4 := by omega
  clear hB hg1 m0 m1
  go_wp2_with fail
  go_loopw [4, 5] (fun v i wr => ∃ (zs : List Int) (n k q : Nat), n + k ≤ 4 ∧ i = .int .i64 (k : Int) ∧ (∃ g' cap', v = .slice (some ⟨g', 0, none⟩) n cap') ∧ wr.ownsRow w0.heap.size 69 8 v n (nums zs) ∧ RdAt wr w.heap.size A len cap q ∧ w0.grownBy wr (some w.heap.size)) (fun _ i _ => (intOf i).toNat)
  case atStart => exact ⟨[], 0, M, p1, by omega, rfl, ⟨_, _, rfl⟩, hown1, hr1, hgw1⟩
  case round =>
    obtain ⟨zs, n, k, q, hk, rfl, ⟨g', cap', rfl⟩, hown, hq, hgr⟩ := hrel
    rcases k with _ | k
    · have hbase := (hown.lt g' rfl).1
      obtain ⟨A', c', e1, hhas⟩ := Has.of_own hown
      injection e1 with e1 _ e3
      subst e1 e3
      clear hown
      have hbw : Below w.heap.size w wr := hb0.grown hgr hb0.size (fun k h => by cases h; exact Nat.le_refl _)
      go_wp2_with fail
      go_ret
      exact ⟨_, n, _, zs, by omega, rfl, hhas, hbw, fun a h => by injection h with h; subst h; show w.heap.size ≤ g'; omega⟩
    · go_wp2_with fail
      refine (rec_any w.heap.size A len cap q _ hq (hs0.keep hgr (Nat.le_of_lt hlt0)) hl).mono ?_
      rintro e w2 ⟨f, p2, hf, rfl, hr2, hg2⟩
      have hown2 := hown.kept hg2 (.inr (fun e => by have := (hown.lt g' rfl).1; simp [Value.ownBlock] at e; omega))
      have hgr2 := only_trans hgr hg2
      have hsz2 := hgr2.size
      clear hown hq hgr hg2
      go_wp2_with (at_builtin; refine wpList_append_own _ rfl _ _ 24 rfl w0.heap.size 69 i0 _ 8 64 Try.underlying24 hi hz0 hz1 hz2 rfl (by decide) _ _ _ rfl (hown2.alloc _) ⟨w2.heap.size, 0, none⟩ 1 1 (nums [f 0, f 1, f 2, f 3, f 4, f 5, f 6, f 7]) rfl rfl ?c1 ?c2 ?c3 ?c4 ?c5 ?_)
      case c1 => exact World.news_of_block (heap_alloc_new w2 _)
      case c2 => exact nums_one _
      case c3 => unfold maxLen; omega
      case c4 => omega
      case c5 => simp; omega
      intro v' w3 hown3 hgrow3 _
      rw [← nums_append] at hown3
      have hv : ∃ g2 cap2, v' = .slice (some ⟨g2, 0, none⟩) (n + 1) cap2 := by
        rcases hown3.2 with ⟨_, h⟩ | ⟨a, b, c, h, _⟩
        · simp at h
        · exact ⟨_, _, h⟩
      have hbase := (hown2.lt g' rfl).1
      have hr3 : RdAt w3 w.heap.size A len cap p2 := (hr2.alloc _).own hgrow3 (fun k hk => by simp [Value.ownBlock] at hk; omega)
      have hgr3 := only_own (only_alloc hgr2 _) hgrow3 (fun k hk => by simp [Value.ownBlock] at hk; omega)
      clear hgrow3 hown2 hr2 hgr2
      go_wp2_with fail
      go_roundw
      case rel => exact ⟨zs ++ [f 0, f 1, f 2, f 3, f 4, f 5, f 6, f 7], n + 1, k, p2, by omega, by go_num, hv, hown3, hr3, hgr3⟩
      case measure => simp [intOf]
end Go.Proofs.Ytgpfpaifbgdleaa
