/-
  TkP, SamR.
-/
import Derived.Test.YtempggikcpminaaBookP
import Derived.Test.YtempggikcpminaaTake
import Derived.Test.YtempggikcpminaaFind
import Derived.Test.YtempggikcpminaaGI
namespace Go.Proofs.Ytempggikcpminaa
open Go.RowKit Wire

theorem seen_at' {f : Nat → Int} {x : Int} {k : Nat} (h : f k = x) : ∀ n, k < n → seenB f x n = true
  | 0, hk => absurd hk (Nat.not_lt_zero k)
  | n + 1, hk => by
    rw [seenB, Bool.or_eq_true]
    rcases Nat.lt_or_ge k n with hl | hl
    · exact .inl (seen_at' h n hl)
    · obtain rfl : k = n := by omega
      exact .inr (by simp [h])
theorem idA_at1 {za zb : List Int} {n k : Nat} (h : k < n) : idA za n zb k = num za (k * 4) := if_pos h
theorem idA_at2 {za zb : List Int} {n k : Nat} : idA za n zb (n + k) = num zb (k * 4) := by
  unfold idA
  rw [if_neg (by omega), show n + k - n = k by omega]
end Go.Proofs.Ytempggikcpminaa

namespace Go.Proofs.Ytempggikcpminaa
open Go.RowKit Wire

set_option maxHeartbeats 1600000 in
set_option maxRecDepth 100000 in
theorem sameRecs_same (A B : Option Addr) (n c d : Nat) (zs : List Int) (w : World) (hA : Lst w w.heap.size 8 A n zs) (hB : Lst w w.heap.size 8 B n zs) (hn : n ≤ 1048576) :
    Calls Try.prog 11 #[.slice A n c, .slice B n d] w fun e w' => e = .returned (.bool true) ∧ Below w.heap.size w w' := by
  go_enter Try.func11, Try.ntmps11
  go_wp2_with fail
  go_loopw [5] (fun i wr => ∃ k : Nat, k ≤ n ∧ i = .int .i64 (k : Int) ∧ Below w.heap.size w wr) (fun i _ => n - (intOf i).toNat)
  case atStart => exact ⟨0, Nat.zero_le _, rfl, Below.refl _ _⟩
  case round =>
    obtain ⟨k, hk, rfl, hbel⟩ := hrel
    by_cases hlt : k < n
    · obtain ⟨b, o, rfl, hb, c0, c1, c2, c3, c4, c5, c6, c7⟩ := (hA.below hbel).row8 hlt
      obtain ⟨b', o', rfl, hb', d0, d1, d2, d3, d4, d5, d6, d7⟩ := (hB.below hbel).row8 hlt
      clear hA hB
      go_wp2_with fail
      have hb1 := hbel.size
      go_region_held3 (fun w' => Below w.heap.size w w' ∧ w'.cell? ⟨b, o + k * 8, none⟩ = some (.int .i64 (num zs (k * 8))) ∧ w'.cell? ⟨b, o + k * 8 + 1, none⟩ = some (.int .i64 (num zs (k * 8 + 1))) ∧ w'.cell? ⟨b, o + k * 8 + 2, none⟩ = some (.int .i64 (num zs (k * 8 + 2))) ∧ w'.cell? ⟨b, o + k * 8 + 3, none⟩ = some (.int .i64 (num zs (k * 8 + 3))) ∧ w'.cell? ⟨b, o + k * 8 + 4, none⟩ = some (.int .i64 (num zs (k * 8 + 4))) ∧ w'.cell? ⟨b, o + k * 8 + 5, none⟩ = some (.int .i64 (num zs (k * 8 + 5))) ∧ w'.cell? ⟨b, o + k * 8 + 6, none⟩ = some (.int .i64 (num zs (k * 8 + 6))) ∧ w'.cell? ⟨b, o + k * 8 + 7, none⟩ = some (.int .i64 (num zs (k * 8 + 7))) ∧ w'.cell? ⟨b', o' + k * 8, none⟩ = some (.int .i64 (num zs (k * 8))) ∧ w'.cell? ⟨b', o' + k * 8 + 1, none⟩ = some (.int .i64 (num zs (k * 8 + 1))) ∧ w'.cell? ⟨b', o' + k * 8 + 2, none⟩ = some (.int .i64 (num zs (k * 8 + 2))) ∧ w'.cell? ⟨b', o' + k * 8 + 3, none⟩ = some (.int .i64 (num zs (k * 8 + 3))) ∧ w'.cell? ⟨b', o' + k * 8 + 4, none⟩ = some (.int .i64 (num zs (k * 8 + 4))) ∧ w'.cell? ⟨b', o' + k * 8 + 5, none⟩ = some (.int .i64 (num zs (k * 8 + 5))) ∧ w'.cell? ⟨b', o' + k * 8 + 6, none⟩ = some (.int .i64 (num zs (k * 8 + 6))) ∧ w'.cell? ⟨b', o' + k * 8 + 7, none⟩ = some (.int .i64 (num zs (k * 8 + 7)))) ((((try dsimp only); repeat' apply And.intro) <;> (first | assumption | (refine below_later ?_ (by assumption); first | assumption | (simp only [*]; done) | (go_grown; done)) | (refine cell_later (by assumption) ?_; first | assumption | (simp only [*]; done) | (simp [go_sem]; done)) | (go_grown; done) | (simp [go_sem]; done))))
        (fail)
      go_wp2_with fail
      go_roundw
      case rel => exact ⟨k + 1, by omega, by go_num, by first | assumption | (simp only [*]; done)⟩
      case measure => simp [intOf]; omega
    · obtain rfl : k = n := by omega
      go_wp2_with fail
      go_ret
      exact ⟨rfl, hbel⟩
end Go.Proofs.Ytempggikcpminaa
