/-
  TkP, SamR.
-/
import Derived.Test.YtdjmejjponlfoaaBookP
import Derived.Test.YtdjmejjponlfoaaTake
import Derived.Test.YtdjmejjponlfoaaFind
import Derived.Test.YtdjmejjponlfoaaGI
namespace Go.Proofs.Ytdjmejjponlfoaa
open Go.RowKit Wire

theorem srt_pair {side : Int} {zs : List Int} : ∀ n, srtO side zs n = true → ∀ i j, i < j → j < n → betB side (price zs j) (price zs i) = false
  | 0, _, _, _, _, h => absurd h (Nat.not_lt_zero _)
  | n + 1, hs, i, j, hij, hj => by
    rw [srtO, Bool.and_eq_true] at hs
    rcases Nat.lt_or_ge j n with h1 | h1
    · exact srt_pair n hs.1 i j hij h1
    · obtain rfl : j = n := by omega
      have h2 : betB side (price zs j) (price zs (j - 1)) = false := by
        have := hs.2
        rw [decide_eq_false (by omega), Bool.false_or, Bool.not_eq_true'] at this
        exact this
      rcases Nat.eq_or_lt_of_le (show i ≤ j - 1 by omega) with e | h3
      · rw [e]; exact h2
      · have h4 := srt_pair j hs.1 i (j - 1) h3 (by omega)
        unfold betB at h2 h4 ⊢
        split at h2 <;> simp_all <;> omega
theorem srt_of {side : Int} {zs : List Int} : ∀ n, (∀ i j, i < j → j < n → betB side (price zs j) (price zs i) = false) → srtO side zs n = true
  | 0, _ => rfl
  | n + 1, h => by
    rw [srtO, srt_of n (fun i j a b => h i j a (by omega))]
    rcases Nat.eq_zero_or_pos n with rfl | h0
    · rfl
    · rw [h (n - 1) n (by omega) (by omega)]; simp
theorem all_of {zs : List Int} : ∀ n, (∀ k, k < n → ordB zs k = true) → allO zs n = true
  | 0, _ => rfl
  | n + 1, h => by rw [allO, all_of n (fun k hk => h k (by omega)), h n (by omega)]; rfl
theorem seen_at' {f : Nat → Int} {x : Int} {k : Nat} (h : f k = x) : ∀ n, k < n → seenB f x n = true
  | 0, hk => absurd hk (Nat.not_lt_zero k)
  | n + 1, hk => by
    rw [seenB, Bool.or_eq_true]
    rcases Nat.lt_or_ge k n with hl | hl
    · exact .inl (seen_at' h n hl)
    · obtain rfl : k = n := by omega
      exact .inr (by simp [h])
theorem seen_no' {f : Nat → Int} {x : Int} : ∀ n, (∀ k, k < n → f k ≠ x) → seenB f x n = false
  | 0, _ => rfl
  | n + 1, h => by rw [seenB, seen_no' n (fun k hk => h k (by omega)), beq_eq_false_iff_ne.2 (h n (by omega))]; rfl
theorem dist_pair {f : Nat → Int} : ∀ n, distB f n = true → ∀ i j, i < j → j < n → f i ≠ f j
  | 0, _, _, _, _, h => absurd h (Nat.not_lt_zero _)
  | n + 1, hd, i, j, hij, hj => by
    rw [distB, Bool.and_eq_true, Bool.not_eq_true'] at hd
    rcases Nat.lt_or_ge j n with h1 | h1
    · exact dist_pair n hd.1 i j hij h1
    · obtain rfl : j = n := by omega
      intro e
      have := seen_at' e j hij
      rw [hd.2] at this
      cases this
theorem dist_of {f : Nat → Int} : ∀ n, (∀ i j, i < j → j < n → f i ≠ f j) → distB f n = true
  | 0, _ => rfl
  | n + 1, h => by
    rw [distB, dist_of n (fun i j a b => h i j a (by omega)), seen_no' n (fun k hk => h k n hk (by omega))]
    rfl
/-- what finding in a right book comes to -/
theorem find_all {za zb : List Int} {n m : Nat} {id s : Int} {f : Nat → Int} {ok : Bool} (h : FindRel true za n zb m id s f ok) :
    (ok = true → (∃ k, k < n ∧ num za (k * 4) = id ∧ ∀ j, j < 4 → f j = num za (k * 4 + j)) ∨ (∃ k, k < m ∧ num zb (k * 4) = id ∧ ∀ j, j < 4 → f j = num zb (k * 4 + j))) ∧
    (ok = false → (∀ k, k < n → num za (k * 4) ≠ id) ∧ ∀ k, k < m → num zb (k * 4) ≠ id) := by
  rcases h with ⟨-, k, hk, -, e, -, ho, hf⟩ | ⟨-, -, k, hk, -, e, -, ho, hf⟩ | ⟨h0, -, ho, -⟩
  · exact ⟨fun _ => .inl ⟨k, hk, e, hf⟩, fun c => by rw [ho] at c; cases c⟩
  · exact ⟨fun _ => .inr ⟨k, hk, e, hf⟩, fun c => by rw [ho] at c; cases c⟩
  · refine And.intro (fun c => by rw [ho] at c; exact absurd c (by decide)) (fun _ => ?_)
    rcases h0 with h0 | h0
    · cases h0
    · exact h0
theorem idA_at1 {za zb : List Int} {n k : Nat} (h : k < n) : idA za n zb k = num za (k * 4) := if_pos h
theorem idA_at2 {za zb : List Int} {n k : Nat} : idA za n zb (n + k) = num zb (k * 4) := by
  unfold idA
  rw [if_neg (by omega), show n + k - n = k by omega]
end Go.Proofs.Ytdjmejjponlfoaa

namespace Go.Proofs.Ytdjmejjponlfoaa
open Go.RowKit Wire

set_option maxHeartbeats 1600000 in
set_option maxRecDepth 100000 in
theorem sameRecs_same (A B : Option Addr) (n c d : Nat) (zs : List Int) (w : World) (hA : Lst w w.heap.size 8 A n zs) (hB : Lst w w.heap.size 8 B n zs) (hn : n ≤ 1048576) :
    Calls Try.prog 14 #[.slice A n c, .slice B n d] w fun e w' => e = .returned (.bool true) ∧ Below w.heap.size w w' := by
  go_enter Try.func14, Try.ntmps14
  go_wp2_with fail
  go_loopw [5] (fun i wr => ∃ k : Nat, k ≤ n ∧ i = .int .i64 (k : Int) ∧ Below w.heap.size w wr) (fun i _ => n - (intOf i).toNat)
  case atStart => exact ⟨0, Nat.zero_le _, rfl, Below.refl _ _⟩
  case round =>
    obtain ⟨k, hk, rfl, hbel⟩ := hrel
    by_cases hlt : k < n
    · obtain ⟨b, o, rfl, hb, c0, c1, c2, c3, c4, c5, c6, c7⟩ := (hA.below hbel).row8 hlt
      obtain ⟨b', o', rfl, hb', d0, d1, d2, d3, d4, d5, d6, d7⟩ := (hB.below hbel).row8 hlt
      clear hA hB
      go_wp2_with fail
      have hb1 := hbel.size
      go_region_held3 (fun w' => Below w.heap.size w w' ∧ w'.cell? ⟨b, o + k * 8, none⟩ = some (.int .i64 (num zs (k * 8))) ∧ w'.cell? ⟨b, o + k * 8 + 1, none⟩ = some (.int .i64 (num zs (k * 8 + 1))) ∧ w'.cell? ⟨b, o + k * 8 + 2, none⟩ = some (.int .i64 (num zs (k * 8 + 2))) ∧ w'.cell? ⟨b, o + k * 8 + 3, none⟩ = some (.int .i64 (num zs (k * 8 + 3))) ∧ w'.cell? ⟨b, o + k * 8 + 4, none⟩ = some (.int .i64 (num zs (k * 8 + 4))) ∧ w'.cell? ⟨b, o + k * 8 + 5, none⟩ = some (.int .i64 (num zs (k * 8 + 5))) ∧ w'.cell? ⟨b, o + k * 8 + 6, none⟩ = some (.int .i64 (num zs (k * 8 + 6))) ∧ w'.cell? ⟨b, o + k * 8 + 7, none⟩ = some (.int .i64 (num zs (k * 8 + 7))) ∧ w'.cell? ⟨b', o' + k * 8, none⟩ = some (.int .i64 (num zs (k * 8))) ∧ w'.cell? ⟨b', o' + k * 8 + 1, none⟩ = some (.int .i64 (num zs (k * 8 + 1))) ∧ w'.cell? ⟨b', o' + k * 8 + 2, none⟩ = some (.int .i64 (num zs (k * 8 + 2))) ∧ w'.cell? ⟨b', o' + k * 8 + 3, none⟩ = some (.int .i64 (num zs (k * 8 + 3))) ∧ w'.cell? ⟨b', o' + k * 8 + 4, none⟩ = some (.int .i64 (num zs (k * 8 + 4))) ∧ w'.cell? ⟨b', o' + k * 8 + 5, none⟩ = some (.int .i64 (num zs (k * 8 + 5))) ∧ w'.cell? ⟨b', o' + k * 8 + 6, none⟩ = some (.int .i64 (num zs (k * 8 + 6))) ∧ w'.cell? ⟨b', o' + k * 8 + 7, none⟩ = some (.int .i64 (num zs (k * 8 + 7)))) ((((try dsimp only); repeat' apply And.intro) <;> (first | assumption | (refine below_later ?_ (by assumption); first | assumption | (simp only [*]; done) | (go_grown; done)) | (refine cell_later (by assumption) ?_; first | assumption | (simp only [*]; done) | (simp [go_sem]; done)) | (go_grown; done) | (simp [go_sem]; done))))
        (fail)
      go_wp2_with fail
      go_roundw
      case rel => exact ⟨k + 1, by omega, by go_num, by first | assumption | (simp only [*]; done)⟩
      case measure => simp [intOf]; omega
    · obtain rfl : k = n := by omega
      go_wp2_with fail
      go_ret
      exact ⟨rfl, hbel⟩
end Go.Proofs.Ytdjmejjponlfoaa
