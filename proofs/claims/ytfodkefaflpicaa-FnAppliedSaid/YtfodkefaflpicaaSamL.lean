/-
  Levels that are the same are found to be the same.
-/
import Derived.Test.YtfodkefaflpicaaPod
namespace Go.Proofs.Ytfodkefaflpicaa
open Go.RowKit Wire

set_option maxHeartbeats 1600000 in
set_option maxRecDepth 100000 in
theorem sameLevels_same (A B : Option Addr) (n c d : Nat) (zs : List Int) (w : World) (hA : Lst w w.heap.size 3 A n zs) (hB : Lst w w.heap.size 3 B n zs) (hn : n ≤ 1048576) :
    Calls Try.prog 20 #[.slice A n c, .slice B n d] w fun e w' => e = .returned (.bool true) ∧ Below w.heap.size w w' := by
  go_enter Try.func20, Try.ntmps20
  go_wp2_with fail
  go_loopw [5] (fun i wr => ∃ k : Nat, k ≤ n ∧ i = .int .i64 (k : Int) ∧ Below w.heap.size w wr) (fun i _ => n - (intOf i).toNat)
  case atStart => exact ⟨0, Nat.zero_le _, rfl, Below.refl _ _⟩
  case round =>
    obtain ⟨k, hk, rfl, hbel⟩ := hrel
    by_cases hlt : k < n
    · obtain ⟨b, o, rfl, hb, c0, c1, c2⟩ := (hA.below hbel).row3 hlt
      obtain ⟨b', o', rfl, hb', d0, d1, d2⟩ := (hB.below hbel).row3 hlt
      clear hA hB
      go_wp2_with fail
      have hb1 := hbel.size
      go_region_held3 (fun w' => Below w.heap.size w w' ∧ w'.cell? ⟨b, o + k * 3, none⟩ = some (.int .i64 (num zs (k * 3))) ∧ w'.cell? ⟨b, o + k * 3 + 1, none⟩ = some (.int .i64 (num zs (k * 3 + 1))) ∧ w'.cell? ⟨b, o + k * 3 + 2, none⟩ = some (.int .i64 (num zs (k * 3 + 2))) ∧ w'.cell? ⟨b', o' + k * 3, none⟩ = some (.int .i64 (num zs (k * 3))) ∧ w'.cell? ⟨b', o' + k * 3 + 1, none⟩ = some (.int .i64 (num zs (k * 3 + 1))) ∧ w'.cell? ⟨b', o' + k * 3 + 2, none⟩ = some (.int .i64 (num zs (k * 3 + 2)))) ((((try dsimp only); repeat' apply And.intro) <;> (first | assumption | (refine below_later ?_ (by assumption); first | assumption | (simp only [*]; done) | (go_grown; done)) | (refine cell_later (by assumption) ?_; first | assumption | (simp only [*]; done) | (simp [go_sem]; done)) | (go_grown; done) | (simp [go_sem]; done))))
        (fail)
      go_wp2_with fail
      go_roundw
      case rel => exact ⟨k + 1, by omega, by go_num, by first | assumption | (simp only [*]; done)⟩
      case measure => simp [intOf]; omega
    · obtain rfl : k = n := by omega
      go_wp2_with fail
      go_ret
      exact ⟨rfl, hbel⟩
end Go.Proofs.Ytfodkefaflpicaa
