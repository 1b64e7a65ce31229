/-
  What the records of a kind and a number come to (the drawn laws' sumOf).
-/
import Derived.Test.YtdjmejjponlfoaaGU
namespace Go.Proofs.Ytdjmejjponlfoaa
open Go.RowKit Wire

theorem kindTo_le {zs : List Int} {kind id : Int} : ∀ k, okTo zs k = true → 0 ≤ kindTo zs kind id k ∧ kindTo zs kind id k ≤ 1000000 * k
  | 0, _ => by simp [kindTo]
  | k + 1, h => by
    simp only [okTo, Bool.and_eq_true] at h
    have h1 := kindTo_le (kind := kind) (id := id) k h.1
    have h2 := okAt_qty h.2
    simp only [kindTo]
    split <;> omega
set_option linter.unusedSimpArgs false in
set_option maxHeartbeats 1600000 in
set_option maxRecDepth 100000 in
theorem sumOf_any (A : Option Addr) (n c : Nat) (zs : List Int) (kind id : Int) (w : World) (hl : Lst w w.heap.size 8 A n zs) (hn : n ≤ 1048576) (hok : okTo zs n = true) :
    Calls Try.prog 19 #[.slice A n c, .int .i64 kind, .int .i64 id] w fun e w' => e = .returned (.int .i64 (kindTo zs kind id n)) ∧ Below w.heap.size w w' := by
  have hall := Lib.hid (fun k => okTo_at n k hok)
  clear hok
  go_enter Try.func19, Try.ntmps19
  go_wp2_with fail
  go_loopw [7, 8] (fun s i wr => ∃ k : Nat, k ≤ n ∧ i = .int .i64 (k : Int) ∧ s = .int .i64 (kindTo zs kind id k) ∧ okTo zs k = true ∧ Below w.heap.size w wr) (fun _ i _ => n - (intOf i).toNat)
  case atStart => exact ⟨0, Nat.zero_le _, rfl, rfl, rfl, Below.refl _ _⟩
  case round =>
    obtain ⟨k, hk, rfl, rfl, hok, hbel⟩ := hrel
    by_cases hlt : k < n
    · obtain ⟨b, o, rfl, hb, c0, c1, c2, c3, c4, c5, c6, c7⟩ := (hl.below hbel).row8 hlt
      have HS := Lib.hid (show kindTo zs kind id (k + 1) = kindTo zs kind id k + if ((num zs (k * 8 + 1) == kind) && (num zs (k * 8 + 4) == id)) = true then num zs (k * 8 + 7) else 0 from rfl)
      have hs := kindTo_le (kind := kind) (id := id) k hok
      have hat := hall.out k hlt
      have HO := Lib.hid (okTo_step (k := k) hok hat)
      have hq := @okAt_qty zs k hat
      generalize num zs (k * 8) = z0 at *
      generalize num zs (k * 8 + 1) = z1 at *
      generalize num zs (k * 8 + 2) = z2 at *
      generalize num zs (k * 8 + 3) = z3 at *
      generalize num zs (k * 8 + 4) = z4 at *
      generalize num zs (k * 8 + 5) = z5 at *
      generalize num zs (k * 8 + 6) = z6 at *
      generalize num zs (k * 8 + 7) = z7 at *
      clear hl hok hat hall
      rcases Bool.eq_false_or_eq_true (z1 == kind) with t1 | t1
      · rcases Bool.eq_false_or_eq_true (z4 == id) with t2 | t2
        · go_wp2_with fail
          go_roundw
          case rel => exact ⟨k + 1, by omega, by go_num, by rw [HS.out]; simp [t1, t2], HO.out, hbel⟩
          case measure => simp [intOf]; omega
        · go_wp2_with fail
          go_roundw
          case rel => exact ⟨k + 1, by omega, by go_num, by rw [HS.out]; simp [t1, t2], HO.out, hbel⟩
          case measure => simp [intOf]; omega
      · go_wp2_with fail
        go_roundw
        case rel => exact ⟨k + 1, by omega, by go_num, by rw [HS.out]; simp [t1], HO.out, hbel⟩
        case measure => simp [intOf]; omega
    · obtain rfl : k = n := by omega
      go_wp2_with fail
      go_ret
      exact ⟨rfl, hbel⟩
end Go.Proofs.Ytdjmejjponlfoaa
