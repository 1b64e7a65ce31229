/-
  What meets, and the document's Crossing.
-/
import Derived.Test.YtempggikcpminaaSides
namespace Go.Proofs.Ytempggikcpminaa
open Go.RowKit Wire

def meetB (side lim p : Int) : Bool := lim == 0 || !betB side p lim
/-- how many of the first n hold, one after another -/
def lead (f : Nat → Bool) : Nat → Nat
  | 0 => 0
  | n + 1 => if f 0 = true then lead (fun j => f (j + 1)) n + 1 else 0
theorem lead_one : ∀ (n : Nat) (f : Nat → Bool) (k : Nat), k ≤ n → (∀ j, j < k → f j = true) → (k = n ∨ f k = false) → lead f n = k
  | 0, f, k, hk, _, _ => by simp [lead]; omega
  | n + 1, f, 0, _, _, h => by
    rcases h with h | h
    · omega
    · rw [lead, if_neg (by rw [h]; simp)]
  | n + 1, f, k + 1, hk, h1, h2 => by
    rw [lead, if_pos (h1 0 (by omega)), lead_one n (fun j => f (j + 1)) k (by omega) (fun j hj => h1 (j + 1) (by omega)) (h2.imp (fun h => by omega) id)]
def crOk (bk : Bool) (side lim : Int) : Bool := bk && (sideOkB side && inB 0 lim 1000000)
def crN (bk : Bool) (side lim : Int) (za zb : List Int) (n m : Nat) : Nat := if crOk bk side lim = true then (if side = 1 then lead (fun k => meetB side lim (price zb k)) m else lead (fun k => meetB side lim (price za k)) n) else 0
def crZ (bk : Bool) (side lim : Int) (za zb : List Int) (n m : Nat) : List Int := if crOk bk side lim = true then (if side = 1 then zb.take (lead (fun k => meetB side lim (price zb k)) m * 4) else za.take (lead (fun k => meetB side lim (price za k)) n * 4)) else []
theorem cr_no {bk : Bool} {side lim : Int} {za zb : List Int} {n m : Nat} (h : crOk bk side lim = false) : crN bk side lim za zb n m = 0 ∧ crZ bk side lim za zb n m = [] := by
  unfold crN crZ
  rw [h]
  exact ⟨rfl, rfl⟩
theorem crN_1 {lim : Int} {za zb : List Int} {n m : Nat} (h : crOk true 1 lim = true) : crN true 1 lim za zb n m = lead (fun k => meetB 1 lim (price zb k)) m := by
  unfold crN
  rw [if_pos h, if_pos rfl]
theorem crN_2 {lim : Int} {za zb : List Int} {n m : Nat} (h : crOk true 2 lim = true) : crN true 2 lim za zb n m = lead (fun k => meetB 2 lim (price za k)) n := by
  unfold crN
  rw [if_pos h, if_neg (by decide)]
theorem crZ_1 {lim : Int} {za zb : List Int} {n m : Nat} (h : crOk true 1 lim = true) : crZ true 1 lim za zb n m = zb.take (lead (fun k => meetB 1 lim (price zb k)) m * 4) := by
  unfold crZ
  rw [if_pos h, if_pos rfl]
theorem crZ_2 {lim : Int} {za zb : List Int} {n m : Nat} (h : crOk true 2 lim = true) : crZ true 2 lim za zb n m = za.take (lead (fun k => meetB 2 lim (price za k)) n * 4) := by
  unfold crZ
  rw [if_pos h, if_neg (by decide)]
set_option maxRecDepth 100000 in
theorem spec_meets (side lim p : Int) (w : World) :
    Calls Try.prog 87 #[.int .i64 side, .int .i64 lim, .int .i64 p] w fun e w' => e = .returned (.bool (meetB side lim p)) ∧ w = w' := by
  unfold meetB
  by_cases h : lim = 0
  · subst h
    go_enter Try.func87, Try.ntmps87
    go_wp2_with fail
    go_ret
    exact ⟨rfl, rfl⟩
  · have t : (lim == 0) = false := beq_eq_false_iff_ne.2 h
    go_enter Try.func87, Try.ntmps87
    go_wp2_with fail
    refine (spec_l2Ahead _ _ _ _).mono ?_
    rintro e w' ⟨rfl, rfl⟩
    go_wp2_with fail
    go_ret
    exact ⟨by rw [t]; rfl, rfl⟩
set_option maxRecDepth 100000 in
theorem impl_meets (side lim p : Int) (w : World) :
    Calls Try.prog 75 #[.int .i64 side, .int .i64 lim, .int .i64 p] w fun e w' => e = .returned (.bool (meetB side lim p)) ∧ w = w' := by
  unfold meetB
  by_cases h : lim = 0
  · subst h
    go_enter Try.func75, Try.ntmps75
    go_wp2_with fail
    go_ret
    exact ⟨rfl, rfl⟩
  · have t : (lim == 0) = false := beq_eq_false_iff_ne.2 h
    go_enter Try.func75, Try.ntmps75
    go_wp2_with fail
    refine (impl_better _ _ _ _).mono ?_
    rintro e w' ⟨rfl, rfl⟩
    go_wp2_with fail
    go_ret
    exact ⟨by rw [t]; rfl, rfl⟩
set_option maxRecDepth 100000 in
theorem spec_other1 (w : World) :
    Calls Try.prog 85 #[.int .i64 1] w fun e w' => e = .returned (.int .i64 2) ∧ w = w' := by
  go_enter Try.func85, Try.ntmps85
  go_wp2_with fail
  go_ret
  exact ⟨rfl, rfl⟩
set_option maxRecDepth 100000 in
theorem spec_other2 (w : World) :
    Calls Try.prog 85 #[.int .i64 2] w fun e w' => e = .returned (.int .i64 1) ∧ w = w' := by
  go_enter Try.func85, Try.ntmps85
  go_wp2_with fail
  go_ret
  exact ⟨rfl, rfl⟩
set_option maxRecDepth 100000 in
theorem impl_opposite1 (w : World) :
    Calls Try.prog 74 #[.int .i64 1] w fun e w' => e = .returned (.int .i64 2) ∧ w = w' := by
  go_enter Try.func74, Try.ntmps74
  go_wp2_with fail
  go_ret
  exact ⟨rfl, rfl⟩
set_option maxRecDepth 100000 in
theorem impl_opposite2 (w : World) :
    Calls Try.prog 74 #[.int .i64 2] w fun e w' => e = .returned (.int .i64 1) ∧ w = w' := by
  go_enter Try.func74, Try.ntmps74
  go_wp2_with fail
  go_ret
  exact ⟨rfl, rfl⟩
/-- a list's first orders that meet, in a slice of their own -/
def Crossed (w : World) (base : Nat) (r : Value) (N : Nat) (Z : List Int) : Prop := w.ownsRow base 28 4 r N (nums Z)
theorem crossed_ord {w : World} {base k : Nat} {r : Value} {zs : List Int} (h : w.ownsRow base 28 4 r k (ordV zs k)) (hk : k * 4 ≤ zs.length) : Crossed w base r k (zs.take (k * 4)) := by
  rw [ordV_eq k hk] at h
  exact h
end Go.Proofs.Ytempggikcpminaa
