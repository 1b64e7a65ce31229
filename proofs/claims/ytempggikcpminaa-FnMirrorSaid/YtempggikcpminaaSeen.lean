/-
  A map as the set of the numbers that were put in.
-/
import Derived.Test.YtempggikcpminaaBookP
import Derived.Maps.OwnSet
namespace Go.Proofs.Ytempggikcpminaa
open Go.RowKit Wire
open Go.Maps (Keyed IsMap Tidy)

/-- what the map reads as, once the first k numbers are in -/
def seenD (f : Nat → Int) : Nat → DataW Unit
  | 0 => .map []
  | k + 1 => (seenD f k).put (.int .i64 (f k)) (.lit (.bool true))
theorem seen_key (x : Int) : WideAt.IsKeyLit (.int .i64 x) := by first | trivial | exact rfl | decide | simp [WideAt.IsKeyLit]
theorem seen_tidy (f : Nat → Int) : ∀ k, Tidy (seenD f k)
  | 0 => Maps.tidy_empty
  | k + 1 => (seen_tidy f k).put (seen_key _) _
theorem seen_has (f : Nat → Int) (x : Int) : ∀ k, Maps.has (seenD f k) (.int .i64 x) = seenB f x k
  | 0 => rfl
  | k + 1 => by
    rw [seenD, seenB]
    by_cases h : f k = x
    · subst h
      rw [Maps.has_put_same (seen_tidy f k).isMap (seen_key _)]
      simp
    · rw [Maps.has_put_other (fun e => h (by injection e with _ e; exact e.symm)), seen_has f x k]
      simp [h]
theorem seen_size (f : Nat → Int) : ∀ k, Maps.size (seenD f k) = cntB f k
  | 0 => rfl
  | k + 1 => by
    rw [seenD, cntB, Maps.size_put (seen_tidy f k), seen_has, seen_size f k]
end Go.Proofs.Ytempggikcpminaa
