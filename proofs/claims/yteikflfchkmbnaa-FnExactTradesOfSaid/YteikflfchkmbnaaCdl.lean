/-
  Candles: when one is right, and two of them joined, in both programs.
-/
import Derived.Test.YteikflfchkmbnaaNum
import Derived.Test.YteikflfchkmbnaaPod
namespace Go.Proofs.Yteikflfchkmbnaa
open Go.RowKit Wire

/-- a candle: open, high, low, close, quantity, worth -/
def cdlB (o h l c q z : Int) : Bool :=
  inB 1 l 1000000 && (inB l h 1000000 && (inB l o h && (inB l c h && (inB 1 q 1000000000 && inB (wrap64 (l * q)) z (wrap64 (h * q))))))
theorem cdl_order (h l : Int) (b : Bool) : (inB 1 l h && (decide (h ≤ 1000000) && b)) = (inB 1 l 1000000 && (inB l h 1000000 && b)) := by
  cases b <;> simp only [Bool.and_false, Bool.and_true]
  unfold inB
  by_cases h1 : 1 ≤ l <;> by_cases h2 : l ≤ h <;> by_cases h3 : h ≤ 1000000 <;> simp [h1, h2, h3]
  omega
set_option maxHeartbeats 800000 in
set_option maxRecDepth 100000 in
theorem spec_CandleOk (o h l c q z : Int) (w : World) :
    Calls Try.prog 28 #[.agg #[.int .i64 o, .int .i64 h, .int .i64 l, .int .i64 c, .int .i64 q, .int .i64 z]] w
      fun x w' => x = .returned (.bool (cdlB o h l c q z)) ∧ Below w.heap.size w w' := by
  go_enter Try.func28, Try.ntmps28
  go_wp2_with (go_at_call 59; refine (l1In_any _ _ _ _).mono ?_; rintro e w' ⟨rfl, rfl⟩)
  all_goals
    go_ret
    refine ⟨ret_bool ?_, (Below.refl _ _).alloc (Nat.le_refl _) _⟩
    simp [cdlB, *]
set_option maxHeartbeats 800000 in
set_option maxRecDepth 100000 in
theorem impl_CandleOk (o h l c q z : Int) (w : World) :
    Calls Try.prog 27 #[.agg #[.int .i64 o, .int .i64 h, .int .i64 l, .int .i64 c, .int .i64 q, .int .i64 z]] w
      fun x w' => x = .returned (.bool (cdlB o h l c q z)) ∧ Below w.heap.size w w' := by
  have HC : Hid (cdlB o h l c q z = (inB 1 l h && (decide (h ≤ 1000000) && (inB l o h && (inB l c h && (inB 1 q 1000000000 && inB (wrap64 (l * q)) z (wrap64 (h * q)))))))) := by
    rw [cdl_order]; rfl
  go_enter Try.func27, Try.ntmps27
  go_wp2_with (go_at_call 56; refine (within_any _ _ _ _).mono ?_; rintro e w' ⟨rfl, rfl⟩)
  all_goals
    go_ret
    refine ⟨ret_bool ?_, (Below.refl _ _).alloc (Nat.le_refl _) _⟩
    rw [HC.out]
    first
      | (simp [*]; done)
      | (simp [*, Int.mul_comm q l, Int.mul_comm q h]; done)
      | (simp [*]; intros; omega)
end Go.Proofs.Yteikflfchkmbnaa
