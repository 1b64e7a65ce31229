/-
  Slices of orders, and books, as the laws hand them on, compare them, mark them.
-/
import Derived.Test.YtdjmejjponlfoabKit
import Derived.Test.YtdjmejjponlfoabOwn
import Derived.Test.YtdjmejjponlfoabMark
import Derived.Handy
import Derived.Deep.RegionHeld3
namespace Go.Proofs.Ytdjmejjponlfoab
open Go.RowKit Wire

theorem ord_later {w w1 w2 : World} (h1 : Below w.heap.size w w1) (h2 : Below w1.heap.size w1 w2) : Below w.heap.size w w2 := h1.trans (h2.mono h1.size)
theorem ord_info : (Try.prog.info? 28).map (fun i => (i.zero, i.size, i.bytes)) = some (some (.agg #[.int .i64 0, .int .i64 0, .int .i64 0, .int .i64 0]), 4, 32) := by kernel_rfl
theorem zero4 : ∀ j, j < (#[.int .i64 0, .int .i64 0, .int .i64 0, .int .i64 0] : Array Value).size → (#[.int .i64 0, .int .i64 0, .int .i64 0, .int .i64 0] : Array Value)[j]? = some (.int .i64 0) := by
  intro j hj
  simp at hj
  rcases (show j = 0 ∨ j = 1 ∨ j = 2 ∨ j = 3 from by omega) with rfl | rfl | rfl | rfl <;> rfl
set_option maxHeartbeats 1600000 in
set_option maxRecDepth 100000 in
theorem sameOrders_same (A B : Option Addr) (n c d : Nat) (zs : List Int) (w : World) (hA : Lst w w.heap.size 4 A n zs) (hB : Lst w w.heap.size 4 B n zs) (hn : n ≤ 1048576) :
    Calls Try.prog 18 #[.slice A n c, .slice B n d] w fun e w' => e = .returned (.bool true) ∧ Below w.heap.size w w' := by
  go_enter Try.func18, Try.ntmps18
  go_wp2_with fail
  go_loopw [5] (fun i wr => ∃ k : Nat, k ≤ n ∧ i = .int .i64 (k : Int) ∧ Below w.heap.size w wr) (fun i _ => n - (intOf i).toNat)
  case atStart => exact ⟨0, Nat.zero_le _, rfl, Below.refl _ _⟩
  case round =>
    obtain ⟨k, hk, rfl, hbel⟩ := hrel
    by_cases hlt : k < n
    · obtain ⟨b, o, rfl, hb, c0, c1, c2, c3⟩ := (hA.below hbel).row4 hlt
      obtain ⟨b', o', rfl, hb', d0, d1, d2, d3⟩ := (hB.below hbel).row4 hlt
      clear hA hB
      go_wp2_with fail
      have hb1 := hbel.size
      go_region_held3 (fun w' => Below w.heap.size w w' ∧ w'.cell? ⟨b, o + k * 4, none⟩ = some (.int .i64 (num zs (k * 4))) ∧ w'.cell? ⟨b, o + k * 4 + 1, none⟩ = some (.int .i64 (num zs (k * 4 + 1))) ∧ w'.cell? ⟨b, o + k * 4 + 2, none⟩ = some (.int .i64 (num zs (k * 4 + 2))) ∧ w'.cell? ⟨b, o + k * 4 + 3, none⟩ = some (.int .i64 (num zs (k * 4 + 3))) ∧ w'.cell? ⟨b', o' + k * 4, none⟩ = some (.int .i64 (num zs (k * 4))) ∧ w'.cell? ⟨b', o' + k * 4 + 1, none⟩ = some (.int .i64 (num zs (k * 4 + 1))) ∧ w'.cell? ⟨b', o' + k * 4 + 2, none⟩ = some (.int .i64 (num zs (k * 4 + 2))) ∧ w'.cell? ⟨b', o' + k * 4 + 3, none⟩ = some (.int .i64 (num zs (k * 4 + 3)))) ((((try dsimp only); repeat' apply And.intro) <;> (first | assumption | (refine below_later ?_ (by assumption); first | assumption | (simp only [*]; done) | (go_grown; done)) | (refine cell_later (by assumption) ?_; first | assumption | (simp only [*]; done) | (simp [go_sem]; done)) | (go_grown; done) | (simp [go_sem]; done))))
        (fail)
      go_wp2_with fail
      go_roundw
      case rel => exact ⟨k + 1, by omega, by go_num, by first | assumption | (simp only [*]; done)⟩
      case measure => simp [intOf]; omega
    · obtain rfl : k = n := by omega
      go_wp2_with fail
      go_ret
      exact ⟨rfl, hbel⟩
/-- a book: two slices of orders -/
def BookV (A : Option Addr) (n c : Nat) (B : Option Addr) (m d : Nat) : Value := .agg #[.slice A n c, .slice B m d]
/-- the two sides' rows, in blocks below X -/
def BookIn (w : World) (X : Nat) (A : Option Addr) (n : Nat) (B : Option Addr) (m : Nat) (za zb : List Int) : Prop := Lst w X 4 A n za ∧ Lst w X 4 B m zb
theorem BookIn.later {w w' : World} {A B : Option Addr} {n m : Nat} {za zb : List Int} (h : BookIn w w.heap.size A n B m za zb) (hb : Below w.heap.size w w') : BookIn w' w'.heap.size A n B m za zb := ⟨h.1.later hb, h.2.later hb⟩
end Go.Proofs.Ytdjmejjponlfoab
