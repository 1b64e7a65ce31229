/-
  Held, HeldBook, Two.
-/
import Derived.Test.YtempggikcpminaaOrd
import Derived.Test.YtempggikcpminaaTake
import Derived.Test.YtempggikcpminaaBookClosed
namespace Go.Proofs.Ytempggikcpminaa
open Go.RowKit Wire

/-- the first N cells bear s, s + 1, .. -/
def markFrom (s : Nat) (f : Nat → Value) (N j : Nat) : Value := if j < N then .int .i64 ((j + s : Nat) : Int) else f j
theorem rowIs_from4 {w : World} {g m k s : Nat} {t : TypeId} {f : Nat → Value} {V0 V1 V2 V3 : Int} (h : w.rowIs g t m (markFrom s f (k * 4))) (h0 : V0 = ((k * 4 + s : Nat) : Int)) (h1 : V1 = ((k * 4 + 1 + s : Nat) : Int)) (h2 : V2 = ((k * 4 + 2 + s : Nat) : Int)) (h3 : V3 = ((k * 4 + 3 + s : Nat) : Int)) :
    ((((w.setCell ⟨g, k * 4, none⟩ (.int .i64 V0)).setCell ⟨g, k * 4 + 1, none⟩ (.int .i64 V1)).setCell ⟨g, k * 4 + 2, none⟩ (.int .i64 V2)).setCell ⟨g, k * 4 + 3, none⟩ (.int .i64 V3)).rowIs g t m (markFrom s f ((k + 1) * 4)) := by
  subst h0 h1 h2 h3
  refine (((((h.set _ _).set _ _).set _ _).set _ _)).congr fun j _ => ?_
  rw [show (k + 1) * 4 = k * 4 + 4 from by omega]
  generalize k * 4 = i
  rcases (show j < i ∨ j = i ∨ j = i + 1 ∨ j = i + 2 ∨ j = i + 3 ∨ i + 4 ≤ j from by omega) with hj | rfl | rfl | rfl | rfl | hj
  · simp only [markFrom]
    repeat rw [if_neg (by omega)]
    rw [if_pos hj, if_pos (by omega)]
  iterate 4 (simp [markFrom]; try omega)
  · simp only [markFrom]
    repeat rw [if_neg (by omega)]
theorem rowIs_lookFrom4 {w : World} {g m k N s : Nat} {t : TypeId} {f : Nat → Value} (h : w.rowIs g t m (markFrom s f N)) (hk : (k + 1) * 4 ≤ N) (hN : N ≤ m) :
    w.cell? ⟨g, k * 4, none⟩ = some (.int .i64 ((k : Int) * 4 + (s : Int))) ∧ w.cell? ⟨g, k * 4 + 1, none⟩ = some (.int .i64 ((k : Int) * 4 + (s : Int) + 1)) ∧ w.cell? ⟨g, k * 4 + 2, none⟩ = some (.int .i64 ((k : Int) * 4 + (s : Int) + 2)) ∧ w.cell? ⟨g, k * 4 + 3, none⟩ = some (.int .i64 ((k : Int) * 4 + (s : Int) + 3)) :=
  ⟨by rw [h.cell (i := k * 4) (by omega), markFrom, if_pos (by omega)]; congr 2, by rw [h.cell (i := k * 4 + 1) (by omega), markFrom, if_pos (by omega)]; congr 2; omega, by rw [h.cell (i := k * 4 + 2) (by omega), markFrom, if_pos (by omega)]; congr 2; omega, by rw [h.cell (i := k * 4 + 3) (by omega), markFrom, if_pos (by omega)]; congr 2; omega⟩
set_option maxHeartbeats 1600000 in
set_option maxRecDepth 100000 in
theorem markOrderS_from (g n cap M s : Nat) (f : Nat → Value) (w : World) (hr : w.rowIs g 28 M f) (hn : n * 4 ≤ M) (hb : n ≤ 1048576) (hs : s ≤ 1073741824) :
    Calls Try.prog 21 #[.slice (some ⟨g, 0, none⟩) n cap, .int .i64 (s : Int)] w fun e w' => e = .returned (.int .i64 ((n : Int) * 4 + (s : Int))) ∧ w'.rowIs g 28 M (markFrom s f (n * 4)) ∧ w.grownBy w' (some g) := by
  go_enter Try.func21, Try.ntmps21
  go_wp2_with fail
  go_loopw [1, 5] (fun kv i wr => ∃ k : Nat, k ≤ n ∧ i = .int .i64 (k : Int) ∧ kv = .int .i64 ((k : Int) * 4 + (s : Int)) ∧ wr.rowIs g 28 M (markFrom s f (k * 4)) ∧ w.grownBy wr (some g)) (fun _ i _ => n - (intOf i).toNat)
  case atStart => exact ⟨0, Nat.zero_le _, rfl, by go_num, hr.congr (fun j _ => by simp [markFrom]), World.grownBy.refl _ _⟩
  case round =>
    obtain ⟨k, hk, rfl, rfl, hrow, hg⟩ := hrel
    by_cases hlt : k < n
    · have z := hrow.frozen
      have hk8 : (k + 1) * 4 ≤ M := Nat.le_trans (Nat.mul_le_mul_right _ hlt) hn
      have c0 : wr.cell? ⟨g, k * 4, none⟩ = _ := hrow.cell (i := k * 4) (by omega)
      have c1 : wr.cell? ⟨g, k * 4 + 1, none⟩ = _ := hrow.cell (i := k * 4 + 1) (by omega)
      have c2 : wr.cell? ⟨g, k * 4 + 2, none⟩ = _ := hrow.cell (i := k * 4 + 2) (by omega)
      have c3 : wr.cell? ⟨g, k * 4 + 3, none⟩ = _ := hrow.cell (i := k * 4 + 3) (by omega)
      go_wp2_with fail
      go_roundw
      case rel =>
        exact ⟨k + 1, by omega, by go_num, by go_num, rowIs_from4 hrow (by omega) (by omega) (by omega) (by omega), (mark_set (mark_set (mark_set (mark_set hg _ _) _ _) _ _) _ _)⟩
      case measure => simp [intOf]; omega
    · obtain rfl : k = n := by omega
      go_wp2_with fail
      go_ret
      exact ⟨rfl, hrow, hg⟩
end Go.Proofs.Ytempggikcpminaa

namespace Go.Proofs.Ytempggikcpminaa
open Go.RowKit Wire

end Go.Proofs.Ytempggikcpminaa

namespace Go.Proofs.Ytempggikcpminaa
open Go.RowKit Wire

/-- two rows of orders, each of its own memory -/
structure TwoRows (w : World) (base : Nat) (r1 : Value) (n1 : Nat) (z1 : List Int) (r2 : Value) (n2 : Nat) (z2 : List Int) : Prop where
  one : w.ownsRow base 28 4 r1 n1 (nums z1)
  two : w.ownsRow base 28 4 r2 n2 (nums z2)
  apart : ∀ q, r1.ownBlock = some q → r2.ownBlock ≠ some q
theorem TwoRows.below {w w' : World} {base : Nat} {r1 r2 : Value} {n1 n2 : Nat} {z1 z2 : List Int} (h : TwoRows w base r1 n1 z1 r2 n2 z2) (hb : Below w.heap.size w w') : TwoRows w' base r1 n1 z1 r2 n2 z2 :=
  ⟨own_below h.one hb, own_below h.two hb, h.apart⟩
theorem TwoRows.mono {w : World} {base base' : Nat} {r1 r2 : Value} {n1 n2 : Nat} {z1 z2 : List Int} (h : TwoRows w base r1 n1 z1 r2 n2 z2) (hb : base' ≤ base) : TwoRows w base' r1 n1 z1 r2 n2 z2 :=
  ⟨own_mono h.one hb, own_mono h.two hb, h.apart⟩
theorem TwoRows.kept {w w' : World} {base g : Nat} {r1 r2 : Value} {n1 n2 : Nat} {z1 z2 : List Int} (h : TwoRows w base r1 n1 z1 r2 n2 z2) (hg : w.grownBy w' (some g)) (hlt : g < base) : TwoRows w' base r1 n1 z1 r2 n2 z2 :=
  ⟨h.one.kept hg (.inr (fun e => absurd (h.one.lt g e).1 (Nat.not_le_of_lt hlt))), h.two.kept hg (.inr (fun e => absurd (h.two.lt g e).1 (Nat.not_le_of_lt hlt))), h.apart⟩
theorem TwoRows.alloc {w : World} {base : Nat} {r1 r2 : Value} {n1 n2 : Nat} {z1 z2 : List Int} (h : TwoRows w base r1 n1 z1 r2 n2 z2) (o : Obj) : TwoRows (w.alloc o) base r1 n1 z1 r2 n2 z2 := ⟨h.one.alloc o, h.two.alloc o, h.apart⟩
theorem TwoRows.nil (w : World) (base : Nat) : TwoRows w base (.slice none 0 0) 0 [] (.slice none 0 0) 0 [] := ⟨World.ownsRow_nil _ _ _ _, World.ownsRow_nil _ _ _ _, fun q hq => by simp [Value.ownBlock] at hq⟩
theorem TwoRows.slices {w : World} {base : Nat} {r1 r2 : Value} {n1 n2 : Nat} {z1 z2 : List Int} (h : TwoRows w base r1 n1 z1 r2 n2 z2) : ∃ A1 c1 A2 c2, r1 = .slice A1 n1 c1 ∧ r2 = .slice A2 n2 c2 := by
  obtain ⟨A1, c1, h1, _, _⟩ := own_slice h.one
  obtain ⟨A2, c2, h2, _, _⟩ := own_slice h.two
  exact ⟨A1, c1, A2, c2, h1, h2⟩
theorem TwoRows.bookIn {w : World} {base : Nat} {A1 A2 : Option Addr} {c1 c2 n1 n2 : Nat} {z1 z2 : List Int} (h : TwoRows w base (.slice A1 n1 c1) n1 z1 (.slice A2 n2 c2) n2 z2) : BookIn w w.heap.size A1 n1 A2 n2 z1 z2 := ⟨Lst.of_own h.one, Lst.of_own h.two⟩
end Go.Proofs.Ytempggikcpminaa
