/-
  The program's search for an order among pointers: the closure of Taken, slices.IndexFunc at this type.
-/
import Derived.Test.YtdjmejjponlfoabOpened
namespace Go.Proofs.Ytdjmejjponlfoab
open Go.RowKit Wire

/-- the orders that are left when those with the number 1 of id go -/
def tkZA (zs : List Int) (id : Int) : Nat → List Int
  | 0 => []
  | k + 1 => if num zs (k * 4 + 1) = id then tkZA zs id k else tkZA zs id k ++ [num zs (k * 4), num zs (k * 4 + 1), num zs (k * 4 + 2), num zs (k * 4 + 3)]
def tkNA (zs : List Int) (id : Int) : Nat → Nat
  | 0 => 0
  | k + 1 => if num zs (k * 4 + 1) = id then tkNA zs id k else tkNA zs id k + 1
def idNA (zs : List Int) (k : Nat) : Int := num zs (k * 4 + 1)
theorem tkN_leA (zs : List Int) (id : Int) : ∀ k, tkNA zs id k ≤ k
  | 0 => Nat.le_refl _
  | k + 1 => by
    have := tkN_leA zs id k
    rw [tkNA]
    split <;> omega

set_option maxRecDepth 100000 in
theorem impl_isIdA (ga J : Nat) (x id : Int) (w : World) (hJ : w.cell? ⟨J, 0, none⟩ = some (.int .i64 id)) (ha : w.cell? ⟨ga, 1, none⟩ = some (.int .i64 x)) :
    Calls Try.prog 60 #[.pointer (some ⟨ga, 0, none⟩), .pointer (some ⟨J, 0, none⟩)] w fun e w' => e = .returned (.bool (x == id)) ∧ Below w.heap.size w w' := by
  go_enter Try.func60, Try.ntmps60
  go_wp2_with fail
  go_region_held3 (fun w' => Below w.heap.size w w' ∧ w'.cell? ⟨J, 0, none⟩ = some (.int .i64 id) ∧ w'.cell? ⟨ga, 1, none⟩ = some (.int .i64 x)) ((((try dsimp only); repeat' apply And.intro) <;> (first | assumption | (refine below_later ?_ (by assumption); first | assumption | (simp only [*]; done) | (go_grown; done)) | (refine cell_later (by assumption) ?_; first | assumption | (simp only [*]; done) | (simp [go_sem]; done)) | (go_grown; done) | (simp [go_sem]; done))))
    (fail)
  rename_i hS
  have hB := hS.1
  clear hS
  go_wp2_with fail
  go_ret
  exact ⟨rfl, hB⟩
set_option maxHeartbeats 1600000 in
set_option maxRecDepth 100000 in
theorem impl_IndexFuncA (X S L n J : Nat) (side id : Int) (zs : List Int) (v : Value) (gs : Nat → Nat) (w : World) (hop : Opened w X S L 2 110 83 (.func (.func 103) #[] #[.pointer (some ⟨S, 0, none⟩)]) side zs n v gs) (hcp : Copies w X S L 28 zs n v gs) (hn : n ≤ 1048576) (hJ : w.cell? ⟨J, 0, none⟩ = some (.int .i64 id)) (hJs : J < w.heap.size) :
    Calls Try.prog 105 #[v, .func (.func 60) #[] #[.pointer (some ⟨J, 0, none⟩)]] w fun e w' => (∃ z, AtRel (idNA zs) id n z ∧ e = .returned (.int .i64 z)) ∧ Below w.heap.size w w' := by
  obtain ⟨A1, d1, rfl, _, _⟩ := own_slice hop.own
  go_enter Try.func105, Try.ntmps105
  go_wp2_with fail
  go_loopw [8] (fun i wr => ∃ k : Nat, k ≤ n ∧ i = .int .i64 (k : Int) ∧ (∀ j, j < k → idNA zs j ≠ id) ∧ Below w.heap.size w wr) (fun i _ => n - (intOf i).toNat)
  case atStart => exact ⟨0, Nat.zero_le _, rfl, fun j hj => absurd hj (Nat.not_lt_zero j), Below.refl _ _⟩
  case round =>
    obtain ⟨k, hk, rfl, hno, hbel⟩ := hrel
    have HN := Lib.hid hno
    clear hno
    by_cases hlt : k < n
    · obtain ⟨g, cap, hg, _, _⟩ := hop.own.form (by omega)
      injection hg with hg1 hg2 hg3
      subst hg1 hg3
      have p0 := (hop.below hbel).own.cells (g := g) rfl k _ (ptrs_at gs n k hlt)
      rw [add0 g] at p0
      have q0 : wr.cell? ⟨gs k, 1, none⟩ = some (.int .i64 (idNA zs k)) := ((hcp.below hbel) k hlt).2.2.2.2.cell (i := 1) (by omega)
      have j0 := (hbel.cell (p := ⟨J, 0, none⟩) hJs).trans hJ
      have hbs := hbel.size
      go_wp2_with fail
      refine (impl_isIdA (gs k) J (idNA zs k) id wr j0 q0).mono ?_
      rcases Bool.eq_false_or_eq_true (idNA zs k == id) with hyx | hyx
      · have HX := Lib.hid (beq_iff_eq.1 hyx)
        rw [hyx]
        rintro e w1 ⟨rfl, hb1⟩
        have hbel1 := hbel.trans (hb1.mono hbel.size)
        clear hb1 hbel hyx
        go_wp2_with fail
        go_ret
        exact ⟨⟨_, .inr ⟨k, hlt, rfl, HX.out, HN.out⟩, rfl⟩, hbel1⟩
      · have HX : Hid (idNA zs k ≠ id) := Lib.hid (by simpa using hyx)
        rw [hyx]
        rintro e w1 ⟨rfl, hb1⟩
        have hbel1 := hbel.trans (hb1.mono hbel.size)
        clear hb1 hbel hyx
        go_wp2_with fail
        go_roundw
        case rel => exact ⟨k + 1, by omega, by go_num, fun j hj => by
          rcases Nat.lt_or_ge j k with h | h
          · exact HN.out j h
          · obtain rfl : j = k := by omega
            exact HX.out, hbel1⟩
        case measure => simp [intOf]; omega
    · obtain rfl : k = n := by omega
      go_wp2_with fail
      go_ret
      exact ⟨⟨-1, .inl ⟨rfl, HN.out⟩, rfl⟩, hbel⟩
end Go.Proofs.Ytdjmejjponlfoab
