/-
  Lists of rows of plain numbers, read and made.
-/
import Derived.Test.YtempggikcpminaaKit
import Derived.Laws.OwnMore
import Derived.Laws.MakeOwn
import Derived.Deep.AppendLies
import Derived.Deep.OwnRows
import Derived.Maps.AppendAt
namespace Go.Proofs.Ytempggikcpminaa
open Go.RowKit Wire
/-- number j of a list, 0 behind its end -/
def num (zs : List Int) (j : Nat) : Int := zs.getD j 0
/-- numbers as cells -/
def nums (zs : List Int) : List Value := zs.map (Value.int .i64)
theorem nums_length (zs : List Int) : (nums zs).length = zs.length := by simp [nums]
theorem nums_append (a b : List Int) : nums (a ++ b) = nums a ++ nums b := by simp [nums]
theorem nums_one (zs : List Int) : ∀ u ∈ nums zs, u.oneCell' = true := ints_oneCell .i64 zs
theorem nums_get {zs : List Int} {j : Nat} (h : j < zs.length) : (nums zs)[j]? = some (.int .i64 (num zs j)) := by
  simp [nums, num, List.getElem?_map, List.getElem?_eq_getElem h]

/-- the slice at A holds n rows of sz numbers, in a block below B -/
def Lst (w : World) (B sz : Nat) (A : Option Addr) (n : Nat) (zs : List Int) : Prop :=
  zs.length = n * sz ∧ (0 < n → ∃ b o, A = some ⟨b, o, none⟩ ∧ b < B ∧ ∀ j, j < n * sz → w.cell? ⟨b, o + j, none⟩ = some (.int .i64 (num zs j)))
section
variable {w w' : World} {B B' sz n : Nat} {A : Option Addr} {zs : List Int}
theorem Lst.nil (w : World) (B sz : Nat) (A : Option Addr) : Lst w B sz A 0 [] := ⟨by simp, fun h => absurd h (by omega)⟩
theorem Lst.keep (h : Lst w B sz A n zs) (hk : ∀ p : Addr, p.block < B → w'.cell? p = w.cell? p) : Lst w' B sz A n zs :=
  ⟨h.1, fun hn => by
    obtain ⟨b, o, e, hb, hc⟩ := h.2 hn
    exact ⟨b, o, e, hb, fun j hj => (hk _ hb).trans (hc j hj)⟩⟩
theorem Lst.more (h : Lst w B sz A n zs) (hB : B ≤ B') : Lst w B' sz A n zs :=
  ⟨h.1, fun hn => by
    obtain ⟨b, o, e, hb, hc⟩ := h.2 hn
    exact ⟨b, o, e, by omega, hc⟩⟩
theorem Lst.below (h : Lst w B sz A n zs) (hb : Below B w w') : Lst w' B sz A n zs := h.keep fun _ hp => hb.cell hp
theorem Lst.later (h : Lst w w.heap.size sz A n zs) (hb : Below w.heap.size w w') : Lst w' w'.heap.size sz A n zs := (h.below hb).more hb.size
theorem Lst.grown (h : Lst w B sz A n zs) {row : Option Nat} (hg : w.grownBy w' row) (hB : B ≤ w.heap.size) (hr : ∀ g, row = some g → B ≤ g) : Lst w' B sz A n zs :=
  h.keep fun p hp => World.cell?_of_block (hg.block p.block (by omega) (fun e => by have := hr _ e.symm; omega))
theorem Lst.get (h : Lst w B sz A n zs) {k : Nat} (hk : k < n) : ∃ b o, A = some ⟨b, o, none⟩ ∧ b < B ∧ ∀ j, j < sz → w.cell? ⟨b, o + (k * sz + j), none⟩ = some (.int .i64 (num zs (k * sz + j))) := by
  obtain ⟨b, o, e, hb, hc⟩ := h.2 (by omega)
  refine ⟨b, o, e, hb, fun j hj => hc _ ?_⟩
  have : (k + 1) * sz ≤ n * sz := Nat.mul_le_mul_right _ hk
  rw [Nat.add_mul] at this
  omega
theorem Lst.of_own {base : Nat} {e : TypeId} {c : Nat} (h : w.ownsRow base e sz (.slice A n c) n (nums zs)) : Lst w w.heap.size sz A n zs := by
  have hl : zs.length = n * sz := by rw [← nums_length]; exact h.1
  refine ⟨hl, fun hn => ?_⟩
  obtain ⟨g, cap, hv, _, hlt⟩ := h.form hn
  have hA : A = some ⟨g, 0, none⟩ := by injection hv
  subst hA
  refine ⟨g, 0, rfl, hlt, fun j hj => ?_⟩
  have := h.cells (g := g) rfl j _ (nums_get (by omega))
  have hadd : (⟨g, 0, none⟩ : Addr).add j = ⟨g, 0 + j, none⟩ := by unfold Addr.add; split <;> simp_all
  rwa [hadd] at this
/-- cell j of a row of numbers -/
def numAt (f : Nat → Int) (j : Nat) : Value := .int .i64 (f j)
theorem Lst.of_row {g m : Nat} {t : TypeId} {f : Nat → Int} (h : w.rowIs g t m (numAt f)) (hn : n * sz ≤ m) (hz : zs.length = n * sz) (hf : ∀ j, j < n * sz → f j = num zs j) : Lst w w.heap.size sz (some ⟨g, 0, none⟩) n zs :=
  ⟨hz, fun _ => ⟨g, 0, rfl, h.lt, fun j hj => by
    rw [Nat.zero_add, h.cell (by omega)]
    show some (Value.int .i64 (f j)) = _
    rw [hf j hj]⟩⟩
end
section
variable {P : Program} (w : World)
theorem run_make_rows (t e : TypeId) (i : TypeInfo) (z : Value) (sz by_ : Nat) (ht : P.underlying t = some (.slice e)) (hi : P.info? e = some i) (hz : i.zero = some z) (hsize : i.size = sz) (hby : i.bytes = by_)
    (kl kc : IntKind) (n : Nat) (hbytes : by_ * n ≤ 281474976710656) (h63 : n ≤ 9223372036854775807) :
    (Instr.makeSlice t (.int kl (n : Int)) (.int kc (n : Int))).run P w = .ok (.slice (some ⟨w.heap.size, 0, none⟩) n n) (w.alloc (.cells (madeCells z.cells (n * sz)) e)) := by
  subst hsize hby
  have hb' : (i.bytes : Int) * (n : Int) ≤ 281474976710656 := by
    have h : ((i.bytes * n : Nat) : Int) ≤ 281474976710656 := by omega
    rwa [Int.natCast_mul] at h
  have hr := run_make (P := P) w t e i z ht hi hz kl kc n n (by omega) (Int.le_refl _) hb' (by omega)
  simp only [Int.toNat_natCast] at hr
  exact hr
theorem rows_made (zs : Array Value) (n : Nat) (t : TypeId) (hz : ∀ j, j < zs.size → zs[j]? = some (.int .i64 0)) (h0 : 0 < zs.size) : (w.alloc (.cells (madeCells zs n) t)).rowIs w.heap.size t n (numAt fun _ => 0) :=
  ⟨_, heap_alloc_new w _, size_madeCells _ _, fun i hi => by
    have hm := Nat.mod_lt i h0
    simp only [madeCells, Array.getElem?_map, Array.getElem?_range, hi, if_true, Option.map_some]
    rw [Array.getElem!_eq_getD, Array.getD_eq_getD_getElem?, hz _ hm]
    rfl⟩
end
section
variable {w : World} {B n : Nat} {A : Option Addr} {zs : List Int}
theorem Lst.row4 (h : Lst w B 4 A n zs) {k : Nat} (hk : k < n) : ∃ b o, A = some ⟨b, o, none⟩ ∧ b < B ∧ w.cell? ⟨b, o + k * 4, none⟩ = some (.int .i64 (num zs (k * 4))) ∧ w.cell? ⟨b, o + k * 4 + 1, none⟩ = some (.int .i64 (num zs (k * 4 + 1))) ∧ w.cell? ⟨b, o + k * 4 + 2, none⟩ = some (.int .i64 (num zs (k * 4 + 2))) ∧ w.cell? ⟨b, o + k * 4 + 3, none⟩ = some (.int .i64 (num zs (k * 4 + 3))) := by
  obtain ⟨b, o, e, hb, hc⟩ := h.get hk
  simp only [← Nat.add_assoc] at hc
  exact ⟨b, o, e, hb, hc 0 (by omega), hc 1 (by omega), hc 2 (by omega), hc 3 (by omega)⟩
theorem rowIs_at4 {g m k : Nat} {t : TypeId} {f : Nat → Int} (h : w.rowIs g t m (numAt f)) (hk : (k + 1) * 4 ≤ m) : w.cell? ⟨g, k * 4, none⟩ = some (.int .i64 (f (k * 4))) ∧ w.cell? ⟨g, k * 4 + 1, none⟩ = some (.int .i64 (f (k * 4 + 1))) ∧ w.cell? ⟨g, k * 4 + 2, none⟩ = some (.int .i64 (f (k * 4 + 2))) ∧ w.cell? ⟨g, k * 4 + 3, none⟩ = some (.int .i64 (f (k * 4 + 3))) :=
  ⟨h.cell (i := k * 4) (by omega), h.cell (i := k * 4 + 1) (by omega), h.cell (i := k * 4 + 2) (by omega), h.cell (i := k * 4 + 3) (by omega)⟩
theorem rowIs_put4 {g m k : Nat} {t : TypeId} (h : w.rowIs g t m (numAt fun j => if j < k * 4 then num zs j else 0)) :
    ((((w.setCell ⟨g, k * 4, none⟩ (.int .i64 (num zs (k * 4)))).setCell ⟨g, k * 4 + 1, none⟩ (.int .i64 (num zs (k * 4 + 1)))).setCell ⟨g, k * 4 + 2, none⟩ (.int .i64 (num zs (k * 4 + 2)))).setCell ⟨g, k * 4 + 3, none⟩ (.int .i64 (num zs (k * 4 + 3)))).rowIs g t m (numAt fun j => if j < (k + 1) * 4 then num zs j else 0) :=
  ((((h.set _ _).set _ _).set _ _).set _ _).congr fun j _ => by
    rw [show (k + 1) * 4 = k * 4 + 4 from by omega]
    generalize k * 4 = i
    rcases (show j < i ∨ j = i ∨ j = i + 1 ∨ j = i + 2 ∨ j = i + 3 ∨ i + 4 ≤ j from by omega) with h | rfl | rfl | rfl | rfl | h
    · simp only [numAt]
      repeat rw [if_neg (by omega)]
      rw [if_pos h, if_pos (by omega)]
    iterate 4 (simp [numAt])
    · simp only [numAt]
      repeat rw [if_neg (by omega)]
end
section
variable {w : World} {B n : Nat} {A : Option Addr} {zs : List Int}
theorem Lst.row8 (h : Lst w B 8 A n zs) {k : Nat} (hk : k < n) : ∃ b o, A = some ⟨b, o, none⟩ ∧ b < B ∧ w.cell? ⟨b, o + k * 8, none⟩ = some (.int .i64 (num zs (k * 8))) ∧ w.cell? ⟨b, o + k * 8 + 1, none⟩ = some (.int .i64 (num zs (k * 8 + 1))) ∧ w.cell? ⟨b, o + k * 8 + 2, none⟩ = some (.int .i64 (num zs (k * 8 + 2))) ∧ w.cell? ⟨b, o + k * 8 + 3, none⟩ = some (.int .i64 (num zs (k * 8 + 3))) ∧ w.cell? ⟨b, o + k * 8 + 4, none⟩ = some (.int .i64 (num zs (k * 8 + 4))) ∧ w.cell? ⟨b, o + k * 8 + 5, none⟩ = some (.int .i64 (num zs (k * 8 + 5))) ∧ w.cell? ⟨b, o + k * 8 + 6, none⟩ = some (.int .i64 (num zs (k * 8 + 6))) ∧ w.cell? ⟨b, o + k * 8 + 7, none⟩ = some (.int .i64 (num zs (k * 8 + 7))) := by
  obtain ⟨b, o, e, hb, hc⟩ := h.get hk
  simp only [← Nat.add_assoc] at hc
  exact ⟨b, o, e, hb, hc 0 (by omega), hc 1 (by omega), hc 2 (by omega), hc 3 (by omega), hc 4 (by omega), hc 5 (by omega), hc 6 (by omega), hc 7 (by omega)⟩
theorem rowIs_at8 {g m k : Nat} {t : TypeId} {f : Nat → Int} (h : w.rowIs g t m (numAt f)) (hk : (k + 1) * 8 ≤ m) : w.cell? ⟨g, k * 8, none⟩ = some (.int .i64 (f (k * 8))) ∧ w.cell? ⟨g, k * 8 + 1, none⟩ = some (.int .i64 (f (k * 8 + 1))) ∧ w.cell? ⟨g, k * 8 + 2, none⟩ = some (.int .i64 (f (k * 8 + 2))) ∧ w.cell? ⟨g, k * 8 + 3, none⟩ = some (.int .i64 (f (k * 8 + 3))) ∧ w.cell? ⟨g, k * 8 + 4, none⟩ = some (.int .i64 (f (k * 8 + 4))) ∧ w.cell? ⟨g, k * 8 + 5, none⟩ = some (.int .i64 (f (k * 8 + 5))) ∧ w.cell? ⟨g, k * 8 + 6, none⟩ = some (.int .i64 (f (k * 8 + 6))) ∧ w.cell? ⟨g, k * 8 + 7, none⟩ = some (.int .i64 (f (k * 8 + 7))) :=
  ⟨h.cell (i := k * 8) (by omega), h.cell (i := k * 8 + 1) (by omega), h.cell (i := k * 8 + 2) (by omega), h.cell (i := k * 8 + 3) (by omega), h.cell (i := k * 8 + 4) (by omega), h.cell (i := k * 8 + 5) (by omega), h.cell (i := k * 8 + 6) (by omega), h.cell (i := k * 8 + 7) (by omega)⟩
theorem rowIs_put8 {g m k : Nat} {t : TypeId} (h : w.rowIs g t m (numAt fun j => if j < k * 8 then num zs j else 0)) :
    ((((((((w.setCell ⟨g, k * 8, none⟩ (.int .i64 (num zs (k * 8)))).setCell ⟨g, k * 8 + 1, none⟩ (.int .i64 (num zs (k * 8 + 1)))).setCell ⟨g, k * 8 + 2, none⟩ (.int .i64 (num zs (k * 8 + 2)))).setCell ⟨g, k * 8 + 3, none⟩ (.int .i64 (num zs (k * 8 + 3)))).setCell ⟨g, k * 8 + 4, none⟩ (.int .i64 (num zs (k * 8 + 4)))).setCell ⟨g, k * 8 + 5, none⟩ (.int .i64 (num zs (k * 8 + 5)))).setCell ⟨g, k * 8 + 6, none⟩ (.int .i64 (num zs (k * 8 + 6)))).setCell ⟨g, k * 8 + 7, none⟩ (.int .i64 (num zs (k * 8 + 7)))).rowIs g t m (numAt fun j => if j < (k + 1) * 8 then num zs j else 0) :=
  ((((((((h.set _ _).set _ _).set _ _).set _ _).set _ _).set _ _).set _ _).set _ _).congr fun j _ => by
    rw [show (k + 1) * 8 = k * 8 + 8 from by omega]
    generalize k * 8 = i
    rcases (show j < i ∨ j = i ∨ j = i + 1 ∨ j = i + 2 ∨ j = i + 3 ∨ j = i + 4 ∨ j = i + 5 ∨ j = i + 6 ∨ j = i + 7 ∨ i + 8 ≤ j from by omega) with h | rfl | rfl | rfl | rfl | rfl | rfl | rfl | rfl | h
    · simp only [numAt]
      repeat rw [if_neg (by omega)]
      rw [if_pos h, if_pos (by omega)]
    iterate 8 (simp [numAt])
    · simp only [numAt]
      repeat rw [if_neg (by omega)]
end
section
variable {a w : World} {B : Nat}
theorem below_put4 (h : Below B a w) {g : Nat} (hg : B ≤ g) (i0 i1 i2 i3 : Nat) (v0 v1 v2 v3 : Value) : Below B a ((((w.setCell ⟨g, i0, none⟩ v0).setCell ⟨g, i1, none⟩ v1).setCell ⟨g, i2, none⟩ v2).setCell ⟨g, i3, none⟩ v3) := ((((h.setCell (p := ⟨g, i0, none⟩) hg v0).setCell (p := ⟨g, i1, none⟩) hg v1).setCell (p := ⟨g, i2, none⟩) hg v2).setCell (p := ⟨g, i3, none⟩) hg v3)
theorem below_put8 (h : Below B a w) {g : Nat} (hg : B ≤ g) (i0 i1 i2 i3 i4 i5 i6 i7 : Nat) (v0 v1 v2 v3 v4 v5 v6 v7 : Value) : Below B a ((((((((w.setCell ⟨g, i0, none⟩ v0).setCell ⟨g, i1, none⟩ v1).setCell ⟨g, i2, none⟩ v2).setCell ⟨g, i3, none⟩ v3).setCell ⟨g, i4, none⟩ v4).setCell ⟨g, i5, none⟩ v5).setCell ⟨g, i6, none⟩ v6).setCell ⟨g, i7, none⟩ v7) := ((((((((h.setCell (p := ⟨g, i0, none⟩) hg v0).setCell (p := ⟨g, i1, none⟩) hg v1).setCell (p := ⟨g, i2, none⟩) hg v2).setCell (p := ⟨g, i3, none⟩) hg v3).setCell (p := ⟨g, i4, none⟩) hg v4).setCell (p := ⟨g, i5, none⟩) hg v5).setCell (p := ⟨g, i6, none⟩) hg v6).setCell (p := ⟨g, i7, none⟩) hg v7)
end
end Go.Proofs.Ytempggikcpminaa
