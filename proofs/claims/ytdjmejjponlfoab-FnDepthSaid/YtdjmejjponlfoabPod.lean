/-
  Trades, levels and candles, and slices of the first two, as the laws hand them on, compare them, mark them.
-/
import Derived.Test.YtdjmejjponlfoabKit
import Derived.Test.YtdjmejjponlfoabOwn
import Derived.Test.YtdjmejjponlfoabMark
import Derived.Handy
import Derived.Deep.RegionHeld3
namespace Go.Proofs.Ytdjmejjponlfoab
open Go.RowKit Wire

section
variable {w : World} {B n : Nat} {A : Option Addr} {zs : List Int}
theorem Lst.row2 (h : Lst w B 2 A n zs) {k : Nat} (hk : k < n) : ∃ b o, A = some ⟨b, o, none⟩ ∧ b < B ∧ w.cell? ⟨b, o + k * 2, none⟩ = some (.int .i64 (num zs (k * 2))) ∧ w.cell? ⟨b, o + k * 2 + 1, none⟩ = some (.int .i64 (num zs (k * 2 + 1))) := by
  obtain ⟨b, o, e, hb, hc⟩ := h.get hk
  simp only [← Nat.add_assoc] at hc
  exact ⟨b, o, e, hb, hc 0 (by omega), hc 1 (by omega)⟩
theorem rowIs_at2 {g m k : Nat} {t : TypeId} {f : Nat → Int} (h : w.rowIs g t m (numAt f)) (hk : (k + 1) * 2 ≤ m) : w.cell? ⟨g, k * 2, none⟩ = some (.int .i64 (f (k * 2))) ∧ w.cell? ⟨g, k * 2 + 1, none⟩ = some (.int .i64 (f (k * 2 + 1))) :=
  ⟨h.cell (i := k * 2) (by omega), h.cell (i := k * 2 + 1) (by omega)⟩
theorem rowIs_put2 {g m k : Nat} {t : TypeId} (h : w.rowIs g t m (numAt fun j => if j < k * 2 then num zs j else 0)) :
    ((w.setCell ⟨g, k * 2, none⟩ (.int .i64 (num zs (k * 2)))).setCell ⟨g, k * 2 + 1, none⟩ (.int .i64 (num zs (k * 2 + 1)))).rowIs g t m (numAt fun j => if j < (k + 1) * 2 then num zs j else 0) :=
  ((h.set _ _).set _ _).congr fun j _ => by
    rw [show (k + 1) * 2 = k * 2 + 2 from by omega]
    generalize k * 2 = i
    rcases (show j < i ∨ j = i ∨ j = i + 1 ∨ i + 2 ≤ j from by omega) with h | rfl | rfl | h
    · simp only [numAt]
      repeat rw [if_neg (by omega)]
      rw [if_pos h, if_pos (by omega)]
    iterate 2 (simp [numAt])
    · simp only [numAt]
      repeat rw [if_neg (by omega)]
end
theorem below_put2 {a w : World} {B : Nat} (h : Below B a w) {g : Nat} (hg : B ≤ g) (i0 i1 : Nat) (v0 v1 : Value) : Below B a ((w.setCell ⟨g, i0, none⟩ v0).setCell ⟨g, i1, none⟩ v1) := ((h.setCell (p := ⟨g, i0, none⟩) hg v0).setCell (p := ⟨g, i1, none⟩) hg v1)
section
variable {w : World} {B n : Nat} {A : Option Addr} {zs : List Int}
theorem Lst.row3 (h : Lst w B 3 A n zs) {k : Nat} (hk : k < n) : ∃ b o, A = some ⟨b, o, none⟩ ∧ b < B ∧ w.cell? ⟨b, o + k * 3, none⟩ = some (.int .i64 (num zs (k * 3))) ∧ w.cell? ⟨b, o + k * 3 + 1, none⟩ = some (.int .i64 (num zs (k * 3 + 1))) ∧ w.cell? ⟨b, o + k * 3 + 2, none⟩ = some (.int .i64 (num zs (k * 3 + 2))) := by
  obtain ⟨b, o, e, hb, hc⟩ := h.get hk
  simp only [← Nat.add_assoc] at hc
  exact ⟨b, o, e, hb, hc 0 (by omega), hc 1 (by omega), hc 2 (by omega)⟩
theorem rowIs_at3 {g m k : Nat} {t : TypeId} {f : Nat → Int} (h : w.rowIs g t m (numAt f)) (hk : (k + 1) * 3 ≤ m) : w.cell? ⟨g, k * 3, none⟩ = some (.int .i64 (f (k * 3))) ∧ w.cell? ⟨g, k * 3 + 1, none⟩ = some (.int .i64 (f (k * 3 + 1))) ∧ w.cell? ⟨g, k * 3 + 2, none⟩ = some (.int .i64 (f (k * 3 + 2))) :=
  ⟨h.cell (i := k * 3) (by omega), h.cell (i := k * 3 + 1) (by omega), h.cell (i := k * 3 + 2) (by omega)⟩
theorem rowIs_put3 {g m k : Nat} {t : TypeId} (h : w.rowIs g t m (numAt fun j => if j < k * 3 then num zs j else 0)) :
    (((w.setCell ⟨g, k * 3, none⟩ (.int .i64 (num zs (k * 3)))).setCell ⟨g, k * 3 + 1, none⟩ (.int .i64 (num zs (k * 3 + 1)))).setCell ⟨g, k * 3 + 2, none⟩ (.int .i64 (num zs (k * 3 + 2)))).rowIs g t m (numAt fun j => if j < (k + 1) * 3 then num zs j else 0) :=
  (((h.set _ _).set _ _).set _ _).congr fun j _ => by
    rw [show (k + 1) * 3 = k * 3 + 3 from by omega]
    generalize k * 3 = i
    rcases (show j < i ∨ j = i ∨ j = i + 1 ∨ j = i + 2 ∨ i + 3 ≤ j from by omega) with h | rfl | rfl | rfl | h
    · simp only [numAt]
      repeat rw [if_neg (by omega)]
      rw [if_pos h, if_pos (by omega)]
    iterate 3 (simp [numAt])
    · simp only [numAt]
      repeat rw [if_neg (by omega)]
end
theorem below_put3 {a w : World} {B : Nat} (h : Below B a w) {g : Nat} (hg : B ≤ g) (i0 i1 i2 : Nat) (v0 v1 v2 : Value) : Below B a (((w.setCell ⟨g, i0, none⟩ v0).setCell ⟨g, i1, none⟩ v1).setCell ⟨g, i2, none⟩ v2) := (((h.setCell (p := ⟨g, i0, none⟩) hg v0).setCell (p := ⟨g, i1, none⟩) hg v1).setCell (p := ⟨g, i2, none⟩) hg v2)
theorem rowIs_mark2 {w : World} {g m k : Nat} {t : TypeId} {f : Nat → Value} {V0 V1 : Int} (h : w.rowIs g t m (markAt f (k * 2))) (h0 : V0 = ((k * 2 + 1 : Nat) : Int)) (h1 : V1 = ((k * 2 + 2 : Nat) : Int)) :
    ((w.setCell ⟨g, k * 2, none⟩ (.int .i64 V0)).setCell ⟨g, k * 2 + 1, none⟩ (.int .i64 V1)).rowIs g t m (markAt f ((k + 1) * 2)) := by
  subst h0 h1
  refine (((h.set _ _).set _ _)).congr fun j _ => ?_
  rw [show (k + 1) * 2 = k * 2 + 2 from by omega]
  generalize k * 2 = i
  rcases (show j < i ∨ j = i ∨ j = i + 1 ∨ i + 2 ≤ j from by omega) with hj | rfl | rfl | hj
  · simp only [markAt]
    repeat rw [if_neg (by omega)]
    rw [if_pos hj, if_pos (by omega)]
  iterate 2 (simp [markAt, Nat.add_assoc]; try omega)
  · simp only [markAt]
    repeat rw [if_neg (by omega)]
theorem rowIs_look2 {w : World} {g m k N : Nat} {t : TypeId} {f : Nat → Value} (h : w.rowIs g t m (markAt f N)) (hk : (k + 1) * 2 ≤ N) (hN : N ≤ m) :
    w.cell? ⟨g, k * 2, none⟩ = some (.int .i64 ((k : Int) * 2 + 1)) ∧ w.cell? ⟨g, k * 2 + 1, none⟩ = some (.int .i64 ((k : Int) * 2 + 2)) :=
  ⟨by rw [h.cell (i := k * 2) (by omega), markAt, if_pos (by omega)]; congr 2, by rw [h.cell (i := k * 2 + 1) (by omega), markAt, if_pos (by omega)]; congr 2⟩
theorem rowIs_mark3 {w : World} {g m k : Nat} {t : TypeId} {f : Nat → Value} {V0 V1 V2 : Int} (h : w.rowIs g t m (markAt f (k * 3))) (h0 : V0 = ((k * 3 + 1 : Nat) : Int)) (h1 : V1 = ((k * 3 + 2 : Nat) : Int)) (h2 : V2 = ((k * 3 + 3 : Nat) : Int)) :
    (((w.setCell ⟨g, k * 3, none⟩ (.int .i64 V0)).setCell ⟨g, k * 3 + 1, none⟩ (.int .i64 V1)).setCell ⟨g, k * 3 + 2, none⟩ (.int .i64 V2)).rowIs g t m (markAt f ((k + 1) * 3)) := by
  subst h0 h1 h2
  refine ((((h.set _ _).set _ _).set _ _)).congr fun j _ => ?_
  rw [show (k + 1) * 3 = k * 3 + 3 from by omega]
  generalize k * 3 = i
  rcases (show j < i ∨ j = i ∨ j = i + 1 ∨ j = i + 2 ∨ i + 3 ≤ j from by omega) with hj | rfl | rfl | rfl | hj
  · simp only [markAt]
    repeat rw [if_neg (by omega)]
    rw [if_pos hj, if_pos (by omega)]
  iterate 3 (simp [markAt, Nat.add_assoc]; try omega)
  · simp only [markAt]
    repeat rw [if_neg (by omega)]
theorem rowIs_look3 {w : World} {g m k N : Nat} {t : TypeId} {f : Nat → Value} (h : w.rowIs g t m (markAt f N)) (hk : (k + 1) * 3 ≤ N) (hN : N ≤ m) :
    w.cell? ⟨g, k * 3, none⟩ = some (.int .i64 ((k : Int) * 3 + 1)) ∧ w.cell? ⟨g, k * 3 + 1, none⟩ = some (.int .i64 ((k : Int) * 3 + 2)) ∧ w.cell? ⟨g, k * 3 + 2, none⟩ = some (.int .i64 ((k : Int) * 3 + 3)) :=
  ⟨by rw [h.cell (i := k * 3) (by omega), markAt, if_pos (by omega)]; congr 2, by rw [h.cell (i := k * 3 + 1) (by omega), markAt, if_pos (by omega)]; congr 2, by rw [h.cell (i := k * 3 + 2) (by omega), markAt, if_pos (by omega)]; congr 2⟩
section
open Go.Joins Go.Deep Go.ChangeShapes Go.WideShapes Go.ChangeAt
variable {H : Type} {enc : TypeId × Value → H} {P : Program} {w : World} {base : Nat} {spare : Nat → Bool} {held : Bool}
theorem open_agg6 {r : Reach} {b0 : Nat} {t : TypeId} {f0 f1 f2 f3 f4 f5 : Field} {v : Value} {d : DataW H} {p : List MemPlace} (hs : P.underlying t = some (.struct #[f0, f1, f2, f3, f4, f5])) (hone : oneCellFields P #[f0, f1, f2, f3, f4, f5] = true) (hC : P.cellsOf t = 6)
    (hv : Value.okWide P w r b0 t v) (h : DataW.Trod enc P w base spare held t v d p) :
    ∃ (v0 v1 v2 v3 v4 v5 : Value) (y0 y1 y2 y3 y4 y5 : DataW H × List MemPlace) (n : Nat), v = .agg #[v0, v1, v2, v3, v4, v5] ∧ d = .agg [y0.1, y1.1, y2.1, y3.1, y4.1, y5.1] ∧ p = y0.2 ++ (y1.2 ++ (y2.2 ++ (y3.2 ++ (y4.2 ++ (y5.2))))) ∧
      DataW.trod enc P w base spare held n f0.type [v0] = some y0 ∧ DataW.trod enc P w base spare held n f1.type [v1] = some y1 ∧ DataW.trod enc P w base spare held n f2.type [v2] = some y2 ∧ DataW.trod enc P w base spare held n f3.type [v3] = some y3 ∧ DataW.trod enc P w base spare held n f4.type [v4] = some y4 ∧ DataW.trod enc P w base spare held n f5.type [v5] = some y5 := by
  obtain ⟨cs, rfl, hsz⟩ := okWide_struct hs hv
  obtain ⟨l⟩ := cs
  match l, hsz.trans hC with
  | [c0, c1, c2, c3, c4, c5], _ =>
    obtain ⟨fuel, hf⟩ := h
    obtain ⟨xs, n, _, hx, _, hlen, hg⟩ := DataW.trod_struct hs hf
    obtain ⟨o0, k0⟩ := hone_of hone 0 f0 rfl
    obtain ⟨o1, k1⟩ := hone_of hone 1 f1 rfl
    obtain ⟨o2, k2⟩ := hone_of hone 2 f2 rfl
    obtain ⟨o3, k3⟩ := hone_of hone 3 f3 rfl
    obtain ⟨o4, k4⟩ := hone_of hone 4 f4 rfl
    obtain ⟨o5, k5⟩ := hone_of hone 5 f5 rfl
    match xs, hlen with
    | [y0, y1, y2, y3, y4, y5], _ =>
      simp only [Prod.mk.injEq] at hx
      exact ⟨c0, c1, c2, c3, c4, c5, y0, y1, y2, y3, y4, y5, n, rfl, by simpa using hx.1, by simpa using hx.2, by simpa [Value.cells, o0, k0] using hg 0 f0 rfl, by simpa [Value.cells, o1, k1] using hg 1 f1 rfl, by simpa [Value.cells, o2, k2] using hg 2 f2 rfl, by simpa [Value.cells, o3, k3] using hg 3 f3 rfl, by simpa [Value.cells, o4, k4] using hg 4 f4 rfl, by simpa [Value.cells, o5, k5] using hg 5 f5 rfl⟩
end
theorem level_info : (Try.prog.info? 57).map (fun i => (i.zero, i.size, i.bytes)) = some (some (.agg #[.int .i64 0, .int .i64 0, .int .i64 0]), 3, 24) := by kernel_rfl
theorem zero3 : ∀ j, j < (#[.int .i64 0, .int .i64 0, .int .i64 0] : Array Value).size → (#[.int .i64 0, .int .i64 0, .int .i64 0] : Array Value)[j]? = some (.int .i64 0) := by
  intro j hj
  simp at hj
  rcases (show j = 0 ∨ j = 1 ∨ j = 2 from by omega) with rfl | rfl | rfl <;> rfl
end Go.Proofs.Ytdjmejjponlfoab
