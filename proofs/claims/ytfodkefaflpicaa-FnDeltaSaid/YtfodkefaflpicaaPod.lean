/-
  Trades, levels and candles, and slices of the first two, as the laws hand them on, compare them, mark them.
-/
import Derived.Test.YtfodkefaflpicaaKit
import Derived.Test.YtfodkefaflpicaaOwn
import Derived.Test.YtfodkefaflpicaaMark
import Derived.Handy
import Derived.Deep.RegionHeld3
namespace Go.Proofs.Ytfodkefaflpicaa
open Go.RowKit Wire

section
variable {w : World} {B n : Nat} {A : Option Addr} {zs : List Int}
theorem Lst.row2 (h : Lst w B 2 A n zs) {k : Nat} (hk : k < n) : ∃ b o, A = some ⟨b, o, none⟩ ∧ b < B ∧ w.cell? ⟨b, o + k * 2, none⟩ = some (.int .i64 (num zs (k * 2))) ∧ w.cell? ⟨b, o + k * 2 + 1, none⟩ = some (.int .i64 (num zs (k * 2 + 1))) := by
  obtain ⟨b, o, e, hb, hc⟩ := h.get hk
  simp only [← Nat.add_assoc] at hc
  exact ⟨b, o, e, hb, hc 0 (by omega), hc 1 (by omega)⟩
theorem rowIs_at2 {g m k : Nat} {t : TypeId} {f : Nat → Int} (h : w.rowIs g t m (numAt f)) (hk : (k + 1) * 2 ≤ m) : w.cell? ⟨g, k * 2, none⟩ = some (.int .i64 (f (k * 2))) ∧ w.cell? ⟨g, k * 2 + 1, none⟩ = some (.int .i64 (f (k * 2 + 1))) :=
  ⟨h.cell (i := k * 2) (by omega), h.cell (i := k * 2 + 1) (by omega)⟩
theorem rowIs_put2 {g m k : Nat} {t : TypeId} (h : w.rowIs g t m (numAt fun j => if j < k * 2 then num zs j else 0)) :
    ((w.setCell ⟨g, k * 2, none⟩ (.int .i64 (num zs (k * 2)))).setCell ⟨g, k * 2 + 1, none⟩ (.int .i64 (num zs (k * 2 + 1)))).rowIs g t m (numAt fun j => if j < (k + 1) * 2 then num zs j else 0) :=
  ((h.set _ _).set _ _).congr fun j _ => by
    rw [show (k + 1) * 2 = k * 2 + 2 from by omega]
    generalize k * 2 = i
    rcases (show j < i ∨ j = i ∨ j = i + 1 ∨ i + 2 ≤ j from by omega) with h | rfl | rfl | h
    · simp only [numAt]
      repeat rw [if_neg (by omega)]
      rw [if_pos h, if_pos (by omega)]
    iterate 2 (simp [numAt])
    · simp only [numAt]
      repeat rw [if_neg (by omega)]
end
theorem below_put2 {a w : World} {B : Nat} (h : Below B a w) {g : Nat} (hg : B ≤ g) (i0 i1 : Nat) (v0 v1 : Value) : Below B a ((w.setCell ⟨g, i0, none⟩ v0).setCell ⟨g, i1, none⟩ v1) := ((h.setCell (p := ⟨g, i0, none⟩) hg v0).setCell (p := ⟨g, i1, none⟩) hg v1)
section
variable {w : World} {B n : Nat} {A : Option Addr} {zs : List Int}
theorem Lst.row3 (h : Lst w B 3 A n zs) {k : Nat} (hk : k < n) : ∃ b o, A = some ⟨b, o, none⟩ ∧ b < B ∧ w.cell? ⟨b, o + k * 3, none⟩ = some (.int .i64 (num zs (k * 3))) ∧ w.cell? ⟨b, o + k * 3 + 1, none⟩ = some (.int .i64 (num zs (k * 3 + 1))) ∧ w.cell? ⟨b, o + k * 3 + 2, none⟩ = some (.int .i64 (num zs (k * 3 + 2))) := by
  obtain ⟨b, o, e, hb, hc⟩ := h.get hk
  simp only [← Nat.add_assoc] at hc
  exact ⟨b, o, e, hb, hc 0 (by omega), hc 1 (by omega), hc 2 (by omega)⟩
theorem rowIs_at3 {g m k : Nat} {t : TypeId} {f : Nat → Int} (h : w.rowIs g t m (numAt f)) (hk : (k + 1) * 3 ≤ m) : w.cell? ⟨g, k * 3, none⟩ = some (.int .i64 (f (k * 3))) ∧ w.cell? ⟨g, k * 3 + 1, none⟩ = some (.int .i64 (f (k * 3 + 1))) ∧ w.cell? ⟨g, k * 3 + 2, none⟩ = some (.int .i64 (f (k * 3 + 2))) :=
  ⟨h.cell (i := k * 3) (by omega), h.cell (i := k * 3 + 1) (by omega), h.cell (i := k * 3 + 2) (by omega)⟩
theorem rowIs_put3 {g m k : Nat} {t : TypeId} (h : w.rowIs g t m (numAt fun j => if j < k * 3 then num zs j else 0)) :
    (((w.setCell ⟨g, k * 3, none⟩ (.int .i64 (num zs (k * 3)))).setCell ⟨g, k * 3 + 1, none⟩ (.int .i64 (num zs (k * 3 + 1)))).setCell ⟨g, k * 3 + 2, none⟩ (.int .i64 (num zs (k * 3 + 2)))).rowIs g t m (numAt fun j => if j < (k + 1) * 3 then num zs j else 0) :=
  (((h.set _ _).set _ _).set _ _).congr fun j _ => by
    rw [show (k + 1) * 3 = k * 3 + 3 from by omega]
    generalize k * 3 = i
    rcases (show j < i ∨ j = i ∨ j = i + 1 ∨ j = i + 2 ∨ i + 3 ≤ j from by omega) with h | rfl | rfl | rfl | h
    · simp only [numAt]
      repeat rw [if_neg (by omega)]
      rw [if_pos h, if_pos (by omega)]
    iterate 3 (simp [numAt])
    · simp only [numAt]
      repeat rw [if_neg (by omega)]
end
theorem below_put3 {a w : World} {B : Nat} (h : Below B a w) {g : Nat} (hg : B ≤ g) (i0 i1 i2 : Nat) (v0 v1 v2 : Value) : Below B a (((w.setCell ⟨g, i0, none⟩ v0).setCell ⟨g, i1, none⟩ v1).setCell ⟨g, i2, none⟩ v2) := (((h.setCell (p := ⟨g, i0, none⟩) hg v0).setCell (p := ⟨g, i1, none⟩) hg v1).setCell (p := ⟨g, i2, none⟩) hg v2)
theorem rowIs_mark2 {w : World} {g m k : Nat} {t : TypeId} {f : Nat → Value} {V0 V1 : Int} (h : w.rowIs g t m (markAt f (k * 2))) (h0 : V0 = ((k * 2 + 1 : Nat) : Int)) (h1 : V1 = ((k * 2 + 2 : Nat) : Int)) :
    ((w.setCell ⟨g, k * 2, none⟩ (.int .i64 V0)).setCell ⟨g, k * 2 + 1, none⟩ (.int .i64 V1)).rowIs g t m (markAt f ((k + 1) * 2)) := by
  subst h0 h1
  refine (((h.set _ _).set _ _)).congr fun j _ => ?_
  rw [show (k + 1) * 2 = k * 2 + 2 from by omega]
  generalize k * 2 = i
  rcases (show j < i ∨ j = i ∨ j = i + 1 ∨ i + 2 ≤ j from by omega) with hj | rfl | rfl | hj
  · simp only [markAt]
    repeat rw [if_neg (by omega)]
    rw [if_pos hj, if_pos (by omega)]
  iterate 2 (simp [markAt, Nat.add_assoc]; try omega)
  · simp only [markAt]
    repeat rw [if_neg (by omega)]
theorem rowIs_look2 {w : World} {g m k N : Nat} {t : TypeId} {f : Nat → Value} (h : w.rowIs g t m (markAt f N)) (hk : (k + 1) * 2 ≤ N) (hN : N ≤ m) :
    w.cell? ⟨g, k * 2, none⟩ = some (.int .i64 ((k : Int) * 2 + 1)) ∧ w.cell? ⟨g, k * 2 + 1, none⟩ = some (.int .i64 ((k : Int) * 2 + 2)) :=
  ⟨by rw [h.cell (i := k * 2) (by omega), markAt, if_pos (by omega)]; congr 2, by rw [h.cell (i := k * 2 + 1) (by omega), markAt, if_pos (by omega)]; congr 2⟩
theorem rowIs_mark3 {w : World} {g m k : Nat} {t : TypeId} {f : Nat → Value} {V0 V1 V2 : Int} (h : w.rowIs g t m (markAt f (k * 3))) (h0 : V0 = ((k * 3 + 1 : Nat) : Int)) (h1 : V1 = ((k * 3 + 2 : Nat) : Int)) (h2 : V2 = ((k * 3 + 3 : Nat) : Int)) :
    (((w.setCell ⟨g, k * 3, none⟩ (.int .i64 V0)).setCell ⟨g, k * 3 + 1, none⟩ (.int .i64 V1)).setCell ⟨g, k * 3 + 2, none⟩ (.int .i64 V2)).rowIs g t m (markAt f ((k + 1) * 3)) := by
  subst h0 h1 h2
  refine ((((h.set _ _).set _ _).set _ _)).congr fun j _ => ?_
  rw [show (k + 1) * 3 = k * 3 + 3 from by omega]
  generalize k * 3 = i
  rcases (show j < i ∨ j = i ∨ j = i + 1 ∨ j = i + 2 ∨ i + 3 ≤ j from by omega) with hj | rfl | rfl | rfl | hj
  · simp only [markAt]
    repeat rw [if_neg (by omega)]
    rw [if_pos hj, if_pos (by omega)]
  iterate 3 (simp [markAt, Nat.add_assoc]; try omega)
  · simp only [markAt]
    repeat rw [if_neg (by omega)]
theorem rowIs_look3 {w : World} {g m k N : Nat} {t : TypeId} {f : Nat → Value} (h : w.rowIs g t m (markAt f N)) (hk : (k + 1) * 3 ≤ N) (hN : N ≤ m) :
    w.cell? ⟨g, k * 3, none⟩ = some (.int .i64 ((k : Int) * 3 + 1)) ∧ w.cell? ⟨g, k * 3 + 1, none⟩ = some (.int .i64 ((k : Int) * 3 + 2)) ∧ w.cell? ⟨g, k * 3 + 2, none⟩ = some (.int .i64 ((k : Int) * 3 + 3)) :=
  ⟨by rw [h.cell (i := k * 3) (by omega), markAt, if_pos (by omega)]; congr 2, by rw [h.cell (i := k * 3 + 1) (by omega), markAt, if_pos (by omega)]; congr 2, by rw [h.cell (i := k * 3 + 2) (by omega), markAt, if_pos (by omega)]; congr 2⟩
section
open Go.Joins Go.Deep Go.ChangeShapes Go.WideShapes Go.ChangeAt
variable {H : Type} {enc : TypeId × Value → H} {P : Program} {w : World} {base : Nat} {spare : Nat → Bool} {held : Bool}
theorem open_agg6 {r : Reach} {b0 : Nat} {t : TypeId} {f0 f1 f2 f3 f4 f5 : Field} {v : Value} {d : DataW H} {p : List MemPlace} (hs : P.underlying t = some (.struct #[f0, f1, f2, f3, f4, f5])) (hone : oneCellFields P #[f0, f1, f2, f3, f4, f5] = true) (hC : P.cellsOf t = 6)
    (hv : Value.okWide P w r b0 t v) (h : DataW.Trod enc P w base spare held t v d p) :
    ∃ (v0 v1 v2 v3 v4 v5 : Value) (y0 y1 y2 y3 y4 y5 : DataW H × List MemPlace) (n : Nat), v = .agg #[v0, v1, v2, v3, v4, v5] ∧ d = .agg [y0.1, y1.1, y2.1, y3.1, y4.1, y5.1] ∧ p = y0.2 ++ (y1.2 ++ (y2.2 ++ (y3.2 ++ (y4.2 ++ (y5.2))))) ∧
      DataW.trod enc P w base spare held n f0.type [v0] = some y0 ∧ DataW.trod enc P w base spare held n f1.type [v1] = some y1 ∧ DataW.trod enc P w base spare held n f2.type [v2] = some y2 ∧ DataW.trod enc P w base spare held n f3.type [v3] = some y3 ∧ DataW.trod enc P w base spare held n f4.type [v4] = some y4 ∧ DataW.trod enc P w base spare held n f5.type [v5] = some y5 := by
  obtain ⟨cs, rfl, hsz⟩ := okWide_struct hs hv
  obtain ⟨l⟩ := cs
  match l, hsz.trans hC with
  | [c0, c1, c2, c3, c4, c5], _ =>
    obtain ⟨fuel, hf⟩ := h
    obtain ⟨xs, n, _, hx, _, hlen, hg⟩ := DataW.trod_struct hs hf
    obtain ⟨o0, k0⟩ := hone_of hone 0 f0 rfl
    obtain ⟨o1, k1⟩ := hone_of hone 1 f1 rfl
    obtain ⟨o2, k2⟩ := hone_of hone 2 f2 rfl
    obtain ⟨o3, k3⟩ := hone_of hone 3 f3 rfl
    obtain ⟨o4, k4⟩ := hone_of hone 4 f4 rfl
    obtain ⟨o5, k5⟩ := hone_of hone 5 f5 rfl
    match xs, hlen with
    | [y0, y1, y2, y3, y4, y5], _ =>
      simp only [Prod.mk.injEq] at hx
      exact ⟨c0, c1, c2, c3, c4, c5, y0, y1, y2, y3, y4, y5, n, rfl, by simpa using hx.1, by simpa using hx.2, by simpa [Value.cells, o0, k0] using hg 0 f0 rfl, by simpa [Value.cells, o1, k1] using hg 1 f1 rfl, by simpa [Value.cells, o2, k2] using hg 2 f2 rfl, by simpa [Value.cells, o3, k3] using hg 3 f3 rfl, by simpa [Value.cells, o4, k4] using hg 4 f4 rfl, by simpa [Value.cells, o5, k5] using hg 5 f5 rfl⟩
end
set_option maxRecDepth 100000 in
theorem toLevel_any (a b c : Int) (w : World) :
    Calls Try.prog 74 #[.agg #[.int .i64 a, .int .i64 b, .int .i64 c]] w fun x w' => x = .returned (.agg #[.int .i64 a, .int .i64 b, .int .i64 c]) ∧ Below w.heap.size w w' := by
  go_enter Try.func74, Try.ntmps74
  go_wp2
  refine bodyPost_ret (v := .agg #[.int .i64 a, .int .i64 b, .int .i64 c]) (by simp [results, Try.results74, go_sem]) rfl ⟨rfl, ?_⟩
  go_grown
set_option maxHeartbeats 800000 in
set_option maxRecDepth 100000 in
theorem eqLevel_one (a b c : Int) (w : World) :
    Calls Try.prog 75 #[.agg #[.int .i64 a, .int .i64 b, .int .i64 c], .agg #[.int .i64 a, .int .i64 b, .int .i64 c]] w fun x w' => x = .returned (.bool true) ∧ Below w.heap.size w w' := by
  go_enter Try.func75, Try.ntmps75
  go_wp2
  go_ret
  exact ⟨rfl, by go_grown⟩
theorem level_info : (Try.prog.info? 94).map (fun i => (i.zero, i.size, i.bytes)) = some (some (.agg #[.int .i64 0, .int .i64 0, .int .i64 0]), 3, 24) := by kernel_rfl
theorem zero3 : ∀ j, j < (#[.int .i64 0, .int .i64 0, .int .i64 0] : Array Value).size → (#[.int .i64 0, .int .i64 0, .int .i64 0] : Array Value)[j]? = some (.int .i64 0) := by
  intro j hj
  simp at hj
  rcases (show j = 0 ∨ j = 1 ∨ j = 2 from by omega) with rfl | rfl | rfl <;> rfl
theorem szLevelS_any (A : Option Addr) (n c : Nat) (left : Int) (w : World) (hn : n ≤ 9223372036854775807) (h0 : 0 ≤ left) (h1 : left ≤ 1048576) :
    Calls Try.prog 25 #[.slice A n c, .int .i64 left] w fun e w' => e = .returned (.int .i64 (if left < n then -1 else left - n)) ∧ w = w' := by
  by_cases h : left < n
  · rw [if_pos h]
    go_enter Try.func25, Try.ntmps25
    go_wp2_with fail
    go_ret
    exact ⟨rfl, rfl⟩
  · rw [if_neg h]
    go_enter Try.func25, Try.ntmps25
    go_wp2_with fail
    go_ret
    exact ⟨rfl, rfl⟩
set_option maxHeartbeats 1600000 in
set_option maxRecDepth 100000 in
theorem toLevelS_any (A : Option Addr) (n c : Nat) (zs : List Int) (w : World) (hl : Lst w w.heap.size 3 A n zs) (hn : n ≤ 1048576) :
    Calls Try.prog 26 #[.slice A n c] w fun e w' => e = .returned (.slice (some ⟨w.heap.size, 0, none⟩) n n) ∧ w'.rowIs w.heap.size 94 (n * 3) (numAt fun j => num zs j) ∧ Below w.heap.size w w' := by
  obtain ⟨i0, hi, hz0, hz1, hz2⟩ := info_parts level_info
  have hmk := fun (w : World) => run_make_rows (P := Try.prog) w 40 94 i0 _ 3 24 Try.underlying40 hi hz0 hz1 hz2 .i64 .i64 n (by omega) (by omega)
  have hrow0 := rows_made w #[.int .i64 0, .int .i64 0, .int .i64 0] (n * 3) 94 zero3 (by simp)
  have hbel0 : Below w.heap.size w (w.alloc (.cells (madeCells #[.int .i64 0, .int .i64 0, .int .i64 0] (n * 3)) 94)) := (Below.refl _ _).alloc (Nat.le_refl _) _
  go_enter Try.func26, Try.ntmps26
  go_wp2
  go_loopw [4] (fun i wr => ∃ k : Nat, k ≤ n ∧ i = .int .i64 (k : Int) ∧ wr.rowIs w.heap.size 94 (n * 3) (numAt fun j => if j < k * 3 then num zs j else 0) ∧ Below w.heap.size w wr) (fun i _ => n - (intOf i).toNat)
  case atStart => exact ⟨0, Nat.zero_le _, rfl, hrow0.congr (fun j _ => by simp [numAt]), hbel0⟩
  case round =>
    obtain ⟨k, hk, rfl, hrow, hbel⟩ := hrel
    by_cases hlt : k < n
    · obtain ⟨b, o, rfl, hb, c0, c1, c2⟩ := (hl.below hbel).row3 hlt
      go_wp2_with fail
      refine (toLevel_any _ _ _ _).mono ?_
      rintro e w1 ⟨rfl, hb1⟩
      have hrow1 := hrow.of_block (hb1.block _ hrow.lt)
      have hbel1 : Below w.heap.size w w1 := hbel.trans (hb1.mono hbel.size)
      obtain ⟨d0, d1, d2⟩ := rowIs_at3 hrow1 (k := k) (by omega)
      have z := hrow1.frozen
      clear hb1 hrow hbel
      go_wp2_with fail
      go_roundw
      case rel =>
        have hp := rowIs_put3 (w := w1) (zs := zs) (g := w.heap.size) (m := n * 3) (k := k) (t := 94) hrow1
        have hq := below_put3 hbel1 (Nat.le_refl w.heap.size) (k * 3) (k * 3 + 1) (k * 3 + 2) (.int .i64 (num zs (k * 3))) (.int .i64 (num zs (k * 3 + 1))) (.int .i64 (num zs (k * 3 + 2)))
        exact ⟨k + 1, by omega, by go_num, hp, hq⟩
      case measure => simp [intOf]; omega
    · obtain rfl : k = n := by omega
      go_wp2_with fail
      go_ret
      exact ⟨rfl, hrow.congr (fun j hj => by simp only [numAt]; rw [if_pos hj]), hbel⟩
set_option maxHeartbeats 1600000 in
set_option maxRecDepth 100000 in
theorem eqLevelS_same (A B : Option Addr) (n c d : Nat) (zs : List Int) (w : World) (hA : Lst w w.heap.size 3 A n zs) (hB : Lst w w.heap.size 3 B n zs) (hn : n ≤ 1048576) :
    Calls Try.prog 27 #[.slice A n c, .slice B n d] w fun e w' => e = .returned (.bool true) ∧ Below w.heap.size w w' := by
  go_enter Try.func27, Try.ntmps27
  go_wp2_with fail
  go_loopw [5] (fun i wr => ∃ k : Nat, k ≤ n ∧ i = .int .i64 (k : Int) ∧ Below w.heap.size w wr) (fun i _ => n - (intOf i).toNat)
  case atStart => exact ⟨0, Nat.zero_le _, rfl, Below.refl _ _⟩
  case round =>
    obtain ⟨k, hk, rfl, hbel⟩ := hrel
    by_cases hlt : k < n
    · obtain ⟨b, o, rfl, hb, c0, c1, c2⟩ := (hA.below hbel).row3 hlt
      obtain ⟨b', o', rfl, hb', d0, d1, d2⟩ := (hB.below hbel).row3 hlt
      clear hA hB
      go_wp2_with fail
      have hb1 := hbel.size
      go_region_held3 (fun w' => Below w.heap.size w w' ∧ w'.cell? ⟨b, o + k * 3, none⟩ = some (.int .i64 (num zs (k * 3))) ∧ w'.cell? ⟨b, o + k * 3 + 1, none⟩ = some (.int .i64 (num zs (k * 3 + 1))) ∧ w'.cell? ⟨b, o + k * 3 + 2, none⟩ = some (.int .i64 (num zs (k * 3 + 2))) ∧ w'.cell? ⟨b', o' + k * 3, none⟩ = some (.int .i64 (num zs (k * 3))) ∧ w'.cell? ⟨b', o' + k * 3 + 1, none⟩ = some (.int .i64 (num zs (k * 3 + 1))) ∧ w'.cell? ⟨b', o' + k * 3 + 2, none⟩ = some (.int .i64 (num zs (k * 3 + 2)))) ((((try dsimp only); repeat' apply And.intro) <;> (first | assumption | (refine below_later ?_ (by assumption); first | assumption | (simp only [*]; done) | (go_grown; done)) | (refine cell_later (by assumption) ?_; first | assumption | (simp only [*]; done) | (simp [go_sem]; done)) | (go_grown; done) | (simp [go_sem]; done))))
        ((go_at_call 75; refine (eqLevel_one _ _ _ _).mono ?_; rintro e w' ⟨rfl, hb⟩))
      go_wp2_with fail
      go_roundw
      case rel => exact ⟨k + 1, by omega, by go_num, by first | assumption | (simp only [*]; done)⟩
      case measure => simp [intOf]; omega
    · obtain rfl : k = n := by omega
      go_wp2_with fail
      go_ret
      exact ⟨rfl, hbel⟩
set_option maxHeartbeats 1600000 in
set_option maxRecDepth 100000 in
theorem markLevelS_own (g n cap M : Nat) (f : Nat → Value) (w : World) (hr : w.rowIs g 94 M f) (hn : n * 3 ≤ M) (hb : n ≤ 1048576) :
    Calls Try.prog 28 #[.slice (some ⟨g, 0, none⟩) n cap, .int .i64 1] w fun e w' => e = .returned (.int .i64 ((n : Int) * 3 + 1)) ∧ w'.rowIs g 94 M (markAt f (n * 3)) ∧ w.grownBy w' (some g) := by
  go_enter Try.func28, Try.ntmps28
  go_wp2_with fail
  go_loopw [1, 5] (fun kv i wr => ∃ k : Nat, k ≤ n ∧ i = .int .i64 (k : Int) ∧ kv = .int .i64 ((k : Int) * 3 + 1) ∧ wr.rowIs g 94 M (markAt f (k * 3)) ∧ w.grownBy wr (some g)) (fun _ i _ => n - (intOf i).toNat)
  case atStart => exact ⟨0, Nat.zero_le _, rfl, rfl, hr.congr (fun j _ => by simp [markAt]), World.grownBy.refl _ _⟩
  case round =>
    obtain ⟨k, hk, rfl, rfl, hrow, hg⟩ := hrel
    by_cases hlt : k < n
    · have z := hrow.frozen
      have hk8 : (k + 1) * 3 ≤ M := Nat.le_trans (Nat.mul_le_mul_right _ hlt) hn
      have c0 : wr.cell? ⟨g, k * 3, none⟩ = _ := hrow.cell (i := k * 3) (by omega)
      have c1 : wr.cell? ⟨g, k * 3 + 1, none⟩ = _ := hrow.cell (i := k * 3 + 1) (by omega)
      have c2 : wr.cell? ⟨g, k * 3 + 2, none⟩ = _ := hrow.cell (i := k * 3 + 2) (by omega)
      go_wp2_with fail
      go_roundw
      case rel =>
        exact ⟨k + 1, by omega, by go_num, by go_num, rowIs_mark3 hrow (by omega) (by omega) (by omega), (mark_set (mark_set (mark_set hg _ _) _ _) _ _)⟩
      case measure => simp [intOf]; omega
    · obtain rfl : k = n := by omega
      go_wp2_with fail
      go_ret
      exact ⟨rfl, hrow, hg⟩
set_option maxHeartbeats 1600000 in
set_option maxRecDepth 100000 in
theorem heldLevelS_own (g n cap M : Nat) (f : Nat → Value) (w : World) (hr : w.rowIs g 94 M (markAt f (n * 3))) (hn : n * 3 ≤ M) (hb : n ≤ 1048576) :
    Calls Try.prog 29 #[.slice (some ⟨g, 0, none⟩) n cap, .int .i64 1] w fun e w' => e = .returned (.int .i64 ((n : Int) * 3 + 1)) ∧ w' = w := by
  go_enter Try.func29, Try.ntmps29
  go_wp2_with fail
  go_loopw [1, 5] (fun kv i wr => ∃ k : Nat, k ≤ n ∧ i = .int .i64 (k : Int) ∧ kv = .int .i64 ((k : Int) * 3 + 1) ∧ wr = w) (fun _ i _ => n - (intOf i).toNat)
  case atStart => exact ⟨0, Nat.zero_le _, rfl, rfl, by first | trivial | rfl⟩
  case round =>
    obtain ⟨k, hk, rfl, rfl, rfl⟩ := hrel
    by_cases hlt : k < n
    · obtain ⟨c0, c1, c2⟩ := rowIs_look3 hr (k := k) (Nat.mul_le_mul_right _ hlt) hn
      go_wp2_with fail
      go_roundw
      case rel => exact ⟨k + 1, by omega, by go_num, by go_num, by first | trivial | rfl⟩
      case measure => simp [intOf]; omega
    · obtain rfl : k = n := by omega
      go_wp2_with fail
      go_ret
      exact ⟨rfl, by first | trivial | rfl⟩
set_option maxRecDepth 100000 in
theorem markLevelS_none (A : Option Addr) (cap : Nat) (w : World) : Calls Try.prog 28 #[.slice A 0 cap, .int .i64 1] w fun e w' => e = .returned (.int .i64 1) ∧ w' = w := by
  go_enter Try.func28, Try.ntmps28
  go_wp2_with fail
  go_loopw [1, 5] (fun kv i wr => i = .int .i64 0 ∧ kv = .int .i64 1 ∧ wr = w) (fun _ _ _ => 0)
  case atStart => exact ⟨rfl, rfl, by first | trivial | rfl⟩
  case round =>
    obtain ⟨rfl, rfl, rfl⟩ := hrel
    go_wp2_with fail
    go_ret
    exact ⟨rfl, by first | trivial | rfl⟩
set_option maxRecDepth 100000 in
theorem heldLevelS_none (A : Option Addr) (cap : Nat) (w : World) : Calls Try.prog 29 #[.slice A 0 cap, .int .i64 1] w fun e w' => e = .returned (.int .i64 1) ∧ w' = w := by
  go_enter Try.func29, Try.ntmps29
  go_wp2_with fail
  go_loopw [1, 5] (fun kv i wr => i = .int .i64 0 ∧ kv = .int .i64 1 ∧ wr = w) (fun _ _ _ => 0)
  case atStart => exact ⟨rfl, rfl, by first | trivial | rfl⟩
  case round =>
    obtain ⟨rfl, rfl, rfl⟩ := hrel
    go_wp2_with fail
    go_ret
    exact ⟨rfl, by first | trivial | rfl⟩
/-- an answer's rows bear the marks -/
def MarkedLevel (w : World) (v : Value) (n : Nat) : Prop := (n = 0 ∧ ∃ A c, v = .slice A 0 c) ∨ ∃ g cap f M, v = .slice (some ⟨g, 0, none⟩) n cap ∧ n * 3 ≤ M ∧ w.rowIs g 94 M (markAt f (n * 3))
theorem MarkedLevel.below {w w' : World} {v : Value} {n : Nat} (h : MarkedLevel w v n) (hb : Below w.heap.size w w') : MarkedLevel w' v n := by
  rcases h with h | ⟨g, cap, f, M, h1, h2, h3⟩
  · exact .inl h
  · exact .inr ⟨g, cap, f, M, h1, h2, h3.of_block (hb.block g h3.lt)⟩
theorem markLevelS_any (B : Nat) (v : Value) (n : Nat) (xs : List Value) (w : World) (ho : w.ownsRow B 94 3 v n xs) (hn : n ≤ 1048576) :
    Calls Try.prog 28 #[v, .int .i64 1] w fun e w' => e = .returned (.int .i64 ((n : Int) * 3 + 1)) ∧ MarkedLevel w' v n ∧ w.grownBy w' v.ownBlock := by
  rcases Nat.eq_zero_or_pos n with rfl | hpos
  · obtain ⟨A, c, rfl, _, _⟩ := own_slice ho
    exact (markLevelS_none A c w).mono fun e w' ⟨he, hw⟩ => ⟨by rw [he]; rfl, .inl ⟨rfl, A, c, rfl⟩, by rw [hw]; exact World.grownBy.refl _ _⟩
  · obtain ⟨g, cap, rfl, _, _⟩ := ho.form hpos
    obtain ⟨f, M, h1, h2⟩ := row_of_own ho
    exact (markLevelS_own g n cap M f w h2 h1 hn).mono fun e w' ⟨he, hr, hg⟩ => ⟨he, .inr ⟨g, cap, f, M, rfl, h1, hr⟩, hg⟩
theorem heldLevelS_any (v : Value) (n : Nat) (w : World) (h : MarkedLevel w v n) (hn : n ≤ 1048576) :
    Calls Try.prog 29 #[v, .int .i64 1] w fun e w' => e = .returned (.int .i64 ((n : Int) * 3 + 1)) ∧ w' = w := by
  rcases h with ⟨rfl, A, c, rfl⟩ | ⟨g, cap, f, M, rfl, h2, h3⟩
  · exact (heldLevelS_none A c w).mono fun e w' ⟨he, hw⟩ => ⟨by rw [he]; rfl, hw⟩
  · exact heldLevelS_own g n cap M f w h3 h2 hn
end Go.Proofs.Ytfodkefaflpicaa
