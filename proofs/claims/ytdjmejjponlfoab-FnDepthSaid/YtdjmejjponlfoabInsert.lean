/-
  An order put into its side of the opened book.
-/
import Derived.Test.YtdjmejjponlfoabIns
import Derived.Test.YtdjmejjponlfoabCross
import Derived.Test.YtdjmejjponlfoabDrop
namespace Go.Proofs.Ytdjmejjponlfoab
open Go.RowKit Wire

/-- the rows with an order put in at place i -/
def insZ (zs : List Int) (i : Nat) (o : List Int) : List Int := zs.take (i * 4) ++ o ++ zs.drop (i * 4)
theorem insZ_len {zs o : List Int} {n i : Nat} (hz : zs.length = n * 4) (ho : o.length = 4) (hi : i ≤ n) : (insZ zs i o).length = (n + 1) * 4 := by
  simp [insZ, hz, ho]
  omega
theorem insZ_lo {zs o : List Int} {n i q j : Nat} (hz : zs.length = n * 4) (hi : i ≤ n) (hq : q < i) (hj : j < 4) : num (insZ zs i o) (q * 4 + j) = num zs (q * 4 + j) := by
  unfold num insZ
  rw [List.append_assoc, List.getD_eq_getElem?_getD, List.getElem?_append_left (by simp; omega), List.getElem?_take, if_pos (by omega), ← List.getD_eq_getElem?_getD]
theorem insZ_at {zs o : List Int} {n i j : Nat} (hz : zs.length = n * 4) (ho : o.length = 4) (hi : i ≤ n) (hj : j < 4) : num (insZ zs i o) (i * 4 + j) = num o j := by
  unfold num insZ
  have ht : (zs.take (i * 4)).length = i * 4 := by simp; omega
  rw [List.append_assoc, List.getD_eq_getElem?_getD, List.getElem?_append_right (by omega), ht, List.getElem?_append_left (by omega), List.getD_eq_getElem?_getD]
  congr 2
  omega
theorem insZ_hi {zs o : List Int} {n i q j : Nat} (hz : zs.length = n * 4) (ho : o.length = 4) (hi : i < q) (hq : q < n + 1) (hj : j < 4) : num (insZ zs i o) (q * 4 + j) = num zs ((q - 1) * 4 + j) := by
  unfold num insZ
  have ht : (zs.take (i * 4)).length = i * 4 := by simp; omega
  rw [List.append_assoc, List.getD_eq_getElem?_getD, List.getElem?_append_right (by omega), ht, List.getElem?_append_right (by omega), ho, List.getElem?_drop, List.getD_eq_getElem?_getD]
  congr 2
  omega
theorem row4_of {w : World} {bo : Nat} {a b c d : Int} {T : TypeId} (h : w.heap[bo]? = some (.cells #[.int .i64 a, .int .i64 b, .int .i64 c, .int .i64 d] T (0, 0))) : w.rowIs bo T 4 (numAt fun j => num [a, b, c, d] j) :=
  ⟨_, h, rfl, fun i hi => by
    rcases (show i = 0 ∨ i = 1 ∨ i = 2 ∨ i = 3 from by omega) with rfl | rfl | rfl | rfl <;> rfl⟩
/-- an order's place: behind all that are not worse -/
def restI (side p : Int) (zs : List Int) (n : Nat) : Nat := lead (fun k => !betB side p (price zs k)) n
theorem cell_lt {w : World} {p : Addr} {u : Value} (h : w.cell? p = some u) : p.block < w.heap.size := by
  rcases Nat.lt_or_ge p.block w.heap.size with h' | h'
  · exact h'
  · simp [World.cell?, Array.getElem?_eq_none h'] at h
theorem Opened.lower {w : World} {X X' S L : Nat} {T0 T1 T2 : TypeId} {F : Value} {side : Int} {zs : List Int} {n : Nat} {v : Value} {gs : Nat → Nat} (h : Opened w X S L T0 T1 T2 F side zs n v gs) (hX : X' ≤ X) : Opened w X' S L T0 T1 T2 F side zs n v gs :=
  ⟨⟨Nat.le_trans hX h.low.1, Nat.le_trans hX h.low.2.1, h.low.2.2⟩, h.side, h.list, own_mono h.own hX, h.far⟩
theorem Copies.lower {w : World} {X X' S L : Nat} {T : TypeId} {zs : List Int} {n : Nat} {v : Value} {gs : Nat → Nat} (h : Copies w X S L T zs n v gs) (hX : X' ≤ X) : Copies w X' S L T zs n v gs := fun k hk => by
  obtain ⟨h1, h2⟩ := h k hk
  exact ⟨Nat.le_trans hX h1, h2⟩
/-- behind slices.Insert and the store of its answer -/
theorem insert_one {u u1 : World} {X S L bo i : Nat} {T T0 T1 T2 : TypeId} {F : Value} {side : Int} {zs o : List Int} {n : Nat} {v v' : Value} {gs : Nat → Nat} (hop : Opened u X S L T0 T1 T2 F side zs n v gs) (hcp : Copies u X S L T zs n v gs) (hz : zs.length = n * 4) (ho : o.length = 4) (hi : i ≤ n)
    (hg : u.grownBy u1 v.ownBlock) (hown : u1.ownsRow X T2 1 v' (n + 1) (ptrs (insP gs i bo) (n + 1))) (hv : v'.ownBlock = v.ownBlock ∨ ∃ q, v'.ownBlock = some q ∧ u.heap.size ≤ q)
    (hb : u.rowIs bo T 4 (numAt fun j => num o j)) (hbX : X ≤ bo) (hbS : bo ≠ S) (hbL : bo ≠ L) (hbv : some bo ≠ v.ownBlock) :
    Opened (u1.setCell ⟨L, 0, none⟩ v') X S L T0 T1 T2 F side (insZ zs i o) (n + 1) v' (insP gs i bo) ∧ Copies (u1.setCell ⟨L, 0, none⟩ v') X S L T (insZ zs i o) (n + 1) v' (insP gs i bo) := by
  have hL := heap_lt hop.list
  have hS := heap_lt hop.side
  have far : ∀ q, q < u.heap.size → some q ≠ v.ownBlock → v'.ownBlock ≠ some q := fun q hq h1 e => by
    rcases hv with h | ⟨r, h, hr⟩
    · exact h1 (e.symm.trans h)
    · rw [h] at e; injection e with e; omega
  refine ⟨⟨hop.low, (Below.heap_setCell u1 _ _ S hop.low.2.2).trans ((hg.block S hS (fun e => hop.far.2 e.symm)).trans hop.side), heap_set0 ((hg.block L hL (fun e => hop.far.1 e.symm)).trans hop.list), hown.kept (set_grown u1 L 0 v') (.inr (fun e => far L hL (fun h => hop.far.1 h.symm) e)), far L hL (fun h => hop.far.1 h.symm), far S hS (fun h => hop.far.2 h.symm)⟩, fun q hq => ?_⟩
  have old : ∀ b f, u.rowIs b T 4 f → b ≠ L → some b ≠ v.ownBlock → (u1.setCell ⟨L, 0, none⟩ v').rowIs b T 4 f := fun b f h h1 h2 => (h.of_block (hg.block b h.lt h2)).setOther (a := ⟨L, 0, none⟩) h1 _
  unfold insP
  by_cases h1 : q < i
  · obtain ⟨c1, c2, c3, c4, c5⟩ := hcp q (by omega)
    simp only [h1, if_true]
    exact ⟨c1, c2, c3, fun e => far _ c5.lt c4 e.symm, (old _ _ c5 c3 c4).congr (fun j hj => by simp only [numAt]; rw [insZ_lo hz hi h1 hj])⟩
  · by_cases h2 : q = i
    · subst h2
      simp only [Nat.lt_irrefl, if_false, if_true]
      exact ⟨hbX, hbS, hbL, fun e => far _ hb.lt hbv e.symm, (old _ _ hb hbL hbv).congr (fun j hj => by simp only [numAt]; rw [insZ_at hz ho hi hj])⟩
    · obtain ⟨c1, c2, c3, c4, c5⟩ := hcp (q - 1) (by omega)
      simp only [h1, h2, if_false]
      exact ⟨c1, c2, c3, fun e => far _ c5.lt c4 e.symm, (old _ _ c5 c3 c4).congr (fun j hj => by simp only [numAt]; rw [insZ_hi hz ho (by omega) hq hj])⟩
end Go.Proofs.Ytdjmejjponlfoab
