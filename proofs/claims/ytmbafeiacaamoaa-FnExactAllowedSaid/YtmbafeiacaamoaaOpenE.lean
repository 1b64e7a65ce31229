/-
  An engine that came in: its books, and its blocked accounts, read as lists of numbers.
-/
import Derived.Test.YtmbafeiacaamoaaOpen
import Derived.Test.YtmbafeiacaamoaaEng
import Derived.ChangeArms
namespace Go.Proofs.Ytmbafeiacaamoaa
open Go.RowKit Wire
open Go.ChangeShapes Go.WideShapes Go.Deep

/-- some books in memory, in blocks below X, no side longer than M -/
def BksAt (M : Nat) (w : World) (X : Nat) (A : Option Addr) (bs : List (List Int × List Int)) : Prop := ∀ (k : Nat) (x : List Int × List Int), bs[k]? = some x → ∃ b o A1 n1 c1 A2 n2 c2, A = some ⟨b, o, none⟩ ∧ b < X ∧ w.cell? ⟨b, o + k * 2, none⟩ = some (.slice A1 n1 c1) ∧ w.cell? ⟨b, o + k * 2 + 1, none⟩ = some (.slice A2 n2 c2) ∧ (Lst w X 4 A1 n1 x.1 ∧ Lst w X 4 A2 n2 x.2) ∧ n1 ≤ M ∧ n2 ≤ M
theorem BksAt.below {M : Nat} {w w' : World} {X : Nat} {A : Option Addr} {bs : List (List Int × List Int)} (h : BksAt M w X A bs) (hb : Below X w w') : BksAt M w' X A bs := fun k x hx => by
  obtain ⟨b, o, A1, n1, c1, A2, n2, c2, h1, h2, h3, h4, h5, h6, h7⟩ := h k x hx
  exact ⟨b, o, A1, n1, c1, A2, n2, c2, h1, h2, (hb.cell (p := ⟨b, _, none⟩) h2).trans h3, (hb.cell (p := ⟨b, _, none⟩) h2).trans h4, ⟨h5.1.below hb, h5.2.below hb⟩, h6, h7⟩
theorem BksAt.more {M : Nat} {w : World} {X X' : Nat} {A : Option Addr} {bs : List (List Int × List Int)} (h : BksAt M w X A bs) (hX : X ≤ X') : BksAt M w X' A bs := fun k x hx => by
  obtain ⟨b, o, A1, n1, c1, A2, n2, c2, h1, h2, h3, h4, h5, h6, h7⟩ := h k x hx
  exact ⟨b, o, A1, n1, c1, A2, n2, c2, h1, Nat.lt_of_lt_of_le h2 hX, h3, h4, ⟨h5.1.more hX, h5.2.more hX⟩, h6, h7⟩
theorem BksAt.later {M : Nat} {w w' : World} {A : Option Addr} {bs : List (List Int × List Int)} (h : BksAt M w w.heap.size A bs) (hb : Below w.heap.size w w') : BksAt M w' w'.heap.size A bs := (h.below hb).more hb.size
theorem BksAt.books {M : Nat} {w : World} {X : Nat} {A : Option Addr} {bs : List (List Int × List Int)} (h : BksAt M w X A bs) (hs : ∀ x ∈ bs, x.1.length ≤ 1048576 * 4 ∧ x.2.length ≤ 1048576 * 4) : BooksAt w X A bs := fun k x hx => by
  obtain ⟨b, o, A1, n1, c1, A2, n2, c2, h1, h2, h3, h4, h5, h6, h7⟩ := h k x hx
  have hx2 := hs x (List.mem_of_getElem? hx)
  have l1 := h5.1.1
  have l2 := h5.2.1
  exact ⟨b, o, A1, n1, c1, A2, n2, c2, h1, h2, h3, h4, h5, by omega, by omega⟩

section
variable {H : Type} {enc : TypeId × Value → H} {P : Program} {w : World} {base : Nat} {spare : Nat → Bool} {held : Bool}
theorem open_nums {t e : TypeId} {fuel : Nat} {v : Value} {x : DataW H × List MemPlace} (ht : P.underlying t = some (.slice e)) (he : P.underlying e = some (.int .i64)) (hC : P.cellsOf e = 1)
    (h : DataW.trod enc P w base spare held fuel t [v] = some x) :
    ∃ (A : Option Addr) (n c : Nat) (zs : List Int), v = .slice A n c ∧ n ≤ maxLen ∧ Lst w w.heap.size 1 A n zs ∧ ∀ q, q < n → I64 (num zs q) := by
  rcases open_slice1 ht hC h with ⟨hcs, _⟩ | ⟨a, len, cap, m, n, V, D, Pl, hcs, hb, hl, hm, hmm, hx, hi⟩
  · injection hcs with hcs _
    subst hcs
    exact ⟨none, 0, 0, [], rfl, Nat.zero_le _, Lst.nil _ _ _ _, fun q hq => by omega⟩
  · injection hcs with hcs _
    subst hcs
    have hlm : len ≤ m := by rw [hmm]; split <;> omega
    have hcell : ∀ q, q < len → ∃ z : Int, w.cell? (a.add q) = some (.int .i64 z) ∧ I64 z := by
      intro q hq
      obtain ⟨hc, ht'⟩ := hi q (by omega)
      obtain ⟨z, e1, _, wf⟩ := DataW.trod_int he ht'
      simp only [List.cons.injEq, and_true] at e1
      exact ⟨z, by rw [hc, e1], i64_of_wf wf⟩
    obtain ⟨zs, hzl, hz⟩ := list_of _ hcell
    refine ⟨_, len, cap, zs, rfl, by omega, ⟨by omega, fun hn => ?_⟩, fun q hq => (hz q hq).2⟩
    have h0 := (hz 0 hn).1
    have hs := spot_none h0
    obtain ⟨b, o, spot⟩ := a
    subst hs
    refine ⟨b, o, rfl, ?_, fun j hj => ?_⟩
    · have := World.block_lt_of_cell? _ _ h0
      simpa [Addr.add] using this
    · have h1 := (hz j (by omega)).1
      have hadd : (⟨b, o, none⟩ : Addr).add j = ⟨b, o + j, none⟩ := by unfold Addr.add; split <;> simp_all
      rwa [hadd] at h1
theorem blist_of {Q : Nat → List Int × List Int → Prop} : ∀ L : Nat, (∀ q, q < L → ∃ z, Q q z) → ∃ bs : List (List Int × List Int), bs.length = L ∧ ∀ (q : Nat) x, bs[q]? = some x → Q q x
  | 0, _ => ⟨[], rfl, fun q x hq => by simp at hq⟩
  | L + 1, h => by
    obtain ⟨bs, hl, hq⟩ := blist_of L (fun q hq => h q (by omega))
    obtain ⟨z, hz⟩ := h L (by omega)
    refine ⟨bs ++ [z], by simp [hl], fun q x hx => ?_⟩
    rcases Nat.lt_or_ge q L with hlt | hge
    · rw [List.getElem?_append_left (by omega)] at hx
      exact hq q x hx
    · have hq' := (List.getElem?_eq_some_iff.1 hx).1
      simp [hl] at hq'
      obtain rfl : q = L := by omega
      rw [List.getElem?_append_right (by omega)] at hx
      simp [hl] at hx
      subst hx
      exact hz
theorem open_books {t e o r : TypeId} {f0 f1 : Field} {fs : Array Field} {fuel : Nat} {v : Value} {x : DataW H × List MemPlace} (ht : P.underlying t = some (.slice e)) (he : P.underlying e = some (.struct #[f0, f1]))
    (hone : oneCellFields P #[f0, f1] = true) (hC : P.cellsOf e = 2) (hf0 : f0.type = r) (hf1 : f1.type = r) (hr : P.underlying r = some (.slice o)) (ho : P.underlying o = some (.struct fs)) (hone2 : oneCellFields P fs = true) (hC2 : P.cellsOf o = fs.size) (hN : fs.size = 4)
    (hf : ∀ (j : Nat) (f : Field), fs[j]? = some f → P.underlying f.type = some (.int .i64)) (h : DataW.trod enc P w base spare held fuel t [v] = some x) :
    ∃ (A : Option Addr) (n c : Nat) (bs : List (List Int × List Int)), v = .slice A n c ∧ n ≤ maxLen ∧ bs.length = n ∧ BksAt maxLen w w.heap.size A bs := by
  subst hf0
  rcases open_slice_fields ht he hone hC h with ⟨hcs, _⟩ | ⟨a, len, cap, m, D, Pl, hcs, hb, hl, hm, hmm, hx, hi⟩
  · injection hcs with hcs _
    subst hcs
    exact ⟨none, 0, 0, [], rfl, Nat.zero_le _, rfl, fun k x hx => by simp at hx⟩
  · injection hcs with hcs _
    subst hcs
    have hlm : len ≤ m := by rw [hmm]; split <;> omega
    have hcell : ∀ q, q < len → ∃ z : List Int × List Int, ∃ A1 n1 c1 A2 n2 c2, w.cell? (a.add (q * 2)) = some (.slice A1 n1 c1) ∧ w.cell? (a.add (q * 2 + 1)) = some (.slice A2 n2 c2) ∧ (Lst w w.heap.size 4 A1 n1 z.1 ∧ Lst w w.heap.size 4 A2 n2 z.2) ∧ n1 ≤ maxLen ∧ n2 ≤ maxLen := by
      intro q hq
      obtain ⟨ys, n, _, _, hys, hyf⟩ := hi q (by omega)
      obtain ⟨v0, y0, hc0, _, hy0⟩ := hyf 0 f0 rfl
      obtain ⟨v1, y1, hc1, _, hy1⟩ := hyf 1 f1 rfl
      rw [hf1] at hy1
      obtain ⟨A1, n1, c1, z1, rfl, hn1, hl1, _⟩ := open_rows hr ho hone2 hC2 hN (by omega) hf hy0
      obtain ⟨A2, n2, c2, z2, rfl, hn2, hl2, _⟩ := open_rows hr ho hone2 hC2 hN (by omega) hf hy1
      exact ⟨(z1, z2), A1, n1, c1, A2, n2, c2, hc0, hc1, ⟨hl1, hl2⟩, hn1, hn2⟩
    obtain ⟨bs, hbl, hbq⟩ := blist_of _ hcell
    refine ⟨_, len, cap, bs, rfl, by omega, hbl, fun k x hx => ?_⟩
    obtain ⟨A1, n1, c1, A2, n2, c2, hc0, hc1, hL, hn1, hn2⟩ := hbq k x hx
    have h00 : ∃ u, w.cell? (a.add 0) = some u := by
      have hk := (List.getElem?_eq_some_iff.1 hx).1
      obtain ⟨z, A1, n1, c1, A2, n2, c2, h0, _⟩ := hcell 0 (by omega)
      exact ⟨_, by simpa using h0⟩
    obtain ⟨u, h0⟩ := h00
    have hs := spot_none h0
    obtain ⟨b, o', spot⟩ := a
    subst hs
    have hadd : ∀ j, (⟨b, o', none⟩ : Addr).add j = ⟨b, o' + j, none⟩ := fun j => by unfold Addr.add; split <;> simp_all
    rw [hadd] at hc0 hc1
    refine ⟨b, o', A1, n1, c1, A2, n2, c2, rfl, ?_, hc0, hc1, hL, hn1, hn2⟩
    have := World.block_lt_of_cell? _ _ h0
    simpa [Addr.add] using this
end
end Go.Proofs.Ytmbafeiacaamoaa
