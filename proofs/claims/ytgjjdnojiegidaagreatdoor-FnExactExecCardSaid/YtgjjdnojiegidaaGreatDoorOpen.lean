/-
 A slice of structs of numbers that came in, read as a list of numbers.
-/
import Derived.Test.YtgjjdnojiegidaaGreatDoorHA
import Derived.Deep.Slices
import Derived.Deep.Fields
import Derived.ChangeSame
namespace Go.Proofs.YtgjjdnojiegidaaGreatDoor
open Go.RowKit Wire
open Go.ChangeShapes Go.WideShapes Go.Deep

section
variable {H : Type} {enc : TypeId × Value → H} {P : Program} {w : World} {base : Nat} {spare : Nat → Bool} {held : Bool}
theorem open_slice_fields {t e : TypeId} {fs : Array Field} {fuel : Nat} {cs : List Value} {x : DataW H × List MemPlace} (ht : P.underlying t = some (.slice e)) (he : P.underlying e = some (.struct fs))
 (hone : oneCellFields P fs = true) (hC : P.cellsOf e = fs.size) (h : DataW.trod enc P w base spare held fuel t cs = some x) :
 (cs = [.slice none 0 0] ∧ x = (.nil, [])) ∨
 ∃ (a : Addr) (len cap m : Nat) (D : Nat → DataW H) (Pl : Nat → List MemPlace), cs = [.slice (some a) len cap] ∧ base ≤ a.block ∧ len ≤ cap ∧ cap ≤ maxLen ∧ m = (if spare a.block then cap else len) ∧
  x = (.slice ((List.range len).map D) ((List.range (m - len)).map fun j => D (len + j)), MemPlace.row a (m * fs.size) ++ (List.range m).flatMap Pl) ∧
  ∀ i, i < m → ∃ (ys : List (DataW H × List MemPlace)) (n : Nat), D i = .agg (ys.map (·.1)) ∧ Pl i = ys.flatMap (·.2) ∧ ys.length = fs.size ∧
   ∀ (j : Nat) (f : Field), fs[j]? = some f → ∃ (v : Value) (y : DataW H × List MemPlace), w.cell? (a.add (i * fs.size + j)) = some v ∧ ys[j]? = some y ∧ DataW.trod enc P w base spare held n f.type [v] = some y := by
 rcases open_slice ht h with h0 | ⟨a, len, cap, m, n, D, Pl, hcs, hb, hl, hm, hmm, hx, hi⟩
 · exact .inl h0
 · refine .inr ⟨a, len, cap, m, D, Pl, hcs, hb, hl, hm, hmm, by rw [hC] at hx; exact hx, fun i him => ?_⟩
   obtain ⟨cs', hc, ht'⟩ := hi i him
   rw [hC] at hc
   obtain ⟨ys, n', hn', hy, hlen, hyl, hf⟩ := DataW.trod_struct he ht'
   obtain ⟨_, hcl, hat⟩ := World.cells?_some hc
   simp only [Prod.mk.injEq] at hy
   refine ⟨ys, n', hy.1, hy.2, hyl, fun j f hj => ?_⟩
   obtain ⟨ho, hk⟩ := hone_of hone j f hj
   have hjl : j < fs.size := (Array.getElem?_eq_some_iff.1 hj).1
   have hcell := hat j hjl
   have hv : cs'[j]? = some (cs'[j]'(by omega)) := List.getElem?_eq_getElem (by omega)
   have h1 := hf j f hj
   rw [ho, hk] at h1
   have hone' : (cs'.drop j).take 1 = [cs'[j]'(by omega)] := by
    rw [List.drop_eq_getElem_cons (by omega)]
    rfl
   rw [hone'] at h1
   have hys : ys[j]? = some (ys[j]'(by omega)) := List.getElem?_eq_getElem (by omega)
   refine ⟨_, _, ?_, hys, h1.trans hys⟩
   rw [← Go.Deep.add_add, hcell, hv]

theorem list_of {Q : Nat → Int → Prop} : ∀ L : Nat, (∀ q, q < L → ∃ z, Q q z) → ∃ zs : List Int, zs.length = L ∧ ∀ q, q < L → Q q (num zs q)
 | 0, _ => ⟨[], rfl, fun q hq => by omega⟩
 | L + 1, h => by
  obtain ⟨zs, hl, hq⟩ := list_of L (fun q hq => h q (by omega))
  obtain ⟨z, hz⟩ := h L (by omega)
  refine ⟨zs ++ [z], by simp [hl], fun q hq' => ?_⟩
  rcases Nat.lt_or_ge q L with hlt | hge
  · have := hq q hlt
    unfold num at this ⊢
    rw [List.getD_eq_getElem?_getD, List.getElem?_append_left (by omega), ← List.getD_eq_getElem?_getD]
    exact this
  · obtain rfl : q = L := by omega
    unfold num
    rw [List.getD_eq_getElem?_getD, List.getElem?_append_right (by omega)]
    simp [hl]
    exact hz
theorem spot_none {a : Addr} {v : Value} (h : w.cell? (a.add 0) = some v) : a.spot = none := by
 have h1 := World.cell?_spot h
 simpa [Addr.add] using h1
theorem fields_int {ti : TypeId} (hi : P.underlying ti = some (.int .i64)) (fs : Array Field) (h : ∀ f ∈ fs.toList, f.type = ti) : ∀ (j : Nat) (f : Field), fs[j]? = some f → P.underlying f.type = some (.int .i64) := by
 intro j f hj
 rw [h f (Array.mem_toList_iff.2 (Array.mem_of_getElem? hj))]
 exact hi
theorem open_rows {t e : TypeId} {fs : Array Field} {N fuel : Nat} {v : Value} {x : DataW H × List MemPlace} (ht : P.underlying t = some (.slice e)) (he : P.underlying e = some (.struct fs))
 (hone : oneCellFields P fs = true) (hC : P.cellsOf e = fs.size) (hN : fs.size = N) (hN0 : 0 < N) (hf : ∀ (j : Nat) (f : Field), fs[j]? = some f → P.underlying f.type = some (.int .i64)) (h : DataW.trod enc P w base spare held fuel t [v] = some x) :
 ∃ (A : Option Addr) (n c : Nat) (zs : List Int), v = .slice A n c ∧ n ≤ maxLen ∧ Lst w w.heap.size N A n zs ∧ ∀ q, q < n * N → I64 (num zs q) := by
 subst hN
 rcases open_slice_fields ht he hone hC h with ⟨hcs, _⟩ | ⟨a, len, cap, m, D, Pl, hcs, hb, hl, hm, hmm, hx, hi⟩
 · injection hcs with hcs _
   subst hcs
   exact ⟨none, 0, 0, [], rfl, Nat.zero_le _, Lst.nil _ _ _ _, fun q hq => by omega⟩
 · injection hcs with hcs _
   subst hcs
   have hlm : len ≤ m := by rw [hmm]; split <;> omega
   have hcell : ∀ q, q < len * fs.size → ∃ z : Int, w.cell? (a.add q) = some (.int .i64 z) ∧ I64 z := by
    intro q hq
    have hq1 : q / fs.size < len := Nat.div_lt_of_lt_mul (by rw [Nat.mul_comm]; exact hq)
    have hq2 : q % fs.size < fs.size := Nat.mod_lt _ hN0
    obtain ⟨ys, n, _, _, hys, hyf⟩ := hi (q / fs.size) (by omega)
    obtain ⟨v, y, hc, _, hy⟩ := hyf (q % fs.size) _ (Array.getElem?_eq_getElem hq2)
    obtain ⟨z, e1, _, wf⟩ := DataW.trod_int (hf _ _ (Array.getElem?_eq_getElem hq2)) hy
    simp only [List.cons.injEq, and_true] at e1
    subst e1
    rw [Nat.div_add_mod'] at hc
    exact ⟨z, hc, i64_of_wf wf⟩
   obtain ⟨zs, hzl, hz⟩ := list_of _ hcell
   refine ⟨_, len, cap, zs, rfl, by omega, ⟨hzl, fun hn => ?_⟩, fun q hq => (hz q hq).2⟩
   have h0 := (hz 0 (Nat.mul_pos hn hN0)).1
   have hs := spot_none h0
   obtain ⟨b, o, spot⟩ := a
   subst hs
   refine ⟨b, o, rfl, ?_, fun j hj => ?_⟩
   · have := World.block_lt_of_cell? _ _ h0
     simpa [Addr.add] using this
   · have h1 := (hz j hj).1
     have hadd : (⟨b, o, none⟩ : Addr).add j = ⟨b, o + j, none⟩ := by unfold Addr.add; split <;> simp_all
     rwa [hadd] at h1
end
end Go.Proofs.YtgjjdnojiegidaaGreatDoor
