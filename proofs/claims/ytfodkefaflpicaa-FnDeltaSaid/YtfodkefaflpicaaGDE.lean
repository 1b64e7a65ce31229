/-
  DepP, Dep, DepO.
-/
import Derived.Test.YtfodkefaflpicaaBookP
import Derived.Test.YtfodkefaflpicaaSides
import Derived.Test.YtfodkefaflpicaaPod
import Derived.Test.YtfodkefaflpicaaKeep
import Derived.StillTailTactics
import Derived.Deep.QuietTactic
import Derived.BigQuiet
import Derived.Deep.LoopGhost
import Derived.Deep.AppendLies
import Derived.Lib.OwnKind
import Derived.Test.YtfodkefaflpicaaOptS
namespace Go.Proofs.Ytfodkefaflpicaa
open Go.RowKit Wire

/-- one more order -/
def dpS (L : List Int) (p q : Int) : List Int := if 0 < L.length ∧ num L (L.length - 3) = p then (L.set (L.length - 2) (num L (L.length - 2) + q)).set (L.length - 1) (num L (L.length - 1) + 1) else L ++ [p, q, 1]
/-- the levels of the first orders -/
def dpL (zs : List Int) : Nat → List Int
  | 0 => []
  | k + 1 => dpS (dpL zs k) (price zs k) (num zs (k * 4 + 3))
theorem num_lt {L M : List Int} {i : Nat} (h : i < L.length) : num (L ++ M) i = num L i := by
  unfold num
  rw [List.getD_eq_getElem?_getD, List.getD_eq_getElem?_getD, List.getElem?_append_left h]
theorem num_ge {L M : List Int} {i : Nat} : num (L ++ M) (L.length + i) = num M i := by
  unfold num
  rw [List.getD_eq_getElem?_getD, List.getD_eq_getElem?_getD, List.getElem?_append_right (by omega)]
  congr 2
  omega
theorem num_set_ne {L : List Int} {i j : Nat} {x : Int} (h : i ≠ j) : num (L.set i x) j = num L j := by
  unfold num
  rw [List.getD_eq_getElem?_getD, List.getD_eq_getElem?_getD, List.getElem?_set_ne h]
theorem num_set_eq {L : List Int} {i : Nat} {x : Int} (h : i < L.length) : num (L.set i x) i = x := by
  unfold num
  rw [List.getD_eq_getElem?_getD, List.getElem?_set_self h]
  rfl
/-- what holds of the levels of the first k orders: j levels -/
structure DpOk (side : Int) (zs : List Int) (k j : Nat) (L : List Int) : Prop where
  len : L.length = j * 3
  le : j ≤ k
  pos : 0 < k → 0 < j
  last : 0 < k → num L ((j - 1) * 3) = price zs (k - 1)
  ord : ∀ i, i + 1 < j → betB side (num L (i * 3)) (num L ((j - 1) * 3)) = true
  lo : ∀ i, i < j → 0 ≤ num L (i * 3 + 1) ∧ 0 ≤ num L (i * 3 + 2)
  hi : ∀ i, i < j → num L (i * 3 + 1) ≤ (k : Int) * 1000000 ∧ num L (i * 3 + 2) ≤ (k : Int)
theorem betB_trans {side a b c : Int} (h1 : betB side a b = true) (h2 : betB side b c = true) : betB side a c = true := by
  unfold betB at *
  split at h1 <;> simp_all <;> omega
theorem betB_ne {side a b : Int} (h : betB side a b = true) : a ≠ b := by
  unfold betB at h
  split at h <;> simp at h <;> omega
theorem betB_or {side a b : Int} (h : betB side b a = false) (hn : a ≠ b) : betB side a b = true := by
  unfold betB at *
  split at h <;> simp_all <;> omega
theorem srtO_at {side : Int} {zs : List Int} : ∀ n k, srtO side zs n = true → 0 < k → k < n → betB side (price zs k) (price zs (k - 1)) = false
  | 0, k, _, _, hk => absurd hk (Nat.not_lt_zero k)
  | n + 1, k, h, h0, hk => by
    simp only [srtO, Bool.and_eq_true] at h
    rcases Nat.lt_or_ge k n with hlt | hge
    · exact srtO_at n k h.1 h0 hlt
    · obtain rfl : k = n := by omega
      have := h.2
      rw [show decide (k = 0) = false from decide_eq_false (by omega)] at this
      simpa using this
/-- the level at which the next order is found: the last one, or none -/
theorem DpOk.only {side : Int} {zs : List Int} {k j n : Nat} {L : List Int} (h : DpOk side zs k j L) (hs : srtO side zs n = true) (hk : k < n) : ∀ i, i + 1 < j → num L (i * 3) ≠ price zs k := by
  intro i hi
  have h0 : 0 < k := by have := h.le; omega
  have h1 := h.ord i hi
  rw [h.last h0] at h1
  have h2 := srtO_at n k hs h0 hk
  intro e
  rw [e] at h1
  rw [h1] at h2
  cases h2
theorem dpL_hit {L : List Int} {j : Nat} {p q : Int} (hl : L.length = j * 3) (hj : 0 < j) (he : num L ((j - 1) * 3) = p) : dpS L p q = (L.set ((j - 1) * 3 + 1) (num L ((j - 1) * 3 + 1) + q)).set ((j - 1) * 3 + 2) (num L ((j - 1) * 3 + 2) + 1) := by
  unfold dpS
  have e1 : L.length - 3 = (j - 1) * 3 := by omega
  have e2 : L.length - 2 = (j - 1) * 3 + 1 := by omega
  have e3 : L.length - 1 = (j - 1) * 3 + 2 := by omega
  rw [e1, e2, e3, if_pos ⟨by omega, he⟩]
theorem dpL_miss {L : List Int} {j : Nat} {p q : Int} (hl : L.length = j * 3) (he : 0 < j → num L ((j - 1) * 3) ≠ p) : dpS L p q = L ++ [p, q, 1] := by
  unfold dpS
  rw [if_neg]
  rintro ⟨h1, h2⟩
  have e1 : L.length - 3 = (j - 1) * 3 := by omega
  rw [e1] at h2
  exact he (by omega) h2
theorem DpOk.zero (side : Int) (zs : List Int) : DpOk side zs 0 0 (dpL zs 0) :=
  ⟨rfl, Nat.le_refl _, fun h => absurd h (Nat.lt_irrefl _), fun h => absurd h (Nat.lt_irrefl _), fun i h => by omega, fun i h => by omega, fun i h => by omega⟩
theorem DpOk.hit {side : Int} {zs : List Int} {k j n : Nat} (h : DpOk side zs k j (dpL zs k)) (ha : allO zs n = true) (hk : k < n) (hj : 0 < j) (he : num (dpL zs k) ((j - 1) * 3) = price zs k) : DpOk side zs (k + 1) j (dpL zs (k + 1)) := by
  have hq := allO_at n k ha hk
  simp only [ordB, inB, Bool.and_eq_true, decide_eq_true_eq] at hq
  have e := dpL_hit (q := num zs (k * 4 + 3)) h.len hj he
  have hlen := h.len
  rw [show dpL zs (k + 1) = dpS (dpL zs k) (price zs k) (num zs (k * 4 + 3)) from rfl, e]
  have hp : ∀ i, num (((dpL zs k).set ((j - 1) * 3 + 1) (num (dpL zs k) ((j - 1) * 3 + 1) + num zs (k * 4 + 3))).set ((j - 1) * 3 + 2) (num (dpL zs k) ((j - 1) * 3 + 2) + 1)) (i * 3) = num (dpL zs k) (i * 3) := fun i => by
    rw [num_set_ne (by omega), num_set_ne (by omega)]
  refine ⟨by simp [hlen], by have := h.le; omega, fun _ => hj, fun _ => by rw [hp, he]; rfl, fun i hi => by rw [hp, hp]; exact h.ord i hi, fun i hi => ?_, fun i hi => ?_⟩
  · have a := h.lo i hi
    by_cases hij : i = j - 1
    · subst hij
      rw [num_set_ne (by omega), num_set_eq (by omega), num_set_eq (by simp; omega)]
      omega
    · rw [num_set_ne (by omega), num_set_ne (by omega), num_set_ne (by omega), num_set_ne (by omega)]
      exact a
  · have a := h.hi i hi
    by_cases hij : i = j - 1
    · subst hij
      rw [num_set_ne (by omega), num_set_eq (by omega), num_set_eq (by simp; omega)]
      omega
    · rw [num_set_ne (by omega), num_set_ne (by omega), num_set_ne (by omega), num_set_ne (by omega)]
      omega
theorem DpOk.miss {side : Int} {zs : List Int} {k j n : Nat} (h : DpOk side zs k j (dpL zs k)) (ha : allO zs n = true) (hs : srtO side zs n = true) (hk : k < n) (he : 0 < j → num (dpL zs k) ((j - 1) * 3) ≠ price zs k) : DpOk side zs (k + 1) (j + 1) (dpL zs (k + 1)) := by
  have hq := allO_at n k ha hk
  simp only [ordB, inB, Bool.and_eq_true, decide_eq_true_eq] at hq
  have e := dpL_miss (q := num zs (k * 4 + 3)) h.len he
  have hlen := h.len
  rw [show dpL zs (k + 1) = dpS (dpL zs k) (price zs k) (num zs (k * 4 + 3)) from rfl, e]
  have hle := h.le
  have old : ∀ i, i < j * 3 → num (dpL zs k ++ [price zs k, num zs (k * 4 + 3), 1]) i = num (dpL zs k) i := fun i hi => num_lt (by omega)
  have new : ∀ i, num (dpL zs k ++ [price zs k, num zs (k * 4 + 3), 1]) (j * 3 + i) = num [price zs k, num zs (k * 4 + 3), 1] i := fun i => by rw [← hlen]; exact num_ge
  refine ⟨by simp [hlen]; omega, by omega, fun _ => by omega, fun _ => ?_, fun i hi => ?_, fun i hi => ?_, fun i hi => ?_⟩
  · rw [show (j + 1 - 1) * 3 = j * 3 + 0 by omega, new]; rfl
  · rw [show (j + 1 - 1) * 3 = j * 3 + 0 by omega, new, old _ (by omega)]
    show betB side _ (price zs k) = true
    have h0 : 0 < k := by omega
    have b := betB_or (srtO_at n k hs h0 hk) (by rw [← h.last h0]; exact he (by omega))
    by_cases hij : i + 1 = j
    · have : i * 3 = (j - 1) * 3 := by omega
      rw [this, h.last h0]; exact b
    · have a := h.ord i (by omega)
      rw [h.last h0] at a
      exact betB_trans a b
  · by_cases hij : i = j
    · subst hij
      rw [new, new]
      show 0 ≤ num zs (k * 4 + 3) ∧ (0 : Int) ≤ 1
      omega
    · rw [old _ (by omega), old _ (by omega)]; exact h.lo i (by omega)
  · by_cases hij : i = j
    · subst hij
      rw [new, new]
      show num zs (k * 4 + 3) ≤ _ ∧ (1 : Int) ≤ _
      omega
    · rw [old _ (by omega), old _ (by omega)]; have := h.hi i (by omega); omega
theorem dp_ok {side : Int} {zs : List Int} {n : Nat} (ha : allO zs n = true) (hs : srtO side zs n = true) : ∀ k, k ≤ n → ∃ j, DpOk side zs k j (dpL zs k)
  | 0, _ => ⟨0, DpOk.zero side zs⟩
  | k + 1, hk => by
    obtain ⟨j, h⟩ := dp_ok ha hs k (by omega)
    by_cases he : 0 < j ∧ num (dpL zs k) ((j - 1) * 3) = price zs k
    · exact ⟨j, h.hit ha hk he.1 he.2⟩
    · exact ⟨j + 1, h.miss ha hs hk (fun h0 e => he ⟨h0, e⟩)⟩
end Go.Proofs.Ytfodkefaflpicaa

namespace Go.Proofs.Ytfodkefaflpicaa
open Go.RowKit Wire

def depZ (bk : Bool) (side : Int) (za : List Int) (n : Nat) (zb : List Int) (m : Nat) : List Int := dpL (sideZ bk side za zb) (sideN bk side n m)
def depN (bk : Bool) (side : Int) (za : List Int) (n : Nat) (zb : List Int) (m : Nat) : Nat := (depZ bk side za n zb m).length / 3
theorem depN_of {bk : Bool} {side : Int} {za zb : List Int} {n m j : Nat} (h : (depZ bk side za n zb m).length = j * 3) : depN bk side za n zb m = j := by
  unfold depN; omega
theorem side_facts {side : Int} {za zb : List Int} {n m : Nat} {bk : Bool} (hbk : bookB za n zb m = bk) : sideN bk side n m ≤ 20 ∧ allO (sideZ bk side za zb) (sideN bk side n m) = true ∧ srtO side (sideZ bk side za zb) (sideN bk side n m) = true := by
  cases bk with
  | false => rw [sideN_no]; exact ⟨by omega, rfl, rfl⟩
  | true =>
    simp only [bookB, sideB, Bool.and_eq_true, decide_eq_true_eq] at hbk
    obtain ⟨⟨a1, a2, a3⟩, ⟨b1, b2, b3⟩, -, -⟩ := hbk
    unfold sideN sideZ
    by_cases h1 : side = 1
    · subst h1
      simp only [if_pos, and_self]
      exact ⟨a1, a2, a3⟩
    · by_cases h2 : side = 2
      · subst h2
        simp only [show ((2 : Int) = 1) = False from by simp, and_false, if_false, if_pos, and_self]
        exact ⟨b1, b2, b3⟩
      · simp only [h1, h2, and_false, if_false]
        exact ⟨by omega, rfl, rfl⟩
theorem depN_le {side : Int} {za zb : List Int} {n m : Nat} : depN (bookB za n zb m) side za n zb m ≤ 20 := by
  obtain ⟨h1, h2, h3⟩ := side_facts (side := side) (rfl : bookB za n zb m = _)
  obtain ⟨j, hD⟩ := dp_ok h2 h3 _ (Nat.le_refl _)
  have := hD.len
  have := hD.le
  rw [depN_of (j := j) (by unfold depZ; exact hD.len)]
  omega
theorem own_set3 {w : World} {base n c q : Nat} {T : TypeId} {zs : List Int} (h : w.ownsRow base T 3 (.slice (some ⟨q, 0, none⟩) n c) n (nums zs)) (j : Nat) (y : Int) :
    (w.setCell ⟨q, j, none⟩ (.int .i64 y)).ownsRow base T 3 (.slice (some ⟨q, 0, none⟩) n c) n (nums (zs.set j y)) := by
  have := (h.stored j (.int .i64 y)).1
  unfold nums at *
  rw [List.map_set]
  exact this
theorem own_at3 {w : World} {base n c q : Nat} {T : TypeId} {zs : List Int} (h : w.ownsRow base T 3 (.slice (some ⟨q, 0, none⟩) n c) n (nums zs)) {i : Nat} (hi : i < n * 3) : w.cell? ⟨q, i, none⟩ = some (.int .i64 (num zs i)) := by
  rw [h.cellAt i hi]
  exact nums_get (by have := h.1; rw [nums_length] at this; omega)
theorem own_off {w w' : World} {B n sz : Nat} {e : TypeId} {v : Value} {xs : List Value} {row : Option Nat} (h : w.ownsRow B e sz v n xs) (hg : w.grownBy w' row) (hr : ∀ q, v.ownBlock = some q → row ≠ some q) : w'.ownsRow B e sz v n xs :=
  h.kept hg (by
    rcases h.2 with ⟨rfl, _⟩ | ⟨g, cap, cur, rfl, _⟩
    · exact .inl rfl
    · exact .inr (fun e => hr g rfl (e.symm.trans rfl)))
/-- rows of two kinds are apart -/
theorem kinds_apart {w : World} {b b' s s' n m : Nat} {e e' : TypeId} {v u : Value} {xs ys : List Value} (h1 : w.ownsRow b e s v n xs) (h2 : w.ownsRow b' e' s' u m ys) (he : e ≠ e') : ∀ q, v.ownBlock = some q → u.ownBlock ≠ some q := by
  intro q hq hu
  obtain ⟨c1, f1, g1⟩ := Lib.ownsRow_kind h1 q hq
  obtain ⟨c2, f2, g2⟩ := Lib.ownsRow_kind h2 q hu
  rw [g1] at g2
  injection g2 with g2
  injection g2 with _ g2
  exact he g2
/-- levels and the orders that they are made of -/
structure DepR (w : World) (base : Nat) (v : Value) (j : Nat) (L : List Int) (u : Value) (N : Nat) (zs : List Int) : Prop where
  lv : w.ownsRow base 94 3 v j (nums L)
  od : w.ownsRow base 28 4 u N (nums zs)
theorem DepR.apart {w : World} {base j N : Nat} {v u : Value} {L zs : List Int} (h : DepR w base v j L u N zs) : ∀ q, v.ownBlock = some q → u.ownBlock ≠ some q := kinds_apart h.lv h.od (by decide)
theorem DepR.drewN {w : World} {base j N : Nat} {v u : Value} {L zs : List Int} (h : DepR w base v j L u N zs) (n : Nat) : DepR (w.drewN n) base v j L u N zs := ⟨h.lv, h.od⟩
theorem DepR.drew {w : World} {base j N : Nat} {v u : Value} {L zs : List Int} (h : DepR w base v j L u N zs) : DepR w.drew base v j L u N zs := ⟨h.lv, h.od⟩
theorem DepR.later {w w' : World} {base j N : Nat} {v u : Value} {L zs : List Int} (h : DepR w base v j L u N zs) (hb : Below w.heap.size w w') : DepR w' base v j L u N zs := ⟨own_below h.lv hb, own_below h.od hb⟩
theorem DepR.set {w : World} {base j N q c : Nat} {u : Value} {L zs : List Int} (h : DepR w base (.slice (some ⟨q, 0, none⟩) j c) j L u N zs) (i : Nat) (y : Int) : DepR (w.setCell ⟨q, i, none⟩ (.int .i64 y)) base (.slice (some ⟨q, 0, none⟩) j c) j (L.set i y) u N zs :=
  ⟨own_set3 h.lv i y, own_off h.od (h.lv.stored i (.int .i64 y)).2 (fun p hp e => h.apart p (by rw [← e]; rfl) hp)⟩
theorem DepR.more {w w' : World} {base j j' N : Nat} {v v' u : Value} {L L' zs : List Int} (h : DepR w base v j L u N zs) (ho : w'.ownsRow base 94 3 v' j' (nums L')) (hg : w.grownBy w' v.ownBlock) : DepR w' base v' j' L' u N zs :=
  ⟨ho, own_off h.od hg (fun q hq e => h.apart q e hq)⟩
theorem lvl_info : (Try.prog.info? 94).map (fun i => (i.zero, i.size, i.bytes)) = some (some (.agg #[.int .i64 0, .int .i64 0, .int .i64 0]), 3, 24) := by kernel_rfl
theorem grown_cell {w w' : World} {row : Option Nat} (hg : w.grownBy w' row) {b o : Nat} (hb : b < w.heap.size) (hr : row ≠ some b) : w'.cell? ⟨b, o, none⟩ = w.cell? ⟨b, o, none⟩ := by
  simp [World.cell?, hg.block b hb (fun e => hr e.symm)]
set_option linter.unusedSimpArgs false in
set_option maxHeartbeats 3200000 in
set_option maxRecDepth 100000 in
theorem spec_Depth (a1 : Addr) (n c : Nat) (a2 : Addr) (m d : Nat) (za zb : List Int) (side : Int) (w : World) (ha : Lst w w.heap.size 4 (some a1) n za) (hb : Lst w w.heap.size 4 (some a2) m zb) (hn : n ≤ 1048576) (hm : m ≤ 1048576) :
    Calls Try.prog 114 #[.agg #[.slice (some a1) n c, .slice (some a2) m d], .int .i64 side] w fun e w' => (∃ r, e = .returned r ∧ w'.ownsRow w.heap.size 94 3 r (depN (bookB za n zb m) side za n zb m) (nums (depZ (bookB za n zb m) side za n zb m))) ∧ Below w.heap.size w w' := by
  obtain ⟨i0, hi, hz0, hz1, hz2⟩ := info_parts lvl_info
  have hb0 : Below w.heap.size w ((w.alloc (.cells #[.slice (some a1) n c, .slice (some a2) m d] 26)).alloc (.cells #[] 94)) := ((Below.refl _ _).alloc (Nat.le_refl _) _).alloc (by simp) _
  go_enter Try.func114, Try.ntmps114
  go_wp2_with fail
  have hA : Lst ((w.alloc (.cells #[.slice (some a1) n c, .slice (some a2) m d] 26)).alloc (.cells #[] 94)) ((w.alloc (.cells #[.slice (some a1) n c, .slice (some a2) m d] 26)).alloc (.cells #[] 94)).heap.size 4 (some a1) n za := ha.later hb0
  have hZb : Lst ((w.alloc (.cells #[.slice (some a1) n c, .slice (some a2) m d] 26)).alloc (.cells #[] 94)) ((w.alloc (.cells #[.slice (some a1) n c, .slice (some a2) m d] 26)).alloc (.cells #[] 94)).heap.size 4 (some a2) m zb := hb.later hb0
  have hE : ((w.alloc (.cells #[.slice (some a1) n c, .slice (some a2) m d] 26)).alloc (.cells #[] 94)).ownsRow w.heap.size 94 3 (.slice (some ⟨w.heap.size + 1, 0, none⟩) 0 0) 0 (nums []) := by
    have := own_empty (w.alloc (.cells #[.slice (some a1) n c, .slice (some a2) m d] 26)) 94 3
    rw [show (w.alloc (.cells #[.slice (some a1) n c, .slice (some a2) m d] 26)).heap.size = w.heap.size + 1 by simp] at this
    exact own_mono this (by omega)
  clear ha hb
  generalize ((w.alloc (.cells #[.slice (some a1) n c, .slice (some a2) m d] 26)).alloc (.cells #[] 94)) = w0 at *
  refine (spec_Side a1 n c a2 m d za zb side w0 hA hZb hn hm).mono ?_
  obtain ⟨hN20, hall, hsrt⟩ := side_facts (side := side) (rfl : bookB za n zb m = _)
  obtain ⟨N, hNe⟩ : ∃ N, sideN (bookB za n zb m) side n m = N := ⟨_, rfl⟩
  obtain ⟨zs, hZe⟩ : ∃ zs, sideZ (bookB za n zb m) side za zb = zs := ⟨_, rfl⟩
  have HZ := Lib.hid (show depZ (bookB za n zb m) side za n zb m = dpL zs N by unfold depZ; rw [hNe, hZe])
  rw [hNe] at hN20
  rw [hNe, hZe] at hall hsrt
  rw [hNe, hZe]
  clear hNe hZe
  rintro e w1 ⟨⟨r, rfl, hown⟩, hb1⟩
  obtain ⟨A6, c6, rfl, _, _⟩ := own_slice hown
  have hR : DepR w1 w.heap.size (.slice (some ⟨w.heap.size + 1, 0, none⟩) 0 0) 0 [] (.slice A6 N c6) N zs := ⟨own_below hE hb1, own_mono hown hb0.size⟩
  have hbel := hb0.trans (hb1.mono hb0.size)
  clear hE hown hb1 hb0 hA hZb
  go_wp2_with fail
  go_loopw [5, 7] (fun v i wr => ∃ k j : Nat, k ≤ N ∧ i = .int .i64 (k : Int) ∧ DpOk side zs k j (dpL zs k) ∧ DepR wr w.heap.size v j (dpL zs k) (.slice A6 N c6) N zs ∧ Below w.heap.size w wr) (fun _ i _ => N - (intOf i).toNat)
  case atStart => exact ⟨0, 0, Nat.zero_le _, rfl, DpOk.zero _ _, hR, hbel⟩
  case round =>
    clear hR hbel
    obtain ⟨k, j, hk, rfl, hD, hR, hbel⟩ := hrel
    obtain ⟨Av, dv, rfl, _, _⟩ := own_slice hR.lv
    by_cases hlt : k < N
    · obtain ⟨b, o, rfl, hb, c0, c1, c2, c3⟩ := (Lst.of_own hR.od).row4 hlt
      have hjk := hD.le
      rcases Nat.eq_zero_or_pos j with hj | hj
      · subst hj
        have HM := Lib.hid (hD.miss hall hsrt hlt (fun h => absurd h (Nat.lt_irrefl _)))
        have HG := Lib.hid (show dpL zs (k + 1) = dpL zs k ++ [num zs (k * 4 + 2), num zs (k * 4 + 3), 1] from dpL_miss hD.len (fun h => absurd h (Nat.lt_irrefl _)))
        clear hD hall hsrt
        go_upto_region 7 with fail
        go_quiet (fail)
        go_upto_region 10 with fail
        rename Nat => nq
        have hRe := hR.drewN nq
        have hbe : b < (wr.drewN nq).heap.size := hb
        have hbele : Below w.heap.size w (wr.drewN nq) := ⟨hbel.os, hbel.tape, hbel.output, hbel.size, hbel.block⟩
        have e2 : (wr.drewN nq).cell? ⟨b, o + k * 4 + 2, none⟩ = _ := c2
        have e3 : (wr.drewN nq).cell? ⟨b, o + k * 4 + 3, none⟩ = _ := c3
        clear hR hb hbel c0 c1 c2 c3
        generalize wr.drewN nq = we at *
        have hRd := hRe.drew
        have hbeld := hbele.drew
        have hbs := hbeld.size
        have hbs2 : w.heap.size ≤ we.heap.size := hbele.size
        have hbd : b < we.drew.heap.size := hbe
        refine wp_region_held_drew (S := fun w' => w'.cell? ⟨b, o + k * 4 + 2, none⟩ = some (.int .i64 (num zs (k * 4 + 2))) ∧ w'.cell? ⟨b, o + k * 4 + 3, none⟩ = some (.int .i64 (num zs (k * 4 + 3)))) (by kernel_rfl) ?hSq1xs (fun hHeld => ?restq1xs)
        case hSq1xs => (first | exact ⟨e2, e3⟩ | exact ⟨(((Below.refl _ _).alloc (Nat.le_refl _) _).cell (p := ⟨b, o + k * 4 + 2, none⟩) hbd).trans e2, (((Below.refl _ _).alloc (Nat.le_refl _) _).cell (p := ⟨b, o + k * 4 + 3, none⟩) hbd).trans e3⟩ | exact ⟨(grown_cell hgrow2 (by simp; omega) (fun e => hRd.apart b e rfl)).trans hHeld.1, (grown_cell hgrow2 (by simp; omega) (fun e => hRd.apart b e rfl)).trans hHeld.2⟩ | exact hHeld)
        refine wpAnyH_take (i := 0) (oi := ?oiq1x1) (v := ?vq1x1) ?hiq1x1 (by kernel_rfl) (by kernel_rfl) (by kernel_rfl) ?hQq1x1 (Or.inl ⟨?hwq1x1, ?hyq1x1⟩) (by assumption) ?restq1x1
        case hiq1x1 => simp only [List.getElem?_toArray, List.getElem?_cons_succ, List.getElem?_cons_zero]; exact rfl
        case hQq1x1 => exact fun _ _ _ h => h
        case hwq1x1 => rfl
        case hyq1x1 => ((intro w hSw; (try dsimp only at hSw); go_simp) <;> with_reducible rfl)
        try simp only [Act.put, List.setIfInBounds_toArray, List.set_cons_zero, List.set_cons_succ]
        refine wpAnyH_take (i := 1) (oi := ?oiq1x2) (v := ?vq1x2) ?hiq1x2 (by kernel_rfl) (by kernel_rfl) (by kernel_rfl) ?hQq1x2 (Or.inl ⟨?hwq1x2, ?hyq1x2⟩) (by assumption) ?restq1x2
        case hiq1x2 => simp only [List.getElem?_toArray, List.getElem?_cons_succ, List.getElem?_cons_zero]; exact rfl
        case hQq1x2 => exact fun _ _ _ h => h
        case hwq1x2 => rfl
        case hyq1x2 => ((intro w hSw; (try dsimp only at hSw); go_simp) <;> with_reducible rfl)
        try simp only [Act.put, List.setIfInBounds_toArray, List.set_cons_zero, List.set_cons_succ]
        refine wpAnyH_take (i := 2) (oi := ?oiq1x3) (v := ?vq1x3) ?hiq1x3 (by kernel_rfl) (by kernel_rfl) (by kernel_rfl) ?hQq1x3 (Or.inl ⟨?hwq1x3, ?hyq1x3⟩) (by assumption) ?restq1x3
        case hiq1x3 => simp only [List.getElem?_toArray, List.getElem?_cons_succ, List.getElem?_cons_zero]; exact rfl
        case hQq1x3 => exact fun _ _ _ h => h
        case hwq1x3 => rfl
        case hyq1x3 => ((intro w hSw; (try dsimp only at hSw); go_simp) <;> with_reducible rfl)
        try simp only [Act.put, List.setIfInBounds_toArray, List.set_cons_zero, List.set_cons_succ]
        refine wpAnyH_take (i := 3) (oi := ?oiq1x4) (v := ?vq1x4) ?hiq1x4 (by kernel_rfl) (by kernel_rfl) (by kernel_rfl) ?hQq1x4 (Or.inl ⟨?hwq1x4, ?hyq1x4⟩) (by assumption) ?restq1x4
        case hiq1x4 => simp only [List.getElem?_toArray, List.getElem?_cons_succ, List.getElem?_cons_zero]; exact rfl
        case hQq1x4 => exact fun _ _ _ h => h
        case hwq1x4 => rfl
        case hyq1x4 => ((intro w hSw; (try dsimp only at hSw); go_simp) <;> with_reducible rfl)
        try simp only [Act.put, List.setIfInBounds_toArray, List.set_cons_zero, List.set_cons_succ]
        refine wpAnyH_take (i := 4) (oi := ?oiq1x5) (v := ?vq1x5) ?hiq1x5 (by kernel_rfl) (by kernel_rfl) (by kernel_rfl) ?hQq1x5 (Or.inl ⟨?hwq1x5, ?hyq1x5⟩) (by assumption) ?restq1x5
        case hiq1x5 => simp only [List.getElem?_toArray, List.getElem?_cons_succ, List.getElem?_cons_zero]; exact rfl
        case hQq1x5 => exact fun _ _ _ h => h
        case hwq1x5 => rfl
        case hyq1x5 => ((intro w hSw; (try dsimp only at hSw); go_simp) <;> with_reducible rfl)
        try simp only [Act.put, List.setIfInBounds_toArray, List.set_cons_zero, List.set_cons_succ]
        refine wpAnyH_take (i := 5) (oi := ?oiq1x6) (v := ?vq1x6) ?hiq1x6 (by kernel_rfl) (by kernel_rfl) (by kernel_rfl) ?hQq1x6 (Or.inl ⟨?hwq1x6, ?hyq1x6⟩) (by assumption) ?restq1x6
        case hiq1x6 => simp only [List.getElem?_toArray, List.getElem?_cons_succ, List.getElem?_cons_zero]; exact rfl
        case hQq1x6 => exact fun _ _ _ h => h
        case hwq1x6 => rfl
        case hyq1x6 => ((intro w hSw; (try dsimp only at hSw); go_simp) <;> with_reducible rfl)
        try simp only [Act.put, List.setIfInBounds_toArray, List.set_cons_zero, List.set_cons_succ]
        refine wpAnyH_take (i := 6) (oi := ?oiq1x7) (v := ?vq1x7) ?hiq1x7 (by kernel_rfl) (by kernel_rfl) (by kernel_rfl) ?hQq1x7 (Or.inl ⟨?hwq1x7, ?hyq1x7⟩) (by assumption) ?restq1x7
        case hiq1x7 => simp only [List.getElem?_toArray, List.getElem?_cons_succ, List.getElem?_cons_zero]; exact rfl
        case hQq1x7 => exact fun _ _ _ h => h
        case hwq1x7 => rfl
        case hyq1x7 => ((intro w hSw; (try dsimp only at hSw); go_simp) <;> with_reducible rfl)
        try simp only [Act.put, List.setIfInBounds_toArray, List.set_cons_zero, List.set_cons_succ]
        refine wpAnyH_take (i := 7) (oi := ?oiq1x8) (v := ?vq1x8) ?hiq1x8 (by kernel_rfl) (by kernel_rfl) (by kernel_rfl) ?hQq1x8 (Or.inl ⟨?hwq1x8, ?hyq1x8⟩) (by assumption) ?restq1x8
        case hiq1x8 => simp only [List.getElem?_toArray, List.getElem?_cons_succ, List.getElem?_cons_zero]; exact rfl
        case hQq1x8 => exact fun _ _ _ h => h
        case hwq1x8 => rfl
        case hyq1x8 => ((intro w hSw; (try dsimp only at hSw); go_simp) <;> with_reducible rfl)
        try simp only [Act.put, List.setIfInBounds_toArray, List.set_cons_zero, List.set_cons_succ]
        refine wpAnyH_take (i := 8) (oi := ?oiq1x9) (v := ?vq1x9) ?hiq1x9 (by kernel_rfl) (by kernel_rfl) (by kernel_rfl) ?hQq1x9 (Or.inl ⟨?hwq1x9, ?hyq1x9⟩) (by assumption) ?restq1x9
        case hiq1x9 => simp only [List.getElem?_toArray, List.getElem?_cons_succ, List.getElem?_cons_zero]; exact rfl
        case hQq1x9 => exact fun _ _ _ h => h
        case hwq1x9 => rfl
        case hyq1x9 => ((intro w hSw; (try dsimp only at hSw); go_simp) <;> with_reducible rfl)
        try simp only [Act.put, List.setIfInBounds_toArray, List.set_cons_zero, List.set_cons_succ]
        refine wpAnyH_take (i := 9) (oi := ?oiq1x10) (v := ?vq1x10) ?hiq1x10 (by kernel_rfl) (by kernel_rfl) (by kernel_rfl) ?hQq1x10 (Or.inl ⟨?hwq1x10, ?hyq1x10⟩) (by assumption) ?restq1x10
        case hiq1x10 => simp only [List.getElem?_toArray, List.getElem?_cons_succ, List.getElem?_cons_zero]; exact rfl
        case hQq1x10 => exact fun _ _ _ h => h
        case hwq1x10 => rfl
        case hyq1x10 => ((intro w hSw; (try dsimp only at hSw); go_simp) <;> with_reducible rfl)
        try simp only [Act.put, List.setIfInBounds_toArray, List.set_cons_zero, List.set_cons_succ]
        refine wpAnyH_take (i := 10) (oi := ?oiq1x11) (v := ?vq1x11) ?hiq1x11 (by kernel_rfl) (by kernel_rfl) (by kernel_rfl) ?hQq1x11 (Or.inl ⟨?hwq1x11, ?hyq1x11⟩) (by assumption) ?restq1x11
        case hiq1x11 => simp only [List.getElem?_toArray, List.getElem?_cons_succ, List.getElem?_cons_zero]; exact rfl
        case hQq1x11 => exact fun _ _ _ h => h
        case hwq1x11 => rfl
        case hyq1x11 => ((intro w hSw; (try dsimp only at hSw); go_simp) <;> with_reducible rfl)
        try simp only [Act.put, List.setIfInBounds_toArray, List.set_cons_zero, List.set_cons_succ]
        refine wpAnyH_take (i := 11) (oi := ?oiq1x12) (v := ?vq1x12) ?hiq1x12 (by kernel_rfl) (by kernel_rfl) (by kernel_rfl) ?hQq1x12 (Or.inl ⟨?hwq1x12, ?hyq1x12⟩) (by assumption) ?restq1x12
        case hiq1x12 => simp only [List.getElem?_toArray, List.getElem?_cons_succ, List.getElem?_cons_zero]; exact rfl
        case hQq1x12 => exact fun _ _ _ h => h
        case hwq1x12 => rfl
        case hyq1x12 => ((intro w hSw; (try dsimp only at hSw); go_simp) <;> with_reducible rfl)
        try simp only [Act.put, List.setIfInBounds_toArray, List.set_cons_zero, List.set_cons_succ]
        refine wpAnyH_ready (rs := [12]) (by kernel_rfl) (by simp) ?_
        refine AllReadyH.cons (o := ?oq1x13) ?hoq1x13 (fun K hK => ?stepq1x13) ?moreq1x13
        case hoq1x13 => simp only [List.getElem?_toArray, List.getElem?_cons_succ, List.getElem?_cons_zero]; exact rfl
        case moreq1x13 => exact AllReadyH.nil
        go_simp
        skip
        refine hK.out _ _ ?hSq1x13 (fun hHeld => ?restq1x13)
        case hSq1x13 => (first | exact ⟨e2, e3⟩ | exact ⟨(((Below.refl _ _).alloc (Nat.le_refl _) _).cell (p := ⟨b, o + k * 4 + 2, none⟩) hbd).trans e2, (((Below.refl _ _).alloc (Nat.le_refl _) _).cell (p := ⟨b, o + k * 4 + 3, none⟩) hbd).trans e3⟩ | exact ⟨(grown_cell hgrow2 (by simp; omega) (fun e => hRd.apart b e rfl)).trans hHeld.1, (grown_cell hgrow2 (by simp; omega) (fun e => hRd.apart b e rfl)).trans hHeld.2⟩ | exact hHeld)
        clear hK K
        try simp only [Act.put, List.setIfInBounds_toArray, List.set_cons_zero, List.set_cons_succ]
        refine wpAnyH_ready (rs := [13]) (by kernel_rfl) (by simp) ?_
        refine AllReadyH.cons (o := ?oq1x14) ?hoq1x14 (fun K hK => ?stepq1x14) ?moreq1x14
        case hoq1x14 => simp only [List.getElem?_toArray, List.getElem?_cons_succ, List.getElem?_cons_zero]; exact rfl
        case moreq1x14 => exact AllReadyH.nil
        (refine step_append_own _ rfl _ _ 40 rfl w.heap.size 94 i0 _ 3 24 Try.underlying40 hi hz0 hz1 hz2 rfl (by decide) _ _ _ rfl (hRd.lv.alloc _) ⟨we.drew.heap.size, 0, none⟩ 1 1 [.int .i64 (num zs (k * 4 + 2)), .int .i64 (num zs (k * 4 + 3)), .int .i64 1] rfl rfl (World.news_of_block (heap_alloc_new we.drew _)) (by intro u hu; simp at hu; rcases hu with rfl | rfl | rfl <;> rfl) (by unfold maxLen; omega) (by omega) (by simp; omega) ?_; intro v' u2 hown2 hgrow2 _)
        refine hK.out _ _ ?hSq1x14 (fun hHeld => ?restq1x14)
        case hSq1x14 => (first | exact ⟨e2, e3⟩ | exact ⟨(((Below.refl _ _).alloc (Nat.le_refl _) _).cell (p := ⟨b, o + k * 4 + 2, none⟩) hbd).trans e2, (((Below.refl _ _).alloc (Nat.le_refl _) _).cell (p := ⟨b, o + k * 4 + 3, none⟩) hbd).trans e3⟩ | exact ⟨(grown_cell hgrow2 (by simp; omega) (fun e => hRd.apart b e rfl)).trans hHeld.1, (grown_cell hgrow2 (by simp; omega) (fun e => hRd.apart b e rfl)).trans hHeld.2⟩ | exact hHeld)
        clear hK K
        try simp only [Act.put, List.setIfInBounds_toArray, List.set_cons_zero, List.set_cons_succ]
        refine wpAnyH_take (i := 14) (oi := ?oiq1x15) (v := ?vq1x15) ?hiq1x15 (by kernel_rfl) (by kernel_rfl) (by kernel_rfl) ?hQq1x15 (Or.inl ⟨?hwq1x15, ?hyq1x15⟩) (by assumption) ?restq1x15
        case hiq1x15 => simp only [List.getElem?_toArray, List.getElem?_cons_succ, List.getElem?_cons_zero]; exact rfl
        case hQq1x15 => exact fun _ _ _ h => h
        case hwq1x15 => rfl
        case hyq1x15 => ((intro w hSw; (try dsimp only at hSw); go_simp) <;> with_reducible rfl)
        try simp only [Act.put, List.setIfInBounds_toArray, List.set_cons_zero, List.set_cons_succ]
        refine wpAnyH_done (by kernel_rfl) ?_ _
        have hR2 := (DepR.later hRd ((Below.refl _ _).alloc (Nat.le_refl _) _)).more (L' := dpL zs (k + 1)) (by rw [HG.out, nums_append]; exact hown2) hgrow2
        have hbel2 := (hbeld.alloc hbs _).grown hgrow2 (by simp; omega) (fun q hq => (hRd.lv.lt q hq).1)
        obtain ⟨A3, d3, rfl, _, _⟩ := own_slice hown2
        clear hown2 hgrow2 hRd hbeld e2 e3 hRe hbele hbd hbe
        go_wp2_with fail
        go_roundw
        case rel => exact ⟨k + 1, 0 + 1, by omega, by go_num, HM.out, hR2, hbel2⟩
        case measure => simp [intOf]; omega
      · obtain ⟨i, rfl⟩ : ∃ i, j = i + 1 := ⟨j - 1, by omega⟩
        obtain ⟨g, cg, hv, _, _⟩ := World.ownsRow.form hR.lv (by omega)
        injection hv with hv1 _ hv2
        subst hv1 hv2
        have l0 := own_at3 hR.lv (i := i * 3) (by omega)
        by_cases he : num (dpL zs k) (i * 3) = num zs (k * 4 + 2)
        · have HE := Lib.hid he
          rw [he] at l0
          clear he
          go_upto_region 7 with fail
          go_quiet (fail)
          go_upto_region 8 with fail
          rename Nat => nq
          have hRe := hR.drewN nq
          have hbele : Below w.heap.size w (wr.drewN nq) := ⟨hbel.os, hbel.tape, hbel.output, hbel.size, hbel.block⟩
          have e3 : (wr.drewN nq).cell? ⟨b, o + k * 4 + 3, none⟩ = _ := c3
          have l1 : (wr.drewN nq).cell? ⟨g, i * 3 + 1, none⟩ = _ := own_at3 hR.lv (i := i * 3 + 1) (by omega)
          obtain ⟨lo1, lo2⟩ := hD.lo i (by omega)
          obtain ⟨hi1, hi2⟩ := hD.hi i (by omega)
          have hq := allO_at N k hall hlt
          simp only [ordB, inB, Bool.and_eq_true, decide_eq_true_eq] at hq
          have hq1 := hq.2.2.2.1
          have hq2 := hq.2.2.2.2
          have HM := Lib.hid (hD.hit hall hlt (by omega) (by rw [show (i + 1 - 1) * 3 = i * 3 by omega]; exact HE.out))
          have HG := Lib.hid (show dpL zs (k + 1) = ((dpL zs k).set (i * 3 + 1) (num (dpL zs k) (i * 3 + 1) + num zs (k * 4 + 3))).set (i * 3 + 2) (num (dpL zs k) (i * 3 + 2) + 1) from dpL_hit hD.len (by omega) (by rw [show (i + 1 - 1) * 3 = i * 3 by omega]; exact HE.out))
          clear hR hb hbel c0 c1 c2 c3 l0 hq hD hall hsrt
          generalize hL : dpL zs k = L at *
          have HL := Lib.hid hL
          clear hL
          generalize wr.drewN nq = wq at *
          have b1 : (i < i + 1) = True := by simp
          have b2 : ((i : Int) < (i : Int) + 1) = True := by simp; omega
          have b3 : i < i + 1 := by omega
          go_still_tail 13, (by kernel_rfl)
          change wpList _ _ _ _ _ wq.drew
          clear e3 l1
          replace hRe := hRe.drew
          replace hbele := hbele.drew
          generalize wq.drew = we at *
          have z1 := hRe.lv.frozenAt (i * 3 + 1)
          have y1 := own_at3 hRe.lv (i := i * 3 + 1) (by omega)
          go_upto_region 9 with fail
          clear z1 y1
          replace hbele := hbele.setCell (p := ⟨g, i * 3 + 1, none⟩) (hRe.lv.lt g rfl).1 (.int .i64 (num L (i * 3 + 1) + num zs (k * 4 + 3)))
          replace hRe := hRe.set (i * 3 + 1) (num L (i * 3 + 1) + num zs (k * 4 + 3))
          generalize we.setCell ⟨g, i * 3 + 1, none⟩ (.int .i64 (num L (i * 3 + 1) + num zs (k * 4 + 3))) = w2 at *
          have l2 := own_at3 hRe.lv (i := i * 3 + 2) (by omega)
          rw [num_set_ne (by omega)] at l2
          have z2 := hRe.lv.frozenAt (i * 3 + 2)
          replace hbele := hbele.setCell (p := ⟨g, i * 3 + 2, none⟩) (hRe.lv.lt g rfl).1 (.int .i64 (num L (i * 3 + 2) + 1))
          have hR2 := hRe.set (i * 3 + 2) (num L (i * 3 + 2) + 1)
          clear hRe
          go_wp2_with fail
          go_roundw
          case rel => exact ⟨k + 1, i + 1, by omega, by go_num, HM.out, by rw [HG.out]; exact hR2, hbele⟩
          case measure => simp [intOf]; omega
        · have HE := Lib.hid he
          have t : (num (dpL zs k) (i * 3) == num zs (k * 4 + 2)) = false := beq_eq_false_iff_ne.2 he
          have HM := Lib.hid (hD.miss hall hsrt hlt (fun _ => he))
          have HG := Lib.hid (show dpL zs (k + 1) = dpL zs k ++ [num zs (k * 4 + 2), num zs (k * 4 + 3), 1] from dpL_miss hD.len (fun _ => he))
          clear he hD hall hsrt
          go_upto_region 7 with fail
          go_quiet (fail)
          go_upto_region 10 with fail
          rename Nat => nq
          have hRe := hR.drewN nq
          have hbe : b < (wr.drewN nq).heap.size := hb
          have hbele : Below w.heap.size w (wr.drewN nq) := ⟨hbel.os, hbel.tape, hbel.output, hbel.size, hbel.block⟩
          have e2 : (wr.drewN nq).cell? ⟨b, o + k * 4 + 2, none⟩ = _ := c2
          have e3 : (wr.drewN nq).cell? ⟨b, o + k * 4 + 3, none⟩ = _ := c3
          clear hR hb hbel c0 c1 c2 c3
          generalize wr.drewN nq = we at *
          have hRd := hRe.drew
          have hbeld := hbele.drew
          have hbs := hbeld.size
          have hbs2 : w.heap.size ≤ we.heap.size := hbele.size
          have hbd : b < we.drew.heap.size := hbe
          refine wp_region_held_drew (S := fun w' => w'.cell? ⟨b, o + k * 4 + 2, none⟩ = some (.int .i64 (num zs (k * 4 + 2))) ∧ w'.cell? ⟨b, o + k * 4 + 3, none⟩ = some (.int .i64 (num zs (k * 4 + 3)))) (by kernel_rfl) ?hSq2xs (fun hHeld => ?restq2xs)
          case hSq2xs => (first | exact ⟨e2, e3⟩ | exact ⟨(((Below.refl _ _).alloc (Nat.le_refl _) _).cell (p := ⟨b, o + k * 4 + 2, none⟩) hbd).trans e2, (((Below.refl _ _).alloc (Nat.le_refl _) _).cell (p := ⟨b, o + k * 4 + 3, none⟩) hbd).trans e3⟩ | exact ⟨(grown_cell hgrow2 (by simp; omega) (fun e => hRd.apart b e rfl)).trans hHeld.1, (grown_cell hgrow2 (by simp; omega) (fun e => hRd.apart b e rfl)).trans hHeld.2⟩ | exact hHeld)
          refine wpAnyH_take (i := 0) (oi := ?oiq2x1) (v := ?vq2x1) ?hiq2x1 (by kernel_rfl) (by kernel_rfl) (by kernel_rfl) ?hQq2x1 (Or.inl ⟨?hwq2x1, ?hyq2x1⟩) (by assumption) ?restq2x1
          case hiq2x1 => simp only [List.getElem?_toArray, List.getElem?_cons_succ, List.getElem?_cons_zero]; exact rfl
          case hQq2x1 => exact fun _ _ _ h => h
          case hwq2x1 => rfl
          case hyq2x1 => ((intro w hSw; (try dsimp only at hSw); go_simp) <;> with_reducible rfl)
          try simp only [Act.put, List.setIfInBounds_toArray, List.set_cons_zero, List.set_cons_succ]
          refine wpAnyH_take (i := 1) (oi := ?oiq2x2) (v := ?vq2x2) ?hiq2x2 (by kernel_rfl) (by kernel_rfl) (by kernel_rfl) ?hQq2x2 (Or.inl ⟨?hwq2x2, ?hyq2x2⟩) (by assumption) ?restq2x2
          case hiq2x2 => simp only [List.getElem?_toArray, List.getElem?_cons_succ, List.getElem?_cons_zero]; exact rfl
          case hQq2x2 => exact fun _ _ _ h => h
          case hwq2x2 => rfl
          case hyq2x2 => ((intro w hSw; (try dsimp only at hSw); go_simp) <;> with_reducible rfl)
          try simp only [Act.put, List.setIfInBounds_toArray, List.set_cons_zero, List.set_cons_succ]
          refine wpAnyH_take (i := 2) (oi := ?oiq2x3) (v := ?vq2x3) ?hiq2x3 (by kernel_rfl) (by kernel_rfl) (by kernel_rfl) ?hQq2x3 (Or.inl ⟨?hwq2x3, ?hyq2x3⟩) (by assumption) ?restq2x3
          case hiq2x3 => simp only [List.getElem?_toArray, List.getElem?_cons_succ, List.getElem?_cons_zero]; exact rfl
          case hQq2x3 => exact fun _ _ _ h => h
          case hwq2x3 => rfl
          case hyq2x3 => ((intro w hSw; (try dsimp only at hSw); go_simp) <;> with_reducible rfl)
          try simp only [Act.put, List.setIfInBounds_toArray, List.set_cons_zero, List.set_cons_succ]
          refine wpAnyH_take (i := 3) (oi := ?oiq2x4) (v := ?vq2x4) ?hiq2x4 (by kernel_rfl) (by kernel_rfl) (by kernel_rfl) ?hQq2x4 (Or.inl ⟨?hwq2x4, ?hyq2x4⟩) (by assumption) ?restq2x4
          case hiq2x4 => simp only [List.getElem?_toArray, List.getElem?_cons_succ, List.getElem?_cons_zero]; exact rfl
          case hQq2x4 => exact fun _ _ _ h => h
          case hwq2x4 => rfl
          case hyq2x4 => ((intro w hSw; (try dsimp only at hSw); go_simp) <;> with_reducible rfl)
          try simp only [Act.put, List.setIfInBounds_toArray, List.set_cons_zero, List.set_cons_succ]
          refine wpAnyH_take (i := 4) (oi := ?oiq2x5) (v := ?vq2x5) ?hiq2x5 (by kernel_rfl) (by kernel_rfl) (by kernel_rfl) ?hQq2x5 (Or.inl ⟨?hwq2x5, ?hyq2x5⟩) (by assumption) ?restq2x5
          case hiq2x5 => simp only [List.getElem?_toArray, List.getElem?_cons_succ, List.getElem?_cons_zero]; exact rfl
          case hQq2x5 => exact fun _ _ _ h => h
          case hwq2x5 => rfl
          case hyq2x5 => ((intro w hSw; (try dsimp only at hSw); go_simp) <;> with_reducible rfl)
          try simp only [Act.put, List.setIfInBounds_toArray, List.set_cons_zero, List.set_cons_succ]
          refine wpAnyH_take (i := 5) (oi := ?oiq2x6) (v := ?vq2x6) ?hiq2x6 (by kernel_rfl) (by kernel_rfl) (by kernel_rfl) ?hQq2x6 (Or.inl ⟨?hwq2x6, ?hyq2x6⟩) (by assumption) ?restq2x6
          case hiq2x6 => simp only [List.getElem?_toArray, List.getElem?_cons_succ, List.getElem?_cons_zero]; exact rfl
          case hQq2x6 => exact fun _ _ _ h => h
          case hwq2x6 => rfl
          case hyq2x6 => ((intro w hSw; (try dsimp only at hSw); go_simp) <;> with_reducible rfl)
          try simp only [Act.put, List.setIfInBounds_toArray, List.set_cons_zero, List.set_cons_succ]
          refine wpAnyH_take (i := 6) (oi := ?oiq2x7) (v := ?vq2x7) ?hiq2x7 (by kernel_rfl) (by kernel_rfl) (by kernel_rfl) ?hQq2x7 (Or.inl ⟨?hwq2x7, ?hyq2x7⟩) (by assumption) ?restq2x7
          case hiq2x7 => simp only [List.getElem?_toArray, List.getElem?_cons_succ, List.getElem?_cons_zero]; exact rfl
          case hQq2x7 => exact fun _ _ _ h => h
          case hwq2x7 => rfl
          case hyq2x7 => ((intro w hSw; (try dsimp only at hSw); go_simp) <;> with_reducible rfl)
          try simp only [Act.put, List.setIfInBounds_toArray, List.set_cons_zero, List.set_cons_succ]
          refine wpAnyH_take (i := 7) (oi := ?oiq2x8) (v := ?vq2x8) ?hiq2x8 (by kernel_rfl) (by kernel_rfl) (by kernel_rfl) ?hQq2x8 (Or.inl ⟨?hwq2x8, ?hyq2x8⟩) (by assumption) ?restq2x8
          case hiq2x8 => simp only [List.getElem?_toArray, List.getElem?_cons_succ, List.getElem?_cons_zero]; exact rfl
          case hQq2x8 => exact fun _ _ _ h => h
          case hwq2x8 => rfl
          case hyq2x8 => ((intro w hSw; (try dsimp only at hSw); go_simp) <;> with_reducible rfl)
          try simp only [Act.put, List.setIfInBounds_toArray, List.set_cons_zero, List.set_cons_succ]
          refine wpAnyH_take (i := 8) (oi := ?oiq2x9) (v := ?vq2x9) ?hiq2x9 (by kernel_rfl) (by kernel_rfl) (by kernel_rfl) ?hQq2x9 (Or.inl ⟨?hwq2x9, ?hyq2x9⟩) (by assumption) ?restq2x9
          case hiq2x9 => simp only [List.getElem?_toArray, List.getElem?_cons_succ, List.getElem?_cons_zero]; exact rfl
          case hQq2x9 => exact fun _ _ _ h => h
          case hwq2x9 => rfl
          case hyq2x9 => ((intro w hSw; (try dsimp only at hSw); go_simp) <;> with_reducible rfl)
          try simp only [Act.put, List.setIfInBounds_toArray, List.set_cons_zero, List.set_cons_succ]
          refine wpAnyH_take (i := 9) (oi := ?oiq2x10) (v := ?vq2x10) ?hiq2x10 (by kernel_rfl) (by kernel_rfl) (by kernel_rfl) ?hQq2x10 (Or.inl ⟨?hwq2x10, ?hyq2x10⟩) (by assumption) ?restq2x10
          case hiq2x10 => simp only [List.getElem?_toArray, List.getElem?_cons_succ, List.getElem?_cons_zero]; exact rfl
          case hQq2x10 => exact fun _ _ _ h => h
          case hwq2x10 => rfl
          case hyq2x10 => ((intro w hSw; (try dsimp only at hSw); go_simp) <;> with_reducible rfl)
          try simp only [Act.put, List.setIfInBounds_toArray, List.set_cons_zero, List.set_cons_succ]
          refine wpAnyH_take (i := 10) (oi := ?oiq2x11) (v := ?vq2x11) ?hiq2x11 (by kernel_rfl) (by kernel_rfl) (by kernel_rfl) ?hQq2x11 (Or.inl ⟨?hwq2x11, ?hyq2x11⟩) (by assumption) ?restq2x11
          case hiq2x11 => simp only [List.getElem?_toArray, List.getElem?_cons_succ, List.getElem?_cons_zero]; exact rfl
          case hQq2x11 => exact fun _ _ _ h => h
          case hwq2x11 => rfl
          case hyq2x11 => ((intro w hSw; (try dsimp only at hSw); go_simp) <;> with_reducible rfl)
          try simp only [Act.put, List.setIfInBounds_toArray, List.set_cons_zero, List.set_cons_succ]
          refine wpAnyH_take (i := 11) (oi := ?oiq2x12) (v := ?vq2x12) ?hiq2x12 (by kernel_rfl) (by kernel_rfl) (by kernel_rfl) ?hQq2x12 (Or.inl ⟨?hwq2x12, ?hyq2x12⟩) (by assumption) ?restq2x12
          case hiq2x12 => simp only [List.getElem?_toArray, List.getElem?_cons_succ, List.getElem?_cons_zero]; exact rfl
          case hQq2x12 => exact fun _ _ _ h => h
          case hwq2x12 => rfl
          case hyq2x12 => ((intro w hSw; (try dsimp only at hSw); go_simp) <;> with_reducible rfl)
          try simp only [Act.put, List.setIfInBounds_toArray, List.set_cons_zero, List.set_cons_succ]
          refine wpAnyH_ready (rs := [12]) (by kernel_rfl) (by simp) ?_
          refine AllReadyH.cons (o := ?oq2x13) ?hoq2x13 (fun K hK => ?stepq2x13) ?moreq2x13
          case hoq2x13 => simp only [List.getElem?_toArray, List.getElem?_cons_succ, List.getElem?_cons_zero]; exact rfl
          case moreq2x13 => exact AllReadyH.nil
          go_simp
          skip
          refine hK.out _ _ ?hSq2x13 (fun hHeld => ?restq2x13)
          case hSq2x13 => (first | exact ⟨e2, e3⟩ | exact ⟨(((Below.refl _ _).alloc (Nat.le_refl _) _).cell (p := ⟨b, o + k * 4 + 2, none⟩) hbd).trans e2, (((Below.refl _ _).alloc (Nat.le_refl _) _).cell (p := ⟨b, o + k * 4 + 3, none⟩) hbd).trans e3⟩ | exact ⟨(grown_cell hgrow2 (by simp; omega) (fun e => hRd.apart b e rfl)).trans hHeld.1, (grown_cell hgrow2 (by simp; omega) (fun e => hRd.apart b e rfl)).trans hHeld.2⟩ | exact hHeld)
          clear hK K
          try simp only [Act.put, List.setIfInBounds_toArray, List.set_cons_zero, List.set_cons_succ]
          refine wpAnyH_ready (rs := [13]) (by kernel_rfl) (by simp) ?_
          refine AllReadyH.cons (o := ?oq2x14) ?hoq2x14 (fun K hK => ?stepq2x14) ?moreq2x14
          case hoq2x14 => simp only [List.getElem?_toArray, List.getElem?_cons_succ, List.getElem?_cons_zero]; exact rfl
          case moreq2x14 => exact AllReadyH.nil
          (refine step_append_own _ rfl _ _ 40 rfl w.heap.size 94 i0 _ 3 24 Try.underlying40 hi hz0 hz1 hz2 rfl (by decide) _ _ _ rfl (hRd.lv.alloc _) ⟨we.drew.heap.size, 0, none⟩ 1 1 [.int .i64 (num zs (k * 4 + 2)), .int .i64 (num zs (k * 4 + 3)), .int .i64 1] rfl rfl (World.news_of_block (heap_alloc_new we.drew _)) (by intro u hu; simp at hu; rcases hu with rfl | rfl | rfl <;> rfl) (by unfold maxLen; omega) (by omega) (by simp; omega) ?_; intro v' u2 hown2 hgrow2 _)
          refine hK.out _ _ ?hSq2x14 (fun hHeld => ?restq2x14)
          case hSq2x14 => (first | exact ⟨e2, e3⟩ | exact ⟨(((Below.refl _ _).alloc (Nat.le_refl _) _).cell (p := ⟨b, o + k * 4 + 2, none⟩) hbd).trans e2, (((Below.refl _ _).alloc (Nat.le_refl _) _).cell (p := ⟨b, o + k * 4 + 3, none⟩) hbd).trans e3⟩ | exact ⟨(grown_cell hgrow2 (by simp; omega) (fun e => hRd.apart b e rfl)).trans hHeld.1, (grown_cell hgrow2 (by simp; omega) (fun e => hRd.apart b e rfl)).trans hHeld.2⟩ | exact hHeld)
          clear hK K
          try simp only [Act.put, List.setIfInBounds_toArray, List.set_cons_zero, List.set_cons_succ]
          refine wpAnyH_take (i := 14) (oi := ?oiq2x15) (v := ?vq2x15) ?hiq2x15 (by kernel_rfl) (by kernel_rfl) (by kernel_rfl) ?hQq2x15 (Or.inl ⟨?hwq2x15, ?hyq2x15⟩) (by assumption) ?restq2x15
          case hiq2x15 => simp only [List.getElem?_toArray, List.getElem?_cons_succ, List.getElem?_cons_zero]; exact rfl
          case hQq2x15 => exact fun _ _ _ h => h
          case hwq2x15 => rfl
          case hyq2x15 => ((intro w hSw; (try dsimp only at hSw); go_simp) <;> with_reducible rfl)
          try simp only [Act.put, List.setIfInBounds_toArray, List.set_cons_zero, List.set_cons_succ]
          refine wpAnyH_done (by kernel_rfl) ?_ _
          have hR2 := (DepR.later hRd ((Below.refl _ _).alloc (Nat.le_refl _) _)).more (L' := dpL zs (k + 1)) (by rw [HG.out, nums_append]; exact hown2) hgrow2
          have hbel2 := (hbeld.alloc hbs _).grown hgrow2 (by simp; omega) (fun q hq => (hRd.lv.lt q hq).1)
          obtain ⟨A3, d3, rfl, _, _⟩ := own_slice hown2
          clear hown2 hgrow2 hRd hbeld e2 e3 hRe hbele hbd hbe
          go_wp2_with fail
          go_roundw
          case rel => exact ⟨k + 1, i + 1 + 1, by omega, by go_num, HM.out, hR2, hbel2⟩
          case measure => simp [intOf]; omega
    · obtain rfl : k = N := by omega
      have hlen := hD.len
      have hle := hD.le
      have HD := Lib.hid hlen
      clear hlen hD hall hsrt
      go_wp2_with fail
      go_ret
      exact ⟨⟨_, rfl, by rw [depN_of (by rw [HZ.out]; exact HD.out), HZ.out]; exact hR.lv⟩, hbel⟩
end Go.Proofs.Ytfodkefaflpicaa

namespace Go.Proofs.Ytfodkefaflpicaa
open Go.RowKit Wire

set_option linter.unusedSimpArgs false in
set_option maxHeartbeats 3200000 in
set_option maxRecDepth 100000 in
theorem spec_DepthO (O1 : Option Addr) (n c : Nat) (O2 : Option Addr) (m d : Nat) (za zb : List Int) (side : Int) (w : World) (ha : Lst w w.heap.size 4 O1 n za) (hb : Lst w w.heap.size 4 O2 m zb) (hn : n ≤ 1048576) (hm : m ≤ 1048576) (hO1 : O1 = none → n = 0 ∧ c = 0) (hO2 : O2 = none → m = 0 ∧ d = 0) :
    Calls Try.prog 114 #[.agg #[.slice O1 n c, .slice O2 m d], .int .i64 side] w fun e w' => (∃ r, e = .returned r ∧ w'.ownsRow w.heap.size 94 3 r (depN (bookB za n zb m) side za n zb m) (nums (depZ (bookB za n zb m) side za n zb m))) ∧ Below w.heap.size w w' := by
  obtain ⟨i0, hi, hz0, hz1, hz2⟩ := info_parts lvl_info
  have hb0 : Below w.heap.size w ((w.alloc (.cells #[.slice O1 n c, .slice O2 m d] 26)).alloc (.cells #[] 94)) := ((Below.refl _ _).alloc (Nat.le_refl _) _).alloc (by simp) _
  go_enter Try.func114, Try.ntmps114
  go_wp2_with fail
  have hA : Lst ((w.alloc (.cells #[.slice O1 n c, .slice O2 m d] 26)).alloc (.cells #[] 94)) ((w.alloc (.cells #[.slice O1 n c, .slice O2 m d] 26)).alloc (.cells #[] 94)).heap.size 4 O1 n za := ha.later hb0
  have hZb : Lst ((w.alloc (.cells #[.slice O1 n c, .slice O2 m d] 26)).alloc (.cells #[] 94)) ((w.alloc (.cells #[.slice O1 n c, .slice O2 m d] 26)).alloc (.cells #[] 94)).heap.size 4 O2 m zb := hb.later hb0
  have hE : ((w.alloc (.cells #[.slice O1 n c, .slice O2 m d] 26)).alloc (.cells #[] 94)).ownsRow w.heap.size 94 3 (.slice (some ⟨w.heap.size + 1, 0, none⟩) 0 0) 0 (nums []) := by
    have := own_empty (w.alloc (.cells #[.slice O1 n c, .slice O2 m d] 26)) 94 3
    rw [show (w.alloc (.cells #[.slice O1 n c, .slice O2 m d] 26)).heap.size = w.heap.size + 1 by simp] at this
    exact own_mono this (by omega)
  clear ha hb
  generalize ((w.alloc (.cells #[.slice O1 n c, .slice O2 m d] 26)).alloc (.cells #[] 94)) = w0 at *
  refine (spec_SideO O1 n c O2 m d za zb side w0 hA hZb hn hm hO1 hO2).mono ?_
  obtain ⟨hN20, hall, hsrt⟩ := side_facts (side := side) (rfl : bookB za n zb m = _)
  obtain ⟨N, hNe⟩ : ∃ N, sideN (bookB za n zb m) side n m = N := ⟨_, rfl⟩
  obtain ⟨zs, hZe⟩ : ∃ zs, sideZ (bookB za n zb m) side za zb = zs := ⟨_, rfl⟩
  have HZ := Lib.hid (show depZ (bookB za n zb m) side za n zb m = dpL zs N by unfold depZ; rw [hNe, hZe])
  rw [hNe] at hN20
  rw [hNe, hZe] at hall hsrt
  rw [hNe, hZe]
  clear hNe hZe
  rintro e w1 ⟨⟨r, rfl, hown⟩, hb1⟩
  obtain ⟨A6, c6, rfl, _, _⟩ := own_slice hown
  have hR : DepR w1 w.heap.size (.slice (some ⟨w.heap.size + 1, 0, none⟩) 0 0) 0 [] (.slice A6 N c6) N zs := ⟨own_below hE hb1, own_mono hown hb0.size⟩
  have hbel := hb0.trans (hb1.mono hb0.size)
  clear hE hown hb1 hb0 hA hZb
  go_wp2_with fail
  go_loopw [5, 7] (fun v i wr => ∃ k j : Nat, k ≤ N ∧ i = .int .i64 (k : Int) ∧ DpOk side zs k j (dpL zs k) ∧ DepR wr w.heap.size v j (dpL zs k) (.slice A6 N c6) N zs ∧ Below w.heap.size w wr) (fun _ i _ => N - (intOf i).toNat)
  case atStart => exact ⟨0, 0, Nat.zero_le _, rfl, DpOk.zero _ _, hR, hbel⟩
  case round =>
    clear hR hbel
    obtain ⟨k, j, hk, rfl, hD, hR, hbel⟩ := hrel
    obtain ⟨Av, dv, rfl, _, _⟩ := own_slice hR.lv
    by_cases hlt : k < N
    · obtain ⟨b, o, rfl, hb, c0, c1, c2, c3⟩ := (Lst.of_own hR.od).row4 hlt
      have hjk := hD.le
      rcases Nat.eq_zero_or_pos j with hj | hj
      · subst hj
        have HM := Lib.hid (hD.miss hall hsrt hlt (fun h => absurd h (Nat.lt_irrefl _)))
        have HG := Lib.hid (show dpL zs (k + 1) = dpL zs k ++ [num zs (k * 4 + 2), num zs (k * 4 + 3), 1] from dpL_miss hD.len (fun h => absurd h (Nat.lt_irrefl _)))
        clear hD hall hsrt
        go_upto_region 7 with fail
        go_quiet (fail)
        go_upto_region 10 with fail
        rename Nat => nq
        have hRe := hR.drewN nq
        have hbe : b < (wr.drewN nq).heap.size := hb
        have hbele : Below w.heap.size w (wr.drewN nq) := ⟨hbel.os, hbel.tape, hbel.output, hbel.size, hbel.block⟩
        have e2 : (wr.drewN nq).cell? ⟨b, o + k * 4 + 2, none⟩ = _ := c2
        have e3 : (wr.drewN nq).cell? ⟨b, o + k * 4 + 3, none⟩ = _ := c3
        clear hR hb hbel c0 c1 c2 c3
        generalize wr.drewN nq = we at *
        have hRd := hRe.drew
        have hbeld := hbele.drew
        have hbs := hbeld.size
        have hbs2 : w.heap.size ≤ we.heap.size := hbele.size
        have hbd : b < we.drew.heap.size := hbe
        refine wp_region_held_drew (S := fun w' => w'.cell? ⟨b, o + k * 4 + 2, none⟩ = some (.int .i64 (num zs (k * 4 + 2))) ∧ w'.cell? ⟨b, o + k * 4 + 3, none⟩ = some (.int .i64 (num zs (k * 4 + 3)))) (by kernel_rfl) ?hSq1xs (fun hHeld => ?restq1xs)
        case hSq1xs => (first | exact ⟨e2, e3⟩ | exact ⟨(((Below.refl _ _).alloc (Nat.le_refl _) _).cell (p := ⟨b, o + k * 4 + 2, none⟩) hbd).trans e2, (((Below.refl _ _).alloc (Nat.le_refl _) _).cell (p := ⟨b, o + k * 4 + 3, none⟩) hbd).trans e3⟩ | exact ⟨(grown_cell hgrow2 (by simp; omega) (fun e => hRd.apart b e rfl)).trans hHeld.1, (grown_cell hgrow2 (by simp; omega) (fun e => hRd.apart b e rfl)).trans hHeld.2⟩ | exact hHeld)
        refine wpAnyH_take (i := 0) (oi := ?oiq1x1) (v := ?vq1x1) ?hiq1x1 (by kernel_rfl) (by kernel_rfl) (by kernel_rfl) ?hQq1x1 (Or.inl ⟨?hwq1x1, ?hyq1x1⟩) (by assumption) ?restq1x1
        case hiq1x1 => simp only [List.getElem?_toArray, List.getElem?_cons_succ, List.getElem?_cons_zero]; exact rfl
        case hQq1x1 => exact fun _ _ _ h => h
        case hwq1x1 => rfl
        case hyq1x1 => ((intro w hSw; (try dsimp only at hSw); go_simp) <;> with_reducible rfl)
        try simp only [Act.put, List.setIfInBounds_toArray, List.set_cons_zero, List.set_cons_succ]
        refine wpAnyH_take (i := 1) (oi := ?oiq1x2) (v := ?vq1x2) ?hiq1x2 (by kernel_rfl) (by kernel_rfl) (by kernel_rfl) ?hQq1x2 (Or.inl ⟨?hwq1x2, ?hyq1x2⟩) (by assumption) ?restq1x2
        case hiq1x2 => simp only [List.getElem?_toArray, List.getElem?_cons_succ, List.getElem?_cons_zero]; exact rfl
        case hQq1x2 => exact fun _ _ _ h => h
        case hwq1x2 => rfl
        case hyq1x2 => ((intro w hSw; (try dsimp only at hSw); go_simp) <;> with_reducible rfl)
        try simp only [Act.put, List.setIfInBounds_toArray, List.set_cons_zero, List.set_cons_succ]
        refine wpAnyH_take (i := 2) (oi := ?oiq1x3) (v := ?vq1x3) ?hiq1x3 (by kernel_rfl) (by kernel_rfl) (by kernel_rfl) ?hQq1x3 (Or.inl ⟨?hwq1x3, ?hyq1x3⟩) (by assumption) ?restq1x3
        case hiq1x3 => simp only [List.getElem?_toArray, List.getElem?_cons_succ, List.getElem?_cons_zero]; exact rfl
        case hQq1x3 => exact fun _ _ _ h => h
        case hwq1x3 => rfl
        case hyq1x3 => ((intro w hSw; (try dsimp only at hSw); go_simp) <;> with_reducible rfl)
        try simp only [Act.put, List.setIfInBounds_toArray, List.set_cons_zero, List.set_cons_succ]
        refine wpAnyH_take (i := 3) (oi := ?oiq1x4) (v := ?vq1x4) ?hiq1x4 (by kernel_rfl) (by kernel_rfl) (by kernel_rfl) ?hQq1x4 (Or.inl ⟨?hwq1x4, ?hyq1x4⟩) (by assumption) ?restq1x4
        case hiq1x4 => simp only [List.getElem?_toArray, List.getElem?_cons_succ, List.getElem?_cons_zero]; exact rfl
        case hQq1x4 => exact fun _ _ _ h => h
        case hwq1x4 => rfl
        case hyq1x4 => ((intro w hSw; (try dsimp only at hSw); go_simp) <;> with_reducible rfl)
        try simp only [Act.put, List.setIfInBounds_toArray, List.set_cons_zero, List.set_cons_succ]
        refine wpAnyH_take (i := 4) (oi := ?oiq1x5) (v := ?vq1x5) ?hiq1x5 (by kernel_rfl) (by kernel_rfl) (by kernel_rfl) ?hQq1x5 (Or.inl ⟨?hwq1x5, ?hyq1x5⟩) (by assumption) ?restq1x5
        case hiq1x5 => simp only [List.getElem?_toArray, List.getElem?_cons_succ, List.getElem?_cons_zero]; exact rfl
        case hQq1x5 => exact fun _ _ _ h => h
        case hwq1x5 => rfl
        case hyq1x5 => ((intro w hSw; (try dsimp only at hSw); go_simp) <;> with_reducible rfl)
        try simp only [Act.put, List.setIfInBounds_toArray, List.set_cons_zero, List.set_cons_succ]
        refine wpAnyH_take (i := 5) (oi := ?oiq1x6) (v := ?vq1x6) ?hiq1x6 (by kernel_rfl) (by kernel_rfl) (by kernel_rfl) ?hQq1x6 (Or.inl ⟨?hwq1x6, ?hyq1x6⟩) (by assumption) ?restq1x6
        case hiq1x6 => simp only [List.getElem?_toArray, List.getElem?_cons_succ, List.getElem?_cons_zero]; exact rfl
        case hQq1x6 => exact fun _ _ _ h => h
        case hwq1x6 => rfl
        case hyq1x6 => ((intro w hSw; (try dsimp only at hSw); go_simp) <;> with_reducible rfl)
        try simp only [Act.put, List.setIfInBounds_toArray, List.set_cons_zero, List.set_cons_succ]
        refine wpAnyH_take (i := 6) (oi := ?oiq1x7) (v := ?vq1x7) ?hiq1x7 (by kernel_rfl) (by kernel_rfl) (by kernel_rfl) ?hQq1x7 (Or.inl ⟨?hwq1x7, ?hyq1x7⟩) (by assumption) ?restq1x7
        case hiq1x7 => simp only [List.getElem?_toArray, List.getElem?_cons_succ, List.getElem?_cons_zero]; exact rfl
        case hQq1x7 => exact fun _ _ _ h => h
        case hwq1x7 => rfl
        case hyq1x7 => ((intro w hSw; (try dsimp only at hSw); go_simp) <;> with_reducible rfl)
        try simp only [Act.put, List.setIfInBounds_toArray, List.set_cons_zero, List.set_cons_succ]
        refine wpAnyH_take (i := 7) (oi := ?oiq1x8) (v := ?vq1x8) ?hiq1x8 (by kernel_rfl) (by kernel_rfl) (by kernel_rfl) ?hQq1x8 (Or.inl ⟨?hwq1x8, ?hyq1x8⟩) (by assumption) ?restq1x8
        case hiq1x8 => simp only [List.getElem?_toArray, List.getElem?_cons_succ, List.getElem?_cons_zero]; exact rfl
        case hQq1x8 => exact fun _ _ _ h => h
        case hwq1x8 => rfl
        case hyq1x8 => ((intro w hSw; (try dsimp only at hSw); go_simp) <;> with_reducible rfl)
        try simp only [Act.put, List.setIfInBounds_toArray, List.set_cons_zero, List.set_cons_succ]
        refine wpAnyH_take (i := 8) (oi := ?oiq1x9) (v := ?vq1x9) ?hiq1x9 (by kernel_rfl) (by kernel_rfl) (by kernel_rfl) ?hQq1x9 (Or.inl ⟨?hwq1x9, ?hyq1x9⟩) (by assumption) ?restq1x9
        case hiq1x9 => simp only [List.getElem?_toArray, List.getElem?_cons_succ, List.getElem?_cons_zero]; exact rfl
        case hQq1x9 => exact fun _ _ _ h => h
        case hwq1x9 => rfl
        case hyq1x9 => ((intro w hSw; (try dsimp only at hSw); go_simp) <;> with_reducible rfl)
        try simp only [Act.put, List.setIfInBounds_toArray, List.set_cons_zero, List.set_cons_succ]
        refine wpAnyH_take (i := 9) (oi := ?oiq1x10) (v := ?vq1x10) ?hiq1x10 (by kernel_rfl) (by kernel_rfl) (by kernel_rfl) ?hQq1x10 (Or.inl ⟨?hwq1x10, ?hyq1x10⟩) (by assumption) ?restq1x10
        case hiq1x10 => simp only [List.getElem?_toArray, List.getElem?_cons_succ, List.getElem?_cons_zero]; exact rfl
        case hQq1x10 => exact fun _ _ _ h => h
        case hwq1x10 => rfl
        case hyq1x10 => ((intro w hSw; (try dsimp only at hSw); go_simp) <;> with_reducible rfl)
        try simp only [Act.put, List.setIfInBounds_toArray, List.set_cons_zero, List.set_cons_succ]
        refine wpAnyH_take (i := 10) (oi := ?oiq1x11) (v := ?vq1x11) ?hiq1x11 (by kernel_rfl) (by kernel_rfl) (by kernel_rfl) ?hQq1x11 (Or.inl ⟨?hwq1x11, ?hyq1x11⟩) (by assumption) ?restq1x11
        case hiq1x11 => simp only [List.getElem?_toArray, List.getElem?_cons_succ, List.getElem?_cons_zero]; exact rfl
        case hQq1x11 => exact fun _ _ _ h => h
        case hwq1x11 => rfl
        case hyq1x11 => ((intro w hSw; (try dsimp only at hSw); go_simp) <;> with_reducible rfl)
        try simp only [Act.put, List.setIfInBounds_toArray, List.set_cons_zero, List.set_cons_succ]
        refine wpAnyH_take (i := 11) (oi := ?oiq1x12) (v := ?vq1x12) ?hiq1x12 (by kernel_rfl) (by kernel_rfl) (by kernel_rfl) ?hQq1x12 (Or.inl ⟨?hwq1x12, ?hyq1x12⟩) (by assumption) ?restq1x12
        case hiq1x12 => simp only [List.getElem?_toArray, List.getElem?_cons_succ, List.getElem?_cons_zero]; exact rfl
        case hQq1x12 => exact fun _ _ _ h => h
        case hwq1x12 => rfl
        case hyq1x12 => ((intro w hSw; (try dsimp only at hSw); go_simp) <;> with_reducible rfl)
        try simp only [Act.put, List.setIfInBounds_toArray, List.set_cons_zero, List.set_cons_succ]
        refine wpAnyH_ready (rs := [12]) (by kernel_rfl) (by simp) ?_
        refine AllReadyH.cons (o := ?oq1x13) ?hoq1x13 (fun K hK => ?stepq1x13) ?moreq1x13
        case hoq1x13 => simp only [List.getElem?_toArray, List.getElem?_cons_succ, List.getElem?_cons_zero]; exact rfl
        case moreq1x13 => exact AllReadyH.nil
        go_simp
        skip
        refine hK.out _ _ ?hSq1x13 (fun hHeld => ?restq1x13)
        case hSq1x13 => (first | exact ⟨e2, e3⟩ | exact ⟨(((Below.refl _ _).alloc (Nat.le_refl _) _).cell (p := ⟨b, o + k * 4 + 2, none⟩) hbd).trans e2, (((Below.refl _ _).alloc (Nat.le_refl _) _).cell (p := ⟨b, o + k * 4 + 3, none⟩) hbd).trans e3⟩ | exact ⟨(grown_cell hgrow2 (by simp; omega) (fun e => hRd.apart b e rfl)).trans hHeld.1, (grown_cell hgrow2 (by simp; omega) (fun e => hRd.apart b e rfl)).trans hHeld.2⟩ | exact hHeld)
        clear hK K
        try simp only [Act.put, List.setIfInBounds_toArray, List.set_cons_zero, List.set_cons_succ]
        refine wpAnyH_ready (rs := [13]) (by kernel_rfl) (by simp) ?_
        refine AllReadyH.cons (o := ?oq1x14) ?hoq1x14 (fun K hK => ?stepq1x14) ?moreq1x14
        case hoq1x14 => simp only [List.getElem?_toArray, List.getElem?_cons_succ, List.getElem?_cons_zero]; exact rfl
        case moreq1x14 => exact AllReadyH.nil
        (refine step_append_own _ rfl _ _ 40 rfl w.heap.size 94 i0 _ 3 24 Try.underlying40 hi hz0 hz1 hz2 rfl (by decide) _ _ _ rfl (hRd.lv.alloc _) ⟨we.drew.heap.size, 0, none⟩ 1 1 [.int .i64 (num zs (k * 4 + 2)), .int .i64 (num zs (k * 4 + 3)), .int .i64 1] rfl rfl (World.news_of_block (heap_alloc_new we.drew _)) (by intro u hu; simp at hu; rcases hu with rfl | rfl | rfl <;> rfl) (by unfold maxLen; omega) (by omega) (by simp; omega) ?_; intro v' u2 hown2 hgrow2 _)
        refine hK.out _ _ ?hSq1x14 (fun hHeld => ?restq1x14)
        case hSq1x14 => (first | exact ⟨e2, e3⟩ | exact ⟨(((Below.refl _ _).alloc (Nat.le_refl _) _).cell (p := ⟨b, o + k * 4 + 2, none⟩) hbd).trans e2, (((Below.refl _ _).alloc (Nat.le_refl _) _).cell (p := ⟨b, o + k * 4 + 3, none⟩) hbd).trans e3⟩ | exact ⟨(grown_cell hgrow2 (by simp; omega) (fun e => hRd.apart b e rfl)).trans hHeld.1, (grown_cell hgrow2 (by simp; omega) (fun e => hRd.apart b e rfl)).trans hHeld.2⟩ | exact hHeld)
        clear hK K
        try simp only [Act.put, List.setIfInBounds_toArray, List.set_cons_zero, List.set_cons_succ]
        refine wpAnyH_take (i := 14) (oi := ?oiq1x15) (v := ?vq1x15) ?hiq1x15 (by kernel_rfl) (by kernel_rfl) (by kernel_rfl) ?hQq1x15 (Or.inl ⟨?hwq1x15, ?hyq1x15⟩) (by assumption) ?restq1x15
        case hiq1x15 => simp only [List.getElem?_toArray, List.getElem?_cons_succ, List.getElem?_cons_zero]; exact rfl
        case hQq1x15 => exact fun _ _ _ h => h
        case hwq1x15 => rfl
        case hyq1x15 => ((intro w hSw; (try dsimp only at hSw); go_simp) <;> with_reducible rfl)
        try simp only [Act.put, List.setIfInBounds_toArray, List.set_cons_zero, List.set_cons_succ]
        refine wpAnyH_done (by kernel_rfl) ?_ _
        have hR2 := (DepR.later hRd ((Below.refl _ _).alloc (Nat.le_refl _) _)).more (L' := dpL zs (k + 1)) (by rw [HG.out, nums_append]; exact hown2) hgrow2
        have hbel2 := (hbeld.alloc hbs _).grown hgrow2 (by simp; omega) (fun q hq => (hRd.lv.lt q hq).1)
        obtain ⟨A3, d3, rfl, _, _⟩ := own_slice hown2
        clear hown2 hgrow2 hRd hbeld e2 e3 hRe hbele hbd hbe
        go_wp2_with fail
        go_roundw
        case rel => exact ⟨k + 1, 0 + 1, by omega, by go_num, HM.out, hR2, hbel2⟩
        case measure => simp [intOf]; omega
      · obtain ⟨i, rfl⟩ : ∃ i, j = i + 1 := ⟨j - 1, by omega⟩
        obtain ⟨g, cg, hv, _, _⟩ := World.ownsRow.form hR.lv (by omega)
        injection hv with hv1 _ hv2
        subst hv1 hv2
        have l0 := own_at3 hR.lv (i := i * 3) (by omega)
        by_cases he : num (dpL zs k) (i * 3) = num zs (k * 4 + 2)
        · have HE := Lib.hid he
          rw [he] at l0
          clear he
          go_upto_region 7 with fail
          go_quiet (fail)
          go_upto_region 8 with fail
          rename Nat => nq
          have hRe := hR.drewN nq
          have hbele : Below w.heap.size w (wr.drewN nq) := ⟨hbel.os, hbel.tape, hbel.output, hbel.size, hbel.block⟩
          have e3 : (wr.drewN nq).cell? ⟨b, o + k * 4 + 3, none⟩ = _ := c3
          have l1 : (wr.drewN nq).cell? ⟨g, i * 3 + 1, none⟩ = _ := own_at3 hR.lv (i := i * 3 + 1) (by omega)
          obtain ⟨lo1, lo2⟩ := hD.lo i (by omega)
          obtain ⟨hi1, hi2⟩ := hD.hi i (by omega)
          have hq := allO_at N k hall hlt
          simp only [ordB, inB, Bool.and_eq_true, decide_eq_true_eq] at hq
          have hq1 := hq.2.2.2.1
          have hq2 := hq.2.2.2.2
          have HM := Lib.hid (hD.hit hall hlt (by omega) (by rw [show (i + 1 - 1) * 3 = i * 3 by omega]; exact HE.out))
          have HG := Lib.hid (show dpL zs (k + 1) = ((dpL zs k).set (i * 3 + 1) (num (dpL zs k) (i * 3 + 1) + num zs (k * 4 + 3))).set (i * 3 + 2) (num (dpL zs k) (i * 3 + 2) + 1) from dpL_hit hD.len (by omega) (by rw [show (i + 1 - 1) * 3 = i * 3 by omega]; exact HE.out))
          clear hR hb hbel c0 c1 c2 c3 l0 hq hD hall hsrt
          generalize hL : dpL zs k = L at *
          have HL := Lib.hid hL
          clear hL
          generalize wr.drewN nq = wq at *
          have b1 : (i < i + 1) = True := by simp
          have b2 : ((i : Int) < (i : Int) + 1) = True := by simp; omega
          have b3 : i < i + 1 := by omega
          go_still_tail 13, (by kernel_rfl)
          change wpList _ _ _ _ _ wq.drew
          clear e3 l1
          replace hRe := hRe.drew
          replace hbele := hbele.drew
          generalize wq.drew = we at *
          have z1 := hRe.lv.frozenAt (i * 3 + 1)
          have y1 := own_at3 hRe.lv (i := i * 3 + 1) (by omega)
          go_upto_region 9 with fail
          clear z1 y1
          replace hbele := hbele.setCell (p := ⟨g, i * 3 + 1, none⟩) (hRe.lv.lt g rfl).1 (.int .i64 (num L (i * 3 + 1) + num zs (k * 4 + 3)))
          replace hRe := hRe.set (i * 3 + 1) (num L (i * 3 + 1) + num zs (k * 4 + 3))
          generalize we.setCell ⟨g, i * 3 + 1, none⟩ (.int .i64 (num L (i * 3 + 1) + num zs (k * 4 + 3))) = w2 at *
          have l2 := own_at3 hRe.lv (i := i * 3 + 2) (by omega)
          rw [num_set_ne (by omega)] at l2
          have z2 := hRe.lv.frozenAt (i * 3 + 2)
          replace hbele := hbele.setCell (p := ⟨g, i * 3 + 2, none⟩) (hRe.lv.lt g rfl).1 (.int .i64 (num L (i * 3 + 2) + 1))
          have hR2 := hRe.set (i * 3 + 2) (num L (i * 3 + 2) + 1)
          clear hRe
          go_wp2_with fail
          go_roundw
          case rel => exact ⟨k + 1, i + 1, by omega, by go_num, HM.out, by rw [HG.out]; exact hR2, hbele⟩
          case measure => simp [intOf]; omega
        · have HE := Lib.hid he
          have t : (num (dpL zs k) (i * 3) == num zs (k * 4 + 2)) = false := beq_eq_false_iff_ne.2 he
          have HM := Lib.hid (hD.miss hall hsrt hlt (fun _ => he))
          have HG := Lib.hid (show dpL zs (k + 1) = dpL zs k ++ [num zs (k * 4 + 2), num zs (k * 4 + 3), 1] from dpL_miss hD.len (fun _ => he))
          clear he hD hall hsrt
          go_upto_region 7 with fail
          go_quiet (fail)
          go_upto_region 10 with fail
          rename Nat => nq
          have hRe := hR.drewN nq
          have hbe : b < (wr.drewN nq).heap.size := hb
          have hbele : Below w.heap.size w (wr.drewN nq) := ⟨hbel.os, hbel.tape, hbel.output, hbel.size, hbel.block⟩
          have e2 : (wr.drewN nq).cell? ⟨b, o + k * 4 + 2, none⟩ = _ := c2
          have e3 : (wr.drewN nq).cell? ⟨b, o + k * 4 + 3, none⟩ = _ := c3
          clear hR hb hbel c0 c1 c2 c3
          generalize wr.drewN nq = we at *
          have hRd := hRe.drew
          have hbeld := hbele.drew
          have hbs := hbeld.size
          have hbs2 : w.heap.size ≤ we.heap.size := hbele.size
          have hbd : b < we.drew.heap.size := hbe
          refine wp_region_held_drew (S := fun w' => w'.cell? ⟨b, o + k * 4 + 2, none⟩ = some (.int .i64 (num zs (k * 4 + 2))) ∧ w'.cell? ⟨b, o + k * 4 + 3, none⟩ = some (.int .i64 (num zs (k * 4 + 3)))) (by kernel_rfl) ?hSq2xs (fun hHeld => ?restq2xs)
          case hSq2xs => (first | exact ⟨e2, e3⟩ | exact ⟨(((Below.refl _ _).alloc (Nat.le_refl _) _).cell (p := ⟨b, o + k * 4 + 2, none⟩) hbd).trans e2, (((Below.refl _ _).alloc (Nat.le_refl _) _).cell (p := ⟨b, o + k * 4 + 3, none⟩) hbd).trans e3⟩ | exact ⟨(grown_cell hgrow2 (by simp; omega) (fun e => hRd.apart b e rfl)).trans hHeld.1, (grown_cell hgrow2 (by simp; omega) (fun e => hRd.apart b e rfl)).trans hHeld.2⟩ | exact hHeld)
          refine wpAnyH_take (i := 0) (oi := ?oiq2x1) (v := ?vq2x1) ?hiq2x1 (by kernel_rfl) (by kernel_rfl) (by kernel_rfl) ?hQq2x1 (Or.inl ⟨?hwq2x1, ?hyq2x1⟩) (by assumption) ?restq2x1
          case hiq2x1 => simp only [List.getElem?_toArray, List.getElem?_cons_succ, List.getElem?_cons_zero]; exact rfl
          case hQq2x1 => exact fun _ _ _ h => h
          case hwq2x1 => rfl
          case hyq2x1 => ((intro w hSw; (try dsimp only at hSw); go_simp) <;> with_reducible rfl)
          try simp only [Act.put, List.setIfInBounds_toArray, List.set_cons_zero, List.set_cons_succ]
          refine wpAnyH_take (i := 1) (oi := ?oiq2x2) (v := ?vq2x2) ?hiq2x2 (by kernel_rfl) (by kernel_rfl) (by kernel_rfl) ?hQq2x2 (Or.inl ⟨?hwq2x2, ?hyq2x2⟩) (by assumption) ?restq2x2
          case hiq2x2 => simp only [List.getElem?_toArray, List.getElem?_cons_succ, List.getElem?_cons_zero]; exact rfl
          case hQq2x2 => exact fun _ _ _ h => h
          case hwq2x2 => rfl
          case hyq2x2 => ((intro w hSw; (try dsimp only at hSw); go_simp) <;> with_reducible rfl)
          try simp only [Act.put, List.setIfInBounds_toArray, List.set_cons_zero, List.set_cons_succ]
          refine wpAnyH_take (i := 2) (oi := ?oiq2x3) (v := ?vq2x3) ?hiq2x3 (by kernel_rfl) (by kernel_rfl) (by kernel_rfl) ?hQq2x3 (Or.inl ⟨?hwq2x3, ?hyq2x3⟩) (by assumption) ?restq2x3
          case hiq2x3 => simp only [List.getElem?_toArray, List.getElem?_cons_succ, List.getElem?_cons_zero]; exact rfl
          case hQq2x3 => exact fun _ _ _ h => h
          case hwq2x3 => rfl
          case hyq2x3 => ((intro w hSw; (try dsimp only at hSw); go_simp) <;> with_reducible rfl)
          try simp only [Act.put, List.setIfInBounds_toArray, List.set_cons_zero, List.set_cons_succ]
          refine wpAnyH_take (i := 3) (oi := ?oiq2x4) (v := ?vq2x4) ?hiq2x4 (by kernel_rfl) (by kernel_rfl) (by kernel_rfl) ?hQq2x4 (Or.inl ⟨?hwq2x4, ?hyq2x4⟩) (by assumption) ?restq2x4
          case hiq2x4 => simp only [List.getElem?_toArray, List.getElem?_cons_succ, List.getElem?_cons_zero]; exact rfl
          case hQq2x4 => exact fun _ _ _ h => h
          case hwq2x4 => rfl
          case hyq2x4 => ((intro w hSw; (try dsimp only at hSw); go_simp) <;> with_reducible rfl)
          try simp only [Act.put, List.setIfInBounds_toArray, List.set_cons_zero, List.set_cons_succ]
          refine wpAnyH_take (i := 4) (oi := ?oiq2x5) (v := ?vq2x5) ?hiq2x5 (by kernel_rfl) (by kernel_rfl) (by kernel_rfl) ?hQq2x5 (Or.inl ⟨?hwq2x5, ?hyq2x5⟩) (by assumption) ?restq2x5
          case hiq2x5 => simp only [List.getElem?_toArray, List.getElem?_cons_succ, List.getElem?_cons_zero]; exact rfl
          case hQq2x5 => exact fun _ _ _ h => h
          case hwq2x5 => rfl
          case hyq2x5 => ((intro w hSw; (try dsimp only at hSw); go_simp) <;> with_reducible rfl)
          try simp only [Act.put, List.setIfInBounds_toArray, List.set_cons_zero, List.set_cons_succ]
          refine wpAnyH_take (i := 5) (oi := ?oiq2x6) (v := ?vq2x6) ?hiq2x6 (by kernel_rfl) (by kernel_rfl) (by kernel_rfl) ?hQq2x6 (Or.inl ⟨?hwq2x6, ?hyq2x6⟩) (by assumption) ?restq2x6
          case hiq2x6 => simp only [List.getElem?_toArray, List.getElem?_cons_succ, List.getElem?_cons_zero]; exact rfl
          case hQq2x6 => exact fun _ _ _ h => h
          case hwq2x6 => rfl
          case hyq2x6 => ((intro w hSw; (try dsimp only at hSw); go_simp) <;> with_reducible rfl)
          try simp only [Act.put, List.setIfInBounds_toArray, List.set_cons_zero, List.set_cons_succ]
          refine wpAnyH_take (i := 6) (oi := ?oiq2x7) (v := ?vq2x7) ?hiq2x7 (by kernel_rfl) (by kernel_rfl) (by kernel_rfl) ?hQq2x7 (Or.inl ⟨?hwq2x7, ?hyq2x7⟩) (by assumption) ?restq2x7
          case hiq2x7 => simp only [List.getElem?_toArray, List.getElem?_cons_succ, List.getElem?_cons_zero]; exact rfl
          case hQq2x7 => exact fun _ _ _ h => h
          case hwq2x7 => rfl
          case hyq2x7 => ((intro w hSw; (try dsimp only at hSw); go_simp) <;> with_reducible rfl)
          try simp only [Act.put, List.setIfInBounds_toArray, List.set_cons_zero, List.set_cons_succ]
          refine wpAnyH_take (i := 7) (oi := ?oiq2x8) (v := ?vq2x8) ?hiq2x8 (by kernel_rfl) (by kernel_rfl) (by kernel_rfl) ?hQq2x8 (Or.inl ⟨?hwq2x8, ?hyq2x8⟩) (by assumption) ?restq2x8
          case hiq2x8 => simp only [List.getElem?_toArray, List.getElem?_cons_succ, List.getElem?_cons_zero]; exact rfl
          case hQq2x8 => exact fun _ _ _ h => h
          case hwq2x8 => rfl
          case hyq2x8 => ((intro w hSw; (try dsimp only at hSw); go_simp) <;> with_reducible rfl)
          try simp only [Act.put, List.setIfInBounds_toArray, List.set_cons_zero, List.set_cons_succ]
          refine wpAnyH_take (i := 8) (oi := ?oiq2x9) (v := ?vq2x9) ?hiq2x9 (by kernel_rfl) (by kernel_rfl) (by kernel_rfl) ?hQq2x9 (Or.inl ⟨?hwq2x9, ?hyq2x9⟩) (by assumption) ?restq2x9
          case hiq2x9 => simp only [List.getElem?_toArray, List.getElem?_cons_succ, List.getElem?_cons_zero]; exact rfl
          case hQq2x9 => exact fun _ _ _ h => h
          case hwq2x9 => rfl
          case hyq2x9 => ((intro w hSw; (try dsimp only at hSw); go_simp) <;> with_reducible rfl)
          try simp only [Act.put, List.setIfInBounds_toArray, List.set_cons_zero, List.set_cons_succ]
          refine wpAnyH_take (i := 9) (oi := ?oiq2x10) (v := ?vq2x10) ?hiq2x10 (by kernel_rfl) (by kernel_rfl) (by kernel_rfl) ?hQq2x10 (Or.inl ⟨?hwq2x10, ?hyq2x10⟩) (by assumption) ?restq2x10
          case hiq2x10 => simp only [List.getElem?_toArray, List.getElem?_cons_succ, List.getElem?_cons_zero]; exact rfl
          case hQq2x10 => exact fun _ _ _ h => h
          case hwq2x10 => rfl
          case hyq2x10 => ((intro w hSw; (try dsimp only at hSw); go_simp) <;> with_reducible rfl)
          try simp only [Act.put, List.setIfInBounds_toArray, List.set_cons_zero, List.set_cons_succ]
          refine wpAnyH_take (i := 10) (oi := ?oiq2x11) (v := ?vq2x11) ?hiq2x11 (by kernel_rfl) (by kernel_rfl) (by kernel_rfl) ?hQq2x11 (Or.inl ⟨?hwq2x11, ?hyq2x11⟩) (by assumption) ?restq2x11
          case hiq2x11 => simp only [List.getElem?_toArray, List.getElem?_cons_succ, List.getElem?_cons_zero]; exact rfl
          case hQq2x11 => exact fun _ _ _ h => h
          case hwq2x11 => rfl
          case hyq2x11 => ((intro w hSw; (try dsimp only at hSw); go_simp) <;> with_reducible rfl)
          try simp only [Act.put, List.setIfInBounds_toArray, List.set_cons_zero, List.set_cons_succ]
          refine wpAnyH_take (i := 11) (oi := ?oiq2x12) (v := ?vq2x12) ?hiq2x12 (by kernel_rfl) (by kernel_rfl) (by kernel_rfl) ?hQq2x12 (Or.inl ⟨?hwq2x12, ?hyq2x12⟩) (by assumption) ?restq2x12
          case hiq2x12 => simp only [List.getElem?_toArray, List.getElem?_cons_succ, List.getElem?_cons_zero]; exact rfl
          case hQq2x12 => exact fun _ _ _ h => h
          case hwq2x12 => rfl
          case hyq2x12 => ((intro w hSw; (try dsimp only at hSw); go_simp) <;> with_reducible rfl)
          try simp only [Act.put, List.setIfInBounds_toArray, List.set_cons_zero, List.set_cons_succ]
          refine wpAnyH_ready (rs := [12]) (by kernel_rfl) (by simp) ?_
          refine AllReadyH.cons (o := ?oq2x13) ?hoq2x13 (fun K hK => ?stepq2x13) ?moreq2x13
          case hoq2x13 => simp only [List.getElem?_toArray, List.getElem?_cons_succ, List.getElem?_cons_zero]; exact rfl
          case moreq2x13 => exact AllReadyH.nil
          go_simp
          skip
          refine hK.out _ _ ?hSq2x13 (fun hHeld => ?restq2x13)
          case hSq2x13 => (first | exact ⟨e2, e3⟩ | exact ⟨(((Below.refl _ _).alloc (Nat.le_refl _) _).cell (p := ⟨b, o + k * 4 + 2, none⟩) hbd).trans e2, (((Below.refl _ _).alloc (Nat.le_refl _) _).cell (p := ⟨b, o + k * 4 + 3, none⟩) hbd).trans e3⟩ | exact ⟨(grown_cell hgrow2 (by simp; omega) (fun e => hRd.apart b e rfl)).trans hHeld.1, (grown_cell hgrow2 (by simp; omega) (fun e => hRd.apart b e rfl)).trans hHeld.2⟩ | exact hHeld)
          clear hK K
          try simp only [Act.put, List.setIfInBounds_toArray, List.set_cons_zero, List.set_cons_succ]
          refine wpAnyH_ready (rs := [13]) (by kernel_rfl) (by simp) ?_
          refine AllReadyH.cons (o := ?oq2x14) ?hoq2x14 (fun K hK => ?stepq2x14) ?moreq2x14
          case hoq2x14 => simp only [List.getElem?_toArray, List.getElem?_cons_succ, List.getElem?_cons_zero]; exact rfl
          case moreq2x14 => exact AllReadyH.nil
          (refine step_append_own _ rfl _ _ 40 rfl w.heap.size 94 i0 _ 3 24 Try.underlying40 hi hz0 hz1 hz2 rfl (by decide) _ _ _ rfl (hRd.lv.alloc _) ⟨we.drew.heap.size, 0, none⟩ 1 1 [.int .i64 (num zs (k * 4 + 2)), .int .i64 (num zs (k * 4 + 3)), .int .i64 1] rfl rfl (World.news_of_block (heap_alloc_new we.drew _)) (by intro u hu; simp at hu; rcases hu with rfl | rfl | rfl <;> rfl) (by unfold maxLen; omega) (by omega) (by simp; omega) ?_; intro v' u2 hown2 hgrow2 _)
          refine hK.out _ _ ?hSq2x14 (fun hHeld => ?restq2x14)
          case hSq2x14 => (first | exact ⟨e2, e3⟩ | exact ⟨(((Below.refl _ _).alloc (Nat.le_refl _) _).cell (p := ⟨b, o + k * 4 + 2, none⟩) hbd).trans e2, (((Below.refl _ _).alloc (Nat.le_refl _) _).cell (p := ⟨b, o + k * 4 + 3, none⟩) hbd).trans e3⟩ | exact ⟨(grown_cell hgrow2 (by simp; omega) (fun e => hRd.apart b e rfl)).trans hHeld.1, (grown_cell hgrow2 (by simp; omega) (fun e => hRd.apart b e rfl)).trans hHeld.2⟩ | exact hHeld)
          clear hK K
          try simp only [Act.put, List.setIfInBounds_toArray, List.set_cons_zero, List.set_cons_succ]
          refine wpAnyH_take (i := 14) (oi := ?oiq2x15) (v := ?vq2x15) ?hiq2x15 (by kernel_rfl) (by kernel_rfl) (by kernel_rfl) ?hQq2x15 (Or.inl ⟨?hwq2x15, ?hyq2x15⟩) (by assumption) ?restq2x15
          case hiq2x15 => simp only [List.getElem?_toArray, List.getElem?_cons_succ, List.getElem?_cons_zero]; exact rfl
          case hQq2x15 => exact fun _ _ _ h => h
          case hwq2x15 => rfl
          case hyq2x15 => ((intro w hSw; (try dsimp only at hSw); go_simp) <;> with_reducible rfl)
          try simp only [Act.put, List.setIfInBounds_toArray, List.set_cons_zero, List.set_cons_succ]
          refine wpAnyH_done (by kernel_rfl) ?_ _
          have hR2 := (DepR.later hRd ((Below.refl _ _).alloc (Nat.le_refl _) _)).more (L' := dpL zs (k + 1)) (by rw [HG.out, nums_append]; exact hown2) hgrow2
          have hbel2 := (hbeld.alloc hbs _).grown hgrow2 (by simp; omega) (fun q hq => (hRd.lv.lt q hq).1)
          obtain ⟨A3, d3, rfl, _, _⟩ := own_slice hown2
          clear hown2 hgrow2 hRd hbeld e2 e3 hRe hbele hbd hbe
          go_wp2_with fail
          go_roundw
          case rel => exact ⟨k + 1, i + 1 + 1, by omega, by go_num, HM.out, hR2, hbel2⟩
          case measure => simp [intOf]; omega
    · obtain rfl : k = N := by omega
      have hlen := hD.len
      have hle := hD.le
      have HD := Lib.hid hlen
      clear hlen hD hall hsrt
      go_wp2_with fail
      go_ret
      exact ⟨⟨_, rfl, by rw [depN_of (by rw [HZ.out]; exact HD.out), HZ.out]; exact hR.lv⟩, hbel⟩
end Go.Proofs.Ytfodkefaflpicaa
