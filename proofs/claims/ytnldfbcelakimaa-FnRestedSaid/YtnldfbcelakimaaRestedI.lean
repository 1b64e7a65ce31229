/-
  The program's Rested.
-/
import Derived.Test.YtnldfbcelakimaaInsert
import Derived.Test.YtnldfbcelakimaaTwo
import Derived.Test.YtnldfbcelakimaaOpened
import Derived.Test.YtnldfbcelakimaaBookZ
namespace Go.Proofs.Ytnldfbcelakimaa
open Go.RowKit Wire

/-- the sides' rows with an order put into its side -/
def rest1 (side p : Int) (za : List Int) (n : Nat) (o : List Int) : List Int := if side = 1 then insZ za (restI side p za n) o else za
def rest2 (side p : Int) (zb : List Int) (m : Nat) (o : List Int) : List Int := if side = 1 then zb else insZ zb (restI side p zb m) o
def restN1 (side : Int) (n : Nat) : Nat := if side = 1 then n + 1 else n
def restN2 (side : Int) (m : Nat) : Nat := if side = 1 then m else m + 1
/-- an order may rest -/
def restOk (side oi oa op oq : Int) (za : List Int) (n : Nat) (zb : List Int) (m : Nat) : Bool :=
  bookB za n zb m && (sideOkB side && (ordI oi oa op oq && bookB (rest1 side op za n [oi, oa, op, oq]) (restN1 side n) (rest2 side op zb m [oi, oa, op, oq]) (restN2 side m)))
/-- as long as a test holds; else none -/
def onN (b : Bool) (n : Nat) : Nat := if b = true then n else 0
def onZ (b : Bool) (z : List Int) : List Int := if b = true then z else []
theorem onN_true (n : Nat) : onN true n = n := rfl
theorem onZ_true (z : List Int) : onZ true z = z := rfl
theorem onN_le {b : Bool} {n k : Nat} (h : n ≤ k) : onN b n ≤ k := by
  unfold onN
  split <;> omega
theorem book_small {za zb : List Int} {n m : Nat} (h : bookB za n zb m = true) : n ≤ 20 ∧ m ≤ 20 := by
  simp only [bookB, sideB, Bool.and_eq_true, decide_eq_true_eq] at h
  exact ⟨h.1.1, h.2.1.1⟩
theorem lead_le' (f : Nat → Bool) (n : Nat) : lead f n ≤ n := by
  induction n generalizing f with
  | zero => simp [lead]
  | succ n ih =>
    rw [lead]
    split
    · have := ih (fun j => f (j + 1)); omega
    · omega
theorem Opened.framed {w w' : World} {X S L : Nat} {T0 T1 T2 : TypeId} {F : Value} {side : Int} {zs : List Int} {n : Nat} {v : Value} {gs : Nat → Nat} (h : Opened w X S L T0 T1 T2 F side zs n v gs) (hf : ∀ q, q < w.heap.size → (q = S ∨ q = L ∨ v.ownBlock = some q) → w'.heap[q]? = w.heap[q]?) : Opened w' X S L T0 T1 T2 F side zs n v gs := by
  refine ⟨h.low, (hf S (heap_lt h.side) (.inl rfl)).trans h.side, (hf L (heap_lt h.list) (.inr (.inl rfl))).trans h.list, ⟨h.own.1, ?_⟩, h.far⟩
  rcases h.own.2 with h0 | ⟨g, cap, cur, hv, hX, hheap, hr⟩
  · exact .inl h0
  · exact .inr ⟨g, cap, cur, hv, hX, (hf g (heap_lt hheap) (.inr (.inr (by rw [hv]; rfl)))).trans hheap, hr⟩
theorem Copies.framed {w w' : World} {X S L : Nat} {T : TypeId} {zs : List Int} {n : Nat} {v : Value} {gs : Nat → Nat} (h : Copies w X S L T zs n v gs) (hf : ∀ k, k < n → ∀ g : Nat, g = gs k → w'.heap[gs k]? = w.heap[gs k]?) : Copies w' X S L T zs n v gs := fun k hk => by
  obtain ⟨h1, h2, h3, h4, h5⟩ := h k hk
  exact ⟨h1, h2, h3, h4, h5.of_block (hf k hk _ rfl)⟩
set_option linter.unusedSimpArgs false in
set_option maxHeartbeats 3200000 in
set_option maxRecDepth 100000 in
theorem impl_Rested (A : Option Addr) (n c : Nat) (B : Option Addr) (m d : Nat) (za zb : List Int) (side oi oa op oq : Int) (w : World) (ha : Lst w w.heap.size 4 A n za) (hb : Lst w w.heap.size 4 B m zb) (hn2 : n ≤ 1048576) (hm2 : m ≤ 1048576) :
    Calls Try.prog 21 #[.agg #[.slice A n c, .slice B m d], .int .i64 side, .agg #[.int .i64 oi, .int .i64 oa, .int .i64 op, .int .i64 oq]] w fun e w' => (∃ v1 v2, e = .returned (.tuple #[.agg #[v1, v2], .bool (restOk side oi oa op oq za n zb m)]) ∧ TwoRows w' w.heap.size v1 (onN (restOk side oi oa op oq za n zb m) (restN1 side n)) (onZ (restOk side oi oa op oq za n zb m) (rest1 side op za n [oi, oa, op, oq])) v2 (onN (restOk side oi oa op oq za n zb m) (restN2 side m)) (onZ (restOk side oi oa op oq za n zb m) (rest2 side op zb m [oi, oa, op, oq]))) ∧ Below w.heap.size w w' := by
  obtain ⟨kb0, ko, kr⟩ := three_blocks w (.cells #[.slice A n c, .slice B m d] 26) (.cells #[.int .i64 oi, .int .i64 oa, .int .i64 op, .int .i64 oq] 36) (.cells #[.slice none 0 0, .slice none 0 0] 26)
  have hb0 : Below w.heap.size w (((w.alloc (.cells #[.slice A n c, .slice B m d] 26)).alloc (.cells #[.int .i64 oi, .int .i64 oa, .int .i64 op, .int .i64 oq] 36)).alloc (.cells #[.slice none 0 0, .slice none 0 0] 26)) := (((Below.refl _ _).alloc (Nat.le_refl _) _).alloc (by simp) _).alloc (by simp; omega) _
  have hs0 : (((w.alloc (.cells #[.slice A n c, .slice B m d] 26)).alloc (.cells #[.int .i64 oi, .int .i64 oa, .int .i64 op, .int .i64 oq] 36)).alloc (.cells #[.slice none 0 0, .slice none 0 0] 26)).heap.size = w.heap.size + 3 := by simp
  have x0 := cell_of_row _ w.heap.size 0 _ _ (0, 0) kb0
  have x1 := cell_of_row _ w.heap.size 1 _ _ (0, 0) kb0
  simp at x0 x1
  go_enter Try.func21, Try.ntmps21
  go_wp2_with fail
  generalize (((w.alloc (.cells #[.slice A n c, .slice B m d] 26)).alloc (.cells #[.int .i64 oi, .int .i64 oa, .int .i64 op, .int .i64 oq] 36)).alloc (.cells #[.slice none 0 0, .slice none 0 0] 26)) = w0 at *
  refine (impl_BookOk A n c B m d za zb w0 ((ha.below hb0).more hb0.size) ((hb.below hb0).more hb0.size) hn2 hm2).mono ?_
  generalize hbk : bookB za n zb m = bk
  rintro e w1 ⟨rfl, hb1⟩
  have HBK := Lib.hid hbk
  have kb0 := (hb1.block w.heap.size (by omega)).trans kb0
  have ko := (hb1.block (w.heap.size + 1) (by omega)).trans ko
  have kr := (hb1.block (w.heap.size + 1 + 1) (by omega)).trans kr
  have hs1 : w.heap.size + 3 ≤ w1.heap.size := by have := hb1.size; omega
  have hb1 := hb0.trans (hb1.mono hb0.size)
  clear hb0 hs0 hbk x0 x1
  cases bk
  · have HNO := Lib.hid (show restOk side oi oa op oq za n zb m = false from by unfold restOk; rw [HBK.out]; rfl)
    have s0 := cell_of_row w1 (w.heap.size + 1 + 1) 0 _ _ (0, 0) kr
    have s1 := cell_of_row w1 (w.heap.size + 1 + 1) 1 _ _ (0, 0) kr
    have z0 := frozen_of_row w1 (w.heap.size + 1 + 1) 0 _ _ kr
    have z1 := frozen_of_row w1 (w.heap.size + 1 + 1) 1 _ _ kr
    simp at s0 s1
    have E0 := Lib.hid (cell_of_row _ (w.heap.size + 1 + 1) 0 _ _ (0, 0) (heap_set1 (u := .slice none 0 0) (heap_set0 (u := .slice none 0 0) kr)))
    have E1 := Lib.hid (cell_of_row _ (w.heap.size + 1 + 1) 1 _ _ (0, 0) (heap_set1 (u := .slice none 0 0) (heap_set0 (u := .slice none 0 0) kr)))
    go_wp2_with fail
    have e0 := E0.out
    have e1 := E1.out
    simp at e0 e1
    refine bodyPost_ret (v := .tuple #[.agg #[.slice none 0 0, .slice none 0 0], .bool false]) (by simp [results, Try.results21, go_sem, e0, e1]) rfl ⟨⟨.slice none 0 0, .slice none 0 0, by rw [HNO.out], by rw [HNO.out]; exact TwoRows.nil _ _⟩, ?_⟩
    exact ((hb1.setCell (p := ⟨w.heap.size + 1 + 1, 0, none⟩) (show w.heap.size ≤ w.heap.size + 1 + 1 by omega) _).setCell (p := ⟨w.heap.size + 1 + 1, 1, none⟩) (show w.heap.size ≤ w.heap.size + 1 + 1 by omega) _)
  go_wp2_with fail
  refine (impl_sideOk side w1).mono ?_
  rintro e w2 ⟨rfl, rfl⟩
  rcases Bool.eq_false_or_eq_true (sideOkB side) with hsd | hsd
  rotate_left
  · have HNO := Lib.hid (show restOk side oi oa op oq za n zb m = false from by unfold restOk; rw [HBK.out, hsd]; rfl)
    rw [hsd]
    clear hsd
    have s0 := cell_of_row w1 (w.heap.size + 1 + 1) 0 _ _ (0, 0) kr
    have s1 := cell_of_row w1 (w.heap.size + 1 + 1) 1 _ _ (0, 0) kr
    have z0 := frozen_of_row w1 (w.heap.size + 1 + 1) 0 _ _ kr
    have z1 := frozen_of_row w1 (w.heap.size + 1 + 1) 1 _ _ kr
    simp at s0 s1
    have E0 := Lib.hid (cell_of_row _ (w.heap.size + 1 + 1) 0 _ _ (0, 0) (heap_set1 (u := .slice none 0 0) (heap_set0 (u := .slice none 0 0) kr)))
    have E1 := Lib.hid (cell_of_row _ (w.heap.size + 1 + 1) 1 _ _ (0, 0) (heap_set1 (u := .slice none 0 0) (heap_set0 (u := .slice none 0 0) kr)))
    go_wp2_with fail
    have e0 := E0.out
    have e1 := E1.out
    simp at e0 e1
    refine bodyPost_ret (v := .tuple #[.agg #[.slice none 0 0, .slice none 0 0], .bool false]) (by simp [results, Try.results21, go_sem, e0, e1]) rfl ⟨⟨.slice none 0 0, .slice none 0 0, by rw [HNO.out], by rw [HNO.out]; exact TwoRows.nil _ _⟩, ?_⟩
    exact ((hb1.setCell (p := ⟨w.heap.size + 1 + 1, 0, none⟩) (show w.heap.size ≤ w.heap.size + 1 + 1 by omega) _).setCell (p := ⟨w.heap.size + 1 + 1, 1, none⟩) (show w.heap.size ≤ w.heap.size + 1 + 1 by omega) _)
  have HSD := Lib.hid hsd
  rw [hsd]
  clear hsd
  have o0 := cell_of_row w1 (w.heap.size + 1) 0 _ _ (0, 0) ko
  have o1 := cell_of_row w1 (w.heap.size + 1) 1 _ _ (0, 0) ko
  have o2 := cell_of_row w1 (w.heap.size + 1) 2 _ _ (0, 0) ko
  have o3 := cell_of_row w1 (w.heap.size + 1) 3 _ _ (0, 0) ko
  simp at o0 o1 o2 o3
  go_wp2_with fail
  refine (impl_orderOk oi oa op oq w1).mono ?_
  rintro e w2 ⟨rfl, hb2⟩
  have kb0 := (hb2.block w.heap.size (by omega)).trans kb0
  have ko := (hb2.block (w.heap.size + 1) (by omega)).trans ko
  have kr := (hb2.block (w.heap.size + 1 + 1) (by omega)).trans kr
  have hs2 : w.heap.size + 3 ≤ w2.heap.size := by have := hb2.size; omega
  have hb2 := hb1.trans (hb2.mono hb1.size)
  clear hb1 o0 o1 o2 o3
  rcases Bool.eq_false_or_eq_true (ordI oi oa op oq) with hod | hod
  rotate_left
  · have HNO := Lib.hid (show restOk side oi oa op oq za n zb m = false from by unfold restOk; rw [HBK.out, HSD.out, hod]; rfl)
    rw [hod]
    clear hod
    have s0 := cell_of_row w2 (w.heap.size + 1 + 1) 0 _ _ (0, 0) kr
    have s1 := cell_of_row w2 (w.heap.size + 1 + 1) 1 _ _ (0, 0) kr
    have z0 := frozen_of_row w2 (w.heap.size + 1 + 1) 0 _ _ kr
    have z1 := frozen_of_row w2 (w.heap.size + 1 + 1) 1 _ _ kr
    simp at s0 s1
    have E0 := Lib.hid (cell_of_row _ (w.heap.size + 1 + 1) 0 _ _ (0, 0) (heap_set1 (u := .slice none 0 0) (heap_set0 (u := .slice none 0 0) kr)))
    have E1 := Lib.hid (cell_of_row _ (w.heap.size + 1 + 1) 1 _ _ (0, 0) (heap_set1 (u := .slice none 0 0) (heap_set0 (u := .slice none 0 0) kr)))
    go_wp2_with fail
    have e0 := E0.out
    have e1 := E1.out
    simp at e0 e1
    refine bodyPost_ret (v := .tuple #[.agg #[.slice none 0 0, .slice none 0 0], .bool false]) (by simp [results, Try.results21, go_sem, e0, e1]) rfl ⟨⟨.slice none 0 0, .slice none 0 0, by rw [HNO.out], by rw [HNO.out]; exact TwoRows.nil _ _⟩, ?_⟩
    exact ((hb2.setCell (p := ⟨w.heap.size + 1 + 1, 0, none⟩) (show w.heap.size ≤ w.heap.size + 1 + 1 by omega) _).setCell (p := ⟨w.heap.size + 1 + 1, 1, none⟩) (show w.heap.size ≤ w.heap.size + 1 + 1 by omega) _)
  have HOD := Lib.hid hod
  rw [hod]
  clear hod
  have x0 := cell_of_row w2 w.heap.size 0 _ _ (0, 0) kb0
  have x1 := cell_of_row w2 w.heap.size 1 _ _ (0, 0) kb0
  simp at x0 x1
  go_wp2_with fail
  refine (impl_opened A n c B m d za zb w2 ((ha.below hb2).more hb2.size) ((hb.below hb2).more hb2.size) hn2 hm2).mono ?_
  rintro e w3 ⟨X1, S1, L1, v1, gs1, X2, S2, L2, v2, gs2, rfl, hp1, hp2, hX1, hX2, hfar, hb3⟩
  have ko := (hb3.block (w.heap.size + 1) (by omega)).trans ko
  have kr := (hb3.block (w.heap.size + 1 + 1) (by omega)).trans kr
  have hs3 : w.heap.size + 3 ≤ w3.heap.size := by have := hb3.size; omega
  have hbD := hb2.trans (hb3.mono hb2.size)
  clear hb2 hb3 kb0 x0 x1
  have ka := heap_alloc_new w3 (.cells #[.pointer (some ⟨L1, 0, none⟩), .pointer (some ⟨L2, 0, none⟩)] 77)
  have hbA : Below w3.heap.size w3 (w3.alloc (.cells #[.pointer (some ⟨L1, 0, none⟩), .pointer (some ⟨L2, 0, none⟩)] 77)) := (Below.refl _ _).alloc (Nat.le_refl _) _
  have hsA : (w3.alloc (.cells #[.pointer (some ⟨L1, 0, none⟩), .pointer (some ⟨L2, 0, none⟩)] 77)).heap.size = w3.heap.size + 1 := by simp
  have ko := (hbA.block (w.heap.size + 1) (by omega)).trans ko
  have kr := (hbA.block (w.heap.size + 1 + 1) (by omega)).trans kr
  have hLa : L1 < w3.heap.size := heap_lt hp1.1.list
  have hLb : L2 < w3.heap.size := heap_lt hp2.1.list
  have hvG1 : some w3.heap.size ≠ v1.ownBlock := fun e => by have := (hp1.1.own.lt _ e.symm).2; omega
  have hvG2 : some w3.heap.size ≠ v2.ownBlock := fun e => by have := (hp2.1.own.lt _ e.symm).2; omega
  have hp1 := And.intro (hp1.1.below hbA) (hp1.2.below hbA)
  have hp2 := And.intro (hp2.1.below hbA) (hp2.2.below hbA)
  have y0 := cell_of_row _ w3.heap.size 0 _ _ (0, 0) ka
  have y1 := cell_of_row _ w3.heap.size 1 _ _ (0, 0) ka
  simp at y0 y1
  have hbD := hbD.trans (hbA.mono hbD.size)
  clear hbA
  go_wp2_with fail
  generalize (w3.alloc (.cells #[.pointer (some ⟨L1, 0, none⟩), .pointer (some ⟨L2, 0, none⟩)] 77)) = wa at *
  generalize w3.heap.size = wG at *
  obtain ⟨hn, hm⟩ := book_small HBK.out
  rcases side_cases side with ⟨rfl, _⟩ | ⟨rfl, _⟩ | ⟨_, _, hno⟩
  · have HA1 := Lib.hid (show rest1 1 op za n [oi, oa, op, oq] = (insZ za (restI 1 op za n) [oi, oa, op, oq]) from rfl)
    have HA2 := Lib.hid (show rest2 1 op zb m [oi, oa, op, oq] = zb from rfl)
    have HA3 := Lib.hid (show restN1 1 n = (n + 1) from rfl)
    have HA4 := Lib.hid (show restN2 1 m = m from rfl)
    have HC := Lib.hid (show restOk 1 oi oa op oq za n zb m = bookB (insZ za (restI 1 op za n) [oi, oa, op, oq]) (n + 1) zb m from by unfold restOk; rw [HBK.out, HSD.out, HOD.out, HA1.out, HA2.out, HA3.out, HA4.out]; simp)
    have hli : restI 1 op za n ≤ n := lead_le' _ _
    have HZL := Lib.hid (insZ_len (o := [oi, oa, op, oq]) ha.1 rfl hli)
    go_wp2_with fail
    refine (impl_side ⟨L1, 0, none⟩ ⟨L2, 0, none⟩ 1 wa).mono ?_
    rintro e w4 ⟨rfl, hb4⟩
    have hs4 := hb4.size
    have hbD := hbD.trans (hb4.mono hbD.size)
    have ka := (hb4.block _ (by omega)).trans ka
    have kr := (hb4.block (w.heap.size + 1 + 1) (by omega)).trans kr
    have ko := (hb4.block (w.heap.size + 1) (by omega)).trans ko
    have hop1 := hp1.1.below hb4
    have hcp1 := hp1.2.below hb4
    have hop2 := hp2.1.below hb4
    have hcp2 := hp2.2.below hb4
    clear hp1 hp2 hb4 y0 y1
    go_wp2_with fail
    refine (impl_insert w.heap.size S1 L1 n (w.heap.size + 1) 1 oi oa op oq za v1 gs1 w4 (hop1.lower (by omega)) (hcp1.lower (by omega)) hn2 ha.1 ko (by omega) (by have := hop1.low.1; omega) (by have := hop1.low.2.1; omega) (fun e => by have := (hop1.own.lt _ e.symm).1; omega)).mono ?_
    rintro e w5 ⟨⟨_, rfl⟩, ⟨v', hq, hqc⟩, hb5, hk5⟩
    have hs5 : w4.heap.size ≤ w5.heap.size := hb5.size
    have hX1L : X1 ≤ L1 := hop1.low.2.1
    have hX1v : ∀ q, v1.ownBlock = some q → X1 ≤ q := fun q hq => (hop1.own.lt q hq).1
    have fr : ∀ q, q < w4.heap.size → (q < X1 ∨ q = wG) → w5.heap[q]? = w4.heap[q]? := fun q hq h => by
      rcases h with h | h
      · exact hk5 q hq (by omega) (fun e => by have := hX1v q e.symm; omega)
      · subst h
        exact hk5 _ hq (by omega) hvG1
    have ka := (fr _ (by omega) (.inr rfl)).trans ka
    have kr := (fr (w.heap.size + 1 + 1) (by omega) (.inl (by omega))).trans kr
    have hbD := hbD.trans (hb5.mono (Nat.le_refl _))
    have hXX : ∀ q, (q = S2 ∨ q = L2 ∨ v2.ownBlock = some q) → X2 ≤ q := fun q h => by
      rcases h with rfl | rfl | h
      · exact hop2.low.1
      · exact hop2.low.2.1
      · exact (hop2.own.lt q h).1
    have hd1 : ∀ q, (q = S2 ∨ q = L2 ∨ v2.ownBlock = some q) → q ≠ L1 := fun q h => by have := hXX q h; have := hfar.2.1; omega
    have hd2 : ∀ q, (q = S2 ∨ q = L2 ∨ v2.ownBlock = some q) → some q ≠ v1.ownBlock := fun q h e => by have := hXX q h; have := hfar.2.2.1 q e.symm; omega
    have hXg : ∀ q, q < m → X2 ≤ gs2 q := fun q hq => (hcp2 q hq).1
    have hd3 : ∀ q, q < m → gs2 q ≠ L1 := fun q hq => by have := hXg q hq; have := hfar.2.1; omega
    have hd4 : ∀ q, q < m → some (gs2 q) ≠ v1.ownBlock := fun q hq e => by have := hXg q hq; have := hfar.2.2.1 _ e.symm; omega
    have ho := hop2.framed (w' := w5) (fun q hq h => hk5 q hq (hd1 q h) (hd2 _ h))
    have hoc := hcp2.framed (w' := w5) (fun q hq g hg => hk5 (gs2 q) (hcp2 q hq).2.2.2.2.lt (hd3 q hq) (hd4 q hq))
    have y0 := cell_of_row w5 wG 0 _ _ (0, 0) ka
    have y1 := cell_of_row w5 wG 1 _ _ (0, 0) ka
    simp at y0 y1
    clear hop1 hcp1 hop2 hcp2 hk5 fr hb5
    have hn' : (n + 1) ≤ 1048576 := by omega
    have hm' : m ≤ 1048576 := by omega
    go_wp2_with fail
    refine (impl_closed w.heap.size S1 L1 X2 S2 L2 (n + 1) m v' v2 _ _ _ _ w5 hq hqc ho hoc hn' hm' HZL.out hb.1).mono ?_
    rintro e w6 ⟨⟨r1, r2, rfl, ho1, ho2, hne⟩, hb6⟩
    have TG : TwoRows w6 (w.heap.size + 3) r1 (n + 1) (insZ za (restI 1 op za n) [oi, oa, op, oq]) r2 m zb := ⟨own_mono ho1 (by omega), own_mono ho2 (by omega), hne⟩
    have hs6 := hb6.size
    have kr := (hb6.block (w.heap.size + 1 + 1) (by omega)).trans kr
    have hbD := hbD.trans (hb6.mono hbD.size)
    clear hb6 ho1 ho2 hne hq hqc ho hoc y0 y1
    obtain ⟨A1, d1, A2, d2, rfl, rfl⟩ := TG.slices
    have hbb : Below w6.heap.size w6 (w6.alloc (.cells #[.slice A1 (n + 1) d1, .slice A2 m d2] 26)) := (Below.refl _ _).alloc (Nat.le_refl _) _
    have kb := heap_alloc_new w6 (.cells #[.slice A1 (n + 1) d1, .slice A2 m d2] 26)
    have kr := (hbb.block (w.heap.size + 1 + 1) (by omega)).trans kr
    have TG := TG.below hbb
    have hbD := hbD.trans (hbb.mono hbD.size)
    have hsb := hbb.size
    have y0 := cell_of_row _ w6.heap.size 0 _ _ (0, 0) kb
    have y1 := cell_of_row _ w6.heap.size 1 _ _ (0, 0) kb
    simp at y0 y1
    clear hbb
    go_wp2_with fail
    generalize (w6.alloc (.cells #[.slice A1 (n + 1) d1, .slice A2 m d2] 26)) = wb at *
    refine (impl_BookOk A1 (n + 1) d1 A2 m d2 _ _ wb TG.bookIn.1 TG.bookIn.2 hn' hm').mono ?_
    rw [← HC.out]
    generalize hok : restOk 1 oi oa op oq za n zb m = ok at *
    rintro e w7 ⟨rfl, hb7⟩
    have TG := TG.below hb7
    have kb := (hb7.block w6.heap.size (heap_lt kb)).trans kb
    have kr := (hb7.block (w.heap.size + 1 + 1) (by omega)).trans kr
    have hbD := hbD.trans (hb7.mono hbD.size)
    have hs7 := hb7.size
    have HOK := Lib.hid hok
    clear hb7 y0 y1 hok HC
    cases ok
    · clear TG kb
      have s0 := cell_of_row w7 (w.heap.size + 1 + 1) 0 _ _ (0, 0) kr
      have s1 := cell_of_row w7 (w.heap.size + 1 + 1) 1 _ _ (0, 0) kr
      have z0 := frozen_of_row w7 (w.heap.size + 1 + 1) 0 _ _ kr
      have z1 := frozen_of_row w7 (w.heap.size + 1 + 1) 1 _ _ kr
      simp at s0 s1
      have E0 := Lib.hid (cell_of_row _ (w.heap.size + 1 + 1) 0 _ _ (0, 0) (heap_set1 (u := .slice none 0 0) (heap_set0 (u := .slice none 0 0) kr)))
      have E1 := Lib.hid (cell_of_row _ (w.heap.size + 1 + 1) 1 _ _ (0, 0) (heap_set1 (u := .slice none 0 0) (heap_set0 (u := .slice none 0 0) kr)))
      go_wp2_with fail
      have e0 := E0.out
      have e1 := E1.out
      simp at e0 e1
      refine bodyPost_ret (v := .tuple #[.agg #[.slice none 0 0, .slice none 0 0], .bool false]) (by simp [results, Try.results21, go_sem, e0, e1]) rfl ⟨⟨.slice none 0 0, .slice none 0 0, by rw [HOK.out], by rw [HOK.out]; exact TwoRows.nil _ _⟩, ?_⟩
      exact ((hbD.setCell (p := ⟨w.heap.size + 1 + 1, 0, none⟩) (show w.heap.size ≤ w.heap.size + 1 + 1 by omega) _).setCell (p := ⟨w.heap.size + 1 + 1, 1, none⟩) (show w.heap.size ≤ w.heap.size + 1 + 1 by omega) _)
    · have y0 := cell_of_row w7 w6.heap.size 0 _ _ (0, 0) kb
      have y1 := cell_of_row w7 w6.heap.size 1 _ _ (0, 0) kb
      simp at y0 y1
      have s0 := cell_of_row w7 (w.heap.size + 1 + 1) 0 _ _ (0, 0) kr
      have s1 := cell_of_row w7 (w.heap.size + 1 + 1) 1 _ _ (0, 0) kr
      have z0 := frozen_of_row w7 (w.heap.size + 1 + 1) 0 _ _ kr
      have z1 := frozen_of_row w7 (w.heap.size + 1 + 1) 1 _ _ kr
      simp at s0 s1
      have E0 := Lib.hid (cell_of_row _ (w.heap.size + 1 + 1) 0 _ _ (0, 0) (heap_set1 (u := .slice A2 m d2) (heap_set0 (u := .slice A1 (n + 1) d1) kr)))
      have E1 := Lib.hid (cell_of_row _ (w.heap.size + 1 + 1) 1 _ _ (0, 0) (heap_set1 (u := .slice A2 m d2) (heap_set0 (u := .slice A1 (n + 1) d1) kr)))
      have HTG := Lib.hid ((TG.kept (set_grown w7 (w.heap.size + 1 + 1) 0 (.slice A1 (n + 1) d1)) (by omega)).kept (set_grown _ (w.heap.size + 1 + 1) 1 (.slice A2 m d2)) (by omega))
      clear TG kb
      go_wp2_with fail
      have e0 := E0.out
      have e1 := E1.out
      simp at e0 e1
      refine bodyPost_ret (v := .tuple #[.agg #[.slice A1 (n + 1) d1, .slice A2 m d2], .bool true]) (by simp [results, Try.results21, go_sem, e0, e1]) rfl ⟨⟨_, _, by rw [HOK.out], by rw [HOK.out, onN_true, onN_true, onZ_true, onZ_true, HA1.out, HA2.out, HA3.out, HA4.out]; exact HTG.out.mono (by omega)⟩, ?_⟩
      exact ((hbD.setCell (p := ⟨w.heap.size + 1 + 1, 0, none⟩) (show w.heap.size ≤ w.heap.size + 1 + 1 by omega) _).setCell (p := ⟨w.heap.size + 1 + 1, 1, none⟩) (show w.heap.size ≤ w.heap.size + 1 + 1 by omega) _)
  · have HA1 := Lib.hid (show rest1 2 op za n [oi, oa, op, oq] = za from rfl)
    have HA2 := Lib.hid (show rest2 2 op zb m [oi, oa, op, oq] = (insZ zb (restI 2 op zb m) [oi, oa, op, oq]) from rfl)
    have HA3 := Lib.hid (show restN1 2 n = n from rfl)
    have HA4 := Lib.hid (show restN2 2 m = (m + 1) from rfl)
    have HC := Lib.hid (show restOk 2 oi oa op oq za n zb m = bookB za n (insZ zb (restI 2 op zb m) [oi, oa, op, oq]) (m + 1) from by unfold restOk; rw [HBK.out, HSD.out, HOD.out, HA1.out, HA2.out, HA3.out, HA4.out]; simp)
    have hli : restI 2 op zb m ≤ m := lead_le' _ _
    have HZL := Lib.hid (insZ_len (o := [oi, oa, op, oq]) hb.1 rfl hli)
    go_wp2_with fail
    refine (impl_side ⟨L1, 0, none⟩ ⟨L2, 0, none⟩ 2 wa).mono ?_
    rintro e w4 ⟨rfl, hb4⟩
    have hs4 := hb4.size
    have hbD := hbD.trans (hb4.mono hbD.size)
    have ka := (hb4.block _ (by omega)).trans ka
    have kr := (hb4.block (w.heap.size + 1 + 1) (by omega)).trans kr
    have ko := (hb4.block (w.heap.size + 1) (by omega)).trans ko
    have hop1 := hp1.1.below hb4
    have hcp1 := hp1.2.below hb4
    have hop2 := hp2.1.below hb4
    have hcp2 := hp2.2.below hb4
    clear hp1 hp2 hb4 y0 y1
    go_wp2_with fail
    refine (impl_insert w.heap.size S2 L2 m (w.heap.size + 1) 2 oi oa op oq zb v2 gs2 w4 (hop2.lower (by omega)) (hcp2.lower (by omega)) hm2 hb.1 ko (by omega) (by have := hop2.low.1; omega) (by have := hop2.low.2.1; omega) (fun e => by have := (hop2.own.lt _ e.symm).1; omega)).mono ?_
    rintro e w5 ⟨⟨_, rfl⟩, ⟨v', hq, hqc⟩, hb5, hk5⟩
    have hs5 : w4.heap.size ≤ w5.heap.size := hb5.size
    have hX1L : X2 ≤ L2 := hop2.low.2.1
    have hX1v : ∀ q, v2.ownBlock = some q → X2 ≤ q := fun q hq => (hop2.own.lt q hq).1
    have fr : ∀ q, q < w4.heap.size → (q < X1 ∨ q = wG) → w5.heap[q]? = w4.heap[q]? := fun q hq h => by
      rcases h with h | h
      · exact hk5 q hq (by omega) (fun e => by have := hX1v q e.symm; omega)
      · subst h
        exact hk5 _ hq (by omega) hvG2
    have ka := (fr _ (by omega) (.inr rfl)).trans ka
    have kr := (fr (w.heap.size + 1 + 1) (by omega) (.inl (by omega))).trans kr
    have hbD := hbD.trans (hb5.mono (Nat.le_refl _))
    have hXX : ∀ q, (q = S1 ∨ q = L1 ∨ v1.ownBlock = some q) → q < X2 := fun q h => by
      rcases h with rfl | rfl | h
      · exact hfar.1
      · exact hfar.2.1
      · exact hfar.2.2.1 q h
    have hd1 : ∀ q, (q = S1 ∨ q = L1 ∨ v1.ownBlock = some q) → q ≠ L2 := fun q h => by have := hXX q h; omega
    have hd2 : ∀ q, (q = S1 ∨ q = L1 ∨ v1.ownBlock = some q) → some q ≠ v2.ownBlock := fun q h e => by have := hXX q h; have := hX1v q e.symm; omega
    have hXg : ∀ q, q < n → gs1 q < X2 := fun q hq => hfar.2.2.2 q hq
    have hd3 : ∀ q, q < n → gs1 q ≠ L2 := fun q hq => by have := hXg q hq; omega
    have hd4 : ∀ q, q < n → some (gs1 q) ≠ v2.ownBlock := fun q hq e => by have := hXg q hq; have := hX1v _ e.symm; omega
    have ho := hop1.framed (w' := w5) (fun q hq h => hk5 q hq (hd1 q h) (hd2 _ h))
    have hoc := hcp1.framed (w' := w5) (fun q hq g hg => hk5 (gs1 q) (hcp1 q hq).2.2.2.2.lt (hd3 q hq) (hd4 q hq))
    have y0 := cell_of_row w5 wG 0 _ _ (0, 0) ka
    have y1 := cell_of_row w5 wG 1 _ _ (0, 0) ka
    simp at y0 y1
    clear hop1 hcp1 hop2 hcp2 hk5 fr hb5
    have hn' : n ≤ 1048576 := by omega
    have hm' : (m + 1) ≤ 1048576 := by omega
    go_wp2_with fail
    refine (impl_closed X1 S1 L1 w.heap.size S2 L2 n (m + 1) v1 v' _ _ _ _ w5 ho hoc hq hqc hn' hm' ha.1 HZL.out).mono ?_
    rintro e w6 ⟨⟨r1, r2, rfl, ho1, ho2, hne⟩, hb6⟩
    have TG : TwoRows w6 (w.heap.size + 3) r1 n za r2 (m + 1) (insZ zb (restI 2 op zb m) [oi, oa, op, oq]) := ⟨own_mono ho1 (by omega), own_mono ho2 (by omega), hne⟩
    have hs6 := hb6.size
    have kr := (hb6.block (w.heap.size + 1 + 1) (by omega)).trans kr
    have hbD := hbD.trans (hb6.mono hbD.size)
    clear hb6 ho1 ho2 hne hq hqc ho hoc y0 y1
    obtain ⟨A1, d1, A2, d2, rfl, rfl⟩ := TG.slices
    have hbb : Below w6.heap.size w6 (w6.alloc (.cells #[.slice A1 n d1, .slice A2 (m + 1) d2] 26)) := (Below.refl _ _).alloc (Nat.le_refl _) _
    have kb := heap_alloc_new w6 (.cells #[.slice A1 n d1, .slice A2 (m + 1) d2] 26)
    have kr := (hbb.block (w.heap.size + 1 + 1) (by omega)).trans kr
    have TG := TG.below hbb
    have hbD := hbD.trans (hbb.mono hbD.size)
    have hsb := hbb.size
    have y0 := cell_of_row _ w6.heap.size 0 _ _ (0, 0) kb
    have y1 := cell_of_row _ w6.heap.size 1 _ _ (0, 0) kb
    simp at y0 y1
    clear hbb
    go_wp2_with fail
    generalize (w6.alloc (.cells #[.slice A1 n d1, .slice A2 (m + 1) d2] 26)) = wb at *
    refine (impl_BookOk A1 n d1 A2 (m + 1) d2 _ _ wb TG.bookIn.1 TG.bookIn.2 hn' hm').mono ?_
    rw [← HC.out]
    generalize hok : restOk 2 oi oa op oq za n zb m = ok at *
    rintro e w7 ⟨rfl, hb7⟩
    have TG := TG.below hb7
    have kb := (hb7.block w6.heap.size (heap_lt kb)).trans kb
    have kr := (hb7.block (w.heap.size + 1 + 1) (by omega)).trans kr
    have hbD := hbD.trans (hb7.mono hbD.size)
    have hs7 := hb7.size
    have HOK := Lib.hid hok
    clear hb7 y0 y1 hok HC
    cases ok
    · clear TG kb
      have s0 := cell_of_row w7 (w.heap.size + 1 + 1) 0 _ _ (0, 0) kr
      have s1 := cell_of_row w7 (w.heap.size + 1 + 1) 1 _ _ (0, 0) kr
      have z0 := frozen_of_row w7 (w.heap.size + 1 + 1) 0 _ _ kr
      have z1 := frozen_of_row w7 (w.heap.size + 1 + 1) 1 _ _ kr
      simp at s0 s1
      have E0 := Lib.hid (cell_of_row _ (w.heap.size + 1 + 1) 0 _ _ (0, 0) (heap_set1 (u := .slice none 0 0) (heap_set0 (u := .slice none 0 0) kr)))
      have E1 := Lib.hid (cell_of_row _ (w.heap.size + 1 + 1) 1 _ _ (0, 0) (heap_set1 (u := .slice none 0 0) (heap_set0 (u := .slice none 0 0) kr)))
      go_wp2_with fail
      have e0 := E0.out
      have e1 := E1.out
      simp at e0 e1
      refine bodyPost_ret (v := .tuple #[.agg #[.slice none 0 0, .slice none 0 0], .bool false]) (by simp [results, Try.results21, go_sem, e0, e1]) rfl ⟨⟨.slice none 0 0, .slice none 0 0, by rw [HOK.out], by rw [HOK.out]; exact TwoRows.nil _ _⟩, ?_⟩
      exact ((hbD.setCell (p := ⟨w.heap.size + 1 + 1, 0, none⟩) (show w.heap.size ≤ w.heap.size + 1 + 1 by omega) _).setCell (p := ⟨w.heap.size + 1 + 1, 1, none⟩) (show w.heap.size ≤ w.heap.size + 1 + 1 by omega) _)
    · have y0 := cell_of_row w7 w6.heap.size 0 _ _ (0, 0) kb
      have y1 := cell_of_row w7 w6.heap.size 1 _ _ (0, 0) kb
      simp at y0 y1
      have s0 := cell_of_row w7 (w.heap.size + 1 + 1) 0 _ _ (0, 0) kr
      have s1 := cell_of_row w7 (w.heap.size + 1 + 1) 1 _ _ (0, 0) kr
      have z0 := frozen_of_row w7 (w.heap.size + 1 + 1) 0 _ _ kr
      have z1 := frozen_of_row w7 (w.heap.size + 1 + 1) 1 _ _ kr
      simp at s0 s1
      have E0 := Lib.hid (cell_of_row _ (w.heap.size + 1 + 1) 0 _ _ (0, 0) (heap_set1 (u := .slice A2 (m + 1) d2) (heap_set0 (u := .slice A1 n d1) kr)))
      have E1 := Lib.hid (cell_of_row _ (w.heap.size + 1 + 1) 1 _ _ (0, 0) (heap_set1 (u := .slice A2 (m + 1) d2) (heap_set0 (u := .slice A1 n d1) kr)))
      have HTG := Lib.hid ((TG.kept (set_grown w7 (w.heap.size + 1 + 1) 0 (.slice A1 n d1)) (by omega)).kept (set_grown _ (w.heap.size + 1 + 1) 1 (.slice A2 (m + 1) d2)) (by omega))
      clear TG kb
      go_wp2_with fail
      have e0 := E0.out
      have e1 := E1.out
      simp at e0 e1
      refine bodyPost_ret (v := .tuple #[.agg #[.slice A1 n d1, .slice A2 (m + 1) d2], .bool true]) (by simp [results, Try.results21, go_sem, e0, e1]) rfl ⟨⟨_, _, by rw [HOK.out], by rw [HOK.out, onN_true, onN_true, onZ_true, onZ_true, HA1.out, HA2.out, HA3.out, HA4.out]; exact HTG.out.mono (by omega)⟩, ?_⟩
      exact ((hbD.setCell (p := ⟨w.heap.size + 1 + 1, 0, none⟩) (show w.heap.size ≤ w.heap.size + 1 + 1 by omega) _).setCell (p := ⟨w.heap.size + 1 + 1, 1, none⟩) (show w.heap.size ≤ w.heap.size + 1 + 1 by omega) _)
  · exact absurd HSD.out (by rw [hno]; decide)
end Go.Proofs.Ytnldfbcelakimaa
