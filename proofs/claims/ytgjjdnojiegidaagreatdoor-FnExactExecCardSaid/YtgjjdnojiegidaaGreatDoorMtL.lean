/-
 Small facts for matching: boxes, rows, what stays.
-/
import Derived.Test.YtgjjdnojiegidaaGreatDoorTak
import Derived.Test.YtgjjdnojiegidaaGreatDoorHD
import Derived.Test.YtgjjdnojiegidaaGreatDoorRestS
import Derived.Test.YtgjjdnojiegidaaGreatDoorGI
import Derived.Test.YtgjjdnojiegidaaGreatDoorKeep
import Derived.StillTailTactics
import Derived.Deep.QuietTactic
import Derived.BigQuiet
import Derived.Deep.LoopGhost
import Derived.Deep.AppendLies
import Derived.Lib.OwnKind
namespace Go.Proofs.YtgjjdnojiegidaaGreatDoor
open Go.RowKit Wire

theorem mt_nil {w : World} {base sz n c : Nat} {e : TypeId} {A : Option Addr} {xs : List Value} (h : w.ownsRow base e sz (.slice A n c) n xs) : A = none → n = 0 ∧ c = 0 := fun e0 => by
 subst e0
 rcases h.2 with ⟨h1, h2⟩ | ⟨g, cap, cur, h1, _⟩
 · injection h1 with _ h3 h4
   exact ⟨h3, h4⟩
 · simp at h1
theorem mt_cap {w : World} {base sz n c : Nat} {e : TypeId} {A : Option Addr} {xs : List Value} (h : w.ownsRow base e sz (.slice A n c) n xs) : n ≤ c := by
 obtain ⟨A', c', e1, h1, _⟩ := oSl h
 injection e1 with _ _ e3
 omega
theorem mcell2 {w : World} {S : Nat} {a b : Value} {T : TypeId} (h : w.heap[S]? = some (.cells #[a, b] T (0, 0))) : w.cell? ⟨S, 0, none⟩ = some a ∧ w.cell? ⟨S, 1, none⟩ = some b := by
 refine ⟨?_, ?_⟩ <;> simp [World.cell?, h]
theorem mcell4 {w : World} {S : Nat} {a b c d : Value} {T : TypeId} (h : w.heap[S]? = some (.cells #[a, b, c, d] T (0, 0))) : w.cell? ⟨S, 0, none⟩ = some a ∧ w.cell? ⟨S, 1, none⟩ = some b ∧ w.cell? ⟨S, 2, none⟩ = some c ∧ w.cell? ⟨S, 3, none⟩ = some d := by
 refine ⟨?_, ?_, ?_, ?_⟩ <;> simp [World.cell?, h]
theorem mfree {w : World} {S : Nat} {cs : Array Value} {T : TypeId} (h : w.heap[S]? = some (.cells cs T (0, 0))) (j : Nat) : w.frozen? ⟨S, j, none⟩ = false := frozen_of_row w S j cs T h
theorem mset2 {w : World} {S : Nat} {a b u v : Value} {T : TypeId} (h : w.heap[S]? = some (.cells #[a, b] T (0, 0))) : ((w.setCell ⟨S, 0, none⟩ u).setCell ⟨S, 1, none⟩ v).heap[S]? = some (.cells #[u, v] T (0, 0)) := by
 simp [World.setCell, Array.getElem?_modify, h]
theorem mset4_3 {w : World} {S : Nat} {a b c d u : Value} {T : TypeId} (h : w.heap[S]? = some (.cells #[a, b, c, d] T (0, 0))) : (w.setCell ⟨S, 3, none⟩ u).heap[S]? = some (.cells #[a, b, c, u] T (0, 0)) := by
 simp [World.setCell, Array.getElem?_modify, h]
theorem mSo {w : World} {S B i : Nat} {u : Value} {o : Obj} (h : w.heap[B]? = some o) (hne : B ≠ S) : (w.setCell ⟨S, i, none⟩ u).heap[B]? = some o := (Below.heap_setCell w ⟨S, i, none⟩ u B hne).trans h
theorem mset2_other {w : World} {S B : Nat} {u v : Value} {o : Obj} (h : w.heap[B]? = some o) (hne : B ≠ S) : ((w.setCell ⟨S, 0, none⟩ u).setCell ⟨S, 1, none⟩ v).heap[B]? = some o := mSo (mSo h hne) hne
theorem set2_far {w : World} {S b i : Nat} {u v : Value} (h : S ≠ b) : ((w.setCell ⟨S, 0, none⟩ u).setCell ⟨S, 1, none⟩ v).cell? ⟨b, i, none⟩ = w.cell? ⟨b, i, none⟩ := (World.cell?_setCell_far _ ⟨S, 1, none⟩ ⟨b, i, none⟩ v h).trans (World.cell?_setCell_far _ ⟨S, 0, none⟩ ⟨b, i, none⟩ u h)
theorem own_at {w : World} {base sz n c q : Nat} {T : TypeId} {zs : List Int} (h : w.ownsRow base T sz (.slice (some ⟨q, 0, none⟩) n c) n (nums zs)) {i : Nat} (hi : i < n * sz) : w.cell? ⟨q, i, none⟩ = some (.int .i64 (num zs i)) := by
 rw [h.cellAt i hi]
 exact nums_get (by have := h.1; rw [nums_length] at this; omega)
theorem oSk {w : World} {base sz n S i : Nat} {e T : TypeId} {v u : Value} {xs : List Value} {cs : Array Value} (h : w.ownsRow base e sz v n xs) (hS : w.heap[S]? = some (.cells cs T (0, 0))) (hne : e ≠ T) : (w.setCell ⟨S, i, none⟩ u).ownsRow base e sz v n xs :=
 own_apart h (set_grown w S i u) (fun _ hq e' => by
  obtain ⟨c1, f1, g1⟩ := Lib.ownsRow_kind h _ hq
  injection e' with e'
  subst e'
  rw [hS] at g1
  injection g1 with g1
  injection g1 with _ g1
  exact hne g1.symm)
theorem own_of_box {w : World} {S : Nat} {cs : Array Value} {T : TypeId} (h : w.heap[S]? = some (.cells cs T (0, 0))) : w.ownsRow 0 T cs.size (.slice (some ⟨S, 0, none⟩) 1 1) 1 cs.toList :=
 ⟨by simp, .inr ⟨S, 1, cs, rfl, Nat.zero_le _, h, Nat.le_refl _, by unfold maxLen; omega, by simp, by simp [List.take_of_length_le]⟩⟩
theorem own_set_ne {w : World} {base sz n S i : Nat} {e : TypeId} {v u : Value} {xs : List Value} (h : w.ownsRow base e sz v n xs) (hS : v.ownBlock ≠ some S) : (w.setCell ⟨S, i, none⟩ u).ownsRow base e sz v n xs :=
 own_apart h (set_grown w S i u) (fun _ hq e' => hS (hq.trans e'.symm))
theorem tail_lst {w : World} {base g M c : Nat} {T : TypeId} {Z t : List Int} (h : w.ownsRow base T 4 (.slice (some ⟨g, 0, none⟩) (M + 1) c) (M + 1) (nums Z)) (ht : Z.drop 4 = t) : Lst w w.heap.size 4 (some ⟨g, 4, none⟩) M t := by
 have := Lst.drop (k := 1) (Lst.of_own h) (by omega)
 simpa [ht] using this
def TaOk (g d M : Nat) (TA : Option Addr) (TC : Nat) : Prop := (d = 1 ∧ M = 0 ∧ TA = some ⟨g, 0, none⟩ ∧ TC = 0) ∨ (1 < d ∧ TA = some ⟨g, 4, none⟩ ∧ TC = d - 1)
theorem ta_ex {g d M : Nat} (h : M + 1 ≤ d) : ∃ TA TC, TaOk g d M TA TC := by
 by_cases e : d = 1
 · exact ⟨_, _, .inl ⟨e, by omega, rfl, rfl⟩⟩
 · exact ⟨_, _, .inr ⟨by omega, rfl, rfl⟩⟩
theorem ta_nil {g d M TC : Nat} {TA : Option Addr} (h : TaOk g d M TA TC) : TA = none → M = 0 ∧ TC = 0 := fun e => by
 rcases h with ⟨_, _, h, _⟩ | ⟨_, h, _⟩ <;> rw [h] at e <;> cases e
theorem ta_lst {w : World} {base g M c TC : Nat} {T : TypeId} {TA : Option Addr} {Z t : List Int} (hT : TaOk g c M TA TC) (h : w.ownsRow base T 4 (.slice (some ⟨g, 0, none⟩) (M + 1) c) (M + 1) (nums Z)) (ht : Z.drop 4 = t) (hl : t.length = M * 4) : Lst w w.heap.size 4 TA M t := by
 rcases hT with ⟨_, rfl, rfl, _⟩ | ⟨_, rfl, _⟩
 · have e : t = [] := List.eq_nil_of_length_eq_zero (by omega)
   subst e
   exact Lst.nil _ _ 4 _
 · exact tail_lst h ht
theorem mt_apart {w : World} {b b' s s' n m : Nat} {e e' : TypeId} {v u : Value} {xs ys : List Value} (h1 : w.ownsRow b e s v n xs) (h2 : w.ownsRow b' e' s' u m ys) (he : e ≠ e') : ∀ q, v.ownBlock = some q → u.ownBlock ≠ some q := by
 intro q hq hu
 obtain ⟨c1, f1, g1⟩ := Lib.ownsRow_kind h1 q hq
 obtain ⟨c2, f2, g2⟩ := Lib.ownsRow_kind h2 q hu
 rw [g1] at g2
 injection g2 with g2
 injection g2 with _ g2
 exact he g2
theorem meets_yes (side lim p : Int) (w : World) (h : meetB side lim p = true) : Calls Tryz.prog 70 #[.int .i64 side, .int .i64 lim, .int .i64 p] w fun e w' => e = .returned (.bool true) ∧ w' = w :=
 (spec_meets side lim p w).mono fun e w' he => ⟨by rw [he.1, h], he.2.symm⟩
theorem meets_no (side lim p : Int) (w : World) (h : meetB side lim p = false) : Calls Tryz.prog 70 #[.int .i64 side, .int .i64 lim, .int .i64 p] w fun e w' => e = .returned (.bool false) ∧ w' = w :=
 (spec_meets side lim p w).mono fun e w' he => ⟨by rw [he.1, h], he.2.symm⟩
def MtFar (G : Nat) (v : Value) : Prop := ∀ q, v.ownBlock = some q → q < G ∨ G + 3 ≤ q
theorem MtFar.ne {G : Nat} {v : Value} (h : MtFar G v) {q : Nat} (h1 : G ≤ q) (h2 : q < G + 3) : v.ownBlock ≠ some q := fun e => by
 rcases h q e with h | h <;> omega
structure MtW (w wr : World) (oi oa op q : Int) (v1 v2 : Value) (n1 : Nat) (z1 : List Int) (n2 : Nat) (z2 : List Int) (base : Nat) (rv : Value) (N : Nat) (R : List Int) : Prop where
 book : wr.heap[w.heap.size]? = some (.cells #[v1, v2] 30 (0, 0))
 ord : wr.heap[w.heap.size + 1]? = some (.cells #[.int .i64 oi, .int .i64 oa, .int .i64 op, .int .i64 q] 65 (0, 0))
 res : wr.heap[w.heap.size + 1 + 1]? = some (.cells #[.slice none 0 0, .slice none 0 0] 30 (0, 0))
 rows : TwoRows wr base v1 n1 z1 v2 n2 z2
 far1 : MtFar w.heap.size v1
 far2 : MtFar w.heap.size v2
 recs : wr.ownsRow (w.heap.size + 3) 48 8 rv N (nums R)
 bel : Below w.heap.size w wr
section
variable {w wr wx : World} {oi oa op q : Int} {v1 v2 rv : Value} {n1 n2 base N : Nat} {z1 z2 R : List Int}
theorem MtW.later (h : MtW w wr oi oa op q v1 v2 n1 z1 n2 z2 base rv N R) (hb : Below wr.heap.size wr wx) : MtW w wx oi oa op q v1 v2 n1 z1 n2 z2 base rv N R :=
 ⟨(hb.block _ (hlT h.book)).trans h.book, (hb.block _ (hlT h.ord)).trans h.ord, (hb.block _ (hlT h.res)).trans h.res, h.rows.below hb, h.far1, h.far2, oBw h.recs hb, h.bel.trans (hb.mono h.bel.size)⟩
theorem MtW.drew (h : MtW w wr oi oa op q v1 v2 n1 z1 n2 z2 base rv N R) : MtW w wr.drew oi oa op q v1 v2 n1 z1 n2 z2 base rv N R := h.later (Below.refl _ _).drew
theorem MtW.drewN (h : MtW w wr oi oa op q v1 v2 n1 z1 n2 z2 base rv N R) (k : Nat) : MtW w (wr.drewN k) oi oa op q v1 v2 n1 z1 n2 z2 base rv N R :=
 h.later ⟨rfl, rfl, rfl, Nat.le_refl _, fun _ _ => rfl⟩
theorem MtW.setQ (h : MtW w wr oi oa op q v1 v2 n1 z1 n2 z2 base rv N R) (q' : Int) : MtW w (wr.setCell ⟨w.heap.size + 1, 3, none⟩ (.int .i64 q')) oi oa op q' v1 v2 n1 z1 n2 z2 base rv N R :=
 ⟨mSo h.book (by omega), mset4_3 h.ord, mSo h.res (by omega), ⟨own_set_ne h.rows.one (h.far1.ne (by omega) (by omega)), own_set_ne h.rows.two (h.far2.ne (by omega) (by omega)), h.rows.apart⟩, h.far1, h.far2, ownsRow_setCell_below h.recs (a := ⟨w.heap.size + 1, 3, none⟩) (show w.heap.size + 1 < w.heap.size + 3 by omega) _, h.bel.setCell (p := ⟨w.heap.size + 1, 3, none⟩) (show w.heap.size ≤ w.heap.size + 1 by omega) _⟩
theorem MtW.setBook {u1 u2 : Value} {k1 k2 : Nat} {y1 y2 : List Int} (h : MtW w wr oi oa op q v1 v2 n1 z1 n2 z2 base rv N R) (hr : TwoRows wr base u1 k1 y1 u2 k2 y2) (h1 : MtFar w.heap.size u1) (h2 : MtFar w.heap.size u2) : MtW w ((wr.setCell ⟨w.heap.size, 0, none⟩ u1).setCell ⟨w.heap.size, 1, none⟩ u2) oi oa op q u1 u2 k1 y1 k2 y2 base rv N R :=
 ⟨mset2 h.book, mset2_other h.ord (by omega), mset2_other h.res (by omega), ⟨own_set_ne (own_set_ne hr.one (h1.ne (by omega) (by omega))) (h1.ne (by omega) (by omega)), own_set_ne (own_set_ne hr.two (h2.ne (by omega) (by omega))) (h2.ne (by omega) (by omega)), hr.apart⟩, h1, h2, ownsRow_setCell_below (ownsRow_setCell_below h.recs (a := ⟨w.heap.size, 0, none⟩) (show w.heap.size < w.heap.size + 3 by omega) _) (a := ⟨w.heap.size, 1, none⟩) (show w.heap.size < w.heap.size + 3 by omega) _, (h.bel.setCell (p := ⟨w.heap.size, 0, none⟩) (Nat.le_refl _) _).setCell (p := ⟨w.heap.size, 1, none⟩) (Nat.le_refl _) _⟩
theorem MtW.setH {S i : Nat} {u : Value} {cs : Array Value} (h : MtW w wr oi oa op q v1 v2 n1 z1 n2 z2 base rv N R) (hS : wr.heap[S]? = some (.cells cs 65 (0, 0))) (hg : w.heap.size + 3 ≤ S) (h1 : v1.ownBlock ≠ some S) (h2 : v2.ownBlock ≠ some S) : MtW w (wr.setCell ⟨S, i, none⟩ u) oi oa op q v1 v2 n1 z1 n2 z2 base rv N R :=
 ⟨mSo h.book (by omega), mSo h.ord (by omega), mSo h.res (by omega), ⟨own_set_ne h.rows.one h1, own_set_ne h.rows.two h2, h.rows.apart⟩, h.far1, h.far2, oSk h.recs hS (by decide), h.bel.setCell (p := ⟨S, i, none⟩) (by show w.heap.size ≤ S; omega) _⟩
theorem MtW.more {rv' : Value} {N' : Nat} {R' : List Int} (h : MtW w wr oi oa op q v1 v2 n1 z1 n2 z2 base rv N R) (ho : wx.ownsRow (w.heap.size + 3) 48 8 rv' N' (nums R')) (hg : wr.grownBy wx rv.ownBlock) : MtW w wx oi oa op q v1 v2 n1 z1 n2 z2 base rv' N' R' := by
 have lo : ∀ k, rv.ownBlock = some k → w.heap.size + 3 ≤ k := fun k e => (h.recs.lt k e).1
 have nk : ∀ {n : Nat} {v : Value} {z : List Int}, wr.ownsRow base 65 4 v n (nums z) → ∀ k, v.ownBlock = some k → rv.ownBlock ≠ some k := fun {n v z} hv k e e' => by
  obtain ⟨c1, f1, g1⟩ := Lib.ownsRow_kind hv k e
  obtain ⟨c2, f2, g2⟩ := Lib.ownsRow_kind h.recs k e'
  rw [g1] at g2
  injection g2 with g2
  injection g2 with _ g2
  exact absurd g2 (by decide)
 exact ⟨(hg.block _ (hlT h.book) (fun e => by have := lo _ e.symm; omega)).trans h.book, (hg.block _ (hlT h.ord) (fun e => by have := lo _ e.symm; omega)).trans h.ord, (hg.block _ (hlT h.res) (fun e => by have := lo _ e.symm; omega)).trans h.res,
  ⟨own_apart h.rows.one hg (nk h.rows.one), own_apart h.rows.two hg (nk h.rows.two), h.rows.apart⟩, h.far1, h.far2, ho, h.bel.grown hg h.bel.size (fun k e => by have := lo k e; omega)⟩
theorem MtW.keepGrown {row : Option Nat} (h : MtW w wr oi oa op q v1 v2 n1 z1 n2 z2 base rv N R) (hg : wr.grownBy wx row) (hlo : ∀ k, row = some k → w.heap.size + 3 ≤ k) (h1 : ∀ k, row = some k → v1.ownBlock ≠ some k ∧ v2.ownBlock ≠ some k ∧ rv.ownBlock ≠ some k) : MtW w wx oi oa op q v1 v2 n1 z1 n2 z2 base rv N R :=
 ⟨(hg.block _ (hlT h.book) (fun e => by have := hlo _ e.symm; omega)).trans h.book, (hg.block _ (hlT h.ord) (fun e => by have := hlo _ e.symm; omega)).trans h.ord, (hg.block _ (hlT h.res) (fun e => by have := hlo _ e.symm; omega)).trans h.res,
  ⟨own_apart h.rows.one hg (fun q hq e => (h1 q e).1 hq), own_apart h.rows.two hg (fun q hq e => (h1 q e).2.1 hq), h.rows.apart⟩, h.far1, h.far2, own_apart h.recs hg (fun q hq e => (h1 q e).2.2 hq), h.bel.grown hg h.bel.size (fun k e => by have := hlo k e; omega)⟩
theorem MtW.done (h : MtW w wr oi oa op q v1 v2 n1 z1 n2 z2 base rv N R) : (((wr.setCell ⟨w.heap.size + 1 + 1, 0, none⟩ v1).setCell ⟨w.heap.size + 1 + 1, 1, none⟩ v2).cell? ⟨w.heap.size + 1 + 1, 0, none⟩ = some v1 ∧ ((wr.setCell ⟨w.heap.size + 1 + 1, 0, none⟩ v1).setCell ⟨w.heap.size + 1 + 1, 1, none⟩ v2).cell? ⟨w.heap.size + 1 + 1, 1, none⟩ = some v2) ∧
 TwoRows ((wr.setCell ⟨w.heap.size + 1 + 1, 0, none⟩ v1).setCell ⟨w.heap.size + 1 + 1, 1, none⟩ v2) base v1 n1 z1 v2 n2 z2 ∧ ((wr.setCell ⟨w.heap.size + 1 + 1, 0, none⟩ v1).setCell ⟨w.heap.size + 1 + 1, 1, none⟩ v2).ownsRow (w.heap.size + 3) 48 8 rv N (nums R) ∧ Below w.heap.size w ((wr.setCell ⟨w.heap.size + 1 + 1, 0, none⟩ v1).setCell ⟨w.heap.size + 1 + 1, 1, none⟩ v2) :=
 ⟨mcell2 (mset2 h.res), ⟨own_set_ne (own_set_ne h.rows.one (h.far1.ne (by omega) (by omega))) (h.far1.ne (by omega) (by omega)), own_set_ne (own_set_ne h.rows.two (h.far2.ne (by omega) (by omega))) (h.far2.ne (by omega) (by omega)), h.rows.apart⟩,
  ownsRow_setCell_below (ownsRow_setCell_below h.recs (a := ⟨w.heap.size + 1 + 1, 0, none⟩) (show w.heap.size + 1 + 1 < w.heap.size + 3 by omega) _) (a := ⟨w.heap.size + 1 + 1, 1, none⟩) (show w.heap.size + 1 + 1 < w.heap.size + 3 by omega) _, (h.bel.setCell (p := ⟨w.heap.size + 1 + 1, 0, none⟩) le2 _).setCell (p := ⟨w.heap.size + 1 + 1, 1, none⟩) le2 _⟩
end
def MtRes1 (w' : World) (base n : Nat) (za : List Int) (m : Nat) (r : List Int × List Int × Int) (e : Ending) : Prop := ∃ v1 v2 rv M N, e = .returned (.tuple #[.agg #[v1, v2], rv, .int .i64 r.2.2]) ∧ TwoRows w' base v1 n za v2 M r.1 ∧ w'.ownsRow base 48 8 rv N (nums r.2.1) ∧ M ≤ m ∧ N ≤ m + 1
def MtRes2 (w' : World) (base m : Nat) (zb : List Int) (n : Nat) (r : List Int × List Int × Int) (e : Ending) : Prop := ∃ v1 v2 rv M N, e = .returned (.tuple #[.agg #[v1, v2], rv, .int .i64 r.2.2]) ∧ TwoRows w' base v1 M r.1 v2 m zb ∧ w'.ownsRow base 48 8 rv N (nums r.2.1) ∧ M ≤ n ∧ N ≤ n + 1
end Go.Proofs.YtgjjdnojiegidaaGreatDoor
