/-
  MtM, MtN.
-/
import Derived.Test.YtempggikcpminaaGR
import Derived.Test.YtempggikcpminaaGQ
import Derived.Test.YtempggikcpminaaBookClosed
import Derived.Test.YtempggikcpminaaGT
import Derived.Test.YtempggikcpminaaMtS2
namespace Go.Proofs.Ytempggikcpminaa
open Go.RowKit Go.Shelf Wire

theorem Mqa {α : Type _} {xs : List α} {i : Nat} : xs.toArray[i]? = xs[i]? := by simp
theorem Mqb {α : Type _} {a : α} {l : List α} {i : Nat} : (a :: l)[i + 1]? = l[i]? := rfl
theorem Mqc {α : Type _} {a : α} {l : List α} : (a :: l)[0]? = some a := rfl
theorem Mqd {α : Type _} {xs : List α} {i : Nat} {a : α} : xs.toArray.setIfInBounds i a = (xs.set i a).toArray := by simp
theorem Mqe {α : Type _} {x a : α} {l : List α} : (x :: l).set 0 a = a :: l := rfl
theorem Mqf {α : Type _} {x a : α} {l : List α} {i : Nat} : (x :: l).set (i + 1) a = x :: l.set i a := rfl

/-- what the matching comes to -/
def mtA (side oi oa op oq mode : Int) (za zb : List Int) : List Int × List Int × Int := mtS side oi oa op mode (if side = 1 then zb else za) [] oq
def mZ1 (rg : Bool) (side oi oa op oq mode : Int) (za zb : List Int) : List Int := if rg = true then (if side = 1 then za else (mtA side oi oa op oq mode za zb).1) else []
def mZ2 (rg : Bool) (side oi oa op oq mode : Int) (za zb : List Int) : List Int := if rg = true then (if side = 1 then (mtA side oi oa op oq mode za zb).1 else zb) else []
def mRR (rg : Bool) (side oi oa op oq mode : Int) (za zb : List Int) : List Int := if rg = true then (mtA side oi oa op oq mode za zb).2.1 else []
def mLL (rg : Bool) (side oi oa op oq mode : Int) (za zb : List Int) : Int := if rg = true then (mtA side oi oa op oq mode za zb).2.2 else 0
theorem rg_parts {za zb : List Int} {n m : Nat} {side oi oa op oq mode : Int} (h : rgB za n zb m side oi oa op oq mode = true) :
    bookB za n zb m = true ∧ sideOkB side = true ∧ incB oi oa op oq = true ∧ inB 1 mode 3 = true ∧ knowsB (bookB za n zb m) za n zb m oi = false ∧ n ≤ 20 ∧ m ≤ 20 ∧ qtyOk za n ∧ qtyOk zb m ∧ 1 ≤ oq ∧ oq ≤ 1000000 := by
  simp only [rgB, Bool.and_eq_true, Bool.not_eq_true'] at h
  obtain ⟨h1, h2, h3, h4, h5⟩ := h
  have hb := h1
  simp only [bookB, sideB, Bool.and_eq_true, decide_eq_true_eq] at hb
  have hi := h3
  simp only [incB, inB, Bool.and_eq_true, decide_eq_true_eq] at hi
  exact ⟨h1, h2, h3, h4, h5, hb.1.1, hb.2.1.1, qtyOk_of hb.1.2.1, qtyOk_of hb.2.1.2.1, hi.2.2.2.1, hi.2.2.2.2⟩
/-- the same post, and no other end than the normal one -/
def NormOnly (Q : Exit → Act → World → Prop) : Exit → Act → World → Prop
  | .normal, a, w => Q .normal a w
  | _, _, _ => False
theorem norm_imp {Q : Exit → Act → World → Prop} {e : Exit} {a : Act} {w : World} (h : NormOnly Q e a w) : Q e a w := by
  cases e with
  | normal => exact h
  | _ => exact h.elim
theorem norm_done {Q : Exit → Act → World → Prop} {a : Act} {w : World} (h : Q .normal a w) : NormOnly Q .normal a w := h
theorem row4_heap {w : World} {g : Nat} {T : TypeId} {f : Nat → Int} (h : w.rowIs g T 4 (numAt f)) : w.heap[g]? = some (.cells #[.int .i64 (f 0), .int .i64 (f 1), .int .i64 (f 2), .int .i64 (f 3)] T (0, 0)) := by
  obtain ⟨c, h1, h2, h3⟩ := h
  rw [h1]
  congr 2
  apply Array.ext
  · simpa using h2
  · intro i hi _
    have a := h3 i (by omega)
    rw [Array.getElem?_eq_getElem hi] at a
    injection a with a
    rw [a]
    rcases (show i = 0 ∨ i = 1 ∨ i = 2 ∨ i = 3 by omega) with rfl | rfl | rfl | rfl <;> rfl
theorem heap_row4 {w : World} {g : Nat} {T : TypeId} {a b c d : Int} {f : Nat → Int} (h : w.heap[g]? = some (.cells #[.int .i64 a, .int .i64 b, .int .i64 c, .int .i64 d] T (0, 0))) (h0 : f 0 = a) (h1 : f 1 = b) (h2 : f 2 = c) (h3 : f 3 = d) : w.rowIs g T 4 (numAt f) :=
  ⟨_, h, rfl, fun i hi => by
    rcases (show i = 0 ∨ i = 1 ∨ i = 2 ∨ i = 3 by omega) with rfl | rfl | rfl | rfl
    · simp [numAt, h0]
    · simp [numAt, h1]
    · simp [numAt, h2]
    · simp [numAt, h3]⟩
theorem lead_at : ∀ (n : Nat) (f : Nat → Bool) (j : Nat), j < lead f n → f j = true
  | 0, f, j, h => by simp [lead] at h
  | n + 1, f, j, h => by
    rw [lead] at h
    split at h
    · cases j with
      | zero => assumption
      | succ j => exact lead_at n (fun i => f (i + 1)) j (by omega)
    · omega
theorem lead_stop : ∀ (n : Nat) (f : Nat → Bool), lead f n < n → f (lead f n) = false
  | 0, f, h => by simp [lead] at h
  | n + 1, f, h => by
    rw [lead] at h ⊢
    split at h
    · rw [if_pos (by assumption)]
      exact lead_stop n (fun i => f (i + 1)) (by omega)
    · rw [if_neg (by assumption)]
      simpa using (by assumption : ¬ f 0 = true)
theorem firstN_snoc {N k : Nat} {pre : List (Fin N)} {x : Fin N} (h : pre ++ [x] = firstN N (k + 1)) (hk : k < N) : pre = firstN N k ∧ x.1 = k := by
  rw [firstN_succ hk] at h
  have h1 := List.append_inj' h rfl
  have h2 := h1.2
  injection h2 with h2
  exact ⟨h1.1, by rw [h2]⟩
/-- the state of the meeting -/
structure MtJ (w5 W : World) (tb : Nat) (gs : Nat → Nat) (N : Nat) (oi oa op q mode : Int) (rv : Value) (NR : Nat) (R cont : List Int) : Prop where
  tk : W.heap[tb]? = some (.cells #[.int .i64 oi, .int .i64 oa, .int .i64 op, .int .i64 q, .int .i64 mode, rv] 72 (0, 0))
  recs : W.ownsRow w5.heap.size 39 8 rv NR (nums R)
  cps : ∀ j, j < N → W.rowIs (gs j) 28 4 (numAt fun i => num cont (j * 4 + i))
  os : W.os = w5.os
  tape : W.tape = w5.tape
  output : W.output = w5.output
  size : w5.heap.size ≤ W.heap.size
  blk : ∀ k, k < w5.heap.size → k ≠ tb → (∀ j, j < N → gs j ≠ k) → W.heap[k]? = w5.heap[k]?
theorem MtJ.walk {w5 W W' : World} {tb N NR : Nat} {gs : Nat → Nat} {oi oa op q mode : Int} {rv : Value} {R cont : List Int} {row : Option Nat} (h : MtJ w5 W tb gs N oi oa op q mode rv NR R cont) (ht : tb < w5.heap.size) (hg5 : ∀ j, j < N → gs j < w5.heap.size) (hg : W.grownBy W' row) (hr : ∀ r, row = some r → w5.heap.size ≤ r ∧ ∃ o : Obj, W.heap[r]? = some o ∧ o.isCells = false) : MtJ w5 W' tb gs N oi oa op q mode rv NR R cont := by
  have lo : ∀ k, k < w5.heap.size → W'.heap[k]? = W.heap[k]? := fun k hk => hg.block k (Nat.lt_of_lt_of_le hk h.size) (fun e => by have := (hr k e.symm).1; omega)
  refine ⟨(lo tb ht).trans h.tk, h.recs.kept hg ?_, fun j hj => (h.cps j hj).of_block (lo _ (hg5 j hj)), hg.os.trans h.os, hg.tape.trans h.tape, hg.output.trans h.output, Nat.le_trans h.size hg.size, fun k hk h1 h2 => (lo k hk).trans (h.blk k hk h1 h2)⟩
  cases e : rv.ownBlock with
  | none => exact .inl rfl
  | some k =>
    refine .inr (fun e2 => ?_)
    obtain ⟨_, o, ho, hc⟩ := hr k e2.symm
    obtain ⟨c1, f1, g1⟩ := Lib.ownsRow_kind h.recs k e
    rw [g1] at ho
    injection ho with ho
    subst ho
    simp [Obj.isCells] at hc
/-- an order is met -/
theorem MtJ.meet {w5 W W' : World} {tb N NR NR' x : Nat} {gs : Nat → Nat} {oi oa op q mode q' c' : Int} {rv rv' : Value} {R R' cont : List Int} (h : MtJ w5 W tb gs N oi oa op q mode rv NR R cont) (hx : x < N) (hup : Up gs N) (htg : ∀ j, j < N → gs j ≠ tb) (hlen : x * 4 + 3 < cont.length) (hg5 : ∀ j, j < N → gs j < w5.heap.size)
    (hT : TkW W' tb (gs x) oi oa op q' mode rv' w5.heap.size NR' R' (num cont (x * 4)) (num cont (x * 4 + 1)) (num cont (x * 4 + 2)) c') (hB : But W W' tb (gs x) rv.ownBlock) : MtJ w5 W' tb gs N oi oa op q' mode rv' NR' R' (cont.set (x * 4 + 3) c') := by
  have hrl : ∀ k, rv.ownBlock = some k → w5.heap.size ≤ k := fun k e => (h.recs.lt k e).1
  refine ⟨hT.tk, hT.recs, fun j hj => ?_, hB.os.trans h.os, hB.tape.trans h.tape, hB.output.trans h.output, Nat.le_trans h.size hB.size, fun k hk h1 h2 => (hB.block k (Nat.lt_of_lt_of_le hk h.size) h1 (fun e => h2 x hx e.symm) (fun e => by have := hrl k e.symm; omega)).trans (h.blk k hk h1 h2)⟩
  by_cases e : j = x
  · subst e
    exact heap_row4 hT.rest (qnum_ne (by omega)) (qnum_ne (by omega)) (qnum_ne (by omega)) (qnum_eq hlen)
  · have := h.cps j hj
    refine (this.of_block (hB.block (gs j) this.lt (htg j hj) (hup.ne hj hx e) (fun e2 => by have := hrl _ e2.symm; have := hg5 j hj; omega))).congr (fun i hi => ?_)
    simp only [numAt]
    rw [qnum_ne (by omega)]
/-- a side that is not met -/
theorem MtJ.keep {w5 W : World} {tb N NR n X S L : Nat} {gs g' : Nat → Nat} {oi oa op q mode side : Int} {rv v F : Value} {R cont zs : List Int} {T T0 T1 T2 : TypeId} (h : MtJ w5 W tb gs N oi oa op q mode rv NR R cont) (hop : Opened w5 X S L T0 T1 T2 F side zs n v g') (hcp : Copies w5 X S L T zs n v g')
    (ht : S ≠ tb ∧ L ≠ tb ∧ v.ownBlock ≠ some tb ∧ ∀ k, k < n → g' k ≠ tb) (hd : ∀ j, j < N → gs j ≠ S ∧ gs j ≠ L ∧ v.ownBlock ≠ some (gs j) ∧ ∀ k, k < n → gs j ≠ g' k) : Opened W X S L T0 T1 T2 F side zs n v g' ∧ Copies W X S L T zs n v g' := by
  have e : ∀ k, k < w5.heap.size → k ≠ tb → (∀ j, j < N → gs j ≠ k) → W.heap[k]? = w5.heap[k]? := h.blk
  refine ⟨⟨hop.low, (e S (heap_lt hop.side) ht.1 (fun j hj => (hd j hj).1)).trans hop.side, (e L (heap_lt hop.list) ht.2.1 (fun j hj => (hd j hj).2.1)).trans hop.list, ?_, hop.far⟩, fun k hk => ?_⟩
  · obtain ⟨a, b⟩ := hop.own
    refine ⟨a, b.imp id (fun ⟨g, cap, cur, e1, hb, hg, r⟩ => ⟨g, cap, cur, e1, hb, (e g (heap_lt hg) (fun e2 => ht.2.2.1 (by rw [e1, ← e2]; rfl)) (fun j hj e2 => (hd j hj).2.2.1 (by rw [e1, e2]; rfl))).trans hg, r⟩)⟩
  · obtain ⟨c1, c2, c3, c4, c5⟩ := hcp k hk
    exact ⟨c1, c2, c3, c4, c5.of_block (e _ c5.lt (ht.2.2.2 k hk) (fun j hj => (hd j hj).2.2.2 k hk))⟩
/-- the side that is met -/
theorem MtJ.cur {w5 W : World} {tb N NR X S L : Nat} {gs : Nat → Nat} {oi oa op q mode side : Int} {rv v F : Value} {R cont zs : List Int} {T0 T1 T2 : TypeId} (h : MtJ w5 W tb gs N oi oa op q mode rv NR R cont) (hop : Opened w5 X S L T0 T1 T2 F side zs N v gs) (hcp : Copies w5 X S L 28 zs N v gs)
    (ht : S ≠ tb ∧ L ≠ tb ∧ v.ownBlock ≠ some tb) : Opened W X S L T0 T1 T2 F side cont N v gs ∧ Copies W X S L 28 cont N v gs := by
  have e : ∀ k, k < w5.heap.size → k ≠ tb → (∀ j, j < N → gs j ≠ k) → W.heap[k]? = w5.heap[k]? := h.blk
  refine ⟨⟨hop.low, (e S (heap_lt hop.side) ht.1 (fun j hj => (hcp j hj).2.1)).trans hop.side, (e L (heap_lt hop.list) ht.2.1 (fun j hj => (hcp j hj).2.2.1)).trans hop.list, ?_, hop.far⟩, fun k hk => ?_⟩
  · obtain ⟨a, b⟩ := hop.own
    refine ⟨a, b.imp id (fun ⟨g, cap, cur, e1, hb, hg, r⟩ => ⟨g, cap, cur, e1, hb, (e g (heap_lt hg) (fun e2 => ht.2.2 (by rw [e1, ← e2]; rfl)) (fun j hj e2 => (hcp j hj).2.2.2.1 (by rw [e1, e2]; rfl))).trans hg, r⟩)⟩
  · obtain ⟨c1, c2, c3, c4, c5⟩ := hcp k hk
    exact ⟨c1, c2, c3, c4, h.cps k hk⟩
/-- what is known while the orders are met, one behind another -/
def MtI (side oi oa op mode : Int) (tot : List Int × List Int × Int) (zs : List Int) (w5 : World) (tb : Nat) (gs : Nat → Nat) (N : Nat) (pre : List (Fin N)) (W : World) : Prop :=
  ∃ q rv NR R cont, MtJ w5 W tb gs N oi oa op q mode rv NR R cont ∧ 0 ≤ q ∧ q ≤ 1000000 ∧ NR ≤ 2 * pre.length ∧ cont.length = N * 4 ∧ (∀ j, j < N → 0 ≤ num cont (j * 4 + 3) ∧ num cont (j * 4 + 3) ≤ 1000000) ∧
    ((pre = firstN N pre.length ∧ ∀ j, j < pre.length → meetB side op (price zs j) = true) → 0 < q ∧ cont = zq zs pre.length ∧ tot = mtS side oi oa op mode (zs.drop (pre.length * 4)) R q)
/-- the order is used up -/
def MtX (side oi oa op mode : Int) (tot : List Int × List Int × Int) (zs : List Int) (w5 : World) (tb : Nat) (gs : Nat → Nat) (N : Nat) (c : Code) (pre : List (Fin N)) (W : World) : Prop :=
  c = .exit 0 ∧ ∃ rv NR R cont, MtJ w5 W tb gs N oi oa op 0 mode rv NR R cont ∧ NR ≤ 2 * pre.length ∧ cont.length = N * 4 ∧
    ((pre = firstN N pre.length ∧ ∀ j, j < pre.length → meetB side op (price zs j) = true) → tot = (tkZQ cont 0 N, R, 0))
/-- what is known behind the loop -/
def MtE (oi oa op mode : Int) (tot : List Int × List Int × Int) (w5 : World) (tb : Nat) (gs : Nat → Nat) (N : Nat) (W : World) : Prop :=
  ∃ q rv NR R cont, MtJ w5 W tb gs N oi oa op q mode rv NR R cont ∧ NR ≤ 2 * N ∧ cont.length = N * 4 ∧ tot = (tkZQ cont 0 N, R, q)
theorem MtI.done {side oi oa op mode : Int} {tot : List Int × List Int × Int} {zs : List Int} {w5 W : World} {tb N : Nat} {gs : Nat → Nat} (h : MtI side oi oa op mode tot zs w5 tb gs N (firstN N (lead (fun k => meetB side op (price zs k)) N)) W) (hz : zs.length = N * 4) (hq : qtyOk zs N) : MtE oi oa op mode tot w5 tb gs N W := by
  have hle := lead_le (fun k => meetB side op (price zs k)) N
  obtain ⟨q, rv, NR, R, cont, hJ, _, _, hN, hl, _, hc⟩ := h
  rw [firstN_length hle] at hc hN
  obtain ⟨h0, h1, h2⟩ := hc ⟨rfl, fun j hj => lead_at N (fun k => meetB side op (price zs k)) j hj⟩
  refine ⟨q, rv, NR, R, cont, hJ, by omega, hl, ?_⟩
  rw [h2, h1, (tkQ_zq hz hle hq).1]
  rcases Nat.lt_or_ge (lead (fun k => meetB side op (price zs k)) N) N with hlt | hge
  · have hs := lead_stop N (fun k => meetB side op (price zs k)) hlt
    generalize lead (fun k => meetB side op (price zs k)) N = k at *
    rw [drop4 hz hlt, mtS_cons, if_neg (fun h => by rw [show meetB side op (num zs (k * 4 + 2)) = false from hs] at h; exact absurd h.2 (by decide))]
  · rw [show lead (fun k => meetB side op (price zs k)) N = N by omega, List.drop_eq_nil_of_le (by omega), mtS_nil]
theorem MtX.done {side oi oa op mode : Int} {tot : List Int × List Int × Int} {zs : List Int} {w5 W : World} {tb N : Nat} {gs : Nat → Nat} {c : Code} {pre : List (Fin N)} (h : MtX side oi oa op mode tot zs w5 tb gs N c pre W) (hp : ∃ k, k ≤ lead (fun k => meetB side op (price zs k)) N ∧ pre = firstN N k) : c = .exit 0 ∧ MtE oi oa op mode tot w5 tb gs N W := by
  obtain ⟨k, hk, rfl⟩ := hp
  have hle := lead_le (fun k => meetB side op (price zs k)) N
  obtain ⟨hc, rv, NR, R, cont, hJ, hN, hl, ht⟩ := h
  rw [firstN_length (show k ≤ N by omega)] at ht hN
  exact ⟨hc, 0, rv, NR, R, cont, hJ, by omega, hl, ht ⟨rfl, fun j hj => lead_at N (fun k => meetB side op (price zs k)) j (by omega)⟩⟩
/-- one order more -/
theorem mt_next {side oi oa op mode q q' c' : Int} {tot : List Int × List Int × Int} {zs cont R R' : List Int} {w5 W W' : World} {tb N NR NR' : Nat} {gs : Nat → Nat} {rv rv' : Value} {pre : List (Fin N)} {x : Fin N} (hz : zs.length = N * 4) (hqz : qtyOk zs N) (hup : Up gs N) (htg : ∀ j, j < N → gs j ≠ tb) (hg5 : ∀ j, j < N → gs j < w5.heap.size) (hlen : pre.length < N)
    (hJ : MtJ w5 W tb gs N oi oa op q mode rv NR R cont) (q0 : 0 ≤ q) (q1 : q ≤ 1000000) (hN : NR ≤ 2 * pre.length) (hl : cont.length = N * 4) (hr : ∀ j, j < N → 0 ≤ num cont (j * 4 + 3) ∧ num cont (j * 4 + 3) ≤ 1000000)
    (hc : (pre = firstN N pre.length ∧ ∀ j, j < pre.length → meetB side op (price zs j) = true) → 0 < q ∧ cont = zq zs pre.length ∧ tot = mtS side oi oa op mode (zs.drop (pre.length * 4)) R q)
    (hm : MeetRel oi oa op q mode (num cont (x.1 * 4)) (num cont (x.1 * 4 + 1)) (num cont (x.1 * 4 + 2)) (num cont (x.1 * 4 + 3)) NR R q' NR' R' c')
    (hT : TkW W' tb (gs x.1) oi oa op q' mode rv' w5.heap.size NR' R' (num cont (x.1 * 4)) (num cont (x.1 * 4 + 1)) (num cont (x.1 * 4 + 2)) c') (hB : But W W' tb (gs x.1) rv.ownBlock) :
    (q' ≠ 0 → MtI side oi oa op mode tot zs w5 tb gs N (pre ++ [x]) W') ∧ (q' = 0 → MtX side oi oa op mode tot zs w5 tb gs N (.exit 0) (pre ++ [x]) W') := by
  have hx := x.2
  have hJ' := hJ.meet hx hup htg (by omega) hg5 hT hB
  have hcx := hr x.1 hx
  have hb : 0 ≤ q' ∧ q' ≤ 1000000 ∧ 0 ≤ c' ∧ c' ≤ 1000000 ∧ NR' ≤ NR + 2 := by
    rcases hm with ⟨_, _, rfl, rfl, _, rfl⟩ | ⟨_, _, rfl, rfl, _, rfl⟩ | ⟨_, _, _, rfl, rfl, _, rfl⟩ | ⟨_, rfl, rfl, _, rfl⟩ <;> omega
  have hl' : (cont.set (x.1 * 4 + 3) c').length = N * 4 := by simp [hl]
  have hlp : (pre ++ [x]).length = pre.length + 1 := by simp
  have key : (pre ++ [x] = firstN N (pre ++ [x]).length ∧ ∀ j, j < (pre ++ [x]).length → meetB side op (price zs j) = true) → (0 < q' ∧ c' = 0 ∧ x.1 = pre.length ∧ cont = zq zs pre.length ∧ tot = mtS side oi oa op mode (zs.drop ((pre.length + 1) * 4)) R' q') ∨ (q' = 0 ∧ cont = zq zs pre.length ∧ tot = (tkZQ (cont.set (x.1 * 4 + 3) c') 0 N, R', 0)) := by
    rintro ⟨h1, h2⟩
    rw [hlp] at h1 h2
    obtain ⟨h3, h4⟩ := firstN_snoc h1 hlen
    obtain ⟨a, b, e⟩ := hc ⟨h3, fun j hj => h2 j (by omega)⟩
    have hs := meet_step (k := pre.length) (N := NR) (N' := NR') hz hlen hqz a (h2 pre.length (by omega)) (by
      rw [h4, b] at hm
      rw [zq_other zs _ _ (fun j hj => by omega), zq_other zs _ _ (fun j hj => by omega), zq_other zs _ _ (fun j hj => by omega), zq_other zs _ _ (fun j hj => by omega)] at hm
      exact hm)
    rcases hs with ⟨s1, s2, s3⟩ | ⟨s1, s2, s3⟩
    · exact .inl ⟨s1, s2, h4, b, e.trans s3⟩
    · exact .inr ⟨s1, b, by rw [h4, b]; exact e.trans s3⟩
  refine ⟨fun hq => ⟨q', rv', NR', R', _, hJ', hb.1, hb.2.1, by rw [hlp]; omega, hl', fun j hj => ?_, fun h => ?_⟩, fun hq => ⟨rfl, rv', NR', R', _, by rw [← hq]; exact hJ', by rw [hlp]; omega, hl', fun h => ?_⟩⟩
  · by_cases e : j = x.1
    · subst e
      rw [qnum_eq (by omega)]
      exact ⟨hb.2.2.1, hb.2.2.2.1⟩
    · rw [qnum_ne (by omega)]
      exact hr j hj
  · rcases key h with ⟨a, b, e, f, g⟩ | ⟨a, _⟩
    · refine ⟨a, ?_, by rw [hlp]; exact g⟩
      rw [hlp, e, b, f]
      rfl
    · exact absurd a hq
  · rcases key h with ⟨a, _⟩ | ⟨_, _, e⟩
    · omega
    · exact e
attribute [local go_sem] Oper.semAt_some
set_option linter.unusedSimpArgs false in
set_option maxHeartbeats 6400000 in
set_option maxRecDepth 100000 in
theorem impl_Matched_yes (A : Option Addr) (n c : Nat) (B : Option Addr) (m d : Nat) (za zb : List Int) (side oi oa op oq mode : Int) (w : World) (ha : Lst w w.heap.size 4 A n za) (hb : Lst w w.heap.size 4 B m zb) (hn : n ≤ 1048576) (hm : m ≤ 1048576) (hrg : rgB za n zb m side oi oa op oq mode = true) :
    Calls Try.prog 9 #[.agg #[.slice A n c, .slice B m d], .int .i64 side, .agg #[.int .i64 oi, .int .i64 oa, .int .i64 op, .int .i64 oq], .int .i64 mode] w fun e w' => (∃ r1 r2 rv n1 n2 N left, e = .returned (.tuple #[.agg #[r1, r2], rv, .int .i64 left, .bool true]) ∧ TwoRows w' w.heap.size r1 n1 (mZ1 true side oi oa op oq mode za zb) r2 n2 (mZ2 true side oi oa op oq mode za zb) ∧ w'.ownsRow w.heap.size 39 8 rv N (nums (mRR true side oi oa op oq mode za zb)) ∧ left = mLL true side oi oa op oq mode za zb) ∧ Below w.heap.size w w' := by
  obtain ⟨hbk, hso, hic, him, hkn, hn20, hm20, hqa, hqb, hoq1, hoq2⟩ := rg_parts hrg
  have hkn' := hkn
  obtain ⟨k0, k1, k2⟩ := three_blocks w (.cells #[.slice A n c, .slice B m d] 26) (.cells #[.int .i64 oi, .int .i64 oa, .int .i64 op, .int .i64 oq] 28) (.cells #[.slice none 0 0, .slice none 0 0] 26)
  have hb0 : Below w.heap.size w (((w.alloc (.cells #[.slice A n c, .slice B m d] 26)).alloc (.cells #[.int .i64 oi, .int .i64 oa, .int .i64 op, .int .i64 oq] 28)).alloc (.cells #[.slice none 0 0, .slice none 0 0] 26)) := (((Below.refl _ _).alloc (Nat.le_refl _) _).alloc (by simp) _).alloc (by simp; omega) _
  refine callsIn_wide.1 (callsIn_of_wp_marks (n := 9) Try.func9 rfl trivial (wpIn_wide.2 ?_) rfl)
  simp only [Try.ntmps9, List.size_toArray, List.length_cons, List.length_nil, Nat.reduceAdd, Nat.reduceSub, Array.replicate_succ, Array.replicate_zero, List.push_toArray, List.append_toArray, List.nil_append, List.cons_append]
  clear hrg
  have HBK := Lib.hid hbk
  have HSO := Lib.hid hso
  have HIC := Lib.hid hic
  have HIM := Lib.hid him
  have HKN := Lib.hid hkn
  clear hbk hso hic him hkn hkn'
  go_wp2_with fail
  have hA := ha.later hb0
  have hZb := hb.later hb0
  generalize (((w.alloc (.cells #[.slice A n c, .slice B m d] 26)).alloc (.cells #[.int .i64 oi, .int .i64 oa, .int .i64 op, .int .i64 oq] 28)).alloc (.cells #[.slice none 0 0, .slice none 0 0] 26)) = w0 at *
  refine (impl_BookOk A n c B m d za zb w0 hA hZb hn hm).mono ?_
  rw [HBK.out]
  rintro e w1 ⟨rfl, hb1⟩
  replace k0 := (hb1.block _ (heap_lt k0)).trans k0
  replace k1 := (hb1.block _ (heap_lt k1)).trans k1
  replace k2 := (hb1.block _ (heap_lt k2)).trans k2
  replace hA := hA.later hb1
  replace hZb := hZb.later hb1
  replace hb0 := hb0.trans (hb1.mono hb0.size)
  clear hb1
  go_wp2_with fail
  refine (impl_sideOk side w1).mono ?_
  rw [HSO.out]
  rintro e w2 ⟨rfl, rfl⟩
  go_wp2_with fail
  refine (within_any mode 1 3 w1).mono ?_
  rw [HIM.out]
  rintro e w2 ⟨rfl, rfl⟩
  obtain ⟨o0, o1, o2, o3⟩ := rrcell4 k1
  go_wp2_with fail
  refine (impl_incomingOk oi oa op oq w1).mono ?_
  rw [HIC.out]
  rintro e w2 ⟨rfl, hb1⟩
  clear o0 o1 o2 o3
  replace k0 := (hb1.block _ (heap_lt k0)).trans k0
  replace k1 := (hb1.block _ (heap_lt k1)).trans k1
  replace k2 := (hb1.block _ (heap_lt k2)).trans k2
  replace hA := hA.later hb1
  replace hZb := hZb.later hb1
  replace hb0 := hb0.trans (hb1.mono hb0.size)
  clear hb1
  obtain ⟨o0, o1, o2, o3⟩ := rrcell4 k1
  obtain ⟨b0, b1⟩ := rcell2 k0
  go_wp2_with fail
  refine (impl_hasOrder A n c B m d za zb oi w2 hA hZb hn hm).mono ?_
  rintro e w3 ⟨⟨s, f, ok, hfr, rfl⟩, hb1⟩
  have hok := find_knows hfr
  rw [HKN.out] at hok
  subst hok
  clear hfr o0 o1 o2 o3 b0 b1
  replace k0 := (hb1.block _ (heap_lt k0)).trans k0
  replace k1 := (hb1.block _ (heap_lt k1)).trans k1
  replace k2 := (hb1.block _ (heap_lt k2)).trans k2
  replace hA := hA.later hb1
  replace hZb := hZb.later hb1
  replace hb0 := hb0.trans (hb1.mono hb0.size)
  clear hb1
  obtain ⟨b0, b1⟩ := rcell2 k0
  go_wp2_with fail
  refine (impl_openedU A n c B m d za zb w3 hA hZb hn hm).mono ?_
  rintro e wo ⟨X1, S1, L1, v1, gs1, X2, S2, L2, v2, gs2, rfl, hp1, hp2, hX1, hX2, hfar, hu1, hu2, hbo⟩
  clear b0 b1 hA hZb
  have hs33 := heap_lt k2
  have hX1w : w3.heap.size ≤ X1 := hX1
  have hlow1 := hp1.1.low
  have hlow2 := hp2.1.low
  have hown1 := hp1.1.own.lt
  have hown2 := hp2.1.own.lt
  have hlo1 : ∀ j, j < n → gs1 j < wo.heap.size ∧ w3.heap.size ≤ gs1 j := fun j hj => ⟨(hp1.2 j hj).2.2.2.2.lt, Nat.le_trans hX1 (hp1.2 j hj).1⟩
  have hlo2 : ∀ j, j < m → gs2 j < wo.heap.size ∧ w3.heap.size ≤ gs2 j := fun j hj => ⟨(hp2.2 j hj).2.2.2.2.lt, Nat.le_trans (Nat.le_trans hX1 hX2) (hp2.2 j hj).1⟩
  have HLO1 := Lib.hid hlo1
  have HLO2 := Lib.hid hlo2
  have HV1 := Lib.hid (show S1 < wo.heap.size ∧ L1 < wo.heap.size ∧ ∀ q, v1.ownBlock = some q → q < wo.heap.size from ⟨heap_lt hp1.1.side, heap_lt hp1.1.list, fun q hq => (hp1.1.own.lt q hq).2⟩)
  have HV2 := Lib.hid (show S2 < wo.heap.size ∧ L2 < wo.heap.size ∧ ∀ q, v2.ownBlock = some q → q < wo.heap.size from ⟨heap_lt hp2.1.side, heap_lt hp2.1.list, fun q hq => (hp2.1.own.lt q hq).2⟩)
  clear hlo1 hlo2
  replace k0 := (hbo.block _ (heap_lt k0)).trans k0
  replace k1 := (hbo.block _ (heap_lt k1)).trans k1
  replace k2 := (hbo.block _ (heap_lt k2)).trans k2
  have hs3 := heap_lt k2
  have hb3s := hb0.size
  replace hb0 := hb0.trans (hbo.mono hb0.size)
  go_upto_region 4 with fail
  have kb := heap_alloc_new wo (.cells #[.pointer (some ⟨L1, 0, none⟩), .pointer (some ⟨L2, 0, none⟩)] 68)
  have hba : Below wo.heap.size wo (wo.alloc (.cells #[.pointer (some ⟨L1, 0, none⟩), .pointer (some ⟨L2, 0, none⟩)] 68)) := (Below.refl _ _).alloc (Nat.le_refl _) _
  have hxw : X2 ≤ wo.heap.size := Nat.le_trans hp2.1.low.1 (Nat.le_of_lt (heap_lt hp2.1.side))
  generalize hwa : wo.alloc (.cells #[.pointer (some ⟨L1, 0, none⟩), .pointer (some ⟨L2, 0, none⟩)] 68) = wa at *
  have hsa : wa.heap.size = wo.heap.size + 1 := by rw [← hwa]; simp
  clear hwa
  replace k0 := (hba.block _ (heap_lt k0)).trans k0
  replace k1 := (hba.block _ (heap_lt k1)).trans k1
  replace k2 := (hba.block _ (heap_lt k2)).trans k2
  replace hp1 := And.intro (hp1.1.below hba) (hp1.2.below hba)
  replace hp2 := And.intro (hp2.1.below hba) (hp2.2.below hba)
  replace hb0 := hb0.trans (hba.mono hb0.size)
  obtain ⟨o0, o1, o2, o3⟩ := rrcell4 k1
  obtain ⟨kt, kp⟩ := two_blocks wa (.cells #[.int .i64 oi, .int .i64 oa, .int .i64 op, .int .i64 oq, .int .i64 mode, .slice none 0 0] 72) (.cells #[.pointer (some ⟨wa.heap.size, 0, none⟩)] 70)
  have hbt : Below wa.heap.size wa ((wa.alloc (.cells #[.int .i64 oi, .int .i64 oa, .int .i64 op, .int .i64 oq, .int .i64 mode, .slice none 0 0] 72)).alloc (.cells #[.pointer (some ⟨wa.heap.size, 0, none⟩)] 70)) := ((Below.refl _ _).alloc (Nat.le_refl _) _).alloc (by simp) _
  have HSA := Lib.hid hsa
  clear hsa hba
  go_upto_region 5 with fail
  clear o0 o1 o2 o3
  generalize hwt : (wa.alloc (.cells #[.int .i64 oi, .int .i64 oa, .int .i64 op, .int .i64 oq, .int .i64 mode, .slice none 0 0] 72)).alloc (.cells #[.pointer (some ⟨wa.heap.size, 0, none⟩)] 70) = wt at *
  have HST := Lib.hid (show wt.heap.size = wa.heap.size + 2 by rw [← hwt]; simp)
  clear hwt
  replace k0 := (hbt.block _ (heap_lt k0)).trans k0
  replace k1 := (hbt.block _ (heap_lt k1)).trans k1
  replace k2 := (hbt.block _ (heap_lt k2)).trans k2
  replace kb := (hbt.block _ (heap_lt kb)).trans kb
  replace hp1 := And.intro (hp1.1.below hbt) (hp1.2.below hbt)
  replace hp2 := And.intro (hp2.1.below hbt) (hp2.2.below hbt)
  replace hb0 := hb0.trans (hbt.mono hb0.size)
  obtain ⟨o0, o1, o2, o3⟩ := rrcell4 k1
  obtain ⟨p0, p1⟩ := rcell2 kb
  go_wp2_with fail
  refine (impl_met L1 L2 side op wt).mono ?_
  rintro e w4 ⟨rfl, rfl⟩
  clear o0 o1 o2 o3 p0 p1
  go_wp2_with fail
  obtain ⟨m1, m2, m3⟩ := three_blocks wt (.cells #[.pointer (some ⟨L1, 0, none⟩), .pointer (some ⟨L2, 0, none⟩)] 68) (.cells #[.int .i64 side] 2) (.cells #[.int .i64 op] 2)
  have hb5 : Below wt.heap.size wt (((wt.alloc (.cells #[.pointer (some ⟨L1, 0, none⟩), .pointer (some ⟨L2, 0, none⟩)] 68)).alloc (.cells #[.int .i64 side] 2)).alloc (.cells #[.int .i64 op] 2)) := (((Below.refl _ _).alloc (Nat.le_refl _) _).alloc (by simp) _).alloc (by simp; omega) _
  have HS5 := Lib.hid (show (((wt.alloc (.cells #[.pointer (some ⟨L1, 0, none⟩), .pointer (some ⟨L2, 0, none⟩)] 68)).alloc (.cells #[.int .i64 side] 2)).alloc (.cells #[.int .i64 op] 2)).heap.size = wt.heap.size + 3 by simp)
  generalize (((wt.alloc (.cells #[.pointer (some ⟨L1, 0, none⟩), .pointer (some ⟨L2, 0, none⟩)] 68)).alloc (.cells #[.int .i64 side] 2)).alloc (.cells #[.int .i64 op] 2)) = w5 at *
  replace k0 := (hb5.block _ (heap_lt k0)).trans k0
  replace k1 := (hb5.block _ (heap_lt k1)).trans k1
  replace k2 := (hb5.block _ (heap_lt k2)).trans k2
  replace kb := (hb5.block _ (heap_lt kb)).trans kb
  replace kt := (hb5.block _ (by have := HST.out; omega)).trans kt
  replace kp := (hb5.block _ (by have := HST.out; omega)).trans kp
  replace hp1 := And.intro (hp1.1.below hb5) (hp1.2.below hb5)
  replace hp2 := And.intro (hp2.1.below hb5) (hp2.2.below hb5)
  replace hb0 := hb0.trans (hb5.mono hb0.size)
  have htb5 : wa.heap.size < w5.heap.size := by have := HST.out; have := HS5.out; omega
  obtain ⟨so, X, S, L, N, v, gs, zs, hopp, hso2, hop, hcp, hN20, hzs, hqz, hup, HTOT, hlo, hvl, hfp⟩ : ∃ (so : Int) (X S L N : Nat) (v : Value) (gs : Nat → Nat) (zs : List Int), (side = 1 ∧ so = 2 ∨ side = 2 ∧ so = 1) ∧ (so = 1 ∧ L = L1 ∨ so = 2 ∧ L = L2) ∧ Opened w5 X S L 2 110 76 (.func (.func 104) #[] #[.pointer (some ⟨S, 0, none⟩)]) so zs N v gs ∧ Copies w5 X S L 28 zs N v gs ∧ N ≤ 20 ∧ zs.length = N * 4 ∧ qtyOk zs N ∧ Up gs N ∧ Hid (mtA side oi oa op oq mode za zb = mtS side oi oa op mode zs [] oq) ∧ (∀ j, j < N → gs j < wo.heap.size ∧ w3.heap.size ≤ gs j) ∧ (S < wo.heap.size ∧ L < wo.heap.size ∧ ∀ q, v.ownBlock = some q → q < wo.heap.size) ∧ (∀ W q rv NR R cont, MtJ w5 W wa.heap.size gs N oi oa op q mode rv NR R cont → cont.length = N * 4 → mtA side oi oa op oq mode za zb = (tkZQ cont 0 N, R, q) → ∃ z1 z2, (Opened W X1 S1 L1 2 110 76 (.func (.func 104) #[] #[.pointer (some ⟨S1, 0, none⟩)]) 1 z1 n v1 gs1 ∧ Copies W X1 S1 L1 28 z1 n v1 gs1) ∧ (Opened W X2 S2 L2 2 110 76 (.func (.func 104) #[] #[.pointer (some ⟨S2, 0, none⟩)]) 2 z2 m v2 gs2 ∧ Copies W X2 S2 L2 28 z2 m v2 gs2) ∧ z1.length = n * 4 ∧ z2.length = m * 4 ∧ mZ1 true side oi oa op oq mode za zb = tkZQ z1 0 n ∧ mZ2 true side oi oa op oq mode za zb = tkZQ z2 0 m) := by
    rcases side_cases side with ⟨rfl, _⟩ | ⟨rfl, _⟩ | ⟨h1, h2, hno⟩
    · exact ⟨2, X2, S2, L2, m, v2, gs2, zb, .inl ⟨rfl, rfl⟩, .inr ⟨rfl, rfl⟩, hp2.1, hp2.2, hm20, hb.1, hqb, hu2, Lib.hid (by unfold mtA; rw [if_pos rfl]), HLO2.out, HV2.out, fun W q rv NR R cont hJ hcl htot => ⟨za, cont, hJ.keep hp1.1 hp1.2 ⟨by have := HV1.out.1; have := HSA.out; omega, by have := HV1.out.2.1; have := HSA.out; omega, fun e => by have := HV1.out.2.2 _ e; have := HSA.out; omega, fun k hk => by have := (HLO1.out k hk).1; have := HSA.out; omega⟩ (fun j hj => by have h2 := (hp2.2 j hj).1; exact ⟨by have := hfar.1; omega, by have := hfar.2.1; omega, fun e => by have := hfar.2.2.1 _ e; omega, fun k hk => by have := hfar.2.2.2 k hk; omega⟩), hJ.cur hp2.1 hp2.2 ⟨by have := HV2.out.1; have := HSA.out; omega, by have := HV2.out.2.1; have := HSA.out; omega, fun e => by have := HV2.out.2.2 _ e; have := HSA.out; omega⟩, ha.1, hcl, by unfold mZ1; rw [if_pos rfl, if_pos rfl]; simpa [zq] using (tkQ_zq (k := 0) ha.1 (Nat.zero_le _) hqa).1.symm, by unfold mZ2; rw [if_pos rfl, if_pos rfl, htot]⟩⟩
    · exact ⟨1, X1, S1, L1, n, v1, gs1, za, .inr ⟨rfl, rfl⟩, .inl ⟨rfl, rfl⟩, hp1.1, hp1.2, hn20, ha.1, hqa, hu1, Lib.hid (by unfold mtA; rw [if_neg (by decide)]), HLO1.out, HV1.out, fun W q rv NR R cont hJ hcl htot => ⟨cont, zb, hJ.cur hp1.1 hp1.2 ⟨by have := HV1.out.1; have := HSA.out; omega, by have := HV1.out.2.1; have := HSA.out; omega, fun e => by have := HV1.out.2.2 _ e; have := HSA.out; omega⟩, hJ.keep hp2.1 hp2.2 ⟨by have := HV2.out.1; have := HSA.out; omega, by have := HV2.out.2.1; have := HSA.out; omega, fun e => by have := HV2.out.2.2 _ e; have := HSA.out; omega, fun k hk => by have := (HLO2.out k hk).1; have := HSA.out; omega⟩ (fun j hj => by have h1 := hfar.2.2.2 j hj; have h3 := hp2.1.low; exact ⟨by omega, by omega, fun e => by have := (hp2.1.own.lt _ e).1; omega, fun k hk => by have := (hp2.2 k hk).1; omega⟩), hcl, hb.1, by unfold mZ1; rw [if_pos rfl, if_neg (by decide), htot], by unfold mZ2; rw [if_pos rfl, if_neg (by decide)]; simpa [zq] using (tkQ_zq (k := 0) hb.1 (Nat.zero_le _) hqb).1.symm⟩⟩
    · exact absurd HSO.out (by rw [hno]; decide)
  have HFP := Lib.hid hfp
  clear hfp
  have htg : ∀ j, j < N → gs j ≠ wa.heap.size := fun j hj => by have := (hlo j hj).1; have := HSA.out; omega
  have hg5 : ∀ j, j < N → gs j < w5.heap.size := fun j hj => by have := (hlo j hj).1; have := HSA.out; omega
  have hlo3 : w3.heap.size ≤ wo.heap.size := hbo.size
  have HI0 : MtI side oi oa op mode (mtA side oi oa op oq mode za zb) zs w5 wa.heap.size gs N [] w5 := ⟨oq, _, 0, [], zs, ⟨kt, World.ownsRow_nil _ _ _ _, fun j hj => (hcp j hj).2.2.2.2, rfl, rfl, rfl, Nat.le_refl _, fun _ _ _ _ => rfl⟩, by omega, by omega, by simp, hzs, fun j hj => by have := hqz j hj; omega, fun _ => ⟨by omega, rfl, by rw [HTOT.out]; simp⟩⟩
  refine (wpIn_wide (n := 9)).1 ?_
  refine wpIn_rangeFunc_ownG rfl (by omega) (gf := 72) (lb := #[.pointer (some ⟨wt.heap.size, 0, none⟩), .pointer (some ⟨wt.heap.size + 1, 0, none⟩), .pointer (some ⟨wt.heap.size + 2, 0, none⟩)]) rfl trivial (enters_of Try.func72 (by kernel_rfl) rfl)
    (met_stops 7 X S L N _ _ _ L1 L2 side so op zs v gs w5 hop hcp (by omega) hopp hso2 m1 m2 m3) MetKeeps.trans (fun W l o o' hl h _ _ => .of_blocks (by simp) fun i hi => World.putObj_heap_other (by rcases hi with rfl | rfl | h | ⟨k, hk, rfl⟩; (have := HS5.out; omega); (have := HS5.out; omega); (have := (hop.own.lt _ h).2; omega); (have := hg5 k hk; omega))) (Below.refl _ _) (fun _ => rfl)
    (MtI side oi oa op mode (mtA side oi oa op oq mode za zb) zs w5 wa.heap.size gs N)
    (MtX side oi oa op mode (mtA side oi oa op oq mode za zb) zs w5 wa.heap.size gs N)
    (fun s P Q row hs hg hr => by
      obtain ⟨q, rv, NR, R, cont, hJ, r⟩ := hs
      exact ⟨q, rv, NR, R, cont, hJ.walk htb5 hg5 hg hr, r⟩)
    (fun cc s P Q row hs hg hr => by
      obtain ⟨e, rv, NR, R, cont, hJ, r⟩ := hs
      exact ⟨e, rv, NR, R, cont, hJ.walk htb5 hg5 hg hr, r⟩)
    HI0
    (fun x => { tmps := #[.agg #[.slice A n c, .slice B m d], .int .i64 side, .agg #[.int .i64 oi, .int .i64 oa, .int .i64 op, .int .i64 oq], .int .i64 mode, .pointer (some ⟨w.heap.size, 0, none⟩), undef, .pointer (some ⟨w.heap.size + 1, 0, none⟩), undef, .pointer (some ⟨w.heap.size + 1 + 1, 0, none⟩), .slice none 0 0, .int .i64 0, .bool false, .pointer (some ⟨wo.heap.size, 0, none⟩), .pointer (some ⟨wa.heap.size + 1, 0, none⟩), .pointer (some ⟨gs x.1, 0, none⟩), .agg #[.slice A n c, .slice B m d], .bool true, .bool false, .bool false, .int .i64 side, .bool true, .bool false, .bool false, .bool false, .int .i64 mode, .bool true, .bool false, .bool false, .bool false, .agg #[.int .i64 oi, .int .i64 oa, .int .i64 op, .int .i64 oq], .bool true, .bool false, .bool false, .bool false, .agg #[.slice A n c, .slice B m d], .pointer (some ⟨w.heap.size + 1, 0, none⟩), .int .i64 oi, .bool false, .bool false, undef, .agg #[.slice A n c, .slice B m d], .agg #[.pointer (some ⟨L1, 0, none⟩), .pointer (some ⟨L2, 0, none⟩)], .agg #[.int .i64 oi, .int .i64 oa, .int .i64 op, .int .i64 oq], .int .i64 mode, .agg #[.int .i64 oi, .int .i64 oa, .int .i64 op, .int .i64 oq, .int .i64 mode, .slice none 0 0], .pointer (some ⟨wa.heap.size, 0, none⟩), .agg #[.pointer (some ⟨L1, 0, none⟩), .pointer (some ⟨L2, 0, none⟩)], .int .i64 side, .pointer (some ⟨w.heap.size + 1, 2, none⟩), .int .i64 op, .func (.func 72) #[] #[.pointer (some ⟨wt.heap.size, 0, none⟩), .pointer (some ⟨wt.heap.size + 1, 0, none⟩), .pointer (some ⟨wt.heap.size + 2, 0, none⟩)], .pointer (some ⟨gs x.1, 0, none⟩), undef, undef, undef, undef, undef, undef, undef, undef, undef, undef, undef, undef, undef, undef, undef, undef, undef, undef, undef, undef, undef, undef], defers := [] }) ?assign ?body ?done ?stop
  case assign =>
    intro l x W K hK
    gi_wp2
    exact hK
  case body =>
    rintro l pre x W hI hlen
    obtain ⟨q, rv, NR, R, cont, hJ, q0, q1, hNR, hl, hr, hc⟩ := hI
    have HC := Lib.hid hc
    have HR := Lib.hid hr
    have HL := Lib.hid hl
    clear hc hl
    have hcx := hr x.1 x.2
    clear hr
    have hlx := (hlo x.1 x.2).1
    have hgx5 := hg5 x.1 x.2
    have kpW := (hJ.blk (wa.heap.size + 1) (by have := HST.out; have := HS5.out; omega) (by omega) (fun j hj e => by have := (hlo j hj).1; have := HSA.out; omega)).trans kp
    have cp := cell_of_row W (wa.heap.size + 1) 0 _ _ (0, 0) kpW
    simp only [List.getElem?_toArray, List.getElem?_cons_zero] at cp
    have hT : TkW W wa.heap.size (gs x.1) oi oa op q mode rv w5.heap.size NR R (num cont (x.1 * 4)) (num cont (x.1 * 4 + 1)) (num cont (x.1 * 4 + 2)) (num cont (x.1 * 4 + 3)) := ⟨hJ.tk, row4_heap (hJ.cps x.1 x.2), hJ.recs, hJ.size⟩
    gi_wp2
    refine ⟨trivial, (CallsIn.inRound l (callsIn_wide.2 (impl_meet wa.heap.size (gs x.1) w5.heap.size NR oi oa op q mode _ _ _ _ rv R W hT (by omega) q0 q1 hcx.1 hcx.2))).mono ?_⟩
    rintro e W' ⟨⟨u, rfl⟩, rv', q', NR', R', c', hm, hT', hB', _⟩
    have HNX := Lib.hid (mt_next hzs hqz hup htg hg5 hlen hJ q0 q1 hNR HL.out HR.out HC.out hm hT' hB')
    have hne13 : wa.heap.size + 1 < w5.heap.size := by have := HST.out; have := HS5.out; omega
    have kpW' := (hB'.block (wa.heap.size + 1) (Nat.lt_of_lt_of_le hne13 hJ.size) (by omega) (by have := HSA.out; omega) (fun e => by have := (hJ.recs.lt _ e.symm).1; omega)).trans kpW
    have HKF : Hid (KeepsFrom w5.heap.size W W') := Lib.hid ⟨hB'.size, fun k o hk ho hoc => (hB'.block k (heap_lt ho) (by omega) (by omega) (fun e => by
      obtain ⟨c1, f1, g1⟩ := Lib.ownsRow_kind hJ.recs k e.symm
      rw [ho] at g1
      injection g1 with g1
      subst g1
      simp [Obj.isCells] at hoc)).trans ho⟩
    have HMK : Hid (MetKeeps (wt.heap.size + 1) (wt.heap.size + 2) v.ownBlock gs N W W') := Lib.hid ⟨hB'.size, fun b hb => by
      have hb5' : b < w5.heap.size ∧ b ≠ wa.heap.size ∧ b ≠ gs x.1 := by
        have := HST.out
        have := HS5.out
        have := HSA.out
        rcases hb with rfl | rfl | hb
        · omega
        · omega
        · have := hvl.2.2 b hb
          exact ⟨by omega, by omega, fun e => (hcp x.1 x.2).2.2.2.1 (by rw [hb, e])⟩
      exact hB'.block b (Nat.lt_of_lt_of_le hb5'.1 hJ.size) hb5'.2.1 hb5'.2.2 (fun e => by have := (hJ.recs.lt _ e.symm).1; omega), fun k hk j hj => by
      by_cases e : k = x.1
      · subst e
        obtain ⟨a0, a1, a2, a3⟩ := mcell4 hT.rest
        obtain ⟨e0, e1, e2, e3⟩ := mcell4 hT'.rest
        rcases (show j = 0 ∨ j = 1 ∨ j = 2 by omega) with rfl | rfl | rfl
        · exact e0.trans a0.symm
        · exact e1.trans a1.symm
        · exact e2.trans a2.symm
      · exact World.cell?_of_block (a := ⟨gs k, j, none⟩) (hB'.block (gs k) (Nat.lt_of_lt_of_le (hg5 k hk) hJ.size) (htg k hk) (hup.ne hk x.2 e) (fun e => by have := (hJ.recs.lt _ e.symm).1; have := hg5 k hk; omega))⟩
    have cp' := cell_of_row W' (wa.heap.size + 1) 0 _ _ (0, 0) kpW'
    simp only [List.getElem?_toArray, List.getElem?_cons_zero] at cp'
    obtain ⟨x0, x1, x2, x3, x4, x5⟩ := tcell6 hT'.tk
    clear cp kpW kpW' hT hm hB' hT'
    by_cases hq0 : q' = 0
    · have HX2 := Lib.hid (HNX.out.2 hq0)
      clear HNX
      subst hq0
      gi_wp2
      exact ⟨HKF.out, HX2.out⟩
    · have t : (q' == 0) = false := beq_eq_false_iff_ne.2 hq0
      have HQ0 := Lib.hid hq0
      clear hq0
      gi_wp2
      exact ⟨HKF.out, HMK.out, HNX.out.1 HQ0.out⟩
  case done =>
    rintro D ys W hD rfl hI hK
    have hE := hI.done hzs hqz
    obtain ⟨q, rv, NR, R, cont, hJ, hNR, hcl, htot⟩ := hE
    obtain ⟨z1, z2, hq1, hq2, hz1, hz2, hw1, hw2⟩ := HFP.out W q rv NR R cont hJ hcl htot
    have HT := Lib.hid htot
    have HW1 := Lib.hid hw1
    have HW2 := Lib.hid hw2
    clear htot hw1 hw2 hcl
    have hsa := HSA.out
    have hst := HST.out
    have hs5 := HS5.out
    have kbW := (hJ.blk wo.heap.size (by omega) (by omega) (fun j hj e => by have := (hlo j hj).1; omega)).trans kb
    have kpW := (hJ.blk (wa.heap.size + 1) (by omega) (by omega) (fun j hj e => by have := (hlo j hj).1; omega)).trans kp
    have k2W := (hJ.blk (w.heap.size + 1 + 1) (by omega) (by omega) (fun j hj e => by have := (hlo j hj).2; omega)).trans k2
    have hbW : Below w.heap.size w W := ⟨hJ.os.trans hb0.os, hJ.tape.trans hb0.tape, hJ.output.trans hb0.output, Nat.le_trans hb0.size hJ.size, fun k hk => (hJ.blk k (by omega) (by omega) (fun j hj e => by have := (hlo j hj).2; omega)).trans (hb0.block k hk)⟩
    have hDW := heap_lt hK
    have hJs := hJ.size
    obtain ⟨p0, p1⟩ := mcell2 kbW
    have HSA2 := Lib.hid hsa
    have HST2 := Lib.hid hst
    have HS52 := Lib.hid hs5
    clear hsa hst hs5
    clear HSA2 HST2 HS52
    go_wp2_with fail
    refine (impl_dropQ X1 S1 L1 X2 S2 L2 n m v1 v2 gs1 gs2 z1 z2 W hq1 hq2 hn hm hX2 hfar).mono ?_
    rintro e W9 ⟨⟨u, rfl⟩, u1, u2, hr1, hr2, hb9, hk9⟩
    clear p0 p1
    have far9 : ∀ b, b < W.heap.size → (wo.heap.size ≤ b ∨ b = w.heap.size + 1 + 1) → W9.heap[b]? = W.heap[b]? := fun b hb hc => hk9 b hb (by have := HV1.out.2.1; omega) (by have := HV2.out.2.1; omega) (fun e => by have := HV1.out.2.2 _ e.symm; have := (hown1 _ e.symm).1; omega) (fun e => by have := HV2.out.2.2 _ e.symm; have := (hown2 _ e.symm).1; omega)
    replace kbW := (far9 _ (heap_lt kbW) (.inl (Nat.le_refl _))).trans kbW
    replace kpW := (far9 _ (heap_lt kpW) (.inl (by have := HSA.out; omega))).trans kpW
    replace k2W := (far9 _ (heap_lt k2W) (.inr rfl)).trans k2W
    have ktW := (far9 _ (heap_lt hJ.tk) (.inl (by have := HSA.out; omega))).trans hJ.tk
    replace hK := (far9 _ hDW (.inl (by have := HSA.out; omega))).trans hK
    have hrW : W9.ownsRow w5.heap.size 39 8 rv NR (nums R) := by
      obtain ⟨a, b⟩ := hJ.recs
      exact ⟨a, b.imp id (fun ⟨g, cap, cur, e1, hb, hg, r⟩ => ⟨g, cap, cur, e1, hb, (far9 g (heap_lt hg) (.inl (by have := HSA.out; omega))).trans hg, r⟩)⟩
    replace hbW := hbW.trans (hb9.mono (by omega))
    have hs9 : w5.heap.size ≤ W9.heap.size := Nat.le_trans hJs hb9.size
    have HF9 := Lib.hid far9
    clear far9 hk9 hb9 hJ hq1 hq2 HF9
    obtain ⟨p0, p1⟩ := mcell2 kbW
    obtain ⟨t0, t1, t2, t3, t4, t5⟩ := tcell6 ktW
    have tp := cell_of_row W9 (wa.heap.size + 1) 0 _ _ (0, 0) kpW
    simp only [List.getElem?_toArray, List.getElem?_cons_zero] at tp
    obtain ⟨Ar, dr, rfl, _, _⟩ := own_slice hrW
    go_upto_region 10 with fail
    have h5g : w.heap.size + 1 + 1 < w5.heap.size := by have := HSA.out; have := HST.out; have := HS5.out; omega
    refine Code.wp_mono (fun _ _ _ h => norm_imp h) ?_
    refine wp_region_held_drew (S := (fun w' => w'.cell? ⟨wo.heap.size, 0, none⟩ = some (.pointer (some ⟨L1, 0, none⟩)) ∧ w'.cell? ⟨wo.heap.size, 1, none⟩ = some (.pointer (some ⟨L2, 0, none⟩)) ∧ w'.cell? ⟨wa.heap.size + 1, 0, none⟩ = some (.pointer (some ⟨wa.heap.size, 0, none⟩)) ∧ w'.cell? ⟨wa.heap.size, 5, none⟩ = some (.slice Ar NR dr) ∧ w'.cell? ⟨wa.heap.size, 3, none⟩ = some (.int .i64 q))) (by kernel_rfl) ?hSm121 (fun hHeld => ?restm121)
    case hSm121 => exact ⟨p0, p1, tp, t5, t3⟩
    refine wpAnyH_take (i := 0) (oi := ?oim122) (v := ?vm122) ?him122 (by kernel_rfl) (by kernel_rfl) (by kernel_rfl) ?hQm122 (Or.inl ⟨?hwm122, ?hym122⟩) (by assumption) ?restm122
    case him122 => simp only [Mqa, Mqb, Mqc]; exact rfl
    case hQm122 => exact fun _ _ _ h => h
    case hwm122 => rfl
    case hym122 => ((intro w hSw; (try dsimp only at hSw); go_simp) <;> with_reducible rfl)
    try simp only [Act.put, Mqd, Mqe, Mqf]
    refine wpAnyH_take (i := 2) (oi := ?oim123) (v := ?vm123) ?him123 (by kernel_rfl) (by kernel_rfl) (by kernel_rfl) ?hQm123 (Or.inl ⟨?hwm123, ?hym123⟩) (by assumption) ?restm123
    case him123 => simp only [Mqa, Mqb, Mqc]; exact rfl
    case hQm123 => exact fun _ _ _ h => h
    case hwm123 => rfl
    case hym123 => ((intro w hSw; (try dsimp only at hSw); go_simp) <;> with_reducible rfl)
    try simp only [Act.put, Mqd, Mqe, Mqf]
    refine wpAnyH_take (i := 3) (oi := ?oim124) (v := ?vm124) ?him124 (by kernel_rfl) (by kernel_rfl) (by kernel_rfl) ?hQm124 (Or.inl ⟨?hwm124, ?hym124⟩) (by assumption) ?restm124
    case him124 => simp only [Mqa, Mqb, Mqc]; exact rfl
    case hQm124 => exact fun _ _ _ h => h
    case hwm124 => rfl
    case hym124 => ((intro w hSw; (try dsimp only at hSw); go_simp) <;> with_reducible rfl)
    try simp only [Act.put, Mqd, Mqe, Mqf]
    refine wpAnyH_take (i := 4) (oi := ?oim125) (v := ?vm125) ?him125 (by kernel_rfl) (by kernel_rfl) (by kernel_rfl) ?hQm125 (Or.inl ⟨?hwm125, ?hym125⟩) (by assumption) ?restm125
    case him125 => simp only [Mqa, Mqb, Mqc]; exact rfl
    case hQm125 => exact fun _ _ _ h => h
    case hwm125 => rfl
    case hym125 => ((intro w hSw; (try dsimp only at hSw); go_simp) <;> with_reducible rfl)
    try simp only [Act.put, Mqd, Mqe, Mqf]
    refine wpAnyH_take (i := 5) (oi := ?oim126) (v := ?vm126) ?him126 (by kernel_rfl) (by kernel_rfl) (by kernel_rfl) ?hQm126 (Or.inl ⟨?hwm126, ?hym126⟩) (by assumption) ?restm126
    case him126 => simp only [Mqa, Mqb, Mqc]; exact rfl
    case hQm126 => exact fun _ _ _ h => h
    case hwm126 => rfl
    case hym126 => ((intro w hSw; (try dsimp only at hSw); go_simp) <;> with_reducible rfl)
    try simp only [Act.put, Mqd, Mqe, Mqf]
    refine wpAnyH_take (i := 6) (oi := ?oim127) (v := ?vm127) ?him127 (by kernel_rfl) (by kernel_rfl) (by kernel_rfl) ?hQm127 (Or.inl ⟨?hwm127, ?hym127⟩) (by assumption) ?restm127
    case him127 => simp only [Mqa, Mqb, Mqc]; exact rfl
    case hQm127 => exact fun _ _ _ h => h
    case hwm127 => rfl
    case hym127 => ((intro w hSw; (try dsimp only at hSw); go_simp) <;> with_reducible rfl)
    try simp only [Act.put, Mqd, Mqe, Mqf]
    refine wpAnyH_take (i := 7) (oi := ?oim128) (v := ?vm128) ?him128 (by kernel_rfl) (by kernel_rfl) (by kernel_rfl) ?hQm128 (Or.inl ⟨?hwm128, ?hym128⟩) (by assumption) ?restm128
    case him128 => simp only [Mqa, Mqb, Mqc]; exact rfl
    case hQm128 => exact fun _ _ _ h => h
    case hwm128 => rfl
    case hym128 => ((intro w hSw; (try dsimp only at hSw); go_simp) <;> with_reducible rfl)
    try simp only [Act.put, Mqd, Mqe, Mqf]
    refine wpAnyH_take (i := 8) (oi := ?oim129) (v := ?vm129) ?him129 (by kernel_rfl) (by kernel_rfl) (by kernel_rfl) ?hQm129 (Or.inl ⟨?hwm129, ?hym129⟩) (by assumption) ?restm129
    case him129 => simp only [Mqa, Mqb, Mqc]; exact rfl
    case hQm129 => exact fun _ _ _ h => h
    case hwm129 => rfl
    case hym129 => ((intro w hSw; (try dsimp only at hSw); go_simp) <;> with_reducible rfl)
    try simp only [Act.put, Mqd, Mqe, Mqf]
    refine wpAnyH_take (i := 9) (oi := ?oim130) (v := ?vm130) ?him130 (by kernel_rfl) (by kernel_rfl) (by kernel_rfl) ?hQm130 (Or.inl ⟨?hwm130, ?hym130⟩) (by assumption) ?restm130
    case him130 => simp only [Mqa, Mqb, Mqc]; exact rfl
    case hQm130 => exact fun _ _ _ h => h
    case hwm130 => rfl
    case hym130 => ((intro w hSw; (try dsimp only at hSw); go_simp) <;> with_reducible rfl)
    try simp only [Act.put, Mqd, Mqe, Mqf]
    refine wpAnyH_take (i := 10) (oi := ?oim131) (v := ?vm131) ?him131 (by kernel_rfl) (by kernel_rfl) (by kernel_rfl) ?hQm131 (Or.inl ⟨?hwm131, ?hym131⟩) (by assumption) ?restm131
    case him131 => simp only [Mqa, Mqb, Mqc]; exact rfl
    case hQm131 => exact fun _ _ _ h => h
    case hwm131 => rfl
    case hym131 => ((intro w hSw; (try dsimp only at hSw); go_simp) <;> with_reducible rfl)
    try simp only [Act.put, Mqd, Mqe, Mqf]
    refine wpAnyH_ready (rs := [1]) (by kernel_rfl) (by simp) ?_
    refine AllReadyH.cons (o := ?or132_1) ?hor132_1 (fun K hK => ?stepr132_1) (AllReadyH.nil)
    case hor132_1 => simp only [Mqa, Mqb, Mqc]; exact rfl
    case stepr132_1 =>
      go_simp
      go_at_call 44
      refine (impl_closed X1 S1 L1 X2 S2 L2 (tkNQ z1 0 n) (tkNQ z2 0 m) u1 u2 (selQ z1 0 gs1 n) (selQ z2 0 gs2 m) (tkZQ z1 0 n) (tkZQ z2 0 m) W9.drew (hr1.1.below (Below.refl _ _).drew) (hr1.2.below (Below.refl _ _).drew) (hr2.1.below (Below.refl _ _).drew) (hr2.2.below (Below.refl _ _).drew) (Nat.le_trans (tkN_leQ _ _ _) hn) (Nat.le_trans (tkN_leQ _ _ _) hm) (tkZ_lenQ _ _ _) (tkZ_lenQ _ _ _)).mono ?_
      rintro e Wc ⟨⟨r1, r2, rfl, ho1, ho2, hap⟩, hbc⟩
      have hkp := Lib.hid (fun (p : Addr) (hp : p.block < W9.heap.size) => hbc.cell (p := p) hp)
      have B1 := heap_lt kbW
      have B2 := heap_lt kpW
      have B3 := heap_lt ktW
      have HBC : Hid (Below W9.heap.size W9.drew Wc) := Lib.hid hbc
      clear hbc
      refine hK.out _ _ ?hSr132_1 (fun hHeld => ?restr132_1)
      case hSr132_1 => exact ⟨(hkp.out ⟨wo.heap.size, 0, none⟩ B1).trans hHeld.1, (hkp.out ⟨wo.heap.size, 1, none⟩ B1).trans hHeld.2.1, (hkp.out ⟨wa.heap.size + 1, 0, none⟩ B2).trans hHeld.2.2.1, (hkp.out ⟨wa.heap.size, 5, none⟩ B3).trans hHeld.2.2.2.1, (hkp.out ⟨wa.heap.size, 3, none⟩ B3).trans hHeld.2.2.2.2⟩
      clear hK K
      try simp only [Act.put, Mqd, Mqe, Mqf]
      refine wpAnyH_ready (rs := [11]) (by kernel_rfl) (by simp) ?_
      refine AllReadyH.cons (o := ?or133_11) ?hor133_11 (fun K hK => ?stepr133_11) (AllReadyH.nil)
      case hor133_11 => simp only [Mqa, Mqb, Mqc]; exact rfl
      case stepr133_11 =>
        have k2c := (HBC.out.block _ (heap_lt k2W)).trans k2W
        obtain ⟨A1', d1', rfl, _, _⟩ := own_slice ho1
        obtain ⟨A2', d2', rfl, _, _⟩ := own_slice ho2
        obtain ⟨y0, y1⟩ := mcell2 k2c
        have y2 := mfree k2c 0
        have y3 := mfree k2c 1
        go_simp
        clear y0 y1 y2 y3
        have q2 : w.heap.size + 1 + 1 ≠ wo.heap.size := by omega
        have q3 : w.heap.size + 1 + 1 ≠ wa.heap.size := by have := HSA.out; omega
        have q4 : w.heap.size + 1 + 1 ≠ wa.heap.size + 1 := by have := HSA.out; omega
        refine hK.out _ _ ?hSr133_11 (fun hHeld => ?restr133_11)
        case hSr133_11 => exact ⟨(set2_far q2).trans hHeld.1, (set2_far q2).trans hHeld.2.1, (set2_far q4).trans hHeld.2.2.1, (set2_far q3).trans hHeld.2.2.2.1, (set2_far q3).trans hHeld.2.2.2.2⟩
        clear hK K
        try simp only [Act.put, Mqd, Mqe, Mqf]
        refine wpAnyH_take (i := 12) (oi := ?oim134) (v := ?vm134) ?him134 (by kernel_rfl) (by kernel_rfl) (by kernel_rfl) ?hQm134 (Or.inl ⟨?hwm134, ?hym134⟩) (by assumption) ?restm134
        case him134 => simp only [Mqa, Mqb, Mqc]; exact rfl
        case hQm134 => exact fun _ _ _ h => h
        case hwm134 => rfl
        case hym134 => ((intro w hSw; (try dsimp only at hSw); go_simp) <;> with_reducible rfl)
        try simp only [Act.put, Mqd, Mqe, Mqf]
        refine wpAnyH_take (i := 13) (oi := ?oim135) (v := ?vm135) ?him135 (by kernel_rfl) (by kernel_rfl) (by kernel_rfl) ?hQm135 (Or.inl ⟨?hwm135, ?hym135⟩) (by assumption) ?restm135
        case him135 => simp only [Mqa, Mqb, Mqc]; exact rfl
        case hQm135 => exact fun _ _ _ h => h
        case hwm135 => rfl
        case hym135 => ((intro w hSw; (try dsimp only at hSw); go_simp) <;> with_reducible rfl)
        try simp only [Act.put, Mqd, Mqe, Mqf]
        refine wpAnyH_take (i := 14) (oi := ?oim136) (v := ?vm136) ?him136 (by kernel_rfl) (by kernel_rfl) (by kernel_rfl) ?hQm136 (Or.inl ⟨?hwm136, ?hym136⟩) (by assumption) ?restm136
        case him136 => simp only [Mqa, Mqb, Mqc]; exact rfl
        case hQm136 => exact fun _ _ _ h => h
        case hwm136 => rfl
        case hym136 => ((intro w hSw; (try dsimp only at hSw); go_simp) <;> with_reducible rfl)
        try simp only [Act.put, Mqd, Mqe, Mqf]
        refine wpAnyH_done (by kernel_rfl) ?_ _
        refine norm_done ?_
        clear hHeld p0 p1 t0 t1 t2 t3 t4 t5 tp
        have hs9c : W9.heap.size ≤ Wc.heap.size := HBC.out.size
        have kf := mset2 (u := (.slice A1' (tkNQ z1 0 n) d1')) (v := (.slice A2' (tkNQ z2 0 m) d2')) k2c
        have hKc : Wc.heap[D]? = some (.deferred (some [])) := (HBC.out.block D (heap_lt hK)).trans hK
        have hKf : ((Wc.setCell ⟨w.heap.size + 1 + 1, 0, none⟩ (.slice A1' (tkNQ z1 0 n) d1')).setCell ⟨w.heap.size + 1 + 1, 1, none⟩ (.slice A2' (tkNQ z2 0 m) d2')).heap[D]? = some (.deferred (some [])) := mset2_other hKc (by have := HSA.out; have := HST.out; have := HS5.out; omega)
        have hbf : Below w.heap.size w ((Wc.setCell ⟨w.heap.size + 1 + 1, 0, none⟩ (.slice A1' (tkNQ z1 0 n) d1')).setCell ⟨w.heap.size + 1 + 1, 1, none⟩ (.slice A2' (tkNQ z2 0 m) d2')) := ((hbW.trans (show Below w.heap.size W9 Wc from ⟨HBC.out.os, HBC.out.tape, HBC.out.output, HBC.out.size, fun k hk => HBC.out.block k (by omega)⟩)).setCell (p := ⟨w.heap.size + 1 + 1, 0, none⟩) (show w.heap.size ≤ w.heap.size + 1 + 1 by omega) (.slice A1' (tkNQ z1 0 n) d1')).setCell (p := ⟨w.heap.size + 1 + 1, 1, none⟩) (show w.heap.size ≤ w.heap.size + 1 + 1 by omega) (.slice A2' (tkNQ z2 0 m) d2')
        have hTR : TwoRows ((Wc.setCell ⟨w.heap.size + 1 + 1, 0, none⟩ (.slice A1' (tkNQ z1 0 n) d1')).setCell ⟨w.heap.size + 1 + 1, 1, none⟩ (.slice A2' (tkNQ z2 0 m) d2')) w.heap.size (.slice A1' (tkNQ z1 0 n) d1') (tkNQ z1 0 n) (tkZQ z1 0 n) (.slice A2' (tkNQ z2 0 m) d2') (tkNQ z2 0 m) (tkZQ z2 0 m) := ⟨own_mono (own_set_ne (own_set_ne ho1 (fun e => by have := (ho1.lt _ e).1; have : W9.drew.heap.size = W9.heap.size := rfl; omega)) (fun e => by have := (ho1.lt _ e).1; have : W9.drew.heap.size = W9.heap.size := rfl; omega)) (by have : W9.drew.heap.size = W9.heap.size := rfl; omega), own_mono (own_set_ne (own_set_ne ho2 (fun e => by have := (ho2.lt _ e).1; have : W9.drew.heap.size = W9.heap.size := rfl; omega)) (fun e => by have := (ho2.lt _ e).1; have : W9.drew.heap.size = W9.heap.size := rfl; omega)) (by have : W9.drew.heap.size = W9.heap.size := rfl; omega), hap⟩
        have hRC : ((Wc.setCell ⟨w.heap.size + 1 + 1, 0, none⟩ (.slice A1' (tkNQ z1 0 n) d1')).setCell ⟨w.heap.size + 1 + 1, 1, none⟩ (.slice A2' (tkNQ z2 0 m) d2')).ownsRow w.heap.size 39 8 (.slice Ar NR dr) NR (nums R) := own_mono (own_set_ne (own_set_ne (own_below hrW (show Below W9.heap.size W9 Wc from ⟨HBC.out.os, HBC.out.tape, HBC.out.output, HBC.out.size, HBC.out.block⟩)) (fun e => by have := (hrW.lt _ e).1; omega)) (fun e => by have := (hrW.lt _ e).1; omega)) (by omega)
        clear ho1 ho2 hrW kbW kpW k2W ktW k2c hKc hK HBC hkp q2 q3 q4
        generalize ((Wc.setCell ⟨w.heap.size + 1 + 1, 0, none⟩ (.slice A1' (tkNQ z1 0 n) d1')).setCell ⟨w.heap.size + 1 + 1, 1, none⟩ (.slice A2' (tkNQ z2 0 m) d2')) = Wf at *
        go_wp2_with fail
        refine ⟨by simp, .inl ⟨_, _, rfl, run_takeDeferred hKf, ?_⟩⟩
        obtain ⟨g0, g1⟩ := mcell2 (show (Wf.putObj D (.deferred none)).heap[w.heap.size + 1 + 1]? = _ from (World.putObj_heap_other (by have := HSA.out; have := HST.out; have := HS5.out; omega)).trans kf)
        refine ⟨.tuple #[.agg #[(.slice A1' (tkNQ z1 0 n) d1'), (.slice A2' (tkNQ z2 0 m) d2')], .slice Ar NR dr, .int .i64 q, .bool true], by simp [results, Try.results9, go_sem, g0, g1], ⟨_, _, _, tkNQ z1 0 n, tkNQ z2 0 m, NR, q, rfl, ?_, ?_, ?_⟩, hbf.trans (belowK_b (n₀ := w.heap.size) (w := w5) hb0.size Wf D _ _ hD hKf rfl rfl)⟩
        · rw [HW1.out, HW2.out]
          exact ⟨ownsRow_putObj hTR.one (.deferred none) hKf rfl, ownsRow_putObj hTR.two (.deferred none) hKf rfl, hTR.apart⟩
        · unfold mRR
          rw [if_pos rfl, HT.out]
          exact ownsRow_putObj hRC (.deferred none) hKf rfl
        · unfold mLL
          rw [if_pos rfl, HT.out]
  case stop =>
    rintro D cc pre W hD hsp hX hK
    obtain ⟨rfl, hE⟩ := hX.done hsp
    obtain ⟨q, rv, NR, R, cont, hJ, hNR, hcl, htot⟩ := hE
    obtain ⟨z1, z2, hq1, hq2, hz1, hz2, hw1, hw2⟩ := HFP.out W q rv NR R cont hJ hcl htot
    have HT := Lib.hid htot
    have HW1 := Lib.hid hw1
    have HW2 := Lib.hid hw2
    clear htot hw1 hw2 hcl
    have hsa := HSA.out
    have hst := HST.out
    have hs5 := HS5.out
    have kbW := (hJ.blk wo.heap.size (by omega) (by omega) (fun j hj e => by have := (hlo j hj).1; omega)).trans kb
    have kpW := (hJ.blk (wa.heap.size + 1) (by omega) (by omega) (fun j hj e => by have := (hlo j hj).1; omega)).trans kp
    have k2W := (hJ.blk (w.heap.size + 1 + 1) (by omega) (by omega) (fun j hj e => by have := (hlo j hj).2; omega)).trans k2
    have hbW : Below w.heap.size w W := ⟨hJ.os.trans hb0.os, hJ.tape.trans hb0.tape, hJ.output.trans hb0.output, Nat.le_trans hb0.size hJ.size, fun k hk => (hJ.blk k (by omega) (by omega) (fun j hj e => by have := (hlo j hj).2; omega)).trans (hb0.block k hk)⟩
    have hDW := heap_lt hK
    have hJs := hJ.size
    obtain ⟨p0, p1⟩ := mcell2 kbW
    have HSA2 := Lib.hid hsa
    have HST2 := Lib.hid hst
    have HS52 := Lib.hid hs5
    clear hsa hst hs5
    clear HSA2 HST2 HS52
    refine (wpIn_wide (n := 9)).2 ?_
    go_wp2_with fail
    refine (impl_dropQ X1 S1 L1 X2 S2 L2 n m v1 v2 gs1 gs2 z1 z2 W hq1 hq2 hn hm hX2 hfar).mono ?_
    rintro e W9 ⟨⟨u, rfl⟩, u1, u2, hr1, hr2, hb9, hk9⟩
    clear p0 p1
    have far9 : ∀ b, b < W.heap.size → (wo.heap.size ≤ b ∨ b = w.heap.size + 1 + 1) → W9.heap[b]? = W.heap[b]? := fun b hb hc => hk9 b hb (by have := HV1.out.2.1; omega) (by have := HV2.out.2.1; omega) (fun e => by have := HV1.out.2.2 _ e.symm; have := (hown1 _ e.symm).1; omega) (fun e => by have := HV2.out.2.2 _ e.symm; have := (hown2 _ e.symm).1; omega)
    replace kbW := (far9 _ (heap_lt kbW) (.inl (Nat.le_refl _))).trans kbW
    replace kpW := (far9 _ (heap_lt kpW) (.inl (by have := HSA.out; omega))).trans kpW
    replace k2W := (far9 _ (heap_lt k2W) (.inr rfl)).trans k2W
    have ktW := (far9 _ (heap_lt hJ.tk) (.inl (by have := HSA.out; omega))).trans hJ.tk
    replace hK := (far9 _ hDW (.inl (by have := HSA.out; omega))).trans hK
    have hrW : W9.ownsRow w5.heap.size 39 8 rv NR (nums R) := by
      obtain ⟨a, b⟩ := hJ.recs
      exact ⟨a, b.imp id (fun ⟨g, cap, cur, e1, hb, hg, r⟩ => ⟨g, cap, cur, e1, hb, (far9 g (heap_lt hg) (.inl (by have := HSA.out; omega))).trans hg, r⟩)⟩
    replace hbW := hbW.trans (hb9.mono (by omega))
    have hs9 : w5.heap.size ≤ W9.heap.size := Nat.le_trans hJs hb9.size
    have HF9 := Lib.hid far9
    clear far9 hk9 hb9 hJ hq1 hq2 HF9
    obtain ⟨p0, p1⟩ := mcell2 kbW
    obtain ⟨t0, t1, t2, t3, t4, t5⟩ := tcell6 ktW
    have tp := cell_of_row W9 (wa.heap.size + 1) 0 _ _ (0, 0) kpW
    simp only [List.getElem?_toArray, List.getElem?_cons_zero] at tp
    obtain ⟨Ar, dr, rfl, _, _⟩ := own_slice hrW
    go_upto_region 10 with fail
    have h5g : w.heap.size + 1 + 1 < w5.heap.size := by have := HSA.out; have := HST.out; have := HS5.out; omega
    refine Code.wp_mono (fun _ _ _ h => norm_imp h) ?_
    refine wp_region_held_drew (S := (fun w' => w'.cell? ⟨wo.heap.size, 0, none⟩ = some (.pointer (some ⟨L1, 0, none⟩)) ∧ w'.cell? ⟨wo.heap.size, 1, none⟩ = some (.pointer (some ⟨L2, 0, none⟩)) ∧ w'.cell? ⟨wa.heap.size + 1, 0, none⟩ = some (.pointer (some ⟨wa.heap.size, 0, none⟩)) ∧ w'.cell? ⟨wa.heap.size, 5, none⟩ = some (.slice Ar NR dr) ∧ w'.cell? ⟨wa.heap.size, 3, none⟩ = some (.int .i64 q))) (by kernel_rfl) ?hSm137 (fun hHeld => ?restm137)
    case hSm137 => exact ⟨p0, p1, tp, t5, t3⟩
    refine wpAnyH_take (i := 0) (oi := ?oim138) (v := ?vm138) ?him138 (by kernel_rfl) (by kernel_rfl) (by kernel_rfl) ?hQm138 (Or.inl ⟨?hwm138, ?hym138⟩) (by assumption) ?restm138
    case him138 => simp only [Mqa, Mqb, Mqc]; exact rfl
    case hQm138 => exact fun _ _ _ h => h
    case hwm138 => rfl
    case hym138 => ((intro w hSw; (try dsimp only at hSw); go_simp) <;> with_reducible rfl)
    try simp only [Act.put, Mqd, Mqe, Mqf]
    refine wpAnyH_take (i := 2) (oi := ?oim139) (v := ?vm139) ?him139 (by kernel_rfl) (by kernel_rfl) (by kernel_rfl) ?hQm139 (Or.inl ⟨?hwm139, ?hym139⟩) (by assumption) ?restm139
    case him139 => simp only [Mqa, Mqb, Mqc]; exact rfl
    case hQm139 => exact fun _ _ _ h => h
    case hwm139 => rfl
    case hym139 => ((intro w hSw; (try dsimp only at hSw); go_simp) <;> with_reducible rfl)
    try simp only [Act.put, Mqd, Mqe, Mqf]
    refine wpAnyH_take (i := 3) (oi := ?oim140) (v := ?vm140) ?him140 (by kernel_rfl) (by kernel_rfl) (by kernel_rfl) ?hQm140 (Or.inl ⟨?hwm140, ?hym140⟩) (by assumption) ?restm140
    case him140 => simp only [Mqa, Mqb, Mqc]; exact rfl
    case hQm140 => exact fun _ _ _ h => h
    case hwm140 => rfl
    case hym140 => ((intro w hSw; (try dsimp only at hSw); go_simp) <;> with_reducible rfl)
    try simp only [Act.put, Mqd, Mqe, Mqf]
    refine wpAnyH_take (i := 4) (oi := ?oim141) (v := ?vm141) ?him141 (by kernel_rfl) (by kernel_rfl) (by kernel_rfl) ?hQm141 (Or.inl ⟨?hwm141, ?hym141⟩) (by assumption) ?restm141
    case him141 => simp only [Mqa, Mqb, Mqc]; exact rfl
    case hQm141 => exact fun _ _ _ h => h
    case hwm141 => rfl
    case hym141 => ((intro w hSw; (try dsimp only at hSw); go_simp) <;> with_reducible rfl)
    try simp only [Act.put, Mqd, Mqe, Mqf]
    refine wpAnyH_take (i := 5) (oi := ?oim142) (v := ?vm142) ?him142 (by kernel_rfl) (by kernel_rfl) (by kernel_rfl) ?hQm142 (Or.inl ⟨?hwm142, ?hym142⟩) (by assumption) ?restm142
    case him142 => simp only [Mqa, Mqb, Mqc]; exact rfl
    case hQm142 => exact fun _ _ _ h => h
    case hwm142 => rfl
    case hym142 => ((intro w hSw; (try dsimp only at hSw); go_simp) <;> with_reducible rfl)
    try simp only [Act.put, Mqd, Mqe, Mqf]
    refine wpAnyH_take (i := 6) (oi := ?oim143) (v := ?vm143) ?him143 (by kernel_rfl) (by kernel_rfl) (by kernel_rfl) ?hQm143 (Or.inl ⟨?hwm143, ?hym143⟩) (by assumption) ?restm143
    case him143 => simp only [Mqa, Mqb, Mqc]; exact rfl
    case hQm143 => exact fun _ _ _ h => h
    case hwm143 => rfl
    case hym143 => ((intro w hSw; (try dsimp only at hSw); go_simp) <;> with_reducible rfl)
    try simp only [Act.put, Mqd, Mqe, Mqf]
    refine wpAnyH_take (i := 7) (oi := ?oim144) (v := ?vm144) ?him144 (by kernel_rfl) (by kernel_rfl) (by kernel_rfl) ?hQm144 (Or.inl ⟨?hwm144, ?hym144⟩) (by assumption) ?restm144
    case him144 => simp only [Mqa, Mqb, Mqc]; exact rfl
    case hQm144 => exact fun _ _ _ h => h
    case hwm144 => rfl
    case hym144 => ((intro w hSw; (try dsimp only at hSw); go_simp) <;> with_reducible rfl)
    try simp only [Act.put, Mqd, Mqe, Mqf]
    refine wpAnyH_take (i := 8) (oi := ?oim145) (v := ?vm145) ?him145 (by kernel_rfl) (by kernel_rfl) (by kernel_rfl) ?hQm145 (Or.inl ⟨?hwm145, ?hym145⟩) (by assumption) ?restm145
    case him145 => simp only [Mqa, Mqb, Mqc]; exact rfl
    case hQm145 => exact fun _ _ _ h => h
    case hwm145 => rfl
    case hym145 => ((intro w hSw; (try dsimp only at hSw); go_simp) <;> with_reducible rfl)
    try simp only [Act.put, Mqd, Mqe, Mqf]
    refine wpAnyH_take (i := 9) (oi := ?oim146) (v := ?vm146) ?him146 (by kernel_rfl) (by kernel_rfl) (by kernel_rfl) ?hQm146 (Or.inl ⟨?hwm146, ?hym146⟩) (by assumption) ?restm146
    case him146 => simp only [Mqa, Mqb, Mqc]; exact rfl
    case hQm146 => exact fun _ _ _ h => h
    case hwm146 => rfl
    case hym146 => ((intro w hSw; (try dsimp only at hSw); go_simp) <;> with_reducible rfl)
    try simp only [Act.put, Mqd, Mqe, Mqf]
    refine wpAnyH_take (i := 10) (oi := ?oim147) (v := ?vm147) ?him147 (by kernel_rfl) (by kernel_rfl) (by kernel_rfl) ?hQm147 (Or.inl ⟨?hwm147, ?hym147⟩) (by assumption) ?restm147
    case him147 => simp only [Mqa, Mqb, Mqc]; exact rfl
    case hQm147 => exact fun _ _ _ h => h
    case hwm147 => rfl
    case hym147 => ((intro w hSw; (try dsimp only at hSw); go_simp) <;> with_reducible rfl)
    try simp only [Act.put, Mqd, Mqe, Mqf]
    refine wpAnyH_ready (rs := [1]) (by kernel_rfl) (by simp) ?_
    refine AllReadyH.cons (o := ?or148_1) ?hor148_1 (fun K hK => ?stepr148_1) (AllReadyH.nil)
    case hor148_1 => simp only [Mqa, Mqb, Mqc]; exact rfl
    case stepr148_1 =>
      go_simp
      go_at_call 44
      refine (impl_closed X1 S1 L1 X2 S2 L2 (tkNQ z1 0 n) (tkNQ z2 0 m) u1 u2 (selQ z1 0 gs1 n) (selQ z2 0 gs2 m) (tkZQ z1 0 n) (tkZQ z2 0 m) W9.drew (hr1.1.below (Below.refl _ _).drew) (hr1.2.below (Below.refl _ _).drew) (hr2.1.below (Below.refl _ _).drew) (hr2.2.below (Below.refl _ _).drew) (Nat.le_trans (tkN_leQ _ _ _) hn) (Nat.le_trans (tkN_leQ _ _ _) hm) (tkZ_lenQ _ _ _) (tkZ_lenQ _ _ _)).mono ?_
      rintro e Wc ⟨⟨r1, r2, rfl, ho1, ho2, hap⟩, hbc⟩
      have hkp := Lib.hid (fun (p : Addr) (hp : p.block < W9.heap.size) => hbc.cell (p := p) hp)
      have B1 := heap_lt kbW
      have B2 := heap_lt kpW
      have B3 := heap_lt ktW
      have HBC : Hid (Below W9.heap.size W9.drew Wc) := Lib.hid hbc
      clear hbc
      refine hK.out _ _ ?hSr148_1 (fun hHeld => ?restr148_1)
      case hSr148_1 => exact ⟨(hkp.out ⟨wo.heap.size, 0, none⟩ B1).trans hHeld.1, (hkp.out ⟨wo.heap.size, 1, none⟩ B1).trans hHeld.2.1, (hkp.out ⟨wa.heap.size + 1, 0, none⟩ B2).trans hHeld.2.2.1, (hkp.out ⟨wa.heap.size, 5, none⟩ B3).trans hHeld.2.2.2.1, (hkp.out ⟨wa.heap.size, 3, none⟩ B3).trans hHeld.2.2.2.2⟩
      clear hK K
      try simp only [Act.put, Mqd, Mqe, Mqf]
      refine wpAnyH_ready (rs := [11]) (by kernel_rfl) (by simp) ?_
      refine AllReadyH.cons (o := ?or149_11) ?hor149_11 (fun K hK => ?stepr149_11) (AllReadyH.nil)
      case hor149_11 => simp only [Mqa, Mqb, Mqc]; exact rfl
      case stepr149_11 =>
        have k2c := (HBC.out.block _ (heap_lt k2W)).trans k2W
        obtain ⟨A1', d1', rfl, _, _⟩ := own_slice ho1
        obtain ⟨A2', d2', rfl, _, _⟩ := own_slice ho2
        obtain ⟨y0, y1⟩ := mcell2 k2c
        have y2 := mfree k2c 0
        have y3 := mfree k2c 1
        go_simp
        clear y0 y1 y2 y3
        have q2 : w.heap.size + 1 + 1 ≠ wo.heap.size := by omega
        have q3 : w.heap.size + 1 + 1 ≠ wa.heap.size := by have := HSA.out; omega
        have q4 : w.heap.size + 1 + 1 ≠ wa.heap.size + 1 := by have := HSA.out; omega
        refine hK.out _ _ ?hSr149_11 (fun hHeld => ?restr149_11)
        case hSr149_11 => exact ⟨(set2_far q2).trans hHeld.1, (set2_far q2).trans hHeld.2.1, (set2_far q4).trans hHeld.2.2.1, (set2_far q3).trans hHeld.2.2.2.1, (set2_far q3).trans hHeld.2.2.2.2⟩
        clear hK K
        try simp only [Act.put, Mqd, Mqe, Mqf]
        refine wpAnyH_take (i := 12) (oi := ?oim150) (v := ?vm150) ?him150 (by kernel_rfl) (by kernel_rfl) (by kernel_rfl) ?hQm150 (Or.inl ⟨?hwm150, ?hym150⟩) (by assumption) ?restm150
        case him150 => simp only [Mqa, Mqb, Mqc]; exact rfl
        case hQm150 => exact fun _ _ _ h => h
        case hwm150 => rfl
        case hym150 => ((intro w hSw; (try dsimp only at hSw); go_simp) <;> with_reducible rfl)
        try simp only [Act.put, Mqd, Mqe, Mqf]
        refine wpAnyH_take (i := 13) (oi := ?oim151) (v := ?vm151) ?him151 (by kernel_rfl) (by kernel_rfl) (by kernel_rfl) ?hQm151 (Or.inl ⟨?hwm151, ?hym151⟩) (by assumption) ?restm151
        case him151 => simp only [Mqa, Mqb, Mqc]; exact rfl
        case hQm151 => exact fun _ _ _ h => h
        case hwm151 => rfl
        case hym151 => ((intro w hSw; (try dsimp only at hSw); go_simp) <;> with_reducible rfl)
        try simp only [Act.put, Mqd, Mqe, Mqf]
        refine wpAnyH_take (i := 14) (oi := ?oim152) (v := ?vm152) ?him152 (by kernel_rfl) (by kernel_rfl) (by kernel_rfl) ?hQm152 (Or.inl ⟨?hwm152, ?hym152⟩) (by assumption) ?restm152
        case him152 => simp only [Mqa, Mqb, Mqc]; exact rfl
        case hQm152 => exact fun _ _ _ h => h
        case hwm152 => rfl
        case hym152 => ((intro w hSw; (try dsimp only at hSw); go_simp) <;> with_reducible rfl)
        try simp only [Act.put, Mqd, Mqe, Mqf]
        refine wpAnyH_done (by kernel_rfl) ?_ _
        refine norm_done ?_
        clear hHeld p0 p1 t0 t1 t2 t3 t4 t5 tp
        have hs9c : W9.heap.size ≤ Wc.heap.size := HBC.out.size
        have kf := mset2 (u := (.slice A1' (tkNQ z1 0 n) d1')) (v := (.slice A2' (tkNQ z2 0 m) d2')) k2c
        have hKc : Wc.heap[D]? = some (.deferred (some [])) := (HBC.out.block D (heap_lt hK)).trans hK
        have hKf : ((Wc.setCell ⟨w.heap.size + 1 + 1, 0, none⟩ (.slice A1' (tkNQ z1 0 n) d1')).setCell ⟨w.heap.size + 1 + 1, 1, none⟩ (.slice A2' (tkNQ z2 0 m) d2')).heap[D]? = some (.deferred (some [])) := mset2_other hKc (by have := HSA.out; have := HST.out; have := HS5.out; omega)
        have hbf : Below w.heap.size w ((Wc.setCell ⟨w.heap.size + 1 + 1, 0, none⟩ (.slice A1' (tkNQ z1 0 n) d1')).setCell ⟨w.heap.size + 1 + 1, 1, none⟩ (.slice A2' (tkNQ z2 0 m) d2')) := ((hbW.trans (show Below w.heap.size W9 Wc from ⟨HBC.out.os, HBC.out.tape, HBC.out.output, HBC.out.size, fun k hk => HBC.out.block k (by omega)⟩)).setCell (p := ⟨w.heap.size + 1 + 1, 0, none⟩) (show w.heap.size ≤ w.heap.size + 1 + 1 by omega) (.slice A1' (tkNQ z1 0 n) d1')).setCell (p := ⟨w.heap.size + 1 + 1, 1, none⟩) (show w.heap.size ≤ w.heap.size + 1 + 1 by omega) (.slice A2' (tkNQ z2 0 m) d2')
        have hTR : TwoRows ((Wc.setCell ⟨w.heap.size + 1 + 1, 0, none⟩ (.slice A1' (tkNQ z1 0 n) d1')).setCell ⟨w.heap.size + 1 + 1, 1, none⟩ (.slice A2' (tkNQ z2 0 m) d2')) w.heap.size (.slice A1' (tkNQ z1 0 n) d1') (tkNQ z1 0 n) (tkZQ z1 0 n) (.slice A2' (tkNQ z2 0 m) d2') (tkNQ z2 0 m) (tkZQ z2 0 m) := ⟨own_mono (own_set_ne (own_set_ne ho1 (fun e => by have := (ho1.lt _ e).1; have : W9.drew.heap.size = W9.heap.size := rfl; omega)) (fun e => by have := (ho1.lt _ e).1; have : W9.drew.heap.size = W9.heap.size := rfl; omega)) (by have : W9.drew.heap.size = W9.heap.size := rfl; omega), own_mono (own_set_ne (own_set_ne ho2 (fun e => by have := (ho2.lt _ e).1; have : W9.drew.heap.size = W9.heap.size := rfl; omega)) (fun e => by have := (ho2.lt _ e).1; have : W9.drew.heap.size = W9.heap.size := rfl; omega)) (by have : W9.drew.heap.size = W9.heap.size := rfl; omega), hap⟩
        have hRC : ((Wc.setCell ⟨w.heap.size + 1 + 1, 0, none⟩ (.slice A1' (tkNQ z1 0 n) d1')).setCell ⟨w.heap.size + 1 + 1, 1, none⟩ (.slice A2' (tkNQ z2 0 m) d2')).ownsRow w.heap.size 39 8 (.slice Ar NR dr) NR (nums R) := own_mono (own_set_ne (own_set_ne (own_below hrW (show Below W9.heap.size W9 Wc from ⟨HBC.out.os, HBC.out.tape, HBC.out.output, HBC.out.size, HBC.out.block⟩)) (fun e => by have := (hrW.lt _ e).1; omega)) (fun e => by have := (hrW.lt _ e).1; omega)) (by omega)
        clear ho1 ho2 hrW kbW kpW k2W ktW k2c hKc hK HBC hkp q2 q3 q4
        generalize ((Wc.setCell ⟨w.heap.size + 1 + 1, 0, none⟩ (.slice A1' (tkNQ z1 0 n) d1')).setCell ⟨w.heap.size + 1 + 1, 1, none⟩ (.slice A2' (tkNQ z2 0 m) d2')) = Wf at *
        go_wp2_with fail
        refine ⟨by simp, .inl ⟨_, _, rfl, run_takeDeferred hKf, ?_⟩⟩
        obtain ⟨g0, g1⟩ := mcell2 (show (Wf.putObj D (.deferred none)).heap[w.heap.size + 1 + 1]? = _ from (World.putObj_heap_other (by have := HSA.out; have := HST.out; have := HS5.out; omega)).trans kf)
        refine ⟨.tuple #[.agg #[(.slice A1' (tkNQ z1 0 n) d1'), (.slice A2' (tkNQ z2 0 m) d2')], .slice Ar NR dr, .int .i64 q, .bool true], by simp [results, Try.results9, go_sem, g0, g1], ⟨_, _, _, tkNQ z1 0 n, tkNQ z2 0 m, NR, q, rfl, ?_, ?_, ?_⟩, hbf.trans (belowK_b (n₀ := w.heap.size) (w := w5) hb0.size Wf D _ _ hD hKf rfl rfl)⟩
        · rw [HW1.out, HW2.out]
          exact ⟨ownsRow_putObj hTR.one (.deferred none) hKf rfl, ownsRow_putObj hTR.two (.deferred none) hKf rfl, hTR.apart⟩
        · unfold mRR
          rw [if_pos rfl, HT.out]
          exact ownsRow_putObj hRC (.deferred none) hKf rfl
        · unfold mLL
          rw [if_pos rfl, HT.out]
end Go.Proofs.Ytempggikcpminaa

namespace Go.Proofs.Ytempggikcpminaa
open Go.RowKit Go.Shelf Wire

/-- what Matched answers -/
def MAns (w' : World) (base : Nat) (rg : Bool) (side oi oa op oq mode : Int) (za zb : List Int) (e : Ending) : Prop := ∃ r1 r2 rv n1 n2 N, e = .returned (.tuple #[.agg #[r1, r2], rv, .int .i64 (mLL rg side oi oa op oq mode za zb), .bool rg]) ∧ TwoRows w' base r1 n1 (mZ1 rg side oi oa op oq mode za zb) r2 n2 (mZ2 rg side oi oa op oq mode za zb) ∧ w'.ownsRow base 39 8 rv N (nums (mRR rg side oi oa op oq mode za zb))
theorem MAns.no {w' : World} {base : Nat} {side oi oa op oq mode : Int} {za zb : List Int} : MAns w' base false side oi oa op oq mode za zb (.returned (.tuple #[.agg #[.slice none 0 0, .slice none 0 0], .slice none 0 0, .int .i64 0, .bool false])) :=
  ⟨_, _, _, 0, 0, 0, rfl, TwoRows.nil _ _, World.ownsRow_nil _ _ _ _⟩
set_option linter.unusedSimpArgs false in
set_option maxHeartbeats 3200000 in
set_option maxRecDepth 100000 in
theorem impl_Matched_no (A : Option Addr) (n c : Nat) (B : Option Addr) (m d : Nat) (za zb : List Int) (side oi oa op oq mode : Int) (w : World) (ha : Lst w w.heap.size 4 A n za) (hb : Lst w w.heap.size 4 B m zb) (hn : n ≤ 1048576) (hm : m ≤ 1048576) (hrg : rgB za n zb m side oi oa op oq mode = false) :
    Calls Try.prog 9 #[.agg #[.slice A n c, .slice B m d], .int .i64 side, .agg #[.int .i64 oi, .int .i64 oa, .int .i64 op, .int .i64 oq], .int .i64 mode] w fun e w' => e = .returned (.tuple #[.agg #[.slice none 0 0, .slice none 0 0], .slice none 0 0, .int .i64 0, .bool false]) ∧ Below w.heap.size w w' := by
  obtain ⟨k0, k1, k2⟩ := three_blocks w (.cells #[.slice A n c, .slice B m d] 26) (.cells #[.int .i64 oi, .int .i64 oa, .int .i64 op, .int .i64 oq] 28) (.cells #[.slice none 0 0, .slice none 0 0] 26)
  have hb0 : Below w.heap.size w (((w.alloc (.cells #[.slice A n c, .slice B m d] 26)).alloc (.cells #[.int .i64 oi, .int .i64 oa, .int .i64 op, .int .i64 oq] 28)).alloc (.cells #[.slice none 0 0, .slice none 0 0] 26)) := (((Below.refl _ _).alloc (Nat.le_refl _) _).alloc (by simp) _).alloc (by simp; omega) _
  have HR := Lib.hid hrg
  clear hrg
  refine callsIn_wide.1 (callsIn_of_wp_marks (n := 9) Try.func9 rfl trivial (wpIn_wide.2 ?_) rfl)
  simp only [Try.ntmps9, List.size_toArray, List.length_cons, List.length_nil, Nat.reduceAdd, Nat.reduceSub, Array.replicate_succ, Array.replicate_zero, List.push_toArray, List.append_toArray, List.nil_append, List.cons_append]
  go_wp2_with fail
  have hA := ha.later hb0
  have hZb := hb.later hb0
  generalize (((w.alloc (.cells #[.slice A n c, .slice B m d] 26)).alloc (.cells #[.int .i64 oi, .int .i64 oa, .int .i64 op, .int .i64 oq] 28)).alloc (.cells #[.slice none 0 0, .slice none 0 0] 26)) = w0 at *
  refine (impl_BookOk A n c B m d za zb w0 hA hZb hn hm).mono ?_
  have HBK := Lib.hid (rfl : bookB za n zb m = bookB za n zb m)
  generalize hbk : bookB za n zb m = bk at HBK
  clear HBK
  have HBK := Lib.hid hbk
  clear hbk
  rintro e w1 ⟨rfl, hb1⟩
  replace k0 := (hb1.block _ (heap_lt k0)).trans k0
  replace k1 := (hb1.block _ (heap_lt k1)).trans k1
  replace k2 := (hb1.block _ (heap_lt k2)).trans k2
  replace hA := hA.later hb1
  replace hZb := hZb.later hb1
  replace hb0 := hb0.trans (hb1.mono hb0.size)
  clear hb1
  cases bk
  · obtain ⟨r0, r1⟩ := rcell2 k2
    have f0 := mfree k2 0
    have f1 := mfree k2 1
    have kf := mset2 (u := .slice none 0 0) (v := .slice none 0 0) k2
    have hbf := (hb0.setCell (p := ⟨w.heap.size + 1 + 1, 0, none⟩) (show w.heap.size ≤ w.heap.size + 1 + 1 by omega) (.slice none 0 0)).setCell (p := ⟨w.heap.size + 1 + 1, 1, none⟩) (show w.heap.size ≤ w.heap.size + 1 + 1 by omega) (.slice none 0 0)
    have HKF := Lib.hid kf
    have HBF := Lib.hid hbf
    clear kf hbf
    go_wp2_with fail
    obtain ⟨g0, g1⟩ := mcell2 HKF.out
    exact ⟨.tuple #[.agg #[.slice none 0 0, .slice none 0 0], .slice none 0 0, .int .i64 0, .bool false], by simp [results, Try.results9, go_sem, g0, g1], rfl, HBF.out⟩
  go_wp2_with fail
  refine (impl_sideOk side w1).mono ?_
  generalize hso : sideOkB side = so
  have HSO := Lib.hid hso
  clear hso
  rintro e w2 ⟨rfl, rfl⟩
  cases so
  · obtain ⟨r0, r1⟩ := rcell2 k2
    have f0 := mfree k2 0
    have f1 := mfree k2 1
    have kf := mset2 (u := .slice none 0 0) (v := .slice none 0 0) k2
    have hbf := (hb0.setCell (p := ⟨w.heap.size + 1 + 1, 0, none⟩) (show w.heap.size ≤ w.heap.size + 1 + 1 by omega) (.slice none 0 0)).setCell (p := ⟨w.heap.size + 1 + 1, 1, none⟩) (show w.heap.size ≤ w.heap.size + 1 + 1 by omega) (.slice none 0 0)
    have HKF := Lib.hid kf
    have HBF := Lib.hid hbf
    clear kf hbf
    go_wp2_with fail
    obtain ⟨g0, g1⟩ := mcell2 HKF.out
    exact ⟨.tuple #[.agg #[.slice none 0 0, .slice none 0 0], .slice none 0 0, .int .i64 0, .bool false], by simp [results, Try.results9, go_sem, g0, g1], rfl, HBF.out⟩
  go_wp2_with fail
  refine (within_any mode 1 3 w1).mono ?_
  generalize him : inB 1 mode 3 = im
  have HIM := Lib.hid him
  clear him
  rintro e w2 ⟨rfl, rfl⟩
  cases im
  · obtain ⟨r0, r1⟩ := rcell2 k2
    have f0 := mfree k2 0
    have f1 := mfree k2 1
    have kf := mset2 (u := .slice none 0 0) (v := .slice none 0 0) k2
    have hbf := (hb0.setCell (p := ⟨w.heap.size + 1 + 1, 0, none⟩) (show w.heap.size ≤ w.heap.size + 1 + 1 by omega) (.slice none 0 0)).setCell (p := ⟨w.heap.size + 1 + 1, 1, none⟩) (show w.heap.size ≤ w.heap.size + 1 + 1 by omega) (.slice none 0 0)
    have HKF := Lib.hid kf
    have HBF := Lib.hid hbf
    clear kf hbf
    go_wp2_with fail
    obtain ⟨g0, g1⟩ := mcell2 HKF.out
    exact ⟨.tuple #[.agg #[.slice none 0 0, .slice none 0 0], .slice none 0 0, .int .i64 0, .bool false], by simp [results, Try.results9, go_sem, g0, g1], rfl, HBF.out⟩
  obtain ⟨o0, o1, o2, o3⟩ := rrcell4 k1
  go_wp2_with fail
  refine (impl_incomingOk oi oa op oq w1).mono ?_
  generalize hic : incB oi oa op oq = ic
  have HIC := Lib.hid hic
  clear hic
  rintro e w2 ⟨rfl, hb1⟩
  clear o0 o1 o2 o3
  replace k0 := (hb1.block _ (heap_lt k0)).trans k0
  replace k1 := (hb1.block _ (heap_lt k1)).trans k1
  replace k2 := (hb1.block _ (heap_lt k2)).trans k2
  replace hA := hA.later hb1
  replace hZb := hZb.later hb1
  replace hb0 := hb0.trans (hb1.mono hb0.size)
  clear hb1
  cases ic
  · obtain ⟨r0, r1⟩ := rcell2 k2
    have f0 := mfree k2 0
    have f1 := mfree k2 1
    have kf := mset2 (u := .slice none 0 0) (v := .slice none 0 0) k2
    have hbf := (hb0.setCell (p := ⟨w.heap.size + 1 + 1, 0, none⟩) (show w.heap.size ≤ w.heap.size + 1 + 1 by omega) (.slice none 0 0)).setCell (p := ⟨w.heap.size + 1 + 1, 1, none⟩) (show w.heap.size ≤ w.heap.size + 1 + 1 by omega) (.slice none 0 0)
    have HKF := Lib.hid kf
    have HBF := Lib.hid hbf
    clear kf hbf
    go_wp2_with fail
    obtain ⟨g0, g1⟩ := mcell2 HKF.out
    exact ⟨.tuple #[.agg #[.slice none 0 0, .slice none 0 0], .slice none 0 0, .int .i64 0, .bool false], by simp [results, Try.results9, go_sem, g0, g1], rfl, HBF.out⟩
  obtain ⟨o0, o1, o2, o3⟩ := rrcell4 k1
  obtain ⟨b0, b1⟩ := rcell2 k0
  go_wp2_with fail
  refine (impl_hasOrder A n c B m d za zb oi w2 hA hZb hn hm).mono ?_
  rintro e w3 ⟨⟨s, f, ok, hfr, rfl⟩, hb1⟩
  have hok := find_knows hfr
  have HOK : Hid (ok = true) := Lib.hid (by
    have h := HR.out
    unfold rgB at h
    rw [HBK.out, HSO.out, HIC.out, HIM.out] at h
    rw [HBK.out] at hok
    rw [hok]
    simpa using h)
  clear hok hfr
  obtain rfl : ok = true := HOK.out
  clear o0 o1 o2 o3 b0 b1
  replace k2 := (hb1.block _ (heap_lt k2)).trans k2
  replace hb0 := hb0.trans (hb1.mono hb0.size)
  clear hb1
  obtain ⟨r0, r1⟩ := rcell2 k2
  have f0 := mfree k2 0
  have f1 := mfree k2 1
  have kf := mset2 (u := .slice none 0 0) (v := .slice none 0 0) k2
  have hbf := (hb0.setCell (p := ⟨w.heap.size + 1 + 1, 0, none⟩) (show w.heap.size ≤ w.heap.size + 1 + 1 by omega) (.slice none 0 0)).setCell (p := ⟨w.heap.size + 1 + 1, 1, none⟩) (show w.heap.size ≤ w.heap.size + 1 + 1 by omega) (.slice none 0 0)
  have HKF := Lib.hid kf
  have HBF := Lib.hid hbf
  clear kf hbf
  go_wp2_with fail
  obtain ⟨g0, g1⟩ := mcell2 HKF.out
  exact ⟨.tuple #[.agg #[.slice none 0 0, .slice none 0 0], .slice none 0 0, .int .i64 0, .bool false], by simp [results, Try.results9, go_sem, g0, g1], rfl, HBF.out⟩
theorem impl_Matched (A : Option Addr) (n c : Nat) (B : Option Addr) (m d : Nat) (za zb : List Int) (side oi oa op oq mode : Int) (w : World) (ha : Lst w w.heap.size 4 A n za) (hb : Lst w w.heap.size 4 B m zb) (hn : n ≤ 1048576) (hm : m ≤ 1048576) :
    Calls Try.prog 9 #[.agg #[.slice A n c, .slice B m d], .int .i64 side, .agg #[.int .i64 oi, .int .i64 oa, .int .i64 op, .int .i64 oq], .int .i64 mode] w fun e w' => MAns w' w.heap.size (rgB za n zb m side oi oa op oq mode) side oi oa op oq mode za zb e ∧ Below w.heap.size w w' := by
  rcases Bool.eq_false_or_eq_true (rgB za n zb m side oi oa op oq mode) with h | h
  · rw [h]
    exact (impl_Matched_yes A n c B m d za zb side oi oa op oq mode w ha hb hn hm h).mono fun e w' ⟨⟨r1, r2, rv, n1, n2, N, left, he, hT, hR, hl⟩, hB⟩ => ⟨⟨r1, r2, rv, n1, n2, N, by rw [he, hl], hT, hR⟩, hB⟩
  · rw [h]
    exact (impl_Matched_no A n c B m d za zb side oi oa op oq mode w ha hb hn hm h).mono fun e w' ⟨he, hB⟩ => ⟨by rw [he]; exact MAns.no, hB⟩
/-- what l3Match answers -/
def LAns (w' : World) (base : Nat) (side oi oa op oq mode : Int) (za zb : List Int) (e : Ending) : Prop := ∃ r1 r2 rv n1 n2 N, e = .returned (.tuple #[.agg #[r1, r2], rv, .int .i64 (mLL true side oi oa op oq mode za zb)]) ∧ TwoRows w' base r1 n1 (mZ1 true side oi oa op oq mode za zb) r2 n2 (mZ2 true side oi oa op oq mode za zb) ∧ w'.ownsRow base 39 8 rv N (nums (mRR true side oi oa op oq mode za zb)) ∧ N ≤ 1000000
theorem spec_l3Match (base : Nat) (A1 : Option Addr) (n c : Nat) (A2 : Option Addr) (m d : Nat) (za zb : List Int) (side oi oa op oq mode : Int) (w : World) (hs : side = 1 ∨ side = 2) (hT : TwoRows w base (.slice A1 n c) n za (.slice A2 m d) m zb) (hbase : base ≤ w.heap.size) (hn : n ≤ 20) (hm : m ≤ 20) (hq1 : qtyOk za n) (hq2 : qtyOk zb m) (h0 : 0 ≤ oq) (h1 : oq ≤ 1000000) :
    Calls Try.prog 46 #[.agg #[.slice A1 n c, .slice A2 m d], .int .i64 side, .agg #[.int .i64 oi, .int .i64 oa, .int .i64 op, .int .i64 oq], .int .i64 mode] w fun e w' => LAns w' base side oi oa op oq mode za zb e ∧ Below w.heap.size w w' := by
  rcases hs with rfl | rfl
  · refine (spec_l3Match1 base A1 n c A2 m d za zb oi oa op oq mode w hT hbase (by omega) (by omega) hq2 h0 h1).mono fun e w' ⟨⟨v1, v2, rv, M, N, he, hT', hR, hM, hN⟩, hB⟩ => ⟨⟨v1, v2, rv, n, M, N, ?_, ?_, ?_, by omega⟩, hB⟩
    · rw [he]; simp [mLL, mtA]
    · simpa [mZ1, mZ2, mtA] using hT'
    · simpa [mRR, mtA] using hR
  · refine (spec_l3Match2 base A1 n c A2 m d za zb oi oa op oq mode w hT hbase (by omega) (by omega) hq1 h0 h1).mono fun e w' ⟨⟨v1, v2, rv, M, N, he, hT', hR, hM, hN⟩, hB⟩ => ⟨⟨v1, v2, rv, M, m, N, ?_, ?_, ?_, by omega⟩, hB⟩
    · rw [he]; simp [mLL, mtA]
    · simpa [mZ1, mZ2, mtA] using hT'
    · simpa [mRR, mtA] using hR
set_option linter.unusedSimpArgs false in
set_option maxHeartbeats 3200000 in
set_option maxRecDepth 100000 in
theorem spec_Matched (A : Option Addr) (n c : Nat) (B : Option Addr) (m d : Nat) (za zb : List Int) (side oi oa op oq mode : Int) (w : World) (ha : Lst w w.heap.size 4 A n za) (hb : Lst w w.heap.size 4 B m zb) (hn : n ≤ 1048576) (hm : m ≤ 1048576) (hAn : A = none → n = 0 ∧ c = 0) (hBn : B = none → m = 0 ∧ d = 0) :
    Calls Try.prog 10 #[.agg #[.slice A n c, .slice B m d], .int .i64 side, .agg #[.int .i64 oi, .int .i64 oa, .int .i64 op, .int .i64 oq], .int .i64 mode] w fun e w' => MAns w' w.heap.size (rgB za n zb m side oi oa op oq mode) side oi oa op oq mode za zb e ∧ Below w.heap.size w w' := by
  obtain ⟨k0, k1, k2⟩ := three_blocks w (.cells #[.slice A n c, .slice B m d] 26) (.cells #[.int .i64 oi, .int .i64 oa, .int .i64 op, .int .i64 oq] 28) (.cells #[.slice none 0 0, .slice none 0 0] 26)
  have hb0 : Below w.heap.size w (((w.alloc (.cells #[.slice A n c, .slice B m d] 26)).alloc (.cells #[.int .i64 oi, .int .i64 oa, .int .i64 op, .int .i64 oq] 28)).alloc (.cells #[.slice none 0 0, .slice none 0 0] 26)) := (((Below.refl _ _).alloc (Nat.le_refl _) _).alloc (by simp) _).alloc (by simp; omega) _
  go_enter Try.func10, Try.ntmps10
  go_wp2_with fail
  have hA := ha.later hb0
  have hZb := hb.later hb0
  clear ha hb
  generalize (((w.alloc (.cells #[.slice A n c, .slice B m d] 26)).alloc (.cells #[.int .i64 oi, .int .i64 oa, .int .i64 op, .int .i64 oq] 28)).alloc (.cells #[.slice none 0 0, .slice none 0 0] 26)) = w0 at *
  refine (spec_l3Right A n c B m d za zb side oi oa op oq mode w0 hA hZb hn hm hAn hBn).mono ?_
  rintro e w1 ⟨rfl, hb1⟩
  replace k0 := (hb1.block _ (heap_lt k0)).trans k0
  replace k1 := (hb1.block _ (heap_lt k1)).trans k1
  replace k2 := (hb1.block _ (heap_lt k2)).trans k2
  replace hA := hA.later hb1
  replace hZb := hZb.later hb1
  replace hb0 := hb0.trans (hb1.mono hb0.size)
  clear hb1
  rcases Bool.eq_false_or_eq_true (rgB za n zb m side oi oa op oq mode) with hrg | hrg
  · have HRG := Lib.hid hrg
    obtain ⟨hbk, hso, hic, him, hkn, hn20, hm20, hqa, hqb, hoq1, hoq2⟩ := rg_parts hrg
    have hsd : side = 1 ∨ side = 2 := by
      rcases side_cases side with ⟨h, _⟩ | ⟨h, _⟩ | ⟨_, _, h⟩
      · exact .inl h
      · exact .inr h
      · rw [h] at hso; cases hso
    have HSD := Lib.hid hsd
    rw [hrg]
    clear hbk hso hic him hkn hrg hsd
    go_upto_region 3 with fail
    have hsd := HSD.out
    clear HSD
    replace k0 : w1.drew.heap[w.heap.size]? = _ := k0
    replace k1 : w1.drew.heap[w.heap.size + 1]? = _ := k1
    replace k2 : w1.drew.heap[w.heap.size + 1 + 1]? = _ := k2
    replace hb0 := hb0.drew
    replace hA := hA.later (Below.refl _ _).drew
    replace hZb := hZb.later (Below.refl _ _).drew
    obtain ⟨o0, o1, o2, o3⟩ := rrcell4 k1
    obtain ⟨b0, b1⟩ := rcell2 k0
    refine wp_region_held_drew (S := (fun w' => w'.cell? ⟨w.heap.size, 0, none⟩ = some (.slice A n c) ∧ w'.cell? ⟨w.heap.size, 1, none⟩ = some (.slice B m d) ∧ w'.cell? ⟨w.heap.size + 1, 0, none⟩ = some (.int .i64 oi) ∧ w'.cell? ⟨w.heap.size + 1, 1, none⟩ = some (.int .i64 oa) ∧ w'.cell? ⟨w.heap.size + 1, 2, none⟩ = some (.int .i64 op) ∧ w'.cell? ⟨w.heap.size + 1, 3, none⟩ = some (.int .i64 oq))) (by kernel_rfl) ?hSm121 (fun hHeld => ?restm121)
    case hSm121 => exact ⟨b0, b1, o0, o1, o2, o3⟩
    refine wpAnyH_take (i := 0) (oi := ?oim122) (v := ?vm122) ?him122 (by kernel_rfl) (by kernel_rfl) (by kernel_rfl) ?hQm122 (Or.inl ⟨?hwm122, ?hym122⟩) (by assumption) ?restm122
    case him122 => simp only [Mqa, Mqb, Mqc]; exact rfl
    case hQm122 => exact fun _ _ _ h => h
    case hwm122 => rfl
    case hym122 => ((intro w hSw; (try dsimp only at hSw); go_simp) <;> with_reducible rfl)
    try simp only [Act.put, Mqd, Mqe, Mqf]
    refine wpAnyH_take (i := 2) (oi := ?oim123) (v := ?vm123) ?him123 (by kernel_rfl) (by kernel_rfl) (by kernel_rfl) ?hQm123 (Or.inl ⟨?hwm123, ?hym123⟩) (by assumption) ?restm123
    case him123 => simp only [Mqa, Mqb, Mqc]; exact rfl
    case hQm123 => exact fun _ _ _ h => h
    case hwm123 => rfl
    case hym123 => ((intro w hSw; (try dsimp only at hSw); go_simp) <;> with_reducible rfl)
    try simp only [Act.put, Mqd, Mqe, Mqf]
    refine wpAnyH_take (i := 3) (oi := ?oim124) (v := ?vm124) ?him124 (by kernel_rfl) (by kernel_rfl) (by kernel_rfl) ?hQm124 (Or.inl ⟨?hwm124, ?hym124⟩) (by assumption) ?restm124
    case him124 => simp only [Mqa, Mqb, Mqc]; exact rfl
    case hQm124 => exact fun _ _ _ h => h
    case hwm124 => rfl
    case hym124 => ((intro w hSw; (try dsimp only at hSw); go_simp) <;> with_reducible rfl)
    try simp only [Act.put, Mqd, Mqe, Mqf]
    refine wpAnyH_take (i := 4) (oi := ?oim125) (v := ?vm125) ?him125 (by kernel_rfl) (by kernel_rfl) (by kernel_rfl) ?hQm125 (Or.inl ⟨?hwm125, ?hym125⟩) (by assumption) ?restm125
    case him125 => simp only [Mqa, Mqb, Mqc]; exact rfl
    case hQm125 => exact fun _ _ _ h => h
    case hwm125 => rfl
    case hym125 => ((intro w hSw; (try dsimp only at hSw); go_simp) <;> with_reducible rfl)
    try simp only [Act.put, Mqd, Mqe, Mqf]
    refine wpAnyH_ready (rs := [1, 10]) (by kernel_rfl) (by simp) ?_
    refine AllReadyH.cons (o := ?or126_1) ?hor126_1 (fun K hK => ?stepr126_1) (AllReadyH.cons (o := ?or126_10) ?hor126_10 (fun K hK => ?stepr126_10) (AllReadyH.nil))
    case hor126_1 => simp only [Mqa, Mqb, Mqc]; exact rfl
    case hor126_10 => simp only [Mqa, Mqb, Mqc]; exact rfl
    case stepr126_1 =>
      go_simp
      go_at_call 47
      refine (spec_l2CopyO A n c B m d za zb w1.drew hA hZb (by omega) (by omega) hAn hBn).mono ?_
      rintro e u127 ⟨⟨q1, q2, rfl, hC, _, _⟩, hbq⟩
      have hCb : w1.drew.heap.size ≤ u127.heap.size := hbq.size
      have hCw := hb0.size
      replace hC := hC.mono hCw
      obtain ⟨Q1, c1, Q2, c2, rfl, rfl⟩ := hC.slices
      have hkp := Lib.hid (fun (p : Addr) (hp : p.block < w1.drew.heap.size) => hbq.cell (p := p) hp)
      have hG0 := heap_lt k0
      have hG1 := heap_lt k1
      replace k0 := (hbq.block _ (heap_lt k0)).trans k0
      replace k1 := (hbq.block _ (heap_lt k1)).trans k1
      replace k2 := (hbq.block _ (heap_lt k2)).trans k2
      replace hb0 := hb0.trans (hbq.mono hb0.size)
      clear hbq hA hZb
      refine hK.out _ _ ?hSr126_1 (fun hHeld => ?restr126_1)
      case hSr126_1 => exact ⟨(hkp.out ⟨w.heap.size, 0, none⟩ hG0).trans hHeld.1, (hkp.out ⟨w.heap.size, 1, none⟩ hG0).trans hHeld.2.1, (hkp.out ⟨w.heap.size + 1, 0, none⟩ hG1).trans hHeld.2.2.1, (hkp.out ⟨w.heap.size + 1, 1, none⟩ hG1).trans hHeld.2.2.2.1, (hkp.out ⟨w.heap.size + 1, 2, none⟩ hG1).trans hHeld.2.2.2.2.1, (hkp.out ⟨w.heap.size + 1, 3, none⟩ hG1).trans hHeld.2.2.2.2.2⟩
      clear hK K
      try simp only [Act.put, Mqd, Mqe, Mqf]
      refine wpAnyH_ready (rs := [5, 10]) (by kernel_rfl) (by simp) ?_
      refine AllReadyH.cons (o := ?or128_5) ?hor128_5 (fun K hK => ?stepr128_5) (AllReadyH.cons (o := ?or128_10) ?hor128_10 (fun K hK => ?stepr128_10) (AllReadyH.nil))
      case hor128_5 => simp only [Mqa, Mqb, Mqc]; exact rfl
      case hor128_10 => simp only [Mqa, Mqb, Mqc]; exact rfl
      case stepr128_5 =>
        go_simp
        go_at_call 46
        refine (spec_l3Match w.heap.size Q1 n c1 Q2 m c2 za zb side oi oa op oq mode u127 hsd hC hb0.size hn20 hm20 hqa hqb (by omega) hoq2).mono ?_
        rintro e u129 ⟨⟨r1, r2, rv, n1, n2, NR, rfl, hM, hMr, hNR⟩, hbq⟩
        have hkp := Lib.hid (fun (p : Addr) (hp : p.block < u127.heap.size) => hbq.cell (p := p) hp)
        have hG0 := heap_lt k0
        have hG1 := heap_lt k1
        replace k0 := (hbq.block _ (heap_lt k0)).trans k0
        replace k1 := (hbq.block _ (heap_lt k1)).trans k1
        replace k2 := (hbq.block _ (heap_lt k2)).trans k2
        replace hb0 := hb0.trans (hbq.mono hb0.size)
        obtain ⟨R1, d1, R2, d2, rfl, rfl⟩ := hM.slices
        obtain ⟨R3, d3, rfl, _, _⟩ := own_slice hMr
        clear hbq hC hCb
        refine hK.out _ _ ?hSr128_5 (fun hHeld => ?restr128_5)
        case hSr128_5 => exact ⟨(hkp.out ⟨w.heap.size, 0, none⟩ hG0).trans hHeld.1, (hkp.out ⟨w.heap.size, 1, none⟩ hG0).trans hHeld.2.1, (hkp.out ⟨w.heap.size + 1, 0, none⟩ hG1).trans hHeld.2.2.1, (hkp.out ⟨w.heap.size + 1, 1, none⟩ hG1).trans hHeld.2.2.2.1, (hkp.out ⟨w.heap.size + 1, 2, none⟩ hG1).trans hHeld.2.2.2.2.1, (hkp.out ⟨w.heap.size + 1, 3, none⟩ hG1).trans hHeld.2.2.2.2.2⟩
        clear hK K
        try simp only [Act.put, Mqd, Mqe, Mqf]
        refine wpAnyH_take (i := 6) (oi := ?oim130) (v := ?vm130) ?him130 (by kernel_rfl) (by kernel_rfl) (by kernel_rfl) ?hQm130 (Or.inl ⟨?hwm130, ?hym130⟩) (by assumption) ?restm130
        case him130 => simp only [Mqa, Mqb, Mqc]; exact rfl
        case hQm130 => exact fun _ _ _ h => h
        case hwm130 => rfl
        case hym130 => ((intro w hSw; (try dsimp only at hSw); go_simp) <;> with_reducible rfl)
        try simp only [Act.put, Mqd, Mqe, Mqf]
        refine wpAnyH_take (i := 7) (oi := ?oim131) (v := ?vm131) ?him131 (by kernel_rfl) (by kernel_rfl) (by kernel_rfl) ?hQm131 (Or.inl ⟨?hwm131, ?hym131⟩) (by assumption) ?restm131
        case him131 => simp only [Mqa, Mqb, Mqc]; exact rfl
        case hQm131 => exact fun _ _ _ h => h
        case hwm131 => rfl
        case hym131 => ((intro w hSw; (try dsimp only at hSw); go_simp) <;> with_reducible rfl)
        try simp only [Act.put, Mqd, Mqe, Mqf]
        refine wpAnyH_take (i := 8) (oi := ?oim132) (v := ?vm132) ?him132 (by kernel_rfl) (by kernel_rfl) (by kernel_rfl) ?hQm132 (Or.inl ⟨?hwm132, ?hym132⟩) (by assumption) ?restm132
        case him132 => simp only [Mqa, Mqb, Mqc]; exact rfl
        case hQm132 => exact fun _ _ _ h => h
        case hwm132 => rfl
        case hym132 => ((intro w hSw; (try dsimp only at hSw); go_simp) <;> with_reducible rfl)
        try simp only [Act.put, Mqd, Mqe, Mqf]
        refine wpAnyH_take (i := 9) (oi := ?oim133) (v := ?vm133) ?him133 (by kernel_rfl) (by kernel_rfl) (by kernel_rfl) ?hQm133 (Or.inl ⟨?hwm133, ?hym133⟩) (by assumption) ?restm133
        case him133 => simp only [Mqa, Mqb, Mqc]; exact rfl
        case hQm133 => exact fun _ _ _ h => h
        case hwm133 => rfl
        case hym133 => ((intro w hSw; (try dsimp only at hSw); go_simp) <;> with_reducible rfl)
        try simp only [Act.put, Mqd, Mqe, Mqf]
        refine wpAnyH_ready (rs := [10]) (by kernel_rfl) (by simp) ?_
        refine AllReadyH.cons (o := ?or134_10) ?hor134_10 (fun K hK => ?stepr134_10) (AllReadyH.nil)
        case hor134_10 => simp only [Mqa, Mqb, Mqc]; exact rfl
        case stepr134_10 =>
          go_simp
          have hbq : Below u129.heap.size u129 (u129.alloc (.cells #[.slice none 0 0, .slice none 0 0] 26)) := (Below.refl u129.heap.size u129).alloc (Nat.le_refl _) (.cells #[.slice none 0 0, .slice none 0 0] 26)
          have hGX : w.heap.size + 1 + 1 < u129.heap.size := heap_lt k2
          have hkp := Lib.hid (fun (p : Addr) (hp : p.block < u129.heap.size) => hbq.cell (p := p) hp)
          have hG0 := heap_lt k0
          have hG1 := heap_lt k1
          replace k0 := (hbq.block _ (heap_lt k0)).trans k0
          replace k1 := (hbq.block _ (heap_lt k1)).trans k1
          replace k2 := (hbq.block _ (heap_lt k2)).trans k2
          replace hb0 := hb0.trans (hbq.mono hb0.size)
          replace hM := hM.below hbq
          replace hMr := own_below hMr hbq
          have kx := show (u129.alloc (.cells #[.slice none 0 0, .slice none 0 0] 26)).heap[u129.heap.size]? = _ from heap_alloc_new u129 (.cells #[.slice none 0 0, .slice none 0 0] 26)
          generalize u129.alloc (.cells #[.slice none 0 0, .slice none 0 0] 26) = ua135 at *
          generalize u129.heap.size = gx at *
          clear hbq
          refine hK.out _ _ ?hSr134_10 (fun hHeld => ?restr134_10)
          case hSr134_10 => exact ⟨(hkp.out ⟨w.heap.size, 0, none⟩ hG0).trans hHeld.1, (hkp.out ⟨w.heap.size, 1, none⟩ hG0).trans hHeld.2.1, (hkp.out ⟨w.heap.size + 1, 0, none⟩ hG1).trans hHeld.2.2.1, (hkp.out ⟨w.heap.size + 1, 1, none⟩ hG1).trans hHeld.2.2.2.1, (hkp.out ⟨w.heap.size + 1, 2, none⟩ hG1).trans hHeld.2.2.2.2.1, (hkp.out ⟨w.heap.size + 1, 3, none⟩ hG1).trans hHeld.2.2.2.2.2⟩
          clear hK K
          try simp only [Act.put, Mqd, Mqe, Mqf]
          refine wpAnyH_ready (rs := [11]) (by kernel_rfl) (by simp) ?_
          refine AllReadyH.cons (o := ?or137_11) ?hor137_11 (fun K hK => ?stepr137_11) (AllReadyH.nil)
          case hor137_11 => simp only [Mqa, Mqb, Mqc]; exact rfl
          case stepr137_11 =>
            obtain ⟨y0, y1⟩ := rcell2 kx
            have z0 := mfree kx 0
            have z1 := mfree kx 1
            go_simp
            clear y0 y1 z0 z1
            have hq0 : gx ≠ w.heap.size := by omega
            have hq1 : gx ≠ w.heap.size + 1 := by omega
            refine hK.out _ _ ?hSr137_11 (fun hHeld => ?restr137_11)
            case hSr137_11 => exact ⟨(set2_far hq0).trans hHeld.1, (set2_far hq0).trans hHeld.2.1, (set2_far hq1).trans hHeld.2.2.1, (set2_far hq1).trans hHeld.2.2.2.1, (set2_far hq1).trans hHeld.2.2.2.2.1, (set2_far hq1).trans hHeld.2.2.2.2.2⟩
            clear hK K
            try simp only [Act.put, Mqd, Mqe, Mqf]
            refine wpAnyH_take (i := 12) (oi := ?oim138) (v := ?vm138) ?him138 (by kernel_rfl) (by kernel_rfl) (by kernel_rfl) ?hQm138 (Or.inl ⟨?hwm138, ?hym138⟩) (by assumption) ?restm138
            case him138 => simp only [Mqa, Mqb, Mqc]; exact rfl
            case hQm138 => exact fun _ _ _ h => h
            case hwm138 => rfl
            case hym138 => ((intro w hSw; (try dsimp only at hSw); go_simp) <;> with_reducible rfl)
            try simp only [Act.put, Mqd, Mqe, Mqf]
            refine wpAnyH_take (i := 13) (oi := ?oim139) (v := ?vm139) ?him139 (by kernel_rfl) (by kernel_rfl) (by kernel_rfl) ?hQm139 (Or.inl ⟨?hwm139, ?hym139⟩) (by assumption) ?restm139
            case him139 => simp only [Mqa, Mqb, Mqc]; exact rfl
            case hQm139 => exact fun _ _ _ h => h
            case hwm139 => rfl
            case hym139 => ((intro w hSw; (try dsimp only at hSw); go_simp) <;> with_reducible rfl)
            try simp only [Act.put, Mqd, Mqe, Mqf]
            refine wpAnyH_done (by kernel_rfl) ?_ _
            clear hHeld b0 b1 o0 o1 o2 o3
            have hgx : w.heap.size + 3 ≤ gx := by omega
            have kx2 := mset2 (u := (.slice R1 n1 d1)) (v := (.slice R2 n2 d2)) kx
            have k22 := mset2_other (u := (.slice R1 n1 d1)) (v := (.slice R2 n2 d2)) k2 (show w.heap.size + 1 + 1 ≠ gx by omega)
            have hbx := (hb0.setCell (p := ⟨gx, 0, none⟩) (show w.heap.size ≤ gx by omega) (.slice R1 n1 d1)).setCell (p := ⟨gx, 1, none⟩) (show w.heap.size ≤ gx by omega) (.slice R2 n2 d2)
            have fx : ∀ {v : Value} {k : Nat} {z : List Int}, ua135.ownsRow w.heap.size 28 4 v k (nums z) → v.ownBlock ≠ some gx := fun h e => mt_apart h (own_of_box kx) (by decide) gx e rfl
            have hMx : TwoRows ((ua135.setCell ⟨gx, 0, none⟩ (.slice R1 n1 d1)).setCell ⟨gx, 1, none⟩ (.slice R2 n2 d2)) w.heap.size (.slice R1 n1 d1) n1 (mZ1 true side oi oa op oq mode za zb) (.slice R2 n2 d2) n2 (mZ2 true side oi oa op oq mode za zb) := ⟨own_set_ne (own_set_ne hM.one (fx hM.one)) (fx hM.one), own_set_ne (own_set_ne hM.two (fx hM.two)) (fx hM.two), hM.apart⟩
            have hMrx := own_set_kind (i := 1) (u := (.slice R2 n2 d2)) (own_set_kind (i := 0) (u := (.slice R1 n1 d1)) hMr kx (by decide)) (heap_set0 kx) (by decide)
            clear hM hMr kx k2 hb0 fx
            generalize ((ua135.setCell ⟨gx, 0, none⟩ (.slice R1 n1 d1)).setCell ⟨gx, 1, none⟩ (.slice R2 n2 d2)) = wz at *
            obtain ⟨y0, y1⟩ := rcell2 kx2
            obtain ⟨r0, r1⟩ := rcell2 k22
            have f0 := mfree k22 0
            have f1 := mfree k22 1
            have kf := mset2 (u := (.slice R1 n1 d1)) (v := (.slice R2 n2 d2)) k22
            have hbf := (hbx.setCell (p := ⟨w.heap.size + 1 + 1, 0, none⟩) (show w.heap.size ≤ w.heap.size + 1 + 1 by omega) (.slice R1 n1 d1)).setCell (p := ⟨w.heap.size + 1 + 1, 1, none⟩) (show w.heap.size ≤ w.heap.size + 1 + 1 by omega) (.slice R2 n2 d2)
            have hTf : TwoRows ((wz.setCell ⟨w.heap.size + 1 + 1, 0, none⟩ (.slice R1 n1 d1)).setCell ⟨w.heap.size + 1 + 1, 1, none⟩ (.slice R2 n2 d2)) w.heap.size (.slice R1 n1 d1) n1 (mZ1 true side oi oa op oq mode za zb) (.slice R2 n2 d2) n2 (mZ2 true side oi oa op oq mode za zb) := ⟨own_set_kind (own_set_kind hMx.one k22 (by decide)) (heap_set0 k22) (by decide), own_set_kind (own_set_kind hMx.two k22 (by decide)) (heap_set0 k22) (by decide), hMx.apart⟩
            have hRf := own_set_kind (i := 1) (u := (.slice R2 n2 d2)) (own_set_kind (i := 0) (u := (.slice R1 n1 d1)) hMrx k22 (by decide)) (heap_set0 k22) (by decide)
            have HKF := Lib.hid kf
            have HBF := Lib.hid hbf
            have HTF := Lib.hid hTf
            have HRF := Lib.hid hRf
            clear kf hbf hTf hRf hMx hMrx kx2 k22 hbx k0 k1
            go_wp2_with fail
            obtain ⟨g0, g1⟩ := rcell2 HKF.out
            exact bodyPost_ret (v := .tuple #[.agg #[(.slice R1 n1 d1), (.slice R2 n2 d2)], .slice R3 NR d3, .int .i64 (mLL true side oi oa op oq mode za zb), .bool true]) (by simp [results, Try.results10, go_sem, g0, g1]) rfl ⟨by rw [HRG.out]; exact ⟨_, _, _, n1, n2, NR, rfl, HTF.out, HRF.out⟩, HBF.out⟩
      case stepr128_10 =>
        go_simp
        have hbq : Below u127.heap.size u127 (u127.alloc (.cells #[.slice none 0 0, .slice none 0 0] 26)) := (Below.refl u127.heap.size u127).alloc (Nat.le_refl _) (.cells #[.slice none 0 0, .slice none 0 0] 26)
        have hGX : w.heap.size + 1 + 1 < u127.heap.size := heap_lt k2
        have hkp := Lib.hid (fun (p : Addr) (hp : p.block < u127.heap.size) => hbq.cell (p := p) hp)
        have hG0 := heap_lt k0
        have hG1 := heap_lt k1
        replace k0 := (hbq.block _ (heap_lt k0)).trans k0
        replace k1 := (hbq.block _ (heap_lt k1)).trans k1
        replace k2 := (hbq.block _ (heap_lt k2)).trans k2
        replace hb0 := hb0.trans (hbq.mono hb0.size)
        replace hC := hC.below hbq
        replace hCb := Nat.le_trans hCb hbq.size
        have kx := show (u127.alloc (.cells #[.slice none 0 0, .slice none 0 0] 26)).heap[u127.heap.size]? = _ from heap_alloc_new u127 (.cells #[.slice none 0 0, .slice none 0 0] 26)
        generalize u127.alloc (.cells #[.slice none 0 0, .slice none 0 0] 26) = ua140 at *
        generalize u127.heap.size = gx at *
        clear hbq
        refine hK.out _ _ ?hSr128_10 (fun hHeld => ?restr128_10)
        case hSr128_10 => exact ⟨(hkp.out ⟨w.heap.size, 0, none⟩ hG0).trans hHeld.1, (hkp.out ⟨w.heap.size, 1, none⟩ hG0).trans hHeld.2.1, (hkp.out ⟨w.heap.size + 1, 0, none⟩ hG1).trans hHeld.2.2.1, (hkp.out ⟨w.heap.size + 1, 1, none⟩ hG1).trans hHeld.2.2.2.1, (hkp.out ⟨w.heap.size + 1, 2, none⟩ hG1).trans hHeld.2.2.2.2.1, (hkp.out ⟨w.heap.size + 1, 3, none⟩ hG1).trans hHeld.2.2.2.2.2⟩
        clear hK K
        try simp only [Act.put, Mqd, Mqe, Mqf]
        refine wpAnyH_ready (rs := [5]) (by kernel_rfl) (by simp) ?_
        refine AllReadyH.cons (o := ?or142_5) ?hor142_5 (fun K hK => ?stepr142_5) (AllReadyH.nil)
        case hor142_5 => simp only [Mqa, Mqb, Mqc]; exact rfl
        case stepr142_5 =>
          go_simp
          go_at_call 46
          refine (spec_l3Match w.heap.size Q1 n c1 Q2 m c2 za zb side oi oa op oq mode ua140 hsd hC hb0.size hn20 hm20 hqa hqb (by omega) hoq2).mono ?_
          rintro e u143 ⟨⟨r1, r2, rv, n1, n2, NR, rfl, hM, hMr, hNR⟩, hbq⟩
          have hkp := Lib.hid (fun (p : Addr) (hp : p.block < ua140.heap.size) => hbq.cell (p := p) hp)
          have hG0 := heap_lt k0
          have hG1 := heap_lt k1
          replace k0 := (hbq.block _ (heap_lt k0)).trans k0
          replace k1 := (hbq.block _ (heap_lt k1)).trans k1
          replace k2 := (hbq.block _ (heap_lt k2)).trans k2
          replace hb0 := hb0.trans (hbq.mono hb0.size)
          replace kx := (hbq.block _ (heap_lt kx)).trans kx
          obtain ⟨R1, d1, R2, d2, rfl, rfl⟩ := hM.slices
          obtain ⟨R3, d3, rfl, _, _⟩ := own_slice hMr
          clear hbq hC hCb
          refine hK.out _ _ ?hSr142_5 (fun hHeld => ?restr142_5)
          case hSr142_5 => exact ⟨(hkp.out ⟨w.heap.size, 0, none⟩ hG0).trans hHeld.1, (hkp.out ⟨w.heap.size, 1, none⟩ hG0).trans hHeld.2.1, (hkp.out ⟨w.heap.size + 1, 0, none⟩ hG1).trans hHeld.2.2.1, (hkp.out ⟨w.heap.size + 1, 1, none⟩ hG1).trans hHeld.2.2.2.1, (hkp.out ⟨w.heap.size + 1, 2, none⟩ hG1).trans hHeld.2.2.2.2.1, (hkp.out ⟨w.heap.size + 1, 3, none⟩ hG1).trans hHeld.2.2.2.2.2⟩
          clear hK K
          try simp only [Act.put, Mqd, Mqe, Mqf]
          refine wpAnyH_take (i := 6) (oi := ?oim144) (v := ?vm144) ?him144 (by kernel_rfl) (by kernel_rfl) (by kernel_rfl) ?hQm144 (Or.inl ⟨?hwm144, ?hym144⟩) (by assumption) ?restm144
          case him144 => simp only [Mqa, Mqb, Mqc]; exact rfl
          case hQm144 => exact fun _ _ _ h => h
          case hwm144 => rfl
          case hym144 => ((intro w hSw; (try dsimp only at hSw); go_simp) <;> with_reducible rfl)
          try simp only [Act.put, Mqd, Mqe, Mqf]
          refine wpAnyH_take (i := 7) (oi := ?oim145) (v := ?vm145) ?him145 (by kernel_rfl) (by kernel_rfl) (by kernel_rfl) ?hQm145 (Or.inl ⟨?hwm145, ?hym145⟩) (by assumption) ?restm145
          case him145 => simp only [Mqa, Mqb, Mqc]; exact rfl
          case hQm145 => exact fun _ _ _ h => h
          case hwm145 => rfl
          case hym145 => ((intro w hSw; (try dsimp only at hSw); go_simp) <;> with_reducible rfl)
          try simp only [Act.put, Mqd, Mqe, Mqf]
          refine wpAnyH_take (i := 8) (oi := ?oim146) (v := ?vm146) ?him146 (by kernel_rfl) (by kernel_rfl) (by kernel_rfl) ?hQm146 (Or.inl ⟨?hwm146, ?hym146⟩) (by assumption) ?restm146
          case him146 => simp only [Mqa, Mqb, Mqc]; exact rfl
          case hQm146 => exact fun _ _ _ h => h
          case hwm146 => rfl
          case hym146 => ((intro w hSw; (try dsimp only at hSw); go_simp) <;> with_reducible rfl)
          try simp only [Act.put, Mqd, Mqe, Mqf]
          refine wpAnyH_take (i := 9) (oi := ?oim147) (v := ?vm147) ?him147 (by kernel_rfl) (by kernel_rfl) (by kernel_rfl) ?hQm147 (Or.inl ⟨?hwm147, ?hym147⟩) (by assumption) ?restm147
          case him147 => simp only [Mqa, Mqb, Mqc]; exact rfl
          case hQm147 => exact fun _ _ _ h => h
          case hwm147 => rfl
          case hym147 => ((intro w hSw; (try dsimp only at hSw); go_simp) <;> with_reducible rfl)
          try simp only [Act.put, Mqd, Mqe, Mqf]
          refine wpAnyH_ready (rs := [11]) (by kernel_rfl) (by simp) ?_
          refine AllReadyH.cons (o := ?or148_11) ?hor148_11 (fun K hK => ?stepr148_11) (AllReadyH.nil)
          case hor148_11 => simp only [Mqa, Mqb, Mqc]; exact rfl
          case stepr148_11 =>
            obtain ⟨y0, y1⟩ := rcell2 kx
            have z0 := mfree kx 0
            have z1 := mfree kx 1
            go_simp
            clear y0 y1 z0 z1
            have hq0 : gx ≠ w.heap.size := by omega
            have hq1 : gx ≠ w.heap.size + 1 := by omega
            refine hK.out _ _ ?hSr148_11 (fun hHeld => ?restr148_11)
            case hSr148_11 => exact ⟨(set2_far hq0).trans hHeld.1, (set2_far hq0).trans hHeld.2.1, (set2_far hq1).trans hHeld.2.2.1, (set2_far hq1).trans hHeld.2.2.2.1, (set2_far hq1).trans hHeld.2.2.2.2.1, (set2_far hq1).trans hHeld.2.2.2.2.2⟩
            clear hK K
            try simp only [Act.put, Mqd, Mqe, Mqf]
            refine wpAnyH_take (i := 12) (oi := ?oim149) (v := ?vm149) ?him149 (by kernel_rfl) (by kernel_rfl) (by kernel_rfl) ?hQm149 (Or.inl ⟨?hwm149, ?hym149⟩) (by assumption) ?restm149
            case him149 => simp only [Mqa, Mqb, Mqc]; exact rfl
            case hQm149 => exact fun _ _ _ h => h
            case hwm149 => rfl
            case hym149 => ((intro w hSw; (try dsimp only at hSw); go_simp) <;> with_reducible rfl)
            try simp only [Act.put, Mqd, Mqe, Mqf]
            refine wpAnyH_take (i := 13) (oi := ?oim150) (v := ?vm150) ?him150 (by kernel_rfl) (by kernel_rfl) (by kernel_rfl) ?hQm150 (Or.inl ⟨?hwm150, ?hym150⟩) (by assumption) ?restm150
            case him150 => simp only [Mqa, Mqb, Mqc]; exact rfl
            case hQm150 => exact fun _ _ _ h => h
            case hwm150 => rfl
            case hym150 => ((intro w hSw; (try dsimp only at hSw); go_simp) <;> with_reducible rfl)
            try simp only [Act.put, Mqd, Mqe, Mqf]
            refine wpAnyH_done (by kernel_rfl) ?_ _
            clear hHeld b0 b1 o0 o1 o2 o3
            have hgx : w.heap.size + 3 ≤ gx := by omega
            have kx2 := mset2 (u := (.slice R1 n1 d1)) (v := (.slice R2 n2 d2)) kx
            have k22 := mset2_other (u := (.slice R1 n1 d1)) (v := (.slice R2 n2 d2)) k2 (show w.heap.size + 1 + 1 ≠ gx by omega)
            have hbx := (hb0.setCell (p := ⟨gx, 0, none⟩) (show w.heap.size ≤ gx by omega) (.slice R1 n1 d1)).setCell (p := ⟨gx, 1, none⟩) (show w.heap.size ≤ gx by omega) (.slice R2 n2 d2)
            have fx : ∀ {v : Value} {k : Nat} {z : List Int}, u143.ownsRow w.heap.size 28 4 v k (nums z) → v.ownBlock ≠ some gx := fun h e => mt_apart h (own_of_box kx) (by decide) gx e rfl
            have hMx : TwoRows ((u143.setCell ⟨gx, 0, none⟩ (.slice R1 n1 d1)).setCell ⟨gx, 1, none⟩ (.slice R2 n2 d2)) w.heap.size (.slice R1 n1 d1) n1 (mZ1 true side oi oa op oq mode za zb) (.slice R2 n2 d2) n2 (mZ2 true side oi oa op oq mode za zb) := ⟨own_set_ne (own_set_ne hM.one (fx hM.one)) (fx hM.one), own_set_ne (own_set_ne hM.two (fx hM.two)) (fx hM.two), hM.apart⟩
            have hMrx := own_set_kind (i := 1) (u := (.slice R2 n2 d2)) (own_set_kind (i := 0) (u := (.slice R1 n1 d1)) hMr kx (by decide)) (heap_set0 kx) (by decide)
            clear hM hMr kx k2 hb0 fx
            generalize ((u143.setCell ⟨gx, 0, none⟩ (.slice R1 n1 d1)).setCell ⟨gx, 1, none⟩ (.slice R2 n2 d2)) = wz at *
            obtain ⟨y0, y1⟩ := rcell2 kx2
            obtain ⟨r0, r1⟩ := rcell2 k22
            have f0 := mfree k22 0
            have f1 := mfree k22 1
            have kf := mset2 (u := (.slice R1 n1 d1)) (v := (.slice R2 n2 d2)) k22
            have hbf := (hbx.setCell (p := ⟨w.heap.size + 1 + 1, 0, none⟩) (show w.heap.size ≤ w.heap.size + 1 + 1 by omega) (.slice R1 n1 d1)).setCell (p := ⟨w.heap.size + 1 + 1, 1, none⟩) (show w.heap.size ≤ w.heap.size + 1 + 1 by omega) (.slice R2 n2 d2)
            have hTf : TwoRows ((wz.setCell ⟨w.heap.size + 1 + 1, 0, none⟩ (.slice R1 n1 d1)).setCell ⟨w.heap.size + 1 + 1, 1, none⟩ (.slice R2 n2 d2)) w.heap.size (.slice R1 n1 d1) n1 (mZ1 true side oi oa op oq mode za zb) (.slice R2 n2 d2) n2 (mZ2 true side oi oa op oq mode za zb) := ⟨own_set_kind (own_set_kind hMx.one k22 (by decide)) (heap_set0 k22) (by decide), own_set_kind (own_set_kind hMx.two k22 (by decide)) (heap_set0 k22) (by decide), hMx.apart⟩
            have hRf := own_set_kind (i := 1) (u := (.slice R2 n2 d2)) (own_set_kind (i := 0) (u := (.slice R1 n1 d1)) hMrx k22 (by decide)) (heap_set0 k22) (by decide)
            have HKF := Lib.hid kf
            have HBF := Lib.hid hbf
            have HTF := Lib.hid hTf
            have HRF := Lib.hid hRf
            clear kf hbf hTf hRf hMx hMrx kx2 k22 hbx k0 k1
            go_wp2_with fail
            obtain ⟨g0, g1⟩ := rcell2 HKF.out
            exact bodyPost_ret (v := .tuple #[.agg #[(.slice R1 n1 d1), (.slice R2 n2 d2)], .slice R3 NR d3, .int .i64 (mLL true side oi oa op oq mode za zb), .bool true]) (by simp [results, Try.results10, go_sem, g0, g1]) rfl ⟨by rw [HRG.out]; exact ⟨_, _, _, n1, n2, NR, rfl, HTF.out, HRF.out⟩, HBF.out⟩
    case stepr126_10 =>
      go_simp
      have hbq : Below w1.heap.size w1.drew ((w1.alloc (.cells #[.slice none 0 0, .slice none 0 0] 26)).drew) := (Below.refl w1.drew.heap.size w1.drew).alloc (Nat.le_refl _) (.cells #[.slice none 0 0, .slice none 0 0] 26)
      have hGX : w.heap.size + 1 + 1 < w1.heap.size := heap_lt k2
      have hkp := Lib.hid (fun (p : Addr) (hp : p.block < w1.drew.heap.size) => hbq.cell (p := p) hp)
      have hG0 := heap_lt k0
      have hG1 := heap_lt k1
      replace k0 := (hbq.block _ (heap_lt k0)).trans k0
      replace k1 := (hbq.block _ (heap_lt k1)).trans k1
      replace k2 := (hbq.block _ (heap_lt k2)).trans k2
      replace hb0 := hb0.trans (hbq.mono hb0.size)
      replace hA := hA.later hbq
      replace hZb := hZb.later hbq
      have kx := show ((w1.alloc (.cells #[.slice none 0 0, .slice none 0 0] 26)).drew).heap[w1.heap.size]? = _ from heap_alloc_new w1 (.cells #[.slice none 0 0, .slice none 0 0] 26)
      generalize (w1.alloc (.cells #[.slice none 0 0, .slice none 0 0] 26)).drew = ua151 at *
      generalize w1.heap.size = gx at *
      clear hbq
      refine hK.out _ _ ?hSr126_10 (fun hHeld => ?restr126_10)
      case hSr126_10 => exact ⟨(hkp.out ⟨w.heap.size, 0, none⟩ hG0).trans hHeld.1, (hkp.out ⟨w.heap.size, 1, none⟩ hG0).trans hHeld.2.1, (hkp.out ⟨w.heap.size + 1, 0, none⟩ hG1).trans hHeld.2.2.1, (hkp.out ⟨w.heap.size + 1, 1, none⟩ hG1).trans hHeld.2.2.2.1, (hkp.out ⟨w.heap.size + 1, 2, none⟩ hG1).trans hHeld.2.2.2.2.1, (hkp.out ⟨w.heap.size + 1, 3, none⟩ hG1).trans hHeld.2.2.2.2.2⟩
      clear hK K
      try simp only [Act.put, Mqd, Mqe, Mqf]
      refine wpAnyH_ready (rs := [1]) (by kernel_rfl) (by simp) ?_
      refine AllReadyH.cons (o := ?or153_1) ?hor153_1 (fun K hK => ?stepr153_1) (AllReadyH.nil)
      case hor153_1 => simp only [Mqa, Mqb, Mqc]; exact rfl
      case stepr153_1 =>
        go_simp
        go_at_call 47
        refine (spec_l2CopyO A n c B m d za zb ua151 hA hZb (by omega) (by omega) hAn hBn).mono ?_
        rintro e u154 ⟨⟨q1, q2, rfl, hC, _, _⟩, hbq⟩
        have hCb : ua151.heap.size ≤ u154.heap.size := hbq.size
        have hCw := hb0.size
        replace hC := hC.mono hCw
        obtain ⟨Q1, c1, Q2, c2, rfl, rfl⟩ := hC.slices
        have hkp := Lib.hid (fun (p : Addr) (hp : p.block < ua151.heap.size) => hbq.cell (p := p) hp)
        have hG0 := heap_lt k0
        have hG1 := heap_lt k1
        replace k0 := (hbq.block _ (heap_lt k0)).trans k0
        replace k1 := (hbq.block _ (heap_lt k1)).trans k1
        replace k2 := (hbq.block _ (heap_lt k2)).trans k2
        replace hb0 := hb0.trans (hbq.mono hb0.size)
        replace kx := (hbq.block _ (heap_lt kx)).trans kx
        clear hbq hA hZb
        refine hK.out _ _ ?hSr153_1 (fun hHeld => ?restr153_1)
        case hSr153_1 => exact ⟨(hkp.out ⟨w.heap.size, 0, none⟩ hG0).trans hHeld.1, (hkp.out ⟨w.heap.size, 1, none⟩ hG0).trans hHeld.2.1, (hkp.out ⟨w.heap.size + 1, 0, none⟩ hG1).trans hHeld.2.2.1, (hkp.out ⟨w.heap.size + 1, 1, none⟩ hG1).trans hHeld.2.2.2.1, (hkp.out ⟨w.heap.size + 1, 2, none⟩ hG1).trans hHeld.2.2.2.2.1, (hkp.out ⟨w.heap.size + 1, 3, none⟩ hG1).trans hHeld.2.2.2.2.2⟩
        clear hK K
        try simp only [Act.put, Mqd, Mqe, Mqf]
        refine wpAnyH_ready (rs := [5]) (by kernel_rfl) (by simp) ?_
        refine AllReadyH.cons (o := ?or155_5) ?hor155_5 (fun K hK => ?stepr155_5) (AllReadyH.nil)
        case hor155_5 => simp only [Mqa, Mqb, Mqc]; exact rfl
        case stepr155_5 =>
          go_simp
          go_at_call 46
          refine (spec_l3Match w.heap.size Q1 n c1 Q2 m c2 za zb side oi oa op oq mode u154 hsd hC hb0.size hn20 hm20 hqa hqb (by omega) hoq2).mono ?_
          rintro e u156 ⟨⟨r1, r2, rv, n1, n2, NR, rfl, hM, hMr, hNR⟩, hbq⟩
          have hkp := Lib.hid (fun (p : Addr) (hp : p.block < u154.heap.size) => hbq.cell (p := p) hp)
          have hG0 := heap_lt k0
          have hG1 := heap_lt k1
          replace k0 := (hbq.block _ (heap_lt k0)).trans k0
          replace k1 := (hbq.block _ (heap_lt k1)).trans k1
          replace k2 := (hbq.block _ (heap_lt k2)).trans k2
          replace hb0 := hb0.trans (hbq.mono hb0.size)
          replace kx := (hbq.block _ (heap_lt kx)).trans kx
          obtain ⟨R1, d1, R2, d2, rfl, rfl⟩ := hM.slices
          obtain ⟨R3, d3, rfl, _, _⟩ := own_slice hMr
          clear hbq hC hCb
          refine hK.out _ _ ?hSr155_5 (fun hHeld => ?restr155_5)
          case hSr155_5 => exact ⟨(hkp.out ⟨w.heap.size, 0, none⟩ hG0).trans hHeld.1, (hkp.out ⟨w.heap.size, 1, none⟩ hG0).trans hHeld.2.1, (hkp.out ⟨w.heap.size + 1, 0, none⟩ hG1).trans hHeld.2.2.1, (hkp.out ⟨w.heap.size + 1, 1, none⟩ hG1).trans hHeld.2.2.2.1, (hkp.out ⟨w.heap.size + 1, 2, none⟩ hG1).trans hHeld.2.2.2.2.1, (hkp.out ⟨w.heap.size + 1, 3, none⟩ hG1).trans hHeld.2.2.2.2.2⟩
          clear hK K
          try simp only [Act.put, Mqd, Mqe, Mqf]
          refine wpAnyH_take (i := 6) (oi := ?oim157) (v := ?vm157) ?him157 (by kernel_rfl) (by kernel_rfl) (by kernel_rfl) ?hQm157 (Or.inl ⟨?hwm157, ?hym157⟩) (by assumption) ?restm157
          case him157 => simp only [Mqa, Mqb, Mqc]; exact rfl
          case hQm157 => exact fun _ _ _ h => h
          case hwm157 => rfl
          case hym157 => ((intro w hSw; (try dsimp only at hSw); go_simp) <;> with_reducible rfl)
          try simp only [Act.put, Mqd, Mqe, Mqf]
          refine wpAnyH_take (i := 7) (oi := ?oim158) (v := ?vm158) ?him158 (by kernel_rfl) (by kernel_rfl) (by kernel_rfl) ?hQm158 (Or.inl ⟨?hwm158, ?hym158⟩) (by assumption) ?restm158
          case him158 => simp only [Mqa, Mqb, Mqc]; exact rfl
          case hQm158 => exact fun _ _ _ h => h
          case hwm158 => rfl
          case hym158 => ((intro w hSw; (try dsimp only at hSw); go_simp) <;> with_reducible rfl)
          try simp only [Act.put, Mqd, Mqe, Mqf]
          refine wpAnyH_take (i := 8) (oi := ?oim159) (v := ?vm159) ?him159 (by kernel_rfl) (by kernel_rfl) (by kernel_rfl) ?hQm159 (Or.inl ⟨?hwm159, ?hym159⟩) (by assumption) ?restm159
          case him159 => simp only [Mqa, Mqb, Mqc]; exact rfl
          case hQm159 => exact fun _ _ _ h => h
          case hwm159 => rfl
          case hym159 => ((intro w hSw; (try dsimp only at hSw); go_simp) <;> with_reducible rfl)
          try simp only [Act.put, Mqd, Mqe, Mqf]
          refine wpAnyH_take (i := 9) (oi := ?oim160) (v := ?vm160) ?him160 (by kernel_rfl) (by kernel_rfl) (by kernel_rfl) ?hQm160 (Or.inl ⟨?hwm160, ?hym160⟩) (by assumption) ?restm160
          case him160 => simp only [Mqa, Mqb, Mqc]; exact rfl
          case hQm160 => exact fun _ _ _ h => h
          case hwm160 => rfl
          case hym160 => ((intro w hSw; (try dsimp only at hSw); go_simp) <;> with_reducible rfl)
          try simp only [Act.put, Mqd, Mqe, Mqf]
          refine wpAnyH_ready (rs := [11]) (by kernel_rfl) (by simp) ?_
          refine AllReadyH.cons (o := ?or161_11) ?hor161_11 (fun K hK => ?stepr161_11) (AllReadyH.nil)
          case hor161_11 => simp only [Mqa, Mqb, Mqc]; exact rfl
          case stepr161_11 =>
            obtain ⟨y0, y1⟩ := rcell2 kx
            have z0 := mfree kx 0
            have z1 := mfree kx 1
            go_simp
            clear y0 y1 z0 z1
            have hq0 : gx ≠ w.heap.size := by omega
            have hq1 : gx ≠ w.heap.size + 1 := by omega
            refine hK.out _ _ ?hSr161_11 (fun hHeld => ?restr161_11)
            case hSr161_11 => exact ⟨(set2_far hq0).trans hHeld.1, (set2_far hq0).trans hHeld.2.1, (set2_far hq1).trans hHeld.2.2.1, (set2_far hq1).trans hHeld.2.2.2.1, (set2_far hq1).trans hHeld.2.2.2.2.1, (set2_far hq1).trans hHeld.2.2.2.2.2⟩
            clear hK K
            try simp only [Act.put, Mqd, Mqe, Mqf]
            refine wpAnyH_take (i := 12) (oi := ?oim162) (v := ?vm162) ?him162 (by kernel_rfl) (by kernel_rfl) (by kernel_rfl) ?hQm162 (Or.inl ⟨?hwm162, ?hym162⟩) (by assumption) ?restm162
            case him162 => simp only [Mqa, Mqb, Mqc]; exact rfl
            case hQm162 => exact fun _ _ _ h => h
            case hwm162 => rfl
            case hym162 => ((intro w hSw; (try dsimp only at hSw); go_simp) <;> with_reducible rfl)
            try simp only [Act.put, Mqd, Mqe, Mqf]
            refine wpAnyH_take (i := 13) (oi := ?oim163) (v := ?vm163) ?him163 (by kernel_rfl) (by kernel_rfl) (by kernel_rfl) ?hQm163 (Or.inl ⟨?hwm163, ?hym163⟩) (by assumption) ?restm163
            case him163 => simp only [Mqa, Mqb, Mqc]; exact rfl
            case hQm163 => exact fun _ _ _ h => h
            case hwm163 => rfl
            case hym163 => ((intro w hSw; (try dsimp only at hSw); go_simp) <;> with_reducible rfl)
            try simp only [Act.put, Mqd, Mqe, Mqf]
            refine wpAnyH_done (by kernel_rfl) ?_ _
            clear hHeld b0 b1 o0 o1 o2 o3
            have hgx : w.heap.size + 3 ≤ gx := by omega
            have kx2 := mset2 (u := (.slice R1 n1 d1)) (v := (.slice R2 n2 d2)) kx
            have k22 := mset2_other (u := (.slice R1 n1 d1)) (v := (.slice R2 n2 d2)) k2 (show w.heap.size + 1 + 1 ≠ gx by omega)
            have hbx := (hb0.setCell (p := ⟨gx, 0, none⟩) (show w.heap.size ≤ gx by omega) (.slice R1 n1 d1)).setCell (p := ⟨gx, 1, none⟩) (show w.heap.size ≤ gx by omega) (.slice R2 n2 d2)
            have fx : ∀ {v : Value} {k : Nat} {z : List Int}, u156.ownsRow w.heap.size 28 4 v k (nums z) → v.ownBlock ≠ some gx := fun h e => mt_apart h (own_of_box kx) (by decide) gx e rfl
            have hMx : TwoRows ((u156.setCell ⟨gx, 0, none⟩ (.slice R1 n1 d1)).setCell ⟨gx, 1, none⟩ (.slice R2 n2 d2)) w.heap.size (.slice R1 n1 d1) n1 (mZ1 true side oi oa op oq mode za zb) (.slice R2 n2 d2) n2 (mZ2 true side oi oa op oq mode za zb) := ⟨own_set_ne (own_set_ne hM.one (fx hM.one)) (fx hM.one), own_set_ne (own_set_ne hM.two (fx hM.two)) (fx hM.two), hM.apart⟩
            have hMrx := own_set_kind (i := 1) (u := (.slice R2 n2 d2)) (own_set_kind (i := 0) (u := (.slice R1 n1 d1)) hMr kx (by decide)) (heap_set0 kx) (by decide)
            clear hM hMr kx k2 hb0 fx
            generalize ((u156.setCell ⟨gx, 0, none⟩ (.slice R1 n1 d1)).setCell ⟨gx, 1, none⟩ (.slice R2 n2 d2)) = wz at *
            obtain ⟨y0, y1⟩ := rcell2 kx2
            obtain ⟨r0, r1⟩ := rcell2 k22
            have f0 := mfree k22 0
            have f1 := mfree k22 1
            have kf := mset2 (u := (.slice R1 n1 d1)) (v := (.slice R2 n2 d2)) k22
            have hbf := (hbx.setCell (p := ⟨w.heap.size + 1 + 1, 0, none⟩) (show w.heap.size ≤ w.heap.size + 1 + 1 by omega) (.slice R1 n1 d1)).setCell (p := ⟨w.heap.size + 1 + 1, 1, none⟩) (show w.heap.size ≤ w.heap.size + 1 + 1 by omega) (.slice R2 n2 d2)
            have hTf : TwoRows ((wz.setCell ⟨w.heap.size + 1 + 1, 0, none⟩ (.slice R1 n1 d1)).setCell ⟨w.heap.size + 1 + 1, 1, none⟩ (.slice R2 n2 d2)) w.heap.size (.slice R1 n1 d1) n1 (mZ1 true side oi oa op oq mode za zb) (.slice R2 n2 d2) n2 (mZ2 true side oi oa op oq mode za zb) := ⟨own_set_kind (own_set_kind hMx.one k22 (by decide)) (heap_set0 k22) (by decide), own_set_kind (own_set_kind hMx.two k22 (by decide)) (heap_set0 k22) (by decide), hMx.apart⟩
            have hRf := own_set_kind (i := 1) (u := (.slice R2 n2 d2)) (own_set_kind (i := 0) (u := (.slice R1 n1 d1)) hMrx k22 (by decide)) (heap_set0 k22) (by decide)
            have HKF := Lib.hid kf
            have HBF := Lib.hid hbf
            have HTF := Lib.hid hTf
            have HRF := Lib.hid hRf
            clear kf hbf hTf hRf hMx hMrx kx2 k22 hbx k0 k1
            go_wp2_with fail
            obtain ⟨g0, g1⟩ := rcell2 HKF.out
            exact bodyPost_ret (v := .tuple #[.agg #[(.slice R1 n1 d1), (.slice R2 n2 d2)], .slice R3 NR d3, .int .i64 (mLL true side oi oa op oq mode za zb), .bool true]) (by simp [results, Try.results10, go_sem, g0, g1]) rfl ⟨by rw [HRG.out]; exact ⟨_, _, _, n1, n2, NR, rfl, HTF.out, HRF.out⟩, HBF.out⟩
  · have HRG := Lib.hid hrg
    rw [hrg]
    clear hrg hA hZb
    obtain ⟨r0, r1⟩ := rcell2 k2
    have f0 := mfree k2 0
    have f1 := mfree k2 1
    have kf := mset2 (u := (.slice none 0 0)) (v := (.slice none 0 0)) k2
    have hbf := (hb0.setCell (p := ⟨w.heap.size + 1 + 1, 0, none⟩) (show w.heap.size ≤ w.heap.size + 1 + 1 by omega) (.slice none 0 0)).setCell (p := ⟨w.heap.size + 1 + 1, 1, none⟩) (show w.heap.size ≤ w.heap.size + 1 + 1 by omega) (.slice none 0 0)
    have HKF := Lib.hid kf
    have HBF := Lib.hid hbf
    clear kf hbf
    go_wp2_with fail
    obtain ⟨g0, g1⟩ := rcell2 HKF.out
    exact bodyPost_ret (v := .tuple #[.agg #[(.slice none 0 0), (.slice none 0 0)], (.slice none 0 0), .int .i64 0, .bool false]) (by simp [results, Try.results10, go_sem, g0, g1]) rfl ⟨by rw [HRG.out]; exact MAns.no, HBF.out⟩
end Go.Proofs.Ytempggikcpminaa
