/-
  The program's taker: cancelling, trading, avoiding, meeting.
-/
import Derived.Test.YtnldfbcelakimaaMtL
import Derived.Deep.QuietTactic
import Derived.BigQuiet
namespace Go.Proofs.Ytnldfbcelakimaa
open Go.RowKit Wire

theorem tcell6 {w : World} {S : Nat} {a b c d e f : Value} {T : TypeId} (h : w.heap[S]? = some (.cells #[a, b, c, d, e, f] T (0, 0))) : w.cell? ⟨S, 0, none⟩ = some a ∧ w.cell? ⟨S, 1, none⟩ = some b ∧ w.cell? ⟨S, 2, none⟩ = some c ∧ w.cell? ⟨S, 3, none⟩ = some d ∧ w.cell? ⟨S, 4, none⟩ = some e ∧ w.cell? ⟨S, 5, none⟩ = some f := by
  refine ⟨?_, ?_, ?_, ?_, ?_, ?_⟩ <;> simp [World.cell?, h]
theorem tset6_5 {w : World} {S : Nat} {a b c d e f u : Value} {T : TypeId} (h : w.heap[S]? = some (.cells #[a, b, c, d, e, f] T (0, 0))) : (w.setCell ⟨S, 5, none⟩ u).heap[S]? = some (.cells #[a, b, c, d, e, u] T (0, 0)) := by
  simp [World.setCell, Array.getElem?_modify, h]
theorem tset6_3 {w : World} {S : Nat} {a b c d e f u : Value} {T : TypeId} (h : w.heap[S]? = some (.cells #[a, b, c, d, e, f] T (0, 0))) : (w.setCell ⟨S, 3, none⟩ u).heap[S]? = some (.cells #[a, b, c, u, e, f] T (0, 0)) := by
  simp [World.setCell, Array.getElem?_modify, h]
/-- all but two blocks and a row is as it was -/
structure But (w w' : World) (t g : Nat) (r : Option Nat) : Prop where
  os : w'.os = w.os
  tape : w'.tape = w.tape
  output : w'.output = w.output
  size : w.heap.size ≤ w'.heap.size
  block : ∀ k, k < w.heap.size → k ≠ t → k ≠ g → some k ≠ r → w'.heap[k]? = w.heap[k]?
theorem But.refl (w : World) (t g : Nat) (r : Option Nat) : But w w t g r := ⟨rfl, rfl, rfl, Nat.le_refl _, fun _ _ _ _ _ => rfl⟩
theorem But.drew {w w' : World} {t g : Nat} {r : Option Nat} (h : But w w' t g r) : But w w'.drew t g r := ⟨h.os, h.tape, h.output, h.size, h.block⟩
theorem But.later {w w' w2 : World} {t g : Nat} {r : Option Nat} (h : But w w' t g r) (hb : Below w'.heap.size w' w2) : But w w2 t g r :=
  ⟨hb.os.trans h.os, hb.tape.trans h.tape, hb.output.trans h.output, Nat.le_trans h.size hb.size, fun k hk h1 h2 h3 => (hb.block k (Nat.lt_of_lt_of_le hk h.size)).trans (h.block k hk h1 h2 h3)⟩
theorem But.grown {w w' w2 : World} {t g : Nat} {r r2 : Option Nat} (h : But w w' t g r) (hg : w'.grownBy w2 r2) (hr : r2 = r ∨ ∀ k, r2 = some k → w.heap.size ≤ k) : But w w2 t g r :=
  ⟨hg.os.trans h.os, hg.tape.trans h.tape, hg.output.trans h.output, Nat.le_trans h.size hg.size, fun k hk h1 h2 h3 => (hg.block k (Nat.lt_of_lt_of_le hk h.size) (fun e => by
    rcases hr with rfl | hr
    · exact h3 e
    · have := hr k e.symm; omega)).trans (h.block k hk h1 h2 h3)⟩
theorem But.setT {w w' : World} {t g : Nat} {r : Option Nat} (h : But w w' t g r) (i : Nat) (u : Value) : But w (w'.setCell ⟨t, i, none⟩ u) t g r :=
  ⟨h.os, h.tape, h.output, by simpa [World.setCell] using h.size, fun k hk h1 h2 h3 => (Below.heap_setCell w' ⟨t, i, none⟩ u k h1).trans (h.block k hk h1 h2 h3)⟩
theorem But.setG {w w' : World} {t g : Nat} {r : Option Nat} (h : But w w' t g r) (i : Nat) (u : Value) : But w (w'.setCell ⟨g, i, none⟩ u) t g r :=
  ⟨h.os, h.tape, h.output, by simpa [World.setCell] using h.size, fun k hk h1 h2 h3 => (Below.heap_setCell w' ⟨g, i, none⟩ u k h2).trans (h.block k hk h1 h2 h3)⟩
theorem But.trans {w w1 w2 : World} {t g : Nat} {r r2 : Option Nat} (h : But w w1 t g r) (k : But w1 w2 t g r2) (hr : r2 = r ∨ ∀ k, r2 = some k → w.heap.size ≤ k) : But w w2 t g r :=
  ⟨k.os.trans h.os, k.tape.trans h.tape, k.output.trans h.output, Nat.le_trans h.size k.size, fun j hj h1 h2 h3 => (k.block j (Nat.lt_of_lt_of_le hj h.size) h1 h2 (fun e => by
    rcases hr with rfl | hr
    · exact h3 e
    · have := hr j e.symm; omega)).trans (h.block j hj h1 h2 h3)⟩
set_option maxRecDepth 100000 in
theorem impl_orderRec (k i a p c : Int) (w : World) :
    Calls Try.prog 86 #[.int .i64 k, .agg #[.int .i64 i, .int .i64 a, .int .i64 p, .int .i64 c]] w fun e w' => e = .returned (.agg #[.int .i64 0, .int .i64 k, .int .i64 0, .int .i64 a, .int .i64 i, .int .i64 0, .int .i64 p, .int .i64 c]) ∧ Below w.heap.size w w' := by
  go_enter Try.func86, Try.ntmps86
  go_wp2_with fail
  exact bodyPost_ret (v := .agg #[.int .i64 0, .int .i64 k, .int .i64 0, .int .i64 a, .int .i64 i, .int .i64 0, .int .i64 p, .int .i64 c]) (by simp [results, Try.results86, go_sem]) rfl ⟨rfl, by go_grown⟩
theorem set_far5 {w : World} {t j : Nat} {u : Value} (h : j ≠ 5) : (w.setCell ⟨t, 5, none⟩ u).cell? ⟨t, j, none⟩ = w.cell? ⟨t, j, none⟩ := by
  simp only [World.cell?, World.setCell, Array.getElem?_modify, if_pos]
  cases e : w.heap[t]? with
  | none => simp
  | some o => cases o <;> simp [Ne.symm h]
theorem step_append_at {P : Program} (w : World) {ops : Array Oper} {o : Oper} {a : Act} {K : Act → World → Prop} {Q : Exit → Act → World → Prop} {E : Prop} (hgd : o.guard = none) (s x : Operand) (t : TypeId)
    (ho : o.op = .call { callee := .builtin .append, args := #[s, x], argTypes := #[t, t] })
    (base : Nat) (e : TypeId) (i : TypeInfo) (z : Value) (size bytes : Nat) (ht : P.underlying t = some (.slice e)) (hi : P.info? e = some i) (hz : i.zero = some z)
    (hsize : i.size = size) (hby : i.bytes = bytes) (hzs : z.cells.size = size) (hsz : 0 < size)
    (v : Value) (n : Nat) (xs : List Value) (hs : a.eval s = v) (hown : w.ownsRow base e size v n xs)
    (ad : Addr) (m c : Nat) (news : List Value) (hx : a.eval x = .slice (some ad) m c) (hl : news.length = m * size) (hnews : ∀ j u, news[j]? = some u → w.cell? (ad.add j) = some u) (h1 : ∀ u ∈ news, u.oneCell' = true)
    (h63 : n + m ≤ maxLen) (hbytes : (n + m) * bytes ≤ 140737488355328) (hbase : base ≤ w.heap.size)
    (h : ∀ v' w', w'.ownsRow base e size v' (n + m) (xs ++ news) → w.grownBy w' v.ownBlock → (v' = .slice none 0 0 ↔ v = .slice none 0 0 ∧ m = 0) → (v'.ownBlock = v.ownBlock ∨ v'.ownBlock = some w.heap.size) → K (a.put o.dst v') w') :
    if Region.wanted o (yielded ops a.tmps) = true then Oper.wp P o a w K Q else E := by
  rw [if_pos (by simp [Region.wanted, hgd])]
  obtain ⟨v', w', hr, h2, h3, h4, h5⟩ := run_append_own_at (P := P) w base t o.type e i z size bytes ht hi hz hsize hby hzs hsz v n xs hown ad m c news hl hnews h1 h63 hbytes hbase
  unfold Oper.wp execOp
  simp only [ho, resolve, invoke, builtin, Sem.run_bind, Sem.run_pure, Result.andThen_ok, List.map_toArray, List.map_cons, List.map_nil, hs, hx, hr]
  exact h v' w' h2 h3 h4 h5
/-- what meeting a resting order comes to -/
def MeetRel (oi oa op q mode i a p c : Int) (N : Nat) (R : List Int) (q' : Int) (N' : Nat) (R' : List Int) (c' : Int) : Prop :=
  (a = oa ∧ mode = 1 ∧ q' = 0 ∧ N' = N + 1 ∧ R' = R ++ canR oi oa op q ∧ c' = c) ∨ (a = oa ∧ mode = 2 ∧ q' = q ∧ N' = N + 1 ∧ R' = R ++ canR i a p c ∧ c' = 0) ∨ (a = oa ∧ mode ≠ 1 ∧ mode ≠ 2 ∧ q' = 0 ∧ N' = N + 1 + 1 ∧ R' = R ++ canR i a p c ++ canR oi oa op q ∧ c' = 0) ∨
  (a ≠ oa ∧ q' = q - min q c ∧ N' = N + 1 ∧ R' = R ++ filR oi oa i p (min q c) ∧ c' = c - min q c)
end Go.Proofs.Ytnldfbcelakimaa
