/-
  The program's taker: cancelling, trading, avoiding, meeting.
-/
import Derived.Test.YtempggikcpminaaMtL
import Derived.Deep.QuietTactic
import Derived.BigQuiet
namespace Go.Proofs.Ytempggikcpminaa
open Go.RowKit Wire

theorem tcell6 {w : World} {S : Nat} {a b c d e f : Value} {T : TypeId} (h : w.heap[S]? = some (.cells #[a, b, c, d, e, f] T (0, 0))) : w.cell? ⟨S, 0, none⟩ = some a ∧ w.cell? ⟨S, 1, none⟩ = some b ∧ w.cell? ⟨S, 2, none⟩ = some c ∧ w.cell? ⟨S, 3, none⟩ = some d ∧ w.cell? ⟨S, 4, none⟩ = some e ∧ w.cell? ⟨S, 5, none⟩ = some f := by
  refine ⟨?_, ?_, ?_, ?_, ?_, ?_⟩ <;> simp [World.cell?, h]
theorem tset6_5 {w : World} {S : Nat} {a b c d e f u : Value} {T : TypeId} (h : w.heap[S]? = some (.cells #[a, b, c, d, e, f] T (0, 0))) : (w.setCell ⟨S, 5, none⟩ u).heap[S]? = some (.cells #[a, b, c, d, e, u] T (0, 0)) := by
  simp [World.setCell, Array.getElem?_modify, h]
theorem tset6_3 {w : World} {S : Nat} {a b c d e f u : Value} {T : TypeId} (h : w.heap[S]? = some (.cells #[a, b, c, d, e, f] T (0, 0))) : (w.setCell ⟨S, 3, none⟩ u).heap[S]? = some (.cells #[a, b, c, u, e, f] T (0, 0)) := by
  simp [World.setCell, Array.getElem?_modify, h]
/-- all but two blocks and a row is as it was -/
structure But (w w' : World) (t g : Nat) (r : Option Nat) : Prop where
  os : w'.os = w.os
  tape : w'.tape = w.tape
  output : w'.output = w.output
  size : w.heap.size ≤ w'.heap.size
  block : ∀ k, k < w.heap.size → k ≠ t → k ≠ g → some k ≠ r → w'.heap[k]? = w.heap[k]?
theorem But.refl (w : World) (t g : Nat) (r : Option Nat) : But w w t g r := ⟨rfl, rfl, rfl, Nat.le_refl _, fun _ _ _ _ _ => rfl⟩
theorem But.drew {w w' : World} {t g : Nat} {r : Option Nat} (h : But w w' t g r) : But w w'.drew t g r := ⟨h.os, h.tape, h.output, h.size, h.block⟩
theorem But.later {w w' w2 : World} {t g : Nat} {r : Option Nat} (h : But w w' t g r) (hb : Below w'.heap.size w' w2) : But w w2 t g r :=
  ⟨hb.os.trans h.os, hb.tape.trans h.tape, hb.output.trans h.output, Nat.le_trans h.size hb.size, fun k hk h1 h2 h3 => (hb.block k (Nat.lt_of_lt_of_le hk h.size)).trans (h.block k hk h1 h2 h3)⟩
theorem But.grown {w w' w2 : World} {t g : Nat} {r r2 : Option Nat} (h : But w w' t g r) (hg : w'.grownBy w2 r2) (hr : r2 = r ∨ ∀ k, r2 = some k → w.heap.size ≤ k) : But w w2 t g r :=
  ⟨hg.os.trans h.os, hg.tape.trans h.tape, hg.output.trans h.output, Nat.le_trans h.size hg.size, fun k hk h1 h2 h3 => (hg.block k (Nat.lt_of_lt_of_le hk h.size) (fun e => by
    rcases hr with rfl | hr
    · exact h3 e
    · have := hr k e.symm; omega)).trans (h.block k hk h1 h2 h3)⟩
theorem But.setT {w w' : World} {t g : Nat} {r : Option Nat} (h : But w w' t g r) (i : Nat) (u : Value) : But w (w'.setCell ⟨t, i, none⟩ u) t g r :=
  ⟨h.os, h.tape, h.output, by simpa [World.setCell] using h.size, fun k hk h1 h2 h3 => (Below.heap_setCell w' ⟨t, i, none⟩ u k h1).trans (h.block k hk h1 h2 h3)⟩
theorem But.setG {w w' : World} {t g : Nat} {r : Option Nat} (h : But w w' t g r) (i : Nat) (u : Value) : But w (w'.setCell ⟨g, i, none⟩ u) t g r :=
  ⟨h.os, h.tape, h.output, by simpa [World.setCell] using h.size, fun k hk h1 h2 h3 => (Below.heap_setCell w' ⟨g, i, none⟩ u k h2).trans (h.block k hk h1 h2 h3)⟩
theorem But.trans {w w1 w2 : World} {t g : Nat} {r r2 : Option Nat} (h : But w w1 t g r) (k : But w1 w2 t g r2) (hr : r2 = r ∨ ∀ k, r2 = some k → w.heap.size ≤ k) : But w w2 t g r :=
  ⟨k.os.trans h.os, k.tape.trans h.tape, k.output.trans h.output, Nat.le_trans h.size k.size, fun j hj h1 h2 h3 => (k.block j (Nat.lt_of_lt_of_le hj h.size) h1 h2 (fun e => by
    rcases hr with rfl | hr
    · exact h3 e
    · have := hr j e.symm; omega)).trans (h.block j hj h1 h2 h3)⟩
/-- the taker, the resting order, the records -/
structure TkW (w : World) (t g : Nat) (oi oa op q mode : Int) (rv : Value) (base N : Nat) (R : List Int) (i a p c : Int) : Prop where
  tk : w.heap[t]? = some (.cells #[.int .i64 oi, .int .i64 oa, .int .i64 op, .int .i64 q, .int .i64 mode, rv] 72 (0, 0))
  rest : w.heap[g]? = some (.cells #[.int .i64 i, .int .i64 a, .int .i64 p, .int .i64 c] 28 (0, 0))
  recs : w.ownsRow base 39 8 rv N (nums R)
  low : base ≤ w.heap.size
section
variable {w w' : World} {t g base N : Nat} {oi oa op q mode i a p c : Int} {rv : Value} {R : List Int}
theorem TkW.ne (h : TkW w t g oi oa op q mode rv base N R i a p c) : t ≠ g := fun e => by
  have h1 := h.tk
  rw [e, h.rest] at h1
  simp at h1
theorem TkW.far (h : TkW w t g oi oa op q mode rv base N R i a p c) : rv.ownBlock ≠ some t ∧ rv.ownBlock ≠ some g := by
  constructor <;> intro e <;> obtain ⟨c1, f1, g1⟩ := Lib.ownsRow_kind h.recs _ e
  · rw [h.tk] at g1
    injection g1 with g1
    injection g1 with _ g1
    exact absurd g1 (by decide)
  · rw [h.rest] at g1
    injection g1 with g1
    injection g1 with _ g1
    exact absurd g1 (by decide)
theorem TkW.later (h : TkW w t g oi oa op q mode rv base N R i a p c) (hb : Below w.heap.size w w') : TkW w' t g oi oa op q mode rv base N R i a p c :=
  ⟨(hb.block _ (heap_lt h.tk)).trans h.tk, (hb.block _ (heap_lt h.rest)).trans h.rest, own_below h.recs hb, Nat.le_trans h.low hb.size⟩
theorem TkW.drew (h : TkW w t g oi oa op q mode rv base N R i a p c) : TkW w.drew t g oi oa op q mode rv base N R i a p c := h.later (Below.refl _ _).drew
/-- the records grow, and the taker knows it -/
theorem TkW.more {v : Value} {N' : Nat} {R' : List Int} (h : TkW w t g oi oa op q mode rv base N R i a p c) (ho : w'.ownsRow base 39 8 v N' (nums R')) (hg : w.grownBy w' rv.ownBlock) : TkW (w'.setCell ⟨t, 5, none⟩ v) t g oi oa op q mode v base N' R' i a p c := by
  have hf := h.far
  have ht := (hg.block t (heap_lt h.tk) (fun e => hf.1 e.symm)).trans h.tk
  have hr := (hg.block g (heap_lt h.rest) (fun e => hf.2 e.symm)).trans h.rest
  exact ⟨tset6_5 ht, mset_other hr (fun e => h.ne e.symm), own_set_kind ho ht (by decide), by have := h.low; have := hg.size; simp [World.setCell]; omega⟩
theorem TkW.setQ (h : TkW w t g oi oa op q mode rv base N R i a p c) (q' : Int) : TkW (w.setCell ⟨t, 3, none⟩ (.int .i64 q')) t g oi oa op q' mode rv base N R i a p c :=
  ⟨tset6_3 h.tk, mset_other h.rest (fun e => h.ne e.symm), own_set_kind h.recs h.tk (by decide), by have := h.low; simp [World.setCell]; omega⟩
theorem TkW.setC (h : TkW w t g oi oa op q mode rv base N R i a p c) (c' : Int) : TkW (w.setCell ⟨g, 3, none⟩ (.int .i64 c')) t g oi oa op q mode rv base N R i a p c' :=
  ⟨mset_other h.tk h.ne, mset4_3 h.rest, own_set_kind h.recs h.rest (by decide), by have := h.low; simp [World.setCell]; omega⟩
end
set_option maxRecDepth 100000 in
theorem impl_orderRec (k i a p c : Int) (w : World) :
    Calls Try.prog 118 #[.int .i64 k, .agg #[.int .i64 i, .int .i64 a, .int .i64 p, .int .i64 c]] w fun e w' => e = .returned (.agg #[.int .i64 0, .int .i64 k, .int .i64 0, .int .i64 a, .int .i64 i, .int .i64 0, .int .i64 p, .int .i64 c]) ∧ Below w.heap.size w w' := by
  go_enter Try.func118, Try.ntmps118
  go_wp2_with fail
  exact bodyPost_ret (v := .agg #[.int .i64 0, .int .i64 k, .int .i64 0, .int .i64 a, .int .i64 i, .int .i64 0, .int .i64 p, .int .i64 c]) (by simp [results, Try.results118, go_sem]) rfl ⟨rfl, by go_grown⟩
theorem set_far5 {w : World} {t j : Nat} {u : Value} (h : j ≠ 5) : (w.setCell ⟨t, 5, none⟩ u).cell? ⟨t, j, none⟩ = w.cell? ⟨t, j, none⟩ := by
  simp only [World.cell?, World.setCell, Array.getElem?_modify, if_pos]
  cases e : w.heap[t]? with
  | none => simp
  | some o => cases o <;> simp [Ne.symm h]
theorem step_append_at {P : Program} (w : World) {ops : Array Oper} {o : Oper} {a : Act} {K : Act → World → Prop} {Q : Exit → Act → World → Prop} {E : Prop} (hgd : o.guard = none) (s x : Operand) (t : TypeId)
    (ho : o.op = .call { callee := .builtin .append, args := #[s, x], argTypes := #[t, t] })
    (base : Nat) (e : TypeId) (i : TypeInfo) (z : Value) (size bytes : Nat) (ht : P.underlying t = some (.slice e)) (hi : P.info? e = some i) (hz : i.zero = some z)
    (hsize : i.size = size) (hby : i.bytes = bytes) (hzs : z.cells.size = size) (hsz : 0 < size)
    (v : Value) (n : Nat) (xs : List Value) (hs : a.eval s = v) (hown : w.ownsRow base e size v n xs)
    (ad : Addr) (m c : Nat) (news : List Value) (hx : a.eval x = .slice (some ad) m c) (hl : news.length = m * size) (hnews : ∀ j u, news[j]? = some u → w.cell? (ad.add j) = some u) (h1 : ∀ u ∈ news, u.oneCell' = true)
    (h63 : n + m ≤ maxLen) (hbytes : (n + m) * bytes ≤ 140737488355328) (hbase : base ≤ w.heap.size)
    (h : ∀ v' w', w'.ownsRow base e size v' (n + m) (xs ++ news) → w.grownBy w' v.ownBlock → (v' = .slice none 0 0 ↔ v = .slice none 0 0 ∧ m = 0) → (v'.ownBlock = v.ownBlock ∨ v'.ownBlock = some w.heap.size) → K (a.put o.dst v') w') :
    if Region.wanted o (yielded ops a.tmps) = true then Oper.wp P o a w K Q else E := by
  rw [if_pos (by simp [Region.wanted, hgd])]
  obtain ⟨v', w', hr, h2, h3, h4, h5⟩ := run_append_own_at (P := P) w base t o.type e i z size bytes ht hi hz hsize hby hzs hsz v n xs hown ad m c news hl hnews h1 h63 hbytes hbase
  unfold Oper.wp execOp
  simp only [ho, resolve, invoke, builtin, Sem.run_bind, Sem.run_pure, Result.andThen_ok, List.map_toArray, List.map_cons, List.map_nil, hs, hx, hr]
  exact h v' w' h2 h3 h4 h5
set_option linter.unusedSimpArgs false in
set_option maxHeartbeats 3200000 in
set_option maxRecDepth 100000 in
theorem impl_cancelR (t g base N : Nat) (oi oa op q mode i a p c : Int) (rv : Value) (R : List Int) (w : World) (hT : TkW w t g oi oa op q mode rv base N R i a p c) (hN : N ≤ 1000000) :
    Calls Try.prog 106 #[.pointer (some ⟨t, 0, none⟩), .pointer (some ⟨g, 0, none⟩)] w fun e w' => (∃ u, e = .returned u) ∧ ∃ v, TkW w' t g oi oa op q mode v base (N + 1) (R ++ (canR i a p c)) i a p 0 ∧ But w w' t g rv.ownBlock ∧ (v.ownBlock = rv.ownBlock ∨ ∀ k, v.ownBlock = some k → w.heap.size ≤ k) := by
  obtain ⟨i0, hi, hz0, hz1, hz2⟩ := info_parts rec_info
  obtain ⟨Ar, dr, rfl, _, _⟩ := own_slice hT.recs
  have hB := But.refl w t g (Value.slice Ar N dr).ownBlock
  have htg : t ≠ g := hT.ne
  replace hT := hT.drew
  replace hB := hB.drew
  have hWs : w.heap.size ≤ w.drew.heap.size := Nat.le_refl _
  obtain ⟨o0, o1, o2, o3, o4, o5⟩ := tcell6 hT.tk
  obtain ⟨h0, h1, h2, h3⟩ := mcell4 hT.rest
  go_enter Try.func106, Try.ntmps106
  go_upto_region 0 with fail
  refine wp_region_held_drew (S := (fun w' => w'.cell? ⟨g, 0, none⟩ = some (.int .i64 i) ∧ w'.cell? ⟨g, 1, none⟩ = some (.int .i64 a) ∧ w'.cell? ⟨g, 2, none⟩ = some (.int .i64 p) ∧ w'.cell? ⟨g, 3, none⟩ = some (.int .i64 c))) (by kernel_rfl) ?hSm1 (fun hHeld => ?restm1)
  case hSm1 => exact ⟨h0, h1, h2, h3⟩
  refine wpAnyH_take (i := 0) (oi := ?oim2) (v := ?vm2) ?him2 (by kernel_rfl) (by kernel_rfl) (by kernel_rfl) ?hQm2 (Or.inl ⟨?hwm2, ?hym2⟩) (by assumption) ?restm2
  case him2 => simp only [List.getElem?_toArray, List.getElem?_cons_succ, List.getElem?_cons_zero]; exact rfl
  case hQm2 => exact fun _ _ _ h => h
  case hwm2 => rfl
  case hym2 => ((intro w hSw; (try dsimp only at hSw); go_simp) <;> with_reducible rfl)
  try simp only [Act.put, List.setIfInBounds_toArray, List.set_cons_zero, List.set_cons_succ]
  refine wpAnyH_take (i := 1) (oi := ?oim3) (v := ?vm3) ?him3 (by kernel_rfl) (by kernel_rfl) (by kernel_rfl) ?hQm3 (Or.inl ⟨?hwm3, ?hym3⟩) (by assumption) ?restm3
  case him3 => simp only [List.getElem?_toArray, List.getElem?_cons_succ, List.getElem?_cons_zero]; exact rfl
  case hQm3 => exact fun _ _ _ h => h
  case hwm3 => rfl
  case hym3 => ((intro w hSw; (try dsimp only at hSw); go_simp) <;> with_reducible rfl)
  try simp only [Act.put, List.setIfInBounds_toArray, List.set_cons_zero, List.set_cons_succ]
  refine wpAnyH_take (i := 2) (oi := ?oim4) (v := ?vm4) ?him4 (by kernel_rfl) (by kernel_rfl) (by kernel_rfl) ?hQm4 (Or.inl ⟨?hwm4, ?hym4⟩) (by assumption) ?restm4
  case him4 => simp only [List.getElem?_toArray, List.getElem?_cons_succ, List.getElem?_cons_zero]; exact rfl
  case hQm4 => exact fun _ _ _ h => h
  case hwm4 => rfl
  case hym4 => ((intro w hSw; (try dsimp only at hSw); go_simp) <;> with_reducible rfl)
  try simp only [Act.put, List.setIfInBounds_toArray, List.set_cons_zero, List.set_cons_succ]
  refine wpAnyH_take (i := 3) (oi := ?oim5) (v := ?vm5) ?him5 (by kernel_rfl) (by kernel_rfl) (by kernel_rfl) ?hQm5 (Or.inl ⟨?hwm5, ?hym5⟩) (by assumption) ?restm5
  case him5 => simp only [List.getElem?_toArray, List.getElem?_cons_succ, List.getElem?_cons_zero]; exact rfl
  case hQm5 => exact fun _ _ _ h => h
  case hwm5 => rfl
  case hym5 => ((intro w hSw; (try dsimp only at hSw); go_simp) <;> with_reducible rfl)
  try simp only [Act.put, List.setIfInBounds_toArray, List.set_cons_zero, List.set_cons_succ]
  refine wpAnyH_take (i := 5) (oi := ?oim6) (v := ?vm6) ?him6 (by kernel_rfl) (by kernel_rfl) (by kernel_rfl) ?hQm6 (Or.inl ⟨?hwm6, ?hym6⟩) (by assumption) ?restm6
  case him6 => simp only [List.getElem?_toArray, List.getElem?_cons_succ, List.getElem?_cons_zero]; exact rfl
  case hQm6 => exact fun _ _ _ h => h
  case hwm6 => rfl
  case hym6 => ((intro w hSw; (try dsimp only at hSw); go_simp) <;> with_reducible rfl)
  try simp only [Act.put, List.setIfInBounds_toArray, List.set_cons_zero, List.set_cons_succ]
  refine wpAnyH_take (i := 6) (oi := ?oim7) (v := ?vm7) ?him7 (by kernel_rfl) (by kernel_rfl) (by kernel_rfl) ?hQm7 (Or.inl ⟨?hwm7, ?hym7⟩) (by assumption) ?restm7
  case him7 => simp only [List.getElem?_toArray, List.getElem?_cons_succ, List.getElem?_cons_zero]; exact rfl
  case hQm7 => exact fun _ _ _ h => h
  case hwm7 => rfl
  case hym7 => ((intro w hSw; (try dsimp only at hSw); go_simp) <;> with_reducible rfl)
  try simp only [Act.put, List.setIfInBounds_toArray, List.set_cons_zero, List.set_cons_succ]
  refine wpAnyH_take (i := 7) (oi := ?oim8) (v := ?vm8) ?him8 (by kernel_rfl) (by kernel_rfl) (by kernel_rfl) ?hQm8 (Or.inl ⟨?hwm8, ?hym8⟩) (by assumption) ?restm8
  case him8 => simp only [List.getElem?_toArray, List.getElem?_cons_succ, List.getElem?_cons_zero]; exact rfl
  case hQm8 => exact fun _ _ _ h => h
  case hwm8 => rfl
  case hym8 => ((intro w hSw; (try dsimp only at hSw); go_simp) <;> with_reducible rfl)
  try simp only [Act.put, List.setIfInBounds_toArray, List.set_cons_zero, List.set_cons_succ]
  refine wpAnyH_ready (rs := [4, 8]) (by kernel_rfl) (by simp) ?_
  refine AllReadyH.cons (o := ?or9_4) ?hor9_4 (fun K hK => ?stepr9_4) (AllReadyH.cons (o := ?or9_8) ?hor9_8 (fun K hK => ?stepr9_8) (AllReadyH.nil))
  case hor9_4 => simp only [List.getElem?_toArray, List.getElem?_cons_succ, List.getElem?_cons_zero]; exact rfl
  case hor9_8 => simp only [List.getElem?_toArray, List.getElem?_cons_succ, List.getElem?_cons_zero]; exact rfl
  case stepr9_4 =>
    obtain ⟨x0, x1, x2, x3, x4, x5⟩ := tcell6 hT.tk
    go_simp
    clear x0 x1 x2 x3 x4 x5
    refine hK.out _ _ ?hSr9_4 (fun hHeld => ?restr9_4)
    case hSr9_4 => exact hHeld
    clear hK K
    try simp only [Act.put, List.setIfInBounds_toArray, List.set_cons_zero, List.set_cons_succ]
    refine wpAnyH_ready (rs := [8]) (by kernel_rfl) (by simp) ?_
    refine AllReadyH.cons (o := ?or10_8) ?hor10_8 (fun K hK => ?stepr10_8) (AllReadyH.nil)
    case hor10_8 => simp only [List.getElem?_toArray, List.getElem?_cons_succ, List.getElem?_cons_zero]; exact rfl
    case stepr10_8 =>
      go_simp
      go_at_call 118
      refine (impl_orderRec 4 i a p c w.drew).mono ?_
      rintro e u11 ⟨rfl, hb8⟩
      have hkp := Lib.hid (fun (p : Addr) (hp : p.block < w.drew.heap.size) => hb8.cell hp)
      have hTb := heap_lt hT.tk
      have hGb := heap_lt hT.rest
      replace hT := hT.later hb8
      replace hB := hB.later hb8
      clear hb8
      refine hK.out _ _ ?hSr10_8 (fun hHeld => ?restr10_8)
      case hSr10_8 => exact ⟨(hkp.out ⟨g, 0, none⟩ hGb).trans hHeld.1, (hkp.out ⟨g, 1, none⟩ hGb).trans hHeld.2.1, (hkp.out ⟨g, 2, none⟩ hGb).trans hHeld.2.2.1, (hkp.out ⟨g, 3, none⟩ hGb).trans hHeld.2.2.2⟩
      clear hK K
      try simp only [Act.put, List.setIfInBounds_toArray, List.set_cons_zero, List.set_cons_succ]
      refine wpAnyH_ready (rs := [9]) (by kernel_rfl) (by simp) ?_
      refine AllReadyH.cons (o := ?or12_9) ?hor12_9 (fun K hK => ?stepr12_9) (AllReadyH.nil)
      case hor12_9 => simp only [List.getElem?_toArray, List.getElem?_cons_succ, List.getElem?_cons_zero]; exact rfl
      case stepr12_9 =>
        go_simp
        have hTb := heap_lt hT.tk
        have hGb := heap_lt hT.rest
        have hal : Below u11.heap.size u11 (u11.alloc (.cells #[.int .i64 0, .int .i64 4, .int .i64 0, .int .i64 a, .int .i64 i, .int .i64 0, .int .i64 p, .int .i64 c] 39)) := (Below.refl u11.heap.size u11).alloc (Nat.le_refl _) (.cells #[.int .i64 0, .int .i64 4, .int .i64 0, .int .i64 a, .int .i64 i, .int .i64 0, .int .i64 p, .int .i64 c] 39)
        have hnew := World.news_of_block (show (u11.alloc (.cells #[.int .i64 0, .int .i64 4, .int .i64 0, .int .i64 a, .int .i64 i, .int .i64 0, .int .i64 p, .int .i64 c] 39)).heap[u11.heap.size]? = _ from heap_alloc_new u11 (.cells #[.int .i64 0, .int .i64 4, .int .i64 0, .int .i64 a, .int .i64 i, .int .i64 0, .int .i64 p, .int .i64 c] 39))
        have hkp := Lib.hid (fun (p : Addr) (hp : p.block < u11.heap.size) => hal.cell hp)
        replace hT := hT.later hal
        replace hB := hB.later hal
        clear hal
        generalize u11.alloc (.cells #[.int .i64 0, .int .i64 4, .int .i64 0, .int .i64 a, .int .i64 i, .int .i64 0, .int .i64 p, .int .i64 c] 39) = ua13 at *
        generalize u11.heap.size = xn at *
        refine hK.out _ _ ?hSr12_9 (fun hHeld => ?restr12_9)
        case hSr12_9 => exact ⟨(hkp.out ⟨g, 0, none⟩ hGb).trans hHeld.1, (hkp.out ⟨g, 1, none⟩ hGb).trans hHeld.2.1, (hkp.out ⟨g, 2, none⟩ hGb).trans hHeld.2.2.1, (hkp.out ⟨g, 3, none⟩ hGb).trans hHeld.2.2.2⟩
        clear hK K
        try simp only [Act.put, List.setIfInBounds_toArray, List.set_cons_zero, List.set_cons_succ]
        refine wpAnyH_ready (rs := [10]) (by kernel_rfl) (by simp) ?_
        refine AllReadyH.cons (o := ?or14_10) ?hor14_10 (fun K hK => ?stepr14_10) (AllReadyH.nil)
        case hor14_10 => simp only [List.getElem?_toArray, List.getElem?_cons_succ, List.getElem?_cons_zero]; exact rfl
        case stepr14_10 =>
          have hTb := heap_lt hT.tk
          have hGb := heap_lt hT.rest
          have hfa := hT.far
          have hlo := hT.recs.lt
          refine step_append_at _ rfl _ _ 31 rfl base 39 i0 _ 8 64 Try.underlying31 hi hz0 hz1 hz2 rfl (by decide) _ _ _ rfl hT.recs ⟨xn, 0, none⟩ 1 1 [.int .i64 0, .int .i64 4, .int .i64 0, .int .i64 a, .int .i64 i, .int .i64 0, .int .i64 p, .int .i64 c] rfl rfl hnew (nums_one (canR i a p c)) (by unfold maxLen; omega) (by omega) hT.low ?_
          intro v' uv15 hown hgrow _ hat
          obtain ⟨A3, d3, rfl, _, _⟩ := own_slice hown
          have hkp := Lib.hid (fun (p : Addr) (hp : p.block < ua13.heap.size) (hn : some p.block ≠ (Value.slice Ar N dr).ownBlock) => World.cell?_of_block (a := p) (hgrow.block p.block hp hn))
          have hsz := hB.size
          replace hB := hB.grown hgrow (.inl rfl)
          have HG := Lib.hid hgrow
          clear hgrow
          refine hK.out _ _ ?hSr14_10 (fun hHeld => ?restr14_10)
          case hSr14_10 => exact ⟨(hkp.out ⟨g, 0, none⟩ hGb (fun e => hfa.2 e.symm)).trans hHeld.1, (hkp.out ⟨g, 1, none⟩ hGb (fun e => hfa.2 e.symm)).trans hHeld.2.1, (hkp.out ⟨g, 2, none⟩ hGb (fun e => hfa.2 e.symm)).trans hHeld.2.2.1, (hkp.out ⟨g, 3, none⟩ hGb (fun e => hfa.2 e.symm)).trans hHeld.2.2.2⟩
          clear hK K
          try simp only [Act.put, List.setIfInBounds_toArray, List.set_cons_zero, List.set_cons_succ]
          refine wpAnyH_take (i := 11) (oi := ?oim16) (v := ?vm16) ?him16 (by kernel_rfl) (by kernel_rfl) (by kernel_rfl) ?hQm16 (Or.inl ⟨?hwm16, ?hym16⟩) (by assumption) ?restm16
          case him16 => simp only [List.getElem?_toArray, List.getElem?_cons_succ, List.getElem?_cons_zero]; exact rfl
          case hQm16 => exact fun _ _ _ h => h
          case hwm16 => rfl
          case hym16 => ((intro w hSw; (try dsimp only at hSw); go_simp) <;> with_reducible rfl)
          try simp only [Act.put, List.setIfInBounds_toArray, List.set_cons_zero, List.set_cons_succ]
          refine wpAnyH_take (i := 12) (oi := ?oim17) (v := ?vm17) ?him17 (by kernel_rfl) (by kernel_rfl) (by kernel_rfl) ?hQm17 (Or.inl ⟨?hwm17, ?hym17⟩) (by assumption) ?restm17
          case him17 => simp only [List.getElem?_toArray, List.getElem?_cons_succ, List.getElem?_cons_zero]; exact rfl
          case hQm17 => exact fun _ _ _ h => h
          case hwm17 => rfl
          case hym17 => ((intro w hSw; (try dsimp only at hSw); go_simp) <;> with_reducible rfl)
          try simp only [Act.put, List.setIfInBounds_toArray, List.set_cons_zero, List.set_cons_succ]
          refine wpAnyH_ready (rs := [13]) (by kernel_rfl) (by simp) ?_
          refine AllReadyH.cons (o := ?or18_13) ?hor18_13 (fun K hK => ?stepr18_13) (AllReadyH.nil)
          case hor18_13 => simp only [List.getElem?_toArray, List.getElem?_cons_succ, List.getElem?_cons_zero]; exact rfl
          case stepr18_13 =>
            have hT0 := hT.tk
            have hfa := hT.far
            have hTk := (HG.out.block t (heap_lt hT.tk) (fun e => hfa.1 e.symm)).trans hT.tk
            obtain ⟨x0, x1, x2, x3, x4, x5⟩ := tcell6 hTk
            have z5 := mfree hTk 5
            go_simp
            clear x0 x1 x2 x3 x4 x5 z5
            replace hT := hT.more (R' := R ++ (canR i a p c)) (by rw [nums_append]; exact hown) HG.out
            replace hB := hB.setT 5 (.slice A3 (N + 1) d3)
            refine hK.out _ _ ?hSr18_13 (fun hHeld => ?restr18_13)
            case hSr18_13 => exact ⟨(World.cell?_setCell_far _ _ _ _ htg).trans hHeld.1, (World.cell?_setCell_far _ _ _ _ htg).trans hHeld.2.1, (World.cell?_setCell_far _ _ _ _ htg).trans hHeld.2.2.1, (World.cell?_setCell_far _ _ _ _ htg).trans hHeld.2.2.2⟩
            clear hK K
            try simp only [Act.put, List.setIfInBounds_toArray, List.set_cons_zero, List.set_cons_succ]
            refine wpAnyH_done (by kernel_rfl) ?_ _
            have hat2 : (Value.slice A3 (N + 1) d3).ownBlock = (Value.slice Ar N dr).ownBlock ∨ ∀ k, (Value.slice A3 (N + 1) d3).ownBlock = some k → w.heap.size ≤ k := hat.imp id (fun h k e => by rw [h] at e; injection e with e; omega)
            clear hHeld o0 o1 o2 o3 o4 o5 h0 h1 h2 h3 hown HG hat
            generalize (uv15.setCell ⟨t, 5, none⟩ (.slice A3 (N + 1) d3)) = wf at *
            obtain ⟨h0, h1, h2, h3⟩ := mcell4 hT.rest
            have z3 := mfree hT.rest 3
            go_wp2_with fail
            go_end0
            exact ⟨⟨_, rfl⟩, _, hT.setC 0, hB.setG 3 (.int .i64 0), hat2⟩
  case stepr9_8 =>
    go_simp
    go_at_call 118
    refine (impl_orderRec 4 i a p c w.drew).mono ?_
    rintro e u19 ⟨rfl, hb8⟩
    have hkp := Lib.hid (fun (p : Addr) (hp : p.block < w.drew.heap.size) => hb8.cell hp)
    have hTb := heap_lt hT.tk
    have hGb := heap_lt hT.rest
    replace hT := hT.later hb8
    replace hB := hB.later hb8
    clear hb8
    refine hK.out _ _ ?hSr9_8 (fun hHeld => ?restr9_8)
    case hSr9_8 => exact ⟨(hkp.out ⟨g, 0, none⟩ hGb).trans hHeld.1, (hkp.out ⟨g, 1, none⟩ hGb).trans hHeld.2.1, (hkp.out ⟨g, 2, none⟩ hGb).trans hHeld.2.2.1, (hkp.out ⟨g, 3, none⟩ hGb).trans hHeld.2.2.2⟩
    clear hK K
    try simp only [Act.put, List.setIfInBounds_toArray, List.set_cons_zero, List.set_cons_succ]
    refine wpAnyH_ready (rs := [4, 9]) (by kernel_rfl) (by simp) ?_
    refine AllReadyH.cons (o := ?or20_4) ?hor20_4 (fun K hK => ?stepr20_4) (AllReadyH.cons (o := ?or20_9) ?hor20_9 (fun K hK => ?stepr20_9) (AllReadyH.nil))
    case hor20_4 => simp only [List.getElem?_toArray, List.getElem?_cons_succ, List.getElem?_cons_zero]; exact rfl
    case hor20_9 => simp only [List.getElem?_toArray, List.getElem?_cons_succ, List.getElem?_cons_zero]; exact rfl
    case stepr20_4 =>
      obtain ⟨x0, x1, x2, x3, x4, x5⟩ := tcell6 hT.tk
      go_simp
      clear x0 x1 x2 x3 x4 x5
      refine hK.out _ _ ?hSr20_4 (fun hHeld => ?restr20_4)
      case hSr20_4 => exact hHeld
      clear hK K
      try simp only [Act.put, List.setIfInBounds_toArray, List.set_cons_zero, List.set_cons_succ]
      refine wpAnyH_ready (rs := [9]) (by kernel_rfl) (by simp) ?_
      refine AllReadyH.cons (o := ?or21_9) ?hor21_9 (fun K hK => ?stepr21_9) (AllReadyH.nil)
      case hor21_9 => simp only [List.getElem?_toArray, List.getElem?_cons_succ, List.getElem?_cons_zero]; exact rfl
      case stepr21_9 =>
        go_simp
        have hTb := heap_lt hT.tk
        have hGb := heap_lt hT.rest
        have hal : Below u19.heap.size u19 (u19.alloc (.cells #[.int .i64 0, .int .i64 4, .int .i64 0, .int .i64 a, .int .i64 i, .int .i64 0, .int .i64 p, .int .i64 c] 39)) := (Below.refl u19.heap.size u19).alloc (Nat.le_refl _) (.cells #[.int .i64 0, .int .i64 4, .int .i64 0, .int .i64 a, .int .i64 i, .int .i64 0, .int .i64 p, .int .i64 c] 39)
        have hnew := World.news_of_block (show (u19.alloc (.cells #[.int .i64 0, .int .i64 4, .int .i64 0, .int .i64 a, .int .i64 i, .int .i64 0, .int .i64 p, .int .i64 c] 39)).heap[u19.heap.size]? = _ from heap_alloc_new u19 (.cells #[.int .i64 0, .int .i64 4, .int .i64 0, .int .i64 a, .int .i64 i, .int .i64 0, .int .i64 p, .int .i64 c] 39))
        have hkp := Lib.hid (fun (p : Addr) (hp : p.block < u19.heap.size) => hal.cell hp)
        replace hT := hT.later hal
        replace hB := hB.later hal
        clear hal
        generalize u19.alloc (.cells #[.int .i64 0, .int .i64 4, .int .i64 0, .int .i64 a, .int .i64 i, .int .i64 0, .int .i64 p, .int .i64 c] 39) = ua22 at *
        generalize u19.heap.size = xn at *
        refine hK.out _ _ ?hSr21_9 (fun hHeld => ?restr21_9)
        case hSr21_9 => exact ⟨(hkp.out ⟨g, 0, none⟩ hGb).trans hHeld.1, (hkp.out ⟨g, 1, none⟩ hGb).trans hHeld.2.1, (hkp.out ⟨g, 2, none⟩ hGb).trans hHeld.2.2.1, (hkp.out ⟨g, 3, none⟩ hGb).trans hHeld.2.2.2⟩
        clear hK K
        try simp only [Act.put, List.setIfInBounds_toArray, List.set_cons_zero, List.set_cons_succ]
        refine wpAnyH_ready (rs := [10]) (by kernel_rfl) (by simp) ?_
        refine AllReadyH.cons (o := ?or23_10) ?hor23_10 (fun K hK => ?stepr23_10) (AllReadyH.nil)
        case hor23_10 => simp only [List.getElem?_toArray, List.getElem?_cons_succ, List.getElem?_cons_zero]; exact rfl
        case stepr23_10 =>
          have hTb := heap_lt hT.tk
          have hGb := heap_lt hT.rest
          have hfa := hT.far
          have hlo := hT.recs.lt
          refine step_append_at _ rfl _ _ 31 rfl base 39 i0 _ 8 64 Try.underlying31 hi hz0 hz1 hz2 rfl (by decide) _ _ _ rfl hT.recs ⟨xn, 0, none⟩ 1 1 [.int .i64 0, .int .i64 4, .int .i64 0, .int .i64 a, .int .i64 i, .int .i64 0, .int .i64 p, .int .i64 c] rfl rfl hnew (nums_one (canR i a p c)) (by unfold maxLen; omega) (by omega) hT.low ?_
          intro v' uv24 hown hgrow _ hat
          obtain ⟨A3, d3, rfl, _, _⟩ := own_slice hown
          have hkp := Lib.hid (fun (p : Addr) (hp : p.block < ua22.heap.size) (hn : some p.block ≠ (Value.slice Ar N dr).ownBlock) => World.cell?_of_block (a := p) (hgrow.block p.block hp hn))
          have hsz := hB.size
          replace hB := hB.grown hgrow (.inl rfl)
          have HG := Lib.hid hgrow
          clear hgrow
          refine hK.out _ _ ?hSr23_10 (fun hHeld => ?restr23_10)
          case hSr23_10 => exact ⟨(hkp.out ⟨g, 0, none⟩ hGb (fun e => hfa.2 e.symm)).trans hHeld.1, (hkp.out ⟨g, 1, none⟩ hGb (fun e => hfa.2 e.symm)).trans hHeld.2.1, (hkp.out ⟨g, 2, none⟩ hGb (fun e => hfa.2 e.symm)).trans hHeld.2.2.1, (hkp.out ⟨g, 3, none⟩ hGb (fun e => hfa.2 e.symm)).trans hHeld.2.2.2⟩
          clear hK K
          try simp only [Act.put, List.setIfInBounds_toArray, List.set_cons_zero, List.set_cons_succ]
          refine wpAnyH_take (i := 11) (oi := ?oim25) (v := ?vm25) ?him25 (by kernel_rfl) (by kernel_rfl) (by kernel_rfl) ?hQm25 (Or.inl ⟨?hwm25, ?hym25⟩) (by assumption) ?restm25
          case him25 => simp only [List.getElem?_toArray, List.getElem?_cons_succ, List.getElem?_cons_zero]; exact rfl
          case hQm25 => exact fun _ _ _ h => h
          case hwm25 => rfl
          case hym25 => ((intro w hSw; (try dsimp only at hSw); go_simp) <;> with_reducible rfl)
          try simp only [Act.put, List.setIfInBounds_toArray, List.set_cons_zero, List.set_cons_succ]
          refine wpAnyH_take (i := 12) (oi := ?oim26) (v := ?vm26) ?him26 (by kernel_rfl) (by kernel_rfl) (by kernel_rfl) ?hQm26 (Or.inl ⟨?hwm26, ?hym26⟩) (by assumption) ?restm26
          case him26 => simp only [List.getElem?_toArray, List.getElem?_cons_succ, List.getElem?_cons_zero]; exact rfl
          case hQm26 => exact fun _ _ _ h => h
          case hwm26 => rfl
          case hym26 => ((intro w hSw; (try dsimp only at hSw); go_simp) <;> with_reducible rfl)
          try simp only [Act.put, List.setIfInBounds_toArray, List.set_cons_zero, List.set_cons_succ]
          refine wpAnyH_ready (rs := [13]) (by kernel_rfl) (by simp) ?_
          refine AllReadyH.cons (o := ?or27_13) ?hor27_13 (fun K hK => ?stepr27_13) (AllReadyH.nil)
          case hor27_13 => simp only [List.getElem?_toArray, List.getElem?_cons_succ, List.getElem?_cons_zero]; exact rfl
          case stepr27_13 =>
            have hT0 := hT.tk
            have hfa := hT.far
            have hTk := (HG.out.block t (heap_lt hT.tk) (fun e => hfa.1 e.symm)).trans hT.tk
            obtain ⟨x0, x1, x2, x3, x4, x5⟩ := tcell6 hTk
            have z5 := mfree hTk 5
            go_simp
            clear x0 x1 x2 x3 x4 x5 z5
            replace hT := hT.more (R' := R ++ (canR i a p c)) (by rw [nums_append]; exact hown) HG.out
            replace hB := hB.setT 5 (.slice A3 (N + 1) d3)
            refine hK.out _ _ ?hSr27_13 (fun hHeld => ?restr27_13)
            case hSr27_13 => exact ⟨(World.cell?_setCell_far _ _ _ _ htg).trans hHeld.1, (World.cell?_setCell_far _ _ _ _ htg).trans hHeld.2.1, (World.cell?_setCell_far _ _ _ _ htg).trans hHeld.2.2.1, (World.cell?_setCell_far _ _ _ _ htg).trans hHeld.2.2.2⟩
            clear hK K
            try simp only [Act.put, List.setIfInBounds_toArray, List.set_cons_zero, List.set_cons_succ]
            refine wpAnyH_done (by kernel_rfl) ?_ _
            have hat2 : (Value.slice A3 (N + 1) d3).ownBlock = (Value.slice Ar N dr).ownBlock ∨ ∀ k, (Value.slice A3 (N + 1) d3).ownBlock = some k → w.heap.size ≤ k := hat.imp id (fun h k e => by rw [h] at e; injection e with e; omega)
            clear hHeld o0 o1 o2 o3 o4 o5 h0 h1 h2 h3 hown HG hat
            generalize (uv24.setCell ⟨t, 5, none⟩ (.slice A3 (N + 1) d3)) = wf at *
            obtain ⟨h0, h1, h2, h3⟩ := mcell4 hT.rest
            have z3 := mfree hT.rest 3
            go_wp2_with fail
            go_end0
            exact ⟨⟨_, rfl⟩, _, hT.setC 0, hB.setG 3 (.int .i64 0), hat2⟩
    case stepr20_9 =>
      go_simp
      have hTb := heap_lt hT.tk
      have hGb := heap_lt hT.rest
      have hal : Below u19.heap.size u19 (u19.alloc (.cells #[.int .i64 0, .int .i64 4, .int .i64 0, .int .i64 a, .int .i64 i, .int .i64 0, .int .i64 p, .int .i64 c] 39)) := (Below.refl u19.heap.size u19).alloc (Nat.le_refl _) (.cells #[.int .i64 0, .int .i64 4, .int .i64 0, .int .i64 a, .int .i64 i, .int .i64 0, .int .i64 p, .int .i64 c] 39)
      have hnew := World.news_of_block (show (u19.alloc (.cells #[.int .i64 0, .int .i64 4, .int .i64 0, .int .i64 a, .int .i64 i, .int .i64 0, .int .i64 p, .int .i64 c] 39)).heap[u19.heap.size]? = _ from heap_alloc_new u19 (.cells #[.int .i64 0, .int .i64 4, .int .i64 0, .int .i64 a, .int .i64 i, .int .i64 0, .int .i64 p, .int .i64 c] 39))
      have hkp := Lib.hid (fun (p : Addr) (hp : p.block < u19.heap.size) => hal.cell hp)
      replace hT := hT.later hal
      replace hB := hB.later hal
      clear hal
      generalize u19.alloc (.cells #[.int .i64 0, .int .i64 4, .int .i64 0, .int .i64 a, .int .i64 i, .int .i64 0, .int .i64 p, .int .i64 c] 39) = ua28 at *
      generalize u19.heap.size = xn at *
      refine hK.out _ _ ?hSr20_9 (fun hHeld => ?restr20_9)
      case hSr20_9 => exact ⟨(hkp.out ⟨g, 0, none⟩ hGb).trans hHeld.1, (hkp.out ⟨g, 1, none⟩ hGb).trans hHeld.2.1, (hkp.out ⟨g, 2, none⟩ hGb).trans hHeld.2.2.1, (hkp.out ⟨g, 3, none⟩ hGb).trans hHeld.2.2.2⟩
      clear hK K
      try simp only [Act.put, List.setIfInBounds_toArray, List.set_cons_zero, List.set_cons_succ]
      refine wpAnyH_ready (rs := [4]) (by kernel_rfl) (by simp) ?_
      refine AllReadyH.cons (o := ?or29_4) ?hor29_4 (fun K hK => ?stepr29_4) (AllReadyH.nil)
      case hor29_4 => simp only [List.getElem?_toArray, List.getElem?_cons_succ, List.getElem?_cons_zero]; exact rfl
      case stepr29_4 =>
        obtain ⟨x0, x1, x2, x3, x4, x5⟩ := tcell6 hT.tk
        go_simp
        clear x0 x1 x2 x3 x4 x5
        refine hK.out _ _ ?hSr29_4 (fun hHeld => ?restr29_4)
        case hSr29_4 => exact hHeld
        clear hK K
        try simp only [Act.put, List.setIfInBounds_toArray, List.set_cons_zero, List.set_cons_succ]
        refine wpAnyH_ready (rs := [10]) (by kernel_rfl) (by simp) ?_
        refine AllReadyH.cons (o := ?or30_10) ?hor30_10 (fun K hK => ?stepr30_10) (AllReadyH.nil)
        case hor30_10 => simp only [List.getElem?_toArray, List.getElem?_cons_succ, List.getElem?_cons_zero]; exact rfl
        case stepr30_10 =>
          have hTb := heap_lt hT.tk
          have hGb := heap_lt hT.rest
          have hfa := hT.far
          have hlo := hT.recs.lt
          refine step_append_at _ rfl _ _ 31 rfl base 39 i0 _ 8 64 Try.underlying31 hi hz0 hz1 hz2 rfl (by decide) _ _ _ rfl hT.recs ⟨xn, 0, none⟩ 1 1 [.int .i64 0, .int .i64 4, .int .i64 0, .int .i64 a, .int .i64 i, .int .i64 0, .int .i64 p, .int .i64 c] rfl rfl hnew (nums_one (canR i a p c)) (by unfold maxLen; omega) (by omega) hT.low ?_
          intro v' uv31 hown hgrow _ hat
          obtain ⟨A3, d3, rfl, _, _⟩ := own_slice hown
          have hkp := Lib.hid (fun (p : Addr) (hp : p.block < ua28.heap.size) (hn : some p.block ≠ (Value.slice Ar N dr).ownBlock) => World.cell?_of_block (a := p) (hgrow.block p.block hp hn))
          have hsz := hB.size
          replace hB := hB.grown hgrow (.inl rfl)
          have HG := Lib.hid hgrow
          clear hgrow
          refine hK.out _ _ ?hSr30_10 (fun hHeld => ?restr30_10)
          case hSr30_10 => exact ⟨(hkp.out ⟨g, 0, none⟩ hGb (fun e => hfa.2 e.symm)).trans hHeld.1, (hkp.out ⟨g, 1, none⟩ hGb (fun e => hfa.2 e.symm)).trans hHeld.2.1, (hkp.out ⟨g, 2, none⟩ hGb (fun e => hfa.2 e.symm)).trans hHeld.2.2.1, (hkp.out ⟨g, 3, none⟩ hGb (fun e => hfa.2 e.symm)).trans hHeld.2.2.2⟩
          clear hK K
          try simp only [Act.put, List.setIfInBounds_toArray, List.set_cons_zero, List.set_cons_succ]
          refine wpAnyH_take (i := 11) (oi := ?oim32) (v := ?vm32) ?him32 (by kernel_rfl) (by kernel_rfl) (by kernel_rfl) ?hQm32 (Or.inl ⟨?hwm32, ?hym32⟩) (by assumption) ?restm32
          case him32 => simp only [List.getElem?_toArray, List.getElem?_cons_succ, List.getElem?_cons_zero]; exact rfl
          case hQm32 => exact fun _ _ _ h => h
          case hwm32 => rfl
          case hym32 => ((intro w hSw; (try dsimp only at hSw); go_simp) <;> with_reducible rfl)
          try simp only [Act.put, List.setIfInBounds_toArray, List.set_cons_zero, List.set_cons_succ]
          refine wpAnyH_take (i := 12) (oi := ?oim33) (v := ?vm33) ?him33 (by kernel_rfl) (by kernel_rfl) (by kernel_rfl) ?hQm33 (Or.inl ⟨?hwm33, ?hym33⟩) (by assumption) ?restm33
          case him33 => simp only [List.getElem?_toArray, List.getElem?_cons_succ, List.getElem?_cons_zero]; exact rfl
          case hQm33 => exact fun _ _ _ h => h
          case hwm33 => rfl
          case hym33 => ((intro w hSw; (try dsimp only at hSw); go_simp) <;> with_reducible rfl)
          try simp only [Act.put, List.setIfInBounds_toArray, List.set_cons_zero, List.set_cons_succ]
          refine wpAnyH_ready (rs := [13]) (by kernel_rfl) (by simp) ?_
          refine AllReadyH.cons (o := ?or34_13) ?hor34_13 (fun K hK => ?stepr34_13) (AllReadyH.nil)
          case hor34_13 => simp only [List.getElem?_toArray, List.getElem?_cons_succ, List.getElem?_cons_zero]; exact rfl
          case stepr34_13 =>
            have hT0 := hT.tk
            have hfa := hT.far
            have hTk := (HG.out.block t (heap_lt hT.tk) (fun e => hfa.1 e.symm)).trans hT.tk
            obtain ⟨x0, x1, x2, x3, x4, x5⟩ := tcell6 hTk
            have z5 := mfree hTk 5
            go_simp
            clear x0 x1 x2 x3 x4 x5 z5
            replace hT := hT.more (R' := R ++ (canR i a p c)) (by rw [nums_append]; exact hown) HG.out
            replace hB := hB.setT 5 (.slice A3 (N + 1) d3)
            refine hK.out _ _ ?hSr34_13 (fun hHeld => ?restr34_13)
            case hSr34_13 => exact ⟨(World.cell?_setCell_far _ _ _ _ htg).trans hHeld.1, (World.cell?_setCell_far _ _ _ _ htg).trans hHeld.2.1, (World.cell?_setCell_far _ _ _ _ htg).trans hHeld.2.2.1, (World.cell?_setCell_far _ _ _ _ htg).trans hHeld.2.2.2⟩
            clear hK K
            try simp only [Act.put, List.setIfInBounds_toArray, List.set_cons_zero, List.set_cons_succ]
            refine wpAnyH_done (by kernel_rfl) ?_ _
            have hat2 : (Value.slice A3 (N + 1) d3).ownBlock = (Value.slice Ar N dr).ownBlock ∨ ∀ k, (Value.slice A3 (N + 1) d3).ownBlock = some k → w.heap.size ≤ k := hat.imp id (fun h k e => by rw [h] at e; injection e with e; omega)
            clear hHeld o0 o1 o2 o3 o4 o5 h0 h1 h2 h3 hown HG hat
            generalize (uv31.setCell ⟨t, 5, none⟩ (.slice A3 (N + 1) d3)) = wf at *
            obtain ⟨h0, h1, h2, h3⟩ := mcell4 hT.rest
            have z3 := mfree hT.rest 3
            go_wp2_with fail
            go_end0
            exact ⟨⟨_, rfl⟩, _, hT.setC 0, hB.setG 3 (.int .i64 0), hat2⟩
set_option linter.unusedSimpArgs false in
set_option maxHeartbeats 3200000 in
set_option maxRecDepth 100000 in
theorem impl_cancelO (t g base N : Nat) (oi oa op q mode i a p c : Int) (rv : Value) (R : List Int) (w : World) (hT : TkW w t g oi oa op q mode rv base N R i a p c) (hN : N ≤ 1000000) :
    Calls Try.prog 106 #[.pointer (some ⟨t, 0, none⟩), .pointer (some ⟨t, 0, none⟩)] w fun e w' => (∃ u, e = .returned u) ∧ ∃ v, TkW w' t g oi oa op 0 mode v base (N + 1) (R ++ (canR oi oa op q)) i a p c ∧ But w w' t g rv.ownBlock ∧ (v.ownBlock = rv.ownBlock ∨ ∀ k, v.ownBlock = some k → w.heap.size ≤ k) := by
  obtain ⟨i0, hi, hz0, hz1, hz2⟩ := info_parts rec_info
  obtain ⟨Ar, dr, rfl, _, _⟩ := own_slice hT.recs
  have hB := But.refl w t g (Value.slice Ar N dr).ownBlock
  have htg : t ≠ g := hT.ne
  replace hT := hT.drew
  replace hB := hB.drew
  have hWs : w.heap.size ≤ w.drew.heap.size := Nat.le_refl _
  obtain ⟨o0, o1, o2, o3, o4, o5⟩ := tcell6 hT.tk
  obtain ⟨h0, h1, h2, h3⟩ := mcell4 hT.rest
  go_enter Try.func106, Try.ntmps106
  go_upto_region 0 with fail
  refine wp_region_held_drew (S := (fun w' => w'.cell? ⟨t, 0, none⟩ = some (.int .i64 oi) ∧ w'.cell? ⟨t, 1, none⟩ = some (.int .i64 oa) ∧ w'.cell? ⟨t, 2, none⟩ = some (.int .i64 op) ∧ w'.cell? ⟨t, 3, none⟩ = some (.int .i64 q))) (by kernel_rfl) ?hSm35 (fun hHeld => ?restm35)
  case hSm35 => exact ⟨o0, o1, o2, o3⟩
  refine wpAnyH_take (i := 0) (oi := ?oim36) (v := ?vm36) ?him36 (by kernel_rfl) (by kernel_rfl) (by kernel_rfl) ?hQm36 (Or.inl ⟨?hwm36, ?hym36⟩) (by assumption) ?restm36
  case him36 => simp only [List.getElem?_toArray, List.getElem?_cons_succ, List.getElem?_cons_zero]; exact rfl
  case hQm36 => exact fun _ _ _ h => h
  case hwm36 => rfl
  case hym36 => ((intro w hSw; (try dsimp only at hSw); go_simp) <;> with_reducible rfl)
  try simp only [Act.put, List.setIfInBounds_toArray, List.set_cons_zero, List.set_cons_succ]
  refine wpAnyH_take (i := 1) (oi := ?oim37) (v := ?vm37) ?him37 (by kernel_rfl) (by kernel_rfl) (by kernel_rfl) ?hQm37 (Or.inl ⟨?hwm37, ?hym37⟩) (by assumption) ?restm37
  case him37 => simp only [List.getElem?_toArray, List.getElem?_cons_succ, List.getElem?_cons_zero]; exact rfl
  case hQm37 => exact fun _ _ _ h => h
  case hwm37 => rfl
  case hym37 => ((intro w hSw; (try dsimp only at hSw); go_simp) <;> with_reducible rfl)
  try simp only [Act.put, List.setIfInBounds_toArray, List.set_cons_zero, List.set_cons_succ]
  refine wpAnyH_take (i := 2) (oi := ?oim38) (v := ?vm38) ?him38 (by kernel_rfl) (by kernel_rfl) (by kernel_rfl) ?hQm38 (Or.inl ⟨?hwm38, ?hym38⟩) (by assumption) ?restm38
  case him38 => simp only [List.getElem?_toArray, List.getElem?_cons_succ, List.getElem?_cons_zero]; exact rfl
  case hQm38 => exact fun _ _ _ h => h
  case hwm38 => rfl
  case hym38 => ((intro w hSw; (try dsimp only at hSw); go_simp) <;> with_reducible rfl)
  try simp only [Act.put, List.setIfInBounds_toArray, List.set_cons_zero, List.set_cons_succ]
  refine wpAnyH_take (i := 3) (oi := ?oim39) (v := ?vm39) ?him39 (by kernel_rfl) (by kernel_rfl) (by kernel_rfl) ?hQm39 (Or.inl ⟨?hwm39, ?hym39⟩) (by assumption) ?restm39
  case him39 => simp only [List.getElem?_toArray, List.getElem?_cons_succ, List.getElem?_cons_zero]; exact rfl
  case hQm39 => exact fun _ _ _ h => h
  case hwm39 => rfl
  case hym39 => ((intro w hSw; (try dsimp only at hSw); go_simp) <;> with_reducible rfl)
  try simp only [Act.put, List.setIfInBounds_toArray, List.set_cons_zero, List.set_cons_succ]
  refine wpAnyH_take (i := 5) (oi := ?oim40) (v := ?vm40) ?him40 (by kernel_rfl) (by kernel_rfl) (by kernel_rfl) ?hQm40 (Or.inl ⟨?hwm40, ?hym40⟩) (by assumption) ?restm40
  case him40 => simp only [List.getElem?_toArray, List.getElem?_cons_succ, List.getElem?_cons_zero]; exact rfl
  case hQm40 => exact fun _ _ _ h => h
  case hwm40 => rfl
  case hym40 => ((intro w hSw; (try dsimp only at hSw); go_simp) <;> with_reducible rfl)
  try simp only [Act.put, List.setIfInBounds_toArray, List.set_cons_zero, List.set_cons_succ]
  refine wpAnyH_take (i := 6) (oi := ?oim41) (v := ?vm41) ?him41 (by kernel_rfl) (by kernel_rfl) (by kernel_rfl) ?hQm41 (Or.inl ⟨?hwm41, ?hym41⟩) (by assumption) ?restm41
  case him41 => simp only [List.getElem?_toArray, List.getElem?_cons_succ, List.getElem?_cons_zero]; exact rfl
  case hQm41 => exact fun _ _ _ h => h
  case hwm41 => rfl
  case hym41 => ((intro w hSw; (try dsimp only at hSw); go_simp) <;> with_reducible rfl)
  try simp only [Act.put, List.setIfInBounds_toArray, List.set_cons_zero, List.set_cons_succ]
  refine wpAnyH_take (i := 7) (oi := ?oim42) (v := ?vm42) ?him42 (by kernel_rfl) (by kernel_rfl) (by kernel_rfl) ?hQm42 (Or.inl ⟨?hwm42, ?hym42⟩) (by assumption) ?restm42
  case him42 => simp only [List.getElem?_toArray, List.getElem?_cons_succ, List.getElem?_cons_zero]; exact rfl
  case hQm42 => exact fun _ _ _ h => h
  case hwm42 => rfl
  case hym42 => ((intro w hSw; (try dsimp only at hSw); go_simp) <;> with_reducible rfl)
  try simp only [Act.put, List.setIfInBounds_toArray, List.set_cons_zero, List.set_cons_succ]
  refine wpAnyH_ready (rs := [4, 8]) (by kernel_rfl) (by simp) ?_
  refine AllReadyH.cons (o := ?or43_4) ?hor43_4 (fun K hK => ?stepr43_4) (AllReadyH.cons (o := ?or43_8) ?hor43_8 (fun K hK => ?stepr43_8) (AllReadyH.nil))
  case hor43_4 => simp only [List.getElem?_toArray, List.getElem?_cons_succ, List.getElem?_cons_zero]; exact rfl
  case hor43_8 => simp only [List.getElem?_toArray, List.getElem?_cons_succ, List.getElem?_cons_zero]; exact rfl
  case stepr43_4 =>
    obtain ⟨x0, x1, x2, x3, x4, x5⟩ := tcell6 hT.tk
    go_simp
    clear x0 x1 x2 x3 x4 x5
    refine hK.out _ _ ?hSr43_4 (fun hHeld => ?restr43_4)
    case hSr43_4 => exact hHeld
    clear hK K
    try simp only [Act.put, List.setIfInBounds_toArray, List.set_cons_zero, List.set_cons_succ]
    refine wpAnyH_ready (rs := [8]) (by kernel_rfl) (by simp) ?_
    refine AllReadyH.cons (o := ?or44_8) ?hor44_8 (fun K hK => ?stepr44_8) (AllReadyH.nil)
    case hor44_8 => simp only [List.getElem?_toArray, List.getElem?_cons_succ, List.getElem?_cons_zero]; exact rfl
    case stepr44_8 =>
      go_simp
      go_at_call 118
      refine (impl_orderRec 4 oi oa op q w.drew).mono ?_
      rintro e u45 ⟨rfl, hb8⟩
      have hkp := Lib.hid (fun (p : Addr) (hp : p.block < w.drew.heap.size) => hb8.cell hp)
      have hTb := heap_lt hT.tk
      have hGb := heap_lt hT.rest
      replace hT := hT.later hb8
      replace hB := hB.later hb8
      clear hb8
      refine hK.out _ _ ?hSr44_8 (fun hHeld => ?restr44_8)
      case hSr44_8 => exact ⟨(hkp.out ⟨t, 0, none⟩ hTb).trans hHeld.1, (hkp.out ⟨t, 1, none⟩ hTb).trans hHeld.2.1, (hkp.out ⟨t, 2, none⟩ hTb).trans hHeld.2.2.1, (hkp.out ⟨t, 3, none⟩ hTb).trans hHeld.2.2.2⟩
      clear hK K
      try simp only [Act.put, List.setIfInBounds_toArray, List.set_cons_zero, List.set_cons_succ]
      refine wpAnyH_ready (rs := [9]) (by kernel_rfl) (by simp) ?_
      refine AllReadyH.cons (o := ?or46_9) ?hor46_9 (fun K hK => ?stepr46_9) (AllReadyH.nil)
      case hor46_9 => simp only [List.getElem?_toArray, List.getElem?_cons_succ, List.getElem?_cons_zero]; exact rfl
      case stepr46_9 =>
        go_simp
        have hTb := heap_lt hT.tk
        have hGb := heap_lt hT.rest
        have hal : Below u45.heap.size u45 (u45.alloc (.cells #[.int .i64 0, .int .i64 4, .int .i64 0, .int .i64 oa, .int .i64 oi, .int .i64 0, .int .i64 op, .int .i64 q] 39)) := (Below.refl u45.heap.size u45).alloc (Nat.le_refl _) (.cells #[.int .i64 0, .int .i64 4, .int .i64 0, .int .i64 oa, .int .i64 oi, .int .i64 0, .int .i64 op, .int .i64 q] 39)
        have hnew := World.news_of_block (show (u45.alloc (.cells #[.int .i64 0, .int .i64 4, .int .i64 0, .int .i64 oa, .int .i64 oi, .int .i64 0, .int .i64 op, .int .i64 q] 39)).heap[u45.heap.size]? = _ from heap_alloc_new u45 (.cells #[.int .i64 0, .int .i64 4, .int .i64 0, .int .i64 oa, .int .i64 oi, .int .i64 0, .int .i64 op, .int .i64 q] 39))
        have hkp := Lib.hid (fun (p : Addr) (hp : p.block < u45.heap.size) => hal.cell hp)
        replace hT := hT.later hal
        replace hB := hB.later hal
        clear hal
        generalize u45.alloc (.cells #[.int .i64 0, .int .i64 4, .int .i64 0, .int .i64 oa, .int .i64 oi, .int .i64 0, .int .i64 op, .int .i64 q] 39) = ua47 at *
        generalize u45.heap.size = xn at *
        refine hK.out _ _ ?hSr46_9 (fun hHeld => ?restr46_9)
        case hSr46_9 => exact ⟨(hkp.out ⟨t, 0, none⟩ hTb).trans hHeld.1, (hkp.out ⟨t, 1, none⟩ hTb).trans hHeld.2.1, (hkp.out ⟨t, 2, none⟩ hTb).trans hHeld.2.2.1, (hkp.out ⟨t, 3, none⟩ hTb).trans hHeld.2.2.2⟩
        clear hK K
        try simp only [Act.put, List.setIfInBounds_toArray, List.set_cons_zero, List.set_cons_succ]
        refine wpAnyH_ready (rs := [10]) (by kernel_rfl) (by simp) ?_
        refine AllReadyH.cons (o := ?or48_10) ?hor48_10 (fun K hK => ?stepr48_10) (AllReadyH.nil)
        case hor48_10 => simp only [List.getElem?_toArray, List.getElem?_cons_succ, List.getElem?_cons_zero]; exact rfl
        case stepr48_10 =>
          have hTb := heap_lt hT.tk
          have hGb := heap_lt hT.rest
          have hfa := hT.far
          have hlo := hT.recs.lt
          refine step_append_at _ rfl _ _ 31 rfl base 39 i0 _ 8 64 Try.underlying31 hi hz0 hz1 hz2 rfl (by decide) _ _ _ rfl hT.recs ⟨xn, 0, none⟩ 1 1 [.int .i64 0, .int .i64 4, .int .i64 0, .int .i64 oa, .int .i64 oi, .int .i64 0, .int .i64 op, .int .i64 q] rfl rfl hnew (nums_one (canR oi oa op q)) (by unfold maxLen; omega) (by omega) hT.low ?_
          intro v' uv49 hown hgrow _ hat
          obtain ⟨A3, d3, rfl, _, _⟩ := own_slice hown
          have hkp := Lib.hid (fun (p : Addr) (hp : p.block < ua47.heap.size) (hn : some p.block ≠ (Value.slice Ar N dr).ownBlock) => World.cell?_of_block (a := p) (hgrow.block p.block hp hn))
          have hsz := hB.size
          replace hB := hB.grown hgrow (.inl rfl)
          have HG := Lib.hid hgrow
          clear hgrow
          refine hK.out _ _ ?hSr48_10 (fun hHeld => ?restr48_10)
          case hSr48_10 => exact ⟨(hkp.out ⟨t, 0, none⟩ hTb (fun e => hfa.1 e.symm)).trans hHeld.1, (hkp.out ⟨t, 1, none⟩ hTb (fun e => hfa.1 e.symm)).trans hHeld.2.1, (hkp.out ⟨t, 2, none⟩ hTb (fun e => hfa.1 e.symm)).trans hHeld.2.2.1, (hkp.out ⟨t, 3, none⟩ hTb (fun e => hfa.1 e.symm)).trans hHeld.2.2.2⟩
          clear hK K
          try simp only [Act.put, List.setIfInBounds_toArray, List.set_cons_zero, List.set_cons_succ]
          refine wpAnyH_take (i := 11) (oi := ?oim50) (v := ?vm50) ?him50 (by kernel_rfl) (by kernel_rfl) (by kernel_rfl) ?hQm50 (Or.inl ⟨?hwm50, ?hym50⟩) (by assumption) ?restm50
          case him50 => simp only [List.getElem?_toArray, List.getElem?_cons_succ, List.getElem?_cons_zero]; exact rfl
          case hQm50 => exact fun _ _ _ h => h
          case hwm50 => rfl
          case hym50 => ((intro w hSw; (try dsimp only at hSw); go_simp) <;> with_reducible rfl)
          try simp only [Act.put, List.setIfInBounds_toArray, List.set_cons_zero, List.set_cons_succ]
          refine wpAnyH_take (i := 12) (oi := ?oim51) (v := ?vm51) ?him51 (by kernel_rfl) (by kernel_rfl) (by kernel_rfl) ?hQm51 (Or.inl ⟨?hwm51, ?hym51⟩) (by assumption) ?restm51
          case him51 => simp only [List.getElem?_toArray, List.getElem?_cons_succ, List.getElem?_cons_zero]; exact rfl
          case hQm51 => exact fun _ _ _ h => h
          case hwm51 => rfl
          case hym51 => ((intro w hSw; (try dsimp only at hSw); go_simp) <;> with_reducible rfl)
          try simp only [Act.put, List.setIfInBounds_toArray, List.set_cons_zero, List.set_cons_succ]
          refine wpAnyH_ready (rs := [13]) (by kernel_rfl) (by simp) ?_
          refine AllReadyH.cons (o := ?or52_13) ?hor52_13 (fun K hK => ?stepr52_13) (AllReadyH.nil)
          case hor52_13 => simp only [List.getElem?_toArray, List.getElem?_cons_succ, List.getElem?_cons_zero]; exact rfl
          case stepr52_13 =>
            have hT0 := hT.tk
            have hfa := hT.far
            have hTk := (HG.out.block t (heap_lt hT.tk) (fun e => hfa.1 e.symm)).trans hT.tk
            obtain ⟨x0, x1, x2, x3, x4, x5⟩ := tcell6 hTk
            have z5 := mfree hTk 5
            go_simp
            clear x0 x1 x2 x3 x4 x5 z5
            replace hT := hT.more (R' := R ++ (canR oi oa op q)) (by rw [nums_append]; exact hown) HG.out
            replace hB := hB.setT 5 (.slice A3 (N + 1) d3)
            refine hK.out _ _ ?hSr52_13 (fun hHeld => ?restr52_13)
            case hSr52_13 => exact ⟨(set_far5 (by decide)).trans hHeld.1, (set_far5 (by decide)).trans hHeld.2.1, (set_far5 (by decide)).trans hHeld.2.2.1, (set_far5 (by decide)).trans hHeld.2.2.2⟩
            clear hK K
            try simp only [Act.put, List.setIfInBounds_toArray, List.set_cons_zero, List.set_cons_succ]
            refine wpAnyH_done (by kernel_rfl) ?_ _
            have hat2 : (Value.slice A3 (N + 1) d3).ownBlock = (Value.slice Ar N dr).ownBlock ∨ ∀ k, (Value.slice A3 (N + 1) d3).ownBlock = some k → w.heap.size ≤ k := hat.imp id (fun h k e => by rw [h] at e; injection e with e; omega)
            clear hHeld o0 o1 o2 o3 o4 o5 h0 h1 h2 h3 hown HG hat
            generalize (uv49.setCell ⟨t, 5, none⟩ (.slice A3 (N + 1) d3)) = wf at *
            obtain ⟨o0, o1, o2, o3, o4, o5⟩ := tcell6 hT.tk
            have z3 := mfree hT.tk 3
            go_wp2_with fail
            go_end0
            exact ⟨⟨_, rfl⟩, _, hT.setQ 0, hB.setT 3 (.int .i64 0), hat2⟩
  case stepr43_8 =>
    go_simp
    go_at_call 118
    refine (impl_orderRec 4 oi oa op q w.drew).mono ?_
    rintro e u53 ⟨rfl, hb8⟩
    have hkp := Lib.hid (fun (p : Addr) (hp : p.block < w.drew.heap.size) => hb8.cell hp)
    have hTb := heap_lt hT.tk
    have hGb := heap_lt hT.rest
    replace hT := hT.later hb8
    replace hB := hB.later hb8
    clear hb8
    refine hK.out _ _ ?hSr43_8 (fun hHeld => ?restr43_8)
    case hSr43_8 => exact ⟨(hkp.out ⟨t, 0, none⟩ hTb).trans hHeld.1, (hkp.out ⟨t, 1, none⟩ hTb).trans hHeld.2.1, (hkp.out ⟨t, 2, none⟩ hTb).trans hHeld.2.2.1, (hkp.out ⟨t, 3, none⟩ hTb).trans hHeld.2.2.2⟩
    clear hK K
    try simp only [Act.put, List.setIfInBounds_toArray, List.set_cons_zero, List.set_cons_succ]
    refine wpAnyH_ready (rs := [4, 9]) (by kernel_rfl) (by simp) ?_
    refine AllReadyH.cons (o := ?or54_4) ?hor54_4 (fun K hK => ?stepr54_4) (AllReadyH.cons (o := ?or54_9) ?hor54_9 (fun K hK => ?stepr54_9) (AllReadyH.nil))
    case hor54_4 => simp only [List.getElem?_toArray, List.getElem?_cons_succ, List.getElem?_cons_zero]; exact rfl
    case hor54_9 => simp only [List.getElem?_toArray, List.getElem?_cons_succ, List.getElem?_cons_zero]; exact rfl
    case stepr54_4 =>
      obtain ⟨x0, x1, x2, x3, x4, x5⟩ := tcell6 hT.tk
      go_simp
      clear x0 x1 x2 x3 x4 x5
      refine hK.out _ _ ?hSr54_4 (fun hHeld => ?restr54_4)
      case hSr54_4 => exact hHeld
      clear hK K
      try simp only [Act.put, List.setIfInBounds_toArray, List.set_cons_zero, List.set_cons_succ]
      refine wpAnyH_ready (rs := [9]) (by kernel_rfl) (by simp) ?_
      refine AllReadyH.cons (o := ?or55_9) ?hor55_9 (fun K hK => ?stepr55_9) (AllReadyH.nil)
      case hor55_9 => simp only [List.getElem?_toArray, List.getElem?_cons_succ, List.getElem?_cons_zero]; exact rfl
      case stepr55_9 =>
        go_simp
        have hTb := heap_lt hT.tk
        have hGb := heap_lt hT.rest
        have hal : Below u53.heap.size u53 (u53.alloc (.cells #[.int .i64 0, .int .i64 4, .int .i64 0, .int .i64 oa, .int .i64 oi, .int .i64 0, .int .i64 op, .int .i64 q] 39)) := (Below.refl u53.heap.size u53).alloc (Nat.le_refl _) (.cells #[.int .i64 0, .int .i64 4, .int .i64 0, .int .i64 oa, .int .i64 oi, .int .i64 0, .int .i64 op, .int .i64 q] 39)
        have hnew := World.news_of_block (show (u53.alloc (.cells #[.int .i64 0, .int .i64 4, .int .i64 0, .int .i64 oa, .int .i64 oi, .int .i64 0, .int .i64 op, .int .i64 q] 39)).heap[u53.heap.size]? = _ from heap_alloc_new u53 (.cells #[.int .i64 0, .int .i64 4, .int .i64 0, .int .i64 oa, .int .i64 oi, .int .i64 0, .int .i64 op, .int .i64 q] 39))
        have hkp := Lib.hid (fun (p : Addr) (hp : p.block < u53.heap.size) => hal.cell hp)
        replace hT := hT.later hal
        replace hB := hB.later hal
        clear hal
        generalize u53.alloc (.cells #[.int .i64 0, .int .i64 4, .int .i64 0, .int .i64 oa, .int .i64 oi, .int .i64 0, .int .i64 op, .int .i64 q] 39) = ua56 at *
        generalize u53.heap.size = xn at *
        refine hK.out _ _ ?hSr55_9 (fun hHeld => ?restr55_9)
        case hSr55_9 => exact ⟨(hkp.out ⟨t, 0, none⟩ hTb).trans hHeld.1, (hkp.out ⟨t, 1, none⟩ hTb).trans hHeld.2.1, (hkp.out ⟨t, 2, none⟩ hTb).trans hHeld.2.2.1, (hkp.out ⟨t, 3, none⟩ hTb).trans hHeld.2.2.2⟩
        clear hK K
        try simp only [Act.put, List.setIfInBounds_toArray, List.set_cons_zero, List.set_cons_succ]
        refine wpAnyH_ready (rs := [10]) (by kernel_rfl) (by simp) ?_
        refine AllReadyH.cons (o := ?or57_10) ?hor57_10 (fun K hK => ?stepr57_10) (AllReadyH.nil)
        case hor57_10 => simp only [List.getElem?_toArray, List.getElem?_cons_succ, List.getElem?_cons_zero]; exact rfl
        case stepr57_10 =>
          have hTb := heap_lt hT.tk
          have hGb := heap_lt hT.rest
          have hfa := hT.far
          have hlo := hT.recs.lt
          refine step_append_at _ rfl _ _ 31 rfl base 39 i0 _ 8 64 Try.underlying31 hi hz0 hz1 hz2 rfl (by decide) _ _ _ rfl hT.recs ⟨xn, 0, none⟩ 1 1 [.int .i64 0, .int .i64 4, .int .i64 0, .int .i64 oa, .int .i64 oi, .int .i64 0, .int .i64 op, .int .i64 q] rfl rfl hnew (nums_one (canR oi oa op q)) (by unfold maxLen; omega) (by omega) hT.low ?_
          intro v' uv58 hown hgrow _ hat
          obtain ⟨A3, d3, rfl, _, _⟩ := own_slice hown
          have hkp := Lib.hid (fun (p : Addr) (hp : p.block < ua56.heap.size) (hn : some p.block ≠ (Value.slice Ar N dr).ownBlock) => World.cell?_of_block (a := p) (hgrow.block p.block hp hn))
          have hsz := hB.size
          replace hB := hB.grown hgrow (.inl rfl)
          have HG := Lib.hid hgrow
          clear hgrow
          refine hK.out _ _ ?hSr57_10 (fun hHeld => ?restr57_10)
          case hSr57_10 => exact ⟨(hkp.out ⟨t, 0, none⟩ hTb (fun e => hfa.1 e.symm)).trans hHeld.1, (hkp.out ⟨t, 1, none⟩ hTb (fun e => hfa.1 e.symm)).trans hHeld.2.1, (hkp.out ⟨t, 2, none⟩ hTb (fun e => hfa.1 e.symm)).trans hHeld.2.2.1, (hkp.out ⟨t, 3, none⟩ hTb (fun e => hfa.1 e.symm)).trans hHeld.2.2.2⟩
          clear hK K
          try simp only [Act.put, List.setIfInBounds_toArray, List.set_cons_zero, List.set_cons_succ]
          refine wpAnyH_take (i := 11) (oi := ?oim59) (v := ?vm59) ?him59 (by kernel_rfl) (by kernel_rfl) (by kernel_rfl) ?hQm59 (Or.inl ⟨?hwm59, ?hym59⟩) (by assumption) ?restm59
          case him59 => simp only [List.getElem?_toArray, List.getElem?_cons_succ, List.getElem?_cons_zero]; exact rfl
          case hQm59 => exact fun _ _ _ h => h
          case hwm59 => rfl
          case hym59 => ((intro w hSw; (try dsimp only at hSw); go_simp) <;> with_reducible rfl)
          try simp only [Act.put, List.setIfInBounds_toArray, List.set_cons_zero, List.set_cons_succ]
          refine wpAnyH_take (i := 12) (oi := ?oim60) (v := ?vm60) ?him60 (by kernel_rfl) (by kernel_rfl) (by kernel_rfl) ?hQm60 (Or.inl ⟨?hwm60, ?hym60⟩) (by assumption) ?restm60
          case him60 => simp only [List.getElem?_toArray, List.getElem?_cons_succ, List.getElem?_cons_zero]; exact rfl
          case hQm60 => exact fun _ _ _ h => h
          case hwm60 => rfl
          case hym60 => ((intro w hSw; (try dsimp only at hSw); go_simp) <;> with_reducible rfl)
          try simp only [Act.put, List.setIfInBounds_toArray, List.set_cons_zero, List.set_cons_succ]
          refine wpAnyH_ready (rs := [13]) (by kernel_rfl) (by simp) ?_
          refine AllReadyH.cons (o := ?or61_13) ?hor61_13 (fun K hK => ?stepr61_13) (AllReadyH.nil)
          case hor61_13 => simp only [List.getElem?_toArray, List.getElem?_cons_succ, List.getElem?_cons_zero]; exact rfl
          case stepr61_13 =>
            have hT0 := hT.tk
            have hfa := hT.far
            have hTk := (HG.out.block t (heap_lt hT.tk) (fun e => hfa.1 e.symm)).trans hT.tk
            obtain ⟨x0, x1, x2, x3, x4, x5⟩ := tcell6 hTk
            have z5 := mfree hTk 5
            go_simp
            clear x0 x1 x2 x3 x4 x5 z5
            replace hT := hT.more (R' := R ++ (canR oi oa op q)) (by rw [nums_append]; exact hown) HG.out
            replace hB := hB.setT 5 (.slice A3 (N + 1) d3)
            refine hK.out _ _ ?hSr61_13 (fun hHeld => ?restr61_13)
            case hSr61_13 => exact ⟨(set_far5 (by decide)).trans hHeld.1, (set_far5 (by decide)).trans hHeld.2.1, (set_far5 (by decide)).trans hHeld.2.2.1, (set_far5 (by decide)).trans hHeld.2.2.2⟩
            clear hK K
            try simp only [Act.put, List.setIfInBounds_toArray, List.set_cons_zero, List.set_cons_succ]
            refine wpAnyH_done (by kernel_rfl) ?_ _
            have hat2 : (Value.slice A3 (N + 1) d3).ownBlock = (Value.slice Ar N dr).ownBlock ∨ ∀ k, (Value.slice A3 (N + 1) d3).ownBlock = some k → w.heap.size ≤ k := hat.imp id (fun h k e => by rw [h] at e; injection e with e; omega)
            clear hHeld o0 o1 o2 o3 o4 o5 h0 h1 h2 h3 hown HG hat
            generalize (uv58.setCell ⟨t, 5, none⟩ (.slice A3 (N + 1) d3)) = wf at *
            obtain ⟨o0, o1, o2, o3, o4, o5⟩ := tcell6 hT.tk
            have z3 := mfree hT.tk 3
            go_wp2_with fail
            go_end0
            exact ⟨⟨_, rfl⟩, _, hT.setQ 0, hB.setT 3 (.int .i64 0), hat2⟩
    case stepr54_9 =>
      go_simp
      have hTb := heap_lt hT.tk
      have hGb := heap_lt hT.rest
      have hal : Below u53.heap.size u53 (u53.alloc (.cells #[.int .i64 0, .int .i64 4, .int .i64 0, .int .i64 oa, .int .i64 oi, .int .i64 0, .int .i64 op, .int .i64 q] 39)) := (Below.refl u53.heap.size u53).alloc (Nat.le_refl _) (.cells #[.int .i64 0, .int .i64 4, .int .i64 0, .int .i64 oa, .int .i64 oi, .int .i64 0, .int .i64 op, .int .i64 q] 39)
      have hnew := World.news_of_block (show (u53.alloc (.cells #[.int .i64 0, .int .i64 4, .int .i64 0, .int .i64 oa, .int .i64 oi, .int .i64 0, .int .i64 op, .int .i64 q] 39)).heap[u53.heap.size]? = _ from heap_alloc_new u53 (.cells #[.int .i64 0, .int .i64 4, .int .i64 0, .int .i64 oa, .int .i64 oi, .int .i64 0, .int .i64 op, .int .i64 q] 39))
      have hkp := Lib.hid (fun (p : Addr) (hp : p.block < u53.heap.size) => hal.cell hp)
      replace hT := hT.later hal
      replace hB := hB.later hal
      clear hal
      generalize u53.alloc (.cells #[.int .i64 0, .int .i64 4, .int .i64 0, .int .i64 oa, .int .i64 oi, .int .i64 0, .int .i64 op, .int .i64 q] 39) = ua62 at *
      generalize u53.heap.size = xn at *
      refine hK.out _ _ ?hSr54_9 (fun hHeld => ?restr54_9)
      case hSr54_9 => exact ⟨(hkp.out ⟨t, 0, none⟩ hTb).trans hHeld.1, (hkp.out ⟨t, 1, none⟩ hTb).trans hHeld.2.1, (hkp.out ⟨t, 2, none⟩ hTb).trans hHeld.2.2.1, (hkp.out ⟨t, 3, none⟩ hTb).trans hHeld.2.2.2⟩
      clear hK K
      try simp only [Act.put, List.setIfInBounds_toArray, List.set_cons_zero, List.set_cons_succ]
      refine wpAnyH_ready (rs := [4]) (by kernel_rfl) (by simp) ?_
      refine AllReadyH.cons (o := ?or63_4) ?hor63_4 (fun K hK => ?stepr63_4) (AllReadyH.nil)
      case hor63_4 => simp only [List.getElem?_toArray, List.getElem?_cons_succ, List.getElem?_cons_zero]; exact rfl
      case stepr63_4 =>
        obtain ⟨x0, x1, x2, x3, x4, x5⟩ := tcell6 hT.tk
        go_simp
        clear x0 x1 x2 x3 x4 x5
        refine hK.out _ _ ?hSr63_4 (fun hHeld => ?restr63_4)
        case hSr63_4 => exact hHeld
        clear hK K
        try simp only [Act.put, List.setIfInBounds_toArray, List.set_cons_zero, List.set_cons_succ]
        refine wpAnyH_ready (rs := [10]) (by kernel_rfl) (by simp) ?_
        refine AllReadyH.cons (o := ?or64_10) ?hor64_10 (fun K hK => ?stepr64_10) (AllReadyH.nil)
        case hor64_10 => simp only [List.getElem?_toArray, List.getElem?_cons_succ, List.getElem?_cons_zero]; exact rfl
        case stepr64_10 =>
          have hTb := heap_lt hT.tk
          have hGb := heap_lt hT.rest
          have hfa := hT.far
          have hlo := hT.recs.lt
          refine step_append_at _ rfl _ _ 31 rfl base 39 i0 _ 8 64 Try.underlying31 hi hz0 hz1 hz2 rfl (by decide) _ _ _ rfl hT.recs ⟨xn, 0, none⟩ 1 1 [.int .i64 0, .int .i64 4, .int .i64 0, .int .i64 oa, .int .i64 oi, .int .i64 0, .int .i64 op, .int .i64 q] rfl rfl hnew (nums_one (canR oi oa op q)) (by unfold maxLen; omega) (by omega) hT.low ?_
          intro v' uv65 hown hgrow _ hat
          obtain ⟨A3, d3, rfl, _, _⟩ := own_slice hown
          have hkp := Lib.hid (fun (p : Addr) (hp : p.block < ua62.heap.size) (hn : some p.block ≠ (Value.slice Ar N dr).ownBlock) => World.cell?_of_block (a := p) (hgrow.block p.block hp hn))
          have hsz := hB.size
          replace hB := hB.grown hgrow (.inl rfl)
          have HG := Lib.hid hgrow
          clear hgrow
          refine hK.out _ _ ?hSr64_10 (fun hHeld => ?restr64_10)
          case hSr64_10 => exact ⟨(hkp.out ⟨t, 0, none⟩ hTb (fun e => hfa.1 e.symm)).trans hHeld.1, (hkp.out ⟨t, 1, none⟩ hTb (fun e => hfa.1 e.symm)).trans hHeld.2.1, (hkp.out ⟨t, 2, none⟩ hTb (fun e => hfa.1 e.symm)).trans hHeld.2.2.1, (hkp.out ⟨t, 3, none⟩ hTb (fun e => hfa.1 e.symm)).trans hHeld.2.2.2⟩
          clear hK K
          try simp only [Act.put, List.setIfInBounds_toArray, List.set_cons_zero, List.set_cons_succ]
          refine wpAnyH_take (i := 11) (oi := ?oim66) (v := ?vm66) ?him66 (by kernel_rfl) (by kernel_rfl) (by kernel_rfl) ?hQm66 (Or.inl ⟨?hwm66, ?hym66⟩) (by assumption) ?restm66
          case him66 => simp only [List.getElem?_toArray, List.getElem?_cons_succ, List.getElem?_cons_zero]; exact rfl
          case hQm66 => exact fun _ _ _ h => h
          case hwm66 => rfl
          case hym66 => ((intro w hSw; (try dsimp only at hSw); go_simp) <;> with_reducible rfl)
          try simp only [Act.put, List.setIfInBounds_toArray, List.set_cons_zero, List.set_cons_succ]
          refine wpAnyH_take (i := 12) (oi := ?oim67) (v := ?vm67) ?him67 (by kernel_rfl) (by kernel_rfl) (by kernel_rfl) ?hQm67 (Or.inl ⟨?hwm67, ?hym67⟩) (by assumption) ?restm67
          case him67 => simp only [List.getElem?_toArray, List.getElem?_cons_succ, List.getElem?_cons_zero]; exact rfl
          case hQm67 => exact fun _ _ _ h => h
          case hwm67 => rfl
          case hym67 => ((intro w hSw; (try dsimp only at hSw); go_simp) <;> with_reducible rfl)
          try simp only [Act.put, List.setIfInBounds_toArray, List.set_cons_zero, List.set_cons_succ]
          refine wpAnyH_ready (rs := [13]) (by kernel_rfl) (by simp) ?_
          refine AllReadyH.cons (o := ?or68_13) ?hor68_13 (fun K hK => ?stepr68_13) (AllReadyH.nil)
          case hor68_13 => simp only [List.getElem?_toArray, List.getElem?_cons_succ, List.getElem?_cons_zero]; exact rfl
          case stepr68_13 =>
            have hT0 := hT.tk
            have hfa := hT.far
            have hTk := (HG.out.block t (heap_lt hT.tk) (fun e => hfa.1 e.symm)).trans hT.tk
            obtain ⟨x0, x1, x2, x3, x4, x5⟩ := tcell6 hTk
            have z5 := mfree hTk 5
            go_simp
            clear x0 x1 x2 x3 x4 x5 z5
            replace hT := hT.more (R' := R ++ (canR oi oa op q)) (by rw [nums_append]; exact hown) HG.out
            replace hB := hB.setT 5 (.slice A3 (N + 1) d3)
            refine hK.out _ _ ?hSr68_13 (fun hHeld => ?restr68_13)
            case hSr68_13 => exact ⟨(set_far5 (by decide)).trans hHeld.1, (set_far5 (by decide)).trans hHeld.2.1, (set_far5 (by decide)).trans hHeld.2.2.1, (set_far5 (by decide)).trans hHeld.2.2.2⟩
            clear hK K
            try simp only [Act.put, List.setIfInBounds_toArray, List.set_cons_zero, List.set_cons_succ]
            refine wpAnyH_done (by kernel_rfl) ?_ _
            have hat2 : (Value.slice A3 (N + 1) d3).ownBlock = (Value.slice Ar N dr).ownBlock ∨ ∀ k, (Value.slice A3 (N + 1) d3).ownBlock = some k → w.heap.size ≤ k := hat.imp id (fun h k e => by rw [h] at e; injection e with e; omega)
            clear hHeld o0 o1 o2 o3 o4 o5 h0 h1 h2 h3 hown HG hat
            generalize (uv65.setCell ⟨t, 5, none⟩ (.slice A3 (N + 1) d3)) = wf at *
            obtain ⟨o0, o1, o2, o3, o4, o5⟩ := tcell6 hT.tk
            have z3 := mfree hT.tk 3
            go_wp2_with fail
            go_end0
            exact ⟨⟨_, rfl⟩, _, hT.setQ 0, hB.setT 3 (.int .i64 0), hat2⟩
set_option linter.unusedSimpArgs false in
set_option maxHeartbeats 3200000 in
set_option maxRecDepth 100000 in
theorem impl_trade (t g base N : Nat) (oi oa op q mode i a p c T : Int) (rv : Value) (R : List Int) (w : World) (hT : TkW w t g oi oa op q mode rv base N R i a p c) (hN : N ≤ 1000000) (tmn : min q c = T) (q0 : 0 ≤ q) (q1 : q ≤ 1000000) (c0 : 0 ≤ c) (c1 : c ≤ 1000000) :
    Calls Try.prog 77 #[.pointer (some ⟨t, 0, none⟩), .pointer (some ⟨g, 0, none⟩)] w fun e w' => (∃ u, e = .returned u) ∧ ∃ v, TkW w' t g oi oa op (q - T) mode v base (N + 1) (R ++ (filR oi oa i p T)) i a p (c - T) ∧ But w w' t g rv.ownBlock ∧ (v.ownBlock = rv.ownBlock ∨ ∀ k, v.ownBlock = some k → w.heap.size ≤ k) := by
  obtain ⟨i0, hi, hz0, hz1, hz2⟩ := info_parts rec_info
  obtain ⟨Ar, dr, rfl, _, _⟩ := own_slice hT.recs
  have hB := But.refl w t g (Value.slice Ar N dr).ownBlock
  have htg : t ≠ g := hT.ne
  have hT0 : 0 ≤ T := by omega
  have hT1 : T ≤ q := by omega
  have hT2 : T ≤ c := by omega
  obtain ⟨o0, o1, o2, o3, o4, o5⟩ := tcell6 hT.tk
  obtain ⟨h0, h1, h2, h3⟩ := mcell4 hT.rest
  go_enter Try.func77, Try.ntmps77
  go_upto_region 0 with fail
  refine wp_region_held_drew (S := (fun w' => w'.cell? ⟨t, 3, none⟩ = some (.int .i64 q) ∧ w'.cell? ⟨g, 3, none⟩ = some (.int .i64 c))) (by kernel_rfl) ?hSm69 (fun hHeld => ?restm69)
  case hSm69 => exact ⟨o3, h3⟩
  refine wpAnyH_take (i := 0) (oi := ?oim70) (v := ?vm70) ?him70 (by kernel_rfl) (by kernel_rfl) (by kernel_rfl) ?hQm70 (Or.inl ⟨?hwm70, ?hym70⟩) (by assumption) ?restm70
  case him70 => simp only [List.getElem?_toArray, List.getElem?_cons_succ, List.getElem?_cons_zero]; exact rfl
  case hQm70 => exact fun _ _ _ h => h
  case hwm70 => rfl
  case hym70 => ((intro w hSw; (try dsimp only at hSw); go_simp) <;> with_reducible rfl)
  try simp only [Act.put, List.setIfInBounds_toArray, List.set_cons_zero, List.set_cons_succ]
  refine wpAnyH_take (i := 1) (oi := ?oim71) (v := ?vm71) ?him71 (by kernel_rfl) (by kernel_rfl) (by kernel_rfl) ?hQm71 (Or.inl ⟨?hwm71, ?hym71⟩) (by assumption) ?restm71
  case him71 => simp only [List.getElem?_toArray, List.getElem?_cons_succ, List.getElem?_cons_zero]; exact rfl
  case hQm71 => exact fun _ _ _ h => h
  case hwm71 => rfl
  case hym71 => ((intro w hSw; (try dsimp only at hSw); go_simp) <;> with_reducible rfl)
  try simp only [Act.put, List.setIfInBounds_toArray, List.set_cons_zero, List.set_cons_succ]
  refine wpAnyH_take (i := 2) (oi := ?oim72) (v := ?vm72) ?him72 (by kernel_rfl) (by kernel_rfl) (by kernel_rfl) ?hQm72 (Or.inl ⟨?hwm72, ?hym72⟩) (by assumption) ?restm72
  case him72 => simp only [List.getElem?_toArray, List.getElem?_cons_succ, List.getElem?_cons_zero]; exact rfl
  case hQm72 => exact fun _ _ _ h => h
  case hwm72 => rfl
  case hym72 => ((intro w hSw; (try dsimp only at hSw); go_simp) <;> with_reducible rfl)
  try simp only [Act.put, List.setIfInBounds_toArray, List.set_cons_zero, List.set_cons_succ]
  refine wpAnyH_take (i := 3) (oi := ?oim73) (v := ?vm73) ?him73 (by kernel_rfl) (by kernel_rfl) (by kernel_rfl) ?hQm73 (Or.inl ⟨?hwm73, ?hym73⟩) (by assumption) ?restm73
  case him73 => simp only [List.getElem?_toArray, List.getElem?_cons_succ, List.getElem?_cons_zero]; exact rfl
  case hQm73 => exact fun _ _ _ h => h
  case hwm73 => rfl
  case hym73 => ((intro w hSw; (try dsimp only at hSw); go_simp) <;> with_reducible rfl)
  try simp only [Act.put, List.setIfInBounds_toArray, List.set_cons_zero, List.set_cons_succ]
  refine wpAnyH_take (i := 4) (oi := ?oim74) (v := ?vm74) ?him74 (by kernel_rfl) (by kernel_rfl) (by kernel_rfl) ?hQm74 (Or.inl ⟨?hwm74, ?hym74⟩) (by assumption) ?restm74
  case him74 => simp only [List.getElem?_toArray, List.getElem?_cons_succ, List.getElem?_cons_zero]; exact rfl
  case hQm74 => exact fun _ _ _ h => h
  case hwm74 => rfl
  case hym74 => ((intro w hSw; (try dsimp only at hSw); go_simp) <;> with_reducible rfl)
  try simp only [Act.put, List.setIfInBounds_toArray, List.set_cons_zero, List.set_cons_succ]
  refine wpAnyH_take (i := 5) (oi := ?oim75) (v := ?vm75) ?him75 (by kernel_rfl) (by kernel_rfl) (by kernel_rfl) ?hQm75 (Or.inl ⟨?hwm75, ?hym75⟩) (by assumption) ?restm75
  case him75 => simp only [List.getElem?_toArray, List.getElem?_cons_succ, List.getElem?_cons_zero]; exact rfl
  case hQm75 => exact fun _ _ _ h => h
  case hwm75 => rfl
  case hym75 => ((intro w hSw; (try dsimp only at hSw); go_simp) <;> with_reducible rfl)
  try simp only [Act.put, List.setIfInBounds_toArray, List.set_cons_zero, List.set_cons_succ]
  refine wpAnyH_take (i := 6) (oi := ?oim76) (v := ?vm76) ?him76 (by kernel_rfl) (by kernel_rfl) (by kernel_rfl) ?hQm76 (Or.inl ⟨?hwm76, ?hym76⟩) (by assumption) ?restm76
  case him76 => simp only [List.getElem?_toArray, List.getElem?_cons_succ, List.getElem?_cons_zero]; exact rfl
  case hQm76 => exact fun _ _ _ h => h
  case hwm76 => rfl
  case hym76 => ((intro w hSw; (try dsimp only at hSw); go_simp) <;> with_reducible rfl)
  try simp only [Act.put, List.setIfInBounds_toArray, List.set_cons_zero, List.set_cons_succ]
  refine wpAnyH_take (i := 7) (oi := ?oim77) (v := ?vm77) ?him77 (by kernel_rfl) (by kernel_rfl) (by kernel_rfl) ?hQm77 (Or.inl ⟨?hwm77, ?hym77⟩) (by assumption) ?restm77
  case him77 => simp only [List.getElem?_toArray, List.getElem?_cons_succ, List.getElem?_cons_zero]; exact rfl
  case hQm77 => exact fun _ _ _ h => h
  case hwm77 => rfl
  case hym77 => ((intro w hSw; (try dsimp only at hSw); go_simp) <;> with_reducible rfl)
  try simp only [Act.put, List.setIfInBounds_toArray, List.set_cons_zero, List.set_cons_succ]
  refine wpAnyH_take (i := 8) (oi := ?oim78) (v := ?vm78) ?him78 (by kernel_rfl) (by kernel_rfl) (by kernel_rfl) ?hQm78 (Or.inl ⟨?hwm78, ?hym78⟩) (by assumption) ?restm78
  case him78 => simp only [List.getElem?_toArray, List.getElem?_cons_succ, List.getElem?_cons_zero]; exact rfl
  case hQm78 => exact fun _ _ _ h => h
  case hwm78 => rfl
  case hym78 => ((intro w hSw; (try dsimp only at hSw); go_simp) <;> with_reducible rfl)
  try simp only [Act.put, List.setIfInBounds_toArray, List.set_cons_zero, List.set_cons_succ]
  refine wpAnyH_ready (rs := [9]) (by kernel_rfl) (by simp) ?_
  refine AllReadyH.cons (o := ?or79_9) ?hor79_9 (fun K hK => ?stepr79_9) (AllReadyH.nil)
  case hor79_9 => simp only [List.getElem?_toArray, List.getElem?_cons_succ, List.getElem?_cons_zero]; exact rfl
  case stepr79_9 =>
    go_simp
    refine hK.out _ _ ?hSr79_9 (fun hHeld => ?restr79_9)
    case hSr79_9 => exact hHeld
    clear hK K
    try simp only [Act.put, List.setIfInBounds_toArray, List.set_cons_zero, List.set_cons_succ]
    refine wpAnyH_take (i := 10) (oi := ?oim80) (v := ?vm80) ?him80 (by kernel_rfl) (by kernel_rfl) (by kernel_rfl) ?hQm80 (Or.inl ⟨?hwm80, ?hym80⟩) (by assumption) ?restm80
    case him80 => simp only [List.getElem?_toArray, List.getElem?_cons_succ, List.getElem?_cons_zero]; exact rfl
    case hQm80 => exact fun _ _ _ h => h
    case hwm80 => rfl
    case hym80 => ((intro w hSw; (try dsimp only at hSw); go_simp) <;> with_reducible rfl)
    try simp only [Act.put, List.setIfInBounds_toArray, List.set_cons_zero, List.set_cons_succ]
    refine wpAnyH_done (by kernel_rfl) ?_ _
    clear hHeld o0 o1 o2 o3 o4 o5 h0 h1 h2 h3 tmn
    replace hT := hT.drew
    replace hB := hB.drew
    have hWs : w.heap.size ≤ w.drew.heap.size := Nat.le_refl _
    generalize w.drew = wa at *
    go_upto_region 1 with fail
    replace hT := hT.drew
    replace hB := hB.drew
    replace hWs : w.heap.size ≤ wa.drew.heap.size := hWs
    obtain ⟨o0, o1, o2, o3, o4, o5⟩ := tcell6 hT.tk
    obtain ⟨h0, h1, h2, h3⟩ := mcell4 hT.rest
    refine wp_region_held_drew (S := (fun w' => w'.cell? ⟨t, 1, none⟩ = some (.int .i64 oa) ∧ w'.cell? ⟨t, 0, none⟩ = some (.int .i64 oi) ∧ w'.cell? ⟨g, 0, none⟩ = some (.int .i64 i) ∧ w'.cell? ⟨g, 2, none⟩ = some (.int .i64 p))) (by kernel_rfl) ?hSm81 (fun hHeld => ?restm81)
    case hSm81 => exact ⟨o1, o0, h0, h2⟩
    refine wpAnyH_take (i := 0) (oi := ?oim82) (v := ?vm82) ?him82 (by kernel_rfl) (by kernel_rfl) (by kernel_rfl) ?hQm82 (Or.inl ⟨?hwm82, ?hym82⟩) (by assumption) ?restm82
    case him82 => simp only [List.getElem?_toArray, List.getElem?_cons_succ, List.getElem?_cons_zero]; exact rfl
    case hQm82 => exact fun _ _ _ h => h
    case hwm82 => rfl
    case hym82 => ((intro w hSw; (try dsimp only at hSw); go_simp) <;> with_reducible rfl)
    try simp only [Act.put, List.setIfInBounds_toArray, List.set_cons_zero, List.set_cons_succ]
    refine wpAnyH_take (i := 1) (oi := ?oim83) (v := ?vm83) ?him83 (by kernel_rfl) (by kernel_rfl) (by kernel_rfl) ?hQm83 (Or.inl ⟨?hwm83, ?hym83⟩) (by assumption) ?restm83
    case him83 => simp only [List.getElem?_toArray, List.getElem?_cons_succ, List.getElem?_cons_zero]; exact rfl
    case hQm83 => exact fun _ _ _ h => h
    case hwm83 => rfl
    case hym83 => ((intro w hSw; (try dsimp only at hSw); go_simp) <;> with_reducible rfl)
    try simp only [Act.put, List.setIfInBounds_toArray, List.set_cons_zero, List.set_cons_succ]
    refine wpAnyH_take (i := 2) (oi := ?oim84) (v := ?vm84) ?him84 (by kernel_rfl) (by kernel_rfl) (by kernel_rfl) ?hQm84 (Or.inl ⟨?hwm84, ?hym84⟩) (by assumption) ?restm84
    case him84 => simp only [List.getElem?_toArray, List.getElem?_cons_succ, List.getElem?_cons_zero]; exact rfl
    case hQm84 => exact fun _ _ _ h => h
    case hwm84 => rfl
    case hym84 => ((intro w hSw; (try dsimp only at hSw); go_simp) <;> with_reducible rfl)
    try simp only [Act.put, List.setIfInBounds_toArray, List.set_cons_zero, List.set_cons_succ]
    refine wpAnyH_take (i := 3) (oi := ?oim85) (v := ?vm85) ?him85 (by kernel_rfl) (by kernel_rfl) (by kernel_rfl) ?hQm85 (Or.inl ⟨?hwm85, ?hym85⟩) (by assumption) ?restm85
    case him85 => simp only [List.getElem?_toArray, List.getElem?_cons_succ, List.getElem?_cons_zero]; exact rfl
    case hQm85 => exact fun _ _ _ h => h
    case hwm85 => rfl
    case hym85 => ((intro w hSw; (try dsimp only at hSw); go_simp) <;> with_reducible rfl)
    try simp only [Act.put, List.setIfInBounds_toArray, List.set_cons_zero, List.set_cons_succ]
    refine wpAnyH_take (i := 5) (oi := ?oim86) (v := ?vm86) ?him86 (by kernel_rfl) (by kernel_rfl) (by kernel_rfl) ?hQm86 (Or.inl ⟨?hwm86, ?hym86⟩) (by assumption) ?restm86
    case him86 => simp only [List.getElem?_toArray, List.getElem?_cons_succ, List.getElem?_cons_zero]; exact rfl
    case hQm86 => exact fun _ _ _ h => h
    case hwm86 => rfl
    case hym86 => ((intro w hSw; (try dsimp only at hSw); go_simp) <;> with_reducible rfl)
    try simp only [Act.put, List.setIfInBounds_toArray, List.set_cons_zero, List.set_cons_succ]
    refine wpAnyH_take (i := 6) (oi := ?oim87) (v := ?vm87) ?him87 (by kernel_rfl) (by kernel_rfl) (by kernel_rfl) ?hQm87 (Or.inl ⟨?hwm87, ?hym87⟩) (by assumption) ?restm87
    case him87 => simp only [List.getElem?_toArray, List.getElem?_cons_succ, List.getElem?_cons_zero]; exact rfl
    case hQm87 => exact fun _ _ _ h => h
    case hwm87 => rfl
    case hym87 => ((intro w hSw; (try dsimp only at hSw); go_simp) <;> with_reducible rfl)
    try simp only [Act.put, List.setIfInBounds_toArray, List.set_cons_zero, List.set_cons_succ]
    refine wpAnyH_take (i := 7) (oi := ?oim88) (v := ?vm88) ?him88 (by kernel_rfl) (by kernel_rfl) (by kernel_rfl) ?hQm88 (Or.inl ⟨?hwm88, ?hym88⟩) (by assumption) ?restm88
    case him88 => simp only [List.getElem?_toArray, List.getElem?_cons_succ, List.getElem?_cons_zero]; exact rfl
    case hQm88 => exact fun _ _ _ h => h
    case hwm88 => rfl
    case hym88 => ((intro w hSw; (try dsimp only at hSw); go_simp) <;> with_reducible rfl)
    try simp only [Act.put, List.setIfInBounds_toArray, List.set_cons_zero, List.set_cons_succ]
    refine wpAnyH_take (i := 8) (oi := ?oim89) (v := ?vm89) ?him89 (by kernel_rfl) (by kernel_rfl) (by kernel_rfl) ?hQm89 (Or.inl ⟨?hwm89, ?hym89⟩) (by assumption) ?restm89
    case him89 => simp only [List.getElem?_toArray, List.getElem?_cons_succ, List.getElem?_cons_zero]; exact rfl
    case hQm89 => exact fun _ _ _ h => h
    case hwm89 => rfl
    case hym89 => ((intro w hSw; (try dsimp only at hSw); go_simp) <;> with_reducible rfl)
    try simp only [Act.put, List.setIfInBounds_toArray, List.set_cons_zero, List.set_cons_succ]
    refine wpAnyH_take (i := 9) (oi := ?oim90) (v := ?vm90) ?him90 (by kernel_rfl) (by kernel_rfl) (by kernel_rfl) ?hQm90 (Or.inl ⟨?hwm90, ?hym90⟩) (by assumption) ?restm90
    case him90 => simp only [List.getElem?_toArray, List.getElem?_cons_succ, List.getElem?_cons_zero]; exact rfl
    case hQm90 => exact fun _ _ _ h => h
    case hwm90 => rfl
    case hym90 => ((intro w hSw; (try dsimp only at hSw); go_simp) <;> with_reducible rfl)
    try simp only [Act.put, List.setIfInBounds_toArray, List.set_cons_zero, List.set_cons_succ]
    refine wpAnyH_take (i := 10) (oi := ?oim91) (v := ?vm91) ?him91 (by kernel_rfl) (by kernel_rfl) (by kernel_rfl) ?hQm91 (Or.inl ⟨?hwm91, ?hym91⟩) (by assumption) ?restm91
    case him91 => simp only [List.getElem?_toArray, List.getElem?_cons_succ, List.getElem?_cons_zero]; exact rfl
    case hQm91 => exact fun _ _ _ h => h
    case hwm91 => rfl
    case hym91 => ((intro w hSw; (try dsimp only at hSw); go_simp) <;> with_reducible rfl)
    try simp only [Act.put, List.setIfInBounds_toArray, List.set_cons_zero, List.set_cons_succ]
    refine wpAnyH_take (i := 11) (oi := ?oim92) (v := ?vm92) ?him92 (by kernel_rfl) (by kernel_rfl) (by kernel_rfl) ?hQm92 (Or.inl ⟨?hwm92, ?hym92⟩) (by assumption) ?restm92
    case him92 => simp only [List.getElem?_toArray, List.getElem?_cons_succ, List.getElem?_cons_zero]; exact rfl
    case hQm92 => exact fun _ _ _ h => h
    case hwm92 => rfl
    case hym92 => ((intro w hSw; (try dsimp only at hSw); go_simp) <;> with_reducible rfl)
    try simp only [Act.put, List.setIfInBounds_toArray, List.set_cons_zero, List.set_cons_succ]
    refine wpAnyH_take (i := 12) (oi := ?oim93) (v := ?vm93) ?him93 (by kernel_rfl) (by kernel_rfl) (by kernel_rfl) ?hQm93 (Or.inl ⟨?hwm93, ?hym93⟩) (by assumption) ?restm93
    case him93 => simp only [List.getElem?_toArray, List.getElem?_cons_succ, List.getElem?_cons_zero]; exact rfl
    case hQm93 => exact fun _ _ _ h => h
    case hwm93 => rfl
    case hym93 => ((intro w hSw; (try dsimp only at hSw); go_simp) <;> with_reducible rfl)
    try simp only [Act.put, List.setIfInBounds_toArray, List.set_cons_zero, List.set_cons_succ]
    refine wpAnyH_take (i := 13) (oi := ?oim94) (v := ?vm94) ?him94 (by kernel_rfl) (by kernel_rfl) (by kernel_rfl) ?hQm94 (Or.inl ⟨?hwm94, ?hym94⟩) (by assumption) ?restm94
    case him94 => simp only [List.getElem?_toArray, List.getElem?_cons_succ, List.getElem?_cons_zero]; exact rfl
    case hQm94 => exact fun _ _ _ h => h
    case hwm94 => rfl
    case hym94 => ((intro w hSw; (try dsimp only at hSw); go_simp) <;> with_reducible rfl)
    try simp only [Act.put, List.setIfInBounds_toArray, List.set_cons_zero, List.set_cons_succ]
    refine wpAnyH_take (i := 14) (oi := ?oim95) (v := ?vm95) ?him95 (by kernel_rfl) (by kernel_rfl) (by kernel_rfl) ?hQm95 (Or.inl ⟨?hwm95, ?hym95⟩) (by assumption) ?restm95
    case him95 => simp only [List.getElem?_toArray, List.getElem?_cons_succ, List.getElem?_cons_zero]; exact rfl
    case hQm95 => exact fun _ _ _ h => h
    case hwm95 => rfl
    case hym95 => ((intro w hSw; (try dsimp only at hSw); go_simp) <;> with_reducible rfl)
    try simp only [Act.put, List.setIfInBounds_toArray, List.set_cons_zero, List.set_cons_succ]
    refine wpAnyH_take (i := 15) (oi := ?oim96) (v := ?vm96) ?him96 (by kernel_rfl) (by kernel_rfl) (by kernel_rfl) ?hQm96 (Or.inl ⟨?hwm96, ?hym96⟩) (by assumption) ?restm96
    case him96 => simp only [List.getElem?_toArray, List.getElem?_cons_succ, List.getElem?_cons_zero]; exact rfl
    case hQm96 => exact fun _ _ _ h => h
    case hwm96 => rfl
    case hym96 => ((intro w hSw; (try dsimp only at hSw); go_simp) <;> with_reducible rfl)
    try simp only [Act.put, List.setIfInBounds_toArray, List.set_cons_zero, List.set_cons_succ]
    refine wpAnyH_take (i := 16) (oi := ?oim97) (v := ?vm97) ?him97 (by kernel_rfl) (by kernel_rfl) (by kernel_rfl) ?hQm97 (Or.inl ⟨?hwm97, ?hym97⟩) (by assumption) ?restm97
    case him97 => simp only [List.getElem?_toArray, List.getElem?_cons_succ, List.getElem?_cons_zero]; exact rfl
    case hQm97 => exact fun _ _ _ h => h
    case hwm97 => rfl
    case hym97 => ((intro w hSw; (try dsimp only at hSw); go_simp) <;> with_reducible rfl)
    try simp only [Act.put, List.setIfInBounds_toArray, List.set_cons_zero, List.set_cons_succ]
    refine wpAnyH_take (i := 17) (oi := ?oim98) (v := ?vm98) ?him98 (by kernel_rfl) (by kernel_rfl) (by kernel_rfl) ?hQm98 (Or.inl ⟨?hwm98, ?hym98⟩) (by assumption) ?restm98
    case him98 => simp only [List.getElem?_toArray, List.getElem?_cons_succ, List.getElem?_cons_zero]; exact rfl
    case hQm98 => exact fun _ _ _ h => h
    case hwm98 => rfl
    case hym98 => ((intro w hSw; (try dsimp only at hSw); go_simp) <;> with_reducible rfl)
    try simp only [Act.put, List.setIfInBounds_toArray, List.set_cons_zero, List.set_cons_succ]
    refine wpAnyH_take (i := 18) (oi := ?oim99) (v := ?vm99) ?him99 (by kernel_rfl) (by kernel_rfl) (by kernel_rfl) ?hQm99 (Or.inl ⟨?hwm99, ?hym99⟩) (by assumption) ?restm99
    case him99 => simp only [List.getElem?_toArray, List.getElem?_cons_succ, List.getElem?_cons_zero]; exact rfl
    case hQm99 => exact fun _ _ _ h => h
    case hwm99 => rfl
    case hym99 => ((intro w hSw; (try dsimp only at hSw); go_simp) <;> with_reducible rfl)
    try simp only [Act.put, List.setIfInBounds_toArray, List.set_cons_zero, List.set_cons_succ]
    refine wpAnyH_take (i := 19) (oi := ?oim100) (v := ?vm100) ?him100 (by kernel_rfl) (by kernel_rfl) (by kernel_rfl) ?hQm100 (Or.inl ⟨?hwm100, ?hym100⟩) (by assumption) ?restm100
    case him100 => simp only [List.getElem?_toArray, List.getElem?_cons_succ, List.getElem?_cons_zero]; exact rfl
    case hQm100 => exact fun _ _ _ h => h
    case hwm100 => rfl
    case hym100 => ((intro w hSw; (try dsimp only at hSw); go_simp) <;> with_reducible rfl)
    try simp only [Act.put, List.setIfInBounds_toArray, List.set_cons_zero, List.set_cons_succ]
    refine wpAnyH_take (i := 20) (oi := ?oim101) (v := ?vm101) ?him101 (by kernel_rfl) (by kernel_rfl) (by kernel_rfl) ?hQm101 (Or.inl ⟨?hwm101, ?hym101⟩) (by assumption) ?restm101
    case him101 => simp only [List.getElem?_toArray, List.getElem?_cons_succ, List.getElem?_cons_zero]; exact rfl
    case hQm101 => exact fun _ _ _ h => h
    case hwm101 => rfl
    case hym101 => ((intro w hSw; (try dsimp only at hSw); go_simp) <;> with_reducible rfl)
    try simp only [Act.put, List.setIfInBounds_toArray, List.set_cons_zero, List.set_cons_succ]
    refine wpAnyH_take (i := 21) (oi := ?oim102) (v := ?vm102) ?him102 (by kernel_rfl) (by kernel_rfl) (by kernel_rfl) ?hQm102 (Or.inl ⟨?hwm102, ?hym102⟩) (by assumption) ?restm102
    case him102 => simp only [List.getElem?_toArray, List.getElem?_cons_succ, List.getElem?_cons_zero]; exact rfl
    case hQm102 => exact fun _ _ _ h => h
    case hwm102 => rfl
    case hym102 => ((intro w hSw; (try dsimp only at hSw); go_simp) <;> with_reducible rfl)
    try simp only [Act.put, List.setIfInBounds_toArray, List.set_cons_zero, List.set_cons_succ]
    refine wpAnyH_take (i := 22) (oi := ?oim103) (v := ?vm103) ?him103 (by kernel_rfl) (by kernel_rfl) (by kernel_rfl) ?hQm103 (Or.inl ⟨?hwm103, ?hym103⟩) (by assumption) ?restm103
    case him103 => simp only [List.getElem?_toArray, List.getElem?_cons_succ, List.getElem?_cons_zero]; exact rfl
    case hQm103 => exact fun _ _ _ h => h
    case hwm103 => rfl
    case hym103 => ((intro w hSw; (try dsimp only at hSw); go_simp) <;> with_reducible rfl)
    try simp only [Act.put, List.setIfInBounds_toArray, List.set_cons_zero, List.set_cons_succ]
    refine wpAnyH_take (i := 23) (oi := ?oim104) (v := ?vm104) ?him104 (by kernel_rfl) (by kernel_rfl) (by kernel_rfl) ?hQm104 (Or.inl ⟨?hwm104, ?hym104⟩) (by assumption) ?restm104
    case him104 => simp only [List.getElem?_toArray, List.getElem?_cons_succ, List.getElem?_cons_zero]; exact rfl
    case hQm104 => exact fun _ _ _ h => h
    case hwm104 => rfl
    case hym104 => ((intro w hSw; (try dsimp only at hSw); go_simp) <;> with_reducible rfl)
    try simp only [Act.put, List.setIfInBounds_toArray, List.set_cons_zero, List.set_cons_succ]
    refine wpAnyH_take (i := 24) (oi := ?oim105) (v := ?vm105) ?him105 (by kernel_rfl) (by kernel_rfl) (by kernel_rfl) ?hQm105 (Or.inl ⟨?hwm105, ?hym105⟩) (by assumption) ?restm105
    case him105 => simp only [List.getElem?_toArray, List.getElem?_cons_succ, List.getElem?_cons_zero]; exact rfl
    case hQm105 => exact fun _ _ _ h => h
    case hwm105 => rfl
    case hym105 => ((intro w hSw; (try dsimp only at hSw); go_simp) <;> with_reducible rfl)
    try simp only [Act.put, List.setIfInBounds_toArray, List.set_cons_zero, List.set_cons_succ]
    refine wpAnyH_ready (rs := [4, 25]) (by kernel_rfl) (by simp) ?_
    refine AllReadyH.cons (o := ?or106_4) ?hor106_4 (fun K hK => ?stepr106_4) (AllReadyH.cons (o := ?or106_25) ?hor106_25 (fun K hK => ?stepr106_25) (AllReadyH.nil))
    case hor106_4 => simp only [List.getElem?_toArray, List.getElem?_cons_succ, List.getElem?_cons_zero]; exact rfl
    case hor106_25 => simp only [List.getElem?_toArray, List.getElem?_cons_succ, List.getElem?_cons_zero]; exact rfl
    case stepr106_4 =>
      obtain ⟨x0, x1, x2, x3, x4, x5⟩ := tcell6 hT.tk
      go_simp
      clear x0 x1 x2 x3 x4 x5
      refine hK.out _ _ ?hSr106_4 (fun hHeld => ?restr106_4)
      case hSr106_4 => exact hHeld
      clear hK K
      try simp only [Act.put, List.setIfInBounds_toArray, List.set_cons_zero, List.set_cons_succ]
      refine wpAnyH_ready (rs := [25]) (by kernel_rfl) (by simp) ?_
      refine AllReadyH.cons (o := ?or107_25) ?hor107_25 (fun K hK => ?stepr107_25) (AllReadyH.nil)
      case hor107_25 => simp only [List.getElem?_toArray, List.getElem?_cons_succ, List.getElem?_cons_zero]; exact rfl
      case stepr107_25 =>
        go_simp
        have hTb := heap_lt hT.tk
        have hGb := heap_lt hT.rest
        have hal : Below wa.heap.size wa.drew ((wa.alloc (.cells #[.int .i64 0, .int .i64 3, .int .i64 0, .int .i64 oa, .int .i64 oi, .int .i64 i, .int .i64 p, .int .i64 T] 39)).drew) := (Below.refl wa.drew.heap.size wa.drew).alloc (Nat.le_refl _) (.cells #[.int .i64 0, .int .i64 3, .int .i64 0, .int .i64 oa, .int .i64 oi, .int .i64 i, .int .i64 p, .int .i64 T] 39)
        have hnew := World.news_of_block (show ((wa.alloc (.cells #[.int .i64 0, .int .i64 3, .int .i64 0, .int .i64 oa, .int .i64 oi, .int .i64 i, .int .i64 p, .int .i64 T] 39)).drew).heap[wa.heap.size]? = _ from heap_alloc_new wa (.cells #[.int .i64 0, .int .i64 3, .int .i64 0, .int .i64 oa, .int .i64 oi, .int .i64 i, .int .i64 p, .int .i64 T] 39))
        have hkp := Lib.hid (fun (p : Addr) (hp : p.block < wa.drew.heap.size) => hal.cell hp)
        replace hT := hT.later hal
        replace hB := hB.later hal
        clear hal
        generalize (wa.alloc (.cells #[.int .i64 0, .int .i64 3, .int .i64 0, .int .i64 oa, .int .i64 oi, .int .i64 i, .int .i64 p, .int .i64 T] 39)).drew = ua108 at *
        generalize wa.heap.size = xn at *
        refine hK.out _ _ ?hSr107_25 (fun hHeld => ?restr107_25)
        case hSr107_25 => exact ⟨(hkp.out ⟨t, 1, none⟩ hTb).trans hHeld.1, (hkp.out ⟨t, 0, none⟩ hTb).trans hHeld.2.1, (hkp.out ⟨g, 0, none⟩ hGb).trans hHeld.2.2.1, (hkp.out ⟨g, 2, none⟩ hGb).trans hHeld.2.2.2⟩
        clear hK K
        try simp only [Act.put, List.setIfInBounds_toArray, List.set_cons_zero, List.set_cons_succ]
        refine wpAnyH_ready (rs := [26]) (by kernel_rfl) (by simp) ?_
        refine AllReadyH.cons (o := ?or109_26) ?hor109_26 (fun K hK => ?stepr109_26) (AllReadyH.nil)
        case hor109_26 => simp only [List.getElem?_toArray, List.getElem?_cons_succ, List.getElem?_cons_zero]; exact rfl
        case stepr109_26 =>
          have hTb := heap_lt hT.tk
          have hGb := heap_lt hT.rest
          have hfa := hT.far
          have hlo := hT.recs.lt
          refine step_append_at _ rfl _ _ 31 rfl base 39 i0 _ 8 64 Try.underlying31 hi hz0 hz1 hz2 rfl (by decide) _ _ _ rfl hT.recs ⟨xn, 0, none⟩ 1 1 [.int .i64 0, .int .i64 3, .int .i64 0, .int .i64 oa, .int .i64 oi, .int .i64 i, .int .i64 p, .int .i64 T] rfl rfl hnew (nums_one (filR oi oa i p T)) (by unfold maxLen; omega) (by omega) hT.low ?_
          intro v' uv110 hown hgrow _ hat
          obtain ⟨A3, d3, rfl, _, _⟩ := own_slice hown
          have hkp := Lib.hid (fun (p : Addr) (hp : p.block < ua108.heap.size) (hn : some p.block ≠ (Value.slice Ar N dr).ownBlock) => World.cell?_of_block (a := p) (hgrow.block p.block hp hn))
          have hsz := hB.size
          replace hB := hB.grown hgrow (.inl rfl)
          have HG := Lib.hid hgrow
          clear hgrow
          refine hK.out _ _ ?hSr109_26 (fun hHeld => ?restr109_26)
          case hSr109_26 => exact ⟨(hkp.out ⟨t, 1, none⟩ hTb (fun e => hfa.1 e.symm)).trans hHeld.1, (hkp.out ⟨t, 0, none⟩ hTb (fun e => hfa.1 e.symm)).trans hHeld.2.1, (hkp.out ⟨g, 0, none⟩ hGb (fun e => hfa.2 e.symm)).trans hHeld.2.2.1, (hkp.out ⟨g, 2, none⟩ hGb (fun e => hfa.2 e.symm)).trans hHeld.2.2.2⟩
          clear hK K
          try simp only [Act.put, List.setIfInBounds_toArray, List.set_cons_zero, List.set_cons_succ]
          refine wpAnyH_take (i := 27) (oi := ?oim111) (v := ?vm111) ?him111 (by kernel_rfl) (by kernel_rfl) (by kernel_rfl) ?hQm111 (Or.inl ⟨?hwm111, ?hym111⟩) (by assumption) ?restm111
          case him111 => simp only [List.getElem?_toArray, List.getElem?_cons_succ, List.getElem?_cons_zero]; exact rfl
          case hQm111 => exact fun _ _ _ h => h
          case hwm111 => rfl
          case hym111 => ((intro w hSw; (try dsimp only at hSw); go_simp) <;> with_reducible rfl)
          try simp only [Act.put, List.setIfInBounds_toArray, List.set_cons_zero, List.set_cons_succ]
          refine wpAnyH_take (i := 28) (oi := ?oim112) (v := ?vm112) ?him112 (by kernel_rfl) (by kernel_rfl) (by kernel_rfl) ?hQm112 (Or.inl ⟨?hwm112, ?hym112⟩) (by assumption) ?restm112
          case him112 => simp only [List.getElem?_toArray, List.getElem?_cons_succ, List.getElem?_cons_zero]; exact rfl
          case hQm112 => exact fun _ _ _ h => h
          case hwm112 => rfl
          case hym112 => ((intro w hSw; (try dsimp only at hSw); go_simp) <;> with_reducible rfl)
          try simp only [Act.put, List.setIfInBounds_toArray, List.set_cons_zero, List.set_cons_succ]
          refine wpAnyH_ready (rs := [29]) (by kernel_rfl) (by simp) ?_
          refine AllReadyH.cons (o := ?or113_29) ?hor113_29 (fun K hK => ?stepr113_29) (AllReadyH.nil)
          case hor113_29 => simp only [List.getElem?_toArray, List.getElem?_cons_succ, List.getElem?_cons_zero]; exact rfl
          case stepr113_29 =>
            have hT0 := hT.tk
            have hfa := hT.far
            have hTk := (HG.out.block t (heap_lt hT.tk) (fun e => hfa.1 e.symm)).trans hT.tk
            obtain ⟨x0, x1, x2, x3, x4, x5⟩ := tcell6 hTk
            have z5 := mfree hTk 5
            go_simp
            clear x0 x1 x2 x3 x4 x5 z5
            replace hT := hT.more (R' := R ++ (filR oi oa i p T)) (by rw [nums_append]; exact hown) HG.out
            replace hB := hB.setT 5 (.slice A3 (N + 1) d3)
            refine hK.out _ _ ?hSr113_29 (fun hHeld => ?restr113_29)
            case hSr113_29 => exact ⟨(set_far5 (by decide)).trans hHeld.1, (set_far5 (by decide)).trans hHeld.2.1, (World.cell?_setCell_far _ _ _ _ htg).trans hHeld.2.2.1, (World.cell?_setCell_far _ _ _ _ htg).trans hHeld.2.2.2⟩
            clear hK K
            try simp only [Act.put, List.setIfInBounds_toArray, List.set_cons_zero, List.set_cons_succ]
            refine wpAnyH_done (by kernel_rfl) ?_ _
            have hat2 : (Value.slice A3 (N + 1) d3).ownBlock = (Value.slice Ar N dr).ownBlock ∨ ∀ k, (Value.slice A3 (N + 1) d3).ownBlock = some k → w.heap.size ≤ k := hat.imp id (fun h k e => by rw [h] at e; injection e with e; omega)
            clear hHeld o0 o1 o2 o3 o4 o5 h0 h1 h2 h3 hown HG hat
            generalize (uv110.setCell ⟨t, 5, none⟩ (.slice A3 (N + 1) d3)) = wf at *
            obtain ⟨o0, o1, o2, o3, o4, o5⟩ := tcell6 hT.tk
            have z3 := mfree hT.tk 3
            go_upto_region 3 with fail
            clear o0 o1 o2 o3 o4 o5 z3
            replace hB := hB.setT 3 (.int .i64 (q - T))
            replace hT := hT.setQ (q - T)
            generalize wf.setCell ⟨t, 3, none⟩ (.int .i64 (q - T)) = wg at *
            obtain ⟨h0, h1, h2, h3⟩ := mcell4 hT.rest
            have z3 := mfree hT.rest 3
            go_wp2_with fail
            go_end0
            exact ⟨⟨_, rfl⟩, _, hT.setC (c - T), hB.setG 3 (.int .i64 (c - T)), hat2⟩
    case stepr106_25 =>
      go_simp
      have hTb := heap_lt hT.tk
      have hGb := heap_lt hT.rest
      have hal : Below wa.heap.size wa.drew ((wa.alloc (.cells #[.int .i64 0, .int .i64 3, .int .i64 0, .int .i64 oa, .int .i64 oi, .int .i64 i, .int .i64 p, .int .i64 T] 39)).drew) := (Below.refl wa.drew.heap.size wa.drew).alloc (Nat.le_refl _) (.cells #[.int .i64 0, .int .i64 3, .int .i64 0, .int .i64 oa, .int .i64 oi, .int .i64 i, .int .i64 p, .int .i64 T] 39)
      have hnew := World.news_of_block (show ((wa.alloc (.cells #[.int .i64 0, .int .i64 3, .int .i64 0, .int .i64 oa, .int .i64 oi, .int .i64 i, .int .i64 p, .int .i64 T] 39)).drew).heap[wa.heap.size]? = _ from heap_alloc_new wa (.cells #[.int .i64 0, .int .i64 3, .int .i64 0, .int .i64 oa, .int .i64 oi, .int .i64 i, .int .i64 p, .int .i64 T] 39))
      have hkp := Lib.hid (fun (p : Addr) (hp : p.block < wa.drew.heap.size) => hal.cell hp)
      replace hT := hT.later hal
      replace hB := hB.later hal
      clear hal
      generalize (wa.alloc (.cells #[.int .i64 0, .int .i64 3, .int .i64 0, .int .i64 oa, .int .i64 oi, .int .i64 i, .int .i64 p, .int .i64 T] 39)).drew = ua114 at *
      generalize wa.heap.size = xn at *
      refine hK.out _ _ ?hSr106_25 (fun hHeld => ?restr106_25)
      case hSr106_25 => exact ⟨(hkp.out ⟨t, 1, none⟩ hTb).trans hHeld.1, (hkp.out ⟨t, 0, none⟩ hTb).trans hHeld.2.1, (hkp.out ⟨g, 0, none⟩ hGb).trans hHeld.2.2.1, (hkp.out ⟨g, 2, none⟩ hGb).trans hHeld.2.2.2⟩
      clear hK K
      try simp only [Act.put, List.setIfInBounds_toArray, List.set_cons_zero, List.set_cons_succ]
      refine wpAnyH_ready (rs := [4]) (by kernel_rfl) (by simp) ?_
      refine AllReadyH.cons (o := ?or115_4) ?hor115_4 (fun K hK => ?stepr115_4) (AllReadyH.nil)
      case hor115_4 => simp only [List.getElem?_toArray, List.getElem?_cons_succ, List.getElem?_cons_zero]; exact rfl
      case stepr115_4 =>
        obtain ⟨x0, x1, x2, x3, x4, x5⟩ := tcell6 hT.tk
        go_simp
        clear x0 x1 x2 x3 x4 x5
        refine hK.out _ _ ?hSr115_4 (fun hHeld => ?restr115_4)
        case hSr115_4 => exact hHeld
        clear hK K
        try simp only [Act.put, List.setIfInBounds_toArray, List.set_cons_zero, List.set_cons_succ]
        refine wpAnyH_ready (rs := [26]) (by kernel_rfl) (by simp) ?_
        refine AllReadyH.cons (o := ?or116_26) ?hor116_26 (fun K hK => ?stepr116_26) (AllReadyH.nil)
        case hor116_26 => simp only [List.getElem?_toArray, List.getElem?_cons_succ, List.getElem?_cons_zero]; exact rfl
        case stepr116_26 =>
          have hTb := heap_lt hT.tk
          have hGb := heap_lt hT.rest
          have hfa := hT.far
          have hlo := hT.recs.lt
          refine step_append_at _ rfl _ _ 31 rfl base 39 i0 _ 8 64 Try.underlying31 hi hz0 hz1 hz2 rfl (by decide) _ _ _ rfl hT.recs ⟨xn, 0, none⟩ 1 1 [.int .i64 0, .int .i64 3, .int .i64 0, .int .i64 oa, .int .i64 oi, .int .i64 i, .int .i64 p, .int .i64 T] rfl rfl hnew (nums_one (filR oi oa i p T)) (by unfold maxLen; omega) (by omega) hT.low ?_
          intro v' uv117 hown hgrow _ hat
          obtain ⟨A3, d3, rfl, _, _⟩ := own_slice hown
          have hkp := Lib.hid (fun (p : Addr) (hp : p.block < ua114.heap.size) (hn : some p.block ≠ (Value.slice Ar N dr).ownBlock) => World.cell?_of_block (a := p) (hgrow.block p.block hp hn))
          have hsz := hB.size
          replace hB := hB.grown hgrow (.inl rfl)
          have HG := Lib.hid hgrow
          clear hgrow
          refine hK.out _ _ ?hSr116_26 (fun hHeld => ?restr116_26)
          case hSr116_26 => exact ⟨(hkp.out ⟨t, 1, none⟩ hTb (fun e => hfa.1 e.symm)).trans hHeld.1, (hkp.out ⟨t, 0, none⟩ hTb (fun e => hfa.1 e.symm)).trans hHeld.2.1, (hkp.out ⟨g, 0, none⟩ hGb (fun e => hfa.2 e.symm)).trans hHeld.2.2.1, (hkp.out ⟨g, 2, none⟩ hGb (fun e => hfa.2 e.symm)).trans hHeld.2.2.2⟩
          clear hK K
          try simp only [Act.put, List.setIfInBounds_toArray, List.set_cons_zero, List.set_cons_succ]
          refine wpAnyH_take (i := 27) (oi := ?oim118) (v := ?vm118) ?him118 (by kernel_rfl) (by kernel_rfl) (by kernel_rfl) ?hQm118 (Or.inl ⟨?hwm118, ?hym118⟩) (by assumption) ?restm118
          case him118 => simp only [List.getElem?_toArray, List.getElem?_cons_succ, List.getElem?_cons_zero]; exact rfl
          case hQm118 => exact fun _ _ _ h => h
          case hwm118 => rfl
          case hym118 => ((intro w hSw; (try dsimp only at hSw); go_simp) <;> with_reducible rfl)
          try simp only [Act.put, List.setIfInBounds_toArray, List.set_cons_zero, List.set_cons_succ]
          refine wpAnyH_take (i := 28) (oi := ?oim119) (v := ?vm119) ?him119 (by kernel_rfl) (by kernel_rfl) (by kernel_rfl) ?hQm119 (Or.inl ⟨?hwm119, ?hym119⟩) (by assumption) ?restm119
          case him119 => simp only [List.getElem?_toArray, List.getElem?_cons_succ, List.getElem?_cons_zero]; exact rfl
          case hQm119 => exact fun _ _ _ h => h
          case hwm119 => rfl
          case hym119 => ((intro w hSw; (try dsimp only at hSw); go_simp) <;> with_reducible rfl)
          try simp only [Act.put, List.setIfInBounds_toArray, List.set_cons_zero, List.set_cons_succ]
          refine wpAnyH_ready (rs := [29]) (by kernel_rfl) (by simp) ?_
          refine AllReadyH.cons (o := ?or120_29) ?hor120_29 (fun K hK => ?stepr120_29) (AllReadyH.nil)
          case hor120_29 => simp only [List.getElem?_toArray, List.getElem?_cons_succ, List.getElem?_cons_zero]; exact rfl
          case stepr120_29 =>
            have hT0 := hT.tk
            have hfa := hT.far
            have hTk := (HG.out.block t (heap_lt hT.tk) (fun e => hfa.1 e.symm)).trans hT.tk
            obtain ⟨x0, x1, x2, x3, x4, x5⟩ := tcell6 hTk
            have z5 := mfree hTk 5
            go_simp
            clear x0 x1 x2 x3 x4 x5 z5
            replace hT := hT.more (R' := R ++ (filR oi oa i p T)) (by rw [nums_append]; exact hown) HG.out
            replace hB := hB.setT 5 (.slice A3 (N + 1) d3)
            refine hK.out _ _ ?hSr120_29 (fun hHeld => ?restr120_29)
            case hSr120_29 => exact ⟨(set_far5 (by decide)).trans hHeld.1, (set_far5 (by decide)).trans hHeld.2.1, (World.cell?_setCell_far _ _ _ _ htg).trans hHeld.2.2.1, (World.cell?_setCell_far _ _ _ _ htg).trans hHeld.2.2.2⟩
            clear hK K
            try simp only [Act.put, List.setIfInBounds_toArray, List.set_cons_zero, List.set_cons_succ]
            refine wpAnyH_done (by kernel_rfl) ?_ _
            have hat2 : (Value.slice A3 (N + 1) d3).ownBlock = (Value.slice Ar N dr).ownBlock ∨ ∀ k, (Value.slice A3 (N + 1) d3).ownBlock = some k → w.heap.size ≤ k := hat.imp id (fun h k e => by rw [h] at e; injection e with e; omega)
            clear hHeld o0 o1 o2 o3 o4 o5 h0 h1 h2 h3 hown HG hat
            generalize (uv117.setCell ⟨t, 5, none⟩ (.slice A3 (N + 1) d3)) = wf at *
            obtain ⟨o0, o1, o2, o3, o4, o5⟩ := tcell6 hT.tk
            have z3 := mfree hT.tk 3
            go_upto_region 3 with fail
            clear o0 o1 o2 o3 o4 o5 z3
            replace hB := hB.setT 3 (.int .i64 (q - T))
            replace hT := hT.setQ (q - T)
            generalize wf.setCell ⟨t, 3, none⟩ (.int .i64 (q - T)) = wg at *
            obtain ⟨h0, h1, h2, h3⟩ := mcell4 hT.rest
            have z3 := mfree hT.rest 3
            go_wp2_with fail
            go_end0
            exact ⟨⟨_, rfl⟩, _, hT.setC (c - T), hB.setG 3 (.int .i64 (c - T)), hat2⟩
set_option linter.unusedSimpArgs false in
set_option maxHeartbeats 3200000 in
set_option maxRecDepth 100000 in
theorem impl_avoid1 (t g base N : Nat) (oi oa op q mode i a p c : Int) (rv : Value) (R : List Int) (w : World) (hT : TkW w t g oi oa op q mode rv base N R i a p c) (hN : N ≤ 900000) (hm : mode = 1) :
    Calls Try.prog 76 #[.pointer (some ⟨t, 0, none⟩), .pointer (some ⟨g, 0, none⟩)] w fun e w' => (∃ u, e = .returned u) ∧ ∃ v, TkW w' t g oi oa op 0 mode v base (N + 1) (R ++ canR oi oa op q) i a p c ∧ But w w' t g rv.ownBlock ∧ (v.ownBlock = rv.ownBlock ∨ ∀ k, v.ownBlock = some k → w.heap.size ≤ k) := by
  subst hm
  obtain ⟨o0, o1, o2, o3, o4, o5⟩ := tcell6 hT.tk
  go_enter Try.func76, Try.ntmps76
  go_wp2_with fail
  clear o0 o1 o2 o3 o4 o5
  refine (impl_cancelO t g base N oi oa op q 1 i a p c rv R w hT (by omega)).mono ?_
  rintro e w1 ⟨⟨u, rfl⟩, v, hT1, hB1, hv1⟩
  go_wp2_with fail
  go_end0
  exact ⟨⟨_, rfl⟩, v, hT1, hB1, hv1⟩
set_option linter.unusedSimpArgs false in
set_option maxHeartbeats 3200000 in
set_option maxRecDepth 100000 in
theorem impl_avoid2 (t g base N : Nat) (oi oa op q mode i a p c : Int) (rv : Value) (R : List Int) (w : World) (hT : TkW w t g oi oa op q mode rv base N R i a p c) (hN : N ≤ 900000) (hm : mode = 2) :
    Calls Try.prog 76 #[.pointer (some ⟨t, 0, none⟩), .pointer (some ⟨g, 0, none⟩)] w fun e w' => (∃ u, e = .returned u) ∧ ∃ v, TkW w' t g oi oa op q mode v base (N + 1) (R ++ canR i a p c) i a p 0 ∧ But w w' t g rv.ownBlock ∧ (v.ownBlock = rv.ownBlock ∨ ∀ k, v.ownBlock = some k → w.heap.size ≤ k) := by
  subst hm
  obtain ⟨o0, o1, o2, o3, o4, o5⟩ := tcell6 hT.tk
  go_enter Try.func76, Try.ntmps76
  go_wp2_with fail
  clear o0 o1 o2 o3 o4 o5
  refine (impl_cancelR t g base N oi oa op q 2 i a p c rv R w hT (by omega)).mono ?_
  rintro e w1 ⟨⟨u, rfl⟩, v, hT1, hB1, hv1⟩
  obtain ⟨o0, o1, o2, o3, o4, o5⟩ := tcell6 hT1.tk
  go_wp2_with fail
  go_end0
  exact ⟨⟨_, rfl⟩, v, hT1, hB1, hv1⟩
set_option linter.unusedSimpArgs false in
set_option maxHeartbeats 3200000 in
set_option maxRecDepth 100000 in
theorem impl_avoid3 (t g base N : Nat) (oi oa op q mode i a p c : Int) (rv : Value) (R : List Int) (w : World) (hT : TkW w t g oi oa op q mode rv base N R i a p c) (hN : N ≤ 900000) (hm1 : mode ≠ 1) (hm2 : mode ≠ 2) :
    Calls Try.prog 76 #[.pointer (some ⟨t, 0, none⟩), .pointer (some ⟨g, 0, none⟩)] w fun e w' => (∃ u, e = .returned u) ∧ ∃ v, TkW w' t g oi oa op 0 mode v base (N + 1 + 1) (R ++ canR i a p c ++ canR oi oa op q) i a p 0 ∧ But w w' t g rv.ownBlock ∧ (v.ownBlock = rv.ownBlock ∨ ∀ k, v.ownBlock = some k → w.heap.size ≤ k) := by
  have t1 : (mode != 1) = true := by simpa using hm1
  have t2 : (mode != 2) = true := by simpa using hm2
  have hW := hT.low
  obtain ⟨o0, o1, o2, o3, o4, o5⟩ := tcell6 hT.tk
  go_enter Try.func76, Try.ntmps76
  go_wp2_with fail
  clear o0 o1 o2 o3 o4 o5
  refine (impl_cancelR t g base N oi oa op q mode i a p c rv R w hT (by omega)).mono ?_
  rintro e w1 ⟨⟨u, rfl⟩, v, hT1, hB1, hv1⟩
  obtain ⟨o0, o1, o2, o3, o4, o5⟩ := tcell6 hT1.tk
  go_wp2_with fail
  clear o0 o1 o2 o3 o4 o5
  refine (impl_cancelO t g base (N + 1) oi oa op q mode i a p 0 v _ w1 hT1 (by omega)).mono ?_
  rintro e w2 ⟨⟨u2, rfl⟩, v2, hT2, hB2, hv2⟩
  go_wp2_with fail
  go_end0
  exact ⟨⟨_, rfl⟩, v2, hT2, hB1.trans hB2 hv1, hv2.elim (fun h => hv1.imp (fun k => h.trans k) (fun k j e => k j (h.symm.trans e))) (fun h => .inr (fun k e => Nat.le_trans hB1.size (h k e)))⟩
/-- what meeting a resting order comes to -/
def MeetRel (oi oa op q mode i a p c : Int) (N : Nat) (R : List Int) (q' : Int) (N' : Nat) (R' : List Int) (c' : Int) : Prop :=
  (a = oa ∧ mode = 1 ∧ q' = 0 ∧ N' = N + 1 ∧ R' = R ++ canR oi oa op q ∧ c' = c) ∨ (a = oa ∧ mode = 2 ∧ q' = q ∧ N' = N + 1 ∧ R' = R ++ canR i a p c ∧ c' = 0) ∨ (a = oa ∧ mode ≠ 1 ∧ mode ≠ 2 ∧ q' = 0 ∧ N' = N + 1 + 1 ∧ R' = R ++ canR i a p c ++ canR oi oa op q ∧ c' = 0) ∨
  (a ≠ oa ∧ q' = q - min q c ∧ N' = N + 1 ∧ R' = R ++ filR oi oa i p (min q c) ∧ c' = c - min q c)
set_option linter.unusedSimpArgs false in
set_option maxHeartbeats 3200000 in
set_option maxRecDepth 100000 in
theorem impl_meet (t g base N : Nat) (oi oa op q mode i a p c : Int) (rv : Value) (R : List Int) (w : World) (hT : TkW w t g oi oa op q mode rv base N R i a p c) (hN : N ≤ 900000) (q0 : 0 ≤ q) (q1 : q ≤ 1000000) (c0 : 0 ≤ c) (c1 : c ≤ 1000000) :
    Calls Try.prog 41 #[.pointer (some ⟨t, 0, none⟩), .pointer (some ⟨g, 0, none⟩)] w fun e w' => (∃ u, e = .returned u) ∧ ∃ v q' N' R' c', MeetRel oi oa op q mode i a p c N R q' N' R' c' ∧ TkW w' t g oi oa op q' mode v base N' R' i a p c' ∧ But w w' t g rv.ownBlock ∧ (v.ownBlock = rv.ownBlock ∨ ∀ k, v.ownBlock = some k → w.heap.size ≤ k) := by
  obtain ⟨o0, o1, o2, o3, o4, o5⟩ := tcell6 hT.tk
  obtain ⟨h0, h1, h2, h3⟩ := mcell4 hT.rest
  have hB := But.refl w t g rv.ownBlock
  go_enter Try.func41, Try.ntmps41
  by_cases ha : a = oa
  · have HA := Lib.hid ha
    have t1 : (oa == a) = true := by simp [ha]
    clear ha
    go_upto_region 0 with fail
    go_quiet (fail)
    rename Nat => nq
    clear o0 o1 o2 o3 o4 o5 h0 h1 h2 h3
    replace hT : TkW (w.drewN nq) t g oi oa op q mode rv base N R i a p c := ⟨hT.tk, hT.rest, hT.recs, hT.low⟩
    replace hB : But w (w.drewN nq) t g rv.ownBlock := ⟨hB.os, hB.tape, hB.output, hB.size, hB.block⟩
    have hWs : w.heap.size ≤ (w.drewN nq).heap.size := Nat.le_refl _
    generalize w.drewN nq = wa at *
    go_wp2_with fail
    by_cases hm1 : mode = 1
    · refine (impl_avoid1 t g base N oi oa op q mode i a p c rv R wa hT hN hm1).mono ?_
      rintro e w1 ⟨⟨u, rfl⟩, v, hT1, hB1, hv1⟩
      go_wp2_with fail
      go_end0
      exact ⟨⟨_, rfl⟩, v, _, _, _, _, .inl ⟨HA.out, hm1, rfl, rfl, rfl, rfl⟩, hT1, hB.trans hB1 (.inl rfl), hv1.imp id (fun h k e => Nat.le_trans hWs (h k e))⟩
    · by_cases hm2 : mode = 2
      · refine (impl_avoid2 t g base N oi oa op q mode i a p c rv R wa hT hN hm2).mono ?_
        rintro e w1 ⟨⟨u, rfl⟩, v, hT1, hB1, hv1⟩
        go_wp2_with fail
        go_end0
        exact ⟨⟨_, rfl⟩, v, _, _, _, _, .inr (.inl ⟨HA.out, hm2, rfl, rfl, rfl, rfl⟩), hT1, hB.trans hB1 (.inl rfl), hv1.imp id (fun h k e => Nat.le_trans hWs (h k e))⟩
      · refine (impl_avoid3 t g base N oi oa op q mode i a p c rv R wa hT hN hm1 hm2).mono ?_
        rintro e w1 ⟨⟨u, rfl⟩, v, hT1, hB1, hv1⟩
        go_wp2_with fail
        go_end0
        exact ⟨⟨_, rfl⟩, v, _, _, _, _, .inr (.inr (.inl ⟨HA.out, hm1, hm2, rfl, rfl, rfl, rfl⟩)), hT1, hB.trans hB1 (.inl rfl), hv1.imp id (fun h k e => Nat.le_trans hWs (h k e))⟩
  · have HA := Lib.hid ha
    have t1 : (oa == a) = false := beq_eq_false_iff_ne.2 (fun e => ha e.symm)
    clear ha
    go_upto_region 0 with fail
    go_quiet (fail)
    rename Nat => nq
    clear o0 o1 o2 o3 o4 o5 h0 h1 h2 h3
    replace hT : TkW (w.drewN nq) t g oi oa op q mode rv base N R i a p c := ⟨hT.tk, hT.rest, hT.recs, hT.low⟩
    replace hB : But w (w.drewN nq) t g rv.ownBlock := ⟨hB.os, hB.tape, hB.output, hB.size, hB.block⟩
    have hWs : w.heap.size ≤ (w.drewN nq).heap.size := Nat.le_refl _
    generalize w.drewN nq = wa at *
    go_wp2_with fail
    refine (impl_trade t g base N oi oa op q mode i a p c _ rv R wa hT (by omega) rfl q0 q1 c0 c1).mono ?_
    rintro e w1 ⟨⟨u, rfl⟩, v, hT1, hB1, hv1⟩
    go_wp2_with fail
    go_end0
    exact ⟨⟨_, rfl⟩, v, _, _, _, _, .inr (.inr (.inr ⟨HA.out, rfl, rfl, rfl, rfl⟩)), hT1, hB.trans hB1 (.inl rfl), hv1.imp id (fun h k e => Nat.le_trans hWs (h k e))⟩
end Go.Proofs.Ytempggikcpminaa
