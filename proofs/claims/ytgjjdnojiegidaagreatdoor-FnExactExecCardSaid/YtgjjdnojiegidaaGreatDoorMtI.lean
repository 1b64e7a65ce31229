/-
 The program's taker: cancelling, trading, avoiding, meeting.
-/
import Derived.Test.YtgjjdnojiegidaaGreatDoorTak
import Derived.Test.YtgjjdnojiegidaaGreatDoorMtL
import Derived.Deep.QuietTactic
import Derived.BigQuiet
namespace Go.Proofs.YtgjjdnojiegidaaGreatDoor
open Go.RowKit Wire
set_option maxHeartbeats 3200000
set_option maxRecDepth 100000
set_option linter.unusedSimpArgs false

theorem tcell6 {w : World} {S : Nat} {a b c d e f : Value} {T : TypeId} (h : w.heap[S]? = some (.cells #[a, b, c, d, e, f] T (0, 0))) : w.cell? ⟨S, 0, none⟩ = some a ∧ w.cell? ⟨S, 1, none⟩ = some b ∧ w.cell? ⟨S, 2, none⟩ = some c ∧ w.cell? ⟨S, 3, none⟩ = some d ∧ w.cell? ⟨S, 4, none⟩ = some e ∧ w.cell? ⟨S, 5, none⟩ = some f := by
 refine ⟨?_, ?_, ?_, ?_, ?_, ?_⟩ <;> simp [World.cell?, h]
theorem tset6_5 {w : World} {S : Nat} {a b c d e f u : Value} {T : TypeId} (h : w.heap[S]? = some (.cells #[a, b, c, d, e, f] T (0, 0))) : (w.setCell ⟨S, 5, none⟩ u).heap[S]? = some (.cells #[a, b, c, d, e, u] T (0, 0)) := by
 simp [World.setCell, Array.getElem?_modify, h]
theorem tset6_3 {w : World} {S : Nat} {a b c d e f u : Value} {T : TypeId} (h : w.heap[S]? = some (.cells #[a, b, c, d, e, f] T (0, 0))) : (w.setCell ⟨S, 3, none⟩ u).heap[S]? = some (.cells #[a, b, c, u, e, f] T (0, 0)) := by
 simp [World.setCell, Array.getElem?_modify, h]
structure But (w w' : World) (t g : Nat) (r : Option Nat) : Prop where
 os : w'.os = w.os
 tape : w'.tape = w.tape
 output : w'.output = w.output
 size : w.heap.size ≤ w'.heap.size
 block : ∀ k, k < w.heap.size → k ≠ t → k ≠ g → some k ≠ r → w'.heap[k]? = w.heap[k]?
theorem But.refl (w : World) (t g : Nat) (r : Option Nat) : But w w t g r := ⟨rfl, rfl, rfl, Nat.le_refl _, fun _ _ _ _ _ => rfl⟩
theorem But.drew {w w' : World} {t g : Nat} {r : Option Nat} (h : But w w' t g r) : But w w'.drew t g r := ⟨h.os, h.tape, h.output, h.size, h.block⟩
theorem But.later {w w' w2 : World} {t g : Nat} {r : Option Nat} (h : But w w' t g r) (hb : Below w'.heap.size w' w2) : But w w2 t g r :=
 ⟨hb.os.trans h.os, hb.tape.trans h.tape, hb.output.trans h.output, Nat.le_trans h.size hb.size, fun k hk h1 h2 h3 => (hb.block k (Nat.lt_of_lt_of_le hk h.size)).trans (h.block k hk h1 h2 h3)⟩
theorem But.grown {w w' w2 : World} {t g : Nat} {r r2 : Option Nat} (h : But w w' t g r) (hg : w'.grownBy w2 r2) (hr : r2 = r ∨ ∀ k, r2 = some k → w.heap.size ≤ k) : But w w2 t g r :=
 ⟨hg.os.trans h.os, hg.tape.trans h.tape, hg.output.trans h.output, Nat.le_trans h.size hg.size, fun k hk h1 h2 h3 => (hg.block k (Nat.lt_of_lt_of_le hk h.size) (fun e => by
  rcases hr with rfl | hr
  · exact h3 e
  · have := hr k e.symm; omega)).trans (h.block k hk h1 h2 h3)⟩
theorem But.setT {w w' : World} {t g : Nat} {r : Option Nat} (h : But w w' t g r) (i : Nat) (u : Value) : But w (w'.setCell ⟨t, i, none⟩ u) t g r :=
 ⟨h.os, h.tape, h.output, by simpa [World.setCell] using h.size, fun k hk h1 h2 h3 => (Below.heap_setCell w' ⟨t, i, none⟩ u k h1).trans (h.block k hk h1 h2 h3)⟩
theorem But.setG {w w' : World} {t g : Nat} {r : Option Nat} (h : But w w' t g r) (i : Nat) (u : Value) : But w (w'.setCell ⟨g, i, none⟩ u) t g r :=
 ⟨h.os, h.tape, h.output, by simpa [World.setCell] using h.size, fun k hk h1 h2 h3 => (Below.heap_setCell w' ⟨g, i, none⟩ u k h2).trans (h.block k hk h1 h2 h3)⟩
theorem But.trans {w w1 w2 : World} {t g : Nat} {r r2 : Option Nat} (h : But w w1 t g r) (k : But w1 w2 t g r2) (hr : r2 = r ∨ ∀ k, r2 = some k → w.heap.size ≤ k) : But w w2 t g r :=
 ⟨k.os.trans h.os, k.tape.trans h.tape, k.output.trans h.output, Nat.le_trans h.size k.size, fun j hj h1 h2 h3 => (k.block j (Nat.lt_of_lt_of_le hj h.size) h1 h2 (fun e => by
  rcases hr with rfl | hr
  · exact h3 e
  · have := hr j e.symm; omega)).trans (h.block j hj h1 h2 h3)⟩
structure TkW (w : World) (t g : Nat) (oi oa op q mode : Int) (rv : Value) (base N : Nat) (R : List Int) (i a p c : Int) : Prop where
 tk : w.heap[t]? = some (.cells #[.int .i64 oi, .int .i64 oa, .int .i64 op, .int .i64 q, .int .i64 mode, rv] 151 (0, 0))
 rest : w.heap[g]? = some (.cells #[.int .i64 i, .int .i64 a, .int .i64 p, .int .i64 c] 65 (0, 0))
 recs : w.ownsRow base 48 8 rv N (nums R)
 low : base ≤ w.heap.size
section
variable {w w' : World} {t g base N : Nat} {oi oa op q mode i a p c : Int} {rv : Value} {R : List Int}
theorem TkW.ne (h : TkW w t g oi oa op q mode rv base N R i a p c) : t ≠ g := fun e => by
 have h1 := h.tk
 rw [e, h.rest] at h1
 simp at h1
theorem TkW.far (h : TkW w t g oi oa op q mode rv base N R i a p c) : rv.ownBlock ≠ some t ∧ rv.ownBlock ≠ some g := by
 constructor <;> intro e <;> obtain ⟨c1, f1, g1⟩ := Lib.ownsRow_kind h.recs _ e
 · rw [h.tk] at g1
   injection g1 with g1
   injection g1 with _ g1
   exact absurd g1 (by decide)
 · rw [h.rest] at g1
   injection g1 with g1
   injection g1 with _ g1
   exact absurd g1 (by decide)
theorem TkW.later (h : TkW w t g oi oa op q mode rv base N R i a p c) (hb : Below w.heap.size w w') : TkW w' t g oi oa op q mode rv base N R i a p c :=
 ⟨(hb.block _ (hlT h.tk)).trans h.tk, (hb.block _ (hlT h.rest)).trans h.rest, oBw h.recs hb, Nat.le_trans h.low hb.size⟩
theorem TkW.drew (h : TkW w t g oi oa op q mode rv base N R i a p c) : TkW w.drew t g oi oa op q mode rv base N R i a p c := h.later (Below.refl _ _).drew
theorem TkW.more {v : Value} {N' : Nat} {R' : List Int} (h : TkW w t g oi oa op q mode rv base N R i a p c) (ho : w'.ownsRow base 48 8 v N' (nums R')) (hg : w.grownBy w' rv.ownBlock) : TkW (w'.setCell ⟨t, 5, none⟩ v) t g oi oa op q mode v base N' R' i a p c := by
 have hf := h.far
 have ht := (hg.block t (hlT h.tk) (fun e => hf.1 e.symm)).trans h.tk
 have hr := (hg.block g (hlT h.rest) (fun e => hf.2 e.symm)).trans h.rest
 exact ⟨tset6_5 ht, mSo hr (fun e => h.ne e.symm), oSk ho ht (by decide), by have := h.low; have := hg.size; simp [World.setCell]; omega⟩
theorem TkW.setQ (h : TkW w t g oi oa op q mode rv base N R i a p c) (q' : Int) : TkW (w.setCell ⟨t, 3, none⟩ (.int .i64 q')) t g oi oa op q' mode rv base N R i a p c :=
 ⟨tset6_3 h.tk, mSo h.rest (fun e => h.ne e.symm), oSk h.recs h.tk (by decide), by have := h.low; simp [World.setCell]; omega⟩
theorem TkW.setC (h : TkW w t g oi oa op q mode rv base N R i a p c) (c' : Int) : TkW (w.setCell ⟨g, 3, none⟩ (.int .i64 c')) t g oi oa op q mode rv base N R i a p c' :=
 ⟨mSo h.tk h.ne, mset4_3 h.rest, oSk h.recs h.rest (by decide), by have := h.low; simp [World.setCell]; omega⟩
end
theorem impl_orderRec (k i a p c : Int) (w : World) :
 Calls Tryz.prog 58 #[.int .i64 k, .agg #[.int .i64 i, .int .i64 a, .int .i64 p, .int .i64 c]] w fun e w' => e = .returned (.agg #[.int .i64 0, .int .i64 k, .int .i64 0, .int .i64 a, .int .i64 i, .int .i64 0, .int .i64 p, .int .i64 c]) ∧ Below w.heap.size w w' := by
 go_enter Tryz.func58, Tryz.ntmps58
 go_wp2_with fail
 exact bodyPost_ret (v := .agg #[.int .i64 0, .int .i64 k, .int .i64 0, .int .i64 a, .int .i64 i, .int .i64 0, .int .i64 p, .int .i64 c]) (by simp [results, Tryz.results58, go_sem]) rfl ⟨rfl, by go_grown⟩
theorem set_far5 {w : World} {t j : Nat} {u : Value} (h : j ≠ 5) : (w.setCell ⟨t, 5, none⟩ u).cell? ⟨t, j, none⟩ = w.cell? ⟨t, j, none⟩ := by
 simp only [World.cell?, World.setCell, Array.getElem?_modify, if_pos]
 cases e : w.heap[t]? with
 | none => simp
 | some o => cases o <;> simp [Ne.symm h]
theorem sAa {P : Program} (w : World) {ops : Array Oper} {o : Oper} {a : Act} {K : Act → World → Prop} {Q : Exit → Act → World → Prop} {E : Prop} (hgd : o.guard = none) (s x : Operand) (t : TypeId)
 (ho : o.op = .call { callee := .builtin .append, args := #[s, x], argTypes := #[t, t] })
 (base : Nat) (e : TypeId) (i : TypeInfo) (z : Value) (size bytes : Nat) (ht : P.underlying t = some (.slice e)) (hi : P.info? e = some i) (hz : i.zero = some z)
 (hsize : i.size = size) (hby : i.bytes = bytes) (hzs : z.cells.size = size) (hsz : 0 < size)
 (v : Value) (n : Nat) (xs : List Value) (hs : a.eval s = v) (hown : w.ownsRow base e size v n xs)
 (ad : Addr) (m c : Nat) (news : List Value) (hx : a.eval x = .slice (some ad) m c) (hl : news.length = m * size) (hnews : ∀ j u, news[j]? = some u → w.cell? (ad.add j) = some u) (h1 : ∀ u ∈ news, u.oneCell' = true)
 (h63 : n + m ≤ maxLen) (hbytes : (n + m) * bytes ≤ 140737488355328) (hbase : base ≤ w.heap.size)
 (h : ∀ v' w', w'.ownsRow base e size v' (n + m) (xs ++ news) → w.grownBy w' v.ownBlock → (v' = .slice none 0 0 ↔ v = .slice none 0 0 ∧ m = 0) → (v'.ownBlock = v.ownBlock ∨ v'.ownBlock = some w.heap.size) → K (a.put o.dst v') w') :
 if Region.wanted o (yielded ops a.tmps) = true then Oper.wp P o a w K Q else E := by
 rw [if_pos (by simp [Region.wanted, hgd])]
 obtain ⟨v', w', hr, h2, h3, h4, h5⟩ := run_append_own_at (P := P) w base t o.type e i z size bytes ht hi hz hsize hby hzs hsz v n xs hown ad m c news hl hnews h1 h63 hbytes hbase
 unfold Oper.wp execOp
 simp only [ho, resolve, invoke, builtin, Sem.run_bind, Sem.run_pure, Result.andThen_ok, List.map_toArray, List.map_cons, List.map_nil, hs, hx, hr]
 exact h v' w' h2 h3 h4 h5
theorem impl_cancelR (t g base N : Nat) (oi oa op q mode i a p c : Int) (rv : Value) (R : List Int) (w : World) (hT : TkW w t g oi oa op q mode rv base N R i a p c) (hN : N ≤ 1000000) :
 Calls Tryz.prog 125 #[.pointer (some ⟨t, 0, none⟩), .pointer (some ⟨g, 0, none⟩)] w fun e w' => (∃ u, e = .returned u) ∧ ∃ v, TkW w' t g oi oa op q mode v base (N + 1) (R ++ (canR i a p c)) i a p 0 ∧ But w w' t g rv.ownBlock ∧ (v.ownBlock = rv.ownBlock ∨ ∀ k, v.ownBlock = some k → w.heap.size ≤ k) := by
 obtain ⟨i0, hi, hz0, hz1, hz2⟩ := info_parts rec_info
 obtain ⟨Ar, dr, rfl, _, _⟩ := oSl hT.recs
 have hB := But.refl w t g (Value.slice Ar N dr).ownBlock
 have htg : t ≠ g := hT.ne
 replace hT := hT.drew
 replace hB := hB.drew
 have hWs : w.heap.size ≤ w.drew.heap.size := Nat.le_refl _
 obtain ⟨o0, o1, o2, o3, o4, o5⟩ := tcell6 hT.tk
 obtain ⟨h0, h1, h2, h3⟩ := mcell4 hT.rest
 go_enter Tryz.func125, Tryz.ntmps125
 go_upto_region 0 with fail
 refine wp_region_held_drew (S := (fun w' => w'.cell? ⟨g, 0, none⟩ = some (.int .i64 i) ∧ w'.cell? ⟨g, 1, none⟩ = some (.int .i64 a) ∧ w'.cell? ⟨g, 2, none⟩ = some (.int .i64 p) ∧ w'.cell? ⟨g, 3, none⟩ = some (.int .i64 c))) (by kernel_rfl) ?hSm1 (fun zH => ?restm1)
 case hSm1 => exact ⟨h0, h1, h2, h3⟩
 refine tkV 0 ?_
 refine tkV 1 ?_
 refine tkV 2 ?_
 refine tkV 3 ?_
 refine tkV 5 ?_
 refine tkV 6 ?_
 refine tkV 7 ?_
 refine wpAnyH_ready (rs := [4, 8]) (by kernel_rfl) (by simp) ?_
 refine AllReadyH.cons (o := ?or9_4) ?hor9_4 (fun K hK => ?stepr9_4) (AllReadyH.cons (o := ?or9_8) ?hor9_8 (fun K hK => ?stepr9_8) (AllReadyH.nil))
 case hor9_4 => simp only [gA, gB, gC]; exact rfl
 case hor9_8 => simp only [gA, gB, gC]; exact rfl
 case stepr9_4 =>
  obtain ⟨x0, x1, x2, x3, x4, x5⟩ := tcell6 hT.tk
  go_simp
  clear x0 x1 x2 x3 x4 x5
  refine hK.out _ _ (zH) (fun zH => ?_)
  clear hK K
  try simp only [Act.put, sA, sB, sC]
  refine rd1 8 (fun K hK => ?_)
  go_simp
  go_at_call 58
  refine (impl_orderRec 4 i a p c w.drew).mono ?_
  rintro e u11 ⟨rfl, hb8⟩
  have hkp := Lib.hid (fun (p : Addr) (hp : p.block < w.drew.heap.size) => hb8.cell hp)
  have hTb := hlT hT.tk
  have hGb := hlT hT.rest
  replace hT := hT.later hb8
  replace hB := hB.later hb8
  clear hb8
  refine hK.out _ _ (⟨(hkp.out ⟨g, 0, none⟩ hGb).trans zH.1, (hkp.out ⟨g, 1, none⟩ hGb).trans zH.2.1, (hkp.out ⟨g, 2, none⟩ hGb).trans zH.2.2.1, (hkp.out ⟨g, 3, none⟩ hGb).trans zH.2.2.2⟩) (fun zH => ?_)
  clear hK K
  try simp only [Act.put, sA, sB, sC]
  refine rd1 9 (fun K hK => ?_)
  go_simp
  have hTb := hlT hT.tk
  have hGb := hlT hT.rest
  have hal : Below u11.heap.size u11 (u11.alloc (.cells #[.int .i64 0, .int .i64 4, .int .i64 0, .int .i64 a, .int .i64 i, .int .i64 0, .int .i64 p, .int .i64 c] 48)) := (Below.refl u11.heap.size u11).alloc (Nat.le_refl _) (.cells #[.int .i64 0, .int .i64 4, .int .i64 0, .int .i64 a, .int .i64 i, .int .i64 0, .int .i64 p, .int .i64 c] 48)
  have hnew := World.news_of_block (show (u11.alloc (.cells #[.int .i64 0, .int .i64 4, .int .i64 0, .int .i64 a, .int .i64 i, .int .i64 0, .int .i64 p, .int .i64 c] 48)).heap[u11.heap.size]? = _ from heap_alloc_new u11 (.cells #[.int .i64 0, .int .i64 4, .int .i64 0, .int .i64 a, .int .i64 i, .int .i64 0, .int .i64 p, .int .i64 c] 48))
  have hkp := Lib.hid (fun (p : Addr) (hp : p.block < u11.heap.size) => hal.cell hp)
  replace hT := hT.later hal
  replace hB := hB.later hal
  clear hal
  generalize u11.alloc (.cells #[.int .i64 0, .int .i64 4, .int .i64 0, .int .i64 a, .int .i64 i, .int .i64 0, .int .i64 p, .int .i64 c] 48) = ua13 at *
  generalize u11.heap.size = xn at *
  refine hK.out _ _ (⟨(hkp.out ⟨g, 0, none⟩ hGb).trans zH.1, (hkp.out ⟨g, 1, none⟩ hGb).trans zH.2.1, (hkp.out ⟨g, 2, none⟩ hGb).trans zH.2.2.1, (hkp.out ⟨g, 3, none⟩ hGb).trans zH.2.2.2⟩) (fun zH => ?_)
  clear hK K
  try simp only [Act.put, sA, sB, sC]
  refine rd1 10 (fun K hK => ?_)
  have hTb := hlT hT.tk
  have hGb := hlT hT.rest
  have hfa := hT.far
  have hlo := hT.recs.lt
  refine sAa _ rfl _ _ 31 rfl base 48 i0 _ 8 64 Tryz.underlying31 hi hz0 hz1 hz2 rfl (by decide) _ _ _ rfl hT.recs ⟨xn, 0, none⟩ 1 1 [.int .i64 0, .int .i64 4, .int .i64 0, .int .i64 a, .int .i64 i, .int .i64 0, .int .i64 p, .int .i64 c] rfl rfl hnew (nums_one (canR i a p c)) (by unfold maxLen; omega) (by omega) hT.low ?_
  intro v' uv15 hown hgrow _ hat
  obtain ⟨A3, d3, rfl, _, _⟩ := oSl hown
  have hkp := Lib.hid (fun (p : Addr) (hp : p.block < ua13.heap.size) (hn : some p.block ≠ (Value.slice Ar N dr).ownBlock) => World.cell?_of_block (a := p) (hgrow.block p.block hp hn))
  have hsz := hB.size
  replace hB := hB.grown hgrow (.inl rfl)
  have HG := Lib.hid hgrow
  clear hgrow
  refine hK.out _ _ (⟨(hkp.out ⟨g, 0, none⟩ hGb (fun e => hfa.2 e.symm)).trans zH.1, (hkp.out ⟨g, 1, none⟩ hGb (fun e => hfa.2 e.symm)).trans zH.2.1, (hkp.out ⟨g, 2, none⟩ hGb (fun e => hfa.2 e.symm)).trans zH.2.2.1, (hkp.out ⟨g, 3, none⟩ hGb (fun e => hfa.2 e.symm)).trans zH.2.2.2⟩) (fun zH => ?_)
  clear hK K
  try simp only [Act.put, sA, sB, sC]
  refine tkV 11 ?_
  refine tkV 12 ?_
  refine rd1 13 (fun K hK => ?_)
  have hT0 := hT.tk
  have hfa := hT.far
  have hTk := (HG.out.block t (hlT hT.tk) (fun e => hfa.1 e.symm)).trans hT.tk
  obtain ⟨x0, x1, x2, x3, x4, x5⟩ := tcell6 hTk
  have z5 := mfree hTk 5
  go_simp
  clear x0 x1 x2 x3 x4 x5 z5
  replace hT := hT.more (R' := R ++ (canR i a p c)) (by rw [nums_append]; exact hown) HG.out
  replace hB := hB.setT 5 (.slice A3 (N + 1) d3)
  refine hK.out _ _ (⟨(World.cell?_setCell_far _ _ _ _ htg).trans zH.1, (World.cell?_setCell_far _ _ _ _ htg).trans zH.2.1, (World.cell?_setCell_far _ _ _ _ htg).trans zH.2.2.1, (World.cell?_setCell_far _ _ _ _ htg).trans zH.2.2.2⟩) (fun zH => ?_)
  clear hK K
  try simp only [Act.put, sA, sB, sC]
  refine dn1 ?_
  have hat2 : (Value.slice A3 (N + 1) d3).ownBlock = (Value.slice Ar N dr).ownBlock ∨ ∀ k, (Value.slice A3 (N + 1) d3).ownBlock = some k → w.heap.size ≤ k := hat.imp id (fun h k e => by rw [h] at e; injection e with e; omega)
  clear zH o0 o1 o2 o3 o4 o5 h0 h1 h2 h3 hown HG hat
  generalize (uv15.setCell ⟨t, 5, none⟩ (.slice A3 (N + 1) d3)) = wf at *
  obtain ⟨h0, h1, h2, h3⟩ := mcell4 hT.rest
  have z3 := mfree hT.rest 3
  go_wp2_with fail
  go_end0
  exact ⟨⟨_, rfl⟩, _, hT.setC 0, hB.setG 3 (.int .i64 0), hat2⟩
 case stepr9_8 =>
  go_simp
  go_at_call 58
  refine (impl_orderRec 4 i a p c w.drew).mono ?_
  rintro e u19 ⟨rfl, hb8⟩
  have hkp := Lib.hid (fun (p : Addr) (hp : p.block < w.drew.heap.size) => hb8.cell hp)
  have hTb := hlT hT.tk
  have hGb := hlT hT.rest
  replace hT := hT.later hb8
  replace hB := hB.later hb8
  clear hb8
  refine hK.out _ _ (⟨(hkp.out ⟨g, 0, none⟩ hGb).trans zH.1, (hkp.out ⟨g, 1, none⟩ hGb).trans zH.2.1, (hkp.out ⟨g, 2, none⟩ hGb).trans zH.2.2.1, (hkp.out ⟨g, 3, none⟩ hGb).trans zH.2.2.2⟩) (fun zH => ?_)
  clear hK K
  try simp only [Act.put, sA, sB, sC]
  refine wpAnyH_ready (rs := [4, 9]) (by kernel_rfl) (by simp) ?_
  refine AllReadyH.cons (o := ?or20_4) ?hor20_4 (fun K hK => ?stepr20_4) (AllReadyH.cons (o := ?or20_9) ?hor20_9 (fun K hK => ?stepr20_9) (AllReadyH.nil))
  case hor20_4 => simp only [gA, gB, gC]; exact rfl
  case hor20_9 => simp only [gA, gB, gC]; exact rfl
  case stepr20_4 =>
   obtain ⟨x0, x1, x2, x3, x4, x5⟩ := tcell6 hT.tk
   go_simp
   clear x0 x1 x2 x3 x4 x5
   refine hK.out _ _ (zH) (fun zH => ?_)
   clear hK K
   try simp only [Act.put, sA, sB, sC]
   refine rd1 9 (fun K hK => ?_)
   go_simp
   have hTb := hlT hT.tk
   have hGb := hlT hT.rest
   have hal : Below u19.heap.size u19 (u19.alloc (.cells #[.int .i64 0, .int .i64 4, .int .i64 0, .int .i64 a, .int .i64 i, .int .i64 0, .int .i64 p, .int .i64 c] 48)) := (Below.refl u19.heap.size u19).alloc (Nat.le_refl _) (.cells #[.int .i64 0, .int .i64 4, .int .i64 0, .int .i64 a, .int .i64 i, .int .i64 0, .int .i64 p, .int .i64 c] 48)
   have hnew := World.news_of_block (show (u19.alloc (.cells #[.int .i64 0, .int .i64 4, .int .i64 0, .int .i64 a, .int .i64 i, .int .i64 0, .int .i64 p, .int .i64 c] 48)).heap[u19.heap.size]? = _ from heap_alloc_new u19 (.cells #[.int .i64 0, .int .i64 4, .int .i64 0, .int .i64 a, .int .i64 i, .int .i64 0, .int .i64 p, .int .i64 c] 48))
   have hkp := Lib.hid (fun (p : Addr) (hp : p.block < u19.heap.size) => hal.cell hp)
   replace hT := hT.later hal
   replace hB := hB.later hal
   clear hal
   generalize u19.alloc (.cells #[.int .i64 0, .int .i64 4, .int .i64 0, .int .i64 a, .int .i64 i, .int .i64 0, .int .i64 p, .int .i64 c] 48) = ua22 at *
   generalize u19.heap.size = xn at *
   refine hK.out _ _ (⟨(hkp.out ⟨g, 0, none⟩ hGb).trans zH.1, (hkp.out ⟨g, 1, none⟩ hGb).trans zH.2.1, (hkp.out ⟨g, 2, none⟩ hGb).trans zH.2.2.1, (hkp.out ⟨g, 3, none⟩ hGb).trans zH.2.2.2⟩) (fun zH => ?_)
   clear hK K
   try simp only [Act.put, sA, sB, sC]
   refine rd1 10 (fun K hK => ?_)
   have hTb := hlT hT.tk
   have hGb := hlT hT.rest
   have hfa := hT.far
   have hlo := hT.recs.lt
   refine sAa _ rfl _ _ 31 rfl base 48 i0 _ 8 64 Tryz.underlying31 hi hz0 hz1 hz2 rfl (by decide) _ _ _ rfl hT.recs ⟨xn, 0, none⟩ 1 1 [.int .i64 0, .int .i64 4, .int .i64 0, .int .i64 a, .int .i64 i, .int .i64 0, .int .i64 p, .int .i64 c] rfl rfl hnew (nums_one (canR i a p c)) (by unfold maxLen; omega) (by omega) hT.low ?_
   intro v' uv24 hown hgrow _ hat
   obtain ⟨A3, d3, rfl, _, _⟩ := oSl hown
   have hkp := Lib.hid (fun (p : Addr) (hp : p.block < ua22.heap.size) (hn : some p.block ≠ (Value.slice Ar N dr).ownBlock) => World.cell?_of_block (a := p) (hgrow.block p.block hp hn))
   have hsz := hB.size
   replace hB := hB.grown hgrow (.inl rfl)
   have HG := Lib.hid hgrow
   clear hgrow
   refine hK.out _ _ (⟨(hkp.out ⟨g, 0, none⟩ hGb (fun e => hfa.2 e.symm)).trans zH.1, (hkp.out ⟨g, 1, none⟩ hGb (fun e => hfa.2 e.symm)).trans zH.2.1, (hkp.out ⟨g, 2, none⟩ hGb (fun e => hfa.2 e.symm)).trans zH.2.2.1, (hkp.out ⟨g, 3, none⟩ hGb (fun e => hfa.2 e.symm)).trans zH.2.2.2⟩) (fun zH => ?_)
   clear hK K
   try simp only [Act.put, sA, sB, sC]
   refine tkV 11 ?_
   refine tkV 12 ?_
   refine rd1 13 (fun K hK => ?_)
   have hT0 := hT.tk
   have hfa := hT.far
   have hTk := (HG.out.block t (hlT hT.tk) (fun e => hfa.1 e.symm)).trans hT.tk
   obtain ⟨x0, x1, x2, x3, x4, x5⟩ := tcell6 hTk
   have z5 := mfree hTk 5
   go_simp
   clear x0 x1 x2 x3 x4 x5 z5
   replace hT := hT.more (R' := R ++ (canR i a p c)) (by rw [nums_append]; exact hown) HG.out
   replace hB := hB.setT 5 (.slice A3 (N + 1) d3)
   refine hK.out _ _ (⟨(World.cell?_setCell_far _ _ _ _ htg).trans zH.1, (World.cell?_setCell_far _ _ _ _ htg).trans zH.2.1, (World.cell?_setCell_far _ _ _ _ htg).trans zH.2.2.1, (World.cell?_setCell_far _ _ _ _ htg).trans zH.2.2.2⟩) (fun zH => ?_)
   clear hK K
   try simp only [Act.put, sA, sB, sC]
   refine dn1 ?_
   have hat2 : (Value.slice A3 (N + 1) d3).ownBlock = (Value.slice Ar N dr).ownBlock ∨ ∀ k, (Value.slice A3 (N + 1) d3).ownBlock = some k → w.heap.size ≤ k := hat.imp id (fun h k e => by rw [h] at e; injection e with e; omega)
   clear zH o0 o1 o2 o3 o4 o5 h0 h1 h2 h3 hown HG hat
   generalize (uv24.setCell ⟨t, 5, none⟩ (.slice A3 (N + 1) d3)) = wf at *
   obtain ⟨h0, h1, h2, h3⟩ := mcell4 hT.rest
   have z3 := mfree hT.rest 3
   go_wp2_with fail
   go_end0
   exact ⟨⟨_, rfl⟩, _, hT.setC 0, hB.setG 3 (.int .i64 0), hat2⟩
  case stepr20_9 =>
   go_simp
   have hTb := hlT hT.tk
   have hGb := hlT hT.rest
   have hal : Below u19.heap.size u19 (u19.alloc (.cells #[.int .i64 0, .int .i64 4, .int .i64 0, .int .i64 a, .int .i64 i, .int .i64 0, .int .i64 p, .int .i64 c] 48)) := (Below.refl u19.heap.size u19).alloc (Nat.le_refl _) (.cells #[.int .i64 0, .int .i64 4, .int .i64 0, .int .i64 a, .int .i64 i, .int .i64 0, .int .i64 p, .int .i64 c] 48)
   have hnew := World.news_of_block (show (u19.alloc (.cells #[.int .i64 0, .int .i64 4, .int .i64 0, .int .i64 a, .int .i64 i, .int .i64 0, .int .i64 p, .int .i64 c] 48)).heap[u19.heap.size]? = _ from heap_alloc_new u19 (.cells #[.int .i64 0, .int .i64 4, .int .i64 0, .int .i64 a, .int .i64 i, .int .i64 0, .int .i64 p, .int .i64 c] 48))
   have hkp := Lib.hid (fun (p : Addr) (hp : p.block < u19.heap.size) => hal.cell hp)
   replace hT := hT.later hal
   replace hB := hB.later hal
   clear hal
   generalize u19.alloc (.cells #[.int .i64 0, .int .i64 4, .int .i64 0, .int .i64 a, .int .i64 i, .int .i64 0, .int .i64 p, .int .i64 c] 48) = ua28 at *
   generalize u19.heap.size = xn at *
   refine hK.out _ _ (⟨(hkp.out ⟨g, 0, none⟩ hGb).trans zH.1, (hkp.out ⟨g, 1, none⟩ hGb).trans zH.2.1, (hkp.out ⟨g, 2, none⟩ hGb).trans zH.2.2.1, (hkp.out ⟨g, 3, none⟩ hGb).trans zH.2.2.2⟩) (fun zH => ?_)
   clear hK K
   try simp only [Act.put, sA, sB, sC]
   refine rd1 4 (fun K hK => ?_)
   obtain ⟨x0, x1, x2, x3, x4, x5⟩ := tcell6 hT.tk
   go_simp
   clear x0 x1 x2 x3 x4 x5
   refine hK.out _ _ (zH) (fun zH => ?_)
   clear hK K
   try simp only [Act.put, sA, sB, sC]
   refine rd1 10 (fun K hK => ?_)
   have hTb := hlT hT.tk
   have hGb := hlT hT.rest
   have hfa := hT.far
   have hlo := hT.recs.lt
   refine sAa _ rfl _ _ 31 rfl base 48 i0 _ 8 64 Tryz.underlying31 hi hz0 hz1 hz2 rfl (by decide) _ _ _ rfl hT.recs ⟨xn, 0, none⟩ 1 1 [.int .i64 0, .int .i64 4, .int .i64 0, .int .i64 a, .int .i64 i, .int .i64 0, .int .i64 p, .int .i64 c] rfl rfl hnew (nums_one (canR i a p c)) (by unfold maxLen; omega) (by omega) hT.low ?_
   intro v' uv31 hown hgrow _ hat
   obtain ⟨A3, d3, rfl, _, _⟩ := oSl hown
   have hkp := Lib.hid (fun (p : Addr) (hp : p.block < ua28.heap.size) (hn : some p.block ≠ (Value.slice Ar N dr).ownBlock) => World.cell?_of_block (a := p) (hgrow.block p.block hp hn))
   have hsz := hB.size
   replace hB := hB.grown hgrow (.inl rfl)
   have HG := Lib.hid hgrow
   clear hgrow
   refine hK.out _ _ (⟨(hkp.out ⟨g, 0, none⟩ hGb (fun e => hfa.2 e.symm)).trans zH.1, (hkp.out ⟨g, 1, none⟩ hGb (fun e => hfa.2 e.symm)).trans zH.2.1, (hkp.out ⟨g, 2, none⟩ hGb (fun e => hfa.2 e.symm)).trans zH.2.2.1, (hkp.out ⟨g, 3, none⟩ hGb (fun e => hfa.2 e.symm)).trans zH.2.2.2⟩) (fun zH => ?_)
   clear hK K
   try simp only [Act.put, sA, sB, sC]
   refine tkV 11 ?_
   refine tkV 12 ?_
   refine rd1 13 (fun K hK => ?_)
   have hT0 := hT.tk
   have hfa := hT.far
   have hTk := (HG.out.block t (hlT hT.tk) (fun e => hfa.1 e.symm)).trans hT.tk
   obtain ⟨x0, x1, x2, x3, x4, x5⟩ := tcell6 hTk
   have z5 := mfree hTk 5
   go_simp
   clear x0 x1 x2 x3 x4 x5 z5
   replace hT := hT.more (R' := R ++ (canR i a p c)) (by rw [nums_append]; exact hown) HG.out
   replace hB := hB.setT 5 (.slice A3 (N + 1) d3)
   refine hK.out _ _ (⟨(World.cell?_setCell_far _ _ _ _ htg).trans zH.1, (World.cell?_setCell_far _ _ _ _ htg).trans zH.2.1, (World.cell?_setCell_far _ _ _ _ htg).trans zH.2.2.1, (World.cell?_setCell_far _ _ _ _ htg).trans zH.2.2.2⟩) (fun zH => ?_)
   clear hK K
   try simp only [Act.put, sA, sB, sC]
   refine dn1 ?_
   have hat2 : (Value.slice A3 (N + 1) d3).ownBlock = (Value.slice Ar N dr).ownBlock ∨ ∀ k, (Value.slice A3 (N + 1) d3).ownBlock = some k → w.heap.size ≤ k := hat.imp id (fun h k e => by rw [h] at e; injection e with e; omega)
   clear zH o0 o1 o2 o3 o4 o5 h0 h1 h2 h3 hown HG hat
   generalize (uv31.setCell ⟨t, 5, none⟩ (.slice A3 (N + 1) d3)) = wf at *
   obtain ⟨h0, h1, h2, h3⟩ := mcell4 hT.rest
   have z3 := mfree hT.rest 3
   go_wp2_with fail
   go_end0
   exact ⟨⟨_, rfl⟩, _, hT.setC 0, hB.setG 3 (.int .i64 0), hat2⟩
theorem impl_cancelO (t g base N : Nat) (oi oa op q mode i a p c : Int) (rv : Value) (R : List Int) (w : World) (hT : TkW w t g oi oa op q mode rv base N R i a p c) (hN : N ≤ 1000000) :
 Calls Tryz.prog 125 #[.pointer (some ⟨t, 0, none⟩), .pointer (some ⟨t, 0, none⟩)] w fun e w' => (∃ u, e = .returned u) ∧ ∃ v, TkW w' t g oi oa op 0 mode v base (N + 1) (R ++ (canR oi oa op q)) i a p c ∧ But w w' t g rv.ownBlock ∧ (v.ownBlock = rv.ownBlock ∨ ∀ k, v.ownBlock = some k → w.heap.size ≤ k) := by
 obtain ⟨i0, hi, hz0, hz1, hz2⟩ := info_parts rec_info
 obtain ⟨Ar, dr, rfl, _, _⟩ := oSl hT.recs
 have hB := But.refl w t g (Value.slice Ar N dr).ownBlock
 have htg : t ≠ g := hT.ne
 replace hT := hT.drew
 replace hB := hB.drew
 have hWs : w.heap.size ≤ w.drew.heap.size := Nat.le_refl _
 obtain ⟨o0, o1, o2, o3, o4, o5⟩ := tcell6 hT.tk
 obtain ⟨h0, h1, h2, h3⟩ := mcell4 hT.rest
 go_enter Tryz.func125, Tryz.ntmps125
 go_upto_region 0 with fail
 refine wp_region_held_drew (S := (fun w' => w'.cell? ⟨t, 0, none⟩ = some (.int .i64 oi) ∧ w'.cell? ⟨t, 1, none⟩ = some (.int .i64 oa) ∧ w'.cell? ⟨t, 2, none⟩ = some (.int .i64 op) ∧ w'.cell? ⟨t, 3, none⟩ = some (.int .i64 q))) (by kernel_rfl) ?hSm35 (fun zH => ?restm35)
 case hSm35 => exact ⟨o0, o1, o2, o3⟩
 refine tkV 0 ?_
 refine tkV 1 ?_
 refine tkV 2 ?_
 refine tkV 3 ?_
 refine tkV 5 ?_
 refine tkV 6 ?_
 refine tkV 7 ?_
 refine wpAnyH_ready (rs := [4, 8]) (by kernel_rfl) (by simp) ?_
 refine AllReadyH.cons (o := ?or43_4) ?hor43_4 (fun K hK => ?stepr43_4) (AllReadyH.cons (o := ?or43_8) ?hor43_8 (fun K hK => ?stepr43_8) (AllReadyH.nil))
 case hor43_4 => simp only [gA, gB, gC]; exact rfl
 case hor43_8 => simp only [gA, gB, gC]; exact rfl
 case stepr43_4 =>
  obtain ⟨x0, x1, x2, x3, x4, x5⟩ := tcell6 hT.tk
  go_simp
  clear x0 x1 x2 x3 x4 x5
  refine hK.out _ _ (zH) (fun zH => ?_)
  clear hK K
  try simp only [Act.put, sA, sB, sC]
  refine rd1 8 (fun K hK => ?_)
  go_simp
  go_at_call 58
  refine (impl_orderRec 4 oi oa op q w.drew).mono ?_
  rintro e u45 ⟨rfl, hb8⟩
  have hkp := Lib.hid (fun (p : Addr) (hp : p.block < w.drew.heap.size) => hb8.cell hp)
  have hTb := hlT hT.tk
  have hGb := hlT hT.rest
  replace hT := hT.later hb8
  replace hB := hB.later hb8
  clear hb8
  refine hK.out _ _ (⟨(hkp.out ⟨t, 0, none⟩ hTb).trans zH.1, (hkp.out ⟨t, 1, none⟩ hTb).trans zH.2.1, (hkp.out ⟨t, 2, none⟩ hTb).trans zH.2.2.1, (hkp.out ⟨t, 3, none⟩ hTb).trans zH.2.2.2⟩) (fun zH => ?_)
  clear hK K
  try simp only [Act.put, sA, sB, sC]
  refine rd1 9 (fun K hK => ?_)
  go_simp
  have hTb := hlT hT.tk
  have hGb := hlT hT.rest
  have hal : Below u45.heap.size u45 (u45.alloc (.cells #[.int .i64 0, .int .i64 4, .int .i64 0, .int .i64 oa, .int .i64 oi, .int .i64 0, .int .i64 op, .int .i64 q] 48)) := (Below.refl u45.heap.size u45).alloc (Nat.le_refl _) (.cells #[.int .i64 0, .int .i64 4, .int .i64 0, .int .i64 oa, .int .i64 oi, .int .i64 0, .int .i64 op, .int .i64 q] 48)
  have hnew := World.news_of_block (show (u45.alloc (.cells #[.int .i64 0, .int .i64 4, .int .i64 0, .int .i64 oa, .int .i64 oi, .int .i64 0, .int .i64 op, .int .i64 q] 48)).heap[u45.heap.size]? = _ from heap_alloc_new u45 (.cells #[.int .i64 0, .int .i64 4, .int .i64 0, .int .i64 oa, .int .i64 oi, .int .i64 0, .int .i64 op, .int .i64 q] 48))
  have hkp := Lib.hid (fun (p : Addr) (hp : p.block < u45.heap.size) => hal.cell hp)
  replace hT := hT.later hal
  replace hB := hB.later hal
  clear hal
  generalize u45.alloc (.cells #[.int .i64 0, .int .i64 4, .int .i64 0, .int .i64 oa, .int .i64 oi, .int .i64 0, .int .i64 op, .int .i64 q] 48) = ua47 at *
  generalize u45.heap.size = xn at *
  refine hK.out _ _ (⟨(hkp.out ⟨t, 0, none⟩ hTb).trans zH.1, (hkp.out ⟨t, 1, none⟩ hTb).trans zH.2.1, (hkp.out ⟨t, 2, none⟩ hTb).trans zH.2.2.1, (hkp.out ⟨t, 3, none⟩ hTb).trans zH.2.2.2⟩) (fun zH => ?_)
  clear hK K
  try simp only [Act.put, sA, sB, sC]
  refine rd1 10 (fun K hK => ?_)
  have hTb := hlT hT.tk
  have hGb := hlT hT.rest
  have hfa := hT.far
  have hlo := hT.recs.lt
  refine sAa _ rfl _ _ 31 rfl base 48 i0 _ 8 64 Tryz.underlying31 hi hz0 hz1 hz2 rfl (by decide) _ _ _ rfl hT.recs ⟨xn, 0, none⟩ 1 1 [.int .i64 0, .int .i64 4, .int .i64 0, .int .i64 oa, .int .i64 oi, .int .i64 0, .int .i64 op, .int .i64 q] rfl rfl hnew (nums_one (canR oi oa op q)) (by unfold maxLen; omega) (by omega) hT.low ?_
  intro v' uv49 hown hgrow _ hat
  obtain ⟨A3, d3, rfl, _, _⟩ := oSl hown
  have hkp := Lib.hid (fun (p : Addr) (hp : p.block < ua47.heap.size) (hn : some p.block ≠ (Value.slice Ar N dr).ownBlock) => World.cell?_of_block (a := p) (hgrow.block p.block hp hn))
  have hsz := hB.size
  replace hB := hB.grown hgrow (.inl rfl)
  have HG := Lib.hid hgrow
  clear hgrow
  refine hK.out _ _ (⟨(hkp.out ⟨t, 0, none⟩ hTb (fun e => hfa.1 e.symm)).trans zH.1, (hkp.out ⟨t, 1, none⟩ hTb (fun e => hfa.1 e.symm)).trans zH.2.1, (hkp.out ⟨t, 2, none⟩ hTb (fun e => hfa.1 e.symm)).trans zH.2.2.1, (hkp.out ⟨t, 3, none⟩ hTb (fun e => hfa.1 e.symm)).trans zH.2.2.2⟩) (fun zH => ?_)
  clear hK K
  try simp only [Act.put, sA, sB, sC]
  refine tkV 11 ?_
  refine tkV 12 ?_
  refine rd1 13 (fun K hK => ?_)
  have hT0 := hT.tk
  have hfa := hT.far
  have hTk := (HG.out.block t (hlT hT.tk) (fun e => hfa.1 e.symm)).trans hT.tk
  obtain ⟨x0, x1, x2, x3, x4, x5⟩ := tcell6 hTk
  have z5 := mfree hTk 5
  go_simp
  clear x0 x1 x2 x3 x4 x5 z5
  replace hT := hT.more (R' := R ++ (canR oi oa op q)) (by rw [nums_append]; exact hown) HG.out
  replace hB := hB.setT 5 (.slice A3 (N + 1) d3)
  refine hK.out _ _ (⟨(set_far5 (by decide)).trans zH.1, (set_far5 (by decide)).trans zH.2.1, (set_far5 (by decide)).trans zH.2.2.1, (set_far5 (by decide)).trans zH.2.2.2⟩) (fun zH => ?_)
  clear hK K
  try simp only [Act.put, sA, sB, sC]
  refine dn1 ?_
  have hat2 : (Value.slice A3 (N + 1) d3).ownBlock = (Value.slice Ar N dr).ownBlock ∨ ∀ k, (Value.slice A3 (N + 1) d3).ownBlock = some k → w.heap.size ≤ k := hat.imp id (fun h k e => by rw [h] at e; injection e with e; omega)
  clear zH o0 o1 o2 o3 o4 o5 h0 h1 h2 h3 hown HG hat
  generalize (uv49.setCell ⟨t, 5, none⟩ (.slice A3 (N + 1) d3)) = wf at *
  obtain ⟨o0, o1, o2, o3, o4, o5⟩ := tcell6 hT.tk
  have z3 := mfree hT.tk 3
  go_wp2_with fail
  go_end0
  exact ⟨⟨_, rfl⟩, _, hT.setQ 0, hB.setT 3 (.int .i64 0), hat2⟩
 case stepr43_8 =>
  go_simp
  go_at_call 58
  refine (impl_orderRec 4 oi oa op q w.drew).mono ?_
  rintro e u53 ⟨rfl, hb8⟩
  have hkp := Lib.hid (fun (p : Addr) (hp : p.block < w.drew.heap.size) => hb8.cell hp)
  have hTb := hlT hT.tk
  have hGb := hlT hT.rest
  replace hT := hT.later hb8
  replace hB := hB.later hb8
  clear hb8
  refine hK.out _ _ (⟨(hkp.out ⟨t, 0, none⟩ hTb).trans zH.1, (hkp.out ⟨t, 1, none⟩ hTb).trans zH.2.1, (hkp.out ⟨t, 2, none⟩ hTb).trans zH.2.2.1, (hkp.out ⟨t, 3, none⟩ hTb).trans zH.2.2.2⟩) (fun zH => ?_)
  clear hK K
  try simp only [Act.put, sA, sB, sC]
  refine wpAnyH_ready (rs := [4, 9]) (by kernel_rfl) (by simp) ?_
  refine AllReadyH.cons (o := ?or54_4) ?hor54_4 (fun K hK => ?stepr54_4) (AllReadyH.cons (o := ?or54_9) ?hor54_9 (fun K hK => ?stepr54_9) (AllReadyH.nil))
  case hor54_4 => simp only [gA, gB, gC]; exact rfl
  case hor54_9 => simp only [gA, gB, gC]; exact rfl
  case stepr54_4 =>
   obtain ⟨x0, x1, x2, x3, x4, x5⟩ := tcell6 hT.tk
   go_simp
   clear x0 x1 x2 x3 x4 x5
   refine hK.out _ _ (zH) (fun zH => ?_)
   clear hK K
   try simp only [Act.put, sA, sB, sC]
   refine rd1 9 (fun K hK => ?_)
   go_simp
   have hTb := hlT hT.tk
   have hGb := hlT hT.rest
   have hal : Below u53.heap.size u53 (u53.alloc (.cells #[.int .i64 0, .int .i64 4, .int .i64 0, .int .i64 oa, .int .i64 oi, .int .i64 0, .int .i64 op, .int .i64 q] 48)) := (Below.refl u53.heap.size u53).alloc (Nat.le_refl _) (.cells #[.int .i64 0, .int .i64 4, .int .i64 0, .int .i64 oa, .int .i64 oi, .int .i64 0, .int .i64 op, .int .i64 q] 48)
   have hnew := World.news_of_block (show (u53.alloc (.cells #[.int .i64 0, .int .i64 4, .int .i64 0, .int .i64 oa, .int .i64 oi, .int .i64 0, .int .i64 op, .int .i64 q] 48)).heap[u53.heap.size]? = _ from heap_alloc_new u53 (.cells #[.int .i64 0, .int .i64 4, .int .i64 0, .int .i64 oa, .int .i64 oi, .int .i64 0, .int .i64 op, .int .i64 q] 48))
   have hkp := Lib.hid (fun (p : Addr) (hp : p.block < u53.heap.size) => hal.cell hp)
   replace hT := hT.later hal
   replace hB := hB.later hal
   clear hal
   generalize u53.alloc (.cells #[.int .i64 0, .int .i64 4, .int .i64 0, .int .i64 oa, .int .i64 oi, .int .i64 0, .int .i64 op, .int .i64 q] 48) = ua56 at *
   generalize u53.heap.size = xn at *
   refine hK.out _ _ (⟨(hkp.out ⟨t, 0, none⟩ hTb).trans zH.1, (hkp.out ⟨t, 1, none⟩ hTb).trans zH.2.1, (hkp.out ⟨t, 2, none⟩ hTb).trans zH.2.2.1, (hkp.out ⟨t, 3, none⟩ hTb).trans zH.2.2.2⟩) (fun zH => ?_)
   clear hK K
   try simp only [Act.put, sA, sB, sC]
   refine rd1 10 (fun K hK => ?_)
   have hTb := hlT hT.tk
   have hGb := hlT hT.rest
   have hfa := hT.far
   have hlo := hT.recs.lt
   refine sAa _ rfl _ _ 31 rfl base 48 i0 _ 8 64 Tryz.underlying31 hi hz0 hz1 hz2 rfl (by decide) _ _ _ rfl hT.recs ⟨xn, 0, none⟩ 1 1 [.int .i64 0, .int .i64 4, .int .i64 0, .int .i64 oa, .int .i64 oi, .int .i64 0, .int .i64 op, .int .i64 q] rfl rfl hnew (nums_one (canR oi oa op q)) (by unfold maxLen; omega) (by omega) hT.low ?_
   intro v' uv58 hown hgrow _ hat
   obtain ⟨A3, d3, rfl, _, _⟩ := oSl hown
   have hkp := Lib.hid (fun (p : Addr) (hp : p.block < ua56.heap.size) (hn : some p.block ≠ (Value.slice Ar N dr).ownBlock) => World.cell?_of_block (a := p) (hgrow.block p.block hp hn))
   have hsz := hB.size
   replace hB := hB.grown hgrow (.inl rfl)
   have HG := Lib.hid hgrow
   clear hgrow
   refine hK.out _ _ (⟨(hkp.out ⟨t, 0, none⟩ hTb (fun e => hfa.1 e.symm)).trans zH.1, (hkp.out ⟨t, 1, none⟩ hTb (fun e => hfa.1 e.symm)).trans zH.2.1, (hkp.out ⟨t, 2, none⟩ hTb (fun e => hfa.1 e.symm)).trans zH.2.2.1, (hkp.out ⟨t, 3, none⟩ hTb (fun e => hfa.1 e.symm)).trans zH.2.2.2⟩) (fun zH => ?_)
   clear hK K
   try simp only [Act.put, sA, sB, sC]
   refine tkV 11 ?_
   refine tkV 12 ?_
   refine rd1 13 (fun K hK => ?_)
   have hT0 := hT.tk
   have hfa := hT.far
   have hTk := (HG.out.block t (hlT hT.tk) (fun e => hfa.1 e.symm)).trans hT.tk
   obtain ⟨x0, x1, x2, x3, x4, x5⟩ := tcell6 hTk
   have z5 := mfree hTk 5
   go_simp
   clear x0 x1 x2 x3 x4 x5 z5
   replace hT := hT.more (R' := R ++ (canR oi oa op q)) (by rw [nums_append]; exact hown) HG.out
   replace hB := hB.setT 5 (.slice A3 (N + 1) d3)
   refine hK.out _ _ (⟨(set_far5 (by decide)).trans zH.1, (set_far5 (by decide)).trans zH.2.1, (set_far5 (by decide)).trans zH.2.2.1, (set_far5 (by decide)).trans zH.2.2.2⟩) (fun zH => ?_)
   clear hK K
   try simp only [Act.put, sA, sB, sC]
   refine dn1 ?_
   have hat2 : (Value.slice A3 (N + 1) d3).ownBlock = (Value.slice Ar N dr).ownBlock ∨ ∀ k, (Value.slice A3 (N + 1) d3).ownBlock = some k → w.heap.size ≤ k := hat.imp id (fun h k e => by rw [h] at e; injection e with e; omega)
   clear zH o0 o1 o2 o3 o4 o5 h0 h1 h2 h3 hown HG hat
   generalize (uv58.setCell ⟨t, 5, none⟩ (.slice A3 (N + 1) d3)) = wf at *
   obtain ⟨o0, o1, o2, o3, o4, o5⟩ := tcell6 hT.tk
   have z3 := mfree hT.tk 3
   go_wp2_with fail
   go_end0
   exact ⟨⟨_, rfl⟩, _, hT.setQ 0, hB.setT 3 (.int .i64 0), hat2⟩
  case stepr54_9 =>
   go_simp
   have hTb := hlT hT.tk
   have hGb := hlT hT.rest
   have hal : Below u53.heap.size u53 (u53.alloc (.cells #[.int .i64 0, .int .i64 4, .int .i64 0, .int .i64 oa, .int .i64 oi, .int .i64 0, .int .i64 op, .int .i64 q] 48)) := (Below.refl u53.heap.size u53).alloc (Nat.le_refl _) (.cells #[.int .i64 0, .int .i64 4, .int .i64 0, .int .i64 oa, .int .i64 oi, .int .i64 0, .int .i64 op, .int .i64 q] 48)
   have hnew := World.news_of_block (show (u53.alloc (.cells #[.int .i64 0, .int .i64 4, .int .i64 0, .int .i64 oa, .int .i64 oi, .int .i64 0, .int .i64 op, .int .i64 q] 48)).heap[u53.heap.size]? = _ from heap_alloc_new u53 (.cells #[.int .i64 0, .int .i64 4, .int .i64 0, .int .i64 oa, .int .i64 oi, .int .i64 0, .int .i64 op, .int .i64 q] 48))
   have hkp := Lib.hid (fun (p : Addr) (hp : p.block < u53.heap.size) => hal.cell hp)
   replace hT := hT.later hal
   replace hB := hB.later hal
   clear hal
   generalize u53.alloc (.cells #[.int .i64 0, .int .i64 4, .int .i64 0, .int .i64 oa, .int .i64 oi, .int .i64 0, .int .i64 op, .int .i64 q] 48) = ua62 at *
   generalize u53.heap.size = xn at *
   refine hK.out _ _ (⟨(hkp.out ⟨t, 0, none⟩ hTb).trans zH.1, (hkp.out ⟨t, 1, none⟩ hTb).trans zH.2.1, (hkp.out ⟨t, 2, none⟩ hTb).trans zH.2.2.1, (hkp.out ⟨t, 3, none⟩ hTb).trans zH.2.2.2⟩) (fun zH => ?_)
   clear hK K
   try simp only [Act.put, sA, sB, sC]
   refine rd1 4 (fun K hK => ?_)
   obtain ⟨x0, x1, x2, x3, x4, x5⟩ := tcell6 hT.tk
   go_simp
   clear x0 x1 x2 x3 x4 x5
   refine hK.out _ _ (zH) (fun zH => ?_)
   clear hK K
   try simp only [Act.put, sA, sB, sC]
   refine rd1 10 (fun K hK => ?_)
   have hTb := hlT hT.tk
   have hGb := hlT hT.rest
   have hfa := hT.far
   have hlo := hT.recs.lt
   refine sAa _ rfl _ _ 31 rfl base 48 i0 _ 8 64 Tryz.underlying31 hi hz0 hz1 hz2 rfl (by decide) _ _ _ rfl hT.recs ⟨xn, 0, none⟩ 1 1 [.int .i64 0, .int .i64 4, .int .i64 0, .int .i64 oa, .int .i64 oi, .int .i64 0, .int .i64 op, .int .i64 q] rfl rfl hnew (nums_one (canR oi oa op q)) (by unfold maxLen; omega) (by omega) hT.low ?_
   intro v' uv65 hown hgrow _ hat
   obtain ⟨A3, d3, rfl, _, _⟩ := oSl hown
   have hkp := Lib.hid (fun (p : Addr) (hp : p.block < ua62.heap.size) (hn : some p.block ≠ (Value.slice Ar N dr).ownBlock) => World.cell?_of_block (a := p) (hgrow.block p.block hp hn))
   have hsz := hB.size
   replace hB := hB.grown hgrow (.inl rfl)
   have HG := Lib.hid hgrow
   clear hgrow
   refine hK.out _ _ (⟨(hkp.out ⟨t, 0, none⟩ hTb (fun e => hfa.1 e.symm)).trans zH.1, (hkp.out ⟨t, 1, none⟩ hTb (fun e => hfa.1 e.symm)).trans zH.2.1, (hkp.out ⟨t, 2, none⟩ hTb (fun e => hfa.1 e.symm)).trans zH.2.2.1, (hkp.out ⟨t, 3, none⟩ hTb (fun e => hfa.1 e.symm)).trans zH.2.2.2⟩) (fun zH => ?_)
   clear hK K
   try simp only [Act.put, sA, sB, sC]
   refine tkV 11 ?_
   refine tkV 12 ?_
   refine rd1 13 (fun K hK => ?_)
   have hT0 := hT.tk
   have hfa := hT.far
   have hTk := (HG.out.block t (hlT hT.tk) (fun e => hfa.1 e.symm)).trans hT.tk
   obtain ⟨x0, x1, x2, x3, x4, x5⟩ := tcell6 hTk
   have z5 := mfree hTk 5
   go_simp
   clear x0 x1 x2 x3 x4 x5 z5
   replace hT := hT.more (R' := R ++ (canR oi oa op q)) (by rw [nums_append]; exact hown) HG.out
   replace hB := hB.setT 5 (.slice A3 (N + 1) d3)
   refine hK.out _ _ (⟨(set_far5 (by decide)).trans zH.1, (set_far5 (by decide)).trans zH.2.1, (set_far5 (by decide)).trans zH.2.2.1, (set_far5 (by decide)).trans zH.2.2.2⟩) (fun zH => ?_)
   clear hK K
   try simp only [Act.put, sA, sB, sC]
   refine dn1 ?_
   have hat2 : (Value.slice A3 (N + 1) d3).ownBlock = (Value.slice Ar N dr).ownBlock ∨ ∀ k, (Value.slice A3 (N + 1) d3).ownBlock = some k → w.heap.size ≤ k := hat.imp id (fun h k e => by rw [h] at e; injection e with e; omega)
   clear zH o0 o1 o2 o3 o4 o5 h0 h1 h2 h3 hown HG hat
   generalize (uv65.setCell ⟨t, 5, none⟩ (.slice A3 (N + 1) d3)) = wf at *
   obtain ⟨o0, o1, o2, o3, o4, o5⟩ := tcell6 hT.tk
   have z3 := mfree hT.tk 3
   go_wp2_with fail
   go_end0
   exact ⟨⟨_, rfl⟩, _, hT.setQ 0, hB.setT 3 (.int .i64 0), hat2⟩
theorem impl_trade (t g base N : Nat) (oi oa op q mode i a p c T : Int) (rv : Value) (R : List Int) (w : World) (hT : TkW w t g oi oa op q mode rv base N R i a p c) (hN : N ≤ 1000000) (tmn : min q c = T) (q0 : 0 ≤ q) (q1 : q ≤ 1000000) (c0 : 0 ≤ c) (c1 : c ≤ 1000000) :
 Calls Tryz.prog 120 #[.pointer (some ⟨t, 0, none⟩), .pointer (some ⟨g, 0, none⟩)] w fun e w' => (∃ u, e = .returned u) ∧ ∃ v, TkW w' t g oi oa op (q - T) mode v base (N + 1) (R ++ (filR oi oa i p T)) i a p (c - T) ∧ But w w' t g rv.ownBlock ∧ (v.ownBlock = rv.ownBlock ∨ ∀ k, v.ownBlock = some k → w.heap.size ≤ k) := by
 obtain ⟨i0, hi, hz0, hz1, hz2⟩ := info_parts rec_info
 obtain ⟨Ar, dr, rfl, _, _⟩ := oSl hT.recs
 have hB := But.refl w t g (Value.slice Ar N dr).ownBlock
 have htg : t ≠ g := hT.ne
 have hT0 : 0 ≤ T := by omega
 have hT1 : T ≤ q := by omega
 have hT2 : T ≤ c := by omega
 obtain ⟨o0, o1, o2, o3, o4, o5⟩ := tcell6 hT.tk
 obtain ⟨h0, h1, h2, h3⟩ := mcell4 hT.rest
 go_enter Tryz.func120, Tryz.ntmps120
 go_upto_region 0 with fail
 refine wp_region_held_drew (S := (fun w' => w'.cell? ⟨t, 3, none⟩ = some (.int .i64 q) ∧ w'.cell? ⟨g, 3, none⟩ = some (.int .i64 c))) (by kernel_rfl) ?hSm69 (fun zH => ?restm69)
 case hSm69 => exact ⟨o3, h3⟩
 refine tkV 0 ?_
 refine tkV 1 ?_
 refine tkV 2 ?_
 refine tkV 3 ?_
 refine tkV 4 ?_
 refine tkV 5 ?_
 refine tkV 6 ?_
 refine tkV 7 ?_
 refine tkV 8 ?_
 refine rd1 9 (fun K hK => ?_)
 go_simp
 refine hK.out _ _ (zH) (fun zH => ?_)
 clear hK K
 try simp only [Act.put, sA, sB, sC]
 refine tkV 10 ?_
 refine dn1 ?_
 clear zH o0 o1 o2 o3 o4 o5 h0 h1 h2 h3 tmn
 replace hT := hT.drew
 replace hB := hB.drew
 have hWs : w.heap.size ≤ w.drew.heap.size := Nat.le_refl _
 generalize w.drew = wa at *
 go_upto_region 1 with fail
 replace hT := hT.drew
 replace hB := hB.drew
 replace hWs : w.heap.size ≤ wa.drew.heap.size := hWs
 obtain ⟨o0, o1, o2, o3, o4, o5⟩ := tcell6 hT.tk
 obtain ⟨h0, h1, h2, h3⟩ := mcell4 hT.rest
 refine wp_region_held_drew (S := (fun w' => w'.cell? ⟨t, 1, none⟩ = some (.int .i64 oa) ∧ w'.cell? ⟨t, 0, none⟩ = some (.int .i64 oi) ∧ w'.cell? ⟨g, 0, none⟩ = some (.int .i64 i) ∧ w'.cell? ⟨g, 2, none⟩ = some (.int .i64 p))) (by kernel_rfl) ?hSm81 (fun zH => ?restm81)
 case hSm81 => exact ⟨o1, o0, h0, h2⟩
 refine tkV 0 ?_
 refine tkV 1 ?_
 refine tkV 2 ?_
 refine tkV 3 ?_
 refine tkV 5 ?_
 refine tkV 6 ?_
 refine tkV 7 ?_
 refine tkV 8 ?_
 refine tkV 9 ?_
 refine tkV 10 ?_
 refine tkV 11 ?_
 refine tkV 12 ?_
 refine tkV 13 ?_
 refine tkV 14 ?_
 refine tkV 15 ?_
 refine tkV 16 ?_
 refine tkV 17 ?_
 refine tkV 18 ?_
 refine tkV 19 ?_
 refine tkV 20 ?_
 refine tkV 21 ?_
 refine tkV 22 ?_
 refine tkV 23 ?_
 refine tkV 24 ?_
 refine wpAnyH_ready (rs := [4, 25]) (by kernel_rfl) (by simp) ?_
 refine AllReadyH.cons (o := ?or106_4) ?hor106_4 (fun K hK => ?stepr106_4) (AllReadyH.cons (o := ?or106_25) ?hor106_25 (fun K hK => ?stepr106_25) (AllReadyH.nil))
 case hor106_4 => simp only [gA, gB, gC]; exact rfl
 case hor106_25 => simp only [gA, gB, gC]; exact rfl
 case stepr106_4 =>
  obtain ⟨x0, x1, x2, x3, x4, x5⟩ := tcell6 hT.tk
  go_simp
  clear x0 x1 x2 x3 x4 x5
  refine hK.out _ _ (zH) (fun zH => ?_)
  clear hK K
  try simp only [Act.put, sA, sB, sC]
  refine rd1 25 (fun K hK => ?_)
  go_simp
  have hTb := hlT hT.tk
  have hGb := hlT hT.rest
  have hal : Below wa.heap.size wa.drew ((wa.alloc (.cells #[.int .i64 0, .int .i64 3, .int .i64 0, .int .i64 oa, .int .i64 oi, .int .i64 i, .int .i64 p, .int .i64 T] 48)).drew) := (Below.refl wa.drew.heap.size wa.drew).alloc (Nat.le_refl _) (.cells #[.int .i64 0, .int .i64 3, .int .i64 0, .int .i64 oa, .int .i64 oi, .int .i64 i, .int .i64 p, .int .i64 T] 48)
  have hnew := World.news_of_block (show ((wa.alloc (.cells #[.int .i64 0, .int .i64 3, .int .i64 0, .int .i64 oa, .int .i64 oi, .int .i64 i, .int .i64 p, .int .i64 T] 48)).drew).heap[wa.heap.size]? = _ from heap_alloc_new wa (.cells #[.int .i64 0, .int .i64 3, .int .i64 0, .int .i64 oa, .int .i64 oi, .int .i64 i, .int .i64 p, .int .i64 T] 48))
  have hkp := Lib.hid (fun (p : Addr) (hp : p.block < wa.drew.heap.size) => hal.cell hp)
  replace hT := hT.later hal
  replace hB := hB.later hal
  clear hal
  generalize (wa.alloc (.cells #[.int .i64 0, .int .i64 3, .int .i64 0, .int .i64 oa, .int .i64 oi, .int .i64 i, .int .i64 p, .int .i64 T] 48)).drew = ua108 at *
  generalize wa.heap.size = xn at *
  refine hK.out _ _ (⟨(hkp.out ⟨t, 1, none⟩ hTb).trans zH.1, (hkp.out ⟨t, 0, none⟩ hTb).trans zH.2.1, (hkp.out ⟨g, 0, none⟩ hGb).trans zH.2.2.1, (hkp.out ⟨g, 2, none⟩ hGb).trans zH.2.2.2⟩) (fun zH => ?_)
  clear hK K
  try simp only [Act.put, sA, sB, sC]
  refine rd1 26 (fun K hK => ?_)
  have hTb := hlT hT.tk
  have hGb := hlT hT.rest
  have hfa := hT.far
  have hlo := hT.recs.lt
  refine sAa _ rfl _ _ 31 rfl base 48 i0 _ 8 64 Tryz.underlying31 hi hz0 hz1 hz2 rfl (by decide) _ _ _ rfl hT.recs ⟨xn, 0, none⟩ 1 1 [.int .i64 0, .int .i64 3, .int .i64 0, .int .i64 oa, .int .i64 oi, .int .i64 i, .int .i64 p, .int .i64 T] rfl rfl hnew (nums_one (filR oi oa i p T)) (by unfold maxLen; omega) (by omega) hT.low ?_
  intro v' uv110 hown hgrow _ hat
  obtain ⟨A3, d3, rfl, _, _⟩ := oSl hown
  have hkp := Lib.hid (fun (p : Addr) (hp : p.block < ua108.heap.size) (hn : some p.block ≠ (Value.slice Ar N dr).ownBlock) => World.cell?_of_block (a := p) (hgrow.block p.block hp hn))
  have hsz := hB.size
  replace hB := hB.grown hgrow (.inl rfl)
  have HG := Lib.hid hgrow
  clear hgrow
  refine hK.out _ _ (⟨(hkp.out ⟨t, 1, none⟩ hTb (fun e => hfa.1 e.symm)).trans zH.1, (hkp.out ⟨t, 0, none⟩ hTb (fun e => hfa.1 e.symm)).trans zH.2.1, (hkp.out ⟨g, 0, none⟩ hGb (fun e => hfa.2 e.symm)).trans zH.2.2.1, (hkp.out ⟨g, 2, none⟩ hGb (fun e => hfa.2 e.symm)).trans zH.2.2.2⟩) (fun zH => ?_)
  clear hK K
  try simp only [Act.put, sA, sB, sC]
  refine tkV 27 ?_
  refine tkV 28 ?_
  refine rd1 29 (fun K hK => ?_)
  have hT0 := hT.tk
  have hfa := hT.far
  have hTk := (HG.out.block t (hlT hT.tk) (fun e => hfa.1 e.symm)).trans hT.tk
  obtain ⟨x0, x1, x2, x3, x4, x5⟩ := tcell6 hTk
  have z5 := mfree hTk 5
  go_simp
  clear x0 x1 x2 x3 x4 x5 z5
  replace hT := hT.more (R' := R ++ (filR oi oa i p T)) (by rw [nums_append]; exact hown) HG.out
  replace hB := hB.setT 5 (.slice A3 (N + 1) d3)
  refine hK.out _ _ (⟨(set_far5 (by decide)).trans zH.1, (set_far5 (by decide)).trans zH.2.1, (World.cell?_setCell_far _ _ _ _ htg).trans zH.2.2.1, (World.cell?_setCell_far _ _ _ _ htg).trans zH.2.2.2⟩) (fun zH => ?_)
  clear hK K
  try simp only [Act.put, sA, sB, sC]
  refine dn1 ?_
  have hat2 : (Value.slice A3 (N + 1) d3).ownBlock = (Value.slice Ar N dr).ownBlock ∨ ∀ k, (Value.slice A3 (N + 1) d3).ownBlock = some k → w.heap.size ≤ k := hat.imp id (fun h k e => by rw [h] at e; injection e with e; omega)
  clear zH o0 o1 o2 o3 o4 o5 h0 h1 h2 h3 hown HG hat
  generalize (uv110.setCell ⟨t, 5, none⟩ (.slice A3 (N + 1) d3)) = wf at *
  obtain ⟨o0, o1, o2, o3, o4, o5⟩ := tcell6 hT.tk
  have z3 := mfree hT.tk 3
  go_upto_region 3 with fail
  clear o0 o1 o2 o3 o4 o5 z3
  replace hB := hB.setT 3 (.int .i64 (q - T))
  replace hT := hT.setQ (q - T)
  generalize wf.setCell ⟨t, 3, none⟩ (.int .i64 (q - T)) = wg at *
  obtain ⟨h0, h1, h2, h3⟩ := mcell4 hT.rest
  have z3 := mfree hT.rest 3
  go_wp2_with fail
  go_end0
  exact ⟨⟨_, rfl⟩, _, hT.setC (c - T), hB.setG 3 (.int .i64 (c - T)), hat2⟩
 case stepr106_25 =>
  go_simp
  have hTb := hlT hT.tk
  have hGb := hlT hT.rest
  have hal : Below wa.heap.size wa.drew ((wa.alloc (.cells #[.int .i64 0, .int .i64 3, .int .i64 0, .int .i64 oa, .int .i64 oi, .int .i64 i, .int .i64 p, .int .i64 T] 48)).drew) := (Below.refl wa.drew.heap.size wa.drew).alloc (Nat.le_refl _) (.cells #[.int .i64 0, .int .i64 3, .int .i64 0, .int .i64 oa, .int .i64 oi, .int .i64 i, .int .i64 p, .int .i64 T] 48)
  have hnew := World.news_of_block (show ((wa.alloc (.cells #[.int .i64 0, .int .i64 3, .int .i64 0, .int .i64 oa, .int .i64 oi, .int .i64 i, .int .i64 p, .int .i64 T] 48)).drew).heap[wa.heap.size]? = _ from heap_alloc_new wa (.cells #[.int .i64 0, .int .i64 3, .int .i64 0, .int .i64 oa, .int .i64 oi, .int .i64 i, .int .i64 p, .int .i64 T] 48))
  have hkp := Lib.hid (fun (p : Addr) (hp : p.block < wa.drew.heap.size) => hal.cell hp)
  replace hT := hT.later hal
  replace hB := hB.later hal
  clear hal
  generalize (wa.alloc (.cells #[.int .i64 0, .int .i64 3, .int .i64 0, .int .i64 oa, .int .i64 oi, .int .i64 i, .int .i64 p, .int .i64 T] 48)).drew = ua114 at *
  generalize wa.heap.size = xn at *
  refine hK.out _ _ (⟨(hkp.out ⟨t, 1, none⟩ hTb).trans zH.1, (hkp.out ⟨t, 0, none⟩ hTb).trans zH.2.1, (hkp.out ⟨g, 0, none⟩ hGb).trans zH.2.2.1, (hkp.out ⟨g, 2, none⟩ hGb).trans zH.2.2.2⟩) (fun zH => ?_)
  clear hK K
  try simp only [Act.put, sA, sB, sC]
  refine rd1 4 (fun K hK => ?_)
  obtain ⟨x0, x1, x2, x3, x4, x5⟩ := tcell6 hT.tk
  go_simp
  clear x0 x1 x2 x3 x4 x5
  refine hK.out _ _ (zH) (fun zH => ?_)
  clear hK K
  try simp only [Act.put, sA, sB, sC]
  refine rd1 26 (fun K hK => ?_)
  have hTb := hlT hT.tk
  have hGb := hlT hT.rest
  have hfa := hT.far
  have hlo := hT.recs.lt
  refine sAa _ rfl _ _ 31 rfl base 48 i0 _ 8 64 Tryz.underlying31 hi hz0 hz1 hz2 rfl (by decide) _ _ _ rfl hT.recs ⟨xn, 0, none⟩ 1 1 [.int .i64 0, .int .i64 3, .int .i64 0, .int .i64 oa, .int .i64 oi, .int .i64 i, .int .i64 p, .int .i64 T] rfl rfl hnew (nums_one (filR oi oa i p T)) (by unfold maxLen; omega) (by omega) hT.low ?_
  intro v' uv117 hown hgrow _ hat
  obtain ⟨A3, d3, rfl, _, _⟩ := oSl hown
  have hkp := Lib.hid (fun (p : Addr) (hp : p.block < ua114.heap.size) (hn : some p.block ≠ (Value.slice Ar N dr).ownBlock) => World.cell?_of_block (a := p) (hgrow.block p.block hp hn))
  have hsz := hB.size
  replace hB := hB.grown hgrow (.inl rfl)
  have HG := Lib.hid hgrow
  clear hgrow
  refine hK.out _ _ (⟨(hkp.out ⟨t, 1, none⟩ hTb (fun e => hfa.1 e.symm)).trans zH.1, (hkp.out ⟨t, 0, none⟩ hTb (fun e => hfa.1 e.symm)).trans zH.2.1, (hkp.out ⟨g, 0, none⟩ hGb (fun e => hfa.2 e.symm)).trans zH.2.2.1, (hkp.out ⟨g, 2, none⟩ hGb (fun e => hfa.2 e.symm)).trans zH.2.2.2⟩) (fun zH => ?_)
  clear hK K
  try simp only [Act.put, sA, sB, sC]
  refine tkV 27 ?_
  refine tkV 28 ?_
  refine rd1 29 (fun K hK => ?_)
  have hT0 := hT.tk
  have hfa := hT.far
  have hTk := (HG.out.block t (hlT hT.tk) (fun e => hfa.1 e.symm)).trans hT.tk
  obtain ⟨x0, x1, x2, x3, x4, x5⟩ := tcell6 hTk
  have z5 := mfree hTk 5
  go_simp
  clear x0 x1 x2 x3 x4 x5 z5
  replace hT := hT.more (R' := R ++ (filR oi oa i p T)) (by rw [nums_append]; exact hown) HG.out
  replace hB := hB.setT 5 (.slice A3 (N + 1) d3)
  refine hK.out _ _ (⟨(set_far5 (by decide)).trans zH.1, (set_far5 (by decide)).trans zH.2.1, (World.cell?_setCell_far _ _ _ _ htg).trans zH.2.2.1, (World.cell?_setCell_far _ _ _ _ htg).trans zH.2.2.2⟩) (fun zH => ?_)
  clear hK K
  try simp only [Act.put, sA, sB, sC]
  refine dn1 ?_
  have hat2 : (Value.slice A3 (N + 1) d3).ownBlock = (Value.slice Ar N dr).ownBlock ∨ ∀ k, (Value.slice A3 (N + 1) d3).ownBlock = some k → w.heap.size ≤ k := hat.imp id (fun h k e => by rw [h] at e; injection e with e; omega)
  clear zH o0 o1 o2 o3 o4 o5 h0 h1 h2 h3 hown HG hat
  generalize (uv117.setCell ⟨t, 5, none⟩ (.slice A3 (N + 1) d3)) = wf at *
  obtain ⟨o0, o1, o2, o3, o4, o5⟩ := tcell6 hT.tk
  have z3 := mfree hT.tk 3
  go_upto_region 3 with fail
  clear o0 o1 o2 o3 o4 o5 z3
  replace hB := hB.setT 3 (.int .i64 (q - T))
  replace hT := hT.setQ (q - T)
  generalize wf.setCell ⟨t, 3, none⟩ (.int .i64 (q - T)) = wg at *
  obtain ⟨h0, h1, h2, h3⟩ := mcell4 hT.rest
  have z3 := mfree hT.rest 3
  go_wp2_with fail
  go_end0
  exact ⟨⟨_, rfl⟩, _, hT.setC (c - T), hB.setG 3 (.int .i64 (c - T)), hat2⟩
theorem impl_avoid1 (t g base N : Nat) (oi oa op q mode i a p c : Int) (rv : Value) (R : List Int) (w : World) (hT : TkW w t g oi oa op q mode rv base N R i a p c) (hN : N ≤ 900000) (hm : mode = 1) :
 Calls Tryz.prog 119 #[.pointer (some ⟨t, 0, none⟩), .pointer (some ⟨g, 0, none⟩)] w fun e w' => (∃ u, e = .returned u) ∧ ∃ v, TkW w' t g oi oa op 0 mode v base (N + 1) (R ++ canR oi oa op q) i a p c ∧ But w w' t g rv.ownBlock ∧ (v.ownBlock = rv.ownBlock ∨ ∀ k, v.ownBlock = some k → w.heap.size ≤ k) := by
 subst hm
 obtain ⟨o0, o1, o2, o3, o4, o5⟩ := tcell6 hT.tk
 go_enter Tryz.func119, Tryz.ntmps119
 go_wp2_with fail
 clear o0 o1 o2 o3 o4 o5
 refine (impl_cancelO t g base N oi oa op q 1 i a p c rv R w hT (by omega)).mono ?_
 rintro e w1 ⟨⟨u, rfl⟩, v, hT1, hB1, hv1⟩
 go_wp2_with fail
 go_end0
 exact ⟨⟨_, rfl⟩, v, hT1, hB1, hv1⟩
theorem impl_avoid2 (t g base N : Nat) (oi oa op q mode i a p c : Int) (rv : Value) (R : List Int) (w : World) (hT : TkW w t g oi oa op q mode rv base N R i a p c) (hN : N ≤ 900000) (hm : mode = 2) :
 Calls Tryz.prog 119 #[.pointer (some ⟨t, 0, none⟩), .pointer (some ⟨g, 0, none⟩)] w fun e w' => (∃ u, e = .returned u) ∧ ∃ v, TkW w' t g oi oa op q mode v base (N + 1) (R ++ canR i a p c) i a p 0 ∧ But w w' t g rv.ownBlock ∧ (v.ownBlock = rv.ownBlock ∨ ∀ k, v.ownBlock = some k → w.heap.size ≤ k) := by
 subst hm
 obtain ⟨o0, o1, o2, o3, o4, o5⟩ := tcell6 hT.tk
 go_enter Tryz.func119, Tryz.ntmps119
 go_wp2_with fail
 clear o0 o1 o2 o3 o4 o5
 refine (impl_cancelR t g base N oi oa op q 2 i a p c rv R w hT (by omega)).mono ?_
 rintro e w1 ⟨⟨u, rfl⟩, v, hT1, hB1, hv1⟩
 obtain ⟨o0, o1, o2, o3, o4, o5⟩ := tcell6 hT1.tk
 go_wp2_with fail
 go_end0
 exact ⟨⟨_, rfl⟩, v, hT1, hB1, hv1⟩
theorem impl_avoid3 (t g base N : Nat) (oi oa op q mode i a p c : Int) (rv : Value) (R : List Int) (w : World) (hT : TkW w t g oi oa op q mode rv base N R i a p c) (hN : N ≤ 900000) (hm1 : mode ≠ 1) (hm2 : mode ≠ 2) :
 Calls Tryz.prog 119 #[.pointer (some ⟨t, 0, none⟩), .pointer (some ⟨g, 0, none⟩)] w fun e w' => (∃ u, e = .returned u) ∧ ∃ v, TkW w' t g oi oa op 0 mode v base (N + 1 + 1) (R ++ canR i a p c ++ canR oi oa op q) i a p 0 ∧ But w w' t g rv.ownBlock ∧ (v.ownBlock = rv.ownBlock ∨ ∀ k, v.ownBlock = some k → w.heap.size ≤ k) := by
 have t1 : (mode != 1) = true := by simpa using hm1
 have t2 : (mode != 2) = true := by simpa using hm2
 have hW := hT.low
 obtain ⟨o0, o1, o2, o3, o4, o5⟩ := tcell6 hT.tk
 go_enter Tryz.func119, Tryz.ntmps119
 go_wp2_with fail
 clear o0 o1 o2 o3 o4 o5
 refine (impl_cancelR t g base N oi oa op q mode i a p c rv R w hT (by omega)).mono ?_
 rintro e w1 ⟨⟨u, rfl⟩, v, hT1, hB1, hv1⟩
 obtain ⟨o0, o1, o2, o3, o4, o5⟩ := tcell6 hT1.tk
 go_wp2_with fail
 clear o0 o1 o2 o3 o4 o5
 refine (impl_cancelO t g base (N + 1) oi oa op q mode i a p 0 v _ w1 hT1 (by omega)).mono ?_
 rintro e w2 ⟨⟨u2, rfl⟩, v2, hT2, hB2, hv2⟩
 go_wp2_with fail
 go_end0
 exact ⟨⟨_, rfl⟩, v2, hT2, hB1.trans hB2 hv1, hv2.elim (fun h => hv1.imp (fun k => h.trans k) (fun k j e => k j (h.symm.trans e))) (fun h => .inr (fun k e => Nat.le_trans hB1.size (h k e)))⟩
def MeetRel (oi oa op q mode i a p c : Int) (N : Nat) (R : List Int) (q' : Int) (N' : Nat) (R' : List Int) (c' : Int) : Prop :=
 (a = oa ∧ mode = 1 ∧ q' = 0 ∧ N' = N + 1 ∧ R' = R ++ canR oi oa op q ∧ c' = c) ∨ (a = oa ∧ mode = 2 ∧ q' = q ∧ N' = N + 1 ∧ R' = R ++ canR i a p c ∧ c' = 0) ∨ (a = oa ∧ mode ≠ 1 ∧ mode ≠ 2 ∧ q' = 0 ∧ N' = N + 1 + 1 ∧ R' = R ++ canR i a p c ++ canR oi oa op q ∧ c' = 0) ∨
 (a ≠ oa ∧ q' = q - min q c ∧ N' = N + 1 ∧ R' = R ++ filR oi oa i p (min q c) ∧ c' = c - min q c)
theorem impl_meet (t g base N : Nat) (oi oa op q mode i a p c : Int) (rv : Value) (R : List Int) (w : World) (hT : TkW w t g oi oa op q mode rv base N R i a p c) (hN : N ≤ 900000) (q0 : 0 ≤ q) (q1 : q ≤ 1000000) (c0 : 0 ≤ c) (c1 : c ≤ 1000000) :
 Calls Tryz.prog 109 #[.pointer (some ⟨t, 0, none⟩), .pointer (some ⟨g, 0, none⟩)] w fun e w' => (∃ u, e = .returned u) ∧ ∃ v q' N' R' c', MeetRel oi oa op q mode i a p c N R q' N' R' c' ∧ TkW w' t g oi oa op q' mode v base N' R' i a p c' ∧ But w w' t g rv.ownBlock ∧ (v.ownBlock = rv.ownBlock ∨ ∀ k, v.ownBlock = some k → w.heap.size ≤ k) := by
 obtain ⟨o0, o1, o2, o3, o4, o5⟩ := tcell6 hT.tk
 obtain ⟨h0, h1, h2, h3⟩ := mcell4 hT.rest
 have hB := But.refl w t g rv.ownBlock
 go_enter Tryz.func109, Tryz.ntmps109
 by_cases ha : a = oa
 · have HA := Lib.hid ha
   have t1 : (oa == a) = true := by simp [ha]
   clear ha
   go_upto_region 0 with fail
   go_quiet (fail)
   rename Nat => nq
   clear o0 o1 o2 o3 o4 o5 h0 h1 h2 h3
   replace hT : TkW (w.drewN nq) t g oi oa op q mode rv base N R i a p c := ⟨hT.tk, hT.rest, hT.recs, hT.low⟩
   replace hB : But w (w.drewN nq) t g rv.ownBlock := ⟨hB.os, hB.tape, hB.output, hB.size, hB.block⟩
   have hWs : w.heap.size ≤ (w.drewN nq).heap.size := Nat.le_refl _
   generalize w.drewN nq = wa at *
   go_wp2_with fail
   by_cases hm1 : mode = 1
   · refine (impl_avoid1 t g base N oi oa op q mode i a p c rv R wa hT hN hm1).mono ?_
     rintro e w1 ⟨⟨u, rfl⟩, v, hT1, hB1, hv1⟩
     go_wp2_with fail
     go_end0
     exact ⟨⟨_, rfl⟩, v, _, _, _, _, .inl ⟨HA.out, hm1, rfl, rfl, rfl, rfl⟩, hT1, hB.trans hB1 (.inl rfl), hv1.imp id (fun h k e => Nat.le_trans hWs (h k e))⟩
   · by_cases hm2 : mode = 2
     · refine (impl_avoid2 t g base N oi oa op q mode i a p c rv R wa hT hN hm2).mono ?_
       rintro e w1 ⟨⟨u, rfl⟩, v, hT1, hB1, hv1⟩
       go_wp2_with fail
       go_end0
       exact ⟨⟨_, rfl⟩, v, _, _, _, _, .inr (.inl ⟨HA.out, hm2, rfl, rfl, rfl, rfl⟩), hT1, hB.trans hB1 (.inl rfl), hv1.imp id (fun h k e => Nat.le_trans hWs (h k e))⟩
     · refine (impl_avoid3 t g base N oi oa op q mode i a p c rv R wa hT hN hm1 hm2).mono ?_
       rintro e w1 ⟨⟨u, rfl⟩, v, hT1, hB1, hv1⟩
       go_wp2_with fail
       go_end0
       exact ⟨⟨_, rfl⟩, v, _, _, _, _, .inr (.inr (.inl ⟨HA.out, hm1, hm2, rfl, rfl, rfl, rfl⟩)), hT1, hB.trans hB1 (.inl rfl), hv1.imp id (fun h k e => Nat.le_trans hWs (h k e))⟩
 · have HA := Lib.hid ha
   have t1 : (oa == a) = false := beq_eq_false_iff_ne.2 (fun e => ha e.symm)
   clear ha
   go_upto_region 0 with fail
   go_quiet (fail)
   rename Nat => nq
   clear o0 o1 o2 o3 o4 o5 h0 h1 h2 h3
   replace hT : TkW (w.drewN nq) t g oi oa op q mode rv base N R i a p c := ⟨hT.tk, hT.rest, hT.recs, hT.low⟩
   replace hB : But w (w.drewN nq) t g rv.ownBlock := ⟨hB.os, hB.tape, hB.output, hB.size, hB.block⟩
   have hWs : w.heap.size ≤ (w.drewN nq).heap.size := Nat.le_refl _
   generalize w.drewN nq = wa at *
   go_wp2_with fail
   refine (impl_trade t g base N oi oa op q mode i a p c _ rv R wa hT (by omega) rfl q0 q1 c0 c1).mono ?_
   rintro e w1 ⟨⟨u, rfl⟩, v, hT1, hB1, hv1⟩
   go_wp2_with fail
   go_end0
   exact ⟨⟨_, rfl⟩, v, _, _, _, _, .inr (.inr (.inr ⟨HA.out, rfl, rfl, rfl, rfl⟩)), hT1, hB.trans hB1 (.inl rfl), hv1.imp id (fun h k e => Nat.le_trans hWs (h k e))⟩
end Go.Proofs.YtgjjdnojiegidaaGreatDoor
