/-
  DelFuncA, SelA, DropA.
-/
import Derived.Test.YtdjmejjponlfoabDelA
import Derived.Test.YtdjmejjponlfoabDelFunc
import Derived.Test.YtdjmejjponlfoabTake
import Derived.Lib.SliceRun
import Derived.Lib.LazyBuf
import Derived.Test.YtdjmejjponlfoabDrop
import Derived.Test.YtdjmejjponlfoabBookClosed
namespace Go.Proofs.Ytdjmejjponlfoab
open Go.RowKit Wire

/-- the block of the q-th order that is left among the first k -/
def selA (zs : List Int) (id : Int) (gs : Nat → Nat) : Nat → Nat → Nat
  | 0 => fun _ => 0
  | k + 1 => if num zs (k * 4 + 1) = id then selA zs id gs k else fun q => if q = tkNA zs id k then gs k else selA zs id gs k q
theorem tk_allA {zs : List Int} {id : Int} {gs : Nat → Nat} : ∀ k, (∀ j, j < k → idNA zs j ≠ id) → tkNA zs id k = k ∧ ∀ q, q < k → selA zs id gs k q = gs q
  | 0, _ => ⟨rfl, fun q h => absurd h (Nat.not_lt_zero q)⟩
  | k + 1, h => by
    obtain ⟨h1, h2⟩ := tk_allA (gs := gs) k (fun j hj => h j (by omega))
    have hk : ¬ num zs (k * 4 + 1) = id := h k (by omega)
    refine ⟨by rw [tkNA, if_neg hk, h1], fun q hq => ?_⟩
    rw [selA, if_neg hk]
    by_cases hqk : q = tkNA zs id k
    · rw [if_pos hqk, hqk, h1]
    · rw [if_neg hqk]
      exact h2 q (by omega)
set_option linter.unusedSimpArgs false in
set_option maxHeartbeats 3200000 in
set_option maxRecDepth 100000 in
theorem impl_DeleteFuncA (X S L n J : Nat) (side id : Int) (zs : List Int) (v : Value) (gs : Nat → Nat) (w : World) (hop : Opened w X S L 2 110 83 (.func (.func 103) #[] #[.pointer (some ⟨S, 0, none⟩)]) side zs n v gs) (hcp : Copies w X S L 28 zs n v gs) (hn : n ≤ 1048576) (hJ : w.cell? ⟨J, 0, none⟩ = some (.int .i64 id)) (hJs : J < w.heap.size) (hJv : some J ≠ v.ownBlock) :
    Calls Try.prog 87 #[v, .func (.func 60) #[] #[.pointer (some ⟨J, 0, none⟩)]] w fun e w' => (∃ v', e = .returned v' ∧ w'.ownsRow X 83 1 v' (tkNA zs id n) (ptrs (selA zs id gs n) (tkNA zs id n)) ∧ v'.ownBlock = v.ownBlock) ∧ w.grownBy w' v.ownBlock := by
  obtain ⟨A1, d1, rfl, hnd, hdm⟩ := own_slice hop.own
  go_enter Try.func87, Try.ntmps87
  go_wp2_with fail
  refine (impl_IndexFuncA X S L n J side id zs _ gs w hop hcp hn hJ hJs).mono ?_
  rintro e w1 ⟨⟨z, hz, rfl⟩, hb1⟩
  rcases hz with ⟨rfl, hno⟩ | ⟨k0, hk0, rfl, hit, hbefore⟩
  · have HT := Lib.hid (tk_allA (gs := gs) n hno)
    clear hno
    have hown := own_below hop.own hb1
    go_wp2_with fail
    go_ret
    exact ⟨⟨_, rfl, by rw [HT.out.1, ptrs_congr n HT.out.2]; exact hown, rfl⟩, grown_below hb1⟩
  · have HI := Lib.hid hit
    have HT := Lib.hid (tk_allA (gs := gs) k0 hbefore)
    clear hit hbefore
    obtain ⟨g, cap, hg, _, _⟩ := hop.own.form (by omega)
    injection hg with hg1 hg2 hg3
    subst hg1 hg3
    have t0 : ((k0 : Int) == -1) = false := beq_eq_false_iff_ne.2 (by omega)
    have hT1 : tkNA zs id (k0 + 1) = k0 := by rw [tkNA, if_pos (show num zs (k0 * 4 + 1) = id from HI.out), HT.out.1]
    have hS1 : ∀ q, q < k0 → selA zs id gs (k0 + 1) q = gs q := fun q hq => by rw [selA, if_pos (show num zs (k0 * 4 + 1) = id from HI.out)]; exact HT.out.2 q hq
    obtain ⟨F0, hrow0, hF0⟩ : ∃ F, w.rowIs g 83 d1 F ∧ ∀ q, q < n → F q = .pointer (some ⟨gs q, 0, none⟩) := by
      rcases hop.own.2 with ⟨h0, _⟩ | ⟨g', cap', cur, e', _, hheap, _, _, hcs, _⟩
      · cases h0
      · injection e' with e1 _ e3
        injection e1 with e1
        injection e1 with e1
        subst e1 e3
        have hr : w.rowIs g 83 d1 (fun q => cur[q]?.getD (.pointer none)) := ⟨cur, hheap, by omega, fun i hi => by simp [show i < cur.size by omega]⟩
        refine ⟨_, hr, fun q hq => ?_⟩
        have h1 := hop.own.cells (g := g) rfl q _ (ptrs_at gs n q hq)
        rw [add0 g] at h1
        have h2 := hr.cell (i := q) (by omega)
        rw [h1] at h2
        injection h2 with h2
        exact h2.symm
    have hgX : X ≤ g := (hop.own.lt g rfl).1
    have H1 := Lib.hid hT1
    have H2 := Lib.hid hS1
    have HF := Lib.hid hF0
    have hrow1 := hrow0.of_block (hb1.block g hrow0.lt)
    clear hT1 hS1 hF0
    go_wp2_with fail
    go_loopw [5, 6] (fun iv jv wr => ∃ (k : Nat) (F : Nat → Value), k ≤ n ∧ jv = .int .i64 (k : Int) ∧ iv = .int .i64 ((tkNA zs id k : Nat) : Int) ∧ tkNA zs id k < k ∧ wr.rowIs g 83 d1 F ∧ (∀ q, q < tkNA zs id k → F q = .pointer (some ⟨selA zs id gs k q, 0, none⟩)) ∧ (∀ q, k ≤ q → q < n → F q = .pointer (some ⟨gs q, 0, none⟩)) ∧ w.grownBy wr (some g)) (fun _ jv _ => n - (intOf jv).toNat)
    case atStart => exact ⟨k0 + 1, F0, by omega, by go_num, by rw [H1.out], by rw [H1.out]; omega, hrow1, fun q hq => by rw [H1.out] at hq; rw [H2.out q hq]; exact HF.out q (by omega), fun q _ hq => HF.out q hq, grown_below hb1⟩
    case round =>
      clear hrow1 hb1
      obtain ⟨k, F, hk, rfl, rfl, htk, hrow, hA, hB, hgr⟩ := hrel
      have HA := Lib.hid hA
      have HBq := Lib.hid hB
      clear hA hB
      have HT1 := Lib.hid (show tkNA zs id (k + 1) = if num zs (k * 4 + 1) = id then tkNA zs id k else tkNA zs id k + 1 from rfl)
      have HS1 := Lib.hid (show selA zs id gs (k + 1) = if num zs (k * 4 + 1) = id then selA zs id gs k else fun q => if q = tkNA zs id k then gs k else selA zs id gs k q from rfl)
      generalize hN : tkNA zs id k = N at *
      have HN := Lib.hid hN
      clear hN
      have zf := hrow.frozen
      by_cases hlt : k < n
      · have p0 := hrow.cell (i := k) (by omega)
        rw [HBq.out k (Nat.le_refl _) hlt] at p0
        have cN := hrow.cell (i := N) (by omega)
        have hck := hcp k hlt
        have q0 : wr.cell? ⟨gs k, 1, none⟩ = some (.int .i64 (idNA zs k)) := (hck.2.2.2.2.of_block (hgr.block (gs k) hck.2.2.2.2.lt hck.2.2.2.1)).cell (i := 1) (by omega)
        have j0 := hgr.cell hJ hJv
        clear hck
        go_wp2_with fail
        refine (impl_isIdA (gs k) J (idNA zs k) id wr j0 q0).mono ?_
        rcases Bool.eq_false_or_eq_true (idNA zs k == id) with hy | hy
        · have HX := Lib.hid (show num zs (k * 4 + 1) = id from beq_iff_eq.1 hy)
          rw [hy]
          rintro e w5 ⟨rfl, hb5⟩
          have HR := Lib.hid (hrow.of_block (hb5.block g hrow.lt))
          have HG := Lib.hid (hgr.trans (grown_below hb5))
          clear hb5 hy hrow hgr p0 q0 j0 cN zf
          go_wp2_with fail
          go_roundw
          case rel => exact ⟨k + 1, F, by omega, by go_num, by rw [HT1.out, if_pos HX.out], by rw [HT1.out, if_pos HX.out]; omega, HR.out, fun q hq => by rw [HT1.out, if_pos HX.out] at hq; rw [HS1.out, if_pos HX.out]; exact HA.out q hq, fun q h1 h2 => HBq.out q (by omega) h2, HG.out⟩
          case measure => simp [intOf]; omega
        · have hy' : ¬ idNA zs k = id := by simpa using hy
          have HX := Lib.hid (show ¬ num zs (k * 4 + 1) = id from hy')
          clear hy'
          rw [hy]
          rintro e w5 ⟨rfl, hb5⟩
          have hrow5 := hrow.of_block (hb5.block g hrow.lt)
          have HR := Lib.hid (hrow5.set N (.pointer (some ⟨gs k, 0, none⟩)))
          have HG := Lib.hid ((hgr.trans (grown_below hb5)).trans (set_grown w5 g N (.pointer (some ⟨gs k, 0, none⟩))))
          have cN5 := hrow5.cell (i := N) (by omega)
          have zf5 := hrow5.frozen
          clear hb5 hy hrow hgr p0 q0 j0 cN zf hrow5
          go_wp2_with fail
          go_roundw
          case rel => exact ⟨k + 1, _, by omega, by go_num, by rw [HT1.out, if_neg HX.out]; go_num, by rw [HT1.out, if_neg HX.out]; omega, HR.out, fun q hq => by
            rw [HT1.out, if_neg HX.out] at hq
            rw [HS1.out, if_neg HX.out]
            by_cases hqN : q = N
            · rw [if_pos hqN, if_pos hqN]
            · rw [if_neg hqN, if_neg hqN]
              exact HA.out q (by omega), fun q h1 h2 => by
            rw [if_neg (by omega)]
            exact HBq.out q (by omega) h2, HG.out⟩
          case measure => simp [intOf]; omega
      · obtain rfl : n = k := by omega
        have hcl : ∀ ty, (Builtin.clear_ #[107] ty #[.slice (some ⟨g, N, none⟩) (n - N) (d1 - N)]).run Try.prog wr = .ok (.tuple #[]) (wr.setCells g N (List.replicate (n - N) (.pointer none))) :=
          fun ty => Lib.run_clear_slice wr _ _ ty (.pointer none) Try.underlying107 ptr_zero rfl rfl g N _ _ (by omega) (fun j hj => by rw [hrow.cell (i := N + j) (by omega)]; rfl) (fun j hj => hrow.frozen (N + j))
        have HR := Lib.hid (rowIs_setCells (List.replicate (n - N) (.pointer none)) N wr F hrow)
        have HG := Lib.hid (hgr.trans (sets_grown g (List.replicate (n - N) (.pointer none)) N wr))
        go_wp2_with (simp only [hcl])
        go_ret
        have hlen := ptrs_len (selA zs id gs n) N
        refine ⟨⟨_, rfl, ?_, rfl⟩, HG.out⟩
        rw [HN.out]
        exact own_of_row HR.out hgX (by omega) hdm hlen (fun q hq => by
          rw [ptrs_at _ _ q hq, if_neg (by omega), HA.out q hq])
end Go.Proofs.Ytdjmejjponlfoab

namespace Go.Proofs.Ytdjmejjponlfoab
open Go.RowKit Wire

theorem tkZ_lenA (zs : List Int) (id : Int) : ∀ n, (tkZA zs id n).length = tkNA zs id n * 4
  | 0 => rfl
  | n + 1 => by
    have ih := tkZ_lenA zs id n
    rw [tkZA, tkNA]
    split
    · exact ih
    · rw [List.length_append, ih]
      simp
      omega
theorem tk_atA (zs : List Int) (id : Int) (gs : Nat → Nat) : ∀ n q, q < tkNA zs id n → ∃ k, k < n ∧ selA zs id gs n q = gs k ∧ ∀ j, j < 4 → num (tkZA zs id n) (q * 4 + j) = num zs (k * 4 + j)
  | 0, q, h => absurd h (Nat.not_lt_zero q)
  | n + 1, q, h => by
    have hl := tkZ_lenA zs id n
    by_cases hid : num zs (n * 4 + 1) = id
    · rw [tkNA, if_pos hid] at h
      obtain ⟨k, h1, h2, h3⟩ := tk_atA zs id gs n q h
      rw [selA, if_pos hid, tkZA, if_pos hid]
      exact ⟨k, by omega, h2, h3⟩
    · rw [tkNA, if_neg hid] at h
      rw [selA, if_neg hid, tkZA, if_neg hid]
      by_cases hq : q = tkNA zs id n
      · subst hq
        refine ⟨n, by omega, if_pos rfl, fun j hj => ?_⟩
        unfold num
        rw [List.getD_eq_getElem?_getD, List.getElem?_append_right (by omega), hl, Nat.add_sub_cancel_left]
        rcases (show j = 0 ∨ j = 1 ∨ j = 2 ∨ j = 3 from by omega) with rfl | rfl | rfl | rfl <;> rfl
      · obtain ⟨k, h1, h2, h3⟩ := tk_atA zs id gs n q (by omega)
        refine ⟨k, by omega, (if_neg hq).trans h2, fun j hj => ?_⟩
        rw [← h3 j hj]
        unfold num
        rw [List.getD_eq_getElem?_getD, List.getElem?_append_left (by omega), ← List.getD_eq_getElem?_getD]
theorem Copies.leftA {w : World} {X S L : Nat} {T : TypeId} {zs : List Int} {n : Nat} {v v' : Value} {gs : Nat → Nat} (h : Copies w X S L T zs n v gs) (id : Int) (hv : v'.ownBlock = v.ownBlock) : Copies w X S L T (tkZA zs id n) (tkNA zs id n) v' (selA zs id gs n) := fun q hq => by
  obtain ⟨k, h1, h2, h3⟩ := tk_atA zs id gs n q hq
  obtain ⟨c1, c2, c3, c4, c5⟩ := h k h1
  rw [h2, hv]
  exact ⟨c1, c2, c3, c4, c5.congr (fun j hj => by simp only [numAt]; rw [h3 j hj])⟩
end Go.Proofs.Ytdjmejjponlfoab

namespace Go.Proofs.Ytdjmejjponlfoab
open Go.RowKit Wire

set_option linter.unusedSimpArgs false in
set_option maxHeartbeats 1600000 in
set_option maxRecDepth 100000 in
theorem impl_dropA (X1 S1 L1 X2 S2 L2 n m J : Nat) (v1 v2 : Value) (gs1 gs2 : Nat → Nat) (id : Int) (za zb : List Int) (w : World) (hp1 : Opened w X1 S1 L1 2 110 83 (.func (.func 103) #[] #[.pointer (some ⟨S1, 0, none⟩)]) 1 za n v1 gs1 ∧ Copies w X1 S1 L1 28 za n v1 gs1) (hp2 : Opened w X2 S2 L2 2 110 83 (.func (.func 103) #[] #[.pointer (some ⟨S2, 0, none⟩)]) 2 zb m v2 gs2 ∧ Copies w X2 S2 L2 28 zb m v2 gs2) (hn : n ≤ 1048576) (hm : m ≤ 1048576) (hJ : w.cell? ⟨J, 0, none⟩ = some (.int .i64 id)) (hJX : J < X1) (hX : X1 ≤ X2) (hfar : S1 < X2 ∧ L1 < X2 ∧ (∀ q, v1.ownBlock = some q → q < X2) ∧ ∀ k, k < n → gs1 k < X2) :
    Calls Try.prog 50 #[.agg #[.pointer (some ⟨L1, 0, none⟩), .pointer (some ⟨L2, 0, none⟩)], .func (.func 60) #[] #[.pointer (some ⟨J, 0, none⟩)]] w fun e w' => (∃ u, e = .returned u) ∧ ∃ u1 u2, (Opened w' X1 S1 L1 2 110 83 (.func (.func 103) #[] #[.pointer (some ⟨S1, 0, none⟩)]) 1 (tkZA za id n) (tkNA za id n) u1 (selA za id gs1 n) ∧ Copies w' X1 S1 L1 28 (tkZA za id n) (tkNA za id n) u1 (selA za id gs1 n)) ∧ (Opened w' X2 S2 L2 2 110 83 (.func (.func 103) #[] #[.pointer (some ⟨S2, 0, none⟩)]) 2 (tkZA zb id m) (tkNA zb id m) u2 (selA zb id gs2 m) ∧ Copies w' X2 S2 L2 28 (tkZA zb id m) (tkNA zb id m) u2 (selA zb id gs2 m)) ∧ Below X1 w w' ∧ ∀ i, i < w.heap.size → i ≠ L1 → i ≠ L2 → some i ≠ v1.ownBlock → some i ≠ v2.ownBlock → w'.heap[i]? = w.heap[i]? := by
  obtain ⟨hop1, hcp1⟩ := hp1
  obtain ⟨hop2, hcp2⟩ := hp2
  obtain ⟨hf1, hf2, hf3, hf4⟩ := hfar
  have hb0 : Below w.heap.size w (w.alloc (.cells #[.pointer (some ⟨L1, 0, none⟩), .pointer (some ⟨L2, 0, none⟩)] 75)) := (Below.refl _ _).alloc (Nat.le_refl _) _
  have k0 := heap_alloc_new w (.cells #[.pointer (some ⟨L1, 0, none⟩), .pointer (some ⟨L2, 0, none⟩)] 75)
  have p0 := cell_of_row _ w.heap.size 0 _ _ (0, 0) k0
  have p1 := cell_of_row _ w.heap.size 1 _ _ (0, 0) k0
  have hopA := hop1.below hb0
  have hcpA := hcp1.below hb0
  have hopB := hop2.below hb0
  have hcpB := hcp2.below hb0
  have hJ0 := (hb0.cell (p := ⟨J, 0, none⟩) (Nat.lt_of_lt_of_le hJX (Nat.le_of_lt (Nat.lt_of_le_of_lt hop1.low.1 (heap_lt hop1.side))))).trans hJ
  go_enter Try.func50, Try.ntmps50
  go_upto_region 1 with fail
  generalize (w.alloc (.cells #[.pointer (some ⟨L1, 0, none⟩), .pointer (some ⟨L2, 0, none⟩)] 75)) = w0 at *
  simp at p0 p1
  have hJs : J < w0.heap.size := Nat.lt_of_lt_of_le hJX (Nat.le_of_lt (Nat.lt_of_le_of_lt hopA.low.1 (heap_lt hopA.side)))
  have hws : w.heap.size < w0.heap.size := heap_lt k0
  have hb1 : Below X1 w w0 := hb0.mono (Nat.le_trans hop1.low.1 (Nat.le_of_lt (heap_lt hop1.side)))
  have hL1w : w.heap.size ≠ L1 := fun e => by have := heap_lt hop1.list; omega
  have hL2w : w.heap.size ≠ L2 := fun e => by have := heap_lt hop2.list; omega
  have hJb1 : some w.heap.size ≠ v1.ownBlock := fun e => by have := (hop1.own.lt _ e.symm).2; omega
  have hJb2 : some w.heap.size ≠ v2.ownBlock := fun e => by have := (hop2.own.lt _ e.symm).2; omega
  have hJv1 : some J ≠ v1.ownBlock := fun e => by have := (hop1.own.lt _ e.symm).1; omega
  have hJv2 : some J ≠ v2.ownBlock := fun e => by have := (hop2.own.lt _ e.symm).1; omega
  have hWL1 : L1 ≠ w.heap.size := fun e => hL1w e.symm
  have hWL2 : L2 ≠ w.heap.size := fun e => hL2w e.symm
  have hXs : X1 ≤ w0.heap.size := Nat.le_trans hopA.low.1 (Nat.le_of_lt (heap_lt hopA.side))
  have hk0 : ∀ i, i < w.heap.size → w0.heap[i]? = w.heap[i]? := fun i hi => hb0.block i hi
  clear hop1 hcp1 hop2 hcp2 hb0 k0 hJ
  have hJ := hJ0
  have hop1 := hopA
  have hcp1 := hcpA
  clear hopA hcpA hJ0
  refine wp_region_held_drew (S := (fun w' => w'.cell? ⟨w.heap.size, 0, none⟩ = some (.pointer (some ⟨L1, 0, none⟩)) ∧ w'.cell? ⟨w.heap.size, 1, none⟩ = some (.pointer (some ⟨L2, 0, none⟩)))) (by kernel_rfl) ?hSr1 (fun hHeld => ?restr1)
  case hSr1 => exact ⟨p0, p1⟩
  refine wpAnyH_take (i := 0) (oi := ?oid1) (v := ?vd1) ?hid1 (by kernel_rfl) (by kernel_rfl) (by kernel_rfl) ?hQd1 (Or.inl ⟨?hwd1, ?hyd1⟩) (by assumption) ?restd1
  case hid1 => simp only [List.getElem?_toArray, List.getElem?_cons_succ, List.getElem?_cons_zero]; exact rfl
  case hQd1 => exact fun _ _ _ h => h
  case hwd1 => rfl
  case hyd1 => ((intro w hSw; (try dsimp only at hSw); go_simp) <;> with_reducible rfl)
  try simp only [Act.put, List.setIfInBounds_toArray, List.set_cons_zero, List.set_cons_succ]
  refine wpAnyH_take (i := 1) (oi := ?oid2) (v := ?vd2) ?hid2 (by kernel_rfl) (by kernel_rfl) (by kernel_rfl) ?hQd2 (Or.inl ⟨?hwd2, ?hyd2⟩) (by assumption) ?restd2
  case hid2 => simp only [List.getElem?_toArray, List.getElem?_cons_succ, List.getElem?_cons_zero]; exact rfl
  case hQd2 => exact fun _ _ _ h => h
  case hwd2 => rfl
  case hyd2 => ((intro w hSw; (try dsimp only at hSw); go_simp) <;> with_reducible rfl)
  try simp only [Act.put, List.setIfInBounds_toArray, List.set_cons_zero, List.set_cons_succ]
  refine wpAnyH_take (i := 2) (oi := ?oid3) (v := ?vd3) ?hid3 (by kernel_rfl) (by kernel_rfl) (by kernel_rfl) ?hQd3 (Or.inl ⟨?hwd3, ?hyd3⟩) (by assumption) ?restd3
  case hid3 => simp only [List.getElem?_toArray, List.getElem?_cons_succ, List.getElem?_cons_zero]; exact rfl
  case hQd3 => exact fun _ _ _ h => h
  case hwd3 => rfl
  case hyd3 => ((intro w hSw; (try dsimp only at hSw); go_simp) <;> with_reducible rfl)
  try simp only [Act.put, List.setIfInBounds_toArray, List.set_cons_zero, List.set_cons_succ]
  refine wpAnyH_take (i := 3) (oi := ?oid4) (v := ?vd4) ?hid4 (by kernel_rfl) (by kernel_rfl) (by kernel_rfl) ?hQd4 (Or.inl ⟨?hwd4, ?hyd4⟩) (by assumption) ?restd4
  case hid4 => simp only [List.getElem?_toArray, List.getElem?_cons_succ, List.getElem?_cons_zero]; exact rfl
  case hQd4 => exact fun _ _ _ h => h
  case hwd4 => rfl
  case hyd4 => ((intro w hSw; (try dsimp only at hSw); go_simp) <;> with_reducible rfl)
  try simp only [Act.put, List.setIfInBounds_toArray, List.set_cons_zero, List.set_cons_succ]
  refine wpAnyH_take (i := 4) (oi := ?oid5) (v := ?vd5) ?hid5 (by kernel_rfl) (by kernel_rfl) (by kernel_rfl) ?hQd5 (Or.inl ⟨?hwd5, ?hyd5⟩) (by assumption) ?restd5
  case hid5 => simp only [List.getElem?_toArray, List.getElem?_cons_succ, List.getElem?_cons_zero]; exact rfl
  case hQd5 => exact fun _ _ _ h => h
  case hwd5 => rfl
  case hyd5 => ((intro w hSw; (try dsimp only at hSw); go_simp) <;> with_reducible rfl)
  try simp only [Act.put, List.setIfInBounds_toArray, List.set_cons_zero, List.set_cons_succ]
  refine wpAnyH_take (i := 5) (oi := ?oid6) (v := ?vd6) ?hid6 (by kernel_rfl) (by kernel_rfl) (by kernel_rfl) ?hQd6 (Or.inl ⟨?hwd6, ?hyd6⟩) (by assumption) ?restd6
  case hid6 => simp only [List.getElem?_toArray, List.getElem?_cons_succ, List.getElem?_cons_zero]; exact rfl
  case hQd6 => exact fun _ _ _ h => h
  case hwd6 => rfl
  case hyd6 => ((intro w hSw; (try dsimp only at hSw); go_simp) <;> with_reducible rfl)
  try simp only [Act.put, List.setIfInBounds_toArray, List.set_cons_zero, List.set_cons_succ]
  refine wpAnyH_take (i := 7) (oi := ?oid7) (v := ?vd7) ?hid7 (by kernel_rfl) (by kernel_rfl) (by kernel_rfl) ?hQd7 (Or.inl ⟨?hwd7, ?hyd7⟩) (by assumption) ?restd7
  case hid7 => simp only [List.getElem?_toArray, List.getElem?_cons_succ, List.getElem?_cons_zero]; exact rfl
  case hQd7 => exact fun _ _ _ h => h
  case hwd7 => rfl
  case hyd7 => ((intro w hSw; (try dsimp only at hSw); go_simp) <;> with_reducible rfl)
  try simp only [Act.put, List.setIfInBounds_toArray, List.set_cons_zero, List.set_cons_succ]
  have hl1 := cell_of_row _ L1 0 _ _ (0, 0) hop1.drew.list
  simp only [List.getElem?_toArray, List.getElem?_cons_zero] at hl1
  refine wpAnyH_ready (rs := [6]) (by kernel_rfl) (by simp) ?_
  refine AllReadyH.cons (o := ?od8) ?hod8 (fun K hK => ?stepd8) ?mored8
  case hod8 => simp only [List.getElem?_toArray, List.getElem?_cons_succ, List.getElem?_cons_zero]; exact rfl
  case mored8 => exact AllReadyH.nil
  go_simp
  refine hK.out _ _ ?hSd8 (fun hHeld => ?restd8)
  case hSd8 => exact hHeld
  clear hK K
  try simp only [Act.put, List.setIfInBounds_toArray, List.set_cons_zero, List.set_cons_succ]
  clear hl1
  refine wpAnyH_ready (rs := [8]) (by kernel_rfl) (by simp) ?_
  refine AllReadyH.cons (o := ?od9) ?hod9 (fun K hK => ?stepd9) ?mored9
  case hod9 => simp only [List.getElem?_toArray, List.getElem?_cons_succ, List.getElem?_cons_zero]; exact rfl
  case mored9 => exact AllReadyH.nil
  go_simp
  go_at_call 87
  refine (impl_DeleteFuncA X1 S1 L1 n J 1 id za v1 gs1 _ hop1.drew hcp1.drew hn hJ hJs hJv1).mono ?_
  rintro e u1 ⟨⟨r1, rfl, hr1, hv1⟩, hg1⟩
  obtain ⟨A1, d1, rfl, _, _⟩ := own_slice hr1
  have hx10 : u1.cell? ⟨w.heap.size, 0, none⟩ = _ := (hg1.cell p0 hJb1)
  have hx11 : u1.cell? ⟨w.heap.size, 1, none⟩ = _ := (hg1.cell p1 hJb1)
  refine hK.out _ _ ?hSd9 (fun hHeld => ?restd9)
  case hSd9 => exact ⟨hx10, hx11⟩
  clear hK K
  try simp only [Act.put, List.setIfInBounds_toArray, List.set_cons_zero, List.set_cons_succ]
  refine wpAnyH_take (i := 9) (oi := ?oid10) (v := ?vd10) ?hid10 (by kernel_rfl) (by kernel_rfl) (by kernel_rfl) ?hQd10 (Or.inl ⟨?hwd10, ?hyd10⟩) (by assumption) ?restd10
  case hid10 => simp only [List.getElem?_toArray, List.getElem?_cons_succ, List.getElem?_cons_zero]; exact rfl
  case hQd10 => exact fun _ _ _ h => h
  case hwd10 => rfl
  case hyd10 => ((intro w hSw; (try dsimp only at hSw); go_simp) <;> with_reducible rfl)
  try simp only [Act.put, List.setIfInBounds_toArray, List.set_cons_zero, List.set_cons_succ]
  refine wpAnyH_take (i := 10) (oi := ?oid11) (v := ?vd11) ?hid11 (by kernel_rfl) (by kernel_rfl) (by kernel_rfl) ?hQd11 (Or.inl ⟨?hwd11, ?hyd11⟩) (by assumption) ?restd11
  case hid11 => simp only [List.getElem?_toArray, List.getElem?_cons_succ, List.getElem?_cons_zero]; exact rfl
  case hQd11 => exact fun _ _ _ h => h
  case hwd11 => rfl
  case hyd11 => ((intro w hSw; (try dsimp only at hSw); go_simp) <;> with_reducible rfl)
  try simp only [Act.put, List.setIfInBounds_toArray, List.set_cons_zero, List.set_cons_succ]
  have hk1 := (hg1.block L1 (heap_lt hop1.drew.list) (fun e => hop1.far.1 e.symm)).trans hop1.drew.list
  have hq1 := cell_of_row _ L1 0 _ _ (0, 0) hk1
  have hf1z := frozen_of_row _ L1 0 _ _ hk1
  simp only [List.getElem?_toArray, List.getElem?_cons_zero] at hq1
  refine wpAnyH_ready (rs := [11]) (by kernel_rfl) (by simp) ?_
  refine AllReadyH.cons (o := ?od12) ?hod12 (fun K hK => ?stepd12) ?mored12
  case hod12 => simp only [List.getElem?_toArray, List.getElem?_cons_succ, List.getElem?_cons_zero]; exact rfl
  case mored12 => exact AllReadyH.nil
  go_simp
  refine hK.out _ _ ?hSd12 (fun hHeld => ?restd12)
  case hSd12 => exact ⟨(World.cell?_setCell_far _ _ _ _ hWL1).trans hHeld.1, (World.cell?_setCell_far _ _ _ _ hWL1).trans hHeld.2⟩
  clear hK K
  try simp only [Act.put, List.setIfInBounds_toArray, List.set_cons_zero, List.set_cons_succ]
  refine wpAnyH_done (by kernel_rfl) ?_ _
  obtain ⟨hop1, hcp1⟩ := drop_one hop1.drew hcp1.drew hg1 hv1 hr1 (hcp1.drew.leftA id hv1)
  have hB := (hopB.drew.kept hg1 (fun q hq => drop_far hopB (hf3 q hq))).kept (set_grown u1 L1 0 (.slice A1 (tkNA za id n) d1)) (fun q hq => drop_far hopB (by injection hq with hq; omega))
  have hC := (hcpB.drew.kept hg1 (fun q hq k hk => by have := (hcpB k hk).1; have := hf3 q hq; omega)).kept (set_grown u1 L1 0 (.slice A1 (tkNA za id n) d1)) (fun q hq k hk => by have := (hcpB k hk).1; injection hq with hq; omega)
  have hJ := (World.cell?_setCell_far u1 ⟨L1, 0, none⟩ ⟨J, 0, none⟩ (.slice A1 (tkNA za id n) d1) (fun e => by have := hop1.low.2.1; have e : L1 = J := e; omega)).trans (hg1.cell (show w0.drew.cell? _ = _ from hJ) hJv1)
  have hz1 : (u1.setCell ⟨L1, 0, none⟩ (.slice A1 (tkNA za id n) d1)).heap.size = u1.heap.size := by simp [World.setCell]
  have hs1 : w0.heap.size ≤ u1.heap.size := hg1.size
  have hJs : J < (u1.setCell ⟨L1, 0, none⟩ (.slice A1 (tkNA za id n) d1)).heap.size := by omega
  have hbX := (hb1.drew.grown hg1 hXs (fun q hq => (hop1.own.lt q (hv1.trans hq)).1)).setCell (p := ⟨L1, 0, none⟩) hop1.low.2.1 (.slice A1 (tkNA za id n) d1)
  have hN1 := Lib.hid hv1
  have HK := Lib.hid (fun (i : Nat) (hi : i < w.heap.size) (h1 : i ≠ L1) (h2 : some i ≠ v1.ownBlock) => (Below.heap_setCell u1 ⟨L1, 0, none⟩ (.slice A1 (tkNA za id n) d1) i h1).trans ((hg1.block i (Nat.lt_trans hi hws) h2).trans (hk0 i hi)))
  have hwy : w.heap.size < (u1.setCell ⟨L1, 0, none⟩ (.slice A1 (tkNA za id n) d1)).heap.size := by omega
  obtain ⟨p0, p1⟩ := hHeld
  clear hopB hcpB hk1 hq1 hf1z hr1 hg1 hx10 hx11 hb1 hv1
  have hXy1 : X1 ≤ (u1.setCell ⟨L1, 0, none⟩ (.slice A1 (tkNA za id n) d1)).heap.size := by omega
  generalize hA1 : (Value.slice A1 (tkNA za id n) d1) = t1 at *
  generalize (u1.setCell ⟨L1, 0, none⟩ t1) = y1 at *
  have hop2 := hB
  have hcp2 := hC
  clear hB hC
  go_upto_region 2 with fail
  refine wp_region_held_drew (S := (fun w' => w'.cell? ⟨w.heap.size, 0, none⟩ = some (.pointer (some ⟨L1, 0, none⟩)) ∧ w'.cell? ⟨w.heap.size, 1, none⟩ = some (.pointer (some ⟨L2, 0, none⟩)))) (by kernel_rfl) ?hSr2 (fun hHeld => ?restr2)
  case hSr2 => exact ⟨p0, p1⟩
  refine wpAnyH_take (i := 0) (oi := ?oid13) (v := ?vd13) ?hid13 (by kernel_rfl) (by kernel_rfl) (by kernel_rfl) ?hQd13 (Or.inl ⟨?hwd13, ?hyd13⟩) (by assumption) ?restd13
  case hid13 => simp only [List.getElem?_toArray, List.getElem?_cons_succ, List.getElem?_cons_zero]; exact rfl
  case hQd13 => exact fun _ _ _ h => h
  case hwd13 => rfl
  case hyd13 => ((intro w hSw; (try dsimp only at hSw); go_simp) <;> with_reducible rfl)
  try simp only [Act.put, List.setIfInBounds_toArray, List.set_cons_zero, List.set_cons_succ]
  refine wpAnyH_take (i := 1) (oi := ?oid14) (v := ?vd14) ?hid14 (by kernel_rfl) (by kernel_rfl) (by kernel_rfl) ?hQd14 (Or.inl ⟨?hwd14, ?hyd14⟩) (by assumption) ?restd14
  case hid14 => simp only [List.getElem?_toArray, List.getElem?_cons_succ, List.getElem?_cons_zero]; exact rfl
  case hQd14 => exact fun _ _ _ h => h
  case hwd14 => rfl
  case hyd14 => ((intro w hSw; (try dsimp only at hSw); go_simp) <;> with_reducible rfl)
  try simp only [Act.put, List.setIfInBounds_toArray, List.set_cons_zero, List.set_cons_succ]
  refine wpAnyH_take (i := 2) (oi := ?oid15) (v := ?vd15) ?hid15 (by kernel_rfl) (by kernel_rfl) (by kernel_rfl) ?hQd15 (Or.inl ⟨?hwd15, ?hyd15⟩) (by assumption) ?restd15
  case hid15 => simp only [List.getElem?_toArray, List.getElem?_cons_succ, List.getElem?_cons_zero]; exact rfl
  case hQd15 => exact fun _ _ _ h => h
  case hwd15 => rfl
  case hyd15 => ((intro w hSw; (try dsimp only at hSw); go_simp) <;> with_reducible rfl)
  try simp only [Act.put, List.setIfInBounds_toArray, List.set_cons_zero, List.set_cons_succ]
  refine wpAnyH_take (i := 3) (oi := ?oid16) (v := ?vd16) ?hid16 (by kernel_rfl) (by kernel_rfl) (by kernel_rfl) ?hQd16 (Or.inl ⟨?hwd16, ?hyd16⟩) (by assumption) ?restd16
  case hid16 => simp only [List.getElem?_toArray, List.getElem?_cons_succ, List.getElem?_cons_zero]; exact rfl
  case hQd16 => exact fun _ _ _ h => h
  case hwd16 => rfl
  case hyd16 => ((intro w hSw; (try dsimp only at hSw); go_simp) <;> with_reducible rfl)
  try simp only [Act.put, List.setIfInBounds_toArray, List.set_cons_zero, List.set_cons_succ]
  refine wpAnyH_take (i := 4) (oi := ?oid17) (v := ?vd17) ?hid17 (by kernel_rfl) (by kernel_rfl) (by kernel_rfl) ?hQd17 (Or.inl ⟨?hwd17, ?hyd17⟩) (by assumption) ?restd17
  case hid17 => simp only [List.getElem?_toArray, List.getElem?_cons_succ, List.getElem?_cons_zero]; exact rfl
  case hQd17 => exact fun _ _ _ h => h
  case hwd17 => rfl
  case hyd17 => ((intro w hSw; (try dsimp only at hSw); go_simp) <;> with_reducible rfl)
  try simp only [Act.put, List.setIfInBounds_toArray, List.set_cons_zero, List.set_cons_succ]
  refine wpAnyH_take (i := 5) (oi := ?oid18) (v := ?vd18) ?hid18 (by kernel_rfl) (by kernel_rfl) (by kernel_rfl) ?hQd18 (Or.inl ⟨?hwd18, ?hyd18⟩) (by assumption) ?restd18
  case hid18 => simp only [List.getElem?_toArray, List.getElem?_cons_succ, List.getElem?_cons_zero]; exact rfl
  case hQd18 => exact fun _ _ _ h => h
  case hwd18 => rfl
  case hyd18 => ((intro w hSw; (try dsimp only at hSw); go_simp) <;> with_reducible rfl)
  try simp only [Act.put, List.setIfInBounds_toArray, List.set_cons_zero, List.set_cons_succ]
  refine wpAnyH_take (i := 7) (oi := ?oid19) (v := ?vd19) ?hid19 (by kernel_rfl) (by kernel_rfl) (by kernel_rfl) ?hQd19 (Or.inl ⟨?hwd19, ?hyd19⟩) (by assumption) ?restd19
  case hid19 => simp only [List.getElem?_toArray, List.getElem?_cons_succ, List.getElem?_cons_zero]; exact rfl
  case hQd19 => exact fun _ _ _ h => h
  case hwd19 => rfl
  case hyd19 => ((intro w hSw; (try dsimp only at hSw); go_simp) <;> with_reducible rfl)
  try simp only [Act.put, List.setIfInBounds_toArray, List.set_cons_zero, List.set_cons_succ]
  have hl2 := cell_of_row _ L2 0 _ _ (0, 0) hop2.drew.list
  simp only [List.getElem?_toArray, List.getElem?_cons_zero] at hl2
  refine wpAnyH_ready (rs := [6]) (by kernel_rfl) (by simp) ?_
  refine AllReadyH.cons (o := ?od20) ?hod20 (fun K hK => ?stepd20) ?mored20
  case hod20 => simp only [List.getElem?_toArray, List.getElem?_cons_succ, List.getElem?_cons_zero]; exact rfl
  case mored20 => exact AllReadyH.nil
  go_simp
  refine hK.out _ _ ?hSd20 (fun hHeld => ?restd20)
  case hSd20 => exact hHeld
  clear hK K
  try simp only [Act.put, List.setIfInBounds_toArray, List.set_cons_zero, List.set_cons_succ]
  clear hl2
  refine wpAnyH_ready (rs := [8]) (by kernel_rfl) (by simp) ?_
  refine AllReadyH.cons (o := ?od21) ?hod21 (fun K hK => ?stepd21) ?mored21
  case hod21 => simp only [List.getElem?_toArray, List.getElem?_cons_succ, List.getElem?_cons_zero]; exact rfl
  case mored21 => exact AllReadyH.nil
  go_simp
  go_at_call 87
  refine (impl_DeleteFuncA X2 S2 L2 m J 2 id zb v2 gs2 _ hop2.drew hcp2.drew hm hJ hJs hJv2).mono ?_
  rintro e u2 ⟨⟨r2, rfl, hr2, hv2⟩, hg2⟩
  obtain ⟨A2, d2, rfl, _, _⟩ := own_slice hr2
  have hx20 : u2.cell? ⟨w.heap.size, 0, none⟩ = _ := (hg2.cell p0 hJb2)
  have hx21 : u2.cell? ⟨w.heap.size, 1, none⟩ = _ := (hg2.cell p1 hJb2)
  refine hK.out _ _ ?hSd21 (fun hHeld => ?restd21)
  case hSd21 => exact ⟨hx20, hx21⟩
  clear hK K
  try simp only [Act.put, List.setIfInBounds_toArray, List.set_cons_zero, List.set_cons_succ]
  refine wpAnyH_take (i := 9) (oi := ?oid22) (v := ?vd22) ?hid22 (by kernel_rfl) (by kernel_rfl) (by kernel_rfl) ?hQd22 (Or.inl ⟨?hwd22, ?hyd22⟩) (by assumption) ?restd22
  case hid22 => simp only [List.getElem?_toArray, List.getElem?_cons_succ, List.getElem?_cons_zero]; exact rfl
  case hQd22 => exact fun _ _ _ h => h
  case hwd22 => rfl
  case hyd22 => ((intro w hSw; (try dsimp only at hSw); go_simp) <;> with_reducible rfl)
  try simp only [Act.put, List.setIfInBounds_toArray, List.set_cons_zero, List.set_cons_succ]
  refine wpAnyH_take (i := 10) (oi := ?oid23) (v := ?vd23) ?hid23 (by kernel_rfl) (by kernel_rfl) (by kernel_rfl) ?hQd23 (Or.inl ⟨?hwd23, ?hyd23⟩) (by assumption) ?restd23
  case hid23 => simp only [List.getElem?_toArray, List.getElem?_cons_succ, List.getElem?_cons_zero]; exact rfl
  case hQd23 => exact fun _ _ _ h => h
  case hwd23 => rfl
  case hyd23 => ((intro w hSw; (try dsimp only at hSw); go_simp) <;> with_reducible rfl)
  try simp only [Act.put, List.setIfInBounds_toArray, List.set_cons_zero, List.set_cons_succ]
  have hk2 := (hg2.block L2 (heap_lt hop2.drew.list) (fun e => hop2.far.1 e.symm)).trans hop2.drew.list
  have hq2 := cell_of_row _ L2 0 _ _ (0, 0) hk2
  have hf2z := frozen_of_row _ L2 0 _ _ hk2
  simp only [List.getElem?_toArray, List.getElem?_cons_zero] at hq2
  refine wpAnyH_ready (rs := [11]) (by kernel_rfl) (by simp) ?_
  refine AllReadyH.cons (o := ?od24) ?hod24 (fun K hK => ?stepd24) ?mored24
  case hod24 => simp only [List.getElem?_toArray, List.getElem?_cons_succ, List.getElem?_cons_zero]; exact rfl
  case mored24 => exact AllReadyH.nil
  go_simp
  refine hK.out _ _ ?hSd24 (fun hHeld => ?restd24)
  case hSd24 => exact ⟨(World.cell?_setCell_far _ _ _ _ hWL2).trans hHeld.1, (World.cell?_setCell_far _ _ _ _ hWL2).trans hHeld.2⟩
  clear hK K
  try simp only [Act.put, List.setIfInBounds_toArray, List.set_cons_zero, List.set_cons_succ]
  refine wpAnyH_done (by kernel_rfl) ?_ _
  have hBop2 := hop2
  have hXy : X1 ≤ y1.heap.size := by omega
  obtain ⟨hop2, hcp2⟩ := drop_one hop2.drew hcp2.drew hg2 hv2 hr2 (hcp2.drew.leftA id hv2)
  have hge : ∀ q, v2.ownBlock = some q → X2 ≤ q := fun q hq => (hBop2.own.lt q hq).1
  have hsel : ∀ k, k < tkNA za id n → selA za id gs1 n k < X2 := fun k hk => by
    obtain ⟨j, hj, he, _⟩ := tk_atA za id gs1 n k hk
    rw [he]
    exact hf4 j hj
  have fr : ∀ q, X2 ≤ q → q ≠ S1 ∧ q ≠ L1 ∧ t1.ownBlock ≠ some q := fun q hq => ⟨by omega, by omega, fun e => by have := hf3 q (hN1.out.symm.trans e); omega⟩
  have hL2X : X2 ≤ L2 := hBop2.low.2.1
  have h1 := (hop1.drew.kept hg2 (fun q hq => fr q (hge q hq))).kept (set_grown u2 L2 0 (.slice A2 (tkNA zb id m) d2)) (fun q hq => fr q (by injection hq with hq; omega))
  have h2 := (hcp1.drew.kept hg2 (fun q hq k hk => by have := hsel k hk; have := hge q hq; omega)).kept (set_grown u2 L2 0 (.slice A2 (tkNA zb id m) d2)) (fun q hq k hk => by have := hsel k hk; injection hq with hq; omega)
  have hfin := (hbX.drew.grown hg2 hXy (fun q hq => Nat.le_trans hX (hge q hq))).setCell (p := ⟨L2, 0, none⟩) (Nat.le_trans hX hL2X) (.slice A2 (tkNA zb id m) d2)
  have HK2 := fun (i : Nat) (hi : i < w.heap.size) (h1 : i ≠ L1) (h2 : i ≠ L2) (h3 : some i ≠ v1.ownBlock) (h4 : some i ≠ v2.ownBlock) => (Below.heap_setCell u2 ⟨L2, 0, none⟩ (.slice A2 (tkNA zb id m) d2) i h2).trans ((hg2.block i (Nat.lt_trans hi hwy) h4).trans (HK.out i hi h1 h3))
  go_wp2_with fail
  go_end0
  exact ⟨⟨_, rfl⟩, _, _, ⟨h1, h2⟩, ⟨hop2, hcp2⟩, hfin, HK2⟩
end Go.Proofs.Ytdjmejjponlfoab
