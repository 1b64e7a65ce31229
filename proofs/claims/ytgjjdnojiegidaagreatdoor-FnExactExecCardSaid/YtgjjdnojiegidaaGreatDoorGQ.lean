/-
 DelQ, DelFuncQ, SelQ, DropQ, OpenedU.
-/
import Derived.Test.YtgjjdnojiegidaaGreatDoorTak
import Derived.Test.YtgjjdnojiegidaaGreatDoorHC
import Derived.Test.YtgjjdnojiegidaaGreatDoorHD
import Derived.Lib.SliceRun
import Derived.Lib.LazyBuf
namespace Go.Proofs.YtgjjdnojiegidaaGreatDoor
open Go.RowKit Wire
set_option maxHeartbeats 3200000
set_option maxRecDepth 100000
set_option linter.unusedSimpArgs false

def tkZQ (zs : List Int) (id : Int) : Nat → List Int
 | 0 => []
 | k + 1 => if num zs (k * 4 + 3) = id then tkZQ zs id k else tkZQ zs id k ++ [num zs (k * 4), num zs (k * 4 + 1), num zs (k * 4 + 2), num zs (k * 4 + 3)]
def tkNQ (zs : List Int) (id : Int) : Nat → Nat
 | 0 => 0
 | k + 1 => if num zs (k * 4 + 3) = id then tkNQ zs id k else tkNQ zs id k + 1
def idNQ (zs : List Int) (k : Nat) : Int := num zs (k * 4 + 3)
theorem tkN_leQ (zs : List Int) (id : Int) : ∀ k, tkNQ zs id k ≤ k
 | 0 => Nat.le_refl _
 | k + 1 => by
  have := tkN_leQ zs id k
  rw [tkNQ]
  split <;> omega

theorem impl_isIdQ (ga : Nat) (x : Int) (w : World) (ha : w.cell? ⟨ga, 3, none⟩ = some (.int .i64 x)) :
 Calls Tryz.prog 110 #[.pointer (some ⟨ga, 0, none⟩)] w fun e w' => e = .returned (.bool (x == 0)) ∧ Below w.heap.size w w' := by
 go_enter Tryz.func110, Tryz.ntmps110
 go_wp2_with fail
 go_ret
 exact ⟨rfl, Below.refl _ _⟩
theorem impl_IndexFuncQ (X S L n : Nat) (side : Int) (zs : List Int) (v : Value) (gs : Nat → Nat) (w : World) (hop : Opened w X S L 2 106 101 (.func (.func 77) #[] #[.pointer (some ⟨S, 0, none⟩)]) side zs n v gs) (hcp : Copies w X S L 65 zs n v gs) (hn : n ≤ 1048576) :
 Calls Tryz.prog 114 #[v, .func (.func 110) #[] #[]] w fun e w' => (∃ z, AtRel (idNQ zs) 0 n z ∧ e = .returned (.int .i64 z)) ∧ Below w.heap.size w w' := by
 obtain ⟨A1, d1, rfl, _, _⟩ := oSl hop.own
 go_enter Tryz.func114, Tryz.ntmps114
 go_wp2_with fail
 go_loopw [8] (fun i wr => ∃ k : Nat, k ≤ n ∧ i = .int .i64 (k : Int) ∧ (∀ j, j < k → idNQ zs j ≠ 0) ∧ Below w.heap.size w wr) (fun i _ => n - (intOf i).toNat)
 case atStart => exact ⟨0, Nat.zero_le _, rfl, fun j hj => absurd hj (Nat.not_lt_zero j), Below.refl _ _⟩
 case round =>
  obtain ⟨k, hk, rfl, hno, hbel⟩ := hrel
  have HN := Lib.hid hno
  clear hno
  by_cases hlt : k < n
  · obtain ⟨g, cap, hg, _, _⟩ := hop.own.form (by omega)
    injection hg with hg1 hg2 hg3
    subst hg1 hg3
    have p0 := (hop.below hbel).own.cells (g := g) rfl k _ (ptrs_at gs n k hlt)
    rw [add0 g] at p0
    have q0 : wr.cell? ⟨gs k, 3, none⟩ = some (.int .i64 (idNQ zs k)) := ((hcp.below hbel) k hlt).2.2.2.2.cell (i := 3) (by omega)
    have hbs := hbel.size
    go_wp2_with fail
    refine (impl_isIdQ (gs k) (idNQ zs k) wr q0).mono ?_
    rcases Bool.eq_false_or_eq_true (idNQ zs k == 0) with hyx | hyx
    · have HX := Lib.hid (beq_iff_eq.1 hyx)
      rw [hyx]
      rintro e w1 ⟨rfl, hb1⟩
      have hbel1 := hbel.trans (hb1.mono hbel.size)
      clear hb1 hbel hyx
      go_wp2_with fail
      go_ret
      exact ⟨⟨_, .inr ⟨k, hlt, rfl, HX.out, HN.out⟩, rfl⟩, hbel1⟩
    · have HX : Hid (idNQ zs k ≠ 0) := Lib.hid (by simpa using hyx)
      rw [hyx]
      rintro e w1 ⟨rfl, hb1⟩
      have hbel1 := hbel.trans (hb1.mono hbel.size)
      clear hb1 hbel hyx
      go_wp2_with fail
      go_roundw
      case rel => exact ⟨k + 1, by omega, by go_num, fun j hj => by
       rcases Nat.lt_or_ge j k with h | h
       · exact HN.out j h
       · obtain rfl : j = k := by omega
         exact HX.out, hbel1⟩
      case measure => simp [intOf]; omega
  · obtain rfl : k = n := by omega
    go_wp2_with fail
    go_ret
    exact ⟨⟨-1, .inl ⟨rfl, HN.out⟩, rfl⟩, hbel⟩
end Go.Proofs.YtgjjdnojiegidaaGreatDoor

namespace Go.Proofs.YtgjjdnojiegidaaGreatDoor
open Go.RowKit Wire
set_option maxHeartbeats 3200000
set_option maxRecDepth 100000
set_option linter.unusedSimpArgs false

def selQ (zs : List Int) (id : Int) (gs : Nat → Nat) : Nat → Nat → Nat
 | 0 => fun _ => 0
 | k + 1 => if num zs (k * 4 + 3) = id then selQ zs id gs k else fun q => if q = tkNQ zs id k then gs k else selQ zs id gs k q
theorem tk_allQ {zs : List Int} {id : Int} {gs : Nat → Nat} : ∀ k, (∀ j, j < k → idNQ zs j ≠ id) → tkNQ zs id k = k ∧ ∀ q, q < k → selQ zs id gs k q = gs q
 | 0, _ => ⟨rfl, fun q h => absurd h (Nat.not_lt_zero q)⟩
 | k + 1, h => by
  obtain ⟨h1, h2⟩ := tk_allQ (gs := gs) k (fun j hj => h j (by omega))
  have hk : ¬ num zs (k * 4 + 3) = id := h k (by omega)
  refine ⟨by rw [tkNQ, if_neg hk, h1], fun q hq => ?_⟩
  rw [selQ, if_neg hk]
  by_cases hqk : q = tkNQ zs id k
  · rw [if_pos hqk, hqk, h1]
  · rw [if_neg hqk]
    exact h2 q (by omega)
theorem impl_DeleteFuncQ (X S L n : Nat) (side : Int) (zs : List Int) (v : Value) (gs : Nat → Nat) (w : World) (hop : Opened w X S L 2 106 101 (.func (.func 77) #[] #[.pointer (some ⟨S, 0, none⟩)]) side zs n v gs) (hcp : Copies w X S L 65 zs n v gs) (hn : n ≤ 1048576) :
 Calls Tryz.prog 102 #[v, .func (.func 110) #[] #[]] w fun e w' => (∃ v', e = .returned v' ∧ w'.ownsRow X 101 1 v' (tkNQ zs 0 n) (ptrs (selQ zs 0 gs n) (tkNQ zs 0 n)) ∧ v'.ownBlock = v.ownBlock) ∧ w.grownBy w' v.ownBlock := by
 obtain ⟨A1, d1, rfl, hnd, hdm⟩ := oSl hop.own
 go_enter Tryz.func102, Tryz.ntmps102
 go_wp2_with fail
 refine (impl_IndexFuncQ X S L n side zs _ gs w hop hcp hn).mono ?_
 rintro e w1 ⟨⟨z, hz, rfl⟩, hb1⟩
 rcases hz with ⟨rfl, hno⟩ | ⟨k0, hk0, rfl, hit, hbefore⟩
 · have HT := Lib.hid (tk_allQ (gs := gs) n hno)
   clear hno
   have hown := oBw hop.own hb1
   go_wp2_with fail
   go_ret
   exact ⟨⟨_, rfl, by rw [HT.out.1, ptrs_congr n HT.out.2]; exact hown, rfl⟩, grown_below hb1⟩
 · have HI := Lib.hid hit
   have HT := Lib.hid (tk_allQ (gs := gs) k0 hbefore)
   clear hit hbefore
   obtain ⟨g, cap, hg, _, _⟩ := hop.own.form (by omega)
   injection hg with hg1 hg2 hg3
   subst hg1 hg3
   have t0 : ((k0 : Int) == -1) = false := beq_eq_false_iff_ne.2 (by omega)
   have hT1 : tkNQ zs 0 (k0 + 1) = k0 := by rw [tkNQ, if_pos (show num zs (k0 * 4 + 3) = 0 from HI.out), HT.out.1]
   have hS1 : ∀ q, q < k0 → selQ zs 0 gs (k0 + 1) q = gs q := fun q hq => by rw [selQ, if_pos (show num zs (k0 * 4 + 3) = 0 from HI.out)]; exact HT.out.2 q hq
   obtain ⟨F0, hrow0, hF0⟩ : ∃ F, w.rowIs g 101 d1 F ∧ ∀ q, q < n → F q = .pointer (some ⟨gs q, 0, none⟩) := by
    rcases hop.own.2 with ⟨h0, _⟩ | ⟨g', cap', cur, e', _, hheap, _, _, hcs, _⟩
    · cases h0
    · injection e' with e1 _ e3
      injection e1 with e1
      injection e1 with e1
      subst e1 e3
      have hr : w.rowIs g 101 d1 (fun q => cur[q]?.getD (.pointer none)) := ⟨cur, hheap, by omega, fun i hi => by simp [show i < cur.size by omega]⟩
      refine ⟨_, hr, fun q hq => ?_⟩
      have h1 := hop.own.cells (g := g) rfl q _ (ptrs_at gs n q hq)
      rw [add0 g] at h1
      have h2 := hr.cell (i := q) (by omega)
      rw [h1] at h2
      injection h2 with h2
      exact h2.symm
   have hgX : X ≤ g := (hop.own.lt g rfl).1
   have H1 := Lib.hid hT1
   have H2 := Lib.hid hS1
   have HF := Lib.hid hF0
   have hrow1 := hrow0.of_block (hb1.block g hrow0.lt)
   clear hT1 hS1 hF0
   go_wp2_with fail
   go_loopw [5, 6] (fun iv jv wr => ∃ (k : Nat) (F : Nat → Value), k ≤ n ∧ jv = .int .i64 (k : Int) ∧ iv = .int .i64 ((tkNQ zs 0 k : Nat) : Int) ∧ tkNQ zs 0 k < k ∧ wr.rowIs g 101 d1 F ∧ (∀ q, q < tkNQ zs 0 k → F q = .pointer (some ⟨selQ zs 0 gs k q, 0, none⟩)) ∧ (∀ q, k ≤ q → q < n → F q = .pointer (some ⟨gs q, 0, none⟩)) ∧ w.grownBy wr (some g)) (fun _ jv _ => n - (intOf jv).toNat)
   case atStart => exact ⟨k0 + 1, F0, by omega, by go_num, by rw [H1.out], by rw [H1.out]; omega, hrow1, fun q hq => by rw [H1.out] at hq; rw [H2.out q hq]; exact HF.out q (by omega), fun q _ hq => HF.out q hq, grown_below hb1⟩
   case round =>
    clear hrow1 hb1
    obtain ⟨k, F, hk, rfl, rfl, htk, hrow, hA, hB, hgr⟩ := hrel
    have HA := Lib.hid hA
    have HBq := Lib.hid hB
    clear hA hB
    have HT1 := Lib.hid (show tkNQ zs 0 (k + 1) = if num zs (k * 4 + 3) = 0 then tkNQ zs 0 k else tkNQ zs 0 k + 1 from rfl)
    have HS1 := Lib.hid (show selQ zs 0 gs (k + 1) = if num zs (k * 4 + 3) = 0 then selQ zs 0 gs k else fun q => if q = tkNQ zs 0 k then gs k else selQ zs 0 gs k q from rfl)
    generalize hN : tkNQ zs 0 k = N at *
    have HN := Lib.hid hN
    clear hN
    have zf := hrow.frozen
    by_cases hlt : k < n
    · have p0 := hrow.cell (i := k) (by omega)
      rw [HBq.out k (Nat.le_refl _) hlt] at p0
      have cN := hrow.cell (i := N) (by omega)
      have hck := hcp k hlt
      have q0 : wr.cell? ⟨gs k, 3, none⟩ = some (.int .i64 (idNQ zs k)) := (hck.2.2.2.2.of_block (hgr.block (gs k) hck.2.2.2.2.lt hck.2.2.2.1)).cell (i := 3) (by omega)
      clear hck
      go_wp2_with fail
      refine (impl_isIdQ (gs k) (idNQ zs k) wr q0).mono ?_
      rcases Bool.eq_false_or_eq_true (idNQ zs k == 0) with hy | hy
      · have HX := Lib.hid (show num zs (k * 4 + 3) = 0 from beq_iff_eq.1 hy)
        rw [hy]
        rintro e w5 ⟨rfl, hb5⟩
        have HR := Lib.hid (hrow.of_block (hb5.block g hrow.lt))
        have HG := Lib.hid (hgr.trans (grown_below hb5))
        clear hb5 hy hrow hgr p0 q0 cN zf
        go_wp2_with fail
        go_roundw
        case rel => exact ⟨k + 1, F, by omega, by go_num, by rw [HT1.out, if_pos HX.out], by rw [HT1.out, if_pos HX.out]; omega, HR.out, fun q hq => by rw [HT1.out, if_pos HX.out] at hq; rw [HS1.out, if_pos HX.out]; exact HA.out q hq, fun q h1 h2 => HBq.out q (by omega) h2, HG.out⟩
        case measure => simp [intOf]; omega
      · have hy' : ¬ idNQ zs k = 0 := by simpa using hy
        have HX := Lib.hid (show ¬ num zs (k * 4 + 3) = 0 from hy')
        clear hy'
        rw [hy]
        rintro e w5 ⟨rfl, hb5⟩
        have hrow5 := hrow.of_block (hb5.block g hrow.lt)
        have HR := Lib.hid (hrow5.set N (.pointer (some ⟨gs k, 0, none⟩)))
        have HG := Lib.hid ((hgr.trans (grown_below hb5)).trans (set_grown w5 g N (.pointer (some ⟨gs k, 0, none⟩))))
        have cN5 := hrow5.cell (i := N) (by omega)
        have zf5 := hrow5.frozen
        clear hb5 hy hrow hgr p0 q0 cN zf hrow5
        go_wp2_with fail
        go_roundw
        case rel => exact ⟨k + 1, _, by omega, by go_num, by rw [HT1.out, if_neg HX.out]; go_num, by rw [HT1.out, if_neg HX.out]; omega, HR.out, fun q hq => by
         rw [HT1.out, if_neg HX.out] at hq
         rw [HS1.out, if_neg HX.out]
         by_cases hqN : q = N
         · rw [if_pos hqN, if_pos hqN]
         · rw [if_neg hqN, if_neg hqN]
           exact HA.out q (by omega), fun q h1 h2 => by
         rw [if_neg (by omega)]
         exact HBq.out q (by omega) h2, HG.out⟩
        case measure => simp [intOf]; omega
    · obtain rfl : n = k := by omega
      have hcl : ∀ ty, (Builtin.clear_ #[103] ty #[.slice (some ⟨g, N, none⟩) (n - N) (d1 - N)]).run Tryz.prog wr = .ok (.tuple #[]) (wr.setCells g N (List.replicate (n - N) (.pointer none))) :=
       fun ty => Lib.run_clear_slice wr _ _ ty (.pointer none) Tryz.underlying103 ptr_zero rfl rfl g N _ _ (by omega) (fun j hj => by rw [hrow.cell (i := N + j) (by omega)]; rfl) (fun j hj => hrow.frozen (N + j))
      have HR := Lib.hid (rowIs_setCells (List.replicate (n - N) (.pointer none)) N wr F hrow)
      have HG := Lib.hid (hgr.trans (sets_grown g (List.replicate (n - N) (.pointer none)) N wr))
      go_wp2_with (simp only [hcl])
      go_ret
      have hlen := ptrs_len (selQ zs 0 gs n) N
      refine ⟨⟨_, rfl, ?_, rfl⟩, HG.out⟩
      rw [HN.out]
      exact own_of_row HR.out hgX (by omega) hdm hlen (fun q hq => by
       rw [ptrs_at _ _ q hq, if_neg (by omega), HA.out q hq])
end Go.Proofs.YtgjjdnojiegidaaGreatDoor

namespace Go.Proofs.YtgjjdnojiegidaaGreatDoor
open Go.RowKit Wire
set_option maxHeartbeats 3200000
set_option maxRecDepth 100000
set_option linter.unusedSimpArgs false

theorem tkZ_lenQ (zs : List Int) (id : Int) : ∀ n, (tkZQ zs id n).length = tkNQ zs id n * 4
 | 0 => rfl
 | n + 1 => by
  have ih := tkZ_lenQ zs id n
  rw [tkZQ, tkNQ]
  split
  · exact ih
  · rw [List.length_append, ih]
    simp
    omega
theorem tk_atQ (zs : List Int) (id : Int) (gs : Nat → Nat) : ∀ n q, q < tkNQ zs id n → ∃ k, k < n ∧ selQ zs id gs n q = gs k ∧ ∀ j, j < 4 → num (tkZQ zs id n) (q * 4 + j) = num zs (k * 4 + j)
 | 0, q, h => absurd h (Nat.not_lt_zero q)
 | n + 1, q, h => by
  have hl := tkZ_lenQ zs id n
  by_cases hid : num zs (n * 4 + 3) = id
  · rw [tkNQ, if_pos hid] at h
    obtain ⟨k, h1, h2, h3⟩ := tk_atQ zs id gs n q h
    rw [selQ, if_pos hid, tkZQ, if_pos hid]
    exact ⟨k, by omega, h2, h3⟩
  · rw [tkNQ, if_neg hid] at h
    rw [selQ, if_neg hid, tkZQ, if_neg hid]
    by_cases hq : q = tkNQ zs id n
    · subst hq
      refine ⟨n, by omega, if_pos rfl, fun j hj => ?_⟩
      unfold num
      rw [List.getD_eq_getElem?_getD, List.getElem?_append_right (by omega), hl, Nat.add_sub_cancel_left]
      rcases (show j = 0 ∨ j = 1 ∨ j = 2 ∨ j = 3 from by omega) with rfl | rfl | rfl | rfl <;> rfl
    · obtain ⟨k, h1, h2, h3⟩ := tk_atQ zs id gs n q (by omega)
      refine ⟨k, by omega, (if_neg hq).trans h2, fun j hj => ?_⟩
      rw [← h3 j hj]
      unfold num
      rw [List.getD_eq_getElem?_getD, List.getElem?_append_left (by omega), ← List.getD_eq_getElem?_getD]
theorem Copies.leftQ {w : World} {X S L : Nat} {T : TypeId} {zs : List Int} {n : Nat} {v v' : Value} {gs : Nat → Nat} (h : Copies w X S L T zs n v gs) (id : Int) (hv : v'.ownBlock = v.ownBlock) : Copies w X S L T (tkZQ zs id n) (tkNQ zs id n) v' (selQ zs id gs n) := fun q hq => by
 obtain ⟨k, h1, h2, h3⟩ := tk_atQ zs id gs n q hq
 obtain ⟨c1, c2, c3, c4, c5⟩ := h k h1
 rw [h2, hv]
 exact ⟨c1, c2, c3, c4, c5.congr (fun j hj => by simp only [numAt]; rw [h3 j hj])⟩
end Go.Proofs.YtgjjdnojiegidaaGreatDoor

namespace Go.Proofs.YtgjjdnojiegidaaGreatDoor
open Go.RowKit Wire
set_option maxHeartbeats 3200000
set_option maxRecDepth 100000
set_option linter.unusedSimpArgs false

theorem impl_dropQ (X1 S1 L1 X2 S2 L2 n m : Nat) (v1 v2 : Value) (gs1 gs2 : Nat → Nat) (za zb : List Int) (w : World) (hp1 : Opened w X1 S1 L1 2 106 101 (.func (.func 77) #[] #[.pointer (some ⟨S1, 0, none⟩)]) 1 za n v1 gs1 ∧ Copies w X1 S1 L1 65 za n v1 gs1) (hp2 : Opened w X2 S2 L2 2 106 101 (.func (.func 77) #[] #[.pointer (some ⟨S2, 0, none⟩)]) 2 zb m v2 gs2 ∧ Copies w X2 S2 L2 65 zb m v2 gs2) (hn : n ≤ 1048576) (hm : m ≤ 1048576) (hX : X1 ≤ X2) (hfar : S1 < X2 ∧ L1 < X2 ∧ (∀ q, v1.ownBlock = some q → q < X2) ∧ ∀ k, k < n → gs1 k < X2) :
 Calls Tryz.prog 86 #[.agg #[.pointer (some ⟨L1, 0, none⟩), .pointer (some ⟨L2, 0, none⟩)], .func (.func 110) #[] #[]] w fun e w' => (∃ u, e = .returned u) ∧ ∃ u1 u2, (Opened w' X1 S1 L1 2 106 101 (.func (.func 77) #[] #[.pointer (some ⟨S1, 0, none⟩)]) 1 (tkZQ za 0 n) (tkNQ za 0 n) u1 (selQ za 0 gs1 n) ∧ Copies w' X1 S1 L1 65 (tkZQ za 0 n) (tkNQ za 0 n) u1 (selQ za 0 gs1 n)) ∧ (Opened w' X2 S2 L2 2 106 101 (.func (.func 77) #[] #[.pointer (some ⟨S2, 0, none⟩)]) 2 (tkZQ zb 0 m) (tkNQ zb 0 m) u2 (selQ zb 0 gs2 m) ∧ Copies w' X2 S2 L2 65 (tkZQ zb 0 m) (tkNQ zb 0 m) u2 (selQ zb 0 gs2 m)) ∧ Below X1 w w' ∧ ∀ i, i < w.heap.size → i ≠ L1 → i ≠ L2 → some i ≠ v1.ownBlock → some i ≠ v2.ownBlock → w'.heap[i]? = w.heap[i]? := by
 obtain ⟨hop1, hcp1⟩ := hp1
 obtain ⟨hop2, hcp2⟩ := hp2
 obtain ⟨hf1, hf2, hf3, hf4⟩ := hfar
 have hb0 : Below w.heap.size w (w.alloc (.cells #[.pointer (some ⟨L1, 0, none⟩), .pointer (some ⟨L2, 0, none⟩)] 55)) := (Below.refl _ _).alloc (Nat.le_refl _) _
 have k0 := heap_alloc_new w (.cells #[.pointer (some ⟨L1, 0, none⟩), .pointer (some ⟨L2, 0, none⟩)] 55)
 have p0 := cell_of_row _ w.heap.size 0 _ _ (0, 0) k0
 have p1 := cell_of_row _ w.heap.size 1 _ _ (0, 0) k0
 have hopA := hop1.below hb0
 have hcpA := hcp1.below hb0
 have hopB := hop2.below hb0
 have hcpB := hcp2.below hb0
 go_enter Tryz.func86, Tryz.ntmps86
 go_upto_region 1 with fail
 generalize (w.alloc (.cells #[.pointer (some ⟨L1, 0, none⟩), .pointer (some ⟨L2, 0, none⟩)] 55)) = w0 at *
 simp at p0 p1
 have hws : w.heap.size < w0.heap.size := hlT k0
 have hb1 : Below X1 w w0 := hb0.mono (Nat.le_trans hop1.low.1 (Nat.le_of_lt (hlT hop1.side)))
 have hL1w : w.heap.size ≠ L1 := fun e => by have := hlT hop1.list; omega
 have hL2w : w.heap.size ≠ L2 := fun e => by have := hlT hop2.list; omega
 have hJb1 : some w.heap.size ≠ v1.ownBlock := fun e => by have := (hop1.own.lt _ e.symm).2; omega
 have hJb2 : some w.heap.size ≠ v2.ownBlock := fun e => by have := (hop2.own.lt _ e.symm).2; omega
 have hWL1 : L1 ≠ w.heap.size := fun e => hL1w e.symm
 have hWL2 : L2 ≠ w.heap.size := fun e => hL2w e.symm
 have hXs : X1 ≤ w0.heap.size := Nat.le_trans hopA.low.1 (Nat.le_of_lt (hlT hopA.side))
 have hk0 : ∀ i, i < w.heap.size → w0.heap[i]? = w.heap[i]? := fun i hi => hb0.block i hi
 clear hop1 hcp1 hop2 hcp2 hb0 k0
 have hop1 := hopA
 have hcp1 := hcpA
 clear hopA hcpA
 refine wp_region_held_drew (S := (fun w' => w'.cell? ⟨w.heap.size, 0, none⟩ = some (.pointer (some ⟨L1, 0, none⟩)) ∧ w'.cell? ⟨w.heap.size, 1, none⟩ = some (.pointer (some ⟨L2, 0, none⟩)))) (by kernel_rfl) ?hSr1 (fun zH => ?restr1)
 case hSr1 => exact ⟨p0, p1⟩
 refine tkV 0 ?_
 refine tkV 1 ?_
 refine tkV 2 ?_
 refine tkV 3 ?_
 refine tkV 4 ?_
 refine tkV 5 ?_
 refine tkV 7 ?_
 have hl1 := cell_of_row _ L1 0 _ _ (0, 0) hop1.drew.list
 simp only [List.getElem?_toArray, List.getElem?_cons_zero] at hl1
 refine rd1 6 (fun K hK => ?_)
 go_simp
 refine hK.out _ _ (zH) (fun zH => ?_)
 clear hK K
 try simp only [Act.put, sA, sB, sC]
 clear hl1
 refine rd1 8 (fun K hK => ?_)
 go_simp
 go_at_call 102
 refine (impl_DeleteFuncQ X1 S1 L1 n 1 za v1 gs1 _ hop1.drew hcp1.drew hn).mono ?_
 rintro e u1 ⟨⟨r1, rfl, hr1, hv1⟩, hg1⟩
 obtain ⟨A1, d1, rfl, _, _⟩ := oSl hr1
 have hx10 : u1.cell? ⟨w.heap.size, 0, none⟩ = _ := (hg1.cell p0 hJb1)
 have hx11 : u1.cell? ⟨w.heap.size, 1, none⟩ = _ := (hg1.cell p1 hJb1)
 refine hK.out _ _ (⟨hx10, hx11⟩) (fun zH => ?_)
 clear hK K
 try simp only [Act.put, sA, sB, sC]
 refine tkV 9 ?_
 refine tkV 10 ?_
 have hk1 := (hg1.block L1 (hlT hop1.drew.list) (fun e => hop1.far.1 e.symm)).trans hop1.drew.list
 have hq1 := cell_of_row _ L1 0 _ _ (0, 0) hk1
 have hf1z := frozen_of_row _ L1 0 _ _ hk1
 simp only [List.getElem?_toArray, List.getElem?_cons_zero] at hq1
 refine rd1 11 (fun K hK => ?_)
 go_simp
 refine hK.out _ _ (⟨(World.cell?_setCell_far _ _ _ _ hWL1).trans zH.1, (World.cell?_setCell_far _ _ _ _ hWL1).trans zH.2⟩) (fun zH => ?_)
 clear hK K
 try simp only [Act.put, sA, sB, sC]
 refine dn1 ?_
 obtain ⟨hop1, hcp1⟩ := drop_one hop1.drew hcp1.drew hg1 hv1 hr1 (hcp1.drew.leftQ 0 hv1)
 have hB := (hopB.drew.kept hg1 (fun q hq => drop_far hopB (hf3 q hq))).kept (set_grown u1 L1 0 (.slice A1 (tkNQ za 0 n) d1)) (fun q hq => drop_far hopB (by injection hq with hq; omega))
 have hC := (hcpB.drew.kept hg1 (fun q hq k hk => by have := (hcpB k hk).1; have := hf3 q hq; omega)).kept (set_grown u1 L1 0 (.slice A1 (tkNQ za 0 n) d1)) (fun q hq k hk => by have := (hcpB k hk).1; injection hq with hq; omega)
 have hz1 : (u1.setCell ⟨L1, 0, none⟩ (.slice A1 (tkNQ za 0 n) d1)).heap.size = u1.heap.size := by simp [World.setCell]
 have hs1 : w0.heap.size ≤ u1.heap.size := hg1.size
 have hbX := (hb1.drew.grown hg1 hXs (fun q hq => (hop1.own.lt q (hv1.trans hq)).1)).setCell (p := ⟨L1, 0, none⟩) hop1.low.2.1 (.slice A1 (tkNQ za 0 n) d1)
 have hN1 := Lib.hid hv1
 have HK := Lib.hid (fun (i : Nat) (hi : i < w.heap.size) (h1 : i ≠ L1) (h2 : some i ≠ v1.ownBlock) => (Below.heap_setCell u1 ⟨L1, 0, none⟩ (.slice A1 (tkNQ za 0 n) d1) i h1).trans ((hg1.block i (Nat.lt_trans hi hws) h2).trans (hk0 i hi)))
 have hwy : w.heap.size < (u1.setCell ⟨L1, 0, none⟩ (.slice A1 (tkNQ za 0 n) d1)).heap.size := by omega
 obtain ⟨p0, p1⟩ := zH
 clear hopB hcpB hk1 hq1 hf1z hr1 hg1 hx10 hx11 hb1 hv1
 have hXy1 : X1 ≤ (u1.setCell ⟨L1, 0, none⟩ (.slice A1 (tkNQ za 0 n) d1)).heap.size := by omega
 generalize hA1 : (Value.slice A1 (tkNQ za 0 n) d1) = t1 at *
 generalize (u1.setCell ⟨L1, 0, none⟩ t1) = y1 at *
 have hop2 := hB
 have hcp2 := hC
 clear hB hC
 go_upto_region 2 with fail
 refine wp_region_held_drew (S := (fun w' => w'.cell? ⟨w.heap.size, 0, none⟩ = some (.pointer (some ⟨L1, 0, none⟩)) ∧ w'.cell? ⟨w.heap.size, 1, none⟩ = some (.pointer (some ⟨L2, 0, none⟩)))) (by kernel_rfl) ?hSr2 (fun zH => ?restr2)
 case hSr2 => exact ⟨p0, p1⟩
 refine tkV 0 ?_
 refine tkV 1 ?_
 refine tkV 2 ?_
 refine tkV 3 ?_
 refine tkV 4 ?_
 refine tkV 5 ?_
 refine tkV 7 ?_
 have hl2 := cell_of_row _ L2 0 _ _ (0, 0) hop2.drew.list
 simp only [List.getElem?_toArray, List.getElem?_cons_zero] at hl2
 refine rd1 6 (fun K hK => ?_)
 go_simp
 refine hK.out _ _ (zH) (fun zH => ?_)
 clear hK K
 try simp only [Act.put, sA, sB, sC]
 clear hl2
 refine rd1 8 (fun K hK => ?_)
 go_simp
 go_at_call 102
 refine (impl_DeleteFuncQ X2 S2 L2 m 2 zb v2 gs2 _ hop2.drew hcp2.drew hm).mono ?_
 rintro e u2 ⟨⟨r2, rfl, hr2, hv2⟩, hg2⟩
 obtain ⟨A2, d2, rfl, _, _⟩ := oSl hr2
 have hx20 : u2.cell? ⟨w.heap.size, 0, none⟩ = _ := (hg2.cell p0 hJb2)
 have hx21 : u2.cell? ⟨w.heap.size, 1, none⟩ = _ := (hg2.cell p1 hJb2)
 refine hK.out _ _ (⟨hx20, hx21⟩) (fun zH => ?_)
 clear hK K
 try simp only [Act.put, sA, sB, sC]
 refine tkV 9 ?_
 refine tkV 10 ?_
 have hk2 := (hg2.block L2 (hlT hop2.drew.list) (fun e => hop2.far.1 e.symm)).trans hop2.drew.list
 have hq2 := cell_of_row _ L2 0 _ _ (0, 0) hk2
 have hf2z := frozen_of_row _ L2 0 _ _ hk2
 simp only [List.getElem?_toArray, List.getElem?_cons_zero] at hq2
 refine rd1 11 (fun K hK => ?_)
 go_simp
 refine hK.out _ _ (⟨(World.cell?_setCell_far _ _ _ _ hWL2).trans zH.1, (World.cell?_setCell_far _ _ _ _ hWL2).trans zH.2⟩) (fun zH => ?_)
 clear hK K
 try simp only [Act.put, sA, sB, sC]
 refine dn1 ?_
 have hBop2 := hop2
 have hXy : X1 ≤ y1.heap.size := by omega
 obtain ⟨hop2, hcp2⟩ := drop_one hop2.drew hcp2.drew hg2 hv2 hr2 (hcp2.drew.leftQ 0 hv2)
 have hge : ∀ q, v2.ownBlock = some q → X2 ≤ q := fun q hq => (hBop2.own.lt q hq).1
 have hsel : ∀ k, k < tkNQ za 0 n → selQ za 0 gs1 n k < X2 := fun k hk => by
  obtain ⟨j, hj, he, _⟩ := tk_atQ za 0 gs1 n k hk
  rw [he]
  exact hf4 j hj
 have fr : ∀ q, X2 ≤ q → q ≠ S1 ∧ q ≠ L1 ∧ t1.ownBlock ≠ some q := fun q hq => ⟨by omega, by omega, fun e => by have := hf3 q (hN1.out.symm.trans e); omega⟩
 have hL2X : X2 ≤ L2 := hBop2.low.2.1
 have h1 := (hop1.drew.kept hg2 (fun q hq => fr q (hge q hq))).kept (set_grown u2 L2 0 (.slice A2 (tkNQ zb 0 m) d2)) (fun q hq => fr q (by injection hq with hq; omega))
 have h2 := (hcp1.drew.kept hg2 (fun q hq k hk => by have := hsel k hk; have := hge q hq; omega)).kept (set_grown u2 L2 0 (.slice A2 (tkNQ zb 0 m) d2)) (fun q hq k hk => by have := hsel k hk; injection hq with hq; omega)
 have hfin := (hbX.drew.grown hg2 hXy (fun q hq => Nat.le_trans hX (hge q hq))).setCell (p := ⟨L2, 0, none⟩) (Nat.le_trans hX hL2X) (.slice A2 (tkNQ zb 0 m) d2)
 have HK2 := fun (i : Nat) (hi : i < w.heap.size) (h1 : i ≠ L1) (h2 : i ≠ L2) (h3 : some i ≠ v1.ownBlock) (h4 : some i ≠ v2.ownBlock) => (Below.heap_setCell u2 ⟨L2, 0, none⟩ (.slice A2 (tkNQ zb 0 m) d2) i h2).trans ((hg2.block i (Nat.lt_trans hi hwy) h4).trans (HK.out i hi h1 h3))
 go_wp2_with fail
 go_end0
 exact ⟨⟨_, rfl⟩, _, _, ⟨h1, h2⟩, ⟨hop2, hcp2⟩, hfin, HK2⟩
end Go.Proofs.YtgjjdnojiegidaaGreatDoor

namespace Go.Proofs.YtgjjdnojiegidaaGreatDoor
open Go.RowKit Wire
set_option maxHeartbeats 3200000
set_option maxRecDepth 100000
set_option linter.unusedSimpArgs false

def Up (gs : Nat → Nat) (n : Nat) : Prop := ∀ i j, i < j → j < n → gs i < gs j
theorem Up.next {gs : Nat → Nat} {k g : Nat} (h : Up gs k) (hl : ∀ i, i < k → gs i < g) : Up (fun j => if j = k then g else gs j) (k + 1) := fun i j hij hj => by
 dsimp only
 rw [if_neg (show i ≠ k by omega)]
 by_cases e : j = k
 · rw [if_pos e]; exact hl i (by omega)
 · rw [if_neg e]; exact h i j hij (by omega)
theorem Up.ne {gs : Nat → Nat} {n i j : Nat} (h : Up gs n) (hi : i < n) (hj : j < n) (e : i ≠ j) : gs i ≠ gs j := by
 rcases Nat.lt_or_gt_of_ne e with h1 | h1
 · have := h i j h1 hj; omega
 · have := h j i h1 hi; omega
theorem impl_openedSideU (A : Option Addr) (n c : Nat) (zs : List Int) (side : Int) (w : World) (hl : Lst w w.heap.size 4 A n zs) (hn : n ≤ 1048576) :
 Calls Tryz.prog 51 #[.slice A n c, .int .i64 side] w fun e w' => ∃ S L v gs, e = .returned (.pointer (some ⟨L, 0, none⟩)) ∧ Opened w' w.heap.size S L 2 106 101 (.func (.func 77) #[] #[.pointer (some ⟨S, 0, none⟩)]) side zs n v gs ∧ Copies w' w.heap.size S L 65 zs n v gs ∧ Up gs n ∧ Below w.heap.size w w' := by
 obtain ⟨i0, hi, hz0, hz1, hz2⟩ := info_parts ptr_info
 obtain ⟨k0, k1⟩ := two_blocks w (.cells #[.int .i64 side] 2) (.cells #[.slice none 0 0, .func (.func 77) #[] #[.pointer (some ⟨w.heap.size, 0, none⟩)]] 106)
 have hb0 : Below w.heap.size w ((w.alloc (.cells #[.int .i64 side] 2)).alloc (.cells #[.slice none 0 0, .func (.func 77) #[] #[.pointer (some ⟨w.heap.size, 0, none⟩)]] 106)) := ((Below.refl _ _).alloc (Nat.le_refl _) _).alloc (by simp) _
 go_enter Tryz.func51, Tryz.ntmps51
 go_wp2_with fail
 go_loopw [16] (fun i wr => ∃ (k : Nat) (v : Value) (gs : Nat → Nat), k ≤ n ∧ i = .int .i64 (k : Int) ∧ Opened wr w.heap.size w.heap.size (w.heap.size + 1) 2 106 101 (.func (.func 77) #[] #[.pointer (some ⟨w.heap.size, 0, none⟩)]) side zs k v gs ∧ Copies wr w.heap.size w.heap.size (w.heap.size + 1) 65 zs k v gs ∧ Up gs k ∧ Below w.heap.size w wr) (fun i _ => n - (intOf i).toNat)
 case atStart => exact ⟨0, .slice none 0 0, fun _ => 0, Nat.zero_le _, rfl, ⟨⟨by omega, by omega, by omega⟩, k0, k1, World.ownsRow_nil _ _ _ _, by simp [Value.ownBlock], by simp [Value.ownBlock]⟩, fun k hk => absurd hk (Nat.not_lt_zero k), fun _ j _ h => absurd h (Nat.not_lt_zero j), hb0⟩
 case round =>
  obtain ⟨k, v, gs, hk, rfl, hop, hcp, hup, hbel⟩ := hrel
  have HUP := Lib.hid hup
  have HGL := Lib.hid (fun i (hi : i < k) => (hcp i hi).2.2.2.2.lt)
  clear hup
  by_cases hlt : k < n
  · obtain ⟨b, o, rfl, hb, c0, c1, c2, c3⟩ := (hl.below hbel).row4 hlt
    clear k0 k1 hb0
    go_upto_region 6 with fail
    have hba := (Below.refl wr.heap.size wr).alloc (Nat.le_refl _) (.cells #[.int .i64 (num zs (k * 4)), .int .i64 (num zs (k * 4 + 1)), .int .i64 (num zs (k * 4 + 2)), .int .i64 (num zs (k * 4 + 3))] 65)
    have hrow : (wr.alloc (.cells #[.int .i64 (num zs (k * 4)), .int .i64 (num zs (k * 4 + 1)), .int .i64 (num zs (k * 4 + 2)), .int .i64 (num zs (k * 4 + 3))] 65)).rowIs wr.heap.size 65 4 (numAt fun j => num zs (k * 4 + j)) := World.rowIs_alloc wr _ _ _ (fun i hi => by
     simp at hi
     rcases (show i = 0 ∨ i = 1 ∨ i = 2 ∨ i = 3 from by omega) with rfl | rfl | rfl | rfl <;> rfl)
    have hsz1 : (wr.alloc (.cells #[.int .i64 (num zs (k * 4)), .int .i64 (num zs (k * 4 + 1)), .int .i64 (num zs (k * 4 + 2)), .int .i64 (num zs (k * 4 + 3))] 65)).heap.size ≤ wr.heap.size + 1 ∧ wr.heap.size + 1 ≤ (wr.alloc (.cells #[.int .i64 (num zs (k * 4)), .int .i64 (num zs (k * 4 + 1)), .int .i64 (num zs (k * 4 + 2)), .int .i64 (num zs (k * 4 + 3))] 65)).heap.size := by simp
    generalize wr.alloc (.cells #[.int .i64 (num zs (k * 4)), .int .i64 (num zs (k * 4 + 1)), .int .i64 (num zs (k * 4 + 2)), .int .i64 (num zs (k * 4 + 3))] 65) = w1 at *
    have hop1 := hop.below hba
    have hcp1 := hcp.below hba
    have hbel1 := hbel.trans (hba.mono hbel.size)
    have hov := hop.own.lt
    have hbs := hbel.size
    have hlS := hlT hop.side
    have hlL := hlT hop.list
    have cL := cell_of_row w1 (w.heap.size + 1) 0 _ _ (0, 0) hop1.list
    simp at cL
    obtain ⟨A1, d1, rfl, _, _⟩ := oSl hop1.own
    clear hop hcp hbel c0 c1 c2 c3 hba hb
    go_wp2_with (at_builtin; refine wpList_append_own_at _ rfl _ _ 103 rfl w.heap.size 101 i0 _ 1 8 Tryz.underlying103 hi hz0 hz1 hz2 rfl (by decide) _ _ _ rfl (hop1.own.alloc _) ⟨w1.heap.size, 0, none⟩ 1 1 [.pointer (some ⟨wr.heap.size, 0, none⟩)] rfl rfl ?c1 ?c2 ?c3 ?c4 ?c5 ?_)
    case c1 => exact World.news_of_block (heap_alloc_new w1 _)
    case c2 => intro u hu; simp at hu; subst hu; rfl
    case c3 => unfold maxLen; omega
    case c4 => omega
    case c5 => simp; omega
    intro v' w2 hown2 hgrow2 _ hat2
    have hL2 := (hgrow2.block (w.heap.size + 1) (by simp; omega) (fun e => hop1.far.1 e.symm)).trans ((Below.heap_alloc w1 _ (w.heap.size + 1) (by omega)).trans hop1.list)
    have d0 := cell_of_row w2 (w.heap.size + 1) 0 _ _ (0, 0) hL2
    have z0 := frozen_of_row w2 (w.heap.size + 1) 0 _ _ hL2
    simp at d0
    have hnext := opened_next (g := wr.heap.size) hop1 hcp1 (by omega) hrow (by omega) (by omega) (fun e => by have := (hov _ e.symm).2; omega) hown2 hgrow2 hat2
    have hbel2 := (hbel1.alloc (by omega) (.cells #[.pointer (some ⟨wr.heap.size, 0, none⟩)] 101)).grown hgrow2 (by simp; omega) (fun q hq => (hov q hq).1)
    obtain ⟨A2, d2, rfl, _, _⟩ := oSl hown2
    have HN := Lib.hid hnext
    have HB := Lib.hid hbel2
    clear hnext hbel2 hgrow2 hat2 hown2 hop1 hcp1 hrow hbel1 hL2 cL
    go_wp2_with fail
    go_roundw
    case rel => exact ⟨k + 1, _, _, by omega, by go_num, HN.out.1, HN.out.2, Up.next HUP.out HGL.out, HB.out.setCell (p := ⟨w.heap.size + 1, 0, none⟩) (show w.heap.size ≤ w.heap.size + 1 by omega) _⟩
    case measure => simp [intOf]; omega
  · obtain rfl : k = n := by omega
    clear k0 k1 hb0
    go_wp2_with fail
    go_ret
    exact ⟨_, _, v, gs, rfl, hop, hcp, HUP.out, hbel⟩
theorem impl_openedU (A : Option Addr) (n c : Nat) (B : Option Addr) (m d : Nat) (za zb : List Int) (w : World) (ha : Lst w w.heap.size 4 A n za) (hb : Lst w w.heap.size 4 B m zb) (hn : n ≤ 1048576) (hm : m ≤ 1048576) :
 Calls Tryz.prog 24 #[.agg #[.slice A n c, .slice B m d]] w fun e w' => ∃ X1 S1 L1 v1 gs1 X2 S2 L2 v2 gs2, e = .returned (.agg #[.pointer (some ⟨L1, 0, none⟩), .pointer (some ⟨L2, 0, none⟩)]) ∧ (Opened w' X1 S1 L1 2 106 101 (.func (.func 77) #[] #[.pointer (some ⟨S1, 0, none⟩)]) 1 za n v1 gs1 ∧ Copies w' X1 S1 L1 65 za n v1 gs1) ∧ (Opened w' X2 S2 L2 2 106 101 (.func (.func 77) #[] #[.pointer (some ⟨S2, 0, none⟩)]) 2 zb m v2 gs2 ∧ Copies w' X2 S2 L2 65 zb m v2 gs2) ∧ w.heap.size ≤ X1 ∧ X1 ≤ X2 ∧ (S1 < X2 ∧ L1 < X2 ∧ (∀ q, v1.ownBlock = some q → q < X2) ∧ ∀ k, k < n → gs1 k < X2) ∧ Up gs1 n ∧ Up gs2 m ∧ Below w.heap.size w w' := by
 obtain ⟨k0, k1⟩ := two_blocks w (.cells #[.slice A n c, .slice B m d] 30) (.cells #[.pointer none, .pointer none] 55)
 have hb0 : Below w.heap.size w ((w.alloc (.cells #[.slice A n c, .slice B m d] 30)).alloc (.cells #[.pointer none, .pointer none] 55)) := ((Below.refl _ _).alloc (Nat.le_refl _) _).alloc (by simp) _
 have hs0 : w.heap.size + 1 < ((w.alloc (.cells #[.slice A n c, .slice B m d] 30)).alloc (.cells #[.pointer none, .pointer none] 55)).heap.size := by simp
 go_enter Tryz.func24, Tryz.ntmps24
 go_upto_region 1 with fail
 generalize ((w.alloc (.cells #[.slice A n c, .slice B m d] 30)).alloc (.cells #[.pointer none, .pointer none] 55)) = w0 at *
 have p0 := cell_of_row w0 w.heap.size 0 _ _ (0, 0) k0
 have p1 := cell_of_row w0 w.heap.size 1 _ _ (0, 0) k0
 simp at p0 p1
 refine wp_region_held_drew (S := (fun w' => Below w.heap.size w w' ∧ w'.cell? ⟨w.heap.size, 0, none⟩ = some (.slice A n c) ∧ w'.cell? ⟨w.heap.size, 1, none⟩ = some (.slice B m d) ∧ w.heap.size + 1 < w'.heap.size ∧ ∃ x y, w'.heap[w.heap.size + 1]? = some (.cells #[x, y] 55 (0, 0)))) (by kernel_rfl) ?hS0 (fun zH => ?rest0)
 case hS0 => exact ⟨hb0.drew, p0, p1, hs0, _, _, k1⟩
 refine tkV 0 ?_
 refine tkV 1 ?_
 refine tkV 3 ?_
 refine tkV 4 ?_
 refine rd1 2 (fun K hK => ?_)
 have hG1 := zH.2.2.2.1
 go_simp
 go_at_call 51
 refine (impl_openedSideU A n c za 1 _ ((ha.below zH.1).more zH.1.size) hn).mono ?_
 rintro e u1 ⟨S1, L1, v1, gs1, rfl, hop1, hcp1, hup1, hb1'⟩
 refine hK.out _ _ (⟨zH.1.trans (hb1'.mono zH.1.size), (hb1'.cell (p := ⟨w.heap.size, 0, none⟩) (show w.heap.size < _ by omega)).trans zH.2.1, (hb1'.cell (p := ⟨w.heap.size, 1, none⟩) (show w.heap.size < _ by omega)).trans zH.2.2.1, Nat.lt_of_lt_of_le hG1 hb1'.size, by obtain ⟨x, y, h⟩ := zH.2.2.2.2; exact ⟨x, y, (hb1'.block _ hG1).trans h⟩⟩) (fun zH => ?_)
 clear hK K
 try simp only [Act.put, sA, sB, sC]
 have hN1 : S1 < u1.heap.size ∧ L1 < u1.heap.size ∧ (∀ q, v1.ownBlock = some q → q < u1.heap.size) ∧ ∀ k, k < n → gs1 k < u1.heap.size := ⟨hlT hop1.side, hlT hop1.list, fun q hq => (hop1.own.lt q hq).2, fun k hk => (hcp1 k hk).2.2.2.2.lt⟩
 refine rd1 5 (fun K hK => ?_)
 have hG2 := zH.2.2.2.1
 go_simp
 go_at_call 51
 refine (impl_openedSideU B m d zb 2 _ ((hb.below zH.1).more zH.1.size) hm).mono ?_
 rintro e u2 ⟨S2, L2, v2, gs2, rfl, hop2, hcp2, hup2, hb2'⟩
 refine hK.out _ _ (⟨zH.1.trans (hb2'.mono zH.1.size), (hb2'.cell (p := ⟨w.heap.size, 0, none⟩) (show w.heap.size < _ by omega)).trans zH.2.1, (hb2'.cell (p := ⟨w.heap.size, 1, none⟩) (show w.heap.size < _ by omega)).trans zH.2.2.1, Nat.lt_of_lt_of_le hG2 hb2'.size, by obtain ⟨x, y, h⟩ := zH.2.2.2.2; exact ⟨x, y, (hb2'.block _ hG2).trans h⟩⟩) (fun zH => ?_)
 clear hK K
 try simp only [Act.put, sA, sB, sC]
 have hop1 := hop1.below hb2'
 have hcp1 := hcp1.below hb2'
 obtain ⟨x, y, hr⟩ := zH.2.2.2.2
 refine tkV 6 ?_
 refine rd1 7 (fun K hK => ?_)
 have hX := zH
 have r0 := cell_of_row u2 (w.heap.size + 1) 0 _ _ (0, 0) hr
 have r1 := cell_of_row u2 (w.heap.size + 1) 1 _ _ (0, 0) hr
 have z0 := frozen_of_row u2 (w.heap.size + 1) 0 _ _ hr
 have z1 := frozen_of_row u2 (w.heap.size + 1) 1 _ _ hr
 simp at r0 r1
 go_simp
 refine hK.out _ _ (⟨(hX.1.setCell (p := ⟨w.heap.size + 1, 0, none⟩) (show w.heap.size ≤ w.heap.size + 1 by omega) _).setCell (p := ⟨w.heap.size + 1, 1, none⟩) (show w.heap.size ≤ w.heap.size + 1 by omega) _, by simp [go_sem, hX.2.1], by simp [go_sem, hX.2.2.1], by simpa [World.setCell] using hX.2.2.2.1, _, _, zS1 (zS0 hr)⟩) (fun zH => ?_)
 clear hK K
 try simp only [Act.put, sA, sB, sC]
 refine dn1 ?_
 have f0 := cell_of_row _ (w.heap.size + 1) 0 _ _ (0, 0) (zS1 (b := y) (u := .pointer (some ⟨L2, 0, none⟩)) (zS0 (u := .pointer (some ⟨L1, 0, none⟩)) hr))
 have f1 := cell_of_row _ (w.heap.size + 1) 1 _ _ (0, 0) (zS1 (b := y) (u := .pointer (some ⟨L2, 0, none⟩)) (zS0 (u := .pointer (some ⟨L1, 0, none⟩)) hr))
 simp at f0 f1
 have hz1 := hb1'.size
 go_wp2_with fail
 refine bodyPost_ret (v := .agg #[.pointer (some ⟨L1, 0, none⟩), .pointer (some ⟨L2, 0, none⟩)]) (by simp [results, Tryz.results24, go_sem, f0, f1]) rfl ⟨_, S1, L1, v1, gs1, _, S2, L2, v2, gs2, rfl, ⟨(hop1.set _ _ _ ?_).set _ _ _ ?_, (hcp1.set _ _ _ ?_).set _ _ _ ?_⟩, ⟨(hop2.set _ _ _ ?_).set _ _ _ ?_, (hcp2.set _ _ _ ?_).set _ _ _ ?_⟩, ?_, ?_, hN1, hup1, hup2, zH.1⟩ <;> omega
end Go.Proofs.YtgjjdnojiegidaaGreatDoor
