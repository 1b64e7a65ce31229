/-
  slices.DeleteFunc at the pointers of a side, by the order's number.
-/
import Derived.Test.YtnldfbcelakimaaDel
import Derived.Test.YtnldfbcelakimaaTake
import Derived.Lib.SliceRun
import Derived.Lib.LazyBuf
namespace Go.Proofs.Ytnldfbcelakimaa
open Go.RowKit Wire

/-- the block of the q-th order that is left among the first k -/
def sel (zs : List Int) (id : Int) (gs : Nat → Nat) : Nat → Nat → Nat
  | 0 => fun _ => 0
  | k + 1 => if num zs (k * 4) = id then sel zs id gs k else fun q => if q = tkN zs id k then gs k else sel zs id gs k q
theorem tk_all {zs : List Int} {id : Int} {gs : Nat → Nat} : ∀ k, (∀ j, j < k → idN zs j ≠ id) → tkN zs id k = k ∧ ∀ q, q < k → sel zs id gs k q = gs q
  | 0, _ => ⟨rfl, fun q h => absurd h (Nat.not_lt_zero q)⟩
  | k + 1, h => by
    obtain ⟨h1, h2⟩ := tk_all (gs := gs) k (fun j hj => h j (by omega))
    have hk : ¬ num zs (k * 4) = id := h k (by omega)
    refine ⟨by rw [tkN, if_neg hk, h1], fun q hq => ?_⟩
    rw [sel, if_neg hk]
    by_cases hqk : q = tkN zs id k
    · rw [if_pos hqk, hqk, h1]
    · rw [if_neg hqk]
      exact h2 q (by omega)
theorem grown_below {w w' : World} {row : Option Nat} (hb : Below w.heap.size w w') : w.grownBy w' row := ⟨hb.os, hb.tape, hb.output, hb.size, fun i hi _ => hb.block i hi⟩
theorem sets_grown (g : Nat) : ∀ (vs : List Value) (o : Nat) (w : World), w.grownBy (w.setCells g o vs) (some g)
  | [], _, _ => World.grownBy.refl _ _
  | v :: vs, o, w => World.grownBy.trans (set_grown w g o v) (sets_grown g vs (o + 1) _)
theorem own_of_row {w : World} {X g N cap : Nat} {e : TypeId} {F : Nat → Value} {xs : List Value} (h : w.rowIs g e cap F) (hX : X ≤ g) (hN : N ≤ cap) (hc : cap ≤ maxLen) (hl : xs.length = N) (hx : ∀ q, q < N → xs[q]? = some (F q)) : w.ownsRow X e 1 (.slice (some ⟨g, 0, none⟩) N cap) N xs := by
  obtain ⟨c, h1, h2, h3⟩ := h
  refine ⟨by omega, .inr ⟨g, cap, c, rfl, hX, h1, hN, hc, by omega, ?_⟩⟩
  apply List.ext_getElem?
  intro q
  rw [Nat.mul_one]
  by_cases hq : q < N
  · rw [List.getElem?_take, if_pos hq, hx q hq, Array.getElem?_toList, h3 q (by omega)]
  · rw [List.getElem?_take, if_neg hq, List.getElem?_eq_none (by omega)]
theorem ptr_zero (w : World) : (zeroValue 86).run Try.prog w = .ok (.pointer none) w := by kernel_rfl
set_option linter.unusedSimpArgs false in
set_option maxHeartbeats 3200000 in
set_option maxRecDepth 100000 in
theorem impl_DeleteFunc (X S L n J : Nat) (side id : Int) (zs : List Int) (v : Value) (gs : Nat → Nat) (w : World) (hop : Opened w X S L 2 123 86 (.func (.func 126) #[] #[.pointer (some ⟨S, 0, none⟩)]) side zs n v gs) (hcp : Copies w X S L 36 zs n v gs) (hn : n ≤ 1048576) (hJ : w.cell? ⟨J, 0, none⟩ = some (.int .i64 id)) (hJs : J < w.heap.size) (hJv : some J ≠ v.ownBlock) :
    Calls Try.prog 108 #[v, .func (.func 72) #[] #[.pointer (some ⟨J, 0, none⟩)]] w fun e w' => (∃ v', e = .returned v' ∧ w'.ownsRow X 86 1 v' (tkN zs id n) (ptrs (sel zs id gs n) (tkN zs id n)) ∧ v'.ownBlock = v.ownBlock) ∧ w.grownBy w' v.ownBlock := by
  obtain ⟨A1, d1, rfl, hnd, hdm⟩ := own_slice hop.own
  go_enter Try.func108, Try.ntmps108
  go_wp2_with fail
  refine (impl_IndexFunc X S L n J side id zs _ gs w hop hcp hn hJ hJs).mono ?_
  rintro e w1 ⟨⟨z, hz, rfl⟩, hb1⟩
  rcases hz with ⟨rfl, hno⟩ | ⟨k0, hk0, rfl, hit, hbefore⟩
  · have HT := Lib.hid (tk_all (gs := gs) n hno)
    clear hno
    have hown := own_below hop.own hb1
    go_wp2_with fail
    go_ret
    exact ⟨⟨_, rfl, by rw [HT.out.1, ptrs_congr n HT.out.2]; exact hown, rfl⟩, grown_below hb1⟩
  · have HI := Lib.hid hit
    have HT := Lib.hid (tk_all (gs := gs) k0 hbefore)
    clear hit hbefore
    obtain ⟨g, cap, hg, _, _⟩ := hop.own.form (by omega)
    injection hg with hg1 hg2 hg3
    subst hg1 hg3
    have t0 : ((k0 : Int) == -1) = false := beq_eq_false_iff_ne.2 (by omega)
    have hT1 : tkN zs id (k0 + 1) = k0 := by rw [tkN, if_pos (show num zs (k0 * 4) = id from HI.out), HT.out.1]
    have hS1 : ∀ q, q < k0 → sel zs id gs (k0 + 1) q = gs q := fun q hq => by rw [sel, if_pos (show num zs (k0 * 4) = id from HI.out)]; exact HT.out.2 q hq
    obtain ⟨F0, hrow0, hF0⟩ : ∃ F, w.rowIs g 86 d1 F ∧ ∀ q, q < n → F q = .pointer (some ⟨gs q, 0, none⟩) := by
      rcases hop.own.2 with ⟨h0, _⟩ | ⟨g', cap', cur, e', _, hheap, _, _, hcs, _⟩
      · cases h0
      · injection e' with e1 _ e3
        injection e1 with e1
        injection e1 with e1
        subst e1 e3
        have hr : w.rowIs g 86 d1 (fun q => cur[q]?.getD (.pointer none)) := ⟨cur, hheap, by omega, fun i hi => by simp [show i < cur.size by omega]⟩
        refine ⟨_, hr, fun q hq => ?_⟩
        have h1 := hop.own.cells (g := g) rfl q _ (ptrs_at gs n q hq)
        rw [add0 g] at h1
        have h2 := hr.cell (i := q) (by omega)
        rw [h1] at h2
        injection h2 with h2
        exact h2.symm
    have hgX : X ≤ g := (hop.own.lt g rfl).1
    have H1 := Lib.hid hT1
    have H2 := Lib.hid hS1
    have HF := Lib.hid hF0
    have hrow1 := hrow0.of_block (hb1.block g hrow0.lt)
    clear hT1 hS1 hF0
    go_wp2_with fail
    go_loopw [5, 6] (fun iv jv wr => ∃ (k : Nat) (F : Nat → Value), k ≤ n ∧ jv = .int .i64 (k : Int) ∧ iv = .int .i64 ((tkN zs id k : Nat) : Int) ∧ tkN zs id k < k ∧ wr.rowIs g 86 d1 F ∧ (∀ q, q < tkN zs id k → F q = .pointer (some ⟨sel zs id gs k q, 0, none⟩)) ∧ (∀ q, k ≤ q → q < n → F q = .pointer (some ⟨gs q, 0, none⟩)) ∧ w.grownBy wr (some g)) (fun _ jv _ => n - (intOf jv).toNat)
    case atStart => exact ⟨k0 + 1, F0, by omega, by go_num, by rw [H1.out], by rw [H1.out]; omega, hrow1, fun q hq => by rw [H1.out] at hq; rw [H2.out q hq]; exact HF.out q (by omega), fun q _ hq => HF.out q hq, grown_below hb1⟩
    case round =>
      clear hrow1 hb1
      obtain ⟨k, F, hk, rfl, rfl, htk, hrow, hA, hB, hgr⟩ := hrel
      have HA := Lib.hid hA
      have HBq := Lib.hid hB
      clear hA hB
      have HT1 := Lib.hid (show tkN zs id (k + 1) = if num zs (k * 4) = id then tkN zs id k else tkN zs id k + 1 from rfl)
      have HS1 := Lib.hid (show sel zs id gs (k + 1) = if num zs (k * 4) = id then sel zs id gs k else fun q => if q = tkN zs id k then gs k else sel zs id gs k q from rfl)
      generalize hN : tkN zs id k = N at *
      have HN := Lib.hid hN
      clear hN
      have zf := hrow.frozen
      by_cases hlt : k < n
      · have p0 := hrow.cell (i := k) (by omega)
        rw [HBq.out k (Nat.le_refl _) hlt] at p0
        have cN := hrow.cell (i := N) (by omega)
        have hck := hcp k hlt
        have q0 : wr.cell? ⟨gs k, 0, none⟩ = some (.int .i64 (idN zs k)) := (hck.2.2.2.2.of_block (hgr.block (gs k) hck.2.2.2.2.lt hck.2.2.2.1)).cell (i := 0) (by omega)
        have j0 := hgr.cell hJ hJv
        clear hck
        go_wp2_with fail
        refine (impl_isId (gs k) J (idN zs k) id wr j0 q0).mono ?_
        rcases Bool.eq_false_or_eq_true (idN zs k == id) with hy | hy
        · have HX := Lib.hid (show num zs (k * 4) = id from beq_iff_eq.1 hy)
          rw [hy]
          rintro e w5 ⟨rfl, hb5⟩
          have HR := Lib.hid (hrow.of_block (hb5.block g hrow.lt))
          have HG := Lib.hid (hgr.trans (grown_below hb5))
          clear hb5 hy hrow hgr p0 q0 j0 cN zf
          go_wp2_with fail
          go_roundw
          case rel => exact ⟨k + 1, F, by omega, by go_num, by rw [HT1.out, if_pos HX.out], by rw [HT1.out, if_pos HX.out]; omega, HR.out, fun q hq => by rw [HT1.out, if_pos HX.out] at hq; rw [HS1.out, if_pos HX.out]; exact HA.out q hq, fun q h1 h2 => HBq.out q (by omega) h2, HG.out⟩
          case measure => simp [intOf]; omega
        · have hy' : ¬ idN zs k = id := by simpa using hy
          have HX := Lib.hid (show ¬ num zs (k * 4) = id from hy')
          clear hy'
          rw [hy]
          rintro e w5 ⟨rfl, hb5⟩
          have hrow5 := hrow.of_block (hb5.block g hrow.lt)
          have HR := Lib.hid (hrow5.set N (.pointer (some ⟨gs k, 0, none⟩)))
          have HG := Lib.hid ((hgr.trans (grown_below hb5)).trans (set_grown w5 g N (.pointer (some ⟨gs k, 0, none⟩))))
          have cN5 := hrow5.cell (i := N) (by omega)
          have zf5 := hrow5.frozen
          clear hb5 hy hrow hgr p0 q0 j0 cN zf hrow5
          go_wp2_with fail
          go_roundw
          case rel => exact ⟨k + 1, _, by omega, by go_num, by rw [HT1.out, if_neg HX.out]; go_num, by rw [HT1.out, if_neg HX.out]; omega, HR.out, fun q hq => by
            rw [HT1.out, if_neg HX.out] at hq
            rw [HS1.out, if_neg HX.out]
            by_cases hqN : q = N
            · rw [if_pos hqN, if_pos hqN]
            · rw [if_neg hqN, if_neg hqN]
              exact HA.out q (by omega), fun q h1 h2 => by
            rw [if_neg (by omega)]
            exact HBq.out q (by omega) h2, HG.out⟩
          case measure => simp [intOf]; omega
      · obtain rfl : n = k := by omega
        have hcl : ∀ ty, (Builtin.clear_ #[120] ty #[.slice (some ⟨g, N, none⟩) (n - N) (d1 - N)]).run Try.prog wr = .ok (.tuple #[]) (wr.setCells g N (List.replicate (n - N) (.pointer none))) :=
          fun ty => Lib.run_clear_slice wr _ _ ty (.pointer none) Try.underlying120 ptr_zero rfl rfl g N _ _ (by omega) (fun j hj => by rw [hrow.cell (i := N + j) (by omega)]; rfl) (fun j hj => hrow.frozen (N + j))
        have HR := Lib.hid (rowIs_setCells (List.replicate (n - N) (.pointer none)) N wr F hrow)
        have HG := Lib.hid (hgr.trans (sets_grown g (List.replicate (n - N) (.pointer none)) N wr))
        go_wp2_with (simp only [hcl])
        go_ret
        have hlen := ptrs_len (sel zs id gs n) N
        refine ⟨⟨_, rfl, ?_, rfl⟩, HG.out⟩
        rw [HN.out]
        exact own_of_row HR.out hgX (by omega) hdm hlen (fun q hq => by
          rw [ptrs_at _ _ q hq, if_neg (by omega), HA.out q hq])
end Go.Proofs.Ytnldfbcelakimaa
