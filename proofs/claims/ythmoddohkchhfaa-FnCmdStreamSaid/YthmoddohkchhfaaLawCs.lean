/-
  The drawn laws on a text of several commands, and of a tape.
-/
import Derived.Test.YthmoddohkchhfaaDrawSeq
import Derived.Test.YthmoddohkchhfaaSame
import Derived.Test.YthmoddohkchhfaaRd
namespace Go.Proofs.Ythmoddohkchhfaa
open Go.RowKit Wire

theorem Lst.rows {w : World} {B n : Nat} {A : Option Addr} {F : ByteArray → Nat → Int} {s : ByteArray} {sz : Nat} (h : Lst w B 8 A n (rowsOf F s sz n)) {k : Nat} (hk : k < n) : ∃ b o, A = some ⟨b, o, none⟩ ∧ b < B ∧ w.cell? ⟨b, o + k * 8, none⟩ = some (.int .i64 (F (frame s sz k) 0)) ∧ w.cell? ⟨b, o + k * 8 + 1, none⟩ = some (.int .i64 (F (frame s sz k) 1)) ∧ w.cell? ⟨b, o + k * 8 + 2, none⟩ = some (.int .i64 (F (frame s sz k) 2)) ∧ w.cell? ⟨b, o + k * 8 + 3, none⟩ = some (.int .i64 (F (frame s sz k) 3)) ∧ w.cell? ⟨b, o + k * 8 + 4, none⟩ = some (.int .i64 (F (frame s sz k) 4)) ∧ w.cell? ⟨b, o + k * 8 + 5, none⟩ = some (.int .i64 (F (frame s sz k) 5)) ∧ w.cell? ⟨b, o + k * 8 + 6, none⟩ = some (.int .i64 (F (frame s sz k) 6)) ∧ w.cell? ⟨b, o + k * 8 + 7, none⟩ = some (.int .i64 (F (frame s sz k) 7)) := by
  obtain ⟨b, o, e, hb, c0, c1, c2, c3, c4, c5, c6, c7⟩ := h.row8 hk
  have e0 := rowsOf_num F s sz n k 0 hk (by omega)
  rw [Nat.add_zero] at e0
  rw [e0] at c0
  rw [rowsOf_num F s sz n k 1 hk (by omega)] at c1
  rw [rowsOf_num F s sz n k 2 hk (by omega)] at c2
  rw [rowsOf_num F s sz n k 3 hk (by omega)] at c3
  rw [rowsOf_num F s sz n k 4 hk (by omega)] at c4
  rw [rowsOf_num F s sz n k 5 hk (by omega)] at c5
  rw [rowsOf_num F s sz n k 6 hk (by omega)] at c6
  rw [rowsOf_num F s sz n k 7 hk (by omega)] at c7
  exact ⟨b, o, e, hb, c0, c1, c2, c3, c4, c5, c6, c7⟩
set_option maxHeartbeats 3200000 in
set_option maxRecDepth 100000 in
theorem law_CmdStream (A : Option Addr) (len cap : Nat) (zs : List Int) (w : World) (hrow : IsRow .u8 w A len cap zs) :
    Calls Try.prog 8 #[.slice A len cap] w fun e w' => e = .returned (.bool true) ∧ Below w.heap.size w w' := by
  have hs := src_of_row hrow
  have hl := row_len hrow
  clear hrow
  by_cases hbig : 1048576 < len
  · go_enter Try.func8, Try.ntmps8
    go_wp2_with (go_at_call 27; go_in)
    go_ret
    exact ⟨rfl, Below.refl _ _⟩
  · go_enter Try.func8, Try.ntmps8
    go_wp2_with (go_at_call 27; go_in)
    refine (DrawCmdsOf_any A len cap _ hs hl).mono ?_
    rintro e w1 ⟨s, hsz, rfl, hb1⟩
    go_wp2_with fail
    refine (impl_CmdsOf_F rdCmd (fun t w ht => impl_rdCmd t w (by unfold maxLen; omega)) s w1 (by omega)).mono ?_
    rintro e w2 ⟨v1, rfl, ho1, hb2⟩
    have hn1 : nfr s ≤ 140 := by unfold nfr; omega
    have hn2 : nfr s * 15 ≤ s.size + 14 ∧ s.size ≤ nfr s * 15 := by unfold nfr; omega
    obtain ⟨A1, d1, rfl, _, _⟩ := own_slice ho1
    have hL2 := Lst.of_own ho1
    clear ho1
    go_wp2_with fail
    refine (spec_CmdsOf_F rdCmd (fun t w ht => spec_rdCmd t w (by unfold maxLen; omega)) s w2 (by omega)).mono ?_
    rintro e w3 ⟨v0, rfl, ho0, hb3⟩
    obtain ⟨A0, d0, rfl, _, _⟩ := own_slice ho0
    have hL3 := hL2.later hb3
    have hb3 := below_later' (below_later' hb1 hb2) hb3
    clear hb1 hb2 hL2
    go_wp2_with fail
    refine (sameCmds_same A1 A0 (nfr s) d1 d0 _ w3 hL3 (Lst.of_own ho0) (by omega)).mono ?_
    rintro e w4 ⟨rfl, hb4⟩
    have hL4 := hL3.later hb4
    have hb4 := below_later' hb3 hb4
    clear hL3 hb3 ho0
    have t1 : ((nfr s : Int) != ((s.size : Int) + 14) / 15) = false := by
      have : (nfr s : Int) = ((s.size : Int) + 14) / 15 := by omega
      rw [this]
      simp
    go_wp2_with fail
    clear t1
    go_loopw [5] (fun i wr => ∃ k : Nat, k ≤ nfr s ∧ i = .int .i64 (k : Int) ∧ Below w.heap.size w wr ∧ Lst wr wr.heap.size 8 A1 (nfr s) (rowsOf rdCmd s 15 (nfr s))) (fun i _ => nfr s - (intOf i).toNat)
    case atStart => exact ⟨0, Nat.zero_le _, rfl, hb4, hL4⟩
    case round =>
      obtain ⟨k, hk, rfl, hbel, hL⟩ := hrel
      by_cases hlt : k < nfr s
      · obtain ⟨b, o, rfl, hb, c0, c1, c2, c3, c4, c5, c6, c7⟩ := hL.rows hlt
        have HL := Lib.hid hL
        have HB := Lib.hid hbel
        have HR : Hid (∀ (u : ByteArray) (w : World), u = frame s 15 k → Calls Try.prog 20 #[.string u] w fun e w' => e = .returned (.agg #[.int .i64 (rdCmd (frame s 15 k) 0), .int .i64 (rdCmd (frame s 15 k) 1), .int .i64 (rdCmd (frame s 15 k) 2), .int .i64 (rdCmd (frame s 15 k) 3), .int .i64 (rdCmd (frame s 15 k) 4), .int .i64 (rdCmd (frame s 15 k) 5), .int .i64 (rdCmd (frame s 15 k) 6), .int .i64 (rdCmd (frame s 15 k) 7)]) ∧ Below w.heap.size w w') := Lib.hid (fun u w hu => by
          subst hu
          exact impl_rdCmd _ w (by rw [frame_size]; unfold maxLen; omega))
        have hbb : b < wr.heap.size := hb
        clear hL4 hb4 hL hbel
        have i1 : (0 : Int) ≤ 15 * (k : Int) := by omega
        have i2 : 15 * (k : Int) ≤ (s.size : Int) := by omega
        have i3 : IntKind.i64.wrap (15 * (k : Int)) = 15 * (k : Int) := by rw [IntKind.wrap_i64]; omega
        have i4 : IntKind.i64.wrap (15 * (k : Int) + 15) = 15 * (k : Int) + 15 := by rw [IntKind.wrap_i64]; omega
        have i5 : 15 * (k : Int) ≤ min (15 * (k : Int) + 15) (s.size : Int) := by omega
        have i6 : min (15 * (k : Int) + 15) (s.size : Int) ≤ (s.size : Int) := by omega
        go_upto_region 10 with fail
        go_region_held3 (fun w' => Below wr.heap.size wr w' ∧ w'.cell? ⟨b, o + k * 8, none⟩ = some (.int .i64 (rdCmd (frame s 15 k) 0)) ∧ w'.cell? ⟨b, o + k * 8 + 1, none⟩ = some (.int .i64 (rdCmd (frame s 15 k) 1)) ∧ w'.cell? ⟨b, o + k * 8 + 2, none⟩ = some (.int .i64 (rdCmd (frame s 15 k) 2)) ∧ w'.cell? ⟨b, o + k * 8 + 3, none⟩ = some (.int .i64 (rdCmd (frame s 15 k) 3)) ∧ w'.cell? ⟨b, o + k * 8 + 4, none⟩ = some (.int .i64 (rdCmd (frame s 15 k) 4)) ∧ w'.cell? ⟨b, o + k * 8 + 5, none⟩ = some (.int .i64 (rdCmd (frame s 15 k) 5)) ∧ w'.cell? ⟨b, o + k * 8 + 6, none⟩ = some (.int .i64 (rdCmd (frame s 15 k) 6)) ∧ w'.cell? ⟨b, o + k * 8 + 7, none⟩ = some (.int .i64 (rdCmd (frame s 15 k) 7))) ((((try dsimp only); repeat' apply And.intro) <;> (first | assumption | (refine below_later ?_ (by assumption); first | assumption | (simp only [*]; done) | (go_grown; done)) | (refine cell_later (by assumption) ?_; first | assumption | (simp only [*]; done) | (simp [go_sem]; done)) | (go_grown; done) | (simp [go_sem]; done))))
          ((go_at_call 20; refine (HR.out _ _ (by unfold frame; congr 1; omega)).mono ?_; rintro e w' ⟨rfl, hb⟩))
        rename_i wz hS
        have hbz := hS.1
        have hLz := HL.out.later hbz
        have hBz := below_later' HB.out hbz
        clear hS
        go_wp2_with fail
        go_roundw
        case rel => exact ⟨k + 1, by omega, by go_num, hBz, hLz⟩
        case measure => simp [intOf]; omega
      · obtain rfl : k = nfr s := by omega
        clear hL4 hb4
        by_cases hr : s.size % 15 = 0
        · have t2 : (((s.size : Int) % 15) == 0) = true := beq_iff_eq.2 (by omega)
          go_wp2_with fail
          go_ret
          exact ⟨by first | rfl | simp, hbel⟩
        · have t2 : (((s.size : Int) % 15) == 0) = false := beq_eq_false_iff_ne.2 (by omega)
          have hz : ∀ m j, nfr s = m + 1 → rdCmd (frame s 15 m) j = 0 := fun m j hm => by
            unfold rdCmd
            rw [if_neg (fun h => by have := h.1; rw [frame_size] at this; omega)]
            unfold eight8
            split <;> rfl
          have hpos : 0 < nfr s := by omega
          clear hn2 hlt
          generalize nfr s = N at *
          obtain ⟨m, rfl⟩ : ∃ m, N = m + 1 := ⟨N - 1, by omega⟩
          obtain ⟨b, o, rfl, hb, c0, c1, c2, c3, c4, c5, c6, c7⟩ := hL.rows (k := m) (by omega)
          have hz0 := fun j => hz m j rfl
          rw [hz0] at c0 c1 c2 c3 c4 c5 c6 c7
          clear hz hz0 hL
          go_wp2_with fail
          go_ret
          exact ⟨by first | rfl | simp, hbel⟩
end Go.Proofs.Ythmoddohkchhfaa
