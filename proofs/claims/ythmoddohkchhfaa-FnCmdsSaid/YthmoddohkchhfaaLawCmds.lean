/-
  The law on drawn commands.
-/
import Derived.Test.YthmoddohkchhfaaBack
import Derived.Test.YthmoddohkchhfaaDrawMore
import Derived.Test.YthmoddohkchhfaaEight
namespace Go.Proofs.Ythmoddohkchhfaa
open Go.RowKit Wire

/-- what reading a text as a command comes to -/
def ReadsCmd (t : ByteArray) (y : Nat → Int) (b : Bool) : Prop :=
  (∀ w, Calls Try.prog 20 #[.string t] w fun e w' => e = .returned (.agg #[.int .i64 (y 0), .int .i64 (y 1), .int .i64 (y 2), .int .i64 (y 3), .int .i64 (y 4), .int .i64 (y 5), .int .i64 (y 6), .int .i64 (y 7)]) ∧ Below w.heap.size w w') ∧
  (∀ w, Calls Try.prog 19 #[.string t] w fun e w' => e = .returned (.agg #[.int .i64 (y 0), .int .i64 (y 1), .int .i64 (y 2), .int .i64 (y 3), .int .i64 (y 4), .int .i64 (y 5), .int .i64 (y 6), .int .i64 (y 7)]) ∧ Below w.heap.size w w') ∧
  cmdB (y 0) (y 1) (y 2) (y 3) (y 4) (y 5) (y 6) (y 7) = b ∧ (b = true → cmdBytesB (y 0) (y 1) (y 2) (y 3) (y 4) (y 5) (y 6) (y 7) = t)
theorem readsCmd (t : ByteArray) (hm : t.size ≤ maxLen) : ∃ y b, ReadsCmd t y b := by
  by_cases h : t.size = 15 ∧ cmdB (fld t 0 1 : Nat) (fld t 1 1 : Nat) (fld t 2 1 : Nat) (fld t 3 4 : Nat) (fld t 7 1 : Nat) (fld t 8 3 : Nat) (fld t 11 3 : Nat) (fld t 14 1 : Nat) = true
  · exact ⟨eight (fld t 0 1 : Nat) (fld t 1 1 : Nat) (fld t 2 1 : Nat) (fld t 3 4 : Nat) (fld t 7 1 : Nat) (fld t 8 3 : Nat) (fld t 11 3 : Nat) (fld t 14 1 : Nat), true, fun w => impl_ReadCmd_yes t w h.1 h.2, fun w => spec_ReadCmd_yes t w h.1 h.2, h.2, fun _ => cmdB_back t h.1 h.2⟩
  · exact ⟨eight 0 0 0 0 0 0 0 0, false, fun w => impl_ReadCmd_no t w h hm, fun w => spec_ReadCmd_no t w h hm, by decide, fun e => by cases e⟩
theorem readsCmd_own (f : Nat → Int) (h : cmdB (f 0) (f 1) (f 2) (f 3) (f 4) (f 5) (f 6) (f 7) = true) : ReadsCmd (cmdBytesB (f 0) (f 1) (f 2) (f 3) (f 4) (f 5) (f 6) (f 7)) f true := by
  have hl := cmdBytesB_len (f 0) (f 1) (f 2) (f 3) (f 4) (f 5) (f 6) (f 7) h
  obtain ⟨e0, e1, e2, e3, e4, e5, e6, e7⟩ := cmdBytesB_flds (f 0) (f 1) (f 2) (f 3) (f 4) (f 5) (f 6) (f 7) h
  have hk : cmdB (fld (cmdBytesB (f 0) (f 1) (f 2) (f 3) (f 4) (f 5) (f 6) (f 7)) 0 1 : Nat) (fld (cmdBytesB (f 0) (f 1) (f 2) (f 3) (f 4) (f 5) (f 6) (f 7)) 1 1 : Nat) (fld (cmdBytesB (f 0) (f 1) (f 2) (f 3) (f 4) (f 5) (f 6) (f 7)) 2 1 : Nat) (fld (cmdBytesB (f 0) (f 1) (f 2) (f 3) (f 4) (f 5) (f 6) (f 7)) 3 4 : Nat) (fld (cmdBytesB (f 0) (f 1) (f 2) (f 3) (f 4) (f 5) (f 6) (f 7)) 7 1 : Nat) (fld (cmdBytesB (f 0) (f 1) (f 2) (f 3) (f 4) (f 5) (f 6) (f 7)) 8 3 : Nat) (fld (cmdBytesB (f 0) (f 1) (f 2) (f 3) (f 4) (f 5) (f 6) (f 7)) 11 3 : Nat) (fld (cmdBytesB (f 0) (f 1) (f 2) (f 3) (f 4) (f 5) (f 6) (f 7)) 14 1 : Nat) = true := by rw [e0, e1, e2, e3, e4, e5, e6, e7]; exact h
  refine ⟨fun w => ?_, fun w => ?_, h, fun _ => rfl⟩
  · have := impl_ReadCmd_yes _ w hl hk
    rw [e0, e1, e2, e3, e4, e5, e6, e7] at this
    exact this
  · have := spec_ReadCmd_yes _ w hl hk
    rw [e0, e1, e2, e3, e4, e5, e6, e7] at this
    exact this
set_option linter.unusedSimpArgs false in
set_option maxHeartbeats 6400000 in
set_option maxRecDepth 100000 in
theorem law_Cmds (A : Option Addr) (len cap : Nat) (zs : List Int) (w : World) (hrow : IsRow .u8 w A len cap zs) :
    Calls Try.prog 7 #[.slice A len cap] w fun e w' => e = .returned (.bool true) ∧ Below w.heap.size w w' := by
  have hs := src_of_row hrow
  have hl := row_len hrow
  clear hrow
  by_cases hbig : 1048576 < len
  · go_enter Try.func7, Try.ntmps7
    go_wp2_with (go_at_call 27; go_in)
    go_ret
    exact ⟨rfl, Below.refl _ _⟩
  · go_enter Try.func7, Try.ntmps7
    go_wp2_with (go_at_call 27; go_in)
    refine (DrawCmdBytes_any A len cap _ hs hl).mono ?_
    rintro e w1 ⟨f, _, rfl, hb1⟩
    have hs1 := hs.later hb1
    clear hs
    go_wp2_with fail
    refine (impl_CmdBytes _ _ _ _ _ _ _ _ _).mono ?_
    rintro e w2 ⟨rfl, hb2⟩
    have hE2 := Eight.box hb2
    have hs2 := hs1.later (below_alloc hb2)
    have hw2 := below_later hb1 (below_alloc hb2)
    generalize w1.heap.size = G1 at *
    clear hs1 hb1 hb2
    go_wp2_with fail
    refine (DrawCmdOk_any A len cap _ hs2 hl).mono ?_
    rintro e w3 ⟨x, _, rfl, hb3⟩
    have hE3 := hE2.below hb3
    have hs3 := hs2.later hb3
    have hw3 := below_later hw2 hb3
    clear hE2 hs2 hw2 hb3
    go_wp2_with fail
    refine (DrawReadCmd_any A len cap _ (hs3.later ((Below.refl _ _).alloc (Nat.le_refl _) _)) hl).mono ?_
    rintro e w4 ⟨t, ht, rfl, hb4⟩
    have hX4 := Eight.box hb4
    have hE4 := hE3.below (below_alloc hb4)
    have hw4 := below_later hw3 (below_alloc hb4)
    generalize w3.heap.size = G2 at *
    clear hE3 hs3 hw3 hb4
    obtain ⟨y, is, hI, hS, hyb, hback⟩ := readsCmd t (by unfold maxLen; omega)
    have HI := Lib.hid hI
    have HS := Lib.hid hS
    clear hI hS
    go_wp2_with fail
    refine (HI.out _).mono ?_
    rintro e w5 ⟨rfl, hb5⟩
    have hX5 := hX4.below hb5
    have hE5 := hE4.below hb5
    have hw5 := below_later hw4 hb5
    clear hX4 hE4 hw4 hb5
    go_upto_region 8 with fail
    have hY := Eight.new w5 25 (y 0) (y 1) (y 2) (y 3) (y 4) (y 5) (y 6) (y 7)
    have hX := hX5.alloc (.cells #[.int .i64 (y 0), .int .i64 (y 1), .int .i64 (y 2), .int .i64 (y 3), .int .i64 (y 4), .int .i64 (y 5), .int .i64 (y 6), .int .i64 (y 7)] 25)
    have hE := hE5.alloc (.cells #[.int .i64 (y 0), .int .i64 (y 1), .int .i64 (y 2), .int .i64 (y 3), .int .i64 (y 4), .int .i64 (y 5), .int .i64 (y 6), .int .i64 (y 7)] 25)
    have hw := hw5.alloc hw5.size (.cells #[.int .i64 (y 0), .int .i64 (y 1), .int .i64 (y 2), .int .i64 (y 3), .int .i64 (y 4), .int .i64 (y 5), .int .i64 (y 6), .int .i64 (y 7)] 25)
    clear hX5 hE5 hw5
    generalize w5.alloc (.cells #[.int .i64 (y 0), .int .i64 (y 1), .int .i64 (y 2), .int .i64 (y 3), .int .i64 (y 4), .int .i64 (y 5), .int .i64 (y 6), .int .i64 (y 7)] 25) = W at *
    generalize w5.heap.size = G3 at *
    have HB := Lib.hid (show ∀ w, Calls Try.prog 17 #[.agg #[.int .i64 (f 0), .int .i64 (f 1), .int .i64 (f 2), .int .i64 (f 3), .int .i64 (f 4), .int .i64 (f 5), .int .i64 (f 6), .int .i64 (f 7)]] w fun e w' => e = .returned (.string (cmdBytesB (f 0) (f 1) (f 2) (f 3) (f 4) (f 5) (f 6) (f 7))) ∧ Below w.heap.size w w' from fun w => spec_CmdBytes _ _ _ _ _ _ _ _ w)
    have HF := Lib.hid (show ∀ w, Calls Try.prog 16 #[.agg #[.int .i64 (f 0), .int .i64 (f 1), .int .i64 (f 2), .int .i64 (f 3), .int .i64 (f 4), .int .i64 (f 5), .int .i64 (f 6), .int .i64 (f 7)]] w fun e w' => e = .returned (.bool (cmdB (f 0) (f 1) (f 2) (f 3) (f 4) (f 5) (f 6) (f 7))) ∧ Below w.heap.size w w' from fun w => impl_CmdOk _ _ _ _ _ _ _ _ w)
    have HO := Lib.hid (show ∀ w, Calls Try.prog 16 #[.agg #[.int .i64 (x 0), .int .i64 (x 1), .int .i64 (x 2), .int .i64 (x 3), .int .i64 (x 4), .int .i64 (x 5), .int .i64 (x 6), .int .i64 (x 7)]] w fun e w' => e = .returned (.bool (cmdB (x 0) (x 1) (x 2) (x 3) (x 4) (x 5) (x 6) (x 7))) ∧ Below w.heap.size w w' from fun w => impl_CmdOk _ _ _ _ _ _ _ _ w)
    have HP := Lib.hid (show ∀ w, Calls Try.prog 14 #[.agg #[.int .i64 (x 0), .int .i64 (x 1), .int .i64 (x 2), .int .i64 (x 3), .int .i64 (x 4), .int .i64 (x 5), .int .i64 (x 6), .int .i64 (x 7)]] w fun e w' => e = .returned (.bool (cmdB (x 0) (x 1) (x 2) (x 3) (x 4) (x 5) (x 6) (x 7))) ∧ Below w.heap.size w w' from fun w => spec_CmdOk _ _ _ _ _ _ _ _ w)
    have HY : Hid (∀ w, Calls Try.prog 16 #[.agg #[.int .i64 (y 0), .int .i64 (y 1), .int .i64 (y 2), .int .i64 (y 3), .int .i64 (y 4), .int .i64 (y 5), .int .i64 (y 6), .int .i64 (y 7)]] w fun e w' => e = .returned (.bool is) ∧ Below w.heap.size w w') := Lib.hid (fun w => by
      have := impl_CmdOk (y 0) (y 1) (y 2) (y 3) (y 4) (y 5) (y 6) (y 7) w
      rw [hyb] at this
      exact this)
    have HK : Hid (is = true → ∀ w, Calls Try.prog 18 #[.agg #[.int .i64 (y 0), .int .i64 (y 1), .int .i64 (y 2), .int .i64 (y 3), .int .i64 (y 4), .int .i64 (y 5), .int .i64 (y 6), .int .i64 (y 7)]] w fun e w' => e = .returned (.string t) ∧ Below w.heap.size w w') := Lib.hid (fun h w => by
      have := impl_CmdBytes (y 0) (y 1) (y 2) (y 3) (y 4) (y 5) (y 6) (y 7) w
      rw [hback h] at this
      exact this)
    have HR := Lib.hid (readsCmd_own f)
    have HL := Lib.hid (cmdBytesB_len (f 0) (f 1) (f 2) (f 3) (f 4) (f 5) (f 6) (f 7))
    have HN := Lib.hid (cmdBytesB_nil (f 0) (f 1) (f 2) (f 3) (f 4) (f 5) (f 6) (f 7))
    clear hback hyb HI
    obtain ⟨ce0, ce1, ce2, ce3, ce4, ce5, ce6, ce7⟩ := hE
    obtain ⟨cx0, cx1, cx2, cx3, cx4, cx5, cx6, cx7⟩ := hX
    obtain ⟨cy0, cy1, cy2, cy3, cy4, cy5, cy6, cy7⟩ := hY
    generalize cmdB (x 0) (x 1) (x 2) (x 3) (x 4) (x 5) (x 6) (x 7) = bx at *
    generalize cmdBytesB (f 0) (f 1) (f 2) (f 3) (f 4) (f 5) (f 6) (f 7) = sb at *
    have hG1 : G1 < W.heap.size := World.block_lt_of_cell? _ _ ce0
    have hG2 : G2 < W.heap.size := World.block_lt_of_cell? _ _ cx0
    have hG3 : G3 < W.heap.size := World.block_lt_of_cell? _ _ cy0
    have hE0 : Eight W G1 (f 0) (f 1) (f 2) (f 3) (f 4) (f 5) (f 6) (f 7) := ⟨ce0, ce1, ce2, ce3, ce4, ce5, ce6, ce7⟩
    cases is
    · skip
      refine wp_region_held_drew (S := (fun w' => Below W.heap.size W w' ∧ w'.cell? ⟨G1, 0, none⟩ = some (.int .i64 (f 0)) ∧ w'.cell? ⟨G1, 1, none⟩ = some (.int .i64 (f 1)) ∧ w'.cell? ⟨G1, 2, none⟩ = some (.int .i64 (f 2)) ∧ w'.cell? ⟨G1, 3, none⟩ = some (.int .i64 (f 3)) ∧ w'.cell? ⟨G1, 4, none⟩ = some (.int .i64 (f 4)) ∧ w'.cell? ⟨G1, 5, none⟩ = some (.int .i64 (f 5)) ∧ w'.cell? ⟨G1, 6, none⟩ = some (.int .i64 (f 6)) ∧ w'.cell? ⟨G1, 7, none⟩ = some (.int .i64 (f 7)) ∧ w'.cell? ⟨G2, 0, none⟩ = some (.int .i64 (x 0)) ∧ w'.cell? ⟨G2, 1, none⟩ = some (.int .i64 (x 1)) ∧ w'.cell? ⟨G2, 2, none⟩ = some (.int .i64 (x 2)) ∧ w'.cell? ⟨G2, 3, none⟩ = some (.int .i64 (x 3)) ∧ w'.cell? ⟨G2, 4, none⟩ = some (.int .i64 (x 4)) ∧ w'.cell? ⟨G2, 5, none⟩ = some (.int .i64 (x 5)) ∧ w'.cell? ⟨G2, 6, none⟩ = some (.int .i64 (x 6)) ∧ w'.cell? ⟨G2, 7, none⟩ = some (.int .i64 (x 7)) ∧ w'.cell? ⟨G3, 0, none⟩ = some (.int .i64 (y 0)) ∧ w'.cell? ⟨G3, 1, none⟩ = some (.int .i64 (y 1)) ∧ w'.cell? ⟨G3, 2, none⟩ = some (.int .i64 (y 2)) ∧ w'.cell? ⟨G3, 3, none⟩ = some (.int .i64 (y 3)) ∧ w'.cell? ⟨G3, 4, none⟩ = some (.int .i64 (y 4)) ∧ w'.cell? ⟨G3, 5, none⟩ = some (.int .i64 (y 5)) ∧ w'.cell? ⟨G3, 6, none⟩ = some (.int .i64 (y 6)) ∧ w'.cell? ⟨G3, 7, none⟩ = some (.int .i64 (y 7)))) (by kernel_rfl) ?hSq1xs (fun hHeld => ?restq1xs)
      case hSq1xs => ((first | assumption | ((((try dsimp only); repeat' apply And.intro) <;> (first | assumption | (refine below_later ?_ (by assumption); first | assumption | (simp only [*]; done) | (go_grown; done)) | (refine cell_later (by assumption) ?_; first | assumption | (simp only [*]; done) | (simp [go_sem]; done)) | (go_grown; done) | (simp [go_sem]; done))))))
      refine wpAnyH_take (i := 0) (oi := ?oiq1x1) (v := ?vq1x1) ?hiq1x1 (by kernel_rfl) (by kernel_rfl) (by kernel_rfl) ?hQq1x1 (Or.inl ⟨?hwq1x1, ?hyq1x1⟩) (by assumption) ?restq1x1
      case hiq1x1 => simp only [List.getElem?_toArray, List.getElem?_cons_succ, List.getElem?_cons_zero]; exact rfl
      case hQq1x1 => exact fun _ _ _ h => h
      case hwq1x1 => rfl
      case hyq1x1 => ((intro w hSw; (try dsimp only at hSw); go_simp) <;> with_reducible rfl)
      try simp only [Act.put, List.setIfInBounds_toArray, List.set_cons_zero, List.set_cons_succ]
      refine wpAnyH_take (i := 1) (oi := ?oiq1x2) (v := ?vq1x2) ?hiq1x2 (by kernel_rfl) (by kernel_rfl) (by kernel_rfl) ?hQq1x2 (Or.inl ⟨?hwq1x2, ?hyq1x2⟩) (by assumption) ?restq1x2
      case hiq1x2 => simp only [List.getElem?_toArray, List.getElem?_cons_succ, List.getElem?_cons_zero]; exact rfl
      case hQq1x2 => exact fun _ _ _ h => h
      case hwq1x2 => rfl
      case hyq1x2 => ((intro w hSw; (try dsimp only at hSw); go_simp) <;> with_reducible rfl)
      try simp only [Act.put, List.setIfInBounds_toArray, List.set_cons_zero, List.set_cons_succ]
      refine wpAnyH_ready (rs := [2]) (by kernel_rfl) (by simp) ?_
      refine AllReadyH.cons (o := ?oq1x3) ?hoq1x3 (fun K hK => ?stepq1x3) ?moreq1x3
      case hoq1x3 => simp only [List.getElem?_toArray, List.getElem?_cons_succ, List.getElem?_cons_zero]; exact rfl
      case moreq1x3 => exact AllReadyH.nil
      go_simp
      (go_at_call 17; refine (HB.out _).mono ?_; rintro e w' ⟨rfl, hb⟩)
      refine hK.out _ _ ?hSq1x3 (fun hHeld => ?restq1x3)
      case hSq1x3 => ((first | assumption | ((((try dsimp only); repeat' apply And.intro) <;> (first | assumption | (refine below_later ?_ (by assumption); first | assumption | (simp only [*]; done) | (go_grown; done)) | (refine cell_later (by assumption) ?_; first | assumption | (simp only [*]; done) | (simp [go_sem]; done)) | (go_grown; done) | (simp [go_sem]; done))))))
      clear hK K
      try simp only [Act.put, List.setIfInBounds_toArray, List.set_cons_zero, List.set_cons_succ]
      refine wpAnyH_take (i := 3) (oi := ?oiq1x4) (v := ?vq1x4) ?hiq1x4 (by kernel_rfl) (by kernel_rfl) (by kernel_rfl) ?hQq1x4 (Or.inl ⟨?hwq1x4, ?hyq1x4⟩) (by assumption) ?restq1x4
      case hiq1x4 => simp only [List.getElem?_toArray, List.getElem?_cons_succ, List.getElem?_cons_zero]; exact rfl
      case hQq1x4 => exact fun _ _ _ h => h
      case hwq1x4 => rfl
      case hyq1x4 => ((intro w hSw; (try dsimp only at hSw); go_simp) <;> with_reducible rfl)
      try simp only [Act.put, List.setIfInBounds_toArray, List.set_cons_zero, List.set_cons_succ]
      refine wpAnyH_take (i := 4) (oi := ?oiq1x5) (v := ?vq1x5) ?hiq1x5 (by kernel_rfl) (by kernel_rfl) (by kernel_rfl) ?hQq1x5 (Or.inl ⟨?hwq1x5, ?hyq1x5⟩) (by assumption) ?restq1x5
      case hiq1x5 => simp only [List.getElem?_toArray, List.getElem?_cons_succ, List.getElem?_cons_zero]; exact rfl
      case hQq1x5 => exact fun _ _ _ h => h
      case hwq1x5 => rfl
      case hyq1x5 => ((intro w hSw; (try dsimp only at hSw); go_simp) <;> with_reducible rfl)
      try simp only [Act.put, List.setIfInBounds_toArray, List.set_cons_zero, List.set_cons_succ]
      refine wpAnyH_take (i := 5) (oi := ?oiq1x6) (v := ?vq1x6) ?hiq1x6 (by kernel_rfl) (by kernel_rfl) (by kernel_rfl) ?hQq1x6 (Or.inl ⟨?hwq1x6, ?hyq1x6⟩) (by assumption) ?restq1x6
      case hiq1x6 => simp only [List.getElem?_toArray, List.getElem?_cons_succ, List.getElem?_cons_zero]; exact rfl
      case hQq1x6 => exact fun _ _ _ h => h
      case hwq1x6 => rfl
      case hyq1x6 => ((intro w hSw; (try dsimp only at hSw); go_simp) <;> with_reducible rfl)
      try simp only [Act.put, List.setIfInBounds_toArray, List.set_cons_zero, List.set_cons_succ]
      refine wpAnyH_take (i := 7) (oi := ?oiq1x7) (v := ?vq1x7) ?hiq1x7 (by kernel_rfl) (by kernel_rfl) (by kernel_rfl) ?hQq1x7 (Or.inl ⟨?hwq1x7, ?hyq1x7⟩) (by assumption) ?restq1x7
      case hiq1x7 => simp only [List.getElem?_toArray, List.getElem?_cons_succ, List.getElem?_cons_zero]; exact rfl
      case hQq1x7 => exact fun _ _ _ h => h
      case hwq1x7 => rfl
      case hyq1x7 => ((intro w hSw; (try dsimp only at hSw); go_simp) <;> with_reducible rfl)
      try simp only [Act.put, List.setIfInBounds_toArray, List.set_cons_zero, List.set_cons_succ]
      refine wpAnyH_ready (rs := [6]) (by kernel_rfl) (by simp) ?_
      refine AllReadyH.cons (o := ?oq1x8) ?hoq1x8 (fun K hK => ?stepq1x8) ?moreq1x8
      case hoq1x8 => simp only [List.getElem?_toArray, List.getElem?_cons_succ, List.getElem?_cons_zero]; exact rfl
      case moreq1x8 => exact AllReadyH.nil
      go_simp
      (go_at_call 16; refine (HO.out _).mono ?_; rintro e w' ⟨rfl, hb⟩)
      refine hK.out _ _ ?hSq1x8 (fun hHeld => ?restq1x8)
      case hSq1x8 => ((first | assumption | ((((try dsimp only); repeat' apply And.intro) <;> (first | assumption | (refine below_later ?_ (by assumption); first | assumption | (simp only [*]; done) | (go_grown; done)) | (refine cell_later (by assumption) ?_; first | assumption | (simp only [*]; done) | (simp [go_sem]; done)) | (go_grown; done) | (simp [go_sem]; done))))))
      clear hK K
      try simp only [Act.put, List.setIfInBounds_toArray, List.set_cons_zero, List.set_cons_succ]
      refine wpAnyH_ready (rs := [8]) (by kernel_rfl) (by simp) ?_
      refine AllReadyH.cons (o := ?oq1x9) ?hoq1x9 (fun K hK => ?stepq1x9) ?moreq1x9
      case hoq1x9 => simp only [List.getElem?_toArray, List.getElem?_cons_succ, List.getElem?_cons_zero]; exact rfl
      case moreq1x9 => exact AllReadyH.nil
      go_simp
      (go_at_call 14; refine (HP.out _).mono ?_; rintro e w' ⟨rfl, hb⟩)
      refine hK.out _ _ ?hSq1x9 (fun hHeld => ?restq1x9)
      case hSq1x9 => ((first | assumption | ((((try dsimp only); repeat' apply And.intro) <;> (first | assumption | (refine below_later ?_ (by assumption); first | assumption | (simp only [*]; done) | (go_grown; done)) | (refine cell_later (by assumption) ?_; first | assumption | (simp only [*]; done) | (simp [go_sem]; done)) | (go_grown; done) | (simp [go_sem]; done))))))
      clear hK K
      try simp only [Act.put, List.setIfInBounds_toArray, List.set_cons_zero, List.set_cons_succ]
      refine wpAnyH_take (i := 9) (oi := ?oiq1x10) (v := ?vq1x10) ?hiq1x10 (by kernel_rfl) (by kernel_rfl) (by kernel_rfl) ?hQq1x10 (Or.inl ⟨?hwq1x10, ?hyq1x10⟩) (by assumption) ?restq1x10
      case hiq1x10 => simp only [List.getElem?_toArray, List.getElem?_cons_succ, List.getElem?_cons_zero]; exact rfl
      case hQq1x10 => exact fun _ _ _ h => h
      case hwq1x10 => rfl
      case hyq1x10 => ((intro w hSw; (try dsimp only at hSw); go_simp) <;> with_reducible rfl)
      try simp only [Act.put, List.setIfInBounds_toArray, List.set_cons_zero, List.set_cons_succ]
      refine wpAnyH_take (i := 10) (oi := ?oiq1x11) (v := ?vq1x11) ?hiq1x11 (by kernel_rfl) (by kernel_rfl) (by kernel_rfl) ?hQq1x11 (Or.inl ⟨?hwq1x11, ?hyq1x11⟩) (by assumption) ?restq1x11
      case hiq1x11 => simp only [List.getElem?_toArray, List.getElem?_cons_succ, List.getElem?_cons_zero]; exact rfl
      case hQq1x11 => exact fun _ _ _ h => h
      case hwq1x11 => rfl
      case hyq1x11 => ((intro w hSw; (try dsimp only at hSw); go_simp) <;> with_reducible rfl)
      try simp only [Act.put, List.setIfInBounds_toArray, List.set_cons_zero, List.set_cons_succ]
      refine wpAnyH_take (i := 11) (oi := ?oiq1x12) (v := ?vq1x12) ?hiq1x12 (by kernel_rfl) (by kernel_rfl) (by kernel_rfl) ?hQq1x12 (Or.inl ⟨?hwq1x12, ?hyq1x12⟩) (by assumption) ?restq1x12
      case hiq1x12 => simp only [List.getElem?_toArray, List.getElem?_cons_succ, List.getElem?_cons_zero]; exact rfl
      case hQq1x12 => exact fun _ _ _ h => h
      case hwq1x12 => rfl
      case hyq1x12 => ((intro w hSw; (try dsimp only at hSw); go_simp) <;> with_reducible rfl)
      try simp only [Act.put, List.setIfInBounds_toArray, List.set_cons_zero, List.set_cons_succ]
      refine wpAnyH_take (i := 12) (oi := ?oiq1x13) (v := ?vq1x13) ?hiq1x13 (by kernel_rfl) (by kernel_rfl) (by kernel_rfl) ?hQq1x13 (Or.inl ⟨?hwq1x13, ?hyq1x13⟩) (by assumption) ?restq1x13
      case hiq1x13 => simp only [List.getElem?_toArray, List.getElem?_cons_succ, List.getElem?_cons_zero]; exact rfl
      case hQq1x13 => exact fun _ _ _ h => h
      case hwq1x13 => rfl
      case hyq1x13 => ((intro w hSw; (try dsimp only at hSw); go_simp) <;> with_reducible rfl)
      try simp only [Act.put, List.setIfInBounds_toArray, List.set_cons_zero, List.set_cons_succ]
      refine wpAnyH_take (i := 13) (oi := ?oiq1x14) (v := ?vq1x14) ?hiq1x14 (by kernel_rfl) (by kernel_rfl) (by kernel_rfl) ?hQq1x14 (Or.inl ⟨?hwq1x14, ?hyq1x14⟩) (by assumption) ?restq1x14
      case hiq1x14 => simp only [List.getElem?_toArray, List.getElem?_cons_succ, List.getElem?_cons_zero]; exact rfl
      case hQq1x14 => exact fun _ _ _ h => h
      case hwq1x14 => rfl
      case hyq1x14 => ((intro w hSw; (try dsimp only at hSw); go_simp) <;> with_reducible rfl)
      try simp only [Act.put, List.setIfInBounds_toArray, List.set_cons_zero, List.set_cons_succ]
      refine wpAnyH_ready (rs := [14]) (by kernel_rfl) (by simp) ?_
      refine AllReadyH.cons (o := ?oq1x15) ?hoq1x15 (fun K hK => ?stepq1x15) ?moreq1x15
      case hoq1x15 => simp only [List.getElem?_toArray, List.getElem?_cons_succ, List.getElem?_cons_zero]; exact rfl
      case moreq1x15 => exact AllReadyH.nil
      go_simp
      (go_at_call 19; refine (HS.out _).mono ?_; rintro e w' ⟨rfl, hb⟩)
      refine hK.out _ _ ?hSq1x15 (fun hHeld => ?restq1x15)
      case hSq1x15 => ((first | assumption | ((((try dsimp only); repeat' apply And.intro) <;> (first | assumption | (refine below_later ?_ (by assumption); first | assumption | (simp only [*]; done) | (go_grown; done)) | (refine cell_later (by assumption) ?_; first | assumption | (simp only [*]; done) | (simp [go_sem]; done)) | (go_grown; done) | (simp [go_sem]; done))))))
      clear hK K
      try simp only [Act.put, List.setIfInBounds_toArray, List.set_cons_zero, List.set_cons_succ]
      refine wpAnyH_take (i := 15) (oi := ?oiq1x16) (v := ?vq1x16) ?hiq1x16 (by kernel_rfl) (by kernel_rfl) (by kernel_rfl) ?hQq1x16 (Or.inl ⟨?hwq1x16, ?hyq1x16⟩) (by assumption) ?restq1x16
      case hiq1x16 => simp only [List.getElem?_toArray, List.getElem?_cons_succ, List.getElem?_cons_zero]; exact rfl
      case hQq1x16 => exact fun _ _ _ h => h
      case hwq1x16 => rfl
      case hyq1x16 => ((intro w hSw; (try dsimp only at hSw); go_simp) <;> with_reducible rfl)
      try simp only [Act.put, List.setIfInBounds_toArray, List.set_cons_zero, List.set_cons_succ]
      refine wpAnyH_take (i := 16) (oi := ?oiq1x17) (v := ?vq1x17) ?hiq1x17 (by kernel_rfl) (by kernel_rfl) (by kernel_rfl) ?hQq1x17 (Or.inl ⟨?hwq1x17, ?hyq1x17⟩) (by assumption) ?restq1x17
      case hiq1x17 => simp only [List.getElem?_toArray, List.getElem?_cons_succ, List.getElem?_cons_zero]; exact rfl
      case hQq1x17 => exact fun _ _ _ h => h
      case hwq1x17 => rfl
      case hyq1x17 => ((intro w hSw; (try dsimp only at hSw); go_simp) <;> with_reducible rfl)
      try simp only [Act.put, List.setIfInBounds_toArray, List.set_cons_zero, List.set_cons_succ]
      refine wpAnyH_take (i := 17) (oi := ?oiq1x18) (v := ?vq1x18) ?hiq1x18 (by kernel_rfl) (by kernel_rfl) (by kernel_rfl) ?hQq1x18 (Or.inl ⟨?hwq1x18, ?hyq1x18⟩) (by assumption) ?restq1x18
      case hiq1x18 => simp only [List.getElem?_toArray, List.getElem?_cons_succ, List.getElem?_cons_zero]; exact rfl
      case hQq1x18 => exact fun _ _ _ h => h
      case hwq1x18 => rfl
      case hyq1x18 => ((intro w hSw; (try dsimp only at hSw); go_simp) <;> with_reducible rfl)
      try simp only [Act.put, List.setIfInBounds_toArray, List.set_cons_zero, List.set_cons_succ]
      refine wpAnyH_take (i := 18) (oi := ?oiq1x19) (v := ?vq1x19) ?hiq1x19 (by kernel_rfl) (by kernel_rfl) (by kernel_rfl) ?hQq1x19 (Or.inl ⟨?hwq1x19, ?hyq1x19⟩) (by assumption) ?restq1x19
      case hiq1x19 => simp only [List.getElem?_toArray, List.getElem?_cons_succ, List.getElem?_cons_zero]; exact rfl
      case hQq1x19 => exact fun _ _ _ h => h
      case hwq1x19 => rfl
      case hyq1x19 => ((intro w hSw; (try dsimp only at hSw); go_simp) <;> with_reducible rfl)
      try simp only [Act.put, List.setIfInBounds_toArray, List.set_cons_zero, List.set_cons_succ]
      refine wpAnyH_ready (rs := [19]) (by kernel_rfl) (by simp) ?_
      refine AllReadyH.cons (o := ?oq1x20) ?hoq1x20 (fun K hK => ?stepq1x20) ?moreq1x20
      case hoq1x20 => simp only [List.getElem?_toArray, List.getElem?_cons_succ, List.getElem?_cons_zero]; exact rfl
      case moreq1x20 => exact AllReadyH.nil
      go_simp
      (go_at_call 16; refine (HY.out _).mono ?_; rintro e w' ⟨rfl, hb⟩)
      refine hK.out _ _ ?hSq1x20 (fun hHeld => ?restq1x20)
      case hSq1x20 => ((first | assumption | ((((try dsimp only); repeat' apply And.intro) <;> (first | assumption | (refine below_later ?_ (by assumption); first | assumption | (simp only [*]; done) | (go_grown; done)) | (refine cell_later (by assumption) ?_; first | assumption | (simp only [*]; done) | (simp [go_sem]; done)) | (go_grown; done) | (simp [go_sem]; done))))))
      clear hK K
      try simp only [Act.put, List.setIfInBounds_toArray, List.set_cons_zero, List.set_cons_succ]
      refine wpAnyH_take (i := 20) (oi := ?oiq1x21) (v := ?vq1x21) ?hiq1x21 (by kernel_rfl) (by kernel_rfl) (by kernel_rfl) ?hQq1x21 (Or.inl ⟨?hwq1x21, ?hyq1x21⟩) (by assumption) ?restq1x21
      case hiq1x21 => simp only [List.getElem?_toArray, List.getElem?_cons_succ, List.getElem?_cons_zero]; exact rfl
      case hQq1x21 => exact fun _ _ _ h => h
      case hwq1x21 => rfl
      case hyq1x21 => ((intro w hSw; (try dsimp only at hSw); go_simp) <;> with_reducible rfl)
      try simp only [Act.put, List.setIfInBounds_toArray, List.set_cons_zero, List.set_cons_succ]
      refine wpAnyH_take (i := 21) (oi := ?oiq1x22) (v := _) ?hiq1x22 (by kernel_rfl) (by kernel_rfl) (by kernel_rfl) ?hQq1x22 (Or.inr ⟨?hwq1x22, rfl⟩) (by assumption) ?restq1x22
      case hiq1x22 => simp only [List.getElem?_toArray, List.getElem?_cons_succ, List.getElem?_cons_zero]; exact rfl
      case hQq1x22 => exact fun _ _ _ h => h
      case hwq1x22 => rfl
      try simp only [Act.put, List.setIfInBounds_toArray, List.set_cons_zero, List.set_cons_succ]
      refine wpAnyH_take (i := 23) (oi := ?oiq1x23) (v := _) ?hiq1x23 (by kernel_rfl) (by kernel_rfl) (by kernel_rfl) ?hQq1x23 (Or.inr ⟨?hwq1x23, rfl⟩) (by assumption) ?restq1x23
      case hiq1x23 => simp only [List.getElem?_toArray, List.getElem?_cons_succ, List.getElem?_cons_zero]; exact rfl
      case hQq1x23 => exact fun _ _ _ h => h
      case hwq1x23 => rfl
      try simp only [Act.put, List.setIfInBounds_toArray, List.set_cons_zero, List.set_cons_succ]
      refine wpAnyH_ready (rs := [22]) (by kernel_rfl) (by simp) ?_
      refine AllReadyH.cons (o := ?oq1x24) ?hoq1x24 (fun K hK => ?stepq1x24) ?moreq1x24
      case hoq1x24 => simp only [List.getElem?_toArray, List.getElem?_cons_succ, List.getElem?_cons_zero]; exact rfl
      case moreq1x24 => exact AllReadyH.nil
      go_simp
      refine hK.out _ _ ?hSq1x24 (fun hHeld => ?restq1x24)
      case hSq1x24 => ((first | assumption | ((((try dsimp only); repeat' apply And.intro) <;> (first | assumption | (refine below_later ?_ (by assumption); first | assumption | (simp only [*]; done) | (go_grown; done)) | (refine cell_later (by assumption) ?_; first | assumption | (simp only [*]; done) | (simp [go_sem]; done)) | (go_grown; done) | (simp [go_sem]; done))))))
      clear hK K
      try simp only [Act.put, List.setIfInBounds_toArray, List.set_cons_zero, List.set_cons_succ]
      refine wpAnyH_take (i := 24) (oi := ?oiq1x25) (v := _) ?hiq1x25 (by kernel_rfl) (by kernel_rfl) (by kernel_rfl) ?hQq1x25 (Or.inr ⟨?hwq1x25, rfl⟩) (by assumption) ?restq1x25
      case hiq1x25 => simp only [List.getElem?_toArray, List.getElem?_cons_succ, List.getElem?_cons_zero]; exact rfl
      case hQq1x25 => exact fun _ _ _ h => h
      case hwq1x25 => rfl
      try simp only [Act.put, List.setIfInBounds_toArray, List.set_cons_zero, List.set_cons_succ]
      refine wpAnyH_take (i := 25) (oi := ?oiq1x26) (v := ?vq1x26) ?hiq1x26 (by kernel_rfl) (by kernel_rfl) (by kernel_rfl) ?hQq1x26 (Or.inl ⟨?hwq1x26, ?hyq1x26⟩) (by assumption) ?restq1x26
      case hiq1x26 => simp only [List.getElem?_toArray, List.getElem?_cons_succ, List.getElem?_cons_zero]; exact rfl
      case hQq1x26 => exact fun _ _ _ h => h
      case hwq1x26 => rfl
      case hyq1x26 => ((intro w hSw; (try dsimp only at hSw); go_simp) <;> with_reducible rfl)
      try simp only [Act.put, List.setIfInBounds_toArray, List.set_cons_zero, List.set_cons_succ]
      refine wpAnyH_take (i := 26) (oi := ?oiq1x27) (v := ?vq1x27) ?hiq1x27 (by kernel_rfl) (by kernel_rfl) (by kernel_rfl) ?hQq1x27 (Or.inl ⟨?hwq1x27, ?hyq1x27⟩) (by assumption) ?restq1x27
      case hiq1x27 => simp only [List.getElem?_toArray, List.getElem?_cons_succ, List.getElem?_cons_zero]; exact rfl
      case hQq1x27 => exact fun _ _ _ h => h
      case hwq1x27 => rfl
      case hyq1x27 => ((intro w hSw; (try dsimp only at hSw); go_simp) <;> with_reducible rfl)
      try simp only [Act.put, List.setIfInBounds_toArray, List.set_cons_zero, List.set_cons_succ]
      refine wpAnyH_done (by kernel_rfl) ?_ _
      have hB := hHeld.1
      have hcl := hE0.below hB
      clear hHeld hE0 ce0 ce1 ce2 ce3 ce4 ce5 ce6 ce7 cx0 cx1 cx2 cx3 cx4 cx5 cx6 cx7 cy0 cy1 cy2 cy3 cy4 cy5 cy6 cy7
      obtain ⟨ce0, ce1, ce2, ce3, ce4, ce5, ce6, ce7⟩ := hcl
      go_upto_region 10 with fail
      rcases Bool.eq_false_or_eq_true (cmdB (f 0) (f 1) (f 2) (f 3) (f 4) (f 5) (f 6) (f 7)) with hk | hk
      · have hlen := HL.out hk
        have HR2 := Lib.hid (HR.out hk).1
        have hne : sb.toList.isEmpty = false := by
          have h0 : sb.toList ≠ [] := fun h => by
            have := congrArg List.length h
            rw [ByteArray.toList_eq, Array.length_toList, List.length_nil] at this
            have h2 : sb.data.size = sb.size := rfl
            omega
          simpa using h0
        have hne2 : (sb.toList = []) = False := by simp at hne; simp [hne]
        have hl15 : ((sb.size : Int) == 15) = true := by rw [hlen]; rfl
        clear hlen hk
        refine wp_region_held_drew (S := (fun w' => Below W.heap.size W w' ∧ w'.cell? ⟨G1, 0, none⟩ = some (.int .i64 (f 0)) ∧ w'.cell? ⟨G1, 1, none⟩ = some (.int .i64 (f 1)) ∧ w'.cell? ⟨G1, 2, none⟩ = some (.int .i64 (f 2)) ∧ w'.cell? ⟨G1, 3, none⟩ = some (.int .i64 (f 3)) ∧ w'.cell? ⟨G1, 4, none⟩ = some (.int .i64 (f 4)) ∧ w'.cell? ⟨G1, 5, none⟩ = some (.int .i64 (f 5)) ∧ w'.cell? ⟨G1, 6, none⟩ = some (.int .i64 (f 6)) ∧ w'.cell? ⟨G1, 7, none⟩ = some (.int .i64 (f 7)))) (by kernel_rfl) ?hSq2xs (fun hHeld => ?restq2xs)
        case hSq2xs => ((first | assumption | ((((try dsimp only); repeat' apply And.intro) <;> (first | assumption | (refine below_later ?_ (by assumption); first | assumption | (simp only [*]; done) | (go_grown; done)) | (refine cell_later (by assumption) ?_; first | assumption | (simp only [*]; done) | (simp [go_sem]; done)) | (go_grown; done) | (simp [go_sem]; done))))))
        refine wpAnyH_take (i := 0) (oi := ?oiq2x1) (v := ?vq2x1) ?hiq2x1 (by kernel_rfl) (by kernel_rfl) (by kernel_rfl) ?hQq2x1 (Or.inl ⟨?hwq2x1, ?hyq2x1⟩) (by assumption) ?restq2x1
        case hiq2x1 => simp only [List.getElem?_toArray, List.getElem?_cons_succ, List.getElem?_cons_zero]; exact rfl
        case hQq2x1 => exact fun _ _ _ h => h
        case hwq2x1 => rfl
        case hyq2x1 => ((intro w hSw; (try dsimp only at hSw); go_simp) <;> with_reducible rfl)
        try simp only [Act.put, List.setIfInBounds_toArray, List.set_cons_zero, List.set_cons_succ]
        refine wpAnyH_take (i := 1) (oi := ?oiq2x2) (v := ?vq2x2) ?hiq2x2 (by kernel_rfl) (by kernel_rfl) (by kernel_rfl) ?hQq2x2 (Or.inl ⟨?hwq2x2, ?hyq2x2⟩) (by assumption) ?restq2x2
        case hiq2x2 => simp only [List.getElem?_toArray, List.getElem?_cons_succ, List.getElem?_cons_zero]; exact rfl
        case hQq2x2 => exact fun _ _ _ h => h
        case hwq2x2 => rfl
        case hyq2x2 => ((intro w hSw; (try dsimp only at hSw); go_simp) <;> with_reducible rfl)
        try simp only [Act.put, List.setIfInBounds_toArray, List.set_cons_zero, List.set_cons_succ]
        refine wpAnyH_take (i := 2) (oi := ?oiq2x3) (v := ?vq2x3) ?hiq2x3 (by kernel_rfl) (by kernel_rfl) (by kernel_rfl) ?hQq2x3 (Or.inl ⟨?hwq2x3, ?hyq2x3⟩) (by assumption) ?restq2x3
        case hiq2x3 => simp only [List.getElem?_toArray, List.getElem?_cons_succ, List.getElem?_cons_zero]; exact rfl
        case hQq2x3 => exact fun _ _ _ h => h
        case hwq2x3 => rfl
        case hyq2x3 => ((intro w hSw; (try dsimp only at hSw); go_simp) <;> with_reducible rfl)
        try simp only [Act.put, List.setIfInBounds_toArray, List.set_cons_zero, List.set_cons_succ]
        refine wpAnyH_take (i := 3) (oi := ?oiq2x4) (v := _) ?hiq2x4 (by kernel_rfl) (by kernel_rfl) (by kernel_rfl) ?hQq2x4 (Or.inr ⟨?hwq2x4, rfl⟩) (by assumption) ?restq2x4
        case hiq2x4 => simp only [List.getElem?_toArray, List.getElem?_cons_succ, List.getElem?_cons_zero]; exact rfl
        case hQq2x4 => exact fun _ _ _ h => h
        case hwq2x4 => rfl
        try simp only [Act.put, List.setIfInBounds_toArray, List.set_cons_zero, List.set_cons_succ]
        refine wpAnyH_ready (rs := [4]) (by kernel_rfl) (by simp) ?_
        refine AllReadyH.cons (o := ?oq2x5) ?hoq2x5 (fun K hK => ?stepq2x5) ?moreq2x5
        case hoq2x5 => simp only [List.getElem?_toArray, List.getElem?_cons_succ, List.getElem?_cons_zero]; exact rfl
        case moreq2x5 => exact AllReadyH.nil
        go_simp
        refine hK.out _ _ ?hSq2x5 (fun hHeld => ?restq2x5)
        case hSq2x5 => ((first | assumption | ((((try dsimp only); repeat' apply And.intro) <;> (first | assumption | (refine below_later ?_ (by assumption); first | assumption | (simp only [*]; done) | (go_grown; done)) | (refine cell_later (by assumption) ?_; first | assumption | (simp only [*]; done) | (simp [go_sem]; done)) | (go_grown; done) | (simp [go_sem]; done))))))
        clear hK K
        try simp only [Act.put, List.setIfInBounds_toArray, List.set_cons_zero, List.set_cons_succ]
        refine wpAnyH_take (i := 5) (oi := ?oiq2x6) (v := _) ?hiq2x6 (by kernel_rfl) (by kernel_rfl) (by kernel_rfl) ?hQq2x6 (Or.inr ⟨?hwq2x6, rfl⟩) (by assumption) ?restq2x6
        case hiq2x6 => simp only [List.getElem?_toArray, List.getElem?_cons_succ, List.getElem?_cons_zero]; exact rfl
        case hQq2x6 => exact fun _ _ _ h => h
        case hwq2x6 => rfl
        try simp only [Act.put, List.setIfInBounds_toArray, List.set_cons_zero, List.set_cons_succ]
        refine wpAnyH_take (i := 6) (oi := ?oiq2x7) (v := ?vq2x7) ?hiq2x7 (by kernel_rfl) (by kernel_rfl) (by kernel_rfl) ?hQq2x7 (Or.inl ⟨?hwq2x7, ?hyq2x7⟩) (by assumption) ?restq2x7
        case hiq2x7 => simp only [List.getElem?_toArray, List.getElem?_cons_succ, List.getElem?_cons_zero]; exact rfl
        case hQq2x7 => exact fun _ _ _ h => h
        case hwq2x7 => rfl
        case hyq2x7 => ((intro w hSw; (try dsimp only at hSw); go_simp) <;> with_reducible rfl)
        try simp only [Act.put, List.setIfInBounds_toArray, List.set_cons_zero, List.set_cons_succ]
        refine wpAnyH_take (i := 7) (oi := ?oiq2x8) (v := ?vq2x8) ?hiq2x8 (by kernel_rfl) (by kernel_rfl) (by kernel_rfl) ?hQq2x8 (Or.inl ⟨?hwq2x8, ?hyq2x8⟩) (by assumption) ?restq2x8
        case hiq2x8 => simp only [List.getElem?_toArray, List.getElem?_cons_succ, List.getElem?_cons_zero]; exact rfl
        case hQq2x8 => exact fun _ _ _ h => h
        case hwq2x8 => rfl
        case hyq2x8 => ((intro w hSw; (try dsimp only at hSw); go_simp) <;> with_reducible rfl)
        try simp only [Act.put, List.setIfInBounds_toArray, List.set_cons_zero, List.set_cons_succ]
        refine wpAnyH_take (i := 8) (oi := ?oiq2x9) (v := ?vq2x9) ?hiq2x9 (by kernel_rfl) (by kernel_rfl) (by kernel_rfl) ?hQq2x9 (Or.inl ⟨?hwq2x9, ?hyq2x9⟩) (by assumption) ?restq2x9
        case hiq2x9 => simp only [List.getElem?_toArray, List.getElem?_cons_succ, List.getElem?_cons_zero]; exact rfl
        case hQq2x9 => exact fun _ _ _ h => h
        case hwq2x9 => rfl
        case hyq2x9 => ((intro w hSw; (try dsimp only at hSw); go_simp) <;> with_reducible rfl)
        try simp only [Act.put, List.setIfInBounds_toArray, List.set_cons_zero, List.set_cons_succ]
        refine wpAnyH_take (i := 9) (oi := ?oiq2x10) (v := ?vq2x10) ?hiq2x10 (by kernel_rfl) (by kernel_rfl) (by kernel_rfl) ?hQq2x10 (Or.inl ⟨?hwq2x10, ?hyq2x10⟩) (by assumption) ?restq2x10
        case hiq2x10 => simp only [List.getElem?_toArray, List.getElem?_cons_succ, List.getElem?_cons_zero]; exact rfl
        case hQq2x10 => exact fun _ _ _ h => h
        case hwq2x10 => rfl
        case hyq2x10 => ((intro w hSw; (try dsimp only at hSw); go_simp) <;> with_reducible rfl)
        try simp only [Act.put, List.setIfInBounds_toArray, List.set_cons_zero, List.set_cons_succ]
        refine wpAnyH_take (i := 10) (oi := ?oiq2x11) (v := ?vq2x11) ?hiq2x11 (by kernel_rfl) (by kernel_rfl) (by kernel_rfl) ?hQq2x11 (Or.inl ⟨?hwq2x11, ?hyq2x11⟩) (by assumption) ?restq2x11
        case hiq2x11 => simp only [List.getElem?_toArray, List.getElem?_cons_succ, List.getElem?_cons_zero]; exact rfl
        case hQq2x11 => exact fun _ _ _ h => h
        case hwq2x11 => rfl
        case hyq2x11 => ((intro w hSw; (try dsimp only at hSw); go_simp) <;> with_reducible rfl)
        try simp only [Act.put, List.setIfInBounds_toArray, List.set_cons_zero, List.set_cons_succ]
        refine wpAnyH_take (i := 11) (oi := ?oiq2x12) (v := ?vq2x12) ?hiq2x12 (by kernel_rfl) (by kernel_rfl) (by kernel_rfl) ?hQq2x12 (Or.inl ⟨?hwq2x12, ?hyq2x12⟩) (by assumption) ?restq2x12
        case hiq2x12 => simp only [List.getElem?_toArray, List.getElem?_cons_succ, List.getElem?_cons_zero]; exact rfl
        case hQq2x12 => exact fun _ _ _ h => h
        case hwq2x12 => rfl
        case hyq2x12 => ((intro w hSw; (try dsimp only at hSw); go_simp) <;> with_reducible rfl)
        try simp only [Act.put, List.setIfInBounds_toArray, List.set_cons_zero, List.set_cons_succ]
        refine wpAnyH_take (i := 12) (oi := ?oiq2x13) (v := ?vq2x13) ?hiq2x13 (by kernel_rfl) (by kernel_rfl) (by kernel_rfl) ?hQq2x13 (Or.inl ⟨?hwq2x13, ?hyq2x13⟩) (by assumption) ?restq2x13
        case hiq2x13 => simp only [List.getElem?_toArray, List.getElem?_cons_succ, List.getElem?_cons_zero]; exact rfl
        case hQq2x13 => exact fun _ _ _ h => h
        case hwq2x13 => rfl
        case hyq2x13 => ((intro w hSw; (try dsimp only at hSw); go_simp) <;> with_reducible rfl)
        try simp only [Act.put, List.setIfInBounds_toArray, List.set_cons_zero, List.set_cons_succ]
        refine wpAnyH_take (i := 14) (oi := ?oiq2x14) (v := ?vq2x14) ?hiq2x14 (by kernel_rfl) (by kernel_rfl) (by kernel_rfl) ?hQq2x14 (Or.inl ⟨?hwq2x14, ?hyq2x14⟩) (by assumption) ?restq2x14
        case hiq2x14 => simp only [List.getElem?_toArray, List.getElem?_cons_succ, List.getElem?_cons_zero]; exact rfl
        case hQq2x14 => exact fun _ _ _ h => h
        case hwq2x14 => rfl
        case hyq2x14 => ((intro w hSw; (try dsimp only at hSw); go_simp) <;> with_reducible rfl)
        try simp only [Act.put, List.setIfInBounds_toArray, List.set_cons_zero, List.set_cons_succ]
        refine wpAnyH_ready (rs := [13]) (by kernel_rfl) (by simp) ?_
        refine AllReadyH.cons (o := ?oq2x15) ?hoq2x15 (fun K hK => ?stepq2x15) ?moreq2x15
        case hoq2x15 => simp only [List.getElem?_toArray, List.getElem?_cons_succ, List.getElem?_cons_zero]; exact rfl
        case moreq2x15 => exact AllReadyH.nil
        go_simp
        (go_at_call 20; refine (HR2.out _).mono ?_; rintro e w' ⟨rfl, hb⟩)
        refine hK.out _ _ ?hSq2x15 (fun hHeld => ?restq2x15)
        case hSq2x15 => ((first | assumption | ((((try dsimp only); repeat' apply And.intro) <;> (first | assumption | (refine below_later ?_ (by assumption); first | assumption | (simp only [*]; done) | (go_grown; done)) | (refine cell_later (by assumption) ?_; first | assumption | (simp only [*]; done) | (simp [go_sem]; done)) | (go_grown; done) | (simp [go_sem]; done))))))
        clear hK K
        try simp only [Act.put, List.setIfInBounds_toArray, List.set_cons_zero, List.set_cons_succ]
        refine wpAnyH_take (i := 15) (oi := ?oiq2x16) (v := ?vq2x16) ?hiq2x16 (by kernel_rfl) (by kernel_rfl) (by kernel_rfl) ?hQq2x16 (Or.inl ⟨?hwq2x16, ?hyq2x16⟩) (by assumption) ?restq2x16
        case hiq2x16 => simp only [List.getElem?_toArray, List.getElem?_cons_succ, List.getElem?_cons_zero]; exact rfl
        case hQq2x16 => exact fun _ _ _ h => h
        case hwq2x16 => rfl
        case hyq2x16 => ((intro w hSw; (try dsimp only at hSw); go_simp) <;> with_reducible rfl)
        try simp only [Act.put, List.setIfInBounds_toArray, List.set_cons_zero, List.set_cons_succ]
        refine wpAnyH_take (i := 16) (oi := ?oiq2x17) (v := ?vq2x17) ?hiq2x17 (by kernel_rfl) (by kernel_rfl) (by kernel_rfl) ?hQq2x17 (Or.inl ⟨?hwq2x17, ?hyq2x17⟩) (by assumption) ?restq2x17
        case hiq2x17 => simp only [List.getElem?_toArray, List.getElem?_cons_succ, List.getElem?_cons_zero]; exact rfl
        case hQq2x17 => exact fun _ _ _ h => h
        case hwq2x17 => rfl
        case hyq2x17 => ((intro w hSw; (try dsimp only at hSw); go_simp) <;> with_reducible rfl)
        try simp only [Act.put, List.setIfInBounds_toArray, List.set_cons_zero, List.set_cons_succ]
        refine wpAnyH_take (i := 17) (oi := ?oiq2x18) (v := ?vq2x18) ?hiq2x18 (by kernel_rfl) (by kernel_rfl) (by kernel_rfl) ?hQq2x18 (Or.inl ⟨?hwq2x18, ?hyq2x18⟩) (by assumption) ?restq2x18
        case hiq2x18 => simp only [List.getElem?_toArray, List.getElem?_cons_succ, List.getElem?_cons_zero]; exact rfl
        case hQq2x18 => exact fun _ _ _ h => h
        case hwq2x18 => rfl
        case hyq2x18 => ((intro w hSw; (try dsimp only at hSw); go_simp) <;> with_reducible rfl)
        try simp only [Act.put, List.setIfInBounds_toArray, List.set_cons_zero, List.set_cons_succ]
        refine wpAnyH_take (i := 18) (oi := ?oiq2x19) (v := ?vq2x19) ?hiq2x19 (by kernel_rfl) (by kernel_rfl) (by kernel_rfl) ?hQq2x19 (Or.inl ⟨?hwq2x19, ?hyq2x19⟩) (by assumption) ?restq2x19
        case hiq2x19 => simp only [List.getElem?_toArray, List.getElem?_cons_succ, List.getElem?_cons_zero]; exact rfl
        case hQq2x19 => exact fun _ _ _ h => h
        case hwq2x19 => rfl
        case hyq2x19 => ((intro w hSw; (try dsimp only at hSw); go_simp) <;> with_reducible rfl)
        try simp only [Act.put, List.setIfInBounds_toArray, List.set_cons_zero, List.set_cons_succ]
        refine wpAnyH_done (by kernel_rfl) ?_ _
        have hfin := below_later' hw hHeld.1
        clear hHeld
        go_wp2_with fail
        go_ret
        exact ⟨by first | rfl | simp, hfin⟩
      · have hnil := HN.out hk
        obtain rfl : sb = ⟨#[]⟩ := hnil
        have HF2 : Hid (∀ w, Calls Try.prog 16 #[.agg #[.int .i64 (f 0), .int .i64 (f 1), .int .i64 (f 2), .int .i64 (f 3), .int .i64 (f 4), .int .i64 (f 5), .int .i64 (f 6), .int .i64 (f 7)]] w fun e w' => e = .returned (.bool false) ∧ Below w.heap.size w w') := Lib.hid (fun w => by
          have := HF.out w
          rw [hk] at this
          exact this)
        clear hk
        refine wp_region_held_drew (S := (fun w' => Below W.heap.size W w' ∧ w'.cell? ⟨G1, 0, none⟩ = some (.int .i64 (f 0)) ∧ w'.cell? ⟨G1, 1, none⟩ = some (.int .i64 (f 1)) ∧ w'.cell? ⟨G1, 2, none⟩ = some (.int .i64 (f 2)) ∧ w'.cell? ⟨G1, 3, none⟩ = some (.int .i64 (f 3)) ∧ w'.cell? ⟨G1, 4, none⟩ = some (.int .i64 (f 4)) ∧ w'.cell? ⟨G1, 5, none⟩ = some (.int .i64 (f 5)) ∧ w'.cell? ⟨G1, 6, none⟩ = some (.int .i64 (f 6)) ∧ w'.cell? ⟨G1, 7, none⟩ = some (.int .i64 (f 7)))) (by kernel_rfl) ?hSq3xs (fun hHeld => ?restq3xs)
        case hSq3xs => ((first | assumption | ((((try dsimp only); repeat' apply And.intro) <;> (first | assumption | (refine below_later ?_ (by assumption); first | assumption | (simp only [*]; done) | (go_grown; done)) | (refine cell_later (by assumption) ?_; first | assumption | (simp only [*]; done) | (simp [go_sem]; done)) | (go_grown; done) | (simp [go_sem]; done))))))
        refine wpAnyH_take (i := 0) (oi := ?oiq3x1) (v := ?vq3x1) ?hiq3x1 (by kernel_rfl) (by kernel_rfl) (by kernel_rfl) ?hQq3x1 (Or.inl ⟨?hwq3x1, ?hyq3x1⟩) (by assumption) ?restq3x1
        case hiq3x1 => simp only [List.getElem?_toArray, List.getElem?_cons_succ, List.getElem?_cons_zero]; exact rfl
        case hQq3x1 => exact fun _ _ _ h => h
        case hwq3x1 => rfl
        case hyq3x1 => ((intro w hSw; (try dsimp only at hSw); go_simp) <;> with_reducible rfl)
        try simp only [Act.put, List.setIfInBounds_toArray, List.set_cons_zero, List.set_cons_succ]
        refine wpAnyH_take (i := 1) (oi := ?oiq3x2) (v := ?vq3x2) ?hiq3x2 (by kernel_rfl) (by kernel_rfl) (by kernel_rfl) ?hQq3x2 (Or.inl ⟨?hwq3x2, ?hyq3x2⟩) (by assumption) ?restq3x2
        case hiq3x2 => simp only [List.getElem?_toArray, List.getElem?_cons_succ, List.getElem?_cons_zero]; exact rfl
        case hQq3x2 => exact fun _ _ _ h => h
        case hwq3x2 => rfl
        case hyq3x2 => ((intro w hSw; (try dsimp only at hSw); go_simp) <;> with_reducible rfl)
        try simp only [Act.put, List.setIfInBounds_toArray, List.set_cons_zero, List.set_cons_succ]
        refine wpAnyH_take (i := 2) (oi := ?oiq3x3) (v := ?vq3x3) ?hiq3x3 (by kernel_rfl) (by kernel_rfl) (by kernel_rfl) ?hQq3x3 (Or.inl ⟨?hwq3x3, ?hyq3x3⟩) (by assumption) ?restq3x3
        case hiq3x3 => simp only [List.getElem?_toArray, List.getElem?_cons_succ, List.getElem?_cons_zero]; exact rfl
        case hQq3x3 => exact fun _ _ _ h => h
        case hwq3x3 => rfl
        case hyq3x3 => ((intro w hSw; (try dsimp only at hSw); go_simp) <;> with_reducible rfl)
        try simp only [Act.put, List.setIfInBounds_toArray, List.set_cons_zero, List.set_cons_succ]
        refine wpAnyH_take (i := 3) (oi := ?oiq3x4) (v := ?vq3x4) ?hiq3x4 (by kernel_rfl) (by kernel_rfl) (by kernel_rfl) ?hQq3x4 (Or.inl ⟨?hwq3x4, ?hyq3x4⟩) (by assumption) ?restq3x4
        case hiq3x4 => simp only [List.getElem?_toArray, List.getElem?_cons_succ, List.getElem?_cons_zero]; exact rfl
        case hQq3x4 => exact fun _ _ _ h => h
        case hwq3x4 => rfl
        case hyq3x4 => ((intro w hSw; (try dsimp only at hSw); go_simp) <;> with_reducible rfl)
        try simp only [Act.put, List.setIfInBounds_toArray, List.set_cons_zero, List.set_cons_succ]
        refine wpAnyH_ready (rs := [4]) (by kernel_rfl) (by simp) ?_
        refine AllReadyH.cons (o := ?oq3x5) ?hoq3x5 (fun K hK => ?stepq3x5) ?moreq3x5
        case hoq3x5 => simp only [List.getElem?_toArray, List.getElem?_cons_succ, List.getElem?_cons_zero]; exact rfl
        case moreq3x5 => exact AllReadyH.nil
        go_simp
        (go_at_call 16; refine (HF2.out _).mono ?_; rintro e w' ⟨rfl, hb⟩)
        refine hK.out _ _ ?hSq3x5 (fun hHeld => ?restq3x5)
        case hSq3x5 => ((first | assumption | ((((try dsimp only); repeat' apply And.intro) <;> (first | assumption | (refine below_later ?_ (by assumption); first | assumption | (simp only [*]; done) | (go_grown; done)) | (refine cell_later (by assumption) ?_; first | assumption | (simp only [*]; done) | (simp [go_sem]; done)) | (go_grown; done) | (simp [go_sem]; done))))))
        clear hK K
        try simp only [Act.put, List.setIfInBounds_toArray, List.set_cons_zero, List.set_cons_succ]
        refine wpAnyH_take (i := 5) (oi := ?oiq3x6) (v := ?vq3x6) ?hiq3x6 (by kernel_rfl) (by kernel_rfl) (by kernel_rfl) ?hQq3x6 (Or.inl ⟨?hwq3x6, ?hyq3x6⟩) (by assumption) ?restq3x6
        case hiq3x6 => simp only [List.getElem?_toArray, List.getElem?_cons_succ, List.getElem?_cons_zero]; exact rfl
        case hQq3x6 => exact fun _ _ _ h => h
        case hwq3x6 => rfl
        case hyq3x6 => ((intro w hSw; (try dsimp only at hSw); go_simp) <;> with_reducible rfl)
        try simp only [Act.put, List.setIfInBounds_toArray, List.set_cons_zero, List.set_cons_succ]
        refine wpAnyH_take (i := 6) (oi := ?oiq3x7) (v := ?vq3x7) ?hiq3x7 (by kernel_rfl) (by kernel_rfl) (by kernel_rfl) ?hQq3x7 (Or.inl ⟨?hwq3x7, ?hyq3x7⟩) (by assumption) ?restq3x7
        case hiq3x7 => simp only [List.getElem?_toArray, List.getElem?_cons_succ, List.getElem?_cons_zero]; exact rfl
        case hQq3x7 => exact fun _ _ _ h => h
        case hwq3x7 => rfl
        case hyq3x7 => ((intro w hSw; (try dsimp only at hSw); go_simp) <;> with_reducible rfl)
        try simp only [Act.put, List.setIfInBounds_toArray, List.set_cons_zero, List.set_cons_succ]
        refine wpAnyH_take (i := 7) (oi := ?oiq3x8) (v := ?vq3x8) ?hiq3x8 (by kernel_rfl) (by kernel_rfl) (by kernel_rfl) ?hQq3x8 (Or.inl ⟨?hwq3x8, ?hyq3x8⟩) (by assumption) ?restq3x8
        case hiq3x8 => simp only [List.getElem?_toArray, List.getElem?_cons_succ, List.getElem?_cons_zero]; exact rfl
        case hQq3x8 => exact fun _ _ _ h => h
        case hwq3x8 => rfl
        case hyq3x8 => ((intro w hSw; (try dsimp only at hSw); go_simp) <;> with_reducible rfl)
        try simp only [Act.put, List.setIfInBounds_toArray, List.set_cons_zero, List.set_cons_succ]
        refine wpAnyH_take (i := 8) (oi := ?oiq3x9) (v := _) ?hiq3x9 (by kernel_rfl) (by kernel_rfl) (by kernel_rfl) ?hQq3x9 (Or.inr ⟨?hwq3x9, rfl⟩) (by assumption) ?restq3x9
        case hiq3x9 => simp only [List.getElem?_toArray, List.getElem?_cons_succ, List.getElem?_cons_zero]; exact rfl
        case hQq3x9 => exact fun _ _ _ h => h
        case hwq3x9 => rfl
        try simp only [Act.put, List.setIfInBounds_toArray, List.set_cons_zero, List.set_cons_succ]
        refine wpAnyH_take (i := 9) (oi := ?oiq3x10) (v := _) ?hiq3x10 (by kernel_rfl) (by kernel_rfl) (by kernel_rfl) ?hQq3x10 (Or.inr ⟨?hwq3x10, rfl⟩) (by assumption) ?restq3x10
        case hiq3x10 => simp only [List.getElem?_toArray, List.getElem?_cons_succ, List.getElem?_cons_zero]; exact rfl
        case hQq3x10 => exact fun _ _ _ h => h
        case hwq3x10 => rfl
        try simp only [Act.put, List.setIfInBounds_toArray, List.set_cons_zero, List.set_cons_succ]
        refine wpAnyH_take (i := 10) (oi := ?oiq3x11) (v := _) ?hiq3x11 (by kernel_rfl) (by kernel_rfl) (by kernel_rfl) ?hQq3x11 (Or.inr ⟨?hwq3x11, rfl⟩) (by assumption) ?restq3x11
        case hiq3x11 => simp only [List.getElem?_toArray, List.getElem?_cons_succ, List.getElem?_cons_zero]; exact rfl
        case hQq3x11 => exact fun _ _ _ h => h
        case hwq3x11 => rfl
        try simp only [Act.put, List.setIfInBounds_toArray, List.set_cons_zero, List.set_cons_succ]
        refine wpAnyH_take (i := 11) (oi := ?oiq3x12) (v := _) ?hiq3x12 (by kernel_rfl) (by kernel_rfl) (by kernel_rfl) ?hQq3x12 (Or.inr ⟨?hwq3x12, rfl⟩) (by assumption) ?restq3x12
        case hiq3x12 => simp only [List.getElem?_toArray, List.getElem?_cons_succ, List.getElem?_cons_zero]; exact rfl
        case hQq3x12 => exact fun _ _ _ h => h
        case hwq3x12 => rfl
        try simp only [Act.put, List.setIfInBounds_toArray, List.set_cons_zero, List.set_cons_succ]
        refine wpAnyH_take (i := 12) (oi := ?oiq3x13) (v := _) ?hiq3x13 (by kernel_rfl) (by kernel_rfl) (by kernel_rfl) ?hQq3x13 (Or.inr ⟨?hwq3x13, rfl⟩) (by assumption) ?restq3x13
        case hiq3x13 => simp only [List.getElem?_toArray, List.getElem?_cons_succ, List.getElem?_cons_zero]; exact rfl
        case hQq3x13 => exact fun _ _ _ h => h
        case hwq3x13 => rfl
        try simp only [Act.put, List.setIfInBounds_toArray, List.set_cons_zero, List.set_cons_succ]
        refine wpAnyH_take (i := 14) (oi := ?oiq3x14) (v := _) ?hiq3x14 (by kernel_rfl) (by kernel_rfl) (by kernel_rfl) ?hQq3x14 (Or.inr ⟨?hwq3x14, rfl⟩) (by assumption) ?restq3x14
        case hiq3x14 => simp only [List.getElem?_toArray, List.getElem?_cons_succ, List.getElem?_cons_zero]; exact rfl
        case hQq3x14 => exact fun _ _ _ h => h
        case hwq3x14 => rfl
        try simp only [Act.put, List.setIfInBounds_toArray, List.set_cons_zero, List.set_cons_succ]
        refine wpAnyH_ready (rs := [13]) (by kernel_rfl) (by simp) ?_
        refine AllReadyH.cons (o := ?oq3x15) ?hoq3x15 (fun K hK => ?stepq3x15) ?moreq3x15
        case hoq3x15 => simp only [List.getElem?_toArray, List.getElem?_cons_succ, List.getElem?_cons_zero]; exact rfl
        case moreq3x15 => exact AllReadyH.nil
        go_simp
        refine hK.out _ _ ?hSq3x15 (fun hHeld => ?restq3x15)
        case hSq3x15 => ((first | assumption | ((((try dsimp only); repeat' apply And.intro) <;> (first | assumption | (refine below_later ?_ (by assumption); first | assumption | (simp only [*]; done) | (go_grown; done)) | (refine cell_later (by assumption) ?_; first | assumption | (simp only [*]; done) | (simp [go_sem]; done)) | (go_grown; done) | (simp [go_sem]; done))))))
        clear hK K
        try simp only [Act.put, List.setIfInBounds_toArray, List.set_cons_zero, List.set_cons_succ]
        refine wpAnyH_take (i := 15) (oi := ?oiq3x16) (v := _) ?hiq3x16 (by kernel_rfl) (by kernel_rfl) (by kernel_rfl) ?hQq3x16 (Or.inr ⟨?hwq3x16, rfl⟩) (by assumption) ?restq3x16
        case hiq3x16 => simp only [List.getElem?_toArray, List.getElem?_cons_succ, List.getElem?_cons_zero]; exact rfl
        case hQq3x16 => exact fun _ _ _ h => h
        case hwq3x16 => rfl
        try simp only [Act.put, List.setIfInBounds_toArray, List.set_cons_zero, List.set_cons_succ]
        refine wpAnyH_take (i := 16) (oi := ?oiq3x17) (v := _) ?hiq3x17 (by kernel_rfl) (by kernel_rfl) (by kernel_rfl) ?hQq3x17 (Or.inr ⟨?hwq3x17, rfl⟩) (by assumption) ?restq3x17
        case hiq3x17 => simp only [List.getElem?_toArray, List.getElem?_cons_succ, List.getElem?_cons_zero]; exact rfl
        case hQq3x17 => exact fun _ _ _ h => h
        case hwq3x17 => rfl
        try simp only [Act.put, List.setIfInBounds_toArray, List.set_cons_zero, List.set_cons_succ]
        refine wpAnyH_take (i := 17) (oi := ?oiq3x18) (v := ?vq3x18) ?hiq3x18 (by kernel_rfl) (by kernel_rfl) (by kernel_rfl) ?hQq3x18 (Or.inl ⟨?hwq3x18, ?hyq3x18⟩) (by assumption) ?restq3x18
        case hiq3x18 => simp only [List.getElem?_toArray, List.getElem?_cons_succ, List.getElem?_cons_zero]; exact rfl
        case hQq3x18 => exact fun _ _ _ h => h
        case hwq3x18 => rfl
        case hyq3x18 => ((intro w hSw; (try dsimp only at hSw); go_simp) <;> with_reducible rfl)
        try simp only [Act.put, List.setIfInBounds_toArray, List.set_cons_zero, List.set_cons_succ]
        refine wpAnyH_take (i := 18) (oi := ?oiq3x19) (v := ?vq3x19) ?hiq3x19 (by kernel_rfl) (by kernel_rfl) (by kernel_rfl) ?hQq3x19 (Or.inl ⟨?hwq3x19, ?hyq3x19⟩) (by assumption) ?restq3x19
        case hiq3x19 => simp only [List.getElem?_toArray, List.getElem?_cons_succ, List.getElem?_cons_zero]; exact rfl
        case hQq3x19 => exact fun _ _ _ h => h
        case hwq3x19 => rfl
        case hyq3x19 => ((intro w hSw; (try dsimp only at hSw); go_simp) <;> with_reducible rfl)
        try simp only [Act.put, List.setIfInBounds_toArray, List.set_cons_zero, List.set_cons_succ]
        refine wpAnyH_done (by kernel_rfl) ?_ _
        have hfin := below_later' hw hHeld.1
        clear hHeld
        go_wp2_with fail
        go_ret
        exact ⟨by first | rfl | simp, hfin⟩
    · skip
      refine wp_region_held_drew (S := (fun w' => Below W.heap.size W w' ∧ w'.cell? ⟨G1, 0, none⟩ = some (.int .i64 (f 0)) ∧ w'.cell? ⟨G1, 1, none⟩ = some (.int .i64 (f 1)) ∧ w'.cell? ⟨G1, 2, none⟩ = some (.int .i64 (f 2)) ∧ w'.cell? ⟨G1, 3, none⟩ = some (.int .i64 (f 3)) ∧ w'.cell? ⟨G1, 4, none⟩ = some (.int .i64 (f 4)) ∧ w'.cell? ⟨G1, 5, none⟩ = some (.int .i64 (f 5)) ∧ w'.cell? ⟨G1, 6, none⟩ = some (.int .i64 (f 6)) ∧ w'.cell? ⟨G1, 7, none⟩ = some (.int .i64 (f 7)) ∧ w'.cell? ⟨G2, 0, none⟩ = some (.int .i64 (x 0)) ∧ w'.cell? ⟨G2, 1, none⟩ = some (.int .i64 (x 1)) ∧ w'.cell? ⟨G2, 2, none⟩ = some (.int .i64 (x 2)) ∧ w'.cell? ⟨G2, 3, none⟩ = some (.int .i64 (x 3)) ∧ w'.cell? ⟨G2, 4, none⟩ = some (.int .i64 (x 4)) ∧ w'.cell? ⟨G2, 5, none⟩ = some (.int .i64 (x 5)) ∧ w'.cell? ⟨G2, 6, none⟩ = some (.int .i64 (x 6)) ∧ w'.cell? ⟨G2, 7, none⟩ = some (.int .i64 (x 7)) ∧ w'.cell? ⟨G3, 0, none⟩ = some (.int .i64 (y 0)) ∧ w'.cell? ⟨G3, 1, none⟩ = some (.int .i64 (y 1)) ∧ w'.cell? ⟨G3, 2, none⟩ = some (.int .i64 (y 2)) ∧ w'.cell? ⟨G3, 3, none⟩ = some (.int .i64 (y 3)) ∧ w'.cell? ⟨G3, 4, none⟩ = some (.int .i64 (y 4)) ∧ w'.cell? ⟨G3, 5, none⟩ = some (.int .i64 (y 5)) ∧ w'.cell? ⟨G3, 6, none⟩ = some (.int .i64 (y 6)) ∧ w'.cell? ⟨G3, 7, none⟩ = some (.int .i64 (y 7)))) (by kernel_rfl) ?hSq4xs (fun hHeld => ?restq4xs)
      case hSq4xs => ((first | assumption | ((((try dsimp only); repeat' apply And.intro) <;> (first | assumption | (refine below_later ?_ (by assumption); first | assumption | (simp only [*]; done) | (go_grown; done)) | (refine cell_later (by assumption) ?_; first | assumption | (simp only [*]; done) | (simp [go_sem]; done)) | (go_grown; done) | (simp [go_sem]; done))))))
      refine wpAnyH_take (i := 0) (oi := ?oiq4x1) (v := ?vq4x1) ?hiq4x1 (by kernel_rfl) (by kernel_rfl) (by kernel_rfl) ?hQq4x1 (Or.inl ⟨?hwq4x1, ?hyq4x1⟩) (by assumption) ?restq4x1
      case hiq4x1 => simp only [List.getElem?_toArray, List.getElem?_cons_succ, List.getElem?_cons_zero]; exact rfl
      case hQq4x1 => exact fun _ _ _ h => h
      case hwq4x1 => rfl
      case hyq4x1 => ((intro w hSw; (try dsimp only at hSw); go_simp) <;> with_reducible rfl)
      try simp only [Act.put, List.setIfInBounds_toArray, List.set_cons_zero, List.set_cons_succ]
      refine wpAnyH_take (i := 1) (oi := ?oiq4x2) (v := ?vq4x2) ?hiq4x2 (by kernel_rfl) (by kernel_rfl) (by kernel_rfl) ?hQq4x2 (Or.inl ⟨?hwq4x2, ?hyq4x2⟩) (by assumption) ?restq4x2
      case hiq4x2 => simp only [List.getElem?_toArray, List.getElem?_cons_succ, List.getElem?_cons_zero]; exact rfl
      case hQq4x2 => exact fun _ _ _ h => h
      case hwq4x2 => rfl
      case hyq4x2 => ((intro w hSw; (try dsimp only at hSw); go_simp) <;> with_reducible rfl)
      try simp only [Act.put, List.setIfInBounds_toArray, List.set_cons_zero, List.set_cons_succ]
      refine wpAnyH_ready (rs := [2]) (by kernel_rfl) (by simp) ?_
      refine AllReadyH.cons (o := ?oq4x3) ?hoq4x3 (fun K hK => ?stepq4x3) ?moreq4x3
      case hoq4x3 => simp only [List.getElem?_toArray, List.getElem?_cons_succ, List.getElem?_cons_zero]; exact rfl
      case moreq4x3 => exact AllReadyH.nil
      go_simp
      (go_at_call 17; refine (HB.out _).mono ?_; rintro e w' ⟨rfl, hb⟩)
      refine hK.out _ _ ?hSq4x3 (fun hHeld => ?restq4x3)
      case hSq4x3 => ((first | assumption | ((((try dsimp only); repeat' apply And.intro) <;> (first | assumption | (refine below_later ?_ (by assumption); first | assumption | (simp only [*]; done) | (go_grown; done)) | (refine cell_later (by assumption) ?_; first | assumption | (simp only [*]; done) | (simp [go_sem]; done)) | (go_grown; done) | (simp [go_sem]; done))))))
      clear hK K
      try simp only [Act.put, List.setIfInBounds_toArray, List.set_cons_zero, List.set_cons_succ]
      refine wpAnyH_take (i := 3) (oi := ?oiq4x4) (v := ?vq4x4) ?hiq4x4 (by kernel_rfl) (by kernel_rfl) (by kernel_rfl) ?hQq4x4 (Or.inl ⟨?hwq4x4, ?hyq4x4⟩) (by assumption) ?restq4x4
      case hiq4x4 => simp only [List.getElem?_toArray, List.getElem?_cons_succ, List.getElem?_cons_zero]; exact rfl
      case hQq4x4 => exact fun _ _ _ h => h
      case hwq4x4 => rfl
      case hyq4x4 => ((intro w hSw; (try dsimp only at hSw); go_simp) <;> with_reducible rfl)
      try simp only [Act.put, List.setIfInBounds_toArray, List.set_cons_zero, List.set_cons_succ]
      refine wpAnyH_take (i := 4) (oi := ?oiq4x5) (v := ?vq4x5) ?hiq4x5 (by kernel_rfl) (by kernel_rfl) (by kernel_rfl) ?hQq4x5 (Or.inl ⟨?hwq4x5, ?hyq4x5⟩) (by assumption) ?restq4x5
      case hiq4x5 => simp only [List.getElem?_toArray, List.getElem?_cons_succ, List.getElem?_cons_zero]; exact rfl
      case hQq4x5 => exact fun _ _ _ h => h
      case hwq4x5 => rfl
      case hyq4x5 => ((intro w hSw; (try dsimp only at hSw); go_simp) <;> with_reducible rfl)
      try simp only [Act.put, List.setIfInBounds_toArray, List.set_cons_zero, List.set_cons_succ]
      refine wpAnyH_take (i := 5) (oi := ?oiq4x6) (v := ?vq4x6) ?hiq4x6 (by kernel_rfl) (by kernel_rfl) (by kernel_rfl) ?hQq4x6 (Or.inl ⟨?hwq4x6, ?hyq4x6⟩) (by assumption) ?restq4x6
      case hiq4x6 => simp only [List.getElem?_toArray, List.getElem?_cons_succ, List.getElem?_cons_zero]; exact rfl
      case hQq4x6 => exact fun _ _ _ h => h
      case hwq4x6 => rfl
      case hyq4x6 => ((intro w hSw; (try dsimp only at hSw); go_simp) <;> with_reducible rfl)
      try simp only [Act.put, List.setIfInBounds_toArray, List.set_cons_zero, List.set_cons_succ]
      refine wpAnyH_take (i := 7) (oi := ?oiq4x7) (v := ?vq4x7) ?hiq4x7 (by kernel_rfl) (by kernel_rfl) (by kernel_rfl) ?hQq4x7 (Or.inl ⟨?hwq4x7, ?hyq4x7⟩) (by assumption) ?restq4x7
      case hiq4x7 => simp only [List.getElem?_toArray, List.getElem?_cons_succ, List.getElem?_cons_zero]; exact rfl
      case hQq4x7 => exact fun _ _ _ h => h
      case hwq4x7 => rfl
      case hyq4x7 => ((intro w hSw; (try dsimp only at hSw); go_simp) <;> with_reducible rfl)
      try simp only [Act.put, List.setIfInBounds_toArray, List.set_cons_zero, List.set_cons_succ]
      refine wpAnyH_ready (rs := [6]) (by kernel_rfl) (by simp) ?_
      refine AllReadyH.cons (o := ?oq4x8) ?hoq4x8 (fun K hK => ?stepq4x8) ?moreq4x8
      case hoq4x8 => simp only [List.getElem?_toArray, List.getElem?_cons_succ, List.getElem?_cons_zero]; exact rfl
      case moreq4x8 => exact AllReadyH.nil
      go_simp
      (go_at_call 16; refine (HO.out _).mono ?_; rintro e w' ⟨rfl, hb⟩)
      refine hK.out _ _ ?hSq4x8 (fun hHeld => ?restq4x8)
      case hSq4x8 => ((first | assumption | ((((try dsimp only); repeat' apply And.intro) <;> (first | assumption | (refine below_later ?_ (by assumption); first | assumption | (simp only [*]; done) | (go_grown; done)) | (refine cell_later (by assumption) ?_; first | assumption | (simp only [*]; done) | (simp [go_sem]; done)) | (go_grown; done) | (simp [go_sem]; done))))))
      clear hK K
      try simp only [Act.put, List.setIfInBounds_toArray, List.set_cons_zero, List.set_cons_succ]
      refine wpAnyH_ready (rs := [8]) (by kernel_rfl) (by simp) ?_
      refine AllReadyH.cons (o := ?oq4x9) ?hoq4x9 (fun K hK => ?stepq4x9) ?moreq4x9
      case hoq4x9 => simp only [List.getElem?_toArray, List.getElem?_cons_succ, List.getElem?_cons_zero]; exact rfl
      case moreq4x9 => exact AllReadyH.nil
      go_simp
      (go_at_call 14; refine (HP.out _).mono ?_; rintro e w' ⟨rfl, hb⟩)
      refine hK.out _ _ ?hSq4x9 (fun hHeld => ?restq4x9)
      case hSq4x9 => ((first | assumption | ((((try dsimp only); repeat' apply And.intro) <;> (first | assumption | (refine below_later ?_ (by assumption); first | assumption | (simp only [*]; done) | (go_grown; done)) | (refine cell_later (by assumption) ?_; first | assumption | (simp only [*]; done) | (simp [go_sem]; done)) | (go_grown; done) | (simp [go_sem]; done))))))
      clear hK K
      try simp only [Act.put, List.setIfInBounds_toArray, List.set_cons_zero, List.set_cons_succ]
      refine wpAnyH_take (i := 9) (oi := ?oiq4x10) (v := ?vq4x10) ?hiq4x10 (by kernel_rfl) (by kernel_rfl) (by kernel_rfl) ?hQq4x10 (Or.inl ⟨?hwq4x10, ?hyq4x10⟩) (by assumption) ?restq4x10
      case hiq4x10 => simp only [List.getElem?_toArray, List.getElem?_cons_succ, List.getElem?_cons_zero]; exact rfl
      case hQq4x10 => exact fun _ _ _ h => h
      case hwq4x10 => rfl
      case hyq4x10 => ((intro w hSw; (try dsimp only at hSw); go_simp) <;> with_reducible rfl)
      try simp only [Act.put, List.setIfInBounds_toArray, List.set_cons_zero, List.set_cons_succ]
      refine wpAnyH_take (i := 10) (oi := ?oiq4x11) (v := ?vq4x11) ?hiq4x11 (by kernel_rfl) (by kernel_rfl) (by kernel_rfl) ?hQq4x11 (Or.inl ⟨?hwq4x11, ?hyq4x11⟩) (by assumption) ?restq4x11
      case hiq4x11 => simp only [List.getElem?_toArray, List.getElem?_cons_succ, List.getElem?_cons_zero]; exact rfl
      case hQq4x11 => exact fun _ _ _ h => h
      case hwq4x11 => rfl
      case hyq4x11 => ((intro w hSw; (try dsimp only at hSw); go_simp) <;> with_reducible rfl)
      try simp only [Act.put, List.setIfInBounds_toArray, List.set_cons_zero, List.set_cons_succ]
      refine wpAnyH_take (i := 11) (oi := ?oiq4x12) (v := ?vq4x12) ?hiq4x12 (by kernel_rfl) (by kernel_rfl) (by kernel_rfl) ?hQq4x12 (Or.inl ⟨?hwq4x12, ?hyq4x12⟩) (by assumption) ?restq4x12
      case hiq4x12 => simp only [List.getElem?_toArray, List.getElem?_cons_succ, List.getElem?_cons_zero]; exact rfl
      case hQq4x12 => exact fun _ _ _ h => h
      case hwq4x12 => rfl
      case hyq4x12 => ((intro w hSw; (try dsimp only at hSw); go_simp) <;> with_reducible rfl)
      try simp only [Act.put, List.setIfInBounds_toArray, List.set_cons_zero, List.set_cons_succ]
      refine wpAnyH_take (i := 12) (oi := ?oiq4x13) (v := ?vq4x13) ?hiq4x13 (by kernel_rfl) (by kernel_rfl) (by kernel_rfl) ?hQq4x13 (Or.inl ⟨?hwq4x13, ?hyq4x13⟩) (by assumption) ?restq4x13
      case hiq4x13 => simp only [List.getElem?_toArray, List.getElem?_cons_succ, List.getElem?_cons_zero]; exact rfl
      case hQq4x13 => exact fun _ _ _ h => h
      case hwq4x13 => rfl
      case hyq4x13 => ((intro w hSw; (try dsimp only at hSw); go_simp) <;> with_reducible rfl)
      try simp only [Act.put, List.setIfInBounds_toArray, List.set_cons_zero, List.set_cons_succ]
      refine wpAnyH_take (i := 13) (oi := ?oiq4x14) (v := ?vq4x14) ?hiq4x14 (by kernel_rfl) (by kernel_rfl) (by kernel_rfl) ?hQq4x14 (Or.inl ⟨?hwq4x14, ?hyq4x14⟩) (by assumption) ?restq4x14
      case hiq4x14 => simp only [List.getElem?_toArray, List.getElem?_cons_succ, List.getElem?_cons_zero]; exact rfl
      case hQq4x14 => exact fun _ _ _ h => h
      case hwq4x14 => rfl
      case hyq4x14 => ((intro w hSw; (try dsimp only at hSw); go_simp) <;> with_reducible rfl)
      try simp only [Act.put, List.setIfInBounds_toArray, List.set_cons_zero, List.set_cons_succ]
      refine wpAnyH_ready (rs := [14]) (by kernel_rfl) (by simp) ?_
      refine AllReadyH.cons (o := ?oq4x15) ?hoq4x15 (fun K hK => ?stepq4x15) ?moreq4x15
      case hoq4x15 => simp only [List.getElem?_toArray, List.getElem?_cons_succ, List.getElem?_cons_zero]; exact rfl
      case moreq4x15 => exact AllReadyH.nil
      go_simp
      (go_at_call 19; refine (HS.out _).mono ?_; rintro e w' ⟨rfl, hb⟩)
      refine hK.out _ _ ?hSq4x15 (fun hHeld => ?restq4x15)
      case hSq4x15 => ((first | assumption | ((((try dsimp only); repeat' apply And.intro) <;> (first | assumption | (refine below_later ?_ (by assumption); first | assumption | (simp only [*]; done) | (go_grown; done)) | (refine cell_later (by assumption) ?_; first | assumption | (simp only [*]; done) | (simp [go_sem]; done)) | (go_grown; done) | (simp [go_sem]; done))))))
      clear hK K
      try simp only [Act.put, List.setIfInBounds_toArray, List.set_cons_zero, List.set_cons_succ]
      refine wpAnyH_take (i := 15) (oi := ?oiq4x16) (v := ?vq4x16) ?hiq4x16 (by kernel_rfl) (by kernel_rfl) (by kernel_rfl) ?hQq4x16 (Or.inl ⟨?hwq4x16, ?hyq4x16⟩) (by assumption) ?restq4x16
      case hiq4x16 => simp only [List.getElem?_toArray, List.getElem?_cons_succ, List.getElem?_cons_zero]; exact rfl
      case hQq4x16 => exact fun _ _ _ h => h
      case hwq4x16 => rfl
      case hyq4x16 => ((intro w hSw; (try dsimp only at hSw); go_simp) <;> with_reducible rfl)
      try simp only [Act.put, List.setIfInBounds_toArray, List.set_cons_zero, List.set_cons_succ]
      refine wpAnyH_take (i := 16) (oi := ?oiq4x17) (v := ?vq4x17) ?hiq4x17 (by kernel_rfl) (by kernel_rfl) (by kernel_rfl) ?hQq4x17 (Or.inl ⟨?hwq4x17, ?hyq4x17⟩) (by assumption) ?restq4x17
      case hiq4x17 => simp only [List.getElem?_toArray, List.getElem?_cons_succ, List.getElem?_cons_zero]; exact rfl
      case hQq4x17 => exact fun _ _ _ h => h
      case hwq4x17 => rfl
      case hyq4x17 => ((intro w hSw; (try dsimp only at hSw); go_simp) <;> with_reducible rfl)
      try simp only [Act.put, List.setIfInBounds_toArray, List.set_cons_zero, List.set_cons_succ]
      refine wpAnyH_take (i := 17) (oi := ?oiq4x18) (v := ?vq4x18) ?hiq4x18 (by kernel_rfl) (by kernel_rfl) (by kernel_rfl) ?hQq4x18 (Or.inl ⟨?hwq4x18, ?hyq4x18⟩) (by assumption) ?restq4x18
      case hiq4x18 => simp only [List.getElem?_toArray, List.getElem?_cons_succ, List.getElem?_cons_zero]; exact rfl
      case hQq4x18 => exact fun _ _ _ h => h
      case hwq4x18 => rfl
      case hyq4x18 => ((intro w hSw; (try dsimp only at hSw); go_simp) <;> with_reducible rfl)
      try simp only [Act.put, List.setIfInBounds_toArray, List.set_cons_zero, List.set_cons_succ]
      refine wpAnyH_take (i := 18) (oi := ?oiq4x19) (v := ?vq4x19) ?hiq4x19 (by kernel_rfl) (by kernel_rfl) (by kernel_rfl) ?hQq4x19 (Or.inl ⟨?hwq4x19, ?hyq4x19⟩) (by assumption) ?restq4x19
      case hiq4x19 => simp only [List.getElem?_toArray, List.getElem?_cons_succ, List.getElem?_cons_zero]; exact rfl
      case hQq4x19 => exact fun _ _ _ h => h
      case hwq4x19 => rfl
      case hyq4x19 => ((intro w hSw; (try dsimp only at hSw); go_simp) <;> with_reducible rfl)
      try simp only [Act.put, List.setIfInBounds_toArray, List.set_cons_zero, List.set_cons_succ]
      refine wpAnyH_ready (rs := [19]) (by kernel_rfl) (by simp) ?_
      refine AllReadyH.cons (o := ?oq4x20) ?hoq4x20 (fun K hK => ?stepq4x20) ?moreq4x20
      case hoq4x20 => simp only [List.getElem?_toArray, List.getElem?_cons_succ, List.getElem?_cons_zero]; exact rfl
      case moreq4x20 => exact AllReadyH.nil
      go_simp
      (go_at_call 16; refine (HY.out _).mono ?_; rintro e w' ⟨rfl, hb⟩)
      refine hK.out _ _ ?hSq4x20 (fun hHeld => ?restq4x20)
      case hSq4x20 => ((first | assumption | ((((try dsimp only); repeat' apply And.intro) <;> (first | assumption | (refine below_later ?_ (by assumption); first | assumption | (simp only [*]; done) | (go_grown; done)) | (refine cell_later (by assumption) ?_; first | assumption | (simp only [*]; done) | (simp [go_sem]; done)) | (go_grown; done) | (simp [go_sem]; done))))))
      clear hK K
      try simp only [Act.put, List.setIfInBounds_toArray, List.set_cons_zero, List.set_cons_succ]
      refine wpAnyH_take (i := 20) (oi := ?oiq4x21) (v := ?vq4x21) ?hiq4x21 (by kernel_rfl) (by kernel_rfl) (by kernel_rfl) ?hQq4x21 (Or.inl ⟨?hwq4x21, ?hyq4x21⟩) (by assumption) ?restq4x21
      case hiq4x21 => simp only [List.getElem?_toArray, List.getElem?_cons_succ, List.getElem?_cons_zero]; exact rfl
      case hQq4x21 => exact fun _ _ _ h => h
      case hwq4x21 => rfl
      case hyq4x21 => ((intro w hSw; (try dsimp only at hSw); go_simp) <;> with_reducible rfl)
      try simp only [Act.put, List.setIfInBounds_toArray, List.set_cons_zero, List.set_cons_succ]
      refine wpAnyH_take (i := 21) (oi := ?oiq4x22) (v := ?vq4x22) ?hiq4x22 (by kernel_rfl) (by kernel_rfl) (by kernel_rfl) ?hQq4x22 (Or.inl ⟨?hwq4x22, ?hyq4x22⟩) (by assumption) ?restq4x22
      case hiq4x22 => simp only [List.getElem?_toArray, List.getElem?_cons_succ, List.getElem?_cons_zero]; exact rfl
      case hQq4x22 => exact fun _ _ _ h => h
      case hwq4x22 => rfl
      case hyq4x22 => ((intro w hSw; (try dsimp only at hSw); go_simp) <;> with_reducible rfl)
      try simp only [Act.put, List.setIfInBounds_toArray, List.set_cons_zero, List.set_cons_succ]
      refine wpAnyH_take (i := 23) (oi := ?oiq4x23) (v := ?vq4x23) ?hiq4x23 (by kernel_rfl) (by kernel_rfl) (by kernel_rfl) ?hQq4x23 (Or.inl ⟨?hwq4x23, ?hyq4x23⟩) (by assumption) ?restq4x23
      case hiq4x23 => simp only [List.getElem?_toArray, List.getElem?_cons_succ, List.getElem?_cons_zero]; exact rfl
      case hQq4x23 => exact fun _ _ _ h => h
      case hwq4x23 => rfl
      case hyq4x23 => ((intro w hSw; (try dsimp only at hSw); go_simp) <;> with_reducible rfl)
      try simp only [Act.put, List.setIfInBounds_toArray, List.set_cons_zero, List.set_cons_succ]
      refine wpAnyH_ready (rs := [22]) (by kernel_rfl) (by simp) ?_
      refine AllReadyH.cons (o := ?oq4x24) ?hoq4x24 (fun K hK => ?stepq4x24) ?moreq4x24
      case hoq4x24 => simp only [List.getElem?_toArray, List.getElem?_cons_succ, List.getElem?_cons_zero]; exact rfl
      case moreq4x24 => exact AllReadyH.nil
      go_simp
      (go_at_call 18; refine (HK.out (by simp) _).mono ?_; rintro e w' ⟨rfl, hb⟩)
      refine hK.out _ _ ?hSq4x24 (fun hHeld => ?restq4x24)
      case hSq4x24 => ((first | assumption | ((((try dsimp only); repeat' apply And.intro) <;> (first | assumption | (refine below_later ?_ (by assumption); first | assumption | (simp only [*]; done) | (go_grown; done)) | (refine cell_later (by assumption) ?_; first | assumption | (simp only [*]; done) | (simp [go_sem]; done)) | (go_grown; done) | (simp [go_sem]; done))))))
      clear hK K
      try simp only [Act.put, List.setIfInBounds_toArray, List.set_cons_zero, List.set_cons_succ]
      refine wpAnyH_take (i := 24) (oi := ?oiq4x25) (v := ?vq4x25) ?hiq4x25 (by kernel_rfl) (by kernel_rfl) (by kernel_rfl) ?hQq4x25 (Or.inl ⟨?hwq4x25, ?hyq4x25⟩) (by assumption) ?restq4x25
      case hiq4x25 => simp only [List.getElem?_toArray, List.getElem?_cons_succ, List.getElem?_cons_zero]; exact rfl
      case hQq4x25 => exact fun _ _ _ h => h
      case hwq4x25 => rfl
      case hyq4x25 => ((intro w hSw; (try dsimp only at hSw); go_simp) <;> with_reducible rfl)
      try simp only [Act.put, List.setIfInBounds_toArray, List.set_cons_zero, List.set_cons_succ]
      refine wpAnyH_take (i := 25) (oi := ?oiq4x26) (v := ?vq4x26) ?hiq4x26 (by kernel_rfl) (by kernel_rfl) (by kernel_rfl) ?hQq4x26 (Or.inl ⟨?hwq4x26, ?hyq4x26⟩) (by assumption) ?restq4x26
      case hiq4x26 => simp only [List.getElem?_toArray, List.getElem?_cons_succ, List.getElem?_cons_zero]; exact rfl
      case hQq4x26 => exact fun _ _ _ h => h
      case hwq4x26 => rfl
      case hyq4x26 => ((intro w hSw; (try dsimp only at hSw); go_simp) <;> with_reducible rfl)
      try simp only [Act.put, List.setIfInBounds_toArray, List.set_cons_zero, List.set_cons_succ]
      refine wpAnyH_take (i := 26) (oi := ?oiq4x27) (v := ?vq4x27) ?hiq4x27 (by kernel_rfl) (by kernel_rfl) (by kernel_rfl) ?hQq4x27 (Or.inl ⟨?hwq4x27, ?hyq4x27⟩) (by assumption) ?restq4x27
      case hiq4x27 => simp only [List.getElem?_toArray, List.getElem?_cons_succ, List.getElem?_cons_zero]; exact rfl
      case hQq4x27 => exact fun _ _ _ h => h
      case hwq4x27 => rfl
      case hyq4x27 => ((intro w hSw; (try dsimp only at hSw); go_simp) <;> with_reducible rfl)
      try simp only [Act.put, List.setIfInBounds_toArray, List.set_cons_zero, List.set_cons_succ]
      refine wpAnyH_done (by kernel_rfl) ?_ _
      have hB := hHeld.1
      have hcl := hE0.below hB
      clear hHeld hE0 ce0 ce1 ce2 ce3 ce4 ce5 ce6 ce7 cx0 cx1 cx2 cx3 cx4 cx5 cx6 cx7 cy0 cy1 cy2 cy3 cy4 cy5 cy6 cy7
      obtain ⟨ce0, ce1, ce2, ce3, ce4, ce5, ce6, ce7⟩ := hcl
      go_upto_region 10 with fail
      rcases Bool.eq_false_or_eq_true (cmdB (f 0) (f 1) (f 2) (f 3) (f 4) (f 5) (f 6) (f 7)) with hk | hk
      · have hlen := HL.out hk
        have HR2 := Lib.hid (HR.out hk).1
        have hne : sb.toList.isEmpty = false := by
          have h0 : sb.toList ≠ [] := fun h => by
            have := congrArg List.length h
            rw [ByteArray.toList_eq, Array.length_toList, List.length_nil] at this
            have h2 : sb.data.size = sb.size := rfl
            omega
          simpa using h0
        have hne2 : (sb.toList = []) = False := by simp at hne; simp [hne]
        have hl15 : ((sb.size : Int) == 15) = true := by rw [hlen]; rfl
        clear hlen hk
        refine wp_region_held_drew (S := (fun w' => Below W.heap.size W w' ∧ w'.cell? ⟨G1, 0, none⟩ = some (.int .i64 (f 0)) ∧ w'.cell? ⟨G1, 1, none⟩ = some (.int .i64 (f 1)) ∧ w'.cell? ⟨G1, 2, none⟩ = some (.int .i64 (f 2)) ∧ w'.cell? ⟨G1, 3, none⟩ = some (.int .i64 (f 3)) ∧ w'.cell? ⟨G1, 4, none⟩ = some (.int .i64 (f 4)) ∧ w'.cell? ⟨G1, 5, none⟩ = some (.int .i64 (f 5)) ∧ w'.cell? ⟨G1, 6, none⟩ = some (.int .i64 (f 6)) ∧ w'.cell? ⟨G1, 7, none⟩ = some (.int .i64 (f 7)))) (by kernel_rfl) ?hSq5xs (fun hHeld => ?restq5xs)
        case hSq5xs => ((first | assumption | ((((try dsimp only); repeat' apply And.intro) <;> (first | assumption | (refine below_later ?_ (by assumption); first | assumption | (simp only [*]; done) | (go_grown; done)) | (refine cell_later (by assumption) ?_; first | assumption | (simp only [*]; done) | (simp [go_sem]; done)) | (go_grown; done) | (simp [go_sem]; done))))))
        refine wpAnyH_take (i := 0) (oi := ?oiq5x1) (v := ?vq5x1) ?hiq5x1 (by kernel_rfl) (by kernel_rfl) (by kernel_rfl) ?hQq5x1 (Or.inl ⟨?hwq5x1, ?hyq5x1⟩) (by assumption) ?restq5x1
        case hiq5x1 => simp only [List.getElem?_toArray, List.getElem?_cons_succ, List.getElem?_cons_zero]; exact rfl
        case hQq5x1 => exact fun _ _ _ h => h
        case hwq5x1 => rfl
        case hyq5x1 => ((intro w hSw; (try dsimp only at hSw); go_simp) <;> with_reducible rfl)
        try simp only [Act.put, List.setIfInBounds_toArray, List.set_cons_zero, List.set_cons_succ]
        refine wpAnyH_take (i := 1) (oi := ?oiq5x2) (v := ?vq5x2) ?hiq5x2 (by kernel_rfl) (by kernel_rfl) (by kernel_rfl) ?hQq5x2 (Or.inl ⟨?hwq5x2, ?hyq5x2⟩) (by assumption) ?restq5x2
        case hiq5x2 => simp only [List.getElem?_toArray, List.getElem?_cons_succ, List.getElem?_cons_zero]; exact rfl
        case hQq5x2 => exact fun _ _ _ h => h
        case hwq5x2 => rfl
        case hyq5x2 => ((intro w hSw; (try dsimp only at hSw); go_simp) <;> with_reducible rfl)
        try simp only [Act.put, List.setIfInBounds_toArray, List.set_cons_zero, List.set_cons_succ]
        refine wpAnyH_take (i := 2) (oi := ?oiq5x3) (v := ?vq5x3) ?hiq5x3 (by kernel_rfl) (by kernel_rfl) (by kernel_rfl) ?hQq5x3 (Or.inl ⟨?hwq5x3, ?hyq5x3⟩) (by assumption) ?restq5x3
        case hiq5x3 => simp only [List.getElem?_toArray, List.getElem?_cons_succ, List.getElem?_cons_zero]; exact rfl
        case hQq5x3 => exact fun _ _ _ h => h
        case hwq5x3 => rfl
        case hyq5x3 => ((intro w hSw; (try dsimp only at hSw); go_simp) <;> with_reducible rfl)
        try simp only [Act.put, List.setIfInBounds_toArray, List.set_cons_zero, List.set_cons_succ]
        refine wpAnyH_take (i := 3) (oi := ?oiq5x4) (v := _) ?hiq5x4 (by kernel_rfl) (by kernel_rfl) (by kernel_rfl) ?hQq5x4 (Or.inr ⟨?hwq5x4, rfl⟩) (by assumption) ?restq5x4
        case hiq5x4 => simp only [List.getElem?_toArray, List.getElem?_cons_succ, List.getElem?_cons_zero]; exact rfl
        case hQq5x4 => exact fun _ _ _ h => h
        case hwq5x4 => rfl
        try simp only [Act.put, List.setIfInBounds_toArray, List.set_cons_zero, List.set_cons_succ]
        refine wpAnyH_ready (rs := [4]) (by kernel_rfl) (by simp) ?_
        refine AllReadyH.cons (o := ?oq5x5) ?hoq5x5 (fun K hK => ?stepq5x5) ?moreq5x5
        case hoq5x5 => simp only [List.getElem?_toArray, List.getElem?_cons_succ, List.getElem?_cons_zero]; exact rfl
        case moreq5x5 => exact AllReadyH.nil
        go_simp
        refine hK.out _ _ ?hSq5x5 (fun hHeld => ?restq5x5)
        case hSq5x5 => ((first | assumption | ((((try dsimp only); repeat' apply And.intro) <;> (first | assumption | (refine below_later ?_ (by assumption); first | assumption | (simp only [*]; done) | (go_grown; done)) | (refine cell_later (by assumption) ?_; first | assumption | (simp only [*]; done) | (simp [go_sem]; done)) | (go_grown; done) | (simp [go_sem]; done))))))
        clear hK K
        try simp only [Act.put, List.setIfInBounds_toArray, List.set_cons_zero, List.set_cons_succ]
        refine wpAnyH_take (i := 5) (oi := ?oiq5x6) (v := _) ?hiq5x6 (by kernel_rfl) (by kernel_rfl) (by kernel_rfl) ?hQq5x6 (Or.inr ⟨?hwq5x6, rfl⟩) (by assumption) ?restq5x6
        case hiq5x6 => simp only [List.getElem?_toArray, List.getElem?_cons_succ, List.getElem?_cons_zero]; exact rfl
        case hQq5x6 => exact fun _ _ _ h => h
        case hwq5x6 => rfl
        try simp only [Act.put, List.setIfInBounds_toArray, List.set_cons_zero, List.set_cons_succ]
        refine wpAnyH_take (i := 6) (oi := ?oiq5x7) (v := ?vq5x7) ?hiq5x7 (by kernel_rfl) (by kernel_rfl) (by kernel_rfl) ?hQq5x7 (Or.inl ⟨?hwq5x7, ?hyq5x7⟩) (by assumption) ?restq5x7
        case hiq5x7 => simp only [List.getElem?_toArray, List.getElem?_cons_succ, List.getElem?_cons_zero]; exact rfl
        case hQq5x7 => exact fun _ _ _ h => h
        case hwq5x7 => rfl
        case hyq5x7 => ((intro w hSw; (try dsimp only at hSw); go_simp) <;> with_reducible rfl)
        try simp only [Act.put, List.setIfInBounds_toArray, List.set_cons_zero, List.set_cons_succ]
        refine wpAnyH_take (i := 7) (oi := ?oiq5x8) (v := ?vq5x8) ?hiq5x8 (by kernel_rfl) (by kernel_rfl) (by kernel_rfl) ?hQq5x8 (Or.inl ⟨?hwq5x8, ?hyq5x8⟩) (by assumption) ?restq5x8
        case hiq5x8 => simp only [List.getElem?_toArray, List.getElem?_cons_succ, List.getElem?_cons_zero]; exact rfl
        case hQq5x8 => exact fun _ _ _ h => h
        case hwq5x8 => rfl
        case hyq5x8 => ((intro w hSw; (try dsimp only at hSw); go_simp) <;> with_reducible rfl)
        try simp only [Act.put, List.setIfInBounds_toArray, List.set_cons_zero, List.set_cons_succ]
        refine wpAnyH_take (i := 8) (oi := ?oiq5x9) (v := ?vq5x9) ?hiq5x9 (by kernel_rfl) (by kernel_rfl) (by kernel_rfl) ?hQq5x9 (Or.inl ⟨?hwq5x9, ?hyq5x9⟩) (by assumption) ?restq5x9
        case hiq5x9 => simp only [List.getElem?_toArray, List.getElem?_cons_succ, List.getElem?_cons_zero]; exact rfl
        case hQq5x9 => exact fun _ _ _ h => h
        case hwq5x9 => rfl
        case hyq5x9 => ((intro w hSw; (try dsimp only at hSw); go_simp) <;> with_reducible rfl)
        try simp only [Act.put, List.setIfInBounds_toArray, List.set_cons_zero, List.set_cons_succ]
        refine wpAnyH_take (i := 9) (oi := ?oiq5x10) (v := ?vq5x10) ?hiq5x10 (by kernel_rfl) (by kernel_rfl) (by kernel_rfl) ?hQq5x10 (Or.inl ⟨?hwq5x10, ?hyq5x10⟩) (by assumption) ?restq5x10
        case hiq5x10 => simp only [List.getElem?_toArray, List.getElem?_cons_succ, List.getElem?_cons_zero]; exact rfl
        case hQq5x10 => exact fun _ _ _ h => h
        case hwq5x10 => rfl
        case hyq5x10 => ((intro w hSw; (try dsimp only at hSw); go_simp) <;> with_reducible rfl)
        try simp only [Act.put, List.setIfInBounds_toArray, List.set_cons_zero, List.set_cons_succ]
        refine wpAnyH_take (i := 10) (oi := ?oiq5x11) (v := ?vq5x11) ?hiq5x11 (by kernel_rfl) (by kernel_rfl) (by kernel_rfl) ?hQq5x11 (Or.inl ⟨?hwq5x11, ?hyq5x11⟩) (by assumption) ?restq5x11
        case hiq5x11 => simp only [List.getElem?_toArray, List.getElem?_cons_succ, List.getElem?_cons_zero]; exact rfl
        case hQq5x11 => exact fun _ _ _ h => h
        case hwq5x11 => rfl
        case hyq5x11 => ((intro w hSw; (try dsimp only at hSw); go_simp) <;> with_reducible rfl)
        try simp only [Act.put, List.setIfInBounds_toArray, List.set_cons_zero, List.set_cons_succ]
        refine wpAnyH_take (i := 11) (oi := ?oiq5x12) (v := ?vq5x12) ?hiq5x12 (by kernel_rfl) (by kernel_rfl) (by kernel_rfl) ?hQq5x12 (Or.inl ⟨?hwq5x12, ?hyq5x12⟩) (by assumption) ?restq5x12
        case hiq5x12 => simp only [List.getElem?_toArray, List.getElem?_cons_succ, List.getElem?_cons_zero]; exact rfl
        case hQq5x12 => exact fun _ _ _ h => h
        case hwq5x12 => rfl
        case hyq5x12 => ((intro w hSw; (try dsimp only at hSw); go_simp) <;> with_reducible rfl)
        try simp only [Act.put, List.setIfInBounds_toArray, List.set_cons_zero, List.set_cons_succ]
        refine wpAnyH_take (i := 12) (oi := ?oiq5x13) (v := ?vq5x13) ?hiq5x13 (by kernel_rfl) (by kernel_rfl) (by kernel_rfl) ?hQq5x13 (Or.inl ⟨?hwq5x13, ?hyq5x13⟩) (by assumption) ?restq5x13
        case hiq5x13 => simp only [List.getElem?_toArray, List.getElem?_cons_succ, List.getElem?_cons_zero]; exact rfl
        case hQq5x13 => exact fun _ _ _ h => h
        case hwq5x13 => rfl
        case hyq5x13 => ((intro w hSw; (try dsimp only at hSw); go_simp) <;> with_reducible rfl)
        try simp only [Act.put, List.setIfInBounds_toArray, List.set_cons_zero, List.set_cons_succ]
        refine wpAnyH_take (i := 14) (oi := ?oiq5x14) (v := ?vq5x14) ?hiq5x14 (by kernel_rfl) (by kernel_rfl) (by kernel_rfl) ?hQq5x14 (Or.inl ⟨?hwq5x14, ?hyq5x14⟩) (by assumption) ?restq5x14
        case hiq5x14 => simp only [List.getElem?_toArray, List.getElem?_cons_succ, List.getElem?_cons_zero]; exact rfl
        case hQq5x14 => exact fun _ _ _ h => h
        case hwq5x14 => rfl
        case hyq5x14 => ((intro w hSw; (try dsimp only at hSw); go_simp) <;> with_reducible rfl)
        try simp only [Act.put, List.setIfInBounds_toArray, List.set_cons_zero, List.set_cons_succ]
        refine wpAnyH_ready (rs := [13]) (by kernel_rfl) (by simp) ?_
        refine AllReadyH.cons (o := ?oq5x15) ?hoq5x15 (fun K hK => ?stepq5x15) ?moreq5x15
        case hoq5x15 => simp only [List.getElem?_toArray, List.getElem?_cons_succ, List.getElem?_cons_zero]; exact rfl
        case moreq5x15 => exact AllReadyH.nil
        go_simp
        (go_at_call 20; refine (HR2.out _).mono ?_; rintro e w' ⟨rfl, hb⟩)
        refine hK.out _ _ ?hSq5x15 (fun hHeld => ?restq5x15)
        case hSq5x15 => ((first | assumption | ((((try dsimp only); repeat' apply And.intro) <;> (first | assumption | (refine below_later ?_ (by assumption); first | assumption | (simp only [*]; done) | (go_grown; done)) | (refine cell_later (by assumption) ?_; first | assumption | (simp only [*]; done) | (simp [go_sem]; done)) | (go_grown; done) | (simp [go_sem]; done))))))
        clear hK K
        try simp only [Act.put, List.setIfInBounds_toArray, List.set_cons_zero, List.set_cons_succ]
        refine wpAnyH_take (i := 15) (oi := ?oiq5x16) (v := ?vq5x16) ?hiq5x16 (by kernel_rfl) (by kernel_rfl) (by kernel_rfl) ?hQq5x16 (Or.inl ⟨?hwq5x16, ?hyq5x16⟩) (by assumption) ?restq5x16
        case hiq5x16 => simp only [List.getElem?_toArray, List.getElem?_cons_succ, List.getElem?_cons_zero]; exact rfl
        case hQq5x16 => exact fun _ _ _ h => h
        case hwq5x16 => rfl
        case hyq5x16 => ((intro w hSw; (try dsimp only at hSw); go_simp) <;> with_reducible rfl)
        try simp only [Act.put, List.setIfInBounds_toArray, List.set_cons_zero, List.set_cons_succ]
        refine wpAnyH_take (i := 16) (oi := ?oiq5x17) (v := ?vq5x17) ?hiq5x17 (by kernel_rfl) (by kernel_rfl) (by kernel_rfl) ?hQq5x17 (Or.inl ⟨?hwq5x17, ?hyq5x17⟩) (by assumption) ?restq5x17
        case hiq5x17 => simp only [List.getElem?_toArray, List.getElem?_cons_succ, List.getElem?_cons_zero]; exact rfl
        case hQq5x17 => exact fun _ _ _ h => h
        case hwq5x17 => rfl
        case hyq5x17 => ((intro w hSw; (try dsimp only at hSw); go_simp) <;> with_reducible rfl)
        try simp only [Act.put, List.setIfInBounds_toArray, List.set_cons_zero, List.set_cons_succ]
        refine wpAnyH_take (i := 17) (oi := ?oiq5x18) (v := ?vq5x18) ?hiq5x18 (by kernel_rfl) (by kernel_rfl) (by kernel_rfl) ?hQq5x18 (Or.inl ⟨?hwq5x18, ?hyq5x18⟩) (by assumption) ?restq5x18
        case hiq5x18 => simp only [List.getElem?_toArray, List.getElem?_cons_succ, List.getElem?_cons_zero]; exact rfl
        case hQq5x18 => exact fun _ _ _ h => h
        case hwq5x18 => rfl
        case hyq5x18 => ((intro w hSw; (try dsimp only at hSw); go_simp) <;> with_reducible rfl)
        try simp only [Act.put, List.setIfInBounds_toArray, List.set_cons_zero, List.set_cons_succ]
        refine wpAnyH_take (i := 18) (oi := ?oiq5x19) (v := ?vq5x19) ?hiq5x19 (by kernel_rfl) (by kernel_rfl) (by kernel_rfl) ?hQq5x19 (Or.inl ⟨?hwq5x19, ?hyq5x19⟩) (by assumption) ?restq5x19
        case hiq5x19 => simp only [List.getElem?_toArray, List.getElem?_cons_succ, List.getElem?_cons_zero]; exact rfl
        case hQq5x19 => exact fun _ _ _ h => h
        case hwq5x19 => rfl
        case hyq5x19 => ((intro w hSw; (try dsimp only at hSw); go_simp) <;> with_reducible rfl)
        try simp only [Act.put, List.setIfInBounds_toArray, List.set_cons_zero, List.set_cons_succ]
        refine wpAnyH_done (by kernel_rfl) ?_ _
        have hfin := below_later' hw hHeld.1
        clear hHeld
        go_wp2_with fail
        go_ret
        exact ⟨by first | rfl | simp, hfin⟩
      · have hnil := HN.out hk
        obtain rfl : sb = ⟨#[]⟩ := hnil
        have HF2 : Hid (∀ w, Calls Try.prog 16 #[.agg #[.int .i64 (f 0), .int .i64 (f 1), .int .i64 (f 2), .int .i64 (f 3), .int .i64 (f 4), .int .i64 (f 5), .int .i64 (f 6), .int .i64 (f 7)]] w fun e w' => e = .returned (.bool false) ∧ Below w.heap.size w w') := Lib.hid (fun w => by
          have := HF.out w
          rw [hk] at this
          exact this)
        clear hk
        refine wp_region_held_drew (S := (fun w' => Below W.heap.size W w' ∧ w'.cell? ⟨G1, 0, none⟩ = some (.int .i64 (f 0)) ∧ w'.cell? ⟨G1, 1, none⟩ = some (.int .i64 (f 1)) ∧ w'.cell? ⟨G1, 2, none⟩ = some (.int .i64 (f 2)) ∧ w'.cell? ⟨G1, 3, none⟩ = some (.int .i64 (f 3)) ∧ w'.cell? ⟨G1, 4, none⟩ = some (.int .i64 (f 4)) ∧ w'.cell? ⟨G1, 5, none⟩ = some (.int .i64 (f 5)) ∧ w'.cell? ⟨G1, 6, none⟩ = some (.int .i64 (f 6)) ∧ w'.cell? ⟨G1, 7, none⟩ = some (.int .i64 (f 7)))) (by kernel_rfl) ?hSq6xs (fun hHeld => ?restq6xs)
        case hSq6xs => ((first | assumption | ((((try dsimp only); repeat' apply And.intro) <;> (first | assumption | (refine below_later ?_ (by assumption); first | assumption | (simp only [*]; done) | (go_grown; done)) | (refine cell_later (by assumption) ?_; first | assumption | (simp only [*]; done) | (simp [go_sem]; done)) | (go_grown; done) | (simp [go_sem]; done))))))
        refine wpAnyH_take (i := 0) (oi := ?oiq6x1) (v := ?vq6x1) ?hiq6x1 (by kernel_rfl) (by kernel_rfl) (by kernel_rfl) ?hQq6x1 (Or.inl ⟨?hwq6x1, ?hyq6x1⟩) (by assumption) ?restq6x1
        case hiq6x1 => simp only [List.getElem?_toArray, List.getElem?_cons_succ, List.getElem?_cons_zero]; exact rfl
        case hQq6x1 => exact fun _ _ _ h => h
        case hwq6x1 => rfl
        case hyq6x1 => ((intro w hSw; (try dsimp only at hSw); go_simp) <;> with_reducible rfl)
        try simp only [Act.put, List.setIfInBounds_toArray, List.set_cons_zero, List.set_cons_succ]
        refine wpAnyH_take (i := 1) (oi := ?oiq6x2) (v := ?vq6x2) ?hiq6x2 (by kernel_rfl) (by kernel_rfl) (by kernel_rfl) ?hQq6x2 (Or.inl ⟨?hwq6x2, ?hyq6x2⟩) (by assumption) ?restq6x2
        case hiq6x2 => simp only [List.getElem?_toArray, List.getElem?_cons_succ, List.getElem?_cons_zero]; exact rfl
        case hQq6x2 => exact fun _ _ _ h => h
        case hwq6x2 => rfl
        case hyq6x2 => ((intro w hSw; (try dsimp only at hSw); go_simp) <;> with_reducible rfl)
        try simp only [Act.put, List.setIfInBounds_toArray, List.set_cons_zero, List.set_cons_succ]
        refine wpAnyH_take (i := 2) (oi := ?oiq6x3) (v := ?vq6x3) ?hiq6x3 (by kernel_rfl) (by kernel_rfl) (by kernel_rfl) ?hQq6x3 (Or.inl ⟨?hwq6x3, ?hyq6x3⟩) (by assumption) ?restq6x3
        case hiq6x3 => simp only [List.getElem?_toArray, List.getElem?_cons_succ, List.getElem?_cons_zero]; exact rfl
        case hQq6x3 => exact fun _ _ _ h => h
        case hwq6x3 => rfl
        case hyq6x3 => ((intro w hSw; (try dsimp only at hSw); go_simp) <;> with_reducible rfl)
        try simp only [Act.put, List.setIfInBounds_toArray, List.set_cons_zero, List.set_cons_succ]
        refine wpAnyH_take (i := 3) (oi := ?oiq6x4) (v := ?vq6x4) ?hiq6x4 (by kernel_rfl) (by kernel_rfl) (by kernel_rfl) ?hQq6x4 (Or.inl ⟨?hwq6x4, ?hyq6x4⟩) (by assumption) ?restq6x4
        case hiq6x4 => simp only [List.getElem?_toArray, List.getElem?_cons_succ, List.getElem?_cons_zero]; exact rfl
        case hQq6x4 => exact fun _ _ _ h => h
        case hwq6x4 => rfl
        case hyq6x4 => ((intro w hSw; (try dsimp only at hSw); go_simp) <;> with_reducible rfl)
        try simp only [Act.put, List.setIfInBounds_toArray, List.set_cons_zero, List.set_cons_succ]
        refine wpAnyH_ready (rs := [4]) (by kernel_rfl) (by simp) ?_
        refine AllReadyH.cons (o := ?oq6x5) ?hoq6x5 (fun K hK => ?stepq6x5) ?moreq6x5
        case hoq6x5 => simp only [List.getElem?_toArray, List.getElem?_cons_succ, List.getElem?_cons_zero]; exact rfl
        case moreq6x5 => exact AllReadyH.nil
        go_simp
        (go_at_call 16; refine (HF2.out _).mono ?_; rintro e w' ⟨rfl, hb⟩)
        refine hK.out _ _ ?hSq6x5 (fun hHeld => ?restq6x5)
        case hSq6x5 => ((first | assumption | ((((try dsimp only); repeat' apply And.intro) <;> (first | assumption | (refine below_later ?_ (by assumption); first | assumption | (simp only [*]; done) | (go_grown; done)) | (refine cell_later (by assumption) ?_; first | assumption | (simp only [*]; done) | (simp [go_sem]; done)) | (go_grown; done) | (simp [go_sem]; done))))))
        clear hK K
        try simp only [Act.put, List.setIfInBounds_toArray, List.set_cons_zero, List.set_cons_succ]
        refine wpAnyH_take (i := 5) (oi := ?oiq6x6) (v := ?vq6x6) ?hiq6x6 (by kernel_rfl) (by kernel_rfl) (by kernel_rfl) ?hQq6x6 (Or.inl ⟨?hwq6x6, ?hyq6x6⟩) (by assumption) ?restq6x6
        case hiq6x6 => simp only [List.getElem?_toArray, List.getElem?_cons_succ, List.getElem?_cons_zero]; exact rfl
        case hQq6x6 => exact fun _ _ _ h => h
        case hwq6x6 => rfl
        case hyq6x6 => ((intro w hSw; (try dsimp only at hSw); go_simp) <;> with_reducible rfl)
        try simp only [Act.put, List.setIfInBounds_toArray, List.set_cons_zero, List.set_cons_succ]
        refine wpAnyH_take (i := 6) (oi := ?oiq6x7) (v := ?vq6x7) ?hiq6x7 (by kernel_rfl) (by kernel_rfl) (by kernel_rfl) ?hQq6x7 (Or.inl ⟨?hwq6x7, ?hyq6x7⟩) (by assumption) ?restq6x7
        case hiq6x7 => simp only [List.getElem?_toArray, List.getElem?_cons_succ, List.getElem?_cons_zero]; exact rfl
        case hQq6x7 => exact fun _ _ _ h => h
        case hwq6x7 => rfl
        case hyq6x7 => ((intro w hSw; (try dsimp only at hSw); go_simp) <;> with_reducible rfl)
        try simp only [Act.put, List.setIfInBounds_toArray, List.set_cons_zero, List.set_cons_succ]
        refine wpAnyH_take (i := 7) (oi := ?oiq6x8) (v := ?vq6x8) ?hiq6x8 (by kernel_rfl) (by kernel_rfl) (by kernel_rfl) ?hQq6x8 (Or.inl ⟨?hwq6x8, ?hyq6x8⟩) (by assumption) ?restq6x8
        case hiq6x8 => simp only [List.getElem?_toArray, List.getElem?_cons_succ, List.getElem?_cons_zero]; exact rfl
        case hQq6x8 => exact fun _ _ _ h => h
        case hwq6x8 => rfl
        case hyq6x8 => ((intro w hSw; (try dsimp only at hSw); go_simp) <;> with_reducible rfl)
        try simp only [Act.put, List.setIfInBounds_toArray, List.set_cons_zero, List.set_cons_succ]
        refine wpAnyH_take (i := 8) (oi := ?oiq6x9) (v := _) ?hiq6x9 (by kernel_rfl) (by kernel_rfl) (by kernel_rfl) ?hQq6x9 (Or.inr ⟨?hwq6x9, rfl⟩) (by assumption) ?restq6x9
        case hiq6x9 => simp only [List.getElem?_toArray, List.getElem?_cons_succ, List.getElem?_cons_zero]; exact rfl
        case hQq6x9 => exact fun _ _ _ h => h
        case hwq6x9 => rfl
        try simp only [Act.put, List.setIfInBounds_toArray, List.set_cons_zero, List.set_cons_succ]
        refine wpAnyH_take (i := 9) (oi := ?oiq6x10) (v := _) ?hiq6x10 (by kernel_rfl) (by kernel_rfl) (by kernel_rfl) ?hQq6x10 (Or.inr ⟨?hwq6x10, rfl⟩) (by assumption) ?restq6x10
        case hiq6x10 => simp only [List.getElem?_toArray, List.getElem?_cons_succ, List.getElem?_cons_zero]; exact rfl
        case hQq6x10 => exact fun _ _ _ h => h
        case hwq6x10 => rfl
        try simp only [Act.put, List.setIfInBounds_toArray, List.set_cons_zero, List.set_cons_succ]
        refine wpAnyH_take (i := 10) (oi := ?oiq6x11) (v := _) ?hiq6x11 (by kernel_rfl) (by kernel_rfl) (by kernel_rfl) ?hQq6x11 (Or.inr ⟨?hwq6x11, rfl⟩) (by assumption) ?restq6x11
        case hiq6x11 => simp only [List.getElem?_toArray, List.getElem?_cons_succ, List.getElem?_cons_zero]; exact rfl
        case hQq6x11 => exact fun _ _ _ h => h
        case hwq6x11 => rfl
        try simp only [Act.put, List.setIfInBounds_toArray, List.set_cons_zero, List.set_cons_succ]
        refine wpAnyH_take (i := 11) (oi := ?oiq6x12) (v := _) ?hiq6x12 (by kernel_rfl) (by kernel_rfl) (by kernel_rfl) ?hQq6x12 (Or.inr ⟨?hwq6x12, rfl⟩) (by assumption) ?restq6x12
        case hiq6x12 => simp only [List.getElem?_toArray, List.getElem?_cons_succ, List.getElem?_cons_zero]; exact rfl
        case hQq6x12 => exact fun _ _ _ h => h
        case hwq6x12 => rfl
        try simp only [Act.put, List.setIfInBounds_toArray, List.set_cons_zero, List.set_cons_succ]
        refine wpAnyH_take (i := 12) (oi := ?oiq6x13) (v := _) ?hiq6x13 (by kernel_rfl) (by kernel_rfl) (by kernel_rfl) ?hQq6x13 (Or.inr ⟨?hwq6x13, rfl⟩) (by assumption) ?restq6x13
        case hiq6x13 => simp only [List.getElem?_toArray, List.getElem?_cons_succ, List.getElem?_cons_zero]; exact rfl
        case hQq6x13 => exact fun _ _ _ h => h
        case hwq6x13 => rfl
        try simp only [Act.put, List.setIfInBounds_toArray, List.set_cons_zero, List.set_cons_succ]
        refine wpAnyH_take (i := 14) (oi := ?oiq6x14) (v := _) ?hiq6x14 (by kernel_rfl) (by kernel_rfl) (by kernel_rfl) ?hQq6x14 (Or.inr ⟨?hwq6x14, rfl⟩) (by assumption) ?restq6x14
        case hiq6x14 => simp only [List.getElem?_toArray, List.getElem?_cons_succ, List.getElem?_cons_zero]; exact rfl
        case hQq6x14 => exact fun _ _ _ h => h
        case hwq6x14 => rfl
        try simp only [Act.put, List.setIfInBounds_toArray, List.set_cons_zero, List.set_cons_succ]
        refine wpAnyH_ready (rs := [13]) (by kernel_rfl) (by simp) ?_
        refine AllReadyH.cons (o := ?oq6x15) ?hoq6x15 (fun K hK => ?stepq6x15) ?moreq6x15
        case hoq6x15 => simp only [List.getElem?_toArray, List.getElem?_cons_succ, List.getElem?_cons_zero]; exact rfl
        case moreq6x15 => exact AllReadyH.nil
        go_simp
        refine hK.out _ _ ?hSq6x15 (fun hHeld => ?restq6x15)
        case hSq6x15 => ((first | assumption | ((((try dsimp only); repeat' apply And.intro) <;> (first | assumption | (refine below_later ?_ (by assumption); first | assumption | (simp only [*]; done) | (go_grown; done)) | (refine cell_later (by assumption) ?_; first | assumption | (simp only [*]; done) | (simp [go_sem]; done)) | (go_grown; done) | (simp [go_sem]; done))))))
        clear hK K
        try simp only [Act.put, List.setIfInBounds_toArray, List.set_cons_zero, List.set_cons_succ]
        refine wpAnyH_take (i := 15) (oi := ?oiq6x16) (v := _) ?hiq6x16 (by kernel_rfl) (by kernel_rfl) (by kernel_rfl) ?hQq6x16 (Or.inr ⟨?hwq6x16, rfl⟩) (by assumption) ?restq6x16
        case hiq6x16 => simp only [List.getElem?_toArray, List.getElem?_cons_succ, List.getElem?_cons_zero]; exact rfl
        case hQq6x16 => exact fun _ _ _ h => h
        case hwq6x16 => rfl
        try simp only [Act.put, List.setIfInBounds_toArray, List.set_cons_zero, List.set_cons_succ]
        refine wpAnyH_take (i := 16) (oi := ?oiq6x17) (v := _) ?hiq6x17 (by kernel_rfl) (by kernel_rfl) (by kernel_rfl) ?hQq6x17 (Or.inr ⟨?hwq6x17, rfl⟩) (by assumption) ?restq6x17
        case hiq6x17 => simp only [List.getElem?_toArray, List.getElem?_cons_succ, List.getElem?_cons_zero]; exact rfl
        case hQq6x17 => exact fun _ _ _ h => h
        case hwq6x17 => rfl
        try simp only [Act.put, List.setIfInBounds_toArray, List.set_cons_zero, List.set_cons_succ]
        refine wpAnyH_take (i := 17) (oi := ?oiq6x18) (v := ?vq6x18) ?hiq6x18 (by kernel_rfl) (by kernel_rfl) (by kernel_rfl) ?hQq6x18 (Or.inl ⟨?hwq6x18, ?hyq6x18⟩) (by assumption) ?restq6x18
        case hiq6x18 => simp only [List.getElem?_toArray, List.getElem?_cons_succ, List.getElem?_cons_zero]; exact rfl
        case hQq6x18 => exact fun _ _ _ h => h
        case hwq6x18 => rfl
        case hyq6x18 => ((intro w hSw; (try dsimp only at hSw); go_simp) <;> with_reducible rfl)
        try simp only [Act.put, List.setIfInBounds_toArray, List.set_cons_zero, List.set_cons_succ]
        refine wpAnyH_take (i := 18) (oi := ?oiq6x19) (v := ?vq6x19) ?hiq6x19 (by kernel_rfl) (by kernel_rfl) (by kernel_rfl) ?hQq6x19 (Or.inl ⟨?hwq6x19, ?hyq6x19⟩) (by assumption) ?restq6x19
        case hiq6x19 => simp only [List.getElem?_toArray, List.getElem?_cons_succ, List.getElem?_cons_zero]; exact rfl
        case hQq6x19 => exact fun _ _ _ h => h
        case hwq6x19 => rfl
        case hyq6x19 => ((intro w hSw; (try dsimp only at hSw); go_simp) <;> with_reducible rfl)
        try simp only [Act.put, List.setIfInBounds_toArray, List.set_cons_zero, List.set_cons_succ]
        refine wpAnyH_done (by kernel_rfl) ?_ _
        have hfin := below_later' hw hHeld.1
        clear hHeld
        go_wp2_with fail
        go_ret
        exact ⟨by first | rfl | simp, hfin⟩
end Go.Proofs.Ythmoddohkchhfaa
