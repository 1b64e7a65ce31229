/-
  The law on drawn records.
-/
import Derived.Test.YtlaklbagcgbioaaBack
import Derived.Test.YtlaklbagcgbioaaDrawMore
import Derived.Test.YtlaklbagcgbioaaEight
namespace Go.Proofs.Ytlaklbagcgbioaa
open Go.RowKit Wire

/-- what reading a text as a record comes to -/
def ReadsRec (t : ByteArray) (y : Nat → Int) (b : Bool) : Prop :=
  (∀ w, Calls Try.prog 45 #[.string t] w fun e w' => e = .returned (.tuple #[.agg #[.int .i64 (y 0), .int .i64 (y 1), .int .i64 (y 2), .int .i64 (y 3), .int .i64 (y 4), .int .i64 (y 5), .int .i64 (y 6), .int .i64 (y 7)], .bool b]) ∧ Below w.heap.size w w') ∧
  (∀ w, Calls Try.prog 46 #[.string t] w fun e w' => e = .returned (.tuple #[.agg #[.int .i64 (y 0), .int .i64 (y 1), .int .i64 (y 2), .int .i64 (y 3), .int .i64 (y 4), .int .i64 (y 5), .int .i64 (y 6), .int .i64 (y 7)], .bool b]) ∧ Below w.heap.size w w') ∧
  (b = true → recBytesB (y 0) (y 1) (y 2) (y 3) (y 4) (y 5) (y 6) (y 7) = t)
theorem readsRec (t : ByteArray) (hm : t.size ≤ maxLen) : ∃ y b, ReadsRec t y b := by
  by_cases h : t.size = 21 ∧ recB (fld t 0 4 : Nat) (fld t 4 1 : Nat) (fld t 5 1 : Nat) (fld t 6 1 : Nat) (fld t 7 4 : Nat) (fld t 11 4 : Nat) (fld t 15 3 : Nat) (fld t 18 3 : Nat) = true
  · exact ⟨eight (fld t 0 4 : Nat) (fld t 4 1 : Nat) (fld t 5 1 : Nat) (fld t 6 1 : Nat) (fld t 7 4 : Nat) (fld t 11 4 : Nat) (fld t 15 3 : Nat) (fld t 18 3 : Nat), true, fun w => impl_ReadRec_yes t w h.1 h.2, fun w => spec_Rec_yes t w h.1 h.2, fun _ => recB_back t h.1 h.2⟩
  · exact ⟨eight 0 0 0 0 0 0 0 0, false, fun w => impl_ReadRec_no t w h hm, fun w => spec_Rec_no t w h hm, fun e => by cases e⟩
theorem readsRec_own (f : Nat → Int) (h : recB (f 0) (f 1) (f 2) (f 3) (f 4) (f 5) (f 6) (f 7) = true) : ReadsRec (recBytesB (f 0) (f 1) (f 2) (f 3) (f 4) (f 5) (f 6) (f 7)) f true := by
  have hl := recBytesB_len (f 0) (f 1) (f 2) (f 3) (f 4) (f 5) (f 6) (f 7) h
  obtain ⟨e0, e1, e2, e3, e4, e5, e6, e7⟩ := recBytesB_flds (f 0) (f 1) (f 2) (f 3) (f 4) (f 5) (f 6) (f 7) h
  have hk : recB (fld (recBytesB (f 0) (f 1) (f 2) (f 3) (f 4) (f 5) (f 6) (f 7)) 0 4 : Nat) (fld (recBytesB (f 0) (f 1) (f 2) (f 3) (f 4) (f 5) (f 6) (f 7)) 4 1 : Nat) (fld (recBytesB (f 0) (f 1) (f 2) (f 3) (f 4) (f 5) (f 6) (f 7)) 5 1 : Nat) (fld (recBytesB (f 0) (f 1) (f 2) (f 3) (f 4) (f 5) (f 6) (f 7)) 6 1 : Nat) (fld (recBytesB (f 0) (f 1) (f 2) (f 3) (f 4) (f 5) (f 6) (f 7)) 7 4 : Nat) (fld (recBytesB (f 0) (f 1) (f 2) (f 3) (f 4) (f 5) (f 6) (f 7)) 11 4 : Nat) (fld (recBytesB (f 0) (f 1) (f 2) (f 3) (f 4) (f 5) (f 6) (f 7)) 15 3 : Nat) (fld (recBytesB (f 0) (f 1) (f 2) (f 3) (f 4) (f 5) (f 6) (f 7)) 18 3 : Nat) = true := by rw [e0, e1, e2, e3, e4, e5, e6, e7]; exact h
  refine ⟨fun w => ?_, fun w => ?_, fun _ => rfl⟩
  · have := impl_ReadRec_yes _ w hl hk
    rw [e0, e1, e2, e3, e4, e5, e6, e7] at this
    exact this
  · have := spec_Rec_yes _ w hl hk
    rw [e0, e1, e2, e3, e4, e5, e6, e7] at this
    exact this
set_option linter.unusedSimpArgs false in
set_option maxHeartbeats 6400000 in
set_option maxRecDepth 100000 in
theorem law_Recs (A : Option Addr) (len cap : Nat) (zs : List Int) (w : World) (hrow : IsRow .u8 w A len cap zs) :
    Calls Try.prog 6 #[.slice A len cap] w fun e w' => e = .returned (.bool true) ∧ Below w.heap.size w w' := by
  have hs := src_of_row hrow
  have hl := row_len hrow
  clear hrow
  by_cases hbig : 1048576 < len
  · go_enter Try.func6, Try.ntmps6
    go_wp2_with (go_at_call 21; go_in)
    go_ret
    exact ⟨rfl, Below.refl _ _⟩
  · go_enter Try.func6, Try.ntmps6
    go_wp2_with (go_at_call 21; go_in)
    refine (DrawRecBytes_any A len cap _ hs hl).mono ?_
    rintro e w1 ⟨f, _, rfl, hb1⟩
    have hs1 := hs.later hb1
    clear hs
    go_wp2_with fail
    refine (impl_RecBytes _ _ _ _ _ _ _ _ _).mono ?_
    rintro e w2 ⟨rfl, hb2⟩
    have hE2 := Eight.box hb2
    have hs2 := hs1.later (below_alloc hb2)
    have hw2 := below_later hb1 (below_alloc hb2)
    generalize w1.heap.size = G1 at *
    clear hs1 hb1 hb2
    go_wp2_with fail
    refine (DrawRecOk_any A len cap _ hs2 hl).mono ?_
    rintro e w3 ⟨x, _, rfl, hb3⟩
    have hE3 := hE2.below hb3
    have hs3 := hs2.later hb3
    have hw3 := below_later hw2 hb3
    clear hE2 hs2 hw2 hb3
    go_wp2_with fail
    refine (DrawReadRec_any A len cap _ (hs3.later ((Below.refl _ _).alloc (Nat.le_refl _) _)) hl).mono ?_
    rintro e w4 ⟨t, ht, rfl, hb4⟩
    have hX4 := Eight.box hb4
    have hE4 := hE3.below (below_alloc hb4)
    have hw4 := below_later hw3 (below_alloc hb4)
    generalize w3.heap.size = G2 at *
    clear hE3 hs3 hw3 hb4
    obtain ⟨y, is, hI, hS, hback⟩ := readsRec t (by unfold maxLen; omega)
    have HI := Lib.hid hI
    have HS := Lib.hid hS
    clear hI hS
    go_wp2_with fail
    refine (HI.out _).mono ?_
    rintro e w5 ⟨rfl, hb5⟩
    have hX5 := hX4.below hb5
    have hE5 := hE4.below hb5
    have hw5 := below_later hw4 hb5
    clear hX4 hE4 hw4 hb5
    go_wp2_with fail
    refine (HS.out _).mono ?_
    rintro e w6 ⟨rfl, hb6⟩
    have hY6 := Eight.box hb6
    have hX6 := hX5.below (below_alloc hb6)
    have hE6 := hE5.below (below_alloc hb6)
    have hw6 := below_later hw5 (below_alloc hb6)
    generalize w5.heap.size = G3 at *
    clear hX5 hE5 hw5 hb6
    go_upto_region 9 with fail
    have hZ := Eight.new w6 39 (y 0) (y 1) (y 2) (y 3) (y 4) (y 5) (y 6) (y 7)
    have hY := hY6.alloc (.cells #[.int .i64 (y 0), .int .i64 (y 1), .int .i64 (y 2), .int .i64 (y 3), .int .i64 (y 4), .int .i64 (y 5), .int .i64 (y 6), .int .i64 (y 7)] 39)
    have hX := hX6.alloc (.cells #[.int .i64 (y 0), .int .i64 (y 1), .int .i64 (y 2), .int .i64 (y 3), .int .i64 (y 4), .int .i64 (y 5), .int .i64 (y 6), .int .i64 (y 7)] 39)
    have hE := hE6.alloc (.cells #[.int .i64 (y 0), .int .i64 (y 1), .int .i64 (y 2), .int .i64 (y 3), .int .i64 (y 4), .int .i64 (y 5), .int .i64 (y 6), .int .i64 (y 7)] 39)
    have hw := hw6.alloc hw6.size (.cells #[.int .i64 (y 0), .int .i64 (y 1), .int .i64 (y 2), .int .i64 (y 3), .int .i64 (y 4), .int .i64 (y 5), .int .i64 (y 6), .int .i64 (y 7)] 39)
    clear hY6 hX6 hE6 hw6
    generalize w6.alloc (.cells #[.int .i64 (y 0), .int .i64 (y 1), .int .i64 (y 2), .int .i64 (y 3), .int .i64 (y 4), .int .i64 (y 5), .int .i64 (y 6), .int .i64 (y 7)] 39) = W at *
    generalize w6.heap.size = G4 at *
    have HB := Lib.hid (show ∀ w, Calls Try.prog 47 #[.agg #[.int .i64 (f 0), .int .i64 (f 1), .int .i64 (f 2), .int .i64 (f 3), .int .i64 (f 4), .int .i64 (f 5), .int .i64 (f 6), .int .i64 (f 7)]] w fun e w' => e = .returned (.string (recBytesB (f 0) (f 1) (f 2) (f 3) (f 4) (f 5) (f 6) (f 7))) ∧ Below w.heap.size w w' from fun w => spec_RecBytes _ _ _ _ _ _ _ _ w)
    have HO := Lib.hid (show ∀ w, Calls Try.prog 48 #[.agg #[.int .i64 (x 0), .int .i64 (x 1), .int .i64 (x 2), .int .i64 (x 3), .int .i64 (x 4), .int .i64 (x 5), .int .i64 (x 6), .int .i64 (x 7)]] w fun e w' => e = .returned (.bool (recB (x 0) (x 1) (x 2) (x 3) (x 4) (x 5) (x 6) (x 7))) ∧ Below w.heap.size w w' from fun w => impl_RecOk _ _ _ _ _ _ _ _ w)
    have HP := Lib.hid (show ∀ w, Calls Try.prog 49 #[.agg #[.int .i64 (x 0), .int .i64 (x 1), .int .i64 (x 2), .int .i64 (x 3), .int .i64 (x 4), .int .i64 (x 5), .int .i64 (x 6), .int .i64 (x 7)]] w fun e w' => e = .returned (.bool (recB (x 0) (x 1) (x 2) (x 3) (x 4) (x 5) (x 6) (x 7))) ∧ Below w.heap.size w w' from fun w => spec_RecOk _ _ _ _ _ _ _ _ w)
    have HK : Hid (is = true → ∀ w, Calls Try.prog 42 #[.agg #[.int .i64 (y 0), .int .i64 (y 1), .int .i64 (y 2), .int .i64 (y 3), .int .i64 (y 4), .int .i64 (y 5), .int .i64 (y 6), .int .i64 (y 7)]] w fun e w' => e = .returned (.string t) ∧ Below w.heap.size w w') := Lib.hid (fun h w => by
      have := impl_RecBytes (y 0) (y 1) (y 2) (y 3) (y 4) (y 5) (y 6) (y 7) w
      rw [hback h] at this
      exact this)
    have HR := Lib.hid (readsRec_own f)
    have HL := Lib.hid (recBytesB_len (f 0) (f 1) (f 2) (f 3) (f 4) (f 5) (f 6) (f 7))
    have HN := Lib.hid (recBytesB_nil (f 0) (f 1) (f 2) (f 3) (f 4) (f 5) (f 6) (f 7))
    clear hback HI HS
    obtain ⟨ce0, ce1, ce2, ce3, ce4, ce5, ce6, ce7⟩ := hE
    obtain ⟨cx0, cx1, cx2, cx3, cx4, cx5, cx6, cx7⟩ := hX
    obtain ⟨cy0, cy1, cy2, cy3, cy4, cy5, cy6, cy7⟩ := hY
    obtain ⟨cz0, cz1, cz2, cz3, cz4, cz5, cz6, cz7⟩ := hZ
    generalize recB (x 0) (x 1) (x 2) (x 3) (x 4) (x 5) (x 6) (x 7) = bx at *
    generalize recBytesB (f 0) (f 1) (f 2) (f 3) (f 4) (f 5) (f 6) (f 7) = sb at *
    have hG1 : G1 < W.heap.size := World.block_lt_of_cell? _ _ ce0
    have hG2 : G2 < W.heap.size := World.block_lt_of_cell? _ _ cx0
    have hG3 : G3 < W.heap.size := World.block_lt_of_cell? _ _ cy0
    have hG4 : G4 < W.heap.size := World.block_lt_of_cell? _ _ cz0
    have hE0 : Eight W G1 (f 0) (f 1) (f 2) (f 3) (f 4) (f 5) (f 6) (f 7) := ⟨ce0, ce1, ce2, ce3, ce4, ce5, ce6, ce7⟩
    cases is
    · skip
      refine wp_region_held_drew (S := (fun w' => Below W.heap.size W w' ∧ w'.cell? ⟨G1, 0, none⟩ = some (.int .i64 (f 0)) ∧ w'.cell? ⟨G1, 1, none⟩ = some (.int .i64 (f 1)) ∧ w'.cell? ⟨G1, 2, none⟩ = some (.int .i64 (f 2)) ∧ w'.cell? ⟨G1, 3, none⟩ = some (.int .i64 (f 3)) ∧ w'.cell? ⟨G1, 4, none⟩ = some (.int .i64 (f 4)) ∧ w'.cell? ⟨G1, 5, none⟩ = some (.int .i64 (f 5)) ∧ w'.cell? ⟨G1, 6, none⟩ = some (.int .i64 (f 6)) ∧ w'.cell? ⟨G1, 7, none⟩ = some (.int .i64 (f 7)) ∧ w'.cell? ⟨G2, 0, none⟩ = some (.int .i64 (x 0)) ∧ w'.cell? ⟨G2, 1, none⟩ = some (.int .i64 (x 1)) ∧ w'.cell? ⟨G2, 2, none⟩ = some (.int .i64 (x 2)) ∧ w'.cell? ⟨G2, 3, none⟩ = some (.int .i64 (x 3)) ∧ w'.cell? ⟨G2, 4, none⟩ = some (.int .i64 (x 4)) ∧ w'.cell? ⟨G2, 5, none⟩ = some (.int .i64 (x 5)) ∧ w'.cell? ⟨G2, 6, none⟩ = some (.int .i64 (x 6)) ∧ w'.cell? ⟨G2, 7, none⟩ = some (.int .i64 (x 7)) ∧ w'.cell? ⟨G3, 0, none⟩ = some (.int .i64 (y 0)) ∧ w'.cell? ⟨G3, 1, none⟩ = some (.int .i64 (y 1)) ∧ w'.cell? ⟨G3, 2, none⟩ = some (.int .i64 (y 2)) ∧ w'.cell? ⟨G3, 3, none⟩ = some (.int .i64 (y 3)) ∧ w'.cell? ⟨G3, 4, none⟩ = some (.int .i64 (y 4)) ∧ w'.cell? ⟨G3, 5, none⟩ = some (.int .i64 (y 5)) ∧ w'.cell? ⟨G3, 6, none⟩ = some (.int .i64 (y 6)) ∧ w'.cell? ⟨G3, 7, none⟩ = some (.int .i64 (y 7)) ∧ w'.cell? ⟨G4, 0, none⟩ = some (.int .i64 (y 0)) ∧ w'.cell? ⟨G4, 1, none⟩ = some (.int .i64 (y 1)) ∧ w'.cell? ⟨G4, 2, none⟩ = some (.int .i64 (y 2)) ∧ w'.cell? ⟨G4, 3, none⟩ = some (.int .i64 (y 3)) ∧ w'.cell? ⟨G4, 4, none⟩ = some (.int .i64 (y 4)) ∧ w'.cell? ⟨G4, 5, none⟩ = some (.int .i64 (y 5)) ∧ w'.cell? ⟨G4, 6, none⟩ = some (.int .i64 (y 6)) ∧ w'.cell? ⟨G4, 7, none⟩ = some (.int .i64 (y 7)))) (by kernel_rfl) ?hSs (fun hHeld => ?rests)
      case hSs => ((first | assumption | ((((try dsimp only); repeat' apply And.intro) <;> (first | assumption | (refine below_later ?_ (by assumption); first | assumption | (simp only [*]; done) | (go_grown; done)) | (refine cell_later (by assumption) ?_; first | assumption | (simp only [*]; done) | (simp [go_sem]; done)) | (go_grown; done) | (simp [go_sem]; done))))))
      refine wpAnyH_take (i := 0) (oi := ?oi1) (v := ?v1) ?hi1 (by kernel_rfl) (by kernel_rfl) (by kernel_rfl) ?hQ1 (Or.inl ⟨?hw1, ?hy1⟩) (by assumption) ?rest1
      case hi1 => simp only [List.getElem?_toArray, List.getElem?_cons_succ, List.getElem?_cons_zero]; exact rfl
      case hQ1 => exact fun _ _ _ h => h
      case hw1 => rfl
      case hy1 => ((intro w hSw; (try dsimp only at hSw); go_simp) <;> with_reducible rfl)
      try simp only [Act.put, List.setIfInBounds_toArray, List.set_cons_zero, List.set_cons_succ]
      refine wpAnyH_take (i := 1) (oi := ?oi2) (v := ?v2) ?hi2 (by kernel_rfl) (by kernel_rfl) (by kernel_rfl) ?hQ2 (Or.inl ⟨?hw2, ?hy2⟩) (by assumption) ?rest2
      case hi2 => simp only [List.getElem?_toArray, List.getElem?_cons_succ, List.getElem?_cons_zero]; exact rfl
      case hQ2 => exact fun _ _ _ h => h
      case hw2 => rfl
      case hy2 => ((intro w hSw; (try dsimp only at hSw); go_simp) <;> with_reducible rfl)
      try simp only [Act.put, List.setIfInBounds_toArray, List.set_cons_zero, List.set_cons_succ]
      refine wpAnyH_ready (rs := [2]) (by kernel_rfl) (by simp) ?_
      refine AllReadyH.cons (o := ?o3) ?ho3 (fun K hK => ?step3) ?more3
      case ho3 => simp only [List.getElem?_toArray, List.getElem?_cons_succ, List.getElem?_cons_zero]; exact rfl
      case more3 => exact AllReadyH.nil
      go_simp
      (go_at_call 47; refine (HB.out _).mono ?_; rintro e w' ⟨rfl, hb⟩)
      refine hK.out _ _ ?hS3 (fun hHeld => ?rest3)
      case hS3 => ((first | assumption | ((((try dsimp only); repeat' apply And.intro) <;> (first | assumption | (refine below_later ?_ (by assumption); first | assumption | (simp only [*]; done) | (go_grown; done)) | (refine cell_later (by assumption) ?_; first | assumption | (simp only [*]; done) | (simp [go_sem]; done)) | (go_grown; done) | (simp [go_sem]; done))))))
      clear hK K
      try simp only [Act.put, List.setIfInBounds_toArray, List.set_cons_zero, List.set_cons_succ]
      refine wpAnyH_take (i := 3) (oi := ?oi4) (v := ?v4) ?hi4 (by kernel_rfl) (by kernel_rfl) (by kernel_rfl) ?hQ4 (Or.inl ⟨?hw4, ?hy4⟩) (by assumption) ?rest4
      case hi4 => simp only [List.getElem?_toArray, List.getElem?_cons_succ, List.getElem?_cons_zero]; exact rfl
      case hQ4 => exact fun _ _ _ h => h
      case hw4 => rfl
      case hy4 => ((intro w hSw; (try dsimp only at hSw); go_simp) <;> with_reducible rfl)
      try simp only [Act.put, List.setIfInBounds_toArray, List.set_cons_zero, List.set_cons_succ]
      refine wpAnyH_take (i := 4) (oi := ?oi5) (v := ?v5) ?hi5 (by kernel_rfl) (by kernel_rfl) (by kernel_rfl) ?hQ5 (Or.inl ⟨?hw5, ?hy5⟩) (by assumption) ?rest5
      case hi5 => simp only [List.getElem?_toArray, List.getElem?_cons_succ, List.getElem?_cons_zero]; exact rfl
      case hQ5 => exact fun _ _ _ h => h
      case hw5 => rfl
      case hy5 => ((intro w hSw; (try dsimp only at hSw); go_simp) <;> with_reducible rfl)
      try simp only [Act.put, List.setIfInBounds_toArray, List.set_cons_zero, List.set_cons_succ]
      refine wpAnyH_take (i := 5) (oi := ?oi6) (v := ?v6) ?hi6 (by kernel_rfl) (by kernel_rfl) (by kernel_rfl) ?hQ6 (Or.inl ⟨?hw6, ?hy6⟩) (by assumption) ?rest6
      case hi6 => simp only [List.getElem?_toArray, List.getElem?_cons_succ, List.getElem?_cons_zero]; exact rfl
      case hQ6 => exact fun _ _ _ h => h
      case hw6 => rfl
      case hy6 => ((intro w hSw; (try dsimp only at hSw); go_simp) <;> with_reducible rfl)
      try simp only [Act.put, List.setIfInBounds_toArray, List.set_cons_zero, List.set_cons_succ]
      refine wpAnyH_take (i := 7) (oi := ?oi7) (v := ?v7) ?hi7 (by kernel_rfl) (by kernel_rfl) (by kernel_rfl) ?hQ7 (Or.inl ⟨?hw7, ?hy7⟩) (by assumption) ?rest7
      case hi7 => simp only [List.getElem?_toArray, List.getElem?_cons_succ, List.getElem?_cons_zero]; exact rfl
      case hQ7 => exact fun _ _ _ h => h
      case hw7 => rfl
      case hy7 => ((intro w hSw; (try dsimp only at hSw); go_simp) <;> with_reducible rfl)
      try simp only [Act.put, List.setIfInBounds_toArray, List.set_cons_zero, List.set_cons_succ]
      refine wpAnyH_ready (rs := [6]) (by kernel_rfl) (by simp) ?_
      refine AllReadyH.cons (o := ?o8) ?ho8 (fun K hK => ?step8) ?more8
      case ho8 => simp only [List.getElem?_toArray, List.getElem?_cons_succ, List.getElem?_cons_zero]; exact rfl
      case more8 => exact AllReadyH.nil
      go_simp
      (go_at_call 48; refine (HO.out _).mono ?_; rintro e w' ⟨rfl, hb⟩)
      refine hK.out _ _ ?hS8 (fun hHeld => ?rest8)
      case hS8 => ((first | assumption | ((((try dsimp only); repeat' apply And.intro) <;> (first | assumption | (refine below_later ?_ (by assumption); first | assumption | (simp only [*]; done) | (go_grown; done)) | (refine cell_later (by assumption) ?_; first | assumption | (simp only [*]; done) | (simp [go_sem]; done)) | (go_grown; done) | (simp [go_sem]; done))))))
      clear hK K
      try simp only [Act.put, List.setIfInBounds_toArray, List.set_cons_zero, List.set_cons_succ]
      refine wpAnyH_ready (rs := [8]) (by kernel_rfl) (by simp) ?_
      refine AllReadyH.cons (o := ?o9) ?ho9 (fun K hK => ?step9) ?more9
      case ho9 => simp only [List.getElem?_toArray, List.getElem?_cons_succ, List.getElem?_cons_zero]; exact rfl
      case more9 => exact AllReadyH.nil
      go_simp
      (go_at_call 49; refine (HP.out _).mono ?_; rintro e w' ⟨rfl, hb⟩)
      refine hK.out _ _ ?hS9 (fun hHeld => ?rest9)
      case hS9 => ((first | assumption | ((((try dsimp only); repeat' apply And.intro) <;> (first | assumption | (refine below_later ?_ (by assumption); first | assumption | (simp only [*]; done) | (go_grown; done)) | (refine cell_later (by assumption) ?_; first | assumption | (simp only [*]; done) | (simp [go_sem]; done)) | (go_grown; done) | (simp [go_sem]; done))))))
      clear hK K
      try simp only [Act.put, List.setIfInBounds_toArray, List.set_cons_zero, List.set_cons_succ]
      refine wpAnyH_take (i := 9) (oi := ?oi10) (v := ?v10) ?hi10 (by kernel_rfl) (by kernel_rfl) (by kernel_rfl) ?hQ10 (Or.inl ⟨?hw10, ?hy10⟩) (by assumption) ?rest10
      case hi10 => simp only [List.getElem?_toArray, List.getElem?_cons_succ, List.getElem?_cons_zero]; exact rfl
      case hQ10 => exact fun _ _ _ h => h
      case hw10 => rfl
      case hy10 => ((intro w hSw; (try dsimp only at hSw); go_simp) <;> with_reducible rfl)
      try simp only [Act.put, List.setIfInBounds_toArray, List.set_cons_zero, List.set_cons_succ]
      refine wpAnyH_take (i := 10) (oi := ?oi11) (v := ?v11) ?hi11 (by kernel_rfl) (by kernel_rfl) (by kernel_rfl) ?hQ11 (Or.inl ⟨?hw11, ?hy11⟩) (by assumption) ?rest11
      case hi11 => simp only [List.getElem?_toArray, List.getElem?_cons_succ, List.getElem?_cons_zero]; exact rfl
      case hQ11 => exact fun _ _ _ h => h
      case hw11 => rfl
      case hy11 => ((intro w hSw; (try dsimp only at hSw); go_simp) <;> with_reducible rfl)
      try simp only [Act.put, List.setIfInBounds_toArray, List.set_cons_zero, List.set_cons_succ]
      refine wpAnyH_take (i := 11) (oi := ?oi12) (v := ?v12) ?hi12 (by kernel_rfl) (by kernel_rfl) (by kernel_rfl) ?hQ12 (Or.inl ⟨?hw12, ?hy12⟩) (by assumption) ?rest12
      case hi12 => simp only [List.getElem?_toArray, List.getElem?_cons_succ, List.getElem?_cons_zero]; exact rfl
      case hQ12 => exact fun _ _ _ h => h
      case hw12 => rfl
      case hy12 => ((intro w hSw; (try dsimp only at hSw); go_simp) <;> with_reducible rfl)
      try simp only [Act.put, List.setIfInBounds_toArray, List.set_cons_zero, List.set_cons_succ]
      refine wpAnyH_take (i := 12) (oi := ?oi13) (v := ?v13) ?hi13 (by kernel_rfl) (by kernel_rfl) (by kernel_rfl) ?hQ13 (Or.inl ⟨?hw13, ?hy13⟩) (by assumption) ?rest13
      case hi13 => simp only [List.getElem?_toArray, List.getElem?_cons_succ, List.getElem?_cons_zero]; exact rfl
      case hQ13 => exact fun _ _ _ h => h
      case hw13 => rfl
      case hy13 => ((intro w hSw; (try dsimp only at hSw); go_simp) <;> with_reducible rfl)
      try simp only [Act.put, List.setIfInBounds_toArray, List.set_cons_zero, List.set_cons_succ]
      refine wpAnyH_take (i := 13) (oi := ?oi14) (v := ?v14) ?hi14 (by kernel_rfl) (by kernel_rfl) (by kernel_rfl) ?hQ14 (Or.inl ⟨?hw14, ?hy14⟩) (by assumption) ?rest14
      case hi14 => simp only [List.getElem?_toArray, List.getElem?_cons_succ, List.getElem?_cons_zero]; exact rfl
      case hQ14 => exact fun _ _ _ h => h
      case hw14 => rfl
      case hy14 => ((intro w hSw; (try dsimp only at hSw); go_simp) <;> with_reducible rfl)
      try simp only [Act.put, List.setIfInBounds_toArray, List.set_cons_zero, List.set_cons_succ]
      refine wpAnyH_take (i := 14) (oi := ?oi15) (v := ?v15) ?hi15 (by kernel_rfl) (by kernel_rfl) (by kernel_rfl) ?hQ15 (Or.inl ⟨?hw15, ?hy15⟩) (by assumption) ?rest15
      case hi15 => simp only [List.getElem?_toArray, List.getElem?_cons_succ, List.getElem?_cons_zero]; exact rfl
      case hQ15 => exact fun _ _ _ h => h
      case hw15 => rfl
      case hy15 => ((intro w hSw; (try dsimp only at hSw); go_simp) <;> with_reducible rfl)
      try simp only [Act.put, List.setIfInBounds_toArray, List.set_cons_zero, List.set_cons_succ]
      refine wpAnyH_take (i := 15) (oi := ?oi16) (v := ?v16) ?hi16 (by kernel_rfl) (by kernel_rfl) (by kernel_rfl) ?hQ16 (Or.inl ⟨?hw16, ?hy16⟩) (by assumption) ?rest16
      case hi16 => simp only [List.getElem?_toArray, List.getElem?_cons_succ, List.getElem?_cons_zero]; exact rfl
      case hQ16 => exact fun _ _ _ h => h
      case hw16 => rfl
      case hy16 => ((intro w hSw; (try dsimp only at hSw); go_simp) <;> with_reducible rfl)
      try simp only [Act.put, List.setIfInBounds_toArray, List.set_cons_zero, List.set_cons_succ]
      refine wpAnyH_take (i := 16) (oi := ?oi17) (v := ?v17) ?hi17 (by kernel_rfl) (by kernel_rfl) (by kernel_rfl) ?hQ17 (Or.inl ⟨?hw17, ?hy17⟩) (by assumption) ?rest17
      case hi17 => simp only [List.getElem?_toArray, List.getElem?_cons_succ, List.getElem?_cons_zero]; exact rfl
      case hQ17 => exact fun _ _ _ h => h
      case hw17 => rfl
      case hy17 => ((intro w hSw; (try dsimp only at hSw); go_simp) <;> with_reducible rfl)
      try simp only [Act.put, List.setIfInBounds_toArray, List.set_cons_zero, List.set_cons_succ]
      refine wpAnyH_take (i := 17) (oi := ?oi18) (v := ?v18) ?hi18 (by kernel_rfl) (by kernel_rfl) (by kernel_rfl) ?hQ18 (Or.inl ⟨?hw18, ?hy18⟩) (by assumption) ?rest18
      case hi18 => simp only [List.getElem?_toArray, List.getElem?_cons_succ, List.getElem?_cons_zero]; exact rfl
      case hQ18 => exact fun _ _ _ h => h
      case hw18 => rfl
      case hy18 => ((intro w hSw; (try dsimp only at hSw); go_simp) <;> with_reducible rfl)
      try simp only [Act.put, List.setIfInBounds_toArray, List.set_cons_zero, List.set_cons_succ]
      refine wpAnyH_take (i := 18) (oi := ?oi19) (v := ?v19) ?hi19 (by kernel_rfl) (by kernel_rfl) (by kernel_rfl) ?hQ19 (Or.inl ⟨?hw19, ?hy19⟩) (by assumption) ?rest19
      case hi19 => simp only [List.getElem?_toArray, List.getElem?_cons_succ, List.getElem?_cons_zero]; exact rfl
      case hQ19 => exact fun _ _ _ h => h
      case hw19 => rfl
      case hy19 => ((intro w hSw; (try dsimp only at hSw); go_simp) <;> with_reducible rfl)
      try simp only [Act.put, List.setIfInBounds_toArray, List.set_cons_zero, List.set_cons_succ]
      refine wpAnyH_take (i := 19) (oi := ?oi20) (v := ?v20) ?hi20 (by kernel_rfl) (by kernel_rfl) (by kernel_rfl) ?hQ20 (Or.inl ⟨?hw20, ?hy20⟩) (by assumption) ?rest20
      case hi20 => simp only [List.getElem?_toArray, List.getElem?_cons_succ, List.getElem?_cons_zero]; exact rfl
      case hQ20 => exact fun _ _ _ h => h
      case hw20 => rfl
      case hy20 => ((intro w hSw; (try dsimp only at hSw); go_simp) <;> with_reducible rfl)
      try simp only [Act.put, List.setIfInBounds_toArray, List.set_cons_zero, List.set_cons_succ]
      refine wpAnyH_take (i := 20) (oi := ?oi21) (v := ?v21) ?hi21 (by kernel_rfl) (by kernel_rfl) (by kernel_rfl) ?hQ21 (Or.inl ⟨?hw21, ?hy21⟩) (by assumption) ?rest21
      case hi21 => simp only [List.getElem?_toArray, List.getElem?_cons_succ, List.getElem?_cons_zero]; exact rfl
      case hQ21 => exact fun _ _ _ h => h
      case hw21 => rfl
      case hy21 => ((intro w hSw; (try dsimp only at hSw); go_simp) <;> with_reducible rfl)
      try simp only [Act.put, List.setIfInBounds_toArray, List.set_cons_zero, List.set_cons_succ]
      refine wpAnyH_take (i := 21) (oi := ?oi22) (v := ?v22) ?hi22 (by kernel_rfl) (by kernel_rfl) (by kernel_rfl) ?hQ22 (Or.inl ⟨?hw22, ?hy22⟩) (by assumption) ?rest22
      case hi22 => simp only [List.getElem?_toArray, List.getElem?_cons_succ, List.getElem?_cons_zero]; exact rfl
      case hQ22 => exact fun _ _ _ h => h
      case hw22 => rfl
      case hy22 => ((intro w hSw; (try dsimp only at hSw); go_simp) <;> with_reducible rfl)
      try simp only [Act.put, List.setIfInBounds_toArray, List.set_cons_zero, List.set_cons_succ]
      refine wpAnyH_take (i := 22) (oi := ?oi23) (v := ?v23) ?hi23 (by kernel_rfl) (by kernel_rfl) (by kernel_rfl) ?hQ23 (Or.inl ⟨?hw23, ?hy23⟩) (by assumption) ?rest23
      case hi23 => simp only [List.getElem?_toArray, List.getElem?_cons_succ, List.getElem?_cons_zero]; exact rfl
      case hQ23 => exact fun _ _ _ h => h
      case hw23 => rfl
      case hy23 => ((intro w hSw; (try dsimp only at hSw); go_simp) <;> with_reducible rfl)
      try simp only [Act.put, List.setIfInBounds_toArray, List.set_cons_zero, List.set_cons_succ]
      refine wpAnyH_take (i := 23) (oi := ?oi24) (v := ?v24) ?hi24 (by kernel_rfl) (by kernel_rfl) (by kernel_rfl) ?hQ24 (Or.inl ⟨?hw24, ?hy24⟩) (by assumption) ?rest24
      case hi24 => simp only [List.getElem?_toArray, List.getElem?_cons_succ, List.getElem?_cons_zero]; exact rfl
      case hQ24 => exact fun _ _ _ h => h
      case hw24 => rfl
      case hy24 => ((intro w hSw; (try dsimp only at hSw); go_simp) <;> with_reducible rfl)
      try simp only [Act.put, List.setIfInBounds_toArray, List.set_cons_zero, List.set_cons_succ]
      refine wpAnyH_take (i := 24) (oi := ?oi25) (v := _) ?hi25 (by kernel_rfl) (by kernel_rfl) (by kernel_rfl) ?hQ25 (Or.inr ⟨?hw25, rfl⟩) (by assumption) ?rest25
      case hi25 => simp only [List.getElem?_toArray, List.getElem?_cons_succ, List.getElem?_cons_zero]; exact rfl
      case hQ25 => exact fun _ _ _ h => h
      case hw25 => rfl
      try simp only [Act.put, List.setIfInBounds_toArray, List.set_cons_zero, List.set_cons_succ]
      refine wpAnyH_take (i := 26) (oi := ?oi26) (v := _) ?hi26 (by kernel_rfl) (by kernel_rfl) (by kernel_rfl) ?hQ26 (Or.inr ⟨?hw26, rfl⟩) (by assumption) ?rest26
      case hi26 => simp only [List.getElem?_toArray, List.getElem?_cons_succ, List.getElem?_cons_zero]; exact rfl
      case hQ26 => exact fun _ _ _ h => h
      case hw26 => rfl
      try simp only [Act.put, List.setIfInBounds_toArray, List.set_cons_zero, List.set_cons_succ]
      refine wpAnyH_ready (rs := [25]) (by kernel_rfl) (by simp) ?_
      refine AllReadyH.cons (o := ?o27) ?ho27 (fun K hK => ?step27) ?more27
      case ho27 => simp only [List.getElem?_toArray, List.getElem?_cons_succ, List.getElem?_cons_zero]; exact rfl
      case more27 => exact AllReadyH.nil
      go_simp
      refine hK.out _ _ ?hS27 (fun hHeld => ?rest27)
      case hS27 => ((first | assumption | ((((try dsimp only); repeat' apply And.intro) <;> (first | assumption | (refine below_later ?_ (by assumption); first | assumption | (simp only [*]; done) | (go_grown; done)) | (refine cell_later (by assumption) ?_; first | assumption | (simp only [*]; done) | (simp [go_sem]; done)) | (go_grown; done) | (simp [go_sem]; done))))))
      clear hK K
      try simp only [Act.put, List.setIfInBounds_toArray, List.set_cons_zero, List.set_cons_succ]
      refine wpAnyH_take (i := 27) (oi := ?oi28) (v := _) ?hi28 (by kernel_rfl) (by kernel_rfl) (by kernel_rfl) ?hQ28 (Or.inr ⟨?hw28, rfl⟩) (by assumption) ?rest28
      case hi28 => simp only [List.getElem?_toArray, List.getElem?_cons_succ, List.getElem?_cons_zero]; exact rfl
      case hQ28 => exact fun _ _ _ h => h
      case hw28 => rfl
      try simp only [Act.put, List.setIfInBounds_toArray, List.set_cons_zero, List.set_cons_succ]
      refine wpAnyH_take (i := 28) (oi := ?oi29) (v := ?v29) ?hi29 (by kernel_rfl) (by kernel_rfl) (by kernel_rfl) ?hQ29 (Or.inl ⟨?hw29, ?hy29⟩) (by assumption) ?rest29
      case hi29 => simp only [List.getElem?_toArray, List.getElem?_cons_succ, List.getElem?_cons_zero]; exact rfl
      case hQ29 => exact fun _ _ _ h => h
      case hw29 => rfl
      case hy29 => ((intro w hSw; (try dsimp only at hSw); go_simp) <;> with_reducible rfl)
      try simp only [Act.put, List.setIfInBounds_toArray, List.set_cons_zero, List.set_cons_succ]
      refine wpAnyH_take (i := 29) (oi := ?oi30) (v := ?v30) ?hi30 (by kernel_rfl) (by kernel_rfl) (by kernel_rfl) ?hQ30 (Or.inl ⟨?hw30, ?hy30⟩) (by assumption) ?rest30
      case hi30 => simp only [List.getElem?_toArray, List.getElem?_cons_succ, List.getElem?_cons_zero]; exact rfl
      case hQ30 => exact fun _ _ _ h => h
      case hw30 => rfl
      case hy30 => ((intro w hSw; (try dsimp only at hSw); go_simp) <;> with_reducible rfl)
      try simp only [Act.put, List.setIfInBounds_toArray, List.set_cons_zero, List.set_cons_succ]
      refine wpAnyH_done (by kernel_rfl) ?_ _
      rename_i wl hS
      have hB := hS.1
      have hcl := (hE0.below hB)
      have hwl := below_later' hw hB
      clear hS hE0 hw ce0 ce1 ce2 ce3 ce4 ce5 ce6 ce7 cx0 cx1 cx2 cx3 cx4 cx5 cx6 cx7 cy0 cy1 cy2 cy3 cy4 cy5 cy6 cy7 cz0 cz1 cz2 cz3 cz4 cz5 cz6 cz7
      obtain ⟨ce0, ce1, ce2, ce3, ce4, ce5, ce6, ce7⟩ := id hcl
      go_wp2_with fail
      rcases Bool.eq_false_or_eq_true (recB (f 0) (f 1) (f 2) (f 3) (f 4) (f 5) (f 6) (f 7)) with hk | hk
      · have hlen := HL.out hk
        obtain ⟨hI2, _, _⟩ := HR.out hk
        have HI2 := Lib.hid hI2
        have hne : sb.toList.isEmpty = false := by
          have h0 : sb.toList ≠ [] := fun h => by
            have := congrArg List.length h
            rw [ByteArray.toList_eq, Array.length_toList, List.length_nil] at this
            have h2 : sb.data.size = sb.size := rfl
            omega
          simpa using h0
        have hne2 : (sb.toList = []) = False := by simp at hne; simp [hne]
        have hl21 : ((sb.size : Int) == 21) = true := by rw [hlen]; rfl
        clear hI2 hlen hk
        refine (HI2.out _).mono ?_
        rintro e w8 ⟨rfl, hb8⟩
        have hE8 := (Eight.alloc (hcl.below hb8) (.cells #[.int .i64 (f 0), .int .i64 (f 1), .int .i64 (f 2), .int .i64 (f 3), .int .i64 (f 4), .int .i64 (f 5), .int .i64 (f 6), .int .i64 (f 7)] 39))
        have hF8 := Eight.new w8 39 (f 0) (f 1) (f 2) (f 3) (f 4) (f 5) (f 6) (f 7)
        have hw8 := (below_later' hwl hb8).alloc (below_later' hwl hb8).size (.cells #[.int .i64 (f 0), .int .i64 (f 1), .int .i64 (f 2), .int .i64 (f 3), .int .i64 (f 4), .int .i64 (f 5), .int .i64 (f 6), .int .i64 (f 7)] 39)
        clear hb8 hcl hwl hB ce0 ce1 ce2 ce3 ce4 ce5 ce6 ce7
        go_upto_region 12 with fail
        obtain ⟨ce0, ce1, ce2, ce3, ce4, ce5, ce6, ce7⟩ := hE8
        obtain ⟨cf0, cf1, cf2, cf3, cf4, cf5, cf6, cf7⟩ := hF8
        generalize w8.alloc (.cells #[.int .i64 (f 0), .int .i64 (f 1), .int .i64 (f 2), .int .i64 (f 3), .int .i64 (f 4), .int .i64 (f 5), .int .i64 (f 6), .int .i64 (f 7)] 39) = W8 at *
        generalize w8.heap.size = G8 at *
        go_wp2_with fail
        go_ret
        exact ⟨by first | rfl | simp, hw8⟩
      · have hnil := HN.out hk
        obtain rfl : sb = ⟨#[]⟩ := hnil
        clear hk
        refine (impl_ReadRec_no ⟨#[]⟩ _ (fun h => by have := h.1; simp [ByteArray.size] at this) (Nat.zero_le _)).mono ?_
        rintro e w8 ⟨rfl, hb8⟩
        have hw8 := below_later' hwl hb8
        clear hb8 hcl hwl hB
        go_wp2_with fail
        go_ret
        refine ⟨by first | rfl | simp, ?_⟩
        exact hw8.alloc hw8.size _
    · go_region_held3 (fun w' => Below W.heap.size W w' ∧ w'.cell? ⟨G1, 0, none⟩ = some (.int .i64 (f 0)) ∧ w'.cell? ⟨G1, 1, none⟩ = some (.int .i64 (f 1)) ∧ w'.cell? ⟨G1, 2, none⟩ = some (.int .i64 (f 2)) ∧ w'.cell? ⟨G1, 3, none⟩ = some (.int .i64 (f 3)) ∧ w'.cell? ⟨G1, 4, none⟩ = some (.int .i64 (f 4)) ∧ w'.cell? ⟨G1, 5, none⟩ = some (.int .i64 (f 5)) ∧ w'.cell? ⟨G1, 6, none⟩ = some (.int .i64 (f 6)) ∧ w'.cell? ⟨G1, 7, none⟩ = some (.int .i64 (f 7)) ∧ w'.cell? ⟨G2, 0, none⟩ = some (.int .i64 (x 0)) ∧ w'.cell? ⟨G2, 1, none⟩ = some (.int .i64 (x 1)) ∧ w'.cell? ⟨G2, 2, none⟩ = some (.int .i64 (x 2)) ∧ w'.cell? ⟨G2, 3, none⟩ = some (.int .i64 (x 3)) ∧ w'.cell? ⟨G2, 4, none⟩ = some (.int .i64 (x 4)) ∧ w'.cell? ⟨G2, 5, none⟩ = some (.int .i64 (x 5)) ∧ w'.cell? ⟨G2, 6, none⟩ = some (.int .i64 (x 6)) ∧ w'.cell? ⟨G2, 7, none⟩ = some (.int .i64 (x 7)) ∧ w'.cell? ⟨G3, 0, none⟩ = some (.int .i64 (y 0)) ∧ w'.cell? ⟨G3, 1, none⟩ = some (.int .i64 (y 1)) ∧ w'.cell? ⟨G3, 2, none⟩ = some (.int .i64 (y 2)) ∧ w'.cell? ⟨G3, 3, none⟩ = some (.int .i64 (y 3)) ∧ w'.cell? ⟨G3, 4, none⟩ = some (.int .i64 (y 4)) ∧ w'.cell? ⟨G3, 5, none⟩ = some (.int .i64 (y 5)) ∧ w'.cell? ⟨G3, 6, none⟩ = some (.int .i64 (y 6)) ∧ w'.cell? ⟨G3, 7, none⟩ = some (.int .i64 (y 7)) ∧ w'.cell? ⟨G4, 0, none⟩ = some (.int .i64 (y 0)) ∧ w'.cell? ⟨G4, 1, none⟩ = some (.int .i64 (y 1)) ∧ w'.cell? ⟨G4, 2, none⟩ = some (.int .i64 (y 2)) ∧ w'.cell? ⟨G4, 3, none⟩ = some (.int .i64 (y 3)) ∧ w'.cell? ⟨G4, 4, none⟩ = some (.int .i64 (y 4)) ∧ w'.cell? ⟨G4, 5, none⟩ = some (.int .i64 (y 5)) ∧ w'.cell? ⟨G4, 6, none⟩ = some (.int .i64 (y 6)) ∧ w'.cell? ⟨G4, 7, none⟩ = some (.int .i64 (y 7))) ((first | assumption | ((((try dsimp only); repeat' apply And.intro) <;> (first | assumption | (refine below_later ?_ (by assumption); first | assumption | (simp only [*]; done) | (go_grown; done)) | (refine cell_later (by assumption) ?_; first | assumption | (simp only [*]; done) | (simp [go_sem]; done)) | (go_grown; done) | (simp [go_sem]; done))))))
        ((first
          | (go_at_call 47; refine (HB.out _).mono ?_; rintro e w' ⟨rfl, hb⟩)
          | (go_at_call 48; refine (HO.out _).mono ?_; rintro e w' ⟨rfl, hb⟩)
          | (go_at_call 49; refine (HP.out _).mono ?_; rintro e w' ⟨rfl, hb⟩)
          | (go_at_call 42; refine (HK.out (by simp) _).mono ?_; rintro e w' ⟨rfl, hb⟩)))
      rename_i wl hS
      have hB := hS.1
      have hcl := (hE0.below hB)
      have hwl := below_later' hw hB
      clear hS hE0 hw ce0 ce1 ce2 ce3 ce4 ce5 ce6 ce7 cx0 cx1 cx2 cx3 cx4 cx5 cx6 cx7 cy0 cy1 cy2 cy3 cy4 cy5 cy6 cy7 cz0 cz1 cz2 cz3 cz4 cz5 cz6 cz7
      obtain ⟨ce0, ce1, ce2, ce3, ce4, ce5, ce6, ce7⟩ := id hcl
      go_wp2_with fail
      rcases Bool.eq_false_or_eq_true (recB (f 0) (f 1) (f 2) (f 3) (f 4) (f 5) (f 6) (f 7)) with hk | hk
      · have hlen := HL.out hk
        obtain ⟨hI2, _, _⟩ := HR.out hk
        have HI2 := Lib.hid hI2
        have hne : sb.toList.isEmpty = false := by
          have h0 : sb.toList ≠ [] := fun h => by
            have := congrArg List.length h
            rw [ByteArray.toList_eq, Array.length_toList, List.length_nil] at this
            have h2 : sb.data.size = sb.size := rfl
            omega
          simpa using h0
        have hne2 : (sb.toList = []) = False := by simp at hne; simp [hne]
        have hl21 : ((sb.size : Int) == 21) = true := by rw [hlen]; rfl
        clear hI2 hlen hk
        refine (HI2.out _).mono ?_
        rintro e w8 ⟨rfl, hb8⟩
        have hE8 := (Eight.alloc (hcl.below hb8) (.cells #[.int .i64 (f 0), .int .i64 (f 1), .int .i64 (f 2), .int .i64 (f 3), .int .i64 (f 4), .int .i64 (f 5), .int .i64 (f 6), .int .i64 (f 7)] 39))
        have hF8 := Eight.new w8 39 (f 0) (f 1) (f 2) (f 3) (f 4) (f 5) (f 6) (f 7)
        have hw8 := (below_later' hwl hb8).alloc (below_later' hwl hb8).size (.cells #[.int .i64 (f 0), .int .i64 (f 1), .int .i64 (f 2), .int .i64 (f 3), .int .i64 (f 4), .int .i64 (f 5), .int .i64 (f 6), .int .i64 (f 7)] 39)
        clear hb8 hcl hwl hB ce0 ce1 ce2 ce3 ce4 ce5 ce6 ce7
        go_upto_region 12 with fail
        obtain ⟨ce0, ce1, ce2, ce3, ce4, ce5, ce6, ce7⟩ := hE8
        obtain ⟨cf0, cf1, cf2, cf3, cf4, cf5, cf6, cf7⟩ := hF8
        generalize w8.alloc (.cells #[.int .i64 (f 0), .int .i64 (f 1), .int .i64 (f 2), .int .i64 (f 3), .int .i64 (f 4), .int .i64 (f 5), .int .i64 (f 6), .int .i64 (f 7)] 39) = W8 at *
        generalize w8.heap.size = G8 at *
        go_wp2_with fail
        go_ret
        exact ⟨by first | rfl | simp, hw8⟩
      · have hnil := HN.out hk
        obtain rfl : sb = ⟨#[]⟩ := hnil
        clear hk
        refine (impl_ReadRec_no ⟨#[]⟩ _ (fun h => by have := h.1; simp [ByteArray.size] at this) (Nat.zero_le _)).mono ?_
        rintro e w8 ⟨rfl, hb8⟩
        have hw8 := below_later' hwl hb8
        clear hb8 hcl hwl hB
        go_wp2_with fail
        go_ret
        refine ⟨by first | rfl | simp, ?_⟩
        exact hw8.alloc hw8.size _
end Go.Proofs.Ytlaklbagcgbioaa
