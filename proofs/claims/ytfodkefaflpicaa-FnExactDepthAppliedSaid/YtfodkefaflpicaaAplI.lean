/-
  Updates applied to levels: the program's.
-/
import Derived.Test.YtfodkefaflpicaaAplP
import Derived.Test.YtfodkefaflpicaaRowN
import Derived.Deep.QuietTactic
namespace Go.Proofs.Ytfodkefaflpicaa
open Go.RowKit Go.Lib

theorem lev_zero : ∀ w, (zeroValue 94).run Try.prog w = .ok (.agg #[.int .i64 0, .int .i64 0, .int .i64 0]) w := by
  obtain ⟨i0, hi, hz0, hz1, hz2⟩ := info_parts lev_info
  intro w
  simp [zeroValue, typeInfo, hi, hz0]
/-- the levels with one put in at a place -/
def insL (zs : List Int) (i : Nat) (p q m : Int) : List Int := zs.take (i * 3) ++ [p, q, m] ++ zs.drop (i * 3)
theorem insL_len {zs : List Int} {n i : Nat} (h : zs.length = n * 3) (hi : i ≤ n) (p q m : Int) : (insL zs i p q m).length = (n + 1) * 3 := by
  simp [insL, h]
  omega
theorem insL_lo {zs : List Int} {n i : Nat} (h : zs.length = n * 3) (hi : i ≤ n) (p q m : Int) {j : Nat} (hj : j < i * 3) : num (insL zs i p q m) j = num zs j := by
  unfold insL
  rw [num_app_lo (by simp [h]; omega), num_app_lo (by simp [h]; omega), num_take hj]
theorem insL_at {zs : List Int} {n i : Nat} (h : zs.length = n * 3) (hi : i ≤ n) (p q m : Int) {j : Nat} (hj : j < 3) : num (insL zs i p q m) (i * 3 + j) = num [p, q, m] j := by
  unfold insL
  rw [num_app_lo (by simp [h]; omega), num_app_hi (by simp [h]; omega), List.length_take, h, Nat.min_eq_left (by omega), Nat.add_sub_cancel_left]
theorem insL_hi {zs : List Int} {n i : Nat} (h : zs.length = n * 3) (hi : i ≤ n) (p q m : Int) (j : Nat) : num (insL zs i p q m) (i * 3 + 3 + j) = num zs (i * 3 + j) := by
  unfold insL
  rw [num_app_hi (by simp [h]; omega), num_drop]
  congr 1
  simp [h]
  omega
set_option linter.unusedSimpArgs false in
set_option maxHeartbeats 3200000 in
set_option maxRecDepth 100000 in
theorem impl_InsertL (X n i vb : Nat) (p q m : Int) (v : Value) (zs : List Int) (w : World) (hown : w.ownsRow X 94 3 v n (nums zs)) (hX : X ≤ w.heap.size) (hn : n ≤ 1048576) (hi : i ≤ n) (hvb : w.heap[vb]? = some (.cells #[.int .i64 p, .int .i64 q, .int .i64 m] 94 (0, 0))) (hne : some vb ≠ v.ownBlock) :
    Calls Try.prog 120 #[v, .int .i64 (i : Int), .slice (some ⟨vb, 0, none⟩) 1 1] w fun e w' => (∃ v', e = .returned v' ∧ w'.ownsRow X 94 3 v' (n + 1) (nums (insL zs i p q m))) ∧ w.grownBy w' v.ownBlock := by
  obtain ⟨i0, hi0, hz0, hz1, hz2⟩ := info_parts lev_info
  obtain ⟨A, c, rfl, hnc, hcm⟩ := own_slice hown
  unfold maxLen at hcm
  have mixed : Try.prog.follows .mixedOrders = true := by kernel_rfl
  have hzl : zs.length = n * 3 := by rw [← nums_length]; exact hown.1
  have hvc : ∀ j u, (#[Value.int .i64 p, .int .i64 q, .int .i64 m] : Array Value).toList[j]? = some u → w.cell? ⟨vb, j, none⟩ = some u := fun j u h => by
    simp only [World.cell?, hvb]
    rcases j with _ | _ | _ | j <;> simp_all
  rcases Nat.lt_or_eq_of_le hi with hlt | rfl
  · obtain ⟨g, cap, hg, _, _⟩ := hown.form (by omega)
    injection hg with hg1 hg2 hg3
    subst hg1 hg3
    obtain ⟨hXg, _, _, F, hrow, hF⟩ := row_of_nums hown
    have hgw := hrow.lt
    have hgv : vb ≠ g := fun e => hne (by rw [e]; rfl)
    have hsz : (Try.prog.info? 94).map (·.size) = some 3 := by rw [hi0]; simp [hz1]
    have hone : ∀ u ∈ ((nums zs).drop (i * 3)), u.oneCell' = true := fun u hu => nums_one zs u (List.mem_of_mem_drop hu)
    have hdl : ((nums zs).drop (i * 3)).length = (n - i) * 3 := by rw [List.length_drop, nums_length, hzl]; omega
    have hwr : IntKind.i64.wrap ((i : Int) + 1) = (i : Int) + 1 := by rw [IntKind.wrap_i64]; omega
    have htn : ((i : Int) + 1).toNat = i + 1 := by omega
    have hz2' : ¬ ((i : Int) = (n : Int)) := by omega
    have hci : ¬ (c = i) := by omega
    rcases Nat.lt_or_ge n c with hroom | hfull
    · obtain ⟨cv, hhv, hcv, _⟩ := id hrow
      have hov : ∀ lb cb, (callFunc 141 #[.slice (some ⟨vb, 0, none⟩) 1 1, .slice (some ⟨g, (i + 1) * 3, none⟩) lb cb]).run Try.prog w = .ok (.value (.bool false)) w := fun lb cb => by
        rw [run_callFunc_extern Try.func141 (by kernel_rfl) (by kernel_rfl) (by kernel_rfl) (e := Extern.SlicesOverlaps.overlaps #[40, 40] #[4]) (by kernel_rfl),
          Lib.run_overlaps_apart w 40 4 94 Try.underlying40 3 Try.sizeOf94 ⟨vb, 0, none⟩ ⟨g, (i + 1) * 3, none⟩ 1 1 lb cb hgv 94 94 3 (c * 3) (by simp [World.shape?, hvb]) (by simp [World.shape?, hhv, hcv]) (by omega) (by simp [World.frozen?, hvb]) (by simp [World.frozen?, hvb])]
        rfl
      clear hhv hcv
      have hb1 : (0 : Int) ≤ (i : Int) + 1 := by omega
      have hb2 : ¬ (c = i + 1) := by omega
      have hb3 : (i : Int) ≤ (n : Int) + 1 := by omega
      have hcel : ∀ (W : World) (hr : W.rowIs g 94 (c * 3) F) (j : Nat) (u : Value), ((nums zs).drop (i * 3))[j]? = some u → W.cell? ⟨g, i * 3 + j, none⟩ = some u := fun W hr j u h => by
        rw [List.getElem?_drop] at h
        have hj := (List.getElem?_eq_some_iff.1 h).1
        rw [nums_length, hzl] at hj
        rw [nums_get (by omega)] at h
        rw [hr.cell (by omega), hF _ (by omega), h]
      have hcp1 : ∀ ty dc sc, (Builtin.copy_ #[40, 40] ty #[.slice (some ⟨g, (i + 1) * 3, none⟩) (n - i) dc, .slice (some ⟨g, i * 3, none⟩) (n + 1 - i) sc]).run Try.prog w.drew = .ok (goInt ((n - i : Nat) : Int)) (w.drew.setCells g ((i + 1) * 3) ((nums zs).drop (i * 3))) := fun ty dc sc =>
        run_copy_cellsN w.drew _ _ ty 94 3 (n - i) g ((i + 1) * 3) (n - i) dc ⟨g, i * 3, none⟩ (n + 1 - i) sc ((nums zs).drop (i * 3)) Try.underlying40 hsz (by simp only [Nat.min_def]; split <;> omega) hdl
          (fun j u hj => by rw [Addr.add_lit]; exact hcel w.drew hrow j u hj) (fun j hj => by rw [show w.drew.cell? ⟨g, (i + 1) * 3 + j, none⟩ = _ from hrow.cell (i := (i + 1) * 3 + j) (by omega)]; rfl) (fun j hj => hrow.frozen ((i + 1) * 3 + j)) hone
      have hrow1 := rowIs_setCells ((nums zs).drop (i * 3)) ((i + 1) * 3) w.drew F hrow
      have hg1 : w.grownBy (w.drew.setCells g ((i + 1) * 3) ((nums zs).drop (i * 3))) (some g) := (show w.grownBy w.drew (some g) from ⟨rfl, rfl, rfl, Nat.le_refl _, fun _ _ _ => rfl⟩).trans (setsN_grown g _ _ _)
      have hvc1 : ∀ j u, [.int .i64 p, .int .i64 q, .int .i64 m][j]? = some u → (w.drew.setCells g ((i + 1) * 3) ((nums zs).drop (i * 3))).cell? ⟨vb, j, none⟩ = some u := fun j u h => hg1.cell (hvc j u h) (fun e => hgv (by injection e))
      generalize w.drew.setCells g ((i + 1) * 3) ((nums zs).drop (i * 3)) = W1 at *
      have hcp2 : ∀ ty dc, (Builtin.copy_ #[40, 40] ty #[.slice (some ⟨g, i * 3, none⟩) (n + 1 - i) dc, .slice (some ⟨vb, 0, none⟩) 1 1]).run Try.prog W1 = .ok (goInt 1) (W1.setCells g (i * 3) [.int .i64 p, .int .i64 q, .int .i64 m]) := fun ty dc =>
        run_copy_cellsN W1 _ _ ty 94 3 1 g (i * 3) (n + 1 - i) dc ⟨vb, 0, none⟩ 1 1 [.int .i64 p, .int .i64 q, .int .i64 m] Try.underlying40 hsz (by simp only [Nat.min_def]; split <;> omega) rfl
          (fun j u hj => by rw [Addr.add_lit, Nat.zero_add]; exact hvc1 j u hj) (fun j hj => by simp at hj; rw [hrow1.cell (i := i * 3 + j) (by omega)]; rfl) (fun j hj => hrow1.frozen (i * 3 + j)) (by intro u hu; simp at hu; rcases hu with rfl | rfl | rfl <;> rfl)
      have hrow2 := rowIs_setCells [.int .i64 p, .int .i64 q, .int .i64 m] (i * 3) W1 _ hrow1
      have hg2 := hg1.trans (setsN_grown g [.int .i64 p, .int .i64 q, .int .i64 m] (i * 3) W1)
      have HF := Lib.hid (show (W1.setCells g (i * 3) [.int .i64 p, .int .i64 q, .int .i64 m]).ownsRow X 94 3 (.slice (some ⟨g, 0, none⟩) (n + 1) c) (n + 1) (nums (insL zs i p q m)) from own_of_row hrow2 hXg (by omega) (by unfold maxLen; omega) (insL_len hzl hi p q m) (fun x hx => by
        rcases (show x < i * 3 ∨ (∃ j, j < 3 ∧ x = i * 3 + j) ∨ ∃ j, j < (n - i) * 3 ∧ x = i * 3 + 3 + j from by
          rcases Nat.lt_or_ge x (i * 3) with a | a
          · exact .inl a
          · rcases Nat.lt_or_ge x (i * 3 + 3) with b | b
            · exact .inr (.inl ⟨x - i * 3, by omega, by omega⟩)
            · exact .inr (.inr ⟨x - (i * 3 + 3), by omega, by omega⟩)) with h1 | ⟨j, h1, rfl⟩ | ⟨j, h1, rfl⟩
        · rw [insL_lo hzl hi p q m h1, if_neg (by omega), if_neg (by omega), hF x (by omega)]
        · rw [insL_at hzl hi p q m h1, if_pos (by simp; omega), Nat.add_sub_cancel_left]
          rcases (show j = 0 ∨ j = 1 ∨ j = 2 by omega) with rfl | rfl | rfl <;> rfl
        · rw [insL_hi hzl hi p q m j, if_neg (by simp), if_pos (by rw [hdl]; omega), List.getElem?_drop, show i * 3 + (i * 3 + 3 + j - (i + 1) * 3) = i * 3 + j by omega, nums_get (by omega)]
          rfl))
      have HG := Lib.hid hg2
      clear hrow1 hrow2 hg1 hg2 hrow hcel hF hown hvc1 hvc hvb
      go_enter Try.func120, Try.ntmps120
      go_wp2_with (simp only [hov])
      go_region_law_o (refine step_copy_runI rfl _ _ 40 40 rfl _ _ (by simp [Act.eval, Act.put]) (by simp [Act.eval, Act.put]) (hcp1 _ _ _) ?_)
      go_wp2_with (at_builtin; refine wpList_copy_runI _ rfl _ _ 40 40 rfl _ _ rfl rfl (hcp2 _ _) ?_)
      go_ret
      exact ⟨⟨_, rfl, HF.out⟩, HG.out⟩
    · obtain rfl : c = n := by omega
      have hcel : ∀ (j : Nat) (u : Value), ((nums zs).drop (i * 3))[j]? = some u → w.cell? ⟨g, i * 3 + j, none⟩ = some u := fun j u h => by
        rw [List.getElem?_drop] at h
        have hj := (List.getElem?_eq_some_iff.1 h).1
        rw [nums_length, hzl] at hj
        rw [nums_get (by omega)] at h
        rw [hrow.cell (by omega), hF _ (by omega), h]
      have hold : (Builtin.firstCells i0.size i (.slice (some ⟨g, 0, none⟩) i c)).run Try.prog w.drew = .ok ((nums zs).take (i * 3)).toArray w.drew := by
        rw [hz1]
        exact run_firstCells_some w.drew 3 i ⟨g, 0, none⟩ i c ((nums zs).take (i * 3)) (by rw [List.length_take, nums_length]; omega) (fun j u hj => by
          rw [Addr.add_lit]
          rw [List.getElem?_take] at hj
          split at hj
          · rw [Nat.zero_add]
            rw [nums_get (by omega)] at hj
            show w.cell? _ = _
            rw [hrow.cell (by omega), hF _ (by omega), hj]
          · cases hj)
      have hik : i + (c + 1 - i) = c + 1 := by omega
      have hkk : (c : Int) + 1 - (i : Int) = ((c + 1 - i : Nat) : Int) := by omega
      obtain ⟨G, hG⟩ : ∃ G, G = grownCap w (c + 1) c 94 := ⟨_, rfl⟩
      obtain ⟨ZV, hZV⟩ : ∃ ZV, ZV = Value.agg #[.int .i64 0, .int .i64 0, .int .i64 0] := ⟨_, rfl⟩
      have hZs : ZV.cells.size = 3 := by rw [hZV]; rfl
      rw [← hZV] at hz0
      obtain ⟨ROW, hROW⟩ : ∃ ROW : Array Value, ROW = ((nums zs).take (i * 3)).toArray ++ Builtin.zeroCells ZV.cells (c + 1 - i) ++ Builtin.zeroCells ZV.cells (G - (c + 1)) := ⟨_, rfl⟩
      have hGn : c + 1 ≤ G := by rw [hG]; exact grownCap_ge w _ _ _
      have hGm : G ≤ maxLen := by rw [hG]; exact grownCap_le_maxLen w (c + 1) c 94 (by unfold maxLen; omega)
      have hRl : ROW.size = G * 3 := by
        rw [hROW]
        simp [Builtin.zeroCells, hZs, nums_length, hzl]
        omega
      have hRt : ∀ x, x < i * 3 → ROW[x]? = some (.int .i64 (num zs x)) := fun x hx => by
        rw [hROW, Array.append_assoc, Array.getElem?_append_left (by simp [nums_length]; omega)]
        simp only [List.getElem?_toArray]
        rw [List.getElem?_take, if_pos hx, nums_get (by omega)]
      have hrz : ∀ ty, (Builtin.append_ #[40, 3] ty #[.slice (some ⟨g, 0, none⟩) i c, .int .i64 ((c : Int) + 1 - (i : Int))]).run Try.prog w = .ok (.slice (some ⟨w.heap.size, 0, none⟩) (c + 1) G) (w.drew.alloc (.cells ROW 94)) := fun ty => by
        have h := Lib.run_append_grow_zeros w 40 3 ty 94 i0 _ .i64 .i64 Try.underlying40 Try.underlying3 hi0 hz0 (some ⟨g, 0, none⟩) i c ((nums zs).take (i * 3)) hold (c + 1 - i) (by omega) (by omega) (by omega) (by omega) (by rw [hz2]; omega) (by rw [hz2, hik]; exact growslice_fits (by omega) (by omega))
        rw [hik] at h
        rw [hkk, hROW, hG]
        exact h
      have hbN : g ≠ w.heap.size := by omega
      have hrow0 : (w.drew.alloc (.cells ROW 94)).rowIs w.heap.size 94 (G * 3) (fun q => ROW[q]?.getD (.pointer none)) := ⟨ROW, heap_alloc_new w.drew _, hRl, fun q hq => by simp [show q < ROW.size by omega]⟩
      have hb0 : Below w.heap.size w (w.drew.alloc (.cells ROW 94)) := (Below.refl _ w).drew.alloc (Nat.le_refl _) _
      have hvw : vb < w.heap.size := (Array.getElem?_eq_some_iff.1 hvb).1
      have hvc0 : ∀ j u, [.int .i64 p, .int .i64 q, .int .i64 m][j]? = some u → (w.drew.alloc (.cells ROW 94)).cell? ⟨vb, j, none⟩ = some u := fun j u h => (hb0.cell (p := ⟨vb, j, none⟩) hvw).trans (hvc j u h)
      have hbel := hb0
      generalize hW0 : w.drew.alloc (.cells ROW 94) = W0 at *
      have hcpA : ∀ ty dc, (Builtin.copy_ #[40, 40] ty #[.slice (some ⟨w.heap.size, i * 3, none⟩) (c + 1 - i) dc, .slice (some ⟨vb, 0, none⟩) 1 1]).run Try.prog W0 = .ok (goInt 1) (W0.setCells w.heap.size (i * 3) [.int .i64 p, .int .i64 q, .int .i64 m]) := fun ty dc =>
        run_copy_cellsN W0 _ _ ty 94 3 1 w.heap.size (i * 3) (c + 1 - i) dc ⟨vb, 0, none⟩ 1 1 [.int .i64 p, .int .i64 q, .int .i64 m] Try.underlying40 hsz (by simp only [Nat.min_def]; split <;> omega) rfl
          (fun j u hj => by rw [Addr.add_lit, Nat.zero_add]; exact hvc0 j u hj) (fun j hj => by simp at hj; rw [hrow0.cell (i := i * 3 + j) (by omega)]; rfl) (fun j hj => hrow0.frozen (i * 3 + j)) (by intro u hu; simp at hu; rcases hu with rfl | rfl | rfl <;> rfl)
      have hrow1 := rowIs_setCells [.int .i64 p, .int .i64 q, .int .i64 m] (i * 3) W0 _ hrow0
      have hbel1 := below_setCells (b := w.heap.size) (Nat.le_refl w.heap.size) [.int .i64 p, .int .i64 q, .int .i64 m] (i * 3) W0 hbel
      have hcel1 : ∀ (j : Nat) (u : Value), ((nums zs).drop (i * 3))[j]? = some u → (W0.setCells w.heap.size (i * 3) [.int .i64 p, .int .i64 q, .int .i64 m]).drew.cell? ⟨g, i * 3 + j, none⟩ = some u := fun j u h => (hbel1.cell (p := ⟨g, i * 3 + j, none⟩) hgw).trans (hcel j u h)
      generalize W0.setCells w.heap.size (i * 3) [.int .i64 p, .int .i64 q, .int .i64 m] = W1 at *
      have hcpB : ∀ ty dc sc, (Builtin.copy_ #[40, 40] ty #[.slice (some ⟨w.heap.size, (i + 1) * 3, none⟩) (c - i) dc, .slice (some ⟨g, i * 3, none⟩) (c - i) sc]).run Try.prog W1.drew = .ok (goInt ((c - i : Nat) : Int)) (W1.drew.setCells w.heap.size ((i + 1) * 3) ((nums zs).drop (i * 3))) := fun ty dc sc =>
        run_copy_cellsN W1.drew _ _ ty 94 3 (c - i) w.heap.size ((i + 1) * 3) (c - i) dc ⟨g, i * 3, none⟩ (c - i) sc ((nums zs).drop (i * 3)) Try.underlying40 hsz (by simp only [Nat.min_def]; split <;> omega) hdl
          (fun j u hj => by rw [Addr.add_lit]; exact hcel1 j u hj) (fun j hj => by rw [show W1.drew.cell? ⟨w.heap.size, (i + 1) * 3 + j, none⟩ = _ from hrow1.cell (i := (i + 1) * 3 + j) (by omega)]; rfl) (fun j hj => hrow1.frozen ((i + 1) * 3 + j)) hone
      have hrow2 := rowIs_setCells ((nums zs).drop (i * 3)) ((i + 1) * 3) W1.drew _ hrow1
      have hbel2 := below_setCells (b := w.heap.size) (Nat.le_refl w.heap.size) ((nums zs).drop (i * 3)) ((i + 1) * 3) W1.drew hbel1.drew
      have HF := Lib.hid (show (W1.drew.setCells w.heap.size ((i + 1) * 3) ((nums zs).drop (i * 3))).ownsRow X 94 3 (.slice (some ⟨w.heap.size, 0, none⟩) (c + 1) G) (c + 1) (nums (insL zs i p q m)) from own_of_row hrow2 hX hGn hGm (insL_len hzl hi p q m) (fun x hx => by
        rcases (show x < i * 3 ∨ (∃ j, j < 3 ∧ x = i * 3 + j) ∨ ∃ j, j < (c - i) * 3 ∧ x = i * 3 + 3 + j from by
          rcases Nat.lt_or_ge x (i * 3) with a | a
          · exact .inl a
          · rcases Nat.lt_or_ge x (i * 3 + 3) with b | b
            · exact .inr (.inl ⟨x - i * 3, by omega, by omega⟩)
            · exact .inr (.inr ⟨x - (i * 3 + 3), by omega, by omega⟩)) with h1 | ⟨j, h1, rfl⟩ | ⟨j, h1, rfl⟩
        · rw [insL_lo hzl hi p q m h1, if_neg (by omega), if_neg (by omega), hRt x h1]
          rfl
        · rw [insL_at hzl hi p q m h1, if_neg (by omega), if_pos (by simp; omega), Nat.add_sub_cancel_left]
          rcases (show j = 0 ∨ j = 1 ∨ j = 2 by omega) with rfl | rfl | rfl <;> rfl
        · rw [insL_hi hzl hi p q m j, if_pos (by rw [hdl]; omega), List.getElem?_drop, show i * 3 + (i * 3 + 3 + j - (i + 1) * 3) = i * 3 + j by omega, nums_get (by omega)]
          rfl))
      have HG := Lib.hid (show w.grownBy (W1.drew.setCells w.heap.size ((i + 1) * 3) ((nums zs).drop (i * 3))) (Value.slice (some ⟨g, 0, none⟩) c c).ownBlock from ⟨hbel2.os, hbel2.tape, hbel2.output, hbel2.size, fun k hk _ => hbel2.block k hk⟩)
      have hGi : ¬ (G = i) := by omega
      have hGim : ¬ (G = i + 1) := by omega
      have hb1 : (0 : Int) ≤ (i : Int) + 1 := by omega
      have hb3 : (i : Int) ≤ (c : Int) := by omega
      have hGL := hGm
      unfold maxLen at hGL
      clear hrow1 hrow2 hrow0 hbel1 hbel2 hbel hcel hcel1 hF hown hrow hvc0 hb0 hold hROW hG hRt hRl hik hkk hGm hvc hvb hZs
      go_enter Try.func120, Try.ntmps120
      go_wp2_with (first
        | (at_builtin; refine Lib.wpList_append_run _ rfl _ _ _ _ rfl _ _ rfl rfl _ _ (hrz _) ?_)
        | (at_builtin; refine wpList_copy_runI _ rfl _ _ 40 40 rfl _ _ rfl rfl (hcpA _ _) ?_))
      go_region_law_o (refine step_copy_runI rfl _ _ 40 40 rfl _ _ (by simp [Act.eval, Act.put]) (by simp [Act.eval, Act.put]) (hcpB _ _ _) ?_)
      go_wp2
      go_ret
      exact ⟨⟨_, rfl, HF.out⟩, HG.out⟩
  · have hsp : c = i ∨ (i < c ∧ ¬ (c = i)) := by omega
    have hins : insL zs i p q m = zs ++ [p, q, m] := by
      unfold insL
      rw [← hzl, List.take_length, List.drop_length, List.append_nil]
    have HI := Lib.hid hins
    clear hins
    have hw1 : ∀ j u, ([.int .i64 p, .int .i64 q, .int .i64 m] : List Value)[j]? = some u → w.cell? ((⟨vb, 0, none⟩ : Addr).add j) = some u := fun j u h => by rw [Addr.add_lit, Nat.zero_add]; exact hvc j u h
    have hw2 : ∀ u ∈ ([.int .i64 p, .int .i64 q, .int .i64 m] : List Value), u.oneCell' = true := by intro u hu; simp at hu; rcases hu with rfl | rfl | rfl <;> rfl
    have hw3 : i + 1 ≤ maxLen := by unfold maxLen; omega
    rcases hsp with rfl | ⟨hci, hci'⟩
    · go_enter Try.func120, Try.ntmps120
      go_wp2_with (at_builtin; refine wpList_append_own_at _ rfl _ _ 40 rfl X 94 i0 _ 3 24 Try.underlying40 hi0 hz0 hz1 hz2 rfl (by decide) _ _ _ rfl hown ⟨vb, 0, none⟩ 1 1 [.int .i64 p, .int .i64 q, .int .i64 m] rfl rfl hw1 hw2 hw3 (by omega) hX ?_)
      intro v' w2 hown2 hgrow2 _ _
      have HO := Lib.hid hown2
      obtain ⟨A2, d2, rfl, _, _⟩ := own_slice hown2
      clear hown2
      go_wp2_with fail
      go_ret
      exact ⟨⟨_, rfl, by rw [HI.out, nums_append]; exact HO.out⟩, hgrow2⟩
    · go_enter Try.func120, Try.ntmps120
      go_wp2_with (at_builtin; refine wpList_append_own_at _ rfl _ _ 40 rfl X 94 i0 _ 3 24 Try.underlying40 hi0 hz0 hz1 hz2 rfl (by decide) _ _ _ rfl hown ⟨vb, 0, none⟩ 1 1 [.int .i64 p, .int .i64 q, .int .i64 m] rfl rfl hw1 hw2 hw3 (by omega) hX ?_)
      intro v' w2 hown2 hgrow2 _ _
      have HO := Lib.hid hown2
      obtain ⟨A2, d2, rfl, _, _⟩ := own_slice hown2
      clear hown2
      go_wp2_with fail
      go_ret
      exact ⟨⟨_, rfl, by rw [HI.out, nums_append]; exact HO.out⟩, hgrow2⟩
/-- the levels without the one at a place -/
def delL (zs : List Int) (i : Nat) : List Int := zs.take (i * 3) ++ zs.drop ((i + 1) * 3)
theorem delL_len {zs : List Int} {n i : Nat} (h : zs.length = n * 3) (hi : i < n) : (delL zs i).length = (n - 1) * 3 := by
  simp [delL, h]
  omega
theorem delL_lo {zs : List Int} {n i : Nat} (h : zs.length = n * 3) (hi : i < n) {j : Nat} (hj : j < i * 3) : num (delL zs i) j = num zs j := by
  unfold delL
  rw [num_app_lo (by simp [h]; omega), num_take hj]
theorem delL_hi {zs : List Int} {n i : Nat} (h : zs.length = n * 3) (hi : i < n) (j : Nat) : num (delL zs i) (i * 3 + j) = num zs ((i + 1) * 3 + j) := by
  unfold delL
  rw [num_app_hi (by simp [h]; omega), num_drop]
  congr 1
  simp [h]
  omega
set_option linter.unusedSimpArgs false in
set_option maxHeartbeats 3200000 in
set_option maxRecDepth 100000 in
theorem impl_DeleteL (X k i : Nat) (v : Value) (zs : List Int) (w : World) (hown : w.ownsRow X 94 3 v (k + 1) (nums zs)) (hn : k + 1 ≤ 1048576) (hi : i ≤ k) :
    Calls Try.prog 121 #[v, .int .i64 (i : Int), .int .i64 ((i : Int) + 1)] w fun e w' => (∃ v', e = .returned v' ∧ w'.ownsRow X 94 3 v' k (nums (delL zs i))) ∧ w.grownBy w' v.ownBlock := by
  obtain ⟨i0, hi0, hz0, hz1, hz2⟩ := info_parts lev_info
  obtain ⟨A, c, rfl, hnc, hcm⟩ := own_slice hown
  unfold maxLen at hcm
  have mixed : Try.prog.follows .mixedOrders = true := by kernel_rfl
  have hzl : zs.length = (k + 1) * 3 := by rw [← nums_length]; exact hown.1
  obtain ⟨g, cap, hg, _, _⟩ := hown.form (by omega)
  injection hg with hg1 hg2 hg3
  subst hg1 hg3
  obtain ⟨hXg, _, _, F, hrow, hF⟩ := row_of_nums hown
  have hgw := hrow.lt
  have hsz : (Try.prog.info? 94).map (·.size) = some 3 := by rw [hi0]; simp [hz1]
  have e1 : ¬ ((i : Int) = (i : Int) + 1) := by omega
  have e2 : (i : Int) ≤ (k : Int) := by omega
  have e3 : (k : Int) + 1 ≤ (c : Int) := by omega
  have e4 : (0 : Int) ≤ (i : Int) + 1 := by omega
  have e5 : ¬ (c = k) := by omega
  go_enter Try.func121, Try.ntmps121
  go_upto_region 5 with fail
  by_cases hcb : c = i + 1
  · have hki : k = i := by omega
    subst hki
    have e7 : (k : Int) ≤ (k : Int) + 1 := by omega
    have hap : ∀ ty AD SC, (Builtin.append_ #[40, 40] ty #[.slice (some ⟨g, 0, none⟩) k c, .slice (some AD) 0 SC]).run Try.prog w.drew = .ok (.slice (some ⟨g, 0, none⟩) k c) (w.drew.setCells g (k * 3) []) := fun ty AD SC => by
      have h := run_append_room_src (P := Try.prog) w.drew 40 40 ty 94 i0 Try.underlying40 hi0 g 0 k c _ 0 [] (Src.ofSlice w.drew Try.underlying40 AD 0 SC [] (by rw [hz1]; rfl) (fun j u h => by cases h) (fun u hu => by cases hu)) (by omega) (fun j hj => by rw [hz1, show w.drew.cell? ⟨g, 0 + k * 3 + j, none⟩ = _ from hrow.cell (i := 0 + k * 3 + j) (by simp at hj)]; rfl) (fun j hj => hrow.frozen _)
      rw [hz1, Nat.zero_add] at h
      rw [show k + 0 = k by omega] at h
      exact h
    have hrow1 := rowIs_setCells [] (k * 3) w.drew F hrow
    have hg1 : w.grownBy (w.drew.setCells g (k * 3) []) (some g) := (show w.grownBy w.drew (some g) from ⟨rfl, rfl, rfl, Nat.le_refl _, fun _ _ _ => rfl⟩).trans (setsN_grown g _ _ _)
    generalize hW1 : w.drew.setCells g (k * 3) [] = W1 at *
    have hW2 : w.drew = W1 := hW1
    subst hW2
    clear hW1
    have hzc : (Builtin.zeroCells (Value.agg #[.int .i64 0, .int .i64 0, .int .i64 0]).cells 1).toList = [.int .i64 0, .int .i64 0, .int .i64 0] := by kernel_rfl
    have hcl : ∀ ty CC, (Builtin.clear_ #[40] ty #[.slice (some ⟨g, k * 3, none⟩) 1 CC]).run Try.prog w.drew = .ok (.tuple #[]) (w.drew.setCells g (k * 3) [.int .i64 0, .int .i64 0, .int .i64 0]) := fun ty CC => by
      have h := run_clear_cellsN (P := Try.prog) w.drew 40 94 ty _ Try.underlying40 lev_zero g (k * 3) 1 CC (by omega) (by rw [hzc]; intro u hu; simp at hu; subst hu; rfl) (fun j hj => by rw [hzc] at hj; simp at hj; rw [hrow1.cell (i := k * 3 + j) (by omega)]; rfl) (fun j hj => hrow1.frozen _)
      rw [hzc] at h
      exact h
    have hrow2 := rowIs_setCells [.int .i64 0, .int .i64 0, .int .i64 0] (k * 3) w.drew _ hrow1
    have hg2 := hg1.trans (setsN_grown g [.int .i64 0, .int .i64 0, .int .i64 0] (k * 3) w.drew)
    have HF := Lib.hid (show (w.drew.setCells g (k * 3) [.int .i64 0, .int .i64 0, .int .i64 0]).ownsRow X 94 3 (.slice (some ⟨g, 0, none⟩) k c) k (nums (delL zs k)) from own_of_row hrow2 hXg (by omega) (by unfold maxLen; omega) (by rw [delL_len hzl (by omega)]; omega) (fun x hx => by
      rw [if_neg (by omega)]
      rcases Nat.lt_or_ge x (k * 3) with h1 | h1
      · rw [delL_lo hzl (by omega) h1, if_neg (by omega), hF x (by omega)]
      · obtain ⟨j, rfl⟩ : ∃ j, x = k * 3 + j := ⟨x - k * 3, by omega⟩
        omega))
    have HG := Lib.hid hg2
    clear hrow1 hrow2 hg1 hg2 hrow hF hown hzc
    go_region_law_o (refine step_app_run rfl _ _ 40 40 rfl _ _ (by simp [Act.eval, Act.put]) (by simp [Act.eval, Act.put]) (hap _ _ _) ?_)
    go_wp2_with (simp only [hcl])
    go_ret
    have HF1 := HF.out
    rw [hcb] at HF1
    exact ⟨⟨_, rfl, HF1⟩, HG.out⟩
  · have e6 : ¬ (c = i + 1) := hcb
    have e7 : (i : Int) ≤ (c : Int) := by omega
    have e8 : (i : Int) + 1 ≤ (k : Int) + 1 := by omega
    have hap : ∀ ty, (Builtin.append_ #[40, 40] ty #[.slice (some ⟨g, 0, none⟩) i c, .slice (some ⟨g, (i + 1) * 3, none⟩) (k - i) (c - (i + 1))]).run Try.prog w.drew = .ok (.slice (some ⟨g, 0, none⟩) k c) (w.drew.setCells g (i * 3) ((nums zs).drop ((i + 1) * 3))) := fun ty => by
      have h := run_append_room_src (P := Try.prog) w.drew 40 40 ty 94 i0 Try.underlying40 hi0 g 0 i c _ (k - i) ((nums zs).drop ((i + 1) * 3)) (Src.ofSlice w.drew Try.underlying40 ⟨g, (i + 1) * 3, none⟩ (k - i) (c - (i + 1)) ((nums zs).drop ((i + 1) * 3)) (by rw [hz1]; rw [List.length_drop, nums_length, hzl]; omega) (fun j u h => by
        rw [List.getElem?_drop] at h
        have hj := (List.getElem?_eq_some_iff.1 h).1
        rw [nums_length, hzl] at hj
        rw [nums_get (by omega)] at h
        rw [Addr.add_lit, show w.drew.cell? ⟨g, (i + 1) * 3 + j, none⟩ = _ from hrow.cell (i := (i + 1) * 3 + j) (by omega), hF _ (by omega), h]) (fun u hu => nums_one zs u (List.mem_of_mem_drop hu))) (by omega) (fun j hj => by rw [hz1, show w.drew.cell? ⟨g, 0 + i * 3 + j, none⟩ = _ from hrow.cell (i := 0 + i * 3 + j) (by rw [List.length_drop, nums_length, hzl] at hj; omega)]; rfl) (fun j hj => hrow.frozen _)
      rw [hz1, Nat.zero_add] at h
      rw [show i + (k - i) = k by omega] at h
      exact h
    have hrow1 := rowIs_setCells ((nums zs).drop ((i + 1) * 3)) (i * 3) w.drew F hrow
    have hg1 : w.grownBy (w.drew.setCells g (i * 3) ((nums zs).drop ((i + 1) * 3))) (some g) := (show w.grownBy w.drew (some g) from ⟨rfl, rfl, rfl, Nat.le_refl _, fun _ _ _ => rfl⟩).trans (setsN_grown g _ _ _)
    generalize hW1 : w.drew.setCells g (i * 3) ((nums zs).drop ((i + 1) * 3)) = W1 at *
    have hzc : (Builtin.zeroCells (Value.agg #[.int .i64 0, .int .i64 0, .int .i64 0]).cells 1).toList = [.int .i64 0, .int .i64 0, .int .i64 0] := by kernel_rfl
    have hcl : ∀ ty CC, (Builtin.clear_ #[40] ty #[.slice (some ⟨g, k * 3, none⟩) 1 CC]).run Try.prog W1 = .ok (.tuple #[]) (W1.setCells g (k * 3) [.int .i64 0, .int .i64 0, .int .i64 0]) := fun ty CC => by
      have h := run_clear_cellsN (P := Try.prog) W1 40 94 ty _ Try.underlying40 lev_zero g (k * 3) 1 CC (by omega) (by rw [hzc]; intro u hu; simp at hu; subst hu; rfl) (fun j hj => by rw [hzc] at hj; simp at hj; rw [hrow1.cell (i := k * 3 + j) (by omega)]; rfl) (fun j hj => hrow1.frozen _)
      rw [hzc] at h
      exact h
    have hrow2 := rowIs_setCells [.int .i64 0, .int .i64 0, .int .i64 0] (k * 3) W1 _ hrow1
    have hg2 := hg1.trans (setsN_grown g [.int .i64 0, .int .i64 0, .int .i64 0] (k * 3) W1)
    have HF := Lib.hid (show (W1.setCells g (k * 3) [.int .i64 0, .int .i64 0, .int .i64 0]).ownsRow X 94 3 (.slice (some ⟨g, 0, none⟩) k c) k (nums (delL zs i)) from own_of_row hrow2 hXg (by omega) (by unfold maxLen; omega) (by rw [delL_len hzl (by omega)]; omega) (fun x hx => by
      rw [if_neg (by omega)]
      rcases Nat.lt_or_ge x (i * 3) with h1 | h1
      · rw [delL_lo hzl (by omega) h1, if_neg (by omega), hF x (by omega)]
      · obtain ⟨j, rfl⟩ : ∃ j, x = i * 3 + j := ⟨x - i * 3, by omega⟩
        rw [delL_hi hzl (by omega) j, if_pos (by rw [List.length_drop, nums_length, hzl]; omega), List.getElem?_drop, show (i + 1) * 3 + (i * 3 + j - i * 3) = (i + 1) * 3 + j by omega, nums_get (by omega)]
        rfl))
    have HG := Lib.hid hg2
    clear hrow1 hrow2 hg1 hg2 hrow hF hown hzc
    go_region_law_o (refine step_app_run rfl _ _ 40 40 rfl _ _ (by simp [Act.eval, Act.put]) (by simp [Act.eval, Act.put]) (hap _) ?_)
    go_wp2_with (simp only [hcl])
    go_ret
    exact ⟨⟨_, rfl, HF.out⟩, HG.out⟩
end Go.Proofs.Ytfodkefaflpicaa
