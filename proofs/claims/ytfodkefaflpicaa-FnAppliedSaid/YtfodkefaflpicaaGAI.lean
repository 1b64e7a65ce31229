/-
  AplI, AplS, AplJ, AplK.
-/
import Derived.Test.YtfodkefaflpicaaGAP
import Derived.Deep.QuietTactic
import Derived.Test.YtfodkefaflpicaaDeltP
import Derived.ScopeJumps
import Derived.WalkMore
namespace Go.Proofs.Ytfodkefaflpicaa
open Go.RowKit Go.Lib

theorem lev_zero : ∀ w, (zeroValue 94).run Try.prog w = .ok (.agg #[.int .i64 0, .int .i64 0, .int .i64 0]) w := by
  obtain ⟨i0, hi, hz0, hz1, hz2⟩ := info_parts lev_info
  intro w
  simp [zeroValue, typeInfo, hi, hz0]
/-- the levels with one put in at a place -/
def insL (zs : List Int) (i : Nat) (p q m : Int) : List Int := zs.take (i * 3) ++ [p, q, m] ++ zs.drop (i * 3)
theorem insL_len {zs : List Int} {n i : Nat} (h : zs.length = n * 3) (hi : i ≤ n) (p q m : Int) : (insL zs i p q m).length = (n + 1) * 3 := by
  simp [insL, h]
  omega
theorem insL_lo {zs : List Int} {n i : Nat} (h : zs.length = n * 3) (hi : i ≤ n) (p q m : Int) {j : Nat} (hj : j < i * 3) : num (insL zs i p q m) j = num zs j := by
  unfold insL
  rw [num_app_lo (by simp [h]; omega), num_app_lo (by simp [h]; omega), num_takeL hj]
theorem insL_at {zs : List Int} {n i : Nat} (h : zs.length = n * 3) (hi : i ≤ n) (p q m : Int) {j : Nat} (hj : j < 3) : num (insL zs i p q m) (i * 3 + j) = num [p, q, m] j := by
  unfold insL
  rw [num_app_lo (by simp [h]; omega), num_app_hi (by simp [h]; omega), List.length_take, h, Nat.min_eq_left (by omega), Nat.add_sub_cancel_left]
theorem insL_hi {zs : List Int} {n i : Nat} (h : zs.length = n * 3) (hi : i ≤ n) (p q m : Int) (j : Nat) : num (insL zs i p q m) (i * 3 + 3 + j) = num zs (i * 3 + j) := by
  unfold insL
  rw [num_app_hi (by simp [h]; omega), num_dropL]
  congr 1
  simp [h]
  omega
set_option linter.unusedSimpArgs false in
set_option maxHeartbeats 3200000 in
set_option maxRecDepth 100000 in
theorem impl_InsertL (X n i vb : Nat) (p q m : Int) (v : Value) (zs : List Int) (w : World) (hown : w.ownsRow X 94 3 v n (nums zs)) (hX : X ≤ w.heap.size) (hn : n ≤ 1048576) (hi : i ≤ n) (hvb : w.heap[vb]? = some (.cells #[.int .i64 p, .int .i64 q, .int .i64 m] 94 (0, 0))) (hne : some vb ≠ v.ownBlock) :
    Calls Try.prog 120 #[v, .int .i64 (i : Int), .slice (some ⟨vb, 0, none⟩) 1 1] w fun e w' => (∃ v', e = .returned v' ∧ w'.ownsRow X 94 3 v' (n + 1) (nums (insL zs i p q m))) ∧ w.grownBy w' v.ownBlock := by
  obtain ⟨i0, hi0, hz0, hz1, hz2⟩ := info_parts lev_info
  obtain ⟨A, c, rfl, hnc, hcm⟩ := own_slice hown
  unfold maxLen at hcm
  have mixed : Try.prog.follows .mixedOrders = true := by kernel_rfl
  have hzl : zs.length = n * 3 := by rw [← nums_length]; exact hown.1
  have hvc : ∀ j u, (#[Value.int .i64 p, .int .i64 q, .int .i64 m] : Array Value).toList[j]? = some u → w.cell? ⟨vb, j, none⟩ = some u := fun j u h => by
    simp only [World.cell?, hvb]
    rcases j with _ | _ | _ | j <;> simp_all
  rcases Nat.lt_or_eq_of_le hi with hlt | rfl
  · obtain ⟨g, cap, hg, _, _⟩ := hown.form (by omega)
    injection hg with hg1 hg2 hg3
    subst hg1 hg3
    obtain ⟨hXg, _, _, F, hrow, hF⟩ := row_of_nums hown
    have hgw := hrow.lt
    have hgv : vb ≠ g := fun e => hne (by rw [e]; rfl)
    have hsz : (Try.prog.info? 94).map (·.size) = some 3 := by rw [hi0]; simp [hz1]
    have hone : ∀ u ∈ ((nums zs).drop (i * 3)), u.oneCell' = true := fun u hu => nums_one zs u (List.mem_of_mem_drop hu)
    have hdl : ((nums zs).drop (i * 3)).length = (n - i) * 3 := by rw [List.length_drop, nums_length, hzl]; omega
    have hwr : IntKind.i64.wrap ((i : Int) + 1) = (i : Int) + 1 := by rw [IntKind.wrap_i64]; omega
    have htn : ((i : Int) + 1).toNat = i + 1 := by omega
    have hz2' : ¬ ((i : Int) = (n : Int)) := by omega
    have hci : ¬ (c = i) := by omega
    rcases Nat.lt_or_ge n c with hroom | hfull
    · obtain ⟨cv, hhv, hcv, _⟩ := id hrow
      have hov : ∀ lb cb, (callFunc 141 #[.slice (some ⟨vb, 0, none⟩) 1 1, .slice (some ⟨g, (i + 1) * 3, none⟩) lb cb]).run Try.prog w = .ok (.value (.bool false)) w := fun lb cb => by
        rw [run_callFunc_extern Try.func141 (by kernel_rfl) (by kernel_rfl) (by kernel_rfl) (e := Extern.SlicesOverlaps.overlaps #[40, 40] #[4]) (by kernel_rfl),
          Lib.run_overlaps_apart w 40 4 94 Try.underlying40 3 Try.sizeOf94 ⟨vb, 0, none⟩ ⟨g, (i + 1) * 3, none⟩ 1 1 lb cb hgv 94 94 3 (c * 3) (by simp [World.shape?, hvb]) (by simp [World.shape?, hhv, hcv]) (by omega) (by simp [World.frozen?, hvb]) (by simp [World.frozen?, hvb])]
        rfl
      clear hhv hcv
      have hb1 : (0 : Int) ≤ (i : Int) + 1 := by omega
      have hb2 : ¬ (c = i + 1) := by omega
      have hb3 : (i : Int) ≤ (n : Int) + 1 := by omega
      have hcel : ∀ (W : World) (hr : W.rowIs g 94 (c * 3) F) (j : Nat) (u : Value), ((nums zs).drop (i * 3))[j]? = some u → W.cell? ⟨g, i * 3 + j, none⟩ = some u := fun W hr j u h => by
        rw [List.getElem?_drop] at h
        have hj := (List.getElem?_eq_some_iff.1 h).1
        rw [nums_length, hzl] at hj
        rw [nums_get (by omega)] at h
        rw [hr.cell (by omega), hF _ (by omega), h]
      have hcp1 : ∀ ty dc sc, (Builtin.copy_ #[40, 40] ty #[.slice (some ⟨g, (i + 1) * 3, none⟩) (n - i) dc, .slice (some ⟨g, i * 3, none⟩) (n + 1 - i) sc]).run Try.prog w.drew = .ok (goInt ((n - i : Nat) : Int)) (w.drew.setCells g ((i + 1) * 3) ((nums zs).drop (i * 3))) := fun ty dc sc =>
        run_copy_cellsN w.drew _ _ ty 94 3 (n - i) g ((i + 1) * 3) (n - i) dc ⟨g, i * 3, none⟩ (n + 1 - i) sc ((nums zs).drop (i * 3)) Try.underlying40 hsz (by simp only [Nat.min_def]; split <;> omega) hdl
          (fun j u hj => by rw [Addr.add_lit]; exact hcel w.drew hrow j u hj) (fun j hj => by rw [show w.drew.cell? ⟨g, (i + 1) * 3 + j, none⟩ = _ from hrow.cell (i := (i + 1) * 3 + j) (by omega)]; rfl) (fun j hj => hrow.frozen ((i + 1) * 3 + j)) hone
      have hrow1 := rowIs_setCells ((nums zs).drop (i * 3)) ((i + 1) * 3) w.drew F hrow
      have hg1 : w.grownBy (w.drew.setCells g ((i + 1) * 3) ((nums zs).drop (i * 3))) (some g) := (show w.grownBy w.drew (some g) from ⟨rfl, rfl, rfl, Nat.le_refl _, fun _ _ _ => rfl⟩).trans (setsN_grown g _ _ _)
      have hvc1 : ∀ j u, [.int .i64 p, .int .i64 q, .int .i64 m][j]? = some u → (w.drew.setCells g ((i + 1) * 3) ((nums zs).drop (i * 3))).cell? ⟨vb, j, none⟩ = some u := fun j u h => hg1.cell (hvc j u h) (fun e => hgv (by injection e))
      generalize w.drew.setCells g ((i + 1) * 3) ((nums zs).drop (i * 3)) = W1 at *
      have hcp2 : ∀ ty dc, (Builtin.copy_ #[40, 40] ty #[.slice (some ⟨g, i * 3, none⟩) (n + 1 - i) dc, .slice (some ⟨vb, 0, none⟩) 1 1]).run Try.prog W1 = .ok (goInt 1) (W1.setCells g (i * 3) [.int .i64 p, .int .i64 q, .int .i64 m]) := fun ty dc =>
        run_copy_cellsN W1 _ _ ty 94 3 1 g (i * 3) (n + 1 - i) dc ⟨vb, 0, none⟩ 1 1 [.int .i64 p, .int .i64 q, .int .i64 m] Try.underlying40 hsz (by simp only [Nat.min_def]; split <;> omega) rfl
          (fun j u hj => by rw [Addr.add_lit, Nat.zero_add]; exact hvc1 j u hj) (fun j hj => by simp at hj; rw [hrow1.cell (i := i * 3 + j) (by omega)]; rfl) (fun j hj => hrow1.frozen (i * 3 + j)) (by intro u hu; simp at hu; rcases hu with rfl | rfl | rfl <;> rfl)
      have hrow2 := rowIs_setCells [.int .i64 p, .int .i64 q, .int .i64 m] (i * 3) W1 _ hrow1
      have hg2 := hg1.trans (setsN_grown g [.int .i64 p, .int .i64 q, .int .i64 m] (i * 3) W1)
      have HF := Lib.hid (show (W1.setCells g (i * 3) [.int .i64 p, .int .i64 q, .int .i64 m]).ownsRow X 94 3 (.slice (some ⟨g, 0, none⟩) (n + 1) c) (n + 1) (nums (insL zs i p q m)) from own_of_rowN hrow2 hXg (by omega) (by unfold maxLen; omega) (insL_len hzl hi p q m) (fun x hx => by
        rcases (show x < i * 3 ∨ (∃ j, j < 3 ∧ x = i * 3 + j) ∨ ∃ j, j < (n - i) * 3 ∧ x = i * 3 + 3 + j from by
          rcases Nat.lt_or_ge x (i * 3) with a | a
          · exact .inl a
          · rcases Nat.lt_or_ge x (i * 3 + 3) with b | b
            · exact .inr (.inl ⟨x - i * 3, by omega, by omega⟩)
            · exact .inr (.inr ⟨x - (i * 3 + 3), by omega, by omega⟩)) with h1 | ⟨j, h1, rfl⟩ | ⟨j, h1, rfl⟩
        · rw [insL_lo hzl hi p q m h1, if_neg (by omega), if_neg (by omega), hF x (by omega)]
        · rw [insL_at hzl hi p q m h1, if_pos (by simp; omega), Nat.add_sub_cancel_left]
          rcases (show j = 0 ∨ j = 1 ∨ j = 2 by omega) with rfl | rfl | rfl <;> rfl
        · rw [insL_hi hzl hi p q m j, if_neg (by simp), if_pos (by rw [hdl]; omega), List.getElem?_drop, show i * 3 + (i * 3 + 3 + j - (i + 1) * 3) = i * 3 + j by omega, nums_get (by omega)]
          rfl))
      have HG := Lib.hid hg2
      clear hrow1 hrow2 hg1 hg2 hrow hcel hF hown hvc1 hvc hvb
      go_enter Try.func120, Try.ntmps120
      go_wp2_with (simp only [hov])
      go_region_law_o (refine step_copy_runI rfl _ _ 40 40 rfl _ _ (by simp [Act.eval, Act.put]) (by simp [Act.eval, Act.put]) (hcp1 _ _ _) ?_)
      go_wp2_with (at_builtin; refine wpList_copy_runI _ rfl _ _ 40 40 rfl _ _ rfl rfl (hcp2 _ _) ?_)
      go_ret
      exact ⟨⟨_, rfl, HF.out⟩, HG.out⟩
    · obtain rfl : c = n := by omega
      have hcel : ∀ (j : Nat) (u : Value), ((nums zs).drop (i * 3))[j]? = some u → w.cell? ⟨g, i * 3 + j, none⟩ = some u := fun j u h => by
        rw [List.getElem?_drop] at h
        have hj := (List.getElem?_eq_some_iff.1 h).1
        rw [nums_length, hzl] at hj
        rw [nums_get (by omega)] at h
        rw [hrow.cell (by omega), hF _ (by omega), h]
      have hold : (Builtin.firstCells i0.size i (.slice (some ⟨g, 0, none⟩) i c)).run Try.prog w.drew = .ok ((nums zs).take (i * 3)).toArray w.drew := by
        rw [hz1]
        exact run_firstCells_some w.drew 3 i ⟨g, 0, none⟩ i c ((nums zs).take (i * 3)) (by rw [List.length_take, nums_length]; omega) (fun j u hj => by
          rw [Addr.add_lit]
          rw [List.getElem?_take] at hj
          split at hj
          · rw [Nat.zero_add]
            rw [nums_get (by omega)] at hj
            show w.cell? _ = _
            rw [hrow.cell (by omega), hF _ (by omega), hj]
          · cases hj)
      have hik : i + (c + 1 - i) = c + 1 := by omega
      have hkk : (c : Int) + 1 - (i : Int) = ((c + 1 - i : Nat) : Int) := by omega
      obtain ⟨G, hG⟩ : ∃ G, G = grownCap w (c + 1) c 94 := ⟨_, rfl⟩
      obtain ⟨ZV, hZV⟩ : ∃ ZV, ZV = Value.agg #[.int .i64 0, .int .i64 0, .int .i64 0] := ⟨_, rfl⟩
      have hZs : ZV.cells.size = 3 := by rw [hZV]; rfl
      rw [← hZV] at hz0
      obtain ⟨ROW, hROW⟩ : ∃ ROW : Array Value, ROW = ((nums zs).take (i * 3)).toArray ++ Builtin.zeroCells ZV.cells (c + 1 - i) ++ Builtin.zeroCells ZV.cells (G - (c + 1)) := ⟨_, rfl⟩
      have hGn : c + 1 ≤ G := by rw [hG]; exact grownCap_ge w _ _ _
      have hGm : G ≤ maxLen := by rw [hG]; exact grownCap_le_maxLen w (c + 1) c 94 (by unfold maxLen; omega)
      have hRl : ROW.size = G * 3 := by
        rw [hROW]
        simp [Builtin.zeroCells, hZs, nums_length, hzl]
        omega
      have hRt : ∀ x, x < i * 3 → ROW[x]? = some (.int .i64 (num zs x)) := fun x hx => by
        rw [hROW, Array.append_assoc, Array.getElem?_append_left (by simp [nums_length]; omega)]
        simp only [List.getElem?_toArray]
        rw [List.getElem?_take, if_pos hx, nums_get (by omega)]
      have hrz : ∀ ty, (Builtin.append_ #[40, 3] ty #[.slice (some ⟨g, 0, none⟩) i c, .int .i64 ((c : Int) + 1 - (i : Int))]).run Try.prog w = .ok (.slice (some ⟨w.heap.size, 0, none⟩) (c + 1) G) (w.drew.alloc (.cells ROW 94)) := fun ty => by
        have h := Lib.run_append_grow_zeros w 40 3 ty 94 i0 _ .i64 .i64 Try.underlying40 Try.underlying3 hi0 hz0 (some ⟨g, 0, none⟩) i c ((nums zs).take (i * 3)) hold (c + 1 - i) (by omega) (by omega) (by omega) (by omega) (by rw [hz2]; omega) (by rw [hz2, hik]; exact growslice_fits (by omega) (by omega))
        rw [hik] at h
        rw [hkk, hROW, hG]
        exact h
      have hbN : g ≠ w.heap.size := by omega
      have hrow0 : (w.drew.alloc (.cells ROW 94)).rowIs w.heap.size 94 (G * 3) (fun q => ROW[q]?.getD (.pointer none)) := ⟨ROW, heap_alloc_new w.drew _, hRl, fun q hq => by simp [show q < ROW.size by omega]⟩
      have hb0 : Below w.heap.size w (w.drew.alloc (.cells ROW 94)) := (Below.refl _ w).drew.alloc (Nat.le_refl _) _
      have hvw : vb < w.heap.size := (Array.getElem?_eq_some_iff.1 hvb).1
      have hvc0 : ∀ j u, [.int .i64 p, .int .i64 q, .int .i64 m][j]? = some u → (w.drew.alloc (.cells ROW 94)).cell? ⟨vb, j, none⟩ = some u := fun j u h => (hb0.cell (p := ⟨vb, j, none⟩) hvw).trans (hvc j u h)
      have hbel := hb0
      generalize hW0 : w.drew.alloc (.cells ROW 94) = W0 at *
      have hcpA : ∀ ty dc, (Builtin.copy_ #[40, 40] ty #[.slice (some ⟨w.heap.size, i * 3, none⟩) (c + 1 - i) dc, .slice (some ⟨vb, 0, none⟩) 1 1]).run Try.prog W0 = .ok (goInt 1) (W0.setCells w.heap.size (i * 3) [.int .i64 p, .int .i64 q, .int .i64 m]) := fun ty dc =>
        run_copy_cellsN W0 _ _ ty 94 3 1 w.heap.size (i * 3) (c + 1 - i) dc ⟨vb, 0, none⟩ 1 1 [.int .i64 p, .int .i64 q, .int .i64 m] Try.underlying40 hsz (by simp only [Nat.min_def]; split <;> omega) rfl
          (fun j u hj => by rw [Addr.add_lit, Nat.zero_add]; exact hvc0 j u hj) (fun j hj => by simp at hj; rw [hrow0.cell (i := i * 3 + j) (by omega)]; rfl) (fun j hj => hrow0.frozen (i * 3 + j)) (by intro u hu; simp at hu; rcases hu with rfl | rfl | rfl <;> rfl)
      have hrow1 := rowIs_setCells [.int .i64 p, .int .i64 q, .int .i64 m] (i * 3) W0 _ hrow0
      have hbel1 := below_setCells (b := w.heap.size) (Nat.le_refl w.heap.size) [.int .i64 p, .int .i64 q, .int .i64 m] (i * 3) W0 hbel
      have hcel1 : ∀ (j : Nat) (u : Value), ((nums zs).drop (i * 3))[j]? = some u → (W0.setCells w.heap.size (i * 3) [.int .i64 p, .int .i64 q, .int .i64 m]).drew.cell? ⟨g, i * 3 + j, none⟩ = some u := fun j u h => (hbel1.cell (p := ⟨g, i * 3 + j, none⟩) hgw).trans (hcel j u h)
      generalize W0.setCells w.heap.size (i * 3) [.int .i64 p, .int .i64 q, .int .i64 m] = W1 at *
      have hcpB : ∀ ty dc sc, (Builtin.copy_ #[40, 40] ty #[.slice (some ⟨w.heap.size, (i + 1) * 3, none⟩) (c - i) dc, .slice (some ⟨g, i * 3, none⟩) (c - i) sc]).run Try.prog W1.drew = .ok (goInt ((c - i : Nat) : Int)) (W1.drew.setCells w.heap.size ((i + 1) * 3) ((nums zs).drop (i * 3))) := fun ty dc sc =>
        run_copy_cellsN W1.drew _ _ ty 94 3 (c - i) w.heap.size ((i + 1) * 3) (c - i) dc ⟨g, i * 3, none⟩ (c - i) sc ((nums zs).drop (i * 3)) Try.underlying40 hsz (by simp only [Nat.min_def]; split <;> omega) hdl
          (fun j u hj => by rw [Addr.add_lit]; exact hcel1 j u hj) (fun j hj => by rw [show W1.drew.cell? ⟨w.heap.size, (i + 1) * 3 + j, none⟩ = _ from hrow1.cell (i := (i + 1) * 3 + j) (by omega)]; rfl) (fun j hj => hrow1.frozen ((i + 1) * 3 + j)) hone
      have hrow2 := rowIs_setCells ((nums zs).drop (i * 3)) ((i + 1) * 3) W1.drew _ hrow1
      have hbel2 := below_setCells (b := w.heap.size) (Nat.le_refl w.heap.size) ((nums zs).drop (i * 3)) ((i + 1) * 3) W1.drew hbel1.drew
      have HF := Lib.hid (show (W1.drew.setCells w.heap.size ((i + 1) * 3) ((nums zs).drop (i * 3))).ownsRow X 94 3 (.slice (some ⟨w.heap.size, 0, none⟩) (c + 1) G) (c + 1) (nums (insL zs i p q m)) from own_of_rowN hrow2 hX hGn hGm (insL_len hzl hi p q m) (fun x hx => by
        rcases (show x < i * 3 ∨ (∃ j, j < 3 ∧ x = i * 3 + j) ∨ ∃ j, j < (c - i) * 3 ∧ x = i * 3 + 3 + j from by
          rcases Nat.lt_or_ge x (i * 3) with a | a
          · exact .inl a
          · rcases Nat.lt_or_ge x (i * 3 + 3) with b | b
            · exact .inr (.inl ⟨x - i * 3, by omega, by omega⟩)
            · exact .inr (.inr ⟨x - (i * 3 + 3), by omega, by omega⟩)) with h1 | ⟨j, h1, rfl⟩ | ⟨j, h1, rfl⟩
        · rw [insL_lo hzl hi p q m h1, if_neg (by omega), if_neg (by omega), hRt x h1]
          rfl
        · rw [insL_at hzl hi p q m h1, if_neg (by omega), if_pos (by simp; omega), Nat.add_sub_cancel_left]
          rcases (show j = 0 ∨ j = 1 ∨ j = 2 by omega) with rfl | rfl | rfl <;> rfl
        · rw [insL_hi hzl hi p q m j, if_pos (by rw [hdl]; omega), List.getElem?_drop, show i * 3 + (i * 3 + 3 + j - (i + 1) * 3) = i * 3 + j by omega, nums_get (by omega)]
          rfl))
      have HG := Lib.hid (show w.grownBy (W1.drew.setCells w.heap.size ((i + 1) * 3) ((nums zs).drop (i * 3))) (Value.slice (some ⟨g, 0, none⟩) c c).ownBlock from ⟨hbel2.os, hbel2.tape, hbel2.output, hbel2.size, fun k hk _ => hbel2.block k hk⟩)
      have hGi : ¬ (G = i) := by omega
      have hGim : ¬ (G = i + 1) := by omega
      have hb1 : (0 : Int) ≤ (i : Int) + 1 := by omega
      have hb3 : (i : Int) ≤ (c : Int) := by omega
      have hGL := hGm
      unfold maxLen at hGL
      clear hrow1 hrow2 hrow0 hbel1 hbel2 hbel hcel hcel1 hF hown hrow hvc0 hb0 hold hROW hG hRt hRl hik hkk hGm hvc hvb hZs
      go_enter Try.func120, Try.ntmps120
      go_wp2_with (first
        | (at_builtin; refine Lib.wpList_append_run _ rfl _ _ _ _ rfl _ _ rfl rfl _ _ (hrz _) ?_)
        | (at_builtin; refine wpList_copy_runI _ rfl _ _ 40 40 rfl _ _ rfl rfl (hcpA _ _) ?_))
      go_region_law_o (refine step_copy_runI rfl _ _ 40 40 rfl _ _ (by simp [Act.eval, Act.put]) (by simp [Act.eval, Act.put]) (hcpB _ _ _) ?_)
      go_wp2
      go_ret
      exact ⟨⟨_, rfl, HF.out⟩, HG.out⟩
  · have hsp : c = i ∨ (i < c ∧ ¬ (c = i)) := by omega
    have hins : insL zs i p q m = zs ++ [p, q, m] := by
      unfold insL
      rw [← hzl, List.take_length, List.drop_length, List.append_nil]
    have HI := Lib.hid hins
    clear hins
    have hw1 : ∀ j u, ([.int .i64 p, .int .i64 q, .int .i64 m] : List Value)[j]? = some u → w.cell? ((⟨vb, 0, none⟩ : Addr).add j) = some u := fun j u h => by rw [Addr.add_lit, Nat.zero_add]; exact hvc j u h
    have hw2 : ∀ u ∈ ([.int .i64 p, .int .i64 q, .int .i64 m] : List Value), u.oneCell' = true := by intro u hu; simp at hu; rcases hu with rfl | rfl | rfl <;> rfl
    have hw3 : i + 1 ≤ maxLen := by unfold maxLen; omega
    rcases hsp with rfl | ⟨hci, hci'⟩
    · go_enter Try.func120, Try.ntmps120
      go_wp2_with (at_builtin; refine wpList_append_own_at _ rfl _ _ 40 rfl X 94 i0 _ 3 24 Try.underlying40 hi0 hz0 hz1 hz2 rfl (by decide) _ _ _ rfl hown ⟨vb, 0, none⟩ 1 1 [.int .i64 p, .int .i64 q, .int .i64 m] rfl rfl hw1 hw2 hw3 (by omega) hX ?_)
      intro v' w2 hown2 hgrow2 _ _
      have HO := Lib.hid hown2
      obtain ⟨A2, d2, rfl, _, _⟩ := own_slice hown2
      clear hown2
      go_wp2_with fail
      go_ret
      exact ⟨⟨_, rfl, by rw [HI.out, nums_append]; exact HO.out⟩, hgrow2⟩
    · go_enter Try.func120, Try.ntmps120
      go_wp2_with (at_builtin; refine wpList_append_own_at _ rfl _ _ 40 rfl X 94 i0 _ 3 24 Try.underlying40 hi0 hz0 hz1 hz2 rfl (by decide) _ _ _ rfl hown ⟨vb, 0, none⟩ 1 1 [.int .i64 p, .int .i64 q, .int .i64 m] rfl rfl hw1 hw2 hw3 (by omega) hX ?_)
      intro v' w2 hown2 hgrow2 _ _
      have HO := Lib.hid hown2
      obtain ⟨A2, d2, rfl, _, _⟩ := own_slice hown2
      clear hown2
      go_wp2_with fail
      go_ret
      exact ⟨⟨_, rfl, by rw [HI.out, nums_append]; exact HO.out⟩, hgrow2⟩
/-- the levels without the one at a place -/
def delL (zs : List Int) (i : Nat) : List Int := zs.take (i * 3) ++ zs.drop ((i + 1) * 3)
theorem delL_len {zs : List Int} {n i : Nat} (h : zs.length = n * 3) (hi : i < n) : (delL zs i).length = (n - 1) * 3 := by
  simp [delL, h]
  omega
theorem delL_lo {zs : List Int} {n i : Nat} (h : zs.length = n * 3) (hi : i < n) {j : Nat} (hj : j < i * 3) : num (delL zs i) j = num zs j := by
  unfold delL
  rw [num_app_lo (by simp [h]; omega), num_takeL hj]
theorem delL_hi {zs : List Int} {n i : Nat} (h : zs.length = n * 3) (hi : i < n) (j : Nat) : num (delL zs i) (i * 3 + j) = num zs ((i + 1) * 3 + j) := by
  unfold delL
  rw [num_app_hi (by simp [h]; omega), num_dropL]
  congr 1
  simp [h]
  omega
set_option linter.unusedSimpArgs false in
set_option maxHeartbeats 3200000 in
set_option maxRecDepth 100000 in
theorem impl_DeleteL (X k i : Nat) (v : Value) (zs : List Int) (w : World) (hown : w.ownsRow X 94 3 v (k + 1) (nums zs)) (hn : k + 1 ≤ 1048576) (hi : i ≤ k) :
    Calls Try.prog 121 #[v, .int .i64 (i : Int), .int .i64 ((i : Int) + 1)] w fun e w' => (∃ v', e = .returned v' ∧ w'.ownsRow X 94 3 v' k (nums (delL zs i))) ∧ w.grownBy w' v.ownBlock := by
  obtain ⟨i0, hi0, hz0, hz1, hz2⟩ := info_parts lev_info
  obtain ⟨A, c, rfl, hnc, hcm⟩ := own_slice hown
  unfold maxLen at hcm
  have mixed : Try.prog.follows .mixedOrders = true := by kernel_rfl
  have hzl : zs.length = (k + 1) * 3 := by rw [← nums_length]; exact hown.1
  obtain ⟨g, cap, hg, _, _⟩ := hown.form (by omega)
  injection hg with hg1 hg2 hg3
  subst hg1 hg3
  obtain ⟨hXg, _, _, F, hrow, hF⟩ := row_of_nums hown
  have hgw := hrow.lt
  have hsz : (Try.prog.info? 94).map (·.size) = some 3 := by rw [hi0]; simp [hz1]
  have e1 : ¬ ((i : Int) = (i : Int) + 1) := by omega
  have e2 : (i : Int) ≤ (k : Int) := by omega
  have e3 : (k : Int) + 1 ≤ (c : Int) := by omega
  have e4 : (0 : Int) ≤ (i : Int) + 1 := by omega
  have e5 : ¬ (c = k) := by omega
  go_enter Try.func121, Try.ntmps121
  go_upto_region 5 with fail
  by_cases hcb : c = i + 1
  · have hki : k = i := by omega
    subst hki
    have e7 : (k : Int) ≤ (k : Int) + 1 := by omega
    have hap : ∀ ty AD SC, (Builtin.append_ #[40, 40] ty #[.slice (some ⟨g, 0, none⟩) k c, .slice (some AD) 0 SC]).run Try.prog w.drew = .ok (.slice (some ⟨g, 0, none⟩) k c) (w.drew.setCells g (k * 3) []) := fun ty AD SC => by
      have h := run_append_room_src (P := Try.prog) w.drew 40 40 ty 94 i0 Try.underlying40 hi0 g 0 k c _ 0 [] (Src.ofSlice w.drew Try.underlying40 AD 0 SC [] (by rw [hz1]; rfl) (fun j u h => by cases h) (fun u hu => by cases hu)) (by omega) (fun j hj => by rw [hz1, show w.drew.cell? ⟨g, 0 + k * 3 + j, none⟩ = _ from hrow.cell (i := 0 + k * 3 + j) (by simp at hj)]; rfl) (fun j hj => hrow.frozen _)
      rw [hz1, Nat.zero_add] at h
      rw [show k + 0 = k by omega] at h
      exact h
    have hrow1 := rowIs_setCells [] (k * 3) w.drew F hrow
    have hg1 : w.grownBy (w.drew.setCells g (k * 3) []) (some g) := (show w.grownBy w.drew (some g) from ⟨rfl, rfl, rfl, Nat.le_refl _, fun _ _ _ => rfl⟩).trans (setsN_grown g _ _ _)
    generalize hW1 : w.drew.setCells g (k * 3) [] = W1 at *
    have hW2 : w.drew = W1 := hW1
    subst hW2
    clear hW1
    have hzc : (Builtin.zeroCells (Value.agg #[.int .i64 0, .int .i64 0, .int .i64 0]).cells 1).toList = [.int .i64 0, .int .i64 0, .int .i64 0] := by kernel_rfl
    have hcl : ∀ ty CC, (Builtin.clear_ #[40] ty #[.slice (some ⟨g, k * 3, none⟩) 1 CC]).run Try.prog w.drew = .ok (.tuple #[]) (w.drew.setCells g (k * 3) [.int .i64 0, .int .i64 0, .int .i64 0]) := fun ty CC => by
      have h := run_clear_cellsN (P := Try.prog) w.drew 40 94 ty _ Try.underlying40 lev_zero g (k * 3) 1 CC (by omega) (by rw [hzc]; intro u hu; simp at hu; subst hu; rfl) (fun j hj => by rw [hzc] at hj; simp at hj; rw [hrow1.cell (i := k * 3 + j) (by omega)]; rfl) (fun j hj => hrow1.frozen _)
      rw [hzc] at h
      exact h
    have hrow2 := rowIs_setCells [.int .i64 0, .int .i64 0, .int .i64 0] (k * 3) w.drew _ hrow1
    have hg2 := hg1.trans (setsN_grown g [.int .i64 0, .int .i64 0, .int .i64 0] (k * 3) w.drew)
    have HF := Lib.hid (show (w.drew.setCells g (k * 3) [.int .i64 0, .int .i64 0, .int .i64 0]).ownsRow X 94 3 (.slice (some ⟨g, 0, none⟩) k c) k (nums (delL zs k)) from own_of_rowN hrow2 hXg (by omega) (by unfold maxLen; omega) (by rw [delL_len hzl (by omega)]; omega) (fun x hx => by
      rw [if_neg (by omega)]
      rcases Nat.lt_or_ge x (k * 3) with h1 | h1
      · rw [delL_lo hzl (by omega) h1, if_neg (by omega), hF x (by omega)]
      · obtain ⟨j, rfl⟩ : ∃ j, x = k * 3 + j := ⟨x - k * 3, by omega⟩
        omega))
    have HG := Lib.hid hg2
    clear hrow1 hrow2 hg1 hg2 hrow hF hown hzc
    go_region_law_o (refine step_app_run rfl _ _ 40 40 rfl _ _ (by simp [Act.eval, Act.put]) (by simp [Act.eval, Act.put]) (hap _ _ _) ?_)
    go_wp2_with (simp only [hcl])
    go_ret
    have HF1 := HF.out
    rw [hcb] at HF1
    exact ⟨⟨_, rfl, HF1⟩, HG.out⟩
  · have e6 : ¬ (c = i + 1) := hcb
    have e7 : (i : Int) ≤ (c : Int) := by omega
    have e8 : (i : Int) + 1 ≤ (k : Int) + 1 := by omega
    have hap : ∀ ty, (Builtin.append_ #[40, 40] ty #[.slice (some ⟨g, 0, none⟩) i c, .slice (some ⟨g, (i + 1) * 3, none⟩) (k - i) (c - (i + 1))]).run Try.prog w.drew = .ok (.slice (some ⟨g, 0, none⟩) k c) (w.drew.setCells g (i * 3) ((nums zs).drop ((i + 1) * 3))) := fun ty => by
      have h := run_append_room_src (P := Try.prog) w.drew 40 40 ty 94 i0 Try.underlying40 hi0 g 0 i c _ (k - i) ((nums zs).drop ((i + 1) * 3)) (Src.ofSlice w.drew Try.underlying40 ⟨g, (i + 1) * 3, none⟩ (k - i) (c - (i + 1)) ((nums zs).drop ((i + 1) * 3)) (by rw [hz1]; rw [List.length_drop, nums_length, hzl]; omega) (fun j u h => by
        rw [List.getElem?_drop] at h
        have hj := (List.getElem?_eq_some_iff.1 h).1
        rw [nums_length, hzl] at hj
        rw [nums_get (by omega)] at h
        rw [Addr.add_lit, show w.drew.cell? ⟨g, (i + 1) * 3 + j, none⟩ = _ from hrow.cell (i := (i + 1) * 3 + j) (by omega), hF _ (by omega), h]) (fun u hu => nums_one zs u (List.mem_of_mem_drop hu))) (by omega) (fun j hj => by rw [hz1, show w.drew.cell? ⟨g, 0 + i * 3 + j, none⟩ = _ from hrow.cell (i := 0 + i * 3 + j) (by rw [List.length_drop, nums_length, hzl] at hj; omega)]; rfl) (fun j hj => hrow.frozen _)
      rw [hz1, Nat.zero_add] at h
      rw [show i + (k - i) = k by omega] at h
      exact h
    have hrow1 := rowIs_setCells ((nums zs).drop ((i + 1) * 3)) (i * 3) w.drew F hrow
    have hg1 : w.grownBy (w.drew.setCells g (i * 3) ((nums zs).drop ((i + 1) * 3))) (some g) := (show w.grownBy w.drew (some g) from ⟨rfl, rfl, rfl, Nat.le_refl _, fun _ _ _ => rfl⟩).trans (setsN_grown g _ _ _)
    generalize hW1 : w.drew.setCells g (i * 3) ((nums zs).drop ((i + 1) * 3)) = W1 at *
    have hzc : (Builtin.zeroCells (Value.agg #[.int .i64 0, .int .i64 0, .int .i64 0]).cells 1).toList = [.int .i64 0, .int .i64 0, .int .i64 0] := by kernel_rfl
    have hcl : ∀ ty CC, (Builtin.clear_ #[40] ty #[.slice (some ⟨g, k * 3, none⟩) 1 CC]).run Try.prog W1 = .ok (.tuple #[]) (W1.setCells g (k * 3) [.int .i64 0, .int .i64 0, .int .i64 0]) := fun ty CC => by
      have h := run_clear_cellsN (P := Try.prog) W1 40 94 ty _ Try.underlying40 lev_zero g (k * 3) 1 CC (by omega) (by rw [hzc]; intro u hu; simp at hu; subst hu; rfl) (fun j hj => by rw [hzc] at hj; simp at hj; rw [hrow1.cell (i := k * 3 + j) (by omega)]; rfl) (fun j hj => hrow1.frozen _)
      rw [hzc] at h
      exact h
    have hrow2 := rowIs_setCells [.int .i64 0, .int .i64 0, .int .i64 0] (k * 3) W1 _ hrow1
    have hg2 := hg1.trans (setsN_grown g [.int .i64 0, .int .i64 0, .int .i64 0] (k * 3) W1)
    have HF := Lib.hid (show (W1.setCells g (k * 3) [.int .i64 0, .int .i64 0, .int .i64 0]).ownsRow X 94 3 (.slice (some ⟨g, 0, none⟩) k c) k (nums (delL zs i)) from own_of_rowN hrow2 hXg (by omega) (by unfold maxLen; omega) (by rw [delL_len hzl (by omega)]; omega) (fun x hx => by
      rw [if_neg (by omega)]
      rcases Nat.lt_or_ge x (i * 3) with h1 | h1
      · rw [delL_lo hzl (by omega) h1, if_neg (by omega), hF x (by omega)]
      · obtain ⟨j, rfl⟩ : ∃ j, x = i * 3 + j := ⟨x - i * 3, by omega⟩
        rw [delL_hi hzl (by omega) j, if_pos (by rw [List.length_drop, nums_length, hzl]; omega), List.getElem?_drop, show (i + 1) * 3 + (i * 3 + j - i * 3) = (i + 1) * 3 + j by omega, nums_get (by omega)]
        rfl))
    have HG := Lib.hid hg2
    clear hrow1 hrow2 hg1 hg2 hrow hF hown hzc
    go_region_law_o (refine step_app_run rfl _ _ 40 40 rfl _ _ (by simp [Act.eval, Act.put]) (by simp [Act.eval, Act.put]) (hap _) ?_)
    go_wp2_with (simp only [hcl])
    go_ret
    exact ⟨⟨_, rfl, HF.out⟩, HG.out⟩
end Go.Proofs.Ytfodkefaflpicaa

namespace Go.Proofs.Ytfodkefaflpicaa
open Go.RowKit Wire

theorem heap_alloc_lt (w : World) (o : Obj) {k : Nat} (h : k < w.heap.size) : (w.alloc o).heap[k]? = w.heap[k]? := by
  rw [show (w.alloc o).heap = w.heap.push o from rfl, Array.getElem?_push, if_neg (by omega)]
theorem heap_ltA {w : World} {g : Nat} {o : Obj} (h : w.heap[g]? = some o) : g < w.heap.size := (Array.getElem?_eq_some_iff.1 h).1
theorem box3 {w : World} {g : Nat} {a b c : Value} {t : TypeId} (h : w.heap[g]? = some (.cells #[a, b, c] t (0, 0))) : w.cell? ⟨g, 0, none⟩ = some a ∧ w.cell? ⟨g, 1, none⟩ = some b ∧ w.cell? ⟨g, 2, none⟩ = some c := by
  simp [World.cell?, h]
theorem putZ_few {side p q m : Int} {zs : List Int} : ∀ k, putD side zs p m k = false → (putZ side zs p q m k).length ≤ k * 3
  | 0, _ => by simp [putZ]
  | k + 1, h => by
    simp only [putD, Bool.or_eq_false_iff] at h
    have := putZ_few (q := q) k h.1
    rw [putZ, h.1, h.2, List.length_append, List.length_append]
    by_cases hp : num zs (k * 3) = p
    · rw [if_pos hp]; simp; omega
    · rw [if_neg hp]; simp; omega
set_option linter.unusedSimpArgs false in
set_option maxHeartbeats 3200000 in
set_option maxRecDepth 100000 in
theorem spec_l10Put (A : Option Addr) (n c : Nat) (zs : List Int) (p q m side : Int) (w : World) (hl : Lst w w.heap.size 3 A n zs) (hn : n ≤ 1048576) :
    Calls Try.prog 71 #[.slice A n c, .agg #[.int .i64 p, .int .i64 q, .int .i64 m], .int .i64 side] w fun e w' => (∃ v N, e = .returned v ∧ (putL side zs n p q m).length = N * 3 ∧ w'.ownsRow w.heap.size 94 3 v N (nums (putL side zs n p q m))) ∧ Below w.heap.size w w' := by
  obtain ⟨i0, hi, hz0, hz1, hz2⟩ := info_parts lev_info
  go_enter Try.func71, Try.ntmps71
  go_upto_region 2 with fail
  have hB0 : Below w.heap.size w ((w.alloc (.cells #[.int .i64 p, .int .i64 q, .int .i64 m] 94)).alloc (.cells #[] 94)) := ((Below.refl _ _).alloc (Nat.le_refl _) _).alloc (by simp) _
  have hbox0 : ((w.alloc (.cells #[.int .i64 p, .int .i64 q, .int .i64 m] 94)).alloc (.cells #[] 94)).heap[w.heap.size]? = some (.cells #[.int .i64 p, .int .i64 q, .int .i64 m] 94 (0, 0)) := (two_blocks w _ _).1
  have hq0 : ((w.alloc (.cells #[.int .i64 p, .int .i64 q, .int .i64 m] 94)).alloc (.cells #[] 94)).ownsRow (w.heap.size + 1) 94 3 (.slice (some ⟨w.heap.size + 1, 0, none⟩) 0 0) 0 [] := by
    have := delt_empty (w.alloc (.cells #[.int .i64 p, .int .i64 q, .int .i64 m] 94)) 94 3
    simpa using this
  generalize (w.alloc (.cells #[.int .i64 p, .int .i64 q, .int .i64 m] 94)).alloc (.cells #[] 94) = w3 at *
  obtain ⟨x0, x1, x2⟩ := box3 hbox0
  go_wp2_with fail
  clear x0 x1 x2
  go_loopw [7, 8, 9] (fun r d i wr => ∃ k N : Nat, k ≤ n ∧ N ≤ k + 1 ∧ i = .int .i64 (k : Int) ∧ d = .bool (putD side zs p m k) ∧ (putZ side zs p q m k).length = N * 3 ∧ wr.ownsRow (w.heap.size + 1) 94 3 r N (nums (putZ side zs p q m k)) ∧ Below w.heap.size w wr ∧ wr.heap[w.heap.size]? = some (.cells #[.int .i64 p, .int .i64 q, .int .i64 m] 94 (0, 0))) (fun _ _ i _ => n - (intOf i).toNat)
  case atStart => exact ⟨0, 0, Nat.zero_le _, by omega, rfl, by simp [putD], rfl, hq0, hB0, hbox0⟩
  case round =>
    clear hq0 hB0 hbox0
    obtain ⟨k, N, hk, hNk, rfl, rfl, hlen, hown, hbel, hbox⟩ := hrel
    obtain ⟨A2, d2, rfl, _, _⟩ := own_slice hown
    have hbs := hbel.size
    have hbx := heap_ltA hbox
    obtain ⟨x0, x1, x2⟩ := box3 hbox
    by_cases hlt : k < n
    · obtain ⟨b, o, rfl, hb, C0, C1, C2⟩ := hl.row3 hlt
      have c0 := (hbel.cell (p := ⟨b, o + k * 3, none⟩) hb).trans C0
      have c1 := (hbel.cell (p := ⟨b, o + k * 3 + 1, none⟩) hb).trans C1
      have c2 := (hbel.cell (p := ⟨b, o + k * 3 + 2, none⟩) hb).trans C2
      replace C0 := Lib.hid C0
      replace C1 := Lib.hid C1
      replace C2 := Lib.hid C2
      have hbw := Nat.lt_of_lt_of_le hb hbs
      have HG := Lib.hid (show putZ side zs p q m (k + 1) = (putZ side zs p q m k ++ if (!putD side zs p m k && !ahdB side (num zs (k * 3)) p) = true then [p, q, m] else []) ++ if num zs (k * 3) = p then [] else [num zs (k * 3), num zs (k * 3 + 1), num zs (k * 3 + 2)] from rfl)
      have HDN := Lib.hid (show putD side zs p m (k + 1) = (putD side zs p m k || !ahdB side (num zs (k * 3)) p) from rfl)
      have HLN := Lib.hid hlen
      clear hlen hl
      rcases Bool.eq_false_or_eq_true (putD side zs p m k) with hD | hD
      · have HD := Lib.hid hD
        rw [hD]
        clear hD
        go_upto_region 6 with fail
        refine wp_region_held_drew (S := (fun w' => Below wr.heap.size wr w')) (by kernel_rfl) ?hSm1 (fun hHeld => ?restm1)
        case hSm1 => exact (Below.refl _ _).drew
        refine wpAnyH_take (i := 0) (oi := ?oim2) (v := ?vm2) ?him2 (by kernel_rfl) (by kernel_rfl) (by kernel_rfl) ?hQm2 (Or.inl ⟨?hwm2, ?hym2⟩) (by assumption) ?restm2
        case him2 => simp only [List.getElem?_toArray, List.getElem?_cons_succ, List.getElem?_cons_zero]; exact rfl
        case hQm2 => exact fun _ _ _ h => h
        case hwm2 => rfl
        case hym2 => ((intro w hSw; (try dsimp only at hSw); go_simp) <;> with_reducible rfl)
        try simp only [Act.put, List.setIfInBounds_toArray, List.set_cons_zero, List.set_cons_succ]
        refine wpAnyH_take (i := 1) (oi := ?oim3) (v := ?vm3) ?him3 (by kernel_rfl) (by kernel_rfl) (by kernel_rfl) ?hQm3 (Or.inl ⟨?hwm3, ?hym3⟩) (by assumption) ?restm3
        case him3 => simp only [List.getElem?_toArray, List.getElem?_cons_succ, List.getElem?_cons_zero]; exact rfl
        case hQm3 => exact fun _ _ _ h => h
        case hwm3 => rfl
        case hym3 => ((intro w hSw; (try dsimp only at hSw); go_simp) <;> with_reducible rfl)
        try simp only [Act.put, List.setIfInBounds_toArray, List.set_cons_zero, List.set_cons_succ]
        refine wpAnyH_take (i := 2) (oi := ?oim4) (v := ?vm4) ?him4 (by kernel_rfl) (by kernel_rfl) (by kernel_rfl) ?hQm4 (Or.inl ⟨?hwm4, ?hym4⟩) (by assumption) ?restm4
        case him4 => simp only [List.getElem?_toArray, List.getElem?_cons_succ, List.getElem?_cons_zero]; exact rfl
        case hQm4 => exact fun _ _ _ h => h
        case hwm4 => rfl
        case hym4 => ((intro w hSw; (try dsimp only at hSw); go_simp) <;> with_reducible rfl)
        try simp only [Act.put, List.setIfInBounds_toArray, List.set_cons_zero, List.set_cons_succ]
        refine wpAnyH_take (i := 3) (oi := ?oim5) (v := _) ?him5 (by kernel_rfl) (by kernel_rfl) (by kernel_rfl) ?hQm5 (Or.inr ⟨?hwm5, rfl⟩) (by assumption) ?restm5
        case him5 => simp only [List.getElem?_toArray, List.getElem?_cons_succ, List.getElem?_cons_zero]; exact rfl
        case hQm5 => exact fun _ _ _ h => h
        case hwm5 => rfl
        try simp only [Act.put, List.setIfInBounds_toArray, List.set_cons_zero, List.set_cons_succ]
        refine wpAnyH_take (i := 4) (oi := ?oim6) (v := _) ?him6 (by kernel_rfl) (by kernel_rfl) (by kernel_rfl) ?hQm6 (Or.inr ⟨?hwm6, rfl⟩) (by assumption) ?restm6
        case him6 => simp only [List.getElem?_toArray, List.getElem?_cons_succ, List.getElem?_cons_zero]; exact rfl
        case hQm6 => exact fun _ _ _ h => h
        case hwm6 => rfl
        try simp only [Act.put, List.setIfInBounds_toArray, List.set_cons_zero, List.set_cons_succ]
        refine wpAnyH_take (i := 5) (oi := ?oim7) (v := _) ?him7 (by kernel_rfl) (by kernel_rfl) (by kernel_rfl) ?hQm7 (Or.inr ⟨?hwm7, rfl⟩) (by assumption) ?restm7
        case him7 => simp only [List.getElem?_toArray, List.getElem?_cons_succ, List.getElem?_cons_zero]; exact rfl
        case hQm7 => exact fun _ _ _ h => h
        case hwm7 => rfl
        try simp only [Act.put, List.setIfInBounds_toArray, List.set_cons_zero, List.set_cons_succ]
        refine wpAnyH_take (i := 6) (oi := ?oim8) (v := _) ?him8 (by kernel_rfl) (by kernel_rfl) (by kernel_rfl) ?hQm8 (Or.inr ⟨?hwm8, rfl⟩) (by assumption) ?restm8
        case him8 => simp only [List.getElem?_toArray, List.getElem?_cons_succ, List.getElem?_cons_zero]; exact rfl
        case hQm8 => exact fun _ _ _ h => h
        case hwm8 => rfl
        try simp only [Act.put, List.setIfInBounds_toArray, List.set_cons_zero, List.set_cons_succ]
        refine wpAnyH_take (i := 7) (oi := ?oim9) (v := _) ?him9 (by kernel_rfl) (by kernel_rfl) (by kernel_rfl) ?hQm9 (Or.inr ⟨?hwm9, rfl⟩) (by assumption) ?restm9
        case him9 => simp only [List.getElem?_toArray, List.getElem?_cons_succ, List.getElem?_cons_zero]; exact rfl
        case hQm9 => exact fun _ _ _ h => h
        case hwm9 => rfl
        try simp only [Act.put, List.setIfInBounds_toArray, List.set_cons_zero, List.set_cons_succ]
        refine wpAnyH_take (i := 8) (oi := ?oim10) (v := _) ?him10 (by kernel_rfl) (by kernel_rfl) (by kernel_rfl) ?hQm10 (Or.inr ⟨?hwm10, rfl⟩) (by assumption) ?restm10
        case him10 => simp only [List.getElem?_toArray, List.getElem?_cons_succ, List.getElem?_cons_zero]; exact rfl
        case hQm10 => exact fun _ _ _ h => h
        case hwm10 => rfl
        try simp only [Act.put, List.setIfInBounds_toArray, List.set_cons_zero, List.set_cons_succ]
        refine wpAnyH_take (i := 9) (oi := ?oim11) (v := _) ?him11 (by kernel_rfl) (by kernel_rfl) (by kernel_rfl) ?hQm11 (Or.inr ⟨?hwm11, rfl⟩) (by assumption) ?restm11
        case him11 => simp only [List.getElem?_toArray, List.getElem?_cons_succ, List.getElem?_cons_zero]; exact rfl
        case hQm11 => exact fun _ _ _ h => h
        case hwm11 => rfl
        try simp only [Act.put, List.setIfInBounds_toArray, List.set_cons_zero, List.set_cons_succ]
        refine wpAnyH_take (i := 10) (oi := ?oim12) (v := _) ?him12 (by kernel_rfl) (by kernel_rfl) (by kernel_rfl) ?hQm12 (Or.inr ⟨?hwm12, rfl⟩) (by assumption) ?restm12
        case him12 => simp only [List.getElem?_toArray, List.getElem?_cons_succ, List.getElem?_cons_zero]; exact rfl
        case hQm12 => exact fun _ _ _ h => h
        case hwm12 => rfl
        try simp only [Act.put, List.setIfInBounds_toArray, List.set_cons_zero, List.set_cons_succ]
        refine wpAnyH_ready (rs := [11]) (by kernel_rfl) (by simp) ?_
        refine AllReadyH.cons (o := ?or13_11) ?hor13_11 (fun K hK => ?stepr13_11) (AllReadyH.nil)
        case hor13_11 => simp only [List.getElem?_toArray, List.getElem?_cons_succ, List.getElem?_cons_zero]; exact rfl
        case stepr13_11 =>
          go_simp
          refine hK.out _ _ ?hSr13_11 (fun hHeld => ?restr13_11)
          case hSr13_11 => exact hHeld
          clear hK K
          try simp only [Act.put, List.setIfInBounds_toArray, List.set_cons_zero, List.set_cons_succ]
          refine wpAnyH_take (i := 12) (oi := ?oim14) (v := _) ?him14 (by kernel_rfl) (by kernel_rfl) (by kernel_rfl) ?hQm14 (Or.inr ⟨?hwm14, rfl⟩) (by assumption) ?restm14
          case him14 => simp only [List.getElem?_toArray, List.getElem?_cons_succ, List.getElem?_cons_zero]; exact rfl
          case hQm14 => exact fun _ _ _ h => h
          case hwm14 => rfl
          try simp only [Act.put, List.setIfInBounds_toArray, List.set_cons_zero, List.set_cons_succ]
          refine wpAnyH_take (i := 13) (oi := ?oim15) (v := ?vm15) ?him15 (by kernel_rfl) (by kernel_rfl) (by kernel_rfl) ?hQm15 (Or.inl ⟨?hwm15, ?hym15⟩) (by assumption) ?restm15
          case him15 => simp only [List.getElem?_toArray, List.getElem?_cons_succ, List.getElem?_cons_zero]; exact rfl
          case hQm15 => exact fun _ _ _ h => h
          case hwm15 => rfl
          case hym15 => ((intro w hSw; (try dsimp only at hSw); go_simp) <;> with_reducible rfl)
          try simp only [Act.put, List.setIfInBounds_toArray, List.set_cons_zero, List.set_cons_succ]
          refine wpAnyH_done (by kernel_rfl) ?_ _
          replace hown := own_below hown hHeld
          replace hbox := (hHeld.block _ hbx).trans hbox
          replace hbel := hbel.trans (Below.mono hHeld hbs)
          clear x0 x1 x2 c0 c1 c2 hHeld
          generalize wr.drew = wq at *
          replace hbs := hbel.size
          replace hbx := heap_ltA hbox
          replace hbw := Nat.lt_of_lt_of_le hb hbs
          obtain ⟨x0, x1, x2⟩ := box3 hbox
          have c0 := (hbel.cell (p := ⟨b, o + k * 3, none⟩) hb).trans C0.out
          have c1 := (hbel.cell (p := ⟨b, o + k * 3 + 1, none⟩) hb).trans C1.out
          have c2 := (hbel.cell (p := ⟨b, o + k * 3 + 2, none⟩) hb).trans C2.out
          by_cases hp : num zs (k * 3) = p
          · have HE := Lib.hid (show putZ side zs p q m (k + 1) = putZ side zs p q m k by rw [HG.out, HD.out, if_pos (show num zs (k * 3) = p from hp)]; simp)
            rw [hp] at c0
            clear hp
            go_upto_region 9 with fail
            go_region
            replace hown := own_below hown (Below.refl _ wq).drew
            replace hbox : wq.drew.heap[w.heap.size]? = _ := hbox
            replace hbel := hbel.drew
            have HO := Lib.hid hown
            go_wp2_with fail
            go_roundw
            case rel => exact ⟨k + 1, N, by omega, by omega, by go_num, by rw [HDN.out, HD.out]; rfl, by rw [HE.out]; exact HLN.out, by rw [HE.out]; exact HO.out, hbel, hbox⟩
            case measure => simp [intOf]; omega
          · have HE := Lib.hid (show putZ side zs p q m (k + 1) = putZ side zs p q m k ++ [num zs (k * 3), num zs (k * 3 + 1), num zs (k * 3 + 2)] by rw [HG.out, HD.out, if_neg (show ¬ num zs (k * 3) = p from hp)]; simp)
            have tp : (num zs (k * 3) != p) = true := by simpa using hp
            clear hp
            go_upto_region 9 with fail
            go_region
            replace hown := own_below hown (Below.refl _ wq).drew
            replace hbox : wq.drew.heap[w.heap.size]? = _ := hbox
            replace hbel := hbel.drew
            replace c0 : wq.drew.cell? ⟨b, o + k * 3, none⟩ = _ := c0
            replace c1 : wq.drew.cell? ⟨b, o + k * 3 + 1, none⟩ = _ := c1
            replace c2 : wq.drew.cell? ⟨b, o + k * 3 + 2, none⟩ = _ := c2
            replace hbs := hbel.size
            replace hbx := heap_ltA hbox
            replace hbw := Nat.lt_of_lt_of_le hb hbs
            clear x0 x1 x2 tp
            generalize wq.drew = wz at *
            have hov := hown.lt
            go_wp2_with (at_builtin; refine wpList_append_own_at _ rfl _ _ 40 rfl (w.heap.size + 1) 94 i0 _ 3 24 Try.underlying40 hi hz0 hz1 hz2 rfl (by decide) _ _ _ rfl (hown.alloc _) ⟨wz.heap.size, 0, none⟩ 1 1 [.int .i64 (num zs (k * 3)), .int .i64 (num zs (k * 3 + 1)), .int .i64 (num zs (k * 3 + 2))] rfl rfl (World.news_of_block (heap_alloc_new wz _)) (by intro u hu; simp at hu; rcases hu with rfl | rfl | rfl <;> rfl) (by unfold maxLen; omega) (by omega) (by simp; omega) ?_)
            intro v' wy hown hgrow _ _
            replace hbel := (hbel.alloc hbs (.cells #[.int .i64 (num zs (k * 3)), .int .i64 (num zs (k * 3 + 1)), .int .i64 (num zs (k * 3 + 2))] 94)).grown hgrow (by simp; omega) (fun q hq => by have := (hov q hq).1; omega)
            replace hbox := (hgrow.block w.heap.size (by simp; omega) (fun e => by have := (hov _ e.symm).1; omega)).trans ((heap_alloc_lt wz _ (by omega)).trans hbox)
            clear hgrow hov
            obtain ⟨A4, d4, rfl, _, _⟩ := own_slice hown
            have HO := Lib.hid hown
            clear hown c0 c1 c2
            go_wp2_with fail
            go_roundw
            case rel => exact ⟨k + 1, N + 1, by omega, by omega, by go_num, by rw [HDN.out, HD.out]; rfl, by rw [HE.out, List.length_append, HLN.out]; simp; omega, by rw [HE.out, nums_append]; exact HO.out, hbel, hbox⟩
            case measure => simp [intOf]; omega
      · have HD := Lib.hid hD
        rw [hD]
        clear hD
        rcases Bool.eq_false_or_eq_true (ahdB side (num zs (k * 3)) p) with hA | hA
        · have HA := Lib.hid hA
          go_upto_region 6 with fail
          refine wp_region_held_drew (S := (fun w' => Below wr.heap.size wr w')) (by kernel_rfl) ?hSm16 (fun hHeld => ?restm16)
          case hSm16 => exact (Below.refl _ _).drew
          refine wpAnyH_take (i := 0) (oi := ?oim17) (v := ?vm17) ?him17 (by kernel_rfl) (by kernel_rfl) (by kernel_rfl) ?hQm17 (Or.inl ⟨?hwm17, ?hym17⟩) (by assumption) ?restm17
          case him17 => simp only [List.getElem?_toArray, List.getElem?_cons_succ, List.getElem?_cons_zero]; exact rfl
          case hQm17 => exact fun _ _ _ h => h
          case hwm17 => rfl
          case hym17 => ((intro w hSw; (try dsimp only at hSw); go_simp) <;> with_reducible rfl)
          try simp only [Act.put, List.setIfInBounds_toArray, List.set_cons_zero, List.set_cons_succ]
          refine wpAnyH_take (i := 1) (oi := ?oim18) (v := ?vm18) ?him18 (by kernel_rfl) (by kernel_rfl) (by kernel_rfl) ?hQm18 (Or.inl ⟨?hwm18, ?hym18⟩) (by assumption) ?restm18
          case him18 => simp only [List.getElem?_toArray, List.getElem?_cons_succ, List.getElem?_cons_zero]; exact rfl
          case hQm18 => exact fun _ _ _ h => h
          case hwm18 => rfl
          case hym18 => ((intro w hSw; (try dsimp only at hSw); go_simp) <;> with_reducible rfl)
          try simp only [Act.put, List.setIfInBounds_toArray, List.set_cons_zero, List.set_cons_succ]
          refine wpAnyH_take (i := 2) (oi := ?oim19) (v := ?vm19) ?him19 (by kernel_rfl) (by kernel_rfl) (by kernel_rfl) ?hQm19 (Or.inl ⟨?hwm19, ?hym19⟩) (by assumption) ?restm19
          case him19 => simp only [List.getElem?_toArray, List.getElem?_cons_succ, List.getElem?_cons_zero]; exact rfl
          case hQm19 => exact fun _ _ _ h => h
          case hwm19 => rfl
          case hym19 => ((intro w hSw; (try dsimp only at hSw); go_simp) <;> with_reducible rfl)
          try simp only [Act.put, List.setIfInBounds_toArray, List.set_cons_zero, List.set_cons_succ]
          refine wpAnyH_take (i := 3) (oi := ?oim20) (v := ?vm20) ?him20 (by kernel_rfl) (by kernel_rfl) (by kernel_rfl) ?hQm20 (Or.inl ⟨?hwm20, ?hym20⟩) (by assumption) ?restm20
          case him20 => simp only [List.getElem?_toArray, List.getElem?_cons_succ, List.getElem?_cons_zero]; exact rfl
          case hQm20 => exact fun _ _ _ h => h
          case hwm20 => rfl
          case hym20 => ((intro w hSw; (try dsimp only at hSw); go_simp) <;> with_reducible rfl)
          try simp only [Act.put, List.setIfInBounds_toArray, List.set_cons_zero, List.set_cons_succ]
          refine wpAnyH_take (i := 4) (oi := ?oim21) (v := ?vm21) ?him21 (by kernel_rfl) (by kernel_rfl) (by kernel_rfl) ?hQm21 (Or.inl ⟨?hwm21, ?hym21⟩) (by assumption) ?restm21
          case him21 => simp only [List.getElem?_toArray, List.getElem?_cons_succ, List.getElem?_cons_zero]; exact rfl
          case hQm21 => exact fun _ _ _ h => h
          case hwm21 => rfl
          case hym21 => ((intro w hSw; (try dsimp only at hSw); go_simp) <;> with_reducible rfl)
          try simp only [Act.put, List.setIfInBounds_toArray, List.set_cons_zero, List.set_cons_succ]
          refine wpAnyH_take (i := 5) (oi := ?oim22) (v := ?vm22) ?him22 (by kernel_rfl) (by kernel_rfl) (by kernel_rfl) ?hQm22 (Or.inl ⟨?hwm22, ?hym22⟩) (by assumption) ?restm22
          case him22 => simp only [List.getElem?_toArray, List.getElem?_cons_succ, List.getElem?_cons_zero]; exact rfl
          case hQm22 => exact fun _ _ _ h => h
          case hwm22 => rfl
          case hym22 => ((intro w hSw; (try dsimp only at hSw); go_simp) <;> with_reducible rfl)
          try simp only [Act.put, List.setIfInBounds_toArray, List.set_cons_zero, List.set_cons_succ]
          refine wpAnyH_take (i := 6) (oi := ?oim23) (v := ?vm23) ?him23 (by kernel_rfl) (by kernel_rfl) (by kernel_rfl) ?hQm23 (Or.inl ⟨?hwm23, ?hym23⟩) (by assumption) ?restm23
          case him23 => simp only [List.getElem?_toArray, List.getElem?_cons_succ, List.getElem?_cons_zero]; exact rfl
          case hQm23 => exact fun _ _ _ h => h
          case hwm23 => rfl
          case hym23 => ((intro w hSw; (try dsimp only at hSw); go_simp) <;> with_reducible rfl)
          try simp only [Act.put, List.setIfInBounds_toArray, List.set_cons_zero, List.set_cons_succ]
          refine wpAnyH_take (i := 7) (oi := ?oim24) (v := ?vm24) ?him24 (by kernel_rfl) (by kernel_rfl) (by kernel_rfl) ?hQm24 (Or.inl ⟨?hwm24, ?hym24⟩) (by assumption) ?restm24
          case him24 => simp only [List.getElem?_toArray, List.getElem?_cons_succ, List.getElem?_cons_zero]; exact rfl
          case hQm24 => exact fun _ _ _ h => h
          case hwm24 => rfl
          case hym24 => ((intro w hSw; (try dsimp only at hSw); go_simp) <;> with_reducible rfl)
          try simp only [Act.put, List.setIfInBounds_toArray, List.set_cons_zero, List.set_cons_succ]
          refine wpAnyH_take (i := 8) (oi := ?oim25) (v := ?vm25) ?him25 (by kernel_rfl) (by kernel_rfl) (by kernel_rfl) ?hQm25 (Or.inl ⟨?hwm25, ?hym25⟩) (by assumption) ?restm25
          case him25 => simp only [List.getElem?_toArray, List.getElem?_cons_succ, List.getElem?_cons_zero]; exact rfl
          case hQm25 => exact fun _ _ _ h => h
          case hwm25 => rfl
          case hym25 => ((intro wS hSw; have t0 := (hSw.cell (p := ⟨b, o + k * 3, none⟩) hbw).trans c0; go_simp) <;> with_reducible rfl)
          try simp only [Act.put, List.setIfInBounds_toArray, List.set_cons_zero, List.set_cons_succ]
          refine wpAnyH_take (i := 9) (oi := ?oim26) (v := ?vm26) ?him26 (by kernel_rfl) (by kernel_rfl) (by kernel_rfl) ?hQm26 (Or.inl ⟨?hwm26, ?hym26⟩) (by assumption) ?restm26
          case him26 => simp only [List.getElem?_toArray, List.getElem?_cons_succ, List.getElem?_cons_zero]; exact rfl
          case hQm26 => exact fun _ _ _ h => h
          case hwm26 => rfl
          case hym26 => ((intro w hSw; (try dsimp only at hSw); go_simp) <;> with_reducible rfl)
          try simp only [Act.put, List.setIfInBounds_toArray, List.set_cons_zero, List.set_cons_succ]
          refine wpAnyH_take (i := 10) (oi := ?oim27) (v := ?vm27) ?him27 (by kernel_rfl) (by kernel_rfl) (by kernel_rfl) ?hQm27 (Or.inl ⟨?hwm27, ?hym27⟩) (by assumption) ?restm27
          case him27 => simp only [List.getElem?_toArray, List.getElem?_cons_succ, List.getElem?_cons_zero]; exact rfl
          case hQm27 => exact fun _ _ _ h => h
          case hwm27 => rfl
          case hym27 => ((intro wS hSw; have t0 := (hSw.cell (p := ⟨w.heap.size, 0, none⟩) hbx).trans x0; go_simp) <;> with_reducible rfl)
          try simp only [Act.put, List.setIfInBounds_toArray, List.set_cons_zero, List.set_cons_succ]
          refine wpAnyH_ready (rs := [11]) (by kernel_rfl) (by simp) ?_
          refine AllReadyH.cons (o := ?or28_11) ?hor28_11 (fun K hK => ?stepr28_11) (AllReadyH.nil)
          case hor28_11 => simp only [List.getElem?_toArray, List.getElem?_cons_succ, List.getElem?_cons_zero]; exact rfl
          case stepr28_11 =>
            go_simp
            refine (lev_ahead _ _ _ _).mono ?_
            rw [hA]
            rintro e v5 ⟨rfl, rfl⟩
            refine hK.out _ _ ?hSr28_11 (fun hHeld => ?restr28_11)
            case hSr28_11 => exact hHeld
            clear hK K
            try simp only [Act.put, List.setIfInBounds_toArray, List.set_cons_zero, List.set_cons_succ]
            refine wpAnyH_take (i := 12) (oi := ?oim29) (v := ?vm29) ?him29 (by kernel_rfl) (by kernel_rfl) (by kernel_rfl) ?hQm29 (Or.inl ⟨?hwm29, ?hym29⟩) (by assumption) ?restm29
            case him29 => simp only [List.getElem?_toArray, List.getElem?_cons_succ, List.getElem?_cons_zero]; exact rfl
            case hQm29 => exact fun _ _ _ h => h
            case hwm29 => rfl
            case hym29 => ((intro w hSw; (try dsimp only at hSw); go_simp) <;> with_reducible rfl)
            try simp only [Act.put, List.setIfInBounds_toArray, List.set_cons_zero, List.set_cons_succ]
            refine wpAnyH_take (i := 13) (oi := ?oim30) (v := ?vm30) ?him30 (by kernel_rfl) (by kernel_rfl) (by kernel_rfl) ?hQm30 (Or.inl ⟨?hwm30, ?hym30⟩) (by assumption) ?restm30
            case him30 => simp only [List.getElem?_toArray, List.getElem?_cons_succ, List.getElem?_cons_zero]; exact rfl
            case hQm30 => exact fun _ _ _ h => h
            case hwm30 => rfl
            case hym30 => ((intro w hSw; (try dsimp only at hSw); go_simp) <;> with_reducible rfl)
            try simp only [Act.put, List.setIfInBounds_toArray, List.set_cons_zero, List.set_cons_succ]
            refine wpAnyH_done (by kernel_rfl) ?_ _
            replace hown := own_below hown hHeld
            replace hbox := (hHeld.block _ hbx).trans hbox
            replace hbel := hbel.trans (Below.mono hHeld hbs)
            clear x0 x1 x2 c0 c1 c2 hHeld
            generalize wr.drew = wq at *
            replace hbs := hbel.size
            replace hbx := heap_ltA hbox
            replace hbw := Nat.lt_of_lt_of_le hb hbs
            obtain ⟨x0, x1, x2⟩ := box3 hbox
            have c0 := (hbel.cell (p := ⟨b, o + k * 3, none⟩) hb).trans C0.out
            have c1 := (hbel.cell (p := ⟨b, o + k * 3 + 1, none⟩) hb).trans C1.out
            have c2 := (hbel.cell (p := ⟨b, o + k * 3 + 2, none⟩) hb).trans C2.out
            by_cases hp : num zs (k * 3) = p
            · have HE := Lib.hid (show putZ side zs p q m (k + 1) = putZ side zs p q m k by rw [HG.out, HD.out, HA.out, if_pos (show num zs (k * 3) = p from hp)]; simp)
              rw [hp] at c0
              clear hp
              go_upto_region 9 with fail
              go_region
              replace hown := own_below hown (Below.refl _ wq).drew
              replace hbox : wq.drew.heap[w.heap.size]? = _ := hbox
              replace hbel := hbel.drew
              have HO := Lib.hid hown
              go_wp2_with fail
              go_roundw
              case rel => exact ⟨k + 1, N, by omega, by omega, by go_num, by rw [HDN.out, HD.out, HA.out]; rfl, by rw [HE.out]; exact HLN.out, by rw [HE.out]; exact HO.out, hbel, hbox⟩
              case measure => simp [intOf]; omega
            · have HE := Lib.hid (show putZ side zs p q m (k + 1) = putZ side zs p q m k ++ [num zs (k * 3), num zs (k * 3 + 1), num zs (k * 3 + 2)] by rw [HG.out, HD.out, HA.out, if_neg (show ¬ num zs (k * 3) = p from hp)]; simp)
              have tp : (num zs (k * 3) != p) = true := by simpa using hp
              clear hp
              go_upto_region 9 with fail
              go_region
              replace hown := own_below hown (Below.refl _ wq).drew
              replace hbox : wq.drew.heap[w.heap.size]? = _ := hbox
              replace hbel := hbel.drew
              replace c0 : wq.drew.cell? ⟨b, o + k * 3, none⟩ = _ := c0
              replace c1 : wq.drew.cell? ⟨b, o + k * 3 + 1, none⟩ = _ := c1
              replace c2 : wq.drew.cell? ⟨b, o + k * 3 + 2, none⟩ = _ := c2
              replace hbs := hbel.size
              replace hbx := heap_ltA hbox
              replace hbw := Nat.lt_of_lt_of_le hb hbs
              clear x0 x1 x2 tp
              generalize wq.drew = wz at *
              have hov := hown.lt
              go_wp2_with (at_builtin; refine wpList_append_own_at _ rfl _ _ 40 rfl (w.heap.size + 1) 94 i0 _ 3 24 Try.underlying40 hi hz0 hz1 hz2 rfl (by decide) _ _ _ rfl (hown.alloc _) ⟨wz.heap.size, 0, none⟩ 1 1 [.int .i64 (num zs (k * 3)), .int .i64 (num zs (k * 3 + 1)), .int .i64 (num zs (k * 3 + 2))] rfl rfl (World.news_of_block (heap_alloc_new wz _)) (by intro u hu; simp at hu; rcases hu with rfl | rfl | rfl <;> rfl) (by unfold maxLen; omega) (by omega) (by simp; omega) ?_)
              intro v' wy hown hgrow _ _
              replace hbel := (hbel.alloc hbs (.cells #[.int .i64 (num zs (k * 3)), .int .i64 (num zs (k * 3 + 1)), .int .i64 (num zs (k * 3 + 2))] 94)).grown hgrow (by simp; omega) (fun q hq => by have := (hov q hq).1; omega)
              replace hbox := (hgrow.block w.heap.size (by simp; omega) (fun e => by have := (hov _ e.symm).1; omega)).trans ((heap_alloc_lt wz _ (by omega)).trans hbox)
              clear hgrow hov
              obtain ⟨A4, d4, rfl, _, _⟩ := own_slice hown
              have HO := Lib.hid hown
              clear hown c0 c1 c2
              go_wp2_with fail
              go_roundw
              case rel => exact ⟨k + 1, N + 1, by omega, by omega, by go_num, by rw [HDN.out, HD.out, HA.out]; rfl, by rw [HE.out, List.length_append, HLN.out]; simp; omega, by rw [HE.out, nums_append]; exact HO.out, hbel, hbox⟩
              case measure => simp [intOf]; omega
        · have HA := Lib.hid hA
          have hND : N ≤ k := by
            have h1 := HLN.out
            have h2 := putZ_few (q := q) k HD.out
            omega
          go_upto_region 6 with fail
          refine wp_region_held_drew (S := (fun w' => Below wr.heap.size wr w')) (by kernel_rfl) ?hSm31 (fun hHeld => ?restm31)
          case hSm31 => exact (Below.refl _ _).drew
          refine wpAnyH_take (i := 0) (oi := ?oim32) (v := ?vm32) ?him32 (by kernel_rfl) (by kernel_rfl) (by kernel_rfl) ?hQm32 (Or.inl ⟨?hwm32, ?hym32⟩) (by assumption) ?restm32
          case him32 => simp only [List.getElem?_toArray, List.getElem?_cons_succ, List.getElem?_cons_zero]; exact rfl
          case hQm32 => exact fun _ _ _ h => h
          case hwm32 => rfl
          case hym32 => ((intro w hSw; (try dsimp only at hSw); go_simp) <;> with_reducible rfl)
          try simp only [Act.put, List.setIfInBounds_toArray, List.set_cons_zero, List.set_cons_succ]
          refine wpAnyH_take (i := 1) (oi := ?oim33) (v := ?vm33) ?him33 (by kernel_rfl) (by kernel_rfl) (by kernel_rfl) ?hQm33 (Or.inl ⟨?hwm33, ?hym33⟩) (by assumption) ?restm33
          case him33 => simp only [List.getElem?_toArray, List.getElem?_cons_succ, List.getElem?_cons_zero]; exact rfl
          case hQm33 => exact fun _ _ _ h => h
          case hwm33 => rfl
          case hym33 => ((intro w hSw; (try dsimp only at hSw); go_simp) <;> with_reducible rfl)
          try simp only [Act.put, List.setIfInBounds_toArray, List.set_cons_zero, List.set_cons_succ]
          refine wpAnyH_take (i := 2) (oi := ?oim34) (v := ?vm34) ?him34 (by kernel_rfl) (by kernel_rfl) (by kernel_rfl) ?hQm34 (Or.inl ⟨?hwm34, ?hym34⟩) (by assumption) ?restm34
          case him34 => simp only [List.getElem?_toArray, List.getElem?_cons_succ, List.getElem?_cons_zero]; exact rfl
          case hQm34 => exact fun _ _ _ h => h
          case hwm34 => rfl
          case hym34 => ((intro w hSw; (try dsimp only at hSw); go_simp) <;> with_reducible rfl)
          try simp only [Act.put, List.setIfInBounds_toArray, List.set_cons_zero, List.set_cons_succ]
          refine wpAnyH_take (i := 3) (oi := ?oim35) (v := ?vm35) ?him35 (by kernel_rfl) (by kernel_rfl) (by kernel_rfl) ?hQm35 (Or.inl ⟨?hwm35, ?hym35⟩) (by assumption) ?restm35
          case him35 => simp only [List.getElem?_toArray, List.getElem?_cons_succ, List.getElem?_cons_zero]; exact rfl
          case hQm35 => exact fun _ _ _ h => h
          case hwm35 => rfl
          case hym35 => ((intro w hSw; (try dsimp only at hSw); go_simp) <;> with_reducible rfl)
          try simp only [Act.put, List.setIfInBounds_toArray, List.set_cons_zero, List.set_cons_succ]
          refine wpAnyH_take (i := 4) (oi := ?oim36) (v := ?vm36) ?him36 (by kernel_rfl) (by kernel_rfl) (by kernel_rfl) ?hQm36 (Or.inl ⟨?hwm36, ?hym36⟩) (by assumption) ?restm36
          case him36 => simp only [List.getElem?_toArray, List.getElem?_cons_succ, List.getElem?_cons_zero]; exact rfl
          case hQm36 => exact fun _ _ _ h => h
          case hwm36 => rfl
          case hym36 => ((intro w hSw; (try dsimp only at hSw); go_simp) <;> with_reducible rfl)
          try simp only [Act.put, List.setIfInBounds_toArray, List.set_cons_zero, List.set_cons_succ]
          refine wpAnyH_take (i := 5) (oi := ?oim37) (v := ?vm37) ?him37 (by kernel_rfl) (by kernel_rfl) (by kernel_rfl) ?hQm37 (Or.inl ⟨?hwm37, ?hym37⟩) (by assumption) ?restm37
          case him37 => simp only [List.getElem?_toArray, List.getElem?_cons_succ, List.getElem?_cons_zero]; exact rfl
          case hQm37 => exact fun _ _ _ h => h
          case hwm37 => rfl
          case hym37 => ((intro w hSw; (try dsimp only at hSw); go_simp) <;> with_reducible rfl)
          try simp only [Act.put, List.setIfInBounds_toArray, List.set_cons_zero, List.set_cons_succ]
          refine wpAnyH_take (i := 6) (oi := ?oim38) (v := ?vm38) ?him38 (by kernel_rfl) (by kernel_rfl) (by kernel_rfl) ?hQm38 (Or.inl ⟨?hwm38, ?hym38⟩) (by assumption) ?restm38
          case him38 => simp only [List.getElem?_toArray, List.getElem?_cons_succ, List.getElem?_cons_zero]; exact rfl
          case hQm38 => exact fun _ _ _ h => h
          case hwm38 => rfl
          case hym38 => ((intro w hSw; (try dsimp only at hSw); go_simp) <;> with_reducible rfl)
          try simp only [Act.put, List.setIfInBounds_toArray, List.set_cons_zero, List.set_cons_succ]
          refine wpAnyH_take (i := 7) (oi := ?oim39) (v := ?vm39) ?him39 (by kernel_rfl) (by kernel_rfl) (by kernel_rfl) ?hQm39 (Or.inl ⟨?hwm39, ?hym39⟩) (by assumption) ?restm39
          case him39 => simp only [List.getElem?_toArray, List.getElem?_cons_succ, List.getElem?_cons_zero]; exact rfl
          case hQm39 => exact fun _ _ _ h => h
          case hwm39 => rfl
          case hym39 => ((intro w hSw; (try dsimp only at hSw); go_simp) <;> with_reducible rfl)
          try simp only [Act.put, List.setIfInBounds_toArray, List.set_cons_zero, List.set_cons_succ]
          refine wpAnyH_take (i := 8) (oi := ?oim40) (v := ?vm40) ?him40 (by kernel_rfl) (by kernel_rfl) (by kernel_rfl) ?hQm40 (Or.inl ⟨?hwm40, ?hym40⟩) (by assumption) ?restm40
          case him40 => simp only [List.getElem?_toArray, List.getElem?_cons_succ, List.getElem?_cons_zero]; exact rfl
          case hQm40 => exact fun _ _ _ h => h
          case hwm40 => rfl
          case hym40 => ((intro wS hSw; have t0 := (hSw.cell (p := ⟨b, o + k * 3, none⟩) hbw).trans c0; go_simp) <;> with_reducible rfl)
          try simp only [Act.put, List.setIfInBounds_toArray, List.set_cons_zero, List.set_cons_succ]
          refine wpAnyH_take (i := 9) (oi := ?oim41) (v := ?vm41) ?him41 (by kernel_rfl) (by kernel_rfl) (by kernel_rfl) ?hQm41 (Or.inl ⟨?hwm41, ?hym41⟩) (by assumption) ?restm41
          case him41 => simp only [List.getElem?_toArray, List.getElem?_cons_succ, List.getElem?_cons_zero]; exact rfl
          case hQm41 => exact fun _ _ _ h => h
          case hwm41 => rfl
          case hym41 => ((intro w hSw; (try dsimp only at hSw); go_simp) <;> with_reducible rfl)
          try simp only [Act.put, List.setIfInBounds_toArray, List.set_cons_zero, List.set_cons_succ]
          refine wpAnyH_take (i := 10) (oi := ?oim42) (v := ?vm42) ?him42 (by kernel_rfl) (by kernel_rfl) (by kernel_rfl) ?hQm42 (Or.inl ⟨?hwm42, ?hym42⟩) (by assumption) ?restm42
          case him42 => simp only [List.getElem?_toArray, List.getElem?_cons_succ, List.getElem?_cons_zero]; exact rfl
          case hQm42 => exact fun _ _ _ h => h
          case hwm42 => rfl
          case hym42 => ((intro wS hSw; have t0 := (hSw.cell (p := ⟨w.heap.size, 0, none⟩) hbx).trans x0; go_simp) <;> with_reducible rfl)
          try simp only [Act.put, List.setIfInBounds_toArray, List.set_cons_zero, List.set_cons_succ]
          refine wpAnyH_ready (rs := [11]) (by kernel_rfl) (by simp) ?_
          refine AllReadyH.cons (o := ?or43_11) ?hor43_11 (fun K hK => ?stepr43_11) (AllReadyH.nil)
          case hor43_11 => simp only [List.getElem?_toArray, List.getElem?_cons_succ, List.getElem?_cons_zero]; exact rfl
          case stepr43_11 =>
            go_simp
            refine (lev_ahead _ _ _ _).mono ?_
            rw [hA]
            rintro e v5 ⟨rfl, rfl⟩
            refine hK.out _ _ ?hSr43_11 (fun hHeld => ?restr43_11)
            case hSr43_11 => exact hHeld
            clear hK K
            try simp only [Act.put, List.setIfInBounds_toArray, List.set_cons_zero, List.set_cons_succ]
            refine wpAnyH_take (i := 12) (oi := ?oim44) (v := ?vm44) ?him44 (by kernel_rfl) (by kernel_rfl) (by kernel_rfl) ?hQm44 (Or.inl ⟨?hwm44, ?hym44⟩) (by assumption) ?restm44
            case him44 => simp only [List.getElem?_toArray, List.getElem?_cons_succ, List.getElem?_cons_zero]; exact rfl
            case hQm44 => exact fun _ _ _ h => h
            case hwm44 => rfl
            case hym44 => ((intro w hSw; (try dsimp only at hSw); go_simp) <;> with_reducible rfl)
            try simp only [Act.put, List.setIfInBounds_toArray, List.set_cons_zero, List.set_cons_succ]
            refine wpAnyH_take (i := 13) (oi := ?oim45) (v := ?vm45) ?him45 (by kernel_rfl) (by kernel_rfl) (by kernel_rfl) ?hQm45 (Or.inl ⟨?hwm45, ?hym45⟩) (by assumption) ?restm45
            case him45 => simp only [List.getElem?_toArray, List.getElem?_cons_succ, List.getElem?_cons_zero]; exact rfl
            case hQm45 => exact fun _ _ _ h => h
            case hwm45 => rfl
            case hym45 => ((intro w hSw; (try dsimp only at hSw); go_simp) <;> with_reducible rfl)
            try simp only [Act.put, List.setIfInBounds_toArray, List.set_cons_zero, List.set_cons_succ]
            refine wpAnyH_done (by kernel_rfl) ?_ _
            replace hown := own_below hown hHeld
            replace hbox := (hHeld.block _ hbx).trans hbox
            replace hbel := hbel.trans (Below.mono hHeld hbs)
            clear x0 x1 x2 c0 c1 c2 hHeld
            generalize wr.drew = wq at *
            replace hbs := hbel.size
            replace hbx := heap_ltA hbox
            replace hbw := Nat.lt_of_lt_of_le hb hbs
            obtain ⟨x0, x1, x2⟩ := box3 hbox
            have c0 := (hbel.cell (p := ⟨b, o + k * 3, none⟩) hb).trans C0.out
            have c1 := (hbel.cell (p := ⟨b, o + k * 3 + 1, none⟩) hb).trans C1.out
            have c2 := (hbel.cell (p := ⟨b, o + k * 3 + 2, none⟩) hb).trans C2.out
            clear c0 c1 c2
            have hov := hown.lt
            go_wp2_with (at_builtin; refine wpList_append_own_at _ rfl _ _ 40 rfl (w.heap.size + 1) 94 i0 _ 3 24 Try.underlying40 hi hz0 hz1 hz2 rfl (by decide) _ _ _ rfl (hown.alloc _) ⟨wq.heap.size, 0, none⟩ 1 1 [.int .i64 p, .int .i64 q, .int .i64 m] rfl rfl (World.news_of_block (heap_alloc_new wq _)) (by intro u hu; simp at hu; rcases hu with rfl | rfl | rfl <;> rfl) (by unfold maxLen; omega) (by omega) (by simp; omega) ?_)
            intro v' wp hown hgrow _ _
            replace hbel := (hbel.alloc hbs (.cells #[.int .i64 p, .int .i64 q, .int .i64 m] 94)).grown hgrow (by simp; omega) (fun q hq => by have := (hov q hq).1; omega)
            replace hbox := (hgrow.block w.heap.size (by simp; omega) (fun e => by have := (hov _ e.symm).1; omega)).trans ((heap_alloc_lt wq _ (by omega)).trans hbox)
            clear hgrow hov
            obtain ⟨A3, d3, rfl, _, _⟩ := own_slice hown
            have HL3 := Lib.hid (show (putZ side zs p q m k ++ [p, q, m]).length = (N + 1) * 3 by rw [List.length_append, HLN.out]; simp; omega)
            replace hown : wp.ownsRow (w.heap.size + 1) 94 3 (.slice A3 (N + 1) d3) (N + 1) (nums (putZ side zs p q m k ++ [p, q, m])) := by rw [nums_append]; exact hown
            clear x0 x1 x2
            replace hbs := hbel.size
            replace hbx := heap_ltA hbox
            replace hbw := Nat.lt_of_lt_of_le hb hbs
            obtain ⟨x0, x1, x2⟩ := box3 hbox
            have c0 := (hbel.cell (p := ⟨b, o + k * 3, none⟩) hb).trans C0.out
            have c1 := (hbel.cell (p := ⟨b, o + k * 3 + 1, none⟩) hb).trans C1.out
            have c2 := (hbel.cell (p := ⟨b, o + k * 3 + 2, none⟩) hb).trans C2.out
            by_cases hp : num zs (k * 3) = p
            · have HE := Lib.hid (show putZ side zs p q m (k + 1) = (putZ side zs p q m k ++ [p, q, m]) by rw [HG.out, HD.out, HA.out, if_pos (show num zs (k * 3) = p from hp)]; simp)
              rw [hp] at c0
              clear hp
              go_upto_region 9 with fail
              go_region
              replace hown := own_below hown (Below.refl _ wp).drew
              replace hbox : wp.drew.heap[w.heap.size]? = _ := hbox
              replace hbel := hbel.drew
              have HO := Lib.hid hown
              go_wp2_with fail
              go_roundw
              case rel => exact ⟨k + 1, N + 1, by omega, by omega, by go_num, by rw [HDN.out, HD.out, HA.out]; rfl, by rw [HE.out]; exact HL3.out, by rw [HE.out]; exact HO.out, hbel, hbox⟩
              case measure => simp [intOf]; omega
            · have HE := Lib.hid (show putZ side zs p q m (k + 1) = (putZ side zs p q m k ++ [p, q, m]) ++ [num zs (k * 3), num zs (k * 3 + 1), num zs (k * 3 + 2)] by rw [HG.out, HD.out, HA.out, if_neg (show ¬ num zs (k * 3) = p from hp)]; simp)
              have tp : (num zs (k * 3) != p) = true := by simpa using hp
              clear hp
              go_upto_region 9 with fail
              go_region
              replace hown := own_below hown (Below.refl _ wp).drew
              replace hbox : wp.drew.heap[w.heap.size]? = _ := hbox
              replace hbel := hbel.drew
              replace c0 : wp.drew.cell? ⟨b, o + k * 3, none⟩ = _ := c0
              replace c1 : wp.drew.cell? ⟨b, o + k * 3 + 1, none⟩ = _ := c1
              replace c2 : wp.drew.cell? ⟨b, o + k * 3 + 2, none⟩ = _ := c2
              replace hbs := hbel.size
              replace hbx := heap_ltA hbox
              replace hbw := Nat.lt_of_lt_of_le hb hbs
              clear x0 x1 x2 tp
              generalize wp.drew = wz at *
              have hov := hown.lt
              go_wp2_with (at_builtin; refine wpList_append_own_at _ rfl _ _ 40 rfl (w.heap.size + 1) 94 i0 _ 3 24 Try.underlying40 hi hz0 hz1 hz2 rfl (by decide) _ _ _ rfl (hown.alloc _) ⟨wz.heap.size, 0, none⟩ 1 1 [.int .i64 (num zs (k * 3)), .int .i64 (num zs (k * 3 + 1)), .int .i64 (num zs (k * 3 + 2))] rfl rfl (World.news_of_block (heap_alloc_new wz _)) (by intro u hu; simp at hu; rcases hu with rfl | rfl | rfl <;> rfl) (by unfold maxLen; omega) (by omega) (by simp; omega) ?_)
              intro v' wy hown hgrow _ _
              replace hbel := (hbel.alloc hbs (.cells #[.int .i64 (num zs (k * 3)), .int .i64 (num zs (k * 3 + 1)), .int .i64 (num zs (k * 3 + 2))] 94)).grown hgrow (by simp; omega) (fun q hq => by have := (hov q hq).1; omega)
              replace hbox := (hgrow.block w.heap.size (by simp; omega) (fun e => by have := (hov _ e.symm).1; omega)).trans ((heap_alloc_lt wz _ (by omega)).trans hbox)
              clear hgrow hov
              obtain ⟨A4, d4, rfl, _, _⟩ := own_slice hown
              have HO := Lib.hid hown
              clear hown c0 c1 c2
              go_wp2_with fail
              go_roundw
              case rel => exact ⟨k + 1, N + 1 + 1, by omega, by omega, by go_num, by rw [HDN.out, HD.out, HA.out]; rfl, by rw [HE.out, List.length_append, HL3.out]; simp; omega, by rw [HE.out, nums_append]; exact HO.out, hbel, hbox⟩
              case measure => simp [intOf]; omega
    · obtain rfl : k = n := by omega
      clear hl
      have HLN := Lib.hid hlen
      clear hlen
      rcases Bool.eq_false_or_eq_true (putD side zs p m k) with hD | hD
      · have HE := Lib.hid (show putL side zs k p q m = putZ side zs p q m k by unfold putL; rw [if_pos hD])
        rw [hD]
        clear hD x0 x1 x2
        go_wp2_with fail
        go_ret
        exact ⟨⟨_, N, rfl, by rw [HE.out]; exact HLN.out, by rw [HE.out]; exact delt_mono hown (by omega)⟩, hbel⟩
      · have HE := Lib.hid (show putL side zs k p q m = putZ side zs p q m k ++ [p, q, m] by unfold putL; rw [if_neg (by rw [hD]; simp)])
        rw [hD]
        clear hD
        have hov := hown.lt
        go_wp2_with (at_builtin; refine wpList_append_own_at _ rfl _ _ 40 rfl (w.heap.size + 1) 94 i0 _ 3 24 Try.underlying40 hi hz0 hz1 hz2 rfl (by decide) _ _ _ rfl (hown.alloc _) ⟨wr.heap.size, 0, none⟩ 1 1 [.int .i64 p, .int .i64 q, .int .i64 m] rfl rfl (World.news_of_block (heap_alloc_new wr _)) (by intro u hu; simp at hu; rcases hu with rfl | rfl | rfl <;> rfl) (by unfold maxLen; omega) (by omega) (by simp; omega) ?_)
        intro v' wp hown hgrow _ _
        replace hbel := (hbel.alloc hbs (.cells #[.int .i64 p, .int .i64 q, .int .i64 m] 94)).grown hgrow (by simp; omega) (fun q hq => by have := (hov q hq).1; omega)
        replace hbox := (hgrow.block w.heap.size (by simp; omega) (fun e => by have := (hov _ e.symm).1; omega)).trans ((heap_alloc_lt wr _ (by omega)).trans hbox)
        clear hgrow hov
        obtain ⟨A3, d3, rfl, _, _⟩ := own_slice hown
        have HO := Lib.hid hown
        clear hown
        go_wp2_with fail
        go_ret
        exact ⟨⟨_, N + 1, rfl, by rw [HE.out, List.length_append, HLN.out]; simp; omega, by rw [HE.out, nums_append]; exact delt_mono HO.out (by omega)⟩, hbel⟩
theorem upd_no {m : Int} {p q : Int} (h : m = 0) : lvI p q m = false := by
  subst h
  simp [lvI, inB]
theorem apl_cnt {side : Int} {za zd : List Int} {N k : Nat} (h : (aplL side za zd k).length = N * 3) : cntL (aplL side za zd k) = N := by rw [cntL, h, Nat.mul_div_cancel _ (by omega)]
set_option linter.unusedSimpArgs false in
set_option maxHeartbeats 3200000 in
set_option maxRecDepth 100000 in
theorem spec_DepthApplied (A : Option Addr) (n c : Nat) (za : List Int) (B : Option Addr) (m d : Nat) (zd : List Int) (side : Int) (w : World) (hl : Lst w w.heap.size 3 A n za) (hA : A = none → n = 0 ∧ c = 0) (hn : n ≤ 1048576) (hr : Lst w w.heap.size 3 B m zd) (hm : m ≤ 1048576) :
    Calls Try.prog 23 #[.slice A n c, .slice B m d, .int .i64 side] w fun e w' => (∃ v N, e = .returned (.tuple #[v, .bool (aplB side za n zd m)]) ∧ (aplZ side za n zd m).length = N * 3 ∧ w'.ownsRow w.heap.size 94 3 v N (nums (aplZ side za n zd m))) ∧ Below w.heap.size w w' := by
  obtain ⟨i0, hi, hz0, hz1, hz2⟩ := info_parts lev_info
  rcases Bool.eq_false_or_eq_true (lvsB side za n) with h1 | h1
  rotate_left
  · have HN := Lib.hid (show aplB side za n zd m = false by simp [aplB, h1])
    have HZ := Lib.hid (show aplZ side za n zd m = [] by simp [aplZ, HN.out])
    go_enter Try.func23, Try.ntmps23
    go_wp2_with fail
    refine (spec_LevelsOk A n c za side _ hl hn).mono ?_
    rw [h1]
    rintro e w1 ⟨rfl, hb1⟩
    clear h1 hl hr
    go_wp2_with fail
    refine bodyPost_ret (v := .tuple #[.slice none 0 0, .bool false]) (by simp [results, Try.results23, go_sem]) rfl ⟨⟨_, 0, by rw [HN.out], by rw [HZ.out]; rfl, ?_⟩, hb1⟩
    rw [HZ.out]
    exact World.ownsRow_nil _ _ _ _
  have ho : LvOrd side za n := LvOrd.of_lvTo (by simp [lvsB] at h1; exact h1.2.2)
  have hz := hl.1
  have HAP := Lib.hid (fun k => apl_ok (zd := zd) hz ho k)
  clear ho hz
  by_cases h80 : 80 < m
  · have HN := Lib.hid (show aplB side za n zd m = false by simp [aplB]; omega)
    have HZ := Lib.hid (show aplZ side za n zd m = [] by simp [aplZ, HN.out])
    go_enter Try.func23, Try.ntmps23
    go_wp2_with fail
    refine (spec_LevelsOk A n c za side _ hl hn).mono ?_
    rw [h1]
    rintro e w1 ⟨rfl, hb1⟩
    have h80' : (80 : Int) < (m : Int) := by omega
    clear h1 hl hr h80
    go_wp2_with fail
    refine bodyPost_ret (v := .tuple #[.slice none 0 0, .bool false]) (by simp [results, Try.results23, go_sem]) rfl ⟨⟨_, 0, by rw [HN.out], by rw [HZ.out]; rfl, ?_⟩, hb1⟩
    rw [HZ.out]
    exact World.ownsRow_nil _ _ _ _
  have hn40 : n ≤ 40 := by simp [lvsB] at h1; exact h1.2.1
  have HL1 := Lib.hid h1
  go_enter Try.func23, Try.ntmps23
  go_wp2_with fail
  refine (spec_LevelsOk A n c za side _ hl hn).mono ?_
  rw [h1]
  rintro e w1 ⟨rfl, hb1⟩
  have h80' : ¬ ((80 : Int) < (m : Int)) := by omega
  clear h1
  have hB0 := hb1.alloc hb1.size (.cells #[] 94)
  have hq0 := delt_mono (base' := w.heap.size) (delt_empty w1 94 3) hb1.size
  have hN0 : (w1.alloc (.cells #[] 94)).heap.size = w1.heap.size + 1 := by simp
  have hl1 := hl.below hB0
  have hs1 := hb1.size
  go_wp2_with (at_builtin; refine wpList_appN _ rfl _ _ 40 rfl w.heap.size 94 i0 _ 3 24 Try.underlying40 hi hz0 hz1 hz2 rfl (by decide) _ 0 [] rfl hq0 A n c hA (nums za) rfl (by rw [nums_length, hl.1]) hl1.newsN (nums_one za) (by unfold maxLen; omega) (by omega) (by omega) ?_)
  intro v' w3 hown3 hgrow3
  replace hB0 := hB0.grown hgrow3 (by omega) (fun q hq => (hq0.lt q hq).1)
  skip
  obtain ⟨A3, d3, rfl, _, _⟩ := own_slice hown3
  have HO := Lib.hid hown3
  clear hown3 hgrow3 hq0 hN0 hl1 hs1 hb1
  go_wp2_with fail
  clear h80'
  go_loopw [8, 9] (fun r i wr => ∃ k N : Nat, k ≤ m ∧ N ≤ n + k ∧ i = .int .i64 (k : Int) ∧ updTo zd k = true ∧ (aplL side za zd k).length = N * 3 ∧ wr.ownsRow w.heap.size 94 3 r N (nums (aplL side za zd k)) ∧ Below w.heap.size w wr) (fun _ i _ => m - (intOf i).toNat)
  case atStart => exact ⟨0, n, Nat.zero_le _, by omega, rfl, rfl, hl.1, HO.out, hB0⟩
  case round =>
    clear HO hB0
    obtain ⟨k, N, hk, hNk, rfl, hup, hlen, hown, hbel⟩ := hrel
    obtain ⟨A2, d2, rfl, _, _⟩ := own_slice hown
    have HU := Lib.hid hup
    have HLN := Lib.hid hlen
    have hN1 : N ≤ 1048576 := by omega
    clear hup hlen hl
    by_cases hlt : k < m
    · obtain ⟨b, o, rfl, hb, C0, C1, C2⟩ := hr.row3 hlt
      have c0 := (hbel.cell (p := ⟨b, o + k * 3, none⟩) hb).trans C0
      have c1 := (hbel.cell (p := ⟨b, o + k * 3 + 1, none⟩) hb).trans C1
      have c2 := (hbel.cell (p := ⟨b, o + k * 3 + 2, none⟩) hb).trans C2
      replace C0 := Lib.hid C0
      replace C1 := Lib.hid C1
      replace C2 := Lib.hid C2
      have HUN := Lib.hid (show updTo zd (k + 1) = (updTo zd k && updI (num zd (k * 3)) (num zd (k * 3 + 1)) (num zd (k * 3 + 2))) from rfl)
      have HAN := Lib.hid (show aplL side za zd (k + 1) = putL side (aplL side za zd k) N (num zd (k * 3)) (num zd (k * 3 + 1)) (num zd (k * 3 + 2)) by rw [aplL, apl_cnt HLN.out])
      have HNO := Lib.hid (fun h => updTo_no (zd := zd) (k := k) h m hlt)
      have HUI := Lib.hid (show updI (num zd (k * 3)) (num zd (k * 3 + 1)) (num zd (k * 3 + 2)) = (((num zd (k * 3 + 2) == 0) && ((num zd (k * 3 + 1) == 0) && inB 1 (num zd (k * 3)) 1000000)) || lvI (num zd (k * 3)) (num zd (k * 3 + 1)) (num zd (k * 3 + 2))) from rfl)
      clear hr
      by_cases e2 : num zd (k * 3 + 2) = 0
      · have HLV : lvI (num zd (k * 3)) (num zd (k * 3 + 1)) (num zd (k * 3 + 2)) = false := upd_no e2
        by_cases e1 : num zd (k * 3 + 1) = 0
        · rcases Bool.eq_false_or_eq_true (inB 1 (num zd (k * 3)) 1000000) with HIN | HIN
          · have HUY := Lib.hid (show updI (num zd (k * 3)) (num zd (k * 3 + 1)) (num zd (k * 3 + 2)) = true by rw [HUI.out, e2, e1, HIN]; rfl)
            rw [e2] at c2
            rw [e1] at c1
            rw [e1, e2] at HAN HLV
            clear e1 e2
            go_wp2_with (go_at_call 69; refine (l1In_any _ _ _ _).mono ?_; rw [HIN]; rintro e w' ⟨rfl, rfl⟩)
            refine (spec_l10Put A2 N d2 (aplL side za zd k) (num zd (k * 3)) 0 0 side _ (Lst.of_own hown) hN1).mono ?_
            rw [← HAN.out]
            rintro e w6 ⟨⟨v6, N6, rfl, hlen6, hown6⟩, hb6⟩
            have HL6 := Lib.hid hlen6
            have HO6 := Lib.hid (delt_mono (base' := w.heap.size) hown6 hbel.size)
            replace hbel := hbel.trans (hb6.mono hbel.size)
            obtain ⟨A6, d6, rfl, _, _⟩ := own_slice hown6
            clear hlen6 hown6 hb6 hown c0 c1 c2
            go_wp2_with fail
            go_roundw
            case rel => exact ⟨k + 1, N6, by omega, by
                obtain ⟨⟨N', e1, e2⟩, _⟩ := HAP.out (k + 1)
                have := HL6.out
                omega, by go_num, by rw [HUN.out, HU.out, HUY.out]; rfl, HL6.out, HO6.out, hbel⟩
            case measure => simp [intOf]; omega
          · have HUY := Lib.hid (show updI (num zd (k * 3)) (num zd (k * 3 + 1)) (num zd (k * 3 + 2)) = false by rw [HUI.out, HLV, e2, e1, HIN]; rfl)
            rw [e2] at c2
            rw [e1] at c1
            rw [e1, e2] at HLV
            clear e1 e2
            go_wp2_with (go_at_call 69; refine (l1In_any _ _ _ _).mono ?_; rw [HIN]; rintro e w' ⟨rfl, rfl⟩)
            refine (lev_spec _ _ _ _).mono ?_
            rw [HLV]
            rintro e w5 ⟨rfl, hb5⟩
            replace hown := own_below hown hb5
            replace hbel := hbel.trans (hb5.mono hbel.size)
            clear hb5 c0 c1 c2 hown
            have HN := Lib.hid (show aplB side za n zd m = false by simp [aplB, HNO.out HUY.out])
            have HZ := Lib.hid (show aplZ side za n zd m = [] by simp [aplZ, HN.out])
            go_wp2_with fail
            refine bodyPost_ret (v := .tuple #[.slice none 0 0, .bool false]) (by simp [results, Try.results23, go_sem]) rfl ⟨⟨_, 0, by rw [HN.out], by rw [HZ.out]; rfl, ?_⟩, hbel⟩
            rw [HZ.out]
            exact World.ownsRow_nil _ _ _ _
        · have HUY := Lib.hid (show updI (num zd (k * 3)) (num zd (k * 3 + 1)) (num zd (k * 3 + 2)) = false by rw [HUI.out, HLV, beq_eq_false_iff_ne.2 e1]; simp)
          have t1 : (num zd (k * 3 + 1) == 0) = false := beq_eq_false_iff_ne.2 e1
          rw [e2] at c2
          rw [e2] at HLV
          clear e1 e2
          go_wp2_with fail
          refine (lev_spec _ _ _ _).mono ?_
          rw [HLV]
          rintro e w5 ⟨rfl, hb5⟩
          replace hown := own_below hown hb5
          replace hbel := hbel.trans (hb5.mono hbel.size)
          clear hb5 c0 c1 c2 hown
          have HN := Lib.hid (show aplB side za n zd m = false by simp [aplB, HNO.out HUY.out])
          have HZ := Lib.hid (show aplZ side za n zd m = [] by simp [aplZ, HN.out])
          go_wp2_with fail
          refine bodyPost_ret (v := .tuple #[.slice none 0 0, .bool false]) (by simp [results, Try.results23, go_sem]) rfl ⟨⟨_, 0, by rw [HN.out], by rw [HZ.out]; rfl, ?_⟩, hbel⟩
          rw [HZ.out]
          exact World.ownsRow_nil _ _ _ _
      · have t2 : (num zd (k * 3 + 2) == 0) = false := beq_eq_false_iff_ne.2 e2
        rcases Bool.eq_false_or_eq_true (lvI (num zd (k * 3)) (num zd (k * 3 + 1)) (num zd (k * 3 + 2))) with HLV | HLV
        · have HUY := Lib.hid (show updI (num zd (k * 3)) (num zd (k * 3 + 1)) (num zd (k * 3 + 2)) = true by rw [HUI.out, HLV]; simp)
          clear e2
          go_wp2_with fail
          refine (lev_spec _ _ _ _).mono ?_
          rw [HLV]
          rintro e w5 ⟨rfl, hb5⟩
          replace hown := own_below hown hb5
          replace hbel := hbel.trans (hb5.mono hbel.size)
          have c0 := (hbel.cell (p := ⟨b, o + k * 3, none⟩) hb).trans C0.out
          have c1 := (hbel.cell (p := ⟨b, o + k * 3 + 1, none⟩) hb).trans C1.out
          have c2 := (hbel.cell (p := ⟨b, o + k * 3 + 2, none⟩) hb).trans C2.out
          clear hb5
          go_wp2_with fail
          refine (spec_l10Put A2 N d2 (aplL side za zd k) (num zd (k * 3)) (num zd (k * 3 + 1)) (num zd (k * 3 + 2)) side _ (Lst.of_own hown) hN1).mono ?_
          rw [← HAN.out]
          rintro e w6 ⟨⟨v6, N6, rfl, hlen6, hown6⟩, hb6⟩
          have HL6 := Lib.hid hlen6
          have HO6 := Lib.hid (delt_mono (base' := w.heap.size) hown6 hbel.size)
          replace hbel := hbel.trans (hb6.mono hbel.size)
          obtain ⟨A6, d6, rfl, _, _⟩ := own_slice hown6
          clear hlen6 hown6 hb6 hown c0 c1 c2
          go_wp2_with fail
          go_roundw
          case rel => exact ⟨k + 1, N6, by omega, by
              obtain ⟨⟨N', e1, e2⟩, _⟩ := HAP.out (k + 1)
              have := HL6.out
              omega, by go_num, by rw [HUN.out, HU.out, HUY.out]; rfl, HL6.out, HO6.out, hbel⟩
          case measure => simp [intOf]; omega
        · have HUY := Lib.hid (show updI (num zd (k * 3)) (num zd (k * 3 + 1)) (num zd (k * 3 + 2)) = false by rw [HUI.out, HLV, t2]; rfl)
          clear e2
          go_wp2_with fail
          refine (lev_spec _ _ _ _).mono ?_
          rw [HLV]
          rintro e w5 ⟨rfl, hb5⟩
          replace hown := own_below hown hb5
          replace hbel := hbel.trans (hb5.mono hbel.size)
          clear hb5 c0 c1 c2 hown
          have HN := Lib.hid (show aplB side za n zd m = false by simp [aplB, HNO.out HUY.out])
          have HZ := Lib.hid (show aplZ side za n zd m = [] by simp [aplZ, HN.out])
          go_wp2_with fail
          refine bodyPost_ret (v := .tuple #[.slice none 0 0, .bool false]) (by simp [results, Try.results23, go_sem]) rfl ⟨⟨_, 0, by rw [HN.out], by rw [HZ.out]; rfl, ?_⟩, hbel⟩
          rw [HZ.out]
          exact World.ownsRow_nil _ _ _ _
    · obtain rfl : k = m := by omega
      clear hr
      rcases Bool.eq_false_or_eq_true (lvsB side (aplL side za zd k) N) with hf | hf
      · have HN := Lib.hid (show aplB side za n zd k = true by simp [aplB, HL1.out, HU.out, apl_cnt HLN.out, hf]; omega)
        have HZ := Lib.hid (show aplZ side za n zd k = aplL side za zd k by simp [aplZ, HN.out])
        go_wp2_with fail
        refine (spec_LevelsOk A2 N d2 (aplL side za zd k) side _ (Lst.of_own hown) hN1).mono ?_
        rw [hf]
        rintro e w6 ⟨rfl, hb6⟩
        have HO6 := Lib.hid (own_below hown hb6)
        replace hbel := hbel.trans (hb6.mono hbel.size)
        clear hf hb6 hown
        go_wp2_with fail
        refine bodyPost_ret (v := .tuple #[.slice A2 N d2, .bool true]) (by simp [results, Try.results23, go_sem]) rfl ⟨⟨_, N, by rw [HN.out], by rw [HZ.out]; exact HLN.out, ?_⟩, hbel⟩
        rw [HZ.out]
        exact HO6.out
      · have HN := Lib.hid (show aplB side za n zd k = false by simp [aplB, HU.out, apl_cnt HLN.out, hf])
        have HZ := Lib.hid (show aplZ side za n zd k = [] by simp [aplZ, HN.out])
        go_wp2_with fail
        refine (spec_LevelsOk A2 N d2 (aplL side za zd k) side _ (Lst.of_own hown) hN1).mono ?_
        rw [hf]
        rintro e w6 ⟨rfl, hb6⟩
        replace hbel := hbel.trans (hb6.mono hbel.size)
        clear hf hb6 hown
        go_wp2_with fail
        refine bodyPost_ret (v := .tuple #[.slice none 0 0, .bool false]) (by simp [results, Try.results23, go_sem]) rfl ⟨⟨_, 0, by rw [HN.out], by rw [HZ.out]; rfl, ?_⟩, hbel⟩
        rw [HZ.out]
        exact World.ownsRow_nil _ _ _ _
end Go.Proofs.Ytfodkefaflpicaa

namespace Go.Proofs.Ytfodkefaflpicaa
open Go.RowKit Wire

theorem jump_ret {l : Nat} {J : Act → World → Prop} {Q : Exit → Act → World → Prop} {a : Act} {w : World} : Exit.jump l J Q .ret a w = Q .ret a w := rfl
theorem jump_goto {l : Nat} {J : Act → World → Prop} {Q : Exit → Act → World → Prop} {a : Act} {w : World} : Exit.jump l J Q (.goto l) a w = (l = l ∧ J a w) := rfl
set_option maxRecDepth 100000 in
theorem impl_isRemoval (p q m : Int) (w : World) :
    Calls Try.prog 119 #[.agg #[.int .i64 p, .int .i64 q, .int .i64 m]] w fun x w' => x = .returned (.bool (q == 0 && m == 0)) ∧ Below w.heap.size w w' := by
  by_cases h : q = 0
  · subst h
    go_enter Try.func119, Try.ntmps119
    go_wp2_with fail
    go_ret
    exact ⟨by simp, (Below.refl _ _).alloc (Nat.le_refl _) _⟩
  · have t : (q == 0) = false := beq_eq_false_iff_ne.2 h
    go_enter Try.func119, Try.ntmps119
    go_wp2_with fail
    go_ret
    exact ⟨by simp [h], (Below.refl _ _).alloc (Nat.le_refl _) _⟩
theorem updI_q {p q m : Int} (hu : updI p q m = true) (h : m = 0) : q = 0 := by
  rw [updI, upd_no h, Bool.or_false] at hu
  simp at hu
  exact hu.2.1
theorem updI_not (p q m : Int) : (!updI p q m) = (!lvI p q m && !((q == 0 && m == 0) && inB 1 p 1000000)) := by
  unfold updI
  cases lvI p q m <;> cases (q == 0) <;> cases (m == 0) <;> cases inB 1 p 1000000 <;> rfl
set_option maxHeartbeats 800000 in
set_option maxRecDepth 100000 in
theorem upd_notOk (p q m : Int) (w : World) :
    Calls Try.prog 118 #[.agg #[.int .i64 p, .int .i64 q, .int .i64 m]] w fun x w' => x = .returned (.bool (!updI p q m)) ∧ Below w.heap.size w w' := by
  have HU := Lib.hid (updI_not p q m)
  have hk0 := heap_alloc_new w (.cells #[.int .i64 p, .int .i64 q, .int .i64 m] 94)
  rcases Bool.eq_false_or_eq_true (lvI p q m) with h | h
  · go_enter Try.func118, Try.ntmps118
    go_wp2_with fail
    refine (lev_impl _ _ _ _).mono ?_
    rw [h]
    rintro e w1 ⟨rfl, hb1⟩
    have HL := Lib.hid h
    clear h
    go_wp2_with fail
    go_ret
    exact ⟨by rw [HU.out, HL.out]; rfl, below_alloc hb1⟩
  · rcases Bool.eq_false_or_eq_true (q == 0 && m == 0) with h2 | h2
    · go_enter Try.func118, Try.ntmps118
      go_wp2_with fail
      refine (lev_impl _ _ _ _).mono ?_
      rw [h]
      rintro e w1 ⟨rfl, hb1⟩
      have HL := Lib.hid h
      clear h
      have x0 := box_cell hb1 0
      have x1 := box_cell hb1 1
      have x2 := box_cell hb1 2
      simp only [List.getElem?_toArray, List.getElem?_cons_zero, List.getElem?_cons_succ] at x0 x1 x2
      replace hb1 := below_alloc hb1
      go_wp2_with fail
      refine (impl_isRemoval _ _ _ _).mono ?_
      rw [h2]
      rintro e w2 ⟨rfl, hb2⟩
      have hs : w.heap.size < w1.heap.size := by
        rcases Nat.lt_or_ge w.heap.size w1.heap.size with a | a
        · exact a
        · simp [World.cell?, Array.getElem?_eq_none a] at x0
      replace x0 := (hb2.cell (p := ⟨w.heap.size, 0, none⟩) hs).trans x0
      have HR := Lib.hid h2
      clear h2 x1 x2 hs
      replace hb2 := below_later hb1 hb2
      clear hb1
      go_wp2_with (go_at_call 50; refine (within_any _ _ _ _).mono ?_; rintro e w' ⟨rfl, rfl⟩)
      go_ret
      exact ⟨by rw [HU.out, HL.out, HR.out]; rfl, hb2⟩
    · go_enter Try.func118, Try.ntmps118
      go_wp2_with fail
      refine (lev_impl _ _ _ _).mono ?_
      rw [h]
      rintro e w1 ⟨rfl, hb1⟩
      have HL := Lib.hid h
      clear h
      have x0 := box_cell hb1 0
      have x1 := box_cell hb1 1
      have x2 := box_cell hb1 2
      simp only [List.getElem?_toArray, List.getElem?_cons_zero, List.getElem?_cons_succ] at x0 x1 x2
      replace hb1 := below_alloc hb1
      go_wp2_with fail
      refine (impl_isRemoval _ _ _ _).mono ?_
      rw [h2]
      rintro e w2 ⟨rfl, hb2⟩
      have HR := Lib.hid h2
      clear h2 x0 x1 x2
      replace hb2 := below_later hb1 hb2
      clear hb1
      go_wp2_with fail
      go_ret
      exact ⟨by rw [HU.out, HL.out, HR.out]; rfl, hb2⟩
set_option maxHeartbeats 1600000 in
set_option maxRecDepth 100000 in
theorem upd_IndexFunc (A : Option Addr) (n c : Nat) (zs : List Int) (w : World) (hl : Lst w w.heap.size 3 A n zs) (hn : n ≤ 1048576) :
    Calls Try.prog 140 #[.slice A n c, .func (.func 118) #[] #[]] w fun e w' => (∃ z : Int, e = .returned (.int .i64 z) ∧ -1 ≤ z ∧ z ≤ 1048576 ∧ (!updTo zs n) = decide (0 ≤ z)) ∧ Below w.heap.size w w' := by
  go_enter Try.func140, Try.ntmps140
  go_wp2_with fail
  go_loopw [8] (fun i wr => ∃ k : Nat, k ≤ n ∧ i = .int .i64 (k : Int) ∧ updTo zs k = true ∧ Below w.heap.size w wr) (fun i _ => n - (intOf i).toNat)
  case atStart => exact ⟨0, Nat.zero_le _, rfl, rfl, Below.refl _ _⟩
  case round =>
    obtain ⟨k, hk, rfl, hok, hbel⟩ := hrel
    have HL := Lib.hid hok
    clear hok
    by_cases hlt : k < n
    · obtain ⟨b, o, rfl, hb, c0, c1, c2⟩ := (hl.below hbel).row3 hlt
      clear hl
      have HS := Lib.hid (show updTo zs (k + 1) = (updTo zs k && updI (num zs (k * 3)) (num zs (k * 3 + 1)) (num zs (k * 3 + 2))) from rfl)
      rcases Bool.eq_false_or_eq_true (updI (num zs (k * 3)) (num zs (k * 3 + 1)) (num zs (k * 3 + 2))) with hat | hat
      · have HA := Lib.hid hat
        go_wp2_with fail
        refine (upd_notOk _ _ _ _).mono ?_
        rw [hat]
        rintro e w1 ⟨rfl, hb1⟩
        have hbel1 := hbel.trans (hb1.mono hbel.size)
        clear hbel hb1 hat
        go_wp2_with fail
        go_roundw
        case rel => exact ⟨k + 1, by omega, by go_num, by rw [HS.out, HL.out, HA.out]; rfl, hbel1⟩
        case measure => simp [intOf]; omega
      · have HN := Lib.hid (updTo_no hat n hlt)
        go_wp2_with fail
        refine (upd_notOk _ _ _ _).mono ?_
        rw [hat]
        rintro e w1 ⟨rfl, hb1⟩
        have hbel1 := hbel.trans (hb1.mono hbel.size)
        clear hbel hb1 hat
        go_wp2_with fail
        go_ret
        exact ⟨⟨_, rfl, by omega, by omega, by rw [HN.out]; simp⟩, hbel1⟩
    · obtain rfl : k = n := by omega
      clear hl
      go_wp2_with fail
      go_ret
      exact ⟨⟨_, rfl, by omega, by omega, by rw [HL.out]; rfl⟩, hbel⟩
set_option maxRecDepth 100000 in
theorem upd_Contains (A : Option Addr) (n c : Nat) (zs : List Int) (w : World) (hl : Lst w w.heap.size 3 A n zs) (hn : n ≤ 1048576) :
    Calls Try.prog 117 #[.slice A n c, .func (.func 118) #[] #[]] w fun e w' => e = .returned (.bool (!updTo zs n)) ∧ Below w.heap.size w w' := by
  go_enter Try.func117, Try.ntmps117
  go_wp2_with fail
  refine (upd_IndexFunc A n c zs _ hl hn).mono ?_
  rintro e w1 ⟨⟨z, rfl, hz0, hz1, hz2⟩, hb1⟩
  have HZ := Lib.hid hz2
  clear hz2
  go_wp2_with fail
  go_ret
  exact ⟨ret_bool HZ.out.symm, hb1⟩
set_option maxRecDepth 100000 in
theorem impl_updatesOk (A : Option Addr) (n c : Nat) (zs : List Int) (w : World) (hl : Lst w w.heap.size 3 A n zs) (hn : n ≤ 1048576) :
    Calls Try.prog 66 #[.slice A n c] w fun e w' => e = .returned (.bool (decide (n ≤ 80) && updTo zs n)) ∧ Below w.heap.size w w' := by
  by_cases h80 : n ≤ 80
  · have HN := Lib.hid (show (decide (n ≤ 80) && updTo zs n) = updTo zs n by simp [h80])
    go_enter Try.func66, Try.ntmps66
    go_wp2_with fail
    refine (upd_Contains A n c zs _ hl hn).mono ?_
    rintro e w1 ⟨rfl, hb1⟩
    go_wp2_with fail
    go_ret
    exact ⟨ret_bool (by rw [HN.out]; (first | done | simp)), hb1⟩
  · have HN := Lib.hid (show (decide (n ≤ 80) && updTo zs n) = false by simp [h80])
    go_enter Try.func66, Try.ntmps66
    go_wp2_with fail
    go_ret
    exact ⟨by first | rfl | (rw [HN.out]; rfl), Below.refl _ _⟩
set_option maxHeartbeats 800000 in
set_option maxRecDepth 100000 in
theorem lev_Clone (A : Option Addr) (n c : Nat) (zs : List Int) (w : World) (hl : Lst w w.heap.size 3 A n zs) (hA : A = none → n = 0 ∧ c = 0) (hn : n ≤ 1048576) :
    Calls Try.prog 67 #[.slice A n c] w fun e w' => (∃ v, e = .returned v ∧ w'.ownsRow w.heap.size 94 3 v n (nums zs)) ∧ Below w.heap.size w w' := by
  obtain ⟨i0, hi, hz0, hz1, hz2⟩ := info_parts lev_info
  cases A with
  | none =>
    obtain ⟨rfl, rfl⟩ := hA rfl
    have h0 : zs = [] := List.eq_nil_of_length_eq_zero (by rw [hl.1])
    subst h0
    have heq : (binOp .eql 40 (.slice none 0 0) (.slice none 0 0)).run Try.prog w = .ok (.bool true) w := Lib.run_eql_slice_nil w 40 94 none 0 0 0 0 Try.underlying40
    go_enter Try.func67, Try.ntmps67
    go_wp2_with (simp only [heq])
    go_ret
    exact ⟨⟨_, rfl, World.ownsRow_nil _ _ _ _⟩, Below.refl _ _⟩
  | some ad =>
    have hB0 : Below w.heap.size w (w.alloc (.cells #[] 94)) := (Below.refl _ _).alloc (Nat.le_refl _) _
    have hq0 := delt_empty w 94 3
    have hl1 := hl.below hB0
    have hN0 : (w.alloc (.cells #[] 94)).heap.size = w.heap.size + 1 := by simp
    go_enter Try.func67, Try.ntmps67
    have heq : (binOp .eql 40 (.slice (some ad) n c) (.slice none 0 0)).run Try.prog w = .ok (.bool false) w := Lib.run_eql_slice_nil w 40 94 (some ad) n c 0 0 Try.underlying40
    go_upto_region 3 with (simp only [heq])
    go_wp2_with (at_builtin; refine wpList_appN _ rfl _ _ 40 rfl w.heap.size 94 i0 _ 3 24 Try.underlying40 hi hz0 hz1 hz2 rfl (by decide) _ 0 [] rfl hq0 (some ad) n c (fun h => by cases h) (nums zs) rfl (by rw [nums_length, hl.1]) hl1.newsN (nums_one zs) (by unfold maxLen; omega) (by omega) (by omega) ?_)
    intro v' w3 hown3 hgrow3
    replace hB0 := hB0.grown hgrow3 (by omega) (fun q hq => (hq0.lt q hq).1)
    obtain ⟨A3, d3, rfl, _, _⟩ := own_slice hown3
    have HO := Lib.hid hown3
    clear hown3 hgrow3 hq0 hN0 hl1
    go_wp2_with fail
    go_ret
    exact ⟨⟨_, rfl, by simpa using HO.out⟩, hB0⟩
theorem own_grown {w w1 : World} (hb : Below w.heap.size w w1) : ∀ row, w.grownBy w1 row := fun _ => ⟨hb.os, hb.tape, hb.output, hb.size, fun k hk _ => hb.block k hk⟩
/-- the frame at 'found' -/
def FoundJ (X B n c : Nat) (A : Option Addr) (side p q m : Int) (zs : List Int) (w : World) (a : Act) (w' : World) : Prop :=
  ∃ (t : Nat) (u8 u9 u10 u11 u12 u13 u14 u15 u16 u17 u18 u19 u20 u21 u22 u23 u24 u25 u26 u27 u28 u29 u30 u31 u32 u33 u34 u35 u36 u37 u38 u39 u40 u41 u42 u43 u44 u45 u46 u47 u48 u49 u50 u51 u52 : Value), a = { tmps := #[.slice A n c, .agg #[.int .i64 p, .int .i64 q, .int .i64 m], .int .i64 side, undef, .pointer (some ⟨B, 0, none⟩), undef, .slice none 0 0, .int .i64 (t : Int), u8, u9, u10, u11, u12, u13, u14, u15, u16, u17, u18, u19, u20, u21, u22, u23, u24, u25, u26, u27, u28, u29, u30, u31, u32, u33, u34, u35, u36, u37, u38, u39, u40, u41, u42, u43, u44, u45, u46, u47, u48, u49, u50, u51, u52], defers := [] } ∧
    t < n ∧ PutAt side zs n p t ∧ num zs (t * 3) = p ∧ w'.heap[B]? = some (.cells #[.int .i64 p, .int .i64 q, .int .i64 m] 94 (0, 0)) ∧ w'.ownsRow X 94 3 (.slice A n c) n (nums zs) ∧ Below B w w'
/-- the levels with the one at a place replaced -/
def setL (zs : List Int) (i : Nat) (p q m : Int) : List Int := zs.take (i * 3) ++ [p, q, m] ++ zs.drop ((i + 1) * 3)
theorem setL_len {zs : List Int} {n i : Nat} (h : zs.length = n * 3) (hi : i < n) {p q m : Int} : (setL zs i p q m).length = n * 3 := by
  simp [setL, h]
  omega
theorem setL_lo {zs : List Int} {n i : Nat} (h : zs.length = n * 3) (hi : i < n) {p q m : Int} {j : Nat} (hj : j < i * 3) : num (setL zs i p q m) j = num zs j := by
  unfold setL
  rw [num_app_lo (by simp [h]; omega), num_app_lo (by simp [h]; omega), num_takeL hj]
theorem setL_at {zs : List Int} {n i : Nat} (h : zs.length = n * 3) (hi : i < n) {p q m : Int} {j : Nat} (hj : j < 3) : num (setL zs i p q m) (i * 3 + j) = num [p, q, m] j := by
  unfold setL
  rw [num_app_lo (by simp [h]; omega), num_app_hi (by simp [h]; omega), List.length_take, h, Nat.min_eq_left (by omega), Nat.add_sub_cancel_left]
theorem setL_hi {zs : List Int} {n i : Nat} (h : zs.length = n * 3) (hi : i < n) {p q m : Int} {j : Nat} (hj : i * 3 + 3 ≤ j) : num (setL zs i p q m) j = num zs j := by
  unfold setL
  rw [num_app_hi (by simp [h]; omega), num_dropL]
  congr 1
  simp [h]
  omega
set_option linter.unusedSimpArgs false in
set_option maxHeartbeats 3200000 in
set_option maxRecDepth 100000 in
theorem impl_updated (X n : Nat) (v : Value) (zs : List Int) (p q m side : Int) (w : World) (hown : w.ownsRow X 94 3 v n (nums zs)) (hX : X ≤ w.heap.size) (hn : n ≤ 1000) (ho : LvOrd side zs n) (hu : updI p q m = true) :
    Calls Try.prog 68 #[v, .agg #[.int .i64 p, .int .i64 q, .int .i64 m], .int .i64 side] w fun e w' => (∃ v' N, e = .returned v' ∧ (putL side zs n p q m).length = N * 3 ∧ w'.ownsRow X 94 3 v' N (nums (putL side zs n p q m))) ∧ w.grownBy w' v.ownBlock := by
  obtain ⟨i0, hi, hz0, hz1, hz2⟩ := info_parts lev_info
  obtain ⟨A, c, rfl, hnc, hcm⟩ := own_slice hown
  have hzl : zs.length = n * 3 := by rw [← nums_length]; exact hown.1
  have HUQ := Lib.hid (fun (h : m = 0) => updI_q hu h)
  clear hu
  go_enter Try.func68, Try.ntmps68
  go_wp2_with fail
  refine wp_scope_jumps (rest := ?rest) 0 (FoundJ X w.heap.size n c A side p q m zs w) (fun _ _ => 0) ?hf ?first ?pass
  case hf => simp only [findLabel]; exact rfl
  case first =>
    go_wp2_with fail
    go_step3
    go_wp2_with fail
    have hbox0 : (w.alloc (.cells #[.int .i64 p, .int .i64 q, .int .i64 m] 94)).heap[w.heap.size]? = some (.cells #[.int .i64 p, .int .i64 q, .int .i64 m] 94 (0, 0)) := heap_alloc_new w _
    have hB0 : Below w.heap.size w (w.alloc (.cells #[.int .i64 p, .int .i64 q, .int .i64 m] 94)) := (Below.refl _ _).alloc (Nat.le_refl _) _
    have hown0 := hown.alloc (.cells #[.int .i64 p, .int .i64 q, .int .i64 m] 94)
    generalize w.alloc (.cells #[.int .i64 p, .int .i64 q, .int .i64 m] 94) = w0 at *
    go_loopw [7] (fun i wr => ∃ t : Nat, t ≤ n ∧ i = .int .i64 (t : Int) ∧ (∀ j, j < t → ahdB side (num zs (j * 3)) p = true) ∧ Below w.heap.size w wr ∧ wr.heap[w.heap.size]? = some (.cells #[.int .i64 p, .int .i64 q, .int .i64 m] 94 (0, 0)) ∧ wr.ownsRow X 94 3 (.slice A n c) n (nums zs)) (fun i _ => n - (intOf i).toNat)
    case atStart => exact ⟨0, Nat.zero_le _, rfl, fun j hj => absurd hj (Nat.not_lt_zero j), hB0, hbox0, hown0⟩
    case round =>
      clear hbox0 hB0 hown0
      obtain ⟨t, htn, rfl, hlo, hbel, hbox, hownr⟩ := hrel
      have HLO := Lib.hid hlo
      clear hlo
      obtain ⟨x0, x1, x2⟩ := box3 hbox
      by_cases hlt : t < n
      · obtain ⟨g, cap, hg, _, _⟩ := hownr.form (by omega)
        injection hg with hg1 hg2 hg3
        subst hg1 hg3
        obtain ⟨hXg, _, _, F, hrow, hF⟩ := row_of_nums hownr
        have c0 := hrow.cell (i := t * 3) (by omega)
        rw [hF _ (by omega)] at c0
        have hgw := hrow.lt
        clear hrow hF
        by_cases hp : num zs (t * 3) = p
        · have HAT := Lib.hid (show PutAt side zs n p t from ⟨htn, HLO.out, fun _ => ahd_yes (.inl hp)⟩)
          have HPP := Lib.hid hp
          rw [hp] at c0
          clear hp
          go_upto_region 4 with fail
          go_region
          go_wp2_with fail
          go_step3
          refine (And.intro rfl ?_ : 0 = 0 ∧ FoundJ X w.heap.size n c (some ⟨g, 0, none⟩) side p q m zs w _ _)
          exact ⟨t, _, _, _, _, _, _, _, _, _, _, _, _, _, _, _, _, _, _, _, _, _, _, _, _, _, _, _, _, _, _, _, _, _, _, _, _, _, _, _, _, _, _, _, _, _, rfl, hlt, HAT.out, HPP.out, hbox, own_below hownr (Below.refl _ wr).drew, hbel.drew⟩
        · have tp : (num zs (t * 3) == p) = false := beq_eq_false_iff_ne.2 hp
          go_upto_region 4 with fail
          go_region
          go_upto_region 5 with fail
          replace hownr := own_below hownr (Below.refl _ wr).drew
          replace hbox : wr.drew.heap[w.heap.size]? = _ := hbox
          replace hbel := hbel.drew
          replace c0 : wr.drew.cell? ⟨g, t * 3, none⟩ = _ := c0
          replace hgw : g < wr.drew.heap.size := hgw
          clear x0 x1 x2 tp
          generalize wr.drew = wq at *
          obtain ⟨x0, x1, x2⟩ := box3 hbox
          have hbx := heap_ltA hbox
          rcases Bool.eq_false_or_eq_true (ahdB side p (num zs (t * 3))) with hA | hA
          · refine wp_region_held_drew (S := (fun w' => Below wq.heap.size wq w')) (by kernel_rfl) ?hSm1 (fun hHeld => ?restm1)
            case hSm1 => exact (Below.refl _ _).drew
            refine wpAnyH_take (i := 0) (oi := ?oim2) (v := ?vm2) ?him2 (by kernel_rfl) (by kernel_rfl) (by kernel_rfl) ?hQm2 (Or.inl ⟨?hwm2, ?hym2⟩) (by assumption) ?restm2
            case him2 => simp only [List.getElem?_toArray, List.getElem?_cons_succ, List.getElem?_cons_zero]; exact rfl
            case hQm2 => exact fun _ _ _ h => h
            case hwm2 => rfl
            case hym2 => ((intro w hSw; (try dsimp only at hSw); go_simp) <;> with_reducible rfl)
            try simp only [Act.put, List.setIfInBounds_toArray, List.set_cons_zero, List.set_cons_succ]
            refine wpAnyH_take (i := 1) (oi := ?oim3) (v := ?vm3) ?him3 (by kernel_rfl) (by kernel_rfl) (by kernel_rfl) ?hQm3 (Or.inl ⟨?hwm3, ?hym3⟩) (by assumption) ?restm3
            case him3 => simp only [List.getElem?_toArray, List.getElem?_cons_succ, List.getElem?_cons_zero]; exact rfl
            case hQm3 => exact fun _ _ _ h => h
            case hwm3 => rfl
            case hym3 => ((intro w hSw; (try dsimp only at hSw); go_simp) <;> with_reducible rfl)
            try simp only [Act.put, List.setIfInBounds_toArray, List.set_cons_zero, List.set_cons_succ]
            refine wpAnyH_take (i := 2) (oi := ?oim4) (v := ?vm4) ?him4 (by kernel_rfl) (by kernel_rfl) (by kernel_rfl) ?hQm4 (Or.inl ⟨?hwm4, ?hym4⟩) (by assumption) ?restm4
            case him4 => simp only [List.getElem?_toArray, List.getElem?_cons_succ, List.getElem?_cons_zero]; exact rfl
            case hQm4 => exact fun _ _ _ h => h
            case hwm4 => rfl
            case hym4 => ((intro wS hSw; have t0 := (hSw.cell (p := ⟨w.heap.size, 0, none⟩) hbx).trans x0; go_simp) <;> with_reducible rfl)
            try simp only [Act.put, List.setIfInBounds_toArray, List.set_cons_zero, List.set_cons_succ]
            refine wpAnyH_take (i := 3) (oi := ?oim5) (v := ?vm5) ?him5 (by kernel_rfl) (by kernel_rfl) (by kernel_rfl) ?hQm5 (Or.inl ⟨?hwm5, ?hym5⟩) (by assumption) ?restm5
            case him5 => simp only [List.getElem?_toArray, List.getElem?_cons_succ, List.getElem?_cons_zero]; exact rfl
            case hQm5 => exact fun _ _ _ h => h
            case hwm5 => rfl
            case hym5 => ((intro w hSw; (try dsimp only at hSw); go_simp) <;> with_reducible rfl)
            try simp only [Act.put, List.setIfInBounds_toArray, List.set_cons_zero, List.set_cons_succ]
            refine wpAnyH_take (i := 4) (oi := ?oim6) (v := ?vm6) ?him6 (by kernel_rfl) (by kernel_rfl) (by kernel_rfl) ?hQm6 (Or.inl ⟨?hwm6, ?hym6⟩) (by assumption) ?restm6
            case him6 => simp only [List.getElem?_toArray, List.getElem?_cons_succ, List.getElem?_cons_zero]; exact rfl
            case hQm6 => exact fun _ _ _ h => h
            case hwm6 => rfl
            case hym6 => ((intro w hSw; (try dsimp only at hSw); go_simp) <;> with_reducible rfl)
            try simp only [Act.put, List.setIfInBounds_toArray, List.set_cons_zero, List.set_cons_succ]
            refine wpAnyH_take (i := 5) (oi := ?oim7) (v := ?vm7) ?him7 (by kernel_rfl) (by kernel_rfl) (by kernel_rfl) ?hQm7 (Or.inl ⟨?hwm7, ?hym7⟩) (by assumption) ?restm7
            case him7 => simp only [List.getElem?_toArray, List.getElem?_cons_succ, List.getElem?_cons_zero]; exact rfl
            case hQm7 => exact fun _ _ _ h => h
            case hwm7 => rfl
            case hym7 => ((intro w hSw; (try dsimp only at hSw); go_simp) <;> with_reducible rfl)
            try simp only [Act.put, List.setIfInBounds_toArray, List.set_cons_zero, List.set_cons_succ]
            refine wpAnyH_take (i := 6) (oi := ?oim8) (v := ?vm8) ?him8 (by kernel_rfl) (by kernel_rfl) (by kernel_rfl) ?hQm8 (Or.inl ⟨?hwm8, ?hym8⟩) (by assumption) ?restm8
            case him8 => simp only [List.getElem?_toArray, List.getElem?_cons_succ, List.getElem?_cons_zero]; exact rfl
            case hQm8 => exact fun _ _ _ h => h
            case hwm8 => rfl
            case hym8 => ((intro w hSw; (try dsimp only at hSw); go_simp) <;> with_reducible rfl)
            try simp only [Act.put, List.setIfInBounds_toArray, List.set_cons_zero, List.set_cons_succ]
            refine wpAnyH_take (i := 7) (oi := ?oim9) (v := ?vm9) ?him9 (by kernel_rfl) (by kernel_rfl) (by kernel_rfl) ?hQm9 (Or.inl ⟨?hwm9, ?hym9⟩) (by assumption) ?restm9
            case him9 => simp only [List.getElem?_toArray, List.getElem?_cons_succ, List.getElem?_cons_zero]; exact rfl
            case hQm9 => exact fun _ _ _ h => h
            case hwm9 => rfl
            case hym9 => ((intro wS hSw; have t0 := (hSw.cell (p := ⟨g, t * 3, none⟩) hgw).trans c0; go_simp) <;> with_reducible rfl)
            try simp only [Act.put, List.setIfInBounds_toArray, List.set_cons_zero, List.set_cons_succ]
            refine wpAnyH_ready (rs := [8]) (by kernel_rfl) (by simp) ?_
            refine AllReadyH.cons (o := ?or10_8) ?hor10_8 (fun K hK => ?stepr10_8) (AllReadyH.nil)
            case hor10_8 => simp only [List.getElem?_toArray, List.getElem?_cons_succ, List.getElem?_cons_zero]; exact rfl
            case stepr10_8 =>
              go_simp
              refine (lev_better _ _ _ _).mono ?_
              rw [hA]
              rintro e v5 ⟨rfl, rfl⟩
              refine hK.out _ _ ?hSr10_8 (fun hHeld => ?restr10_8)
              case hSr10_8 => exact hHeld
              clear hK K
              try simp only [Act.put, List.setIfInBounds_toArray, List.set_cons_zero, List.set_cons_succ]
              refine wpAnyH_take (i := 9) (oi := ?oim11) (v := ?vm11) ?him11 (by kernel_rfl) (by kernel_rfl) (by kernel_rfl) ?hQm11 (Or.inl ⟨?hwm11, ?hym11⟩) (by assumption) ?restm11
              case him11 => simp only [List.getElem?_toArray, List.getElem?_cons_succ, List.getElem?_cons_zero]; exact rfl
              case hQm11 => exact fun _ _ _ h => h
              case hwm11 => rfl
              case hym11 => ((intro w hSw; (try dsimp only at hSw); go_simp) <;> with_reducible rfl)
              try simp only [Act.put, List.setIfInBounds_toArray, List.set_cons_zero, List.set_cons_succ]
              refine wpAnyH_done (by kernel_rfl) ?_ _
              replace hownr := own_below hownr hHeld
              replace hbox := (hHeld.block _ hbx).trans hbox
              replace hbel := hbel.trans (Below.mono hHeld hbel.size)
              clear hHeld x0 x1 x2 c0 hbx hgw
              generalize wq.drew = wz at *
              have HAT := Lib.hid (show PutAt side zs n p t from ⟨htn, HLO.out, fun _ => ahd_yes (.inr hA)⟩)
              have HE := Lib.hid (show putE zs n p t = 0 by unfold putE; rw [if_neg (fun e => hp e.2)])
              clear hA hp
              obtain ⟨x0, x1, x2⟩ := box3 hbox
              go_wp2_with fail
              refine (impl_isRemoval _ _ _ _).mono ?_
              by_cases hm : m = 0
              · have hq : (q == 0 && m == 0) = true := by
                  have h1 := HUQ.out hm
                  simp [h1, hm]
                have HP := Lib.hid (show putL side zs n p q m = zs by rw [put_at hzl ho HAT.out, if_pos hm, List.append_nil, show putE zs n p t = 0 from HE.out, Nat.add_zero, List.take_append_drop])
                rw [hq]
                rintro e w6 ⟨rfl, hb6⟩
                replace hownr := own_below hownr hb6
                replace hbel := hbel.trans (hb6.mono hbel.size)
                clear hq hb6 x0 x1 x2 hm
                have HO := Lib.hid hownr
                clear hownr hbox
                go_wp2_with fail
                refine jump_ret.mpr ?_
                go_ret
                exact ⟨⟨_, n, rfl, by rw [HP.out]; exact hzl, by rw [HP.out]; exact HO.out⟩, own_grown hbel _⟩
              · have hq : (q == 0 && m == 0) = false := by simp [hm]
                have HP := Lib.hid (show putL side zs n p q m = insL zs t p q m by rw [put_at hzl ho HAT.out, if_neg hm, show putE zs n p t = 0 from HE.out]; rfl)
                rw [hq]
                rintro e w6 ⟨rfl, hb6⟩
                replace hownr := own_below hownr hb6
                replace hbel := hbel.trans (hb6.mono hbel.size)
                replace hbox := (hb6.block _ (heap_ltA hbox)).trans hbox
                clear hq hb6 x0 x1 x2 hm
                obtain ⟨x0, x1, x2⟩ := box3 hbox
                have hbs := hbel.size
                have hlt6 : ∀ k, (Value.slice (some ⟨g, 0, none⟩) n c).ownBlock = some k → k < w6.heap.size := fun k hk => (hownr.lt k hk).2
                go_wp2_with fail
                clear x0 x1 x2
                refine (impl_InsertL X n t w6.heap.size p q m _ zs _ (hownr.alloc _) (by simp; omega) (by omega) (by omega) (heap_alloc_new w6 _) (fun e => by have := hlt6 _ e.symm; omega)).mono ?_
                rintro e w7 ⟨⟨v7, rfl, hown7⟩, hg7⟩
                have HO := Lib.hid hown7
                have HG := Lib.hid (((own_grown hbel (Value.slice (some ⟨g, 0, none⟩) n c).ownBlock).trans (World.grownBy_alloc w6 _ _)).trans hg7)
                clear hown7 hg7 hownr hbox hlt6
                go_wp2_with fail
                refine jump_ret.mpr ?_
                go_ret
                exact ⟨⟨_, n + 1, rfl, by rw [HP.out]; exact insL_len hzl (by omega) p q m, by rw [HP.out]; exact HO.out⟩, HG.out⟩
          · refine wp_region_held_drew (S := (fun w' => Below wq.heap.size wq w')) (by kernel_rfl) ?hSm12 (fun hHeld => ?restm12)
            case hSm12 => exact (Below.refl _ _).drew
            refine wpAnyH_take (i := 0) (oi := ?oim13) (v := ?vm13) ?him13 (by kernel_rfl) (by kernel_rfl) (by kernel_rfl) ?hQm13 (Or.inl ⟨?hwm13, ?hym13⟩) (by assumption) ?restm13
            case him13 => simp only [List.getElem?_toArray, List.getElem?_cons_succ, List.getElem?_cons_zero]; exact rfl
            case hQm13 => exact fun _ _ _ h => h
            case hwm13 => rfl
            case hym13 => ((intro w hSw; (try dsimp only at hSw); go_simp) <;> with_reducible rfl)
            try simp only [Act.put, List.setIfInBounds_toArray, List.set_cons_zero, List.set_cons_succ]
            refine wpAnyH_take (i := 1) (oi := ?oim14) (v := ?vm14) ?him14 (by kernel_rfl) (by kernel_rfl) (by kernel_rfl) ?hQm14 (Or.inl ⟨?hwm14, ?hym14⟩) (by assumption) ?restm14
            case him14 => simp only [List.getElem?_toArray, List.getElem?_cons_succ, List.getElem?_cons_zero]; exact rfl
            case hQm14 => exact fun _ _ _ h => h
            case hwm14 => rfl
            case hym14 => ((intro w hSw; (try dsimp only at hSw); go_simp) <;> with_reducible rfl)
            try simp only [Act.put, List.setIfInBounds_toArray, List.set_cons_zero, List.set_cons_succ]
            refine wpAnyH_take (i := 2) (oi := ?oim15) (v := ?vm15) ?him15 (by kernel_rfl) (by kernel_rfl) (by kernel_rfl) ?hQm15 (Or.inl ⟨?hwm15, ?hym15⟩) (by assumption) ?restm15
            case him15 => simp only [List.getElem?_toArray, List.getElem?_cons_succ, List.getElem?_cons_zero]; exact rfl
            case hQm15 => exact fun _ _ _ h => h
            case hwm15 => rfl
            case hym15 => ((intro wS hSw; have t0 := (hSw.cell (p := ⟨w.heap.size, 0, none⟩) hbx).trans x0; go_simp) <;> with_reducible rfl)
            try simp only [Act.put, List.setIfInBounds_toArray, List.set_cons_zero, List.set_cons_succ]
            refine wpAnyH_take (i := 3) (oi := ?oim16) (v := ?vm16) ?him16 (by kernel_rfl) (by kernel_rfl) (by kernel_rfl) ?hQm16 (Or.inl ⟨?hwm16, ?hym16⟩) (by assumption) ?restm16
            case him16 => simp only [List.getElem?_toArray, List.getElem?_cons_succ, List.getElem?_cons_zero]; exact rfl
            case hQm16 => exact fun _ _ _ h => h
            case hwm16 => rfl
            case hym16 => ((intro w hSw; (try dsimp only at hSw); go_simp) <;> with_reducible rfl)
            try simp only [Act.put, List.setIfInBounds_toArray, List.set_cons_zero, List.set_cons_succ]
            refine wpAnyH_take (i := 4) (oi := ?oim17) (v := ?vm17) ?him17 (by kernel_rfl) (by kernel_rfl) (by kernel_rfl) ?hQm17 (Or.inl ⟨?hwm17, ?hym17⟩) (by assumption) ?restm17
            case him17 => simp only [List.getElem?_toArray, List.getElem?_cons_succ, List.getElem?_cons_zero]; exact rfl
            case hQm17 => exact fun _ _ _ h => h
            case hwm17 => rfl
            case hym17 => ((intro w hSw; (try dsimp only at hSw); go_simp) <;> with_reducible rfl)
            try simp only [Act.put, List.setIfInBounds_toArray, List.set_cons_zero, List.set_cons_succ]
            refine wpAnyH_take (i := 5) (oi := ?oim18) (v := ?vm18) ?him18 (by kernel_rfl) (by kernel_rfl) (by kernel_rfl) ?hQm18 (Or.inl ⟨?hwm18, ?hym18⟩) (by assumption) ?restm18
            case him18 => simp only [List.getElem?_toArray, List.getElem?_cons_succ, List.getElem?_cons_zero]; exact rfl
            case hQm18 => exact fun _ _ _ h => h
            case hwm18 => rfl
            case hym18 => ((intro w hSw; (try dsimp only at hSw); go_simp) <;> with_reducible rfl)
            try simp only [Act.put, List.setIfInBounds_toArray, List.set_cons_zero, List.set_cons_succ]
            refine wpAnyH_take (i := 6) (oi := ?oim19) (v := ?vm19) ?him19 (by kernel_rfl) (by kernel_rfl) (by kernel_rfl) ?hQm19 (Or.inl ⟨?hwm19, ?hym19⟩) (by assumption) ?restm19
            case him19 => simp only [List.getElem?_toArray, List.getElem?_cons_succ, List.getElem?_cons_zero]; exact rfl
            case hQm19 => exact fun _ _ _ h => h
            case hwm19 => rfl
            case hym19 => ((intro w hSw; (try dsimp only at hSw); go_simp) <;> with_reducible rfl)
            try simp only [Act.put, List.setIfInBounds_toArray, List.set_cons_zero, List.set_cons_succ]
            refine wpAnyH_take (i := 7) (oi := ?oim20) (v := ?vm20) ?him20 (by kernel_rfl) (by kernel_rfl) (by kernel_rfl) ?hQm20 (Or.inl ⟨?hwm20, ?hym20⟩) (by assumption) ?restm20
            case him20 => simp only [List.getElem?_toArray, List.getElem?_cons_succ, List.getElem?_cons_zero]; exact rfl
            case hQm20 => exact fun _ _ _ h => h
            case hwm20 => rfl
            case hym20 => ((intro wS hSw; have t0 := (hSw.cell (p := ⟨g, t * 3, none⟩) hgw).trans c0; go_simp) <;> with_reducible rfl)
            try simp only [Act.put, List.setIfInBounds_toArray, List.set_cons_zero, List.set_cons_succ]
            refine wpAnyH_ready (rs := [8]) (by kernel_rfl) (by simp) ?_
            refine AllReadyH.cons (o := ?or21_8) ?hor21_8 (fun K hK => ?stepr21_8) (AllReadyH.nil)
            case hor21_8 => simp only [List.getElem?_toArray, List.getElem?_cons_succ, List.getElem?_cons_zero]; exact rfl
            case stepr21_8 =>
              go_simp
              refine (lev_better _ _ _ _).mono ?_
              rw [hA]
              rintro e v5 ⟨rfl, rfl⟩
              refine hK.out _ _ ?hSr21_8 (fun hHeld => ?restr21_8)
              case hSr21_8 => exact hHeld
              clear hK K
              try simp only [Act.put, List.setIfInBounds_toArray, List.set_cons_zero, List.set_cons_succ]
              refine wpAnyH_take (i := 9) (oi := ?oim22) (v := ?vm22) ?him22 (by kernel_rfl) (by kernel_rfl) (by kernel_rfl) ?hQm22 (Or.inl ⟨?hwm22, ?hym22⟩) (by assumption) ?restm22
              case him22 => simp only [List.getElem?_toArray, List.getElem?_cons_succ, List.getElem?_cons_zero]; exact rfl
              case hQm22 => exact fun _ _ _ h => h
              case hwm22 => rfl
              case hym22 => ((intro w hSw; (try dsimp only at hSw); go_simp) <;> with_reducible rfl)
              try simp only [Act.put, List.setIfInBounds_toArray, List.set_cons_zero, List.set_cons_succ]
              refine wpAnyH_done (by kernel_rfl) ?_ _
              replace hownr := own_below hownr hHeld
              replace hbox := (hHeld.block _ hbx).trans hbox
              replace hbel := hbel.trans (Below.mono hHeld hbel.size)
              clear hHeld x0 x1 x2 c0 hbx hgw
              generalize wq.drew = wz at *
              have HA := Lib.hid hA
              have HNP := Lib.hid hp
              clear hA hp
              have HO := Lib.hid hownr
              clear hownr
              have HL2 := Lib.hid (show ∀ j, j < t + 1 → ahdB side (num zs (j * 3)) p = true from fun j hj => by
                rcases Nat.lt_or_ge j t with a | a
                · exact HLO.out j a
                · obtain rfl : j = t := by omega
                  rcases Bool.eq_false_or_eq_true (ahdB side (num zs (j * 3)) p) with b | b
                  · exact b
                  · rcases ahd_not b with d | d
                    · exact absurd d HNP.out
                    · rw [HA.out] at d
                      cases d)
              go_wp2_with fail
              go_roundw
              case rel => exact ⟨t + 1, by omega, by go_num, HL2.out, hbel, hbox, HO.out⟩
              case measure => simp [intOf]; omega
      · obtain rfl : t = n := by omega
        have HAT := Lib.hid (show PutAt side zs t p t from ⟨Nat.le_refl _, HLO.out, fun h => absurd h (Nat.lt_irrefl _)⟩)
        have HE := Lib.hid (show putE zs t p t = 0 by unfold putE; rw [if_neg (fun e => Nat.lt_irrefl _ e.1)])
        clear x0 x1 x2
        obtain ⟨x0, x1, x2⟩ := box3 hbox
        go_wp2_with fail
        refine (impl_isRemoval _ _ _ _).mono ?_
        by_cases hm : m = 0
        · have hq : (q == 0 && m == 0) = true := by
            have h1 := HUQ.out hm
            simp [h1, hm]
          have HP := Lib.hid (show putL side zs t p q m = zs by rw [put_at hzl ho HAT.out, if_pos hm, List.append_nil, show putE zs t p t = 0 from HE.out, Nat.add_zero, List.take_append_drop])
          rw [hq]
          rintro e w6 ⟨rfl, hb6⟩
          replace hownr := own_below hownr hb6
          replace hbel := hbel.trans (hb6.mono hbel.size)
          clear hq hb6 x0 x1 x2 hm
          have HO := Lib.hid hownr
          clear hownr hbox
          go_wp2_with fail
          refine jump_ret.mpr ?_
          go_ret
          exact ⟨⟨_, t, rfl, by rw [HP.out]; exact hzl, by rw [HP.out]; exact HO.out⟩, own_grown hbel _⟩
        · have hq : (q == 0 && m == 0) = false := by simp [hm]
          have HP := Lib.hid (show putL side zs t p q m = insL zs t p q m by rw [put_at hzl ho HAT.out, if_neg hm, show putE zs t p t = 0 from HE.out]; rfl)
          rw [hq]
          rintro e w6 ⟨rfl, hb6⟩
          replace hownr := own_below hownr hb6
          replace hbel := hbel.trans (hb6.mono hbel.size)
          replace hbox := (hb6.block _ (heap_ltA hbox)).trans hbox
          clear hq hb6 x0 x1 x2 hm
          obtain ⟨x0, x1, x2⟩ := box3 hbox
          have hbs := hbel.size
          have hlt6 : ∀ k, (Value.slice A t c).ownBlock = some k → k < w6.heap.size := fun k hk => (hownr.lt k hk).2
          go_wp2_with fail
          clear x0 x1 x2
          refine (impl_InsertL X t t w6.heap.size p q m _ zs _ (hownr.alloc _) (by simp; omega) (by omega) (by omega) (heap_alloc_new w6 _) (fun e => by have := hlt6 _ e.symm; omega)).mono ?_
          rintro e w7 ⟨⟨v7, rfl, hown7⟩, hg7⟩
          have HO := Lib.hid hown7
          have HG := Lib.hid (((own_grown hbel (Value.slice A t c).ownBlock).trans (World.grownBy_alloc w6 _ _)).trans hg7)
          clear hown7 hg7 hownr hbox hlt6
          go_wp2_with fail
          refine jump_ret.mpr ?_
          go_ret
          exact ⟨⟨_, t + 1, rfl, by rw [HP.out]; exact insL_len hzl (by omega) p q m, by rw [HP.out]; exact HO.out⟩, HG.out⟩
  case pass =>
    intro a wj hJ
    obtain ⟨t, u8, u9, u10, u11, u12, u13, u14, u15, u16, u17, u18, u19, u20, u21, u22, u23, u24, u25, u26, u27, u28, u29, u30, u31, u32, u33, u34, u35, u36, u37, u38, u39, u40, u41, u42, u43, u44, u45, u46, u47, u48, u49, u50, u51, u52, rfl, hlt, hat, hp, hbox, hownr, hbel⟩ := hJ
    have HAT := Lib.hid hat
    have HE := Lib.hid (show putE zs n p t = 1 by unfold putE; rw [if_pos ⟨hlt, hp⟩])
    clear hat hp
    obtain ⟨x0, x1, x2⟩ := box3 hbox
    go_wp2_with fail
    refine (impl_isRemoval _ _ _ _).mono ?_
    by_cases hm : m = 0
    · have hq : (q == 0 && m == 0) = true := by
        have h1 := HUQ.out hm
        simp [h1, hm]
      obtain ⟨k, rfl⟩ : ∃ k, n = k + 1 := ⟨n - 1, by omega⟩
      have HP := Lib.hid (show putL side zs (k + 1) p q m = delL zs t by rw [put_at hzl ho HAT.out, if_pos hm, List.append_nil, HE.out]; rfl)
      rw [hq]
      rintro e w6 ⟨rfl, hb6⟩
      replace hownr := own_below hownr hb6
      replace hbel := hbel.trans (hb6.mono hbel.size)
      clear hq hb6 x0 x1 x2 hm hbox
      go_wp2_with fail
      refine (impl_DeleteL X k t _ zs _ hownr (by omega) (by omega)).mono ?_
      rintro e w7 ⟨⟨v7, rfl, hown7⟩, hg7⟩
      have HO := Lib.hid hown7
      have HG := Lib.hid ((own_grown hbel (Value.slice A (k + 1) c).ownBlock).trans hg7)
      clear hown7 hg7 hownr
      go_wp2_with fail
      refine jump_ret.mpr ?_
      go_ret
      exact ⟨⟨_, k, rfl, by rw [HP.out, delL_len hzl (by omega)]; rfl, by rw [HP.out]; exact HO.out⟩, HG.out⟩
    · have hq : (q == 0 && m == 0) = false := by simp [hm]
      have HP := Lib.hid (show putL side zs n p q m = setL zs t p q m by rw [put_at hzl ho HAT.out, if_neg hm, HE.out]; rfl)
      rw [hq]
      rintro e w6 ⟨rfl, hb6⟩
      replace hownr := own_below hownr hb6
      replace hbel := hbel.trans (hb6.mono hbel.size)
      replace hbox := (hb6.block _ (heap_ltA hbox)).trans hbox
      clear hq hb6 x0 x1 x2 hm
      obtain ⟨x0, x1, x2⟩ := box3 hbox
      obtain ⟨g, cap, hg, _, _⟩ := hownr.form (by omega)
      injection hg with hg1 hg2 hg3
      subst hg1 hg3
      obtain ⟨hXg, _, _, F, hrow, hF⟩ := row_of_nums hownr
      have c0 := hrow.cell (i := t * 3) (by omega)
      have c1 := hrow.cell (i := t * 3 + 1) (by omega)
      have c2 := hrow.cell (i := t * 3 + 2) (by omega)
      have z := hrow.frozen
      have HO := Lib.hid (own_of_rowN (X := X) (N := n) (zs := setL zs t p q m) (((hrow.set (t * 3) (.int .i64 p)).set (t * 3 + 1) (.int .i64 q)).set (t * 3 + 2) (.int .i64 m)) hXg (by omega) hcm (by rw [setL_len hzl hlt]) (fun x hx => by
        rcases (show x < t * 3 ∨ x = t * 3 ∨ x = t * 3 + 1 ∨ x = t * 3 + 2 ∨ t * 3 + 3 ≤ x by omega) with h1 | rfl | rfl | rfl | h1
        · rw [setL_lo hzl hlt h1, if_neg (by omega), if_neg (by omega), if_neg (by omega), hF x hx]
        · rw [show num (setL zs t p q m) (t * 3) = p from setL_at hzl hlt (j := 0) (by omega), if_neg (by omega), if_neg (by omega), if_pos rfl]
        · rw [show num (setL zs t p q m) (t * 3 + 1) = q from setL_at hzl hlt (j := 1) (by omega), if_neg (by omega), if_pos rfl]
        · rw [show num (setL zs t p q m) (t * 3 + 2) = m from setL_at hzl hlt (j := 2) (by omega), if_pos rfl]
        · rw [setL_hi hzl hlt h1, if_neg (by omega), if_neg (by omega), if_neg (by omega), hF x hx]))
      have HG := Lib.hid ((((own_grown hbel (some g)).trans (setN_grown w6 g (t * 3) (.int .i64 p))).trans (setN_grown _ g (t * 3 + 1) (.int .i64 q))).trans (setN_grown _ g (t * 3 + 2) (.int .i64 m)))
      clear hrow hF hownr hbox
      go_wp2_with fail
      refine jump_ret.mpr ?_
      go_ret
      exact ⟨⟨_, n, rfl, by rw [HP.out, setL_len hzl hlt], by rw [HP.out]; exact HO.out⟩, HG.out⟩
end Go.Proofs.Ytfodkefaflpicaa

namespace Go.Proofs.Ytfodkefaflpicaa
open Go.RowKit Wire

set_option linter.unusedSimpArgs false in
set_option maxHeartbeats 3200000 in
set_option maxRecDepth 100000 in
theorem impl_DepthApplied (A : Option Addr) (n c : Nat) (za : List Int) (B : Option Addr) (m d : Nat) (zd : List Int) (side : Int) (w : World) (hl : Lst w w.heap.size 3 A n za) (hA : A = none → n = 0 ∧ c = 0) (hn : n ≤ 1048576) (hr : Lst w w.heap.size 3 B m zd) (hm : m ≤ 1048576) :
    Calls Try.prog 21 #[.slice A n c, .slice B m d, .int .i64 side] w fun e w' => (∃ v N, e = .returned (.tuple #[v, .bool (aplB side za n zd m)]) ∧ (aplZ side za n zd m).length = N * 3 ∧ w'.ownsRow w.heap.size 94 3 v N (nums (aplZ side za n zd m))) ∧ Below w.heap.size w w' := by
  rcases Bool.eq_false_or_eq_true (lvsB side za n) with h1 | h1
  rotate_left
  · have HN := Lib.hid (show aplB side za n zd m = false by simp [aplB, h1])
    have HZ := Lib.hid (show aplZ side za n zd m = [] by simp [aplZ, HN.out])
    go_enter Try.func21, Try.ntmps21
    go_wp2_with fail
    refine (impl_LevelsOk A n c za side _ hl hn).mono ?_
    rw [h1]
    rintro e w1 ⟨rfl, hb1⟩
    have HB := Lib.hid hb1
    clear h1 hl hr
    go_wp2_with fail
    refine bodyPost_ret (v := .tuple #[.slice none 0 0, .bool false]) (by simp [results, Try.results21, go_sem]) rfl ⟨⟨_, 0, by rw [HN.out], by rw [HZ.out]; rfl, ?_⟩, HB.out⟩
    rw [HZ.out]
    exact World.ownsRow_nil _ _ _ _
  have ho : LvOrd side za n := LvOrd.of_lvTo (by simp [lvsB] at h1; exact h1.2.2)
  have hz := hl.1
  have HAP := Lib.hid (fun k => apl_ok (zd := zd) hz ho k)
  clear ho hz
  have hn40 : n ≤ 40 := by simp [lvsB] at h1; exact h1.2.1
  have HL1 := Lib.hid h1
  rcases Bool.eq_false_or_eq_true (decide (m ≤ 80) && updTo zd m) with hu | hu
  rotate_left
  · have HN := Lib.hid (show aplB side za n zd m = false by unfold aplB; rw [← Bool.and_assoc (decide (m ≤ 80)), hu]; simp)
    have HZ := Lib.hid (show aplZ side za n zd m = [] by simp [aplZ, HN.out])
    go_enter Try.func21, Try.ntmps21
    go_wp2_with fail
    refine (impl_LevelsOk A n c za side _ hl hn).mono ?_
    rw [h1]
    rintro e w1 ⟨rfl, hb1⟩
    go_wp2_with fail
    refine (impl_updatesOk B m d zd _ (hr.later hb1) hm).mono ?_
    rw [hu]
    rintro e w2 ⟨rfl, hb2⟩
    have HB := Lib.hid (below_later hb1 hb2)
    clear h1 hu hl hr hb1 hb2
    go_wp2_with fail
    refine bodyPost_ret (v := .tuple #[.slice none 0 0, .bool false]) (by simp [results, Try.results21, go_sem]) rfl ⟨⟨_, 0, by rw [HN.out], by rw [HZ.out]; rfl, ?_⟩, HB.out⟩
    rw [HZ.out]
    exact World.ownsRow_nil _ _ _ _
  have hm80 : m ≤ 80 := by simp at hu; exact hu.1
  have HU := Lib.hid (show updTo zd m = true by simp at hu; exact hu.2)
  go_enter Try.func21, Try.ntmps21
  go_wp2_with fail
  refine (impl_LevelsOk A n c za side _ hl hn).mono ?_
  rw [h1]
  rintro e w1 ⟨rfl, hb1⟩
  go_wp2_with fail
  refine (impl_updatesOk B m d zd _ (hr.later hb1) hm).mono ?_
  rw [hu]
  rintro e w2 ⟨rfl, hb2⟩
  have hB := below_later hb1 hb2
  clear h1 hu hb1 hb2
  go_wp2_with fail
  refine (lev_Clone A n c za _ ((hl.below hB).more hB.size) hA hn).mono ?_
  rintro e w3 ⟨⟨v3, rfl, hown3⟩, hb3⟩
  have hO := delt_mono (base' := w.heap.size) hown3 hB.size
  replace hB := below_later hB hb3
  have HO := Lib.hid hO
  obtain ⟨A3, d3, rfl, _, _⟩ := own_slice hO
  clear hown3 hb3 hO
  go_wp2_with fail
  go_loopw [8, 24] (fun r i wr => ∃ k N : Nat, k ≤ m ∧ N ≤ n + k ∧ i = .int .i64 (k : Int) ∧ (aplL side za zd k).length = N * 3 ∧ wr.ownsRow w.heap.size 94 3 r N (nums (aplL side za zd k)) ∧ Below w.heap.size w wr) (fun _ i _ => m - (intOf i).toNat)
  case atStart => exact ⟨0, n, Nat.zero_le _, by omega, rfl, hl.1, HO.out, hB⟩
  case round =>
    clear HO hB hl
    obtain ⟨k, N, hk, hNk, rfl, hlen, hown, hbel⟩ := hrel
    have HLN := Lib.hid hlen
    clear hlen
    have hN1 : N ≤ 1048576 := by omega
    by_cases hlt : k < m
    · obtain ⟨b, o, rfl, hb, c0, c1, c2⟩ := (hr.below hbel).row3 hlt
      have hbw := Nat.lt_of_lt_of_le hb hbel.size
      have HAN := Lib.hid (show aplL side za zd (k + 1) = putL side (aplL side za zd k) N (num zd (k * 3)) (num zd (k * 3 + 1)) (num zd (k * 3 + 2)) by rw [aplL, apl_cnt HLN.out])
      have HUK := Lib.hid (updTo_at m k HU.out hlt)
      have HOR := Lib.hid (show LvOrd side (aplL side za zd k) N by have := (HAP.out k).2; rwa [apl_cnt HLN.out] at this)
      clear hr
      have hbs := hbel.size
      have hov := hown.lt
      go_wp2_with fail
      refine (impl_updated w.heap.size N _ (aplL side za zd k) (num zd (k * 3)) (num zd (k * 3 + 1)) (num zd (k * 3 + 2)) side _ (own_below hown ?hbx) ?hsz (by omega) HOR.out HUK.out).mono ?_
      case hbx => ((((try dsimp only); repeat' apply And.intro) <;> (first | assumption | (refine below_later ?_ (by assumption); first | assumption | (simp only [*]; done) | (go_grown; done)) | (refine cell_later (by assumption) ?_; first | assumption | (simp only [*]; done) | (simp [go_sem]; done)) | (go_grown; done) | (simp [go_sem]; done))))
      case hsz => simp [World.setCell]; omega
      rw [← HAN.out]
      rintro e w6 ⟨⟨v6, N6, rfl, hlen6, hown6⟩, hg6⟩
      have HL6 := Lib.hid hlen6
      have HO6 := Lib.hid hown6
      replace hbel := (hbel.alloc hbs _).grown hg6 (by simp; omega) (fun q hq => (hov q hq).1)
      obtain ⟨A6, d6, rfl, _, _⟩ := own_slice hown6
      clear hlen6 hown6 hg6 hown c0 c1 c2 hov
      go_wp2_with fail
      go_roundw
      case rel => exact ⟨k + 1, N6, by omega, by
          obtain ⟨⟨N', e1, e2⟩, _⟩ := HAP.out (k + 1)
          have := HL6.out
          omega, by go_num, HL6.out, HO6.out, hbel⟩
      case measure => simp [intOf]; omega
    · obtain rfl : k = m := by omega
      clear hr
      obtain ⟨A2, d2, rfl, _, _⟩ := own_slice hown
      rcases Bool.eq_false_or_eq_true (lvsB side (aplL side za zd k) N) with hf | hf
      · have HN := Lib.hid (show aplB side za n zd k = true by simp [aplB, HL1.out, HU.out, apl_cnt HLN.out, hf]; omega)
        have HZ := Lib.hid (show aplZ side za n zd k = aplL side za zd k by simp [aplZ, HN.out])
        go_wp2_with fail
        refine (impl_LevelsOk A2 N d2 (aplL side za zd k) side _ (Lst.of_own hown) hN1).mono ?_
        rw [hf]
        rintro e w6 ⟨rfl, hb6⟩
        have HO6 := Lib.hid (own_below hown hb6)
        replace hbel := hbel.trans (hb6.mono hbel.size)
        clear hf hb6 hown
        go_wp2_with fail
        refine bodyPost_ret (v := .tuple #[.slice A2 N d2, .bool true]) (by simp [results, Try.results21, go_sem]) rfl ⟨⟨_, N, by rw [HN.out], by rw [HZ.out]; exact HLN.out, ?_⟩, hbel⟩
        rw [HZ.out]
        exact HO6.out
      · have HN := Lib.hid (show aplB side za n zd k = false by simp [aplB, HU.out, apl_cnt HLN.out, hf])
        have HZ := Lib.hid (show aplZ side za n zd k = [] by simp [aplZ, HN.out])
        go_wp2_with fail
        refine (impl_LevelsOk A2 N d2 (aplL side za zd k) side _ (Lst.of_own hown) hN1).mono ?_
        rw [hf]
        rintro e w6 ⟨rfl, hb6⟩
        have HB := Lib.hid (hbel.trans (hb6.mono hbel.size))
        clear hf hb6 hown hbel
        go_wp2_with fail
        refine bodyPost_ret (v := .tuple #[.slice none 0 0, .bool false]) (by simp [results, Try.results21, go_sem]) rfl ⟨⟨_, 0, by rw [HN.out], by rw [HZ.out]; rfl, ?_⟩, HB.out⟩
        rw [HZ.out]
        exact World.ownsRow_nil _ _ _ _
end Go.Proofs.Ytfodkefaflpicaa
