/-
  Updates applied to levels: the document's.
-/
import Derived.Test.YtfodkefaflpicaaAplP
import Derived.Test.YtfodkefaflpicaaRowN
import Derived.Deep.QuietTactic
namespace Go.Proofs.Ytfodkefaflpicaa
open Go.RowKit Wire

theorem heap_alloc_lt (w : World) (o : Obj) {k : Nat} (h : k < w.heap.size) : (w.alloc o).heap[k]? = w.heap[k]? := by
  rw [show (w.alloc o).heap = w.heap.push o from rfl, Array.getElem?_push, if_neg (by omega)]
theorem heap_ltA {w : World} {g : Nat} {o : Obj} (h : w.heap[g]? = some o) : g < w.heap.size := (Array.getElem?_eq_some_iff.1 h).1
theorem box3 {w : World} {g : Nat} {a b c : Value} {t : TypeId} (h : w.heap[g]? = some (.cells #[a, b, c] t (0, 0))) : w.cell? ⟨g, 0, none⟩ = some a ∧ w.cell? ⟨g, 1, none⟩ = some b ∧ w.cell? ⟨g, 2, none⟩ = some c := by
  simp [World.cell?, h]
theorem putZ_few {side p q m : Int} {zs : List Int} : ∀ k, putD side zs p m k = false → (putZ side zs p q m k).length ≤ k * 3
  | 0, _ => by simp [putZ]
  | k + 1, h => by
    simp only [putD, Bool.or_eq_false_iff] at h
    have := putZ_few (q := q) k h.1
    rw [putZ, h.1, h.2, List.length_append, List.length_append]
    by_cases hp : num zs (k * 3) = p
    · rw [if_pos hp]; simp; omega
    · rw [if_neg hp]; simp; omega
set_option linter.unusedSimpArgs false in
set_option maxHeartbeats 3200000 in
set_option maxRecDepth 100000 in
theorem spec_l10Put (A : Option Addr) (n c : Nat) (zs : List Int) (p q m side : Int) (w : World) (hl : Lst w w.heap.size 3 A n zs) (hn : n ≤ 1048576) :
    Calls Try.prog 71 #[.slice A n c, .agg #[.int .i64 p, .int .i64 q, .int .i64 m], .int .i64 side] w fun e w' => (∃ v N, e = .returned v ∧ (putL side zs n p q m).length = N * 3 ∧ w'.ownsRow w.heap.size 94 3 v N (nums (putL side zs n p q m))) ∧ Below w.heap.size w w' := by
  obtain ⟨i0, hi, hz0, hz1, hz2⟩ := info_parts lev_info
  go_enter Try.func71, Try.ntmps71
  go_upto_region 2 with fail
  have hB0 : Below w.heap.size w ((w.alloc (.cells #[.int .i64 p, .int .i64 q, .int .i64 m] 94)).alloc (.cells #[] 94)) := ((Below.refl _ _).alloc (Nat.le_refl _) _).alloc (by simp) _
  have hbox0 : ((w.alloc (.cells #[.int .i64 p, .int .i64 q, .int .i64 m] 94)).alloc (.cells #[] 94)).heap[w.heap.size]? = some (.cells #[.int .i64 p, .int .i64 q, .int .i64 m] 94 (0, 0)) := (two_blocks w _ _).1
  have hq0 : ((w.alloc (.cells #[.int .i64 p, .int .i64 q, .int .i64 m] 94)).alloc (.cells #[] 94)).ownsRow (w.heap.size + 1) 94 3 (.slice (some ⟨w.heap.size + 1, 0, none⟩) 0 0) 0 [] := by
    have := delt_empty (w.alloc (.cells #[.int .i64 p, .int .i64 q, .int .i64 m] 94)) 94 3
    simpa using this
  generalize (w.alloc (.cells #[.int .i64 p, .int .i64 q, .int .i64 m] 94)).alloc (.cells #[] 94) = w3 at *
  obtain ⟨x0, x1, x2⟩ := box3 hbox0
  go_wp2_with fail
  clear x0 x1 x2
  go_loopw [7, 8, 9] (fun r d i wr => ∃ k N : Nat, k ≤ n ∧ N ≤ k + 1 ∧ i = .int .i64 (k : Int) ∧ d = .bool (putD side zs p m k) ∧ (putZ side zs p q m k).length = N * 3 ∧ wr.ownsRow (w.heap.size + 1) 94 3 r N (nums (putZ side zs p q m k)) ∧ Below w.heap.size w wr ∧ wr.heap[w.heap.size]? = some (.cells #[.int .i64 p, .int .i64 q, .int .i64 m] 94 (0, 0))) (fun _ _ i _ => n - (intOf i).toNat)
  case atStart => exact ⟨0, 0, Nat.zero_le _, by omega, rfl, by simp [putD], rfl, hq0, hB0, hbox0⟩
  case round =>
    clear hq0 hB0 hbox0
    obtain ⟨k, N, hk, hNk, rfl, rfl, hlen, hown, hbel, hbox⟩ := hrel
    obtain ⟨A2, d2, rfl, _, _⟩ := own_slice hown
    have hbs := hbel.size
    have hbx := heap_ltA hbox
    obtain ⟨x0, x1, x2⟩ := box3 hbox
    by_cases hlt : k < n
    · obtain ⟨b, o, rfl, hb, C0, C1, C2⟩ := hl.row3 hlt
      have c0 := (hbel.cell (p := ⟨b, o + k * 3, none⟩) hb).trans C0
      have c1 := (hbel.cell (p := ⟨b, o + k * 3 + 1, none⟩) hb).trans C1
      have c2 := (hbel.cell (p := ⟨b, o + k * 3 + 2, none⟩) hb).trans C2
      replace C0 := Lib.hid C0
      replace C1 := Lib.hid C1
      replace C2 := Lib.hid C2
      have hbw := Nat.lt_of_lt_of_le hb hbs
      have HG := Lib.hid (show putZ side zs p q m (k + 1) = (putZ side zs p q m k ++ if (!putD side zs p m k && !ahdB side (num zs (k * 3)) p) = true then [p, q, m] else []) ++ if num zs (k * 3) = p then [] else [num zs (k * 3), num zs (k * 3 + 1), num zs (k * 3 + 2)] from rfl)
      have HDN := Lib.hid (show putD side zs p m (k + 1) = (putD side zs p m k || !ahdB side (num zs (k * 3)) p) from rfl)
      have HLN := Lib.hid hlen
      clear hlen hl
      rcases Bool.eq_false_or_eq_true (putD side zs p m k) with hD | hD
      · have HD := Lib.hid hD
        rw [hD]
        clear hD
        go_upto_region 6 with fail
        refine wp_region_held_drew (S := (fun w' => Below wr.heap.size wr w')) (by kernel_rfl) ?hSm1 (fun hHeld => ?restm1)
        case hSm1 => exact (Below.refl _ _).drew
        refine wpAnyH_take (i := 0) (oi := ?oim2) (v := ?vm2) ?him2 (by kernel_rfl) (by kernel_rfl) (by kernel_rfl) ?hQm2 (Or.inl ⟨?hwm2, ?hym2⟩) (by assumption) ?restm2
        case him2 => simp only [List.getElem?_toArray, List.getElem?_cons_succ, List.getElem?_cons_zero]; exact rfl
        case hQm2 => exact fun _ _ _ h => h
        case hwm2 => rfl
        case hym2 => ((intro w hSw; (try dsimp only at hSw); go_simp) <;> with_reducible rfl)
        try simp only [Act.put, List.setIfInBounds_toArray, List.set_cons_zero, List.set_cons_succ]
        refine wpAnyH_take (i := 1) (oi := ?oim3) (v := ?vm3) ?him3 (by kernel_rfl) (by kernel_rfl) (by kernel_rfl) ?hQm3 (Or.inl ⟨?hwm3, ?hym3⟩) (by assumption) ?restm3
        case him3 => simp only [List.getElem?_toArray, List.getElem?_cons_succ, List.getElem?_cons_zero]; exact rfl
        case hQm3 => exact fun _ _ _ h => h
        case hwm3 => rfl
        case hym3 => ((intro w hSw; (try dsimp only at hSw); go_simp) <;> with_reducible rfl)
        try simp only [Act.put, List.setIfInBounds_toArray, List.set_cons_zero, List.set_cons_succ]
        refine wpAnyH_take (i := 2) (oi := ?oim4) (v := ?vm4) ?him4 (by kernel_rfl) (by kernel_rfl) (by kernel_rfl) ?hQm4 (Or.inl ⟨?hwm4, ?hym4⟩) (by assumption) ?restm4
        case him4 => simp only [List.getElem?_toArray, List.getElem?_cons_succ, List.getElem?_cons_zero]; exact rfl
        case hQm4 => exact fun _ _ _ h => h
        case hwm4 => rfl
        case hym4 => ((intro w hSw; (try dsimp only at hSw); go_simp) <;> with_reducible rfl)
        try simp only [Act.put, List.setIfInBounds_toArray, List.set_cons_zero, List.set_cons_succ]
        refine wpAnyH_take (i := 3) (oi := ?oim5) (v := _) ?him5 (by kernel_rfl) (by kernel_rfl) (by kernel_rfl) ?hQm5 (Or.inr ⟨?hwm5, rfl⟩) (by assumption) ?restm5
        case him5 => simp only [List.getElem?_toArray, List.getElem?_cons_succ, List.getElem?_cons_zero]; exact rfl
        case hQm5 => exact fun _ _ _ h => h
        case hwm5 => rfl
        try simp only [Act.put, List.setIfInBounds_toArray, List.set_cons_zero, List.set_cons_succ]
        refine wpAnyH_take (i := 4) (oi := ?oim6) (v := _) ?him6 (by kernel_rfl) (by kernel_rfl) (by kernel_rfl) ?hQm6 (Or.inr ⟨?hwm6, rfl⟩) (by assumption) ?restm6
        case him6 => simp only [List.getElem?_toArray, List.getElem?_cons_succ, List.getElem?_cons_zero]; exact rfl
        case hQm6 => exact fun _ _ _ h => h
        case hwm6 => rfl
        try simp only [Act.put, List.setIfInBounds_toArray, List.set_cons_zero, List.set_cons_succ]
        refine wpAnyH_take (i := 5) (oi := ?oim7) (v := _) ?him7 (by kernel_rfl) (by kernel_rfl) (by kernel_rfl) ?hQm7 (Or.inr ⟨?hwm7, rfl⟩) (by assumption) ?restm7
        case him7 => simp only [List.getElem?_toArray, List.getElem?_cons_succ, List.getElem?_cons_zero]; exact rfl
        case hQm7 => exact fun _ _ _ h => h
        case hwm7 => rfl
        try simp only [Act.put, List.setIfInBounds_toArray, List.set_cons_zero, List.set_cons_succ]
        refine wpAnyH_take (i := 6) (oi := ?oim8) (v := _) ?him8 (by kernel_rfl) (by kernel_rfl) (by kernel_rfl) ?hQm8 (Or.inr ⟨?hwm8, rfl⟩) (by assumption) ?restm8
        case him8 => simp only [List.getElem?_toArray, List.getElem?_cons_succ, List.getElem?_cons_zero]; exact rfl
        case hQm8 => exact fun _ _ _ h => h
        case hwm8 => rfl
        try simp only [Act.put, List.setIfInBounds_toArray, List.set_cons_zero, List.set_cons_succ]
        refine wpAnyH_take (i := 7) (oi := ?oim9) (v := _) ?him9 (by kernel_rfl) (by kernel_rfl) (by kernel_rfl) ?hQm9 (Or.inr ⟨?hwm9, rfl⟩) (by assumption) ?restm9
        case him9 => simp only [List.getElem?_toArray, List.getElem?_cons_succ, List.getElem?_cons_zero]; exact rfl
        case hQm9 => exact fun _ _ _ h => h
        case hwm9 => rfl
        try simp only [Act.put, List.setIfInBounds_toArray, List.set_cons_zero, List.set_cons_succ]
        refine wpAnyH_take (i := 8) (oi := ?oim10) (v := _) ?him10 (by kernel_rfl) (by kernel_rfl) (by kernel_rfl) ?hQm10 (Or.inr ⟨?hwm10, rfl⟩) (by assumption) ?restm10
        case him10 => simp only [List.getElem?_toArray, List.getElem?_cons_succ, List.getElem?_cons_zero]; exact rfl
        case hQm10 => exact fun _ _ _ h => h
        case hwm10 => rfl
        try simp only [Act.put, List.setIfInBounds_toArray, List.set_cons_zero, List.set_cons_succ]
        refine wpAnyH_take (i := 9) (oi := ?oim11) (v := _) ?him11 (by kernel_rfl) (by kernel_rfl) (by kernel_rfl) ?hQm11 (Or.inr ⟨?hwm11, rfl⟩) (by assumption) ?restm11
        case him11 => simp only [List.getElem?_toArray, List.getElem?_cons_succ, List.getElem?_cons_zero]; exact rfl
        case hQm11 => exact fun _ _ _ h => h
        case hwm11 => rfl
        try simp only [Act.put, List.setIfInBounds_toArray, List.set_cons_zero, List.set_cons_succ]
        refine wpAnyH_take (i := 10) (oi := ?oim12) (v := _) ?him12 (by kernel_rfl) (by kernel_rfl) (by kernel_rfl) ?hQm12 (Or.inr ⟨?hwm12, rfl⟩) (by assumption) ?restm12
        case him12 => simp only [List.getElem?_toArray, List.getElem?_cons_succ, List.getElem?_cons_zero]; exact rfl
        case hQm12 => exact fun _ _ _ h => h
        case hwm12 => rfl
        try simp only [Act.put, List.setIfInBounds_toArray, List.set_cons_zero, List.set_cons_succ]
        refine wpAnyH_ready (rs := [11]) (by kernel_rfl) (by simp) ?_
        refine AllReadyH.cons (o := ?or13_11) ?hor13_11 (fun K hK => ?stepr13_11) (AllReadyH.nil)
        case hor13_11 => simp only [List.getElem?_toArray, List.getElem?_cons_succ, List.getElem?_cons_zero]; exact rfl
        case stepr13_11 =>
          go_simp
          refine hK.out _ _ ?hSr13_11 (fun hHeld => ?restr13_11)
          case hSr13_11 => exact hHeld
          clear hK K
          try simp only [Act.put, List.setIfInBounds_toArray, List.set_cons_zero, List.set_cons_succ]
          refine wpAnyH_take (i := 12) (oi := ?oim14) (v := _) ?him14 (by kernel_rfl) (by kernel_rfl) (by kernel_rfl) ?hQm14 (Or.inr ⟨?hwm14, rfl⟩) (by assumption) ?restm14
          case him14 => simp only [List.getElem?_toArray, List.getElem?_cons_succ, List.getElem?_cons_zero]; exact rfl
          case hQm14 => exact fun _ _ _ h => h
          case hwm14 => rfl
          try simp only [Act.put, List.setIfInBounds_toArray, List.set_cons_zero, List.set_cons_succ]
          refine wpAnyH_take (i := 13) (oi := ?oim15) (v := ?vm15) ?him15 (by kernel_rfl) (by kernel_rfl) (by kernel_rfl) ?hQm15 (Or.inl ⟨?hwm15, ?hym15⟩) (by assumption) ?restm15
          case him15 => simp only [List.getElem?_toArray, List.getElem?_cons_succ, List.getElem?_cons_zero]; exact rfl
          case hQm15 => exact fun _ _ _ h => h
          case hwm15 => rfl
          case hym15 => ((intro w hSw; (try dsimp only at hSw); go_simp) <;> with_reducible rfl)
          try simp only [Act.put, List.setIfInBounds_toArray, List.set_cons_zero, List.set_cons_succ]
          refine wpAnyH_done (by kernel_rfl) ?_ _
          replace hown := own_below hown hHeld
          replace hbox := (hHeld.block _ hbx).trans hbox
          replace hbel := hbel.trans (Below.mono hHeld hbs)
          clear x0 x1 x2 c0 c1 c2 hHeld
          generalize wr.drew = wq at *
          replace hbs := hbel.size
          replace hbx := heap_ltA hbox
          replace hbw := Nat.lt_of_lt_of_le hb hbs
          obtain ⟨x0, x1, x2⟩ := box3 hbox
          have c0 := (hbel.cell (p := ⟨b, o + k * 3, none⟩) hb).trans C0.out
          have c1 := (hbel.cell (p := ⟨b, o + k * 3 + 1, none⟩) hb).trans C1.out
          have c2 := (hbel.cell (p := ⟨b, o + k * 3 + 2, none⟩) hb).trans C2.out
          by_cases hp : num zs (k * 3) = p
          · have HE := Lib.hid (show putZ side zs p q m (k + 1) = putZ side zs p q m k by rw [HG.out, HD.out, if_pos (show num zs (k * 3) = p from hp)]; simp)
            rw [hp] at c0
            clear hp
            go_upto_region 9 with fail
            go_region
            replace hown := own_below hown (Below.refl _ wq).drew
            replace hbox : wq.drew.heap[w.heap.size]? = _ := hbox
            replace hbel := hbel.drew
            have HO := Lib.hid hown
            go_wp2_with fail
            go_roundw
            case rel => exact ⟨k + 1, N, by omega, by omega, by go_num, by rw [HDN.out, HD.out]; rfl, by rw [HE.out]; exact HLN.out, by rw [HE.out]; exact HO.out, hbel, hbox⟩
            case measure => simp [intOf]; omega
          · have HE := Lib.hid (show putZ side zs p q m (k + 1) = putZ side zs p q m k ++ [num zs (k * 3), num zs (k * 3 + 1), num zs (k * 3 + 2)] by rw [HG.out, HD.out, if_neg (show ¬ num zs (k * 3) = p from hp)]; simp)
            have tp : (num zs (k * 3) != p) = true := by simpa using hp
            clear hp
            go_upto_region 9 with fail
            go_region
            replace hown := own_below hown (Below.refl _ wq).drew
            replace hbox : wq.drew.heap[w.heap.size]? = _ := hbox
            replace hbel := hbel.drew
            replace c0 : wq.drew.cell? ⟨b, o + k * 3, none⟩ = _ := c0
            replace c1 : wq.drew.cell? ⟨b, o + k * 3 + 1, none⟩ = _ := c1
            replace c2 : wq.drew.cell? ⟨b, o + k * 3 + 2, none⟩ = _ := c2
            replace hbs := hbel.size
            replace hbx := heap_ltA hbox
            replace hbw := Nat.lt_of_lt_of_le hb hbs
            clear x0 x1 x2 tp
            generalize wq.drew = wz at *
            have hov := hown.lt
            go_wp2_with (at_builtin; refine wpList_append_own_at _ rfl _ _ 40 rfl (w.heap.size + 1) 94 i0 _ 3 24 Try.underlying40 hi hz0 hz1 hz2 rfl (by decide) _ _ _ rfl (hown.alloc _) ⟨wz.heap.size, 0, none⟩ 1 1 [.int .i64 (num zs (k * 3)), .int .i64 (num zs (k * 3 + 1)), .int .i64 (num zs (k * 3 + 2))] rfl rfl (World.news_of_block (heap_alloc_new wz _)) (by intro u hu; simp at hu; rcases hu with rfl | rfl | rfl <;> rfl) (by unfold maxLen; omega) (by omega) (by simp; omega) ?_)
            intro v' wy hown hgrow _ _
            replace hbel := (hbel.alloc hbs (.cells #[.int .i64 (num zs (k * 3)), .int .i64 (num zs (k * 3 + 1)), .int .i64 (num zs (k * 3 + 2))] 94)).grown hgrow (by simp; omega) (fun q hq => by have := (hov q hq).1; omega)
            replace hbox := (hgrow.block w.heap.size (by simp; omega) (fun e => by have := (hov _ e.symm).1; omega)).trans ((heap_alloc_lt wz _ (by omega)).trans hbox)
            clear hgrow hov
            obtain ⟨A4, d4, rfl, _, _⟩ := own_slice hown
            have HO := Lib.hid hown
            clear hown c0 c1 c2
            go_wp2_with fail
            go_roundw
            case rel => exact ⟨k + 1, N + 1, by omega, by omega, by go_num, by rw [HDN.out, HD.out]; rfl, by rw [HE.out, List.length_append, HLN.out]; simp; omega, by rw [HE.out, nums_append]; exact HO.out, hbel, hbox⟩
            case measure => simp [intOf]; omega
      · have HD := Lib.hid hD
        rw [hD]
        clear hD
        rcases Bool.eq_false_or_eq_true (ahdB side (num zs (k * 3)) p) with hA | hA
        · have HA := Lib.hid hA
          go_upto_region 6 with fail
          refine wp_region_held_drew (S := (fun w' => Below wr.heap.size wr w')) (by kernel_rfl) ?hSm16 (fun hHeld => ?restm16)
          case hSm16 => exact (Below.refl _ _).drew
          refine wpAnyH_take (i := 0) (oi := ?oim17) (v := ?vm17) ?him17 (by kernel_rfl) (by kernel_rfl) (by kernel_rfl) ?hQm17 (Or.inl ⟨?hwm17, ?hym17⟩) (by assumption) ?restm17
          case him17 => simp only [List.getElem?_toArray, List.getElem?_cons_succ, List.getElem?_cons_zero]; exact rfl
          case hQm17 => exact fun _ _ _ h => h
          case hwm17 => rfl
          case hym17 => ((intro w hSw; (try dsimp only at hSw); go_simp) <;> with_reducible rfl)
          try simp only [Act.put, List.setIfInBounds_toArray, List.set_cons_zero, List.set_cons_succ]
          refine wpAnyH_take (i := 1) (oi := ?oim18) (v := ?vm18) ?him18 (by kernel_rfl) (by kernel_rfl) (by kernel_rfl) ?hQm18 (Or.inl ⟨?hwm18, ?hym18⟩) (by assumption) ?restm18
          case him18 => simp only [List.getElem?_toArray, List.getElem?_cons_succ, List.getElem?_cons_zero]; exact rfl
          case hQm18 => exact fun _ _ _ h => h
          case hwm18 => rfl
          case hym18 => ((intro w hSw; (try dsimp only at hSw); go_simp) <;> with_reducible rfl)
          try simp only [Act.put, List.setIfInBounds_toArray, List.set_cons_zero, List.set_cons_succ]
          refine wpAnyH_take (i := 2) (oi := ?oim19) (v := ?vm19) ?him19 (by kernel_rfl) (by kernel_rfl) (by kernel_rfl) ?hQm19 (Or.inl ⟨?hwm19, ?hym19⟩) (by assumption) ?restm19
          case him19 => simp only [List.getElem?_toArray, List.getElem?_cons_succ, List.getElem?_cons_zero]; exact rfl
          case hQm19 => exact fun _ _ _ h => h
          case hwm19 => rfl
          case hym19 => ((intro w hSw; (try dsimp only at hSw); go_simp) <;> with_reducible rfl)
          try simp only [Act.put, List.setIfInBounds_toArray, List.set_cons_zero, List.set_cons_succ]
          refine wpAnyH_take (i := 3) (oi := ?oim20) (v := ?vm20) ?him20 (by kernel_rfl) (by kernel_rfl) (by kernel_rfl) ?hQm20 (Or.inl ⟨?hwm20, ?hym20⟩) (by assumption) ?restm20
          case him20 => simp only [List.getElem?_toArray, List.getElem?_cons_succ, List.getElem?_cons_zero]; exact rfl
          case hQm20 => exact fun _ _ _ h => h
          case hwm20 => rfl
          case hym20 => ((intro w hSw; (try dsimp only at hSw); go_simp) <;> with_reducible rfl)
          try simp only [Act.put, List.setIfInBounds_toArray, List.set_cons_zero, List.set_cons_succ]
          refine wpAnyH_take (i := 4) (oi := ?oim21) (v := ?vm21) ?him21 (by kernel_rfl) (by kernel_rfl) (by kernel_rfl) ?hQm21 (Or.inl ⟨?hwm21, ?hym21⟩) (by assumption) ?restm21
          case him21 => simp only [List.getElem?_toArray, List.getElem?_cons_succ, List.getElem?_cons_zero]; exact rfl
          case hQm21 => exact fun _ _ _ h => h
          case hwm21 => rfl
          case hym21 => ((intro w hSw; (try dsimp only at hSw); go_simp) <;> with_reducible rfl)
          try simp only [Act.put, List.setIfInBounds_toArray, List.set_cons_zero, List.set_cons_succ]
          refine wpAnyH_take (i := 5) (oi := ?oim22) (v := ?vm22) ?him22 (by kernel_rfl) (by kernel_rfl) (by kernel_rfl) ?hQm22 (Or.inl ⟨?hwm22, ?hym22⟩) (by assumption) ?restm22
          case him22 => simp only [List.getElem?_toArray, List.getElem?_cons_succ, List.getElem?_cons_zero]; exact rfl
          case hQm22 => exact fun _ _ _ h => h
          case hwm22 => rfl
          case hym22 => ((intro w hSw; (try dsimp only at hSw); go_simp) <;> with_reducible rfl)
          try simp only [Act.put, List.setIfInBounds_toArray, List.set_cons_zero, List.set_cons_succ]
          refine wpAnyH_take (i := 6) (oi := ?oim23) (v := ?vm23) ?him23 (by kernel_rfl) (by kernel_rfl) (by kernel_rfl) ?hQm23 (Or.inl ⟨?hwm23, ?hym23⟩) (by assumption) ?restm23
          case him23 => simp only [List.getElem?_toArray, List.getElem?_cons_succ, List.getElem?_cons_zero]; exact rfl
          case hQm23 => exact fun _ _ _ h => h
          case hwm23 => rfl
          case hym23 => ((intro w hSw; (try dsimp only at hSw); go_simp) <;> with_reducible rfl)
          try simp only [Act.put, List.setIfInBounds_toArray, List.set_cons_zero, List.set_cons_succ]
          refine wpAnyH_take (i := 7) (oi := ?oim24) (v := ?vm24) ?him24 (by kernel_rfl) (by kernel_rfl) (by kernel_rfl) ?hQm24 (Or.inl ⟨?hwm24, ?hym24⟩) (by assumption) ?restm24
          case him24 => simp only [List.getElem?_toArray, List.getElem?_cons_succ, List.getElem?_cons_zero]; exact rfl
          case hQm24 => exact fun _ _ _ h => h
          case hwm24 => rfl
          case hym24 => ((intro w hSw; (try dsimp only at hSw); go_simp) <;> with_reducible rfl)
          try simp only [Act.put, List.setIfInBounds_toArray, List.set_cons_zero, List.set_cons_succ]
          refine wpAnyH_take (i := 8) (oi := ?oim25) (v := ?vm25) ?him25 (by kernel_rfl) (by kernel_rfl) (by kernel_rfl) ?hQm25 (Or.inl ⟨?hwm25, ?hym25⟩) (by assumption) ?restm25
          case him25 => simp only [List.getElem?_toArray, List.getElem?_cons_succ, List.getElem?_cons_zero]; exact rfl
          case hQm25 => exact fun _ _ _ h => h
          case hwm25 => rfl
          case hym25 => ((intro wS hSw; have t0 := (hSw.cell (p := ⟨b, o + k * 3, none⟩) hbw).trans c0; go_simp) <;> with_reducible rfl)
          try simp only [Act.put, List.setIfInBounds_toArray, List.set_cons_zero, List.set_cons_succ]
          refine wpAnyH_take (i := 9) (oi := ?oim26) (v := ?vm26) ?him26 (by kernel_rfl) (by kernel_rfl) (by kernel_rfl) ?hQm26 (Or.inl ⟨?hwm26, ?hym26⟩) (by assumption) ?restm26
          case him26 => simp only [List.getElem?_toArray, List.getElem?_cons_succ, List.getElem?_cons_zero]; exact rfl
          case hQm26 => exact fun _ _ _ h => h
          case hwm26 => rfl
          case hym26 => ((intro w hSw; (try dsimp only at hSw); go_simp) <;> with_reducible rfl)
          try simp only [Act.put, List.setIfInBounds_toArray, List.set_cons_zero, List.set_cons_succ]
          refine wpAnyH_take (i := 10) (oi := ?oim27) (v := ?vm27) ?him27 (by kernel_rfl) (by kernel_rfl) (by kernel_rfl) ?hQm27 (Or.inl ⟨?hwm27, ?hym27⟩) (by assumption) ?restm27
          case him27 => simp only [List.getElem?_toArray, List.getElem?_cons_succ, List.getElem?_cons_zero]; exact rfl
          case hQm27 => exact fun _ _ _ h => h
          case hwm27 => rfl
          case hym27 => ((intro wS hSw; have t0 := (hSw.cell (p := ⟨w.heap.size, 0, none⟩) hbx).trans x0; go_simp) <;> with_reducible rfl)
          try simp only [Act.put, List.setIfInBounds_toArray, List.set_cons_zero, List.set_cons_succ]
          refine wpAnyH_ready (rs := [11]) (by kernel_rfl) (by simp) ?_
          refine AllReadyH.cons (o := ?or28_11) ?hor28_11 (fun K hK => ?stepr28_11) (AllReadyH.nil)
          case hor28_11 => simp only [List.getElem?_toArray, List.getElem?_cons_succ, List.getElem?_cons_zero]; exact rfl
          case stepr28_11 =>
            go_simp
            refine (lev_ahead _ _ _ _).mono ?_
            rw [hA]
            rintro e v5 ⟨rfl, rfl⟩
            refine hK.out _ _ ?hSr28_11 (fun hHeld => ?restr28_11)
            case hSr28_11 => exact hHeld
            clear hK K
            try simp only [Act.put, List.setIfInBounds_toArray, List.set_cons_zero, List.set_cons_succ]
            refine wpAnyH_take (i := 12) (oi := ?oim29) (v := ?vm29) ?him29 (by kernel_rfl) (by kernel_rfl) (by kernel_rfl) ?hQm29 (Or.inl ⟨?hwm29, ?hym29⟩) (by assumption) ?restm29
            case him29 => simp only [List.getElem?_toArray, List.getElem?_cons_succ, List.getElem?_cons_zero]; exact rfl
            case hQm29 => exact fun _ _ _ h => h
            case hwm29 => rfl
            case hym29 => ((intro w hSw; (try dsimp only at hSw); go_simp) <;> with_reducible rfl)
            try simp only [Act.put, List.setIfInBounds_toArray, List.set_cons_zero, List.set_cons_succ]
            refine wpAnyH_take (i := 13) (oi := ?oim30) (v := ?vm30) ?him30 (by kernel_rfl) (by kernel_rfl) (by kernel_rfl) ?hQm30 (Or.inl ⟨?hwm30, ?hym30⟩) (by assumption) ?restm30
            case him30 => simp only [List.getElem?_toArray, List.getElem?_cons_succ, List.getElem?_cons_zero]; exact rfl
            case hQm30 => exact fun _ _ _ h => h
            case hwm30 => rfl
            case hym30 => ((intro w hSw; (try dsimp only at hSw); go_simp) <;> with_reducible rfl)
            try simp only [Act.put, List.setIfInBounds_toArray, List.set_cons_zero, List.set_cons_succ]
            refine wpAnyH_done (by kernel_rfl) ?_ _
            replace hown := own_below hown hHeld
            replace hbox := (hHeld.block _ hbx).trans hbox
            replace hbel := hbel.trans (Below.mono hHeld hbs)
            clear x0 x1 x2 c0 c1 c2 hHeld
            generalize wr.drew = wq at *
            replace hbs := hbel.size
            replace hbx := heap_ltA hbox
            replace hbw := Nat.lt_of_lt_of_le hb hbs
            obtain ⟨x0, x1, x2⟩ := box3 hbox
            have c0 := (hbel.cell (p := ⟨b, o + k * 3, none⟩) hb).trans C0.out
            have c1 := (hbel.cell (p := ⟨b, o + k * 3 + 1, none⟩) hb).trans C1.out
            have c2 := (hbel.cell (p := ⟨b, o + k * 3 + 2, none⟩) hb).trans C2.out
            by_cases hp : num zs (k * 3) = p
            · have HE := Lib.hid (show putZ side zs p q m (k + 1) = putZ side zs p q m k by rw [HG.out, HD.out, HA.out, if_pos (show num zs (k * 3) = p from hp)]; simp)
              rw [hp] at c0
              clear hp
              go_upto_region 9 with fail
              go_region
              replace hown := own_below hown (Below.refl _ wq).drew
              replace hbox : wq.drew.heap[w.heap.size]? = _ := hbox
              replace hbel := hbel.drew
              have HO := Lib.hid hown
              go_wp2_with fail
              go_roundw
              case rel => exact ⟨k + 1, N, by omega, by omega, by go_num, by rw [HDN.out, HD.out, HA.out]; rfl, by rw [HE.out]; exact HLN.out, by rw [HE.out]; exact HO.out, hbel, hbox⟩
              case measure => simp [intOf]; omega
            · have HE := Lib.hid (show putZ side zs p q m (k + 1) = putZ side zs p q m k ++ [num zs (k * 3), num zs (k * 3 + 1), num zs (k * 3 + 2)] by rw [HG.out, HD.out, HA.out, if_neg (show ¬ num zs (k * 3) = p from hp)]; simp)
              have tp : (num zs (k * 3) != p) = true := by simpa using hp
              clear hp
              go_upto_region 9 with fail
              go_region
              replace hown := own_below hown (Below.refl _ wq).drew
              replace hbox : wq.drew.heap[w.heap.size]? = _ := hbox
              replace hbel := hbel.drew
              replace c0 : wq.drew.cell? ⟨b, o + k * 3, none⟩ = _ := c0
              replace c1 : wq.drew.cell? ⟨b, o + k * 3 + 1, none⟩ = _ := c1
              replace c2 : wq.drew.cell? ⟨b, o + k * 3 + 2, none⟩ = _ := c2
              replace hbs := hbel.size
              replace hbx := heap_ltA hbox
              replace hbw := Nat.lt_of_lt_of_le hb hbs
              clear x0 x1 x2 tp
              generalize wq.drew = wz at *
              have hov := hown.lt
              go_wp2_with (at_builtin; refine wpList_append_own_at _ rfl _ _ 40 rfl (w.heap.size + 1) 94 i0 _ 3 24 Try.underlying40 hi hz0 hz1 hz2 rfl (by decide) _ _ _ rfl (hown.alloc _) ⟨wz.heap.size, 0, none⟩ 1 1 [.int .i64 (num zs (k * 3)), .int .i64 (num zs (k * 3 + 1)), .int .i64 (num zs (k * 3 + 2))] rfl rfl (World.news_of_block (heap_alloc_new wz _)) (by intro u hu; simp at hu; rcases hu with rfl | rfl | rfl <;> rfl) (by unfold maxLen; omega) (by omega) (by simp; omega) ?_)
              intro v' wy hown hgrow _ _
              replace hbel := (hbel.alloc hbs (.cells #[.int .i64 (num zs (k * 3)), .int .i64 (num zs (k * 3 + 1)), .int .i64 (num zs (k * 3 + 2))] 94)).grown hgrow (by simp; omega) (fun q hq => by have := (hov q hq).1; omega)
              replace hbox := (hgrow.block w.heap.size (by simp; omega) (fun e => by have := (hov _ e.symm).1; omega)).trans ((heap_alloc_lt wz _ (by omega)).trans hbox)
              clear hgrow hov
              obtain ⟨A4, d4, rfl, _, _⟩ := own_slice hown
              have HO := Lib.hid hown
              clear hown c0 c1 c2
              go_wp2_with fail
              go_roundw
              case rel => exact ⟨k + 1, N + 1, by omega, by omega, by go_num, by rw [HDN.out, HD.out, HA.out]; rfl, by rw [HE.out, List.length_append, HLN.out]; simp; omega, by rw [HE.out, nums_append]; exact HO.out, hbel, hbox⟩
              case measure => simp [intOf]; omega
        · have HA := Lib.hid hA
          have hND : N ≤ k := by
            have h1 := HLN.out
            have h2 := putZ_few (q := q) k HD.out
            omega
          go_upto_region 6 with fail
          refine wp_region_held_drew (S := (fun w' => Below wr.heap.size wr w')) (by kernel_rfl) ?hSm31 (fun hHeld => ?restm31)
          case hSm31 => exact (Below.refl _ _).drew
          refine wpAnyH_take (i := 0) (oi := ?oim32) (v := ?vm32) ?him32 (by kernel_rfl) (by kernel_rfl) (by kernel_rfl) ?hQm32 (Or.inl ⟨?hwm32, ?hym32⟩) (by assumption) ?restm32
          case him32 => simp only [List.getElem?_toArray, List.getElem?_cons_succ, List.getElem?_cons_zero]; exact rfl
          case hQm32 => exact fun _ _ _ h => h
          case hwm32 => rfl
          case hym32 => ((intro w hSw; (try dsimp only at hSw); go_simp) <;> with_reducible rfl)
          try simp only [Act.put, List.setIfInBounds_toArray, List.set_cons_zero, List.set_cons_succ]
          refine wpAnyH_take (i := 1) (oi := ?oim33) (v := ?vm33) ?him33 (by kernel_rfl) (by kernel_rfl) (by kernel_rfl) ?hQm33 (Or.inl ⟨?hwm33, ?hym33⟩) (by assumption) ?restm33
          case him33 => simp only [List.getElem?_toArray, List.getElem?_cons_succ, List.getElem?_cons_zero]; exact rfl
          case hQm33 => exact fun _ _ _ h => h
          case hwm33 => rfl
          case hym33 => ((intro w hSw; (try dsimp only at hSw); go_simp) <;> with_reducible rfl)
          try simp only [Act.put, List.setIfInBounds_toArray, List.set_cons_zero, List.set_cons_succ]
          refine wpAnyH_take (i := 2) (oi := ?oim34) (v := ?vm34) ?him34 (by kernel_rfl) (by kernel_rfl) (by kernel_rfl) ?hQm34 (Or.inl ⟨?hwm34, ?hym34⟩) (by assumption) ?restm34
          case him34 => simp only [List.getElem?_toArray, List.getElem?_cons_succ, List.getElem?_cons_zero]; exact rfl
          case hQm34 => exact fun _ _ _ h => h
          case hwm34 => rfl
          case hym34 => ((intro w hSw; (try dsimp only at hSw); go_simp) <;> with_reducible rfl)
          try simp only [Act.put, List.setIfInBounds_toArray, List.set_cons_zero, List.set_cons_succ]
          refine wpAnyH_take (i := 3) (oi := ?oim35) (v := ?vm35) ?him35 (by kernel_rfl) (by kernel_rfl) (by kernel_rfl) ?hQm35 (Or.inl ⟨?hwm35, ?hym35⟩) (by assumption) ?restm35
          case him35 => simp only [List.getElem?_toArray, List.getElem?_cons_succ, List.getElem?_cons_zero]; exact rfl
          case hQm35 => exact fun _ _ _ h => h
          case hwm35 => rfl
          case hym35 => ((intro w hSw; (try dsimp only at hSw); go_simp) <;> with_reducible rfl)
          try simp only [Act.put, List.setIfInBounds_toArray, List.set_cons_zero, List.set_cons_succ]
          refine wpAnyH_take (i := 4) (oi := ?oim36) (v := ?vm36) ?him36 (by kernel_rfl) (by kernel_rfl) (by kernel_rfl) ?hQm36 (Or.inl ⟨?hwm36, ?hym36⟩) (by assumption) ?restm36
          case him36 => simp only [List.getElem?_toArray, List.getElem?_cons_succ, List.getElem?_cons_zero]; exact rfl
          case hQm36 => exact fun _ _ _ h => h
          case hwm36 => rfl
          case hym36 => ((intro w hSw; (try dsimp only at hSw); go_simp) <;> with_reducible rfl)
          try simp only [Act.put, List.setIfInBounds_toArray, List.set_cons_zero, List.set_cons_succ]
          refine wpAnyH_take (i := 5) (oi := ?oim37) (v := ?vm37) ?him37 (by kernel_rfl) (by kernel_rfl) (by kernel_rfl) ?hQm37 (Or.inl ⟨?hwm37, ?hym37⟩) (by assumption) ?restm37
          case him37 => simp only [List.getElem?_toArray, List.getElem?_cons_succ, List.getElem?_cons_zero]; exact rfl
          case hQm37 => exact fun _ _ _ h => h
          case hwm37 => rfl
          case hym37 => ((intro w hSw; (try dsimp only at hSw); go_simp) <;> with_reducible rfl)
          try simp only [Act.put, List.setIfInBounds_toArray, List.set_cons_zero, List.set_cons_succ]
          refine wpAnyH_take (i := 6) (oi := ?oim38) (v := ?vm38) ?him38 (by kernel_rfl) (by kernel_rfl) (by kernel_rfl) ?hQm38 (Or.inl ⟨?hwm38, ?hym38⟩) (by assumption) ?restm38
          case him38 => simp only [List.getElem?_toArray, List.getElem?_cons_succ, List.getElem?_cons_zero]; exact rfl
          case hQm38 => exact fun _ _ _ h => h
          case hwm38 => rfl
          case hym38 => ((intro w hSw; (try dsimp only at hSw); go_simp) <;> with_reducible rfl)
          try simp only [Act.put, List.setIfInBounds_toArray, List.set_cons_zero, List.set_cons_succ]
          refine wpAnyH_take (i := 7) (oi := ?oim39) (v := ?vm39) ?him39 (by kernel_rfl) (by kernel_rfl) (by kernel_rfl) ?hQm39 (Or.inl ⟨?hwm39, ?hym39⟩) (by assumption) ?restm39
          case him39 => simp only [List.getElem?_toArray, List.getElem?_cons_succ, List.getElem?_cons_zero]; exact rfl
          case hQm39 => exact fun _ _ _ h => h
          case hwm39 => rfl
          case hym39 => ((intro w hSw; (try dsimp only at hSw); go_simp) <;> with_reducible rfl)
          try simp only [Act.put, List.setIfInBounds_toArray, List.set_cons_zero, List.set_cons_succ]
          refine wpAnyH_take (i := 8) (oi := ?oim40) (v := ?vm40) ?him40 (by kernel_rfl) (by kernel_rfl) (by kernel_rfl) ?hQm40 (Or.inl ⟨?hwm40, ?hym40⟩) (by assumption) ?restm40
          case him40 => simp only [List.getElem?_toArray, List.getElem?_cons_succ, List.getElem?_cons_zero]; exact rfl
          case hQm40 => exact fun _ _ _ h => h
          case hwm40 => rfl
          case hym40 => ((intro wS hSw; have t0 := (hSw.cell (p := ⟨b, o + k * 3, none⟩) hbw).trans c0; go_simp) <;> with_reducible rfl)
          try simp only [Act.put, List.setIfInBounds_toArray, List.set_cons_zero, List.set_cons_succ]
          refine wpAnyH_take (i := 9) (oi := ?oim41) (v := ?vm41) ?him41 (by kernel_rfl) (by kernel_rfl) (by kernel_rfl) ?hQm41 (Or.inl ⟨?hwm41, ?hym41⟩) (by assumption) ?restm41
          case him41 => simp only [List.getElem?_toArray, List.getElem?_cons_succ, List.getElem?_cons_zero]; exact rfl
          case hQm41 => exact fun _ _ _ h => h
          case hwm41 => rfl
          case hym41 => ((intro w hSw; (try dsimp only at hSw); go_simp) <;> with_reducible rfl)
          try simp only [Act.put, List.setIfInBounds_toArray, List.set_cons_zero, List.set_cons_succ]
          refine wpAnyH_take (i := 10) (oi := ?oim42) (v := ?vm42) ?him42 (by kernel_rfl) (by kernel_rfl) (by kernel_rfl) ?hQm42 (Or.inl ⟨?hwm42, ?hym42⟩) (by assumption) ?restm42
          case him42 => simp only [List.getElem?_toArray, List.getElem?_cons_succ, List.getElem?_cons_zero]; exact rfl
          case hQm42 => exact fun _ _ _ h => h
          case hwm42 => rfl
          case hym42 => ((intro wS hSw; have t0 := (hSw.cell (p := ⟨w.heap.size, 0, none⟩) hbx).trans x0; go_simp) <;> with_reducible rfl)
          try simp only [Act.put, List.setIfInBounds_toArray, List.set_cons_zero, List.set_cons_succ]
          refine wpAnyH_ready (rs := [11]) (by kernel_rfl) (by simp) ?_
          refine AllReadyH.cons (o := ?or43_11) ?hor43_11 (fun K hK => ?stepr43_11) (AllReadyH.nil)
          case hor43_11 => simp only [List.getElem?_toArray, List.getElem?_cons_succ, List.getElem?_cons_zero]; exact rfl
          case stepr43_11 =>
            go_simp
            refine (lev_ahead _ _ _ _).mono ?_
            rw [hA]
            rintro e v5 ⟨rfl, rfl⟩
            refine hK.out _ _ ?hSr43_11 (fun hHeld => ?restr43_11)
            case hSr43_11 => exact hHeld
            clear hK K
            try simp only [Act.put, List.setIfInBounds_toArray, List.set_cons_zero, List.set_cons_succ]
            refine wpAnyH_take (i := 12) (oi := ?oim44) (v := ?vm44) ?him44 (by kernel_rfl) (by kernel_rfl) (by kernel_rfl) ?hQm44 (Or.inl ⟨?hwm44, ?hym44⟩) (by assumption) ?restm44
            case him44 => simp only [List.getElem?_toArray, List.getElem?_cons_succ, List.getElem?_cons_zero]; exact rfl
            case hQm44 => exact fun _ _ _ h => h
            case hwm44 => rfl
            case hym44 => ((intro w hSw; (try dsimp only at hSw); go_simp) <;> with_reducible rfl)
            try simp only [Act.put, List.setIfInBounds_toArray, List.set_cons_zero, List.set_cons_succ]
            refine wpAnyH_take (i := 13) (oi := ?oim45) (v := ?vm45) ?him45 (by kernel_rfl) (by kernel_rfl) (by kernel_rfl) ?hQm45 (Or.inl ⟨?hwm45, ?hym45⟩) (by assumption) ?restm45
            case him45 => simp only [List.getElem?_toArray, List.getElem?_cons_succ, List.getElem?_cons_zero]; exact rfl
            case hQm45 => exact fun _ _ _ h => h
            case hwm45 => rfl
            case hym45 => ((intro w hSw; (try dsimp only at hSw); go_simp) <;> with_reducible rfl)
            try simp only [Act.put, List.setIfInBounds_toArray, List.set_cons_zero, List.set_cons_succ]
            refine wpAnyH_done (by kernel_rfl) ?_ _
            replace hown := own_below hown hHeld
            replace hbox := (hHeld.block _ hbx).trans hbox
            replace hbel := hbel.trans (Below.mono hHeld hbs)
            clear x0 x1 x2 c0 c1 c2 hHeld
            generalize wr.drew = wq at *
            replace hbs := hbel.size
            replace hbx := heap_ltA hbox
            replace hbw := Nat.lt_of_lt_of_le hb hbs
            obtain ⟨x0, x1, x2⟩ := box3 hbox
            have c0 := (hbel.cell (p := ⟨b, o + k * 3, none⟩) hb).trans C0.out
            have c1 := (hbel.cell (p := ⟨b, o + k * 3 + 1, none⟩) hb).trans C1.out
            have c2 := (hbel.cell (p := ⟨b, o + k * 3 + 2, none⟩) hb).trans C2.out
            clear c0 c1 c2
            have hov := hown.lt
            go_wp2_with (at_builtin; refine wpList_append_own_at _ rfl _ _ 40 rfl (w.heap.size + 1) 94 i0 _ 3 24 Try.underlying40 hi hz0 hz1 hz2 rfl (by decide) _ _ _ rfl (hown.alloc _) ⟨wq.heap.size, 0, none⟩ 1 1 [.int .i64 p, .int .i64 q, .int .i64 m] rfl rfl (World.news_of_block (heap_alloc_new wq _)) (by intro u hu; simp at hu; rcases hu with rfl | rfl | rfl <;> rfl) (by unfold maxLen; omega) (by omega) (by simp; omega) ?_)
            intro v' wp hown hgrow _ _
            replace hbel := (hbel.alloc hbs (.cells #[.int .i64 p, .int .i64 q, .int .i64 m] 94)).grown hgrow (by simp; omega) (fun q hq => by have := (hov q hq).1; omega)
            replace hbox := (hgrow.block w.heap.size (by simp; omega) (fun e => by have := (hov _ e.symm).1; omega)).trans ((heap_alloc_lt wq _ (by omega)).trans hbox)
            clear hgrow hov
            obtain ⟨A3, d3, rfl, _, _⟩ := own_slice hown
            have HL3 := Lib.hid (show (putZ side zs p q m k ++ [p, q, m]).length = (N + 1) * 3 by rw [List.length_append, HLN.out]; simp; omega)
            replace hown : wp.ownsRow (w.heap.size + 1) 94 3 (.slice A3 (N + 1) d3) (N + 1) (nums (putZ side zs p q m k ++ [p, q, m])) := by rw [nums_append]; exact hown
            clear x0 x1 x2
            replace hbs := hbel.size
            replace hbx := heap_ltA hbox
            replace hbw := Nat.lt_of_lt_of_le hb hbs
            obtain ⟨x0, x1, x2⟩ := box3 hbox
            have c0 := (hbel.cell (p := ⟨b, o + k * 3, none⟩) hb).trans C0.out
            have c1 := (hbel.cell (p := ⟨b, o + k * 3 + 1, none⟩) hb).trans C1.out
            have c2 := (hbel.cell (p := ⟨b, o + k * 3 + 2, none⟩) hb).trans C2.out
            by_cases hp : num zs (k * 3) = p
            · have HE := Lib.hid (show putZ side zs p q m (k + 1) = (putZ side zs p q m k ++ [p, q, m]) by rw [HG.out, HD.out, HA.out, if_pos (show num zs (k * 3) = p from hp)]; simp)
              rw [hp] at c0
              clear hp
              go_upto_region 9 with fail
              go_region
              replace hown := own_below hown (Below.refl _ wp).drew
              replace hbox : wp.drew.heap[w.heap.size]? = _ := hbox
              replace hbel := hbel.drew
              have HO := Lib.hid hown
              go_wp2_with fail
              go_roundw
              case rel => exact ⟨k + 1, N + 1, by omega, by omega, by go_num, by rw [HDN.out, HD.out, HA.out]; rfl, by rw [HE.out]; exact HL3.out, by rw [HE.out]; exact HO.out, hbel, hbox⟩
              case measure => simp [intOf]; omega
            · have HE := Lib.hid (show putZ side zs p q m (k + 1) = (putZ side zs p q m k ++ [p, q, m]) ++ [num zs (k * 3), num zs (k * 3 + 1), num zs (k * 3 + 2)] by rw [HG.out, HD.out, HA.out, if_neg (show ¬ num zs (k * 3) = p from hp)]; simp)
              have tp : (num zs (k * 3) != p) = true := by simpa using hp
              clear hp
              go_upto_region 9 with fail
              go_region
              replace hown := own_below hown (Below.refl _ wp).drew
              replace hbox : wp.drew.heap[w.heap.size]? = _ := hbox
              replace hbel := hbel.drew
              replace c0 : wp.drew.cell? ⟨b, o + k * 3, none⟩ = _ := c0
              replace c1 : wp.drew.cell? ⟨b, o + k * 3 + 1, none⟩ = _ := c1
              replace c2 : wp.drew.cell? ⟨b, o + k * 3 + 2, none⟩ = _ := c2
              replace hbs := hbel.size
              replace hbx := heap_ltA hbox
              replace hbw := Nat.lt_of_lt_of_le hb hbs
              clear x0 x1 x2 tp
              generalize wp.drew = wz at *
              have hov := hown.lt
              go_wp2_with (at_builtin; refine wpList_append_own_at _ rfl _ _ 40 rfl (w.heap.size + 1) 94 i0 _ 3 24 Try.underlying40 hi hz0 hz1 hz2 rfl (by decide) _ _ _ rfl (hown.alloc _) ⟨wz.heap.size, 0, none⟩ 1 1 [.int .i64 (num zs (k * 3)), .int .i64 (num zs (k * 3 + 1)), .int .i64 (num zs (k * 3 + 2))] rfl rfl (World.news_of_block (heap_alloc_new wz _)) (by intro u hu; simp at hu; rcases hu with rfl | rfl | rfl <;> rfl) (by unfold maxLen; omega) (by omega) (by simp; omega) ?_)
              intro v' wy hown hgrow _ _
              replace hbel := (hbel.alloc hbs (.cells #[.int .i64 (num zs (k * 3)), .int .i64 (num zs (k * 3 + 1)), .int .i64 (num zs (k * 3 + 2))] 94)).grown hgrow (by simp; omega) (fun q hq => by have := (hov q hq).1; omega)
              replace hbox := (hgrow.block w.heap.size (by simp; omega) (fun e => by have := (hov _ e.symm).1; omega)).trans ((heap_alloc_lt wz _ (by omega)).trans hbox)
              clear hgrow hov
              obtain ⟨A4, d4, rfl, _, _⟩ := own_slice hown
              have HO := Lib.hid hown
              clear hown c0 c1 c2
              go_wp2_with fail
              go_roundw
              case rel => exact ⟨k + 1, N + 1 + 1, by omega, by omega, by go_num, by rw [HDN.out, HD.out, HA.out]; rfl, by rw [HE.out, List.length_append, HL3.out]; simp; omega, by rw [HE.out, nums_append]; exact HO.out, hbel, hbox⟩
              case measure => simp [intOf]; omega
    · obtain rfl : k = n := by omega
      clear hl
      have HLN := Lib.hid hlen
      clear hlen
      rcases Bool.eq_false_or_eq_true (putD side zs p m k) with hD | hD
      · have HE := Lib.hid (show putL side zs k p q m = putZ side zs p q m k by unfold putL; rw [if_pos hD])
        rw [hD]
        clear hD x0 x1 x2
        go_wp2_with fail
        go_ret
        exact ⟨⟨_, N, rfl, by rw [HE.out]; exact HLN.out, by rw [HE.out]; exact delt_mono hown (by omega)⟩, hbel⟩
      · have HE := Lib.hid (show putL side zs k p q m = putZ side zs p q m k ++ [p, q, m] by unfold putL; rw [if_neg (by rw [hD]; simp)])
        rw [hD]
        clear hD
        have hov := hown.lt
        go_wp2_with (at_builtin; refine wpList_append_own_at _ rfl _ _ 40 rfl (w.heap.size + 1) 94 i0 _ 3 24 Try.underlying40 hi hz0 hz1 hz2 rfl (by decide) _ _ _ rfl (hown.alloc _) ⟨wr.heap.size, 0, none⟩ 1 1 [.int .i64 p, .int .i64 q, .int .i64 m] rfl rfl (World.news_of_block (heap_alloc_new wr _)) (by intro u hu; simp at hu; rcases hu with rfl | rfl | rfl <;> rfl) (by unfold maxLen; omega) (by omega) (by simp; omega) ?_)
        intro v' wp hown hgrow _ _
        replace hbel := (hbel.alloc hbs (.cells #[.int .i64 p, .int .i64 q, .int .i64 m] 94)).grown hgrow (by simp; omega) (fun q hq => by have := (hov q hq).1; omega)
        replace hbox := (hgrow.block w.heap.size (by simp; omega) (fun e => by have := (hov _ e.symm).1; omega)).trans ((heap_alloc_lt wr _ (by omega)).trans hbox)
        clear hgrow hov
        obtain ⟨A3, d3, rfl, _, _⟩ := own_slice hown
        have HO := Lib.hid hown
        clear hown
        go_wp2_with fail
        go_ret
        exact ⟨⟨_, N + 1, rfl, by rw [HE.out, List.length_append, HLN.out]; simp; omega, by rw [HE.out, nums_append]; exact delt_mono HO.out (by omega)⟩, hbel⟩
theorem upd_no {m : Int} {p q : Int} (h : m = 0) : lvI p q m = false := by
  subst h
  simp [lvI, inB]
theorem apl_cnt {side : Int} {za zd : List Int} {N k : Nat} (h : (aplL side za zd k).length = N * 3) : cntL (aplL side za zd k) = N := by rw [cntL, h, Nat.mul_div_cancel _ (by omega)]
set_option linter.unusedSimpArgs false in
set_option maxHeartbeats 3200000 in
set_option maxRecDepth 100000 in
theorem spec_DepthApplied (A : Option Addr) (n c : Nat) (za : List Int) (B : Option Addr) (m d : Nat) (zd : List Int) (side : Int) (w : World) (hl : Lst w w.heap.size 3 A n za) (hA : A = none → n = 0 ∧ c = 0) (hn : n ≤ 1048576) (hr : Lst w w.heap.size 3 B m zd) (hm : m ≤ 1048576) :
    Calls Try.prog 23 #[.slice A n c, .slice B m d, .int .i64 side] w fun e w' => (∃ v N, e = .returned (.tuple #[v, .bool (aplB side za n zd m)]) ∧ (aplZ side za n zd m).length = N * 3 ∧ w'.ownsRow w.heap.size 94 3 v N (nums (aplZ side za n zd m))) ∧ Below w.heap.size w w' := by
  obtain ⟨i0, hi, hz0, hz1, hz2⟩ := info_parts lev_info
  rcases Bool.eq_false_or_eq_true (lvsB side za n) with h1 | h1
  rotate_left
  · have HN := Lib.hid (show aplB side za n zd m = false by simp [aplB, h1])
    have HZ := Lib.hid (show aplZ side za n zd m = [] by simp [aplZ, HN.out])
    go_enter Try.func23, Try.ntmps23
    go_wp2_with fail
    refine (spec_LevelsOk A n c za side _ hl hn).mono ?_
    rw [h1]
    rintro e w1 ⟨rfl, hb1⟩
    clear h1 hl hr
    go_wp2_with fail
    refine bodyPost_ret (v := .tuple #[.slice none 0 0, .bool false]) (by simp [results, Try.results23, go_sem]) rfl ⟨⟨_, 0, by rw [HN.out], by rw [HZ.out]; rfl, ?_⟩, hb1⟩
    rw [HZ.out]
    exact World.ownsRow_nil _ _ _ _
  have ho : LvOrd side za n := LvOrd.of_lvTo (by simp [lvsB] at h1; exact h1.2.2)
  have hz := hl.1
  have HAP := Lib.hid (fun k => apl_ok (zd := zd) hz ho k)
  clear ho hz
  by_cases h80 : 80 < m
  · have HN := Lib.hid (show aplB side za n zd m = false by simp [aplB]; omega)
    have HZ := Lib.hid (show aplZ side za n zd m = [] by simp [aplZ, HN.out])
    go_enter Try.func23, Try.ntmps23
    go_wp2_with fail
    refine (spec_LevelsOk A n c za side _ hl hn).mono ?_
    rw [h1]
    rintro e w1 ⟨rfl, hb1⟩
    have h80' : (80 : Int) < (m : Int) := by omega
    clear h1 hl hr h80
    go_wp2_with fail
    refine bodyPost_ret (v := .tuple #[.slice none 0 0, .bool false]) (by simp [results, Try.results23, go_sem]) rfl ⟨⟨_, 0, by rw [HN.out], by rw [HZ.out]; rfl, ?_⟩, hb1⟩
    rw [HZ.out]
    exact World.ownsRow_nil _ _ _ _
  have hn40 : n ≤ 40 := by simp [lvsB] at h1; exact h1.2.1
  have HL1 := Lib.hid h1
  go_enter Try.func23, Try.ntmps23
  go_wp2_with fail
  refine (spec_LevelsOk A n c za side _ hl hn).mono ?_
  rw [h1]
  rintro e w1 ⟨rfl, hb1⟩
  have h80' : ¬ ((80 : Int) < (m : Int)) := by omega
  clear h1
  have hB0 := hb1.alloc hb1.size (.cells #[] 94)
  have hq0 := delt_mono (base' := w.heap.size) (delt_empty w1 94 3) hb1.size
  have hN0 : (w1.alloc (.cells #[] 94)).heap.size = w1.heap.size + 1 := by simp
  have hl1 := hl.below hB0
  have hs1 := hb1.size
  go_wp2_with (at_builtin; refine wpList_appN _ rfl _ _ 40 rfl w.heap.size 94 i0 _ 3 24 Try.underlying40 hi hz0 hz1 hz2 rfl (by decide) _ 0 [] rfl hq0 A n c hA (nums za) rfl (by rw [nums_length, hl.1]) hl1.news (nums_one za) (by unfold maxLen; omega) (by omega) (by omega) ?_)
  intro v' w3 hown3 hgrow3
  replace hB0 := hB0.grown hgrow3 (by omega) (fun q hq => (hq0.lt q hq).1)
  skip
  obtain ⟨A3, d3, rfl, _, _⟩ := own_slice hown3
  have HO := Lib.hid hown3
  clear hown3 hgrow3 hq0 hN0 hl1 hs1 hb1
  go_wp2_with fail
  clear h80'
  go_loopw [8, 9] (fun r i wr => ∃ k N : Nat, k ≤ m ∧ N ≤ n + k ∧ i = .int .i64 (k : Int) ∧ updTo zd k = true ∧ (aplL side za zd k).length = N * 3 ∧ wr.ownsRow w.heap.size 94 3 r N (nums (aplL side za zd k)) ∧ Below w.heap.size w wr) (fun _ i _ => m - (intOf i).toNat)
  case atStart => exact ⟨0, n, Nat.zero_le _, by omega, rfl, rfl, hl.1, HO.out, hB0⟩
  case round =>
    clear HO hB0
    obtain ⟨k, N, hk, hNk, rfl, hup, hlen, hown, hbel⟩ := hrel
    obtain ⟨A2, d2, rfl, _, _⟩ := own_slice hown
    have HU := Lib.hid hup
    have HLN := Lib.hid hlen
    have hN1 : N ≤ 1048576 := by omega
    clear hup hlen hl
    by_cases hlt : k < m
    · obtain ⟨b, o, rfl, hb, C0, C1, C2⟩ := hr.row3 hlt
      have c0 := (hbel.cell (p := ⟨b, o + k * 3, none⟩) hb).trans C0
      have c1 := (hbel.cell (p := ⟨b, o + k * 3 + 1, none⟩) hb).trans C1
      have c2 := (hbel.cell (p := ⟨b, o + k * 3 + 2, none⟩) hb).trans C2
      replace C0 := Lib.hid C0
      replace C1 := Lib.hid C1
      replace C2 := Lib.hid C2
      have HUN := Lib.hid (show updTo zd (k + 1) = (updTo zd k && updI (num zd (k * 3)) (num zd (k * 3 + 1)) (num zd (k * 3 + 2))) from rfl)
      have HAN := Lib.hid (show aplL side za zd (k + 1) = putL side (aplL side za zd k) N (num zd (k * 3)) (num zd (k * 3 + 1)) (num zd (k * 3 + 2)) by rw [aplL, apl_cnt HLN.out])
      have HNO := Lib.hid (fun h => updTo_no (zd := zd) (k := k) h m hlt)
      have HUI := Lib.hid (show updI (num zd (k * 3)) (num zd (k * 3 + 1)) (num zd (k * 3 + 2)) = (((num zd (k * 3 + 2) == 0) && ((num zd (k * 3 + 1) == 0) && inB 1 (num zd (k * 3)) 1000000)) || lvI (num zd (k * 3)) (num zd (k * 3 + 1)) (num zd (k * 3 + 2))) from rfl)
      clear hr
      by_cases e2 : num zd (k * 3 + 2) = 0
      · have HLV : lvI (num zd (k * 3)) (num zd (k * 3 + 1)) (num zd (k * 3 + 2)) = false := upd_no e2
        by_cases e1 : num zd (k * 3 + 1) = 0
        · rcases Bool.eq_false_or_eq_true (inB 1 (num zd (k * 3)) 1000000) with HIN | HIN
          · have HUY := Lib.hid (show updI (num zd (k * 3)) (num zd (k * 3 + 1)) (num zd (k * 3 + 2)) = true by rw [HUI.out, e2, e1, HIN]; rfl)
            rw [e2] at c2
            rw [e1] at c1
            rw [e1, e2] at HAN HLV
            clear e1 e2
            go_wp2_with (go_at_call 69; refine (l1In_any _ _ _ _).mono ?_; rw [HIN]; rintro e w' ⟨rfl, rfl⟩)
            refine (spec_l10Put A2 N d2 (aplL side za zd k) (num zd (k * 3)) 0 0 side _ (Lst.of_own hown) hN1).mono ?_
            rw [← HAN.out]
            rintro e w6 ⟨⟨v6, N6, rfl, hlen6, hown6⟩, hb6⟩
            have HL6 := Lib.hid hlen6
            have HO6 := Lib.hid (delt_mono (base' := w.heap.size) hown6 hbel.size)
            replace hbel := hbel.trans (hb6.mono hbel.size)
            obtain ⟨A6, d6, rfl, _, _⟩ := own_slice hown6
            clear hlen6 hown6 hb6 hown c0 c1 c2
            go_wp2_with fail
            go_roundw
            case rel => exact ⟨k + 1, N6, by omega, by
                obtain ⟨⟨N', e1, e2⟩, _⟩ := HAP.out (k + 1)
                have := HL6.out
                omega, by go_num, by rw [HUN.out, HU.out, HUY.out]; rfl, HL6.out, HO6.out, hbel⟩
            case measure => simp [intOf]; omega
          · have HUY := Lib.hid (show updI (num zd (k * 3)) (num zd (k * 3 + 1)) (num zd (k * 3 + 2)) = false by rw [HUI.out, HLV, e2, e1, HIN]; rfl)
            rw [e2] at c2
            rw [e1] at c1
            rw [e1, e2] at HLV
            clear e1 e2
            go_wp2_with (go_at_call 69; refine (l1In_any _ _ _ _).mono ?_; rw [HIN]; rintro e w' ⟨rfl, rfl⟩)
            refine (lev_spec _ _ _ _).mono ?_
            rw [HLV]
            rintro e w5 ⟨rfl, hb5⟩
            replace hown := own_below hown hb5
            replace hbel := hbel.trans (hb5.mono hbel.size)
            clear hb5 c0 c1 c2 hown
            have HN := Lib.hid (show aplB side za n zd m = false by simp [aplB, HNO.out HUY.out])
            have HZ := Lib.hid (show aplZ side za n zd m = [] by simp [aplZ, HN.out])
            go_wp2_with fail
            refine bodyPost_ret (v := .tuple #[.slice none 0 0, .bool false]) (by simp [results, Try.results23, go_sem]) rfl ⟨⟨_, 0, by rw [HN.out], by rw [HZ.out]; rfl, ?_⟩, hbel⟩
            rw [HZ.out]
            exact World.ownsRow_nil _ _ _ _
        · have HUY := Lib.hid (show updI (num zd (k * 3)) (num zd (k * 3 + 1)) (num zd (k * 3 + 2)) = false by rw [HUI.out, HLV, beq_eq_false_iff_ne.2 e1]; simp)
          have t1 : (num zd (k * 3 + 1) == 0) = false := beq_eq_false_iff_ne.2 e1
          rw [e2] at c2
          rw [e2] at HLV
          clear e1 e2
          go_wp2_with fail
          refine (lev_spec _ _ _ _).mono ?_
          rw [HLV]
          rintro e w5 ⟨rfl, hb5⟩
          replace hown := own_below hown hb5
          replace hbel := hbel.trans (hb5.mono hbel.size)
          clear hb5 c0 c1 c2 hown
          have HN := Lib.hid (show aplB side za n zd m = false by simp [aplB, HNO.out HUY.out])
          have HZ := Lib.hid (show aplZ side za n zd m = [] by simp [aplZ, HN.out])
          go_wp2_with fail
          refine bodyPost_ret (v := .tuple #[.slice none 0 0, .bool false]) (by simp [results, Try.results23, go_sem]) rfl ⟨⟨_, 0, by rw [HN.out], by rw [HZ.out]; rfl, ?_⟩, hbel⟩
          rw [HZ.out]
          exact World.ownsRow_nil _ _ _ _
      · have t2 : (num zd (k * 3 + 2) == 0) = false := beq_eq_false_iff_ne.2 e2
        rcases Bool.eq_false_or_eq_true (lvI (num zd (k * 3)) (num zd (k * 3 + 1)) (num zd (k * 3 + 2))) with HLV | HLV
        · have HUY := Lib.hid (show updI (num zd (k * 3)) (num zd (k * 3 + 1)) (num zd (k * 3 + 2)) = true by rw [HUI.out, HLV]; simp)
          clear e2
          go_wp2_with fail
          refine (lev_spec _ _ _ _).mono ?_
          rw [HLV]
          rintro e w5 ⟨rfl, hb5⟩
          replace hown := own_below hown hb5
          replace hbel := hbel.trans (hb5.mono hbel.size)
          have c0 := (hbel.cell (p := ⟨b, o + k * 3, none⟩) hb).trans C0.out
          have c1 := (hbel.cell (p := ⟨b, o + k * 3 + 1, none⟩) hb).trans C1.out
          have c2 := (hbel.cell (p := ⟨b, o + k * 3 + 2, none⟩) hb).trans C2.out
          clear hb5
          go_wp2_with fail
          refine (spec_l10Put A2 N d2 (aplL side za zd k) (num zd (k * 3)) (num zd (k * 3 + 1)) (num zd (k * 3 + 2)) side _ (Lst.of_own hown) hN1).mono ?_
          rw [← HAN.out]
          rintro e w6 ⟨⟨v6, N6, rfl, hlen6, hown6⟩, hb6⟩
          have HL6 := Lib.hid hlen6
          have HO6 := Lib.hid (delt_mono (base' := w.heap.size) hown6 hbel.size)
          replace hbel := hbel.trans (hb6.mono hbel.size)
          obtain ⟨A6, d6, rfl, _, _⟩ := own_slice hown6
          clear hlen6 hown6 hb6 hown c0 c1 c2
          go_wp2_with fail
          go_roundw
          case rel => exact ⟨k + 1, N6, by omega, by
              obtain ⟨⟨N', e1, e2⟩, _⟩ := HAP.out (k + 1)
              have := HL6.out
              omega, by go_num, by rw [HUN.out, HU.out, HUY.out]; rfl, HL6.out, HO6.out, hbel⟩
          case measure => simp [intOf]; omega
        · have HUY := Lib.hid (show updI (num zd (k * 3)) (num zd (k * 3 + 1)) (num zd (k * 3 + 2)) = false by rw [HUI.out, HLV, t2]; rfl)
          clear e2
          go_wp2_with fail
          refine (lev_spec _ _ _ _).mono ?_
          rw [HLV]
          rintro e w5 ⟨rfl, hb5⟩
          replace hown := own_below hown hb5
          replace hbel := hbel.trans (hb5.mono hbel.size)
          clear hb5 c0 c1 c2 hown
          have HN := Lib.hid (show aplB side za n zd m = false by simp [aplB, HNO.out HUY.out])
          have HZ := Lib.hid (show aplZ side za n zd m = [] by simp [aplZ, HN.out])
          go_wp2_with fail
          refine bodyPost_ret (v := .tuple #[.slice none 0 0, .bool false]) (by simp [results, Try.results23, go_sem]) rfl ⟨⟨_, 0, by rw [HN.out], by rw [HZ.out]; rfl, ?_⟩, hbel⟩
          rw [HZ.out]
          exact World.ownsRow_nil _ _ _ _
    · obtain rfl : k = m := by omega
      clear hr
      rcases Bool.eq_false_or_eq_true (lvsB side (aplL side za zd k) N) with hf | hf
      · have HN := Lib.hid (show aplB side za n zd k = true by simp [aplB, HL1.out, HU.out, apl_cnt HLN.out, hf]; omega)
        have HZ := Lib.hid (show aplZ side za n zd k = aplL side za zd k by simp [aplZ, HN.out])
        go_wp2_with fail
        refine (spec_LevelsOk A2 N d2 (aplL side za zd k) side _ (Lst.of_own hown) hN1).mono ?_
        rw [hf]
        rintro e w6 ⟨rfl, hb6⟩
        have HO6 := Lib.hid (own_below hown hb6)
        replace hbel := hbel.trans (hb6.mono hbel.size)
        clear hf hb6 hown
        go_wp2_with fail
        refine bodyPost_ret (v := .tuple #[.slice A2 N d2, .bool true]) (by simp [results, Try.results23, go_sem]) rfl ⟨⟨_, N, by rw [HN.out], by rw [HZ.out]; exact HLN.out, ?_⟩, hbel⟩
        rw [HZ.out]
        exact HO6.out
      · have HN := Lib.hid (show aplB side za n zd k = false by simp [aplB, HU.out, apl_cnt HLN.out, hf])
        have HZ := Lib.hid (show aplZ side za n zd k = [] by simp [aplZ, HN.out])
        go_wp2_with fail
        refine (spec_LevelsOk A2 N d2 (aplL side za zd k) side _ (Lst.of_own hown) hN1).mono ?_
        rw [hf]
        rintro e w6 ⟨rfl, hb6⟩
        replace hbel := hbel.trans (hb6.mono hbel.size)
        clear hf hb6 hown
        go_wp2_with fail
        refine bodyPost_ret (v := .tuple #[.slice none 0 0, .bool false]) (by simp [results, Try.results23, go_sem]) rfl ⟨⟨_, 0, by rw [HN.out], by rw [HZ.out]; rfl, ?_⟩, hbel⟩
        rw [HZ.out]
        exact World.ownsRow_nil _ _ _ _
end Go.Proofs.Ytfodkefaflpicaa
