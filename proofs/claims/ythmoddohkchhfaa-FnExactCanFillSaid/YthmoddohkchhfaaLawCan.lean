/-
  The exact law of CanFill.
-/
import Derived.Test.YthmoddohkchhfaaGF
import Derived.Test.YthmoddohkchhfaaGB
import Derived.Test.YthmoddohkchhfaaBookZ
import Derived.Test.YthmoddohkchhfaaKeep
namespace Go.Proofs.Ythmoddohkchhfaa
open Go.RowKit Wire

theorem cfree4 {w : World} {S : Nat} {a b c d : Value} {T : TypeId} (h : w.heap[S]? = some (.cells #[a, b, c, d] T (0, 0))) : w.cell? ⟨S, 0, none⟩ = some a ∧ w.cell? ⟨S, 1, none⟩ = some b ∧ w.cell? ⟨S, 2, none⟩ = some c ∧ w.cell? ⟨S, 3, none⟩ = some d := by
  refine ⟨?_, ?_, ?_, ?_⟩ <;> simp [World.cell?, h]
set_option linter.unusedSimpArgs false in
set_option maxHeartbeats 3200000 in
set_option maxRecDepth 100000 in
theorem law_CanFill (A : Option Addr) (n c : Nat) (B : Option Addr) (m d : Nat) (za zb : List Int) (side oi oa op oq mode : Int) (w : World) (hl : BookIn w w.heap.size A n B m za zb) (hn : n ≤ maxLen) (hm : m ≤ maxLen) :
    Calls Try.prog 11 #[.agg #[.slice A n c, .slice B m d], .int .i64 side, .agg #[.int .i64 oi, .int .i64 oa, .int .i64 op, .int .i64 oq], .int .i64 mode] w fun e w' => e = .returned (.bool true) ∧ Below w.heap.size w w' := by
  obtain ⟨b0, b1⟩ := two_blocks w (.cells #[.slice A n c, .slice B m d] 42) (.cells #[.int .i64 oi, .int .i64 oa, .int .i64 op, .int .i64 oq] 62)
  have hbw : Below w.heap.size w ((w.alloc (.cells #[.slice A n c, .slice B m d] 42)).alloc (.cells #[.int .i64 oi, .int .i64 oa, .int .i64 op, .int .i64 oq] 62)) := ((Below.refl _ _).alloc (Nat.le_refl _) _).alloc (by simp) _
  have hsw : ((w.alloc (.cells #[.slice A n c, .slice B m d] 42)).alloc (.cells #[.int .i64 oi, .int .i64 oa, .int .i64 op, .int .i64 oq] 62)).heap.size = w.heap.size + 2 := by simp
  have hlw := hl.later hbw
  go_enter Try.func11, Try.ntmps11
  go_wp2_with fail
  generalize ((w.alloc (.cells #[.slice A n c, .slice B m d] 42)).alloc (.cells #[.int .i64 oi, .int .i64 oa, .int .i64 op, .int .i64 oq] 62)) = ww at *
  refine (szBook_any A n c B m d _ hn hm).mono ?_
  rintro e w0 ⟨⟨z, rfl, hz⟩, hb0⟩
  have H0 := (hb0.block (w.heap.size) (by omega)).trans b0
  have O0 := (hb0.block (w.heap.size + 1) (by omega)).trans b1
  have hs0 : w.heap.size + 2 ≤ w0.heap.size := by have := hb0.size; omega
  have hl0 := hlw.later hb0
  have hB0 := hbw.trans (hb0.mono hbw.size)
  clear b0 b1 hb0 hbw hlw hsw
  rcases hz with ⟨rfl, hbig⟩ | ⟨hz0, hnm⟩
  · clear H0 O0
    go_wp2_with fail
    go_ret
    exact ⟨rfl, hB0⟩
  have hz1 : decide (z < 0) = false := decide_eq_false (by omega)
  have hn1 : n ≤ 1048576 := by omega
  have hm1 : m ≤ 1048576 := by omega
  have hlA := hl.1.1
  have hlB := hl.2.1
  clear hl
  obtain ⟨cb, hcb⟩ : ∃ x, canB (rgB za n zb m side oi oa op oq mode) side oi oa op oq mode za zb = x := ⟨_, rfl⟩
  have HCS : Hid (∀ (v : World) (g f : Nat), BookIn v v.heap.size (some ⟨g, 0, none⟩) n (some ⟨f, 0, none⟩) m za zb → Calls Try.prog 46 #[.agg #[.slice (some ⟨g, 0, none⟩) n n, .slice (some ⟨f, 0, none⟩) m m], .int .i64 side, .agg #[.int .i64 oi, .int .i64 oa, .int .i64 op, .int .i64 oq], .int .i64 mode] v fun e w' => e = .returned (.bool cb) ∧ Below v.heap.size v w') := Lib.hid (fun v g f hx => by
    have := spec_CanFill (some ⟨g, 0, none⟩) n n (some ⟨f, 0, none⟩) m m za zb side oi oa op oq mode v hx.1 hx.2 hn1 hm1 (fun e => by cases e) (fun e => by cases e)
    rw [hcb] at this
    exact this)
  have HCI : Hid (∀ (v : World) (g f : Nat), BookIn v v.heap.size (some ⟨g, 0, none⟩) n (some ⟨f, 0, none⟩) m za zb → Calls Try.prog 48 #[.agg #[.slice (some ⟨g, 0, none⟩) n n, .slice (some ⟨f, 0, none⟩) m m], .int .i64 side, .agg #[.int .i64 oi, .int .i64 oa, .int .i64 op, .int .i64 oq], .int .i64 mode] v fun e w' => e = .returned (.bool cb) ∧ Below v.heap.size v w') := Lib.hid (fun v g f hx => by
    have := impl_CanFill (some ⟨g, 0, none⟩) n n (some ⟨f, 0, none⟩) m m za zb side oi oa op oq mode v hx.1 hx.2 hn1 hm1
    rw [hcb] at this
    exact this)
  have hcc : (cb != cb) = false := by cases cb <;> rfl
  clear hcb
  have hK0 : Keeps w0.heap.size w0 [(w.heap.size, (.cells #[.slice A n c, .slice B m d] 42)), (w.heap.size + 1, (.cells #[.int .i64 oi, .int .i64 oa, .int .i64 op, .int .i64 oq] 62))] w0 := ⟨Below.refl _ _, Nat.le_refl _, fun p hp => by
    simp only [List.mem_cons, List.not_mem_nil, or_false] at hp
    rcases hp with rfl | rfl
    · exact H0
    · exact O0⟩
  go_wp2_with fail
  go_upto_region 5 with fail
  go_cut [10] (fun s10 wx => s10 = .bool cb ∧ Keeps w0.heap.size w0 [(w.heap.size, (.cells #[.slice A n c, .slice B m d] 42)), (w.heap.size + 1, (.cells #[.int .i64 oi, .int .i64 oa, .int .i64 op, .int .i64 oq] 62))] wx)
  case first =>
    refine wp_region_held_drew (S := Keeps w0.heap.size w0 [(w.heap.size, (.cells #[.slice A n c, .slice B m d] 42)), (w.heap.size + 1, (.cells #[.int .i64 oi, .int .i64 oa, .int .i64 op, .int .i64 oq] 62))]) (by kernel_rfl) ?hSr5 (fun hHeld => ?restr5)
    case hSr5 => exact hK0.drew
    replace hK0 := hK0.drew
    have hls := hl0
    clear hHeld
    generalize hw1s : w0.drew = w1s at hK0 ⊢
    clear hw1s
    refine wpAnyH_take (i := 0) (oi := ?oik457) (v := ?vk457) ?hik457 (by kernel_rfl) (by kernel_rfl) (by kernel_rfl) ?hQk457 (Or.inl ⟨?hwk457, ?hyk457⟩) (by assumption) ?restk457
    case hik457 => simp only [List.getElem?_toArray, List.getElem?_cons_succ, List.getElem?_cons_zero]; exact rfl
    case hQk457 => exact fun _ _ _ h => h
    case hwk457 => rfl
    case hyk457 => ((intro w hSw; obtain ⟨c0, c1⟩ := cell2 hSw.one; go_simp) <;> with_reducible rfl)
    try simp only [Act.put, List.setIfInBounds_toArray, List.set_cons_zero, List.set_cons_succ]
    refine wpAnyH_take (i := 2) (oi := ?oik458) (v := ?vk458) ?hik458 (by kernel_rfl) (by kernel_rfl) (by kernel_rfl) ?hQk458 (Or.inl ⟨?hwk458, ?hyk458⟩) (by assumption) ?restk458
    case hik458 => simp only [List.getElem?_toArray, List.getElem?_cons_succ, List.getElem?_cons_zero]; exact rfl
    case hQk458 => exact fun _ _ _ h => h
    case hwk458 => rfl
    case hyk458 => ((intro w hSw; go_simp) <;> with_reducible rfl)
    try simp only [Act.put, List.setIfInBounds_toArray, List.set_cons_zero, List.set_cons_succ]
    refine wpAnyH_take (i := 3) (oi := ?oik459) (v := ?vk459) ?hik459 (by kernel_rfl) (by kernel_rfl) (by kernel_rfl) ?hQk459 (Or.inl ⟨?hwk459, ?hyk459⟩) (by assumption) ?restk459
    case hik459 => simp only [List.getElem?_toArray, List.getElem?_cons_succ, List.getElem?_cons_zero]; exact rfl
    case hQk459 => exact fun _ _ _ h => h
    case hwk459 => rfl
    case hyk459 => ((intro w hSw; obtain ⟨c0, c1, c2, c3⟩ := cfree4 hSw.two; go_simp) <;> with_reducible rfl)
    try simp only [Act.put, List.setIfInBounds_toArray, List.set_cons_zero, List.set_cons_succ]
    refine wpAnyH_take (i := 5) (oi := ?oik460) (v := ?vk460) ?hik460 (by kernel_rfl) (by kernel_rfl) (by kernel_rfl) ?hQk460 (Or.inl ⟨?hwk460, ?hyk460⟩) (by assumption) ?restk460
    case hik460 => simp only [List.getElem?_toArray, List.getElem?_cons_succ, List.getElem?_cons_zero]; exact rfl
    case hQk460 => exact fun _ _ _ h => h
    case hwk460 => rfl
    case hyk460 => ((intro w hSw; go_simp) <;> with_reducible rfl)
    try simp only [Act.put, List.setIfInBounds_toArray, List.set_cons_zero, List.set_cons_succ]
    refine wpAnyH_ready (rs := [1]) (by kernel_rfl) (by simp) ?_
    refine AllReadyH.cons (o := ?or461_1) ?hor461_1 (fun K hK => ?stepr461_1) (AllReadyH.nil)
    case hor461_1 => simp only [List.getElem?_toArray, List.getElem?_cons_succ, List.getElem?_cons_zero]; exact rfl
    case stepr461_1 =>
      go_simp
      refine (toBook_any A n c B m d za zb w1s (hls.later hK0.bel) hnm).mono ?_
      rintro e v464 ⟨g466, f467, rfl, _, _, _, hr468, hs469, hb465⟩
      have hx470 : BookIn v464 v464.heap.size (some ⟨g466, 0, none⟩) n (some ⟨f467, 0, none⟩) m za zb := ⟨Lst.of_row (sz := 4) (zs := za) (n := n) hr468 (Nat.le_refl _) hlA (fun _ _ => rfl), Lst.of_row (sz := 4) (zs := zb) (n := m) hs469 (Nat.le_refl _) hlB (fun _ _ => rfl)⟩
      clear hr468 hs469
      have hk463 := hK0.upto (Nat.le_refl _) hb465
      refine hK.out _ _ ?hSq462 (fun hHeld => ?restq462)
      case hSq462 => exact hk463
      clear hK K hb465 hK0
      try simp only [Act.put, List.setIfInBounds_toArray, List.set_cons_zero, List.set_cons_succ]
      refine wpAnyH_ready (rs := [4]) (by kernel_rfl) (by simp) ?_
      refine AllReadyH.cons (o := ?or471_4) ?hor471_4 (fun K hK => ?stepr471_4) (AllReadyH.nil)
      case hor471_4 => simp only [List.getElem?_toArray, List.getElem?_cons_succ, List.getElem?_cons_zero]; exact rfl
      case stepr471_4 =>
        go_simp
        refine (toOrder_any oi oa op oq v464).mono ?_
        rintro e v474 ⟨rfl, hb475⟩
        have hx476 := hx470.later hb475
        clear hx470
        have hk473 := hk463.upto (Nat.le_refl _) hb475
        refine hK.out _ _ ?hSq472 (fun hHeld => ?restq472)
        case hSq472 => exact hk473
        clear hK K hb475 hk463
        try simp only [Act.put, List.setIfInBounds_toArray, List.set_cons_zero, List.set_cons_succ]
        refine wpAnyH_ready (rs := [6]) (by kernel_rfl) (by simp) ?_
        refine AllReadyH.cons (o := ?or477_6) ?hor477_6 (fun K hK => ?stepr477_6) (AllReadyH.nil)
        case hor477_6 => simp only [List.getElem?_toArray, List.getElem?_cons_succ, List.getElem?_cons_zero]; exact rfl
        case stepr477_6 =>
          go_simp
          refine (HCS.out v474 g466 f467 hx476).mono ?_
          rintro e v480 ⟨rfl, hb481⟩
          clear hx476
          have hk479 := hk473.upto (Nat.le_refl _) hb481
          refine hK.out _ _ ?hSq478 (fun hHeld => ?restq478)
          case hSq478 => exact hk479
          clear hK K hb481 hk473
          try simp only [Act.put, List.setIfInBounds_toArray, List.set_cons_zero, List.set_cons_succ]
          refine wpAnyH_take (i := 7) (oi := ?oik482) (v := ?vk482) ?hik482 (by kernel_rfl) (by kernel_rfl) (by kernel_rfl) ?hQk482 (Or.inl ⟨?hwk482, ?hyk482⟩) (by assumption) ?restk482
          case hik482 => simp only [List.getElem?_toArray, List.getElem?_cons_succ, List.getElem?_cons_zero]; exact rfl
          case hQk482 => exact fun _ _ _ h => h
          case hwk482 => rfl
          case hyk482 => ((intro w hSw; go_simp) <;> with_reducible rfl)
          try simp only [Act.put, List.setIfInBounds_toArray, List.set_cons_zero, List.set_cons_succ]
          refine wpAnyH_done (by kernel_rfl) ?_ _
          go_wp2_with fail
          go_meet
          exact ⟨rfl, hk479⟩
  case rest =>
    clear hK0
    rename World => wa
    obtain ⟨rfl, hK0⟩ := hcut
    have Ha := hK0.one
    have Oa := hK0.two
    have lHa := heap_lt' Ha
    have lOa := heap_lt' Oa
    have hla := hl0.later hK0.bel
    have hBa := ord_later hB0 hK0.bel
    obtain ⟨p0, p1⟩ := cell2 Ha
    clear hK0 hl0 hB0 H0 O0 hs0 HCS
    go_wp2_with fail
    refine (toBook_any A n c B m d za zb _ hla hnm).mono ?_
    rintro e w3 ⟨g3, f3, rfl, hg3, hf3, hgf3, hr3, hs3, hb3⟩
    have hx3 : BookIn w3 w3.heap.size (some ⟨g3, 0, none⟩) n (some ⟨f3, 0, none⟩) m za zb := ⟨Lst.of_row (sz := 4) (zs := za) (n := n) hr3 (Nat.le_refl _) hlA (fun _ _ => rfl), Lst.of_row (sz := 4) (zs := zb) (n := m) hs3 (Nat.le_refl _) hlB (fun _ _ => rfl)⟩
    have HR3 := Lib.hid hr3
    have HS3 := Lib.hid hs3
    have lg3 := hr3.lt
    have lf3 := hs3.lt
    have D3 := hb3
    have Ob := (hb3.block _ lOa).trans Oa
    clear hb3 hr3 hs3 p0 p1
    have hbb : Below w3.heap.size w3 (w3.alloc (.cells #[.slice (some ⟨g3, 0, none⟩) n n, .slice (some ⟨f3, 0, none⟩) m m] 48)) := (Below.refl _ _).alloc (Nat.le_refl _) _
    have Xb := heap_alloc_new w3 (.cells #[.slice (some ⟨g3, 0, none⟩) n n, .slice (some ⟨f3, 0, none⟩) m m] 48)
    have lX := heap_lt' Xb
    have Ob := (hbb.block _ (heap_lt' Ob)).trans Ob
    have Db := ord_later D3 hbb
    have hxb := hx3.later hbb
    have HR3 := Lib.hid (HR3.out.of_block (hbb.block g3 lg3))
    have HS3 := Lib.hid (HS3.out.of_block (hbb.block f3 lf3))
    have hwab : wa.heap.size ≤ (w3.alloc (.cells #[.slice (some ⟨g3, 0, none⟩) n n, .slice (some ⟨f3, 0, none⟩) m m] 48)).heap.size := Nat.le_trans D3.size hbb.size
    have lg3 := Nat.lt_of_lt_of_le lg3 hbb.size
    have lf3 := Nat.lt_of_lt_of_le lf3 hbb.size
    clear hx3 D3 hbb
    go_wp2_with fail
    generalize (w3.alloc (.cells #[.slice (some ⟨g3, 0, none⟩) n n, .slice (some ⟨f3, 0, none⟩) m m] 48)) = wb at *
    have hK0 : Keeps wb.heap.size wb [(w.heap.size + 1, (.cells #[.int .i64 oi, .int .i64 oa, .int .i64 op, .int .i64 oq] 62)), (w3.heap.size, (.cells #[.slice (some ⟨g3, 0, none⟩) n n, .slice (some ⟨f3, 0, none⟩) m m] 48))] wb := ⟨Below.refl _ _, Nat.le_refl _, fun p hp => by
      simp only [List.mem_cons, List.not_mem_nil, or_false] at hp
      rcases hp with rfl | rfl
      · exact Ob
      · exact Xb⟩
    clear Ob
    go_upto_region 7 with fail
    go_cut [12] (fun s12 wx => s12 = .bool cb ∧ Keeps wb.heap.size wb [(w.heap.size + 1, (.cells #[.int .i64 oi, .int .i64 oa, .int .i64 op, .int .i64 oq] 62)), (w3.heap.size, (.cells #[.slice (some ⟨g3, 0, none⟩) n n, .slice (some ⟨f3, 0, none⟩) m m] 48))] wx)
    case first =>
      refine wp_region_held_drew (S := Keeps wb.heap.size wb [(w.heap.size + 1, (.cells #[.int .i64 oi, .int .i64 oa, .int .i64 op, .int .i64 oq] 62)), (w3.heap.size, (.cells #[.slice (some ⟨g3, 0, none⟩) n n, .slice (some ⟨f3, 0, none⟩) m m] 48))]) (by kernel_rfl) ?hSr7 (fun hHeld => ?restr7)
      case hSr7 => exact hK0.drew
      replace hK0 := hK0.drew
      have hls := hxb
      clear hHeld
      generalize hw1s : wb.drew = w1s at hK0 ⊢
      clear hw1s
      refine wpAnyH_take (i := 0) (oi := ?oik483) (v := ?vk483) ?hik483 (by kernel_rfl) (by kernel_rfl) (by kernel_rfl) ?hQk483 (Or.inl ⟨?hwk483, ?hyk483⟩) (by assumption) ?restk483
      case hik483 => simp only [List.getElem?_toArray, List.getElem?_cons_succ, List.getElem?_cons_zero]; exact rfl
      case hQk483 => exact fun _ _ _ h => h
      case hwk483 => rfl
      case hyk483 => ((intro w hSw; obtain ⟨c0, c1⟩ := cell2 hSw.two; go_simp) <;> with_reducible rfl)
      try simp only [Act.put, List.setIfInBounds_toArray, List.set_cons_zero, List.set_cons_succ]
      refine wpAnyH_take (i := 1) (oi := ?oik484) (v := ?vk484) ?hik484 (by kernel_rfl) (by kernel_rfl) (by kernel_rfl) ?hQk484 (Or.inl ⟨?hwk484, ?hyk484⟩) (by assumption) ?restk484
      case hik484 => simp only [List.getElem?_toArray, List.getElem?_cons_succ, List.getElem?_cons_zero]; exact rfl
      case hQk484 => exact fun _ _ _ h => h
      case hwk484 => rfl
      case hyk484 => ((intro w hSw; go_simp) <;> with_reducible rfl)
      try simp only [Act.put, List.setIfInBounds_toArray, List.set_cons_zero, List.set_cons_succ]
      refine wpAnyH_take (i := 2) (oi := ?oik485) (v := ?vk485) ?hik485 (by kernel_rfl) (by kernel_rfl) (by kernel_rfl) ?hQk485 (Or.inl ⟨?hwk485, ?hyk485⟩) (by assumption) ?restk485
      case hik485 => simp only [List.getElem?_toArray, List.getElem?_cons_succ, List.getElem?_cons_zero]; exact rfl
      case hQk485 => exact fun _ _ _ h => h
      case hwk485 => rfl
      case hyk485 => ((intro w hSw; obtain ⟨c0, c1, c2, c3⟩ := cfree4 hSw.one; go_simp) <;> with_reducible rfl)
      try simp only [Act.put, List.setIfInBounds_toArray, List.set_cons_zero, List.set_cons_succ]
      refine wpAnyH_take (i := 4) (oi := ?oik486) (v := ?vk486) ?hik486 (by kernel_rfl) (by kernel_rfl) (by kernel_rfl) ?hQk486 (Or.inl ⟨?hwk486, ?hyk486⟩) (by assumption) ?restk486
      case hik486 => simp only [List.getElem?_toArray, List.getElem?_cons_succ, List.getElem?_cons_zero]; exact rfl
      case hQk486 => exact fun _ _ _ h => h
      case hwk486 => rfl
      case hyk486 => ((intro w hSw; go_simp) <;> with_reducible rfl)
      try simp only [Act.put, List.setIfInBounds_toArray, List.set_cons_zero, List.set_cons_succ]
      refine wpAnyH_ready (rs := [3]) (by kernel_rfl) (by simp) ?_
      refine AllReadyH.cons (o := ?or487_3) ?hor487_3 (fun K hK => ?stepr487_3) (AllReadyH.nil)
      case hor487_3 => simp only [List.getElem?_toArray, List.getElem?_cons_succ, List.getElem?_cons_zero]; exact rfl
      case stepr487_3 =>
        go_simp
        refine (toOrder_any oi oa op oq w1s).mono ?_
        rintro e v490 ⟨rfl, hb491⟩
        have hk489 := hK0.upto (Nat.le_refl _) hb491
        refine hK.out _ _ ?hSq488 (fun hHeld => ?restq488)
        case hSq488 => exact hk489
        clear hK K hb491 hK0
        try simp only [Act.put, List.setIfInBounds_toArray, List.set_cons_zero, List.set_cons_succ]
        refine wpAnyH_ready (rs := [5]) (by kernel_rfl) (by simp) ?_
        refine AllReadyH.cons (o := ?or492_5) ?hor492_5 (fun K hK => ?stepr492_5) (AllReadyH.nil)
        case hor492_5 => simp only [List.getElem?_toArray, List.getElem?_cons_succ, List.getElem?_cons_zero]; exact rfl
        case stepr492_5 =>
          go_simp
          refine (HCI.out v490 g3 f3 (hxb.later hk489.bel)).mono ?_
          rintro e v495 ⟨rfl, hb496⟩
          have hk494 := hk489.upto (Nat.le_refl _) hb496
          refine hK.out _ _ ?hSq493 (fun hHeld => ?restq493)
          case hSq493 => exact hk494
          clear hK K hb496 hk489
          try simp only [Act.put, List.setIfInBounds_toArray, List.set_cons_zero, List.set_cons_succ]
          refine wpAnyH_take (i := 6) (oi := ?oik497) (v := ?vk497) ?hik497 (by kernel_rfl) (by kernel_rfl) (by kernel_rfl) ?hQk497 (Or.inl ⟨?hwk497, ?hyk497⟩) (by assumption) ?restk497
          case hik497 => simp only [List.getElem?_toArray, List.getElem?_cons_succ, List.getElem?_cons_zero]; exact rfl
          case hQk497 => exact fun _ _ _ h => h
          case hwk497 => rfl
          case hyk497 => ((intro w hSw; go_simp) <;> with_reducible rfl)
          try simp only [Act.put, List.setIfInBounds_toArray, List.set_cons_zero, List.set_cons_succ]
          refine wpAnyH_done (by kernel_rfl) ?_ _
          go_wp2_with fail
          go_meet
          exact ⟨rfl, hk494⟩
    case rest =>
      clear hK0
      rename World => w4
      obtain ⟨rfl, hK0⟩ := hcut
      have X4 := hK0.two
      have lX4 := heap_lt' X4
      have hx4 := hxb.later hK0.bel
      have D4 := ord_later Db hK0.bel
      have H4 := (D4.block _ lHa).trans Ha
      have hl4 := hla.later D4
      clear hK0 hxb Db Xb lX
      obtain ⟨p0, p1⟩ := cell2 H4
      obtain ⟨q0, q1⟩ := cell2 X4
      have hd4 : Below w4.heap.size w4 w4.drew := (Below.refl _ _).drew
      have hl4d := hl4.later hd4
      have hx4d := hx4.later hd4
      clear hl4 hx4
      go_upto_region 10 with fail
      refine wp_region_held_drew (S := (fun w' => Below w4.heap.size w4 w' ∧ w'.cell? ⟨w.heap.size, 0, none⟩ = some (.slice A n c) ∧ w'.cell? ⟨w.heap.size, 1, none⟩ = some (.slice B m d) ∧ w'.cell? ⟨w3.heap.size, 0, none⟩ = some (.slice (some ⟨g3, 0, none⟩) n n) ∧ w'.cell? ⟨w3.heap.size, 1, none⟩ = some (.slice (some ⟨f3, 0, none⟩) m m))) (by kernel_rfl) ?hSq3xs (fun hHeld => ?restq3xs)
      case hSq3xs => ((first | assumption | ((((try dsimp only); repeat' apply And.intro) <;> (first | assumption | (refine below_later ?_ (by assumption); first | assumption | (simp only [*]; done) | (go_grown; done)) | (refine cell_later (by assumption) ?_; first | assumption | (simp only [*]; done) | (simp [go_sem]; done)) | (go_grown; done) | (simp [go_sem]; done))))))
      refine wpAnyH_take (i := 0) (oi := ?oiq3x1) (v := ?vq3x1) ?hiq3x1 (by kernel_rfl) (by kernel_rfl) (by kernel_rfl) ?hQq3x1 (Or.inl ⟨?hwq3x1, ?hyq3x1⟩) (by assumption) ?restq3x1
      case hiq3x1 => simp only [List.getElem?_toArray, List.getElem?_cons_succ, List.getElem?_cons_zero]; exact rfl
      case hQq3x1 => exact fun _ _ _ h => h
      case hwq3x1 => rfl
      case hyq3x1 => ((intro w hSw; (try dsimp only at hSw); go_simp) <;> with_reducible rfl)
      try simp only [Act.put, List.setIfInBounds_toArray, List.set_cons_zero, List.set_cons_succ]
      refine wpAnyH_take (i := 1) (oi := ?oiq3x2) (v := ?vq3x2) ?hiq3x2 (by kernel_rfl) (by kernel_rfl) (by kernel_rfl) ?hQq3x2 (Or.inl ⟨?hwq3x2, ?hyq3x2⟩) (by assumption) ?restq3x2
      case hiq3x2 => simp only [List.getElem?_toArray, List.getElem?_cons_succ, List.getElem?_cons_zero]; exact rfl
      case hQq3x2 => exact fun _ _ _ h => h
      case hwq3x2 => rfl
      case hyq3x2 => ((intro w hSw; (try dsimp only at hSw); go_simp) <;> with_reducible rfl)
      try simp only [Act.put, List.setIfInBounds_toArray, List.set_cons_zero, List.set_cons_succ]
      refine wpAnyH_ready (rs := [2]) (by kernel_rfl) (by simp) ?_
      refine AllReadyH.cons (o := ?oq3x3) ?hoq3x3 (fun K hK => ?stepq3x3) ?moreq3x3
      case hoq3x3 => simp only [List.getElem?_toArray, List.getElem?_cons_succ, List.getElem?_cons_zero]; exact rfl
      case moreq3x3 => exact AllReadyH.nil
      go_simp
      (go_at_call 35; refine (toBook_any A n c B m d za zb _ hl4d hnm).mono ?_; rintro e w5 ⟨g5, f5, rfl, _, _, _, hr5, hs5, hb5⟩; have hx5 : BookIn w5 w5.heap.size (some ⟨g5, 0, none⟩) n (some ⟨f5, 0, none⟩) m za zb := ⟨Lst.of_row (sz := 4) (zs := za) (n := n) hr5 (Nat.le_refl _) hlA (fun _ _ => rfl), Lst.of_row (sz := 4) (zs := zb) (n := m) hs5 (Nat.le_refl _) hlB (fun _ _ => rfl)⟩)
      refine hK.out _ _ ?hSq3x3 (fun hHeld => ?restq3x3)
      case hSq3x3 => ((first | assumption | ((((try dsimp only); repeat' apply And.intro) <;> (first | assumption | (refine below_later ?_ (by assumption); first | assumption | (simp only [*]; done) | (go_grown; done)) | (refine cell_later (by assumption) ?_; first | assumption | (simp only [*]; done) | (simp [go_sem]; done)) | (go_grown; done) | (simp [go_sem]; done))))))
      clear hK K
      try simp only [Act.put, List.setIfInBounds_toArray, List.set_cons_zero, List.set_cons_succ]
      refine wpAnyH_ready (rs := [3]) (by kernel_rfl) (by simp) ?_
      refine AllReadyH.cons (o := ?oq3x4) ?hoq3x4 (fun K hK => ?stepq3x4) ?moreq3x4
      case hoq3x4 => simp only [List.getElem?_toArray, List.getElem?_cons_succ, List.getElem?_cons_zero]; exact rfl
      case moreq3x4 => exact AllReadyH.nil
      go_simp
      (go_at_call 38; refine (eqBook_same _ _ _ _ n m _ _ _ _ za zb w5 (hx4d.later hb5) hx5 hn1 hm1).mono ?_; rintro e w6 ⟨rfl, hb6⟩)
      refine hK.out _ _ ?hSq3x4 (fun hHeld => ?restq3x4)
      case hSq3x4 => ((first | assumption | ((((try dsimp only); repeat' apply And.intro) <;> (first | assumption | (refine below_later ?_ (by assumption); first | assumption | (simp only [*]; done) | (go_grown; done)) | (refine cell_later (by assumption) ?_; first | assumption | (simp only [*]; done) | (simp [go_sem]; done)) | (go_grown; done) | (simp [go_sem]; done))))))
      clear hK K
      try simp only [Act.put, List.setIfInBounds_toArray, List.set_cons_zero, List.set_cons_succ]
      refine wpAnyH_take (i := 4) (oi := ?oiq3x5) (v := ?vq3x5) ?hiq3x5 (by kernel_rfl) (by kernel_rfl) (by kernel_rfl) ?hQq3x5 (Or.inl ⟨?hwq3x5, ?hyq3x5⟩) (by assumption) ?restq3x5
      case hiq3x5 => simp only [List.getElem?_toArray, List.getElem?_cons_succ, List.getElem?_cons_zero]; exact rfl
      case hQq3x5 => exact fun _ _ _ h => h
      case hwq3x5 => rfl
      case hyq3x5 => ((intro w hSw; (try dsimp only at hSw); go_simp) <;> with_reducible rfl)
      try simp only [Act.put, List.setIfInBounds_toArray, List.set_cons_zero, List.set_cons_succ]
      refine wpAnyH_done (by kernel_rfl) ?_ _
      have hfin := ord_later D4 hHeld.1
      clear hHeld
      go_wp2_with fail
      go_ret
      exact ⟨by first | rfl | simp, ord_later hBa hfin⟩
end Go.Proofs.Ythmoddohkchhfaa
