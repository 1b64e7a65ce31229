/-
  The exact law of Behind.
-/
import Derived.Test.YteeggjjjjnebgaaBeh
import Derived.Test.YteeggjjjjnebgaaKeep
namespace Go.Proofs.Yteeggjjjjnebgaa
open Go.RowKit Wire

set_option linter.unusedSimpArgs false in
set_option maxHeartbeats 3200000 in
set_option maxRecDepth 100000 in
theorem law_Behind (o h l c q z o' h' l' c' q' z' : Int) (w : World) :
    Calls Try.prog 8 #[.agg #[.int .i64 o, .int .i64 h, .int .i64 l, .int .i64 c, .int .i64 q, .int .i64 z], .agg #[.int .i64 o', .int .i64 h', .int .i64 l', .int .i64 c', .int .i64 q', .int .i64 z']] w fun x w' => x = .returned (.bool true) ∧ Below w.heap.size w w' := by
  obtain ⟨u0, u1, u2, u3, u4, u5, ub, hv⟩ : ∃ (u0 u1 u2 u3 u4 u5 : Int) (ub : Bool), behV o h l c q z o' h' l' c' q' z' = .tuple #[.agg #[.int .i64 u0, .int .i64 u1, .int .i64 u2, .int .i64 u3, .int .i64 u4, .int .i64 u5], .bool ub] := ⟨_, _, _, _, _, _, _, rfl⟩
  have hs := fun w => spec_Behind o h l c q z o' h' l' c' q' z' w
  have hi := fun w => impl_Behind o h l c q z o' h' l' c' q' z' w
  rw [hv] at hs hi
  have HS := Lib.hid hs
  have HI := Lib.hid hi
  clear hs hi hv
  obtain ⟨b0, b1⟩ := two_blocks w (.cells #[.int .i64 o, .int .i64 h, .int .i64 l, .int .i64 c, .int .i64 q, .int .i64 z] 52) (.cells #[.int .i64 o', .int .i64 h', .int .i64 l', .int .i64 c', .int .i64 q', .int .i64 z'] 52)
  have hK0 : Keeps w.heap.size w [(w.heap.size, (.cells #[.int .i64 o, .int .i64 h, .int .i64 l, .int .i64 c, .int .i64 q, .int .i64 z] 52)), (w.heap.size + 1, (.cells #[.int .i64 o', .int .i64 h', .int .i64 l', .int .i64 c', .int .i64 q', .int .i64 z'] 52))] ((w.alloc (.cells #[.int .i64 o, .int .i64 h, .int .i64 l, .int .i64 c, .int .i64 q, .int .i64 z] 52)).alloc (.cells #[.int .i64 o', .int .i64 h', .int .i64 l', .int .i64 c', .int .i64 q', .int .i64 z'] 52)) := ⟨((Below.refl _ _).alloc (Nat.le_refl _) _).alloc (by simp) _, by simp; omega, fun p hp => by
    simp only [List.mem_cons, List.not_mem_nil, or_false] at hp
    rcases hp with rfl | rfl
    · exact b0
    · exact b1⟩
  clear b0 b1
  go_enter Try.func8, Try.ntmps8
  go_upto_region 1 with fail
  generalize (w.alloc (.cells #[.int .i64 o, .int .i64 h, .int .i64 l, .int .i64 c, .int .i64 q, .int .i64 z] 52)).alloc (.cells #[.int .i64 o', .int .i64 h', .int .i64 l', .int .i64 c', .int .i64 q', .int .i64 z'] 52) = w0 at *
  go_cut [5, 6] (fun s5 s6 wx => ∃ G, s5 = .pointer (some ⟨G, 0, none⟩) ∧ s6 = .bool ub ∧ Keeps w.heap.size w [(G, (.cells #[.int .i64 u0, .int .i64 u1, .int .i64 u2, .int .i64 u3, .int .i64 u4, .int .i64 u5] 46)), (w.heap.size, (.cells #[.int .i64 o, .int .i64 h, .int .i64 l, .int .i64 c, .int .i64 q, .int .i64 z] 52)), (w.heap.size + 1, (.cells #[.int .i64 o', .int .i64 h', .int .i64 l', .int .i64 c', .int .i64 q', .int .i64 z'] 52))] wx)
  case first =>
    refine wp_region_held_drew (S := Keeps w.heap.size w [(w.heap.size, (.cells #[.int .i64 o, .int .i64 h, .int .i64 l, .int .i64 c, .int .i64 q, .int .i64 z] 52)), (w.heap.size + 1, (.cells #[.int .i64 o', .int .i64 h', .int .i64 l', .int .i64 c', .int .i64 q', .int .i64 z'] 52))]) (by kernel_rfl) ?hSr1 (fun hHeld => ?restr1)
    case hSr1 => exact hK0.drew
    replace hK0 := hK0.drew
    generalize w0.drew = w1 at *
    refine wpAnyH_take (i := 0) (oi := ?oik1) (v := ?vk1) ?hik1 (by kernel_rfl) (by kernel_rfl) (by kernel_rfl) ?hQk1 (Or.inl ⟨?hwk1, ?hyk1⟩) (by assumption) ?restk1
    case hik1 => simp only [List.getElem?_toArray, List.getElem?_cons_succ, List.getElem?_cons_zero]; exact rfl
    case hQk1 => exact fun _ _ _ h => h
    case hwk1 => rfl
    case hyk1 => ((intro w hSw; obtain ⟨c0, c1, c2, c3, c4, c5⟩ := cell6 hSw.one; go_simp) <;> with_reducible rfl)
    try simp only [Act.put, List.setIfInBounds_toArray, List.set_cons_zero, List.set_cons_succ]
    refine wpAnyH_take (i := 2) (oi := ?oik2) (v := ?vk2) ?hik2 (by kernel_rfl) (by kernel_rfl) (by kernel_rfl) ?hQk2 (Or.inl ⟨?hwk2, ?hyk2⟩) (by assumption) ?restk2
    case hik2 => simp only [List.getElem?_toArray, List.getElem?_cons_succ, List.getElem?_cons_zero]; exact rfl
    case hQk2 => exact fun _ _ _ h => h
    case hwk2 => rfl
    case hyk2 => ((intro w hSw; obtain ⟨c0, c1, c2, c3, c4, c5⟩ := cell6 hSw.two; go_simp) <;> with_reducible rfl)
    try simp only [Act.put, List.setIfInBounds_toArray, List.set_cons_zero, List.set_cons_succ]
    refine wpAnyH_ready (rs := [1, 8]) (by kernel_rfl) (by simp) ?_
    refine AllReadyH.cons (o := ?or3_1) ?hor3_1 (fun K hK => ?stepr3_1) (AllReadyH.cons (o := ?or3_8) ?hor3_8 (fun K hK => ?stepr3_8) (AllReadyH.nil))
    case hor3_1 => simp only [List.getElem?_toArray, List.getElem?_cons_succ, List.getElem?_cons_zero]; exact rfl
    case hor3_8 => simp only [List.getElem?_toArray, List.getElem?_cons_succ, List.getElem?_cons_zero]; exact rfl
    case stepr3_1 =>
      go_simp
      refine (toCandle_any o h l c q z w1).mono ?_
      rintro e v5 ⟨rfl, hb6⟩
      have hk7 := hK0.upto (Nat.le_refl _) hb6
      refine hK.out _ _ ?hSq4 (fun hHeld => ?restq4)
      case hSq4 => exact hk7
      clear hK K hb6 hK0
      try simp only [Act.put, List.setIfInBounds_toArray, List.set_cons_zero, List.set_cons_succ]
      refine wpAnyH_ready (rs := [3, 8]) (by kernel_rfl) (by simp) ?_
      refine AllReadyH.cons (o := ?or8_3) ?hor8_3 (fun K hK => ?stepr8_3) (AllReadyH.cons (o := ?or8_8) ?hor8_8 (fun K hK => ?stepr8_8) (AllReadyH.nil))
      case hor8_3 => simp only [List.getElem?_toArray, List.getElem?_cons_succ, List.getElem?_cons_zero]; exact rfl
      case hor8_8 => simp only [List.getElem?_toArray, List.getElem?_cons_succ, List.getElem?_cons_zero]; exact rfl
      case stepr8_3 =>
        go_simp
        refine (toCandle_any o' h' l' c' q' z' v5).mono ?_
        rintro e v10 ⟨rfl, hb11⟩
        have hk12 := hk7.upto (Nat.le_refl _) hb11
        refine hK.out _ _ ?hSq9 (fun hHeld => ?restq9)
        case hSq9 => exact hk12
        clear hK K hb11 hk7
        try simp only [Act.put, List.setIfInBounds_toArray, List.set_cons_zero, List.set_cons_succ]
        refine wpAnyH_ready (rs := [4, 8]) (by kernel_rfl) (by simp) ?_
        refine AllReadyH.cons (o := ?or13_4) ?hor13_4 (fun K hK => ?stepr13_4) (AllReadyH.cons (o := ?or13_8) ?hor13_8 (fun K hK => ?stepr13_8) (AllReadyH.nil))
        case hor13_4 => simp only [List.getElem?_toArray, List.getElem?_cons_succ, List.getElem?_cons_zero]; exact rfl
        case hor13_8 => simp only [List.getElem?_toArray, List.getElem?_cons_succ, List.getElem?_cons_zero]; exact rfl
        case stepr13_4 =>
          go_simp
          refine (HS.out v10).mono ?_
          rintro e v15 ⟨rfl, hb16⟩
          have hk17 := hk12.upto (Nat.le_refl _) hb16
          refine hK.out _ _ ?hSq14 (fun hHeld => ?restq14)
          case hSq14 => exact hk17
          clear hK K hb16 hk12
          try simp only [Act.put, List.setIfInBounds_toArray, List.set_cons_zero, List.set_cons_succ]
          refine wpAnyH_take (i := 5) (oi := ?oik18) (v := ?vk18) ?hik18 (by kernel_rfl) (by kernel_rfl) (by kernel_rfl) ?hQk18 (Or.inl ⟨?hwk18, ?hyk18⟩) (by assumption) ?restk18
          case hik18 => simp only [List.getElem?_toArray, List.getElem?_cons_succ, List.getElem?_cons_zero]; exact rfl
          case hQk18 => exact fun _ _ _ h => h
          case hwk18 => rfl
          case hyk18 => ((intro w hSw; go_simp) <;> with_reducible rfl)
          try simp only [Act.put, List.setIfInBounds_toArray, List.set_cons_zero, List.set_cons_succ]
          refine wpAnyH_take (i := 6) (oi := ?oik19) (v := ?vk19) ?hik19 (by kernel_rfl) (by kernel_rfl) (by kernel_rfl) ?hQk19 (Or.inl ⟨?hwk19, ?hyk19⟩) (by assumption) ?restk19
          case hik19 => simp only [List.getElem?_toArray, List.getElem?_cons_succ, List.getElem?_cons_zero]; exact rfl
          case hQk19 => exact fun _ _ _ h => h
          case hwk19 => rfl
          case hyk19 => ((intro w hSw; go_simp) <;> with_reducible rfl)
          try simp only [Act.put, List.setIfInBounds_toArray, List.set_cons_zero, List.set_cons_succ]
          refine wpAnyH_take (i := 7) (oi := ?oik20) (v := ?vk20) ?hik20 (by kernel_rfl) (by kernel_rfl) (by kernel_rfl) ?hQk20 (Or.inl ⟨?hwk20, ?hyk20⟩) (by assumption) ?restk20
          case hik20 => simp only [List.getElem?_toArray, List.getElem?_cons_succ, List.getElem?_cons_zero]; exact rfl
          case hQk20 => exact fun _ _ _ h => h
          case hwk20 => rfl
          case hyk20 => ((intro w hSw; go_simp) <;> with_reducible rfl)
          try simp only [Act.put, List.setIfInBounds_toArray, List.set_cons_zero, List.set_cons_succ]
          refine wpAnyH_ready (rs := [8]) (by kernel_rfl) (by simp) ?_
          refine AllReadyH.cons (o := ?or21_8) ?hor21_8 (fun K hK => ?stepr21_8) (AllReadyH.nil)
          case hor21_8 => simp only [List.getElem?_toArray, List.getElem?_cons_succ, List.getElem?_cons_zero]; exact rfl
          case stepr21_8 =>
            go_simp
            have hk24 := hk17.upto (Nat.le_refl _) ((Below.refl _ _).alloc (Nat.le_refl _) (.cells #[.int .i64 0, .int .i64 0, .int .i64 0, .int .i64 0, .int .i64 0, .int .i64 0] 46))
            have hg26 := heap_alloc_new v15 (.cells #[.int .i64 0, .int .i64 0, .int .i64 0, .int .i64 0, .int .i64 0, .int .i64 0] 46)
            have hz27 := hk17.lo
            refine hK.out _ _ ?hSq22 (fun hHeld => ?restq22)
            case hSq22 => exact hk24
            clear hK K hk17
            try simp only [Act.put, List.setIfInBounds_toArray, List.set_cons_zero, List.set_cons_succ]
            generalize v15.alloc (.cells #[.int .i64 0, .int .i64 0, .int .i64 0, .int .i64 0, .int .i64 0, .int .i64 0] 46) = v23 at *
            generalize v15.heap.size = G25 at *
            refine wpAnyH_ready (rs := [9]) (by kernel_rfl) (by simp) ?_
            refine AllReadyH.cons (o := ?or28_9) ?hor28_9 (fun K hK => ?stepr28_9) (AllReadyH.nil)
            case hor28_9 => simp only [List.getElem?_toArray, List.getElem?_cons_succ, List.getElem?_cons_zero]; exact rfl
            case stepr28_9 =>
              obtain ⟨c0, c1, c2, c3, c4, c5⟩ := cell6 hg26
              obtain ⟨f0, f1, f2, f3, f4, f5⟩ := free6 hg26
              go_simp
              have hk30 := hk24.upto' (by assumption) (below6 (B := G25) (Below.refl G25 v23) (Nat.le_refl _) (.int .i64 u0) (.int .i64 u1) (.int .i64 u2) (.int .i64 u3) (.int .i64 u4) (.int .i64 u5))
              have hput := put6 (u0 := .int .i64 u0) (u1 := .int .i64 u1) (u2 := .int .i64 u2) (u3 := .int .i64 u3) (u4 := .int .i64 u4) (u5 := .int .i64 u5) hg26
              refine hK.out _ _ ?hSq29 (fun hHeld => ?restq29)
              case hSq29 => exact hk30
              clear hK K hk24
              try simp only [Act.put, List.setIfInBounds_toArray, List.set_cons_zero, List.set_cons_succ]
              refine wpAnyH_take (i := 10) (oi := ?oik32) (v := ?vk32) ?hik32 (by kernel_rfl) (by kernel_rfl) (by kernel_rfl) ?hQk32 (Or.inl ⟨?hwk32, ?hyk32⟩) (by assumption) ?restk32
              case hik32 => simp only [List.getElem?_toArray, List.getElem?_cons_succ, List.getElem?_cons_zero]; exact rfl
              case hQk32 => exact fun _ _ _ h => h
              case hwk32 => rfl
              case hyk32 => ((intro w hSw; go_simp) <;> with_reducible rfl)
              try simp only [Act.put, List.setIfInBounds_toArray, List.set_cons_zero, List.set_cons_succ]
              refine wpAnyH_done (by kernel_rfl) ?_ _
              go_wp2_with fail
              go_meet
              exact ⟨_, rfl, rfl, (hk30).more hput⟩
        case stepr13_8 =>
          go_simp
          have hk35 := hk12.upto (Nat.le_refl _) ((Below.refl _ _).alloc (Nat.le_refl _) (.cells #[.int .i64 0, .int .i64 0, .int .i64 0, .int .i64 0, .int .i64 0, .int .i64 0] 46))
          have hg37 := heap_alloc_new v10 (.cells #[.int .i64 0, .int .i64 0, .int .i64 0, .int .i64 0, .int .i64 0, .int .i64 0] 46)
          have hz38 := hk12.lo
          refine hK.out _ _ ?hSq33 (fun hHeld => ?restq33)
          case hSq33 => exact hk35
          clear hK K hk12
          try simp only [Act.put, List.setIfInBounds_toArray, List.set_cons_zero, List.set_cons_succ]
          generalize v10.alloc (.cells #[.int .i64 0, .int .i64 0, .int .i64 0, .int .i64 0, .int .i64 0, .int .i64 0] 46) = v34 at *
          generalize v10.heap.size = G36 at *
          refine wpAnyH_ready (rs := [4]) (by kernel_rfl) (by simp) ?_
          refine AllReadyH.cons (o := ?or39_4) ?hor39_4 (fun K hK => ?stepr39_4) (AllReadyH.nil)
          case hor39_4 => simp only [List.getElem?_toArray, List.getElem?_cons_succ, List.getElem?_cons_zero]; exact rfl
          case stepr39_4 =>
            go_simp
            refine (HS.out v34).mono ?_
            rintro e v41 ⟨rfl, hb42⟩
            have hk43 := hk35.upto (Nat.le_refl _) hb42
            have hg44 := (hb42.block G36 (heap_lt' hg37)).trans hg37
            clear hg37
            refine hK.out _ _ ?hSq40 (fun hHeld => ?restq40)
            case hSq40 => exact hk43
            clear hK K hb42 hk35
            try simp only [Act.put, List.setIfInBounds_toArray, List.set_cons_zero, List.set_cons_succ]
            refine wpAnyH_take (i := 5) (oi := ?oik45) (v := ?vk45) ?hik45 (by kernel_rfl) (by kernel_rfl) (by kernel_rfl) ?hQk45 (Or.inl ⟨?hwk45, ?hyk45⟩) (by assumption) ?restk45
            case hik45 => simp only [List.getElem?_toArray, List.getElem?_cons_succ, List.getElem?_cons_zero]; exact rfl
            case hQk45 => exact fun _ _ _ h => h
            case hwk45 => rfl
            case hyk45 => ((intro w hSw; go_simp) <;> with_reducible rfl)
            try simp only [Act.put, List.setIfInBounds_toArray, List.set_cons_zero, List.set_cons_succ]
            refine wpAnyH_take (i := 6) (oi := ?oik46) (v := ?vk46) ?hik46 (by kernel_rfl) (by kernel_rfl) (by kernel_rfl) ?hQk46 (Or.inl ⟨?hwk46, ?hyk46⟩) (by assumption) ?restk46
            case hik46 => simp only [List.getElem?_toArray, List.getElem?_cons_succ, List.getElem?_cons_zero]; exact rfl
            case hQk46 => exact fun _ _ _ h => h
            case hwk46 => rfl
            case hyk46 => ((intro w hSw; go_simp) <;> with_reducible rfl)
            try simp only [Act.put, List.setIfInBounds_toArray, List.set_cons_zero, List.set_cons_succ]
            refine wpAnyH_take (i := 7) (oi := ?oik47) (v := ?vk47) ?hik47 (by kernel_rfl) (by kernel_rfl) (by kernel_rfl) ?hQk47 (Or.inl ⟨?hwk47, ?hyk47⟩) (by assumption) ?restk47
            case hik47 => simp only [List.getElem?_toArray, List.getElem?_cons_succ, List.getElem?_cons_zero]; exact rfl
            case hQk47 => exact fun _ _ _ h => h
            case hwk47 => rfl
            case hyk47 => ((intro w hSw; go_simp) <;> with_reducible rfl)
            try simp only [Act.put, List.setIfInBounds_toArray, List.set_cons_zero, List.set_cons_succ]
            refine wpAnyH_ready (rs := [9]) (by kernel_rfl) (by simp) ?_
            refine AllReadyH.cons (o := ?or48_9) ?hor48_9 (fun K hK => ?stepr48_9) (AllReadyH.nil)
            case hor48_9 => simp only [List.getElem?_toArray, List.getElem?_cons_succ, List.getElem?_cons_zero]; exact rfl
            case stepr48_9 =>
              obtain ⟨c0, c1, c2, c3, c4, c5⟩ := cell6 hg44
              obtain ⟨f0, f1, f2, f3, f4, f5⟩ := free6 hg44
              go_simp
              have hk50 := hk43.upto' (by assumption) (below6 (B := G36) (Below.refl G36 v41) (Nat.le_refl _) (.int .i64 u0) (.int .i64 u1) (.int .i64 u2) (.int .i64 u3) (.int .i64 u4) (.int .i64 u5))
              have hput := put6 (u0 := .int .i64 u0) (u1 := .int .i64 u1) (u2 := .int .i64 u2) (u3 := .int .i64 u3) (u4 := .int .i64 u4) (u5 := .int .i64 u5) hg44
              refine hK.out _ _ ?hSq49 (fun hHeld => ?restq49)
              case hSq49 => exact hk50
              clear hK K hk43
              try simp only [Act.put, List.setIfInBounds_toArray, List.set_cons_zero, List.set_cons_succ]
              refine wpAnyH_take (i := 10) (oi := ?oik52) (v := ?vk52) ?hik52 (by kernel_rfl) (by kernel_rfl) (by kernel_rfl) ?hQk52 (Or.inl ⟨?hwk52, ?hyk52⟩) (by assumption) ?restk52
              case hik52 => simp only [List.getElem?_toArray, List.getElem?_cons_succ, List.getElem?_cons_zero]; exact rfl
              case hQk52 => exact fun _ _ _ h => h
              case hwk52 => rfl
              case hyk52 => ((intro w hSw; go_simp) <;> with_reducible rfl)
              try simp only [Act.put, List.setIfInBounds_toArray, List.set_cons_zero, List.set_cons_succ]
              refine wpAnyH_done (by kernel_rfl) ?_ _
              go_wp2_with fail
              go_meet
              exact ⟨_, rfl, rfl, (hk50).more hput⟩
      case stepr8_8 =>
        go_simp
        have hk55 := hk7.upto (Nat.le_refl _) ((Below.refl _ _).alloc (Nat.le_refl _) (.cells #[.int .i64 0, .int .i64 0, .int .i64 0, .int .i64 0, .int .i64 0, .int .i64 0] 46))
        have hg57 := heap_alloc_new v5 (.cells #[.int .i64 0, .int .i64 0, .int .i64 0, .int .i64 0, .int .i64 0, .int .i64 0] 46)
        have hz58 := hk7.lo
        refine hK.out _ _ ?hSq53 (fun hHeld => ?restq53)
        case hSq53 => exact hk55
        clear hK K hk7
        try simp only [Act.put, List.setIfInBounds_toArray, List.set_cons_zero, List.set_cons_succ]
        generalize v5.alloc (.cells #[.int .i64 0, .int .i64 0, .int .i64 0, .int .i64 0, .int .i64 0, .int .i64 0] 46) = v54 at *
        generalize v5.heap.size = G56 at *
        refine wpAnyH_ready (rs := [3]) (by kernel_rfl) (by simp) ?_
        refine AllReadyH.cons (o := ?or59_3) ?hor59_3 (fun K hK => ?stepr59_3) (AllReadyH.nil)
        case hor59_3 => simp only [List.getElem?_toArray, List.getElem?_cons_succ, List.getElem?_cons_zero]; exact rfl
        case stepr59_3 =>
          go_simp
          refine (toCandle_any o' h' l' c' q' z' v54).mono ?_
          rintro e v61 ⟨rfl, hb62⟩
          have hk63 := hk55.upto (Nat.le_refl _) hb62
          have hg64 := (hb62.block G56 (heap_lt' hg57)).trans hg57
          clear hg57
          refine hK.out _ _ ?hSq60 (fun hHeld => ?restq60)
          case hSq60 => exact hk63
          clear hK K hb62 hk55
          try simp only [Act.put, List.setIfInBounds_toArray, List.set_cons_zero, List.set_cons_succ]
          refine wpAnyH_ready (rs := [4]) (by kernel_rfl) (by simp) ?_
          refine AllReadyH.cons (o := ?or65_4) ?hor65_4 (fun K hK => ?stepr65_4) (AllReadyH.nil)
          case hor65_4 => simp only [List.getElem?_toArray, List.getElem?_cons_succ, List.getElem?_cons_zero]; exact rfl
          case stepr65_4 =>
            go_simp
            refine (HS.out v61).mono ?_
            rintro e v67 ⟨rfl, hb68⟩
            have hk69 := hk63.upto (Nat.le_refl _) hb68
            have hg70 := (hb68.block G56 (heap_lt' hg64)).trans hg64
            clear hg64
            refine hK.out _ _ ?hSq66 (fun hHeld => ?restq66)
            case hSq66 => exact hk69
            clear hK K hb68 hk63
            try simp only [Act.put, List.setIfInBounds_toArray, List.set_cons_zero, List.set_cons_succ]
            refine wpAnyH_take (i := 5) (oi := ?oik71) (v := ?vk71) ?hik71 (by kernel_rfl) (by kernel_rfl) (by kernel_rfl) ?hQk71 (Or.inl ⟨?hwk71, ?hyk71⟩) (by assumption) ?restk71
            case hik71 => simp only [List.getElem?_toArray, List.getElem?_cons_succ, List.getElem?_cons_zero]; exact rfl
            case hQk71 => exact fun _ _ _ h => h
            case hwk71 => rfl
            case hyk71 => ((intro w hSw; go_simp) <;> with_reducible rfl)
            try simp only [Act.put, List.setIfInBounds_toArray, List.set_cons_zero, List.set_cons_succ]
            refine wpAnyH_take (i := 6) (oi := ?oik72) (v := ?vk72) ?hik72 (by kernel_rfl) (by kernel_rfl) (by kernel_rfl) ?hQk72 (Or.inl ⟨?hwk72, ?hyk72⟩) (by assumption) ?restk72
            case hik72 => simp only [List.getElem?_toArray, List.getElem?_cons_succ, List.getElem?_cons_zero]; exact rfl
            case hQk72 => exact fun _ _ _ h => h
            case hwk72 => rfl
            case hyk72 => ((intro w hSw; go_simp) <;> with_reducible rfl)
            try simp only [Act.put, List.setIfInBounds_toArray, List.set_cons_zero, List.set_cons_succ]
            refine wpAnyH_take (i := 7) (oi := ?oik73) (v := ?vk73) ?hik73 (by kernel_rfl) (by kernel_rfl) (by kernel_rfl) ?hQk73 (Or.inl ⟨?hwk73, ?hyk73⟩) (by assumption) ?restk73
            case hik73 => simp only [List.getElem?_toArray, List.getElem?_cons_succ, List.getElem?_cons_zero]; exact rfl
            case hQk73 => exact fun _ _ _ h => h
            case hwk73 => rfl
            case hyk73 => ((intro w hSw; go_simp) <;> with_reducible rfl)
            try simp only [Act.put, List.setIfInBounds_toArray, List.set_cons_zero, List.set_cons_succ]
            refine wpAnyH_ready (rs := [9]) (by kernel_rfl) (by simp) ?_
            refine AllReadyH.cons (o := ?or74_9) ?hor74_9 (fun K hK => ?stepr74_9) (AllReadyH.nil)
            case hor74_9 => simp only [List.getElem?_toArray, List.getElem?_cons_succ, List.getElem?_cons_zero]; exact rfl
            case stepr74_9 =>
              obtain ⟨c0, c1, c2, c3, c4, c5⟩ := cell6 hg70
              obtain ⟨f0, f1, f2, f3, f4, f5⟩ := free6 hg70
              go_simp
              have hk76 := hk69.upto' (by assumption) (below6 (B := G56) (Below.refl G56 v67) (Nat.le_refl _) (.int .i64 u0) (.int .i64 u1) (.int .i64 u2) (.int .i64 u3) (.int .i64 u4) (.int .i64 u5))
              have hput := put6 (u0 := .int .i64 u0) (u1 := .int .i64 u1) (u2 := .int .i64 u2) (u3 := .int .i64 u3) (u4 := .int .i64 u4) (u5 := .int .i64 u5) hg70
              refine hK.out _ _ ?hSq75 (fun hHeld => ?restq75)
              case hSq75 => exact hk76
              clear hK K hk69
              try simp only [Act.put, List.setIfInBounds_toArray, List.set_cons_zero, List.set_cons_succ]
              refine wpAnyH_take (i := 10) (oi := ?oik78) (v := ?vk78) ?hik78 (by kernel_rfl) (by kernel_rfl) (by kernel_rfl) ?hQk78 (Or.inl ⟨?hwk78, ?hyk78⟩) (by assumption) ?restk78
              case hik78 => simp only [List.getElem?_toArray, List.getElem?_cons_succ, List.getElem?_cons_zero]; exact rfl
              case hQk78 => exact fun _ _ _ h => h
              case hwk78 => rfl
              case hyk78 => ((intro w hSw; go_simp) <;> with_reducible rfl)
              try simp only [Act.put, List.setIfInBounds_toArray, List.set_cons_zero, List.set_cons_succ]
              refine wpAnyH_done (by kernel_rfl) ?_ _
              go_wp2_with fail
              go_meet
              exact ⟨_, rfl, rfl, (hk76).more hput⟩
    case stepr3_8 =>
      go_simp
      have hk81 := hK0.upto (Nat.le_refl _) ((Below.refl _ _).alloc (Nat.le_refl _) (.cells #[.int .i64 0, .int .i64 0, .int .i64 0, .int .i64 0, .int .i64 0, .int .i64 0] 46))
      have hg83 := heap_alloc_new w1 (.cells #[.int .i64 0, .int .i64 0, .int .i64 0, .int .i64 0, .int .i64 0, .int .i64 0] 46)
      have hz84 := hK0.lo
      refine hK.out _ _ ?hSq79 (fun hHeld => ?restq79)
      case hSq79 => exact hk81
      clear hK K hK0
      try simp only [Act.put, List.setIfInBounds_toArray, List.set_cons_zero, List.set_cons_succ]
      generalize w1.alloc (.cells #[.int .i64 0, .int .i64 0, .int .i64 0, .int .i64 0, .int .i64 0, .int .i64 0] 46) = v80 at *
      generalize w1.heap.size = G82 at *
      refine wpAnyH_ready (rs := [1]) (by kernel_rfl) (by simp) ?_
      refine AllReadyH.cons (o := ?or85_1) ?hor85_1 (fun K hK => ?stepr85_1) (AllReadyH.nil)
      case hor85_1 => simp only [List.getElem?_toArray, List.getElem?_cons_succ, List.getElem?_cons_zero]; exact rfl
      case stepr85_1 =>
        go_simp
        refine (toCandle_any o h l c q z v80).mono ?_
        rintro e v87 ⟨rfl, hb88⟩
        have hk89 := hk81.upto (Nat.le_refl _) hb88
        have hg90 := (hb88.block G82 (heap_lt' hg83)).trans hg83
        clear hg83
        refine hK.out _ _ ?hSq86 (fun hHeld => ?restq86)
        case hSq86 => exact hk89
        clear hK K hb88 hk81
        try simp only [Act.put, List.setIfInBounds_toArray, List.set_cons_zero, List.set_cons_succ]
        refine wpAnyH_ready (rs := [3]) (by kernel_rfl) (by simp) ?_
        refine AllReadyH.cons (o := ?or91_3) ?hor91_3 (fun K hK => ?stepr91_3) (AllReadyH.nil)
        case hor91_3 => simp only [List.getElem?_toArray, List.getElem?_cons_succ, List.getElem?_cons_zero]; exact rfl
        case stepr91_3 =>
          go_simp
          refine (toCandle_any o' h' l' c' q' z' v87).mono ?_
          rintro e v93 ⟨rfl, hb94⟩
          have hk95 := hk89.upto (Nat.le_refl _) hb94
          have hg96 := (hb94.block G82 (heap_lt' hg90)).trans hg90
          clear hg90
          refine hK.out _ _ ?hSq92 (fun hHeld => ?restq92)
          case hSq92 => exact hk95
          clear hK K hb94 hk89
          try simp only [Act.put, List.setIfInBounds_toArray, List.set_cons_zero, List.set_cons_succ]
          refine wpAnyH_ready (rs := [4]) (by kernel_rfl) (by simp) ?_
          refine AllReadyH.cons (o := ?or97_4) ?hor97_4 (fun K hK => ?stepr97_4) (AllReadyH.nil)
          case hor97_4 => simp only [List.getElem?_toArray, List.getElem?_cons_succ, List.getElem?_cons_zero]; exact rfl
          case stepr97_4 =>
            go_simp
            refine (HS.out v93).mono ?_
            rintro e v99 ⟨rfl, hb100⟩
            have hk101 := hk95.upto (Nat.le_refl _) hb100
            have hg102 := (hb100.block G82 (heap_lt' hg96)).trans hg96
            clear hg96
            refine hK.out _ _ ?hSq98 (fun hHeld => ?restq98)
            case hSq98 => exact hk101
            clear hK K hb100 hk95
            try simp only [Act.put, List.setIfInBounds_toArray, List.set_cons_zero, List.set_cons_succ]
            refine wpAnyH_take (i := 5) (oi := ?oik103) (v := ?vk103) ?hik103 (by kernel_rfl) (by kernel_rfl) (by kernel_rfl) ?hQk103 (Or.inl ⟨?hwk103, ?hyk103⟩) (by assumption) ?restk103
            case hik103 => simp only [List.getElem?_toArray, List.getElem?_cons_succ, List.getElem?_cons_zero]; exact rfl
            case hQk103 => exact fun _ _ _ h => h
            case hwk103 => rfl
            case hyk103 => ((intro w hSw; go_simp) <;> with_reducible rfl)
            try simp only [Act.put, List.setIfInBounds_toArray, List.set_cons_zero, List.set_cons_succ]
            refine wpAnyH_take (i := 6) (oi := ?oik104) (v := ?vk104) ?hik104 (by kernel_rfl) (by kernel_rfl) (by kernel_rfl) ?hQk104 (Or.inl ⟨?hwk104, ?hyk104⟩) (by assumption) ?restk104
            case hik104 => simp only [List.getElem?_toArray, List.getElem?_cons_succ, List.getElem?_cons_zero]; exact rfl
            case hQk104 => exact fun _ _ _ h => h
            case hwk104 => rfl
            case hyk104 => ((intro w hSw; go_simp) <;> with_reducible rfl)
            try simp only [Act.put, List.setIfInBounds_toArray, List.set_cons_zero, List.set_cons_succ]
            refine wpAnyH_take (i := 7) (oi := ?oik105) (v := ?vk105) ?hik105 (by kernel_rfl) (by kernel_rfl) (by kernel_rfl) ?hQk105 (Or.inl ⟨?hwk105, ?hyk105⟩) (by assumption) ?restk105
            case hik105 => simp only [List.getElem?_toArray, List.getElem?_cons_succ, List.getElem?_cons_zero]; exact rfl
            case hQk105 => exact fun _ _ _ h => h
            case hwk105 => rfl
            case hyk105 => ((intro w hSw; go_simp) <;> with_reducible rfl)
            try simp only [Act.put, List.setIfInBounds_toArray, List.set_cons_zero, List.set_cons_succ]
            refine wpAnyH_ready (rs := [9]) (by kernel_rfl) (by simp) ?_
            refine AllReadyH.cons (o := ?or106_9) ?hor106_9 (fun K hK => ?stepr106_9) (AllReadyH.nil)
            case hor106_9 => simp only [List.getElem?_toArray, List.getElem?_cons_succ, List.getElem?_cons_zero]; exact rfl
            case stepr106_9 =>
              obtain ⟨c0, c1, c2, c3, c4, c5⟩ := cell6 hg102
              obtain ⟨f0, f1, f2, f3, f4, f5⟩ := free6 hg102
              go_simp
              have hk108 := hk101.upto' (by assumption) (below6 (B := G82) (Below.refl G82 v99) (Nat.le_refl _) (.int .i64 u0) (.int .i64 u1) (.int .i64 u2) (.int .i64 u3) (.int .i64 u4) (.int .i64 u5))
              have hput := put6 (u0 := .int .i64 u0) (u1 := .int .i64 u1) (u2 := .int .i64 u2) (u3 := .int .i64 u3) (u4 := .int .i64 u4) (u5 := .int .i64 u5) hg102
              refine hK.out _ _ ?hSq107 (fun hHeld => ?restq107)
              case hSq107 => exact hk108
              clear hK K hk101
              try simp only [Act.put, List.setIfInBounds_toArray, List.set_cons_zero, List.set_cons_succ]
              refine wpAnyH_take (i := 10) (oi := ?oik110) (v := ?vk110) ?hik110 (by kernel_rfl) (by kernel_rfl) (by kernel_rfl) ?hQk110 (Or.inl ⟨?hwk110, ?hyk110⟩) (by assumption) ?restk110
              case hik110 => simp only [List.getElem?_toArray, List.getElem?_cons_succ, List.getElem?_cons_zero]; exact rfl
              case hQk110 => exact fun _ _ _ h => h
              case hwk110 => rfl
              case hyk110 => ((intro w hSw; go_simp) <;> with_reducible rfl)
              try simp only [Act.put, List.setIfInBounds_toArray, List.set_cons_zero, List.set_cons_succ]
              refine wpAnyH_done (by kernel_rfl) ?_ _
              go_wp2_with fail
              go_meet
              exact ⟨_, rfl, rfl, (hk108).more hput⟩
  case rest =>
    obtain ⟨G, rfl, rfl, hK0⟩ := hcut
    clear HS
    go_upto_region 2 with fail
    go_cut [7, 8] (fun s7 s8 wx => ∃ G', s7 = .pointer (some ⟨G', 0, none⟩) ∧ s8 = .bool ub ∧ Keeps w.heap.size w [(G', (.cells #[.int .i64 u0, .int .i64 u1, .int .i64 u2, .int .i64 u3, .int .i64 u4, .int .i64 u5] 46)), (G, (.cells #[.int .i64 u0, .int .i64 u1, .int .i64 u2, .int .i64 u3, .int .i64 u4, .int .i64 u5] 46)), (w.heap.size, (.cells #[.int .i64 o, .int .i64 h, .int .i64 l, .int .i64 c, .int .i64 q, .int .i64 z] 52)), (w.heap.size + 1, (.cells #[.int .i64 o', .int .i64 h', .int .i64 l', .int .i64 c', .int .i64 q', .int .i64 z'] 52))] wx)
    case first =>
      refine wp_region_held_drew (S := Keeps w.heap.size w [(G, (.cells #[.int .i64 u0, .int .i64 u1, .int .i64 u2, .int .i64 u3, .int .i64 u4, .int .i64 u5] 46)), (w.heap.size, (.cells #[.int .i64 o, .int .i64 h, .int .i64 l, .int .i64 c, .int .i64 q, .int .i64 z] 52)), (w.heap.size + 1, (.cells #[.int .i64 o', .int .i64 h', .int .i64 l', .int .i64 c', .int .i64 q', .int .i64 z'] 52))]) (by kernel_rfl) ?hSr2 (fun hHeld => ?restr2)
      case hSr2 => exact hK0.drew
      replace hK0 := hK0.drew
      generalize wc.drew = w1 at *
      refine wpAnyH_take (i := 0) (oi := ?oik111) (v := ?vk111) ?hik111 (by kernel_rfl) (by kernel_rfl) (by kernel_rfl) ?hQk111 (Or.inl ⟨?hwk111, ?hyk111⟩) (by assumption) ?restk111
      case hik111 => simp only [List.getElem?_toArray, List.getElem?_cons_succ, List.getElem?_cons_zero]; exact rfl
      case hQk111 => exact fun _ _ _ h => h
      case hwk111 => rfl
      case hyk111 => ((intro w hSw; obtain ⟨c0, c1, c2, c3, c4, c5⟩ := cell6 hSw.two; go_simp) <;> with_reducible rfl)
      try simp only [Act.put, List.setIfInBounds_toArray, List.set_cons_zero, List.set_cons_succ]
      refine wpAnyH_take (i := 2) (oi := ?oik112) (v := ?vk112) ?hik112 (by kernel_rfl) (by kernel_rfl) (by kernel_rfl) ?hQk112 (Or.inl ⟨?hwk112, ?hyk112⟩) (by assumption) ?restk112
      case hik112 => simp only [List.getElem?_toArray, List.getElem?_cons_succ, List.getElem?_cons_zero]; exact rfl
      case hQk112 => exact fun _ _ _ h => h
      case hwk112 => rfl
      case hyk112 => ((intro w hSw; obtain ⟨c0, c1, c2, c3, c4, c5⟩ := cell6 hSw.three; go_simp) <;> with_reducible rfl)
      try simp only [Act.put, List.setIfInBounds_toArray, List.set_cons_zero, List.set_cons_succ]
      refine wpAnyH_ready (rs := [1, 8]) (by kernel_rfl) (by simp) ?_
      refine AllReadyH.cons (o := ?or113_1) ?hor113_1 (fun K hK => ?stepr113_1) (AllReadyH.cons (o := ?or113_8) ?hor113_8 (fun K hK => ?stepr113_8) (AllReadyH.nil))
      case hor113_1 => simp only [List.getElem?_toArray, List.getElem?_cons_succ, List.getElem?_cons_zero]; exact rfl
      case hor113_8 => simp only [List.getElem?_toArray, List.getElem?_cons_succ, List.getElem?_cons_zero]; exact rfl
      case stepr113_1 =>
        go_simp
        refine (toCandle_any o h l c q z w1).mono ?_
        rintro e v115 ⟨rfl, hb116⟩
        have hk117 := hK0.upto (Nat.le_refl _) hb116
        refine hK.out _ _ ?hSq114 (fun hHeld => ?restq114)
        case hSq114 => exact hk117
        clear hK K hb116 hK0
        try simp only [Act.put, List.setIfInBounds_toArray, List.set_cons_zero, List.set_cons_succ]
        refine wpAnyH_ready (rs := [3, 8]) (by kernel_rfl) (by simp) ?_
        refine AllReadyH.cons (o := ?or118_3) ?hor118_3 (fun K hK => ?stepr118_3) (AllReadyH.cons (o := ?or118_8) ?hor118_8 (fun K hK => ?stepr118_8) (AllReadyH.nil))
        case hor118_3 => simp only [List.getElem?_toArray, List.getElem?_cons_succ, List.getElem?_cons_zero]; exact rfl
        case hor118_8 => simp only [List.getElem?_toArray, List.getElem?_cons_succ, List.getElem?_cons_zero]; exact rfl
        case stepr118_3 =>
          go_simp
          refine (toCandle_any o' h' l' c' q' z' v115).mono ?_
          rintro e v120 ⟨rfl, hb121⟩
          have hk122 := hk117.upto (Nat.le_refl _) hb121
          refine hK.out _ _ ?hSq119 (fun hHeld => ?restq119)
          case hSq119 => exact hk122
          clear hK K hb121 hk117
          try simp only [Act.put, List.setIfInBounds_toArray, List.set_cons_zero, List.set_cons_succ]
          refine wpAnyH_ready (rs := [4, 8]) (by kernel_rfl) (by simp) ?_
          refine AllReadyH.cons (o := ?or123_4) ?hor123_4 (fun K hK => ?stepr123_4) (AllReadyH.cons (o := ?or123_8) ?hor123_8 (fun K hK => ?stepr123_8) (AllReadyH.nil))
          case hor123_4 => simp only [List.getElem?_toArray, List.getElem?_cons_succ, List.getElem?_cons_zero]; exact rfl
          case hor123_8 => simp only [List.getElem?_toArray, List.getElem?_cons_succ, List.getElem?_cons_zero]; exact rfl
          case stepr123_4 =>
            go_simp
            refine (HI.out v120).mono ?_
            rintro e v125 ⟨rfl, hb126⟩
            have hk127 := hk122.upto (Nat.le_refl _) hb126
            refine hK.out _ _ ?hSq124 (fun hHeld => ?restq124)
            case hSq124 => exact hk127
            clear hK K hb126 hk122
            try simp only [Act.put, List.setIfInBounds_toArray, List.set_cons_zero, List.set_cons_succ]
            refine wpAnyH_take (i := 5) (oi := ?oik128) (v := ?vk128) ?hik128 (by kernel_rfl) (by kernel_rfl) (by kernel_rfl) ?hQk128 (Or.inl ⟨?hwk128, ?hyk128⟩) (by assumption) ?restk128
            case hik128 => simp only [List.getElem?_toArray, List.getElem?_cons_succ, List.getElem?_cons_zero]; exact rfl
            case hQk128 => exact fun _ _ _ h => h
            case hwk128 => rfl
            case hyk128 => ((intro w hSw; go_simp) <;> with_reducible rfl)
            try simp only [Act.put, List.setIfInBounds_toArray, List.set_cons_zero, List.set_cons_succ]
            refine wpAnyH_take (i := 6) (oi := ?oik129) (v := ?vk129) ?hik129 (by kernel_rfl) (by kernel_rfl) (by kernel_rfl) ?hQk129 (Or.inl ⟨?hwk129, ?hyk129⟩) (by assumption) ?restk129
            case hik129 => simp only [List.getElem?_toArray, List.getElem?_cons_succ, List.getElem?_cons_zero]; exact rfl
            case hQk129 => exact fun _ _ _ h => h
            case hwk129 => rfl
            case hyk129 => ((intro w hSw; go_simp) <;> with_reducible rfl)
            try simp only [Act.put, List.setIfInBounds_toArray, List.set_cons_zero, List.set_cons_succ]
            refine wpAnyH_take (i := 7) (oi := ?oik130) (v := ?vk130) ?hik130 (by kernel_rfl) (by kernel_rfl) (by kernel_rfl) ?hQk130 (Or.inl ⟨?hwk130, ?hyk130⟩) (by assumption) ?restk130
            case hik130 => simp only [List.getElem?_toArray, List.getElem?_cons_succ, List.getElem?_cons_zero]; exact rfl
            case hQk130 => exact fun _ _ _ h => h
            case hwk130 => rfl
            case hyk130 => ((intro w hSw; go_simp) <;> with_reducible rfl)
            try simp only [Act.put, List.setIfInBounds_toArray, List.set_cons_zero, List.set_cons_succ]
            refine wpAnyH_ready (rs := [8]) (by kernel_rfl) (by simp) ?_
            refine AllReadyH.cons (o := ?or131_8) ?hor131_8 (fun K hK => ?stepr131_8) (AllReadyH.nil)
            case hor131_8 => simp only [List.getElem?_toArray, List.getElem?_cons_succ, List.getElem?_cons_zero]; exact rfl
            case stepr131_8 =>
              go_simp
              have hk134 := hk127.upto (Nat.le_refl _) ((Below.refl _ _).alloc (Nat.le_refl _) (.cells #[.int .i64 0, .int .i64 0, .int .i64 0, .int .i64 0, .int .i64 0, .int .i64 0] 46))
              have hg136 := heap_alloc_new v125 (.cells #[.int .i64 0, .int .i64 0, .int .i64 0, .int .i64 0, .int .i64 0, .int .i64 0] 46)
              have hz137 := hk127.lo
              refine hK.out _ _ ?hSq132 (fun hHeld => ?restq132)
              case hSq132 => exact hk134
              clear hK K hk127
              try simp only [Act.put, List.setIfInBounds_toArray, List.set_cons_zero, List.set_cons_succ]
              generalize v125.alloc (.cells #[.int .i64 0, .int .i64 0, .int .i64 0, .int .i64 0, .int .i64 0, .int .i64 0] 46) = v133 at *
              generalize v125.heap.size = G135 at *
              refine wpAnyH_ready (rs := [9]) (by kernel_rfl) (by simp) ?_
              refine AllReadyH.cons (o := ?or138_9) ?hor138_9 (fun K hK => ?stepr138_9) (AllReadyH.nil)
              case hor138_9 => simp only [List.getElem?_toArray, List.getElem?_cons_succ, List.getElem?_cons_zero]; exact rfl
              case stepr138_9 =>
                obtain ⟨c0, c1, c2, c3, c4, c5⟩ := cell6 hg136
                obtain ⟨f0, f1, f2, f3, f4, f5⟩ := free6 hg136
                go_simp
                have hk140 := hk134.upto' (by assumption) (below6 (B := G135) (Below.refl G135 v133) (Nat.le_refl _) (.int .i64 u0) (.int .i64 u1) (.int .i64 u2) (.int .i64 u3) (.int .i64 u4) (.int .i64 u5))
                have hput := put6 (u0 := .int .i64 u0) (u1 := .int .i64 u1) (u2 := .int .i64 u2) (u3 := .int .i64 u3) (u4 := .int .i64 u4) (u5 := .int .i64 u5) hg136
                refine hK.out _ _ ?hSq139 (fun hHeld => ?restq139)
                case hSq139 => exact hk140
                clear hK K hk134
                try simp only [Act.put, List.setIfInBounds_toArray, List.set_cons_zero, List.set_cons_succ]
                refine wpAnyH_take (i := 10) (oi := ?oik142) (v := ?vk142) ?hik142 (by kernel_rfl) (by kernel_rfl) (by kernel_rfl) ?hQk142 (Or.inl ⟨?hwk142, ?hyk142⟩) (by assumption) ?restk142
                case hik142 => simp only [List.getElem?_toArray, List.getElem?_cons_succ, List.getElem?_cons_zero]; exact rfl
                case hQk142 => exact fun _ _ _ h => h
                case hwk142 => rfl
                case hyk142 => ((intro w hSw; go_simp) <;> with_reducible rfl)
                try simp only [Act.put, List.setIfInBounds_toArray, List.set_cons_zero, List.set_cons_succ]
                refine wpAnyH_done (by kernel_rfl) ?_ _
                go_wp2_with fail
                go_meet
                exact ⟨_, rfl, rfl, (hk140).more hput⟩
          case stepr123_8 =>
            go_simp
            have hk145 := hk122.upto (Nat.le_refl _) ((Below.refl _ _).alloc (Nat.le_refl _) (.cells #[.int .i64 0, .int .i64 0, .int .i64 0, .int .i64 0, .int .i64 0, .int .i64 0] 46))
            have hg147 := heap_alloc_new v120 (.cells #[.int .i64 0, .int .i64 0, .int .i64 0, .int .i64 0, .int .i64 0, .int .i64 0] 46)
            have hz148 := hk122.lo
            refine hK.out _ _ ?hSq143 (fun hHeld => ?restq143)
            case hSq143 => exact hk145
            clear hK K hk122
            try simp only [Act.put, List.setIfInBounds_toArray, List.set_cons_zero, List.set_cons_succ]
            generalize v120.alloc (.cells #[.int .i64 0, .int .i64 0, .int .i64 0, .int .i64 0, .int .i64 0, .int .i64 0] 46) = v144 at *
            generalize v120.heap.size = G146 at *
            refine wpAnyH_ready (rs := [4]) (by kernel_rfl) (by simp) ?_
            refine AllReadyH.cons (o := ?or149_4) ?hor149_4 (fun K hK => ?stepr149_4) (AllReadyH.nil)
            case hor149_4 => simp only [List.getElem?_toArray, List.getElem?_cons_succ, List.getElem?_cons_zero]; exact rfl
            case stepr149_4 =>
              go_simp
              refine (HI.out v144).mono ?_
              rintro e v151 ⟨rfl, hb152⟩
              have hk153 := hk145.upto (Nat.le_refl _) hb152
              have hg154 := (hb152.block G146 (heap_lt' hg147)).trans hg147
              clear hg147
              refine hK.out _ _ ?hSq150 (fun hHeld => ?restq150)
              case hSq150 => exact hk153
              clear hK K hb152 hk145
              try simp only [Act.put, List.setIfInBounds_toArray, List.set_cons_zero, List.set_cons_succ]
              refine wpAnyH_take (i := 5) (oi := ?oik155) (v := ?vk155) ?hik155 (by kernel_rfl) (by kernel_rfl) (by kernel_rfl) ?hQk155 (Or.inl ⟨?hwk155, ?hyk155⟩) (by assumption) ?restk155
              case hik155 => simp only [List.getElem?_toArray, List.getElem?_cons_succ, List.getElem?_cons_zero]; exact rfl
              case hQk155 => exact fun _ _ _ h => h
              case hwk155 => rfl
              case hyk155 => ((intro w hSw; go_simp) <;> with_reducible rfl)
              try simp only [Act.put, List.setIfInBounds_toArray, List.set_cons_zero, List.set_cons_succ]
              refine wpAnyH_take (i := 6) (oi := ?oik156) (v := ?vk156) ?hik156 (by kernel_rfl) (by kernel_rfl) (by kernel_rfl) ?hQk156 (Or.inl ⟨?hwk156, ?hyk156⟩) (by assumption) ?restk156
              case hik156 => simp only [List.getElem?_toArray, List.getElem?_cons_succ, List.getElem?_cons_zero]; exact rfl
              case hQk156 => exact fun _ _ _ h => h
              case hwk156 => rfl
              case hyk156 => ((intro w hSw; go_simp) <;> with_reducible rfl)
              try simp only [Act.put, List.setIfInBounds_toArray, List.set_cons_zero, List.set_cons_succ]
              refine wpAnyH_take (i := 7) (oi := ?oik157) (v := ?vk157) ?hik157 (by kernel_rfl) (by kernel_rfl) (by kernel_rfl) ?hQk157 (Or.inl ⟨?hwk157, ?hyk157⟩) (by assumption) ?restk157
              case hik157 => simp only [List.getElem?_toArray, List.getElem?_cons_succ, List.getElem?_cons_zero]; exact rfl
              case hQk157 => exact fun _ _ _ h => h
              case hwk157 => rfl
              case hyk157 => ((intro w hSw; go_simp) <;> with_reducible rfl)
              try simp only [Act.put, List.setIfInBounds_toArray, List.set_cons_zero, List.set_cons_succ]
              refine wpAnyH_ready (rs := [9]) (by kernel_rfl) (by simp) ?_
              refine AllReadyH.cons (o := ?or158_9) ?hor158_9 (fun K hK => ?stepr158_9) (AllReadyH.nil)
              case hor158_9 => simp only [List.getElem?_toArray, List.getElem?_cons_succ, List.getElem?_cons_zero]; exact rfl
              case stepr158_9 =>
                obtain ⟨c0, c1, c2, c3, c4, c5⟩ := cell6 hg154
                obtain ⟨f0, f1, f2, f3, f4, f5⟩ := free6 hg154
                go_simp
                have hk160 := hk153.upto' (by assumption) (below6 (B := G146) (Below.refl G146 v151) (Nat.le_refl _) (.int .i64 u0) (.int .i64 u1) (.int .i64 u2) (.int .i64 u3) (.int .i64 u4) (.int .i64 u5))
                have hput := put6 (u0 := .int .i64 u0) (u1 := .int .i64 u1) (u2 := .int .i64 u2) (u3 := .int .i64 u3) (u4 := .int .i64 u4) (u5 := .int .i64 u5) hg154
                refine hK.out _ _ ?hSq159 (fun hHeld => ?restq159)
                case hSq159 => exact hk160
                clear hK K hk153
                try simp only [Act.put, List.setIfInBounds_toArray, List.set_cons_zero, List.set_cons_succ]
                refine wpAnyH_take (i := 10) (oi := ?oik162) (v := ?vk162) ?hik162 (by kernel_rfl) (by kernel_rfl) (by kernel_rfl) ?hQk162 (Or.inl ⟨?hwk162, ?hyk162⟩) (by assumption) ?restk162
                case hik162 => simp only [List.getElem?_toArray, List.getElem?_cons_succ, List.getElem?_cons_zero]; exact rfl
                case hQk162 => exact fun _ _ _ h => h
                case hwk162 => rfl
                case hyk162 => ((intro w hSw; go_simp) <;> with_reducible rfl)
                try simp only [Act.put, List.setIfInBounds_toArray, List.set_cons_zero, List.set_cons_succ]
                refine wpAnyH_done (by kernel_rfl) ?_ _
                go_wp2_with fail
                go_meet
                exact ⟨_, rfl, rfl, (hk160).more hput⟩
        case stepr118_8 =>
          go_simp
          have hk165 := hk117.upto (Nat.le_refl _) ((Below.refl _ _).alloc (Nat.le_refl _) (.cells #[.int .i64 0, .int .i64 0, .int .i64 0, .int .i64 0, .int .i64 0, .int .i64 0] 46))
          have hg167 := heap_alloc_new v115 (.cells #[.int .i64 0, .int .i64 0, .int .i64 0, .int .i64 0, .int .i64 0, .int .i64 0] 46)
          have hz168 := hk117.lo
          refine hK.out _ _ ?hSq163 (fun hHeld => ?restq163)
          case hSq163 => exact hk165
          clear hK K hk117
          try simp only [Act.put, List.setIfInBounds_toArray, List.set_cons_zero, List.set_cons_succ]
          generalize v115.alloc (.cells #[.int .i64 0, .int .i64 0, .int .i64 0, .int .i64 0, .int .i64 0, .int .i64 0] 46) = v164 at *
          generalize v115.heap.size = G166 at *
          refine wpAnyH_ready (rs := [3]) (by kernel_rfl) (by simp) ?_
          refine AllReadyH.cons (o := ?or169_3) ?hor169_3 (fun K hK => ?stepr169_3) (AllReadyH.nil)
          case hor169_3 => simp only [List.getElem?_toArray, List.getElem?_cons_succ, List.getElem?_cons_zero]; exact rfl
          case stepr169_3 =>
            go_simp
            refine (toCandle_any o' h' l' c' q' z' v164).mono ?_
            rintro e v171 ⟨rfl, hb172⟩
            have hk173 := hk165.upto (Nat.le_refl _) hb172
            have hg174 := (hb172.block G166 (heap_lt' hg167)).trans hg167
            clear hg167
            refine hK.out _ _ ?hSq170 (fun hHeld => ?restq170)
            case hSq170 => exact hk173
            clear hK K hb172 hk165
            try simp only [Act.put, List.setIfInBounds_toArray, List.set_cons_zero, List.set_cons_succ]
            refine wpAnyH_ready (rs := [4]) (by kernel_rfl) (by simp) ?_
            refine AllReadyH.cons (o := ?or175_4) ?hor175_4 (fun K hK => ?stepr175_4) (AllReadyH.nil)
            case hor175_4 => simp only [List.getElem?_toArray, List.getElem?_cons_succ, List.getElem?_cons_zero]; exact rfl
            case stepr175_4 =>
              go_simp
              refine (HI.out v171).mono ?_
              rintro e v177 ⟨rfl, hb178⟩
              have hk179 := hk173.upto (Nat.le_refl _) hb178
              have hg180 := (hb178.block G166 (heap_lt' hg174)).trans hg174
              clear hg174
              refine hK.out _ _ ?hSq176 (fun hHeld => ?restq176)
              case hSq176 => exact hk179
              clear hK K hb178 hk173
              try simp only [Act.put, List.setIfInBounds_toArray, List.set_cons_zero, List.set_cons_succ]
              refine wpAnyH_take (i := 5) (oi := ?oik181) (v := ?vk181) ?hik181 (by kernel_rfl) (by kernel_rfl) (by kernel_rfl) ?hQk181 (Or.inl ⟨?hwk181, ?hyk181⟩) (by assumption) ?restk181
              case hik181 => simp only [List.getElem?_toArray, List.getElem?_cons_succ, List.getElem?_cons_zero]; exact rfl
              case hQk181 => exact fun _ _ _ h => h
              case hwk181 => rfl
              case hyk181 => ((intro w hSw; go_simp) <;> with_reducible rfl)
              try simp only [Act.put, List.setIfInBounds_toArray, List.set_cons_zero, List.set_cons_succ]
              refine wpAnyH_take (i := 6) (oi := ?oik182) (v := ?vk182) ?hik182 (by kernel_rfl) (by kernel_rfl) (by kernel_rfl) ?hQk182 (Or.inl ⟨?hwk182, ?hyk182⟩) (by assumption) ?restk182
              case hik182 => simp only [List.getElem?_toArray, List.getElem?_cons_succ, List.getElem?_cons_zero]; exact rfl
              case hQk182 => exact fun _ _ _ h => h
              case hwk182 => rfl
              case hyk182 => ((intro w hSw; go_simp) <;> with_reducible rfl)
              try simp only [Act.put, List.setIfInBounds_toArray, List.set_cons_zero, List.set_cons_succ]
              refine wpAnyH_take (i := 7) (oi := ?oik183) (v := ?vk183) ?hik183 (by kernel_rfl) (by kernel_rfl) (by kernel_rfl) ?hQk183 (Or.inl ⟨?hwk183, ?hyk183⟩) (by assumption) ?restk183
              case hik183 => simp only [List.getElem?_toArray, List.getElem?_cons_succ, List.getElem?_cons_zero]; exact rfl
              case hQk183 => exact fun _ _ _ h => h
              case hwk183 => rfl
              case hyk183 => ((intro w hSw; go_simp) <;> with_reducible rfl)
              try simp only [Act.put, List.setIfInBounds_toArray, List.set_cons_zero, List.set_cons_succ]
              refine wpAnyH_ready (rs := [9]) (by kernel_rfl) (by simp) ?_
              refine AllReadyH.cons (o := ?or184_9) ?hor184_9 (fun K hK => ?stepr184_9) (AllReadyH.nil)
              case hor184_9 => simp only [List.getElem?_toArray, List.getElem?_cons_succ, List.getElem?_cons_zero]; exact rfl
              case stepr184_9 =>
                obtain ⟨c0, c1, c2, c3, c4, c5⟩ := cell6 hg180
                obtain ⟨f0, f1, f2, f3, f4, f5⟩ := free6 hg180
                go_simp
                have hk186 := hk179.upto' (by assumption) (below6 (B := G166) (Below.refl G166 v177) (Nat.le_refl _) (.int .i64 u0) (.int .i64 u1) (.int .i64 u2) (.int .i64 u3) (.int .i64 u4) (.int .i64 u5))
                have hput := put6 (u0 := .int .i64 u0) (u1 := .int .i64 u1) (u2 := .int .i64 u2) (u3 := .int .i64 u3) (u4 := .int .i64 u4) (u5 := .int .i64 u5) hg180
                refine hK.out _ _ ?hSq185 (fun hHeld => ?restq185)
                case hSq185 => exact hk186
                clear hK K hk179
                try simp only [Act.put, List.setIfInBounds_toArray, List.set_cons_zero, List.set_cons_succ]
                refine wpAnyH_take (i := 10) (oi := ?oik188) (v := ?vk188) ?hik188 (by kernel_rfl) (by kernel_rfl) (by kernel_rfl) ?hQk188 (Or.inl ⟨?hwk188, ?hyk188⟩) (by assumption) ?restk188
                case hik188 => simp only [List.getElem?_toArray, List.getElem?_cons_succ, List.getElem?_cons_zero]; exact rfl
                case hQk188 => exact fun _ _ _ h => h
                case hwk188 => rfl
                case hyk188 => ((intro w hSw; go_simp) <;> with_reducible rfl)
                try simp only [Act.put, List.setIfInBounds_toArray, List.set_cons_zero, List.set_cons_succ]
                refine wpAnyH_done (by kernel_rfl) ?_ _
                go_wp2_with fail
                go_meet
                exact ⟨_, rfl, rfl, (hk186).more hput⟩
      case stepr113_8 =>
        go_simp
        have hk191 := hK0.upto (Nat.le_refl _) ((Below.refl _ _).alloc (Nat.le_refl _) (.cells #[.int .i64 0, .int .i64 0, .int .i64 0, .int .i64 0, .int .i64 0, .int .i64 0] 46))
        have hg193 := heap_alloc_new w1 (.cells #[.int .i64 0, .int .i64 0, .int .i64 0, .int .i64 0, .int .i64 0, .int .i64 0] 46)
        have hz194 := hK0.lo
        refine hK.out _ _ ?hSq189 (fun hHeld => ?restq189)
        case hSq189 => exact hk191
        clear hK K hK0
        try simp only [Act.put, List.setIfInBounds_toArray, List.set_cons_zero, List.set_cons_succ]
        generalize w1.alloc (.cells #[.int .i64 0, .int .i64 0, .int .i64 0, .int .i64 0, .int .i64 0, .int .i64 0] 46) = v190 at *
        generalize w1.heap.size = G192 at *
        refine wpAnyH_ready (rs := [1]) (by kernel_rfl) (by simp) ?_
        refine AllReadyH.cons (o := ?or195_1) ?hor195_1 (fun K hK => ?stepr195_1) (AllReadyH.nil)
        case hor195_1 => simp only [List.getElem?_toArray, List.getElem?_cons_succ, List.getElem?_cons_zero]; exact rfl
        case stepr195_1 =>
          go_simp
          refine (toCandle_any o h l c q z v190).mono ?_
          rintro e v197 ⟨rfl, hb198⟩
          have hk199 := hk191.upto (Nat.le_refl _) hb198
          have hg200 := (hb198.block G192 (heap_lt' hg193)).trans hg193
          clear hg193
          refine hK.out _ _ ?hSq196 (fun hHeld => ?restq196)
          case hSq196 => exact hk199
          clear hK K hb198 hk191
          try simp only [Act.put, List.setIfInBounds_toArray, List.set_cons_zero, List.set_cons_succ]
          refine wpAnyH_ready (rs := [3]) (by kernel_rfl) (by simp) ?_
          refine AllReadyH.cons (o := ?or201_3) ?hor201_3 (fun K hK => ?stepr201_3) (AllReadyH.nil)
          case hor201_3 => simp only [List.getElem?_toArray, List.getElem?_cons_succ, List.getElem?_cons_zero]; exact rfl
          case stepr201_3 =>
            go_simp
            refine (toCandle_any o' h' l' c' q' z' v197).mono ?_
            rintro e v203 ⟨rfl, hb204⟩
            have hk205 := hk199.upto (Nat.le_refl _) hb204
            have hg206 := (hb204.block G192 (heap_lt' hg200)).trans hg200
            clear hg200
            refine hK.out _ _ ?hSq202 (fun hHeld => ?restq202)
            case hSq202 => exact hk205
            clear hK K hb204 hk199
            try simp only [Act.put, List.setIfInBounds_toArray, List.set_cons_zero, List.set_cons_succ]
            refine wpAnyH_ready (rs := [4]) (by kernel_rfl) (by simp) ?_
            refine AllReadyH.cons (o := ?or207_4) ?hor207_4 (fun K hK => ?stepr207_4) (AllReadyH.nil)
            case hor207_4 => simp only [List.getElem?_toArray, List.getElem?_cons_succ, List.getElem?_cons_zero]; exact rfl
            case stepr207_4 =>
              go_simp
              refine (HI.out v203).mono ?_
              rintro e v209 ⟨rfl, hb210⟩
              have hk211 := hk205.upto (Nat.le_refl _) hb210
              have hg212 := (hb210.block G192 (heap_lt' hg206)).trans hg206
              clear hg206
              refine hK.out _ _ ?hSq208 (fun hHeld => ?restq208)
              case hSq208 => exact hk211
              clear hK K hb210 hk205
              try simp only [Act.put, List.setIfInBounds_toArray, List.set_cons_zero, List.set_cons_succ]
              refine wpAnyH_take (i := 5) (oi := ?oik213) (v := ?vk213) ?hik213 (by kernel_rfl) (by kernel_rfl) (by kernel_rfl) ?hQk213 (Or.inl ⟨?hwk213, ?hyk213⟩) (by assumption) ?restk213
              case hik213 => simp only [List.getElem?_toArray, List.getElem?_cons_succ, List.getElem?_cons_zero]; exact rfl
              case hQk213 => exact fun _ _ _ h => h
              case hwk213 => rfl
              case hyk213 => ((intro w hSw; go_simp) <;> with_reducible rfl)
              try simp only [Act.put, List.setIfInBounds_toArray, List.set_cons_zero, List.set_cons_succ]
              refine wpAnyH_take (i := 6) (oi := ?oik214) (v := ?vk214) ?hik214 (by kernel_rfl) (by kernel_rfl) (by kernel_rfl) ?hQk214 (Or.inl ⟨?hwk214, ?hyk214⟩) (by assumption) ?restk214
              case hik214 => simp only [List.getElem?_toArray, List.getElem?_cons_succ, List.getElem?_cons_zero]; exact rfl
              case hQk214 => exact fun _ _ _ h => h
              case hwk214 => rfl
              case hyk214 => ((intro w hSw; go_simp) <;> with_reducible rfl)
              try simp only [Act.put, List.setIfInBounds_toArray, List.set_cons_zero, List.set_cons_succ]
              refine wpAnyH_take (i := 7) (oi := ?oik215) (v := ?vk215) ?hik215 (by kernel_rfl) (by kernel_rfl) (by kernel_rfl) ?hQk215 (Or.inl ⟨?hwk215, ?hyk215⟩) (by assumption) ?restk215
              case hik215 => simp only [List.getElem?_toArray, List.getElem?_cons_succ, List.getElem?_cons_zero]; exact rfl
              case hQk215 => exact fun _ _ _ h => h
              case hwk215 => rfl
              case hyk215 => ((intro w hSw; go_simp) <;> with_reducible rfl)
              try simp only [Act.put, List.setIfInBounds_toArray, List.set_cons_zero, List.set_cons_succ]
              refine wpAnyH_ready (rs := [9]) (by kernel_rfl) (by simp) ?_
              refine AllReadyH.cons (o := ?or216_9) ?hor216_9 (fun K hK => ?stepr216_9) (AllReadyH.nil)
              case hor216_9 => simp only [List.getElem?_toArray, List.getElem?_cons_succ, List.getElem?_cons_zero]; exact rfl
              case stepr216_9 =>
                obtain ⟨c0, c1, c2, c3, c4, c5⟩ := cell6 hg212
                obtain ⟨f0, f1, f2, f3, f4, f5⟩ := free6 hg212
                go_simp
                have hk218 := hk211.upto' (by assumption) (below6 (B := G192) (Below.refl G192 v209) (Nat.le_refl _) (.int .i64 u0) (.int .i64 u1) (.int .i64 u2) (.int .i64 u3) (.int .i64 u4) (.int .i64 u5))
                have hput := put6 (u0 := .int .i64 u0) (u1 := .int .i64 u1) (u2 := .int .i64 u2) (u3 := .int .i64 u3) (u4 := .int .i64 u4) (u5 := .int .i64 u5) hg212
                refine hK.out _ _ ?hSq217 (fun hHeld => ?restq217)
                case hSq217 => exact hk218
                clear hK K hk211
                try simp only [Act.put, List.setIfInBounds_toArray, List.set_cons_zero, List.set_cons_succ]
                refine wpAnyH_take (i := 10) (oi := ?oik220) (v := ?vk220) ?hik220 (by kernel_rfl) (by kernel_rfl) (by kernel_rfl) ?hQk220 (Or.inl ⟨?hwk220, ?hyk220⟩) (by assumption) ?restk220
                case hik220 => simp only [List.getElem?_toArray, List.getElem?_cons_succ, List.getElem?_cons_zero]; exact rfl
                case hQk220 => exact fun _ _ _ h => h
                case hwk220 => rfl
                case hyk220 => ((intro w hSw; go_simp) <;> with_reducible rfl)
                try simp only [Act.put, List.setIfInBounds_toArray, List.set_cons_zero, List.set_cons_succ]
                refine wpAnyH_done (by kernel_rfl) ?_ _
                go_wp2_with fail
                go_meet
                exact ⟨_, rfl, rfl, (hk218).more hput⟩
    case rest =>
      obtain ⟨G', rfl, rfl, hK0⟩ := hcut
      clear HI
      have k1 := hK0.one
      have k2 := hK0.two
      obtain ⟨c0, c1, c2, c3, c4, c5⟩ := cell6 k1
      obtain ⟨d0, d1, d2, d3, d4, d5⟩ := cell6 k2
      clear k1 k2
      go_wp2_with fail
      refine (eqCandle_one _ _ _ _ _ _ _).mono ?_
      rintro e w5 ⟨rfl, hb5⟩
      have hB := hK0.bel.trans (hb5.mono hK0.low)
      clear hK0 hb5
      go_wp2_with fail
      go_ret
      exact ⟨by first | rfl | simp, hB⟩
end Go.Proofs.Yteeggjjjjnebgaa
