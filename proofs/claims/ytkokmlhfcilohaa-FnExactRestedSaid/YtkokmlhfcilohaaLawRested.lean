/-
  The exact law of Rested.
-/
import Derived.Test.YtkokmlhfcilohaaRestS
import Derived.Test.YtkokmlhfcilohaaRestedI
import Derived.Test.YtkokmlhfcilohaaMarkBook
import Derived.Test.YtkokmlhfcilohaaBookZ
import Derived.Test.YtkokmlhfcilohaaLawCell
import Derived.Test.YtkokmlhfcilohaaKeep
namespace Go.Proofs.Ytkokmlhfcilohaa
open Go.RowKit Wire

theorem rfree2 {w : World} {S : Nat} {a b : Value} {T : TypeId} (h : w.heap[S]? = some (.cells #[a, b] T (0, 0))) : w.frozen? ⟨S, 0, none⟩ = false ∧ w.frozen? ⟨S, 1, none⟩ = false := by
  refine ⟨?_, ?_⟩ <;> simp [World.frozen?, h]
theorem rput2 {w : World} {S : Nat} {a b u0 u1 : Value} {T : TypeId} (h : w.heap[S]? = some (.cells #[a, b] T (0, 0))) : ((w.setCell ⟨S, 0, none⟩ u0).setCell ⟨S, 1, none⟩ u1).heap[S]? = some (.cells #[u0, u1] T (0, 0)) := by
  simp [World.setCell, Array.getElem?_modify, h]
theorem rcell4 {w : World} {S : Nat} {a b c d : Value} {T : TypeId} (h : w.heap[S]? = some (.cells #[a, b, c, d] T (0, 0))) : w.cell? ⟨S, 0, none⟩ = some a ∧ w.cell? ⟨S, 1, none⟩ = some b ∧ w.cell? ⟨S, 2, none⟩ = some c ∧ w.cell? ⟨S, 3, none⟩ = some d := by
  refine ⟨?_, ?_, ?_, ?_⟩ <;> simp [World.cell?, h]
theorem TwoRows.put' {w w' : World} {base q : Nat} {r1 r2 : Value} {n1 n2 : Nat} {z1 z2 : List Int} (h : TwoRows w base r1 n1 z1 r2 n2 z2) (hg : w.grownBy w' (some q)) (h1 : r1.ownBlock = some q → False) (h2 : r2.ownBlock = some q → False) : TwoRows w' base r1 n1 z1 r2 n2 z2 :=
  ⟨h.one.kept hg (.inr h1), h.two.kept hg (.inr h2), h.apart⟩
/-- a book in a box that was made, its sides in rows of their own -/
def BoxRes (w : World) (base G N1 : Nat) (Z1 : List Int) (N2 : Nat) (Z2 : List Int) : Prop := ∃ A1 c1 A2 c2, w.heap[G]? = some (.cells #[.slice A1 N1 c1, .slice A2 N2 c2] 30 (0, 0)) ∧ TwoRows w base (.slice A1 N1 c1) N1 Z1 (.slice A2 N2 c2) N2 Z2 ∧
  ((Value.slice A1 N1 c1).ownBlock = some G → False) ∧ ((Value.slice A2 N2 c2).ownBlock = some G → False) ∧ base ≤ G
set_option linter.unusedSimpArgs false in
set_option maxHeartbeats 3200000 in
set_option maxRecDepth 100000 in
theorem law_Rested (A : Option Addr) (n c : Nat) (B : Option Addr) (m d : Nat) (za zb : List Int) (side oi oa op oq : Int) (w : World) (hl : BookIn w w.heap.size A n B m za zb) (hn : n ≤ maxLen) (hm : m ≤ maxLen) :
    Calls Try.prog 3 #[.agg #[.slice A n c, .slice B m d], .int .i64 side, .agg #[.int .i64 oi, .int .i64 oa, .int .i64 op, .int .i64 oq]] w fun e w' => e = .returned (.bool true) ∧ Below w.heap.size w w' := by
  obtain ⟨b0, b1⟩ := two_blocks w (.cells #[.slice A n c, .slice B m d] 24) (.cells #[.int .i64 oi, .int .i64 oa, .int .i64 op, .int .i64 oq] 26)
  have hbw : Below w.heap.size w ((w.alloc (.cells #[.slice A n c, .slice B m d] 24)).alloc (.cells #[.int .i64 oi, .int .i64 oa, .int .i64 op, .int .i64 oq] 26)) := ((Below.refl _ _).alloc (Nat.le_refl _) _).alloc (by simp) _
  have hsw : ((w.alloc (.cells #[.slice A n c, .slice B m d] 24)).alloc (.cells #[.int .i64 oi, .int .i64 oa, .int .i64 op, .int .i64 oq] 26)).heap.size = w.heap.size + 2 := by simp
  have hlw := hl.later hbw
  go_enter Try.func3, Try.ntmps3
  go_wp2_with fail
  generalize ((w.alloc (.cells #[.slice A n c, .slice B m d] 24)).alloc (.cells #[.int .i64 oi, .int .i64 oa, .int .i64 op, .int .i64 oq] 26)) = ww at *
  refine (szBook_any A n c B m d _ hn hm).mono ?_
  rintro e w0 ⟨⟨z, rfl, hz⟩, hb0⟩
  have H0 := (hb0.block (w.heap.size) (by omega)).trans b0
  have O0 := (hb0.block (w.heap.size + 1) (by omega)).trans b1
  have hs0 : w.heap.size + 2 ≤ w0.heap.size := by have := hb0.size; omega
  have hl0 := hlw.later hb0
  have hB0 := hbw.trans (hb0.mono hbw.size)
  clear b0 b1 hb0 hbw hlw hsw
  rcases hz with ⟨rfl, hbig⟩ | ⟨hz0, hnm⟩
  · clear H0 O0
    go_wp2_with fail
    go_ret
    exact ⟨rfl, hB0⟩
  have hz1 : decide (z < 0) = false := decide_eq_false (by omega)
  have hn1 : n ≤ 1048576 := by omega
  have hm1 : m ≤ 1048576 := by omega
  have hlA := hl.1.1
  have hlB := hl.2.1
  clear hl
  obtain ⟨ok, hok⟩ : ∃ x, restOk side oi oa op oq za n zb m = x := ⟨_, rfl⟩
  have hsmall : ok = true → n ≤ 20 ∧ m ≤ 20 := fun h => by
    rw [h] at hok
    unfold restOk at hok
    rw [Bool.and_eq_true] at hok
    exact book_small hok.1
  have hN1 : onN ok (restN1 side n) ≤ 1048576 := by
    unfold onN restN1
    split
    · have := hsmall (by assumption)
      split <;> omega
    · omega
  have hN2 : onN ok (restN2 side m) ≤ 1048576 := by
    unfold onN restN2
    split
    · have := hsmall (by assumption)
      split <;> omega
    · omega
  obtain ⟨N1, hsN1⟩ : ∃ x, onN ok (restN1 side n) = x := ⟨_, rfl⟩
  obtain ⟨N2, hsN2⟩ : ∃ x, onN ok (restN2 side m) = x := ⟨_, rfl⟩
  obtain ⟨Z1, hsZ1⟩ : ∃ x, onZ ok (rest1 side op za n [oi, oa, op, oq]) = x := ⟨_, rfl⟩
  obtain ⟨Z2, hsZ2⟩ : ∃ x, onZ ok (rest2 side op zb m [oi, oa, op, oq]) = x := ⟨_, rfl⟩
  rw [hsN1] at hN1
  rw [hsN2] at hN2
  have HCS : Hid (∀ (v : World) (g f : Nat), BookIn v v.heap.size (some ⟨g, 0, none⟩) n (some ⟨f, 0, none⟩) m za zb → Calls Try.prog 6 #[.agg #[.slice (some ⟨g, 0, none⟩) n n, .slice (some ⟨f, 0, none⟩) m m], .int .i64 side, .agg #[.int .i64 oi, .int .i64 oa, .int .i64 op, .int .i64 oq]] v fun e w' => (∃ v1 v2, e = .returned (.tuple #[.agg #[v1, v2], .bool ok]) ∧ TwoRows w' v.heap.size v1 N1 Z1 v2 N2 Z2) ∧ Below v.heap.size v w') := Lib.hid (fun v g f hx => by
    have := spec_Rested ⟨g, 0, none⟩ n n ⟨f, 0, none⟩ m m za zb side oi oa op oq v hx.1 hx.2 hn1 hm1 (Nat.le_refl _) (Nat.le_refl _)
    rw [hok, hsN1, hsN2, hsZ1, hsZ2] at this
    exact this)
  have HCI : Hid (∀ (v : World) (g f : Nat), BookIn v v.heap.size (some ⟨g, 0, none⟩) n (some ⟨f, 0, none⟩) m za zb → Calls Try.prog 9 #[.agg #[.slice (some ⟨g, 0, none⟩) n n, .slice (some ⟨f, 0, none⟩) m m], .int .i64 side, .agg #[.int .i64 oi, .int .i64 oa, .int .i64 op, .int .i64 oq]] v fun e w' => (∃ v1 v2, e = .returned (.tuple #[.agg #[v1, v2], .bool ok]) ∧ TwoRows w' v.heap.size v1 N1 Z1 v2 N2 Z2) ∧ Below v.heap.size v w') := Lib.hid (fun v g f hx => by
    have := impl_Rested (some ⟨g, 0, none⟩) n n (some ⟨f, 0, none⟩) m m za zb side oi oa op oq v hx.1 hx.2 hn1 hm1
    rw [hok, hsN1, hsN2, hsZ1, hsZ2] at this
    exact this)
  clear hok hsmall hsN1 hsN2 hsZ1 hsZ2
  have hK0 : Keeps w0.heap.size w0 [(w.heap.size, (.cells #[.slice A n c, .slice B m d] 24)), (w.heap.size + 1, (.cells #[.int .i64 oi, .int .i64 oa, .int .i64 op, .int .i64 oq] 26))] w0 := ⟨Below.refl _ _, Nat.le_refl _, fun p hp => by
    simp only [List.mem_cons, List.not_mem_nil, or_false] at hp
    rcases hp with rfl | rfl
    · exact H0
    · exact O0⟩
  go_wp2_with fail
  go_upto_region 5 with fail
  go_cut [8, 9] (fun s8 s9 wx => ∃ G, s8 = .pointer (some ⟨G, 0, none⟩) ∧ s9 = .bool ok ∧ BoxRes wx w0.heap.size G N1 Z1 N2 Z2 ∧ Keeps w0.heap.size w0 [(w.heap.size, (.cells #[.slice A n c, .slice B m d] 24)), (w.heap.size + 1, (.cells #[.int .i64 oi, .int .i64 oa, .int .i64 op, .int .i64 oq] 26))] wx)
  case first =>
    refine wp_region_held_drew (S := Keeps w0.heap.size w0 [(w.heap.size, (.cells #[.slice A n c, .slice B m d] 24)), (w.heap.size + 1, (.cells #[.int .i64 oi, .int .i64 oa, .int .i64 op, .int .i64 oq] 26))]) (by kernel_rfl) ?hSr5 (fun hHeld => ?restr5)
    case hSr5 => exact hK0.drew
    replace hK0 := hK0.drew
    have hls := hl0
    clear hHeld
    generalize hw1s : w0.drew = w1s at hK0 ⊢
    clear hw1s
    refine wpAnyH_take (i := 0) (oi := ?oik1) (v := ?vk1) ?hik1 (by kernel_rfl) (by kernel_rfl) (by kernel_rfl) ?hQk1 (Or.inl ⟨?hwk1, ?hyk1⟩) (by assumption) ?restk1
    case hik1 => simp only [List.getElem?_toArray, List.getElem?_cons_succ, List.getElem?_cons_zero]; exact rfl
    case hQk1 => exact fun _ _ _ h => h
    case hwk1 => rfl
    case hyk1 => ((intro w hSw; obtain ⟨c0, c1⟩ := cell2 hSw.one; go_simp) <;> with_reducible rfl)
    try simp only [Act.put, List.setIfInBounds_toArray, List.set_cons_zero, List.set_cons_succ]
    refine wpAnyH_take (i := 2) (oi := ?oik2) (v := ?vk2) ?hik2 (by kernel_rfl) (by kernel_rfl) (by kernel_rfl) ?hQk2 (Or.inl ⟨?hwk2, ?hyk2⟩) (by assumption) ?restk2
    case hik2 => simp only [List.getElem?_toArray, List.getElem?_cons_succ, List.getElem?_cons_zero]; exact rfl
    case hQk2 => exact fun _ _ _ h => h
    case hwk2 => rfl
    case hyk2 => ((intro w hSw; go_simp) <;> with_reducible rfl)
    try simp only [Act.put, List.setIfInBounds_toArray, List.set_cons_zero, List.set_cons_succ]
    refine wpAnyH_take (i := 3) (oi := ?oik3) (v := ?vk3) ?hik3 (by kernel_rfl) (by kernel_rfl) (by kernel_rfl) ?hQk3 (Or.inl ⟨?hwk3, ?hyk3⟩) (by assumption) ?restk3
    case hik3 => simp only [List.getElem?_toArray, List.getElem?_cons_succ, List.getElem?_cons_zero]; exact rfl
    case hQk3 => exact fun _ _ _ h => h
    case hwk3 => rfl
    case hyk3 => ((intro w hSw; obtain ⟨c0, c1, c2, c3⟩ := rcell4 hSw.two; go_simp) <;> with_reducible rfl)
    try simp only [Act.put, List.setIfInBounds_toArray, List.set_cons_zero, List.set_cons_succ]
    refine wpAnyH_ready (rs := [1, 9]) (by kernel_rfl) (by simp) ?_
    refine AllReadyH.cons (o := ?or4_1) ?hor4_1 (fun K hK => ?stepr4_1) (AllReadyH.cons (o := ?or4_9) ?hor4_9 (fun K hK => ?stepr4_9) (AllReadyH.nil))
    case hor4_1 => simp only [List.getElem?_toArray, List.getElem?_cons_succ, List.getElem?_cons_zero]; exact rfl
    case hor4_9 => simp only [List.getElem?_toArray, List.getElem?_cons_succ, List.getElem?_cons_zero]; exact rfl
    case stepr4_1 =>
      go_simp
      refine (toBook_any A n c B m d za zb w1s (hls.later hK0.bel) hnm).mono ?_
      rintro e v7 ⟨g9, f10, rfl, _, _, _, hr11, hs12, hb8⟩
      have hx13 : BookIn v7 v7.heap.size (some ⟨g9, 0, none⟩) n (some ⟨f10, 0, none⟩) m za zb := ⟨Lst.of_row (sz := 4) (zs := za) (n := n) hr11 (Nat.le_refl _) hlA (fun _ _ => rfl), Lst.of_row (sz := 4) (zs := zb) (n := m) hs12 (Nat.le_refl _) hlB (fun _ _ => rfl)⟩
      clear hr11 hs12
      have hk6 := hK0.upto (Nat.le_refl _) hb8
      refine hK.out _ _ ?hSq5 (fun hHeld => ?restq5)
      case hSq5 => exact hk6
      clear hK K hb8 hK0
      try simp only [Act.put, List.setIfInBounds_toArray, List.set_cons_zero, List.set_cons_succ]
      refine wpAnyH_ready (rs := [4, 9]) (by kernel_rfl) (by simp) ?_
      refine AllReadyH.cons (o := ?or14_4) ?hor14_4 (fun K hK => ?stepr14_4) (AllReadyH.cons (o := ?or14_9) ?hor14_9 (fun K hK => ?stepr14_9) (AllReadyH.nil))
      case hor14_4 => simp only [List.getElem?_toArray, List.getElem?_cons_succ, List.getElem?_cons_zero]; exact rfl
      case hor14_9 => simp only [List.getElem?_toArray, List.getElem?_cons_succ, List.getElem?_cons_zero]; exact rfl
      case stepr14_4 =>
        go_simp
        refine (toOrder_any oi oa op oq v7).mono ?_
        rintro e v17 ⟨rfl, hb18⟩
        have hx19 := hx13.later hb18
        clear hx13
        have hk16 := hk6.upto (Nat.le_refl _) hb18
        refine hK.out _ _ ?hSq15 (fun hHeld => ?restq15)
        case hSq15 => exact hk16
        clear hK K hb18 hk6
        try simp only [Act.put, List.setIfInBounds_toArray, List.set_cons_zero, List.set_cons_succ]
        refine wpAnyH_ready (rs := [5, 9]) (by kernel_rfl) (by simp) ?_
        refine AllReadyH.cons (o := ?or20_5) ?hor20_5 (fun K hK => ?stepr20_5) (AllReadyH.cons (o := ?or20_9) ?hor20_9 (fun K hK => ?stepr20_9) (AllReadyH.nil))
        case hor20_5 => simp only [List.getElem?_toArray, List.getElem?_cons_succ, List.getElem?_cons_zero]; exact rfl
        case hor20_9 => simp only [List.getElem?_toArray, List.getElem?_cons_succ, List.getElem?_cons_zero]; exact rfl
        case stepr20_5 =>
          go_simp
          refine (HCS.out v17 g9 f10 hx19).mono ?_
          rintro e v23 ⟨⟨r25, r26, rfl, two27⟩, hb24⟩
          obtain ⟨A28, c29, A30, c31, rfl, rfl⟩ := two27.slices
          have two34 := two27.mono hk16.low
          clear two27
          clear hx19
          have hk22 := hk16.upto (Nat.le_refl _) hb24
          refine hK.out _ _ ?hSq21 (fun hHeld => ?restq21)
          case hSq21 => exact hk22
          clear hK K hb24 hk16
          try simp only [Act.put, List.setIfInBounds_toArray, List.set_cons_zero, List.set_cons_succ]
          refine wpAnyH_take (i := 6) (oi := ?oik35) (v := ?vk35) ?hik35 (by kernel_rfl) (by kernel_rfl) (by kernel_rfl) ?hQk35 (Or.inl ⟨?hwk35, ?hyk35⟩) (by assumption) ?restk35
          case hik35 => simp only [List.getElem?_toArray, List.getElem?_cons_succ, List.getElem?_cons_zero]; exact rfl
          case hQk35 => exact fun _ _ _ h => h
          case hwk35 => rfl
          case hyk35 => ((intro w hSw; go_simp) <;> with_reducible rfl)
          try simp only [Act.put, List.setIfInBounds_toArray, List.set_cons_zero, List.set_cons_succ]
          refine wpAnyH_take (i := 7) (oi := ?oik36) (v := ?vk36) ?hik36 (by kernel_rfl) (by kernel_rfl) (by kernel_rfl) ?hQk36 (Or.inl ⟨?hwk36, ?hyk36⟩) (by assumption) ?restk36
          case hik36 => simp only [List.getElem?_toArray, List.getElem?_cons_succ, List.getElem?_cons_zero]; exact rfl
          case hQk36 => exact fun _ _ _ h => h
          case hwk36 => rfl
          case hyk36 => ((intro w hSw; go_simp) <;> with_reducible rfl)
          try simp only [Act.put, List.setIfInBounds_toArray, List.set_cons_zero, List.set_cons_succ]
          refine wpAnyH_take (i := 8) (oi := ?oik37) (v := ?vk37) ?hik37 (by kernel_rfl) (by kernel_rfl) (by kernel_rfl) ?hQk37 (Or.inl ⟨?hwk37, ?hyk37⟩) (by assumption) ?restk37
          case hik37 => simp only [List.getElem?_toArray, List.getElem?_cons_succ, List.getElem?_cons_zero]; exact rfl
          case hQk37 => exact fun _ _ _ h => h
          case hwk37 => rfl
          case hyk37 => ((intro w hSw; go_simp) <;> with_reducible rfl)
          try simp only [Act.put, List.setIfInBounds_toArray, List.set_cons_zero, List.set_cons_succ]
          refine wpAnyH_ready (rs := [9]) (by kernel_rfl) (by simp) ?_
          refine AllReadyH.cons (o := ?or38_9) ?hor38_9 (fun K hK => ?stepr38_9) (AllReadyH.nil)
          case hor38_9 => simp only [List.getElem?_toArray, List.getElem?_cons_succ, List.getElem?_cons_zero]; exact rfl
          case stepr38_9 =>
            go_simp
            have hk40 := hk22.upto (Nat.le_refl _) ((Below.refl _ _).alloc (Nat.le_refl _) (.cells #[.slice none 0 0, .slice none 0 0] 30))
            have hg43 := heap_alloc_new v23 (.cells #[.slice none 0 0, .slice none 0 0] 30)
            have hz44 := hk22.lo
            have hn46 : (Value.slice A28 N1 c29).ownBlock = some v23.heap.size → False := fun e => absurd (two34.one.lt _ e).2 (Nat.lt_irrefl _)
            have hn47 : (Value.slice A30 N2 c31).ownBlock = some v23.heap.size → False := fun e => absurd (two34.two.lt _ e).2 (Nat.lt_irrefl _)
            have two45 := two34.alloc (.cells #[.slice none 0 0, .slice none 0 0] 30)
            clear two34
            refine hK.out _ _ ?hSq39 (fun hHeld => ?restq39)
            case hSq39 => exact hk40
            clear hK K hk22
            try simp only [Act.put, List.setIfInBounds_toArray, List.set_cons_zero, List.set_cons_succ]
            generalize v23.alloc (.cells #[.slice none 0 0, .slice none 0 0] 30) = v41 at *
            generalize v23.heap.size = G42 at *
            refine wpAnyH_ready (rs := [10]) (by kernel_rfl) (by simp) ?_
            refine AllReadyH.cons (o := ?or48_10) ?hor48_10 (fun K hK => ?stepr48_10) (AllReadyH.nil)
            case hor48_10 => simp only [List.getElem?_toArray, List.getElem?_cons_succ, List.getElem?_cons_zero]; exact rfl
            case stepr48_10 =>
              obtain ⟨c0, c1⟩ := cell2 hg43
              obtain ⟨f0, f1⟩ := rfree2 hg43
              go_simp
              have hk50 := hk40.upto' hz44 (((Below.refl G42 v41).setCell (p := ⟨G42, 0, none⟩) (Nat.le_refl _) (.slice A28 N1 c29)).setCell (p := ⟨G42, 1, none⟩) (Nat.le_refl _) (.slice A30 N2 c31))
              have hput52 := rput2 (u0 := (.slice A28 N1 c29)) (u1 := (.slice A30 N2 c31)) hg43
              have two51 := (two45.put' (set_grown v41 G42 0 (.slice A28 N1 c29)) hn46 hn47).put' (set_grown _ G42 1 (.slice A30 N2 c31)) hn46 hn47
              refine hK.out _ _ ?hSq49 (fun hHeld => ?restq49)
              case hSq49 => exact hk50
              clear hK K hk40 two45 hg43 c0 c1 f0 f1
              try simp only [Act.put, List.setIfInBounds_toArray, List.set_cons_zero, List.set_cons_succ]
              refine wpAnyH_take (i := 11) (oi := ?oik53) (v := ?vk53) ?hik53 (by kernel_rfl) (by kernel_rfl) (by kernel_rfl) ?hQk53 (Or.inl ⟨?hwk53, ?hyk53⟩) (by assumption) ?restk53
              case hik53 => simp only [List.getElem?_toArray, List.getElem?_cons_succ, List.getElem?_cons_zero]; exact rfl
              case hQk53 => exact fun _ _ _ h => h
              case hwk53 => rfl
              case hyk53 => ((intro w hSw; go_simp) <;> with_reducible rfl)
              try simp only [Act.put, List.setIfInBounds_toArray, List.set_cons_zero, List.set_cons_succ]
              refine wpAnyH_done (by kernel_rfl) ?_ _
              go_wp2_with fail
              go_meet
              exact ⟨_, rfl, rfl, ⟨_, _, _, _, hput52, two51, hn46, hn47, hz44.low⟩, hk50⟩
        case stepr20_9 =>
          go_simp
          have hk55 := hk16.upto (Nat.le_refl _) ((Below.refl _ _).alloc (Nat.le_refl _) (.cells #[.slice none 0 0, .slice none 0 0] 30))
          have hg58 := heap_alloc_new v17 (.cells #[.slice none 0 0, .slice none 0 0] 30)
          have hz59 := hk16.lo
          have hx60 := hx19.later ((Below.refl _ _).alloc (Nat.le_refl _) (.cells #[.slice none 0 0, .slice none 0 0] 30))
          clear hx19
          refine hK.out _ _ ?hSq54 (fun hHeld => ?restq54)
          case hSq54 => exact hk55
          clear hK K hk16
          try simp only [Act.put, List.setIfInBounds_toArray, List.set_cons_zero, List.set_cons_succ]
          generalize v17.alloc (.cells #[.slice none 0 0, .slice none 0 0] 30) = v56 at *
          generalize v17.heap.size = G57 at *
          refine wpAnyH_ready (rs := [5]) (by kernel_rfl) (by simp) ?_
          refine AllReadyH.cons (o := ?or61_5) ?hor61_5 (fun K hK => ?stepr61_5) (AllReadyH.nil)
          case hor61_5 => simp only [List.getElem?_toArray, List.getElem?_cons_succ, List.getElem?_cons_zero]; exact rfl
          case stepr61_5 =>
            go_simp
            refine (HCS.out v56 g9 f10 hx60).mono ?_
            rintro e v64 ⟨⟨r66, r67, rfl, two68⟩, hb65⟩
            obtain ⟨A69, c70, A71, c72, rfl, rfl⟩ := two68.slices
            have hn73 : (Value.slice A69 N1 c70).ownBlock = some G57 → False := fun e => absurd (two68.one.lt _ e).1 (Nat.not_le_of_lt (heap_lt' hg58))
            have hn74 : (Value.slice A71 N2 c72).ownBlock = some G57 → False := fun e => absurd (two68.two.lt _ e).1 (Nat.not_le_of_lt (heap_lt' hg58))
            have two75 := two68.mono hk55.low
            clear two68
            clear hx60
            have hk63 := hk55.upto (Nat.le_refl _) hb65
            have hg76 := (hb65.block G57 (heap_lt' hg58)).trans hg58
            clear hg58
            refine hK.out _ _ ?hSq62 (fun hHeld => ?restq62)
            case hSq62 => exact hk63
            clear hK K hb65 hk55
            try simp only [Act.put, List.setIfInBounds_toArray, List.set_cons_zero, List.set_cons_succ]
            refine wpAnyH_take (i := 6) (oi := ?oik77) (v := ?vk77) ?hik77 (by kernel_rfl) (by kernel_rfl) (by kernel_rfl) ?hQk77 (Or.inl ⟨?hwk77, ?hyk77⟩) (by assumption) ?restk77
            case hik77 => simp only [List.getElem?_toArray, List.getElem?_cons_succ, List.getElem?_cons_zero]; exact rfl
            case hQk77 => exact fun _ _ _ h => h
            case hwk77 => rfl
            case hyk77 => ((intro w hSw; go_simp) <;> with_reducible rfl)
            try simp only [Act.put, List.setIfInBounds_toArray, List.set_cons_zero, List.set_cons_succ]
            refine wpAnyH_take (i := 7) (oi := ?oik78) (v := ?vk78) ?hik78 (by kernel_rfl) (by kernel_rfl) (by kernel_rfl) ?hQk78 (Or.inl ⟨?hwk78, ?hyk78⟩) (by assumption) ?restk78
            case hik78 => simp only [List.getElem?_toArray, List.getElem?_cons_succ, List.getElem?_cons_zero]; exact rfl
            case hQk78 => exact fun _ _ _ h => h
            case hwk78 => rfl
            case hyk78 => ((intro w hSw; go_simp) <;> with_reducible rfl)
            try simp only [Act.put, List.setIfInBounds_toArray, List.set_cons_zero, List.set_cons_succ]
            refine wpAnyH_take (i := 8) (oi := ?oik79) (v := ?vk79) ?hik79 (by kernel_rfl) (by kernel_rfl) (by kernel_rfl) ?hQk79 (Or.inl ⟨?hwk79, ?hyk79⟩) (by assumption) ?restk79
            case hik79 => simp only [List.getElem?_toArray, List.getElem?_cons_succ, List.getElem?_cons_zero]; exact rfl
            case hQk79 => exact fun _ _ _ h => h
            case hwk79 => rfl
            case hyk79 => ((intro w hSw; go_simp) <;> with_reducible rfl)
            try simp only [Act.put, List.setIfInBounds_toArray, List.set_cons_zero, List.set_cons_succ]
            refine wpAnyH_ready (rs := [10]) (by kernel_rfl) (by simp) ?_
            refine AllReadyH.cons (o := ?or80_10) ?hor80_10 (fun K hK => ?stepr80_10) (AllReadyH.nil)
            case hor80_10 => simp only [List.getElem?_toArray, List.getElem?_cons_succ, List.getElem?_cons_zero]; exact rfl
            case stepr80_10 =>
              obtain ⟨c0, c1⟩ := cell2 hg76
              obtain ⟨f0, f1⟩ := rfree2 hg76
              go_simp
              have hk82 := hk63.upto' hz59 (((Below.refl G57 v64).setCell (p := ⟨G57, 0, none⟩) (Nat.le_refl _) (.slice A69 N1 c70)).setCell (p := ⟨G57, 1, none⟩) (Nat.le_refl _) (.slice A71 N2 c72))
              have hput84 := rput2 (u0 := (.slice A69 N1 c70)) (u1 := (.slice A71 N2 c72)) hg76
              have two83 := (two75.put' (set_grown v64 G57 0 (.slice A69 N1 c70)) hn73 hn74).put' (set_grown _ G57 1 (.slice A71 N2 c72)) hn73 hn74
              refine hK.out _ _ ?hSq81 (fun hHeld => ?restq81)
              case hSq81 => exact hk82
              clear hK K hk63 two75 hg76 c0 c1 f0 f1
              try simp only [Act.put, List.setIfInBounds_toArray, List.set_cons_zero, List.set_cons_succ]
              refine wpAnyH_take (i := 11) (oi := ?oik85) (v := ?vk85) ?hik85 (by kernel_rfl) (by kernel_rfl) (by kernel_rfl) ?hQk85 (Or.inl ⟨?hwk85, ?hyk85⟩) (by assumption) ?restk85
              case hik85 => simp only [List.getElem?_toArray, List.getElem?_cons_succ, List.getElem?_cons_zero]; exact rfl
              case hQk85 => exact fun _ _ _ h => h
              case hwk85 => rfl
              case hyk85 => ((intro w hSw; go_simp) <;> with_reducible rfl)
              try simp only [Act.put, List.setIfInBounds_toArray, List.set_cons_zero, List.set_cons_succ]
              refine wpAnyH_done (by kernel_rfl) ?_ _
              go_wp2_with fail
              go_meet
              exact ⟨_, rfl, rfl, ⟨_, _, _, _, hput84, two83, hn73, hn74, hz59.low⟩, hk82⟩
      case stepr14_9 =>
        go_simp
        have hk87 := hk6.upto (Nat.le_refl _) ((Below.refl _ _).alloc (Nat.le_refl _) (.cells #[.slice none 0 0, .slice none 0 0] 30))
        have hg90 := heap_alloc_new v7 (.cells #[.slice none 0 0, .slice none 0 0] 30)
        have hz91 := hk6.lo
        have hx92 := hx13.later ((Below.refl _ _).alloc (Nat.le_refl _) (.cells #[.slice none 0 0, .slice none 0 0] 30))
        clear hx13
        refine hK.out _ _ ?hSq86 (fun hHeld => ?restq86)
        case hSq86 => exact hk87
        clear hK K hk6
        try simp only [Act.put, List.setIfInBounds_toArray, List.set_cons_zero, List.set_cons_succ]
        generalize v7.alloc (.cells #[.slice none 0 0, .slice none 0 0] 30) = v88 at *
        generalize v7.heap.size = G89 at *
        refine wpAnyH_ready (rs := [4]) (by kernel_rfl) (by simp) ?_
        refine AllReadyH.cons (o := ?or93_4) ?hor93_4 (fun K hK => ?stepr93_4) (AllReadyH.nil)
        case hor93_4 => simp only [List.getElem?_toArray, List.getElem?_cons_succ, List.getElem?_cons_zero]; exact rfl
        case stepr93_4 =>
          go_simp
          refine (toOrder_any oi oa op oq v88).mono ?_
          rintro e v96 ⟨rfl, hb97⟩
          have hx98 := hx92.later hb97
          clear hx92
          have hk95 := hk87.upto (Nat.le_refl _) hb97
          have hg99 := (hb97.block G89 (heap_lt' hg90)).trans hg90
          clear hg90
          refine hK.out _ _ ?hSq94 (fun hHeld => ?restq94)
          case hSq94 => exact hk95
          clear hK K hb97 hk87
          try simp only [Act.put, List.setIfInBounds_toArray, List.set_cons_zero, List.set_cons_succ]
          refine wpAnyH_ready (rs := [5]) (by kernel_rfl) (by simp) ?_
          refine AllReadyH.cons (o := ?or100_5) ?hor100_5 (fun K hK => ?stepr100_5) (AllReadyH.nil)
          case hor100_5 => simp only [List.getElem?_toArray, List.getElem?_cons_succ, List.getElem?_cons_zero]; exact rfl
          case stepr100_5 =>
            go_simp
            refine (HCS.out v96 g9 f10 hx98).mono ?_
            rintro e v103 ⟨⟨r105, r106, rfl, two107⟩, hb104⟩
            obtain ⟨A108, c109, A110, c111, rfl, rfl⟩ := two107.slices
            have hn112 : (Value.slice A108 N1 c109).ownBlock = some G89 → False := fun e => absurd (two107.one.lt _ e).1 (Nat.not_le_of_lt (heap_lt' hg99))
            have hn113 : (Value.slice A110 N2 c111).ownBlock = some G89 → False := fun e => absurd (two107.two.lt _ e).1 (Nat.not_le_of_lt (heap_lt' hg99))
            have two114 := two107.mono hk95.low
            clear two107
            clear hx98
            have hk102 := hk95.upto (Nat.le_refl _) hb104
            have hg115 := (hb104.block G89 (heap_lt' hg99)).trans hg99
            clear hg99
            refine hK.out _ _ ?hSq101 (fun hHeld => ?restq101)
            case hSq101 => exact hk102
            clear hK K hb104 hk95
            try simp only [Act.put, List.setIfInBounds_toArray, List.set_cons_zero, List.set_cons_succ]
            refine wpAnyH_take (i := 6) (oi := ?oik116) (v := ?vk116) ?hik116 (by kernel_rfl) (by kernel_rfl) (by kernel_rfl) ?hQk116 (Or.inl ⟨?hwk116, ?hyk116⟩) (by assumption) ?restk116
            case hik116 => simp only [List.getElem?_toArray, List.getElem?_cons_succ, List.getElem?_cons_zero]; exact rfl
            case hQk116 => exact fun _ _ _ h => h
            case hwk116 => rfl
            case hyk116 => ((intro w hSw; go_simp) <;> with_reducible rfl)
            try simp only [Act.put, List.setIfInBounds_toArray, List.set_cons_zero, List.set_cons_succ]
            refine wpAnyH_take (i := 7) (oi := ?oik117) (v := ?vk117) ?hik117 (by kernel_rfl) (by kernel_rfl) (by kernel_rfl) ?hQk117 (Or.inl ⟨?hwk117, ?hyk117⟩) (by assumption) ?restk117
            case hik117 => simp only [List.getElem?_toArray, List.getElem?_cons_succ, List.getElem?_cons_zero]; exact rfl
            case hQk117 => exact fun _ _ _ h => h
            case hwk117 => rfl
            case hyk117 => ((intro w hSw; go_simp) <;> with_reducible rfl)
            try simp only [Act.put, List.setIfInBounds_toArray, List.set_cons_zero, List.set_cons_succ]
            refine wpAnyH_take (i := 8) (oi := ?oik118) (v := ?vk118) ?hik118 (by kernel_rfl) (by kernel_rfl) (by kernel_rfl) ?hQk118 (Or.inl ⟨?hwk118, ?hyk118⟩) (by assumption) ?restk118
            case hik118 => simp only [List.getElem?_toArray, List.getElem?_cons_succ, List.getElem?_cons_zero]; exact rfl
            case hQk118 => exact fun _ _ _ h => h
            case hwk118 => rfl
            case hyk118 => ((intro w hSw; go_simp) <;> with_reducible rfl)
            try simp only [Act.put, List.setIfInBounds_toArray, List.set_cons_zero, List.set_cons_succ]
            refine wpAnyH_ready (rs := [10]) (by kernel_rfl) (by simp) ?_
            refine AllReadyH.cons (o := ?or119_10) ?hor119_10 (fun K hK => ?stepr119_10) (AllReadyH.nil)
            case hor119_10 => simp only [List.getElem?_toArray, List.getElem?_cons_succ, List.getElem?_cons_zero]; exact rfl
            case stepr119_10 =>
              obtain ⟨c0, c1⟩ := cell2 hg115
              obtain ⟨f0, f1⟩ := rfree2 hg115
              go_simp
              have hk121 := hk102.upto' hz91 (((Below.refl G89 v103).setCell (p := ⟨G89, 0, none⟩) (Nat.le_refl _) (.slice A108 N1 c109)).setCell (p := ⟨G89, 1, none⟩) (Nat.le_refl _) (.slice A110 N2 c111))
              have hput123 := rput2 (u0 := (.slice A108 N1 c109)) (u1 := (.slice A110 N2 c111)) hg115
              have two122 := (two114.put' (set_grown v103 G89 0 (.slice A108 N1 c109)) hn112 hn113).put' (set_grown _ G89 1 (.slice A110 N2 c111)) hn112 hn113
              refine hK.out _ _ ?hSq120 (fun hHeld => ?restq120)
              case hSq120 => exact hk121
              clear hK K hk102 two114 hg115 c0 c1 f0 f1
              try simp only [Act.put, List.setIfInBounds_toArray, List.set_cons_zero, List.set_cons_succ]
              refine wpAnyH_take (i := 11) (oi := ?oik124) (v := ?vk124) ?hik124 (by kernel_rfl) (by kernel_rfl) (by kernel_rfl) ?hQk124 (Or.inl ⟨?hwk124, ?hyk124⟩) (by assumption) ?restk124
              case hik124 => simp only [List.getElem?_toArray, List.getElem?_cons_succ, List.getElem?_cons_zero]; exact rfl
              case hQk124 => exact fun _ _ _ h => h
              case hwk124 => rfl
              case hyk124 => ((intro w hSw; go_simp) <;> with_reducible rfl)
              try simp only [Act.put, List.setIfInBounds_toArray, List.set_cons_zero, List.set_cons_succ]
              refine wpAnyH_done (by kernel_rfl) ?_ _
              go_wp2_with fail
              go_meet
              exact ⟨_, rfl, rfl, ⟨_, _, _, _, hput123, two122, hn112, hn113, hz91.low⟩, hk121⟩
    case stepr4_9 =>
      go_simp
      have hk126 := hK0.upto (Nat.le_refl _) ((Below.refl _ _).alloc (Nat.le_refl _) (.cells #[.slice none 0 0, .slice none 0 0] 30))
      have hg129 := heap_alloc_new w1s (.cells #[.slice none 0 0, .slice none 0 0] 30)
      have hz130 := hK0.lo
      refine hK.out _ _ ?hSq125 (fun hHeld => ?restq125)
      case hSq125 => exact hk126
      clear hK K hK0
      try simp only [Act.put, List.setIfInBounds_toArray, List.set_cons_zero, List.set_cons_succ]
      generalize w1s.alloc (.cells #[.slice none 0 0, .slice none 0 0] 30) = v127 at *
      generalize w1s.heap.size = G128 at *
      refine wpAnyH_ready (rs := [1]) (by kernel_rfl) (by simp) ?_
      refine AllReadyH.cons (o := ?or131_1) ?hor131_1 (fun K hK => ?stepr131_1) (AllReadyH.nil)
      case hor131_1 => simp only [List.getElem?_toArray, List.getElem?_cons_succ, List.getElem?_cons_zero]; exact rfl
      case stepr131_1 =>
        go_simp
        refine (toBook_any A n c B m d za zb v127 (hls.later hk126.bel) hnm).mono ?_
        rintro e v134 ⟨g136, f137, rfl, _, _, _, hr138, hs139, hb135⟩
        have hx140 : BookIn v134 v134.heap.size (some ⟨g136, 0, none⟩) n (some ⟨f137, 0, none⟩) m za zb := ⟨Lst.of_row (sz := 4) (zs := za) (n := n) hr138 (Nat.le_refl _) hlA (fun _ _ => rfl), Lst.of_row (sz := 4) (zs := zb) (n := m) hs139 (Nat.le_refl _) hlB (fun _ _ => rfl)⟩
        clear hr138 hs139
        have hk133 := hk126.upto (Nat.le_refl _) hb135
        have hg141 := (hb135.block G128 (heap_lt' hg129)).trans hg129
        clear hg129
        refine hK.out _ _ ?hSq132 (fun hHeld => ?restq132)
        case hSq132 => exact hk133
        clear hK K hb135 hk126
        try simp only [Act.put, List.setIfInBounds_toArray, List.set_cons_zero, List.set_cons_succ]
        refine wpAnyH_ready (rs := [4]) (by kernel_rfl) (by simp) ?_
        refine AllReadyH.cons (o := ?or142_4) ?hor142_4 (fun K hK => ?stepr142_4) (AllReadyH.nil)
        case hor142_4 => simp only [List.getElem?_toArray, List.getElem?_cons_succ, List.getElem?_cons_zero]; exact rfl
        case stepr142_4 =>
          go_simp
          refine (toOrder_any oi oa op oq v134).mono ?_
          rintro e v145 ⟨rfl, hb146⟩
          have hx147 := hx140.later hb146
          clear hx140
          have hk144 := hk133.upto (Nat.le_refl _) hb146
          have hg148 := (hb146.block G128 (heap_lt' hg141)).trans hg141
          clear hg141
          refine hK.out _ _ ?hSq143 (fun hHeld => ?restq143)
          case hSq143 => exact hk144
          clear hK K hb146 hk133
          try simp only [Act.put, List.setIfInBounds_toArray, List.set_cons_zero, List.set_cons_succ]
          refine wpAnyH_ready (rs := [5]) (by kernel_rfl) (by simp) ?_
          refine AllReadyH.cons (o := ?or149_5) ?hor149_5 (fun K hK => ?stepr149_5) (AllReadyH.nil)
          case hor149_5 => simp only [List.getElem?_toArray, List.getElem?_cons_succ, List.getElem?_cons_zero]; exact rfl
          case stepr149_5 =>
            go_simp
            refine (HCS.out v145 g136 f137 hx147).mono ?_
            rintro e v152 ⟨⟨r154, r155, rfl, two156⟩, hb153⟩
            obtain ⟨A157, c158, A159, c160, rfl, rfl⟩ := two156.slices
            have hn161 : (Value.slice A157 N1 c158).ownBlock = some G128 → False := fun e => absurd (two156.one.lt _ e).1 (Nat.not_le_of_lt (heap_lt' hg148))
            have hn162 : (Value.slice A159 N2 c160).ownBlock = some G128 → False := fun e => absurd (two156.two.lt _ e).1 (Nat.not_le_of_lt (heap_lt' hg148))
            have two163 := two156.mono hk144.low
            clear two156
            clear hx147
            have hk151 := hk144.upto (Nat.le_refl _) hb153
            have hg164 := (hb153.block G128 (heap_lt' hg148)).trans hg148
            clear hg148
            refine hK.out _ _ ?hSq150 (fun hHeld => ?restq150)
            case hSq150 => exact hk151
            clear hK K hb153 hk144
            try simp only [Act.put, List.setIfInBounds_toArray, List.set_cons_zero, List.set_cons_succ]
            refine wpAnyH_take (i := 6) (oi := ?oik165) (v := ?vk165) ?hik165 (by kernel_rfl) (by kernel_rfl) (by kernel_rfl) ?hQk165 (Or.inl ⟨?hwk165, ?hyk165⟩) (by assumption) ?restk165
            case hik165 => simp only [List.getElem?_toArray, List.getElem?_cons_succ, List.getElem?_cons_zero]; exact rfl
            case hQk165 => exact fun _ _ _ h => h
            case hwk165 => rfl
            case hyk165 => ((intro w hSw; go_simp) <;> with_reducible rfl)
            try simp only [Act.put, List.setIfInBounds_toArray, List.set_cons_zero, List.set_cons_succ]
            refine wpAnyH_take (i := 7) (oi := ?oik166) (v := ?vk166) ?hik166 (by kernel_rfl) (by kernel_rfl) (by kernel_rfl) ?hQk166 (Or.inl ⟨?hwk166, ?hyk166⟩) (by assumption) ?restk166
            case hik166 => simp only [List.getElem?_toArray, List.getElem?_cons_succ, List.getElem?_cons_zero]; exact rfl
            case hQk166 => exact fun _ _ _ h => h
            case hwk166 => rfl
            case hyk166 => ((intro w hSw; go_simp) <;> with_reducible rfl)
            try simp only [Act.put, List.setIfInBounds_toArray, List.set_cons_zero, List.set_cons_succ]
            refine wpAnyH_take (i := 8) (oi := ?oik167) (v := ?vk167) ?hik167 (by kernel_rfl) (by kernel_rfl) (by kernel_rfl) ?hQk167 (Or.inl ⟨?hwk167, ?hyk167⟩) (by assumption) ?restk167
            case hik167 => simp only [List.getElem?_toArray, List.getElem?_cons_succ, List.getElem?_cons_zero]; exact rfl
            case hQk167 => exact fun _ _ _ h => h
            case hwk167 => rfl
            case hyk167 => ((intro w hSw; go_simp) <;> with_reducible rfl)
            try simp only [Act.put, List.setIfInBounds_toArray, List.set_cons_zero, List.set_cons_succ]
            refine wpAnyH_ready (rs := [10]) (by kernel_rfl) (by simp) ?_
            refine AllReadyH.cons (o := ?or168_10) ?hor168_10 (fun K hK => ?stepr168_10) (AllReadyH.nil)
            case hor168_10 => simp only [List.getElem?_toArray, List.getElem?_cons_succ, List.getElem?_cons_zero]; exact rfl
            case stepr168_10 =>
              obtain ⟨c0, c1⟩ := cell2 hg164
              obtain ⟨f0, f1⟩ := rfree2 hg164
              go_simp
              have hk170 := hk151.upto' hz130 (((Below.refl G128 v152).setCell (p := ⟨G128, 0, none⟩) (Nat.le_refl _) (.slice A157 N1 c158)).setCell (p := ⟨G128, 1, none⟩) (Nat.le_refl _) (.slice A159 N2 c160))
              have hput172 := rput2 (u0 := (.slice A157 N1 c158)) (u1 := (.slice A159 N2 c160)) hg164
              have two171 := (two163.put' (set_grown v152 G128 0 (.slice A157 N1 c158)) hn161 hn162).put' (set_grown _ G128 1 (.slice A159 N2 c160)) hn161 hn162
              refine hK.out _ _ ?hSq169 (fun hHeld => ?restq169)
              case hSq169 => exact hk170
              clear hK K hk151 two163 hg164 c0 c1 f0 f1
              try simp only [Act.put, List.setIfInBounds_toArray, List.set_cons_zero, List.set_cons_succ]
              refine wpAnyH_take (i := 11) (oi := ?oik173) (v := ?vk173) ?hik173 (by kernel_rfl) (by kernel_rfl) (by kernel_rfl) ?hQk173 (Or.inl ⟨?hwk173, ?hyk173⟩) (by assumption) ?restk173
              case hik173 => simp only [List.getElem?_toArray, List.getElem?_cons_succ, List.getElem?_cons_zero]; exact rfl
              case hQk173 => exact fun _ _ _ h => h
              case hwk173 => rfl
              case hyk173 => ((intro w hSw; go_simp) <;> with_reducible rfl)
              try simp only [Act.put, List.setIfInBounds_toArray, List.set_cons_zero, List.set_cons_succ]
              refine wpAnyH_done (by kernel_rfl) ?_ _
              go_wp2_with fail
              go_meet
              exact ⟨_, rfl, rfl, ⟨_, _, _, _, hput172, two171, hn161, hn162, hz130.low⟩, hk170⟩
  case rest =>
    clear hK0
    rename World => wa
    obtain ⟨G1, rfl, rfl, ⟨Aw, cw, Av, cv, Wa, TWa, -, -, hbase1⟩, hK0⟩ := hcut
    have Ha := hK0.one
    have Oa := hK0.two
    have lHa := heap_lt' Ha
    have lOa := heap_lt' Oa
    have lWa := heap_lt' Wa
    have hla := hl0.later hK0.bel
    have hBa := ord_later hB0 hK0.bel
    obtain ⟨p0, p1⟩ := cell2 Ha
    clear hK0 hl0 hB0 H0 O0 hs0 HCS
    go_wp2_with fail
    refine (toBook_any A n c B m d za zb _ hla hnm).mono ?_
    rintro e w3 ⟨g3, f3, rfl, hg3, hf3, hgf3, hr3, hs3, hb3⟩
    have hx3 : BookIn w3 w3.heap.size (some ⟨g3, 0, none⟩) n (some ⟨f3, 0, none⟩) m za zb := ⟨Lst.of_row (sz := 4) (zs := za) (n := n) hr3 (Nat.le_refl _) hlA (fun _ _ => rfl), Lst.of_row (sz := 4) (zs := zb) (n := m) hs3 (Nat.le_refl _) hlB (fun _ _ => rfl)⟩
    have HR3 := Lib.hid hr3
    have HS3 := Lib.hid hs3
    have lg3 := hr3.lt
    have lf3 := hs3.lt
    have D3 := hb3
    have Ob := (hb3.block _ lOa).trans Oa
    clear hb3 hr3 hs3 p0 p1
    have hbb : Below w3.heap.size w3 (w3.alloc (.cells #[.slice (some ⟨g3, 0, none⟩) n n, .slice (some ⟨f3, 0, none⟩) m m] 30)) := (Below.refl _ _).alloc (Nat.le_refl _) _
    have Xb := heap_alloc_new w3 (.cells #[.slice (some ⟨g3, 0, none⟩) n n, .slice (some ⟨f3, 0, none⟩) m m] 30)
    have lX := heap_lt' Xb
    have Ob := (hbb.block _ (heap_lt' Ob)).trans Ob
    have Db := ord_later D3 hbb
    have hxb := hx3.later hbb
    have HR3 := Lib.hid (HR3.out.of_block (hbb.block g3 lg3))
    have HS3 := Lib.hid (HS3.out.of_block (hbb.block f3 lf3))
    have hwab : wa.heap.size ≤ (w3.alloc (.cells #[.slice (some ⟨g3, 0, none⟩) n n, .slice (some ⟨f3, 0, none⟩) m m] 30)).heap.size := Nat.le_trans D3.size hbb.size
    have lg3 := Nat.lt_of_lt_of_le lg3 hbb.size
    have lf3 := Nat.lt_of_lt_of_le lf3 hbb.size
    clear hx3 D3 hbb
    go_wp2_with fail
    generalize (w3.alloc (.cells #[.slice (some ⟨g3, 0, none⟩) n n, .slice (some ⟨f3, 0, none⟩) m m] 30)) = wb at *
    have hK0 : Keeps wb.heap.size wb [(w.heap.size + 1, (.cells #[.int .i64 oi, .int .i64 oa, .int .i64 op, .int .i64 oq] 26)), (w3.heap.size, (.cells #[.slice (some ⟨g3, 0, none⟩) n n, .slice (some ⟨f3, 0, none⟩) m m] 30))] wb := ⟨Below.refl _ _, Nat.le_refl _, fun p hp => by
      simp only [List.mem_cons, List.not_mem_nil, or_false] at hp
      rcases hp with rfl | rfl
      · exact Ob
      · exact Xb⟩
    clear Ob
    go_upto_region 7 with fail
    go_cut [11, 12] (fun s11 s12 wx => ∃ G, s11 = .pointer (some ⟨G, 0, none⟩) ∧ s12 = .bool ok ∧ BoxRes wx wb.heap.size G N1 Z1 N2 Z2 ∧ Keeps wb.heap.size wb [(w.heap.size + 1, (.cells #[.int .i64 oi, .int .i64 oa, .int .i64 op, .int .i64 oq] 26)), (w3.heap.size, (.cells #[.slice (some ⟨g3, 0, none⟩) n n, .slice (some ⟨f3, 0, none⟩) m m] 30))] wx)
    case first =>
      refine wp_region_held_drew (S := Keeps wb.heap.size wb [(w.heap.size + 1, (.cells #[.int .i64 oi, .int .i64 oa, .int .i64 op, .int .i64 oq] 26)), (w3.heap.size, (.cells #[.slice (some ⟨g3, 0, none⟩) n n, .slice (some ⟨f3, 0, none⟩) m m] 30))]) (by kernel_rfl) ?hSr7 (fun hHeld => ?restr7)
      case hSr7 => exact hK0.drew
      replace hK0 := hK0.drew
      have hls := hxb
      clear hHeld
      generalize hw1s : wb.drew = w1s at hK0 ⊢
      clear hw1s
      refine wpAnyH_take (i := 0) (oi := ?oik174) (v := ?vk174) ?hik174 (by kernel_rfl) (by kernel_rfl) (by kernel_rfl) ?hQk174 (Or.inl ⟨?hwk174, ?hyk174⟩) (by assumption) ?restk174
      case hik174 => simp only [List.getElem?_toArray, List.getElem?_cons_succ, List.getElem?_cons_zero]; exact rfl
      case hQk174 => exact fun _ _ _ h => h
      case hwk174 => rfl
      case hyk174 => ((intro w hSw; obtain ⟨c0, c1⟩ := cell2 hSw.two; go_simp) <;> with_reducible rfl)
      try simp only [Act.put, List.setIfInBounds_toArray, List.set_cons_zero, List.set_cons_succ]
      refine wpAnyH_take (i := 1) (oi := ?oik175) (v := ?vk175) ?hik175 (by kernel_rfl) (by kernel_rfl) (by kernel_rfl) ?hQk175 (Or.inl ⟨?hwk175, ?hyk175⟩) (by assumption) ?restk175
      case hik175 => simp only [List.getElem?_toArray, List.getElem?_cons_succ, List.getElem?_cons_zero]; exact rfl
      case hQk175 => exact fun _ _ _ h => h
      case hwk175 => rfl
      case hyk175 => ((intro w hSw; go_simp) <;> with_reducible rfl)
      try simp only [Act.put, List.setIfInBounds_toArray, List.set_cons_zero, List.set_cons_succ]
      refine wpAnyH_take (i := 2) (oi := ?oik176) (v := ?vk176) ?hik176 (by kernel_rfl) (by kernel_rfl) (by kernel_rfl) ?hQk176 (Or.inl ⟨?hwk176, ?hyk176⟩) (by assumption) ?restk176
      case hik176 => simp only [List.getElem?_toArray, List.getElem?_cons_succ, List.getElem?_cons_zero]; exact rfl
      case hQk176 => exact fun _ _ _ h => h
      case hwk176 => rfl
      case hyk176 => ((intro w hSw; obtain ⟨c0, c1, c2, c3⟩ := rcell4 hSw.one; go_simp) <;> with_reducible rfl)
      try simp only [Act.put, List.setIfInBounds_toArray, List.set_cons_zero, List.set_cons_succ]
      refine wpAnyH_ready (rs := [3, 8]) (by kernel_rfl) (by simp) ?_
      refine AllReadyH.cons (o := ?or177_3) ?hor177_3 (fun K hK => ?stepr177_3) (AllReadyH.cons (o := ?or177_8) ?hor177_8 (fun K hK => ?stepr177_8) (AllReadyH.nil))
      case hor177_3 => simp only [List.getElem?_toArray, List.getElem?_cons_succ, List.getElem?_cons_zero]; exact rfl
      case hor177_8 => simp only [List.getElem?_toArray, List.getElem?_cons_succ, List.getElem?_cons_zero]; exact rfl
      case stepr177_3 =>
        go_simp
        refine (toOrder_any oi oa op oq w1s).mono ?_
        rintro e v180 ⟨rfl, hb181⟩
        have hk179 := hK0.upto (Nat.le_refl _) hb181
        refine hK.out _ _ ?hSq178 (fun hHeld => ?restq178)
        case hSq178 => exact hk179
        clear hK K hb181 hK0
        try simp only [Act.put, List.setIfInBounds_toArray, List.set_cons_zero, List.set_cons_succ]
        refine wpAnyH_ready (rs := [4, 8]) (by kernel_rfl) (by simp) ?_
        refine AllReadyH.cons (o := ?or182_4) ?hor182_4 (fun K hK => ?stepr182_4) (AllReadyH.cons (o := ?or182_8) ?hor182_8 (fun K hK => ?stepr182_8) (AllReadyH.nil))
        case hor182_4 => simp only [List.getElem?_toArray, List.getElem?_cons_succ, List.getElem?_cons_zero]; exact rfl
        case hor182_8 => simp only [List.getElem?_toArray, List.getElem?_cons_succ, List.getElem?_cons_zero]; exact rfl
        case stepr182_4 =>
          go_simp
          refine (HCI.out v180 g3 f3 (hxb.later hk179.bel)).mono ?_
          rintro e v185 ⟨⟨r187, r188, rfl, two189⟩, hb186⟩
          obtain ⟨A190, c191, A192, c193, rfl, rfl⟩ := two189.slices
          have two196 := two189.mono hk179.low
          clear two189
          have hk184 := hk179.upto (Nat.le_refl _) hb186
          refine hK.out _ _ ?hSq183 (fun hHeld => ?restq183)
          case hSq183 => exact hk184
          clear hK K hb186 hk179
          try simp only [Act.put, List.setIfInBounds_toArray, List.set_cons_zero, List.set_cons_succ]
          refine wpAnyH_take (i := 5) (oi := ?oik197) (v := ?vk197) ?hik197 (by kernel_rfl) (by kernel_rfl) (by kernel_rfl) ?hQk197 (Or.inl ⟨?hwk197, ?hyk197⟩) (by assumption) ?restk197
          case hik197 => simp only [List.getElem?_toArray, List.getElem?_cons_succ, List.getElem?_cons_zero]; exact rfl
          case hQk197 => exact fun _ _ _ h => h
          case hwk197 => rfl
          case hyk197 => ((intro w hSw; go_simp) <;> with_reducible rfl)
          try simp only [Act.put, List.setIfInBounds_toArray, List.set_cons_zero, List.set_cons_succ]
          refine wpAnyH_take (i := 6) (oi := ?oik198) (v := ?vk198) ?hik198 (by kernel_rfl) (by kernel_rfl) (by kernel_rfl) ?hQk198 (Or.inl ⟨?hwk198, ?hyk198⟩) (by assumption) ?restk198
          case hik198 => simp only [List.getElem?_toArray, List.getElem?_cons_succ, List.getElem?_cons_zero]; exact rfl
          case hQk198 => exact fun _ _ _ h => h
          case hwk198 => rfl
          case hyk198 => ((intro w hSw; go_simp) <;> with_reducible rfl)
          try simp only [Act.put, List.setIfInBounds_toArray, List.set_cons_zero, List.set_cons_succ]
          refine wpAnyH_take (i := 7) (oi := ?oik199) (v := ?vk199) ?hik199 (by kernel_rfl) (by kernel_rfl) (by kernel_rfl) ?hQk199 (Or.inl ⟨?hwk199, ?hyk199⟩) (by assumption) ?restk199
          case hik199 => simp only [List.getElem?_toArray, List.getElem?_cons_succ, List.getElem?_cons_zero]; exact rfl
          case hQk199 => exact fun _ _ _ h => h
          case hwk199 => rfl
          case hyk199 => ((intro w hSw; go_simp) <;> with_reducible rfl)
          try simp only [Act.put, List.setIfInBounds_toArray, List.set_cons_zero, List.set_cons_succ]
          refine wpAnyH_ready (rs := [8]) (by kernel_rfl) (by simp) ?_
          refine AllReadyH.cons (o := ?or200_8) ?hor200_8 (fun K hK => ?stepr200_8) (AllReadyH.nil)
          case hor200_8 => simp only [List.getElem?_toArray, List.getElem?_cons_succ, List.getElem?_cons_zero]; exact rfl
          case stepr200_8 =>
            go_simp
            have hk202 := hk184.upto (Nat.le_refl _) ((Below.refl _ _).alloc (Nat.le_refl _) (.cells #[.slice none 0 0, .slice none 0 0] 30))
            have hg205 := heap_alloc_new v185 (.cells #[.slice none 0 0, .slice none 0 0] 30)
            have hz206 := hk184.lo
            have hn208 : (Value.slice A190 N1 c191).ownBlock = some v185.heap.size → False := fun e => absurd (two196.one.lt _ e).2 (Nat.lt_irrefl _)
            have hn209 : (Value.slice A192 N2 c193).ownBlock = some v185.heap.size → False := fun e => absurd (two196.two.lt _ e).2 (Nat.lt_irrefl _)
            have two207 := two196.alloc (.cells #[.slice none 0 0, .slice none 0 0] 30)
            clear two196
            refine hK.out _ _ ?hSq201 (fun hHeld => ?restq201)
            case hSq201 => exact hk202
            clear hK K hk184
            try simp only [Act.put, List.setIfInBounds_toArray, List.set_cons_zero, List.set_cons_succ]
            generalize v185.alloc (.cells #[.slice none 0 0, .slice none 0 0] 30) = v203 at *
            generalize v185.heap.size = G204 at *
            refine wpAnyH_ready (rs := [9]) (by kernel_rfl) (by simp) ?_
            refine AllReadyH.cons (o := ?or210_9) ?hor210_9 (fun K hK => ?stepr210_9) (AllReadyH.nil)
            case hor210_9 => simp only [List.getElem?_toArray, List.getElem?_cons_succ, List.getElem?_cons_zero]; exact rfl
            case stepr210_9 =>
              obtain ⟨c0, c1⟩ := cell2 hg205
              obtain ⟨f0, f1⟩ := rfree2 hg205
              go_simp
              have hk212 := hk202.upto' hz206 (((Below.refl G204 v203).setCell (p := ⟨G204, 0, none⟩) (Nat.le_refl _) (.slice A190 N1 c191)).setCell (p := ⟨G204, 1, none⟩) (Nat.le_refl _) (.slice A192 N2 c193))
              have hput214 := rput2 (u0 := (.slice A190 N1 c191)) (u1 := (.slice A192 N2 c193)) hg205
              have two213 := (two207.put' (set_grown v203 G204 0 (.slice A190 N1 c191)) hn208 hn209).put' (set_grown _ G204 1 (.slice A192 N2 c193)) hn208 hn209
              refine hK.out _ _ ?hSq211 (fun hHeld => ?restq211)
              case hSq211 => exact hk212
              clear hK K hk202 two207 hg205 c0 c1 f0 f1
              try simp only [Act.put, List.setIfInBounds_toArray, List.set_cons_zero, List.set_cons_succ]
              refine wpAnyH_take (i := 10) (oi := ?oik215) (v := ?vk215) ?hik215 (by kernel_rfl) (by kernel_rfl) (by kernel_rfl) ?hQk215 (Or.inl ⟨?hwk215, ?hyk215⟩) (by assumption) ?restk215
              case hik215 => simp only [List.getElem?_toArray, List.getElem?_cons_succ, List.getElem?_cons_zero]; exact rfl
              case hQk215 => exact fun _ _ _ h => h
              case hwk215 => rfl
              case hyk215 => ((intro w hSw; go_simp) <;> with_reducible rfl)
              try simp only [Act.put, List.setIfInBounds_toArray, List.set_cons_zero, List.set_cons_succ]
              refine wpAnyH_done (by kernel_rfl) ?_ _
              go_wp2_with fail
              go_meet
              exact ⟨_, rfl, rfl, ⟨_, _, _, _, hput214, two213, hn208, hn209, hz206.low⟩, hk212⟩
        case stepr182_8 =>
          go_simp
          have hk217 := hk179.upto (Nat.le_refl _) ((Below.refl _ _).alloc (Nat.le_refl _) (.cells #[.slice none 0 0, .slice none 0 0] 30))
          have hg220 := heap_alloc_new v180 (.cells #[.slice none 0 0, .slice none 0 0] 30)
          have hz221 := hk179.lo
          refine hK.out _ _ ?hSq216 (fun hHeld => ?restq216)
          case hSq216 => exact hk217
          clear hK K hk179
          try simp only [Act.put, List.setIfInBounds_toArray, List.set_cons_zero, List.set_cons_succ]
          generalize v180.alloc (.cells #[.slice none 0 0, .slice none 0 0] 30) = v218 at *
          generalize v180.heap.size = G219 at *
          refine wpAnyH_ready (rs := [4]) (by kernel_rfl) (by simp) ?_
          refine AllReadyH.cons (o := ?or222_4) ?hor222_4 (fun K hK => ?stepr222_4) (AllReadyH.nil)
          case hor222_4 => simp only [List.getElem?_toArray, List.getElem?_cons_succ, List.getElem?_cons_zero]; exact rfl
          case stepr222_4 =>
            go_simp
            refine (HCI.out v218 g3 f3 (hxb.later hk217.bel)).mono ?_
            rintro e v225 ⟨⟨r227, r228, rfl, two229⟩, hb226⟩
            obtain ⟨A230, c231, A232, c233, rfl, rfl⟩ := two229.slices
            have hn234 : (Value.slice A230 N1 c231).ownBlock = some G219 → False := fun e => absurd (two229.one.lt _ e).1 (Nat.not_le_of_lt (heap_lt' hg220))
            have hn235 : (Value.slice A232 N2 c233).ownBlock = some G219 → False := fun e => absurd (two229.two.lt _ e).1 (Nat.not_le_of_lt (heap_lt' hg220))
            have two236 := two229.mono hk217.low
            clear two229
            have hk224 := hk217.upto (Nat.le_refl _) hb226
            have hg237 := (hb226.block G219 (heap_lt' hg220)).trans hg220
            clear hg220
            refine hK.out _ _ ?hSq223 (fun hHeld => ?restq223)
            case hSq223 => exact hk224
            clear hK K hb226 hk217
            try simp only [Act.put, List.setIfInBounds_toArray, List.set_cons_zero, List.set_cons_succ]
            refine wpAnyH_take (i := 5) (oi := ?oik238) (v := ?vk238) ?hik238 (by kernel_rfl) (by kernel_rfl) (by kernel_rfl) ?hQk238 (Or.inl ⟨?hwk238, ?hyk238⟩) (by assumption) ?restk238
            case hik238 => simp only [List.getElem?_toArray, List.getElem?_cons_succ, List.getElem?_cons_zero]; exact rfl
            case hQk238 => exact fun _ _ _ h => h
            case hwk238 => rfl
            case hyk238 => ((intro w hSw; go_simp) <;> with_reducible rfl)
            try simp only [Act.put, List.setIfInBounds_toArray, List.set_cons_zero, List.set_cons_succ]
            refine wpAnyH_take (i := 6) (oi := ?oik239) (v := ?vk239) ?hik239 (by kernel_rfl) (by kernel_rfl) (by kernel_rfl) ?hQk239 (Or.inl ⟨?hwk239, ?hyk239⟩) (by assumption) ?restk239
            case hik239 => simp only [List.getElem?_toArray, List.getElem?_cons_succ, List.getElem?_cons_zero]; exact rfl
            case hQk239 => exact fun _ _ _ h => h
            case hwk239 => rfl
            case hyk239 => ((intro w hSw; go_simp) <;> with_reducible rfl)
            try simp only [Act.put, List.setIfInBounds_toArray, List.set_cons_zero, List.set_cons_succ]
            refine wpAnyH_take (i := 7) (oi := ?oik240) (v := ?vk240) ?hik240 (by kernel_rfl) (by kernel_rfl) (by kernel_rfl) ?hQk240 (Or.inl ⟨?hwk240, ?hyk240⟩) (by assumption) ?restk240
            case hik240 => simp only [List.getElem?_toArray, List.getElem?_cons_succ, List.getElem?_cons_zero]; exact rfl
            case hQk240 => exact fun _ _ _ h => h
            case hwk240 => rfl
            case hyk240 => ((intro w hSw; go_simp) <;> with_reducible rfl)
            try simp only [Act.put, List.setIfInBounds_toArray, List.set_cons_zero, List.set_cons_succ]
            refine wpAnyH_ready (rs := [9]) (by kernel_rfl) (by simp) ?_
            refine AllReadyH.cons (o := ?or241_9) ?hor241_9 (fun K hK => ?stepr241_9) (AllReadyH.nil)
            case hor241_9 => simp only [List.getElem?_toArray, List.getElem?_cons_succ, List.getElem?_cons_zero]; exact rfl
            case stepr241_9 =>
              obtain ⟨c0, c1⟩ := cell2 hg237
              obtain ⟨f0, f1⟩ := rfree2 hg237
              go_simp
              have hk243 := hk224.upto' hz221 (((Below.refl G219 v225).setCell (p := ⟨G219, 0, none⟩) (Nat.le_refl _) (.slice A230 N1 c231)).setCell (p := ⟨G219, 1, none⟩) (Nat.le_refl _) (.slice A232 N2 c233))
              have hput245 := rput2 (u0 := (.slice A230 N1 c231)) (u1 := (.slice A232 N2 c233)) hg237
              have two244 := (two236.put' (set_grown v225 G219 0 (.slice A230 N1 c231)) hn234 hn235).put' (set_grown _ G219 1 (.slice A232 N2 c233)) hn234 hn235
              refine hK.out _ _ ?hSq242 (fun hHeld => ?restq242)
              case hSq242 => exact hk243
              clear hK K hk224 two236 hg237 c0 c1 f0 f1
              try simp only [Act.put, List.setIfInBounds_toArray, List.set_cons_zero, List.set_cons_succ]
              refine wpAnyH_take (i := 10) (oi := ?oik246) (v := ?vk246) ?hik246 (by kernel_rfl) (by kernel_rfl) (by kernel_rfl) ?hQk246 (Or.inl ⟨?hwk246, ?hyk246⟩) (by assumption) ?restk246
              case hik246 => simp only [List.getElem?_toArray, List.getElem?_cons_succ, List.getElem?_cons_zero]; exact rfl
              case hQk246 => exact fun _ _ _ h => h
              case hwk246 => rfl
              case hyk246 => ((intro w hSw; go_simp) <;> with_reducible rfl)
              try simp only [Act.put, List.setIfInBounds_toArray, List.set_cons_zero, List.set_cons_succ]
              refine wpAnyH_done (by kernel_rfl) ?_ _
              go_wp2_with fail
              go_meet
              exact ⟨_, rfl, rfl, ⟨_, _, _, _, hput245, two244, hn234, hn235, hz221.low⟩, hk243⟩
      case stepr177_8 =>
        go_simp
        have hk248 := hK0.upto (Nat.le_refl _) ((Below.refl _ _).alloc (Nat.le_refl _) (.cells #[.slice none 0 0, .slice none 0 0] 30))
        have hg251 := heap_alloc_new w1s (.cells #[.slice none 0 0, .slice none 0 0] 30)
        have hz252 := hK0.lo
        refine hK.out _ _ ?hSq247 (fun hHeld => ?restq247)
        case hSq247 => exact hk248
        clear hK K hK0
        try simp only [Act.put, List.setIfInBounds_toArray, List.set_cons_zero, List.set_cons_succ]
        generalize w1s.alloc (.cells #[.slice none 0 0, .slice none 0 0] 30) = v249 at *
        generalize w1s.heap.size = G250 at *
        refine wpAnyH_ready (rs := [3]) (by kernel_rfl) (by simp) ?_
        refine AllReadyH.cons (o := ?or253_3) ?hor253_3 (fun K hK => ?stepr253_3) (AllReadyH.nil)
        case hor253_3 => simp only [List.getElem?_toArray, List.getElem?_cons_succ, List.getElem?_cons_zero]; exact rfl
        case stepr253_3 =>
          go_simp
          refine (toOrder_any oi oa op oq v249).mono ?_
          rintro e v256 ⟨rfl, hb257⟩
          have hk255 := hk248.upto (Nat.le_refl _) hb257
          have hg258 := (hb257.block G250 (heap_lt' hg251)).trans hg251
          clear hg251
          refine hK.out _ _ ?hSq254 (fun hHeld => ?restq254)
          case hSq254 => exact hk255
          clear hK K hb257 hk248
          try simp only [Act.put, List.setIfInBounds_toArray, List.set_cons_zero, List.set_cons_succ]
          refine wpAnyH_ready (rs := [4]) (by kernel_rfl) (by simp) ?_
          refine AllReadyH.cons (o := ?or259_4) ?hor259_4 (fun K hK => ?stepr259_4) (AllReadyH.nil)
          case hor259_4 => simp only [List.getElem?_toArray, List.getElem?_cons_succ, List.getElem?_cons_zero]; exact rfl
          case stepr259_4 =>
            go_simp
            refine (HCI.out v256 g3 f3 (hxb.later hk255.bel)).mono ?_
            rintro e v262 ⟨⟨r264, r265, rfl, two266⟩, hb263⟩
            obtain ⟨A267, c268, A269, c270, rfl, rfl⟩ := two266.slices
            have hn271 : (Value.slice A267 N1 c268).ownBlock = some G250 → False := fun e => absurd (two266.one.lt _ e).1 (Nat.not_le_of_lt (heap_lt' hg258))
            have hn272 : (Value.slice A269 N2 c270).ownBlock = some G250 → False := fun e => absurd (two266.two.lt _ e).1 (Nat.not_le_of_lt (heap_lt' hg258))
            have two273 := two266.mono hk255.low
            clear two266
            have hk261 := hk255.upto (Nat.le_refl _) hb263
            have hg274 := (hb263.block G250 (heap_lt' hg258)).trans hg258
            clear hg258
            refine hK.out _ _ ?hSq260 (fun hHeld => ?restq260)
            case hSq260 => exact hk261
            clear hK K hb263 hk255
            try simp only [Act.put, List.setIfInBounds_toArray, List.set_cons_zero, List.set_cons_succ]
            refine wpAnyH_take (i := 5) (oi := ?oik275) (v := ?vk275) ?hik275 (by kernel_rfl) (by kernel_rfl) (by kernel_rfl) ?hQk275 (Or.inl ⟨?hwk275, ?hyk275⟩) (by assumption) ?restk275
            case hik275 => simp only [List.getElem?_toArray, List.getElem?_cons_succ, List.getElem?_cons_zero]; exact rfl
            case hQk275 => exact fun _ _ _ h => h
            case hwk275 => rfl
            case hyk275 => ((intro w hSw; go_simp) <;> with_reducible rfl)
            try simp only [Act.put, List.setIfInBounds_toArray, List.set_cons_zero, List.set_cons_succ]
            refine wpAnyH_take (i := 6) (oi := ?oik276) (v := ?vk276) ?hik276 (by kernel_rfl) (by kernel_rfl) (by kernel_rfl) ?hQk276 (Or.inl ⟨?hwk276, ?hyk276⟩) (by assumption) ?restk276
            case hik276 => simp only [List.getElem?_toArray, List.getElem?_cons_succ, List.getElem?_cons_zero]; exact rfl
            case hQk276 => exact fun _ _ _ h => h
            case hwk276 => rfl
            case hyk276 => ((intro w hSw; go_simp) <;> with_reducible rfl)
            try simp only [Act.put, List.setIfInBounds_toArray, List.set_cons_zero, List.set_cons_succ]
            refine wpAnyH_take (i := 7) (oi := ?oik277) (v := ?vk277) ?hik277 (by kernel_rfl) (by kernel_rfl) (by kernel_rfl) ?hQk277 (Or.inl ⟨?hwk277, ?hyk277⟩) (by assumption) ?restk277
            case hik277 => simp only [List.getElem?_toArray, List.getElem?_cons_succ, List.getElem?_cons_zero]; exact rfl
            case hQk277 => exact fun _ _ _ h => h
            case hwk277 => rfl
            case hyk277 => ((intro w hSw; go_simp) <;> with_reducible rfl)
            try simp only [Act.put, List.setIfInBounds_toArray, List.set_cons_zero, List.set_cons_succ]
            refine wpAnyH_ready (rs := [9]) (by kernel_rfl) (by simp) ?_
            refine AllReadyH.cons (o := ?or278_9) ?hor278_9 (fun K hK => ?stepr278_9) (AllReadyH.nil)
            case hor278_9 => simp only [List.getElem?_toArray, List.getElem?_cons_succ, List.getElem?_cons_zero]; exact rfl
            case stepr278_9 =>
              obtain ⟨c0, c1⟩ := cell2 hg274
              obtain ⟨f0, f1⟩ := rfree2 hg274
              go_simp
              have hk280 := hk261.upto' hz252 (((Below.refl G250 v262).setCell (p := ⟨G250, 0, none⟩) (Nat.le_refl _) (.slice A267 N1 c268)).setCell (p := ⟨G250, 1, none⟩) (Nat.le_refl _) (.slice A269 N2 c270))
              have hput282 := rput2 (u0 := (.slice A267 N1 c268)) (u1 := (.slice A269 N2 c270)) hg274
              have two281 := (two273.put' (set_grown v262 G250 0 (.slice A267 N1 c268)) hn271 hn272).put' (set_grown _ G250 1 (.slice A269 N2 c270)) hn271 hn272
              refine hK.out _ _ ?hSq279 (fun hHeld => ?restq279)
              case hSq279 => exact hk280
              clear hK K hk261 two273 hg274 c0 c1 f0 f1
              try simp only [Act.put, List.setIfInBounds_toArray, List.set_cons_zero, List.set_cons_succ]
              refine wpAnyH_take (i := 10) (oi := ?oik283) (v := ?vk283) ?hik283 (by kernel_rfl) (by kernel_rfl) (by kernel_rfl) ?hQk283 (Or.inl ⟨?hwk283, ?hyk283⟩) (by assumption) ?restk283
              case hik283 => simp only [List.getElem?_toArray, List.getElem?_cons_succ, List.getElem?_cons_zero]; exact rfl
              case hQk283 => exact fun _ _ _ h => h
              case hwk283 => rfl
              case hyk283 => ((intro w hSw; go_simp) <;> with_reducible rfl)
              try simp only [Act.put, List.setIfInBounds_toArray, List.set_cons_zero, List.set_cons_succ]
              refine wpAnyH_done (by kernel_rfl) ?_ _
              go_wp2_with fail
              go_meet
              exact ⟨_, rfl, rfl, ⟨_, _, _, _, hput282, two281, hn271, hn272, hz252.low⟩, hk280⟩
    case rest =>
      clear hK0
      obtain ⟨G2, rfl, rfl, ⟨Ag, cg, Ah, ch, Gc, TGc, hGa', hGb', hw4⟩, hK0⟩ := hcut
      have hGa : some G2 ≠ (Value.slice Ag N1 cg).ownBlock := fun e => hGa' e.symm
      have hGb : some G2 ≠ (Value.slice Ah N2 ch).ownBlock := fun e => hGb' e.symm
      have lGc := heap_lt' Gc
      have Xc := hK0.two
      have lXc := heap_lt' Xc
      have hxc := hxb.later hK0.bel
      have Dc := ord_later Db hK0.bel
      have Ec := hK0.bel
      have Wc := (Dc.block _ lWa).trans Wa
      have TWc := TWa.below Dc
      clear hK0 hxb Db Xb hGa' hGb' lX
      obtain ⟨q0, q1⟩ := cell2 Gc
      obtain ⟨r0, r1⟩ := cell2 Wc
      go_wp2_with fail
      refine (eqBook_same _ _ _ _ N1 N2 _ _ _ _ Z1 Z2 wc TGc.bookIn TWc.bookIn hN1 hN2).mono ?_
      rintro e w5 ⟨rfl, hb5⟩
      have D5 := ord_later Dc hb5
      have E5 := ord_later Ec hb5
      have TG5 := TGc.below hb5
      have X5 := (hb5.block _ lXc).trans Xc
      have G5 := (hb5.block _ lGc).trans Gc
      have H5 := (D5.block _ lHa).trans Ha
      have hx5 := hxc.later hb5
      have hl5 := hla.later D5
      have lX := Nat.lt_of_lt_of_le lXc hb5.size
      have lG := Nat.lt_of_lt_of_le lGc hb5.size
      have lg3b : g3 < wb.heap.size := lg3
      have lf3b : f3 < wb.heap.size := lf3
      clear Dc Ec TGc Xc Gc hxc hb5 Wc TWc q0 q1 r0 r1 lXc lGc
      obtain ⟨p0, p1⟩ := cell2 H5
      obtain ⟨q0, q1⟩ := cell2 X5
      have hd5 : Below w5.heap.size w5 w5.drew := (Below.refl _ _).drew
      have hl5d := hl5.later hd5
      have hx5d := hx5.later hd5
      clear hl5 hx5
      go_upto_region 10 with fail
      refine wp_region_held_drew (S := (fun w' => Below w5.heap.size w5 w' ∧ w'.cell? ⟨w.heap.size, 0, none⟩ = some (.slice A n c) ∧ w'.cell? ⟨w.heap.size, 1, none⟩ = some (.slice B m d) ∧ w'.cell? ⟨w3.heap.size, 0, none⟩ = some (.slice (some ⟨g3, 0, none⟩) n n) ∧ w'.cell? ⟨w3.heap.size, 1, none⟩ = some (.slice (some ⟨f3, 0, none⟩) m m))) (by kernel_rfl) ?hSq1xs (fun hHeld => ?restq1xs)
      case hSq1xs => ((first | assumption | ((((try dsimp only); repeat' apply And.intro) <;> (first | assumption | (refine below_later ?_ (by assumption); first | assumption | (simp only [*]; done) | (go_grown; done)) | (refine cell_later (by assumption) ?_; first | assumption | (simp only [*]; done) | (simp [go_sem]; done)) | (go_grown; done) | (simp [go_sem]; done))))))
      refine wpAnyH_take (i := 0) (oi := ?oiq1x1) (v := ?vq1x1) ?hiq1x1 (by kernel_rfl) (by kernel_rfl) (by kernel_rfl) ?hQq1x1 (Or.inl ⟨?hwq1x1, ?hyq1x1⟩) (by assumption) ?restq1x1
      case hiq1x1 => simp only [List.getElem?_toArray, List.getElem?_cons_succ, List.getElem?_cons_zero]; exact rfl
      case hQq1x1 => exact fun _ _ _ h => h
      case hwq1x1 => rfl
      case hyq1x1 => ((intro w hSw; (try dsimp only at hSw); go_simp) <;> with_reducible rfl)
      try simp only [Act.put, List.setIfInBounds_toArray, List.set_cons_zero, List.set_cons_succ]
      refine wpAnyH_take (i := 1) (oi := ?oiq1x2) (v := ?vq1x2) ?hiq1x2 (by kernel_rfl) (by kernel_rfl) (by kernel_rfl) ?hQq1x2 (Or.inl ⟨?hwq1x2, ?hyq1x2⟩) (by assumption) ?restq1x2
      case hiq1x2 => simp only [List.getElem?_toArray, List.getElem?_cons_succ, List.getElem?_cons_zero]; exact rfl
      case hQq1x2 => exact fun _ _ _ h => h
      case hwq1x2 => rfl
      case hyq1x2 => ((intro w hSw; (try dsimp only at hSw); go_simp) <;> with_reducible rfl)
      try simp only [Act.put, List.setIfInBounds_toArray, List.set_cons_zero, List.set_cons_succ]
      refine wpAnyH_ready (rs := [2]) (by kernel_rfl) (by simp) ?_
      refine AllReadyH.cons (o := ?oq1x3) ?hoq1x3 (fun K hK => ?stepq1x3) ?moreq1x3
      case hoq1x3 => simp only [List.getElem?_toArray, List.getElem?_cons_succ, List.getElem?_cons_zero]; exact rfl
      case moreq1x3 => exact AllReadyH.nil
      go_simp
      (go_at_call 7; refine (toBook_any A n c B m d za zb _ hl5d hnm).mono ?_; rintro e w6 ⟨g6, f6, rfl, _, _, _, hr6, hs6, hb6⟩; have hx6 : BookIn w6 w6.heap.size (some ⟨g6, 0, none⟩) n (some ⟨f6, 0, none⟩) m za zb := ⟨Lst.of_row (sz := 4) (zs := za) (n := n) hr6 (Nat.le_refl _) hlA (fun _ _ => rfl), Lst.of_row (sz := 4) (zs := zb) (n := m) hs6 (Nat.le_refl _) hlB (fun _ _ => rfl)⟩)
      refine hK.out _ _ ?hSq1x3 (fun hHeld => ?restq1x3)
      case hSq1x3 => ((first | assumption | ((((try dsimp only); repeat' apply And.intro) <;> (first | assumption | (refine below_later ?_ (by assumption); first | assumption | (simp only [*]; done) | (go_grown; done)) | (refine cell_later (by assumption) ?_; first | assumption | (simp only [*]; done) | (simp [go_sem]; done)) | (go_grown; done) | (simp [go_sem]; done))))))
      clear hK K
      try simp only [Act.put, List.setIfInBounds_toArray, List.set_cons_zero, List.set_cons_succ]
      refine wpAnyH_ready (rs := [3]) (by kernel_rfl) (by simp) ?_
      refine AllReadyH.cons (o := ?oq1x4) ?hoq1x4 (fun K hK => ?stepq1x4) ?moreq1x4
      case hoq1x4 => simp only [List.getElem?_toArray, List.getElem?_cons_succ, List.getElem?_cons_zero]; exact rfl
      case moreq1x4 => exact AllReadyH.nil
      go_simp
      (go_at_call 10; refine (eqBook_same _ _ _ _ n m _ _ _ _ za zb w6 (hx5d.later hb6) hx6 hn1 hm1).mono ?_; rintro e w7 ⟨rfl, hb7⟩)
      refine hK.out _ _ ?hSq1x4 (fun hHeld => ?restq1x4)
      case hSq1x4 => ((first | assumption | ((((try dsimp only); repeat' apply And.intro) <;> (first | assumption | (refine below_later ?_ (by assumption); first | assumption | (simp only [*]; done) | (go_grown; done)) | (refine cell_later (by assumption) ?_; first | assumption | (simp only [*]; done) | (simp [go_sem]; done)) | (go_grown; done) | (simp [go_sem]; done))))))
      clear hK K
      try simp only [Act.put, List.setIfInBounds_toArray, List.set_cons_zero, List.set_cons_succ]
      refine wpAnyH_take (i := 4) (oi := ?oiq1x5) (v := ?vq1x5) ?hiq1x5 (by kernel_rfl) (by kernel_rfl) (by kernel_rfl) ?hQq1x5 (Or.inl ⟨?hwq1x5, ?hyq1x5⟩) (by assumption) ?restq1x5
      case hiq1x5 => simp only [List.getElem?_toArray, List.getElem?_cons_succ, List.getElem?_cons_zero]; exact rfl
      case hQq1x5 => exact fun _ _ _ h => h
      case hwq1x5 => rfl
      case hyq1x5 => ((intro w hSw; (try dsimp only at hSw); go_simp) <;> with_reducible rfl)
      try simp only [Act.put, List.setIfInBounds_toArray, List.set_cons_zero, List.set_cons_succ]
      refine wpAnyH_done (by kernel_rfl) ?_ _
      obtain ⟨hb7, -, -, -, -⟩ := hHeld
      have hsz7 := hb7.size
      have D7 := ord_later D5 hb7
      have E7 := ord_later E5 hb7
      have X7 := (hb7.block _ lX).trans X5
      have G7 := (hb7.block _ lG).trans G5
      have TG7 := TG5.below hb7
      obtain ⟨q0, q1⟩ := cell2 X7
      clear hb7
      go_wp2_with fail
      have hr7 := HR3.out.of_block (E7.block g3 lg3)
      have hs7 := HS3.out.of_block (E7.block f3 lf3)
      refine (markBook_any g3 f3 n n m m (n * 4) (m * 4) _ ⟨_, hr7⟩ ⟨_, hs7⟩ hgf3 (Nat.le_refl _) (Nat.le_refl _) hn1 hm1).mono ?_
      rintro e w8 ⟨⟨k, hk, rfl⟩, o, wm, hga, hgb⟩
      have hszm := hga.size
      have D8 := ((D7.alloc D7.size o).grown hga (Nat.le_trans D7.size (by simp)) (fun q hq => by cases hq; exact hg3)).grown hgb (Nat.le_trans (Nat.le_trans D7.size (by simp)) hszm) (fun q hq => by cases hq; exact hf3)
      have TG8 := ((TG7.alloc o).kept hga lg3b).kept hgb lf3b
      have G8 := (hgb.block _ (by simp at hszm; omega) (fun e => by injection e with e; omega)).trans ((hga.block _ (by simp; omega) (fun e => by injection e with e; omega)).trans ((Below.heap_alloc _ o _ (by omega)).trans G7))
      have lG8 : G2 < w8.heap.size := by have := hgb.size; simp at hszm; omega
      have hk0 : decide (k < 0) = false := decide_eq_false (by omega)
      have W8 := (D8.block _ lWa).trans Wa
      have TW8 := TWa.below D8
      clear hga hgb hszm hr7 hs7 q0 q1 X7 G7 TG7 E7
      obtain ⟨q0, q1⟩ := cell2 G8
      obtain ⟨r0, r1⟩ := cell2 W8
      go_wp2_with fail
      refine (eqBook_same _ _ _ _ N1 N2 _ _ _ _ Z1 Z2 w8 TG8.bookIn TW8.bookIn hN1 hN2).mono ?_
      rintro e w9 ⟨rfl, hb9⟩
      have D9 := ord_later D8 hb9
      have TG9 := TG8.below hb9
      have G9 := (hb9.block _ lG8).trans G8
      have lG9 := Nat.lt_of_lt_of_le lG8 hb9.size
      clear TW8 D8 hb9 TG8 G8 W8 q0 q1 r0 r1
      obtain ⟨q0, q1⟩ := cell2 G9
      go_wp2_with fail
      refine (markBook_own wb.heap.size _ _ _ _ N1 N2 Z1 Z2 w9 TG9 hN1 hN2).mono ?_
      rintro e w10 ⟨rfl, M10, hbel, hblk⟩
      have D10 := hbel _ _ D9 hwab D9.size
      have G10 := (hblk _ lG9 hGa hGb).trans G9
      have lG10 : G2 < w10.heap.size := heap_lt G10
      clear hbel hblk G9 lG9 D9 TG9 q0 q1
      have ht0 : decide ((N2 : Int) * 4 + ((N1 : Int) * 4 + 1) < 0) = false := decide_eq_false (by omega)
      obtain ⟨q0, q1⟩ := cell2 G10
      go_wp2_with fail
      refine (heldBook_own _ _ _ _ N1 N2 w10 M10 hN1 hN2).mono ?_
      rintro e w11 ⟨rfl, hb11⟩
      have D11 := ord_later D10 hb11
      have G11 := (hb11.block _ lG10).trans G10
      have M11 := M10.below hb11
      have lG11 := Nat.lt_of_lt_of_le lG10 hb11.size
      have H11 := (D11.block _ lHa).trans Ha
      have hl11 := hla.later D11
      clear D10 G10 M10 lG10 hb11 q0 q1
      obtain ⟨p0, p1⟩ := cell2 H11
      have O11 := (D11.block _ lOa).trans Oa
      have hK0 : Keeps w11.heap.size w11 [(w.heap.size, (.cells #[.slice A n c, .slice B m d] 24)), (w.heap.size + 1, (.cells #[.int .i64 oi, .int .i64 oa, .int .i64 op, .int .i64 oq] 26))] w11 := ⟨Below.refl _ _, Nat.le_refl _, fun p hp => by
        simp only [List.mem_cons, List.not_mem_nil, or_false] at hp
        rcases hp with rfl | rfl
        · exact H11
        · exact O11⟩
      clear O11
      go_wp2_with fail
      go_upto_region 24 with fail
      go_cut [16, 17] (fun s16 s17 wx => ∃ G, s16 = .pointer (some ⟨G, 0, none⟩) ∧ s17 = .bool ok ∧ BoxRes wx w11.heap.size G N1 Z1 N2 Z2 ∧ Keeps w11.heap.size w11 [(w.heap.size, (.cells #[.slice A n c, .slice B m d] 24)), (w.heap.size + 1, (.cells #[.int .i64 oi, .int .i64 oa, .int .i64 op, .int .i64 oq] 26))] wx)
      case first =>
        refine wp_region_held_drew (S := Keeps w11.heap.size w11 [(w.heap.size, (.cells #[.slice A n c, .slice B m d] 24)), (w.heap.size + 1, (.cells #[.int .i64 oi, .int .i64 oa, .int .i64 op, .int .i64 oq] 26))]) (by kernel_rfl) ?hSr24 (fun hHeld => ?restr24)
        case hSr24 => exact hK0.drew
        replace hK0 := hK0.drew
        have hls := hl11
        clear hHeld
        generalize hw1s : w11.drew = w1s at hK0 ⊢
        clear hw1s
        refine wpAnyH_take (i := 0) (oi := ?oik284) (v := ?vk284) ?hik284 (by kernel_rfl) (by kernel_rfl) (by kernel_rfl) ?hQk284 (Or.inl ⟨?hwk284, ?hyk284⟩) (by assumption) ?restk284
        case hik284 => simp only [List.getElem?_toArray, List.getElem?_cons_succ, List.getElem?_cons_zero]; exact rfl
        case hQk284 => exact fun _ _ _ h => h
        case hwk284 => rfl
        case hyk284 => ((intro w hSw; obtain ⟨c0, c1⟩ := cell2 hSw.one; go_simp) <;> with_reducible rfl)
        try simp only [Act.put, List.setIfInBounds_toArray, List.set_cons_zero, List.set_cons_succ]
        refine wpAnyH_take (i := 2) (oi := ?oik285) (v := ?vk285) ?hik285 (by kernel_rfl) (by kernel_rfl) (by kernel_rfl) ?hQk285 (Or.inl ⟨?hwk285, ?hyk285⟩) (by assumption) ?restk285
        case hik285 => simp only [List.getElem?_toArray, List.getElem?_cons_succ, List.getElem?_cons_zero]; exact rfl
        case hQk285 => exact fun _ _ _ h => h
        case hwk285 => rfl
        case hyk285 => ((intro w hSw; go_simp) <;> with_reducible rfl)
        try simp only [Act.put, List.setIfInBounds_toArray, List.set_cons_zero, List.set_cons_succ]
        refine wpAnyH_take (i := 3) (oi := ?oik286) (v := ?vk286) ?hik286 (by kernel_rfl) (by kernel_rfl) (by kernel_rfl) ?hQk286 (Or.inl ⟨?hwk286, ?hyk286⟩) (by assumption) ?restk286
        case hik286 => simp only [List.getElem?_toArray, List.getElem?_cons_succ, List.getElem?_cons_zero]; exact rfl
        case hQk286 => exact fun _ _ _ h => h
        case hwk286 => rfl
        case hyk286 => ((intro w hSw; obtain ⟨c0, c1, c2, c3⟩ := rcell4 hSw.two; go_simp) <;> with_reducible rfl)
        try simp only [Act.put, List.setIfInBounds_toArray, List.set_cons_zero, List.set_cons_succ]
        refine wpAnyH_ready (rs := [1, 9]) (by kernel_rfl) (by simp) ?_
        refine AllReadyH.cons (o := ?or287_1) ?hor287_1 (fun K hK => ?stepr287_1) (AllReadyH.cons (o := ?or287_9) ?hor287_9 (fun K hK => ?stepr287_9) (AllReadyH.nil))
        case hor287_1 => simp only [List.getElem?_toArray, List.getElem?_cons_succ, List.getElem?_cons_zero]; exact rfl
        case hor287_9 => simp only [List.getElem?_toArray, List.getElem?_cons_succ, List.getElem?_cons_zero]; exact rfl
        case stepr287_1 =>
          go_simp
          refine (toBook_any A n c B m d za zb w1s (hls.later hK0.bel) hnm).mono ?_
          rintro e v290 ⟨g292, f293, rfl, _, _, _, hr294, hs295, hb291⟩
          have hx296 : BookIn v290 v290.heap.size (some ⟨g292, 0, none⟩) n (some ⟨f293, 0, none⟩) m za zb := ⟨Lst.of_row (sz := 4) (zs := za) (n := n) hr294 (Nat.le_refl _) hlA (fun _ _ => rfl), Lst.of_row (sz := 4) (zs := zb) (n := m) hs295 (Nat.le_refl _) hlB (fun _ _ => rfl)⟩
          clear hr294 hs295
          have hk289 := hK0.upto (Nat.le_refl _) hb291
          refine hK.out _ _ ?hSq288 (fun hHeld => ?restq288)
          case hSq288 => exact hk289
          clear hK K hb291 hK0
          try simp only [Act.put, List.setIfInBounds_toArray, List.set_cons_zero, List.set_cons_succ]
          refine wpAnyH_ready (rs := [4, 9]) (by kernel_rfl) (by simp) ?_
          refine AllReadyH.cons (o := ?or297_4) ?hor297_4 (fun K hK => ?stepr297_4) (AllReadyH.cons (o := ?or297_9) ?hor297_9 (fun K hK => ?stepr297_9) (AllReadyH.nil))
          case hor297_4 => simp only [List.getElem?_toArray, List.getElem?_cons_succ, List.getElem?_cons_zero]; exact rfl
          case hor297_9 => simp only [List.getElem?_toArray, List.getElem?_cons_succ, List.getElem?_cons_zero]; exact rfl
          case stepr297_4 =>
            go_simp
            refine (toOrder_any oi oa op oq v290).mono ?_
            rintro e v300 ⟨rfl, hb301⟩
            have hx302 := hx296.later hb301
            clear hx296
            have hk299 := hk289.upto (Nat.le_refl _) hb301
            refine hK.out _ _ ?hSq298 (fun hHeld => ?restq298)
            case hSq298 => exact hk299
            clear hK K hb301 hk289
            try simp only [Act.put, List.setIfInBounds_toArray, List.set_cons_zero, List.set_cons_succ]
            refine wpAnyH_ready (rs := [5, 9]) (by kernel_rfl) (by simp) ?_
            refine AllReadyH.cons (o := ?or303_5) ?hor303_5 (fun K hK => ?stepr303_5) (AllReadyH.cons (o := ?or303_9) ?hor303_9 (fun K hK => ?stepr303_9) (AllReadyH.nil))
            case hor303_5 => simp only [List.getElem?_toArray, List.getElem?_cons_succ, List.getElem?_cons_zero]; exact rfl
            case hor303_9 => simp only [List.getElem?_toArray, List.getElem?_cons_succ, List.getElem?_cons_zero]; exact rfl
            case stepr303_5 =>
              go_simp
              refine (HCI.out v300 g292 f293 hx302).mono ?_
              rintro e v306 ⟨⟨r308, r309, rfl, two310⟩, hb307⟩
              obtain ⟨A311, c312, A313, c314, rfl, rfl⟩ := two310.slices
              have two317 := two310.mono hk299.low
              clear two310
              clear hx302
              have hk305 := hk299.upto (Nat.le_refl _) hb307
              refine hK.out _ _ ?hSq304 (fun hHeld => ?restq304)
              case hSq304 => exact hk305
              clear hK K hb307 hk299
              try simp only [Act.put, List.setIfInBounds_toArray, List.set_cons_zero, List.set_cons_succ]
              refine wpAnyH_take (i := 6) (oi := ?oik318) (v := ?vk318) ?hik318 (by kernel_rfl) (by kernel_rfl) (by kernel_rfl) ?hQk318 (Or.inl ⟨?hwk318, ?hyk318⟩) (by assumption) ?restk318
              case hik318 => simp only [List.getElem?_toArray, List.getElem?_cons_succ, List.getElem?_cons_zero]; exact rfl
              case hQk318 => exact fun _ _ _ h => h
              case hwk318 => rfl
              case hyk318 => ((intro w hSw; go_simp) <;> with_reducible rfl)
              try simp only [Act.put, List.setIfInBounds_toArray, List.set_cons_zero, List.set_cons_succ]
              refine wpAnyH_take (i := 7) (oi := ?oik319) (v := ?vk319) ?hik319 (by kernel_rfl) (by kernel_rfl) (by kernel_rfl) ?hQk319 (Or.inl ⟨?hwk319, ?hyk319⟩) (by assumption) ?restk319
              case hik319 => simp only [List.getElem?_toArray, List.getElem?_cons_succ, List.getElem?_cons_zero]; exact rfl
              case hQk319 => exact fun _ _ _ h => h
              case hwk319 => rfl
              case hyk319 => ((intro w hSw; go_simp) <;> with_reducible rfl)
              try simp only [Act.put, List.setIfInBounds_toArray, List.set_cons_zero, List.set_cons_succ]
              refine wpAnyH_take (i := 8) (oi := ?oik320) (v := ?vk320) ?hik320 (by kernel_rfl) (by kernel_rfl) (by kernel_rfl) ?hQk320 (Or.inl ⟨?hwk320, ?hyk320⟩) (by assumption) ?restk320
              case hik320 => simp only [List.getElem?_toArray, List.getElem?_cons_succ, List.getElem?_cons_zero]; exact rfl
              case hQk320 => exact fun _ _ _ h => h
              case hwk320 => rfl
              case hyk320 => ((intro w hSw; go_simp) <;> with_reducible rfl)
              try simp only [Act.put, List.setIfInBounds_toArray, List.set_cons_zero, List.set_cons_succ]
              refine wpAnyH_ready (rs := [9]) (by kernel_rfl) (by simp) ?_
              refine AllReadyH.cons (o := ?or321_9) ?hor321_9 (fun K hK => ?stepr321_9) (AllReadyH.nil)
              case hor321_9 => simp only [List.getElem?_toArray, List.getElem?_cons_succ, List.getElem?_cons_zero]; exact rfl
              case stepr321_9 =>
                go_simp
                have hk323 := hk305.upto (Nat.le_refl _) ((Below.refl _ _).alloc (Nat.le_refl _) (.cells #[.slice none 0 0, .slice none 0 0] 30))
                have hg326 := heap_alloc_new v306 (.cells #[.slice none 0 0, .slice none 0 0] 30)
                have hz327 := hk305.lo
                have hn329 : (Value.slice A311 N1 c312).ownBlock = some v306.heap.size → False := fun e => absurd (two317.one.lt _ e).2 (Nat.lt_irrefl _)
                have hn330 : (Value.slice A313 N2 c314).ownBlock = some v306.heap.size → False := fun e => absurd (two317.two.lt _ e).2 (Nat.lt_irrefl _)
                have two328 := two317.alloc (.cells #[.slice none 0 0, .slice none 0 0] 30)
                clear two317
                refine hK.out _ _ ?hSq322 (fun hHeld => ?restq322)
                case hSq322 => exact hk323
                clear hK K hk305
                try simp only [Act.put, List.setIfInBounds_toArray, List.set_cons_zero, List.set_cons_succ]
                generalize v306.alloc (.cells #[.slice none 0 0, .slice none 0 0] 30) = v324 at *
                generalize v306.heap.size = G325 at *
                refine wpAnyH_ready (rs := [10]) (by kernel_rfl) (by simp) ?_
                refine AllReadyH.cons (o := ?or331_10) ?hor331_10 (fun K hK => ?stepr331_10) (AllReadyH.nil)
                case hor331_10 => simp only [List.getElem?_toArray, List.getElem?_cons_succ, List.getElem?_cons_zero]; exact rfl
                case stepr331_10 =>
                  obtain ⟨c0, c1⟩ := cell2 hg326
                  obtain ⟨f0, f1⟩ := rfree2 hg326
                  go_simp
                  have hk333 := hk323.upto' hz327 (((Below.refl G325 v324).setCell (p := ⟨G325, 0, none⟩) (Nat.le_refl _) (.slice A311 N1 c312)).setCell (p := ⟨G325, 1, none⟩) (Nat.le_refl _) (.slice A313 N2 c314))
                  have hput335 := rput2 (u0 := (.slice A311 N1 c312)) (u1 := (.slice A313 N2 c314)) hg326
                  have two334 := (two328.put' (set_grown v324 G325 0 (.slice A311 N1 c312)) hn329 hn330).put' (set_grown _ G325 1 (.slice A313 N2 c314)) hn329 hn330
                  refine hK.out _ _ ?hSq332 (fun hHeld => ?restq332)
                  case hSq332 => exact hk333
                  clear hK K hk323 two328 hg326 c0 c1 f0 f1
                  try simp only [Act.put, List.setIfInBounds_toArray, List.set_cons_zero, List.set_cons_succ]
                  refine wpAnyH_take (i := 11) (oi := ?oik336) (v := ?vk336) ?hik336 (by kernel_rfl) (by kernel_rfl) (by kernel_rfl) ?hQk336 (Or.inl ⟨?hwk336, ?hyk336⟩) (by assumption) ?restk336
                  case hik336 => simp only [List.getElem?_toArray, List.getElem?_cons_succ, List.getElem?_cons_zero]; exact rfl
                  case hQk336 => exact fun _ _ _ h => h
                  case hwk336 => rfl
                  case hyk336 => ((intro w hSw; go_simp) <;> with_reducible rfl)
                  try simp only [Act.put, List.setIfInBounds_toArray, List.set_cons_zero, List.set_cons_succ]
                  refine wpAnyH_done (by kernel_rfl) ?_ _
                  go_wp2_with fail
                  go_meet
                  exact ⟨_, rfl, rfl, ⟨_, _, _, _, hput335, two334, hn329, hn330, hz327.low⟩, hk333⟩
            case stepr303_9 =>
              go_simp
              have hk338 := hk299.upto (Nat.le_refl _) ((Below.refl _ _).alloc (Nat.le_refl _) (.cells #[.slice none 0 0, .slice none 0 0] 30))
              have hg341 := heap_alloc_new v300 (.cells #[.slice none 0 0, .slice none 0 0] 30)
              have hz342 := hk299.lo
              have hx343 := hx302.later ((Below.refl _ _).alloc (Nat.le_refl _) (.cells #[.slice none 0 0, .slice none 0 0] 30))
              clear hx302
              refine hK.out _ _ ?hSq337 (fun hHeld => ?restq337)
              case hSq337 => exact hk338
              clear hK K hk299
              try simp only [Act.put, List.setIfInBounds_toArray, List.set_cons_zero, List.set_cons_succ]
              generalize v300.alloc (.cells #[.slice none 0 0, .slice none 0 0] 30) = v339 at *
              generalize v300.heap.size = G340 at *
              refine wpAnyH_ready (rs := [5]) (by kernel_rfl) (by simp) ?_
              refine AllReadyH.cons (o := ?or344_5) ?hor344_5 (fun K hK => ?stepr344_5) (AllReadyH.nil)
              case hor344_5 => simp only [List.getElem?_toArray, List.getElem?_cons_succ, List.getElem?_cons_zero]; exact rfl
              case stepr344_5 =>
                go_simp
                refine (HCI.out v339 g292 f293 hx343).mono ?_
                rintro e v347 ⟨⟨r349, r350, rfl, two351⟩, hb348⟩
                obtain ⟨A352, c353, A354, c355, rfl, rfl⟩ := two351.slices
                have hn356 : (Value.slice A352 N1 c353).ownBlock = some G340 → False := fun e => absurd (two351.one.lt _ e).1 (Nat.not_le_of_lt (heap_lt' hg341))
                have hn357 : (Value.slice A354 N2 c355).ownBlock = some G340 → False := fun e => absurd (two351.two.lt _ e).1 (Nat.not_le_of_lt (heap_lt' hg341))
                have two358 := two351.mono hk338.low
                clear two351
                clear hx343
                have hk346 := hk338.upto (Nat.le_refl _) hb348
                have hg359 := (hb348.block G340 (heap_lt' hg341)).trans hg341
                clear hg341
                refine hK.out _ _ ?hSq345 (fun hHeld => ?restq345)
                case hSq345 => exact hk346
                clear hK K hb348 hk338
                try simp only [Act.put, List.setIfInBounds_toArray, List.set_cons_zero, List.set_cons_succ]
                refine wpAnyH_take (i := 6) (oi := ?oik360) (v := ?vk360) ?hik360 (by kernel_rfl) (by kernel_rfl) (by kernel_rfl) ?hQk360 (Or.inl ⟨?hwk360, ?hyk360⟩) (by assumption) ?restk360
                case hik360 => simp only [List.getElem?_toArray, List.getElem?_cons_succ, List.getElem?_cons_zero]; exact rfl
                case hQk360 => exact fun _ _ _ h => h
                case hwk360 => rfl
                case hyk360 => ((intro w hSw; go_simp) <;> with_reducible rfl)
                try simp only [Act.put, List.setIfInBounds_toArray, List.set_cons_zero, List.set_cons_succ]
                refine wpAnyH_take (i := 7) (oi := ?oik361) (v := ?vk361) ?hik361 (by kernel_rfl) (by kernel_rfl) (by kernel_rfl) ?hQk361 (Or.inl ⟨?hwk361, ?hyk361⟩) (by assumption) ?restk361
                case hik361 => simp only [List.getElem?_toArray, List.getElem?_cons_succ, List.getElem?_cons_zero]; exact rfl
                case hQk361 => exact fun _ _ _ h => h
                case hwk361 => rfl
                case hyk361 => ((intro w hSw; go_simp) <;> with_reducible rfl)
                try simp only [Act.put, List.setIfInBounds_toArray, List.set_cons_zero, List.set_cons_succ]
                refine wpAnyH_take (i := 8) (oi := ?oik362) (v := ?vk362) ?hik362 (by kernel_rfl) (by kernel_rfl) (by kernel_rfl) ?hQk362 (Or.inl ⟨?hwk362, ?hyk362⟩) (by assumption) ?restk362
                case hik362 => simp only [List.getElem?_toArray, List.getElem?_cons_succ, List.getElem?_cons_zero]; exact rfl
                case hQk362 => exact fun _ _ _ h => h
                case hwk362 => rfl
                case hyk362 => ((intro w hSw; go_simp) <;> with_reducible rfl)
                try simp only [Act.put, List.setIfInBounds_toArray, List.set_cons_zero, List.set_cons_succ]
                refine wpAnyH_ready (rs := [10]) (by kernel_rfl) (by simp) ?_
                refine AllReadyH.cons (o := ?or363_10) ?hor363_10 (fun K hK => ?stepr363_10) (AllReadyH.nil)
                case hor363_10 => simp only [List.getElem?_toArray, List.getElem?_cons_succ, List.getElem?_cons_zero]; exact rfl
                case stepr363_10 =>
                  obtain ⟨c0, c1⟩ := cell2 hg359
                  obtain ⟨f0, f1⟩ := rfree2 hg359
                  go_simp
                  have hk365 := hk346.upto' hz342 (((Below.refl G340 v347).setCell (p := ⟨G340, 0, none⟩) (Nat.le_refl _) (.slice A352 N1 c353)).setCell (p := ⟨G340, 1, none⟩) (Nat.le_refl _) (.slice A354 N2 c355))
                  have hput367 := rput2 (u0 := (.slice A352 N1 c353)) (u1 := (.slice A354 N2 c355)) hg359
                  have two366 := (two358.put' (set_grown v347 G340 0 (.slice A352 N1 c353)) hn356 hn357).put' (set_grown _ G340 1 (.slice A354 N2 c355)) hn356 hn357
                  refine hK.out _ _ ?hSq364 (fun hHeld => ?restq364)
                  case hSq364 => exact hk365
                  clear hK K hk346 two358 hg359 c0 c1 f0 f1
                  try simp only [Act.put, List.setIfInBounds_toArray, List.set_cons_zero, List.set_cons_succ]
                  refine wpAnyH_take (i := 11) (oi := ?oik368) (v := ?vk368) ?hik368 (by kernel_rfl) (by kernel_rfl) (by kernel_rfl) ?hQk368 (Or.inl ⟨?hwk368, ?hyk368⟩) (by assumption) ?restk368
                  case hik368 => simp only [List.getElem?_toArray, List.getElem?_cons_succ, List.getElem?_cons_zero]; exact rfl
                  case hQk368 => exact fun _ _ _ h => h
                  case hwk368 => rfl
                  case hyk368 => ((intro w hSw; go_simp) <;> with_reducible rfl)
                  try simp only [Act.put, List.setIfInBounds_toArray, List.set_cons_zero, List.set_cons_succ]
                  refine wpAnyH_done (by kernel_rfl) ?_ _
                  go_wp2_with fail
                  go_meet
                  exact ⟨_, rfl, rfl, ⟨_, _, _, _, hput367, two366, hn356, hn357, hz342.low⟩, hk365⟩
          case stepr297_9 =>
            go_simp
            have hk370 := hk289.upto (Nat.le_refl _) ((Below.refl _ _).alloc (Nat.le_refl _) (.cells #[.slice none 0 0, .slice none 0 0] 30))
            have hg373 := heap_alloc_new v290 (.cells #[.slice none 0 0, .slice none 0 0] 30)
            have hz374 := hk289.lo
            have hx375 := hx296.later ((Below.refl _ _).alloc (Nat.le_refl _) (.cells #[.slice none 0 0, .slice none 0 0] 30))
            clear hx296
            refine hK.out _ _ ?hSq369 (fun hHeld => ?restq369)
            case hSq369 => exact hk370
            clear hK K hk289
            try simp only [Act.put, List.setIfInBounds_toArray, List.set_cons_zero, List.set_cons_succ]
            generalize v290.alloc (.cells #[.slice none 0 0, .slice none 0 0] 30) = v371 at *
            generalize v290.heap.size = G372 at *
            refine wpAnyH_ready (rs := [4]) (by kernel_rfl) (by simp) ?_
            refine AllReadyH.cons (o := ?or376_4) ?hor376_4 (fun K hK => ?stepr376_4) (AllReadyH.nil)
            case hor376_4 => simp only [List.getElem?_toArray, List.getElem?_cons_succ, List.getElem?_cons_zero]; exact rfl
            case stepr376_4 =>
              go_simp
              refine (toOrder_any oi oa op oq v371).mono ?_
              rintro e v379 ⟨rfl, hb380⟩
              have hx381 := hx375.later hb380
              clear hx375
              have hk378 := hk370.upto (Nat.le_refl _) hb380
              have hg382 := (hb380.block G372 (heap_lt' hg373)).trans hg373
              clear hg373
              refine hK.out _ _ ?hSq377 (fun hHeld => ?restq377)
              case hSq377 => exact hk378
              clear hK K hb380 hk370
              try simp only [Act.put, List.setIfInBounds_toArray, List.set_cons_zero, List.set_cons_succ]
              refine wpAnyH_ready (rs := [5]) (by kernel_rfl) (by simp) ?_
              refine AllReadyH.cons (o := ?or383_5) ?hor383_5 (fun K hK => ?stepr383_5) (AllReadyH.nil)
              case hor383_5 => simp only [List.getElem?_toArray, List.getElem?_cons_succ, List.getElem?_cons_zero]; exact rfl
              case stepr383_5 =>
                go_simp
                refine (HCI.out v379 g292 f293 hx381).mono ?_
                rintro e v386 ⟨⟨r388, r389, rfl, two390⟩, hb387⟩
                obtain ⟨A391, c392, A393, c394, rfl, rfl⟩ := two390.slices
                have hn395 : (Value.slice A391 N1 c392).ownBlock = some G372 → False := fun e => absurd (two390.one.lt _ e).1 (Nat.not_le_of_lt (heap_lt' hg382))
                have hn396 : (Value.slice A393 N2 c394).ownBlock = some G372 → False := fun e => absurd (two390.two.lt _ e).1 (Nat.not_le_of_lt (heap_lt' hg382))
                have two397 := two390.mono hk378.low
                clear two390
                clear hx381
                have hk385 := hk378.upto (Nat.le_refl _) hb387
                have hg398 := (hb387.block G372 (heap_lt' hg382)).trans hg382
                clear hg382
                refine hK.out _ _ ?hSq384 (fun hHeld => ?restq384)
                case hSq384 => exact hk385
                clear hK K hb387 hk378
                try simp only [Act.put, List.setIfInBounds_toArray, List.set_cons_zero, List.set_cons_succ]
                refine wpAnyH_take (i := 6) (oi := ?oik399) (v := ?vk399) ?hik399 (by kernel_rfl) (by kernel_rfl) (by kernel_rfl) ?hQk399 (Or.inl ⟨?hwk399, ?hyk399⟩) (by assumption) ?restk399
                case hik399 => simp only [List.getElem?_toArray, List.getElem?_cons_succ, List.getElem?_cons_zero]; exact rfl
                case hQk399 => exact fun _ _ _ h => h
                case hwk399 => rfl
                case hyk399 => ((intro w hSw; go_simp) <;> with_reducible rfl)
                try simp only [Act.put, List.setIfInBounds_toArray, List.set_cons_zero, List.set_cons_succ]
                refine wpAnyH_take (i := 7) (oi := ?oik400) (v := ?vk400) ?hik400 (by kernel_rfl) (by kernel_rfl) (by kernel_rfl) ?hQk400 (Or.inl ⟨?hwk400, ?hyk400⟩) (by assumption) ?restk400
                case hik400 => simp only [List.getElem?_toArray, List.getElem?_cons_succ, List.getElem?_cons_zero]; exact rfl
                case hQk400 => exact fun _ _ _ h => h
                case hwk400 => rfl
                case hyk400 => ((intro w hSw; go_simp) <;> with_reducible rfl)
                try simp only [Act.put, List.setIfInBounds_toArray, List.set_cons_zero, List.set_cons_succ]
                refine wpAnyH_take (i := 8) (oi := ?oik401) (v := ?vk401) ?hik401 (by kernel_rfl) (by kernel_rfl) (by kernel_rfl) ?hQk401 (Or.inl ⟨?hwk401, ?hyk401⟩) (by assumption) ?restk401
                case hik401 => simp only [List.getElem?_toArray, List.getElem?_cons_succ, List.getElem?_cons_zero]; exact rfl
                case hQk401 => exact fun _ _ _ h => h
                case hwk401 => rfl
                case hyk401 => ((intro w hSw; go_simp) <;> with_reducible rfl)
                try simp only [Act.put, List.setIfInBounds_toArray, List.set_cons_zero, List.set_cons_succ]
                refine wpAnyH_ready (rs := [10]) (by kernel_rfl) (by simp) ?_
                refine AllReadyH.cons (o := ?or402_10) ?hor402_10 (fun K hK => ?stepr402_10) (AllReadyH.nil)
                case hor402_10 => simp only [List.getElem?_toArray, List.getElem?_cons_succ, List.getElem?_cons_zero]; exact rfl
                case stepr402_10 =>
                  obtain ⟨c0, c1⟩ := cell2 hg398
                  obtain ⟨f0, f1⟩ := rfree2 hg398
                  go_simp
                  have hk404 := hk385.upto' hz374 (((Below.refl G372 v386).setCell (p := ⟨G372, 0, none⟩) (Nat.le_refl _) (.slice A391 N1 c392)).setCell (p := ⟨G372, 1, none⟩) (Nat.le_refl _) (.slice A393 N2 c394))
                  have hput406 := rput2 (u0 := (.slice A391 N1 c392)) (u1 := (.slice A393 N2 c394)) hg398
                  have two405 := (two397.put' (set_grown v386 G372 0 (.slice A391 N1 c392)) hn395 hn396).put' (set_grown _ G372 1 (.slice A393 N2 c394)) hn395 hn396
                  refine hK.out _ _ ?hSq403 (fun hHeld => ?restq403)
                  case hSq403 => exact hk404
                  clear hK K hk385 two397 hg398 c0 c1 f0 f1
                  try simp only [Act.put, List.setIfInBounds_toArray, List.set_cons_zero, List.set_cons_succ]
                  refine wpAnyH_take (i := 11) (oi := ?oik407) (v := ?vk407) ?hik407 (by kernel_rfl) (by kernel_rfl) (by kernel_rfl) ?hQk407 (Or.inl ⟨?hwk407, ?hyk407⟩) (by assumption) ?restk407
                  case hik407 => simp only [List.getElem?_toArray, List.getElem?_cons_succ, List.getElem?_cons_zero]; exact rfl
                  case hQk407 => exact fun _ _ _ h => h
                  case hwk407 => rfl
                  case hyk407 => ((intro w hSw; go_simp) <;> with_reducible rfl)
                  try simp only [Act.put, List.setIfInBounds_toArray, List.set_cons_zero, List.set_cons_succ]
                  refine wpAnyH_done (by kernel_rfl) ?_ _
                  go_wp2_with fail
                  go_meet
                  exact ⟨_, rfl, rfl, ⟨_, _, _, _, hput406, two405, hn395, hn396, hz374.low⟩, hk404⟩
        case stepr287_9 =>
          go_simp
          have hk409 := hK0.upto (Nat.le_refl _) ((Below.refl _ _).alloc (Nat.le_refl _) (.cells #[.slice none 0 0, .slice none 0 0] 30))
          have hg412 := heap_alloc_new w1s (.cells #[.slice none 0 0, .slice none 0 0] 30)
          have hz413 := hK0.lo
          refine hK.out _ _ ?hSq408 (fun hHeld => ?restq408)
          case hSq408 => exact hk409
          clear hK K hK0
          try simp only [Act.put, List.setIfInBounds_toArray, List.set_cons_zero, List.set_cons_succ]
          generalize w1s.alloc (.cells #[.slice none 0 0, .slice none 0 0] 30) = v410 at *
          generalize w1s.heap.size = G411 at *
          refine wpAnyH_ready (rs := [1]) (by kernel_rfl) (by simp) ?_
          refine AllReadyH.cons (o := ?or414_1) ?hor414_1 (fun K hK => ?stepr414_1) (AllReadyH.nil)
          case hor414_1 => simp only [List.getElem?_toArray, List.getElem?_cons_succ, List.getElem?_cons_zero]; exact rfl
          case stepr414_1 =>
            go_simp
            refine (toBook_any A n c B m d za zb v410 (hls.later hk409.bel) hnm).mono ?_
            rintro e v417 ⟨g419, f420, rfl, _, _, _, hr421, hs422, hb418⟩
            have hx423 : BookIn v417 v417.heap.size (some ⟨g419, 0, none⟩) n (some ⟨f420, 0, none⟩) m za zb := ⟨Lst.of_row (sz := 4) (zs := za) (n := n) hr421 (Nat.le_refl _) hlA (fun _ _ => rfl), Lst.of_row (sz := 4) (zs := zb) (n := m) hs422 (Nat.le_refl _) hlB (fun _ _ => rfl)⟩
            clear hr421 hs422
            have hk416 := hk409.upto (Nat.le_refl _) hb418
            have hg424 := (hb418.block G411 (heap_lt' hg412)).trans hg412
            clear hg412
            refine hK.out _ _ ?hSq415 (fun hHeld => ?restq415)
            case hSq415 => exact hk416
            clear hK K hb418 hk409
            try simp only [Act.put, List.setIfInBounds_toArray, List.set_cons_zero, List.set_cons_succ]
            refine wpAnyH_ready (rs := [4]) (by kernel_rfl) (by simp) ?_
            refine AllReadyH.cons (o := ?or425_4) ?hor425_4 (fun K hK => ?stepr425_4) (AllReadyH.nil)
            case hor425_4 => simp only [List.getElem?_toArray, List.getElem?_cons_succ, List.getElem?_cons_zero]; exact rfl
            case stepr425_4 =>
              go_simp
              refine (toOrder_any oi oa op oq v417).mono ?_
              rintro e v428 ⟨rfl, hb429⟩
              have hx430 := hx423.later hb429
              clear hx423
              have hk427 := hk416.upto (Nat.le_refl _) hb429
              have hg431 := (hb429.block G411 (heap_lt' hg424)).trans hg424
              clear hg424
              refine hK.out _ _ ?hSq426 (fun hHeld => ?restq426)
              case hSq426 => exact hk427
              clear hK K hb429 hk416
              try simp only [Act.put, List.setIfInBounds_toArray, List.set_cons_zero, List.set_cons_succ]
              refine wpAnyH_ready (rs := [5]) (by kernel_rfl) (by simp) ?_
              refine AllReadyH.cons (o := ?or432_5) ?hor432_5 (fun K hK => ?stepr432_5) (AllReadyH.nil)
              case hor432_5 => simp only [List.getElem?_toArray, List.getElem?_cons_succ, List.getElem?_cons_zero]; exact rfl
              case stepr432_5 =>
                go_simp
                refine (HCI.out v428 g419 f420 hx430).mono ?_
                rintro e v435 ⟨⟨r437, r438, rfl, two439⟩, hb436⟩
                obtain ⟨A440, c441, A442, c443, rfl, rfl⟩ := two439.slices
                have hn444 : (Value.slice A440 N1 c441).ownBlock = some G411 → False := fun e => absurd (two439.one.lt _ e).1 (Nat.not_le_of_lt (heap_lt' hg431))
                have hn445 : (Value.slice A442 N2 c443).ownBlock = some G411 → False := fun e => absurd (two439.two.lt _ e).1 (Nat.not_le_of_lt (heap_lt' hg431))
                have two446 := two439.mono hk427.low
                clear two439
                clear hx430
                have hk434 := hk427.upto (Nat.le_refl _) hb436
                have hg447 := (hb436.block G411 (heap_lt' hg431)).trans hg431
                clear hg431
                refine hK.out _ _ ?hSq433 (fun hHeld => ?restq433)
                case hSq433 => exact hk434
                clear hK K hb436 hk427
                try simp only [Act.put, List.setIfInBounds_toArray, List.set_cons_zero, List.set_cons_succ]
                refine wpAnyH_take (i := 6) (oi := ?oik448) (v := ?vk448) ?hik448 (by kernel_rfl) (by kernel_rfl) (by kernel_rfl) ?hQk448 (Or.inl ⟨?hwk448, ?hyk448⟩) (by assumption) ?restk448
                case hik448 => simp only [List.getElem?_toArray, List.getElem?_cons_succ, List.getElem?_cons_zero]; exact rfl
                case hQk448 => exact fun _ _ _ h => h
                case hwk448 => rfl
                case hyk448 => ((intro w hSw; go_simp) <;> with_reducible rfl)
                try simp only [Act.put, List.setIfInBounds_toArray, List.set_cons_zero, List.set_cons_succ]
                refine wpAnyH_take (i := 7) (oi := ?oik449) (v := ?vk449) ?hik449 (by kernel_rfl) (by kernel_rfl) (by kernel_rfl) ?hQk449 (Or.inl ⟨?hwk449, ?hyk449⟩) (by assumption) ?restk449
                case hik449 => simp only [List.getElem?_toArray, List.getElem?_cons_succ, List.getElem?_cons_zero]; exact rfl
                case hQk449 => exact fun _ _ _ h => h
                case hwk449 => rfl
                case hyk449 => ((intro w hSw; go_simp) <;> with_reducible rfl)
                try simp only [Act.put, List.setIfInBounds_toArray, List.set_cons_zero, List.set_cons_succ]
                refine wpAnyH_take (i := 8) (oi := ?oik450) (v := ?vk450) ?hik450 (by kernel_rfl) (by kernel_rfl) (by kernel_rfl) ?hQk450 (Or.inl ⟨?hwk450, ?hyk450⟩) (by assumption) ?restk450
                case hik450 => simp only [List.getElem?_toArray, List.getElem?_cons_succ, List.getElem?_cons_zero]; exact rfl
                case hQk450 => exact fun _ _ _ h => h
                case hwk450 => rfl
                case hyk450 => ((intro w hSw; go_simp) <;> with_reducible rfl)
                try simp only [Act.put, List.setIfInBounds_toArray, List.set_cons_zero, List.set_cons_succ]
                refine wpAnyH_ready (rs := [10]) (by kernel_rfl) (by simp) ?_
                refine AllReadyH.cons (o := ?or451_10) ?hor451_10 (fun K hK => ?stepr451_10) (AllReadyH.nil)
                case hor451_10 => simp only [List.getElem?_toArray, List.getElem?_cons_succ, List.getElem?_cons_zero]; exact rfl
                case stepr451_10 =>
                  obtain ⟨c0, c1⟩ := cell2 hg447
                  obtain ⟨f0, f1⟩ := rfree2 hg447
                  go_simp
                  have hk453 := hk434.upto' hz413 (((Below.refl G411 v435).setCell (p := ⟨G411, 0, none⟩) (Nat.le_refl _) (.slice A440 N1 c441)).setCell (p := ⟨G411, 1, none⟩) (Nat.le_refl _) (.slice A442 N2 c443))
                  have hput455 := rput2 (u0 := (.slice A440 N1 c441)) (u1 := (.slice A442 N2 c443)) hg447
                  have two454 := (two446.put' (set_grown v435 G411 0 (.slice A440 N1 c441)) hn444 hn445).put' (set_grown _ G411 1 (.slice A442 N2 c443)) hn444 hn445
                  refine hK.out _ _ ?hSq452 (fun hHeld => ?restq452)
                  case hSq452 => exact hk453
                  clear hK K hk434 two446 hg447 c0 c1 f0 f1
                  try simp only [Act.put, List.setIfInBounds_toArray, List.set_cons_zero, List.set_cons_succ]
                  refine wpAnyH_take (i := 11) (oi := ?oik456) (v := ?vk456) ?hik456 (by kernel_rfl) (by kernel_rfl) (by kernel_rfl) ?hQk456 (Or.inl ⟨?hwk456, ?hyk456⟩) (by assumption) ?restk456
                  case hik456 => simp only [List.getElem?_toArray, List.getElem?_cons_succ, List.getElem?_cons_zero]; exact rfl
                  case hQk456 => exact fun _ _ _ h => h
                  case hwk456 => rfl
                  case hyk456 => ((intro w hSw; go_simp) <;> with_reducible rfl)
                  try simp only [Act.put, List.setIfInBounds_toArray, List.set_cons_zero, List.set_cons_succ]
                  refine wpAnyH_done (by kernel_rfl) ?_ _
                  go_wp2_with fail
                  go_meet
                  exact ⟨_, rfl, rfl, ⟨_, _, _, _, hput455, two454, hn444, hn445, hz413.low⟩, hk453⟩
      case rest =>
        clear hK0
        obtain ⟨G3, rfl, rfl, ⟨At, ct, Au, cu, Q14, TH14, -, -, -⟩, hK0⟩ := hcut
        have D14 := ord_later D11 hK0.bel
        have G14 := (hK0.bel.block _ lG11).trans G11
        have M14 := M11.below hK0.bel
        have W14 := (D14.block _ lWa).trans Wa
        have TW14 := TWa.below D14
        obtain ⟨q0, q1⟩ := cell2 Q14
        obtain ⟨r0, r1⟩ := cell2 W14
        clear D11 G11 M11 H11 hl11 p0 p1 hK0 Q14
        have lG14 := heap_lt' G14
        go_wp2_with fail
        refine (eqBook_same _ _ _ _ N1 N2 _ _ _ _ Z1 Z2 _ TH14.bookIn TW14.bookIn hN1 hN2).mono ?_
        rintro e w15 ⟨rfl, hb15⟩
        have D15 := ord_later D14 hb15
        have G15 := (hb15.block _ lG14).trans G14
        have M15 := M14.below hb15
        clear D14 G14 M14 TH14 W14 TW14 hb15 q0 q1 r0 r1
        obtain ⟨q0, q1⟩ := cell2 G15
        go_wp2_with fail
        refine (heldBook_own _ _ _ _ N1 N2 w15 M15 hN1 hN2).mono ?_
        rintro e w16 ⟨rfl, hb16⟩
        have hfin := ord_later hBa (ord_later D15 hb16)
        go_wp2_with fail
        go_ret
        exact ⟨by first | rfl | simp, hfin⟩
end Go.Proofs.Ytkokmlhfcilohaa
