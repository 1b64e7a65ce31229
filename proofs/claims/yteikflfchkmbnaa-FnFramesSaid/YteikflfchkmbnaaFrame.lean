/-
  A frame as both programs write it: the length, the checksum, the data.
-/
import Derived.Test.YteikflfchkmbnaaCrc
import Derived.Test.YteikflfchkmbnaaKeep
import Derived.Lib.ConvBytes
namespace Go.Proofs.Yteikflfchkmbnaa
open Go.RowKit Wire

/-- what both FrameOf return -/
def frameB (s : ByteArray) : ByteArray := if s.size ≤ 100000 then ⟨(be 4 s.size).toArray⟩ ++ ⟨(le4 (crcN s)).toArray⟩ ++ s else ⟨#[]⟩
theorem conv_list4 {v : World} {G cap : Nat} {cs : Array Value} {e : TypeId} {fr : Nat × Nat} (a b c d : UInt8) (h : v.heap[G]? = some (.cells cs e fr))
    (hc : cs[0]? = some (.int .u8 a.toNat) ∧ cs[1]? = some (.int .u8 b.toNat) ∧ cs[2]? = some (.int .u8 c.toNat) ∧ cs[3]? = some (.int .u8 d.toNat)) :
    Sem.run Try.prog (convert 22 9 (.slice (some ⟨G, 0, none⟩) 4 cap)) v = .ok (.string ⟨#[a, b, c, d]⟩) v := by
  have h := run_convert_bytes_back (P := Try.prog) v 22 9 5 ⟨G, 0, none⟩ cap [a, b, c, d] Try.underlying22 Try.underlying5 Try.underlying9 ?_
  · exact h
  · intro j hj
    have : j = 0 ∨ j = 1 ∨ j = 2 ∨ j = 3 := by simp at hj; omega
    rcases this with rfl | rfl | rfl | rfl
    · rw [show (Addr.add ⟨G, 0, none⟩ 0) = ⟨G, 0, none⟩ from rfl, World.cell?, h]; exact hc.1
    · rw [show (Addr.add ⟨G, 0, none⟩ 1) = ⟨G, 1, none⟩ from rfl, World.cell?, h]; exact hc.2.1
    · rw [show (Addr.add ⟨G, 0, none⟩ 2) = ⟨G, 2, none⟩ from rfl, World.cell?, h]; exact hc.2.2.1
    · rw [show (Addr.add ⟨G, 0, none⟩ 3) = ⟨G, 3, none⟩ from rfl, World.cell?, h]; exact hc.2.2.2
theorem be4_eq (n : Nat) : be 4 n = [UInt8.ofNat (n / 16777216 % 256), UInt8.ofNat (n / 65536 % 256), UInt8.ofNat (n / 256 % 256), UInt8.ofNat (n % 256)] := by
  simp [be, Nat.div_div_eq_div_mul]
theorem le4_rev (n : Nat) : le4 n = (be 4 n).reverse := by rw [be4_eq]; rfl
theorem le4_length (n : Nat) : (le4 n).length = 4 := rfl
theorem conv_be4 {v : World} {G cap n : Nat} {e : TypeId} {fr : Nat × Nat} (h : v.heap[G]? = some (.cells #[.int .u8 (IntKind.u8.wrap ((n : Int) / 16777216)), .int .u8 (IntKind.u8.wrap ((n : Int) / 65536)), .int .u8 (IntKind.u8.wrap ((n : Int) / 256)), .int .u8 (IntKind.u8.wrap (n : Int))] e fr)) :
    Sem.run Try.prog (convert 22 9 (.slice (some ⟨G, 0, none⟩) 4 cap)) v = .ok (.string ⟨(be 4 n).toArray⟩) v := by
  rw [be4_eq]
  refine conv_list4 (UInt8.ofNat (n / 16777216 % 256)) (UInt8.ofNat (n / 65536 % 256)) (UInt8.ofNat (n / 256 % 256)) (UInt8.ofNat (n % 256)) h ?_
  simp only [IntKind.wrap_u8, u8_of, Int.natCast_ediv]
  exact ⟨rfl, rfl, rfl, rfl⟩
set_option linter.unusedSimpArgs false in
set_option maxHeartbeats 3200000 in
set_option maxRecDepth 100000 in
theorem spec_FrameOf (s : ByteArray) (w : World) (hs : s.size ≤ maxLen) :
    Calls Try.prog 69 #[.string s] w fun e w' => e = .returned (.string (frameB s)) ∧ Below w.heap.size w w' := by
  unfold maxLen at hs
  by_cases hl : s.size ≤ 100000
  · have hv : frameB s = ⟨(be 4 s.size).toArray⟩ ++ ⟨(le4 (crcN s)).toArray⟩ ++ s := by unfold frameB; rw [if_pos hl]
    rw [hv]
    clear hv
    have l4 := fun n => be_length 4 n
    have m4 := fun n => le4_length n
    have hsm : (9223372036854775807 < 8 + s.size) = False := by simp; omega
    go_enter Try.func69, Try.ntmps69
    go_upto_region 4 with fail
    have hK0 : Keeps w.heap.size w [] w := ⟨Below.refl _ _, Nat.le_refl _, fun p hp => by simp at hp⟩
    refine wp_region_held_drew (S := Keeps w.heap.size w []) (by kernel_rfl) ?hSr1 (fun hHeld => ?restr1)
    case hSr1 => exact hK0.drew
    replace hK0 := hK0.drew
    generalize w.drew = w1 at *
    refine wpAnyH_take (i := 0) (oi := ?oik1) (v := ?vk1) ?hik1 (by kernel_rfl) (by kernel_rfl) (by kernel_rfl) ?hQk1 (Or.inl ⟨?hwk1, ?hyk1⟩) (by assumption) ?restk1
    case hik1 => simp only [List.getElem?_toArray, List.getElem?_cons_succ, List.getElem?_cons_zero]; exact rfl
    case hQk1 => exact fun _ _ _ h => h
    case hwk1 => rfl
    case hyk1 => ((intro w hSw; go_simp) <;> with_reducible rfl)
    try simp only [Act.put, List.setIfInBounds_toArray, List.set_cons_zero, List.set_cons_succ]
    refine wpAnyH_take (i := 1) (oi := ?oik2) (v := ?vk2) ?hik2 (by kernel_rfl) (by kernel_rfl) (by kernel_rfl) ?hQk2 (Or.inl ⟨?hwk2, ?hyk2⟩) (by assumption) ?restk2
    case hik2 => simp only [List.getElem?_toArray, List.getElem?_cons_succ, List.getElem?_cons_zero]; exact rfl
    case hQk2 => exact fun _ _ _ h => h
    case hwk2 => rfl
    case hyk2 => ((intro w hSw; go_simp) <;> with_reducible rfl)
    try simp only [Act.put, List.setIfInBounds_toArray, List.set_cons_zero, List.set_cons_succ]
    refine wpAnyH_take (i := 2) (oi := ?oik3) (v := ?vk3) ?hik3 (by kernel_rfl) (by kernel_rfl) (by kernel_rfl) ?hQk3 (Or.inl ⟨?hwk3, ?hyk3⟩) (by assumption) ?restk3
    case hik3 => simp only [List.getElem?_toArray, List.getElem?_cons_succ, List.getElem?_cons_zero]; exact rfl
    case hQk3 => exact fun _ _ _ h => h
    case hwk3 => rfl
    case hyk3 => ((intro w hSw; go_simp) <;> with_reducible rfl)
    try simp only [Act.put, List.setIfInBounds_toArray, List.set_cons_zero, List.set_cons_succ]
    refine wpAnyH_take (i := 3) (oi := ?oik4) (v := ?vk4) ?hik4 (by kernel_rfl) (by kernel_rfl) (by kernel_rfl) ?hQk4 (Or.inl ⟨?hwk4, ?hyk4⟩) (by assumption) ?restk4
    case hik4 => simp only [List.getElem?_toArray, List.getElem?_cons_succ, List.getElem?_cons_zero]; exact rfl
    case hQk4 => exact fun _ _ _ h => h
    case hwk4 => rfl
    case hyk4 => ((intro w hSw; go_simp) <;> with_reducible rfl)
    try simp only [Act.put, List.setIfInBounds_toArray, List.set_cons_zero, List.set_cons_succ]
    refine wpAnyH_take (i := 4) (oi := ?oik5) (v := ?vk5) ?hik5 (by kernel_rfl) (by kernel_rfl) (by kernel_rfl) ?hQk5 (Or.inl ⟨?hwk5, ?hyk5⟩) (by assumption) ?restk5
    case hik5 => simp only [List.getElem?_toArray, List.getElem?_cons_succ, List.getElem?_cons_zero]; exact rfl
    case hQk5 => exact fun _ _ _ h => h
    case hwk5 => rfl
    case hyk5 => ((intro w hSw; go_simp) <;> with_reducible rfl)
    try simp only [Act.put, List.setIfInBounds_toArray, List.set_cons_zero, List.set_cons_succ]
    refine wpAnyH_take (i := 5) (oi := ?oik6) (v := ?vk6) ?hik6 (by kernel_rfl) (by kernel_rfl) (by kernel_rfl) ?hQk6 (Or.inl ⟨?hwk6, ?hyk6⟩) (by assumption) ?restk6
    case hik6 => simp only [List.getElem?_toArray, List.getElem?_cons_succ, List.getElem?_cons_zero]; exact rfl
    case hQk6 => exact fun _ _ _ h => h
    case hwk6 => rfl
    case hyk6 => ((intro w hSw; go_simp) <;> with_reducible rfl)
    try simp only [Act.put, List.setIfInBounds_toArray, List.set_cons_zero, List.set_cons_succ]
    refine wpAnyH_take (i := 6) (oi := ?oik7) (v := ?vk7) ?hik7 (by kernel_rfl) (by kernel_rfl) (by kernel_rfl) ?hQk7 (Or.inl ⟨?hwk7, ?hyk7⟩) (by assumption) ?restk7
    case hik7 => simp only [List.getElem?_toArray, List.getElem?_cons_succ, List.getElem?_cons_zero]; exact rfl
    case hQk7 => exact fun _ _ _ h => h
    case hwk7 => rfl
    case hyk7 => ((intro w hSw; go_simp) <;> with_reducible rfl)
    try simp only [Act.put, List.setIfInBounds_toArray, List.set_cons_zero, List.set_cons_succ]
    refine wpAnyH_take (i := 7) (oi := ?oik8) (v := ?vk8) ?hik8 (by kernel_rfl) (by kernel_rfl) (by kernel_rfl) ?hQk8 (Or.inl ⟨?hwk8, ?hyk8⟩) (by assumption) ?restk8
    case hik8 => simp only [List.getElem?_toArray, List.getElem?_cons_succ, List.getElem?_cons_zero]; exact rfl
    case hQk8 => exact fun _ _ _ h => h
    case hwk8 => rfl
    case hyk8 => ((intro w hSw; go_simp) <;> with_reducible rfl)
    try simp only [Act.put, List.setIfInBounds_toArray, List.set_cons_zero, List.set_cons_succ]
    refine wpAnyH_take (i := 8) (oi := ?oik9) (v := ?vk9) ?hik9 (by kernel_rfl) (by kernel_rfl) (by kernel_rfl) ?hQk9 (Or.inl ⟨?hwk9, ?hyk9⟩) (by assumption) ?restk9
    case hik9 => simp only [List.getElem?_toArray, List.getElem?_cons_succ, List.getElem?_cons_zero]; exact rfl
    case hQk9 => exact fun _ _ _ h => h
    case hwk9 => rfl
    case hyk9 => ((intro w hSw; go_simp) <;> with_reducible rfl)
    try simp only [Act.put, List.setIfInBounds_toArray, List.set_cons_zero, List.set_cons_succ]
    refine wpAnyH_take (i := 9) (oi := ?oik10) (v := ?vk10) ?hik10 (by kernel_rfl) (by kernel_rfl) (by kernel_rfl) ?hQk10 (Or.inl ⟨?hwk10, ?hyk10⟩) (by assumption) ?restk10
    case hik10 => simp only [List.getElem?_toArray, List.getElem?_cons_succ, List.getElem?_cons_zero]; exact rfl
    case hQk10 => exact fun _ _ _ h => h
    case hwk10 => rfl
    case hyk10 => ((intro w hSw; go_simp) <;> with_reducible rfl)
    try simp only [Act.put, List.setIfInBounds_toArray, List.set_cons_zero, List.set_cons_succ]
    refine wpAnyH_take (i := 10) (oi := ?oik11) (v := ?vk11) ?hik11 (by kernel_rfl) (by kernel_rfl) (by kernel_rfl) ?hQk11 (Or.inl ⟨?hwk11, ?hyk11⟩) (by assumption) ?restk11
    case hik11 => simp only [List.getElem?_toArray, List.getElem?_cons_succ, List.getElem?_cons_zero]; exact rfl
    case hQk11 => exact fun _ _ _ h => h
    case hwk11 => rfl
    case hyk11 => ((intro w hSw; go_simp) <;> with_reducible rfl)
    try simp only [Act.put, List.setIfInBounds_toArray, List.set_cons_zero, List.set_cons_succ]
    refine wpAnyH_take (i := 13) (oi := ?oik12) (v := ?vk12) ?hik12 (by kernel_rfl) (by kernel_rfl) (by kernel_rfl) ?hQk12 (Or.inl ⟨?hwk12, ?hyk12⟩) (by assumption) ?restk12
    case hik12 => simp only [List.getElem?_toArray, List.getElem?_cons_succ, List.getElem?_cons_zero]; exact rfl
    case hQk12 => exact fun _ _ _ h => h
    case hwk12 => rfl
    case hyk12 => ((intro w hSw; go_simp) <;> with_reducible rfl)
    try simp only [Act.put, List.setIfInBounds_toArray, List.set_cons_zero, List.set_cons_succ]
    refine wpAnyH_take (i := 16) (oi := ?oik13) (v := ?vk13) ?hik13 (by kernel_rfl) (by kernel_rfl) (by kernel_rfl) ?hQk13 (Or.inl ⟨?hwk13, ?hyk13⟩) (by assumption) ?restk13
    case hik13 => simp only [List.getElem?_toArray, List.getElem?_cons_succ, List.getElem?_cons_zero]; exact rfl
    case hQk13 => exact fun _ _ _ h => h
    case hwk13 => rfl
    case hyk13 => ((intro w hSw; go_simp) <;> with_reducible rfl)
    try simp only [Act.put, List.setIfInBounds_toArray, List.set_cons_zero, List.set_cons_succ]
    refine wpAnyH_ready (rs := [11, 14]) (by kernel_rfl) (by simp) ?_
    refine AllReadyH.cons (o := ?or14_11) ?hor14_11 (fun K hK => ?stepr14_11) (AllReadyH.cons (o := ?or14_14) ?hor14_14 (fun K hK => ?stepr14_14) (AllReadyH.nil))
    case hor14_11 => simp only [List.getElem?_toArray, List.getElem?_cons_succ, List.getElem?_cons_zero]; exact rfl
    case hor14_14 => simp only [List.getElem?_toArray, List.getElem?_cons_succ, List.getElem?_cons_zero]; exact rfl
    case stepr14_11 =>
      go_simp
      have hk17 := hK0.upto (Nat.le_refl _) ((Below.refl _ _).alloc (Nat.le_refl _) (.cells #[.int .u8 (IntKind.u8.wrap ((s.size : Int) / 16777216)), .int .u8 (IntKind.u8.wrap ((s.size : Int) / 65536)), .int .u8 (IntKind.u8.wrap ((s.size : Int) / 256)), .int .u8 (IntKind.u8.wrap (s.size : Int))] 5))
      have hg19 := heap_alloc_new w1 (.cells #[.int .u8 (IntKind.u8.wrap ((s.size : Int) / 16777216)), .int .u8 (IntKind.u8.wrap ((s.size : Int) / 65536)), .int .u8 (IntKind.u8.wrap ((s.size : Int) / 256)), .int .u8 (IntKind.u8.wrap (s.size : Int))] 5)
      have hz20 := hK0.lo
      refine hK.out _ _ ?hSq15 (fun hHeld => ?restq15)
      case hSq15 => exact hk17
      clear hK K hK0
      try simp only [Act.put, List.setIfInBounds_toArray, List.set_cons_zero, List.set_cons_succ]
      generalize w1.alloc (.cells #[.int .u8 (IntKind.u8.wrap ((s.size : Int) / 16777216)), .int .u8 (IntKind.u8.wrap ((s.size : Int) / 65536)), .int .u8 (IntKind.u8.wrap ((s.size : Int) / 256)), .int .u8 (IntKind.u8.wrap (s.size : Int))] 5) = v16 at *
      generalize w1.heap.size = G18 at *
      refine wpAnyH_ready (rs := [12, 14]) (by kernel_rfl) (by simp) ?_
      refine AllReadyH.cons (o := ?or21_12) ?hor21_12 (fun K hK => ?stepr21_12) (AllReadyH.cons (o := ?or21_14) ?hor21_14 (fun K hK => ?stepr21_14) (AllReadyH.nil))
      case hor21_12 => simp only [List.getElem?_toArray, List.getElem?_cons_succ, List.getElem?_cons_zero]; exact rfl
      case hor21_14 => simp only [List.getElem?_toArray, List.getElem?_cons_succ, List.getElem?_cons_zero]; exact rfl
      case stepr21_12 =>
        have hcv := conv_be4 (cap := 4) hg19
        go_simp
        refine hK.out _ _ ?hSq22 (fun hHeld => ?restq22)
        case hSq22 => exact hk17
        clear hK K
        try simp only [Act.put, List.setIfInBounds_toArray, List.set_cons_zero, List.set_cons_succ]
        refine wpAnyH_ready (rs := [14]) (by kernel_rfl) (by simp) ?_
        refine AllReadyH.cons (o := ?or23_14) ?hor23_14 (fun K hK => ?stepr23_14) (AllReadyH.nil)
        case hor23_14 => simp only [List.getElem?_toArray, List.getElem?_cons_succ, List.getElem?_cons_zero]; exact rfl
        case stepr23_14 =>
          go_simp
          refine (l12Sum_any s v16 (by unfold maxLen; omega)).mono ?_
          rintro e v25 ⟨rfl, hb26⟩
          have hk27 := hk17.upto (Nat.le_refl _) hb26
          have hg28 := (hb26.block G18 (heap_lt' hg19)).trans hg19
          clear hg19
          refine hK.out _ _ ?hSq24 (fun hHeld => ?restq24)
          case hSq24 => exact hk27
          clear hK K hb26 hk17
          try simp only [Act.put, List.setIfInBounds_toArray, List.set_cons_zero, List.set_cons_succ]
          refine wpAnyH_take (i := 15) (oi := ?oik29) (v := ?vk29) ?hik29 (by kernel_rfl) (by kernel_rfl) (by kernel_rfl) ?hQk29 (Or.inl ⟨?hwk29, ?hyk29⟩) (by assumption) ?restk29
          case hik29 => simp only [List.getElem?_toArray, List.getElem?_cons_succ, List.getElem?_cons_zero]; exact rfl
          case hQk29 => exact fun _ _ _ h => h
          case hwk29 => rfl
          case hyk29 => ((intro w hSw; go_simp) <;> with_reducible rfl)
          try simp only [Act.put, List.setIfInBounds_toArray, List.set_cons_zero, List.set_cons_succ]
          refine wpAnyH_take (i := 17) (oi := ?oik30) (v := ?vk30) ?hik30 (by kernel_rfl) (by kernel_rfl) (by kernel_rfl) ?hQk30 (Or.inl ⟨?hwk30, ?hyk30⟩) (by assumption) ?restk30
          case hik30 => simp only [List.getElem?_toArray, List.getElem?_cons_succ, List.getElem?_cons_zero]; exact rfl
          case hQk30 => exact fun _ _ _ h => h
          case hwk30 => rfl
          case hyk30 => ((intro w hSw; go_simp) <;> with_reducible rfl)
          try simp only [Act.put, List.setIfInBounds_toArray, List.set_cons_zero, List.set_cons_succ]
          refine wpAnyH_take (i := 18) (oi := ?oik31) (v := ?vk31) ?hik31 (by kernel_rfl) (by kernel_rfl) (by kernel_rfl) ?hQk31 (Or.inl ⟨?hwk31, ?hyk31⟩) (by assumption) ?restk31
          case hik31 => simp only [List.getElem?_toArray, List.getElem?_cons_succ, List.getElem?_cons_zero]; exact rfl
          case hQk31 => exact fun _ _ _ h => h
          case hwk31 => rfl
          case hyk31 => ((intro w hSw; go_simp) <;> with_reducible rfl)
          try simp only [Act.put, List.setIfInBounds_toArray, List.set_cons_zero, List.set_cons_succ]
          refine wpAnyH_done (by kernel_rfl) ?_ _
          go_wp2_with fail
          go_ret
          exact ⟨rfl, hk27.bel⟩
      case stepr21_14 =>
        go_simp
        refine (l12Sum_any s v16 (by unfold maxLen; omega)).mono ?_
        rintro e v33 ⟨rfl, hb34⟩
        have hk35 := hk17.upto (Nat.le_refl _) hb34
        have hg36 := (hb34.block G18 (heap_lt' hg19)).trans hg19
        clear hg19
        refine hK.out _ _ ?hSq32 (fun hHeld => ?restq32)
        case hSq32 => exact hk35
        clear hK K hb34 hk17
        try simp only [Act.put, List.setIfInBounds_toArray, List.set_cons_zero, List.set_cons_succ]
        refine wpAnyH_ready (rs := [12]) (by kernel_rfl) (by simp) ?_
        refine AllReadyH.cons (o := ?or37_12) ?hor37_12 (fun K hK => ?stepr37_12) (AllReadyH.nil)
        case hor37_12 => simp only [List.getElem?_toArray, List.getElem?_cons_succ, List.getElem?_cons_zero]; exact rfl
        case stepr37_12 =>
          have hcv := conv_be4 (cap := 4) hg36
          go_simp
          refine hK.out _ _ ?hSq38 (fun hHeld => ?restq38)
          case hSq38 => exact hk35
          clear hK K
          try simp only [Act.put, List.setIfInBounds_toArray, List.set_cons_zero, List.set_cons_succ]
          refine wpAnyH_take (i := 15) (oi := ?oik39) (v := ?vk39) ?hik39 (by kernel_rfl) (by kernel_rfl) (by kernel_rfl) ?hQk39 (Or.inl ⟨?hwk39, ?hyk39⟩) (by assumption) ?restk39
          case hik39 => simp only [List.getElem?_toArray, List.getElem?_cons_succ, List.getElem?_cons_zero]; exact rfl
          case hQk39 => exact fun _ _ _ h => h
          case hwk39 => rfl
          case hyk39 => ((intro w hSw; go_simp) <;> with_reducible rfl)
          try simp only [Act.put, List.setIfInBounds_toArray, List.set_cons_zero, List.set_cons_succ]
          refine wpAnyH_take (i := 17) (oi := ?oik40) (v := ?vk40) ?hik40 (by kernel_rfl) (by kernel_rfl) (by kernel_rfl) ?hQk40 (Or.inl ⟨?hwk40, ?hyk40⟩) (by assumption) ?restk40
          case hik40 => simp only [List.getElem?_toArray, List.getElem?_cons_succ, List.getElem?_cons_zero]; exact rfl
          case hQk40 => exact fun _ _ _ h => h
          case hwk40 => rfl
          case hyk40 => ((intro w hSw; go_simp) <;> with_reducible rfl)
          try simp only [Act.put, List.setIfInBounds_toArray, List.set_cons_zero, List.set_cons_succ]
          refine wpAnyH_take (i := 18) (oi := ?oik41) (v := ?vk41) ?hik41 (by kernel_rfl) (by kernel_rfl) (by kernel_rfl) ?hQk41 (Or.inl ⟨?hwk41, ?hyk41⟩) (by assumption) ?restk41
          case hik41 => simp only [List.getElem?_toArray, List.getElem?_cons_succ, List.getElem?_cons_zero]; exact rfl
          case hQk41 => exact fun _ _ _ h => h
          case hwk41 => rfl
          case hyk41 => ((intro w hSw; go_simp) <;> with_reducible rfl)
          try simp only [Act.put, List.setIfInBounds_toArray, List.set_cons_zero, List.set_cons_succ]
          refine wpAnyH_done (by kernel_rfl) ?_ _
          go_wp2_with fail
          go_ret
          exact ⟨rfl, hk35.bel⟩
    case stepr14_14 =>
      go_simp
      refine (l12Sum_any s w1 (by unfold maxLen; omega)).mono ?_
      rintro e v43 ⟨rfl, hb44⟩
      have hk45 := hK0.upto (Nat.le_refl _) hb44
      refine hK.out _ _ ?hSq42 (fun hHeld => ?restq42)
      case hSq42 => exact hk45
      clear hK K hb44 hK0
      try simp only [Act.put, List.setIfInBounds_toArray, List.set_cons_zero, List.set_cons_succ]
      refine wpAnyH_ready (rs := [11]) (by kernel_rfl) (by simp) ?_
      refine AllReadyH.cons (o := ?or46_11) ?hor46_11 (fun K hK => ?stepr46_11) (AllReadyH.nil)
      case hor46_11 => simp only [List.getElem?_toArray, List.getElem?_cons_succ, List.getElem?_cons_zero]; exact rfl
      case stepr46_11 =>
        go_simp
        have hk49 := hk45.upto (Nat.le_refl _) ((Below.refl _ _).alloc (Nat.le_refl _) (.cells #[.int .u8 (IntKind.u8.wrap ((s.size : Int) / 16777216)), .int .u8 (IntKind.u8.wrap ((s.size : Int) / 65536)), .int .u8 (IntKind.u8.wrap ((s.size : Int) / 256)), .int .u8 (IntKind.u8.wrap (s.size : Int))] 5))
        have hg51 := heap_alloc_new v43 (.cells #[.int .u8 (IntKind.u8.wrap ((s.size : Int) / 16777216)), .int .u8 (IntKind.u8.wrap ((s.size : Int) / 65536)), .int .u8 (IntKind.u8.wrap ((s.size : Int) / 256)), .int .u8 (IntKind.u8.wrap (s.size : Int))] 5)
        have hz52 := hk45.lo
        refine hK.out _ _ ?hSq47 (fun hHeld => ?restq47)
        case hSq47 => exact hk49
        clear hK K hk45
        try simp only [Act.put, List.setIfInBounds_toArray, List.set_cons_zero, List.set_cons_succ]
        generalize v43.alloc (.cells #[.int .u8 (IntKind.u8.wrap ((s.size : Int) / 16777216)), .int .u8 (IntKind.u8.wrap ((s.size : Int) / 65536)), .int .u8 (IntKind.u8.wrap ((s.size : Int) / 256)), .int .u8 (IntKind.u8.wrap (s.size : Int))] 5) = v48 at *
        generalize v43.heap.size = G50 at *
        refine wpAnyH_ready (rs := [12]) (by kernel_rfl) (by simp) ?_
        refine AllReadyH.cons (o := ?or53_12) ?hor53_12 (fun K hK => ?stepr53_12) (AllReadyH.nil)
        case hor53_12 => simp only [List.getElem?_toArray, List.getElem?_cons_succ, List.getElem?_cons_zero]; exact rfl
        case stepr53_12 =>
          have hcv := conv_be4 (cap := 4) hg51
          go_simp
          refine hK.out _ _ ?hSq54 (fun hHeld => ?restq54)
          case hSq54 => exact hk49
          clear hK K
          try simp only [Act.put, List.setIfInBounds_toArray, List.set_cons_zero, List.set_cons_succ]
          refine wpAnyH_take (i := 15) (oi := ?oik55) (v := ?vk55) ?hik55 (by kernel_rfl) (by kernel_rfl) (by kernel_rfl) ?hQk55 (Or.inl ⟨?hwk55, ?hyk55⟩) (by assumption) ?restk55
          case hik55 => simp only [List.getElem?_toArray, List.getElem?_cons_succ, List.getElem?_cons_zero]; exact rfl
          case hQk55 => exact fun _ _ _ h => h
          case hwk55 => rfl
          case hyk55 => ((intro w hSw; go_simp) <;> with_reducible rfl)
          try simp only [Act.put, List.setIfInBounds_toArray, List.set_cons_zero, List.set_cons_succ]
          refine wpAnyH_take (i := 17) (oi := ?oik56) (v := ?vk56) ?hik56 (by kernel_rfl) (by kernel_rfl) (by kernel_rfl) ?hQk56 (Or.inl ⟨?hwk56, ?hyk56⟩) (by assumption) ?restk56
          case hik56 => simp only [List.getElem?_toArray, List.getElem?_cons_succ, List.getElem?_cons_zero]; exact rfl
          case hQk56 => exact fun _ _ _ h => h
          case hwk56 => rfl
          case hyk56 => ((intro w hSw; go_simp) <;> with_reducible rfl)
          try simp only [Act.put, List.setIfInBounds_toArray, List.set_cons_zero, List.set_cons_succ]
          refine wpAnyH_take (i := 18) (oi := ?oik57) (v := ?vk57) ?hik57 (by kernel_rfl) (by kernel_rfl) (by kernel_rfl) ?hQk57 (Or.inl ⟨?hwk57, ?hyk57⟩) (by assumption) ?restk57
          case hik57 => simp only [List.getElem?_toArray, List.getElem?_cons_succ, List.getElem?_cons_zero]; exact rfl
          case hQk57 => exact fun _ _ _ h => h
          case hwk57 => rfl
          case hyk57 => ((intro w hSw; go_simp) <;> with_reducible rfl)
          try simp only [Act.put, List.setIfInBounds_toArray, List.set_cons_zero, List.set_cons_succ]
          refine wpAnyH_done (by kernel_rfl) ?_ _
          go_wp2_with fail
          go_ret
          exact ⟨rfl, hk49.bel⟩
  · have hv : frameB s = ⟨#[]⟩ := by unfold frameB; rw [if_neg hl]
    rw [hv]
    clear hv
    go_enter Try.func69, Try.ntmps69
    go_wp2_with fail
    go_ret
    exact ⟨rfl, Below.refl _ _⟩
end Go.Proofs.Yteikflfchkmbnaa
