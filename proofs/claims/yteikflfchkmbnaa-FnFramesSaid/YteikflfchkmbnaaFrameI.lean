/-
  A frame as the program writes it.
-/
import Derived.Test.YteikflfchkmbnaaFrame
import Derived.Shelf.SlicesE.Reverse
import Derived.Ground.SlgnProg
namespace Go.Proofs.Yteikflfchkmbnaa
open Go.RowKit Wire Go.Shelf Go.Sort

shelf_lay_g SlLaysE.n35 Slgn 35 at Try 76 as Try.eRev
theorem putRow_below {α : Type} [Inhabited α] {enc : α → Value} {v : World} {X G off n : Nat} {d : Array α} (hX : X ≤ G) : Below X v (putRow enc (Sort.ahead v n) G off d) :=
  ⟨rfl, rfl, rfl, by simp [Sort.ahead], fun k hk => by
    have : G ≠ k := by omega
    simp [putRow, mapBlock, Sort.ahead, Array.getElem?_modify, this]⟩
theorem bytes_below {v : World} {e : TypeId} {s : ByteArray} : Below v.heap.size v (Lib.bytesWorld v e s) :=
  ⟨rfl, rfl, rfl, by rw [Lib.bytesWorld_size]; omega, fun k hk => Lib.bytesWorld_at_old v e s k hk⟩
theorem iput4 (N : Nat) (k : Int) (w : World) (h1 : 1 ≤ k) (h7 : k ≤ 7) (hN : N < 256 ^ k.toNat) :
    Calls Try.prog 74 #[.int .i64 (N : Int), .int .i64 k] w fun e w' => e = .returned (.string ⟨(be k.toNat N).toArray⟩) ∧ Below w.heap.size w w' := by
  obtain ⟨K, rfl⟩ := Int.eq_ofNat_of_zero_le (show 0 ≤ k by omega)
  rw [Int.toNat_natCast] at hN ⊢
  have hN2 : N < 72057594037927936 := Nat.lt_of_lt_of_le hN (Nat.le_trans (Nat.pow_le_pow_right (by omega) (show K ≤ 7 by omega)) (by omega))
  have hp := impl_PutInt (N : Int) (K : Int) w (by omega)
  rw [putB_yes h1 h7 (by omega) (by rw [Int.toNat_natCast, pow_nat]; omega), Int.toNat_natCast, Int.toNat_natCast] at hp
  exact hp
theorem cell_of_obj {v : World} {G : Nat} {cs : Array Value} {e : TypeId} {fr : Nat × Nat} (h : v.heap[G]? = some (.cells cs e fr)) (j : Nat) : v.cell? ⟨G, 0 + j, none⟩ = cs[j]? := by
  rw [Nat.zero_add, World.cell?, h]; rfl
theorem conv_le4 {v : World} {G cap n : Nat} {cs : Array Value} {e : TypeId} {fr : Nat × Nat} (h : v.heap[G]? = some (.cells cs e fr))
    (hc : cs[0]? = some (.int .u8 (UInt8.ofNat (n % 256)).toNat) ∧ cs[1]? = some (.int .u8 (UInt8.ofNat (n / 256 % 256)).toNat) ∧ cs[2]? = some (.int .u8 (UInt8.ofNat (n / 65536 % 256)).toNat) ∧ cs[3]? = some (.int .u8 (UInt8.ofNat (n / 16777216 % 256)).toNat)) :
    Sem.run Try.prog (convert 22 9 (.slice (some ⟨G, 0, none⟩) 4 cap)) v = .ok (.string ⟨(le4 n).toArray⟩) v := conv_list4 _ _ _ _ h hc
def encB (b : UInt8) : Value := .int .u8 b.toNat
theorem bytes_holds (v : World) (e : TypeId) (l : List UInt8) : Holds encB (Lib.bytesWorld v e ⟨l.toArray⟩) v.heap.size 0 l.toArray := by
  intro j hj
  have hj' : j < l.length := by simpa using hj
  refine ⟨?_, ?_⟩
  · have h := Lib.bytesWorld_cell v e ⟨l.toArray⟩ j hj
    simp only [Nat.zero_add]
    rw [h]
    simp [encB, List.getD, hj']
  · simp only [World.frozen?, Lib.bytesWorld_at_new, Lib.bytesCells]
    simp
    omega
set_option linter.unusedSimpArgs false in
set_option maxHeartbeats 3200000 in
set_option maxRecDepth 100000 in
theorem impl_FrameOf (s : ByteArray) (w : World) (hs : s.size ≤ maxLen) :
    Calls Try.prog 39 #[.string s] w fun e w' => e = .returned (.string (frameB s)) ∧ Below w.heap.size w w' := by
  unfold maxLen at hs
  by_cases hl : s.size ≤ 100000
  · have hv : frameB s = ⟨(be 4 s.size).toArray⟩ ++ ⟨(le4 (crcN s)).toArray⟩ ++ s := by unfold frameB; rw [if_pos hl]
    rw [hv]
    clear hv
    have l4 := fun n => be_length 4 n
    have m4 := fun n => le4_length n
    have hsm : (9223372036854775807 < 8 + s.size) = False := by simp; omega
    have hcl := crcN_lt s
    go_enter Try.func39, Try.ntmps39
    go_wp2_with fail
    refine (impl_checksum s _ (by unfold maxLen; omega)).mono ?_
    rintro e w1 ⟨rfl, rfl⟩
    go_wp2_with fail
    refine (iput4 (crcN s) 4 _ (by omega) (by omega) (by simp; omega)).mono ?_
    rintro e w1 ⟨rfl, hb1⟩
    have hcb := Lib.run_convert_string_bytes (P := Try.prog) w1 9 22 5 ⟨(be 4 (crcN s)).toArray⟩ Try.underlying9 Try.underlying22 Try.underlying5
    go_wp2_with fail
    have hr := AnyE.slices_Reverse Try.eRev encB (fun _ => rfl) w1.heap.size 0 (grownCap w1 4 0 5) (be 4 (crcN s)) _ (bytes_holds w1 5 (be 4 (crcN s))) (by rw [be_length]; omega)
    rw [be_length, ← le4_rev] at hr
    refine hr.mono ?_
    rintro e w2 ⟨rfl, n, hw2⟩
    have hb2 : Below w1.heap.size w1 w2 := by rw [hw2]; exact bytes_below.trans (putRow_below (Nat.le_refl _))
    have hG2 : w1.heap.size < w2.heap.size := by rw [hw2]; simp [Sort.ahead, Lib.bytesWorld_size]
    have hH2 : Holds encB w2 w1.heap.size 0 (le4 (crcN s)).toArray := by
      rw [hw2]
      refine holds_putRow encB (Sort.ahead (Lib.bytesWorld w1 5 ⟨(be 4 (crcN s)).toArray⟩) n) w1.heap.size 0 (be 4 (crcN s)).toArray _ ?_ (by simp [le4_length, be_length])
      exact bytes_holds w1 5 (be 4 (crcN s))
    clear hw2 hr hcb
    have h0 := (hH2 0 (by simp [le4_length])).1
    obtain ⟨cs, e, fr, hG, hc0⟩ := cells_of_cell? h0
    have hcs : cs[0]? = some (.int .u8 (UInt8.ofNat (crcN s % 256)).toNat) ∧ cs[1]? = some (.int .u8 (UInt8.ofNat (crcN s / 256 % 256)).toNat) ∧ cs[2]? = some (.int .u8 (UInt8.ofNat (crcN s / 65536 % 256)).toNat) ∧ cs[3]? = some (.int .u8 (UInt8.ofNat (crcN s / 16777216 % 256)).toNat) := by
      have hk := fun j (hj : j < 4) => (cell_of_obj hG j).symm.trans (hH2 j (by simpa [le4_length] using hj)).1
      exact ⟨(hk 0 (by omega)), (hk 1 (by omega)), (hk 2 (by omega)), (hk 3 (by omega))⟩
    clear hc0 h0 hH2
    have hK0 : Keeps w.heap.size w [(w1.heap.size, .cells cs e fr)] w2 := ⟨hb1.trans (hb2.mono hb1.size), by have := hb1.size; omega, fun p hp => by
      simp only [List.mem_cons, List.not_mem_nil, or_false] at hp
      rcases hp with rfl
      exact hG⟩
    clear hcl
    generalize grownCap w1 4 0 5 = cap
    clear hb2 hG2 hG
    generalize w1.heap.size = G at *
    clear hb1
    go_upto_region 5 with fail
    refine wp_region_held_drew (S := Keeps w.heap.size w [(G, .cells cs e fr)]) (by kernel_rfl) ?hSr1 (fun hHeld => ?restr1)
    case hSr1 => exact hK0.drew
    replace hK0 := hK0.drew
    generalize w2.drew = w5 at *
    refine wpAnyH_take (i := 0) (oi := ?oik58) (v := ?vk58) ?hik58 (by kernel_rfl) (by kernel_rfl) (by kernel_rfl) ?hQk58 (Or.inl ⟨?hwk58, ?hyk58⟩) (by assumption) ?restk58
    case hik58 => simp only [List.getElem?_toArray, List.getElem?_cons_succ, List.getElem?_cons_zero]; exact rfl
    case hQk58 => exact fun _ _ _ h => h
    case hwk58 => rfl
    case hyk58 => ((intro w hSw; go_simp) <;> with_reducible rfl)
    try simp only [Act.put, List.setIfInBounds_toArray, List.set_cons_zero, List.set_cons_succ]
    refine wpAnyH_take (i := 1) (oi := ?oik59) (v := ?vk59) ?hik59 (by kernel_rfl) (by kernel_rfl) (by kernel_rfl) ?hQk59 (Or.inl ⟨?hwk59, ?hyk59⟩) (by assumption) ?restk59
    case hik59 => simp only [List.getElem?_toArray, List.getElem?_cons_succ, List.getElem?_cons_zero]; exact rfl
    case hQk59 => exact fun _ _ _ h => h
    case hwk59 => rfl
    case hyk59 => ((intro w hSw; go_simp) <;> with_reducible rfl)
    try simp only [Act.put, List.setIfInBounds_toArray, List.set_cons_zero, List.set_cons_succ]
    refine wpAnyH_take (i := 3) (oi := ?oik60) (v := ?vk60) ?hik60 (by kernel_rfl) (by kernel_rfl) (by kernel_rfl) ?hQk60 (Or.inl ⟨?hwk60, ?hyk60⟩) (by assumption) ?restk60
    case hik60 => simp only [List.getElem?_toArray, List.getElem?_cons_succ, List.getElem?_cons_zero]; exact rfl
    case hQk60 => exact fun _ _ _ h => h
    case hwk60 => rfl
    case hyk60 => ((intro w hSw; go_simp) <;> with_reducible rfl)
    try simp only [Act.put, List.setIfInBounds_toArray, List.set_cons_zero, List.set_cons_succ]
    refine wpAnyH_take (i := 4) (oi := ?oik61) (v := ?vk61) ?hik61 (by kernel_rfl) (by kernel_rfl) (by kernel_rfl) ?hQk61 (Or.inl ⟨?hwk61, ?hyk61⟩) (by assumption) ?restk61
    case hik61 => simp only [List.getElem?_toArray, List.getElem?_cons_succ, List.getElem?_cons_zero]; exact rfl
    case hQk61 => exact fun _ _ _ h => h
    case hwk61 => rfl
    case hyk61 => ((intro w hSw; have hcv := conv_le4 (cap := cap) hSw.one hcs; go_simp) <;> with_reducible rfl)
    try simp only [Act.put, List.setIfInBounds_toArray, List.set_cons_zero, List.set_cons_succ]
    refine wpAnyH_take (i := 6) (oi := ?oik62) (v := ?vk62) ?hik62 (by kernel_rfl) (by kernel_rfl) (by kernel_rfl) ?hQk62 (Or.inl ⟨?hwk62, ?hyk62⟩) (by assumption) ?restk62
    case hik62 => simp only [List.getElem?_toArray, List.getElem?_cons_succ, List.getElem?_cons_zero]; exact rfl
    case hQk62 => exact fun _ _ _ h => h
    case hwk62 => rfl
    case hyk62 => ((intro w hSw; go_simp) <;> with_reducible rfl)
    try simp only [Act.put, List.setIfInBounds_toArray, List.set_cons_zero, List.set_cons_succ]
    refine wpAnyH_ready (rs := [2]) (by kernel_rfl) (by simp) ?_
    refine AllReadyH.cons (o := ?or63_2) ?hor63_2 (fun K hK => ?stepr63_2) (AllReadyH.nil)
    case hor63_2 => simp only [List.getElem?_toArray, List.getElem?_cons_succ, List.getElem?_cons_zero]; exact rfl
    case stepr63_2 =>
      go_simp
      refine (iput4 s.size 4 w5 (by omega) (by omega) (by simp; omega)).mono ?_
      rintro e v65 ⟨rfl, hb66⟩
      have hk67 := hK0.upto (Nat.le_refl _) hb66
      refine hK.out _ _ ?hSq64 (fun hHeld => ?restq64)
      case hSq64 => exact hk67
      clear hK K hb66 hK0
      try simp only [Act.put, List.setIfInBounds_toArray, List.set_cons_zero, List.set_cons_succ]
      refine wpAnyH_take (i := 5) (oi := ?oik68) (v := ?vk68) ?hik68 (by kernel_rfl) (by kernel_rfl) (by kernel_rfl) ?hQk68 (Or.inl ⟨?hwk68, ?hyk68⟩) (by assumption) ?restk68
      case hik68 => simp only [List.getElem?_toArray, List.getElem?_cons_succ, List.getElem?_cons_zero]; exact rfl
      case hQk68 => exact fun _ _ _ h => h
      case hwk68 => rfl
      case hyk68 => ((intro w hSw; go_simp) <;> with_reducible rfl)
      try simp only [Act.put, List.setIfInBounds_toArray, List.set_cons_zero, List.set_cons_succ]
      refine wpAnyH_take (i := 7) (oi := ?oik69) (v := ?vk69) ?hik69 (by kernel_rfl) (by kernel_rfl) (by kernel_rfl) ?hQk69 (Or.inl ⟨?hwk69, ?hyk69⟩) (by assumption) ?restk69
      case hik69 => simp only [List.getElem?_toArray, List.getElem?_cons_succ, List.getElem?_cons_zero]; exact rfl
      case hQk69 => exact fun _ _ _ h => h
      case hwk69 => rfl
      case hyk69 => ((intro w hSw; go_simp) <;> with_reducible rfl)
      try simp only [Act.put, List.setIfInBounds_toArray, List.set_cons_zero, List.set_cons_succ]
      refine wpAnyH_take (i := 8) (oi := ?oik70) (v := ?vk70) ?hik70 (by kernel_rfl) (by kernel_rfl) (by kernel_rfl) ?hQk70 (Or.inl ⟨?hwk70, ?hyk70⟩) (by assumption) ?restk70
      case hik70 => simp only [List.getElem?_toArray, List.getElem?_cons_succ, List.getElem?_cons_zero]; exact rfl
      case hQk70 => exact fun _ _ _ h => h
      case hwk70 => rfl
      case hyk70 => ((intro w hSw; go_simp) <;> with_reducible rfl)
      try simp only [Act.put, List.setIfInBounds_toArray, List.set_cons_zero, List.set_cons_succ]
      refine wpAnyH_done (by kernel_rfl) ?_ _
      go_wp2_with fail
      go_ret
      exact ⟨rfl, (hk67).bel⟩
  · have hv : frameB s = ⟨#[]⟩ := by unfold frameB; rw [if_neg hl]
    rw [hv]
    clear hv
    go_enter Try.func39, Try.ntmps39
    go_wp2_with fail
    go_ret
    exact ⟨rfl, Below.refl _ _⟩
end Go.Proofs.Yteikflfchkmbnaa
