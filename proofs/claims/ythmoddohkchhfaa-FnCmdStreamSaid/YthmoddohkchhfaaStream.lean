/-
  A text read piece by piece, whatever reading one piece comes to.
-/
import Derived.Test.YthmoddohkchhfaaFrames
import Derived.Test.YthmoddohkchhfaaOwn
import Derived.Test.YthmoddohkchhfaaListRec
import Derived.Deep.Cut
import Derived.Deep.CutBlock
import Derived.Deep.RegionWith
import Derived.Deep.DeepCutAuto
namespace Go.Proofs.Ythmoddohkchhfaa
open Go.RowKit Wire

/-- as many commands as are read of a text -/
def nfr (s : ByteArray) : Nat := (min s.size 3000 + 14) / 15
def strLen : Value → Nat
  | .string s => s.size
  | _ => 0
theorem cmd_info : (Try.prog.info? 25).map (fun i => (i.zero, i.size, i.bytes)) = some (some (.agg #[.int .i64 0, .int .i64 0, .int .i64 0, .int .i64 0, .int .i64 0, .int .i64 0, .int .i64 0, .int .i64 0]), 8, 64) := by kernel_rfl
set_option maxHeartbeats 1600000 in
set_option maxRecDepth 100000 in
theorem impl_CmdsOf_F (F : ByteArray → Nat → Int) (H : ∀ t w, t.size ≤ 15 → Calls Try.prog 20 #[.string t] w fun e w' => e = .returned (.agg #[.int .i64 (F t 0), .int .i64 (F t 1), .int .i64 (F t 2), .int .i64 (F t 3), .int .i64 (F t 4), .int .i64 (F t 5), .int .i64 (F t 6), .int .i64 (F t 7)]) ∧ Below w.heap.size w w')
    (s : ByteArray) (w : World) (hm : s.size ≤ 1048576) :
    Calls Try.prog 23 #[.string s] w fun e w' => ∃ v, e = .returned v ∧ w'.ownsRow w.heap.size 25 8 v (nfr s) (nums (rowsOf F s 15 (nfr s))) ∧ Below w.heap.size w w' := by
  obtain ⟨i0, hi, hz0, hz1, hz2⟩ := info_parts cmd_info
  go_enter Try.func23, Try.ntmps23
  go_upto_region 1 with fail
  go_cut [0] (fun v wx => v = .string (s.extract 0 (min s.size 3000)) ∧ wx = w)
  case first =>
    go_wp2_with fail
    all_goals
      go_meet
      exact ⟨by first | (congr 2; omega) | rw [Nat.min_eq_left (by omega), ext_all], rfl⟩
  case rest =>
    obtain ⟨rfl, rfl⟩ := hcut
    have hs0 : (s.extract 0 (min s.size 3000)).size ≤ min s.size 3000 ∧ min s.size 3000 ≤ (s.extract 0 (min s.size 3000)).size := by rw [ByteArray.size_extract]; omega
    have hfr : ∀ k, 15 * k < min s.size 3000 → frame (s.extract 0 (min s.size 3000)) 15 k = frame s 15 k := fun k hk => frame_front s 15 _ k (by omega)
    have hn : nfr s * 15 ≤ min s.size 3000 + 14 ∧ min s.size 3000 ≤ nfr s * 15 := by unfold nfr; omega
    generalize s.extract 0 (min s.size 3000) = s0 at *
    go_wp2_with fail
    go_loopw [0, 3] (fun sv v wr => ∃ k : Nat, k ≤ nfr s ∧ sv = .string (s0.extract (15 * k) s0.size) ∧ wr.ownsRow wc.heap.size 25 8 v k (nums (rowsOf F s 15 k)) ∧ Below wc.heap.size wc wr) (fun sv _ _ => strLen sv)
    case atStart => exact ⟨0, Nat.zero_le _, by simp, World.ownsRow_nil _ _ _ _, Below.refl _ _⟩
    case round =>
      obtain ⟨k, hk, rfl, hown, hb⟩ := hrel
      by_cases hlt : 15 * k < s0.size
      · have hc : (s0.extract (15 * k) s0.size).size + 15 * k ≤ s0.size ∧ s0.size ≤ (s0.extract (15 * k) s0.size).size + 15 * k := by rw [ByteArray.size_extract]; omega
        have hfrk : (s0.extract (15 * k) s0.size).extract 0 (min (s0.extract (15 * k) s0.size).size 15) = frame s 15 k := (rest_front s0 15 k).trans (hfr k (by omega))
        have hnx := fun m hm => rest_next s0 15 k m hm
        have hsn : (s0.extract (15 * (k + 1)) s0.size).size < (s0.extract (15 * k) s0.size).size := by rw [ByteArray.size_extract, ByteArray.size_extract]; omega
        generalize s0.extract (15 * k) s0.size = c at *
        have hpos : decide (0 < (c.size : Int)) = true := decide_eq_true (by omega)
        obtain ⟨A1, c1, rfl, _, _⟩ := own_slice hown
        go_wp2_with fail
        all_goals
          refine (H _ _ (by first | omega | (rw [ByteArray.size_extract]; omega))).mono ?_
          first
            | rw [show c.extract 0 15 = frame s 15 k from by rw [← hfrk]; congr 1; omega]
            | (have e2 : c = frame s 15 k := by rw [← hfrk, Nat.min_eq_left (by omega), ext_all]
               have eF : ∀ j, F c j = F (frame s 15 k) j := fun j => by rw [← e2]
               simp only [eF]
               clear eF e2)
          rintro e w1 ⟨rfl, hb1⟩
          have hown1 := own_below hown hb1
          have hbw1 : Below wc.heap.size wc w1 := hb.trans (hb1.mono hb.size)
          clear hown hb hb1
          go_wp2_with (at_builtin; refine wpList_append_own_at _ rfl _ _ 32 rfl wc.heap.size 25 i0 _ 8 64 Try.underlying32 hi hz0 hz1 hz2 rfl (by decide) _ _ _ rfl (hown1.alloc _) ⟨w1.heap.size, 0, none⟩ 1 1 (nums [F (frame s 15 k) 0, F (frame s 15 k) 1, F (frame s 15 k) 2, F (frame s 15 k) 3, F (frame s 15 k) 4, F (frame s 15 k) 5, F (frame s 15 k) 6, F (frame s 15 k) 7]) rfl rfl ?c1 ?c2 ?c3 ?c4 ?c5 ?_)
          case c1 => exact World.news_of_block (heap_alloc_new w1 _)
          case c2 => exact nums_one _
          case c3 => unfold maxLen; omega
          case c4 => omega
          case c5 => have := hbw1.size; simp; omega
          intro v' w2 hown2 hgrow2 _ hat2
          rw [← nums_append] at hown2
          have hbw2 : Below wc.heap.size wc w2 := (hbw1.alloc hbw1.size _).grown hgrow2 (by have := hbw1.size; simp; omega) (fun q hq => (hown1.lt q hq).1)
          obtain ⟨A2, c2, rfl, _, _⟩ := own_slice hown2
          clear hgrow2 hown1 hbw1 hat2
          go_wp2_with fail
          go_roundw
          case rel => exact ⟨k + 1, by omega, by first | exact congrArg Value.string (hnx 15 (by omega)) | (rw [← hnx c.size (by omega), ext_nil (Nat.le_refl _)]; rfl), hown2, hbw2⟩
          case measure =>
            first
              | (show (c.extract 15 c.size).size < c.size; rw [ByteArray.size_extract]; omega)
              | (show 0 < c.size; omega)
      · obtain rfl : k = nfr s := by omega
        rw [ext_nil (s := s0) (a := 15 * nfr s) (by omega)]
        obtain ⟨A1, c1, rfl, _, _⟩ := own_slice hown
        go_wp2_with fail
        go_ret
        exact ⟨_, rfl, hown, hb⟩
set_option maxHeartbeats 1600000 in
set_option maxRecDepth 100000 in
theorem spec_CmdsOf_F (F : ByteArray → Nat → Int) (H : ∀ t w, t.size ≤ 15 → Calls Try.prog 66 #[.string t] w fun e w' => e = .returned (.agg #[.int .i64 (F t 0), .int .i64 (F t 1), .int .i64 (F t 2), .int .i64 (F t 3), .int .i64 (F t 4), .int .i64 (F t 5), .int .i64 (F t 6), .int .i64 (F t 7)]) ∧ Below w.heap.size w w')
    (s : ByteArray) (w : World) (hm : s.size ≤ 1048576) :
    Calls Try.prog 22 #[.string s] w fun e w' => ∃ v, e = .returned v ∧ w'.ownsRow w.heap.size 25 8 v (nfr s) (nums (rowsOf F s 15 (nfr s))) ∧ Below w.heap.size w w' := by
  obtain ⟨i0, hi, hz0, hz1, hz2⟩ := info_parts cmd_info
  have hn : nfr s * 15 ≤ min s.size 3000 + 14 ∧ min s.size 3000 ≤ nfr s * 15 := by unfold nfr; omega
  go_enter Try.func22, Try.ntmps22
  go_wp2_with fail
  have hB : (w.alloc (.cells #[] 25)).ownsRow w.heap.size 25 8 (.slice (some ⟨w.heap.size, 0, none⟩) 0 0) 0 (nums []) := ⟨rfl, .inr ⟨w.heap.size, 0, #[], rfl, Nat.le_refl _, heap_alloc_new w _, Nat.le_refl _, Nat.zero_le _, rfl, rfl⟩⟩
  go_loopw [3, 4] (fun v i wr => ∃ k p : Nat, (p ≤ 15 * k ∧ 15 * k ≤ p) ∧ k ≤ nfr s ∧ i = .int .i64 (p : Int) ∧ wr.ownsRow w.heap.size 25 8 v k (nums (rowsOf F s 15 k)) ∧ Below w.heap.size w wr) (fun _ i _ => 4000 - (intOf i).toNat)
  case atStart => exact ⟨0, 0, by omega, Nat.zero_le _, rfl, hB, (Below.refl _ _).alloc (Nat.le_refl _) _⟩
  case round =>
    obtain ⟨k, p, hp, hk, rfl, hown, hb⟩ := hrel
    obtain ⟨A1, c1, rfl, _, _⟩ := own_slice hown
    by_cases hlt : p < min s.size 3000
    · have t1 : decide ((p : Int) < (s.size : Int)) = true := decide_eq_true (by omega)
      have t2 : decide ((p : Int) < 3000) = true := decide_eq_true (by omega)
      go_wp2_with fail
      all_goals
        refine (H _ _ (by rw [ByteArray.size_extract]; omega)).mono ?_
        first
          | rw [show s.extract p ((p : Int) + 15).toNat = frame s 15 k from by unfold frame; congr 1 <;> omega]
          | rw [show s.extract p s.size = frame s 15 k from by unfold frame; congr 1 <;> omega]
        rintro e w1 ⟨rfl, hb1⟩
        have hown1 := own_below hown hb1
        have hbw1 : Below w.heap.size w w1 := hb.trans (hb1.mono hb.size)
        clear hown hb hb1 hB
        go_wp2_with (at_builtin; refine wpList_append_own_at _ rfl _ _ 32 rfl w.heap.size 25 i0 _ 8 64 Try.underlying32 hi hz0 hz1 hz2 rfl (by decide) _ _ _ rfl (hown1.alloc _) ⟨w1.heap.size, 0, none⟩ 1 1 (nums [F (frame s 15 k) 0, F (frame s 15 k) 1, F (frame s 15 k) 2, F (frame s 15 k) 3, F (frame s 15 k) 4, F (frame s 15 k) 5, F (frame s 15 k) 6, F (frame s 15 k) 7]) rfl rfl ?c1 ?c2 ?c3 ?c4 ?c5 ?_)
        case c1 => exact World.news_of_block (heap_alloc_new w1 _)
        case c2 => exact nums_one _
        case c3 => unfold maxLen; omega
        case c4 => omega
        case c5 => have := hbw1.size; simp; omega
        intro v' w2 hown2 hgrow2 _ hat2
        rw [← nums_append] at hown2
        have hbw2 : Below w.heap.size w w2 := (hbw1.alloc hbw1.size _).grown hgrow2 (by have := hbw1.size; simp; omega) (fun q hq => (hown1.lt q hq).1)
        obtain ⟨A2, c2, rfl, _, _⟩ := own_slice hown2
        clear hgrow2 hown1 hbw1 hat2
        go_wp2_with fail
        go_roundw
        case rel => exact ⟨k + 1, p + 15, by omega, by omega, by go_num, hown2, hbw2⟩
        case measure => simp [intOf]; omega
    · by_cases h1 : p < s.size
      · have t1 : decide ((p : Int) < (s.size : Int)) = true := decide_eq_true (by omega)
        have t2 : decide ((p : Int) < 3000) = false := decide_eq_false (by omega)
        obtain rfl : k = nfr s := by omega
        go_wp2_with fail
        go_ret
        exact ⟨_, rfl, hown, hb⟩
      · have t1 : decide ((p : Int) < (s.size : Int)) = false := decide_eq_false (by omega)
        obtain rfl : k = nfr s := by omega
        go_wp2_with fail
        go_ret
        exact ⟨_, rfl, hown, hb⟩
/-- what reading a tape of a text's pieces comes to: all pieces are right, or where the first one lies that is not -/
def TapeRel (ok : ByteArray → Bool) (s : ByteArray) (n : Nat) (z : Int) : Prop :=
  (z = -1 ∧ s.size ≤ 21 * n ∧ 21 * n ≤ s.size + 20 ∧ n ≤ 1000 ∧ ∀ j, j < n → ok (frame s 21 j) = true) ∨
  (∃ K : Nat, z = 21 * (K : Int) ∧ n = 0 ∧ 21 * K < s.size ∧ K ≤ 1000 ∧ (∀ j, j < K → ok (frame s 21 j) = true) ∧ (ok (frame s 21 K) = false ∨ K = 1000))
theorem TapeRel.one {ok : ByteArray → Bool} {s : ByteArray} {n m : Nat} {z y : Int} (h : TapeRel ok s n z) (k : TapeRel ok s m y) : n = m ∧ z = y := by
  rcases h with ⟨h0, h1, h2, h3, h4⟩ | ⟨K, h0, h1, h2, h3, h4, h5⟩ <;> rcases k with ⟨k0, k1, k2, k3, k4⟩ | ⟨L, k0, k1, k2, k3, k4, k5⟩
  · omega
  · exfalso
    rcases k5 with k5 | k5
    · rw [h4 L (by omega)] at k5; cases k5
    · omega
  · exfalso
    rcases h5 with h5 | h5
    · rw [k4 K (by omega)] at h5; cases h5
    · omega
  · rcases Nat.lt_trichotomy K L with hKL | hKL | hKL
    · exfalso
      rcases h5 with h5 | h5
      · rw [k4 K hKL] at h5; cases h5
      · omega
    · omega
    · exfalso
      rcases k5 with k5 | k5
      · rw [h4 L hKL] at k5; cases k5
      · omega
end Go.Proofs.Ythmoddohkchhfaa
