/-
  Slices of texts that a call owns; the marks that a law writes into them, and looks for later.
-/
import Derived.Test.YtfhjdelokhibhaaOwn
import Derived.Test.YtfhjdelokhibhaaMark
import Derived.Test.YtfhjdelokhibhaaNum
import Derived.Deep.Cut
import Derived.Deep.RegionHeld3
namespace Go.Proofs.Ytfhjdelokhibhaa
open Go.RowKit Wire

/-- these texts lie in the cells of a slice, in a block below B -/
def SRow (w : World) (B : Nat) (A : Option Addr) (n : Nat) (l : List ByteArray) : Prop :=
  0 < n → ∃ b, b < B ∧ A = some ⟨b, 0, none⟩ ∧ ∀ j, j < n → w.cell? ⟨b, j, none⟩ = some (.string (l.getD j ⟨#[]⟩))
theorem SRow.below {w w' : World} {B B' : Nat} {A : Option Addr} {n : Nat} {l : List ByteArray} (h : SRow w B A n l) (hB : B ≤ B') (hb : Below B' w w') : SRow w' B A n l := fun hn => by
  obtain ⟨b, h1, h2, h3⟩ := h hn
  exact ⟨b, h1, h2, fun j hj => (hb.cell (p := ⟨b, j, none⟩) (Nat.lt_of_lt_of_le h1 hB)).trans (h3 j hj)⟩
theorem SRow.more {w : World} {B B' : Nat} {A : Option Addr} {n : Nat} {l : List ByteArray} (h : SRow w B A n l) (hB : B ≤ B') : SRow w B' A n l := fun hn => by
  obtain ⟨b, h1, h2, h3⟩ := h hn
  exact ⟨b, Nat.lt_of_lt_of_le h1 hB, h2, h3⟩
theorem SRow.grown {w w' : World} {B : Nat} {r : Option Nat} {A : Option Addr} {n : Nat} {l : List ByteArray} (h : SRow w B A n l) (hg : w.grownBy w' r) (hB : B ≤ w.heap.size) (hr : ∀ q, r = some q → B ≤ q) : SRow w' B A n l := fun hn => by
  obtain ⟨b, h1, h2, h3⟩ := h hn
  have hb := hg.block b (by omega) (fun e => by have := hr b e.symm; omega)
  exact ⟨b, h1, h2, fun j hj => (World.cell?_of_block (w := w) (a := ⟨b, j, none⟩) hb).trans (h3 j hj)⟩
def stl (l : List ByteArray) : List Value := l.map Value.string
theorem SRow.of_own {w : World} {base n c : Nat} {e : TypeId} {A : Option Addr} {l : List ByteArray} (h : w.ownsRow base e 1 (.slice A n c) n (stl l)) : SRow w w.heap.size A n l := fun hn => by
  obtain ⟨g, cap, hv, hb, hlt⟩ := h.form hn
  injection hv with hA _ _
  subst hA
  refine ⟨g, hlt, rfl, fun j hj => ?_⟩
  have hl : l.length = n := by simpa [stl] using h.1
  rw [h.cellAt j (by omega)]
  have hj2 : j < l.length := by omega
  simp [stl, List.getD_eq_getElem?_getD, List.getElem?_eq_getElem hj2]
theorem grown_below {w w1 w2 : World} {r : Option Nat} (h : w.grownBy w1 r) (hb : Below w1.heap.size w1 w2) : w.grownBy w2 r :=
  ⟨hb.os.trans h.os, hb.tape.trans h.tape, hb.output.trans h.output, Nat.le_trans h.size hb.size, fun k hk hne => (hb.block k (Nat.lt_of_lt_of_le hk h.size)).trans (h.block k hk hne)⟩
/-- the digits of a number, ahead of others -/
def mlp : Nat → Nat → List UInt8 → List UInt8
  | 0, _, l => l
  | f + 1, k, l => if k = 0 then l else mlp f (k / 10) (UInt8.ofNat (48 + k % 10) :: l)
/-- the text of a mark -/
def mtx (k : Nat) : ByteArray := ⟨(109 :: mlp k k []).toArray⟩
theorem mlp_more : ∀ (f k : Nat) (l : List UInt8), k ≤ f → mlp (f + 1) k l = mlp f k l
  | 0, k, l, h => by
    obtain rfl : k = 0 := by omega
    rfl
  | f + 1, k, l, h => by
    show (if k = 0 then l else mlp (f + 1) (k / 10) (UInt8.ofNat (48 + k % 10) :: l)) = (if k = 0 then l else mlp f (k / 10) (UInt8.ofNat (48 + k % 10) :: l))
    by_cases hk : k = 0
    · rw [if_pos hk, if_pos hk]
    · rw [if_neg hk, if_neg hk, mlp_more f (k / 10) _ (by omega)]
theorem mlp_step {k : Nat} (f : Nat) (l : List UInt8) (hk : k ≠ 0) (hf : k ≤ f) : mlp f k l = mlp f (k / 10) (UInt8.ofNat (48 + k % 10) :: l) := by
  obtain ⟨f, rfl⟩ : ∃ g, f = g + 1 := ⟨f - 1, by omega⟩
  rw [mlp_more f (k / 10) _ (by omega), mlp, if_neg hk]
theorem conv_one (w : World) (b : UInt8) :
    Sem.run Try.prog (convert 95 9 (.slice (some ⟨w.heap.size, 0, none⟩) 1 1)) (w.alloc (.cells #[.int .u8 b.toNat] 5)) = .ok (.string ⟨#[b]⟩) (w.alloc (.cells #[.int .u8 b.toNat] 5)) := by
  have h := run_convert_bytes_back (P := Try.prog) (w.alloc (.cells #[.int .u8 b.toNat] 5)) 95 9 5 ⟨w.heap.size, 0, none⟩ 1 [b] Try.underlying95 Try.underlying5 Try.underlying9 ?_
  · exact h
  · intro j hj
    obtain rfl : j = 0 := by simp at hj; omega
    simp [Addr.add, go_sem]
theorem ba_cons (b : UInt8) (l : List UInt8) : (⟨#[b]⟩ : ByteArray) ++ ⟨l.toArray⟩ = ⟨(b :: l).toArray⟩ := by
  apply ByteArray.ext
  simp
set_option maxHeartbeats 400000 in
set_option maxRecDepth 100000 in
theorem markText_any (K : Nat) (w : World) (hK : 1 ≤ K ∧ K ≤ 1048577) :
    Calls Try.prog 74 #[.int .i64 (K : Int)] w fun e w' => e = .returned (.string (mtx K)) ∧ Below w.heap.size w w' := by
  have hK0 : 0 < K := by omega
  go_enter Try.func74, Try.ntmps74
  go_wp2_with fail
  go_loopw [0, 3] (fun kv ov wr => ∃ (k : Nat) (l : List UInt8), k + l.length ≤ K ∧ kv = .int .i64 (k : Int) ∧ ov = .string ⟨l.toArray⟩ ∧ Hid (mlp K k l = mlp K K []) ∧ Below w.heap.size w wr) (fun kv _ _ => (intOf kv).toNat)
  case atStart => exact ⟨K, [], by simp, rfl, rfl, rfl, Below.refl _ _⟩
  case round =>
    obtain ⟨k, l, hkl, rfl, rfl, hm, hb⟩ := hrel
    by_cases hk : k = 0
    · subst hk
      have hm2 : Hid (l = mlp K K []) := by
        have h := hm.out
        rw [show K = (K - 1) + 1 by omega, mlp, if_pos rfl] at h
        rw [show K = (K - 1) + 1 by omega]
        exact h
      have hl : l.length ≤ 1048577 := by omega
      go_wp2_with fail
      go_ret
      refine ⟨?_, hb⟩
      rw [mtx, ← hm2.out, ← ba_cons]
      rfl
    · obtain ⟨b, hst, hv⟩ : ∃ b : UInt8, Hid (mlp K k l = mlp K (k / 10) (b :: l)) ∧ (b.toNat : Int) = 48 + (k : Int) % 10 :=
        ⟨UInt8.ofNat (48 + k % 10), mlp_step K l hk (by omega), by rw [UInt8.toNat_ofNat']; omega⟩
      have hc := conv_one wr b
      rw [hv] at hc
      have hcat := Lib.hid (ba_cons b l)
      clear hv
      go_wp2_with fail
      go_roundw
      case rel => exact ⟨k / 10, b :: l, by simp; omega, by go_num, by rw [← hcat.out], Lib.hid (hst.out.symm.trans hm.out), hb.alloc hb.size _⟩
      case measure => simp [intOf]; omega
/-- the marks 1 to N in the first N cells -/
def markS (f : Nat → Value) (N j : Nat) : Value := if j < N then .string (mtx (j + 1)) else f j
theorem rowIs_markS {w : World} {g m k : Nat} {t : TypeId} {f : Nat → Value} (h : w.rowIs g t m (markS f k)) : (w.setCell ⟨g, k, none⟩ (.string (mtx (k + 1)))).rowIs g t m (markS f (k + 1)) := by
  refine (h.set _ _).congr fun j _ => ?_
  simp only [markS]
  rcases Nat.lt_trichotomy j k with hj | rfl | hj
  · rw [if_neg (by omega), if_pos hj, if_pos (by omega)]
  · rw [if_pos rfl, if_pos (by omega)]
  · rw [if_neg (by omega), if_neg (by omega), if_neg (by omega)]
set_option maxHeartbeats 400000 in
set_option maxRecDepth 100000 in
theorem markStringS_own (g n cap M : Nat) (f : Nat → Value) (w : World) (hr : w.rowIs g 9 M f) (hn : n ≤ M) (hb : n ≤ 1048576) :
    Calls Try.prog 38 #[.slice (some ⟨g, 0, none⟩) n cap, .int .i64 1] w fun e w' => e = .returned (.int .i64 ((n : Int) + 1)) ∧ w'.rowIs g 9 M (markS f n) ∧ w.grownBy w' (some g) := by
  go_enter Try.func38, Try.ntmps38
  go_wp2_with fail
  go_loopw [1, 5] (fun kv i wr => ∃ k : Nat, k ≤ n ∧ i = .int .i64 (k : Int) ∧ kv = .int .i64 ((k : Int) + 1) ∧ wr.rowIs g 9 M (markS f k) ∧ w.grownBy wr (some g)) (fun _ i _ => n - (intOf i).toNat)
  case atStart => exact ⟨0, Nat.zero_le _, rfl, rfl, hr.congr (fun j _ => by simp [markS]), World.grownBy.refl _ _⟩
  case round =>
    obtain ⟨k, hk, rfl, rfl, hrow, hg⟩ := hrel
    by_cases hlt : k < n
    · go_wp2_with fail
      refine (markText_any (k + 1) wr (by omega)).mono ?_
      rintro e w1 ⟨rfl, hb1⟩
      have hrow1 := hrow.of_block (hb1.block g hrow.lt)
      have hg1 := grown_below hg hb1
      have z := hrow1.frozen
      have c0 : w1.cell? ⟨g, k, none⟩ = _ := hrow1.cell (i := k) (by omega)
      have HR := Lib.hid (rowIs_markS hrow1)
      have HG := Lib.hid (mark_set hg1 k (.string (mtx (k + 1))))
      clear hrow hg hb1 hrow1 hg1
      go_wp2_with fail
      go_roundw
      case rel => exact ⟨k + 1, by omega, by go_num, by go_num, HR.out, HG.out⟩
      case measure => simp [intOf]; omega
    · obtain rfl : k = n := by omega
      go_wp2_with fail
      go_ret
      exact ⟨rfl, hrow, hg⟩
set_option linter.unusedSimpArgs false in
set_option maxHeartbeats 1600000 in
set_option maxRecDepth 100000 in
theorem heldStringS_own (g n cap M : Nat) (f : Nat → Value) (w : World) (hr : w.rowIs g 9 M (markS f n)) (hn : n ≤ M) (hb : n ≤ 1048576) :
    Calls Try.prog 39 #[.slice (some ⟨g, 0, none⟩) n cap, .int .i64 1] w fun e w' => e = .returned (.int .i64 ((n : Int) + 1)) ∧ Below w.heap.size w w' := by
  go_enter Try.func39, Try.ntmps39
  go_wp2_with fail
  go_loopw [1, 5] (fun kv i wr => ∃ k : Nat, k ≤ n ∧ i = .int .i64 (k : Int) ∧ kv = .int .i64 ((k : Int) + 1) ∧ Below w.heap.size w wr) (fun _ i _ => n - (intOf i).toNat)
  case atStart => exact ⟨0, Nat.zero_le _, rfl, rfl, Below.refl _ _⟩
  case round =>
    obtain ⟨k, hk, rfl, rfl, hbel⟩ := hrel
    by_cases hlt : k < n
    · have hrow := hr.of_block (hbel.block g hr.lt)
      have hc : wr.cell? ⟨g, k, none⟩ = some (.string (mtx (k + 1))) := by rw [hrow.cell (i := k) (by omega), markS, if_pos hlt]
      have hg := hrow.lt
      have y1 : (0 ≤ (k : Int) ∧ (k : Int) < (n : Int)) = True := by simp; omega
      clear hr hrow
      go_upto_region 4 with fail
      refine wp_region_held_drew (S := (fun w' => Below wr.heap.size wr w' ∧ w'.cell? ⟨g, k, none⟩ = some (.string (mtx (k + 1))))) (by kernel_rfl) ?hSq1xs (fun hHeld => ?restq1xs)
      case hSq1xs => (first | exact ⟨(Below.refl _ _).drew, hc⟩ | exact hHeld | exact ⟨hHeld.1.trans (hb'.mono hHeld.1.size), (hb'.cell (p := ⟨g, k, none⟩) (Nat.lt_of_lt_of_le hg hHeld.1.size)).trans hHeld.2⟩)
      refine wpAnyH_take (i := 0) (oi := ?oiq1x1) (v := ?vq1x1) ?hiq1x1 (by kernel_rfl) (by kernel_rfl) (by kernel_rfl) ?hQq1x1 (Or.inl ⟨?hwq1x1, ?hyq1x1⟩) (by assumption) ?restq1x1
      case hiq1x1 => simp only [List.getElem?_toArray, List.getElem?_cons_succ, List.getElem?_cons_zero]; exact rfl
      case hQq1x1 => exact fun _ _ _ h => h
      case hwq1x1 => rfl
      case hyq1x1 => ((intro w hSw; (try dsimp only at hSw); go_simp) <;> with_reducible rfl)
      try simp only [Act.put, List.setIfInBounds_toArray, List.set_cons_zero, List.set_cons_succ]
      refine wpAnyH_take (i := 1) (oi := ?oiq1x2) (v := ?vq1x2) ?hiq1x2 (by kernel_rfl) (by kernel_rfl) (by kernel_rfl) ?hQq1x2 (Or.inl ⟨?hwq1x2, ?hyq1x2⟩) (by assumption) ?restq1x2
      case hiq1x2 => simp only [List.getElem?_toArray, List.getElem?_cons_succ, List.getElem?_cons_zero]; exact rfl
      case hQq1x2 => exact fun _ _ _ h => h
      case hwq1x2 => rfl
      case hyq1x2 => ((intro w hSw; (try dsimp only at hSw); go_simp) <;> with_reducible rfl)
      try simp only [Act.put, List.setIfInBounds_toArray, List.set_cons_zero, List.set_cons_succ]
      refine wpAnyH_take (i := 2) (oi := ?oiq1x3) (v := ?vq1x3) ?hiq1x3 (by kernel_rfl) (by kernel_rfl) (by kernel_rfl) ?hQq1x3 (Or.inl ⟨?hwq1x3, ?hyq1x3⟩) (by assumption) ?restq1x3
      case hiq1x3 => simp only [List.getElem?_toArray, List.getElem?_cons_succ, List.getElem?_cons_zero]; exact rfl
      case hQq1x3 => exact fun _ _ _ h => h
      case hwq1x3 => rfl
      case hyq1x3 => ((intro w hSw; (try dsimp only at hSw); go_simp) <;> with_reducible rfl)
      try simp only [Act.put, List.setIfInBounds_toArray, List.set_cons_zero, List.set_cons_succ]
      refine wpAnyH_take (i := 3) (oi := ?oiq1x4) (v := ?vq1x4) ?hiq1x4 (by kernel_rfl) (by kernel_rfl) (by kernel_rfl) ?hQq1x4 (Or.inl ⟨?hwq1x4, ?hyq1x4⟩) (by assumption) ?restq1x4
      case hiq1x4 => simp only [List.getElem?_toArray, List.getElem?_cons_succ, List.getElem?_cons_zero]; exact rfl
      case hQq1x4 => exact fun _ _ _ h => h
      case hwq1x4 => rfl
      case hyq1x4 => ((intro w hSw; (try dsimp only at hSw); go_simp) <;> with_reducible rfl)
      try simp only [Act.put, List.setIfInBounds_toArray, List.set_cons_zero, List.set_cons_succ]
      refine wpAnyH_take (i := 4) (oi := ?oiq1x5) (v := ?vq1x5) ?hiq1x5 (by kernel_rfl) (by kernel_rfl) (by kernel_rfl) ?hQq1x5 (Or.inl ⟨?hwq1x5, ?hyq1x5⟩) (by assumption) ?restq1x5
      case hiq1x5 => simp only [List.getElem?_toArray, List.getElem?_cons_succ, List.getElem?_cons_zero]; exact rfl
      case hQq1x5 => exact fun _ _ _ h => h
      case hwq1x5 => rfl
      case hyq1x5 => ((intro w hSw; (try dsimp only at hSw); go_simp) <;> with_reducible rfl)
      try simp only [Act.put, List.setIfInBounds_toArray, List.set_cons_zero, List.set_cons_succ]
      refine wpAnyH_ready (rs := [5]) (by kernel_rfl) (by simp) ?_
      refine AllReadyH.cons (o := ?oq1x6) ?hoq1x6 (fun K hK => ?stepq1x6) ?moreq1x6
      case hoq1x6 => simp only [List.getElem?_toArray, List.getElem?_cons_succ, List.getElem?_cons_zero]; exact rfl
      case moreq1x6 => exact AllReadyH.nil
      go_simp
      (go_at_call 74; refine (markText_any (k + 1) _ (by omega)).mono ?_; rintro e w' ⟨rfl, hb'⟩)
      refine hK.out _ _ ?hSq1x6 (fun hHeld => ?restq1x6)
      case hSq1x6 => (first | exact ⟨(Below.refl _ _).drew, hc⟩ | exact hHeld | exact ⟨hHeld.1.trans (hb'.mono hHeld.1.size), (hb'.cell (p := ⟨g, k, none⟩) (Nat.lt_of_lt_of_le hg hHeld.1.size)).trans hHeld.2⟩)
      clear hK K
      try simp only [Act.put, List.setIfInBounds_toArray, List.set_cons_zero, List.set_cons_succ]
      refine wpAnyH_take (i := 6) (oi := ?oiq1x7) (v := ?vq1x7) ?hiq1x7 (by kernel_rfl) (by kernel_rfl) (by kernel_rfl) ?hQq1x7 (Or.inl ⟨?hwq1x7, ?hyq1x7⟩) (by assumption) ?restq1x7
      case hiq1x7 => simp only [List.getElem?_toArray, List.getElem?_cons_succ, List.getElem?_cons_zero]; exact rfl
      case hQq1x7 => exact fun _ _ _ h => h
      case hwq1x7 => rfl
      case hyq1x7 => ((intro w hSw; (try dsimp only at hSw); go_simp) <;> with_reducible rfl)
      try simp only [Act.put, List.setIfInBounds_toArray, List.set_cons_zero, List.set_cons_succ]
      refine wpAnyH_done (by kernel_rfl) ?_ _
      have hbz := hbel.trans (hHeld.1.mono hbel.size)
      clear hbel hHeld
      go_wp2_with fail
      go_roundw
      case rel => exact ⟨k + 1, by omega, by go_num, by go_num, hbz⟩
      case measure => simp [intOf]; omega
    · obtain rfl : k = n := by omega
      go_wp2_with fail
      go_ret
      exact ⟨rfl, hbel⟩
end Go.Proofs.Ytfhjdelokhibhaa
