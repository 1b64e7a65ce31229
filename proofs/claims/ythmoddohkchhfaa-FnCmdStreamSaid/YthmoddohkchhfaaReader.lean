/-
  The reader that fails by a panic, and the functions that read one command or one record with it.
-/
import Derived.Test.YthmoddohkchhfaaRec
import Derived.Defers
import Derived.Recover
namespace Go.Proofs.Ythmoddohkchhfaa
open Go.RowKit Wire

theorem setCell_twice (w : World) (a : Addr) (u v : Value) : (w.setCell a u).setCell a v = w.setCell a v := by
  unfold World.setCell
  congr 1
  apply Array.ext
  · simp
  · intro i h1 h2
    simp only [Array.getElem_modify]
    by_cases h : a.block = i
    · simp only [h, if_true]
      generalize w.heap[i]'(by simpa using h1) = o
      cases o <;> simp
      split <;> simp
    · simp [h]
attribute [local go_sem] setCell_twice
theorem only_alloc {a w : World} {row : Option Nat} (h : a.grownBy w row) (o : Obj) : a.grownBy (w.alloc o) row :=
  ⟨h.os, h.tape, h.output, Nat.le_trans h.size (by simp), fun i hi hne => (Below.heap_alloc w o i (Nat.lt_of_lt_of_le hi h.size)).trans (h.block i hi hne)⟩
theorem only_setCell {a w : World} {g : Nat} (h : a.grownBy w (some g)) {p : Addr} (hp : p.block = g ∨ a.heap.size ≤ p.block) (u : Value) : a.grownBy (w.setCell p u) (some g) :=
  ⟨h.os, h.tape, h.output, by simpa [World.setCell] using h.size, fun i hi hne => (Below.heap_setCell w p u i (by
    rintro rfl
    rcases hp with hp | hp
    · exact hne (by rw [hp])
    · omega)).trans (h.block i hi hne)⟩
theorem only_below {a w w1 : World} {row : Option Nat} (h : a.grownBy w row) (hb : Below w.heap.size w w1) : a.grownBy w1 row :=
  ⟨hb.os.trans h.os, hb.tape.trans h.tape, hb.output.trans h.output, Nat.le_trans h.size hb.size, fun i hi hn => (hb.block i (Nat.lt_of_lt_of_le hi h.size)).trans (h.block i hi hn)⟩

/-- the call ended by a panic of its own that nobody has recovered -/
def Fell (e : Ending) : Prop := ∃ (u : TypeId) (pv : Value), e = .panicked [{ v := .iface u pv, recovered := false }]

theorem require_yes (p : Addr) (w : World) :
    Calls Try.prog 115 #[.pointer (some p), .bool true] w fun e w' => e = .returned (.tuple #[]) ∧ w = w' := by
  have hnot : ∀ (x : Bool) (w : World), (Op.unary .not (.bool x)).run Try.prog w = .ok (.bool (!x)) w := fun _ _ => rfl
  go_enter Try.func115, Try.ntmps115
  go_wp2
  go_end0
  exact ⟨rfl, rfl⟩
theorem require_no (p : Addr) (w : World) :
    Calls Try.prog 115 #[.pointer (some p), .bool false] w fun e w' => Fell e ∧ w = w' := by
  have hnot : ∀ (x : Bool) (w : World), (Op.unary .not (.bool x)).run Try.prog w = .ok (.bool (!x)) w := fun _ _ => rfl
  go_enter Try.func115, Try.ntmps115
  go_wp2
  exact ⟨rfl, ⟨_, _, rfl⟩, rfl⟩
theorem getI_front (t : ByteArray) (k : Nat) (h1 : 1 ≤ k) (h7 : k ≤ 7) (ht : k ≤ t.size) : getI (t.extract 0 k) = (val (t.data.toList.take k) : Nat) := by
  have hs : (t.extract 0 k).size = k := by rw [ByteArray.size_extract]; omega
  rw [getI_yes (by omega) (by omega)]
  have : (t.extract 0 k).data.toList = t.data.toList.take k := by simp [ByteArray.data_extract]
  rw [this]
set_option maxRecDepth 100000 in
set_option maxHeartbeats 400000 in
theorem number_yes (g k : Nat) {K : Int} (hK : K = (k : Int)) (t : ByteArray) (w : World) (h1 : 1 ≤ k) (h7 : k ≤ 7) (ht : k ≤ t.size) (hm : t.size ≤ maxLen) (hc : w.cell? ⟨g, 0, none⟩ = some (.string t)) (hf : w.frozen? ⟨g, 0, none⟩ = false) :
    Calls Try.prog 116 #[.pointer (some ⟨g, 0, none⟩), .int .i64 K] w fun e w' =>
      e = .returned (.int .i64 (val (t.data.toList.take k) : Nat)) ∧ w.setCell ⟨g, 0, none⟩ (.string (t.extract k t.size)) = w' := by
  subst hK
  have hg := getI_front t k h1 h7 ht
  have hx : (t.extract 0 k).size ≤ maxLen := by rw [ByteArray.size_extract]; omega
  clear hm
  go_enter Try.func116, Try.ntmps116
  go_wp2_with fail
  refine (require_yes _ _).mono ?_
  rintro e w' ⟨rfl, rfl⟩
  go_wp2_with fail
  refine (impl_GetInt _ _ hx).mono ?_
  rintro e w' ⟨rfl, rfl⟩
  go_wp2_with fail
  go_ret
  exact ⟨by first | rfl | (rw [hg]; rfl), rfl⟩
set_option maxRecDepth 100000 in
set_option maxHeartbeats 400000 in
theorem number_no (g k : Nat) {K : Int} (hK : K = (k : Int)) (t : ByteArray) (w : World) (ht : t.size < k) (hc : w.cell? ⟨g, 0, none⟩ = some (.string t)) :
    Calls Try.prog 116 #[.pointer (some ⟨g, 0, none⟩), .int .i64 K] w fun e w' => Fell e ∧ w = w' := by
  subst hK
  have hd : decide (k ≤ t.size) = false := by simp; omega
  go_enter Try.func116, Try.ntmps116
  go_wp2_with fail
  refine (require_no _ _).mono ?_
  rintro e w' ⟨⟨u, pv, rfl⟩, rfl⟩
  go_wp2_with fail
  exact ⟨rfl, ⟨_, _, rfl⟩, rfl⟩
/-- the number of k bytes of s from the i-th on -/
def fld (s : ByteArray) (i k : Nat) : Nat := val ((s.data.toList.drop i).take k)
theorem fld_lt (s : ByteArray) (i k : Nat) : fld s i k < 256 ^ k := by
  unfold fld
  have h := val_lt ((s.data.toList.drop i).take k)
  have h2 : ((s.data.toList.drop i).take k).length ≤ k := by rw [List.length_take]; omega
  exact Nat.lt_of_lt_of_le h (Nat.pow_le_pow_right (by omega) h2)
theorem extract_all (s : ByteArray) : s.extract 0 s.size = s := by
  apply ByteArray.ext; simp
theorem extract_extract' (s : ByteArray) (i k : Nat) (_h : i + k ≤ s.size) : (s.extract i s.size).extract k (s.extract i s.size).size = s.extract (i + k) s.size := by
  apply ByteArray.ext
  simp only [ByteArray.data_extract, ByteArray.size_extract, Array.extract_extract]
  congr 1
  omega
theorem size_rest (s : ByteArray) (i : Nat) : (s.extract i s.size).size = s.size - i := by rw [ByteArray.size_extract]; omega
theorem rest_list (s : ByteArray) (i : Nat) : (s.extract i s.size).data.toList = s.data.toList.drop i := by
  simp only [ByteArray.data_extract, Array.toList_extract, List.extract_eq_take_drop]
  exact List.take_of_length_le (by simp)
theorem number_at (g : Nat) (s : ByteArray) (i k : Nat) {K : Int} (hK : K = (k : Int)) {j : Nat} (hj : j = i + k) (w : World) (h1 : 1 ≤ k) (h7 : k ≤ 7) (ht : i + k ≤ s.size) (hm : s.size ≤ maxLen)
    (hc : w.cell? ⟨g, 0, none⟩ = some (.string (s.extract i s.size))) (hf : w.frozen? ⟨g, 0, none⟩ = false) :
    Calls Try.prog 116 #[.pointer (some ⟨g, 0, none⟩), .int .i64 K] w fun e w' =>
      e = .returned (.int .i64 (fld s i k : Nat)) ∧ w.setCell ⟨g, 0, none⟩ (.string (s.extract j s.size)) = w' := by
  have h := number_yes g k hK (s.extract i s.size) w h1 h7 (by rw [size_rest]; omega) (by rw [size_rest]; omega) hc hf
  rw [extract_extract' s i k ht, rest_list] at h
  subst hj
  exact h
theorem number_end (g : Nat) (s : ByteArray) (i k : Nat) {K : Int} (hK : K = (k : Int)) (w : World) (h1 : 1 ≤ k) (ht : s.size < i + k)
    (hc : w.cell? ⟨g, 0, none⟩ = some (.string (s.extract i s.size))) :
    Calls Try.prog 116 #[.pointer (some ⟨g, 0, none⟩), .int .i64 K] w fun e w' => Fell e ∧ w = w' :=
  number_no g k hK (s.extract i s.size) w (by rw [size_rest]; omega) hc
/-- behind a reading: only the reader's own block has turned, and the reader's rest is what is not yet read -/
def Rest (g : Nat) (w w' : World) (t : ByteArray) : Prop := w.grownBy w' (some g) ∧ w'.cell? ⟨g, 0, none⟩ = some (.string t)
set_option maxRecDepth 100000 in
set_option maxHeartbeats 2000000 in
theorem takeCmd_yes (g : Nat) (s : ByteArray) (w : World) (hs : 15 ≤ s.size) (hm : s.size ≤ maxLen) (hc : w.cell? ⟨g, 0, none⟩ = some (.string (s.extract 0 s.size))) (hf : w.frozen? ⟨g, 0, none⟩ = false) (hg : g < w.heap.size)
    (hk : cmdB (fld s 0 1 : Nat) (fld s 1 1 : Nat) (fld s 2 1 : Nat) (fld s 3 4 : Nat) (fld s 7 1 : Nat) (fld s 8 3 : Nat) (fld s 11 3 : Nat) (fld s 14 1 : Nat) = true) :
    Calls Try.prog 68 #[.pointer (some ⟨g, 0, none⟩)] w fun e w' => e = .returned (.agg #[.int .i64 (fld s 0 1 : Nat), .int .i64 (fld s 1 1 : Nat), .int .i64 (fld s 2 1 : Nat), .int .i64 (fld s 3 4 : Nat), .int .i64 (fld s 7 1 : Nat), .int .i64 (fld s 8 3 : Nat), .int .i64 (fld s 11 3 : Nat), .int .i64 (fld s 14 1 : Nat)]) ∧ Rest g w w' (s.extract 15 s.size) := by
  go_enter Try.func68, Try.ntmps68
  go_wp2_with fail
  refine (number_at g s 0 1 rfl (j := 1) rfl _ (by omega) (by omega) (by omega) hm (by simp [go_sem, hc, hg]) (by simp [go_sem, hf, hg])).mono ?_
  rintro e w' ⟨rfl, rfl⟩
  go_wp2_with fail
  refine (number_at g s 1 1 rfl (j := 2) rfl _ (by omega) (by omega) (by omega) hm (by simp [go_sem, hc, hg]) (by simp [go_sem, hf, hg])).mono ?_
  rintro e w' ⟨rfl, rfl⟩
  go_wp2_with fail
  refine (number_at g s 2 1 rfl (j := 3) rfl _ (by omega) (by omega) (by omega) hm (by simp [go_sem, hc, hg]) (by simp [go_sem, hf, hg])).mono ?_
  rintro e w' ⟨rfl, rfl⟩
  go_wp2_with fail
  refine (number_at g s 3 4 rfl (j := 7) rfl _ (by omega) (by omega) (by omega) hm (by simp [go_sem, hc, hg]) (by simp [go_sem, hf, hg])).mono ?_
  rintro e w' ⟨rfl, rfl⟩
  go_wp2_with fail
  refine (number_at g s 7 1 rfl (j := 8) rfl _ (by omega) (by omega) (by omega) hm (by simp [go_sem, hc, hg]) (by simp [go_sem, hf, hg])).mono ?_
  rintro e w' ⟨rfl, rfl⟩
  go_wp2_with fail
  refine (number_at g s 8 3 rfl (j := 11) rfl _ (by omega) (by omega) (by omega) hm (by simp [go_sem, hc, hg]) (by simp [go_sem, hf, hg])).mono ?_
  rintro e w' ⟨rfl, rfl⟩
  go_wp2_with fail
  refine (number_at g s 11 3 rfl (j := 14) rfl _ (by omega) (by omega) (by omega) hm (by simp [go_sem, hc, hg]) (by simp [go_sem, hf, hg])).mono ?_
  rintro e w' ⟨rfl, rfl⟩
  go_wp2_with fail
  refine (number_at g s 14 1 rfl (j := 15) rfl _ (by omega) (by omega) (by omega) hm (by simp [go_sem, hc, hg]) (by simp [go_sem, hf, hg])).mono ?_
  rintro e w' ⟨rfl, rfl⟩
  go_wp2_with fail
  refine (impl_CmdOk _ _ _ _ _ _ _ _ _).mono ?_
  rintro e w1 ⟨rfl, hb⟩
  go_wp2_with fail
  refine (require_yes _ _).mono ?_
  rintro e w' ⟨rfl, rfl⟩
  obtain ⟨hc1, hf1⟩ := bcell hb
  have r0 : w1.cell? ⟨w.heap.size, 0, none⟩ = some (.int .i64 0) := (hb.cell (p := ⟨w.heap.size, 0, none⟩) (by simp; omega)).trans (by simp [go_sem])
  have r1 : w1.cell? ⟨w.heap.size, 1, none⟩ = some (.int .i64 0) := (hb.cell (p := ⟨w.heap.size, 1, none⟩) (by simp; omega)).trans (by simp [go_sem])
  have r2 : w1.cell? ⟨w.heap.size, 2, none⟩ = some (.int .i64 0) := (hb.cell (p := ⟨w.heap.size, 2, none⟩) (by simp; omega)).trans (by simp [go_sem])
  have r3 : w1.cell? ⟨w.heap.size, 3, none⟩ = some (.int .i64 0) := (hb.cell (p := ⟨w.heap.size, 3, none⟩) (by simp; omega)).trans (by simp [go_sem])
  have r4 : w1.cell? ⟨w.heap.size, 4, none⟩ = some (.int .i64 0) := (hb.cell (p := ⟨w.heap.size, 4, none⟩) (by simp; omega)).trans (by simp [go_sem])
  have r5 : w1.cell? ⟨w.heap.size, 5, none⟩ = some (.int .i64 0) := (hb.cell (p := ⟨w.heap.size, 5, none⟩) (by simp; omega)).trans (by simp [go_sem])
  have r6 : w1.cell? ⟨w.heap.size, 6, none⟩ = some (.int .i64 0) := (hb.cell (p := ⟨w.heap.size, 6, none⟩) (by simp; omega)).trans (by simp [go_sem])
  have r7 : w1.cell? ⟨w.heap.size, 7, none⟩ = some (.int .i64 0) := (hb.cell (p := ⟨w.heap.size, 7, none⟩) (by simp; omega)).trans (by simp [go_sem])
  have gc : w1.cell? ⟨g, 0, none⟩ = some (.string (s.extract 15 s.size)) := (hb.cell (p := ⟨g, 0, none⟩) (by simp; omega)).trans (by simp [go_sem, hc, hg])
  simp at hc1 hf1
  go_wp2_with fail
  refine bodyPost_ret (v := .agg #[.int .i64 (fld s 0 1 : Nat), .int .i64 (fld s 1 1 : Nat), .int .i64 (fld s 2 1 : Nat), .int .i64 (fld s 3 4 : Nat), .int .i64 (fld s 7 1 : Nat), .int .i64 (fld s 8 3 : Nat), .int .i64 (fld s 11 3 : Nat), .int .i64 (fld s 14 1 : Nat)]) (by simp [results, Try.results68, go_sem, r0, r1, r2, r3, r4, r5, r6, r7]) rfl ⟨rfl, ?_, ?_⟩
  · repeat (first | (refine only_setCell ?_ (.inr (by simp)) _))
    exact only_below (only_alloc (only_alloc (only_setCell (World.grownBy.refl _ _) (.inl rfl) _) _) _) hb
  · simp [go_sem, gc]
set_option maxRecDepth 100000 in
set_option maxHeartbeats 2000000 in
theorem takeCmd_bad (g : Nat) (s : ByteArray) (w : World) (hs : 15 ≤ s.size) (hm : s.size ≤ maxLen) (hc : w.cell? ⟨g, 0, none⟩ = some (.string (s.extract 0 s.size))) (hf : w.frozen? ⟨g, 0, none⟩ = false) (hg : g < w.heap.size)
    (hk : cmdB (fld s 0 1 : Nat) (fld s 1 1 : Nat) (fld s 2 1 : Nat) (fld s 3 4 : Nat) (fld s 7 1 : Nat) (fld s 8 3 : Nat) (fld s 11 3 : Nat) (fld s 14 1 : Nat) = false) :
    Calls Try.prog 68 #[.pointer (some ⟨g, 0, none⟩)] w fun e w' => Fell e ∧ w.grownBy w' (some g) := by
  go_enter Try.func68, Try.ntmps68
  go_wp2_with fail
  refine (number_at g s 0 1 rfl (j := 1) rfl _ (by omega) (by omega) (by omega) hm (by simp [go_sem, hc, hg]) (by simp [go_sem, hf, hg])).mono ?_
  rintro e w' ⟨rfl, rfl⟩
  go_wp2_with fail
  refine (number_at g s 1 1 rfl (j := 2) rfl _ (by omega) (by omega) (by omega) hm (by simp [go_sem, hc, hg]) (by simp [go_sem, hf, hg])).mono ?_
  rintro e w' ⟨rfl, rfl⟩
  go_wp2_with fail
  refine (number_at g s 2 1 rfl (j := 3) rfl _ (by omega) (by omega) (by omega) hm (by simp [go_sem, hc, hg]) (by simp [go_sem, hf, hg])).mono ?_
  rintro e w' ⟨rfl, rfl⟩
  go_wp2_with fail
  refine (number_at g s 3 4 rfl (j := 7) rfl _ (by omega) (by omega) (by omega) hm (by simp [go_sem, hc, hg]) (by simp [go_sem, hf, hg])).mono ?_
  rintro e w' ⟨rfl, rfl⟩
  go_wp2_with fail
  refine (number_at g s 7 1 rfl (j := 8) rfl _ (by omega) (by omega) (by omega) hm (by simp [go_sem, hc, hg]) (by simp [go_sem, hf, hg])).mono ?_
  rintro e w' ⟨rfl, rfl⟩
  go_wp2_with fail
  refine (number_at g s 8 3 rfl (j := 11) rfl _ (by omega) (by omega) (by omega) hm (by simp [go_sem, hc, hg]) (by simp [go_sem, hf, hg])).mono ?_
  rintro e w' ⟨rfl, rfl⟩
  go_wp2_with fail
  refine (number_at g s 11 3 rfl (j := 14) rfl _ (by omega) (by omega) (by omega) hm (by simp [go_sem, hc, hg]) (by simp [go_sem, hf, hg])).mono ?_
  rintro e w' ⟨rfl, rfl⟩
  go_wp2_with fail
  refine (number_at g s 14 1 rfl (j := 15) rfl _ (by omega) (by omega) (by omega) hm (by simp [go_sem, hc, hg]) (by simp [go_sem, hf, hg])).mono ?_
  rintro e w' ⟨rfl, rfl⟩
  go_wp2_with fail
  refine (impl_CmdOk _ _ _ _ _ _ _ _ _).mono ?_
  rintro e w1 ⟨rfl, hb⟩
  go_wp2_with fail
  refine (require_no _ _).mono ?_
  rintro e w' ⟨⟨u, pv, rfl⟩, rfl⟩
  go_wp2_with fail
  exact ⟨rfl, ⟨_, _, rfl⟩, only_below (only_alloc (only_alloc (only_setCell (World.grownBy.refl _ _) (.inl rfl) _) _) _) hb⟩
set_option maxRecDepth 100000 in
set_option maxHeartbeats 2000000 in
theorem takeCmd_short (g : Nat) (s : ByteArray) (w : World) (hs : s.size < 15) (hm : s.size ≤ maxLen) (hc : w.cell? ⟨g, 0, none⟩ = some (.string (s.extract 0 s.size))) (hf : w.frozen? ⟨g, 0, none⟩ = false) (hg : g < w.heap.size) :
    Calls Try.prog 68 #[.pointer (some ⟨g, 0, none⟩)] w fun e w' => Fell e ∧ w.grownBy w' (some g) := by
  have hd : (0 ≤ s.size ∧ s.size < 1) ∨ (1 ≤ s.size ∧ s.size < 2) ∨ (2 ≤ s.size ∧ s.size < 3) ∨ (3 ≤ s.size ∧ s.size < 7) ∨ (7 ≤ s.size ∧ s.size < 8) ∨ (8 ≤ s.size ∧ s.size < 11) ∨ (11 ≤ s.size ∧ s.size < 14) ∨ (14 ≤ s.size ∧ s.size < 15) := by omega
  clear hs
  rcases hd with ⟨h1, h2⟩ | ⟨h1, h2⟩ | ⟨h1, h2⟩ | ⟨h1, h2⟩ | ⟨h1, h2⟩ | ⟨h1, h2⟩ | ⟨h1, h2⟩ | ⟨h1, h2⟩
  · go_enter Try.func68, Try.ntmps68
    go_wp2_with fail
    refine (number_end g s 0 1 rfl _ (by omega) (by omega) (by simp [go_sem, hc, hg])).mono ?_
    rintro e w' ⟨⟨u, pv, rfl⟩, rfl⟩
    go_wp2_with fail
    exact ⟨rfl, ⟨_, _, rfl⟩, by repeat (first | exact World.grownBy.refl _ _ | (refine only_setCell ?_ (.inl rfl) _) | (refine only_alloc ?_ _))⟩
  · go_enter Try.func68, Try.ntmps68
    go_wp2_with fail
    refine (number_at g s 0 1 rfl (j := 1) rfl _ (by omega) (by omega) (by omega) hm (by simp [go_sem, hc, hg]) (by simp [go_sem, hf, hg])).mono ?_
    rintro e w' ⟨rfl, rfl⟩
    go_wp2_with fail
    refine (number_end g s 1 1 rfl _ (by omega) (by omega) (by simp [go_sem, hc, hg])).mono ?_
    rintro e w' ⟨⟨u, pv, rfl⟩, rfl⟩
    go_wp2_with fail
    exact ⟨rfl, ⟨_, _, rfl⟩, by repeat (first | exact World.grownBy.refl _ _ | (refine only_setCell ?_ (.inl rfl) _) | (refine only_alloc ?_ _))⟩
  · go_enter Try.func68, Try.ntmps68
    go_wp2_with fail
    refine (number_at g s 0 1 rfl (j := 1) rfl _ (by omega) (by omega) (by omega) hm (by simp [go_sem, hc, hg]) (by simp [go_sem, hf, hg])).mono ?_
    rintro e w' ⟨rfl, rfl⟩
    go_wp2_with fail
    refine (number_at g s 1 1 rfl (j := 2) rfl _ (by omega) (by omega) (by omega) hm (by simp [go_sem, hc, hg]) (by simp [go_sem, hf, hg])).mono ?_
    rintro e w' ⟨rfl, rfl⟩
    go_wp2_with fail
    refine (number_end g s 2 1 rfl _ (by omega) (by omega) (by simp [go_sem, hc, hg])).mono ?_
    rintro e w' ⟨⟨u, pv, rfl⟩, rfl⟩
    go_wp2_with fail
    exact ⟨rfl, ⟨_, _, rfl⟩, by repeat (first | exact World.grownBy.refl _ _ | (refine only_setCell ?_ (.inl rfl) _) | (refine only_alloc ?_ _))⟩
  · go_enter Try.func68, Try.ntmps68
    go_wp2_with fail
    refine (number_at g s 0 1 rfl (j := 1) rfl _ (by omega) (by omega) (by omega) hm (by simp [go_sem, hc, hg]) (by simp [go_sem, hf, hg])).mono ?_
    rintro e w' ⟨rfl, rfl⟩
    go_wp2_with fail
    refine (number_at g s 1 1 rfl (j := 2) rfl _ (by omega) (by omega) (by omega) hm (by simp [go_sem, hc, hg]) (by simp [go_sem, hf, hg])).mono ?_
    rintro e w' ⟨rfl, rfl⟩
    go_wp2_with fail
    refine (number_at g s 2 1 rfl (j := 3) rfl _ (by omega) (by omega) (by omega) hm (by simp [go_sem, hc, hg]) (by simp [go_sem, hf, hg])).mono ?_
    rintro e w' ⟨rfl, rfl⟩
    go_wp2_with fail
    refine (number_end g s 3 4 rfl _ (by omega) (by omega) (by simp [go_sem, hc, hg])).mono ?_
    rintro e w' ⟨⟨u, pv, rfl⟩, rfl⟩
    go_wp2_with fail
    exact ⟨rfl, ⟨_, _, rfl⟩, by repeat (first | exact World.grownBy.refl _ _ | (refine only_setCell ?_ (.inl rfl) _) | (refine only_alloc ?_ _))⟩
  · go_enter Try.func68, Try.ntmps68
    go_wp2_with fail
    refine (number_at g s 0 1 rfl (j := 1) rfl _ (by omega) (by omega) (by omega) hm (by simp [go_sem, hc, hg]) (by simp [go_sem, hf, hg])).mono ?_
    rintro e w' ⟨rfl, rfl⟩
    go_wp2_with fail
    refine (number_at g s 1 1 rfl (j := 2) rfl _ (by omega) (by omega) (by omega) hm (by simp [go_sem, hc, hg]) (by simp [go_sem, hf, hg])).mono ?_
    rintro e w' ⟨rfl, rfl⟩
    go_wp2_with fail
    refine (number_at g s 2 1 rfl (j := 3) rfl _ (by omega) (by omega) (by omega) hm (by simp [go_sem, hc, hg]) (by simp [go_sem, hf, hg])).mono ?_
    rintro e w' ⟨rfl, rfl⟩
    go_wp2_with fail
    refine (number_at g s 3 4 rfl (j := 7) rfl _ (by omega) (by omega) (by omega) hm (by simp [go_sem, hc, hg]) (by simp [go_sem, hf, hg])).mono ?_
    rintro e w' ⟨rfl, rfl⟩
    go_wp2_with fail
    refine (number_end g s 7 1 rfl _ (by omega) (by omega) (by simp [go_sem, hc, hg])).mono ?_
    rintro e w' ⟨⟨u, pv, rfl⟩, rfl⟩
    go_wp2_with fail
    exact ⟨rfl, ⟨_, _, rfl⟩, by repeat (first | exact World.grownBy.refl _ _ | (refine only_setCell ?_ (.inl rfl) _) | (refine only_alloc ?_ _))⟩
  · go_enter Try.func68, Try.ntmps68
    go_wp2_with fail
    refine (number_at g s 0 1 rfl (j := 1) rfl _ (by omega) (by omega) (by omega) hm (by simp [go_sem, hc, hg]) (by simp [go_sem, hf, hg])).mono ?_
    rintro e w' ⟨rfl, rfl⟩
    go_wp2_with fail
    refine (number_at g s 1 1 rfl (j := 2) rfl _ (by omega) (by omega) (by omega) hm (by simp [go_sem, hc, hg]) (by simp [go_sem, hf, hg])).mono ?_
    rintro e w' ⟨rfl, rfl⟩
    go_wp2_with fail
    refine (number_at g s 2 1 rfl (j := 3) rfl _ (by omega) (by omega) (by omega) hm (by simp [go_sem, hc, hg]) (by simp [go_sem, hf, hg])).mono ?_
    rintro e w' ⟨rfl, rfl⟩
    go_wp2_with fail
    refine (number_at g s 3 4 rfl (j := 7) rfl _ (by omega) (by omega) (by omega) hm (by simp [go_sem, hc, hg]) (by simp [go_sem, hf, hg])).mono ?_
    rintro e w' ⟨rfl, rfl⟩
    go_wp2_with fail
    refine (number_at g s 7 1 rfl (j := 8) rfl _ (by omega) (by omega) (by omega) hm (by simp [go_sem, hc, hg]) (by simp [go_sem, hf, hg])).mono ?_
    rintro e w' ⟨rfl, rfl⟩
    go_wp2_with fail
    refine (number_end g s 8 3 rfl _ (by omega) (by omega) (by simp [go_sem, hc, hg])).mono ?_
    rintro e w' ⟨⟨u, pv, rfl⟩, rfl⟩
    go_wp2_with fail
    exact ⟨rfl, ⟨_, _, rfl⟩, by repeat (first | exact World.grownBy.refl _ _ | (refine only_setCell ?_ (.inl rfl) _) | (refine only_alloc ?_ _))⟩
  · go_enter Try.func68, Try.ntmps68
    go_wp2_with fail
    refine (number_at g s 0 1 rfl (j := 1) rfl _ (by omega) (by omega) (by omega) hm (by simp [go_sem, hc, hg]) (by simp [go_sem, hf, hg])).mono ?_
    rintro e w' ⟨rfl, rfl⟩
    go_wp2_with fail
    refine (number_at g s 1 1 rfl (j := 2) rfl _ (by omega) (by omega) (by omega) hm (by simp [go_sem, hc, hg]) (by simp [go_sem, hf, hg])).mono ?_
    rintro e w' ⟨rfl, rfl⟩
    go_wp2_with fail
    refine (number_at g s 2 1 rfl (j := 3) rfl _ (by omega) (by omega) (by omega) hm (by simp [go_sem, hc, hg]) (by simp [go_sem, hf, hg])).mono ?_
    rintro e w' ⟨rfl, rfl⟩
    go_wp2_with fail
    refine (number_at g s 3 4 rfl (j := 7) rfl _ (by omega) (by omega) (by omega) hm (by simp [go_sem, hc, hg]) (by simp [go_sem, hf, hg])).mono ?_
    rintro e w' ⟨rfl, rfl⟩
    go_wp2_with fail
    refine (number_at g s 7 1 rfl (j := 8) rfl _ (by omega) (by omega) (by omega) hm (by simp [go_sem, hc, hg]) (by simp [go_sem, hf, hg])).mono ?_
    rintro e w' ⟨rfl, rfl⟩
    go_wp2_with fail
    refine (number_at g s 8 3 rfl (j := 11) rfl _ (by omega) (by omega) (by omega) hm (by simp [go_sem, hc, hg]) (by simp [go_sem, hf, hg])).mono ?_
    rintro e w' ⟨rfl, rfl⟩
    go_wp2_with fail
    refine (number_end g s 11 3 rfl _ (by omega) (by omega) (by simp [go_sem, hc, hg])).mono ?_
    rintro e w' ⟨⟨u, pv, rfl⟩, rfl⟩
    go_wp2_with fail
    exact ⟨rfl, ⟨_, _, rfl⟩, by repeat (first | exact World.grownBy.refl _ _ | (refine only_setCell ?_ (.inl rfl) _) | (refine only_alloc ?_ _))⟩
  · go_enter Try.func68, Try.ntmps68
    go_wp2_with fail
    refine (number_at g s 0 1 rfl (j := 1) rfl _ (by omega) (by omega) (by omega) hm (by simp [go_sem, hc, hg]) (by simp [go_sem, hf, hg])).mono ?_
    rintro e w' ⟨rfl, rfl⟩
    go_wp2_with fail
    refine (number_at g s 1 1 rfl (j := 2) rfl _ (by omega) (by omega) (by omega) hm (by simp [go_sem, hc, hg]) (by simp [go_sem, hf, hg])).mono ?_
    rintro e w' ⟨rfl, rfl⟩
    go_wp2_with fail
    refine (number_at g s 2 1 rfl (j := 3) rfl _ (by omega) (by omega) (by omega) hm (by simp [go_sem, hc, hg]) (by simp [go_sem, hf, hg])).mono ?_
    rintro e w' ⟨rfl, rfl⟩
    go_wp2_with fail
    refine (number_at g s 3 4 rfl (j := 7) rfl _ (by omega) (by omega) (by omega) hm (by simp [go_sem, hc, hg]) (by simp [go_sem, hf, hg])).mono ?_
    rintro e w' ⟨rfl, rfl⟩
    go_wp2_with fail
    refine (number_at g s 7 1 rfl (j := 8) rfl _ (by omega) (by omega) (by omega) hm (by simp [go_sem, hc, hg]) (by simp [go_sem, hf, hg])).mono ?_
    rintro e w' ⟨rfl, rfl⟩
    go_wp2_with fail
    refine (number_at g s 8 3 rfl (j := 11) rfl _ (by omega) (by omega) (by omega) hm (by simp [go_sem, hc, hg]) (by simp [go_sem, hf, hg])).mono ?_
    rintro e w' ⟨rfl, rfl⟩
    go_wp2_with fail
    refine (number_at g s 11 3 rfl (j := 14) rfl _ (by omega) (by omega) (by omega) hm (by simp [go_sem, hc, hg]) (by simp [go_sem, hf, hg])).mono ?_
    rintro e w' ⟨rfl, rfl⟩
    go_wp2_with fail
    refine (number_end g s 14 1 rfl _ (by omega) (by omega) (by simp [go_sem, hc, hg])).mono ?_
    rintro e w' ⟨⟨u, pv, rfl⟩, rfl⟩
    go_wp2_with fail
    exact ⟨rfl, ⟨_, _, rfl⟩, by repeat (first | exact World.grownBy.refl _ _ | (refine only_setCell ?_ (.inl rfl) _) | (refine only_alloc ?_ _))⟩
end Go.Proofs.Ythmoddohkchhfaa
