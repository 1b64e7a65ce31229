/-
  Reading undoes writing, and writing reading: records and commands, plainly.
-/
import Derived.Test.YthmoddohkchhfaaRec
import Derived.Test.YthmoddohkchhfaaReader
namespace Go.Proofs.Ythmoddohkchhfaa
open Go.RowKit Wire
set_option linter.unusedSimpArgs false

theorem be_fld (s : ByteArray) (i k : Nat) (h : i + k ≤ s.size) : be k (fld s i k) = (s.data.toList.drop i).take k := by
  have hl : ((s.data.toList.drop i).take k).length = k := by
    rw [List.length_take, List.length_drop, Array.length_toList]
    have : s.data.size = s.size := rfl
    omega
  have := be_val ((s.data.toList.drop i).take k)
  rw [hl] at this
  exact this
theorem drop_split (l : List UInt8) (i k : Nat) : l.drop i = (l.drop i).take k ++ l.drop (i + k) := by
  rw [← List.drop_drop, List.take_append_drop]
theorem fld_mid {s : ByteArray} {i k N : Nat} (p q : List UInt8) (h : s.data.toList = p ++ (be k N ++ q)) (hi : p.length = i) (hN : N < 256 ^ k) : fld s i k = N := by
  unfold fld
  rw [h, ← hi, List.drop_left, List.take_left' (be_length k N), val_be k N hN]
theorem recB_back (t : ByteArray) (hs : t.size = 21) (hk : recB (fld t 0 4 : Nat) (fld t 4 1 : Nat) (fld t 5 1 : Nat) (fld t 6 1 : Nat) (fld t 7 4 : Nat) (fld t 11 4 : Nat) (fld t 15 3 : Nat) (fld t 18 3 : Nat) = true) : recBytesB (fld t 0 4 : Nat) (fld t 4 1 : Nat) (fld t 5 1 : Nat) (fld t 6 1 : Nat) (fld t 7 4 : Nat) (fld t 11 4 : Nat) (fld t 15 3 : Nat) (fld t 18 3 : Nat) = t := by
  unfold recBytesB
  rw [if_pos hk]
  simp only [Int.toNat_natCast]
  have h : recL (fld t 0 4) (fld t 4 1) (fld t 5 1) (fld t 6 1) (fld t 7 4) (fld t 11 4) (fld t 15 3) (fld t 18 3) = t.data.toList := by
    unfold recL
    rw [be_fld t 0 4 (by omega), be_fld t 4 1 (by omega), be_fld t 5 1 (by omega), be_fld t 6 1 (by omega), be_fld t 7 4 (by omega), be_fld t 11 4 (by omega), be_fld t 15 3 (by omega), be_fld t 18 3 (by omega)]
    have hl : t.data.toList.length = 21 := by rw [Array.length_toList]; exact hs
    have e := List.drop_zero (l := t.data.toList)
    have e0 := drop_split t.data.toList 0 4
    have e4 := drop_split t.data.toList 4 1
    have e5 := drop_split t.data.toList 5 1
    have e6 := drop_split t.data.toList 6 1
    have e7 := drop_split t.data.toList 7 4
    have e11 := drop_split t.data.toList 11 4
    have e15 := drop_split t.data.toList 15 3
    have e18 := drop_split t.data.toList 18 3
    have ez : t.data.toList.drop 21 = [] := List.drop_eq_nil_of_le (by omega)
    simp only [Nat.reduceAdd] at e0 e4 e5 e6 e7 e11 e15 e18
    rw [ez, List.append_nil] at e18
    conv => rhs; rw [← e, e0, e4, e5, e6, e7, e11, e15]
    simp only [List.append_assoc]
    rw [← e18]
  rw [h]
theorem recBytesB_len (a b c d e f g h : Int) (hk : recB a b c d e f g h = true) : (recBytesB a b c d e f g h).size = 21 := by
  unfold recBytesB
  rw [if_pos hk]
  show (recL _ _ _ _ _ _ _ _).toArray.size = 21
  rw [List.size_toArray]
  simp [recL, be_length]
theorem recBytesB_nil (a b c d e f g h : Int) (hk : recB a b c d e f g h = false) : recBytesB a b c d e f g h = ⟨#[]⟩ := by
  unfold recBytesB
  rw [if_neg (by simp [hk])]
theorem recBytesB_list (a b c d e f g h : Int) (hk : recB a b c d e f g h = true) : (recBytesB a b c d e f g h).data.toList = recL a.toNat b.toNat c.toNat d.toNat e.toNat f.toNat g.toNat h.toNat := by
  unfold recBytesB
  rw [if_pos hk]
theorem recBytesB_flds (a b c d e f g h : Int) (hk : recB a b c d e f g h = true) :
    ((fld (recBytesB a b c d e f g h) 0 4 : Nat) : Int) = a ∧ ((fld (recBytesB a b c d e f g h) 4 1 : Nat) : Int) = b ∧ ((fld (recBytesB a b c d e f g h) 5 1 : Nat) : Int) = c ∧ ((fld (recBytesB a b c d e f g h) 6 1 : Nat) : Int) = d ∧ ((fld (recBytesB a b c d e f g h) 7 4 : Nat) : Int) = e ∧ ((fld (recBytesB a b c d e f g h) 11 4 : Nat) : Int) = f ∧ ((fld (recBytesB a b c d e f g h) 15 3 : Nat) : Int) = g ∧ ((fld (recBytesB a b c d e f g h) 18 3 : Nat) : Int) = h := by
  have hl := recBytesB_list a b c d e f g h hk
  obtain ⟨ka, kb, kc, kd, ke, kf, kg, kh⟩ := rec_fits hk
  unfold recL at hl
  have f0 := fld_mid (s := recBytesB a b c d e f g h) (i := 0) (k := 4) (N := a.toNat) ([]) (be 1 b.toNat ++ be 1 c.toNat ++ be 1 d.toNat ++ be 4 e.toNat ++ be 4 f.toNat ++ be 3 g.toNat ++ be 3 h.toNat) (by rw [hl]; simp only [List.append_assoc, List.nil_append, List.append_nil]) (by simp [be_length]) (by omega)
  have f1 := fld_mid (s := recBytesB a b c d e f g h) (i := 4) (k := 1) (N := b.toNat) (be 4 a.toNat) (be 1 c.toNat ++ be 1 d.toNat ++ be 4 e.toNat ++ be 4 f.toNat ++ be 3 g.toNat ++ be 3 h.toNat) (by rw [hl]; simp only [List.append_assoc, List.nil_append, List.append_nil]) (by simp [be_length]) (by omega)
  have f2 := fld_mid (s := recBytesB a b c d e f g h) (i := 5) (k := 1) (N := c.toNat) (be 4 a.toNat ++ be 1 b.toNat) (be 1 d.toNat ++ be 4 e.toNat ++ be 4 f.toNat ++ be 3 g.toNat ++ be 3 h.toNat) (by rw [hl]; simp only [List.append_assoc, List.nil_append, List.append_nil]) (by simp [be_length]) (by omega)
  have f3 := fld_mid (s := recBytesB a b c d e f g h) (i := 6) (k := 1) (N := d.toNat) (be 4 a.toNat ++ be 1 b.toNat ++ be 1 c.toNat) (be 4 e.toNat ++ be 4 f.toNat ++ be 3 g.toNat ++ be 3 h.toNat) (by rw [hl]; simp only [List.append_assoc, List.nil_append, List.append_nil]) (by simp [be_length]) (by omega)
  have f4 := fld_mid (s := recBytesB a b c d e f g h) (i := 7) (k := 4) (N := e.toNat) (be 4 a.toNat ++ be 1 b.toNat ++ be 1 c.toNat ++ be 1 d.toNat) (be 4 f.toNat ++ be 3 g.toNat ++ be 3 h.toNat) (by rw [hl]; simp only [List.append_assoc, List.nil_append, List.append_nil]) (by simp [be_length]) (by omega)
  have f5 := fld_mid (s := recBytesB a b c d e f g h) (i := 11) (k := 4) (N := f.toNat) (be 4 a.toNat ++ be 1 b.toNat ++ be 1 c.toNat ++ be 1 d.toNat ++ be 4 e.toNat) (be 3 g.toNat ++ be 3 h.toNat) (by rw [hl]; simp only [List.append_assoc, List.nil_append, List.append_nil]) (by simp [be_length]) (by omega)
  have f6 := fld_mid (s := recBytesB a b c d e f g h) (i := 15) (k := 3) (N := g.toNat) (be 4 a.toNat ++ be 1 b.toNat ++ be 1 c.toNat ++ be 1 d.toNat ++ be 4 e.toNat ++ be 4 f.toNat) (be 3 h.toNat) (by rw [hl]; simp only [List.append_assoc, List.nil_append, List.append_nil]) (by simp [be_length]) (by omega)
  have f7 := fld_mid (s := recBytesB a b c d e f g h) (i := 18) (k := 3) (N := h.toNat) (be 4 a.toNat ++ be 1 b.toNat ++ be 1 c.toNat ++ be 1 d.toNat ++ be 4 e.toNat ++ be 4 f.toNat ++ be 3 g.toNat) ([]) (by rw [hl]; simp only [List.append_assoc, List.nil_append, List.append_nil]) (by simp [be_length]) (by omega)
  exact ⟨by rw [f0]; omega, by rw [f1]; omega, by rw [f2]; omega, by rw [f3]; omega, by rw [f4]; omega, by rw [f5]; omega, by rw [f6]; omega, by rw [f7]; omega⟩
theorem cmdB_back (t : ByteArray) (hs : t.size = 15) (hk : cmdB (fld t 0 1 : Nat) (fld t 1 1 : Nat) (fld t 2 1 : Nat) (fld t 3 4 : Nat) (fld t 7 1 : Nat) (fld t 8 3 : Nat) (fld t 11 3 : Nat) (fld t 14 1 : Nat) = true) : cmdBytesB (fld t 0 1 : Nat) (fld t 1 1 : Nat) (fld t 2 1 : Nat) (fld t 3 4 : Nat) (fld t 7 1 : Nat) (fld t 8 3 : Nat) (fld t 11 3 : Nat) (fld t 14 1 : Nat) = t := by
  unfold cmdBytesB
  rw [if_pos hk]
  simp only [Int.toNat_natCast]
  have h : frameL (fld t 0 1) (fld t 1 1) (fld t 2 1) (fld t 3 4) (fld t 7 1) (fld t 8 3) (fld t 11 3) (fld t 14 1) = t.data.toList := by
    unfold frameL
    rw [be_fld t 0 1 (by omega), be_fld t 1 1 (by omega), be_fld t 2 1 (by omega), be_fld t 3 4 (by omega), be_fld t 7 1 (by omega), be_fld t 8 3 (by omega), be_fld t 11 3 (by omega), be_fld t 14 1 (by omega)]
    have hl : t.data.toList.length = 15 := by rw [Array.length_toList]; exact hs
    have e := List.drop_zero (l := t.data.toList)
    have e0 := drop_split t.data.toList 0 1
    have e1 := drop_split t.data.toList 1 1
    have e2 := drop_split t.data.toList 2 1
    have e3 := drop_split t.data.toList 3 4
    have e7 := drop_split t.data.toList 7 1
    have e8 := drop_split t.data.toList 8 3
    have e11 := drop_split t.data.toList 11 3
    have e14 := drop_split t.data.toList 14 1
    have ez : t.data.toList.drop 15 = [] := List.drop_eq_nil_of_le (by omega)
    simp only [Nat.reduceAdd] at e0 e1 e2 e3 e7 e8 e11 e14
    rw [ez, List.append_nil] at e14
    conv => rhs; rw [← e, e0, e1, e2, e3, e7, e8, e11]
    simp only [List.append_assoc]
    rw [← e14]
  rw [h]
theorem cmdBytesB_len (a b c d e f g h : Int) (hk : cmdB a b c d e f g h = true) : (cmdBytesB a b c d e f g h).size = 15 := by
  unfold cmdBytesB
  rw [if_pos hk]
  show (frameL _ _ _ _ _ _ _ _).toArray.size = 15
  rw [List.size_toArray]
  simp [frameL, be_length]
theorem cmdBytesB_nil (a b c d e f g h : Int) (hk : cmdB a b c d e f g h = false) : cmdBytesB a b c d e f g h = ⟨#[]⟩ := by
  unfold cmdBytesB
  rw [if_neg (by simp [hk])]
theorem cmdBytesB_list (a b c d e f g h : Int) (hk : cmdB a b c d e f g h = true) : (cmdBytesB a b c d e f g h).data.toList = frameL a.toNat b.toNat c.toNat d.toNat e.toNat f.toNat g.toNat h.toNat := by
  unfold cmdBytesB
  rw [if_pos hk]
theorem cmdBytesB_flds (a b c d e f g h : Int) (hk : cmdB a b c d e f g h = true) :
    ((fld (cmdBytesB a b c d e f g h) 0 1 : Nat) : Int) = a ∧ ((fld (cmdBytesB a b c d e f g h) 1 1 : Nat) : Int) = b ∧ ((fld (cmdBytesB a b c d e f g h) 2 1 : Nat) : Int) = c ∧ ((fld (cmdBytesB a b c d e f g h) 3 4 : Nat) : Int) = d ∧ ((fld (cmdBytesB a b c d e f g h) 7 1 : Nat) : Int) = e ∧ ((fld (cmdBytesB a b c d e f g h) 8 3 : Nat) : Int) = f ∧ ((fld (cmdBytesB a b c d e f g h) 11 3 : Nat) : Int) = g ∧ ((fld (cmdBytesB a b c d e f g h) 14 1 : Nat) : Int) = h := by
  have hl := cmdBytesB_list a b c d e f g h hk
  obtain ⟨ka, kb, kc, kd, ke, kf, kg, kh⟩ := cmd_fits hk
  unfold frameL at hl
  have f0 := fld_mid (s := cmdBytesB a b c d e f g h) (i := 0) (k := 1) (N := a.toNat) ([]) (be 1 b.toNat ++ be 1 c.toNat ++ be 4 d.toNat ++ be 1 e.toNat ++ be 3 f.toNat ++ be 3 g.toNat ++ be 1 h.toNat) (by rw [hl]; simp only [List.append_assoc, List.nil_append, List.append_nil]) (by simp [be_length]) (by omega)
  have f1 := fld_mid (s := cmdBytesB a b c d e f g h) (i := 1) (k := 1) (N := b.toNat) (be 1 a.toNat) (be 1 c.toNat ++ be 4 d.toNat ++ be 1 e.toNat ++ be 3 f.toNat ++ be 3 g.toNat ++ be 1 h.toNat) (by rw [hl]; simp only [List.append_assoc, List.nil_append, List.append_nil]) (by simp [be_length]) (by omega)
  have f2 := fld_mid (s := cmdBytesB a b c d e f g h) (i := 2) (k := 1) (N := c.toNat) (be 1 a.toNat ++ be 1 b.toNat) (be 4 d.toNat ++ be 1 e.toNat ++ be 3 f.toNat ++ be 3 g.toNat ++ be 1 h.toNat) (by rw [hl]; simp only [List.append_assoc, List.nil_append, List.append_nil]) (by simp [be_length]) (by omega)
  have f3 := fld_mid (s := cmdBytesB a b c d e f g h) (i := 3) (k := 4) (N := d.toNat) (be 1 a.toNat ++ be 1 b.toNat ++ be 1 c.toNat) (be 1 e.toNat ++ be 3 f.toNat ++ be 3 g.toNat ++ be 1 h.toNat) (by rw [hl]; simp only [List.append_assoc, List.nil_append, List.append_nil]) (by simp [be_length]) (by omega)
  have f4 := fld_mid (s := cmdBytesB a b c d e f g h) (i := 7) (k := 1) (N := e.toNat) (be 1 a.toNat ++ be 1 b.toNat ++ be 1 c.toNat ++ be 4 d.toNat) (be 3 f.toNat ++ be 3 g.toNat ++ be 1 h.toNat) (by rw [hl]; simp only [List.append_assoc, List.nil_append, List.append_nil]) (by simp [be_length]) (by omega)
  have f5 := fld_mid (s := cmdBytesB a b c d e f g h) (i := 8) (k := 3) (N := f.toNat) (be 1 a.toNat ++ be 1 b.toNat ++ be 1 c.toNat ++ be 4 d.toNat ++ be 1 e.toNat) (be 3 g.toNat ++ be 1 h.toNat) (by rw [hl]; simp only [List.append_assoc, List.nil_append, List.append_nil]) (by simp [be_length]) (by omega)
  have f6 := fld_mid (s := cmdBytesB a b c d e f g h) (i := 11) (k := 3) (N := g.toNat) (be 1 a.toNat ++ be 1 b.toNat ++ be 1 c.toNat ++ be 4 d.toNat ++ be 1 e.toNat ++ be 3 f.toNat) (be 1 h.toNat) (by rw [hl]; simp only [List.append_assoc, List.nil_append, List.append_nil]) (by simp [be_length]) (by omega)
  have f7 := fld_mid (s := cmdBytesB a b c d e f g h) (i := 14) (k := 1) (N := h.toNat) (be 1 a.toNat ++ be 1 b.toNat ++ be 1 c.toNat ++ be 4 d.toNat ++ be 1 e.toNat ++ be 3 f.toNat ++ be 3 g.toNat) ([]) (by rw [hl]; simp only [List.append_assoc, List.nil_append, List.append_nil]) (by simp [be_length]) (by omega)
  exact ⟨by rw [f0]; omega, by rw [f1]; omega, by rw [f2]; omega, by rw [f3]; omega, by rw [f4]; omega, by rw [f5]; omega, by rw [f6]; omega, by rw [f7]; omega⟩
end Go.Proofs.Ythmoddohkchhfaa
