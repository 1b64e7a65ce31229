/-
  The document's decimal numbers.
-/
import Derived.Test.YtidcpijiklpfkaaDoorOwn
import Derived.Test.YtidcpijiklpfkaaDoorNum
import Derived.Lib.ItoaNum
import Derived.Handy
namespace Go.Proofs.YtidcpijiklpfkaaDoor
open Go.RowKit Wire

def slen : Value → Nat
  | .string s => s.size
  | _ => 0
theorem dec_conv (w : World) (b : UInt8) :
    Sem.run Tryd.prog (convert 41 9 (.slice (some ⟨w.heap.size, 0, none⟩) 1 1)) (w.alloc (.cells #[.int .u8 b.toNat] 5)) = .ok (.string ⟨#[b]⟩) (w.alloc (.cells #[.int .u8 b.toNat] 5)) := by
  have h := run_convert_bytes_back (P := Tryd.prog) (w.alloc (.cells #[.int .u8 b.toNat] 5)) 41 9 5 ⟨w.heap.size, 0, none⟩ 1 [b] Tryd.underlying41 Tryd.underlying5 Tryd.underlying9 ?_
  · exact h
  · intro j hj
    obtain rfl : j = 0 := by simp at hj; omega
    simp [Addr.add, go_sem]
theorem dec_cons (b : UInt8) (l : List UInt8) : (⟨#[b]⟩ : ByteArray) ++ ⟨l.toArray⟩ = ⟨(b :: l).toArray⟩ := by
  apply ByteArray.ext
  simp
/-- what is left of a number's digits: k is to be written ahead of l -/
def DecRel (u k : Nat) (l : List UInt8) : Prop := (l = [] ∧ k = u) ∨ (l ≠ [] ∧ ((k = 0 ∧ l = Lib.decDigits u) ∨ (k ≠ 0 ∧ Lib.decDigits k ++ l = Lib.decDigits u)))
theorem DecRel.step {u k : Nat} {l : List UInt8} (h : DecRel u k l) (hk : l = [] ∨ k ≠ 0) : DecRel u (k / 10) (UInt8.ofNat (48 + k % 10) :: l) := by
  have key : Lib.decDigits k ++ l = Lib.decDigits u := by
    rcases h with ⟨rfl, rfl⟩ | ⟨h1, ⟨h2, _⟩ | ⟨_, h3⟩⟩
    · simp
    · rcases hk with hk | hk
      · exact absurd hk h1
      · exact absurd h2 hk
    · exact h3
  refine .inr ⟨by simp, ?_⟩
  by_cases h10 : k < 10
  · refine .inl ⟨by omega, ?_⟩
    rw [← key, Lib.decDigits, dif_pos h10, show k % 10 = k by omega]
    rfl
  · refine .inr ⟨by omega, ?_⟩
    rw [← key]
    conv => rhs; rw [Lib.decDigits, dif_neg h10]
    simp
set_option maxHeartbeats 800000 in
set_option maxRecDepth 100000 in
theorem spec_l1Dec (u : Nat) (w : World) (hu : u ≤ 10000000000) :
    Calls Tryd.prog 47 #[.int .i64 (u : Int)] w fun e w' => e = .returned (.string ⟨(Lib.decDigits u).toArray⟩) ∧ Below w.heap.size w w' := by
  go_enter Tryd.func47, Tryd.ntmps47
  go_wp2_with fail
  go_loopw [0, 4] (fun nv sv wr => ∃ (k : Nat) (l : List UInt8), k + l.length ≤ u + 1 ∧ nv = .int .i64 (k : Int) ∧ sv = .string ⟨l.toArray⟩ ∧ Hid (DecRel u k l) ∧ Below w.heap.size w wr) (fun nv sv _ => (intOf nv).toNat + (1 - slen sv))
  case atStart => exact ⟨u, [], by simp, rfl, rfl, Lib.hid (.inl ⟨rfl, rfl⟩), Below.refl _ _⟩
  case round =>
    obtain ⟨k, l, hkl, rfl, rfl, hd, hb⟩ := hrel
    by_cases hend : l ≠ [] ∧ k = 0
    · have H : Hid (l = Lib.decDigits u) := Lib.hid (by
        rcases hd.out with ⟨h1, _⟩ | ⟨_, ⟨_, h⟩ | ⟨h2, _⟩⟩
        · exact absurd h1 hend.1
        · exact h
        · exact absurd hend.2 h2)
      obtain ⟨hl, rfl⟩ := hend
      cases l with
      | nil => exact absurd rfl hl
      | cons b t =>
        go_wp2_with fail
        go_ret
        exact ⟨by rw [← H.out]; rfl, hb⟩
    · obtain ⟨b, hst, hv⟩ : ∃ b : UInt8, Hid (DecRel u (k / 10) (b :: l)) ∧ (b.toNat : Int) = 48 + (k : Int) % 10 :=
        ⟨UInt8.ofNat (48 + k % 10), Lib.hid (hd.out.step (by by_cases h : l = []; exact .inl h; exact .inr fun h0 => hend ⟨h, h0⟩)), by rw [UInt8.toNat_ofNat']; omega⟩
      have hc := dec_conv wr b
      rw [hv] at hc
      have hcat := Lib.hid (dec_cons b l)
      have hlen : l.length ≤ 10000000001 := by omega
      clear hv hd
      cases l with
      | nil =>
        go_wp2_with fail
        go_roundw
        case rel => exact ⟨k / 10, [b], by simp; omega, by go_num, congrArg Value.string hcat.out, hst.out, hb.alloc hb.size _⟩
        case measure => simp [intOf, slen, ByteArray.size]; omega
      | cons b' t =>
        have hk : ¬ k = 0 := fun h => hend ⟨by simp, h⟩
        have hlen2 : t.length ≤ 10000000000 := by simp at hkl; omega
        have hk2 : ((k : Int) != 0) = true := by simpa using hk
        go_wp2_with fail
        go_roundw
        case rel => exact ⟨k / 10, b :: b' :: t, by simp at hkl ⊢; omega, by go_num, congrArg Value.string hcat.out, hst.out, hb.alloc hb.size _⟩
        case measure => simp [intOf, slen, ByteArray.size]; omega
end Go.Proofs.YtidcpijiklpfkaaDoor
