/-
 Cmd, CmdS, Bytes, Rec, ListRec.
-/
import Derived.Test.YtgjjdnojiegidaaGreatDoorTak
import Derived.Test.YtgjjdnojiegidaaGreatDoorHA
import Derived.Handy
import Derived.Deep.RegionHeld3
namespace Go.Proofs.YtgjjdnojiegidaaGreatDoor
open Go.RowKit Wire
set_option maxHeartbeats 1600000
set_option maxRecDepth 100000

def cfB (u : Bool) (n lo hi : Int) : Bool := if u then inB lo n hi else n == 0

theorem fieldOk_any (u : Bool) (n lo hi : Int) (w : World) :
 Calls Tryz.prog 97 #[.bool u, .int .i64 n, .int .i64 lo, .int .i64 hi] w fun e w' => e = .returned (.bool (cfB u n lo hi)) ∧ w = w' := by
 have hnot : ∀ (x : Bool) (w : World), (Op.unary .not (.bool x)).run Tryz.prog w = .ok (.bool (!x)) w := fun _ _ => rfl
 cases u
 · go_enter Tryz.func97, Tryz.ntmps97
   go_wp2_with fail
   go_ret
   exact ⟨rfl, rfl⟩
 · go_enter Tryz.func97, Tryz.ntmps97
   go_wp2_with fail
   refine (within_any _ _ _ _).mono ?_
   rintro e w' ⟨rfl, rfl⟩
   go_wp2_with fail
   go_ret
   exact ⟨rfl, rfl⟩

def cmdB (a b c d e f g h : Int) : Bool :=
 inB 1 a 10 && (inB 1 c 100 && (cfB (decide (a ≤ 7)) b 0 3 && (cfB (decide (a ≤ 7)) d 1 1000000000 && (cfB (decide (a ≤ 5)) e 1 2 &&
  (cfB ((decide (a ≤ 5) || a == 7) && a != 2) f 1 1000000 && (cfB (decide (a ≤ 5) || a == 7) g 1 1000000 && cfB (decide (a ≤ 5) || a == 7) h 1 3))))))

theorem impl_CmdOk (a b c d e f g h : Int) (w : World) :
 Calls Tryz.prog 74 #[.agg #[.int .i64 a, .int .i64 b, .int .i64 c, .int .i64 d, .int .i64 e, .int .i64 f, .int .i64 g, .int .i64 h]] w
  fun x w' => x = .returned (.bool (cmdB a b c d e f g h)) ∧ Below w.heap.size w w' := by
 by_cases k0 : inB 1 a 10 = true
 · by_cases k5 : a ≤ 5
   · go_enter Tryz.func74, Tryz.ntmps74
     go_wp2_with (first | (go_at_call 95; refine (within_any _ _ _ _).mono ?_; rintro e w' ⟨rfl, rfl⟩) | (go_at_call 96; go_in) | (go_at_call 97; refine (fieldOk_any _ _ _ _ _).mono ?_; rintro e w' ⟨rfl, rfl⟩))
     all_goals
      go_ret
      refine ⟨ret_bool ?_, (by first | exact (Below.refl _ _).alloc (Nat.le_refl _) _ | exact ((Below.refl _ _).alloc (Nat.le_refl _) _).alloc (by simp) _)⟩
      simp [cmdB, *]
   · by_cases k7 : a = 7
     · subst k7
       go_enter Tryz.func74, Tryz.ntmps74
       go_wp2_with (first | (go_at_call 95; refine (within_any _ _ _ _).mono ?_; rintro e w' ⟨rfl, rfl⟩) | (go_at_call 96; go_in) | (go_at_call 97; refine (fieldOk_any _ _ _ _ _).mono ?_; rintro e w' ⟨rfl, rfl⟩))
       all_goals
        go_ret
        refine ⟨ret_bool ?_, (by first | exact (Below.refl _ _).alloc (Nat.le_refl _) _ | exact ((Below.refl _ _).alloc (Nat.le_refl _) _).alloc (by simp) _)⟩
        simp [cmdB, *]
     · have z : (decide (a ≤ 5) || a == 7) = false := by simp [k5, k7]
       have z5 : decide (a ≤ 5) = false := by simpa using k5
       have z7 : (a == 7) = false := by simpa using k7
       go_enter Tryz.func74, Tryz.ntmps74
       go_wp2_with (first | (go_at_call 95; refine (within_any _ _ _ _).mono ?_; rintro e w' ⟨rfl, rfl⟩) | (go_at_call 96; go_in) | (go_at_call 97; refine (fieldOk_any _ _ _ _ _).mono ?_; rintro e w' ⟨rfl, rfl⟩))
       all_goals
        go_ret
        refine ⟨ret_bool ?_, (by first | exact (Below.refl _ _).alloc (Nat.le_refl _) _ | exact ((Below.refl _ _).alloc (Nat.le_refl _) _).alloc (by simp) _)⟩
        simp [cmdB, *]
 · go_enter Tryz.func74, Tryz.ntmps74
   go_wp2_with (first | (go_at_call 95; refine (within_any _ _ _ _).mono ?_; rintro e w' ⟨rfl, rfl⟩) | (go_at_call 96; go_in) | (go_at_call 97; refine (fieldOk_any _ _ _ _ _).mono ?_; rintro e w' ⟨rfl, rfl⟩))
   all_goals
    go_ret
    refine ⟨ret_bool ?_, (by first | exact (Below.refl _ _).alloc (Nat.le_refl _) _ | exact ((Below.refl _ _).alloc (Nat.le_refl _) _).alloc (by simp) _)⟩
    simp [cmdB, *]
theorem l1Acct_any (n : Int) (w : World) :
 Calls Tryz.prog 34 #[.int .i64 n] w fun e w' => e = .returned (.bool (inB 1 n 100)) ∧ w = w' := by
 go_enter Tryz.func34, Tryz.ntmps34
 go_wp2_with (go_at_call 35; refine (l1In_any _ _ _ _).mono ?_; rintro e w' ⟨rfl, rfl⟩)
 go_ret
 exact ⟨rfl, rfl⟩
theorem l1Id_any (n : Int) (w : World) :
 Calls Tryz.prog 37 #[.int .i64 n] w fun e w' => e = .returned (.bool (inB 1 n 1000000000)) ∧ w = w' := by
 go_enter Tryz.func37, Tryz.ntmps37
 go_wp2_with (go_at_call 35; refine (l1In_any _ _ _ _).mono ?_; rintro e w' ⟨rfl, rfl⟩)
 go_ret
 exact ⟨rfl, rfl⟩

def coB (a d e f g h : Int) : Bool :=
 (if a = 2 then f == 0 else inB 1 f 1000000) && (inB 1 d 1000000000 && (inB 1 e 2 && (inB 1 g 1000000 && inB 1 h 3)))

theorem l1Order_any (a b c d e f g h : Int) (w : World) :
 Calls Tryz.prog 36 #[.agg #[.int .i64 a, .int .i64 b, .int .i64 c, .int .i64 d, .int .i64 e, .int .i64 f, .int .i64 g, .int .i64 h]] w
  fun x w' => x = .returned (.bool (coB a d e f g h)) ∧ Below w.heap.size w w' := by
 by_cases k2 : a = 2
 · subst k2
   go_enter Tryz.func36, Tryz.ntmps36
   go_wp2_with (first | (go_at_call 35; refine (l1In_any _ _ _ _).mono ?_; rintro e w' ⟨rfl, rfl⟩) | (go_at_call 37; refine (l1Id_any _ _).mono ?_; rintro e w' ⟨rfl, rfl⟩))
   all_goals
    go_ret
    refine ⟨ret_bool ?_, (Below.refl _ _).alloc (Nat.le_refl _) _⟩
    simp [coB, *]
 · have z : (a == 2) = false := by simpa using k2
   go_enter Tryz.func36, Tryz.ntmps36
   go_wp2_with (first | (go_at_call 35; refine (l1In_any _ _ _ _).mono ?_; rintro e w' ⟨rfl, rfl⟩) | (go_at_call 37; refine (l1Id_any _ _).mono ?_; rintro e w' ⟨rfl, rfl⟩))
   all_goals
    go_ret
    refine ⟨ret_bool ?_, (Below.refl _ _).alloc (Nat.le_refl _) _⟩
    simp [coB, *]

end Go.Proofs.YtgjjdnojiegidaaGreatDoor

namespace Go.Proofs.YtgjjdnojiegidaaGreatDoor
open Go.RowKit Wire
set_option maxHeartbeats 1600000
set_option maxRecDepth 100000

theorem cmd_ord (a b c d e f g h : Int) (ha : 1 ≤ a) (h5 : a ≤ 5) : cmdB a b c d e f g h = (inB 1 c 100 && (inB 0 b 3 && coB a d e f g h)) := by
 have h0 : inB 1 a 10 = true := inB_yes ha (by omega)
 have h5' : decide (a ≤ 5) = true := by simpa using h5
 have h7' : decide (a ≤ 7) = true := by simp; omega
 by_cases k2 : a = 2
 · subst k2
   simp only [cmdB, coB, cfB, h0]
   cases inB 1 c 100 <;> cases inB 0 b 3 <;> cases inB 1 d 1000000000 <;> cases inB 1 e 2 <;> cases inB 1 g 1000000 <;> cases inB 1 h 3 <;> simp
 · have z : (a != 2) = true := by simpa using k2
   simp only [cmdB, coB, cfB, h0, h5', h7', k2, z]
   cases inB 1 c 100 <;> cases inB 0 b 3 <;> cases inB 1 d 1000000000 <;> cases inB 1 e 2 <;> cases inB 1 g 1000000 <;> cases inB 1 h 3 <;> simp

theorem spec_CmdOk_ord (a b c d e f g h : Int) (w : World) (ha : a = 1 ∨ a = 2 ∨ a = 3 ∨ a = 4 ∨ a = 5) :
 Calls Tryz.prog 17 #[.agg #[.int .i64 a, .int .i64 b, .int .i64 c, .int .i64 d, .int .i64 e, .int .i64 f, .int .i64 g, .int .i64 h]] w
  fun x w' => x = .returned (.bool (cmdB a b c d e f g h)) ∧ Below w.heap.size w w' := by
 rw [cmd_ord a b c d e f g h (by omega) (by omega)]
 rcases Bool.eq_false_or_eq_true (inB 1 c 100) with kc | kc <;> rcases ha with rfl | rfl | rfl | rfl | rfl
 all_goals
  go_enter Tryz.func17, Tryz.ntmps17
  go_wp2_with (first
   | (go_at_call 35; refine (l1In_any _ _ _ _).mono ?_; rintro e w' ⟨rfl, rfl⟩)
   | (go_at_call 34; refine (l1Acct_any _ _).mono ?_; rintro e w' ⟨rfl, rfl⟩)
   | (go_at_call 36; refine (l1Order_any _ _ _ _ _ _ _ _ _).mono ?_; rintro e w1 ⟨rfl, hb⟩))
  all_goals
   go_ret
   refine ⟨ret_bool ?_, ?_⟩
   · simp [*]
   · first
      | exact (Below.refl _ _).alloc (Nat.le_refl _) _
      | (refine ((Below.refl _ _).alloc (Nat.le_refl _) _).trans (Below.mono (by assumption) ?_); simp)

theorem spec_CmdOk_rest (a b c d e f g h : Int) (w : World) (ha : a = 6 ∨ a = 7 ∨ a = 8 ∨ a = 9 ∨ a = 10) :
 Calls Tryz.prog 17 #[.agg #[.int .i64 a, .int .i64 b, .int .i64 c, .int .i64 d, .int .i64 e, .int .i64 f, .int .i64 g, .int .i64 h]] w
  fun x w' => x = .returned (.bool (cmdB a b c d e f g h)) ∧ Below w.heap.size w w' := by
 have hv : inB 1 a 10 = true := inB_yes (by omega) (by omega)
 rcases Bool.eq_false_or_eq_true (inB 1 c 100) with kc | kc <;> rcases ha with rfl | rfl | rfl | rfl | rfl
 all_goals
  go_enter Tryz.func17, Tryz.ntmps17
  go_wp2_with (first
   | (go_at_call 35; refine (l1In_any _ _ _ _).mono ?_; rintro e w' ⟨rfl, rfl⟩)
   | (go_at_call 37; refine (l1Id_any _ _).mono ?_; rintro e w' ⟨rfl, rfl⟩)
   | (go_at_call 34; refine (l1Acct_any _ _).mono ?_; rintro e w' ⟨rfl, rfl⟩))
  all_goals
   go_ret
   refine ⟨ret_bool ?_, (Below.refl _ _).alloc (Nat.le_refl _) _⟩
   simp [cmdB, cfB, *]

theorem spec_CmdOk_none (a b c d e f g h : Int) (w : World) (ha : ¬ (1 ≤ a ∧ a ≤ 10)) :
 Calls Tryz.prog 17 #[.agg #[.int .i64 a, .int .i64 b, .int .i64 c, .int .i64 d, .int .i64 e, .int .i64 f, .int .i64 g, .int .i64 h]] w
  fun x w' => x = .returned (.bool (cmdB a b c d e f g h)) ∧ Below w.heap.size w w' := by
 have hv : inB 1 a 10 = false := inB_no ha
 have z1 : (a == 1) = false := beq_eq_false_iff_ne.2 (by omega)
 have z2 : (a == 2) = false := beq_eq_false_iff_ne.2 (by omega)
 have z3 : (a == 3) = false := beq_eq_false_iff_ne.2 (by omega)
 have z4 : (a == 4) = false := beq_eq_false_iff_ne.2 (by omega)
 have z5 : (a == 5) = false := beq_eq_false_iff_ne.2 (by omega)
 have z6 : (a == 6) = false := beq_eq_false_iff_ne.2 (by omega)
 have z7 : (a == 7) = false := beq_eq_false_iff_ne.2 (by omega)
 have z8 : (a == 8) = false := beq_eq_false_iff_ne.2 (by omega)
 have z9 : (a == 9) = false := beq_eq_false_iff_ne.2 (by omega)
 have z10 : (a == 10) = false := beq_eq_false_iff_ne.2 (by omega)
 have hc : cmdB a b c d e f g h = false := by simp [cmdB, hv]
 rw [hc]
 clear hc ha
 go_enter Tryz.func17, Tryz.ntmps17
 go_wp2_with (first
  | (go_at_call 34; refine (l1Acct_any _ _).mono ?_; rintro e w' ⟨rfl, rfl⟩))
 all_goals
  go_ret
  exact ⟨rfl, (Below.refl _ _).alloc (Nat.le_refl _) _⟩

theorem spec_CmdOk (a b c d e f g h : Int) (w : World) :
 Calls Tryz.prog 17 #[.agg #[.int .i64 a, .int .i64 b, .int .i64 c, .int .i64 d, .int .i64 e, .int .i64 f, .int .i64 g, .int .i64 h]] w
  fun x w' => x = .returned (.bool (cmdB a b c d e f g h)) ∧ Below w.heap.size w w' := by
 by_cases ha : 1 ≤ a ∧ a ≤ 10
 · by_cases h5 : a ≤ 5
   · exact spec_CmdOk_ord a b c d e f g h w (by omega)
   · exact spec_CmdOk_rest a b c d e f g h w (by omega)
 · exact spec_CmdOk_none a b c d e f g h w ha
end Go.Proofs.YtgjjdnojiegidaaGreatDoor

namespace Go.Proofs.YtgjjdnojiegidaaGreatDoor
open Go.RowKit Wire
set_option maxHeartbeats 1600000
set_option maxRecDepth 100000

theorem toCmd_any (a b c d e f g h : Int) (w : World) :
 Calls Tryz.prog 7 #[.agg #[.int .i64 a, .int .i64 b, .int .i64 c, .int .i64 d, .int .i64 e, .int .i64 f, .int .i64 g, .int .i64 h]] w
  fun x w' => x = .returned (.agg #[.int .i64 a, .int .i64 b, .int .i64 c, .int .i64 d, .int .i64 e, .int .i64 f, .int .i64 g, .int .i64 h]) ∧ Below w.heap.size w w' := by
 go_enter Tryz.func7, Tryz.ntmps7
 go_wp2
 refine bodyPost_ret (v := .agg #[.int .i64 a, .int .i64 b, .int .i64 c, .int .i64 d, .int .i64 e, .int .i64 f, .int .i64 g, .int .i64 h]) (by simp [results, Tryz.results7, go_sem]) rfl ⟨rfl, ?_⟩
 go_grown
end Go.Proofs.YtgjjdnojiegidaaGreatDoor

namespace Go.Proofs.YtgjjdnojiegidaaGreatDoor
open Go.RowKit Wire
set_option maxHeartbeats 1600000
set_option maxRecDepth 100000

def recB (a b c d e f g h : Int) : Bool := inB 0 a 1000000000 && (inB 1 b 5 && (inB 0 c 255 && (inB 0 d 255 && (inB 0 e 1000000000 && (inB 0 f 1000000000 && (inB 0 g 1000000 && (inB 0 h 1000000)))))))
theorem rec_fits {a b c d e f g h : Int} (k : recB a b c d e f g h = true) : (0 ≤ a ∧ a ≤ 1000000000) ∧ (0 ≤ b ∧ b ≤ 5) ∧ (0 ≤ c ∧ c ≤ 255) ∧ (0 ≤ d ∧ d ≤ 255) ∧ (0 ≤ e ∧ e ≤ 1000000000) ∧ (0 ≤ f ∧ f ≤ 1000000000) ∧ (0 ≤ g ∧ g ≤ 1000000) ∧ (0 ≤ h ∧ h ≤ 1000000) := by
 simp [recB, inB] at k
 omega
theorem impl_RecOk (a b c d e f g h : Int) (w : World) :
 Calls Tryz.prog 128 #[.agg #[.int .i64 a, .int .i64 b, .int .i64 c, .int .i64 d, .int .i64 e, .int .i64 f, .int .i64 g, .int .i64 h]] w fun x w' => x = .returned (.bool (recB a b c d e f g h)) ∧ Below w.heap.size w w' := by
 go_enter Tryz.func128, Tryz.ntmps128
 go_wp2_with (go_at_call 95; refine (within_any _ _ _ _).mono ?_; rintro e w' ⟨rfl, rfl⟩)
 all_goals
  go_ret
  refine ⟨ret_bool ?_, (Below.refl _ _).alloc (Nat.le_refl _) _⟩
  simp [recB, *]
end Go.Proofs.YtgjjdnojiegidaaGreatDoor

namespace Go.Proofs.YtgjjdnojiegidaaGreatDoor
open Go.RowKit Wire
set_option maxHeartbeats 1600000
set_option maxRecDepth 100000

theorem rec_info : (Tryz.prog.info? 48).map (fun i => (i.zero, i.size, i.bytes)) = some (some (.agg #[.int .i64 0, .int .i64 0, .int .i64 0, .int .i64 0, .int .i64 0, .int .i64 0, .int .i64 0, .int .i64 0]), 8, 64) := by kernel_rfl
theorem eqRec_one (a b c d e f g h : Int) (w : World) :
 Calls Tryz.prog 29 #[.agg #[.int .i64 a, .int .i64 b, .int .i64 c, .int .i64 d, .int .i64 e, .int .i64 f, .int .i64 g, .int .i64 h], .agg #[.int .i64 a, .int .i64 b, .int .i64 c, .int .i64 d, .int .i64 e, .int .i64 f, .int .i64 g, .int .i64 h]] w fun x w' => x = .returned (.bool true) ∧ Below w.heap.size w w' := by
 go_enter Tryz.func29, Tryz.ntmps29
 go_wp2
 go_ret
 exact ⟨rfl, by go_grown⟩
theorem eqRecS_same (A B : Option Addr) (n c d : Nat) (zs : List Int) (w : World) (hA : Lst w w.heap.size 8 A n zs) (hB : Lst w w.heap.size 8 B n zs) (hn : n ≤ 1048576) :
 Calls Tryz.prog 10 #[.slice A n c, .slice B n d] w fun e w' => e = .returned (.bool true) ∧ Below w.heap.size w w' := by
 go_enter Tryz.func10, Tryz.ntmps10
 go_wp2_with fail
 go_loopw [5] (fun i wr => ∃ k : Nat, k ≤ n ∧ i = .int .i64 (k : Int) ∧ Below w.heap.size w wr) (fun i _ => n - (intOf i).toNat)
 case atStart => exact ⟨0, Nat.zero_le _, rfl, Below.refl _ _⟩
 case round =>
  obtain ⟨k, hk, rfl, hbel⟩ := hrel
  by_cases hlt : k < n
  · obtain ⟨b, o, rfl, hb, c0, c1, c2, c3, c4, c5, c6, c7⟩ := (hA.below hbel).row8 hlt
    obtain ⟨b', o', rfl, hb', d0, d1, d2, d3, d4, d5, d6, d7⟩ := (hB.below hbel).row8 hlt
    clear hA hB
    go_wp2_with fail
    have hb1 := hbel.size
    go_region_held3 (fun w' => Below w.heap.size w w' ∧ w'.cell? ⟨b, o + k * 8, none⟩ = some (.int .i64 (num zs (k * 8))) ∧ w'.cell? ⟨b, o + k * 8 + 1, none⟩ = some (.int .i64 (num zs (k * 8 + 1))) ∧ w'.cell? ⟨b, o + k * 8 + 2, none⟩ = some (.int .i64 (num zs (k * 8 + 2))) ∧ w'.cell? ⟨b, o + k * 8 + 3, none⟩ = some (.int .i64 (num zs (k * 8 + 3))) ∧ w'.cell? ⟨b, o + k * 8 + 4, none⟩ = some (.int .i64 (num zs (k * 8 + 4))) ∧ w'.cell? ⟨b, o + k * 8 + 5, none⟩ = some (.int .i64 (num zs (k * 8 + 5))) ∧ w'.cell? ⟨b, o + k * 8 + 6, none⟩ = some (.int .i64 (num zs (k * 8 + 6))) ∧ w'.cell? ⟨b, o + k * 8 + 7, none⟩ = some (.int .i64 (num zs (k * 8 + 7))) ∧ w'.cell? ⟨b', o' + k * 8, none⟩ = some (.int .i64 (num zs (k * 8))) ∧ w'.cell? ⟨b', o' + k * 8 + 1, none⟩ = some (.int .i64 (num zs (k * 8 + 1))) ∧ w'.cell? ⟨b', o' + k * 8 + 2, none⟩ = some (.int .i64 (num zs (k * 8 + 2))) ∧ w'.cell? ⟨b', o' + k * 8 + 3, none⟩ = some (.int .i64 (num zs (k * 8 + 3))) ∧ w'.cell? ⟨b', o' + k * 8 + 4, none⟩ = some (.int .i64 (num zs (k * 8 + 4))) ∧ w'.cell? ⟨b', o' + k * 8 + 5, none⟩ = some (.int .i64 (num zs (k * 8 + 5))) ∧ w'.cell? ⟨b', o' + k * 8 + 6, none⟩ = some (.int .i64 (num zs (k * 8 + 6))) ∧ w'.cell? ⟨b', o' + k * 8 + 7, none⟩ = some (.int .i64 (num zs (k * 8 + 7)))) (exact kp1)
     ((go_at_call 29; refine (eqRec_one _ _ _ _ _ _ _ _ _).mono ?_; rintro e w' ⟨rfl, hb⟩))
    go_wp2_with fail
    go_roundw
    case rel => exact ⟨k + 1, by omega, by go_num, by first | assumption | (simp only [*]; done)⟩
    case measure => simp [intOf]; omega
  · obtain rfl : k = n := by omega
    go_wp2_with fail
    go_ret
    exact ⟨rfl, hbel⟩
end Go.Proofs.YtgjjdnojiegidaaGreatDoor
