/-
 MtQ, MtR, MtM, MtN.
-/
import Derived.Test.YtgjjdnojiegidaaGreatDoorTak
import Derived.Test.YtgjjdnojiegidaaGreatDoorHD
import Derived.Test.YtgjjdnojiegidaaGreatDoorGQ
import Derived.Test.YtgjjdnojiegidaaGreatDoorMtI
import Derived.Test.YtgjjdnojiegidaaGreatDoorHC
import Derived.Test.YtgjjdnojiegidaaGreatDoorBookT
import Derived.Test.YtgjjdnojiegidaaGreatDoorGT
import Derived.Test.YtgjjdnojiegidaaGreatDoorMtS
import Derived.Test.YtgjjdnojiegidaaGreatDoorMtS2
namespace Go.Proofs.YtgjjdnojiegidaaGreatDoor
open Go.RowKit Wire
set_option maxHeartbeats 6400000
set_option maxRecDepth 100000
set_option linter.unusedSimpArgs false

def zq (zs : List Int) : Nat → List Int
 | 0 => zs
 | k + 1 => (zq zs k).set (k * 4 + 3) 0
theorem zq_len (zs : List Int) : ∀ k, (zq zs k).length = zs.length
 | 0 => rfl
 | k + 1 => by rw [zq, List.length_set, zq_len zs k]
theorem qnum_ne {L : List Int} {i j : Nat} {x : Int} (h : i ≠ j) : num (L.set i x) j = num L j := by
 unfold num
 rw [List.getD_eq_getElem?_getD, List.getD_eq_getElem?_getD, List.getElem?_set_ne h]
theorem qnum_eq {L : List Int} {i : Nat} {x : Int} (h : i < L.length) : num (L.set i x) i = x := by
 unfold num
 rw [List.getD_eq_getElem?_getD, List.getElem?_set_self h]
 rfl
theorem zq_other (zs : List Int) : ∀ k i, (∀ j, j < k → i ≠ j * 4 + 3) → num (zq zs k) i = num zs i
 | 0, i, _ => rfl
 | k + 1, i, h => by
  rw [zq, qnum_ne (fun e => h k (by omega) e.symm), zq_other zs k i (fun j hj => h j (by omega))]
theorem zq_zero {zs : List Int} {n : Nat} (hz : zs.length = n * 4) : ∀ k j, j < k → k ≤ n → num (zq zs k) (j * 4 + 3) = 0
 | 0, j, h, _ => absurd h (Nat.not_lt_zero j)
 | k + 1, j, h, hk => by
  rw [zq]
  by_cases e : j = k
  · subst e
    exact qnum_eq (by rw [zq_len]; omega)
  · rw [qnum_ne (by omega)]
    exact zq_zero hz k j (by omega) (by omega)
theorem drop4 {zs : List Int} {n k : Nat} (hz : zs.length = n * 4) (hk : k < n) : zs.drop (k * 4) = num zs (k * 4) :: num zs (k * 4 + 1) :: num zs (k * 4 + 2) :: num zs (k * 4 + 3) :: zs.drop ((k + 1) * 4) := by
 have s : ∀ j, j < zs.length → zs.drop j = num zs j :: zs.drop (j + 1) := fun j hj => by
  rw [List.drop_eq_getElem_cons hj]
  congr 1
  simp [num, List.getElem?_eq_getElem hj]
 rw [s _ (by omega), s _ (by omega), s _ (by omega), s _ (by omega)]
 rw [show k * 4 + 1 + 1 + 1 + 1 = (k + 1) * 4 by omega]
theorem tkQ_tail {cs zs : List Int} {n k : Nat} (hz : zs.length = n * 4) (hk : k ≤ n) (h0 : ∀ j, j < k → num cs (j * 4 + 3) = 0) (h1 : ∀ j, k ≤ j → j < n → num cs (j * 4 + 3) ≠ 0) (he : ∀ i, k * 4 ≤ i → num cs i = num zs i) : ∀ m, k ≤ m → m ≤ n → tkZQ cs 0 m = (zs.drop (k * 4)).take ((m - k) * 4) ∧ tkNQ cs 0 m = m - k := by
 have hz0 : ∀ m, m ≤ k → tkZQ cs 0 m = [] ∧ tkNQ cs 0 m = 0 := fun m => by
  induction m with
  | zero => exact fun _ => ⟨rfl, rfl⟩
  | succ m ih =>
   intro h
   obtain ⟨a, b⟩ := ih (by omega)
   rw [tkZQ, tkNQ, if_pos (h0 m (by omega)), if_pos (h0 m (by omega))]
   exact ⟨a, b⟩
 intro m
 induction m with
 | zero =>
  intro a _
  obtain rfl : k = 0 := by omega
  exact ⟨by simp [tkZQ], rfl⟩
 | succ m ih =>
  intro a b
  by_cases e : k = m + 1
  · subst e
    obtain ⟨x, y⟩ := hz0 (m + 1) (Nat.le_refl _)
    rw [x, y]
    simp
  · obtain ⟨x, y⟩ := ih (by omega) (by omega)
    have hne := h1 m (by omega) (by omega)
    rw [tkZQ, tkNQ, if_neg hne, if_neg hne, x, y]
    refine ⟨?_, by omega⟩
    have e4 : (m + 1 - k) * 4 = (m - k) * 4 + 1 + 1 + 1 + 1 := by omega
    have s : ∀ j, j < (zs.drop (k * 4)).length → (zs.drop (k * 4)).take (j + 1) = (zs.drop (k * 4)).take j ++ [num zs (k * 4 + j)] := fun j hj => by
     rw [List.take_succ_eq_append_getElem hj]
     congr 1
     simp at hj
     simp [num, List.getElem?_eq_getElem (show k * 4 + j < zs.length by omega)]
    have hl : (zs.drop (k * 4)).length = n * 4 - k * 4 := by simp [hz]
    rw [e4, s _ (by omega), s _ (by omega), s _ (by omega), s _ (by omega), he _ (by omega), he _ (by omega), he _ (by omega), he _ (by omega)]
    have f : ∀ i, k * 4 + ((m - k) * 4 + i) = m * 4 + i := fun i => by omega
    simp only [List.append_assoc, List.cons_append, List.nil_append]
    rw [show k * 4 + (m - k) * 4 = m * 4 by omega, show k * 4 + ((m - k) * 4 + 1) = m * 4 + 1 by omega, show k * 4 + ((m - k) * 4 + 1 + 1) = m * 4 + 2 by omega, show k * 4 + ((m - k) * 4 + 1 + 1 + 1) = m * 4 + 3 by omega]
theorem tkQ_zq {zs : List Int} {n k : Nat} (hz : zs.length = n * 4) (hk : k ≤ n) (hq : qtyOk zs n) : tkZQ (zq zs k) 0 n = zs.drop (k * 4) ∧ tkNQ (zq zs k) 0 n = n - k := by
 obtain ⟨a, b⟩ := tkQ_tail (cs := zq zs k) hz hk (fun j hj => zq_zero hz k j hj hk) (fun j h1 h2 => by rw [zq_other zs k _ (fun i hi => by omega)]; have := (hq j h2).1; omega) (fun i hi => zq_other zs k i (fun j hj => by omega)) n hk (Nat.le_refl _)
 rw [a, b]
 exact ⟨List.take_of_length_le (by simp [hz]; omega), rfl⟩
theorem tkQ_set {zs : List Int} {n k : Nat} {x : Int} (hz : zs.length = n * 4) (hk : k < n) (hq : qtyOk zs n) (hx : 0 < x) : tkZQ ((zq zs k).set (k * 4 + 3) x) 0 n = num zs (k * 4) :: num zs (k * 4 + 1) :: num zs (k * 4 + 2) :: x :: zs.drop ((k + 1) * 4) ∧ tkNQ ((zq zs k).set (k * 4 + 3) x) 0 n = n - k := by
 have hz' : (zs.set (k * 4 + 3) x).length = n * 4 := by simp [hz]
 have hl : k * 4 + 3 < (zq zs k).length := by rw [zq_len]; omega
 obtain ⟨a, b⟩ := tkQ_tail (cs := (zq zs k).set (k * 4 + 3) x) (zs := zs.set (k * 4 + 3) x) (n := n) (k := k) hz' (by omega)
  (fun j hj => by rw [qnum_ne (by omega)]; exact zq_zero hz k j hj (by omega))
  (fun j h1 h2 => by
   by_cases e : j = k
   · subst e; rw [qnum_eq hl]; omega
   · rw [qnum_ne (by omega), zq_other zs k _ (fun i hi => by omega)]; have := (hq j h2).1; omega)
  (fun i hi => by
   by_cases e : i = k * 4 + 3
   · subst e; rw [qnum_eq hl, qnum_eq (by omega)]
   · rw [qnum_ne (fun h => e h.symm), qnum_ne (fun h => e h.symm)]; exact zq_other zs k i (fun j hj => by omega)) n (by omega) (Nat.le_refl _)
 rw [a, b]
 refine ⟨?_, rfl⟩
 rw [List.take_of_length_le (by simp [hz]; omega), drop4 hz' hk, qnum_ne (by omega), qnum_ne (by omega), qnum_ne (by omega), qnum_eq (by omega), List.drop_set_of_lt (by omega)]
theorem meet_step {zs : List Int} {n k N N' : Nat} {side oi oa op mode q q' c' : Int} {R R' : List Int} (hz : zs.length = n * 4) (hk : k < n) (hq : qtyOk zs n) (h0 : 0 < q) (hm : meetB side op (num zs (k * 4 + 2)) = true)
 (hr : MeetRel oi oa op q mode (num zs (k * 4)) (num zs (k * 4 + 1)) (num zs (k * 4 + 2)) (num zs (k * 4 + 3)) N R q' N' R' c') :
 (0 < q' ∧ c' = 0 ∧ mtS side oi oa op mode (zs.drop (k * 4)) R q = mtS side oi oa op mode (zs.drop ((k + 1) * 4)) R' q') ∨
 (q' = 0 ∧ 0 ≤ c' ∧ mtS side oi oa op mode (zs.drop (k * 4)) R q = (tkZQ ((zq zs k).set (k * 4 + 3) c') 0 n, R', 0)) := by
 have hc := hq k hk
 have e0 : tkZQ ((zq zs k).set (k * 4 + 3) 0) 0 n = zs.drop ((k + 1) * 4) := (tkQ_zq (k := k + 1) hz (by omega) hq).1
 rw [drop4 hz hk, mtS_cons, if_pos ⟨h0, hm⟩]
 have hlt : (zs.drop ((k + 1) * 4)).length = (n - (k + 1)) * 4 := by simp [hz]; omega
 rcases hr with ⟨ha, hm1, rfl, rfl, rfl, rfl⟩ | ⟨ha, hm2, rfl, rfl, rfl, rfl⟩ | ⟨ha, hm1, hm2, rfl, rfl, rfl, rfl⟩ | ⟨ha, rfl, rfl, rfl, rfl⟩
 · rw [if_pos ha, if_pos hm1]
   exact .inr ⟨rfl, by omega, by rw [(tkQ_set hz hk hq (by omega)).1]⟩
 · rw [if_pos ha, if_neg (by omega), if_pos hm2]
   exact .inl ⟨h0, rfl, rfl⟩
 · rw [if_pos ha, if_neg hm1, if_neg hm2]
   exact .inr ⟨rfl, Int.le_refl _, by rw [e0]⟩
 · rw [if_neg ha]
   by_cases hcq : num zs (k * 4 + 3) ≤ q
   · rw [if_pos hcq, show min q (num zs (k * 4 + 3)) = num zs (k * 4 + 3) by omega]
     by_cases e : num zs (k * 4 + 3) = q
     · refine .inr ⟨by omega, by omega, ?_⟩
       rw [e, Int.sub_self, mtS_done (by omega) _ hlt, e0]
     · exact .inl ⟨by omega, by omega, rfl⟩
   · rw [if_neg hcq, show min q (num zs (k * 4 + 3)) = q by omega]
     exact .inr ⟨by omega, by omega, by rw [(tkQ_set hz hk hq (by omega)).1]⟩
end Go.Proofs.YtgjjdnojiegidaaGreatDoor

namespace Go.Proofs.YtgjjdnojiegidaaGreatDoor
open Go.RowKit Wire
set_option maxHeartbeats 6400000
set_option maxRecDepth 100000
set_option linter.unusedSimpArgs false

def incB (oi oa op oq : Int) : Bool := inB 1 oi 1000000000 && (inB 1 oa 100 && (inB 0 op 1000000 && inB 1 oq 1000000))
def knowsB (bk : Bool) (za : List Int) (n : Nat) (zb : List Int) (m : Nat) (id : Int) : Bool := bk && seenB (idA za n zb) id (n + m)
theorem seen_one (f : Nat → Int) (x : Int) : ∀ k, seenB f x k = true ↔ ∃ j, j < k ∧ f j = x
 | 0 => by simp [seenB]
 | k + 1 => by
  rw [seenB, Bool.or_eq_true, seen_one f x k, beq_iff_eq]
  constructor
  · rintro (⟨j, h1, h2⟩ | h)
    · exact ⟨j, by omega, h2⟩
    · exact ⟨k, by omega, h⟩
  · rintro ⟨j, h1, h2⟩
    rcases Nat.lt_or_ge j k with h | h
    · exact .inl ⟨j, h, h2⟩
    · obtain rfl : j = k := by omega
      exact .inr h2
theorem find_knows {bk : Bool} {za zb : List Int} {n m : Nat} {id s : Int} {f : Nat → Int} {ok : Bool} (h : FindRel bk za n zb m id s f ok) : ok = knowsB bk za n zb m id := by
 unfold knowsB
 rcases h with ⟨h0, k, h1, _, h3, _, h5, _⟩ | ⟨h0, _, k, h1, _, h3, _, h5, _⟩ | ⟨h0, _, h5, _⟩
 · rw [h5, h0, Bool.true_and]
   exact ((seen_one _ _ _).2 ⟨k, by omega, by unfold idA; rw [if_pos h1]; exact h3⟩).symm
 · rw [h5, h0, Bool.true_and]
   exact ((seen_one _ _ _).2 ⟨n + k, by omega, by unfold idA; rw [if_neg (by omega), Nat.add_sub_cancel_left]; exact h3⟩).symm
 · rw [h5]
   rcases h0 with h0 | ⟨ha, hb⟩
   · rw [h0]; rfl
   · have : seenB (idA za n zb) id (n + m) = false := by
      rw [Bool.eq_false_iff]
      intro e
      obtain ⟨j, h1, h2⟩ := (seen_one _ _ _).1 e
      unfold idA at h2
      split at h2
      · exact ha j (by assumption) h2
      · exact hb (j - n) (by omega) h2
     rw [this, Bool.and_false]
def rgB (za : List Int) (n : Nat) (zb : List Int) (m : Nat) (side oi oa op oq mode : Int) : Bool := bookB za n zb m && (sideOkB side && (incB oi oa op oq && (inB 1 mode 3 && !knowsB (bookB za n zb m) za n zb m oi)))
theorem impl_incomingOk (oi oa op oq : Int) (w : World) :
 Calls Tryz.prog 107 #[.agg #[.int .i64 oi, .int .i64 oa, .int .i64 op, .int .i64 oq]] w fun e w' => e = .returned (.bool (incB oi oa op oq)) ∧ Below w.heap.size w w' := by
 by_cases h : op = 0
 · subst h
   go_enter Tryz.func107, Tryz.ntmps107
   go_wp2_with fail
   refine (impl_orderOk oi oa 1000000 oq _).mono ?_
   rintro e w1 ⟨rfl, hb⟩
   have hB := below_alloc hb
   clear hb
   go_wp2_with fail
   go_ret
   exact ⟨rfl, hB⟩
 · have t : (op == 0) = false := beq_eq_false_iff_ne.2 h
   have e : ordI oi oa op oq = incB oi oa op oq := by
    unfold ordI incB
    congr 2
    unfold inB
    rw [Bool.eq_iff_iff]
    simp
    omega
   have HE := Lib.hid e
   clear e h
   go_enter Tryz.func107, Tryz.ntmps107
   go_wp2_with fail
   refine (impl_orderOk oi oa op oq _).mono ?_
   rintro e w1 ⟨rfl, hb⟩
   have hB := below_alloc hb
   clear hb
   go_wp2_with fail
   go_ret
   exact ⟨by first | rfl | (rw [HE.out]; rfl), hB⟩
theorem rcell2 {w : World} {S : Nat} {a b : Value} {T : TypeId} (h : w.heap[S]? = some (.cells #[a, b] T (0, 0))) : w.cell? ⟨S, 0, none⟩ = some a ∧ w.cell? ⟨S, 1, none⟩ = some b := by
 refine ⟨?_, ?_⟩ <;> simp [World.cell?, h]
theorem rrcell4 {w : World} {S : Nat} {a b c d : Value} {T : TypeId} (h : w.heap[S]? = some (.cells #[a, b, c, d] T (0, 0))) : w.cell? ⟨S, 0, none⟩ = some a ∧ w.cell? ⟨S, 1, none⟩ = some b ∧ w.cell? ⟨S, 2, none⟩ = some c ∧ w.cell? ⟨S, 3, none⟩ = some d := by
 refine ⟨?_, ?_, ?_, ?_⟩ <;> simp [World.cell?, h]
end Go.Proofs.YtgjjdnojiegidaaGreatDoor

namespace Go.Proofs.YtgjjdnojiegidaaGreatDoor
open Go.RowKit Go.Shelf Wire
set_option maxHeartbeats 6400000
set_option maxRecDepth 100000
set_option linter.unusedSimpArgs false

def mtA (side oi oa op oq mode : Int) (za zb : List Int) : List Int × List Int × Int := mtS side oi oa op mode (if side = 1 then zb else za) [] oq
def mZ1 (rg : Bool) (side oi oa op oq mode : Int) (za zb : List Int) : List Int := if rg = true then (if side = 1 then za else (mtA side oi oa op oq mode za zb).1) else []
def mZ2 (rg : Bool) (side oi oa op oq mode : Int) (za zb : List Int) : List Int := if rg = true then (if side = 1 then (mtA side oi oa op oq mode za zb).1 else zb) else []
def mRR (rg : Bool) (side oi oa op oq mode : Int) (za zb : List Int) : List Int := if rg = true then (mtA side oi oa op oq mode za zb).2.1 else []
def mLL (rg : Bool) (side oi oa op oq mode : Int) (za zb : List Int) : Int := if rg = true then (mtA side oi oa op oq mode za zb).2.2 else 0
theorem rg_parts {za zb : List Int} {n m : Nat} {side oi oa op oq mode : Int} (h : rgB za n zb m side oi oa op oq mode = true) :
 bookB za n zb m = true ∧ sideOkB side = true ∧ incB oi oa op oq = true ∧ inB 1 mode 3 = true ∧ knowsB (bookB za n zb m) za n zb m oi = false ∧ n ≤ 20 ∧ m ≤ 20 ∧ qtyOk za n ∧ qtyOk zb m ∧ 1 ≤ oq ∧ oq ≤ 1000000 := by
 simp only [rgB, Bool.and_eq_true, Bool.not_eq_true'] at h
 obtain ⟨h1, h2, h3, h4, h5⟩ := h
 have hb := h1
 simp only [bookB, sideB, Bool.and_eq_true, decide_eq_true_eq] at hb
 have hi := h3
 simp only [incB, inB, Bool.and_eq_true, decide_eq_true_eq] at hi
 exact ⟨h1, h2, h3, h4, h5, hb.1.1, hb.2.1.1, qtyOk_of hb.1.2.1, qtyOk_of hb.2.1.2.1, hi.2.2.2.1, hi.2.2.2.2⟩
def NormOnly (Q : Exit → Act → World → Prop) : Exit → Act → World → Prop
 | .normal, a, w => Q .normal a w
 | _, _, _ => False
theorem norm_imp {Q : Exit → Act → World → Prop} {e : Exit} {a : Act} {w : World} (h : NormOnly Q e a w) : Q e a w := by
 cases e with
 | normal => exact h
 | _ => exact h.elim
theorem norm_done {Q : Exit → Act → World → Prop} {a : Act} {w : World} (h : Q .normal a w) : NormOnly Q .normal a w := h
theorem row4_heap {w : World} {g : Nat} {T : TypeId} {f : Nat → Int} (h : w.rowIs g T 4 (numAt f)) : w.heap[g]? = some (.cells #[.int .i64 (f 0), .int .i64 (f 1), .int .i64 (f 2), .int .i64 (f 3)] T (0, 0)) := by
 obtain ⟨c, h1, h2, h3⟩ := h
 rw [h1]
 congr 2
 apply Array.ext
 · simpa using h2
 · intro i hi _
   have a := h3 i (by omega)
   rw [Array.getElem?_eq_getElem hi] at a
   injection a with a
   rw [a]
   rcases (show i = 0 ∨ i = 1 ∨ i = 2 ∨ i = 3 by omega) with rfl | rfl | rfl | rfl <;> rfl
theorem heap_row4 {w : World} {g : Nat} {T : TypeId} {a b c d : Int} {f : Nat → Int} (h : w.heap[g]? = some (.cells #[.int .i64 a, .int .i64 b, .int .i64 c, .int .i64 d] T (0, 0))) (h0 : f 0 = a) (h1 : f 1 = b) (h2 : f 2 = c) (h3 : f 3 = d) : w.rowIs g T 4 (numAt f) :=
 ⟨_, h, rfl, fun i hi => by
  rcases (show i = 0 ∨ i = 1 ∨ i = 2 ∨ i = 3 by omega) with rfl | rfl | rfl | rfl
  · simp [numAt, h0]
  · simp [numAt, h1]
  · simp [numAt, h2]
  · simp [numAt, h3]⟩
theorem lead_at : ∀ (n : Nat) (f : Nat → Bool) (j : Nat), j < lead f n → f j = true
 | 0, f, j, h => by simp [lead] at h
 | n + 1, f, j, h => by
  rw [lead] at h
  split at h
  · cases j with
    | zero => assumption
    | succ j => exact lead_at n (fun i => f (i + 1)) j (by omega)
  · omega
theorem lead_stop : ∀ (n : Nat) (f : Nat → Bool), lead f n < n → f (lead f n) = false
 | 0, f, h => by simp [lead] at h
 | n + 1, f, h => by
  rw [lead] at h ⊢
  split at h
  · rw [if_pos (by assumption)]
    exact lead_stop n (fun i => f (i + 1)) (by omega)
  · rw [if_neg (by assumption)]
    simpa using (by assumption : ¬ f 0 = true)
theorem firstN_snoc {N k : Nat} {pre : List (Fin N)} {x : Fin N} (h : pre ++ [x] = firstN N (k + 1)) (hk : k < N) : pre = firstN N k ∧ x.1 = k := by
 rw [firstN_succ hk] at h
 have h1 := List.append_inj' h rfl
 have h2 := h1.2
 injection h2 with h2
 exact ⟨h1.1, by rw [h2]⟩
structure MtJ (w5 W : World) (tb : Nat) (gs : Nat → Nat) (N : Nat) (oi oa op q mode : Int) (rv : Value) (NR : Nat) (R cont : List Int) : Prop where
 tk : W.heap[tb]? = some (.cells #[.int .i64 oi, .int .i64 oa, .int .i64 op, .int .i64 q, .int .i64 mode, rv] 151 (0, 0))
 recs : W.ownsRow w5.heap.size 48 8 rv NR (nums R)
 cps : ∀ j, j < N → W.rowIs (gs j) 65 4 (numAt fun i => num cont (j * 4 + i))
 os : W.os = w5.os
 tape : W.tape = w5.tape
 output : W.output = w5.output
 size : w5.heap.size ≤ W.heap.size
 blk : ∀ k, k < w5.heap.size → k ≠ tb → (∀ j, j < N → gs j ≠ k) → W.heap[k]? = w5.heap[k]?
theorem MtJ.walk {w5 W W' : World} {tb N NR : Nat} {gs : Nat → Nat} {oi oa op q mode : Int} {rv : Value} {R cont : List Int} {row : Option Nat} (h : MtJ w5 W tb gs N oi oa op q mode rv NR R cont) (ht : tb < w5.heap.size) (hg5 : ∀ j, j < N → gs j < w5.heap.size) (hg : W.grownBy W' row) (hr : ∀ r, row = some r → w5.heap.size ≤ r ∧ ∃ o : Obj, W.heap[r]? = some o ∧ o.isCells = false) : MtJ w5 W' tb gs N oi oa op q mode rv NR R cont := by
 have lo : ∀ k, k < w5.heap.size → W'.heap[k]? = W.heap[k]? := fun k hk => hg.block k (Nat.lt_of_lt_of_le hk h.size) (fun e => by have := (hr k e.symm).1; omega)
 refine ⟨(lo tb ht).trans h.tk, h.recs.kept hg ?_, fun j hj => (h.cps j hj).of_block (lo _ (hg5 j hj)), hg.os.trans h.os, hg.tape.trans h.tape, hg.output.trans h.output, Nat.le_trans h.size hg.size, fun k hk h1 h2 => (lo k hk).trans (h.blk k hk h1 h2)⟩
 cases e : rv.ownBlock with
 | none => exact .inl rfl
 | some k =>
  refine .inr (fun e2 => ?_)
  obtain ⟨_, o, ho, hc⟩ := hr k e2.symm
  obtain ⟨c1, f1, g1⟩ := Lib.ownsRow_kind h.recs k e
  rw [g1] at ho
  injection ho with ho
  subst ho
  simp [Obj.isCells] at hc
theorem MtJ.meet {w5 W W' : World} {tb N NR NR' x : Nat} {gs : Nat → Nat} {oi oa op q mode q' c' : Int} {rv rv' : Value} {R R' cont : List Int} (h : MtJ w5 W tb gs N oi oa op q mode rv NR R cont) (hx : x < N) (hup : Up gs N) (htg : ∀ j, j < N → gs j ≠ tb) (hlen : x * 4 + 3 < cont.length) (hg5 : ∀ j, j < N → gs j < w5.heap.size)
 (hT : TkW W' tb (gs x) oi oa op q' mode rv' w5.heap.size NR' R' (num cont (x * 4)) (num cont (x * 4 + 1)) (num cont (x * 4 + 2)) c') (hB : But W W' tb (gs x) rv.ownBlock) : MtJ w5 W' tb gs N oi oa op q' mode rv' NR' R' (cont.set (x * 4 + 3) c') := by
 have hrl : ∀ k, rv.ownBlock = some k → w5.heap.size ≤ k := fun k e => (h.recs.lt k e).1
 refine ⟨hT.tk, hT.recs, fun j hj => ?_, hB.os.trans h.os, hB.tape.trans h.tape, hB.output.trans h.output, Nat.le_trans h.size hB.size, fun k hk h1 h2 => (hB.block k (Nat.lt_of_lt_of_le hk h.size) h1 (fun e => h2 x hx e.symm) (fun e => by have := hrl k e.symm; omega)).trans (h.blk k hk h1 h2)⟩
 by_cases e : j = x
 · subst e
   exact heap_row4 hT.rest (qnum_ne (by omega)) (qnum_ne (by omega)) (qnum_ne (by omega)) (qnum_eq hlen)
 · have := h.cps j hj
   refine (this.of_block (hB.block (gs j) this.lt (htg j hj) (hup.ne hj hx e) (fun e2 => by have := hrl _ e2.symm; have := hg5 j hj; omega))).congr (fun i hi => ?_)
   simp only [numAt]
   rw [qnum_ne (by omega)]
theorem MtJ.keep {w5 W : World} {tb N NR n X S L : Nat} {gs g' : Nat → Nat} {oi oa op q mode side : Int} {rv v F : Value} {R cont zs : List Int} {T T0 T1 T2 : TypeId} (h : MtJ w5 W tb gs N oi oa op q mode rv NR R cont) (hop : Opened w5 X S L T0 T1 T2 F side zs n v g') (hcp : Copies w5 X S L T zs n v g')
 (ht : S ≠ tb ∧ L ≠ tb ∧ v.ownBlock ≠ some tb ∧ ∀ k, k < n → g' k ≠ tb) (hd : ∀ j, j < N → gs j ≠ S ∧ gs j ≠ L ∧ v.ownBlock ≠ some (gs j) ∧ ∀ k, k < n → gs j ≠ g' k) : Opened W X S L T0 T1 T2 F side zs n v g' ∧ Copies W X S L T zs n v g' := by
 have e : ∀ k, k < w5.heap.size → k ≠ tb → (∀ j, j < N → gs j ≠ k) → W.heap[k]? = w5.heap[k]? := h.blk
 refine ⟨⟨hop.low, (e S (hlT hop.side) ht.1 (fun j hj => (hd j hj).1)).trans hop.side, (e L (hlT hop.list) ht.2.1 (fun j hj => (hd j hj).2.1)).trans hop.list, ?_, hop.far⟩, fun k hk => ?_⟩
 · obtain ⟨a, b⟩ := hop.own
   refine ⟨a, b.imp id (fun ⟨g, cap, cur, e1, hb, hg, r⟩ => ⟨g, cap, cur, e1, hb, (e g (hlT hg) (fun e2 => ht.2.2.1 (by rw [e1, ← e2]; rfl)) (fun j hj e2 => (hd j hj).2.2.1 (by rw [e1, e2]; rfl))).trans hg, r⟩)⟩
 · obtain ⟨c1, c2, c3, c4, c5⟩ := hcp k hk
   exact ⟨c1, c2, c3, c4, c5.of_block (e _ c5.lt (ht.2.2.2 k hk) (fun j hj => (hd j hj).2.2.2 k hk))⟩
theorem MtJ.cur {w5 W : World} {tb N NR X S L : Nat} {gs : Nat → Nat} {oi oa op q mode side : Int} {rv v F : Value} {R cont zs : List Int} {T0 T1 T2 : TypeId} (h : MtJ w5 W tb gs N oi oa op q mode rv NR R cont) (hop : Opened w5 X S L T0 T1 T2 F side zs N v gs) (hcp : Copies w5 X S L 65 zs N v gs)
 (ht : S ≠ tb ∧ L ≠ tb ∧ v.ownBlock ≠ some tb) : Opened W X S L T0 T1 T2 F side cont N v gs ∧ Copies W X S L 65 cont N v gs := by
 have e : ∀ k, k < w5.heap.size → k ≠ tb → (∀ j, j < N → gs j ≠ k) → W.heap[k]? = w5.heap[k]? := h.blk
 refine ⟨⟨hop.low, (e S (hlT hop.side) ht.1 (fun j hj => (hcp j hj).2.1)).trans hop.side, (e L (hlT hop.list) ht.2.1 (fun j hj => (hcp j hj).2.2.1)).trans hop.list, ?_, hop.far⟩, fun k hk => ?_⟩
 · obtain ⟨a, b⟩ := hop.own
   refine ⟨a, b.imp id (fun ⟨g, cap, cur, e1, hb, hg, r⟩ => ⟨g, cap, cur, e1, hb, (e g (hlT hg) (fun e2 => ht.2.2 (by rw [e1, ← e2]; rfl)) (fun j hj e2 => (hcp j hj).2.2.2.1 (by rw [e1, e2]; rfl))).trans hg, r⟩)⟩
 · obtain ⟨c1, c2, c3, c4, c5⟩ := hcp k hk
   exact ⟨c1, c2, c3, c4, h.cps k hk⟩
def MtI (side oi oa op mode : Int) (tot : List Int × List Int × Int) (zs : List Int) (w5 : World) (tb : Nat) (gs : Nat → Nat) (N : Nat) (pre : List (Fin N)) (W : World) : Prop :=
 ∃ q rv NR R cont, MtJ w5 W tb gs N oi oa op q mode rv NR R cont ∧ 0 ≤ q ∧ q ≤ 1000000 ∧ NR ≤ 2 * pre.length ∧ cont.length = N * 4 ∧ (∀ j, j < N → 0 ≤ num cont (j * 4 + 3) ∧ num cont (j * 4 + 3) ≤ 1000000) ∧
  ((pre = firstN N pre.length ∧ ∀ j, j < pre.length → meetB side op (price zs j) = true) → 0 < q ∧ cont = zq zs pre.length ∧ tot = mtS side oi oa op mode (zs.drop (pre.length * 4)) R q)
def MtX (side oi oa op mode : Int) (tot : List Int × List Int × Int) (zs : List Int) (w5 : World) (tb : Nat) (gs : Nat → Nat) (N : Nat) (c : Code) (pre : List (Fin N)) (W : World) : Prop :=
 c = .exit 0 ∧ ∃ rv NR R cont, MtJ w5 W tb gs N oi oa op 0 mode rv NR R cont ∧ NR ≤ 2 * pre.length ∧ cont.length = N * 4 ∧
  ((pre = firstN N pre.length ∧ ∀ j, j < pre.length → meetB side op (price zs j) = true) → tot = (tkZQ cont 0 N, R, 0))
def MtE (oi oa op mode : Int) (tot : List Int × List Int × Int) (w5 : World) (tb : Nat) (gs : Nat → Nat) (N : Nat) (W : World) : Prop :=
 ∃ q rv NR R cont, MtJ w5 W tb gs N oi oa op q mode rv NR R cont ∧ NR ≤ 2 * N ∧ cont.length = N * 4 ∧ tot = (tkZQ cont 0 N, R, q)
theorem MtI.done {side oi oa op mode : Int} {tot : List Int × List Int × Int} {zs : List Int} {w5 W : World} {tb N : Nat} {gs : Nat → Nat} (h : MtI side oi oa op mode tot zs w5 tb gs N (firstN N (lead (fun k => meetB side op (price zs k)) N)) W) (hz : zs.length = N * 4) (hq : qtyOk zs N) : MtE oi oa op mode tot w5 tb gs N W := by
 have hle := lead_le (fun k => meetB side op (price zs k)) N
 obtain ⟨q, rv, NR, R, cont, hJ, _, _, hN, hl, _, hc⟩ := h
 rw [firstN_length hle] at hc hN
 obtain ⟨h0, h1, h2⟩ := hc ⟨rfl, fun j hj => lead_at N (fun k => meetB side op (price zs k)) j hj⟩
 refine ⟨q, rv, NR, R, cont, hJ, by omega, hl, ?_⟩
 rw [h2, h1, (tkQ_zq hz hle hq).1]
 rcases Nat.lt_or_ge (lead (fun k => meetB side op (price zs k)) N) N with hlt | hge
 · have hs := lead_stop N (fun k => meetB side op (price zs k)) hlt
   generalize lead (fun k => meetB side op (price zs k)) N = k at *
   rw [drop4 hz hlt, mtS_cons, if_neg (fun h => by rw [show meetB side op (num zs (k * 4 + 2)) = false from hs] at h; exact absurd h.2 (by decide))]
 · rw [show lead (fun k => meetB side op (price zs k)) N = N by omega, List.drop_eq_nil_of_le (by omega), mtS_nil]
theorem MtX.done {side oi oa op mode : Int} {tot : List Int × List Int × Int} {zs : List Int} {w5 W : World} {tb N : Nat} {gs : Nat → Nat} {c : Code} {pre : List (Fin N)} (h : MtX side oi oa op mode tot zs w5 tb gs N c pre W) (hp : ∃ k, k ≤ lead (fun k => meetB side op (price zs k)) N ∧ pre = firstN N k) : c = .exit 0 ∧ MtE oi oa op mode tot w5 tb gs N W := by
 obtain ⟨k, hk, rfl⟩ := hp
 have hle := lead_le (fun k => meetB side op (price zs k)) N
 obtain ⟨hc, rv, NR, R, cont, hJ, hN, hl, ht⟩ := h
 rw [firstN_length (show k ≤ N by omega)] at ht hN
 exact ⟨hc, 0, rv, NR, R, cont, hJ, by omega, hl, ht ⟨rfl, fun j hj => lead_at N (fun k => meetB side op (price zs k)) j (by omega)⟩⟩
theorem mt_next {side oi oa op mode q q' c' : Int} {tot : List Int × List Int × Int} {zs cont R R' : List Int} {w5 W W' : World} {tb N NR NR' : Nat} {gs : Nat → Nat} {rv rv' : Value} {pre : List (Fin N)} {x : Fin N} (hz : zs.length = N * 4) (hqz : qtyOk zs N) (hup : Up gs N) (htg : ∀ j, j < N → gs j ≠ tb) (hg5 : ∀ j, j < N → gs j < w5.heap.size) (hlen : pre.length < N)
 (hJ : MtJ w5 W tb gs N oi oa op q mode rv NR R cont) (q0 : 0 ≤ q) (q1 : q ≤ 1000000) (hN : NR ≤ 2 * pre.length) (hl : cont.length = N * 4) (hr : ∀ j, j < N → 0 ≤ num cont (j * 4 + 3) ∧ num cont (j * 4 + 3) ≤ 1000000)
 (hc : (pre = firstN N pre.length ∧ ∀ j, j < pre.length → meetB side op (price zs j) = true) → 0 < q ∧ cont = zq zs pre.length ∧ tot = mtS side oi oa op mode (zs.drop (pre.length * 4)) R q)
 (hm : MeetRel oi oa op q mode (num cont (x.1 * 4)) (num cont (x.1 * 4 + 1)) (num cont (x.1 * 4 + 2)) (num cont (x.1 * 4 + 3)) NR R q' NR' R' c')
 (hT : TkW W' tb (gs x.1) oi oa op q' mode rv' w5.heap.size NR' R' (num cont (x.1 * 4)) (num cont (x.1 * 4 + 1)) (num cont (x.1 * 4 + 2)) c') (hB : But W W' tb (gs x.1) rv.ownBlock) :
 (q' ≠ 0 → MtI side oi oa op mode tot zs w5 tb gs N (pre ++ [x]) W') ∧ (q' = 0 → MtX side oi oa op mode tot zs w5 tb gs N (.exit 0) (pre ++ [x]) W') := by
 have hx := x.2
 have hJ' := hJ.meet hx hup htg (by omega) hg5 hT hB
 have hcx := hr x.1 hx
 have hb : 0 ≤ q' ∧ q' ≤ 1000000 ∧ 0 ≤ c' ∧ c' ≤ 1000000 ∧ NR' ≤ NR + 2 := by
  rcases hm with ⟨_, _, rfl, rfl, _, rfl⟩ | ⟨_, _, rfl, rfl, _, rfl⟩ | ⟨_, _, _, rfl, rfl, _, rfl⟩ | ⟨_, rfl, rfl, _, rfl⟩ <;> omega
 have hl' : (cont.set (x.1 * 4 + 3) c').length = N * 4 := by simp [hl]
 have hlp : (pre ++ [x]).length = pre.length + 1 := by simp
 have key : (pre ++ [x] = firstN N (pre ++ [x]).length ∧ ∀ j, j < (pre ++ [x]).length → meetB side op (price zs j) = true) → (0 < q' ∧ c' = 0 ∧ x.1 = pre.length ∧ cont = zq zs pre.length ∧ tot = mtS side oi oa op mode (zs.drop ((pre.length + 1) * 4)) R' q') ∨ (q' = 0 ∧ cont = zq zs pre.length ∧ tot = (tkZQ (cont.set (x.1 * 4 + 3) c') 0 N, R', 0)) := by
  rintro ⟨h1, h2⟩
  rw [hlp] at h1 h2
  obtain ⟨h3, h4⟩ := firstN_snoc h1 hlen
  obtain ⟨a, b, e⟩ := hc ⟨h3, fun j hj => h2 j (by omega)⟩
  have hs := meet_step (k := pre.length) (N := NR) (N' := NR') hz hlen hqz a (h2 pre.length (by omega)) (by
   rw [h4, b] at hm
   rw [zq_other zs _ _ (fun j hj => by omega), zq_other zs _ _ (fun j hj => by omega), zq_other zs _ _ (fun j hj => by omega), zq_other zs _ _ (fun j hj => by omega)] at hm
   exact hm)
  rcases hs with ⟨s1, s2, s3⟩ | ⟨s1, s2, s3⟩
  · exact .inl ⟨s1, s2, h4, b, e.trans s3⟩
  · exact .inr ⟨s1, b, by rw [h4, b]; exact e.trans s3⟩
 refine ⟨fun hq => ⟨q', rv', NR', R', _, hJ', hb.1, hb.2.1, by rw [hlp]; omega, hl', fun j hj => ?_, fun h => ?_⟩, fun hq => ⟨rfl, rv', NR', R', _, by rw [← hq]; exact hJ', by rw [hlp]; omega, hl', fun h => ?_⟩⟩
 · by_cases e : j = x.1
   · subst e
     rw [qnum_eq (by omega)]
     exact ⟨hb.2.2.1, hb.2.2.2.1⟩
   · rw [qnum_ne (by omega)]
     exact hr j hj
 · rcases key h with ⟨a, b, e, f, g⟩ | ⟨a, _⟩
   · refine ⟨a, ?_, by rw [hlp]; exact g⟩
     rw [hlp, e, b, f]
     rfl
   · exact absurd a hq
 · rcases key h with ⟨a, _⟩ | ⟨_, _, e⟩
   · omega
   · exact e
attribute [local go_sem] Oper.semAt_some
theorem impl_Matched_yes (A : Option Addr) (n c : Nat) (B : Option Addr) (m d : Nat) (za zb : List Int) (side oi oa op oq mode : Int) (w : World) (ha : Lst w w.heap.size 4 A n za) (hb : Lst w w.heap.size 4 B m zb) (hn : n ≤ 1048576) (hm : m ≤ 1048576) (hrg : rgB za n zb m side oi oa op oq mode = true) :
 Calls Tryz.prog 91 #[.agg #[.slice A n c, .slice B m d], .int .i64 side, .agg #[.int .i64 oi, .int .i64 oa, .int .i64 op, .int .i64 oq], .int .i64 mode] w fun e w' => (∃ r1 r2 rv n1 n2 N left, e = .returned (.tuple #[.agg #[r1, r2], rv, .int .i64 left, .bool true]) ∧ TwoRows w' w.heap.size r1 n1 (mZ1 true side oi oa op oq mode za zb) r2 n2 (mZ2 true side oi oa op oq mode za zb) ∧ w'.ownsRow w.heap.size 48 8 rv N (nums (mRR true side oi oa op oq mode za zb)) ∧ left = mLL true side oi oa op oq mode za zb) ∧ Below w.heap.size w w' := by
 obtain ⟨hbk, hso, hic, him, hkn, hn20, hm20, hqa, hqb, hoq1, hoq2⟩ := rg_parts hrg
 have hkn' := hkn
 obtain ⟨k0, k1, k2⟩ := three_blocks w (.cells #[.slice A n c, .slice B m d] 30) (.cells #[.int .i64 oi, .int .i64 oa, .int .i64 op, .int .i64 oq] 65) (.cells #[.slice none 0 0, .slice none 0 0] 30)
 have hb0 : Below w.heap.size w (((w.alloc (.cells #[.slice A n c, .slice B m d] 30)).alloc (.cells #[.int .i64 oi, .int .i64 oa, .int .i64 op, .int .i64 oq] 65)).alloc (.cells #[.slice none 0 0, .slice none 0 0] 30)) := (((Below.refl _ _).alloc (Nat.le_refl _) _).alloc (by simp) _).alloc (by simp; omega) _
 refine callsIn_wide.1 (callsIn_of_wp_marks (n := 9) Tryz.func91 rfl trivial (wpIn_wide.2 ?_) rfl)
 simp only [Tryz.ntmps91, List.size_toArray, List.length_cons, List.length_nil, Nat.reduceAdd, Nat.reduceSub, Array.replicate_succ, Array.replicate_zero, List.push_toArray, List.append_toArray, List.nil_append, List.cons_append]
 clear hrg
 have HBK := Lib.hid hbk
 have HSO := Lib.hid hso
 have HIC := Lib.hid hic
 have HIM := Lib.hid him
 have HKN := Lib.hid hkn
 clear hbk hso hic him hkn hkn'
 go_wp2_with fail
 have hA := ha.later hb0
 have hZb := hb.later hb0
 generalize (((w.alloc (.cells #[.slice A n c, .slice B m d] 30)).alloc (.cells #[.int .i64 oi, .int .i64 oa, .int .i64 op, .int .i64 oq] 65)).alloc (.cells #[.slice none 0 0, .slice none 0 0] 30)) = w0 at *
 refine (impl_BookOk A n c B m d za zb w0 hA hZb hn hm).mono ?_
 rw [HBK.out]
 rintro e w1 ⟨rfl, hb1⟩
 replace k0 := bk1 hb1 k0
 replace k1 := bk1 hb1 k1
 replace k2 := bk1 hb1 k2
 replace hA := hA.later hb1
 replace hZb := hZb.later hb1
 replace hb0 := hb0.trans (hb1.mono hb0.size)
 clear hb1
 go_wp2_with fail
 refine (impl_sideOk side w1).mono ?_
 rw [HSO.out]
 rintro e w2 ⟨rfl, rfl⟩
 go_wp2_with fail
 refine (within_any mode 1 3 w1).mono ?_
 rw [HIM.out]
 rintro e w2 ⟨rfl, rfl⟩
 obtain ⟨o0, o1, o2, o3⟩ := rrcell4 k1
 go_wp2_with fail
 refine (impl_incomingOk oi oa op oq w1).mono ?_
 rw [HIC.out]
 rintro e w2 ⟨rfl, hb1⟩
 clear o0 o1 o2 o3
 replace k0 := bk1 hb1 k0
 replace k1 := bk1 hb1 k1
 replace k2 := bk1 hb1 k2
 replace hA := hA.later hb1
 replace hZb := hZb.later hb1
 replace hb0 := hb0.trans (hb1.mono hb0.size)
 clear hb1
 obtain ⟨o0, o1, o2, o3⟩ := rrcell4 k1
 obtain ⟨b0, b1⟩ := rcell2 k0
 go_wp2_with fail
 refine (impl_hasOrder A n c B m d za zb oi w2 hA hZb hn hm).mono ?_
 rintro e w3 ⟨⟨s, f, ok, hfr, rfl⟩, hb1⟩
 have hok := find_knows hfr
 rw [HKN.out] at hok
 subst hok
 clear hfr o0 o1 o2 o3 b0 b1
 replace k0 := bk1 hb1 k0
 replace k1 := bk1 hb1 k1
 replace k2 := bk1 hb1 k2
 replace hA := hA.later hb1
 replace hZb := hZb.later hb1
 replace hb0 := hb0.trans (hb1.mono hb0.size)
 clear hb1
 obtain ⟨b0, b1⟩ := rcell2 k0
 go_wp2_with fail
 refine (impl_openedU A n c B m d za zb w3 hA hZb hn hm).mono ?_
 rintro e wo ⟨X1, S1, L1, v1, gs1, X2, S2, L2, v2, gs2, rfl, hp1, hp2, hX1, hX2, hfar, hu1, hu2, hbo⟩
 clear b0 b1 hA hZb
 have hs33 := hlT k2
 have hX1w : w3.heap.size ≤ X1 := hX1
 have hlow1 := hp1.1.low
 have hlow2 := hp2.1.low
 have hown1 := hp1.1.own.lt
 have hown2 := hp2.1.own.lt
 have hlo1 : ∀ j, j < n → gs1 j < wo.heap.size ∧ w3.heap.size ≤ gs1 j := fun j hj => ⟨(hp1.2 j hj).2.2.2.2.lt, Nat.le_trans hX1 (hp1.2 j hj).1⟩
 have hlo2 : ∀ j, j < m → gs2 j < wo.heap.size ∧ w3.heap.size ≤ gs2 j := fun j hj => ⟨(hp2.2 j hj).2.2.2.2.lt, Nat.le_trans (Nat.le_trans hX1 hX2) (hp2.2 j hj).1⟩
 have HLO1 := Lib.hid hlo1
 have HLO2 := Lib.hid hlo2
 have HV1 := Lib.hid (show S1 < wo.heap.size ∧ L1 < wo.heap.size ∧ ∀ q, v1.ownBlock = some q → q < wo.heap.size from ⟨hlT hp1.1.side, hlT hp1.1.list, fun q hq => (hp1.1.own.lt q hq).2⟩)
 have HV2 := Lib.hid (show S2 < wo.heap.size ∧ L2 < wo.heap.size ∧ ∀ q, v2.ownBlock = some q → q < wo.heap.size from ⟨hlT hp2.1.side, hlT hp2.1.list, fun q hq => (hp2.1.own.lt q hq).2⟩)
 clear hlo1 hlo2
 replace k0 := bk1 hbo k0
 replace k1 := bk1 hbo k1
 replace k2 := bk1 hbo k2
 have hs3 := hlT k2
 have hb3s := hb0.size
 replace hb0 := hb0.trans (hbo.mono hb0.size)
 go_upto_region 4 with fail
 have kb := heap_alloc_new wo (.cells #[.pointer (some ⟨L1, 0, none⟩), .pointer (some ⟨L2, 0, none⟩)] 55)
 have hba : Below wo.heap.size wo (wo.alloc (.cells #[.pointer (some ⟨L1, 0, none⟩), .pointer (some ⟨L2, 0, none⟩)] 55)) := (Below.refl _ _).alloc (Nat.le_refl _) _
 have hxw : X2 ≤ wo.heap.size := Nat.le_trans hp2.1.low.1 (Nat.le_of_lt (hlT hp2.1.side))
 generalize hwa : wo.alloc (.cells #[.pointer (some ⟨L1, 0, none⟩), .pointer (some ⟨L2, 0, none⟩)] 55) = wa at *
 have hsa : wa.heap.size = wo.heap.size + 1 := by rw [← hwa]; simp
 clear hwa
 replace k0 := bk1 hba k0
 replace k1 := bk1 hba k1
 replace k2 := bk1 hba k2
 replace hp1 := And.intro (hp1.1.below hba) (hp1.2.below hba)
 replace hp2 := And.intro (hp2.1.below hba) (hp2.2.below hba)
 replace hb0 := hb0.trans (hba.mono hb0.size)
 obtain ⟨o0, o1, o2, o3⟩ := rrcell4 k1
 obtain ⟨kt, kp⟩ := two_blocks wa (.cells #[.int .i64 oi, .int .i64 oa, .int .i64 op, .int .i64 oq, .int .i64 mode, .slice none 0 0] 151) (.cells #[.pointer (some ⟨wa.heap.size, 0, none⟩)] 149)
 have hbt : Below wa.heap.size wa ((wa.alloc (.cells #[.int .i64 oi, .int .i64 oa, .int .i64 op, .int .i64 oq, .int .i64 mode, .slice none 0 0] 151)).alloc (.cells #[.pointer (some ⟨wa.heap.size, 0, none⟩)] 149)) := ((Below.refl _ _).alloc (Nat.le_refl _) _).alloc (by simp) _
 have HSA := Lib.hid hsa
 clear hsa hba
 go_upto_region 5 with fail
 clear o0 o1 o2 o3
 generalize hwt : (wa.alloc (.cells #[.int .i64 oi, .int .i64 oa, .int .i64 op, .int .i64 oq, .int .i64 mode, .slice none 0 0] 151)).alloc (.cells #[.pointer (some ⟨wa.heap.size, 0, none⟩)] 149) = wt at *
 have HST := Lib.hid (show wt.heap.size = wa.heap.size + 2 by rw [← hwt]; simp)
 clear hwt
 replace k0 := bk1 hbt k0
 replace k1 := bk1 hbt k1
 replace k2 := bk1 hbt k2
 replace kb := bk1 hbt kb
 replace hp1 := And.intro (hp1.1.below hbt) (hp1.2.below hbt)
 replace hp2 := And.intro (hp2.1.below hbt) (hp2.2.below hbt)
 replace hb0 := hb0.trans (hbt.mono hb0.size)
 obtain ⟨o0, o1, o2, o3⟩ := rrcell4 k1
 obtain ⟨p0, p1⟩ := rcell2 kb
 go_wp2_with fail
 refine (impl_met L1 L2 side op wt).mono ?_
 rintro e w4 ⟨rfl, rfl⟩
 clear o0 o1 o2 o3 p0 p1
 go_wp2_with fail
 obtain ⟨m1, m2, m3⟩ := three_blocks wt (.cells #[.pointer (some ⟨L1, 0, none⟩), .pointer (some ⟨L2, 0, none⟩)] 55) (.cells #[.int .i64 side] 2) (.cells #[.int .i64 op] 2)
 have hb5 : Below wt.heap.size wt (((wt.alloc (.cells #[.pointer (some ⟨L1, 0, none⟩), .pointer (some ⟨L2, 0, none⟩)] 55)).alloc (.cells #[.int .i64 side] 2)).alloc (.cells #[.int .i64 op] 2)) := (((Below.refl _ _).alloc (Nat.le_refl _) _).alloc (by simp) _).alloc (by simp; omega) _
 have HS5 := Lib.hid (show (((wt.alloc (.cells #[.pointer (some ⟨L1, 0, none⟩), .pointer (some ⟨L2, 0, none⟩)] 55)).alloc (.cells #[.int .i64 side] 2)).alloc (.cells #[.int .i64 op] 2)).heap.size = wt.heap.size + 3 by simp)
 generalize (((wt.alloc (.cells #[.pointer (some ⟨L1, 0, none⟩), .pointer (some ⟨L2, 0, none⟩)] 55)).alloc (.cells #[.int .i64 side] 2)).alloc (.cells #[.int .i64 op] 2)) = w5 at *
 replace k0 := bk1 hb5 k0
 replace k1 := bk1 hb5 k1
 replace k2 := bk1 hb5 k2
 replace kb := bk1 hb5 kb
 replace kt := (hb5.block _ (by have := HST.out; omega)).trans kt
 replace kp := (hb5.block _ (by have := HST.out; omega)).trans kp
 replace hp1 := And.intro (hp1.1.below hb5) (hp1.2.below hb5)
 replace hp2 := And.intro (hp2.1.below hb5) (hp2.2.below hb5)
 replace hb0 := hb0.trans (hb5.mono hb0.size)
 have htb5 : wa.heap.size < w5.heap.size := by have := HST.out; have := HS5.out; omega
 obtain ⟨so, X, S, L, N, v, gs, zs, hopp, hso2, hop, hcp, hN20, hzs, hqz, hup, HTOT, hlo, hvl, hfp⟩ : ∃ (so : Int) (X S L N : Nat) (v : Value) (gs : Nat → Nat) (zs : List Int), (side = 1 ∧ so = 2 ∨ side = 2 ∧ so = 1) ∧ (so = 1 ∧ L = L1 ∨ so = 2 ∧ L = L2) ∧ Opened w5 X S L 2 106 101 (.func (.func 77) #[] #[.pointer (some ⟨S, 0, none⟩)]) so zs N v gs ∧ Copies w5 X S L 65 zs N v gs ∧ N ≤ 20 ∧ zs.length = N * 4 ∧ qtyOk zs N ∧ Up gs N ∧ Hid (mtA side oi oa op oq mode za zb = mtS side oi oa op mode zs [] oq) ∧ (∀ j, j < N → gs j < wo.heap.size ∧ w3.heap.size ≤ gs j) ∧ (S < wo.heap.size ∧ L < wo.heap.size ∧ ∀ q, v.ownBlock = some q → q < wo.heap.size) ∧ (∀ W q rv NR R cont, MtJ w5 W wa.heap.size gs N oi oa op q mode rv NR R cont → cont.length = N * 4 → mtA side oi oa op oq mode za zb = (tkZQ cont 0 N, R, q) → ∃ z1 z2, (Opened W X1 S1 L1 2 106 101 (.func (.func 77) #[] #[.pointer (some ⟨S1, 0, none⟩)]) 1 z1 n v1 gs1 ∧ Copies W X1 S1 L1 65 z1 n v1 gs1) ∧ (Opened W X2 S2 L2 2 106 101 (.func (.func 77) #[] #[.pointer (some ⟨S2, 0, none⟩)]) 2 z2 m v2 gs2 ∧ Copies W X2 S2 L2 65 z2 m v2 gs2) ∧ z1.length = n * 4 ∧ z2.length = m * 4 ∧ mZ1 true side oi oa op oq mode za zb = tkZQ z1 0 n ∧ mZ2 true side oi oa op oq mode za zb = tkZQ z2 0 m) := by
  rcases side_cases side with ⟨rfl, _⟩ | ⟨rfl, _⟩ | ⟨h1, h2, hno⟩
  · exact ⟨2, X2, S2, L2, m, v2, gs2, zb, .inl ⟨rfl, rfl⟩, .inr ⟨rfl, rfl⟩, hp2.1, hp2.2, hm20, hb.1, hqb, hu2, Lib.hid (by unfold mtA; rw [if_pos rfl]), HLO2.out, HV2.out, fun W q rv NR R cont hJ hcl htot => ⟨za, cont, hJ.keep hp1.1 hp1.2 ⟨by have := HV1.out.1; have := HSA.out; omega, by have := HV1.out.2.1; have := HSA.out; omega, fun e => by have := HV1.out.2.2 _ e; have := HSA.out; omega, fun k hk => by have := (HLO1.out k hk).1; have := HSA.out; omega⟩ (fun j hj => by have h2 := (hp2.2 j hj).1; exact ⟨by have := hfar.1; omega, by have := hfar.2.1; omega, fun e => by have := hfar.2.2.1 _ e; omega, fun k hk => by have := hfar.2.2.2 k hk; omega⟩), hJ.cur hp2.1 hp2.2 ⟨by have := HV2.out.1; have := HSA.out; omega, by have := HV2.out.2.1; have := HSA.out; omega, fun e => by have := HV2.out.2.2 _ e; have := HSA.out; omega⟩, ha.1, hcl, by unfold mZ1; rw [if_pos rfl, if_pos rfl]; simpa [zq] using (tkQ_zq (k := 0) ha.1 (Nat.zero_le _) hqa).1.symm, by unfold mZ2; rw [if_pos rfl, if_pos rfl, htot]⟩⟩
  · exact ⟨1, X1, S1, L1, n, v1, gs1, za, .inr ⟨rfl, rfl⟩, .inl ⟨rfl, rfl⟩, hp1.1, hp1.2, hn20, ha.1, hqa, hu1, Lib.hid (by unfold mtA; rw [if_neg (by decide)]), HLO1.out, HV1.out, fun W q rv NR R cont hJ hcl htot => ⟨cont, zb, hJ.cur hp1.1 hp1.2 ⟨by have := HV1.out.1; have := HSA.out; omega, by have := HV1.out.2.1; have := HSA.out; omega, fun e => by have := HV1.out.2.2 _ e; have := HSA.out; omega⟩, hJ.keep hp2.1 hp2.2 ⟨by have := HV2.out.1; have := HSA.out; omega, by have := HV2.out.2.1; have := HSA.out; omega, fun e => by have := HV2.out.2.2 _ e; have := HSA.out; omega, fun k hk => by have := (HLO2.out k hk).1; have := HSA.out; omega⟩ (fun j hj => by have h1 := hfar.2.2.2 j hj; have h3 := hp2.1.low; exact ⟨by omega, by omega, fun e => by have := (hp2.1.own.lt _ e).1; omega, fun k hk => by have := (hp2.2 k hk).1; omega⟩), hcl, hb.1, by unfold mZ1; rw [if_pos rfl, if_neg (by decide), htot], by unfold mZ2; rw [if_pos rfl, if_neg (by decide)]; simpa [zq] using (tkQ_zq (k := 0) hb.1 (Nat.zero_le _) hqb).1.symm⟩⟩
  · exact absurd HSO.out (by rw [hno]; decide)
 have HFP := Lib.hid hfp
 clear hfp
 have htg : ∀ j, j < N → gs j ≠ wa.heap.size := fun j hj => by have := (hlo j hj).1; have := HSA.out; omega
 have hg5 : ∀ j, j < N → gs j < w5.heap.size := fun j hj => by have := (hlo j hj).1; have := HSA.out; omega
 have hlo3 : w3.heap.size ≤ wo.heap.size := hbo.size
 have HI0 : MtI side oi oa op mode (mtA side oi oa op oq mode za zb) zs w5 wa.heap.size gs N [] w5 := ⟨oq, _, 0, [], zs, ⟨kt, World.ownsRow_nil _ _ _ _, fun j hj => (hcp j hj).2.2.2.2, rfl, rfl, rfl, Nat.le_refl _, fun _ _ _ _ => rfl⟩, by omega, by omega, by simp, hzs, fun j hj => by have := hqz j hj; omega, fun _ => ⟨by omega, rfl, by rw [HTOT.out]; simp⟩⟩
 refine (wpIn_wide (n := 9)).1 ?_
 refine wpIn_rangeFunc_ownG rfl (by omega) (gf := 116) (lb := #[.pointer (some ⟨wt.heap.size, 0, none⟩), .pointer (some ⟨wt.heap.size + 1, 0, none⟩), .pointer (some ⟨wt.heap.size + 2, 0, none⟩)]) rfl trivial (enters_of Tryz.func116 (by kernel_rfl) rfl)
  (met_stops 7 X S L N _ _ _ L1 L2 side so op zs v gs w5 hop hcp (by omega) hopp hso2 m1 m2 m3) MetKeeps.trans (fun W l o o' hl h _ _ => .of_blocks (by simp) fun i hi => World.putObj_heap_other (by rcases hi with rfl | rfl | h | ⟨k, hk, rfl⟩; (have := HS5.out; omega); (have := HS5.out; omega); (have := (hop.own.lt _ h).2; omega); (have := hg5 k hk; omega))) (Below.refl _ _) (fun _ => rfl)
  (MtI side oi oa op mode (mtA side oi oa op oq mode za zb) zs w5 wa.heap.size gs N)
  (MtX side oi oa op mode (mtA side oi oa op oq mode za zb) zs w5 wa.heap.size gs N)
  (fun s P Q row hs hg hr => by
   obtain ⟨q, rv, NR, R, cont, hJ, r⟩ := hs
   exact ⟨q, rv, NR, R, cont, hJ.walk htb5 hg5 hg hr, r⟩)
  (fun cc s P Q row hs hg hr => by
   obtain ⟨e, rv, NR, R, cont, hJ, r⟩ := hs
   exact ⟨e, rv, NR, R, cont, hJ.walk htb5 hg5 hg hr, r⟩)
  HI0
  (fun x => { tmps := #[.agg #[.slice A n c, .slice B m d], .int .i64 side, .agg #[.int .i64 oi, .int .i64 oa, .int .i64 op, .int .i64 oq], .int .i64 mode, .pointer (some ⟨w.heap.size, 0, none⟩), undef, .pointer (some ⟨w.heap.size + 1, 0, none⟩), undef, .pointer (some ⟨w.heap.size + 1 + 1, 0, none⟩), .slice none 0 0, .int .i64 0, .bool false, .pointer (some ⟨wo.heap.size, 0, none⟩), .pointer (some ⟨wa.heap.size + 1, 0, none⟩), .pointer (some ⟨gs x.1, 0, none⟩), .agg #[.slice A n c, .slice B m d], .bool true, .bool false, .bool false, .int .i64 side, .bool true, .bool false, .bool false, .bool false, .int .i64 mode, .bool true, .bool false, .bool false, .bool false, .agg #[.int .i64 oi, .int .i64 oa, .int .i64 op, .int .i64 oq], .bool true, .bool false, .bool false, .bool false, .agg #[.slice A n c, .slice B m d], .pointer (some ⟨w.heap.size + 1, 0, none⟩), .int .i64 oi, .bool false, .bool false, undef, .agg #[.slice A n c, .slice B m d], .agg #[.pointer (some ⟨L1, 0, none⟩), .pointer (some ⟨L2, 0, none⟩)], .agg #[.int .i64 oi, .int .i64 oa, .int .i64 op, .int .i64 oq], .int .i64 mode, .agg #[.int .i64 oi, .int .i64 oa, .int .i64 op, .int .i64 oq, .int .i64 mode, .slice none 0 0], .pointer (some ⟨wa.heap.size, 0, none⟩), .agg #[.pointer (some ⟨L1, 0, none⟩), .pointer (some ⟨L2, 0, none⟩)], .int .i64 side, .pointer (some ⟨w.heap.size + 1, 2, none⟩), .int .i64 op, .func (.func 116) #[] #[.pointer (some ⟨wt.heap.size, 0, none⟩), .pointer (some ⟨wt.heap.size + 1, 0, none⟩), .pointer (some ⟨wt.heap.size + 2, 0, none⟩)], .pointer (some ⟨gs x.1, 0, none⟩), undef, undef, undef, undef, undef, undef, undef, undef, undef, undef, undef, undef, undef, undef, undef, undef, undef, undef, undef, undef, undef, undef], defers := [] }) ?assign ?body ?done ?stop
 case assign =>
  intro l x W K hK
  gi_wp2
  exact hK
 case body =>
  rintro l pre x W hI hlen
  obtain ⟨q, rv, NR, R, cont, hJ, q0, q1, hNR, hl, hr, hc⟩ := hI
  have HC := Lib.hid hc
  have HR := Lib.hid hr
  have HL := Lib.hid hl
  clear hc hl
  have hcx := hr x.1 x.2
  clear hr
  have hlx := (hlo x.1 x.2).1
  have hgx5 := hg5 x.1 x.2
  have kpW := (hJ.blk (wa.heap.size + 1) (by have := HST.out; have := HS5.out; omega) (by omega) (fun j hj e => by have := (hlo j hj).1; have := HSA.out; omega)).trans kp
  have cp := cell_of_row W (wa.heap.size + 1) 0 _ _ (0, 0) kpW
  simp only [List.getElem?_toArray, List.getElem?_cons_zero] at cp
  have hT : TkW W wa.heap.size (gs x.1) oi oa op q mode rv w5.heap.size NR R (num cont (x.1 * 4)) (num cont (x.1 * 4 + 1)) (num cont (x.1 * 4 + 2)) (num cont (x.1 * 4 + 3)) := ⟨hJ.tk, row4_heap (hJ.cps x.1 x.2), hJ.recs, hJ.size⟩
  gi_wp2
  refine ⟨trivial, (CallsIn.inRound l (callsIn_wide.2 (impl_meet wa.heap.size (gs x.1) w5.heap.size NR oi oa op q mode _ _ _ _ rv R W hT (by omega) q0 q1 hcx.1 hcx.2))).mono ?_⟩
  rintro e W' ⟨⟨u, rfl⟩, rv', q', NR', R', c', hm, hT', hB', _⟩
  have HNX := Lib.hid (mt_next hzs hqz hup htg hg5 hlen hJ q0 q1 hNR HL.out HR.out HC.out hm hT' hB')
  have hne13 : wa.heap.size + 1 < w5.heap.size := by have := HST.out; have := HS5.out; omega
  have kpW' := (hB'.block (wa.heap.size + 1) (Nat.lt_of_lt_of_le hne13 hJ.size) (by omega) (by have := HSA.out; omega) (fun e => by have := (hJ.recs.lt _ e.symm).1; omega)).trans kpW
  have HKF : Hid (KeepsFrom w5.heap.size W W') := Lib.hid ⟨hB'.size, fun k o hk ho hoc => (hB'.block k (hlT ho) (by omega) (by omega) (fun e => by
   obtain ⟨c1, f1, g1⟩ := Lib.ownsRow_kind hJ.recs k e.symm
   rw [ho] at g1
   injection g1 with g1
   subst g1
   simp [Obj.isCells] at hoc)).trans ho⟩
  have HMK : Hid (MetKeeps (wt.heap.size + 1) (wt.heap.size + 2) v.ownBlock gs N W W') := Lib.hid ⟨hB'.size, fun b hb => by
   have hb5' : b < w5.heap.size ∧ b ≠ wa.heap.size ∧ b ≠ gs x.1 := by
    have := HST.out
    have := HS5.out
    have := HSA.out
    rcases hb with rfl | rfl | hb
    · omega
    · omega
    · have := hvl.2.2 b hb
      exact ⟨by omega, by omega, fun e => (hcp x.1 x.2).2.2.2.1 (by rw [hb, e])⟩
   exact hB'.block b (Nat.lt_of_lt_of_le hb5'.1 hJ.size) hb5'.2.1 hb5'.2.2 (fun e => by have := (hJ.recs.lt _ e.symm).1; omega), fun k hk j hj => by
   by_cases e : k = x.1
   · subst e
     obtain ⟨a0, a1, a2, a3⟩ := mcell4 hT.rest
     obtain ⟨e0, e1, e2, e3⟩ := mcell4 hT'.rest
     rcases (show j = 0 ∨ j = 1 ∨ j = 2 by omega) with rfl | rfl | rfl
     · exact e0.trans a0.symm
     · exact e1.trans a1.symm
     · exact e2.trans a2.symm
   · exact World.cell?_of_block (a := ⟨gs k, j, none⟩) (hB'.block (gs k) (Nat.lt_of_lt_of_le (hg5 k hk) hJ.size) (htg k hk) (hup.ne hk x.2 e) (fun e => by have := (hJ.recs.lt _ e.symm).1; have := hg5 k hk; omega))⟩
  have cp' := cell_of_row W' (wa.heap.size + 1) 0 _ _ (0, 0) kpW'
  simp only [List.getElem?_toArray, List.getElem?_cons_zero] at cp'
  obtain ⟨x0, x1, x2, x3, x4, x5⟩ := tcell6 hT'.tk
  clear cp kpW kpW' hT hm hB' hT'
  by_cases hq0 : q' = 0
  · have HX2 := Lib.hid (HNX.out.2 hq0)
    clear HNX
    subst hq0
    gi_wp2
    exact ⟨HKF.out, HX2.out⟩
  · have t : (q' == 0) = false := beq_eq_false_iff_ne.2 hq0
    have HQ0 := Lib.hid hq0
    clear hq0
    gi_wp2
    exact ⟨HKF.out, HMK.out, HNX.out.1 HQ0.out⟩
 case done =>
  rintro D ys W hD rfl hI hK
  have hE := hI.done hzs hqz
  obtain ⟨q, rv, NR, R, cont, hJ, hNR, hcl, htot⟩ := hE
  obtain ⟨z1, z2, hq1, hq2, hz1, hz2, hw1, hw2⟩ := HFP.out W q rv NR R cont hJ hcl htot
  have HT := Lib.hid htot
  have HW1 := Lib.hid hw1
  have HW2 := Lib.hid hw2
  clear htot hw1 hw2 hcl
  have hsa := HSA.out
  have hst := HST.out
  have hs5 := HS5.out
  have kbW := (hJ.blk wo.heap.size (by omega) (by omega) (fun j hj e => by have := (hlo j hj).1; omega)).trans kb
  have kpW := (hJ.blk (wa.heap.size + 1) (by omega) (by omega) (fun j hj e => by have := (hlo j hj).1; omega)).trans kp
  have k2W := (hJ.blk (w.heap.size + 1 + 1) (by omega) (by omega) (fun j hj e => by have := (hlo j hj).2; omega)).trans k2
  have hbW : Below w.heap.size w W := ⟨hJ.os.trans hb0.os, hJ.tape.trans hb0.tape, hJ.output.trans hb0.output, Nat.le_trans hb0.size hJ.size, fun k hk => (hJ.blk k (by omega) (by omega) (fun j hj e => by have := (hlo j hj).2; omega)).trans (hb0.block k hk)⟩
  have hDW := hlT hK
  have hJs := hJ.size
  obtain ⟨p0, p1⟩ := mcell2 kbW
  have HSA2 := Lib.hid hsa
  have HST2 := Lib.hid hst
  have HS52 := Lib.hid hs5
  clear hsa hst hs5
  clear HSA2 HST2 HS52
  go_wp2_with fail
  refine (impl_dropQ X1 S1 L1 X2 S2 L2 n m v1 v2 gs1 gs2 z1 z2 W hq1 hq2 hn hm hX2 hfar).mono ?_
  rintro e W9 ⟨⟨u, rfl⟩, u1, u2, hr1, hr2, hb9, hk9⟩
  clear p0 p1
  have far9 : ∀ b, b < W.heap.size → (wo.heap.size ≤ b ∨ b = w.heap.size + 1 + 1) → W9.heap[b]? = W.heap[b]? := fun b hb hc => hk9 b hb (by have := HV1.out.2.1; omega) (by have := HV2.out.2.1; omega) (fun e => by have := HV1.out.2.2 _ e.symm; have := (hown1 _ e.symm).1; omega) (fun e => by have := HV2.out.2.2 _ e.symm; have := (hown2 _ e.symm).1; omega)
  replace kbW := (far9 _ (hlT kbW) (.inl (Nat.le_refl _))).trans kbW
  replace kpW := (far9 _ (hlT kpW) (.inl (by have := HSA.out; omega))).trans kpW
  replace k2W := (far9 _ (hlT k2W) (.inr rfl)).trans k2W
  have ktW := (far9 _ (hlT hJ.tk) (.inl (by have := HSA.out; omega))).trans hJ.tk
  replace hK := (far9 _ hDW (.inl (by have := HSA.out; omega))).trans hK
  have hrW : W9.ownsRow w5.heap.size 48 8 rv NR (nums R) := by
   obtain ⟨a, b⟩ := hJ.recs
   exact ⟨a, b.imp id (fun ⟨g, cap, cur, e1, hb, hg, r⟩ => ⟨g, cap, cur, e1, hb, (far9 g (hlT hg) (.inl (by have := HSA.out; omega))).trans hg, r⟩)⟩
  replace hbW := hbW.trans (hb9.mono (by omega))
  have hs9 : w5.heap.size ≤ W9.heap.size := Nat.le_trans hJs hb9.size
  have HF9 := Lib.hid far9
  clear far9 hk9 hb9 hJ hq1 hq2 HF9
  obtain ⟨p0, p1⟩ := mcell2 kbW
  obtain ⟨t0, t1, t2, t3, t4, t5⟩ := tcell6 ktW
  have tp := cell_of_row W9 (wa.heap.size + 1) 0 _ _ (0, 0) kpW
  simp only [List.getElem?_toArray, List.getElem?_cons_zero] at tp
  obtain ⟨Ar, dr, rfl, _, _⟩ := oSl hrW
  go_upto_region 10 with fail
  have h5g : w.heap.size + 1 + 1 < w5.heap.size := by have := HSA.out; have := HST.out; have := HS5.out; omega
  refine Code.wp_mono (fun _ _ _ h => norm_imp h) ?_
  refine wp_region_held_drew (S := (fun w' => w'.cell? ⟨wo.heap.size, 0, none⟩ = some (.pointer (some ⟨L1, 0, none⟩)) ∧ w'.cell? ⟨wo.heap.size, 1, none⟩ = some (.pointer (some ⟨L2, 0, none⟩)) ∧ w'.cell? ⟨wa.heap.size + 1, 0, none⟩ = some (.pointer (some ⟨wa.heap.size, 0, none⟩)) ∧ w'.cell? ⟨wa.heap.size, 5, none⟩ = some (.slice Ar NR dr) ∧ w'.cell? ⟨wa.heap.size, 3, none⟩ = some (.int .i64 q))) (by kernel_rfl) ?hSm121 (fun zH => ?restm121)
  case hSm121 => exact ⟨p0, p1, tp, t5, t3⟩
  refine tkV 0 ?_
  refine tkV 2 ?_
  refine tkV 3 ?_
  refine tkV 4 ?_
  refine tkV 5 ?_
  refine tkV 6 ?_
  refine tkV 7 ?_
  refine tkV 8 ?_
  refine tkV 9 ?_
  refine tkV 10 ?_
  refine rd1 1 (fun K hK => ?_)
  go_simp
  go_at_call 25
  refine (impl_closed X1 S1 L1 X2 S2 L2 (tkNQ z1 0 n) (tkNQ z2 0 m) u1 u2 (selQ z1 0 gs1 n) (selQ z2 0 gs2 m) (tkZQ z1 0 n) (tkZQ z2 0 m) W9.drew (hr1.1.below (Below.refl _ _).drew) (hr1.2.below (Below.refl _ _).drew) (hr2.1.below (Below.refl _ _).drew) (hr2.2.below (Below.refl _ _).drew) (Nat.le_trans (tkN_leQ _ _ _) hn) (Nat.le_trans (tkN_leQ _ _ _) hm) (tkZ_lenQ _ _ _) (tkZ_lenQ _ _ _)).mono ?_
  rintro e Wc ⟨⟨r1, r2, rfl, ho1, ho2, hap⟩, hbc⟩
  have hkp := Lib.hid (fun (p : Addr) (hp : p.block < W9.heap.size) => hbc.cell (p := p) hp)
  have B1 := hlT kbW
  have B2 := hlT kpW
  have B3 := hlT ktW
  have HBC : Hid (Below W9.heap.size W9.drew Wc) := Lib.hid hbc
  clear hbc
  refine hK.out _ _ (⟨(hkp.out ⟨wo.heap.size, 0, none⟩ B1).trans zH.1, (hkp.out ⟨wo.heap.size, 1, none⟩ B1).trans zH.2.1, (hkp.out ⟨wa.heap.size + 1, 0, none⟩ B2).trans zH.2.2.1, (hkp.out ⟨wa.heap.size, 5, none⟩ B3).trans zH.2.2.2.1, (hkp.out ⟨wa.heap.size, 3, none⟩ B3).trans zH.2.2.2.2⟩) (fun zH => ?_)
  clear hK K
  try simp only [Act.put, sA, sB, sC]
  refine rd1 11 (fun K hK => ?_)
  have k2c := (HBC.out.block _ (hlT k2W)).trans k2W
  obtain ⟨A1', d1', rfl, _, _⟩ := oSl ho1
  obtain ⟨A2', d2', rfl, _, _⟩ := oSl ho2
  obtain ⟨y0, y1⟩ := mcell2 k2c
  have y2 := mfree k2c 0
  have y3 := mfree k2c 1
  go_simp
  clear y0 y1 y2 y3
  have q2 : w.heap.size + 1 + 1 ≠ wo.heap.size := by omega
  have q3 : w.heap.size + 1 + 1 ≠ wa.heap.size := by have := HSA.out; omega
  have q4 : w.heap.size + 1 + 1 ≠ wa.heap.size + 1 := by have := HSA.out; omega
  refine hK.out _ _ (⟨(set2_far q2).trans zH.1, (set2_far q2).trans zH.2.1, (set2_far q4).trans zH.2.2.1, (set2_far q3).trans zH.2.2.2.1, (set2_far q3).trans zH.2.2.2.2⟩) (fun zH => ?_)
  clear hK K
  try simp only [Act.put, sA, sB, sC]
  refine tkV 12 ?_
  refine tkV 13 ?_
  refine tkV 14 ?_
  refine dn1 ?_
  refine norm_done ?_
  clear zH p0 p1 t0 t1 t2 t3 t4 t5 tp
  have hs9c : W9.heap.size ≤ Wc.heap.size := HBC.out.size
  have kf := mset2 (u := (.slice A1' (tkNQ z1 0 n) d1')) (v := (.slice A2' (tkNQ z2 0 m) d2')) k2c
  have hKc : Wc.heap[D]? = some (.deferred (some [])) := (HBC.out.block D (hlT hK)).trans hK
  have hKf : ((Wc.setCell ⟨w.heap.size + 1 + 1, 0, none⟩ (.slice A1' (tkNQ z1 0 n) d1')).setCell ⟨w.heap.size + 1 + 1, 1, none⟩ (.slice A2' (tkNQ z2 0 m) d2')).heap[D]? = some (.deferred (some [])) := mset2_other hKc (by have := HSA.out; have := HST.out; have := HS5.out; omega)
  have hbf : Below w.heap.size w ((Wc.setCell ⟨w.heap.size + 1 + 1, 0, none⟩ (.slice A1' (tkNQ z1 0 n) d1')).setCell ⟨w.heap.size + 1 + 1, 1, none⟩ (.slice A2' (tkNQ z2 0 m) d2')) := ((hbW.trans (show Below w.heap.size W9 Wc from ⟨HBC.out.os, HBC.out.tape, HBC.out.output, HBC.out.size, fun k hk => HBC.out.block k (by omega)⟩)).setCell (p := ⟨w.heap.size + 1 + 1, 0, none⟩) le2 (.slice A1' (tkNQ z1 0 n) d1')).setCell (p := ⟨w.heap.size + 1 + 1, 1, none⟩) le2 (.slice A2' (tkNQ z2 0 m) d2')
  have hTR : TwoRows ((Wc.setCell ⟨w.heap.size + 1 + 1, 0, none⟩ (.slice A1' (tkNQ z1 0 n) d1')).setCell ⟨w.heap.size + 1 + 1, 1, none⟩ (.slice A2' (tkNQ z2 0 m) d2')) w.heap.size (.slice A1' (tkNQ z1 0 n) d1') (tkNQ z1 0 n) (tkZQ z1 0 n) (.slice A2' (tkNQ z2 0 m) d2') (tkNQ z2 0 m) (tkZQ z2 0 m) := ⟨oMn (own_set_ne (own_set_ne ho1 (fun e => by have := (ho1.lt _ e).1; have : W9.drew.heap.size = W9.heap.size := rfl; omega)) (fun e => by have := (ho1.lt _ e).1; have : W9.drew.heap.size = W9.heap.size := rfl; omega)) (by have : W9.drew.heap.size = W9.heap.size := rfl; omega), oMn (own_set_ne (own_set_ne ho2 (fun e => by have := (ho2.lt _ e).1; have : W9.drew.heap.size = W9.heap.size := rfl; omega)) (fun e => by have := (ho2.lt _ e).1; have : W9.drew.heap.size = W9.heap.size := rfl; omega)) (by have : W9.drew.heap.size = W9.heap.size := rfl; omega), hap⟩
  have hRC : ((Wc.setCell ⟨w.heap.size + 1 + 1, 0, none⟩ (.slice A1' (tkNQ z1 0 n) d1')).setCell ⟨w.heap.size + 1 + 1, 1, none⟩ (.slice A2' (tkNQ z2 0 m) d2')).ownsRow w.heap.size 48 8 (.slice Ar NR dr) NR (nums R) := oMn (own_set_ne (own_set_ne (oBw hrW (show Below W9.heap.size W9 Wc from ⟨HBC.out.os, HBC.out.tape, HBC.out.output, HBC.out.size, HBC.out.block⟩)) (fun e => by have := (hrW.lt _ e).1; omega)) (fun e => by have := (hrW.lt _ e).1; omega)) (by omega)
  clear ho1 ho2 hrW kbW kpW k2W ktW k2c hKc hK HBC hkp q2 q3 q4
  generalize ((Wc.setCell ⟨w.heap.size + 1 + 1, 0, none⟩ (.slice A1' (tkNQ z1 0 n) d1')).setCell ⟨w.heap.size + 1 + 1, 1, none⟩ (.slice A2' (tkNQ z2 0 m) d2')) = Wf at *
  go_wp2_with fail
  refine ⟨by simp, .inl ⟨_, _, rfl, run_takeDeferred hKf, ?_⟩⟩
  obtain ⟨g0, g1⟩ := mcell2 (show (Wf.putObj D (.deferred none)).heap[w.heap.size + 1 + 1]? = _ from (World.putObj_heap_other (by have := HSA.out; have := HST.out; have := HS5.out; omega)).trans kf)
  refine ⟨.tuple #[.agg #[(.slice A1' (tkNQ z1 0 n) d1'), (.slice A2' (tkNQ z2 0 m) d2')], .slice Ar NR dr, .int .i64 q, .bool true], by simp [results, Tryz.results91, go_sem, g0, g1], ⟨_, _, _, tkNQ z1 0 n, tkNQ z2 0 m, NR, q, rfl, ?_, ?_, ?_⟩, hbf.trans (belowK_b (n₀ := w.heap.size) (w := w5) hb0.size Wf D _ _ hD hKf rfl rfl)⟩
  · rw [HW1.out, HW2.out]
    exact ⟨ownsRow_putObj hTR.one (.deferred none) hKf rfl, ownsRow_putObj hTR.two (.deferred none) hKf rfl, hTR.apart⟩
  · unfold mRR
    rw [if_pos rfl, HT.out]
    exact ownsRow_putObj hRC (.deferred none) hKf rfl
  · unfold mLL
    rw [if_pos rfl, HT.out]
 case stop =>
  rintro D cc pre W hD hsp hX hK
  obtain ⟨rfl, hE⟩ := hX.done hsp
  obtain ⟨q, rv, NR, R, cont, hJ, hNR, hcl, htot⟩ := hE
  obtain ⟨z1, z2, hq1, hq2, hz1, hz2, hw1, hw2⟩ := HFP.out W q rv NR R cont hJ hcl htot
  have HT := Lib.hid htot
  have HW1 := Lib.hid hw1
  have HW2 := Lib.hid hw2
  clear htot hw1 hw2 hcl
  have hsa := HSA.out
  have hst := HST.out
  have hs5 := HS5.out
  have kbW := (hJ.blk wo.heap.size (by omega) (by omega) (fun j hj e => by have := (hlo j hj).1; omega)).trans kb
  have kpW := (hJ.blk (wa.heap.size + 1) (by omega) (by omega) (fun j hj e => by have := (hlo j hj).1; omega)).trans kp
  have k2W := (hJ.blk (w.heap.size + 1 + 1) (by omega) (by omega) (fun j hj e => by have := (hlo j hj).2; omega)).trans k2
  have hbW : Below w.heap.size w W := ⟨hJ.os.trans hb0.os, hJ.tape.trans hb0.tape, hJ.output.trans hb0.output, Nat.le_trans hb0.size hJ.size, fun k hk => (hJ.blk k (by omega) (by omega) (fun j hj e => by have := (hlo j hj).2; omega)).trans (hb0.block k hk)⟩
  have hDW := hlT hK
  have hJs := hJ.size
  obtain ⟨p0, p1⟩ := mcell2 kbW
  have HSA2 := Lib.hid hsa
  have HST2 := Lib.hid hst
  have HS52 := Lib.hid hs5
  clear hsa hst hs5
  clear HSA2 HST2 HS52
  refine (wpIn_wide (n := 9)).2 ?_
  go_wp2_with fail
  refine (impl_dropQ X1 S1 L1 X2 S2 L2 n m v1 v2 gs1 gs2 z1 z2 W hq1 hq2 hn hm hX2 hfar).mono ?_
  rintro e W9 ⟨⟨u, rfl⟩, u1, u2, hr1, hr2, hb9, hk9⟩
  clear p0 p1
  have far9 : ∀ b, b < W.heap.size → (wo.heap.size ≤ b ∨ b = w.heap.size + 1 + 1) → W9.heap[b]? = W.heap[b]? := fun b hb hc => hk9 b hb (by have := HV1.out.2.1; omega) (by have := HV2.out.2.1; omega) (fun e => by have := HV1.out.2.2 _ e.symm; have := (hown1 _ e.symm).1; omega) (fun e => by have := HV2.out.2.2 _ e.symm; have := (hown2 _ e.symm).1; omega)
  replace kbW := (far9 _ (hlT kbW) (.inl (Nat.le_refl _))).trans kbW
  replace kpW := (far9 _ (hlT kpW) (.inl (by have := HSA.out; omega))).trans kpW
  replace k2W := (far9 _ (hlT k2W) (.inr rfl)).trans k2W
  have ktW := (far9 _ (hlT hJ.tk) (.inl (by have := HSA.out; omega))).trans hJ.tk
  replace hK := (far9 _ hDW (.inl (by have := HSA.out; omega))).trans hK
  have hrW : W9.ownsRow w5.heap.size 48 8 rv NR (nums R) := by
   obtain ⟨a, b⟩ := hJ.recs
   exact ⟨a, b.imp id (fun ⟨g, cap, cur, e1, hb, hg, r⟩ => ⟨g, cap, cur, e1, hb, (far9 g (hlT hg) (.inl (by have := HSA.out; omega))).trans hg, r⟩)⟩
  replace hbW := hbW.trans (hb9.mono (by omega))
  have hs9 : w5.heap.size ≤ W9.heap.size := Nat.le_trans hJs hb9.size
  have HF9 := Lib.hid far9
  clear far9 hk9 hb9 hJ hq1 hq2 HF9
  obtain ⟨p0, p1⟩ := mcell2 kbW
  obtain ⟨t0, t1, t2, t3, t4, t5⟩ := tcell6 ktW
  have tp := cell_of_row W9 (wa.heap.size + 1) 0 _ _ (0, 0) kpW
  simp only [List.getElem?_toArray, List.getElem?_cons_zero] at tp
  obtain ⟨Ar, dr, rfl, _, _⟩ := oSl hrW
  go_upto_region 10 with fail
  have h5g : w.heap.size + 1 + 1 < w5.heap.size := by have := HSA.out; have := HST.out; have := HS5.out; omega
  refine Code.wp_mono (fun _ _ _ h => norm_imp h) ?_
  refine wp_region_held_drew (S := (fun w' => w'.cell? ⟨wo.heap.size, 0, none⟩ = some (.pointer (some ⟨L1, 0, none⟩)) ∧ w'.cell? ⟨wo.heap.size, 1, none⟩ = some (.pointer (some ⟨L2, 0, none⟩)) ∧ w'.cell? ⟨wa.heap.size + 1, 0, none⟩ = some (.pointer (some ⟨wa.heap.size, 0, none⟩)) ∧ w'.cell? ⟨wa.heap.size, 5, none⟩ = some (.slice Ar NR dr) ∧ w'.cell? ⟨wa.heap.size, 3, none⟩ = some (.int .i64 q))) (by kernel_rfl) ?hSm137 (fun zH => ?restm137)
  case hSm137 => exact ⟨p0, p1, tp, t5, t3⟩
  refine tkV 0 ?_
  refine tkV 2 ?_
  refine tkV 3 ?_
  refine tkV 4 ?_
  refine tkV 5 ?_
  refine tkV 6 ?_
  refine tkV 7 ?_
  refine tkV 8 ?_
  refine tkV 9 ?_
  refine tkV 10 ?_
  refine rd1 1 (fun K hK => ?_)
  go_simp
  go_at_call 25
  refine (impl_closed X1 S1 L1 X2 S2 L2 (tkNQ z1 0 n) (tkNQ z2 0 m) u1 u2 (selQ z1 0 gs1 n) (selQ z2 0 gs2 m) (tkZQ z1 0 n) (tkZQ z2 0 m) W9.drew (hr1.1.below (Below.refl _ _).drew) (hr1.2.below (Below.refl _ _).drew) (hr2.1.below (Below.refl _ _).drew) (hr2.2.below (Below.refl _ _).drew) (Nat.le_trans (tkN_leQ _ _ _) hn) (Nat.le_trans (tkN_leQ _ _ _) hm) (tkZ_lenQ _ _ _) (tkZ_lenQ _ _ _)).mono ?_
  rintro e Wc ⟨⟨r1, r2, rfl, ho1, ho2, hap⟩, hbc⟩
  have hkp := Lib.hid (fun (p : Addr) (hp : p.block < W9.heap.size) => hbc.cell (p := p) hp)
  have B1 := hlT kbW
  have B2 := hlT kpW
  have B3 := hlT ktW
  have HBC : Hid (Below W9.heap.size W9.drew Wc) := Lib.hid hbc
  clear hbc
  refine hK.out _ _ (⟨(hkp.out ⟨wo.heap.size, 0, none⟩ B1).trans zH.1, (hkp.out ⟨wo.heap.size, 1, none⟩ B1).trans zH.2.1, (hkp.out ⟨wa.heap.size + 1, 0, none⟩ B2).trans zH.2.2.1, (hkp.out ⟨wa.heap.size, 5, none⟩ B3).trans zH.2.2.2.1, (hkp.out ⟨wa.heap.size, 3, none⟩ B3).trans zH.2.2.2.2⟩) (fun zH => ?_)
  clear hK K
  try simp only [Act.put, sA, sB, sC]
  refine rd1 11 (fun K hK => ?_)
  have k2c := (HBC.out.block _ (hlT k2W)).trans k2W
  obtain ⟨A1', d1', rfl, _, _⟩ := oSl ho1
  obtain ⟨A2', d2', rfl, _, _⟩ := oSl ho2
  obtain ⟨y0, y1⟩ := mcell2 k2c
  have y2 := mfree k2c 0
  have y3 := mfree k2c 1
  go_simp
  clear y0 y1 y2 y3
  have q2 : w.heap.size + 1 + 1 ≠ wo.heap.size := by omega
  have q3 : w.heap.size + 1 + 1 ≠ wa.heap.size := by have := HSA.out; omega
  have q4 : w.heap.size + 1 + 1 ≠ wa.heap.size + 1 := by have := HSA.out; omega
  refine hK.out _ _ (⟨(set2_far q2).trans zH.1, (set2_far q2).trans zH.2.1, (set2_far q4).trans zH.2.2.1, (set2_far q3).trans zH.2.2.2.1, (set2_far q3).trans zH.2.2.2.2⟩) (fun zH => ?_)
  clear hK K
  try simp only [Act.put, sA, sB, sC]
  refine tkV 12 ?_
  refine tkV 13 ?_
  refine tkV 14 ?_
  refine dn1 ?_
  refine norm_done ?_
  clear zH p0 p1 t0 t1 t2 t3 t4 t5 tp
  have hs9c : W9.heap.size ≤ Wc.heap.size := HBC.out.size
  have kf := mset2 (u := (.slice A1' (tkNQ z1 0 n) d1')) (v := (.slice A2' (tkNQ z2 0 m) d2')) k2c
  have hKc : Wc.heap[D]? = some (.deferred (some [])) := (HBC.out.block D (hlT hK)).trans hK
  have hKf : ((Wc.setCell ⟨w.heap.size + 1 + 1, 0, none⟩ (.slice A1' (tkNQ z1 0 n) d1')).setCell ⟨w.heap.size + 1 + 1, 1, none⟩ (.slice A2' (tkNQ z2 0 m) d2')).heap[D]? = some (.deferred (some [])) := mset2_other hKc (by have := HSA.out; have := HST.out; have := HS5.out; omega)
  have hbf : Below w.heap.size w ((Wc.setCell ⟨w.heap.size + 1 + 1, 0, none⟩ (.slice A1' (tkNQ z1 0 n) d1')).setCell ⟨w.heap.size + 1 + 1, 1, none⟩ (.slice A2' (tkNQ z2 0 m) d2')) := ((hbW.trans (show Below w.heap.size W9 Wc from ⟨HBC.out.os, HBC.out.tape, HBC.out.output, HBC.out.size, fun k hk => HBC.out.block k (by omega)⟩)).setCell (p := ⟨w.heap.size + 1 + 1, 0, none⟩) le2 (.slice A1' (tkNQ z1 0 n) d1')).setCell (p := ⟨w.heap.size + 1 + 1, 1, none⟩) le2 (.slice A2' (tkNQ z2 0 m) d2')
  have hTR : TwoRows ((Wc.setCell ⟨w.heap.size + 1 + 1, 0, none⟩ (.slice A1' (tkNQ z1 0 n) d1')).setCell ⟨w.heap.size + 1 + 1, 1, none⟩ (.slice A2' (tkNQ z2 0 m) d2')) w.heap.size (.slice A1' (tkNQ z1 0 n) d1') (tkNQ z1 0 n) (tkZQ z1 0 n) (.slice A2' (tkNQ z2 0 m) d2') (tkNQ z2 0 m) (tkZQ z2 0 m) := ⟨oMn (own_set_ne (own_set_ne ho1 (fun e => by have := (ho1.lt _ e).1; have : W9.drew.heap.size = W9.heap.size := rfl; omega)) (fun e => by have := (ho1.lt _ e).1; have : W9.drew.heap.size = W9.heap.size := rfl; omega)) (by have : W9.drew.heap.size = W9.heap.size := rfl; omega), oMn (own_set_ne (own_set_ne ho2 (fun e => by have := (ho2.lt _ e).1; have : W9.drew.heap.size = W9.heap.size := rfl; omega)) (fun e => by have := (ho2.lt _ e).1; have : W9.drew.heap.size = W9.heap.size := rfl; omega)) (by have : W9.drew.heap.size = W9.heap.size := rfl; omega), hap⟩
  have hRC : ((Wc.setCell ⟨w.heap.size + 1 + 1, 0, none⟩ (.slice A1' (tkNQ z1 0 n) d1')).setCell ⟨w.heap.size + 1 + 1, 1, none⟩ (.slice A2' (tkNQ z2 0 m) d2')).ownsRow w.heap.size 48 8 (.slice Ar NR dr) NR (nums R) := oMn (own_set_ne (own_set_ne (oBw hrW (show Below W9.heap.size W9 Wc from ⟨HBC.out.os, HBC.out.tape, HBC.out.output, HBC.out.size, HBC.out.block⟩)) (fun e => by have := (hrW.lt _ e).1; omega)) (fun e => by have := (hrW.lt _ e).1; omega)) (by omega)
  clear ho1 ho2 hrW kbW kpW k2W ktW k2c hKc hK HBC hkp q2 q3 q4
  generalize ((Wc.setCell ⟨w.heap.size + 1 + 1, 0, none⟩ (.slice A1' (tkNQ z1 0 n) d1')).setCell ⟨w.heap.size + 1 + 1, 1, none⟩ (.slice A2' (tkNQ z2 0 m) d2')) = Wf at *
  go_wp2_with fail
  refine ⟨by simp, .inl ⟨_, _, rfl, run_takeDeferred hKf, ?_⟩⟩
  obtain ⟨g0, g1⟩ := mcell2 (show (Wf.putObj D (.deferred none)).heap[w.heap.size + 1 + 1]? = _ from (World.putObj_heap_other (by have := HSA.out; have := HST.out; have := HS5.out; omega)).trans kf)
  refine ⟨.tuple #[.agg #[(.slice A1' (tkNQ z1 0 n) d1'), (.slice A2' (tkNQ z2 0 m) d2')], .slice Ar NR dr, .int .i64 q, .bool true], by simp [results, Tryz.results91, go_sem, g0, g1], ⟨_, _, _, tkNQ z1 0 n, tkNQ z2 0 m, NR, q, rfl, ?_, ?_, ?_⟩, hbf.trans (belowK_b (n₀ := w.heap.size) (w := w5) hb0.size Wf D _ _ hD hKf rfl rfl)⟩
  · rw [HW1.out, HW2.out]
    exact ⟨ownsRow_putObj hTR.one (.deferred none) hKf rfl, ownsRow_putObj hTR.two (.deferred none) hKf rfl, hTR.apart⟩
  · unfold mRR
    rw [if_pos rfl, HT.out]
    exact ownsRow_putObj hRC (.deferred none) hKf rfl
  · unfold mLL
    rw [if_pos rfl, HT.out]
end Go.Proofs.YtgjjdnojiegidaaGreatDoor

namespace Go.Proofs.YtgjjdnojiegidaaGreatDoor
open Go.RowKit Go.Shelf Wire
set_option maxHeartbeats 6400000
set_option maxRecDepth 100000
set_option linter.unusedSimpArgs false

def MAns (w' : World) (base : Nat) (rg : Bool) (side oi oa op oq mode : Int) (za zb : List Int) (e : Ending) : Prop := ∃ r1 r2 rv n1 n2 N, e = .returned (.tuple #[.agg #[r1, r2], rv, .int .i64 (mLL rg side oi oa op oq mode za zb), .bool rg]) ∧ TwoRows w' base r1 n1 (mZ1 rg side oi oa op oq mode za zb) r2 n2 (mZ2 rg side oi oa op oq mode za zb) ∧ w'.ownsRow base 48 8 rv N (nums (mRR rg side oi oa op oq mode za zb))
theorem MAns.no {w' : World} {base : Nat} {side oi oa op oq mode : Int} {za zb : List Int} : MAns w' base false side oi oa op oq mode za zb (.returned (.tuple #[.agg #[.slice none 0 0, .slice none 0 0], .slice none 0 0, .int .i64 0, .bool false])) :=
 ⟨_, _, _, 0, 0, 0, rfl, TwoRows.nil _ _, World.ownsRow_nil _ _ _ _⟩
theorem impl_Matched_no (A : Option Addr) (n c : Nat) (B : Option Addr) (m d : Nat) (za zb : List Int) (side oi oa op oq mode : Int) (w : World) (ha : Lst w w.heap.size 4 A n za) (hb : Lst w w.heap.size 4 B m zb) (hn : n ≤ 1048576) (hm : m ≤ 1048576) (hrg : rgB za n zb m side oi oa op oq mode = false) :
 Calls Tryz.prog 91 #[.agg #[.slice A n c, .slice B m d], .int .i64 side, .agg #[.int .i64 oi, .int .i64 oa, .int .i64 op, .int .i64 oq], .int .i64 mode] w fun e w' => e = .returned (.tuple #[.agg #[.slice none 0 0, .slice none 0 0], .slice none 0 0, .int .i64 0, .bool false]) ∧ Below w.heap.size w w' := by
 obtain ⟨k0, k1, k2⟩ := three_blocks w (.cells #[.slice A n c, .slice B m d] 30) (.cells #[.int .i64 oi, .int .i64 oa, .int .i64 op, .int .i64 oq] 65) (.cells #[.slice none 0 0, .slice none 0 0] 30)
 have hb0 : Below w.heap.size w (((w.alloc (.cells #[.slice A n c, .slice B m d] 30)).alloc (.cells #[.int .i64 oi, .int .i64 oa, .int .i64 op, .int .i64 oq] 65)).alloc (.cells #[.slice none 0 0, .slice none 0 0] 30)) := (((Below.refl _ _).alloc (Nat.le_refl _) _).alloc (by simp) _).alloc (by simp; omega) _
 have HR := Lib.hid hrg
 clear hrg
 refine callsIn_wide.1 (callsIn_of_wp_marks (n := 9) Tryz.func91 rfl trivial (wpIn_wide.2 ?_) rfl)
 simp only [Tryz.ntmps91, List.size_toArray, List.length_cons, List.length_nil, Nat.reduceAdd, Nat.reduceSub, Array.replicate_succ, Array.replicate_zero, List.push_toArray, List.append_toArray, List.nil_append, List.cons_append]
 go_wp2_with fail
 have hA := ha.later hb0
 have hZb := hb.later hb0
 generalize (((w.alloc (.cells #[.slice A n c, .slice B m d] 30)).alloc (.cells #[.int .i64 oi, .int .i64 oa, .int .i64 op, .int .i64 oq] 65)).alloc (.cells #[.slice none 0 0, .slice none 0 0] 30)) = w0 at *
 refine (impl_BookOk A n c B m d za zb w0 hA hZb hn hm).mono ?_
 have HBK := Lib.hid (rfl : bookB za n zb m = bookB za n zb m)
 generalize hbk : bookB za n zb m = bk at HBK
 clear HBK
 have HBK := Lib.hid hbk
 clear hbk
 rintro e w1 ⟨rfl, hb1⟩
 replace k0 := bk1 hb1 k0
 replace k1 := bk1 hb1 k1
 replace k2 := bk1 hb1 k2
 replace hA := hA.later hb1
 replace hZb := hZb.later hb1
 replace hb0 := hb0.trans (hb1.mono hb0.size)
 clear hb1
 cases bk
 · obtain ⟨r0, r1⟩ := rcell2 k2
   have f0 := mfree k2 0
   have f1 := mfree k2 1
   have kf := mset2 (u := .slice none 0 0) (v := .slice none 0 0) k2
   have hbf := (hb0.setCell (p := ⟨w.heap.size + 1 + 1, 0, none⟩) le2 (.slice none 0 0)).setCell (p := ⟨w.heap.size + 1 + 1, 1, none⟩) le2 (.slice none 0 0)
   have HKF := Lib.hid kf
   have HBF := Lib.hid hbf
   clear kf hbf
   go_wp2_with fail
   obtain ⟨g0, g1⟩ := mcell2 HKF.out
   exact ⟨.tuple #[.agg #[.slice none 0 0, .slice none 0 0], .slice none 0 0, .int .i64 0, .bool false], by simp [results, Tryz.results91, go_sem, g0, g1], rfl, HBF.out⟩
 go_wp2_with fail
 refine (impl_sideOk side w1).mono ?_
 generalize hso : sideOkB side = so
 have HSO := Lib.hid hso
 clear hso
 rintro e w2 ⟨rfl, rfl⟩
 cases so
 · obtain ⟨r0, r1⟩ := rcell2 k2
   have f0 := mfree k2 0
   have f1 := mfree k2 1
   have kf := mset2 (u := .slice none 0 0) (v := .slice none 0 0) k2
   have hbf := (hb0.setCell (p := ⟨w.heap.size + 1 + 1, 0, none⟩) le2 (.slice none 0 0)).setCell (p := ⟨w.heap.size + 1 + 1, 1, none⟩) le2 (.slice none 0 0)
   have HKF := Lib.hid kf
   have HBF := Lib.hid hbf
   clear kf hbf
   go_wp2_with fail
   obtain ⟨g0, g1⟩ := mcell2 HKF.out
   exact ⟨.tuple #[.agg #[.slice none 0 0, .slice none 0 0], .slice none 0 0, .int .i64 0, .bool false], by simp [results, Tryz.results91, go_sem, g0, g1], rfl, HBF.out⟩
 go_wp2_with fail
 refine (within_any mode 1 3 w1).mono ?_
 generalize him : inB 1 mode 3 = im
 have HIM := Lib.hid him
 clear him
 rintro e w2 ⟨rfl, rfl⟩
 cases im
 · obtain ⟨r0, r1⟩ := rcell2 k2
   have f0 := mfree k2 0
   have f1 := mfree k2 1
   have kf := mset2 (u := .slice none 0 0) (v := .slice none 0 0) k2
   have hbf := (hb0.setCell (p := ⟨w.heap.size + 1 + 1, 0, none⟩) le2 (.slice none 0 0)).setCell (p := ⟨w.heap.size + 1 + 1, 1, none⟩) le2 (.slice none 0 0)
   have HKF := Lib.hid kf
   have HBF := Lib.hid hbf
   clear kf hbf
   go_wp2_with fail
   obtain ⟨g0, g1⟩ := mcell2 HKF.out
   exact ⟨.tuple #[.agg #[.slice none 0 0, .slice none 0 0], .slice none 0 0, .int .i64 0, .bool false], by simp [results, Tryz.results91, go_sem, g0, g1], rfl, HBF.out⟩
 obtain ⟨o0, o1, o2, o3⟩ := rrcell4 k1
 go_wp2_with fail
 refine (impl_incomingOk oi oa op oq w1).mono ?_
 generalize hic : incB oi oa op oq = ic
 have HIC := Lib.hid hic
 clear hic
 rintro e w2 ⟨rfl, hb1⟩
 clear o0 o1 o2 o3
 replace k0 := bk1 hb1 k0
 replace k1 := bk1 hb1 k1
 replace k2 := bk1 hb1 k2
 replace hA := hA.later hb1
 replace hZb := hZb.later hb1
 replace hb0 := hb0.trans (hb1.mono hb0.size)
 clear hb1
 cases ic
 · obtain ⟨r0, r1⟩ := rcell2 k2
   have f0 := mfree k2 0
   have f1 := mfree k2 1
   have kf := mset2 (u := .slice none 0 0) (v := .slice none 0 0) k2
   have hbf := (hb0.setCell (p := ⟨w.heap.size + 1 + 1, 0, none⟩) le2 (.slice none 0 0)).setCell (p := ⟨w.heap.size + 1 + 1, 1, none⟩) le2 (.slice none 0 0)
   have HKF := Lib.hid kf
   have HBF := Lib.hid hbf
   clear kf hbf
   go_wp2_with fail
   obtain ⟨g0, g1⟩ := mcell2 HKF.out
   exact ⟨.tuple #[.agg #[.slice none 0 0, .slice none 0 0], .slice none 0 0, .int .i64 0, .bool false], by simp [results, Tryz.results91, go_sem, g0, g1], rfl, HBF.out⟩
 obtain ⟨o0, o1, o2, o3⟩ := rrcell4 k1
 obtain ⟨b0, b1⟩ := rcell2 k0
 go_wp2_with fail
 refine (impl_hasOrder A n c B m d za zb oi w2 hA hZb hn hm).mono ?_
 rintro e w3 ⟨⟨s, f, ok, hfr, rfl⟩, hb1⟩
 have hok := find_knows hfr
 have HOK : Hid (ok = true) := Lib.hid (by
  have h := HR.out
  unfold rgB at h
  rw [HBK.out, HSO.out, HIC.out, HIM.out] at h
  rw [HBK.out] at hok
  rw [hok]
  simpa using h)
 clear hok hfr
 obtain rfl : ok = true := HOK.out
 clear o0 o1 o2 o3 b0 b1
 replace k2 := bk1 hb1 k2
 replace hb0 := hb0.trans (hb1.mono hb0.size)
 clear hb1
 obtain ⟨r0, r1⟩ := rcell2 k2
 have f0 := mfree k2 0
 have f1 := mfree k2 1
 have kf := mset2 (u := .slice none 0 0) (v := .slice none 0 0) k2
 have hbf := (hb0.setCell (p := ⟨w.heap.size + 1 + 1, 0, none⟩) le2 (.slice none 0 0)).setCell (p := ⟨w.heap.size + 1 + 1, 1, none⟩) le2 (.slice none 0 0)
 have HKF := Lib.hid kf
 have HBF := Lib.hid hbf
 clear kf hbf
 go_wp2_with fail
 obtain ⟨g0, g1⟩ := mcell2 HKF.out
 exact ⟨.tuple #[.agg #[.slice none 0 0, .slice none 0 0], .slice none 0 0, .int .i64 0, .bool false], by simp [results, Tryz.results91, go_sem, g0, g1], rfl, HBF.out⟩
theorem impl_Matched (A : Option Addr) (n c : Nat) (B : Option Addr) (m d : Nat) (za zb : List Int) (side oi oa op oq mode : Int) (w : World) (ha : Lst w w.heap.size 4 A n za) (hb : Lst w w.heap.size 4 B m zb) (hn : n ≤ 1048576) (hm : m ≤ 1048576) :
 Calls Tryz.prog 91 #[.agg #[.slice A n c, .slice B m d], .int .i64 side, .agg #[.int .i64 oi, .int .i64 oa, .int .i64 op, .int .i64 oq], .int .i64 mode] w fun e w' => MAns w' w.heap.size (rgB za n zb m side oi oa op oq mode) side oi oa op oq mode za zb e ∧ Below w.heap.size w w' := by
 rcases Bool.eq_false_or_eq_true (rgB za n zb m side oi oa op oq mode) with h | h
 · rw [h]
   exact (impl_Matched_yes A n c B m d za zb side oi oa op oq mode w ha hb hn hm h).mono fun e w' ⟨⟨r1, r2, rv, n1, n2, N, left, he, hT, hR, hl⟩, hB⟩ => ⟨⟨r1, r2, rv, n1, n2, N, by rw [he, hl], hT, hR⟩, hB⟩
 · rw [h]
   exact (impl_Matched_no A n c B m d za zb side oi oa op oq mode w ha hb hn hm h).mono fun e w' ⟨he, hB⟩ => ⟨by rw [he]; exact MAns.no, hB⟩
def LAns (w' : World) (base : Nat) (side oi oa op oq mode : Int) (za zb : List Int) (e : Ending) : Prop := ∃ r1 r2 rv n1 n2 N, e = .returned (.tuple #[.agg #[r1, r2], rv, .int .i64 (mLL true side oi oa op oq mode za zb)]) ∧ TwoRows w' base r1 n1 (mZ1 true side oi oa op oq mode za zb) r2 n2 (mZ2 true side oi oa op oq mode za zb) ∧ w'.ownsRow base 48 8 rv N (nums (mRR true side oi oa op oq mode za zb)) ∧ N ≤ 1000000
theorem spec_l3Match (base : Nat) (A1 : Option Addr) (n c : Nat) (A2 : Option Addr) (m d : Nat) (za zb : List Int) (side oi oa op oq mode : Int) (w : World) (hs : side = 1 ∨ side = 2) (hT : TwoRows w base (.slice A1 n c) n za (.slice A2 m d) m zb) (hbase : base ≤ w.heap.size) (hn : n ≤ 20) (hm : m ≤ 20) (hq1 : qtyOk za n) (hq2 : qtyOk zb m) (h0 : 0 ≤ oq) (h1 : oq ≤ 1000000) :
 Calls Tryz.prog 66 #[.agg #[.slice A1 n c, .slice A2 m d], .int .i64 side, .agg #[.int .i64 oi, .int .i64 oa, .int .i64 op, .int .i64 oq], .int .i64 mode] w fun e w' => LAns w' base side oi oa op oq mode za zb e ∧ Below w.heap.size w w' := by
 rcases hs with rfl | rfl
 · refine (spec_l3Match1 base A1 n c A2 m d za zb oi oa op oq mode w hT hbase (by omega) (by omega) hq2 h0 h1).mono fun e w' ⟨⟨v1, v2, rv, M, N, he, hT', hR, hM, hN⟩, hB⟩ => ⟨⟨v1, v2, rv, n, M, N, ?_, ?_, ?_, by omega⟩, hB⟩
   · rw [he]; simp [mLL, mtA]
   · simpa [mZ1, mZ2, mtA] using hT'
   · simpa [mRR, mtA] using hR
 · refine (spec_l3Match2 base A1 n c A2 m d za zb oi oa op oq mode w hT hbase (by omega) (by omega) hq1 h0 h1).mono fun e w' ⟨⟨v1, v2, rv, M, N, he, hT', hR, hM, hN⟩, hB⟩ => ⟨⟨v1, v2, rv, M, m, N, ?_, ?_, ?_, by omega⟩, hB⟩
   · rw [he]; simp [mLL, mtA]
   · simpa [mZ1, mZ2, mtA] using hT'
   · simpa [mRR, mtA] using hR
end Go.Proofs.YtgjjdnojiegidaaGreatDoor
