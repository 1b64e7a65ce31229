/-
  MtQ, MtR.
-/
import Derived.Test.YtempggikcpminaaMtP
import Derived.Test.YtempggikcpminaaGQ
import Derived.Test.YtempggikcpminaaMtI
import Derived.Test.YtempggikcpminaaFindS
import Derived.Test.YtempggikcpminaaSides
import Derived.Test.YtempggikcpminaaBookT
namespace Go.Proofs.Ytempggikcpminaa
open Go.RowKit Wire

/-- the first k orders have nothing left -/
def zq (zs : List Int) : Nat → List Int
  | 0 => zs
  | k + 1 => (zq zs k).set (k * 4 + 3) 0
theorem zq_len (zs : List Int) : ∀ k, (zq zs k).length = zs.length
  | 0 => rfl
  | k + 1 => by rw [zq, List.length_set, zq_len zs k]
theorem qnum_ne {L : List Int} {i j : Nat} {x : Int} (h : i ≠ j) : num (L.set i x) j = num L j := by
  unfold num
  rw [List.getD_eq_getElem?_getD, List.getD_eq_getElem?_getD, List.getElem?_set_ne h]
theorem qnum_eq {L : List Int} {i : Nat} {x : Int} (h : i < L.length) : num (L.set i x) i = x := by
  unfold num
  rw [List.getD_eq_getElem?_getD, List.getElem?_set_self h]
  rfl
theorem zq_other (zs : List Int) : ∀ k i, (∀ j, j < k → i ≠ j * 4 + 3) → num (zq zs k) i = num zs i
  | 0, i, _ => rfl
  | k + 1, i, h => by
    rw [zq, qnum_ne (fun e => h k (by omega) e.symm), zq_other zs k i (fun j hj => h j (by omega))]
theorem zq_zero {zs : List Int} {n : Nat} (hz : zs.length = n * 4) : ∀ k j, j < k → k ≤ n → num (zq zs k) (j * 4 + 3) = 0
  | 0, j, h, _ => absurd h (Nat.not_lt_zero j)
  | k + 1, j, h, hk => by
    rw [zq]
    by_cases e : j = k
    · subst e
      exact qnum_eq (by rw [zq_len]; omega)
    · rw [qnum_ne (by omega)]
      exact zq_zero hz k j (by omega) (by omega)
/-- four numbers of a list, and the rest -/
theorem drop4 {zs : List Int} {n k : Nat} (hz : zs.length = n * 4) (hk : k < n) : zs.drop (k * 4) = num zs (k * 4) :: num zs (k * 4 + 1) :: num zs (k * 4 + 2) :: num zs (k * 4 + 3) :: zs.drop ((k + 1) * 4) := by
  have s : ∀ j, j < zs.length → zs.drop j = num zs j :: zs.drop (j + 1) := fun j hj => by
    rw [List.drop_eq_getElem_cons hj]
    congr 1
    simp [num, List.getElem?_eq_getElem hj]
  rw [s _ (by omega), s _ (by omega), s _ (by omega), s _ (by omega)]
  rw [show k * 4 + 1 + 1 + 1 + 1 = (k + 1) * 4 by omega]
/-- what is left when those without quantity go: from order k on all have some -/
theorem tkQ_tail {cs zs : List Int} {n k : Nat} (hz : zs.length = n * 4) (hk : k ≤ n) (h0 : ∀ j, j < k → num cs (j * 4 + 3) = 0) (h1 : ∀ j, k ≤ j → j < n → num cs (j * 4 + 3) ≠ 0) (he : ∀ i, k * 4 ≤ i → num cs i = num zs i) : ∀ m, k ≤ m → m ≤ n → tkZQ cs 0 m = (zs.drop (k * 4)).take ((m - k) * 4) ∧ tkNQ cs 0 m = m - k := by
  have hz0 : ∀ m, m ≤ k → tkZQ cs 0 m = [] ∧ tkNQ cs 0 m = 0 := fun m => by
    induction m with
    | zero => exact fun _ => ⟨rfl, rfl⟩
    | succ m ih =>
      intro h
      obtain ⟨a, b⟩ := ih (by omega)
      rw [tkZQ, tkNQ, if_pos (h0 m (by omega)), if_pos (h0 m (by omega))]
      exact ⟨a, b⟩
  intro m
  induction m with
  | zero =>
    intro a _
    obtain rfl : k = 0 := by omega
    exact ⟨by simp [tkZQ], rfl⟩
  | succ m ih =>
    intro a b
    by_cases e : k = m + 1
    · subst e
      obtain ⟨x, y⟩ := hz0 (m + 1) (Nat.le_refl _)
      rw [x, y]
      simp
    · obtain ⟨x, y⟩ := ih (by omega) (by omega)
      have hne := h1 m (by omega) (by omega)
      rw [tkZQ, tkNQ, if_neg hne, if_neg hne, x, y]
      refine ⟨?_, by omega⟩
      have e4 : (m + 1 - k) * 4 = (m - k) * 4 + 1 + 1 + 1 + 1 := by omega
      have s : ∀ j, j < (zs.drop (k * 4)).length → (zs.drop (k * 4)).take (j + 1) = (zs.drop (k * 4)).take j ++ [num zs (k * 4 + j)] := fun j hj => by
        rw [List.take_succ_eq_append_getElem hj]
        congr 1
        simp at hj
        simp [num, List.getElem?_eq_getElem (show k * 4 + j < zs.length by omega)]
      have hl : (zs.drop (k * 4)).length = n * 4 - k * 4 := by simp [hz]
      rw [e4, s _ (by omega), s _ (by omega), s _ (by omega), s _ (by omega), he _ (by omega), he _ (by omega), he _ (by omega), he _ (by omega)]
      have f : ∀ i, k * 4 + ((m - k) * 4 + i) = m * 4 + i := fun i => by omega
      simp only [List.append_assoc, List.cons_append, List.nil_append]
      rw [show k * 4 + (m - k) * 4 = m * 4 by omega, show k * 4 + ((m - k) * 4 + 1) = m * 4 + 1 by omega, show k * 4 + ((m - k) * 4 + 1 + 1) = m * 4 + 2 by omega, show k * 4 + ((m - k) * 4 + 1 + 1 + 1) = m * 4 + 3 by omega]
/-- the first k are used up -/
theorem tkQ_zq {zs : List Int} {n k : Nat} (hz : zs.length = n * 4) (hk : k ≤ n) (hq : qtyOk zs n) : tkZQ (zq zs k) 0 n = zs.drop (k * 4) ∧ tkNQ (zq zs k) 0 n = n - k := by
  obtain ⟨a, b⟩ := tkQ_tail (cs := zq zs k) hz hk (fun j hj => zq_zero hz k j hj hk) (fun j h1 h2 => by rw [zq_other zs k _ (fun i hi => by omega)]; have := (hq j h2).1; omega) (fun i hi => zq_other zs k i (fun j hj => by omega)) n hk (Nat.le_refl _)
  rw [a, b]
  exact ⟨List.take_of_length_le (by simp [hz]; omega), rfl⟩
/-- the first k are used up, and order k has x left -/
theorem tkQ_set {zs : List Int} {n k : Nat} {x : Int} (hz : zs.length = n * 4) (hk : k < n) (hq : qtyOk zs n) (hx : 0 < x) : tkZQ ((zq zs k).set (k * 4 + 3) x) 0 n = num zs (k * 4) :: num zs (k * 4 + 1) :: num zs (k * 4 + 2) :: x :: zs.drop ((k + 1) * 4) ∧ tkNQ ((zq zs k).set (k * 4 + 3) x) 0 n = n - k := by
  have hz' : (zs.set (k * 4 + 3) x).length = n * 4 := by simp [hz]
  have hl : k * 4 + 3 < (zq zs k).length := by rw [zq_len]; omega
  obtain ⟨a, b⟩ := tkQ_tail (cs := (zq zs k).set (k * 4 + 3) x) (zs := zs.set (k * 4 + 3) x) (n := n) (k := k) hz' (by omega)
    (fun j hj => by rw [qnum_ne (by omega)]; exact zq_zero hz k j hj (by omega))
    (fun j h1 h2 => by
      by_cases e : j = k
      · subst e; rw [qnum_eq hl]; omega
      · rw [qnum_ne (by omega), zq_other zs k _ (fun i hi => by omega)]; have := (hq j h2).1; omega)
    (fun i hi => by
      by_cases e : i = k * 4 + 3
      · subst e; rw [qnum_eq hl, qnum_eq (by omega)]
      · rw [qnum_ne (fun h => e h.symm), qnum_ne (fun h => e h.symm)]; exact zq_other zs k i (fun j hj => by omega)) n (by omega) (Nat.le_refl _)
  rw [a, b]
  refine ⟨?_, rfl⟩
  rw [List.take_of_length_le (by simp [hz]; omega), drop4 hz' hk, qnum_ne (by omega), qnum_ne (by omega), qnum_ne (by omega), qnum_eq (by omega), List.drop_set_of_lt (by omega)]
/-- the meeting of order k is the matching's next step -/
theorem meet_step {zs : List Int} {n k N N' : Nat} {side oi oa op mode q q' c' : Int} {R R' : List Int} (hz : zs.length = n * 4) (hk : k < n) (hq : qtyOk zs n) (h0 : 0 < q) (hm : meetB side op (num zs (k * 4 + 2)) = true)
    (hr : MeetRel oi oa op q mode (num zs (k * 4)) (num zs (k * 4 + 1)) (num zs (k * 4 + 2)) (num zs (k * 4 + 3)) N R q' N' R' c') :
    (0 < q' ∧ c' = 0 ∧ mtS side oi oa op mode (zs.drop (k * 4)) R q = mtS side oi oa op mode (zs.drop ((k + 1) * 4)) R' q') ∨
    (q' = 0 ∧ 0 ≤ c' ∧ mtS side oi oa op mode (zs.drop (k * 4)) R q = (tkZQ ((zq zs k).set (k * 4 + 3) c') 0 n, R', 0)) := by
  have hc := hq k hk
  have e0 : tkZQ ((zq zs k).set (k * 4 + 3) 0) 0 n = zs.drop ((k + 1) * 4) := (tkQ_zq (k := k + 1) hz (by omega) hq).1
  rw [drop4 hz hk, mtS_cons, if_pos ⟨h0, hm⟩]
  have hlt : (zs.drop ((k + 1) * 4)).length = (n - (k + 1)) * 4 := by simp [hz]; omega
  rcases hr with ⟨ha, hm1, rfl, rfl, rfl, rfl⟩ | ⟨ha, hm2, rfl, rfl, rfl, rfl⟩ | ⟨ha, hm1, hm2, rfl, rfl, rfl, rfl⟩ | ⟨ha, rfl, rfl, rfl, rfl⟩
  · rw [if_pos ha, if_pos hm1]
    exact .inr ⟨rfl, by omega, by rw [(tkQ_set hz hk hq (by omega)).1]⟩
  · rw [if_pos ha, if_neg (by omega), if_pos hm2]
    exact .inl ⟨h0, rfl, rfl⟩
  · rw [if_pos ha, if_neg hm1, if_neg hm2]
    exact .inr ⟨rfl, Int.le_refl _, by rw [e0]⟩
  · rw [if_neg ha]
    by_cases hcq : num zs (k * 4 + 3) ≤ q
    · rw [if_pos hcq, show min q (num zs (k * 4 + 3)) = num zs (k * 4 + 3) by omega]
      by_cases e : num zs (k * 4 + 3) = q
      · refine .inr ⟨by omega, by omega, ?_⟩
        rw [e, Int.sub_self, mtS_done (by omega) _ hlt, e0]
      · exact .inl ⟨by omega, by omega, rfl⟩
    · rw [if_neg hcq, show min q (num zs (k * 4 + 3)) = q by omega]
      exact .inr ⟨by omega, by omega, by rw [(tkQ_set hz hk hq (by omega)).1]⟩
end Go.Proofs.Ytempggikcpminaa

namespace Go.Proofs.Ytempggikcpminaa
open Go.RowKit Wire

/-- an order that may come: without a limit its price is 0 -/
def incB (oi oa op oq : Int) : Bool := inB 1 oi 1000000000 && (inB 1 oa 100 && (inB 0 op 1000000 && inB 1 oq 1000000))
/-- the order has a number that the book knows -/
def knowsB (bk : Bool) (za : List Int) (n : Nat) (zb : List Int) (m : Nat) (id : Int) : Bool := bk && seenB (idA za n zb) id (n + m)
theorem seen_one (f : Nat → Int) (x : Int) : ∀ k, seenB f x k = true ↔ ∃ j, j < k ∧ f j = x
  | 0 => by simp [seenB]
  | k + 1 => by
    rw [seenB, Bool.or_eq_true, seen_one f x k, beq_iff_eq]
    constructor
    · rintro (⟨j, h1, h2⟩ | h)
      · exact ⟨j, by omega, h2⟩
      · exact ⟨k, by omega, h⟩
    · rintro ⟨j, h1, h2⟩
      rcases Nat.lt_or_ge j k with h | h
      · exact .inl ⟨j, h, h2⟩
      · obtain rfl : j = k := by omega
        exact .inr h2
theorem find_knows {bk : Bool} {za zb : List Int} {n m : Nat} {id s : Int} {f : Nat → Int} {ok : Bool} (h : FindRel bk za n zb m id s f ok) : ok = knowsB bk za n zb m id := by
  unfold knowsB
  rcases h with ⟨h0, k, h1, _, h3, _, h5, _⟩ | ⟨h0, _, k, h1, _, h3, _, h5, _⟩ | ⟨h0, _, h5, _⟩
  · rw [h5, h0, Bool.true_and]
    exact ((seen_one _ _ _).2 ⟨k, by omega, by unfold idA; rw [if_pos h1]; exact h3⟩).symm
  · rw [h5, h0, Bool.true_and]
    exact ((seen_one _ _ _).2 ⟨n + k, by omega, by unfold idA; rw [if_neg (by omega), Nat.add_sub_cancel_left]; exact h3⟩).symm
  · rw [h5]
    rcases h0 with h0 | ⟨ha, hb⟩
    · rw [h0]; rfl
    · have : seenB (idA za n zb) id (n + m) = false := by
        rw [Bool.eq_false_iff]
        intro e
        obtain ⟨j, h1, h2⟩ := (seen_one _ _ _).1 e
        unfold idA at h2
        split at h2
        · exact ha j (by assumption) h2
        · exact hb (j - n) (by omega) h2
      rw [this, Bool.and_false]
/-- all is right -/
def rgB (za : List Int) (n : Nat) (zb : List Int) (m : Nat) (side oi oa op oq mode : Int) : Bool := bookB za n zb m && (sideOkB side && (incB oi oa op oq && (inB 1 mode 3 && !knowsB (bookB za n zb m) za n zb m oi)))
set_option maxHeartbeats 800000 in
set_option maxRecDepth 100000 in
theorem impl_incomingOk (oi oa op oq : Int) (w : World) :
    Calls Try.prog 37 #[.agg #[.int .i64 oi, .int .i64 oa, .int .i64 op, .int .i64 oq]] w fun e w' => e = .returned (.bool (incB oi oa op oq)) ∧ Below w.heap.size w w' := by
  by_cases h : op = 0
  · subst h
    go_enter Try.func37, Try.ntmps37
    go_wp2_with fail
    refine (impl_orderOk oi oa 1000000 oq _).mono ?_
    rintro e w1 ⟨rfl, hb⟩
    have hB := below_alloc hb
    clear hb
    go_wp2_with fail
    go_ret
    exact ⟨rfl, hB⟩
  · have t : (op == 0) = false := beq_eq_false_iff_ne.2 h
    have e : ordI oi oa op oq = incB oi oa op oq := by
      unfold ordI incB
      congr 2
      unfold inB
      rw [Bool.eq_iff_iff]
      simp
      omega
    have HE := Lib.hid e
    clear e h
    go_enter Try.func37, Try.ntmps37
    go_wp2_with fail
    refine (impl_orderOk oi oa op oq _).mono ?_
    rintro e w1 ⟨rfl, hb⟩
    have hB := below_alloc hb
    clear hb
    go_wp2_with fail
    go_ret
    exact ⟨by first | rfl | (rw [HE.out]; rfl), hB⟩
set_option maxHeartbeats 800000 in
set_option maxRecDepth 100000 in
theorem spec_l3Order (oi oa op oq : Int) (w : World) :
    Calls Try.prog 83 #[.agg #[.int .i64 oi, .int .i64 oa, .int .i64 op, .int .i64 oq]] w fun e w' => e = .returned (.bool (incB oi oa op oq)) ∧ Below w.heap.size w w' := by
  by_cases h : op = 0
  · subst h
    go_enter Try.func83, Try.ntmps83
    go_wp2_with fail
    refine (spec_l2Order oi oa 1 oq _).mono ?_
    rintro e w1 ⟨rfl, hb⟩
    have hB := below_alloc hb
    clear hb
    go_wp2_with fail
    go_ret
    exact ⟨rfl, hB⟩
  · have t : (op == 0) = false := beq_eq_false_iff_ne.2 h
    have e : ordI oi oa op oq = incB oi oa op oq := by
      unfold ordI incB
      congr 2
      unfold inB
      rw [Bool.eq_iff_iff]
      simp
      omega
    have HE := Lib.hid e
    clear e h
    go_enter Try.func83, Try.ntmps83
    go_wp2_with fail
    refine (spec_l2Order oi oa op oq _).mono ?_
    rintro e w1 ⟨rfl, hb⟩
    have hB := below_alloc hb
    clear hb
    go_wp2_with fail
    go_ret
    exact ⟨by first | rfl | (rw [HE.out]; rfl), hB⟩
theorem rcell2 {w : World} {S : Nat} {a b : Value} {T : TypeId} (h : w.heap[S]? = some (.cells #[a, b] T (0, 0))) : w.cell? ⟨S, 0, none⟩ = some a ∧ w.cell? ⟨S, 1, none⟩ = some b := by
  refine ⟨?_, ?_⟩ <;> simp [World.cell?, h]
theorem rrcell4 {w : World} {S : Nat} {a b c d : Value} {T : TypeId} (h : w.heap[S]? = some (.cells #[a, b, c, d] T (0, 0))) : w.cell? ⟨S, 0, none⟩ = some a ∧ w.cell? ⟨S, 1, none⟩ = some b ∧ w.cell? ⟨S, 2, none⟩ = some c ∧ w.cell? ⟨S, 3, none⟩ = some d := by
  refine ⟨?_, ?_, ?_, ?_⟩ <;> simp [World.cell?, h]
set_option linter.unusedSimpArgs false in
set_option maxHeartbeats 3200000 in
set_option maxRecDepth 100000 in
theorem spec_l3Right (A : Option Addr) (n c : Nat) (B : Option Addr) (m d : Nat) (za zb : List Int) (side oi oa op oq mode : Int) (w : World) (ha : Lst w w.heap.size 4 A n za) (hb : Lst w w.heap.size 4 B m zb) (hn : n ≤ 1048576) (hm : m ≤ 1048576) (hA : A = none → n = 0 ∧ c = 0) (hB : B = none → m = 0 ∧ d = 0) :
    Calls Try.prog 45 #[.agg #[.slice A n c, .slice B m d], .int .i64 side, .agg #[.int .i64 oi, .int .i64 oa, .int .i64 op, .int .i64 oq], .int .i64 mode] w fun e w' => e = .returned (.bool (rgB za n zb m side oi oa op oq mode)) ∧ Below w.heap.size w w' := by
  obtain ⟨k0, k1⟩ := two_blocks w (.cells #[.slice A n c, .slice B m d] 26) (.cells #[.int .i64 oi, .int .i64 oa, .int .i64 op, .int .i64 oq] 28)
  have hb0 : Below w.heap.size w ((w.alloc (.cells #[.slice A n c, .slice B m d] 26)).alloc (.cells #[.int .i64 oi, .int .i64 oa, .int .i64 op, .int .i64 oq] 28)) := ((Below.refl _ _).alloc (Nat.le_refl _) _).alloc (by simp) _
  have HR := Lib.hid (show rgB za n zb m side oi oa op oq mode = (bookB za n zb m && (sideOkB side && (incB oi oa op oq && (inB 1 mode 3 && !knowsB (bookB za n zb m) za n zb m oi)))) from rfl)
  go_enter Try.func45, Try.ntmps45
  go_wp2_with fail
  have hA0 := ha.later hb0
  have hB0 := hb.later hb0
  clear ha hb
  generalize ((w.alloc (.cells #[.slice A n c, .slice B m d] 26)).alloc (.cells #[.int .i64 oi, .int .i64 oa, .int .i64 op, .int .i64 oq] 28)) = w0 at *
  refine (spec_FindO A n c B m d za zb oi w0 hA0 hB0 hn hm hA hB).mono ?_
  rintro e w1 ⟨⟨s, f, ok, hrel, rfl⟩, hb1⟩
  have hk := find_knows hrel
  clear hrel
  subst hk
  replace k0 := (hb1.block _ (heap_lt k0)).trans k0
  replace k1 := (hb1.block _ (heap_lt k1)).trans k1
  replace hA0 := hA0.later hb1
  replace hB0 := hB0.later hb1
  replace hb0 := hb0.trans (hb1.mono hb0.size)
  clear hb1
  have ko : ∀ (o : Obj), (w1.alloc o).heap[w.heap.size]? = some (.cells #[.slice A n c, .slice B m d] 26 (0, 0)) ∧ (w1.alloc o).heap[w.heap.size + 1]? = some (.cells #[.int .i64 oi, .int .i64 oa, .int .i64 op, .int .i64 oq] 28 (0, 0)) := fun o => ⟨(Below.heap_alloc w1 o _ (heap_lt k0)).trans k0, (Below.heap_alloc w1 o _ (heap_lt k1)).trans k1⟩
  obtain ⟨k0, k1⟩ := ko (.cells #[.int .i64 (f 0), .int .i64 (f 1), .int .i64 (f 2), .int .i64 (f 3)] 28)
  replace hA0 := hA0.later ((Below.refl _ _).alloc (Nat.le_refl _) (.cells #[.int .i64 (f 0), .int .i64 (f 1), .int .i64 (f 2), .int .i64 (f 3)] 28))
  replace hB0 := hB0.later ((Below.refl _ _).alloc (Nat.le_refl _) (.cells #[.int .i64 (f 0), .int .i64 (f 1), .int .i64 (f 2), .int .i64 (f 3)] 28))
  replace hb0 := hb0.alloc hb0.size (.cells #[.int .i64 (f 0), .int .i64 (f 1), .int .i64 (f 2), .int .i64 (f 3)] 28)
  have HKN := Lib.hid (rfl : knowsB (bookB za n zb m) za n zb m oi = knowsB (bookB za n zb m) za n zb m oi)
  generalize knowsB (bookB za n zb m) za n zb m oi = kn at *
  clear ko HKN
  go_upto_region 2 with fail
  generalize (w1.alloc (.cells #[.int .i64 (f 0), .int .i64 (f 1), .int .i64 (f 2), .int .i64 (f 3)] 28)) = w2 at *
  obtain ⟨b0, b1⟩ := rcell2 k0
  go_wp2_with fail
  refine (spec_BookOkO A n c B m d za zb w2 hA0 hB0 hn hm hA hB).mono ?_
  generalize hbk : bookB za n zb m = bk at HR
  clear hbk hA0 hB0
  rintro e w3 ⟨rfl, hb3⟩
  replace k1 := (hb3.block _ (heap_lt k1)).trans k1
  replace hb0 := hb0.trans (hb3.mono hb0.size)
  clear hb3 b0 b1 k0
  cases bk
  · go_wp2_with fail
    go_ret
    exact ⟨by rw [HR.out]; rfl, hb0⟩
  go_wp2_with fail
  refine (spec_isSide side w3).mono ?_
  generalize sideOkB side = so at *
  rintro e w4 ⟨rfl, rfl⟩
  obtain ⟨o0, o1, o2, o3⟩ := rrcell4 k1
  cases so
  · clear o0 o1 o2 o3
    go_wp2_with fail
    go_ret
    exact ⟨by rw [HR.out]; rfl, hb0⟩
  go_wp2_with fail
  refine (spec_l3Order oi oa op oq w3).mono ?_
  generalize incB oi oa op oq = ic at *
  rintro e w5 ⟨rfl, hb5⟩
  replace hb0 := hb0.trans (hb5.mono hb0.size)
  clear hb5 o0 o1 o2 o3 k1
  cases ic
  · go_wp2_with fail
    go_ret
    exact ⟨by rw [HR.out]; rfl, hb0⟩
  go_wp2_with fail
  refine (l1In_any mode 1 3 w5).mono ?_
  generalize inB 1 mode 3 = im at *
  rintro e w6 ⟨rfl, rfl⟩
  cases im
  · go_wp2_with fail
    go_ret
    exact ⟨by rw [HR.out]; rfl, hb0⟩
  cases kn
  · go_wp2_with fail
    go_ret
    exact ⟨by rw [HR.out]; rfl, hb0⟩
  · go_wp2_with fail
    go_ret
    exact ⟨by rw [HR.out]; rfl, hb0⟩
end Go.Proofs.Ytempggikcpminaa
