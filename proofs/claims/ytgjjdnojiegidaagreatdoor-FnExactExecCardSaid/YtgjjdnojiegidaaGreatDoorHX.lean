/-
 RsP, ExP, ExR, ExQ.
-/
import Derived.Test.YtgjjdnojiegidaaGreatDoorTkP
import Derived.Test.YtgjjdnojiegidaaGreatDoorHR
import Derived.Test.YtgjjdnojiegidaaGreatDoorGU
import Derived.Test.YtgjjdnojiegidaaGreatDoorGF
import Derived.Test.YtgjjdnojiegidaaGreatDoorGT
import Derived.Test.YtgjjdnojiegidaaGreatDoorGI
namespace Go.Proofs.YtgjjdnojiegidaaGreatDoor
open Go.RowKit Wire

theorem ld_le2 : ∀ (n : Nat) (f : Nat → Bool), lead f n ≤ n
 | 0, _ => Nat.le_refl _
 | n + 1, f => by
  rw [lead]
  split
  · exact Nat.succ_le_succ (ld_le2 n _)
  · exact Nat.zero_le _
theorem ld_stop2 : ∀ {f : Nat → Bool} (n : Nat), lead f n < n → f (lead f n) = false
 | f, 0, h => by simp at h
 | f, n + 1, h => by
  rw [lead] at h ⊢
  split
  · rename_i h0
    rw [if_pos h0] at h
    exact ld_stop2 (f := fun i => f (i + 1)) n (by omega)
  · rename_i h0
    rcases Bool.eq_false_or_eq_true (f 0) with c | c
    · exact absurd c h0
    · exact c
theorem dist1 {za zb : List Int} {n m : Nat} (h : bookB za n zb m = true) : (∀ q q', q < n → q' < n → q ≠ q' → num za (q * 4) ≠ num za (q' * 4)) ∧ (∀ q q', q < m → q' < m → q ≠ q' → num zb (q * 4) ≠ num zb (q' * 4)) ∧ ∀ q q', q < n → q' < m → num za (q * 4) ≠ num zb (q' * 4) := by
 have hd : distB (idA za n zb) (n + m) = true := by
  simp only [bookB, Bool.and_eq_true] at h
  exact h.2.2.2
 have key : ∀ i j, i < n + m → j < n + m → i ≠ j → idA za n zb i ≠ idA za n zb j := fun i j hi hj hne => by
  rcases Nat.lt_or_gt_of_ne hne with c | c
  · exact dist_pair _ hd i j c hj
  · exact fun e => dist_pair _ hd j i c hi e.symm
 refine ⟨fun q q' h1 h2 hne => ?_, fun q q' h1 h2 hne => ?_, fun q q' h1 h2 => ?_⟩
 · have := key q q' (by omega) (by omega) hne
   rwa [idA_at1 h1, idA_at1 h2] at this
 · have := key (n + q) (n + q') (by omega) (by omega) (by omega)
   rwa [idA_at2, idA_at2] at this
 · have := key q (n + q') (by omega) (by omega) (by omega)
   rwa [idA_at1 h1, idA_at2] at this
end Go.Proofs.YtgjjdnojiegidaaGreatDoor

namespace Go.Proofs.YtgjjdnojiegidaaGreatDoor
open Go.RowKit Wire

theorem ld_at : ∀ (n : Nat) (f : Nat → Bool) (j : Nat), j < lead f n → f j = true
 | 0, f, j, h => by simp [lead] at h
 | n + 1, f, j, h => by
  rw [lead] at h
  split at h
  · rename_i h0
    rcases j with _ | j
    · exact h0
    · exact ld_at n (fun i => f (i + 1)) j (by omega)
  · omega
theorem ins_row {zs o : List Int} {n i q : Nat} (hz : zs.length = n * 4) (ho : o.length = 4) (hi : i ≤ n) (hq : q < n + 1) :
 (q < i ∧ ∀ j, j < 4 → num (insZ zs i o) (q * 4 + j) = num zs (q * 4 + j)) ∨ (q = i ∧ ∀ j, j < 4 → num (insZ zs i o) (q * 4 + j) = num o j) ∨ (i < q ∧ ∀ j, j < 4 → num (insZ zs i o) (q * 4 + j) = num zs ((q - 1) * 4 + j)) := by
 rcases Nat.lt_trichotomy q i with h | h | h
 · exact .inl ⟨h, fun j hj => insZ_lo hz hi h hj⟩
 · exact .inr (.inl ⟨h, fun j hj => by rw [h]; exact insZ_at hz ho hi hj⟩)
 · exact .inr (.inr ⟨h, fun j hj => insZ_hi hz ho h hq hj⟩)
theorem side_ins {side a b c d : Int} {zs : List Int} {n : Nat} (hz : zs.length = n * 4) (hs : sideB side zs n = true) (ho : ordI a b c d = true) (hn : n < 20) : sideB side (insZ zs (restI side c zs n) [a, b, c, d]) (n + 1) = true := by
 have hi : restI side c zs n ≤ n := ld_le2 n _
 have hlo := ld_at n (fun k => !betB side c (price zs k))
 have hst := ld_stop2 (f := fun k => !betB side c (price zs k)) n
 rw [show lead (fun k => !betB side c (price zs k)) n = restI side c zs n from rfl] at hlo hst
 generalize restI side c zs n = i at *
 unfold sideB at hs ⊢
 simp only [Bool.and_eq_true, decide_eq_true_eq] at hs ⊢
 obtain ⟨-, h1, h2⟩ := hs
 have hp : ∀ q, q < n + 1 → (q < i ∧ price (insZ zs i [a, b, c, d]) q = price zs q) ∨ (q = i ∧ price (insZ zs i [a, b, c, d]) q = c) ∨ (i < q ∧ price (insZ zs i [a, b, c, d]) q = price zs (q - 1)) := fun q hq => by
  rcases ins_row (o := [a, b, c, d]) hz rfl hi hq with ⟨e, h⟩ | ⟨e, h⟩ | ⟨e, h⟩
  · exact .inl ⟨e, h 2 (by omega)⟩
  · exact .inr (.inl ⟨e, h 2 (by omega)⟩)
  · exact .inr (.inr ⟨e, h 2 (by omega)⟩)
 have hsp := srt_pair n h2
 refine ⟨by omega, all_of (n + 1) fun k hk => ?_, srt_of (n + 1) fun x y hxy hy => ?_⟩
 · unfold ordB
   rcases ins_row (o := [a, b, c, d]) hz rfl hi hk with ⟨e, h⟩ | ⟨e, h⟩ | ⟨e, h⟩
   · have := allO_at n k h1 (by omega)
     unfold ordB at this
     rw [show num (insZ zs i [a, b, c, d]) (k * 4) = num zs (k * 4) from h 0 (by omega), h 1 (by omega), h 2 (by omega), h 3 (by omega)]
     exact this
   · rw [show num (insZ zs i [a, b, c, d]) (k * 4) = a from h 0 (by omega), h 1 (by omega), h 2 (by omega), h 3 (by omega)]
     exact ho
   · have := allO_at n (k - 1) h1 (by omega)
     unfold ordB at this
     rw [show num (insZ zs i [a, b, c, d]) (k * 4) = num zs ((k - 1) * 4) from h 0 (by omega), h 1 (by omega), h 2 (by omega), h 3 (by omega)]
     exact this
 · have key : ∀ p q r : Int, betB side q r = false → betB side p q = false → betB side p r = false := fun p q r e1 e2 => by
    unfold betB at *
    split at e1
    · rw [if_pos (by assumption)] at *
      have := of_decide_eq_false e1
      have := of_decide_eq_false e2
      exact decide_eq_false (by omega)
    · rw [if_neg (by assumption)] at *
      have := of_decide_eq_false e1
      have := of_decide_eq_false e2
      exact decide_eq_false (by omega)
   have key2 : ∀ p q : Int, betB side p q = true → betB side q p = false := fun p q e => by
    unfold betB at *
    split at e
    · rw [if_pos (by assumption)]
      have := of_decide_eq_true e
      exact decide_eq_false (by omega)
    · rw [if_neg (by assumption)]
      have := of_decide_eq_true e
      exact decide_eq_false (by omega)
   have keyr : ∀ p : Int, betB side p p = false := fun p => by
    unfold betB
    split <;> simp
   rcases hp x (by omega) with ⟨e, h⟩ | ⟨e, h⟩ | ⟨e, h⟩ <;> rcases hp y hy with ⟨e', h'⟩ | ⟨e', h'⟩ | ⟨e', h'⟩ <;> rw [h, h']
   · exact hsp x y hxy (by omega)
   · have := hlo x e
     simpa using this
   · rcases Nat.lt_or_ge x (y - 1) with hl | hl
     · exact hsp x (y - 1) hl (by omega)
     · rw [show y - 1 = x by omega]; exact keyr _
   · omega
   · omega
   · have h3 : betB side c (price zs i) = true := by
      have := hst (by omega)
      simpa using this
     have h4 := key2 _ _ h3
     rcases Nat.lt_or_ge i (y - 1) with hl | hl
     · exact key _ _ _ h4 (hsp i (y - 1) hl (by omega))
     · rw [show y - 1 = i by omega]; exact h4
   · omega
   · omega
   · exact hsp (x - 1) (y - 1) (by omega) (by omega)
theorem ins_id {zs o : List Int} {n i q : Nat} (hz : zs.length = n * 4) (ho : o.length = 4) (hi : i ≤ n) (hq : q < n + 1) :
 (q = i ∧ num (insZ zs i o) (q * 4) = num o 0) ∨ (q ≠ i ∧ ∃ k, k < n ∧ num (insZ zs i o) (q * 4) = num zs (k * 4) ∧ k = if q < i then q else q - 1) := by
 rcases ins_row hz ho hi hq with ⟨e, h⟩ | ⟨e, h⟩ | ⟨e, h⟩
 · exact .inr ⟨by omega, q, by omega, h 0 (by omega), by rw [if_pos e]⟩
 · exact .inl ⟨e, h 0 (by omega)⟩
 · exact .inr ⟨by omega, q - 1, by omega, h 0 (by omega), by rw [if_neg (by omega)]⟩
theorem dist_two {za zb : List Int} {n m : Nat} (h1 : ∀ q q', q < q' → q' < n → num za (q * 4) ≠ num za (q' * 4)) (h2 : ∀ q q', q < q' → q' < m → num zb (q * 4) ≠ num zb (q' * 4)) (h3 : ∀ q q', q < n → q' < m → num za (q * 4) ≠ num zb (q' * 4)) : distB (idA za n zb) (n + m) = true :=
 dist_of _ fun i j hij hj => by
  unfold idA
  rcases Nat.lt_or_ge i n with a | a <;> rcases Nat.lt_or_ge j n with b | b
  · rw [if_pos a, if_pos b]; exact h1 i j hij b
  · rw [if_pos a, if_neg (by omega)]; exact h3 i (j - n) a (by omega)
  · omega
  · rw [if_neg (by omega), if_neg (by omega)]; exact h2 (i - n) (j - n) (by omega) (by omega)
theorem ins_dist {zs o : List Int} {n i : Nat} (hz : zs.length = n * 4) (ho : o.length = 4) (hi : i ≤ n) (hd : ∀ q q', q < n → q' < n → q ≠ q' → num zs (q * 4) ≠ num zs (q' * 4)) (hno : ∀ q, q < n → num zs (q * 4) ≠ num o 0) :
 ∀ q q', q < q' → q' < n + 1 → num (insZ zs i o) (q * 4) ≠ num (insZ zs i o) (q' * 4) := fun q q' hq hq' => by
 rcases ins_id hz ho hi (show q < n + 1 by omega) with ⟨e, h⟩ | ⟨e, k, hk, h, ek⟩ <;> rcases ins_id hz ho hi hq' with ⟨e', h'⟩ | ⟨e', k', hk', h', ek'⟩ <;> rw [h, h']
 · omega
 · exact fun c => hno k' hk' c.symm
 · exact hno k hk
 · refine hd k k' hk hk' ?_
   split at ek <;> split at ek' <;> omega
theorem ins_first {zs o : List Int} {n i : Nat} (hz : zs.length = n * 4) (ho : o.length = 4) (hi : i ≤ n) : (price (insZ zs i o) 0 = num o 2) ∨ (0 < n ∧ price (insZ zs i o) 0 = price zs 0) := by
 rcases ins_row hz ho hi (show 0 < n + 1 by omega) with ⟨e, h⟩ | ⟨e, h⟩ | ⟨e, h⟩
 · exact .inr ⟨by omega, h 2 (by omega)⟩
 · exact .inl (h 2 (by omega))
 · omega
theorem rest_ok {side a b c d : Int} {za zb : List Int} {n m : Nat} (ha : za.length = n * 4) (hb : zb.length = m * 4) (hbk : bookB za n zb m = true) (hs : side = 1 ∨ side = 2) (ho : ordI a b c d = true) (hroom : (if side = 1 then n else m) < 20) (h1 : noId za n a) (h2 : noId zb m a)
 (hx : side = 1 → 0 < m → c < price zb 0) (hy : side = 2 → 0 < n → price za 0 < c) : restOk side a b c d za n zb m = true := by
 unfold restOk
 obtain ⟨d1, d2, d3⟩ := dist1 hbk
 have hbk' := hbk
 simp only [bookB, Bool.and_eq_true, Bool.not_eq_true'] at hbk'
 obtain ⟨s1, s2, hcr, -⟩ := hbk'
 rw [hbk, ho]
 unfold rest1 rest2 restN1 restN2
 rcases hs with rfl | rfl
 · rw [if_pos rfl] at hroom
   have hi : restI 1 c za n ≤ n := ld_le2 n _
   rw [if_pos rfl, if_pos rfl, if_pos rfl, if_pos rfl]
   simp only [sideOkB, bookB, Bool.true_and, Bool.and_eq_true, Bool.not_eq_true', decide_true, Bool.true_or]
   refine ⟨side_ins ha s1 ho hroom, s2, ?_, dist_two (ins_dist ha rfl hi d1 h1) (fun q q' e1 e2 => d2 q q' (by omega) e2 (by omega)) fun q q' e1 e2 => ?_⟩
   · unfold crossB at hcr ⊢
     rcases Nat.eq_zero_or_pos m with e | e
     · rw [decide_eq_false (show ¬ 0 < m by omega)]; simp
     · rw [decide_eq_true (show 0 < n + 1 by omega), decide_eq_true e, Bool.true_and, Bool.true_and]
       refine decide_eq_false ?_
       rcases ins_first (o := [a, b, c, d]) ha rfl hi with p | ⟨p0, p⟩ <;> rw [p]
       · have := hx rfl e
         show ¬ price zb 0 ≤ c
         omega
       · rw [decide_eq_true p0, decide_eq_true e, Bool.true_and, Bool.true_and] at hcr
         exact of_decide_eq_false hcr
   · rcases ins_id (o := [a, b, c, d]) ha rfl hi e1 with ⟨_, h⟩ | ⟨_, k, hk, h, _⟩ <;> rw [h]
     · exact fun e => h2 q' e2 e.symm
     · exact d3 k q' hk e2
 · rw [if_neg (by omega)] at hroom
   have hi : restI 2 c zb m ≤ m := ld_le2 m _
   rw [if_neg (by omega), if_neg (by omega), if_neg (by omega), if_neg (by omega)]
   simp only [sideOkB, bookB, Bool.true_and, Bool.and_eq_true, Bool.not_eq_true', decide_true, Bool.or_true]
   refine ⟨s1, side_ins hb s2 ho hroom, ?_, dist_two (fun q q' e1 e2 => d1 q q' (by omega) e2 (by omega)) (ins_dist hb rfl hi d2 h2) fun q q' e1 e2 => ?_⟩
   · unfold crossB at hcr ⊢
     rcases Nat.eq_zero_or_pos n with e | e
     · rw [decide_eq_false (show ¬ 0 < n by omega)]; simp
     · rw [decide_eq_true (show 0 < m + 1 by omega), decide_eq_true e, Bool.true_and, Bool.true_and]
       refine decide_eq_false ?_
       rcases ins_first (o := [a, b, c, d]) hb rfl hi with p | ⟨p0, p⟩ <;> rw [p]
       · have := hy rfl e
         show ¬ c ≤ price za 0
         omega
       · rw [decide_eq_true p0, decide_eq_true e, Bool.true_and, Bool.true_and] at hcr
         exact of_decide_eq_false hcr
   · rcases ins_id (o := [a, b, c, d]) hb rfl hi e2 with ⟨_, h⟩ | ⟨_, k, hk, h, _⟩ <;> rw [h]
     · exact h1 q e1
     · exact d3 q k e1 hk
theorem mts_left {side id acct pr mode : Int} : ∀ (m : Nat) {Z R : List Int} {q : Int}, Z.length = m * 4 → qtyOk Z m → 0 ≤ q → (mtS side id acct pr mode Z R q).2.2 ≤ q
 | 0, Z, R, q, hZ, hQ, _ => by
  have : Z = [] := List.eq_nil_of_length_eq_zero (by omega)
  subst this
  rw [mtS_nil]
  exact Int.le_refl _
 | m + 1, Z, R, q, hZ, hQ, hq => by
  obtain ⟨t, e, ht, -⟩ := head4 hZ
  have hc := hQ 0 (by omega)
  simp only [Nat.zero_mul, Nat.zero_add] at hc
  rw [e] at hQ
  have hQ' := qtyOk_tail hQ
  rw [e]
  generalize num Z 0 = i at *
  generalize num Z 1 = a at *
  generalize num Z 2 = p at *
  generalize num Z 3 = c at *
  rw [mtS_cons]
  split
  · split
    · split
      · exact hq
      · split
        · exact mts_left m ht hQ' hq
        · exact hq
    · split
      · have := mts_left (side := side) (id := id) (acct := acct) (pr := pr) (mode := mode) m (R := R ++ filR id acct i p c) ht hQ' (show 0 ≤ q - c by omega)
        omega
      · exact hq
  · exact Int.le_refl _
theorem ld_zero {f : Nat → Bool} : ∀ {n : Nat}, 0 < n → lead f n = 0 → f 0 = false
 | 0, h, _ => absurd h (Nat.lt_irrefl 0)
 | n + 1, _, e => by
  rw [lead] at e
  split at e
  · omega
  · rename_i h0
    simpa using h0
theorem place_ok {za zb : List Int} {n m : Nat} {sd id ac pr qt md : Int} (h : rgB za n zb m sd id ac pr qt md = true) (ha : za.length = n * 4) (hb : zb.length = m * 4) (hl : mLL true sd id ac pr qt md za zb ≠ 0) (hp : 1 ≤ pr)
 (hr : (if sd = 1 then (mZ1 true sd id ac pr qt md za zb).length / 4 else (mZ2 true sd id ac pr qt md za zb).length / 4) < 20) :
 restOk sd id ac pr (mLL true sd id ac pr qt md za zb) (mZ1 true sd id ac pr qt md za zb) ((mZ1 true sd id ac pr qt md za zb).length / 4) (mZ2 true sd id ac pr qt md za zb) ((mZ2 true sd id ac pr qt md za zb).length / 4) = true := by
 have R := rg_oth h ha hb
 obtain ⟨hbk, hso, hinc, -, -, -, -, -, -, hq, hq2⟩ := rg_parts h
 obtain ⟨M, g, e1, e2, e3⟩ := mt_sub (side := sd) (id := id) (acct := ac) (pr := pr) (mode := md) (othN sd n m) (R := []) (q := qt) R.len R.qty (by omega)
 have hle := mts_left (side := sd) (id := id) (acct := ac) (pr := pr) (mode := md) (othN sd n m) (R := []) (q := qt) R.len R.qty (by omega)
 have hB := rg_book h ha hb
 have hS := rg_stop (bk := true) h ha hb hl
 have h0 := (rg_sum h ha hb).2.2.2
 obtain ⟨no1, no2⟩ := rg_noId h
 have hno := R.no
 have hlf : mLL true sd id ac pr qt md za zb ≤ qt := by
  unfold mLL mtA
  rw [if_pos rfl]
  exact hle
 have hcr : crOk true sd pr = true := by
  simp only [incB, inB, Bool.and_eq_true, decide_eq_true_eq] at hinc
  simp only [crOk, inB, Bool.and_eq_true, decide_eq_true_eq]
  exact ⟨trivial, hso, hinc.2.2.1⟩
 have ho : ordI id ac pr (mLL true sd id ac pr qt md za zb) = true := by
  simp only [incB, inB, Bool.and_eq_true, decide_eq_true_eq] at hinc
  simp only [ordI, inB, Bool.and_eq_true, decide_eq_true_eq]
  exact ⟨hinc.1, hinc.2.1, ⟨hp, hinc.2.2.1.2⟩, by omega, by omega⟩
 have hT : (mtA sd id ac pr qt md za zb).1.length = M * 4 := e1
 have hTn : noId (mtA sd id ac pr qt md za zb).1 M id := fun k hk => by
  have := e3.val k hk 0 (by omega)
  simp only [Nat.add_zero] at this
  intro c
  exact hno (g k) (e3.lt k hk) (this.symm.trans c)
 unfold crN at hS
 rw [if_pos hcr] at hS
 generalize mLL true sd id ac pr qt md za zb = lf at *
 rcases side_cases sd with ⟨rfl, -⟩ | ⟨rfl, -⟩ | ⟨-, -, hx⟩
 · have z1 : mZ1 true 1 id ac pr qt md za zb = za := by unfold mZ1; rw [if_pos rfl, if_pos rfl]
   have z2 : mZ2 true 1 id ac pr qt md za zb = (mtA 1 id ac pr qt md za zb).1 := by unfold mZ2; rw [if_pos rfl, if_pos rfl]
   rw [z1, z2] at hB hS hr ⊢
   have ea : za.length / 4 = n := by omega
   have eT : (mtA 1 id ac pr qt md za zb).1.length / 4 = M := by omega
   simp only [ea, eT, if_true] at hB hS hr ⊢
   refine rest_ok ha hT hB (.inl rfl) ho (by rw [if_pos rfl]; exact hr) no1 hTn (fun _ hm0 => ?_) (fun e => absurd e (by decide))
   have := ld_zero hm0 hS
   simp only [meetB, betB, if_pos, Bool.or_eq_false_iff, Bool.not_eq_false', decide_eq_true_eq] at this
   exact this.2
 · have z1 : mZ1 true 2 id ac pr qt md za zb = (mtA 2 id ac pr qt md za zb).1 := by unfold mZ1; rw [if_pos rfl, if_neg (by decide)]
   have z2 : mZ2 true 2 id ac pr qt md za zb = zb := by unfold mZ2; rw [if_pos rfl, if_neg (by decide)]
   rw [z1, z2] at hB hS hr ⊢
   have ea : zb.length / 4 = m := by omega
   have eT : (mtA 2 id ac pr qt md za zb).1.length / 4 = M := by omega
   simp only [ea, eT] at hB hS hr ⊢
   rw [if_neg (by decide)] at hS hr
   refine rest_ok hT hb hB (.inr rfl) ho (by rw [if_neg (by decide)]; exact hr) hTn no2 (fun e => absurd e (by decide)) (fun _ hm0 => ?_)
   have := ld_zero hm0 hS
   simp only [meetB, betB, Bool.or_eq_false_iff, Bool.not_eq_false'] at this
   have h2 := this.2
   rw [if_neg (by decide)] at h2
   exact of_decide_eq_true h2
 · rw [hx] at hso
   cases hso
end Go.Proofs.YtgjjdnojiegidaaGreatDoor

namespace Go.Proofs.YtgjjdnojiegidaaGreatDoor
open Go.RowKit Wire

abbrev Trip : Type := List Int × List Int × List Int
def rejR (sy ac id : Int) (code : Nat) : List Int := [0, 2, sy, ac, id, (code : Int), 0, 0]
def ackR (ac id pr qt : Int) : List Int := [0, 1, 0, ac, id, 0, pr, qt]
def plaR (id ac pr qt md sd : Int) (rest : Bool) (za zb : List Int) : Trip :=
 if mLL true sd id ac pr qt md za zb = 0 then (mZ1 true sd id ac pr qt md za zb, mZ2 true sd id ac pr qt md za zb, ackR ac id pr qt ++ mRR true sd id ac pr qt md za zb)
 else if (rest && decide ((if sd = 1 then (mZ1 true sd id ac pr qt md za zb).length / 4 else (mZ2 true sd id ac pr qt md za zb).length / 4) < 20)) = true then
  (rest1 sd pr (mZ1 true sd id ac pr qt md za zb) ((mZ1 true sd id ac pr qt md za zb).length / 4) [id, ac, pr, mLL true sd id ac pr qt md za zb],
   rest2 sd pr (mZ2 true sd id ac pr qt md za zb) ((mZ2 true sd id ac pr qt md za zb).length / 4) [id, ac, pr, mLL true sd id ac pr qt md za zb], ackR ac id pr qt ++ mRR true sd id ac pr qt md za zb)
 else (mZ1 true sd id ac pr qt md za zb, mZ2 true sd id ac pr qt md za zb, ackR ac id pr qt ++ mRR true sd id ac pr qt md za zb ++ canR id ac pr (mLL true sd id ac pr qt md za zb))
def rdZ (zs : List Int) (id qt : Int) : Nat → List Int
 | 0 => []
 | k + 1 => rdZ zs id qt k ++ [num zs (k * 4), num zs (k * 4 + 1), num zs (k * 4 + 2), if num zs (k * 4) = id then qt else num zs (k * 4 + 3)]
theorem rdZ_len (zs : List Int) (id qt : Int) : ∀ n, (rdZ zs id qt n).length = n * 4
 | 0 => rfl
 | n + 1 => by
  rw [rdZ, List.length_append, rdZ_len zs id qt n]
  simp
  omega
theorem rdZ_at (zs : List Int) (id qt : Int) : ∀ n k j, k < n → j < 4 → num (rdZ zs id qt n) (k * 4 + j) = if j = 3 ∧ num zs (k * 4) = id then qt else num zs (k * 4 + j)
 | 0, k, j, h, _ => by omega
 | n + 1, k, j, h, hj => by
  rw [rdZ]
  rcases Nat.lt_or_ge k n with c | c
  · rw [tnum_lt (by rw [rdZ_len]; omega), rdZ_at zs id qt n k j c hj]
  · obtain rfl : k = n := by omega
    rw [tnum_ge (rdZ_len zs id qt k)]
    rcases (show j = 0 ∨ j = 1 ∨ j = 2 ∨ j = 3 by omega) with rfl | rfl | rfl | rfl <;> simp [num]
def symR (sy : Int) (R : List Int) : Nat → List Int
 | 0 => R
 | k + 1 => (symR sy R k).set (k * 8 + 2) sy
theorem symR_len (sy : Int) (R : List Int) : ∀ n, (symR sy R n).length = R.length
 | 0 => rfl
 | n + 1 => by rw [symR, List.length_set, symR_len sy R n]
def whyO (ok : Bool) (f1 ac : Int) : Nat := if ok = true ∧ f1 = ac then 0 else 4
theorem whyO_no (f1 ac : Int) : whyO false f1 ac = 4 := if_neg (fun h => absurd h.1 (by decide))
theorem whyO_yes {f1 ac : Int} (h : f1 = ac) : whyO true f1 ac = 0 := if_pos ⟨rfl, h⟩
theorem whyO_not {f1 ac : Int} (h : ¬ f1 = ac) : whyO true f1 ac = 4 := if_neg (fun e => h e.2)
def whyN (ok : Bool) (k ac id sd pr qt md : Int) (za : List Int) (n : Nat) (zb : List Int) (m : Nat) : Nat :=
 if ok = true then 3
 else if k = 4 ∧ canB (rgB za n zb m sd id ac pr qt md) sd id ac pr qt md za zb = false then 6
 else if k = 5 ∧ 0 < crN true sd pr za zb n m then 5
 else if k = 5 ∧ ¬ sideN true sd n m < 20 then 7
 else 0
def whyA (ok : Bool) (f : Nat → Int) (k sy ac id sd pr qt md : Int) (za : List Int) (n : Nat) (zb : List Int) (m : Nat) : Nat :=
 if cmdB k sy ac id sd pr qt md = true ∧ k < 8 then (if k = 6 ∨ k = 7 then whyO ok (f 1) ac else whyN ok k ac id sd pr qt md za n zb m) else 1
def symN (cw : Nat) (sy : Int) : Int := if cw = 1 then 0 else sy
theorem whyN_le {ok : Bool} {k ac id sd pr qt md : Int} {za zb : List Int} {n m : Nat} : whyN ok k ac id sd pr qt md za n zb m ≤ 7 := by
 unfold whyN
 split
 · decide
 split
 · decide
 split
 · decide
 split <;> decide
theorem whyA_le {ok : Bool} {f : Nat → Int} {k sy ac id sd pr qt md : Int} {za zb : List Int} {n m : Nat} : whyA ok f k sy ac id sd pr qt md za n zb m ≤ 7 := by
 unfold whyA
 split
 · split
   · unfold whyO
     split <;> decide
   · exact whyN_le
 · decide
def doT (s : Int) (f : Nat → Int) (k ac id sd pr qt md : Int) (za : List Int) (n : Nat) (zb : List Int) (m : Nat) : Trip :=
 if k = 6 then (tkZ za id n, tkZ zb id m, canR (f 0) (f 1) (f 2) (f 3))
 else if k = 7 then
  (if pr = f 2 ∧ qt ≤ f 3 then (rdZ za id qt n, rdZ zb id qt m, canR (f 0) (f 1) (f 2) (f 3) ++ ackR ac id pr qt)
  else ((plaR id ac pr qt md s true (tkZ za id n) (tkZ zb id m)).1, (plaR id ac pr qt md s true (tkZ za id n) (tkZ zb id m)).2.1, canR (f 0) (f 1) (f 2) (f 3) ++ (plaR id ac pr qt md s true (tkZ za id n) (tkZ zb id m)).2.2))
 else plaR id ac pr qt md sd (decide (k = 1) || decide (k = 5)) za zb
def exA (s : Int) (f : Nat → Int) (ok : Bool) (k sy ac id sd pr qt md : Int) (za : List Int) (n : Nat) (zb : List Int) (m : Nat) : Trip :=
 if bookB za n zb m = true then
  (if whyA ok f k sy ac id sd pr qt md za n zb m = 0 then ((doT s f k ac id sd pr qt md za n zb m).1, (doT s f k ac id sd pr qt md za n zb m).2.1, symR sy (doT s f k ac id sd pr qt md za n zb m).2.2 ((doT s f k ac id sd pr qt md za n zb m).2.2.length / 8))
  else (za, zb, rejR (symN (whyA ok f k sy ac id sd pr qt md za n zb m) sy) ac id (whyA ok f k sy ac id sd pr qt md za n zb m)))
 else ([], [], [])
def EAns (w' : World) (base : Nat) (t : Trip) (e : Ending) : Prop := ∃ v1 v2 v3 N1 N2 N3, e = .returned (.tuple #[.agg #[v1, v2], v3]) ∧ TwoRows w' base v1 N1 t.1 v2 N2 t.2.1 ∧ w'.ownsRow base 48 8 v3 N3 (nums t.2.2)
end Go.Proofs.YtgjjdnojiegidaaGreatDoor

namespace Go.Proofs.YtgjjdnojiegidaaGreatDoor
open Go.RowKit Wire

theorem first_at (f : Nat → Int) (x : Int) : ∀ n, (∃ k, k < n ∧ (∀ j, j < k → f j ≠ x) ∧ f k = x) ∨ ∀ j, j < n → f j ≠ x
 | 0 => .inr (fun j h => absurd h (Nat.not_lt_zero j))
 | n + 1 => by
  rcases first_at f x n with ⟨k, h1, h2, h3⟩ | h
  · exact .inl ⟨k, by omega, h2, h3⟩
  · by_cases he : f n = x
    · exact .inl ⟨n, by omega, h, he⟩
    · refine .inr fun j hj => ?_
      rcases Nat.lt_or_ge j n with c | c
      · exact h j c
      · rw [show j = n by omega]; exact he
theorem find_is (bk : Bool) (za : List Int) (n : Nat) (zb : List Int) (m : Nat) (id : Int) : ∃ s f ok, FindRel bk za n zb m id s f ok := by
 cases bk
 · exact ⟨0, fun _ => 0, false, .inr (.inr ⟨.inl rfl, rfl, rfl, fun _ _ => rfl⟩)⟩
 · rcases first_at (idN za) id n with ⟨k, h1, h2, h3⟩ | h
   · exact ⟨1, fun j => num za (k * 4 + j), true, .inl ⟨rfl, k, h1, h2, h3, rfl, rfl, fun _ _ => rfl⟩⟩
   · rcases first_at (idN zb) id m with ⟨k, h1, h2, h3⟩ | h'
     · exact ⟨2, fun j => num zb (k * 4 + j), true, .inr (.inl ⟨rfl, h, k, h1, h2, h3, rfl, rfl, fun _ _ => rfl⟩)⟩
     · exact ⟨0, fun _ => 0, false, .inr (.inr ⟨.inr ⟨h, h'⟩, rfl, rfl, fun _ _ => rfl⟩)⟩
theorem cmd_new {k sy ac id sd pr qt md : Int} (h : cmdB k sy ac id sd pr qt md = true) (h5 : k ≤ 5) : sideOkB sd = true ∧ incB id ac pr qt = true ∧ inB 1 md 3 = true ∧ ((k = 1 ∨ k = 5) → 1 ≤ pr) := by
 simp only [cmdB, Bool.and_eq_true] at h
 obtain ⟨h1, h2, -, h4, h6, h7, h8, h9⟩ := h
 have d7 : decide (k ≤ 7) = true := decide_eq_true (by omega)
 have d5 : decide (k ≤ 5) = true := decide_eq_true h5
 rw [d7] at h4
 rw [d5] at h6 h7 h8 h9
 simp only [cfB, Bool.true_or, if_true, Bool.true_and] at h4 h6 h7 h8 h9
 simp only [inB, Bool.and_eq_true, decide_eq_true_eq] at h2 h4 h6 h8
 have hp : (k = 2 ∧ pr = 0) ∨ (k ≠ 2 ∧ 1 ≤ pr ∧ pr ≤ 1000000) := by
  by_cases e2 : k = 2
  · left
    subst e2
    simpa using h7
  · right
    have e : (k != 2) = true := by simp [e2]
    rw [e] at h7
    simp only [if_true, inB, Bool.and_eq_true, decide_eq_true_eq] at h7
    exact ⟨e2, h7⟩
 refine ⟨?_, ?_, h9, fun hk => ?_⟩
 · rcases (show sd = 1 ∨ sd = 2 by omega) with rfl | rfl <;> rfl
 · simp only [incB, inB, Bool.and_eq_true, decide_eq_true_eq]
   exact ⟨h4, h2, by rcases hp with ⟨-, e⟩ | ⟨-, e⟩ <;> omega, h8⟩
 · rcases hp with ⟨e, -⟩ | ⟨-, e⟩ <;> omega
theorem cmd_repl {sy ac id sd pr qt md : Int} (h : cmdB 7 sy ac id sd pr qt md = true) : incB id ac pr qt = true ∧ inB 1 md 3 = true ∧ 1 ≤ pr := by
 simp only [cmdB, Bool.and_eq_true] at h
 obtain ⟨-, h2, -, h4, -, h7, h8, h9⟩ := h
 have d7 : decide ((7 : Int) ≤ 7) = true := by decide
 have d5 : decide ((7 : Int) ≤ 5) = false := by decide
 have e7 : ((7 : Int) == 7) = true := by decide
 have e2 : ((7 : Int) != 2) = true := by decide
 rw [d7] at h4
 rw [d5, e7] at h7 h8 h9
 rw [e2] at h7
 simp only [cfB, Bool.or_true, if_true, Bool.true_and] at h4 h7 h8 h9
 simp only [inB, Bool.and_eq_true, decide_eq_true_eq] at h2 h4 h7 h8
 refine ⟨?_, h9, h7.1⟩
 simp only [incB, inB, Bool.and_eq_true, decide_eq_true_eq]
 exact ⟨h4, h2, by omega, h8⟩
theorem rg_new {za zb : List Int} {n m : Nat} {sd id ac pr qt md s : Int} {f : Nat → Int} (hb : bookB za n zb m = true) (hs : sideOkB sd = true) (hi : incB id ac pr qt = true) (hm : inB 1 md 3 = true) (hf : FindRel (bookB za n zb m) za n zb m id s f false) : rgB za n zb m sd id ac pr qt md = true := by
 have hk := find_knows hf
 unfold rgB
 rw [← hk, hb, hs, hi, hm]
 rfl
theorem rg_repl {za zb : List Int} {n m : Nat} {id ac pr qt md s : Int} {f : Nat → Int} (hb : bookB za n zb m = true) (hi : incB id ac pr qt = true) (hm : inB 1 md 3 = true) (hf : FindRel (bookB za n zb m) za n zb m id s f true) :
 rgB (tkZ za id n) (tkN za id n) (tkZ zb id m) (tkN zb id m) s id ac pr qt md = true := by
 have hb2 := taken_ok (id := id) hb
 obtain ⟨g1, s1⟩ := tk_sub za id n
 obtain ⟨g2, s2⟩ := tk_sub zb id m
 have hs : sideOkB s = true := by
  rcases hf with ⟨-, k, -, -, -, e, -⟩ | ⟨-, -, k, -, -, -, e, -⟩ | ⟨-, -, e, -⟩
  · rw [e]; rfl
  · rw [e]; rfl
  · cases e
 have hn : FindRel (bookB (tkZ za id n) (tkN za id n) (tkZ zb id m) (tkN zb id m)) (tkZ za id n) (tkN za id n) (tkZ zb id m) (tkN zb id m) id 0 (fun _ => 0) false :=
  .inr (.inr ⟨.inr ⟨fun j hj e => s1.ok j hj ((s1.val j hj 0 (by omega)).symm.trans e), fun j hj e => s2.ok j hj ((s2.val j hj 0 (by omega)).symm.trans e)⟩, rfl, rfl, fun _ _ => rfl⟩)
 exact rg_new hb2 hs hi hm hn
end Go.Proofs.YtgjjdnojiegidaaGreatDoor
