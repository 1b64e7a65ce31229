/-
  The exact law of Matched.
-/
import Derived.Test.YthmoddohkchhfaaGF
import Derived.Test.YthmoddohkchhfaaHeldR
import Derived.Test.YthmoddohkchhfaaGB
import Derived.Test.YthmoddohkchhfaaBookZ
import Derived.Test.YthmoddohkchhfaaKeep
namespace Go.Proofs.Ythmoddohkchhfaa
open Go.RowKit Wire

theorem cfree4 {w : World} {S : Nat} {a b c d : Value} {T : TypeId} (h : w.heap[S]? = some (.cells #[a, b, c, d] T (0, 0))) : w.cell? ⟨S, 0, none⟩ = some a ∧ w.cell? ⟨S, 1, none⟩ = some b ∧ w.cell? ⟨S, 2, none⟩ = some c ∧ w.cell? ⟨S, 3, none⟩ = some d := by
  refine ⟨?_, ?_, ?_, ?_⟩ <;> simp [World.cell?, h]
theorem rfree2 {w : World} {S : Nat} {a b : Value} {T : TypeId} (h : w.heap[S]? = some (.cells #[a, b] T (0, 0))) : w.frozen? ⟨S, 0, none⟩ = false ∧ w.frozen? ⟨S, 1, none⟩ = false := by
  refine ⟨?_, ?_⟩ <;> simp [World.frozen?, h]
theorem rput2 {w : World} {S : Nat} {a b u0 u1 : Value} {T : TypeId} (h : w.heap[S]? = some (.cells #[a, b] T (0, 0))) : ((w.setCell ⟨S, 0, none⟩ u0).setCell ⟨S, 1, none⟩ u1).heap[S]? = some (.cells #[u0, u1] T (0, 0)) := by
  simp [World.setCell, Array.getElem?_modify, h]
theorem rcell4 {w : World} {S : Nat} {a b c d : Value} {T : TypeId} (h : w.heap[S]? = some (.cells #[a, b, c, d] T (0, 0))) : w.cell? ⟨S, 0, none⟩ = some a ∧ w.cell? ⟨S, 1, none⟩ = some b ∧ w.cell? ⟨S, 2, none⟩ = some c ∧ w.cell? ⟨S, 3, none⟩ = some d := by
  refine ⟨?_, ?_, ?_, ?_⟩ <;> simp [World.cell?, h]
theorem TwoRows.put' {w w' : World} {base q : Nat} {r1 r2 : Value} {n1 n2 : Nat} {z1 z2 : List Int} (h : TwoRows w base r1 n1 z1 r2 n2 z2) (hg : w.grownBy w' (some q)) (h1 : r1.ownBlock = some q → False) (h2 : r2.ownBlock = some q → False) : TwoRows w' base r1 n1 z1 r2 n2 z2 :=
  ⟨h.one.kept hg (.inr h1), h.two.kept hg (.inr h2), h.apart⟩
/-- a book in a box that was made, its sides in rows of their own -/
def BoxRes (w : World) (base G N1 : Nat) (Z1 : List Int) (N2 : Nat) (Z2 : List Int) : Prop := ∃ A1 c1 A2 c2, w.heap[G]? = some (.cells #[.slice A1 N1 c1, .slice A2 N2 c2] 48 (0, 0)) ∧ TwoRows w base (.slice A1 N1 c1) N1 Z1 (.slice A2 N2 c2) N2 Z2 ∧
  ((Value.slice A1 N1 c1).ownBlock = some G → False) ∧ ((Value.slice A2 N2 c2).ownBlock = some G → False) ∧ base ≤ G
theorem own_keptlt {w w' : World} {base sz n g : Nat} {e : TypeId} {v : Value} {xs : List Value} (h : w.ownsRow base e sz v n xs) (hg : w.grownBy w' (some g)) (hlt : g < base) : w'.ownsRow base e sz v n xs :=
  h.kept hg (.inr (fun e => absurd (h.lt g e).1 (Nat.not_le_of_lt hlt)))
theorem own_blocks {w w' : World} {base sz n : Nat} {e : TypeId} {v : Value} {xs : List Value} (h : w.ownsRow base e sz v n xs) (hb : ∀ q, v.ownBlock = some q → w'.heap[q]? = w.heap[q]?) : w'.ownsRow base e sz v n xs :=
  ⟨h.1, h.2.imp id (fun ⟨g, cap, cur, e1, b1, c1, rest⟩ => ⟨g, cap, cur, e1, b1, (hb g (by rw [e1]; rfl)).trans c1, rest⟩)⟩
theorem mts_zlen {side oi oa op mode : Int} : ∀ (m : Nat) {Z R : List Int} {q : Int}, Z.length = m * 4 → (mtS side oi oa op mode Z R q).1.length ≤ m * 4
  | 0, Z, R, q, hZ => by
    have : Z = [] := List.eq_nil_of_length_eq_zero (by omega)
    subst this
    rw [mtS_nil]
    exact Nat.zero_le _
  | m + 1, Z, R, q, hZ => by
    obtain ⟨t, e, ht, -⟩ := head4 hZ
    generalize num Z 0 = i at *
    generalize num Z 1 = a at *
    generalize num Z 2 = p at *
    generalize num Z 3 = c at *
    rw [e, mtS_cons]
    split
    · split
      · split
        · simp only [List.length_cons]; omega
        · split
          · exact Nat.le_trans (mts_zlen m ht) (by omega)
          · dsimp only; omega
      · split
        · exact Nat.le_trans (mts_zlen m ht) (by omega)
        · simp only [List.length_cons]; omega
    · simp only [List.length_cons]; omega
theorem mz1_len {za zb : List Int} {n : Nat} {rg : Bool} {side oi oa op oq mode : Int} (ha : za.length = n * 4) : (mZ1 rg side oi oa op oq mode za zb).length ≤ n * 4 := by
  unfold mZ1 mtA
  split
  · split
    · omega
    · exact mts_zlen n ha
  · simp
theorem mz2_len {za zb : List Int} {m : Nat} {rg : Bool} {side oi oa op oq mode : Int} (hb : zb.length = m * 4) : (mZ2 rg side oi oa op oq mode za zb).length ≤ m * 4 := by
  unfold mZ2 mtA
  split
  · split
    · exact mts_zlen m hb
    · omega
  · simp
theorem mrr_small {za zb : List Int} {n m : Nat} {rg : Bool} {side oi oa op oq mode : Int} (h : rgB za n zb m side oi oa op oq mode = rg) (ha : za.length = n * 4) (hb : zb.length = m * 4) : (mRR rg side oi oa op oq mode za zb).length ≤ 640 := by
  cases rg
  · simp [mRR]
  · obtain ⟨-, -, -, -, -, h1, h2, -, -, -, -⟩ := rg_parts h
    have := mrr_len (rg := true) (side := side) (oi := oi) (oa := oa) (op := op) (oq := oq) (mode := mode) ha hb
    omega
theorem mans_fix {w' : World} {base : Nat} {rg : Bool} {side oi oa op oq mode : Int} {za zb : List Int} {e : Ending} (h : MAns w' base rg side oi oa op oq mode za zb e) :
    ∃ v1 v2 v3, e = .returned (.tuple #[.agg #[v1, v2], v3, .int .i64 (mLL rg side oi oa op oq mode za zb), .bool rg]) ∧ TwoRows w' base v1 ((mZ1 rg side oi oa op oq mode za zb).length / 4) (mZ1 rg side oi oa op oq mode za zb) v2 ((mZ2 rg side oi oa op oq mode za zb).length / 4) (mZ2 rg side oi oa op oq mode za zb) ∧ w'.ownsRow base 126 8 v3 ((mRR rg side oi oa op oq mode za zb).length / 8) (nums (mRR rg side oi oa op oq mode za zb)) := by
  obtain ⟨r1, r2, rv, n1, n2, N, he, hT, hR⟩ := h
  have e1 : (mZ1 rg side oi oa op oq mode za zb).length / 4 = n1 := by have := hT.one.1; rw [nums_length] at this; omega
  have e2 : (mZ2 rg side oi oa op oq mode za zb).length / 4 = n2 := by have := hT.two.1; rw [nums_length] at this; omega
  have e3 : (mRR rg side oi oa op oq mode za zb).length / 8 = N := by have := hR.1; rw [nums_length] at this; omega
  exact ⟨r1, r2, rv, he, by rw [e1, e2]; exact hT, by rw [e3]; exact hR⟩
set_option linter.unusedSimpArgs false in
set_option maxHeartbeats 6400000 in
set_option maxRecDepth 100000 in
theorem law_Matched (A : Option Addr) (n c : Nat) (B : Option Addr) (m d : Nat) (za zb : List Int) (side oi oa op oq mode : Int) (w : World) (hl : BookIn w w.heap.size A n B m za zb) (hn : n ≤ maxLen) (hm : m ≤ maxLen) :
    Calls Try.prog 12 #[.agg #[.slice A n c, .slice B m d], .int .i64 side, .agg #[.int .i64 oi, .int .i64 oa, .int .i64 op, .int .i64 oq], .int .i64 mode] w fun e w' => e = .returned (.bool true) ∧ Below w.heap.size w w' := by
  obtain ⟨b0, b1⟩ := two_blocks w (.cells #[.slice A n c, .slice B m d] 42) (.cells #[.int .i64 oi, .int .i64 oa, .int .i64 op, .int .i64 oq] 62)
  have hbw : Below w.heap.size w ((w.alloc (.cells #[.slice A n c, .slice B m d] 42)).alloc (.cells #[.int .i64 oi, .int .i64 oa, .int .i64 op, .int .i64 oq] 62)) := ((Below.refl _ _).alloc (Nat.le_refl _) _).alloc (by simp) _
  have hsw : ((w.alloc (.cells #[.slice A n c, .slice B m d] 42)).alloc (.cells #[.int .i64 oi, .int .i64 oa, .int .i64 op, .int .i64 oq] 62)).heap.size = w.heap.size + 2 := by simp
  have hlw := hl.later hbw
  go_enter Try.func12, Try.ntmps12
  go_wp2_with fail
  generalize ((w.alloc (.cells #[.slice A n c, .slice B m d] 42)).alloc (.cells #[.int .i64 oi, .int .i64 oa, .int .i64 op, .int .i64 oq] 62)) = ww at *
  refine (szBook_any A n c B m d _ hn hm).mono ?_
  rintro e w0 ⟨⟨z, rfl, hz⟩, hb0⟩
  have H0 := (hb0.block (w.heap.size) (by omega)).trans b0
  have O0 := (hb0.block (w.heap.size + 1) (by omega)).trans b1
  have hs0 : w.heap.size + 2 ≤ w0.heap.size := by have := hb0.size; omega
  have hl0 := hlw.later hb0
  have hB0 := hbw.trans (hb0.mono hbw.size)
  clear b0 b1 hb0 hbw hlw hsw
  rcases hz with ⟨rfl, hbig⟩ | ⟨hz0, hnm⟩
  · clear H0 O0
    go_wp2_with fail
    go_ret
    exact ⟨rfl, hB0⟩
  have hz1 : decide (z < 0) = false := decide_eq_false (by omega)
  have hn1 : n ≤ 1048576 := by omega
  have hm1 : m ≤ 1048576 := by omega
  have hlA := hl.1.1
  have hlB := hl.2.1
  clear hl
  obtain ⟨rg, hrg⟩ : ∃ x, rgB za n zb m side oi oa op oq mode = x := ⟨_, rfl⟩
  have hz1l := mz1_len (zb := zb) (rg := rg) (side := side) (oi := oi) (oa := oa) (op := op) (oq := oq) (mode := mode) hlA
  have hz2l := mz2_len (za := za) (rg := rg) (side := side) (oi := oi) (oa := oa) (op := op) (oq := oq) (mode := mode) hlB
  have hrl := mrr_small hrg hlA hlB
  obtain ⟨Z1, hsZ1⟩ : ∃ x, mZ1 rg side oi oa op oq mode za zb = x := ⟨_, rfl⟩
  obtain ⟨Z2, hsZ2⟩ : ∃ x, mZ2 rg side oi oa op oq mode za zb = x := ⟨_, rfl⟩
  obtain ⟨RR, hsR⟩ : ∃ x, mRR rg side oi oa op oq mode za zb = x := ⟨_, rfl⟩
  obtain ⟨lf, hslf⟩ : ∃ x, mLL rg side oi oa op oq mode za zb = x := ⟨_, rfl⟩
  obtain ⟨N1, hsN1⟩ : ∃ x, Z1.length / 4 = x := ⟨_, rfl⟩
  obtain ⟨N2, hsN2⟩ : ∃ x, Z2.length / 4 = x := ⟨_, rfl⟩
  obtain ⟨N3, hsN3⟩ : ∃ x, RR.length / 8 = x := ⟨_, rfl⟩
  rw [hsZ1] at hz1l
  rw [hsZ2] at hz2l
  rw [hsR] at hrl
  have hN1 : N1 ≤ 1048576 := by omega
  have hN2 : N2 ≤ 1048576 := by omega
  have hN3 : N3 ≤ 1048576 := by omega
  have HCS : Hid (∀ (v : World) (g f : Nat), BookIn v v.heap.size (some ⟨g, 0, none⟩) n (some ⟨f, 0, none⟩) m za zb → Calls Try.prog 49 #[.agg #[.slice (some ⟨g, 0, none⟩) n n, .slice (some ⟨f, 0, none⟩) m m], .int .i64 side, .agg #[.int .i64 oi, .int .i64 oa, .int .i64 op, .int .i64 oq], .int .i64 mode] v fun e w' => (∃ v1 v2 v3, e = .returned (.tuple #[.agg #[v1, v2], v3, .int .i64 lf, .bool rg]) ∧ TwoRows w' v.heap.size v1 N1 Z1 v2 N2 Z2 ∧ w'.ownsRow v.heap.size 126 8 v3 N3 (nums RR)) ∧ Below v.heap.size v w') := Lib.hid (fun v g f hx => by
    have := (spec_Matched (some ⟨g, 0, none⟩) n n (some ⟨f, 0, none⟩) m m za zb side oi oa op oq mode v hx.1 hx.2 hn1 hm1 (fun e => by cases e) (fun e => by cases e)).mono (fun e w' h => (⟨mans_fix h.1, h.2⟩ : _ ∧ _))
    rw [hrg, hsZ1, hsZ2, hsR, hslf, hsN1, hsN2, hsN3] at this
    exact this)
  have HCI : Hid (∀ (v : World) (g f : Nat), BookIn v v.heap.size (some ⟨g, 0, none⟩) n (some ⟨f, 0, none⟩) m za zb → Calls Try.prog 50 #[.agg #[.slice (some ⟨g, 0, none⟩) n n, .slice (some ⟨f, 0, none⟩) m m], .int .i64 side, .agg #[.int .i64 oi, .int .i64 oa, .int .i64 op, .int .i64 oq], .int .i64 mode] v fun e w' => (∃ v1 v2 v3, e = .returned (.tuple #[.agg #[v1, v2], v3, .int .i64 lf, .bool rg]) ∧ TwoRows w' v.heap.size v1 N1 Z1 v2 N2 Z2 ∧ w'.ownsRow v.heap.size 126 8 v3 N3 (nums RR)) ∧ Below v.heap.size v w') := Lib.hid (fun v g f hx => by
    have := (impl_Matched (some ⟨g, 0, none⟩) n n (some ⟨f, 0, none⟩) m m za zb side oi oa op oq mode v hx.1 hx.2 hn1 hm1).mono (fun e w' h => (⟨mans_fix h.1, h.2⟩ : _ ∧ _))
    rw [hrg, hsZ1, hsZ2, hsR, hslf, hsN1, hsN2, hsN3] at this
    exact this)
  clear hrg hz1l hz2l hrl hsZ1 hsZ2 hsR hslf hsN1 hsN2 hsN3
  have hK0 : Keeps w0.heap.size w0 [(w.heap.size, (.cells #[.slice A n c, .slice B m d] 42)), (w.heap.size + 1, (.cells #[.int .i64 oi, .int .i64 oa, .int .i64 op, .int .i64 oq] 62))] w0 := ⟨Below.refl _ _, Nat.le_refl _, fun p hp => by
    simp only [List.mem_cons, List.not_mem_nil, or_false] at hp
    rcases hp with rfl | rfl
    · exact H0
    · exact O0⟩
  go_wp2_with fail
  go_upto_region 5 with fail
  go_cut [10, 11, 12, 13] (fun s10 s11 s12 s13 wx => ∃ G R3 d3, s10 = .pointer (some ⟨G, 0, none⟩) ∧ s11 = .slice R3 N3 d3 ∧ s12 = .int .i64 lf ∧ s13 = .bool rg ∧ BoxRes wx w0.heap.size G N1 Z1 N2 Z2 ∧ wx.ownsRow w0.heap.size 126 8 (.slice R3 N3 d3) N3 (nums RR) ∧ Keeps w0.heap.size w0 [(w.heap.size, (.cells #[.slice A n c, .slice B m d] 42)), (w.heap.size + 1, (.cells #[.int .i64 oi, .int .i64 oa, .int .i64 op, .int .i64 oq] 62))] wx)
  case first =>
    refine wp_region_held_drew (S := Keeps w0.heap.size w0 [(w.heap.size, (.cells #[.slice A n c, .slice B m d] 42)), (w.heap.size + 1, (.cells #[.int .i64 oi, .int .i64 oa, .int .i64 op, .int .i64 oq] 62))]) (by kernel_rfl) ?hSr5 (fun hHeld => ?restr5)
    case hSr5 => exact hK0.drew
    replace hK0 := hK0.drew
    have hls := hl0
    clear hHeld
    generalize hw1s : w0.drew = w1s at hK0 ⊢
    clear hw1s
    refine wpAnyH_take (i := 0) (oi := ?oik457) (v := ?vk457) ?hik457 (by kernel_rfl) (by kernel_rfl) (by kernel_rfl) ?hQk457 (Or.inl ⟨?hwk457, ?hyk457⟩) (by assumption) ?restk457
    case hik457 => simp only [List.getElem?_toArray, List.getElem?_cons_succ, List.getElem?_cons_zero]; exact rfl
    case hQk457 => exact fun _ _ _ h => h
    case hwk457 => rfl
    case hyk457 => ((intro w hSw; obtain ⟨c0, c1⟩ := cell2 hSw.one; go_simp) <;> with_reducible rfl)
    try simp only [Act.put, List.setIfInBounds_toArray, List.set_cons_zero, List.set_cons_succ]
    refine wpAnyH_take (i := 2) (oi := ?oik458) (v := ?vk458) ?hik458 (by kernel_rfl) (by kernel_rfl) (by kernel_rfl) ?hQk458 (Or.inl ⟨?hwk458, ?hyk458⟩) (by assumption) ?restk458
    case hik458 => simp only [List.getElem?_toArray, List.getElem?_cons_succ, List.getElem?_cons_zero]; exact rfl
    case hQk458 => exact fun _ _ _ h => h
    case hwk458 => rfl
    case hyk458 => ((intro w hSw; go_simp) <;> with_reducible rfl)
    try simp only [Act.put, List.setIfInBounds_toArray, List.set_cons_zero, List.set_cons_succ]
    refine wpAnyH_take (i := 3) (oi := ?oik459) (v := ?vk459) ?hik459 (by kernel_rfl) (by kernel_rfl) (by kernel_rfl) ?hQk459 (Or.inl ⟨?hwk459, ?hyk459⟩) (by assumption) ?restk459
    case hik459 => simp only [List.getElem?_toArray, List.getElem?_cons_succ, List.getElem?_cons_zero]; exact rfl
    case hQk459 => exact fun _ _ _ h => h
    case hwk459 => rfl
    case hyk459 => ((intro w hSw; obtain ⟨c0, c1, c2, c3⟩ := cfree4 hSw.two; go_simp) <;> with_reducible rfl)
    try simp only [Act.put, List.setIfInBounds_toArray, List.set_cons_zero, List.set_cons_succ]
    refine wpAnyH_take (i := 5) (oi := ?oik460) (v := ?vk460) ?hik460 (by kernel_rfl) (by kernel_rfl) (by kernel_rfl) ?hQk460 (Or.inl ⟨?hwk460, ?hyk460⟩) (by assumption) ?restk460
    case hik460 => simp only [List.getElem?_toArray, List.getElem?_cons_succ, List.getElem?_cons_zero]; exact rfl
    case hQk460 => exact fun _ _ _ h => h
    case hwk460 => rfl
    case hyk460 => ((intro w hSw; go_simp) <;> with_reducible rfl)
    try simp only [Act.put, List.setIfInBounds_toArray, List.set_cons_zero, List.set_cons_succ]
    refine wpAnyH_ready (rs := [1, 12]) (by kernel_rfl) (by simp) ?_
    refine AllReadyH.cons (o := ?or461_1) ?hor461_1 (fun K hK => ?stepr461_1) (AllReadyH.cons (o := ?or461_12) ?hor461_12 (fun K hK => ?stepr461_12) (AllReadyH.nil))
    case hor461_1 => simp only [List.getElem?_toArray, List.getElem?_cons_succ, List.getElem?_cons_zero]; exact rfl
    case hor461_12 => simp only [List.getElem?_toArray, List.getElem?_cons_succ, List.getElem?_cons_zero]; exact rfl
    case stepr461_1 =>
      go_simp
      refine (toBook_any A n c B m d za zb w1s (hls.later hK0.bel) hnm).mono ?_
      rintro e v464 ⟨g466, f467, rfl, _, _, _, hr468, hs469, hb465⟩
      have hx470 : BookIn v464 v464.heap.size (some ⟨g466, 0, none⟩) n (some ⟨f467, 0, none⟩) m za zb := ⟨Lst.of_row (sz := 4) (zs := za) (n := n) hr468 (Nat.le_refl _) hlA (fun _ _ => rfl), Lst.of_row (sz := 4) (zs := zb) (n := m) hs469 (Nat.le_refl _) hlB (fun _ _ => rfl)⟩
      clear hr468 hs469
      have hk463 := hK0.upto (Nat.le_refl _) hb465
      refine hK.out _ _ ?hSq462 (fun hHeld => ?restq462)
      case hSq462 => exact hk463
      clear hK K hb465 hK0
      try simp only [Act.put, List.setIfInBounds_toArray, List.set_cons_zero, List.set_cons_succ]
      refine wpAnyH_ready (rs := [4, 12]) (by kernel_rfl) (by simp) ?_
      refine AllReadyH.cons (o := ?or471_4) ?hor471_4 (fun K hK => ?stepr471_4) (AllReadyH.cons (o := ?or471_12) ?hor471_12 (fun K hK => ?stepr471_12) (AllReadyH.nil))
      case hor471_4 => simp only [List.getElem?_toArray, List.getElem?_cons_succ, List.getElem?_cons_zero]; exact rfl
      case hor471_12 => simp only [List.getElem?_toArray, List.getElem?_cons_succ, List.getElem?_cons_zero]; exact rfl
      case stepr471_4 =>
        go_simp
        refine (toOrder_any oi oa op oq v464).mono ?_
        rintro e v474 ⟨rfl, hb475⟩
        have hx476 := hx470.later hb475
        clear hx470
        have hk473 := hk463.upto (Nat.le_refl _) hb475
        refine hK.out _ _ ?hSq472 (fun hHeld => ?restq472)
        case hSq472 => exact hk473
        clear hK K hb475 hk463
        try simp only [Act.put, List.setIfInBounds_toArray, List.set_cons_zero, List.set_cons_succ]
        refine wpAnyH_ready (rs := [6, 12]) (by kernel_rfl) (by simp) ?_
        refine AllReadyH.cons (o := ?or477_6) ?hor477_6 (fun K hK => ?stepr477_6) (AllReadyH.cons (o := ?or477_12) ?hor477_12 (fun K hK => ?stepr477_12) (AllReadyH.nil))
        case hor477_6 => simp only [List.getElem?_toArray, List.getElem?_cons_succ, List.getElem?_cons_zero]; exact rfl
        case hor477_12 => simp only [List.getElem?_toArray, List.getElem?_cons_succ, List.getElem?_cons_zero]; exact rfl
        case stepr477_6 =>
          go_simp
          refine (HCS.out v474 g466 f467 hx476).mono ?_
          rintro e v480 ⟨⟨r482, r483, r484, rfl, two485, hr486⟩, hb481⟩
          obtain ⟨A487, c488, A489, c490, rfl, rfl⟩ := two485.slices
          obtain ⟨A491, c492, rfl, -, -⟩ := own_slice hr486
          have two495 := two485.mono hk473.low
          have hr496 := own_mono hr486 hk473.low
          clear two485 hr486
          clear hx476
          have hk479 := hk473.upto (Nat.le_refl _) hb481
          refine hK.out _ _ ?hSq478 (fun hHeld => ?restq478)
          case hSq478 => exact hk479
          clear hK K hb481 hk473
          try simp only [Act.put, List.setIfInBounds_toArray, List.set_cons_zero, List.set_cons_succ]
          refine wpAnyH_take (i := 7) (oi := ?oik497) (v := ?vk497) ?hik497 (by kernel_rfl) (by kernel_rfl) (by kernel_rfl) ?hQk497 (Or.inl ⟨?hwk497, ?hyk497⟩) (by assumption) ?restk497
          case hik497 => simp only [List.getElem?_toArray, List.getElem?_cons_succ, List.getElem?_cons_zero]; exact rfl
          case hQk497 => exact fun _ _ _ h => h
          case hwk497 => rfl
          case hyk497 => ((intro w hSw; go_simp) <;> with_reducible rfl)
          try simp only [Act.put, List.setIfInBounds_toArray, List.set_cons_zero, List.set_cons_succ]
          refine wpAnyH_take (i := 8) (oi := ?oik498) (v := ?vk498) ?hik498 (by kernel_rfl) (by kernel_rfl) (by kernel_rfl) ?hQk498 (Or.inl ⟨?hwk498, ?hyk498⟩) (by assumption) ?restk498
          case hik498 => simp only [List.getElem?_toArray, List.getElem?_cons_succ, List.getElem?_cons_zero]; exact rfl
          case hQk498 => exact fun _ _ _ h => h
          case hwk498 => rfl
          case hyk498 => ((intro w hSw; go_simp) <;> with_reducible rfl)
          try simp only [Act.put, List.setIfInBounds_toArray, List.set_cons_zero, List.set_cons_succ]
          refine wpAnyH_take (i := 9) (oi := ?oik499) (v := ?vk499) ?hik499 (by kernel_rfl) (by kernel_rfl) (by kernel_rfl) ?hQk499 (Or.inl ⟨?hwk499, ?hyk499⟩) (by assumption) ?restk499
          case hik499 => simp only [List.getElem?_toArray, List.getElem?_cons_succ, List.getElem?_cons_zero]; exact rfl
          case hQk499 => exact fun _ _ _ h => h
          case hwk499 => rfl
          case hyk499 => ((intro w hSw; go_simp) <;> with_reducible rfl)
          try simp only [Act.put, List.setIfInBounds_toArray, List.set_cons_zero, List.set_cons_succ]
          refine wpAnyH_take (i := 10) (oi := ?oik500) (v := ?vk500) ?hik500 (by kernel_rfl) (by kernel_rfl) (by kernel_rfl) ?hQk500 (Or.inl ⟨?hwk500, ?hyk500⟩) (by assumption) ?restk500
          case hik500 => simp only [List.getElem?_toArray, List.getElem?_cons_succ, List.getElem?_cons_zero]; exact rfl
          case hQk500 => exact fun _ _ _ h => h
          case hwk500 => rfl
          case hyk500 => ((intro w hSw; go_simp) <;> with_reducible rfl)
          try simp only [Act.put, List.setIfInBounds_toArray, List.set_cons_zero, List.set_cons_succ]
          refine wpAnyH_take (i := 11) (oi := ?oik501) (v := ?vk501) ?hik501 (by kernel_rfl) (by kernel_rfl) (by kernel_rfl) ?hQk501 (Or.inl ⟨?hwk501, ?hyk501⟩) (by assumption) ?restk501
          case hik501 => simp only [List.getElem?_toArray, List.getElem?_cons_succ, List.getElem?_cons_zero]; exact rfl
          case hQk501 => exact fun _ _ _ h => h
          case hwk501 => rfl
          case hyk501 => ((intro w hSw; go_simp) <;> with_reducible rfl)
          try simp only [Act.put, List.setIfInBounds_toArray, List.set_cons_zero, List.set_cons_succ]
          refine wpAnyH_ready (rs := [12]) (by kernel_rfl) (by simp) ?_
          refine AllReadyH.cons (o := ?or502_12) ?hor502_12 (fun K hK => ?stepr502_12) (AllReadyH.nil)
          case hor502_12 => simp only [List.getElem?_toArray, List.getElem?_cons_succ, List.getElem?_cons_zero]; exact rfl
          case stepr502_12 =>
            go_simp
            have hk504 := hk479.upto (Nat.le_refl _) ((Below.refl _ _).alloc (Nat.le_refl _) (.cells #[.slice none 0 0, .slice none 0 0] 48))
            have hg507 := heap_alloc_new v480 (.cells #[.slice none 0 0, .slice none 0 0] 48)
            have hz508 := hk479.lo
            have hn510 : (Value.slice A487 N1 c488).ownBlock = some v480.heap.size → False := fun e => absurd (two495.one.lt _ e).2 (Nat.lt_irrefl _)
            have hn511 : (Value.slice A489 N2 c490).ownBlock = some v480.heap.size → False := fun e => absurd (two495.two.lt _ e).2 (Nat.lt_irrefl _)
            have two509 := two495.alloc (.cells #[.slice none 0 0, .slice none 0 0] 48)
            have hr512 := hr496.alloc (.cells #[.slice none 0 0, .slice none 0 0] 48)
            clear two495 hr496
            refine hK.out _ _ ?hSq503 (fun hHeld => ?restq503)
            case hSq503 => exact hk504
            clear hK K hk479
            try simp only [Act.put, List.setIfInBounds_toArray, List.set_cons_zero, List.set_cons_succ]
            generalize v480.alloc (.cells #[.slice none 0 0, .slice none 0 0] 48) = v505 at *
            generalize v480.heap.size = G506 at *
            refine wpAnyH_ready (rs := [13]) (by kernel_rfl) (by simp) ?_
            refine AllReadyH.cons (o := ?or513_13) ?hor513_13 (fun K hK => ?stepr513_13) (AllReadyH.nil)
            case hor513_13 => simp only [List.getElem?_toArray, List.getElem?_cons_succ, List.getElem?_cons_zero]; exact rfl
            case stepr513_13 =>
              obtain ⟨c0, c1⟩ := cell2 hg507
              obtain ⟨f0, f1⟩ := rfree2 hg507
              go_simp
              have hk515 := hk504.upto' hz508 (((Below.refl G506 v505).setCell (p := ⟨G506, 0, none⟩) (Nat.le_refl _) (.slice A487 N1 c488)).setCell (p := ⟨G506, 1, none⟩) (Nat.le_refl _) (.slice A489 N2 c490))
              have hput517 := rput2 (u0 := (.slice A487 N1 c488)) (u1 := (.slice A489 N2 c490)) hg507
              have two516 := (two509.put' (set_grown v505 G506 0 (.slice A487 N1 c488)) hn510 hn511).put' (set_grown _ G506 1 (.slice A489 N2 c490)) hn510 hn511
              have hr518 := own_set_kind (i := 1) (u := (.slice A489 N2 c490)) (own_set_kind (i := 0) (u := (.slice A487 N1 c488)) hr512 hg507 (by decide)) (heap_set0 hg507) (by decide)
              refine hK.out _ _ ?hSq514 (fun hHeld => ?restq514)
              case hSq514 => exact hk515
              clear hK K hk504 two509 hr512 hg507 c0 c1 f0 f1
              try simp only [Act.put, List.setIfInBounds_toArray, List.set_cons_zero, List.set_cons_succ]
              refine wpAnyH_take (i := 14) (oi := ?oik519) (v := ?vk519) ?hik519 (by kernel_rfl) (by kernel_rfl) (by kernel_rfl) ?hQk519 (Or.inl ⟨?hwk519, ?hyk519⟩) (by assumption) ?restk519
              case hik519 => simp only [List.getElem?_toArray, List.getElem?_cons_succ, List.getElem?_cons_zero]; exact rfl
              case hQk519 => exact fun _ _ _ h => h
              case hwk519 => rfl
              case hyk519 => ((intro w hSw; go_simp) <;> with_reducible rfl)
              try simp only [Act.put, List.setIfInBounds_toArray, List.set_cons_zero, List.set_cons_succ]
              refine wpAnyH_take (i := 15) (oi := ?oik520) (v := ?vk520) ?hik520 (by kernel_rfl) (by kernel_rfl) (by kernel_rfl) ?hQk520 (Or.inl ⟨?hwk520, ?hyk520⟩) (by assumption) ?restk520
              case hik520 => simp only [List.getElem?_toArray, List.getElem?_cons_succ, List.getElem?_cons_zero]; exact rfl
              case hQk520 => exact fun _ _ _ h => h
              case hwk520 => rfl
              case hyk520 => ((intro w hSw; go_simp) <;> with_reducible rfl)
              try simp only [Act.put, List.setIfInBounds_toArray, List.set_cons_zero, List.set_cons_succ]
              refine wpAnyH_take (i := 16) (oi := ?oik521) (v := ?vk521) ?hik521 (by kernel_rfl) (by kernel_rfl) (by kernel_rfl) ?hQk521 (Or.inl ⟨?hwk521, ?hyk521⟩) (by assumption) ?restk521
              case hik521 => simp only [List.getElem?_toArray, List.getElem?_cons_succ, List.getElem?_cons_zero]; exact rfl
              case hQk521 => exact fun _ _ _ h => h
              case hwk521 => rfl
              case hyk521 => ((intro w hSw; go_simp) <;> with_reducible rfl)
              try simp only [Act.put, List.setIfInBounds_toArray, List.set_cons_zero, List.set_cons_succ]
              refine wpAnyH_done (by kernel_rfl) ?_ _
              go_wp2_with fail
              go_meet
              exact ⟨_, _, _, rfl, rfl, rfl, rfl, ⟨_, _, _, _, hput517, two516, hn510, hn511, hz508.low⟩, hr518, hk515⟩
        case stepr477_12 =>
          go_simp
          have hk523 := hk473.upto (Nat.le_refl _) ((Below.refl _ _).alloc (Nat.le_refl _) (.cells #[.slice none 0 0, .slice none 0 0] 48))
          have hg526 := heap_alloc_new v474 (.cells #[.slice none 0 0, .slice none 0 0] 48)
          have hz527 := hk473.lo
          have hx528 := hx476.later ((Below.refl _ _).alloc (Nat.le_refl _) (.cells #[.slice none 0 0, .slice none 0 0] 48))
          clear hx476
          refine hK.out _ _ ?hSq522 (fun hHeld => ?restq522)
          case hSq522 => exact hk523
          clear hK K hk473
          try simp only [Act.put, List.setIfInBounds_toArray, List.set_cons_zero, List.set_cons_succ]
          generalize v474.alloc (.cells #[.slice none 0 0, .slice none 0 0] 48) = v524 at *
          generalize v474.heap.size = G525 at *
          refine wpAnyH_ready (rs := [6]) (by kernel_rfl) (by simp) ?_
          refine AllReadyH.cons (o := ?or529_6) ?hor529_6 (fun K hK => ?stepr529_6) (AllReadyH.nil)
          case hor529_6 => simp only [List.getElem?_toArray, List.getElem?_cons_succ, List.getElem?_cons_zero]; exact rfl
          case stepr529_6 =>
            go_simp
            refine (HCS.out v524 g466 f467 hx528).mono ?_
            rintro e v532 ⟨⟨r534, r535, r536, rfl, two537, hr538⟩, hb533⟩
            obtain ⟨A539, c540, A541, c542, rfl, rfl⟩ := two537.slices
            obtain ⟨A543, c544, rfl, -, -⟩ := own_slice hr538
            have hn545 : (Value.slice A539 N1 c540).ownBlock = some G525 → False := fun e => absurd (two537.one.lt _ e).1 (Nat.not_le_of_lt (heap_lt' hg526))
            have hn546 : (Value.slice A541 N2 c542).ownBlock = some G525 → False := fun e => absurd (two537.two.lt _ e).1 (Nat.not_le_of_lt (heap_lt' hg526))
            have two547 := two537.mono hk523.low
            have hr548 := own_mono hr538 hk523.low
            clear two537 hr538
            clear hx528
            have hk531 := hk523.upto (Nat.le_refl _) hb533
            have hg549 := (hb533.block G525 (heap_lt' hg526)).trans hg526
            clear hg526
            refine hK.out _ _ ?hSq530 (fun hHeld => ?restq530)
            case hSq530 => exact hk531
            clear hK K hb533 hk523
            try simp only [Act.put, List.setIfInBounds_toArray, List.set_cons_zero, List.set_cons_succ]
            refine wpAnyH_take (i := 7) (oi := ?oik550) (v := ?vk550) ?hik550 (by kernel_rfl) (by kernel_rfl) (by kernel_rfl) ?hQk550 (Or.inl ⟨?hwk550, ?hyk550⟩) (by assumption) ?restk550
            case hik550 => simp only [List.getElem?_toArray, List.getElem?_cons_succ, List.getElem?_cons_zero]; exact rfl
            case hQk550 => exact fun _ _ _ h => h
            case hwk550 => rfl
            case hyk550 => ((intro w hSw; go_simp) <;> with_reducible rfl)
            try simp only [Act.put, List.setIfInBounds_toArray, List.set_cons_zero, List.set_cons_succ]
            refine wpAnyH_take (i := 8) (oi := ?oik551) (v := ?vk551) ?hik551 (by kernel_rfl) (by kernel_rfl) (by kernel_rfl) ?hQk551 (Or.inl ⟨?hwk551, ?hyk551⟩) (by assumption) ?restk551
            case hik551 => simp only [List.getElem?_toArray, List.getElem?_cons_succ, List.getElem?_cons_zero]; exact rfl
            case hQk551 => exact fun _ _ _ h => h
            case hwk551 => rfl
            case hyk551 => ((intro w hSw; go_simp) <;> with_reducible rfl)
            try simp only [Act.put, List.setIfInBounds_toArray, List.set_cons_zero, List.set_cons_succ]
            refine wpAnyH_take (i := 9) (oi := ?oik552) (v := ?vk552) ?hik552 (by kernel_rfl) (by kernel_rfl) (by kernel_rfl) ?hQk552 (Or.inl ⟨?hwk552, ?hyk552⟩) (by assumption) ?restk552
            case hik552 => simp only [List.getElem?_toArray, List.getElem?_cons_succ, List.getElem?_cons_zero]; exact rfl
            case hQk552 => exact fun _ _ _ h => h
            case hwk552 => rfl
            case hyk552 => ((intro w hSw; go_simp) <;> with_reducible rfl)
            try simp only [Act.put, List.setIfInBounds_toArray, List.set_cons_zero, List.set_cons_succ]
            refine wpAnyH_take (i := 10) (oi := ?oik553) (v := ?vk553) ?hik553 (by kernel_rfl) (by kernel_rfl) (by kernel_rfl) ?hQk553 (Or.inl ⟨?hwk553, ?hyk553⟩) (by assumption) ?restk553
            case hik553 => simp only [List.getElem?_toArray, List.getElem?_cons_succ, List.getElem?_cons_zero]; exact rfl
            case hQk553 => exact fun _ _ _ h => h
            case hwk553 => rfl
            case hyk553 => ((intro w hSw; go_simp) <;> with_reducible rfl)
            try simp only [Act.put, List.setIfInBounds_toArray, List.set_cons_zero, List.set_cons_succ]
            refine wpAnyH_take (i := 11) (oi := ?oik554) (v := ?vk554) ?hik554 (by kernel_rfl) (by kernel_rfl) (by kernel_rfl) ?hQk554 (Or.inl ⟨?hwk554, ?hyk554⟩) (by assumption) ?restk554
            case hik554 => simp only [List.getElem?_toArray, List.getElem?_cons_succ, List.getElem?_cons_zero]; exact rfl
            case hQk554 => exact fun _ _ _ h => h
            case hwk554 => rfl
            case hyk554 => ((intro w hSw; go_simp) <;> with_reducible rfl)
            try simp only [Act.put, List.setIfInBounds_toArray, List.set_cons_zero, List.set_cons_succ]
            refine wpAnyH_ready (rs := [13]) (by kernel_rfl) (by simp) ?_
            refine AllReadyH.cons (o := ?or555_13) ?hor555_13 (fun K hK => ?stepr555_13) (AllReadyH.nil)
            case hor555_13 => simp only [List.getElem?_toArray, List.getElem?_cons_succ, List.getElem?_cons_zero]; exact rfl
            case stepr555_13 =>
              obtain ⟨c0, c1⟩ := cell2 hg549
              obtain ⟨f0, f1⟩ := rfree2 hg549
              go_simp
              have hk557 := hk531.upto' hz527 (((Below.refl G525 v532).setCell (p := ⟨G525, 0, none⟩) (Nat.le_refl _) (.slice A539 N1 c540)).setCell (p := ⟨G525, 1, none⟩) (Nat.le_refl _) (.slice A541 N2 c542))
              have hput559 := rput2 (u0 := (.slice A539 N1 c540)) (u1 := (.slice A541 N2 c542)) hg549
              have two558 := (two547.put' (set_grown v532 G525 0 (.slice A539 N1 c540)) hn545 hn546).put' (set_grown _ G525 1 (.slice A541 N2 c542)) hn545 hn546
              have hr560 := own_set_kind (i := 1) (u := (.slice A541 N2 c542)) (own_set_kind (i := 0) (u := (.slice A539 N1 c540)) hr548 hg549 (by decide)) (heap_set0 hg549) (by decide)
              refine hK.out _ _ ?hSq556 (fun hHeld => ?restq556)
              case hSq556 => exact hk557
              clear hK K hk531 two547 hr548 hg549 c0 c1 f0 f1
              try simp only [Act.put, List.setIfInBounds_toArray, List.set_cons_zero, List.set_cons_succ]
              refine wpAnyH_take (i := 14) (oi := ?oik561) (v := ?vk561) ?hik561 (by kernel_rfl) (by kernel_rfl) (by kernel_rfl) ?hQk561 (Or.inl ⟨?hwk561, ?hyk561⟩) (by assumption) ?restk561
              case hik561 => simp only [List.getElem?_toArray, List.getElem?_cons_succ, List.getElem?_cons_zero]; exact rfl
              case hQk561 => exact fun _ _ _ h => h
              case hwk561 => rfl
              case hyk561 => ((intro w hSw; go_simp) <;> with_reducible rfl)
              try simp only [Act.put, List.setIfInBounds_toArray, List.set_cons_zero, List.set_cons_succ]
              refine wpAnyH_take (i := 15) (oi := ?oik562) (v := ?vk562) ?hik562 (by kernel_rfl) (by kernel_rfl) (by kernel_rfl) ?hQk562 (Or.inl ⟨?hwk562, ?hyk562⟩) (by assumption) ?restk562
              case hik562 => simp only [List.getElem?_toArray, List.getElem?_cons_succ, List.getElem?_cons_zero]; exact rfl
              case hQk562 => exact fun _ _ _ h => h
              case hwk562 => rfl
              case hyk562 => ((intro w hSw; go_simp) <;> with_reducible rfl)
              try simp only [Act.put, List.setIfInBounds_toArray, List.set_cons_zero, List.set_cons_succ]
              refine wpAnyH_take (i := 16) (oi := ?oik563) (v := ?vk563) ?hik563 (by kernel_rfl) (by kernel_rfl) (by kernel_rfl) ?hQk563 (Or.inl ⟨?hwk563, ?hyk563⟩) (by assumption) ?restk563
              case hik563 => simp only [List.getElem?_toArray, List.getElem?_cons_succ, List.getElem?_cons_zero]; exact rfl
              case hQk563 => exact fun _ _ _ h => h
              case hwk563 => rfl
              case hyk563 => ((intro w hSw; go_simp) <;> with_reducible rfl)
              try simp only [Act.put, List.setIfInBounds_toArray, List.set_cons_zero, List.set_cons_succ]
              refine wpAnyH_done (by kernel_rfl) ?_ _
              go_wp2_with fail
              go_meet
              exact ⟨_, _, _, rfl, rfl, rfl, rfl, ⟨_, _, _, _, hput559, two558, hn545, hn546, hz527.low⟩, hr560, hk557⟩
      case stepr471_12 =>
        go_simp
        have hk565 := hk463.upto (Nat.le_refl _) ((Below.refl _ _).alloc (Nat.le_refl _) (.cells #[.slice none 0 0, .slice none 0 0] 48))
        have hg568 := heap_alloc_new v464 (.cells #[.slice none 0 0, .slice none 0 0] 48)
        have hz569 := hk463.lo
        have hx570 := hx470.later ((Below.refl _ _).alloc (Nat.le_refl _) (.cells #[.slice none 0 0, .slice none 0 0] 48))
        clear hx470
        refine hK.out _ _ ?hSq564 (fun hHeld => ?restq564)
        case hSq564 => exact hk565
        clear hK K hk463
        try simp only [Act.put, List.setIfInBounds_toArray, List.set_cons_zero, List.set_cons_succ]
        generalize v464.alloc (.cells #[.slice none 0 0, .slice none 0 0] 48) = v566 at *
        generalize v464.heap.size = G567 at *
        refine wpAnyH_ready (rs := [4]) (by kernel_rfl) (by simp) ?_
        refine AllReadyH.cons (o := ?or571_4) ?hor571_4 (fun K hK => ?stepr571_4) (AllReadyH.nil)
        case hor571_4 => simp only [List.getElem?_toArray, List.getElem?_cons_succ, List.getElem?_cons_zero]; exact rfl
        case stepr571_4 =>
          go_simp
          refine (toOrder_any oi oa op oq v566).mono ?_
          rintro e v574 ⟨rfl, hb575⟩
          have hx576 := hx570.later hb575
          clear hx570
          have hk573 := hk565.upto (Nat.le_refl _) hb575
          have hg577 := (hb575.block G567 (heap_lt' hg568)).trans hg568
          clear hg568
          refine hK.out _ _ ?hSq572 (fun hHeld => ?restq572)
          case hSq572 => exact hk573
          clear hK K hb575 hk565
          try simp only [Act.put, List.setIfInBounds_toArray, List.set_cons_zero, List.set_cons_succ]
          refine wpAnyH_ready (rs := [6]) (by kernel_rfl) (by simp) ?_
          refine AllReadyH.cons (o := ?or578_6) ?hor578_6 (fun K hK => ?stepr578_6) (AllReadyH.nil)
          case hor578_6 => simp only [List.getElem?_toArray, List.getElem?_cons_succ, List.getElem?_cons_zero]; exact rfl
          case stepr578_6 =>
            go_simp
            refine (HCS.out v574 g466 f467 hx576).mono ?_
            rintro e v581 ⟨⟨r583, r584, r585, rfl, two586, hr587⟩, hb582⟩
            obtain ⟨A588, c589, A590, c591, rfl, rfl⟩ := two586.slices
            obtain ⟨A592, c593, rfl, -, -⟩ := own_slice hr587
            have hn594 : (Value.slice A588 N1 c589).ownBlock = some G567 → False := fun e => absurd (two586.one.lt _ e).1 (Nat.not_le_of_lt (heap_lt' hg577))
            have hn595 : (Value.slice A590 N2 c591).ownBlock = some G567 → False := fun e => absurd (two586.two.lt _ e).1 (Nat.not_le_of_lt (heap_lt' hg577))
            have two596 := two586.mono hk573.low
            have hr597 := own_mono hr587 hk573.low
            clear two586 hr587
            clear hx576
            have hk580 := hk573.upto (Nat.le_refl _) hb582
            have hg598 := (hb582.block G567 (heap_lt' hg577)).trans hg577
            clear hg577
            refine hK.out _ _ ?hSq579 (fun hHeld => ?restq579)
            case hSq579 => exact hk580
            clear hK K hb582 hk573
            try simp only [Act.put, List.setIfInBounds_toArray, List.set_cons_zero, List.set_cons_succ]
            refine wpAnyH_take (i := 7) (oi := ?oik599) (v := ?vk599) ?hik599 (by kernel_rfl) (by kernel_rfl) (by kernel_rfl) ?hQk599 (Or.inl ⟨?hwk599, ?hyk599⟩) (by assumption) ?restk599
            case hik599 => simp only [List.getElem?_toArray, List.getElem?_cons_succ, List.getElem?_cons_zero]; exact rfl
            case hQk599 => exact fun _ _ _ h => h
            case hwk599 => rfl
            case hyk599 => ((intro w hSw; go_simp) <;> with_reducible rfl)
            try simp only [Act.put, List.setIfInBounds_toArray, List.set_cons_zero, List.set_cons_succ]
            refine wpAnyH_take (i := 8) (oi := ?oik600) (v := ?vk600) ?hik600 (by kernel_rfl) (by kernel_rfl) (by kernel_rfl) ?hQk600 (Or.inl ⟨?hwk600, ?hyk600⟩) (by assumption) ?restk600
            case hik600 => simp only [List.getElem?_toArray, List.getElem?_cons_succ, List.getElem?_cons_zero]; exact rfl
            case hQk600 => exact fun _ _ _ h => h
            case hwk600 => rfl
            case hyk600 => ((intro w hSw; go_simp) <;> with_reducible rfl)
            try simp only [Act.put, List.setIfInBounds_toArray, List.set_cons_zero, List.set_cons_succ]
            refine wpAnyH_take (i := 9) (oi := ?oik601) (v := ?vk601) ?hik601 (by kernel_rfl) (by kernel_rfl) (by kernel_rfl) ?hQk601 (Or.inl ⟨?hwk601, ?hyk601⟩) (by assumption) ?restk601
            case hik601 => simp only [List.getElem?_toArray, List.getElem?_cons_succ, List.getElem?_cons_zero]; exact rfl
            case hQk601 => exact fun _ _ _ h => h
            case hwk601 => rfl
            case hyk601 => ((intro w hSw; go_simp) <;> with_reducible rfl)
            try simp only [Act.put, List.setIfInBounds_toArray, List.set_cons_zero, List.set_cons_succ]
            refine wpAnyH_take (i := 10) (oi := ?oik602) (v := ?vk602) ?hik602 (by kernel_rfl) (by kernel_rfl) (by kernel_rfl) ?hQk602 (Or.inl ⟨?hwk602, ?hyk602⟩) (by assumption) ?restk602
            case hik602 => simp only [List.getElem?_toArray, List.getElem?_cons_succ, List.getElem?_cons_zero]; exact rfl
            case hQk602 => exact fun _ _ _ h => h
            case hwk602 => rfl
            case hyk602 => ((intro w hSw; go_simp) <;> with_reducible rfl)
            try simp only [Act.put, List.setIfInBounds_toArray, List.set_cons_zero, List.set_cons_succ]
            refine wpAnyH_take (i := 11) (oi := ?oik603) (v := ?vk603) ?hik603 (by kernel_rfl) (by kernel_rfl) (by kernel_rfl) ?hQk603 (Or.inl ⟨?hwk603, ?hyk603⟩) (by assumption) ?restk603
            case hik603 => simp only [List.getElem?_toArray, List.getElem?_cons_succ, List.getElem?_cons_zero]; exact rfl
            case hQk603 => exact fun _ _ _ h => h
            case hwk603 => rfl
            case hyk603 => ((intro w hSw; go_simp) <;> with_reducible rfl)
            try simp only [Act.put, List.setIfInBounds_toArray, List.set_cons_zero, List.set_cons_succ]
            refine wpAnyH_ready (rs := [13]) (by kernel_rfl) (by simp) ?_
            refine AllReadyH.cons (o := ?or604_13) ?hor604_13 (fun K hK => ?stepr604_13) (AllReadyH.nil)
            case hor604_13 => simp only [List.getElem?_toArray, List.getElem?_cons_succ, List.getElem?_cons_zero]; exact rfl
            case stepr604_13 =>
              obtain ⟨c0, c1⟩ := cell2 hg598
              obtain ⟨f0, f1⟩ := rfree2 hg598
              go_simp
              have hk606 := hk580.upto' hz569 (((Below.refl G567 v581).setCell (p := ⟨G567, 0, none⟩) (Nat.le_refl _) (.slice A588 N1 c589)).setCell (p := ⟨G567, 1, none⟩) (Nat.le_refl _) (.slice A590 N2 c591))
              have hput608 := rput2 (u0 := (.slice A588 N1 c589)) (u1 := (.slice A590 N2 c591)) hg598
              have two607 := (two596.put' (set_grown v581 G567 0 (.slice A588 N1 c589)) hn594 hn595).put' (set_grown _ G567 1 (.slice A590 N2 c591)) hn594 hn595
              have hr609 := own_set_kind (i := 1) (u := (.slice A590 N2 c591)) (own_set_kind (i := 0) (u := (.slice A588 N1 c589)) hr597 hg598 (by decide)) (heap_set0 hg598) (by decide)
              refine hK.out _ _ ?hSq605 (fun hHeld => ?restq605)
              case hSq605 => exact hk606
              clear hK K hk580 two596 hr597 hg598 c0 c1 f0 f1
              try simp only [Act.put, List.setIfInBounds_toArray, List.set_cons_zero, List.set_cons_succ]
              refine wpAnyH_take (i := 14) (oi := ?oik610) (v := ?vk610) ?hik610 (by kernel_rfl) (by kernel_rfl) (by kernel_rfl) ?hQk610 (Or.inl ⟨?hwk610, ?hyk610⟩) (by assumption) ?restk610
              case hik610 => simp only [List.getElem?_toArray, List.getElem?_cons_succ, List.getElem?_cons_zero]; exact rfl
              case hQk610 => exact fun _ _ _ h => h
              case hwk610 => rfl
              case hyk610 => ((intro w hSw; go_simp) <;> with_reducible rfl)
              try simp only [Act.put, List.setIfInBounds_toArray, List.set_cons_zero, List.set_cons_succ]
              refine wpAnyH_take (i := 15) (oi := ?oik611) (v := ?vk611) ?hik611 (by kernel_rfl) (by kernel_rfl) (by kernel_rfl) ?hQk611 (Or.inl ⟨?hwk611, ?hyk611⟩) (by assumption) ?restk611
              case hik611 => simp only [List.getElem?_toArray, List.getElem?_cons_succ, List.getElem?_cons_zero]; exact rfl
              case hQk611 => exact fun _ _ _ h => h
              case hwk611 => rfl
              case hyk611 => ((intro w hSw; go_simp) <;> with_reducible rfl)
              try simp only [Act.put, List.setIfInBounds_toArray, List.set_cons_zero, List.set_cons_succ]
              refine wpAnyH_take (i := 16) (oi := ?oik612) (v := ?vk612) ?hik612 (by kernel_rfl) (by kernel_rfl) (by kernel_rfl) ?hQk612 (Or.inl ⟨?hwk612, ?hyk612⟩) (by assumption) ?restk612
              case hik612 => simp only [List.getElem?_toArray, List.getElem?_cons_succ, List.getElem?_cons_zero]; exact rfl
              case hQk612 => exact fun _ _ _ h => h
              case hwk612 => rfl
              case hyk612 => ((intro w hSw; go_simp) <;> with_reducible rfl)
              try simp only [Act.put, List.setIfInBounds_toArray, List.set_cons_zero, List.set_cons_succ]
              refine wpAnyH_done (by kernel_rfl) ?_ _
              go_wp2_with fail
              go_meet
              exact ⟨_, _, _, rfl, rfl, rfl, rfl, ⟨_, _, _, _, hput608, two607, hn594, hn595, hz569.low⟩, hr609, hk606⟩
    case stepr461_12 =>
      go_simp
      have hk614 := hK0.upto (Nat.le_refl _) ((Below.refl _ _).alloc (Nat.le_refl _) (.cells #[.slice none 0 0, .slice none 0 0] 48))
      have hg617 := heap_alloc_new w1s (.cells #[.slice none 0 0, .slice none 0 0] 48)
      have hz618 := hK0.lo
      refine hK.out _ _ ?hSq613 (fun hHeld => ?restq613)
      case hSq613 => exact hk614
      clear hK K hK0
      try simp only [Act.put, List.setIfInBounds_toArray, List.set_cons_zero, List.set_cons_succ]
      generalize w1s.alloc (.cells #[.slice none 0 0, .slice none 0 0] 48) = v615 at *
      generalize w1s.heap.size = G616 at *
      refine wpAnyH_ready (rs := [1]) (by kernel_rfl) (by simp) ?_
      refine AllReadyH.cons (o := ?or619_1) ?hor619_1 (fun K hK => ?stepr619_1) (AllReadyH.nil)
      case hor619_1 => simp only [List.getElem?_toArray, List.getElem?_cons_succ, List.getElem?_cons_zero]; exact rfl
      case stepr619_1 =>
        go_simp
        refine (toBook_any A n c B m d za zb v615 (hls.later hk614.bel) hnm).mono ?_
        rintro e v622 ⟨g624, f625, rfl, _, _, _, hr626, hs627, hb623⟩
        have hx628 : BookIn v622 v622.heap.size (some ⟨g624, 0, none⟩) n (some ⟨f625, 0, none⟩) m za zb := ⟨Lst.of_row (sz := 4) (zs := za) (n := n) hr626 (Nat.le_refl _) hlA (fun _ _ => rfl), Lst.of_row (sz := 4) (zs := zb) (n := m) hs627 (Nat.le_refl _) hlB (fun _ _ => rfl)⟩
        clear hr626 hs627
        have hk621 := hk614.upto (Nat.le_refl _) hb623
        have hg629 := (hb623.block G616 (heap_lt' hg617)).trans hg617
        clear hg617
        refine hK.out _ _ ?hSq620 (fun hHeld => ?restq620)
        case hSq620 => exact hk621
        clear hK K hb623 hk614
        try simp only [Act.put, List.setIfInBounds_toArray, List.set_cons_zero, List.set_cons_succ]
        refine wpAnyH_ready (rs := [4]) (by kernel_rfl) (by simp) ?_
        refine AllReadyH.cons (o := ?or630_4) ?hor630_4 (fun K hK => ?stepr630_4) (AllReadyH.nil)
        case hor630_4 => simp only [List.getElem?_toArray, List.getElem?_cons_succ, List.getElem?_cons_zero]; exact rfl
        case stepr630_4 =>
          go_simp
          refine (toOrder_any oi oa op oq v622).mono ?_
          rintro e v633 ⟨rfl, hb634⟩
          have hx635 := hx628.later hb634
          clear hx628
          have hk632 := hk621.upto (Nat.le_refl _) hb634
          have hg636 := (hb634.block G616 (heap_lt' hg629)).trans hg629
          clear hg629
          refine hK.out _ _ ?hSq631 (fun hHeld => ?restq631)
          case hSq631 => exact hk632
          clear hK K hb634 hk621
          try simp only [Act.put, List.setIfInBounds_toArray, List.set_cons_zero, List.set_cons_succ]
          refine wpAnyH_ready (rs := [6]) (by kernel_rfl) (by simp) ?_
          refine AllReadyH.cons (o := ?or637_6) ?hor637_6 (fun K hK => ?stepr637_6) (AllReadyH.nil)
          case hor637_6 => simp only [List.getElem?_toArray, List.getElem?_cons_succ, List.getElem?_cons_zero]; exact rfl
          case stepr637_6 =>
            go_simp
            refine (HCS.out v633 g624 f625 hx635).mono ?_
            rintro e v640 ⟨⟨r642, r643, r644, rfl, two645, hr646⟩, hb641⟩
            obtain ⟨A647, c648, A649, c650, rfl, rfl⟩ := two645.slices
            obtain ⟨A651, c652, rfl, -, -⟩ := own_slice hr646
            have hn653 : (Value.slice A647 N1 c648).ownBlock = some G616 → False := fun e => absurd (two645.one.lt _ e).1 (Nat.not_le_of_lt (heap_lt' hg636))
            have hn654 : (Value.slice A649 N2 c650).ownBlock = some G616 → False := fun e => absurd (two645.two.lt _ e).1 (Nat.not_le_of_lt (heap_lt' hg636))
            have two655 := two645.mono hk632.low
            have hr656 := own_mono hr646 hk632.low
            clear two645 hr646
            clear hx635
            have hk639 := hk632.upto (Nat.le_refl _) hb641
            have hg657 := (hb641.block G616 (heap_lt' hg636)).trans hg636
            clear hg636
            refine hK.out _ _ ?hSq638 (fun hHeld => ?restq638)
            case hSq638 => exact hk639
            clear hK K hb641 hk632
            try simp only [Act.put, List.setIfInBounds_toArray, List.set_cons_zero, List.set_cons_succ]
            refine wpAnyH_take (i := 7) (oi := ?oik658) (v := ?vk658) ?hik658 (by kernel_rfl) (by kernel_rfl) (by kernel_rfl) ?hQk658 (Or.inl ⟨?hwk658, ?hyk658⟩) (by assumption) ?restk658
            case hik658 => simp only [List.getElem?_toArray, List.getElem?_cons_succ, List.getElem?_cons_zero]; exact rfl
            case hQk658 => exact fun _ _ _ h => h
            case hwk658 => rfl
            case hyk658 => ((intro w hSw; go_simp) <;> with_reducible rfl)
            try simp only [Act.put, List.setIfInBounds_toArray, List.set_cons_zero, List.set_cons_succ]
            refine wpAnyH_take (i := 8) (oi := ?oik659) (v := ?vk659) ?hik659 (by kernel_rfl) (by kernel_rfl) (by kernel_rfl) ?hQk659 (Or.inl ⟨?hwk659, ?hyk659⟩) (by assumption) ?restk659
            case hik659 => simp only [List.getElem?_toArray, List.getElem?_cons_succ, List.getElem?_cons_zero]; exact rfl
            case hQk659 => exact fun _ _ _ h => h
            case hwk659 => rfl
            case hyk659 => ((intro w hSw; go_simp) <;> with_reducible rfl)
            try simp only [Act.put, List.setIfInBounds_toArray, List.set_cons_zero, List.set_cons_succ]
            refine wpAnyH_take (i := 9) (oi := ?oik660) (v := ?vk660) ?hik660 (by kernel_rfl) (by kernel_rfl) (by kernel_rfl) ?hQk660 (Or.inl ⟨?hwk660, ?hyk660⟩) (by assumption) ?restk660
            case hik660 => simp only [List.getElem?_toArray, List.getElem?_cons_succ, List.getElem?_cons_zero]; exact rfl
            case hQk660 => exact fun _ _ _ h => h
            case hwk660 => rfl
            case hyk660 => ((intro w hSw; go_simp) <;> with_reducible rfl)
            try simp only [Act.put, List.setIfInBounds_toArray, List.set_cons_zero, List.set_cons_succ]
            refine wpAnyH_take (i := 10) (oi := ?oik661) (v := ?vk661) ?hik661 (by kernel_rfl) (by kernel_rfl) (by kernel_rfl) ?hQk661 (Or.inl ⟨?hwk661, ?hyk661⟩) (by assumption) ?restk661
            case hik661 => simp only [List.getElem?_toArray, List.getElem?_cons_succ, List.getElem?_cons_zero]; exact rfl
            case hQk661 => exact fun _ _ _ h => h
            case hwk661 => rfl
            case hyk661 => ((intro w hSw; go_simp) <;> with_reducible rfl)
            try simp only [Act.put, List.setIfInBounds_toArray, List.set_cons_zero, List.set_cons_succ]
            refine wpAnyH_take (i := 11) (oi := ?oik662) (v := ?vk662) ?hik662 (by kernel_rfl) (by kernel_rfl) (by kernel_rfl) ?hQk662 (Or.inl ⟨?hwk662, ?hyk662⟩) (by assumption) ?restk662
            case hik662 => simp only [List.getElem?_toArray, List.getElem?_cons_succ, List.getElem?_cons_zero]; exact rfl
            case hQk662 => exact fun _ _ _ h => h
            case hwk662 => rfl
            case hyk662 => ((intro w hSw; go_simp) <;> with_reducible rfl)
            try simp only [Act.put, List.setIfInBounds_toArray, List.set_cons_zero, List.set_cons_succ]
            refine wpAnyH_ready (rs := [13]) (by kernel_rfl) (by simp) ?_
            refine AllReadyH.cons (o := ?or663_13) ?hor663_13 (fun K hK => ?stepr663_13) (AllReadyH.nil)
            case hor663_13 => simp only [List.getElem?_toArray, List.getElem?_cons_succ, List.getElem?_cons_zero]; exact rfl
            case stepr663_13 =>
              obtain ⟨c0, c1⟩ := cell2 hg657
              obtain ⟨f0, f1⟩ := rfree2 hg657
              go_simp
              have hk665 := hk639.upto' hz618 (((Below.refl G616 v640).setCell (p := ⟨G616, 0, none⟩) (Nat.le_refl _) (.slice A647 N1 c648)).setCell (p := ⟨G616, 1, none⟩) (Nat.le_refl _) (.slice A649 N2 c650))
              have hput667 := rput2 (u0 := (.slice A647 N1 c648)) (u1 := (.slice A649 N2 c650)) hg657
              have two666 := (two655.put' (set_grown v640 G616 0 (.slice A647 N1 c648)) hn653 hn654).put' (set_grown _ G616 1 (.slice A649 N2 c650)) hn653 hn654
              have hr668 := own_set_kind (i := 1) (u := (.slice A649 N2 c650)) (own_set_kind (i := 0) (u := (.slice A647 N1 c648)) hr656 hg657 (by decide)) (heap_set0 hg657) (by decide)
              refine hK.out _ _ ?hSq664 (fun hHeld => ?restq664)
              case hSq664 => exact hk665
              clear hK K hk639 two655 hr656 hg657 c0 c1 f0 f1
              try simp only [Act.put, List.setIfInBounds_toArray, List.set_cons_zero, List.set_cons_succ]
              refine wpAnyH_take (i := 14) (oi := ?oik669) (v := ?vk669) ?hik669 (by kernel_rfl) (by kernel_rfl) (by kernel_rfl) ?hQk669 (Or.inl ⟨?hwk669, ?hyk669⟩) (by assumption) ?restk669
              case hik669 => simp only [List.getElem?_toArray, List.getElem?_cons_succ, List.getElem?_cons_zero]; exact rfl
              case hQk669 => exact fun _ _ _ h => h
              case hwk669 => rfl
              case hyk669 => ((intro w hSw; go_simp) <;> with_reducible rfl)
              try simp only [Act.put, List.setIfInBounds_toArray, List.set_cons_zero, List.set_cons_succ]
              refine wpAnyH_take (i := 15) (oi := ?oik670) (v := ?vk670) ?hik670 (by kernel_rfl) (by kernel_rfl) (by kernel_rfl) ?hQk670 (Or.inl ⟨?hwk670, ?hyk670⟩) (by assumption) ?restk670
              case hik670 => simp only [List.getElem?_toArray, List.getElem?_cons_succ, List.getElem?_cons_zero]; exact rfl
              case hQk670 => exact fun _ _ _ h => h
              case hwk670 => rfl
              case hyk670 => ((intro w hSw; go_simp) <;> with_reducible rfl)
              try simp only [Act.put, List.setIfInBounds_toArray, List.set_cons_zero, List.set_cons_succ]
              refine wpAnyH_take (i := 16) (oi := ?oik671) (v := ?vk671) ?hik671 (by kernel_rfl) (by kernel_rfl) (by kernel_rfl) ?hQk671 (Or.inl ⟨?hwk671, ?hyk671⟩) (by assumption) ?restk671
              case hik671 => simp only [List.getElem?_toArray, List.getElem?_cons_succ, List.getElem?_cons_zero]; exact rfl
              case hQk671 => exact fun _ _ _ h => h
              case hwk671 => rfl
              case hyk671 => ((intro w hSw; go_simp) <;> with_reducible rfl)
              try simp only [Act.put, List.setIfInBounds_toArray, List.set_cons_zero, List.set_cons_succ]
              refine wpAnyH_done (by kernel_rfl) ?_ _
              go_wp2_with fail
              go_meet
              exact ⟨_, _, _, rfl, rfl, rfl, rfl, ⟨_, _, _, _, hput667, two666, hn653, hn654, hz618.low⟩, hr668, hk665⟩
  case rest =>
    clear hK0
    rename World => wa
    obtain ⟨G1, Rw, dw, rfl, rfl, rfl, rfl, ⟨Aw, cw, Av, cv, Wa, TWa, -, -, hbase1⟩, RWa, hK0⟩ := hcut
    have Ha := hK0.one
    have Oa := hK0.two
    have lHa := heap_lt' Ha
    have lOa := heap_lt' Oa
    have lWa := heap_lt' Wa
    have hla := hl0.later hK0.bel
    have hBa := ord_later hB0 hK0.bel
    obtain ⟨p0, p1⟩ := cell2 Ha
    clear hK0 hl0 hB0 H0 O0 hs0 HCS
    go_wp2_with fail
    refine (toBook_any A n c B m d za zb _ hla hnm).mono ?_
    rintro e w3 ⟨g3, f3, rfl, hg3, hf3, hgf3, hr3, hs3, hb3⟩
    have hx3 : BookIn w3 w3.heap.size (some ⟨g3, 0, none⟩) n (some ⟨f3, 0, none⟩) m za zb := ⟨Lst.of_row (sz := 4) (zs := za) (n := n) hr3 (Nat.le_refl _) hlA (fun _ _ => rfl), Lst.of_row (sz := 4) (zs := zb) (n := m) hs3 (Nat.le_refl _) hlB (fun _ _ => rfl)⟩
    have HR3 := Lib.hid hr3
    have HS3 := Lib.hid hs3
    have lg3 := hr3.lt
    have lf3 := hs3.lt
    have D3 := hb3
    have Ob := (hb3.block _ lOa).trans Oa
    clear hb3 hr3 hs3 p0 p1
    have hbb : Below w3.heap.size w3 (w3.alloc (.cells #[.slice (some ⟨g3, 0, none⟩) n n, .slice (some ⟨f3, 0, none⟩) m m] 48)) := (Below.refl _ _).alloc (Nat.le_refl _) _
    have Xb := heap_alloc_new w3 (.cells #[.slice (some ⟨g3, 0, none⟩) n n, .slice (some ⟨f3, 0, none⟩) m m] 48)
    have lX := heap_lt' Xb
    have Ob := (hbb.block _ (heap_lt' Ob)).trans Ob
    have Db := ord_later D3 hbb
    have hxb := hx3.later hbb
    have HR3 := Lib.hid (HR3.out.of_block (hbb.block g3 lg3))
    have HS3 := Lib.hid (HS3.out.of_block (hbb.block f3 lf3))
    have hwab : wa.heap.size ≤ (w3.alloc (.cells #[.slice (some ⟨g3, 0, none⟩) n n, .slice (some ⟨f3, 0, none⟩) m m] 48)).heap.size := Nat.le_trans D3.size hbb.size
    have lg3 := Nat.lt_of_lt_of_le lg3 hbb.size
    have lf3 := Nat.lt_of_lt_of_le lf3 hbb.size
    clear hx3 D3 hbb
    go_wp2_with fail
    generalize (w3.alloc (.cells #[.slice (some ⟨g3, 0, none⟩) n n, .slice (some ⟨f3, 0, none⟩) m m] 48)) = wb at *
    have hK0 : Keeps wb.heap.size wb [(w.heap.size + 1, (.cells #[.int .i64 oi, .int .i64 oa, .int .i64 op, .int .i64 oq] 62)), (w3.heap.size, (.cells #[.slice (some ⟨g3, 0, none⟩) n n, .slice (some ⟨f3, 0, none⟩) m m] 48))] wb := ⟨Below.refl _ _, Nat.le_refl _, fun p hp => by
      simp only [List.mem_cons, List.not_mem_nil, or_false] at hp
      rcases hp with rfl | rfl
      · exact Ob
      · exact Xb⟩
    clear Ob
    go_upto_region 7 with fail
    go_cut [15, 16, 17, 18] (fun s15 s16 s17 s18 wx => ∃ G R3 d3, s15 = .pointer (some ⟨G, 0, none⟩) ∧ s16 = .slice R3 N3 d3 ∧ s17 = .int .i64 lf ∧ s18 = .bool rg ∧ BoxRes wx wb.heap.size G N1 Z1 N2 Z2 ∧ wx.ownsRow wb.heap.size 126 8 (.slice R3 N3 d3) N3 (nums RR) ∧ Keeps wb.heap.size wb [(w.heap.size + 1, (.cells #[.int .i64 oi, .int .i64 oa, .int .i64 op, .int .i64 oq] 62)), (w3.heap.size, (.cells #[.slice (some ⟨g3, 0, none⟩) n n, .slice (some ⟨f3, 0, none⟩) m m] 48))] wx)
    case first =>
      refine wp_region_held_drew (S := Keeps wb.heap.size wb [(w.heap.size + 1, (.cells #[.int .i64 oi, .int .i64 oa, .int .i64 op, .int .i64 oq] 62)), (w3.heap.size, (.cells #[.slice (some ⟨g3, 0, none⟩) n n, .slice (some ⟨f3, 0, none⟩) m m] 48))]) (by kernel_rfl) ?hSr7 (fun hHeld => ?restr7)
      case hSr7 => exact hK0.drew
      replace hK0 := hK0.drew
      have hls := hxb
      clear hHeld
      generalize hw1s : wb.drew = w1s at hK0 ⊢
      clear hw1s
      refine wpAnyH_take (i := 0) (oi := ?oik672) (v := ?vk672) ?hik672 (by kernel_rfl) (by kernel_rfl) (by kernel_rfl) ?hQk672 (Or.inl ⟨?hwk672, ?hyk672⟩) (by assumption) ?restk672
      case hik672 => simp only [List.getElem?_toArray, List.getElem?_cons_succ, List.getElem?_cons_zero]; exact rfl
      case hQk672 => exact fun _ _ _ h => h
      case hwk672 => rfl
      case hyk672 => ((intro w hSw; obtain ⟨c0, c1⟩ := cell2 hSw.two; go_simp) <;> with_reducible rfl)
      try simp only [Act.put, List.setIfInBounds_toArray, List.set_cons_zero, List.set_cons_succ]
      refine wpAnyH_take (i := 1) (oi := ?oik673) (v := ?vk673) ?hik673 (by kernel_rfl) (by kernel_rfl) (by kernel_rfl) ?hQk673 (Or.inl ⟨?hwk673, ?hyk673⟩) (by assumption) ?restk673
      case hik673 => simp only [List.getElem?_toArray, List.getElem?_cons_succ, List.getElem?_cons_zero]; exact rfl
      case hQk673 => exact fun _ _ _ h => h
      case hwk673 => rfl
      case hyk673 => ((intro w hSw; go_simp) <;> with_reducible rfl)
      try simp only [Act.put, List.setIfInBounds_toArray, List.set_cons_zero, List.set_cons_succ]
      refine wpAnyH_take (i := 2) (oi := ?oik674) (v := ?vk674) ?hik674 (by kernel_rfl) (by kernel_rfl) (by kernel_rfl) ?hQk674 (Or.inl ⟨?hwk674, ?hyk674⟩) (by assumption) ?restk674
      case hik674 => simp only [List.getElem?_toArray, List.getElem?_cons_succ, List.getElem?_cons_zero]; exact rfl
      case hQk674 => exact fun _ _ _ h => h
      case hwk674 => rfl
      case hyk674 => ((intro w hSw; obtain ⟨c0, c1, c2, c3⟩ := cfree4 hSw.one; go_simp) <;> with_reducible rfl)
      try simp only [Act.put, List.setIfInBounds_toArray, List.set_cons_zero, List.set_cons_succ]
      refine wpAnyH_take (i := 4) (oi := ?oik675) (v := ?vk675) ?hik675 (by kernel_rfl) (by kernel_rfl) (by kernel_rfl) ?hQk675 (Or.inl ⟨?hwk675, ?hyk675⟩) (by assumption) ?restk675
      case hik675 => simp only [List.getElem?_toArray, List.getElem?_cons_succ, List.getElem?_cons_zero]; exact rfl
      case hQk675 => exact fun _ _ _ h => h
      case hwk675 => rfl
      case hyk675 => ((intro w hSw; go_simp) <;> with_reducible rfl)
      try simp only [Act.put, List.setIfInBounds_toArray, List.set_cons_zero, List.set_cons_succ]
      refine wpAnyH_ready (rs := [3, 11]) (by kernel_rfl) (by simp) ?_
      refine AllReadyH.cons (o := ?or676_3) ?hor676_3 (fun K hK => ?stepr676_3) (AllReadyH.cons (o := ?or676_11) ?hor676_11 (fun K hK => ?stepr676_11) (AllReadyH.nil))
      case hor676_3 => simp only [List.getElem?_toArray, List.getElem?_cons_succ, List.getElem?_cons_zero]; exact rfl
      case hor676_11 => simp only [List.getElem?_toArray, List.getElem?_cons_succ, List.getElem?_cons_zero]; exact rfl
      case stepr676_3 =>
        go_simp
        refine (toOrder_any oi oa op oq w1s).mono ?_
        rintro e v679 ⟨rfl, hb680⟩
        have hk678 := hK0.upto (Nat.le_refl _) hb680
        refine hK.out _ _ ?hSq677 (fun hHeld => ?restq677)
        case hSq677 => exact hk678
        clear hK K hb680 hK0
        try simp only [Act.put, List.setIfInBounds_toArray, List.set_cons_zero, List.set_cons_succ]
        refine wpAnyH_ready (rs := [5, 11]) (by kernel_rfl) (by simp) ?_
        refine AllReadyH.cons (o := ?or681_5) ?hor681_5 (fun K hK => ?stepr681_5) (AllReadyH.cons (o := ?or681_11) ?hor681_11 (fun K hK => ?stepr681_11) (AllReadyH.nil))
        case hor681_5 => simp only [List.getElem?_toArray, List.getElem?_cons_succ, List.getElem?_cons_zero]; exact rfl
        case hor681_11 => simp only [List.getElem?_toArray, List.getElem?_cons_succ, List.getElem?_cons_zero]; exact rfl
        case stepr681_5 =>
          go_simp
          refine (HCI.out v679 g3 f3 (hxb.later hk678.bel)).mono ?_
          rintro e v684 ⟨⟨r686, r687, r688, rfl, two689, hr690⟩, hb685⟩
          obtain ⟨A691, c692, A693, c694, rfl, rfl⟩ := two689.slices
          obtain ⟨A695, c696, rfl, -, -⟩ := own_slice hr690
          have two699 := two689.mono hk678.low
          have hr700 := own_mono hr690 hk678.low
          clear two689 hr690
          have hk683 := hk678.upto (Nat.le_refl _) hb685
          refine hK.out _ _ ?hSq682 (fun hHeld => ?restq682)
          case hSq682 => exact hk683
          clear hK K hb685 hk678
          try simp only [Act.put, List.setIfInBounds_toArray, List.set_cons_zero, List.set_cons_succ]
          refine wpAnyH_take (i := 6) (oi := ?oik701) (v := ?vk701) ?hik701 (by kernel_rfl) (by kernel_rfl) (by kernel_rfl) ?hQk701 (Or.inl ⟨?hwk701, ?hyk701⟩) (by assumption) ?restk701
          case hik701 => simp only [List.getElem?_toArray, List.getElem?_cons_succ, List.getElem?_cons_zero]; exact rfl
          case hQk701 => exact fun _ _ _ h => h
          case hwk701 => rfl
          case hyk701 => ((intro w hSw; go_simp) <;> with_reducible rfl)
          try simp only [Act.put, List.setIfInBounds_toArray, List.set_cons_zero, List.set_cons_succ]
          refine wpAnyH_take (i := 7) (oi := ?oik702) (v := ?vk702) ?hik702 (by kernel_rfl) (by kernel_rfl) (by kernel_rfl) ?hQk702 (Or.inl ⟨?hwk702, ?hyk702⟩) (by assumption) ?restk702
          case hik702 => simp only [List.getElem?_toArray, List.getElem?_cons_succ, List.getElem?_cons_zero]; exact rfl
          case hQk702 => exact fun _ _ _ h => h
          case hwk702 => rfl
          case hyk702 => ((intro w hSw; go_simp) <;> with_reducible rfl)
          try simp only [Act.put, List.setIfInBounds_toArray, List.set_cons_zero, List.set_cons_succ]
          refine wpAnyH_take (i := 8) (oi := ?oik703) (v := ?vk703) ?hik703 (by kernel_rfl) (by kernel_rfl) (by kernel_rfl) ?hQk703 (Or.inl ⟨?hwk703, ?hyk703⟩) (by assumption) ?restk703
          case hik703 => simp only [List.getElem?_toArray, List.getElem?_cons_succ, List.getElem?_cons_zero]; exact rfl
          case hQk703 => exact fun _ _ _ h => h
          case hwk703 => rfl
          case hyk703 => ((intro w hSw; go_simp) <;> with_reducible rfl)
          try simp only [Act.put, List.setIfInBounds_toArray, List.set_cons_zero, List.set_cons_succ]
          refine wpAnyH_take (i := 9) (oi := ?oik704) (v := ?vk704) ?hik704 (by kernel_rfl) (by kernel_rfl) (by kernel_rfl) ?hQk704 (Or.inl ⟨?hwk704, ?hyk704⟩) (by assumption) ?restk704
          case hik704 => simp only [List.getElem?_toArray, List.getElem?_cons_succ, List.getElem?_cons_zero]; exact rfl
          case hQk704 => exact fun _ _ _ h => h
          case hwk704 => rfl
          case hyk704 => ((intro w hSw; go_simp) <;> with_reducible rfl)
          try simp only [Act.put, List.setIfInBounds_toArray, List.set_cons_zero, List.set_cons_succ]
          refine wpAnyH_take (i := 10) (oi := ?oik705) (v := ?vk705) ?hik705 (by kernel_rfl) (by kernel_rfl) (by kernel_rfl) ?hQk705 (Or.inl ⟨?hwk705, ?hyk705⟩) (by assumption) ?restk705
          case hik705 => simp only [List.getElem?_toArray, List.getElem?_cons_succ, List.getElem?_cons_zero]; exact rfl
          case hQk705 => exact fun _ _ _ h => h
          case hwk705 => rfl
          case hyk705 => ((intro w hSw; go_simp) <;> with_reducible rfl)
          try simp only [Act.put, List.setIfInBounds_toArray, List.set_cons_zero, List.set_cons_succ]
          refine wpAnyH_ready (rs := [11]) (by kernel_rfl) (by simp) ?_
          refine AllReadyH.cons (o := ?or706_11) ?hor706_11 (fun K hK => ?stepr706_11) (AllReadyH.nil)
          case hor706_11 => simp only [List.getElem?_toArray, List.getElem?_cons_succ, List.getElem?_cons_zero]; exact rfl
          case stepr706_11 =>
            go_simp
            have hk708 := hk683.upto (Nat.le_refl _) ((Below.refl _ _).alloc (Nat.le_refl _) (.cells #[.slice none 0 0, .slice none 0 0] 48))
            have hg711 := heap_alloc_new v684 (.cells #[.slice none 0 0, .slice none 0 0] 48)
            have hz712 := hk683.lo
            have hn714 : (Value.slice A691 N1 c692).ownBlock = some v684.heap.size → False := fun e => absurd (two699.one.lt _ e).2 (Nat.lt_irrefl _)
            have hn715 : (Value.slice A693 N2 c694).ownBlock = some v684.heap.size → False := fun e => absurd (two699.two.lt _ e).2 (Nat.lt_irrefl _)
            have two713 := two699.alloc (.cells #[.slice none 0 0, .slice none 0 0] 48)
            have hr716 := hr700.alloc (.cells #[.slice none 0 0, .slice none 0 0] 48)
            clear two699 hr700
            refine hK.out _ _ ?hSq707 (fun hHeld => ?restq707)
            case hSq707 => exact hk708
            clear hK K hk683
            try simp only [Act.put, List.setIfInBounds_toArray, List.set_cons_zero, List.set_cons_succ]
            generalize v684.alloc (.cells #[.slice none 0 0, .slice none 0 0] 48) = v709 at *
            generalize v684.heap.size = G710 at *
            refine wpAnyH_ready (rs := [12]) (by kernel_rfl) (by simp) ?_
            refine AllReadyH.cons (o := ?or717_12) ?hor717_12 (fun K hK => ?stepr717_12) (AllReadyH.nil)
            case hor717_12 => simp only [List.getElem?_toArray, List.getElem?_cons_succ, List.getElem?_cons_zero]; exact rfl
            case stepr717_12 =>
              obtain ⟨c0, c1⟩ := cell2 hg711
              obtain ⟨f0, f1⟩ := rfree2 hg711
              go_simp
              have hk719 := hk708.upto' hz712 (((Below.refl G710 v709).setCell (p := ⟨G710, 0, none⟩) (Nat.le_refl _) (.slice A691 N1 c692)).setCell (p := ⟨G710, 1, none⟩) (Nat.le_refl _) (.slice A693 N2 c694))
              have hput721 := rput2 (u0 := (.slice A691 N1 c692)) (u1 := (.slice A693 N2 c694)) hg711
              have two720 := (two713.put' (set_grown v709 G710 0 (.slice A691 N1 c692)) hn714 hn715).put' (set_grown _ G710 1 (.slice A693 N2 c694)) hn714 hn715
              have hr722 := own_set_kind (i := 1) (u := (.slice A693 N2 c694)) (own_set_kind (i := 0) (u := (.slice A691 N1 c692)) hr716 hg711 (by decide)) (heap_set0 hg711) (by decide)
              refine hK.out _ _ ?hSq718 (fun hHeld => ?restq718)
              case hSq718 => exact hk719
              clear hK K hk708 two713 hr716 hg711 c0 c1 f0 f1
              try simp only [Act.put, List.setIfInBounds_toArray, List.set_cons_zero, List.set_cons_succ]
              refine wpAnyH_take (i := 13) (oi := ?oik723) (v := ?vk723) ?hik723 (by kernel_rfl) (by kernel_rfl) (by kernel_rfl) ?hQk723 (Or.inl ⟨?hwk723, ?hyk723⟩) (by assumption) ?restk723
              case hik723 => simp only [List.getElem?_toArray, List.getElem?_cons_succ, List.getElem?_cons_zero]; exact rfl
              case hQk723 => exact fun _ _ _ h => h
              case hwk723 => rfl
              case hyk723 => ((intro w hSw; go_simp) <;> with_reducible rfl)
              try simp only [Act.put, List.setIfInBounds_toArray, List.set_cons_zero, List.set_cons_succ]
              refine wpAnyH_take (i := 14) (oi := ?oik724) (v := ?vk724) ?hik724 (by kernel_rfl) (by kernel_rfl) (by kernel_rfl) ?hQk724 (Or.inl ⟨?hwk724, ?hyk724⟩) (by assumption) ?restk724
              case hik724 => simp only [List.getElem?_toArray, List.getElem?_cons_succ, List.getElem?_cons_zero]; exact rfl
              case hQk724 => exact fun _ _ _ h => h
              case hwk724 => rfl
              case hyk724 => ((intro w hSw; go_simp) <;> with_reducible rfl)
              try simp only [Act.put, List.setIfInBounds_toArray, List.set_cons_zero, List.set_cons_succ]
              refine wpAnyH_take (i := 15) (oi := ?oik725) (v := ?vk725) ?hik725 (by kernel_rfl) (by kernel_rfl) (by kernel_rfl) ?hQk725 (Or.inl ⟨?hwk725, ?hyk725⟩) (by assumption) ?restk725
              case hik725 => simp only [List.getElem?_toArray, List.getElem?_cons_succ, List.getElem?_cons_zero]; exact rfl
              case hQk725 => exact fun _ _ _ h => h
              case hwk725 => rfl
              case hyk725 => ((intro w hSw; go_simp) <;> with_reducible rfl)
              try simp only [Act.put, List.setIfInBounds_toArray, List.set_cons_zero, List.set_cons_succ]
              refine wpAnyH_done (by kernel_rfl) ?_ _
              go_wp2_with fail
              go_meet
              exact ⟨_, _, _, rfl, rfl, rfl, rfl, ⟨_, _, _, _, hput721, two720, hn714, hn715, hz712.low⟩, hr722, hk719⟩
        case stepr681_11 =>
          go_simp
          have hk727 := hk678.upto (Nat.le_refl _) ((Below.refl _ _).alloc (Nat.le_refl _) (.cells #[.slice none 0 0, .slice none 0 0] 48))
          have hg730 := heap_alloc_new v679 (.cells #[.slice none 0 0, .slice none 0 0] 48)
          have hz731 := hk678.lo
          refine hK.out _ _ ?hSq726 (fun hHeld => ?restq726)
          case hSq726 => exact hk727
          clear hK K hk678
          try simp only [Act.put, List.setIfInBounds_toArray, List.set_cons_zero, List.set_cons_succ]
          generalize v679.alloc (.cells #[.slice none 0 0, .slice none 0 0] 48) = v728 at *
          generalize v679.heap.size = G729 at *
          refine wpAnyH_ready (rs := [5]) (by kernel_rfl) (by simp) ?_
          refine AllReadyH.cons (o := ?or732_5) ?hor732_5 (fun K hK => ?stepr732_5) (AllReadyH.nil)
          case hor732_5 => simp only [List.getElem?_toArray, List.getElem?_cons_succ, List.getElem?_cons_zero]; exact rfl
          case stepr732_5 =>
            go_simp
            refine (HCI.out v728 g3 f3 (hxb.later hk727.bel)).mono ?_
            rintro e v735 ⟨⟨r737, r738, r739, rfl, two740, hr741⟩, hb736⟩
            obtain ⟨A742, c743, A744, c745, rfl, rfl⟩ := two740.slices
            obtain ⟨A746, c747, rfl, -, -⟩ := own_slice hr741
            have hn748 : (Value.slice A742 N1 c743).ownBlock = some G729 → False := fun e => absurd (two740.one.lt _ e).1 (Nat.not_le_of_lt (heap_lt' hg730))
            have hn749 : (Value.slice A744 N2 c745).ownBlock = some G729 → False := fun e => absurd (two740.two.lt _ e).1 (Nat.not_le_of_lt (heap_lt' hg730))
            have two750 := two740.mono hk727.low
            have hr751 := own_mono hr741 hk727.low
            clear two740 hr741
            have hk734 := hk727.upto (Nat.le_refl _) hb736
            have hg752 := (hb736.block G729 (heap_lt' hg730)).trans hg730
            clear hg730
            refine hK.out _ _ ?hSq733 (fun hHeld => ?restq733)
            case hSq733 => exact hk734
            clear hK K hb736 hk727
            try simp only [Act.put, List.setIfInBounds_toArray, List.set_cons_zero, List.set_cons_succ]
            refine wpAnyH_take (i := 6) (oi := ?oik753) (v := ?vk753) ?hik753 (by kernel_rfl) (by kernel_rfl) (by kernel_rfl) ?hQk753 (Or.inl ⟨?hwk753, ?hyk753⟩) (by assumption) ?restk753
            case hik753 => simp only [List.getElem?_toArray, List.getElem?_cons_succ, List.getElem?_cons_zero]; exact rfl
            case hQk753 => exact fun _ _ _ h => h
            case hwk753 => rfl
            case hyk753 => ((intro w hSw; go_simp) <;> with_reducible rfl)
            try simp only [Act.put, List.setIfInBounds_toArray, List.set_cons_zero, List.set_cons_succ]
            refine wpAnyH_take (i := 7) (oi := ?oik754) (v := ?vk754) ?hik754 (by kernel_rfl) (by kernel_rfl) (by kernel_rfl) ?hQk754 (Or.inl ⟨?hwk754, ?hyk754⟩) (by assumption) ?restk754
            case hik754 => simp only [List.getElem?_toArray, List.getElem?_cons_succ, List.getElem?_cons_zero]; exact rfl
            case hQk754 => exact fun _ _ _ h => h
            case hwk754 => rfl
            case hyk754 => ((intro w hSw; go_simp) <;> with_reducible rfl)
            try simp only [Act.put, List.setIfInBounds_toArray, List.set_cons_zero, List.set_cons_succ]
            refine wpAnyH_take (i := 8) (oi := ?oik755) (v := ?vk755) ?hik755 (by kernel_rfl) (by kernel_rfl) (by kernel_rfl) ?hQk755 (Or.inl ⟨?hwk755, ?hyk755⟩) (by assumption) ?restk755
            case hik755 => simp only [List.getElem?_toArray, List.getElem?_cons_succ, List.getElem?_cons_zero]; exact rfl
            case hQk755 => exact fun _ _ _ h => h
            case hwk755 => rfl
            case hyk755 => ((intro w hSw; go_simp) <;> with_reducible rfl)
            try simp only [Act.put, List.setIfInBounds_toArray, List.set_cons_zero, List.set_cons_succ]
            refine wpAnyH_take (i := 9) (oi := ?oik756) (v := ?vk756) ?hik756 (by kernel_rfl) (by kernel_rfl) (by kernel_rfl) ?hQk756 (Or.inl ⟨?hwk756, ?hyk756⟩) (by assumption) ?restk756
            case hik756 => simp only [List.getElem?_toArray, List.getElem?_cons_succ, List.getElem?_cons_zero]; exact rfl
            case hQk756 => exact fun _ _ _ h => h
            case hwk756 => rfl
            case hyk756 => ((intro w hSw; go_simp) <;> with_reducible rfl)
            try simp only [Act.put, List.setIfInBounds_toArray, List.set_cons_zero, List.set_cons_succ]
            refine wpAnyH_take (i := 10) (oi := ?oik757) (v := ?vk757) ?hik757 (by kernel_rfl) (by kernel_rfl) (by kernel_rfl) ?hQk757 (Or.inl ⟨?hwk757, ?hyk757⟩) (by assumption) ?restk757
            case hik757 => simp only [List.getElem?_toArray, List.getElem?_cons_succ, List.getElem?_cons_zero]; exact rfl
            case hQk757 => exact fun _ _ _ h => h
            case hwk757 => rfl
            case hyk757 => ((intro w hSw; go_simp) <;> with_reducible rfl)
            try simp only [Act.put, List.setIfInBounds_toArray, List.set_cons_zero, List.set_cons_succ]
            refine wpAnyH_ready (rs := [12]) (by kernel_rfl) (by simp) ?_
            refine AllReadyH.cons (o := ?or758_12) ?hor758_12 (fun K hK => ?stepr758_12) (AllReadyH.nil)
            case hor758_12 => simp only [List.getElem?_toArray, List.getElem?_cons_succ, List.getElem?_cons_zero]; exact rfl
            case stepr758_12 =>
              obtain ⟨c0, c1⟩ := cell2 hg752
              obtain ⟨f0, f1⟩ := rfree2 hg752
              go_simp
              have hk760 := hk734.upto' hz731 (((Below.refl G729 v735).setCell (p := ⟨G729, 0, none⟩) (Nat.le_refl _) (.slice A742 N1 c743)).setCell (p := ⟨G729, 1, none⟩) (Nat.le_refl _) (.slice A744 N2 c745))
              have hput762 := rput2 (u0 := (.slice A742 N1 c743)) (u1 := (.slice A744 N2 c745)) hg752
              have two761 := (two750.put' (set_grown v735 G729 0 (.slice A742 N1 c743)) hn748 hn749).put' (set_grown _ G729 1 (.slice A744 N2 c745)) hn748 hn749
              have hr763 := own_set_kind (i := 1) (u := (.slice A744 N2 c745)) (own_set_kind (i := 0) (u := (.slice A742 N1 c743)) hr751 hg752 (by decide)) (heap_set0 hg752) (by decide)
              refine hK.out _ _ ?hSq759 (fun hHeld => ?restq759)
              case hSq759 => exact hk760
              clear hK K hk734 two750 hr751 hg752 c0 c1 f0 f1
              try simp only [Act.put, List.setIfInBounds_toArray, List.set_cons_zero, List.set_cons_succ]
              refine wpAnyH_take (i := 13) (oi := ?oik764) (v := ?vk764) ?hik764 (by kernel_rfl) (by kernel_rfl) (by kernel_rfl) ?hQk764 (Or.inl ⟨?hwk764, ?hyk764⟩) (by assumption) ?restk764
              case hik764 => simp only [List.getElem?_toArray, List.getElem?_cons_succ, List.getElem?_cons_zero]; exact rfl
              case hQk764 => exact fun _ _ _ h => h
              case hwk764 => rfl
              case hyk764 => ((intro w hSw; go_simp) <;> with_reducible rfl)
              try simp only [Act.put, List.setIfInBounds_toArray, List.set_cons_zero, List.set_cons_succ]
              refine wpAnyH_take (i := 14) (oi := ?oik765) (v := ?vk765) ?hik765 (by kernel_rfl) (by kernel_rfl) (by kernel_rfl) ?hQk765 (Or.inl ⟨?hwk765, ?hyk765⟩) (by assumption) ?restk765
              case hik765 => simp only [List.getElem?_toArray, List.getElem?_cons_succ, List.getElem?_cons_zero]; exact rfl
              case hQk765 => exact fun _ _ _ h => h
              case hwk765 => rfl
              case hyk765 => ((intro w hSw; go_simp) <;> with_reducible rfl)
              try simp only [Act.put, List.setIfInBounds_toArray, List.set_cons_zero, List.set_cons_succ]
              refine wpAnyH_take (i := 15) (oi := ?oik766) (v := ?vk766) ?hik766 (by kernel_rfl) (by kernel_rfl) (by kernel_rfl) ?hQk766 (Or.inl ⟨?hwk766, ?hyk766⟩) (by assumption) ?restk766
              case hik766 => simp only [List.getElem?_toArray, List.getElem?_cons_succ, List.getElem?_cons_zero]; exact rfl
              case hQk766 => exact fun _ _ _ h => h
              case hwk766 => rfl
              case hyk766 => ((intro w hSw; go_simp) <;> with_reducible rfl)
              try simp only [Act.put, List.setIfInBounds_toArray, List.set_cons_zero, List.set_cons_succ]
              refine wpAnyH_done (by kernel_rfl) ?_ _
              go_wp2_with fail
              go_meet
              exact ⟨_, _, _, rfl, rfl, rfl, rfl, ⟨_, _, _, _, hput762, two761, hn748, hn749, hz731.low⟩, hr763, hk760⟩
      case stepr676_11 =>
        go_simp
        have hk768 := hK0.upto (Nat.le_refl _) ((Below.refl _ _).alloc (Nat.le_refl _) (.cells #[.slice none 0 0, .slice none 0 0] 48))
        have hg771 := heap_alloc_new w1s (.cells #[.slice none 0 0, .slice none 0 0] 48)
        have hz772 := hK0.lo
        refine hK.out _ _ ?hSq767 (fun hHeld => ?restq767)
        case hSq767 => exact hk768
        clear hK K hK0
        try simp only [Act.put, List.setIfInBounds_toArray, List.set_cons_zero, List.set_cons_succ]
        generalize w1s.alloc (.cells #[.slice none 0 0, .slice none 0 0] 48) = v769 at *
        generalize w1s.heap.size = G770 at *
        refine wpAnyH_ready (rs := [3]) (by kernel_rfl) (by simp) ?_
        refine AllReadyH.cons (o := ?or773_3) ?hor773_3 (fun K hK => ?stepr773_3) (AllReadyH.nil)
        case hor773_3 => simp only [List.getElem?_toArray, List.getElem?_cons_succ, List.getElem?_cons_zero]; exact rfl
        case stepr773_3 =>
          go_simp
          refine (toOrder_any oi oa op oq v769).mono ?_
          rintro e v776 ⟨rfl, hb777⟩
          have hk775 := hk768.upto (Nat.le_refl _) hb777
          have hg778 := (hb777.block G770 (heap_lt' hg771)).trans hg771
          clear hg771
          refine hK.out _ _ ?hSq774 (fun hHeld => ?restq774)
          case hSq774 => exact hk775
          clear hK K hb777 hk768
          try simp only [Act.put, List.setIfInBounds_toArray, List.set_cons_zero, List.set_cons_succ]
          refine wpAnyH_ready (rs := [5]) (by kernel_rfl) (by simp) ?_
          refine AllReadyH.cons (o := ?or779_5) ?hor779_5 (fun K hK => ?stepr779_5) (AllReadyH.nil)
          case hor779_5 => simp only [List.getElem?_toArray, List.getElem?_cons_succ, List.getElem?_cons_zero]; exact rfl
          case stepr779_5 =>
            go_simp
            refine (HCI.out v776 g3 f3 (hxb.later hk775.bel)).mono ?_
            rintro e v782 ⟨⟨r784, r785, r786, rfl, two787, hr788⟩, hb783⟩
            obtain ⟨A789, c790, A791, c792, rfl, rfl⟩ := two787.slices
            obtain ⟨A793, c794, rfl, -, -⟩ := own_slice hr788
            have hn795 : (Value.slice A789 N1 c790).ownBlock = some G770 → False := fun e => absurd (two787.one.lt _ e).1 (Nat.not_le_of_lt (heap_lt' hg778))
            have hn796 : (Value.slice A791 N2 c792).ownBlock = some G770 → False := fun e => absurd (two787.two.lt _ e).1 (Nat.not_le_of_lt (heap_lt' hg778))
            have two797 := two787.mono hk775.low
            have hr798 := own_mono hr788 hk775.low
            clear two787 hr788
            have hk781 := hk775.upto (Nat.le_refl _) hb783
            have hg799 := (hb783.block G770 (heap_lt' hg778)).trans hg778
            clear hg778
            refine hK.out _ _ ?hSq780 (fun hHeld => ?restq780)
            case hSq780 => exact hk781
            clear hK K hb783 hk775
            try simp only [Act.put, List.setIfInBounds_toArray, List.set_cons_zero, List.set_cons_succ]
            refine wpAnyH_take (i := 6) (oi := ?oik800) (v := ?vk800) ?hik800 (by kernel_rfl) (by kernel_rfl) (by kernel_rfl) ?hQk800 (Or.inl ⟨?hwk800, ?hyk800⟩) (by assumption) ?restk800
            case hik800 => simp only [List.getElem?_toArray, List.getElem?_cons_succ, List.getElem?_cons_zero]; exact rfl
            case hQk800 => exact fun _ _ _ h => h
            case hwk800 => rfl
            case hyk800 => ((intro w hSw; go_simp) <;> with_reducible rfl)
            try simp only [Act.put, List.setIfInBounds_toArray, List.set_cons_zero, List.set_cons_succ]
            refine wpAnyH_take (i := 7) (oi := ?oik801) (v := ?vk801) ?hik801 (by kernel_rfl) (by kernel_rfl) (by kernel_rfl) ?hQk801 (Or.inl ⟨?hwk801, ?hyk801⟩) (by assumption) ?restk801
            case hik801 => simp only [List.getElem?_toArray, List.getElem?_cons_succ, List.getElem?_cons_zero]; exact rfl
            case hQk801 => exact fun _ _ _ h => h
            case hwk801 => rfl
            case hyk801 => ((intro w hSw; go_simp) <;> with_reducible rfl)
            try simp only [Act.put, List.setIfInBounds_toArray, List.set_cons_zero, List.set_cons_succ]
            refine wpAnyH_take (i := 8) (oi := ?oik802) (v := ?vk802) ?hik802 (by kernel_rfl) (by kernel_rfl) (by kernel_rfl) ?hQk802 (Or.inl ⟨?hwk802, ?hyk802⟩) (by assumption) ?restk802
            case hik802 => simp only [List.getElem?_toArray, List.getElem?_cons_succ, List.getElem?_cons_zero]; exact rfl
            case hQk802 => exact fun _ _ _ h => h
            case hwk802 => rfl
            case hyk802 => ((intro w hSw; go_simp) <;> with_reducible rfl)
            try simp only [Act.put, List.setIfInBounds_toArray, List.set_cons_zero, List.set_cons_succ]
            refine wpAnyH_take (i := 9) (oi := ?oik803) (v := ?vk803) ?hik803 (by kernel_rfl) (by kernel_rfl) (by kernel_rfl) ?hQk803 (Or.inl ⟨?hwk803, ?hyk803⟩) (by assumption) ?restk803
            case hik803 => simp only [List.getElem?_toArray, List.getElem?_cons_succ, List.getElem?_cons_zero]; exact rfl
            case hQk803 => exact fun _ _ _ h => h
            case hwk803 => rfl
            case hyk803 => ((intro w hSw; go_simp) <;> with_reducible rfl)
            try simp only [Act.put, List.setIfInBounds_toArray, List.set_cons_zero, List.set_cons_succ]
            refine wpAnyH_take (i := 10) (oi := ?oik804) (v := ?vk804) ?hik804 (by kernel_rfl) (by kernel_rfl) (by kernel_rfl) ?hQk804 (Or.inl ⟨?hwk804, ?hyk804⟩) (by assumption) ?restk804
            case hik804 => simp only [List.getElem?_toArray, List.getElem?_cons_succ, List.getElem?_cons_zero]; exact rfl
            case hQk804 => exact fun _ _ _ h => h
            case hwk804 => rfl
            case hyk804 => ((intro w hSw; go_simp) <;> with_reducible rfl)
            try simp only [Act.put, List.setIfInBounds_toArray, List.set_cons_zero, List.set_cons_succ]
            refine wpAnyH_ready (rs := [12]) (by kernel_rfl) (by simp) ?_
            refine AllReadyH.cons (o := ?or805_12) ?hor805_12 (fun K hK => ?stepr805_12) (AllReadyH.nil)
            case hor805_12 => simp only [List.getElem?_toArray, List.getElem?_cons_succ, List.getElem?_cons_zero]; exact rfl
            case stepr805_12 =>
              obtain ⟨c0, c1⟩ := cell2 hg799
              obtain ⟨f0, f1⟩ := rfree2 hg799
              go_simp
              have hk807 := hk781.upto' hz772 (((Below.refl G770 v782).setCell (p := ⟨G770, 0, none⟩) (Nat.le_refl _) (.slice A789 N1 c790)).setCell (p := ⟨G770, 1, none⟩) (Nat.le_refl _) (.slice A791 N2 c792))
              have hput809 := rput2 (u0 := (.slice A789 N1 c790)) (u1 := (.slice A791 N2 c792)) hg799
              have two808 := (two797.put' (set_grown v782 G770 0 (.slice A789 N1 c790)) hn795 hn796).put' (set_grown _ G770 1 (.slice A791 N2 c792)) hn795 hn796
              have hr810 := own_set_kind (i := 1) (u := (.slice A791 N2 c792)) (own_set_kind (i := 0) (u := (.slice A789 N1 c790)) hr798 hg799 (by decide)) (heap_set0 hg799) (by decide)
              refine hK.out _ _ ?hSq806 (fun hHeld => ?restq806)
              case hSq806 => exact hk807
              clear hK K hk781 two797 hr798 hg799 c0 c1 f0 f1
              try simp only [Act.put, List.setIfInBounds_toArray, List.set_cons_zero, List.set_cons_succ]
              refine wpAnyH_take (i := 13) (oi := ?oik811) (v := ?vk811) ?hik811 (by kernel_rfl) (by kernel_rfl) (by kernel_rfl) ?hQk811 (Or.inl ⟨?hwk811, ?hyk811⟩) (by assumption) ?restk811
              case hik811 => simp only [List.getElem?_toArray, List.getElem?_cons_succ, List.getElem?_cons_zero]; exact rfl
              case hQk811 => exact fun _ _ _ h => h
              case hwk811 => rfl
              case hyk811 => ((intro w hSw; go_simp) <;> with_reducible rfl)
              try simp only [Act.put, List.setIfInBounds_toArray, List.set_cons_zero, List.set_cons_succ]
              refine wpAnyH_take (i := 14) (oi := ?oik812) (v := ?vk812) ?hik812 (by kernel_rfl) (by kernel_rfl) (by kernel_rfl) ?hQk812 (Or.inl ⟨?hwk812, ?hyk812⟩) (by assumption) ?restk812
              case hik812 => simp only [List.getElem?_toArray, List.getElem?_cons_succ, List.getElem?_cons_zero]; exact rfl
              case hQk812 => exact fun _ _ _ h => h
              case hwk812 => rfl
              case hyk812 => ((intro w hSw; go_simp) <;> with_reducible rfl)
              try simp only [Act.put, List.setIfInBounds_toArray, List.set_cons_zero, List.set_cons_succ]
              refine wpAnyH_take (i := 15) (oi := ?oik813) (v := ?vk813) ?hik813 (by kernel_rfl) (by kernel_rfl) (by kernel_rfl) ?hQk813 (Or.inl ⟨?hwk813, ?hyk813⟩) (by assumption) ?restk813
              case hik813 => simp only [List.getElem?_toArray, List.getElem?_cons_succ, List.getElem?_cons_zero]; exact rfl
              case hQk813 => exact fun _ _ _ h => h
              case hwk813 => rfl
              case hyk813 => ((intro w hSw; go_simp) <;> with_reducible rfl)
              try simp only [Act.put, List.setIfInBounds_toArray, List.set_cons_zero, List.set_cons_succ]
              refine wpAnyH_done (by kernel_rfl) ?_ _
              go_wp2_with fail
              go_meet
              exact ⟨_, _, _, rfl, rfl, rfl, rfl, ⟨_, _, _, _, hput809, two808, hn795, hn796, hz772.low⟩, hr810, hk807⟩
    case rest =>
      clear hK0
      obtain ⟨G2, Rg, dg, rfl, rfl, rfl, rfl, ⟨Ag, cg, Ah, ch, Gc, TGc, hGa', hGb', hw4⟩, RGc, hK0⟩ := hcut
      have hGa : some G2 ≠ (Value.slice Ag N1 cg).ownBlock := fun e => hGa' e.symm
      have hGb : some G2 ≠ (Value.slice Ah N2 ch).ownBlock := fun e => hGb' e.symm
      have lGc := heap_lt' Gc
      have Xc := hK0.two
      have lXc := heap_lt' Xc
      have hxc := hxb.later hK0.bel
      have Dc := ord_later Db hK0.bel
      have Ec := hK0.bel
      have Wc := (Dc.block _ lWa).trans Wa
      have TWc := TWa.below Dc
      have RWc := own_below RWa Dc
      have hap1 := mt_apart TGc.one RGc (by decide)
      have hap2 := mt_apart TGc.two RGc (by decide)
      have hGr : some G2 ≠ (Value.slice Rg N3 dg).ownBlock := fun e => by
        obtain ⟨c1, f1, g1⟩ := Lib.ownsRow_kind RGc _ e.symm
        rw [Gc] at g1
        injection g1 with g1
        injection g1 with _ g1
        exact absurd g1 (by decide)
      clear hK0 hxb Db Xb hGa' hGb' lX
      obtain ⟨q0, q1⟩ := cell2 Gc
      obtain ⟨r0, r1⟩ := cell2 Wc
      go_wp2_with fail
      refine (eqBook_same _ _ _ _ N1 N2 _ _ _ _ Z1 Z2 wc TGc.bookIn TWc.bookIn hN1 hN2).mono ?_
      rintro e wd ⟨rfl, hbd⟩
      have RGd := own_below RGc hbd
      have RWd := own_below RWc hbd
      go_wp2_with fail
      refine (eqRecS_same _ _ N3 _ _ RR wd (Lst.of_own RGd) (Lst.of_own RWd) hN3).mono ?_
      rintro e w5 ⟨rfl, hbt⟩
      have hb5 : Below wc.heap.size wc w5 := hbd.trans (hbt.mono hbd.size)
      clear hbd hbt RGd RWd RWc
      have D5 := ord_later Dc hb5
      have E5 := ord_later Ec hb5
      have TG5 := TGc.below hb5
      have RG5 := own_below RGc hb5
      clear RGc
      have X5 := (hb5.block _ lXc).trans Xc
      have G5 := (hb5.block _ lGc).trans Gc
      have H5 := (D5.block _ lHa).trans Ha
      have hx5 := hxc.later hb5
      have hl5 := hla.later D5
      have lX := Nat.lt_of_lt_of_le lXc hb5.size
      have lG := Nat.lt_of_lt_of_le lGc hb5.size
      have lg3b : g3 < wb.heap.size := lg3
      have lf3b : f3 < wb.heap.size := lf3
      clear Dc Ec TGc Xc Gc hxc hb5 Wc TWc q0 q1 r0 r1 lXc lGc
      obtain ⟨p0, p1⟩ := cell2 H5
      obtain ⟨q0, q1⟩ := cell2 X5
      have hd5 : Below w5.heap.size w5 w5.drew := (Below.refl _ _).drew
      have hl5d := hl5.later hd5
      have hx5d := hx5.later hd5
      clear hl5 hx5
      go_upto_region 10 with fail
      refine wp_region_held_drew (S := (fun w' => Below w5.heap.size w5 w' ∧ w'.cell? ⟨w.heap.size, 0, none⟩ = some (.slice A n c) ∧ w'.cell? ⟨w.heap.size, 1, none⟩ = some (.slice B m d) ∧ w'.cell? ⟨w3.heap.size, 0, none⟩ = some (.slice (some ⟨g3, 0, none⟩) n n) ∧ w'.cell? ⟨w3.heap.size, 1, none⟩ = some (.slice (some ⟨f3, 0, none⟩) m m))) (by kernel_rfl) ?hSq2xs (fun hHeld => ?restq2xs)
      case hSq2xs => ((first | assumption | ((((try dsimp only); repeat' apply And.intro) <;> (first | assumption | (refine below_later ?_ (by assumption); first | assumption | (simp only [*]; done) | (go_grown; done)) | (refine cell_later (by assumption) ?_; first | assumption | (simp only [*]; done) | (simp [go_sem]; done)) | (go_grown; done) | (simp [go_sem]; done))))))
      refine wpAnyH_take (i := 0) (oi := ?oiq2x1) (v := ?vq2x1) ?hiq2x1 (by kernel_rfl) (by kernel_rfl) (by kernel_rfl) ?hQq2x1 (Or.inl ⟨?hwq2x1, ?hyq2x1⟩) (by assumption) ?restq2x1
      case hiq2x1 => simp only [List.getElem?_toArray, List.getElem?_cons_succ, List.getElem?_cons_zero]; exact rfl
      case hQq2x1 => exact fun _ _ _ h => h
      case hwq2x1 => rfl
      case hyq2x1 => ((intro w hSw; (try dsimp only at hSw); go_simp) <;> with_reducible rfl)
      try simp only [Act.put, List.setIfInBounds_toArray, List.set_cons_zero, List.set_cons_succ]
      refine wpAnyH_take (i := 1) (oi := ?oiq2x2) (v := ?vq2x2) ?hiq2x2 (by kernel_rfl) (by kernel_rfl) (by kernel_rfl) ?hQq2x2 (Or.inl ⟨?hwq2x2, ?hyq2x2⟩) (by assumption) ?restq2x2
      case hiq2x2 => simp only [List.getElem?_toArray, List.getElem?_cons_succ, List.getElem?_cons_zero]; exact rfl
      case hQq2x2 => exact fun _ _ _ h => h
      case hwq2x2 => rfl
      case hyq2x2 => ((intro w hSw; (try dsimp only at hSw); go_simp) <;> with_reducible rfl)
      try simp only [Act.put, List.setIfInBounds_toArray, List.set_cons_zero, List.set_cons_succ]
      refine wpAnyH_ready (rs := [2]) (by kernel_rfl) (by simp) ?_
      refine AllReadyH.cons (o := ?oq2x3) ?hoq2x3 (fun K hK => ?stepq2x3) ?moreq2x3
      case hoq2x3 => simp only [List.getElem?_toArray, List.getElem?_cons_succ, List.getElem?_cons_zero]; exact rfl
      case moreq2x3 => exact AllReadyH.nil
      go_simp
      (go_at_call 35; refine (toBook_any A n c B m d za zb _ hl5d hnm).mono ?_; rintro e w6 ⟨g6, f6, rfl, _, _, _, hr6, hs6, hb6⟩; have hx6 : BookIn w6 w6.heap.size (some ⟨g6, 0, none⟩) n (some ⟨f6, 0, none⟩) m za zb := ⟨Lst.of_row (sz := 4) (zs := za) (n := n) hr6 (Nat.le_refl _) hlA (fun _ _ => rfl), Lst.of_row (sz := 4) (zs := zb) (n := m) hs6 (Nat.le_refl _) hlB (fun _ _ => rfl)⟩)
      refine hK.out _ _ ?hSq2x3 (fun hHeld => ?restq2x3)
      case hSq2x3 => ((first | assumption | ((((try dsimp only); repeat' apply And.intro) <;> (first | assumption | (refine below_later ?_ (by assumption); first | assumption | (simp only [*]; done) | (go_grown; done)) | (refine cell_later (by assumption) ?_; first | assumption | (simp only [*]; done) | (simp [go_sem]; done)) | (go_grown; done) | (simp [go_sem]; done))))))
      clear hK K
      try simp only [Act.put, List.setIfInBounds_toArray, List.set_cons_zero, List.set_cons_succ]
      refine wpAnyH_ready (rs := [3]) (by kernel_rfl) (by simp) ?_
      refine AllReadyH.cons (o := ?oq2x4) ?hoq2x4 (fun K hK => ?stepq2x4) ?moreq2x4
      case hoq2x4 => simp only [List.getElem?_toArray, List.getElem?_cons_succ, List.getElem?_cons_zero]; exact rfl
      case moreq2x4 => exact AllReadyH.nil
      go_simp
      (go_at_call 38; refine (eqBook_same _ _ _ _ n m _ _ _ _ za zb w6 (hx5d.later hb6) hx6 hn1 hm1).mono ?_; rintro e w7 ⟨rfl, hb7⟩)
      refine hK.out _ _ ?hSq2x4 (fun hHeld => ?restq2x4)
      case hSq2x4 => ((first | assumption | ((((try dsimp only); repeat' apply And.intro) <;> (first | assumption | (refine below_later ?_ (by assumption); first | assumption | (simp only [*]; done) | (go_grown; done)) | (refine cell_later (by assumption) ?_; first | assumption | (simp only [*]; done) | (simp [go_sem]; done)) | (go_grown; done) | (simp [go_sem]; done))))))
      clear hK K
      try simp only [Act.put, List.setIfInBounds_toArray, List.set_cons_zero, List.set_cons_succ]
      refine wpAnyH_take (i := 4) (oi := ?oiq2x5) (v := ?vq2x5) ?hiq2x5 (by kernel_rfl) (by kernel_rfl) (by kernel_rfl) ?hQq2x5 (Or.inl ⟨?hwq2x5, ?hyq2x5⟩) (by assumption) ?restq2x5
      case hiq2x5 => simp only [List.getElem?_toArray, List.getElem?_cons_succ, List.getElem?_cons_zero]; exact rfl
      case hQq2x5 => exact fun _ _ _ h => h
      case hwq2x5 => rfl
      case hyq2x5 => ((intro w hSw; (try dsimp only at hSw); go_simp) <;> with_reducible rfl)
      try simp only [Act.put, List.setIfInBounds_toArray, List.set_cons_zero, List.set_cons_succ]
      refine wpAnyH_done (by kernel_rfl) ?_ _
      obtain ⟨hb7, -, -, -, -⟩ := hHeld
      have hsz7 := hb7.size
      have D7 := ord_later D5 hb7
      have E7 := ord_later E5 hb7
      have X7 := (hb7.block _ lX).trans X5
      have G7 := (hb7.block _ lG).trans G5
      have TG7 := TG5.below hb7
      have RG7 := own_below RG5 hb7
      clear RG5
      obtain ⟨q0, q1⟩ := cell2 X7
      clear hb7
      go_wp2_with fail
      have hr7 := HR3.out.of_block (E7.block g3 lg3)
      have hs7 := HS3.out.of_block (E7.block f3 lf3)
      refine (markBook_any g3 f3 n n m m (n * 4) (m * 4) _ ⟨_, hr7⟩ ⟨_, hs7⟩ hgf3 (Nat.le_refl _) (Nat.le_refl _) hn1 hm1).mono ?_
      rintro e w8 ⟨⟨k, hk, rfl⟩, o, wm, hga, hgb⟩
      have hszm := hga.size
      have D8 := ((D7.alloc D7.size o).grown hga (Nat.le_trans D7.size (by simp)) (fun q hq => by cases hq; exact hg3)).grown hgb (Nat.le_trans (Nat.le_trans D7.size (by simp)) hszm) (fun q hq => by cases hq; exact hf3)
      have TG8 := ((TG7.alloc o).kept hga lg3b).kept hgb lf3b
      have RG8 := own_keptlt (own_keptlt (RG7.alloc o) hga lg3b) hgb lf3b
      clear RG7
      have G8 := (hgb.block _ (by simp at hszm; omega) (fun e => by injection e with e; omega)).trans ((hga.block _ (by simp; omega) (fun e => by injection e with e; omega)).trans ((Below.heap_alloc _ o _ (by omega)).trans G7))
      have lG8 : G2 < w8.heap.size := by have := hgb.size; simp at hszm; omega
      have hk0 : decide (k < 0) = false := decide_eq_false (by omega)
      have W8 := (D8.block _ lWa).trans Wa
      have TW8 := TWa.below D8
      clear hga hgb hszm hr7 hs7 q0 q1 X7 G7 TG7 E7
      obtain ⟨q0, q1⟩ := cell2 G8
      obtain ⟨r0, r1⟩ := cell2 W8
      go_wp2_with fail
      refine (eqBook_same _ _ _ _ N1 N2 _ _ _ _ Z1 Z2 w8 TG8.bookIn TW8.bookIn hN1 hN2).mono ?_
      rintro e wd ⟨rfl, hbd⟩
      have RGd := own_below RG8 hbd
      have RWd := own_below RWa (ord_later D8 hbd)
      go_wp2_with fail
      refine (eqRecS_same _ _ N3 _ _ RR wd (Lst.of_own RGd) (Lst.of_own RWd) hN3).mono ?_
      rintro e w9 ⟨rfl, hbt⟩
      have hb9 := hbd.trans (hbt.mono hbd.size)
      have RG9 := own_below RG8 hb9
      clear hbd hbt RGd RWd RG8
      have D9 := ord_later D8 hb9
      have TG9 := TG8.below hb9
      have G9 := (hb9.block _ lG8).trans G8
      have lG9 := Nat.lt_of_lt_of_le lG8 hb9.size
      clear TW8 D8 hb9 TG8 G8 W8 q0 q1 r0 r1
      obtain ⟨q0, q1⟩ := cell2 G9
      go_wp2_with fail
      refine (markBook_own wb.heap.size _ _ _ _ N1 N2 Z1 Z2 w9 TG9 hN1 hN2).mono ?_
      rintro e wk ⟨rfl, Mk, hbel, hblk⟩
      have Dk := hbel _ _ D9 hwab D9.size
      have Gk := (hblk _ lG9 hGa hGb).trans G9
      have lGk : G2 < wk.heap.size := heap_lt' Gk
      have RGk := own_blocks RG9 (fun q hq => hblk q (RG9.lt q hq).2 (fun e => hap1 q e.symm hq) (fun e => hap2 q e.symm hq))
      clear hbel hblk G9 lG9 D9 TG9 RG9 q0 q1
      have hct : ((N2 * 4 + (N1 * 4 + 1) : Nat) : Int) = (N2 : Int) * 4 + ((N1 : Int) * 4 + 1) := by omega
      have hmr := markRecS_anyFrom wb.heap.size (N2 * 4 + (N1 * 4 + 1)) _ N3 _ wk RGk hN3 (by omega)
      rw [hct] at hmr
      have HMR := Lib.hid hmr
      have HCT := Lib.hid hct
      clear hmr hct
      go_wp2_with fail
      refine (HMR.out).mono ?_
      rintro e w10 ⟨rfl, MR10, hgR⟩
      have D10 := Dk.grown hgR Dk.size (fun q hq => Nat.le_trans hwab (RGk.lt q hq).1)
      have G10 := (hgR.block _ lGk hGr).trans Gk
      have M10 : MarkedTwo w10 (.slice Ag N1 cg) N1 (.slice Ah N2 ch) N2 := ⟨Mk.1.apart hgR hap1, Mk.2.apart hgR hap2⟩
      have lG10 : G2 < w10.heap.size := heap_lt' G10
      clear HMR hgR Gk lGk Mk Dk RGk
      have ht0 : decide ((N2 : Int) * 4 + ((N1 : Int) * 4 + 1) < 0) = false := decide_eq_false (by omega)
      obtain ⟨q0, q1⟩ := cell2 G10
      go_wp2_with fail
      refine (heldBook_own _ _ _ _ N1 N2 w10 M10 hN1 hN2).mono ?_
      rintro e w11 ⟨rfl, hb11⟩
      have D11 := ord_later D10 hb11
      have G11 := (hb11.block _ lG10).trans G10
      have M11 := M10.below hb11
      have MR11 := MR10.below hb11
      clear MR10
      have lG11 := Nat.lt_of_lt_of_le lG10 hb11.size
      have H11 := (D11.block _ lHa).trans Ha
      have hl11 := hla.later D11
      clear D10 G10 M10 lG10 hb11 q0 q1
      have ht1 : decide ((N3 : Int) * 8 + ((N2 : Int) * 4 + ((N1 : Int) * 4 + 1)) < 0) = false := decide_eq_false (by omega)
      have hmr := heldRecS_anyFrom (N2 * 4 + (N1 * 4 + 1)) _ N3 w11 MR11 hN3 (by omega)
      rw [HCT.out] at hmr
      have HMR := Lib.hid hmr
      clear hmr
      go_wp2_with fail
      refine ((HMR.out).mono (fun e w' h => (⟨h.1, h.2.symm⟩ : _ ∧ _))).mono ?_
      rintro e _ ⟨rfl, rfl⟩
      clear HMR
      obtain ⟨p0, p1⟩ := cell2 H11
      have O11 := (D11.block _ lOa).trans Oa
      have hK0 : Keeps w11.heap.size w11 [(w.heap.size, (.cells #[.slice A n c, .slice B m d] 42)), (w.heap.size + 1, (.cells #[.int .i64 oi, .int .i64 oa, .int .i64 op, .int .i64 oq] 62))] w11 := ⟨Below.refl _ _, Nat.le_refl _, fun p hp => by
        simp only [List.mem_cons, List.not_mem_nil, or_false] at hp
        rcases hp with rfl | rfl
        · exact H11
        · exact O11⟩
      clear O11
      go_wp2_with fail
      go_upto_region 28 with fail
      go_cut [22, 23, 24, 25] (fun s22 s23 s24 s25 wx => ∃ G R3 d3, s22 = .pointer (some ⟨G, 0, none⟩) ∧ s23 = .slice R3 N3 d3 ∧ s24 = .int .i64 lf ∧ s25 = .bool rg ∧ BoxRes wx w11.heap.size G N1 Z1 N2 Z2 ∧ wx.ownsRow w11.heap.size 126 8 (.slice R3 N3 d3) N3 (nums RR) ∧ Keeps w11.heap.size w11 [(w.heap.size, (.cells #[.slice A n c, .slice B m d] 42)), (w.heap.size + 1, (.cells #[.int .i64 oi, .int .i64 oa, .int .i64 op, .int .i64 oq] 62))] wx)
      case first =>
        refine wp_region_held_drew (S := Keeps w11.heap.size w11 [(w.heap.size, (.cells #[.slice A n c, .slice B m d] 42)), (w.heap.size + 1, (.cells #[.int .i64 oi, .int .i64 oa, .int .i64 op, .int .i64 oq] 62))]) (by kernel_rfl) ?hSr28 (fun hHeld => ?restr28)
        case hSr28 => exact hK0.drew
        replace hK0 := hK0.drew
        have hls := hl11
        clear hHeld
        generalize hw1s : w11.drew = w1s at hK0 ⊢
        clear hw1s
        refine wpAnyH_take (i := 0) (oi := ?oik814) (v := ?vk814) ?hik814 (by kernel_rfl) (by kernel_rfl) (by kernel_rfl) ?hQk814 (Or.inl ⟨?hwk814, ?hyk814⟩) (by assumption) ?restk814
        case hik814 => simp only [List.getElem?_toArray, List.getElem?_cons_succ, List.getElem?_cons_zero]; exact rfl
        case hQk814 => exact fun _ _ _ h => h
        case hwk814 => rfl
        case hyk814 => ((intro w hSw; obtain ⟨c0, c1⟩ := cell2 hSw.one; go_simp) <;> with_reducible rfl)
        try simp only [Act.put, List.setIfInBounds_toArray, List.set_cons_zero, List.set_cons_succ]
        refine wpAnyH_take (i := 2) (oi := ?oik815) (v := ?vk815) ?hik815 (by kernel_rfl) (by kernel_rfl) (by kernel_rfl) ?hQk815 (Or.inl ⟨?hwk815, ?hyk815⟩) (by assumption) ?restk815
        case hik815 => simp only [List.getElem?_toArray, List.getElem?_cons_succ, List.getElem?_cons_zero]; exact rfl
        case hQk815 => exact fun _ _ _ h => h
        case hwk815 => rfl
        case hyk815 => ((intro w hSw; go_simp) <;> with_reducible rfl)
        try simp only [Act.put, List.setIfInBounds_toArray, List.set_cons_zero, List.set_cons_succ]
        refine wpAnyH_take (i := 3) (oi := ?oik816) (v := ?vk816) ?hik816 (by kernel_rfl) (by kernel_rfl) (by kernel_rfl) ?hQk816 (Or.inl ⟨?hwk816, ?hyk816⟩) (by assumption) ?restk816
        case hik816 => simp only [List.getElem?_toArray, List.getElem?_cons_succ, List.getElem?_cons_zero]; exact rfl
        case hQk816 => exact fun _ _ _ h => h
        case hwk816 => rfl
        case hyk816 => ((intro w hSw; obtain ⟨c0, c1, c2, c3⟩ := cfree4 hSw.two; go_simp) <;> with_reducible rfl)
        try simp only [Act.put, List.setIfInBounds_toArray, List.set_cons_zero, List.set_cons_succ]
        refine wpAnyH_take (i := 5) (oi := ?oik817) (v := ?vk817) ?hik817 (by kernel_rfl) (by kernel_rfl) (by kernel_rfl) ?hQk817 (Or.inl ⟨?hwk817, ?hyk817⟩) (by assumption) ?restk817
        case hik817 => simp only [List.getElem?_toArray, List.getElem?_cons_succ, List.getElem?_cons_zero]; exact rfl
        case hQk817 => exact fun _ _ _ h => h
        case hwk817 => rfl
        case hyk817 => ((intro w hSw; go_simp) <;> with_reducible rfl)
        try simp only [Act.put, List.setIfInBounds_toArray, List.set_cons_zero, List.set_cons_succ]
        refine wpAnyH_ready (rs := [1, 12]) (by kernel_rfl) (by simp) ?_
        refine AllReadyH.cons (o := ?or818_1) ?hor818_1 (fun K hK => ?stepr818_1) (AllReadyH.cons (o := ?or818_12) ?hor818_12 (fun K hK => ?stepr818_12) (AllReadyH.nil))
        case hor818_1 => simp only [List.getElem?_toArray, List.getElem?_cons_succ, List.getElem?_cons_zero]; exact rfl
        case hor818_12 => simp only [List.getElem?_toArray, List.getElem?_cons_succ, List.getElem?_cons_zero]; exact rfl
        case stepr818_1 =>
          go_simp
          refine (toBook_any A n c B m d za zb w1s (hls.later hK0.bel) hnm).mono ?_
          rintro e v821 ⟨g823, f824, rfl, _, _, _, hr825, hs826, hb822⟩
          have hx827 : BookIn v821 v821.heap.size (some ⟨g823, 0, none⟩) n (some ⟨f824, 0, none⟩) m za zb := ⟨Lst.of_row (sz := 4) (zs := za) (n := n) hr825 (Nat.le_refl _) hlA (fun _ _ => rfl), Lst.of_row (sz := 4) (zs := zb) (n := m) hs826 (Nat.le_refl _) hlB (fun _ _ => rfl)⟩
          clear hr825 hs826
          have hk820 := hK0.upto (Nat.le_refl _) hb822
          refine hK.out _ _ ?hSq819 (fun hHeld => ?restq819)
          case hSq819 => exact hk820
          clear hK K hb822 hK0
          try simp only [Act.put, List.setIfInBounds_toArray, List.set_cons_zero, List.set_cons_succ]
          refine wpAnyH_ready (rs := [4, 12]) (by kernel_rfl) (by simp) ?_
          refine AllReadyH.cons (o := ?or828_4) ?hor828_4 (fun K hK => ?stepr828_4) (AllReadyH.cons (o := ?or828_12) ?hor828_12 (fun K hK => ?stepr828_12) (AllReadyH.nil))
          case hor828_4 => simp only [List.getElem?_toArray, List.getElem?_cons_succ, List.getElem?_cons_zero]; exact rfl
          case hor828_12 => simp only [List.getElem?_toArray, List.getElem?_cons_succ, List.getElem?_cons_zero]; exact rfl
          case stepr828_4 =>
            go_simp
            refine (toOrder_any oi oa op oq v821).mono ?_
            rintro e v831 ⟨rfl, hb832⟩
            have hx833 := hx827.later hb832
            clear hx827
            have hk830 := hk820.upto (Nat.le_refl _) hb832
            refine hK.out _ _ ?hSq829 (fun hHeld => ?restq829)
            case hSq829 => exact hk830
            clear hK K hb832 hk820
            try simp only [Act.put, List.setIfInBounds_toArray, List.set_cons_zero, List.set_cons_succ]
            refine wpAnyH_ready (rs := [6, 12]) (by kernel_rfl) (by simp) ?_
            refine AllReadyH.cons (o := ?or834_6) ?hor834_6 (fun K hK => ?stepr834_6) (AllReadyH.cons (o := ?or834_12) ?hor834_12 (fun K hK => ?stepr834_12) (AllReadyH.nil))
            case hor834_6 => simp only [List.getElem?_toArray, List.getElem?_cons_succ, List.getElem?_cons_zero]; exact rfl
            case hor834_12 => simp only [List.getElem?_toArray, List.getElem?_cons_succ, List.getElem?_cons_zero]; exact rfl
            case stepr834_6 =>
              go_simp
              refine (HCI.out v831 g823 f824 hx833).mono ?_
              rintro e v837 ⟨⟨r839, r840, r841, rfl, two842, hr843⟩, hb838⟩
              obtain ⟨A844, c845, A846, c847, rfl, rfl⟩ := two842.slices
              obtain ⟨A848, c849, rfl, -, -⟩ := own_slice hr843
              have two852 := two842.mono hk830.low
              have hr853 := own_mono hr843 hk830.low
              clear two842 hr843
              clear hx833
              have hk836 := hk830.upto (Nat.le_refl _) hb838
              refine hK.out _ _ ?hSq835 (fun hHeld => ?restq835)
              case hSq835 => exact hk836
              clear hK K hb838 hk830
              try simp only [Act.put, List.setIfInBounds_toArray, List.set_cons_zero, List.set_cons_succ]
              refine wpAnyH_take (i := 7) (oi := ?oik854) (v := ?vk854) ?hik854 (by kernel_rfl) (by kernel_rfl) (by kernel_rfl) ?hQk854 (Or.inl ⟨?hwk854, ?hyk854⟩) (by assumption) ?restk854
              case hik854 => simp only [List.getElem?_toArray, List.getElem?_cons_succ, List.getElem?_cons_zero]; exact rfl
              case hQk854 => exact fun _ _ _ h => h
              case hwk854 => rfl
              case hyk854 => ((intro w hSw; go_simp) <;> with_reducible rfl)
              try simp only [Act.put, List.setIfInBounds_toArray, List.set_cons_zero, List.set_cons_succ]
              refine wpAnyH_take (i := 8) (oi := ?oik855) (v := ?vk855) ?hik855 (by kernel_rfl) (by kernel_rfl) (by kernel_rfl) ?hQk855 (Or.inl ⟨?hwk855, ?hyk855⟩) (by assumption) ?restk855
              case hik855 => simp only [List.getElem?_toArray, List.getElem?_cons_succ, List.getElem?_cons_zero]; exact rfl
              case hQk855 => exact fun _ _ _ h => h
              case hwk855 => rfl
              case hyk855 => ((intro w hSw; go_simp) <;> with_reducible rfl)
              try simp only [Act.put, List.setIfInBounds_toArray, List.set_cons_zero, List.set_cons_succ]
              refine wpAnyH_take (i := 9) (oi := ?oik856) (v := ?vk856) ?hik856 (by kernel_rfl) (by kernel_rfl) (by kernel_rfl) ?hQk856 (Or.inl ⟨?hwk856, ?hyk856⟩) (by assumption) ?restk856
              case hik856 => simp only [List.getElem?_toArray, List.getElem?_cons_succ, List.getElem?_cons_zero]; exact rfl
              case hQk856 => exact fun _ _ _ h => h
              case hwk856 => rfl
              case hyk856 => ((intro w hSw; go_simp) <;> with_reducible rfl)
              try simp only [Act.put, List.setIfInBounds_toArray, List.set_cons_zero, List.set_cons_succ]
              refine wpAnyH_take (i := 10) (oi := ?oik857) (v := ?vk857) ?hik857 (by kernel_rfl) (by kernel_rfl) (by kernel_rfl) ?hQk857 (Or.inl ⟨?hwk857, ?hyk857⟩) (by assumption) ?restk857
              case hik857 => simp only [List.getElem?_toArray, List.getElem?_cons_succ, List.getElem?_cons_zero]; exact rfl
              case hQk857 => exact fun _ _ _ h => h
              case hwk857 => rfl
              case hyk857 => ((intro w hSw; go_simp) <;> with_reducible rfl)
              try simp only [Act.put, List.setIfInBounds_toArray, List.set_cons_zero, List.set_cons_succ]
              refine wpAnyH_take (i := 11) (oi := ?oik858) (v := ?vk858) ?hik858 (by kernel_rfl) (by kernel_rfl) (by kernel_rfl) ?hQk858 (Or.inl ⟨?hwk858, ?hyk858⟩) (by assumption) ?restk858
              case hik858 => simp only [List.getElem?_toArray, List.getElem?_cons_succ, List.getElem?_cons_zero]; exact rfl
              case hQk858 => exact fun _ _ _ h => h
              case hwk858 => rfl
              case hyk858 => ((intro w hSw; go_simp) <;> with_reducible rfl)
              try simp only [Act.put, List.setIfInBounds_toArray, List.set_cons_zero, List.set_cons_succ]
              refine wpAnyH_ready (rs := [12]) (by kernel_rfl) (by simp) ?_
              refine AllReadyH.cons (o := ?or859_12) ?hor859_12 (fun K hK => ?stepr859_12) (AllReadyH.nil)
              case hor859_12 => simp only [List.getElem?_toArray, List.getElem?_cons_succ, List.getElem?_cons_zero]; exact rfl
              case stepr859_12 =>
                go_simp
                have hk861 := hk836.upto (Nat.le_refl _) ((Below.refl _ _).alloc (Nat.le_refl _) (.cells #[.slice none 0 0, .slice none 0 0] 48))
                have hg864 := heap_alloc_new v837 (.cells #[.slice none 0 0, .slice none 0 0] 48)
                have hz865 := hk836.lo
                have hn867 : (Value.slice A844 N1 c845).ownBlock = some v837.heap.size → False := fun e => absurd (two852.one.lt _ e).2 (Nat.lt_irrefl _)
                have hn868 : (Value.slice A846 N2 c847).ownBlock = some v837.heap.size → False := fun e => absurd (two852.two.lt _ e).2 (Nat.lt_irrefl _)
                have two866 := two852.alloc (.cells #[.slice none 0 0, .slice none 0 0] 48)
                have hr869 := hr853.alloc (.cells #[.slice none 0 0, .slice none 0 0] 48)
                clear two852 hr853
                refine hK.out _ _ ?hSq860 (fun hHeld => ?restq860)
                case hSq860 => exact hk861
                clear hK K hk836
                try simp only [Act.put, List.setIfInBounds_toArray, List.set_cons_zero, List.set_cons_succ]
                generalize v837.alloc (.cells #[.slice none 0 0, .slice none 0 0] 48) = v862 at *
                generalize v837.heap.size = G863 at *
                refine wpAnyH_ready (rs := [13]) (by kernel_rfl) (by simp) ?_
                refine AllReadyH.cons (o := ?or870_13) ?hor870_13 (fun K hK => ?stepr870_13) (AllReadyH.nil)
                case hor870_13 => simp only [List.getElem?_toArray, List.getElem?_cons_succ, List.getElem?_cons_zero]; exact rfl
                case stepr870_13 =>
                  obtain ⟨c0, c1⟩ := cell2 hg864
                  obtain ⟨f0, f1⟩ := rfree2 hg864
                  go_simp
                  have hk872 := hk861.upto' hz865 (((Below.refl G863 v862).setCell (p := ⟨G863, 0, none⟩) (Nat.le_refl _) (.slice A844 N1 c845)).setCell (p := ⟨G863, 1, none⟩) (Nat.le_refl _) (.slice A846 N2 c847))
                  have hput874 := rput2 (u0 := (.slice A844 N1 c845)) (u1 := (.slice A846 N2 c847)) hg864
                  have two873 := (two866.put' (set_grown v862 G863 0 (.slice A844 N1 c845)) hn867 hn868).put' (set_grown _ G863 1 (.slice A846 N2 c847)) hn867 hn868
                  have hr875 := own_set_kind (i := 1) (u := (.slice A846 N2 c847)) (own_set_kind (i := 0) (u := (.slice A844 N1 c845)) hr869 hg864 (by decide)) (heap_set0 hg864) (by decide)
                  refine hK.out _ _ ?hSq871 (fun hHeld => ?restq871)
                  case hSq871 => exact hk872
                  clear hK K hk861 two866 hr869 hg864 c0 c1 f0 f1
                  try simp only [Act.put, List.setIfInBounds_toArray, List.set_cons_zero, List.set_cons_succ]
                  refine wpAnyH_take (i := 14) (oi := ?oik876) (v := ?vk876) ?hik876 (by kernel_rfl) (by kernel_rfl) (by kernel_rfl) ?hQk876 (Or.inl ⟨?hwk876, ?hyk876⟩) (by assumption) ?restk876
                  case hik876 => simp only [List.getElem?_toArray, List.getElem?_cons_succ, List.getElem?_cons_zero]; exact rfl
                  case hQk876 => exact fun _ _ _ h => h
                  case hwk876 => rfl
                  case hyk876 => ((intro w hSw; go_simp) <;> with_reducible rfl)
                  try simp only [Act.put, List.setIfInBounds_toArray, List.set_cons_zero, List.set_cons_succ]
                  refine wpAnyH_take (i := 15) (oi := ?oik877) (v := ?vk877) ?hik877 (by kernel_rfl) (by kernel_rfl) (by kernel_rfl) ?hQk877 (Or.inl ⟨?hwk877, ?hyk877⟩) (by assumption) ?restk877
                  case hik877 => simp only [List.getElem?_toArray, List.getElem?_cons_succ, List.getElem?_cons_zero]; exact rfl
                  case hQk877 => exact fun _ _ _ h => h
                  case hwk877 => rfl
                  case hyk877 => ((intro w hSw; go_simp) <;> with_reducible rfl)
                  try simp only [Act.put, List.setIfInBounds_toArray, List.set_cons_zero, List.set_cons_succ]
                  refine wpAnyH_take (i := 16) (oi := ?oik878) (v := ?vk878) ?hik878 (by kernel_rfl) (by kernel_rfl) (by kernel_rfl) ?hQk878 (Or.inl ⟨?hwk878, ?hyk878⟩) (by assumption) ?restk878
                  case hik878 => simp only [List.getElem?_toArray, List.getElem?_cons_succ, List.getElem?_cons_zero]; exact rfl
                  case hQk878 => exact fun _ _ _ h => h
                  case hwk878 => rfl
                  case hyk878 => ((intro w hSw; go_simp) <;> with_reducible rfl)
                  try simp only [Act.put, List.setIfInBounds_toArray, List.set_cons_zero, List.set_cons_succ]
                  refine wpAnyH_done (by kernel_rfl) ?_ _
                  go_wp2_with fail
                  go_meet
                  exact ⟨_, _, _, rfl, rfl, rfl, rfl, ⟨_, _, _, _, hput874, two873, hn867, hn868, hz865.low⟩, hr875, hk872⟩
            case stepr834_12 =>
              go_simp
              have hk880 := hk830.upto (Nat.le_refl _) ((Below.refl _ _).alloc (Nat.le_refl _) (.cells #[.slice none 0 0, .slice none 0 0] 48))
              have hg883 := heap_alloc_new v831 (.cells #[.slice none 0 0, .slice none 0 0] 48)
              have hz884 := hk830.lo
              have hx885 := hx833.later ((Below.refl _ _).alloc (Nat.le_refl _) (.cells #[.slice none 0 0, .slice none 0 0] 48))
              clear hx833
              refine hK.out _ _ ?hSq879 (fun hHeld => ?restq879)
              case hSq879 => exact hk880
              clear hK K hk830
              try simp only [Act.put, List.setIfInBounds_toArray, List.set_cons_zero, List.set_cons_succ]
              generalize v831.alloc (.cells #[.slice none 0 0, .slice none 0 0] 48) = v881 at *
              generalize v831.heap.size = G882 at *
              refine wpAnyH_ready (rs := [6]) (by kernel_rfl) (by simp) ?_
              refine AllReadyH.cons (o := ?or886_6) ?hor886_6 (fun K hK => ?stepr886_6) (AllReadyH.nil)
              case hor886_6 => simp only [List.getElem?_toArray, List.getElem?_cons_succ, List.getElem?_cons_zero]; exact rfl
              case stepr886_6 =>
                go_simp
                refine (HCI.out v881 g823 f824 hx885).mono ?_
                rintro e v889 ⟨⟨r891, r892, r893, rfl, two894, hr895⟩, hb890⟩
                obtain ⟨A896, c897, A898, c899, rfl, rfl⟩ := two894.slices
                obtain ⟨A900, c901, rfl, -, -⟩ := own_slice hr895
                have hn902 : (Value.slice A896 N1 c897).ownBlock = some G882 → False := fun e => absurd (two894.one.lt _ e).1 (Nat.not_le_of_lt (heap_lt' hg883))
                have hn903 : (Value.slice A898 N2 c899).ownBlock = some G882 → False := fun e => absurd (two894.two.lt _ e).1 (Nat.not_le_of_lt (heap_lt' hg883))
                have two904 := two894.mono hk880.low
                have hr905 := own_mono hr895 hk880.low
                clear two894 hr895
                clear hx885
                have hk888 := hk880.upto (Nat.le_refl _) hb890
                have hg906 := (hb890.block G882 (heap_lt' hg883)).trans hg883
                clear hg883
                refine hK.out _ _ ?hSq887 (fun hHeld => ?restq887)
                case hSq887 => exact hk888
                clear hK K hb890 hk880
                try simp only [Act.put, List.setIfInBounds_toArray, List.set_cons_zero, List.set_cons_succ]
                refine wpAnyH_take (i := 7) (oi := ?oik907) (v := ?vk907) ?hik907 (by kernel_rfl) (by kernel_rfl) (by kernel_rfl) ?hQk907 (Or.inl ⟨?hwk907, ?hyk907⟩) (by assumption) ?restk907
                case hik907 => simp only [List.getElem?_toArray, List.getElem?_cons_succ, List.getElem?_cons_zero]; exact rfl
                case hQk907 => exact fun _ _ _ h => h
                case hwk907 => rfl
                case hyk907 => ((intro w hSw; go_simp) <;> with_reducible rfl)
                try simp only [Act.put, List.setIfInBounds_toArray, List.set_cons_zero, List.set_cons_succ]
                refine wpAnyH_take (i := 8) (oi := ?oik908) (v := ?vk908) ?hik908 (by kernel_rfl) (by kernel_rfl) (by kernel_rfl) ?hQk908 (Or.inl ⟨?hwk908, ?hyk908⟩) (by assumption) ?restk908
                case hik908 => simp only [List.getElem?_toArray, List.getElem?_cons_succ, List.getElem?_cons_zero]; exact rfl
                case hQk908 => exact fun _ _ _ h => h
                case hwk908 => rfl
                case hyk908 => ((intro w hSw; go_simp) <;> with_reducible rfl)
                try simp only [Act.put, List.setIfInBounds_toArray, List.set_cons_zero, List.set_cons_succ]
                refine wpAnyH_take (i := 9) (oi := ?oik909) (v := ?vk909) ?hik909 (by kernel_rfl) (by kernel_rfl) (by kernel_rfl) ?hQk909 (Or.inl ⟨?hwk909, ?hyk909⟩) (by assumption) ?restk909
                case hik909 => simp only [List.getElem?_toArray, List.getElem?_cons_succ, List.getElem?_cons_zero]; exact rfl
                case hQk909 => exact fun _ _ _ h => h
                case hwk909 => rfl
                case hyk909 => ((intro w hSw; go_simp) <;> with_reducible rfl)
                try simp only [Act.put, List.setIfInBounds_toArray, List.set_cons_zero, List.set_cons_succ]
                refine wpAnyH_take (i := 10) (oi := ?oik910) (v := ?vk910) ?hik910 (by kernel_rfl) (by kernel_rfl) (by kernel_rfl) ?hQk910 (Or.inl ⟨?hwk910, ?hyk910⟩) (by assumption) ?restk910
                case hik910 => simp only [List.getElem?_toArray, List.getElem?_cons_succ, List.getElem?_cons_zero]; exact rfl
                case hQk910 => exact fun _ _ _ h => h
                case hwk910 => rfl
                case hyk910 => ((intro w hSw; go_simp) <;> with_reducible rfl)
                try simp only [Act.put, List.setIfInBounds_toArray, List.set_cons_zero, List.set_cons_succ]
                refine wpAnyH_take (i := 11) (oi := ?oik911) (v := ?vk911) ?hik911 (by kernel_rfl) (by kernel_rfl) (by kernel_rfl) ?hQk911 (Or.inl ⟨?hwk911, ?hyk911⟩) (by assumption) ?restk911
                case hik911 => simp only [List.getElem?_toArray, List.getElem?_cons_succ, List.getElem?_cons_zero]; exact rfl
                case hQk911 => exact fun _ _ _ h => h
                case hwk911 => rfl
                case hyk911 => ((intro w hSw; go_simp) <;> with_reducible rfl)
                try simp only [Act.put, List.setIfInBounds_toArray, List.set_cons_zero, List.set_cons_succ]
                refine wpAnyH_ready (rs := [13]) (by kernel_rfl) (by simp) ?_
                refine AllReadyH.cons (o := ?or912_13) ?hor912_13 (fun K hK => ?stepr912_13) (AllReadyH.nil)
                case hor912_13 => simp only [List.getElem?_toArray, List.getElem?_cons_succ, List.getElem?_cons_zero]; exact rfl
                case stepr912_13 =>
                  obtain ⟨c0, c1⟩ := cell2 hg906
                  obtain ⟨f0, f1⟩ := rfree2 hg906
                  go_simp
                  have hk914 := hk888.upto' hz884 (((Below.refl G882 v889).setCell (p := ⟨G882, 0, none⟩) (Nat.le_refl _) (.slice A896 N1 c897)).setCell (p := ⟨G882, 1, none⟩) (Nat.le_refl _) (.slice A898 N2 c899))
                  have hput916 := rput2 (u0 := (.slice A896 N1 c897)) (u1 := (.slice A898 N2 c899)) hg906
                  have two915 := (two904.put' (set_grown v889 G882 0 (.slice A896 N1 c897)) hn902 hn903).put' (set_grown _ G882 1 (.slice A898 N2 c899)) hn902 hn903
                  have hr917 := own_set_kind (i := 1) (u := (.slice A898 N2 c899)) (own_set_kind (i := 0) (u := (.slice A896 N1 c897)) hr905 hg906 (by decide)) (heap_set0 hg906) (by decide)
                  refine hK.out _ _ ?hSq913 (fun hHeld => ?restq913)
                  case hSq913 => exact hk914
                  clear hK K hk888 two904 hr905 hg906 c0 c1 f0 f1
                  try simp only [Act.put, List.setIfInBounds_toArray, List.set_cons_zero, List.set_cons_succ]
                  refine wpAnyH_take (i := 14) (oi := ?oik918) (v := ?vk918) ?hik918 (by kernel_rfl) (by kernel_rfl) (by kernel_rfl) ?hQk918 (Or.inl ⟨?hwk918, ?hyk918⟩) (by assumption) ?restk918
                  case hik918 => simp only [List.getElem?_toArray, List.getElem?_cons_succ, List.getElem?_cons_zero]; exact rfl
                  case hQk918 => exact fun _ _ _ h => h
                  case hwk918 => rfl
                  case hyk918 => ((intro w hSw; go_simp) <;> with_reducible rfl)
                  try simp only [Act.put, List.setIfInBounds_toArray, List.set_cons_zero, List.set_cons_succ]
                  refine wpAnyH_take (i := 15) (oi := ?oik919) (v := ?vk919) ?hik919 (by kernel_rfl) (by kernel_rfl) (by kernel_rfl) ?hQk919 (Or.inl ⟨?hwk919, ?hyk919⟩) (by assumption) ?restk919
                  case hik919 => simp only [List.getElem?_toArray, List.getElem?_cons_succ, List.getElem?_cons_zero]; exact rfl
                  case hQk919 => exact fun _ _ _ h => h
                  case hwk919 => rfl
                  case hyk919 => ((intro w hSw; go_simp) <;> with_reducible rfl)
                  try simp only [Act.put, List.setIfInBounds_toArray, List.set_cons_zero, List.set_cons_succ]
                  refine wpAnyH_take (i := 16) (oi := ?oik920) (v := ?vk920) ?hik920 (by kernel_rfl) (by kernel_rfl) (by kernel_rfl) ?hQk920 (Or.inl ⟨?hwk920, ?hyk920⟩) (by assumption) ?restk920
                  case hik920 => simp only [List.getElem?_toArray, List.getElem?_cons_succ, List.getElem?_cons_zero]; exact rfl
                  case hQk920 => exact fun _ _ _ h => h
                  case hwk920 => rfl
                  case hyk920 => ((intro w hSw; go_simp) <;> with_reducible rfl)
                  try simp only [Act.put, List.setIfInBounds_toArray, List.set_cons_zero, List.set_cons_succ]
                  refine wpAnyH_done (by kernel_rfl) ?_ _
                  go_wp2_with fail
                  go_meet
                  exact ⟨_, _, _, rfl, rfl, rfl, rfl, ⟨_, _, _, _, hput916, two915, hn902, hn903, hz884.low⟩, hr917, hk914⟩
          case stepr828_12 =>
            go_simp
            have hk922 := hk820.upto (Nat.le_refl _) ((Below.refl _ _).alloc (Nat.le_refl _) (.cells #[.slice none 0 0, .slice none 0 0] 48))
            have hg925 := heap_alloc_new v821 (.cells #[.slice none 0 0, .slice none 0 0] 48)
            have hz926 := hk820.lo
            have hx927 := hx827.later ((Below.refl _ _).alloc (Nat.le_refl _) (.cells #[.slice none 0 0, .slice none 0 0] 48))
            clear hx827
            refine hK.out _ _ ?hSq921 (fun hHeld => ?restq921)
            case hSq921 => exact hk922
            clear hK K hk820
            try simp only [Act.put, List.setIfInBounds_toArray, List.set_cons_zero, List.set_cons_succ]
            generalize v821.alloc (.cells #[.slice none 0 0, .slice none 0 0] 48) = v923 at *
            generalize v821.heap.size = G924 at *
            refine wpAnyH_ready (rs := [4]) (by kernel_rfl) (by simp) ?_
            refine AllReadyH.cons (o := ?or928_4) ?hor928_4 (fun K hK => ?stepr928_4) (AllReadyH.nil)
            case hor928_4 => simp only [List.getElem?_toArray, List.getElem?_cons_succ, List.getElem?_cons_zero]; exact rfl
            case stepr928_4 =>
              go_simp
              refine (toOrder_any oi oa op oq v923).mono ?_
              rintro e v931 ⟨rfl, hb932⟩
              have hx933 := hx927.later hb932
              clear hx927
              have hk930 := hk922.upto (Nat.le_refl _) hb932
              have hg934 := (hb932.block G924 (heap_lt' hg925)).trans hg925
              clear hg925
              refine hK.out _ _ ?hSq929 (fun hHeld => ?restq929)
              case hSq929 => exact hk930
              clear hK K hb932 hk922
              try simp only [Act.put, List.setIfInBounds_toArray, List.set_cons_zero, List.set_cons_succ]
              refine wpAnyH_ready (rs := [6]) (by kernel_rfl) (by simp) ?_
              refine AllReadyH.cons (o := ?or935_6) ?hor935_6 (fun K hK => ?stepr935_6) (AllReadyH.nil)
              case hor935_6 => simp only [List.getElem?_toArray, List.getElem?_cons_succ, List.getElem?_cons_zero]; exact rfl
              case stepr935_6 =>
                go_simp
                refine (HCI.out v931 g823 f824 hx933).mono ?_
                rintro e v938 ⟨⟨r940, r941, r942, rfl, two943, hr944⟩, hb939⟩
                obtain ⟨A945, c946, A947, c948, rfl, rfl⟩ := two943.slices
                obtain ⟨A949, c950, rfl, -, -⟩ := own_slice hr944
                have hn951 : (Value.slice A945 N1 c946).ownBlock = some G924 → False := fun e => absurd (two943.one.lt _ e).1 (Nat.not_le_of_lt (heap_lt' hg934))
                have hn952 : (Value.slice A947 N2 c948).ownBlock = some G924 → False := fun e => absurd (two943.two.lt _ e).1 (Nat.not_le_of_lt (heap_lt' hg934))
                have two953 := two943.mono hk930.low
                have hr954 := own_mono hr944 hk930.low
                clear two943 hr944
                clear hx933
                have hk937 := hk930.upto (Nat.le_refl _) hb939
                have hg955 := (hb939.block G924 (heap_lt' hg934)).trans hg934
                clear hg934
                refine hK.out _ _ ?hSq936 (fun hHeld => ?restq936)
                case hSq936 => exact hk937
                clear hK K hb939 hk930
                try simp only [Act.put, List.setIfInBounds_toArray, List.set_cons_zero, List.set_cons_succ]
                refine wpAnyH_take (i := 7) (oi := ?oik956) (v := ?vk956) ?hik956 (by kernel_rfl) (by kernel_rfl) (by kernel_rfl) ?hQk956 (Or.inl ⟨?hwk956, ?hyk956⟩) (by assumption) ?restk956
                case hik956 => simp only [List.getElem?_toArray, List.getElem?_cons_succ, List.getElem?_cons_zero]; exact rfl
                case hQk956 => exact fun _ _ _ h => h
                case hwk956 => rfl
                case hyk956 => ((intro w hSw; go_simp) <;> with_reducible rfl)
                try simp only [Act.put, List.setIfInBounds_toArray, List.set_cons_zero, List.set_cons_succ]
                refine wpAnyH_take (i := 8) (oi := ?oik957) (v := ?vk957) ?hik957 (by kernel_rfl) (by kernel_rfl) (by kernel_rfl) ?hQk957 (Or.inl ⟨?hwk957, ?hyk957⟩) (by assumption) ?restk957
                case hik957 => simp only [List.getElem?_toArray, List.getElem?_cons_succ, List.getElem?_cons_zero]; exact rfl
                case hQk957 => exact fun _ _ _ h => h
                case hwk957 => rfl
                case hyk957 => ((intro w hSw; go_simp) <;> with_reducible rfl)
                try simp only [Act.put, List.setIfInBounds_toArray, List.set_cons_zero, List.set_cons_succ]
                refine wpAnyH_take (i := 9) (oi := ?oik958) (v := ?vk958) ?hik958 (by kernel_rfl) (by kernel_rfl) (by kernel_rfl) ?hQk958 (Or.inl ⟨?hwk958, ?hyk958⟩) (by assumption) ?restk958
                case hik958 => simp only [List.getElem?_toArray, List.getElem?_cons_succ, List.getElem?_cons_zero]; exact rfl
                case hQk958 => exact fun _ _ _ h => h
                case hwk958 => rfl
                case hyk958 => ((intro w hSw; go_simp) <;> with_reducible rfl)
                try simp only [Act.put, List.setIfInBounds_toArray, List.set_cons_zero, List.set_cons_succ]
                refine wpAnyH_take (i := 10) (oi := ?oik959) (v := ?vk959) ?hik959 (by kernel_rfl) (by kernel_rfl) (by kernel_rfl) ?hQk959 (Or.inl ⟨?hwk959, ?hyk959⟩) (by assumption) ?restk959
                case hik959 => simp only [List.getElem?_toArray, List.getElem?_cons_succ, List.getElem?_cons_zero]; exact rfl
                case hQk959 => exact fun _ _ _ h => h
                case hwk959 => rfl
                case hyk959 => ((intro w hSw; go_simp) <;> with_reducible rfl)
                try simp only [Act.put, List.setIfInBounds_toArray, List.set_cons_zero, List.set_cons_succ]
                refine wpAnyH_take (i := 11) (oi := ?oik960) (v := ?vk960) ?hik960 (by kernel_rfl) (by kernel_rfl) (by kernel_rfl) ?hQk960 (Or.inl ⟨?hwk960, ?hyk960⟩) (by assumption) ?restk960
                case hik960 => simp only [List.getElem?_toArray, List.getElem?_cons_succ, List.getElem?_cons_zero]; exact rfl
                case hQk960 => exact fun _ _ _ h => h
                case hwk960 => rfl
                case hyk960 => ((intro w hSw; go_simp) <;> with_reducible rfl)
                try simp only [Act.put, List.setIfInBounds_toArray, List.set_cons_zero, List.set_cons_succ]
                refine wpAnyH_ready (rs := [13]) (by kernel_rfl) (by simp) ?_
                refine AllReadyH.cons (o := ?or961_13) ?hor961_13 (fun K hK => ?stepr961_13) (AllReadyH.nil)
                case hor961_13 => simp only [List.getElem?_toArray, List.getElem?_cons_succ, List.getElem?_cons_zero]; exact rfl
                case stepr961_13 =>
                  obtain ⟨c0, c1⟩ := cell2 hg955
                  obtain ⟨f0, f1⟩ := rfree2 hg955
                  go_simp
                  have hk963 := hk937.upto' hz926 (((Below.refl G924 v938).setCell (p := ⟨G924, 0, none⟩) (Nat.le_refl _) (.slice A945 N1 c946)).setCell (p := ⟨G924, 1, none⟩) (Nat.le_refl _) (.slice A947 N2 c948))
                  have hput965 := rput2 (u0 := (.slice A945 N1 c946)) (u1 := (.slice A947 N2 c948)) hg955
                  have two964 := (two953.put' (set_grown v938 G924 0 (.slice A945 N1 c946)) hn951 hn952).put' (set_grown _ G924 1 (.slice A947 N2 c948)) hn951 hn952
                  have hr966 := own_set_kind (i := 1) (u := (.slice A947 N2 c948)) (own_set_kind (i := 0) (u := (.slice A945 N1 c946)) hr954 hg955 (by decide)) (heap_set0 hg955) (by decide)
                  refine hK.out _ _ ?hSq962 (fun hHeld => ?restq962)
                  case hSq962 => exact hk963
                  clear hK K hk937 two953 hr954 hg955 c0 c1 f0 f1
                  try simp only [Act.put, List.setIfInBounds_toArray, List.set_cons_zero, List.set_cons_succ]
                  refine wpAnyH_take (i := 14) (oi := ?oik967) (v := ?vk967) ?hik967 (by kernel_rfl) (by kernel_rfl) (by kernel_rfl) ?hQk967 (Or.inl ⟨?hwk967, ?hyk967⟩) (by assumption) ?restk967
                  case hik967 => simp only [List.getElem?_toArray, List.getElem?_cons_succ, List.getElem?_cons_zero]; exact rfl
                  case hQk967 => exact fun _ _ _ h => h
                  case hwk967 => rfl
                  case hyk967 => ((intro w hSw; go_simp) <;> with_reducible rfl)
                  try simp only [Act.put, List.setIfInBounds_toArray, List.set_cons_zero, List.set_cons_succ]
                  refine wpAnyH_take (i := 15) (oi := ?oik968) (v := ?vk968) ?hik968 (by kernel_rfl) (by kernel_rfl) (by kernel_rfl) ?hQk968 (Or.inl ⟨?hwk968, ?hyk968⟩) (by assumption) ?restk968
                  case hik968 => simp only [List.getElem?_toArray, List.getElem?_cons_succ, List.getElem?_cons_zero]; exact rfl
                  case hQk968 => exact fun _ _ _ h => h
                  case hwk968 => rfl
                  case hyk968 => ((intro w hSw; go_simp) <;> with_reducible rfl)
                  try simp only [Act.put, List.setIfInBounds_toArray, List.set_cons_zero, List.set_cons_succ]
                  refine wpAnyH_take (i := 16) (oi := ?oik969) (v := ?vk969) ?hik969 (by kernel_rfl) (by kernel_rfl) (by kernel_rfl) ?hQk969 (Or.inl ⟨?hwk969, ?hyk969⟩) (by assumption) ?restk969
                  case hik969 => simp only [List.getElem?_toArray, List.getElem?_cons_succ, List.getElem?_cons_zero]; exact rfl
                  case hQk969 => exact fun _ _ _ h => h
                  case hwk969 => rfl
                  case hyk969 => ((intro w hSw; go_simp) <;> with_reducible rfl)
                  try simp only [Act.put, List.setIfInBounds_toArray, List.set_cons_zero, List.set_cons_succ]
                  refine wpAnyH_done (by kernel_rfl) ?_ _
                  go_wp2_with fail
                  go_meet
                  exact ⟨_, _, _, rfl, rfl, rfl, rfl, ⟨_, _, _, _, hput965, two964, hn951, hn952, hz926.low⟩, hr966, hk963⟩
        case stepr818_12 =>
          go_simp
          have hk971 := hK0.upto (Nat.le_refl _) ((Below.refl _ _).alloc (Nat.le_refl _) (.cells #[.slice none 0 0, .slice none 0 0] 48))
          have hg974 := heap_alloc_new w1s (.cells #[.slice none 0 0, .slice none 0 0] 48)
          have hz975 := hK0.lo
          refine hK.out _ _ ?hSq970 (fun hHeld => ?restq970)
          case hSq970 => exact hk971
          clear hK K hK0
          try simp only [Act.put, List.setIfInBounds_toArray, List.set_cons_zero, List.set_cons_succ]
          generalize w1s.alloc (.cells #[.slice none 0 0, .slice none 0 0] 48) = v972 at *
          generalize w1s.heap.size = G973 at *
          refine wpAnyH_ready (rs := [1]) (by kernel_rfl) (by simp) ?_
          refine AllReadyH.cons (o := ?or976_1) ?hor976_1 (fun K hK => ?stepr976_1) (AllReadyH.nil)
          case hor976_1 => simp only [List.getElem?_toArray, List.getElem?_cons_succ, List.getElem?_cons_zero]; exact rfl
          case stepr976_1 =>
            go_simp
            refine (toBook_any A n c B m d za zb v972 (hls.later hk971.bel) hnm).mono ?_
            rintro e v979 ⟨g981, f982, rfl, _, _, _, hr983, hs984, hb980⟩
            have hx985 : BookIn v979 v979.heap.size (some ⟨g981, 0, none⟩) n (some ⟨f982, 0, none⟩) m za zb := ⟨Lst.of_row (sz := 4) (zs := za) (n := n) hr983 (Nat.le_refl _) hlA (fun _ _ => rfl), Lst.of_row (sz := 4) (zs := zb) (n := m) hs984 (Nat.le_refl _) hlB (fun _ _ => rfl)⟩
            clear hr983 hs984
            have hk978 := hk971.upto (Nat.le_refl _) hb980
            have hg986 := (hb980.block G973 (heap_lt' hg974)).trans hg974
            clear hg974
            refine hK.out _ _ ?hSq977 (fun hHeld => ?restq977)
            case hSq977 => exact hk978
            clear hK K hb980 hk971
            try simp only [Act.put, List.setIfInBounds_toArray, List.set_cons_zero, List.set_cons_succ]
            refine wpAnyH_ready (rs := [4]) (by kernel_rfl) (by simp) ?_
            refine AllReadyH.cons (o := ?or987_4) ?hor987_4 (fun K hK => ?stepr987_4) (AllReadyH.nil)
            case hor987_4 => simp only [List.getElem?_toArray, List.getElem?_cons_succ, List.getElem?_cons_zero]; exact rfl
            case stepr987_4 =>
              go_simp
              refine (toOrder_any oi oa op oq v979).mono ?_
              rintro e v990 ⟨rfl, hb991⟩
              have hx992 := hx985.later hb991
              clear hx985
              have hk989 := hk978.upto (Nat.le_refl _) hb991
              have hg993 := (hb991.block G973 (heap_lt' hg986)).trans hg986
              clear hg986
              refine hK.out _ _ ?hSq988 (fun hHeld => ?restq988)
              case hSq988 => exact hk989
              clear hK K hb991 hk978
              try simp only [Act.put, List.setIfInBounds_toArray, List.set_cons_zero, List.set_cons_succ]
              refine wpAnyH_ready (rs := [6]) (by kernel_rfl) (by simp) ?_
              refine AllReadyH.cons (o := ?or994_6) ?hor994_6 (fun K hK => ?stepr994_6) (AllReadyH.nil)
              case hor994_6 => simp only [List.getElem?_toArray, List.getElem?_cons_succ, List.getElem?_cons_zero]; exact rfl
              case stepr994_6 =>
                go_simp
                refine (HCI.out v990 g981 f982 hx992).mono ?_
                rintro e v997 ⟨⟨r999, r1000, r1001, rfl, two1002, hr1003⟩, hb998⟩
                obtain ⟨A1004, c1005, A1006, c1007, rfl, rfl⟩ := two1002.slices
                obtain ⟨A1008, c1009, rfl, -, -⟩ := own_slice hr1003
                have hn1010 : (Value.slice A1004 N1 c1005).ownBlock = some G973 → False := fun e => absurd (two1002.one.lt _ e).1 (Nat.not_le_of_lt (heap_lt' hg993))
                have hn1011 : (Value.slice A1006 N2 c1007).ownBlock = some G973 → False := fun e => absurd (two1002.two.lt _ e).1 (Nat.not_le_of_lt (heap_lt' hg993))
                have two1012 := two1002.mono hk989.low
                have hr1013 := own_mono hr1003 hk989.low
                clear two1002 hr1003
                clear hx992
                have hk996 := hk989.upto (Nat.le_refl _) hb998
                have hg1014 := (hb998.block G973 (heap_lt' hg993)).trans hg993
                clear hg993
                refine hK.out _ _ ?hSq995 (fun hHeld => ?restq995)
                case hSq995 => exact hk996
                clear hK K hb998 hk989
                try simp only [Act.put, List.setIfInBounds_toArray, List.set_cons_zero, List.set_cons_succ]
                refine wpAnyH_take (i := 7) (oi := ?oik1015) (v := ?vk1015) ?hik1015 (by kernel_rfl) (by kernel_rfl) (by kernel_rfl) ?hQk1015 (Or.inl ⟨?hwk1015, ?hyk1015⟩) (by assumption) ?restk1015
                case hik1015 => simp only [List.getElem?_toArray, List.getElem?_cons_succ, List.getElem?_cons_zero]; exact rfl
                case hQk1015 => exact fun _ _ _ h => h
                case hwk1015 => rfl
                case hyk1015 => ((intro w hSw; go_simp) <;> with_reducible rfl)
                try simp only [Act.put, List.setIfInBounds_toArray, List.set_cons_zero, List.set_cons_succ]
                refine wpAnyH_take (i := 8) (oi := ?oik1016) (v := ?vk1016) ?hik1016 (by kernel_rfl) (by kernel_rfl) (by kernel_rfl) ?hQk1016 (Or.inl ⟨?hwk1016, ?hyk1016⟩) (by assumption) ?restk1016
                case hik1016 => simp only [List.getElem?_toArray, List.getElem?_cons_succ, List.getElem?_cons_zero]; exact rfl
                case hQk1016 => exact fun _ _ _ h => h
                case hwk1016 => rfl
                case hyk1016 => ((intro w hSw; go_simp) <;> with_reducible rfl)
                try simp only [Act.put, List.setIfInBounds_toArray, List.set_cons_zero, List.set_cons_succ]
                refine wpAnyH_take (i := 9) (oi := ?oik1017) (v := ?vk1017) ?hik1017 (by kernel_rfl) (by kernel_rfl) (by kernel_rfl) ?hQk1017 (Or.inl ⟨?hwk1017, ?hyk1017⟩) (by assumption) ?restk1017
                case hik1017 => simp only [List.getElem?_toArray, List.getElem?_cons_succ, List.getElem?_cons_zero]; exact rfl
                case hQk1017 => exact fun _ _ _ h => h
                case hwk1017 => rfl
                case hyk1017 => ((intro w hSw; go_simp) <;> with_reducible rfl)
                try simp only [Act.put, List.setIfInBounds_toArray, List.set_cons_zero, List.set_cons_succ]
                refine wpAnyH_take (i := 10) (oi := ?oik1018) (v := ?vk1018) ?hik1018 (by kernel_rfl) (by kernel_rfl) (by kernel_rfl) ?hQk1018 (Or.inl ⟨?hwk1018, ?hyk1018⟩) (by assumption) ?restk1018
                case hik1018 => simp only [List.getElem?_toArray, List.getElem?_cons_succ, List.getElem?_cons_zero]; exact rfl
                case hQk1018 => exact fun _ _ _ h => h
                case hwk1018 => rfl
                case hyk1018 => ((intro w hSw; go_simp) <;> with_reducible rfl)
                try simp only [Act.put, List.setIfInBounds_toArray, List.set_cons_zero, List.set_cons_succ]
                refine wpAnyH_take (i := 11) (oi := ?oik1019) (v := ?vk1019) ?hik1019 (by kernel_rfl) (by kernel_rfl) (by kernel_rfl) ?hQk1019 (Or.inl ⟨?hwk1019, ?hyk1019⟩) (by assumption) ?restk1019
                case hik1019 => simp only [List.getElem?_toArray, List.getElem?_cons_succ, List.getElem?_cons_zero]; exact rfl
                case hQk1019 => exact fun _ _ _ h => h
                case hwk1019 => rfl
                case hyk1019 => ((intro w hSw; go_simp) <;> with_reducible rfl)
                try simp only [Act.put, List.setIfInBounds_toArray, List.set_cons_zero, List.set_cons_succ]
                refine wpAnyH_ready (rs := [13]) (by kernel_rfl) (by simp) ?_
                refine AllReadyH.cons (o := ?or1020_13) ?hor1020_13 (fun K hK => ?stepr1020_13) (AllReadyH.nil)
                case hor1020_13 => simp only [List.getElem?_toArray, List.getElem?_cons_succ, List.getElem?_cons_zero]; exact rfl
                case stepr1020_13 =>
                  obtain ⟨c0, c1⟩ := cell2 hg1014
                  obtain ⟨f0, f1⟩ := rfree2 hg1014
                  go_simp
                  have hk1022 := hk996.upto' hz975 (((Below.refl G973 v997).setCell (p := ⟨G973, 0, none⟩) (Nat.le_refl _) (.slice A1004 N1 c1005)).setCell (p := ⟨G973, 1, none⟩) (Nat.le_refl _) (.slice A1006 N2 c1007))
                  have hput1024 := rput2 (u0 := (.slice A1004 N1 c1005)) (u1 := (.slice A1006 N2 c1007)) hg1014
                  have two1023 := (two1012.put' (set_grown v997 G973 0 (.slice A1004 N1 c1005)) hn1010 hn1011).put' (set_grown _ G973 1 (.slice A1006 N2 c1007)) hn1010 hn1011
                  have hr1025 := own_set_kind (i := 1) (u := (.slice A1006 N2 c1007)) (own_set_kind (i := 0) (u := (.slice A1004 N1 c1005)) hr1013 hg1014 (by decide)) (heap_set0 hg1014) (by decide)
                  refine hK.out _ _ ?hSq1021 (fun hHeld => ?restq1021)
                  case hSq1021 => exact hk1022
                  clear hK K hk996 two1012 hr1013 hg1014 c0 c1 f0 f1
                  try simp only [Act.put, List.setIfInBounds_toArray, List.set_cons_zero, List.set_cons_succ]
                  refine wpAnyH_take (i := 14) (oi := ?oik1026) (v := ?vk1026) ?hik1026 (by kernel_rfl) (by kernel_rfl) (by kernel_rfl) ?hQk1026 (Or.inl ⟨?hwk1026, ?hyk1026⟩) (by assumption) ?restk1026
                  case hik1026 => simp only [List.getElem?_toArray, List.getElem?_cons_succ, List.getElem?_cons_zero]; exact rfl
                  case hQk1026 => exact fun _ _ _ h => h
                  case hwk1026 => rfl
                  case hyk1026 => ((intro w hSw; go_simp) <;> with_reducible rfl)
                  try simp only [Act.put, List.setIfInBounds_toArray, List.set_cons_zero, List.set_cons_succ]
                  refine wpAnyH_take (i := 15) (oi := ?oik1027) (v := ?vk1027) ?hik1027 (by kernel_rfl) (by kernel_rfl) (by kernel_rfl) ?hQk1027 (Or.inl ⟨?hwk1027, ?hyk1027⟩) (by assumption) ?restk1027
                  case hik1027 => simp only [List.getElem?_toArray, List.getElem?_cons_succ, List.getElem?_cons_zero]; exact rfl
                  case hQk1027 => exact fun _ _ _ h => h
                  case hwk1027 => rfl
                  case hyk1027 => ((intro w hSw; go_simp) <;> with_reducible rfl)
                  try simp only [Act.put, List.setIfInBounds_toArray, List.set_cons_zero, List.set_cons_succ]
                  refine wpAnyH_take (i := 16) (oi := ?oik1028) (v := ?vk1028) ?hik1028 (by kernel_rfl) (by kernel_rfl) (by kernel_rfl) ?hQk1028 (Or.inl ⟨?hwk1028, ?hyk1028⟩) (by assumption) ?restk1028
                  case hik1028 => simp only [List.getElem?_toArray, List.getElem?_cons_succ, List.getElem?_cons_zero]; exact rfl
                  case hQk1028 => exact fun _ _ _ h => h
                  case hwk1028 => rfl
                  case hyk1028 => ((intro w hSw; go_simp) <;> with_reducible rfl)
                  try simp only [Act.put, List.setIfInBounds_toArray, List.set_cons_zero, List.set_cons_succ]
                  refine wpAnyH_done (by kernel_rfl) ?_ _
                  go_wp2_with fail
                  go_meet
                  exact ⟨_, _, _, rfl, rfl, rfl, rfl, ⟨_, _, _, _, hput1024, two1023, hn1010, hn1011, hz975.low⟩, hr1025, hk1022⟩
      case rest =>
        clear hK0
        obtain ⟨G3, Rh, dh, rfl, rfl, rfl, rfl, ⟨At, ct, Au, cu, Q14, TH14, -, -, -⟩, RH14, hK0⟩ := hcut
        have D14 := ord_later D11 hK0.bel
        have G14 := (hK0.bel.block _ lG11).trans G11
        have M14 := M11.below hK0.bel
        have MR14 := MR11.below hK0.bel
        have W14 := (D14.block _ lWa).trans Wa
        have TW14 := TWa.below D14
        have RW14 := own_below RWa D14
        obtain ⟨q0, q1⟩ := cell2 Q14
        obtain ⟨r0, r1⟩ := cell2 W14
        clear D11 G11 M11 MR11 H11 hl11 p0 p1 hK0 Q14
        have lG14 := heap_lt' G14
        go_wp2_with fail
        refine (eqBook_same _ _ _ _ N1 N2 _ _ _ _ Z1 Z2 _ TH14.bookIn TW14.bookIn hN1 hN2).mono ?_
        rintro e w14 ⟨rfl, hbd⟩
        have RHd := own_below RH14 hbd
        have RWd := own_below RW14 hbd
        go_wp2_with fail
        refine (eqRecS_same _ _ N3 _ _ RR w14 (Lst.of_own RHd) (Lst.of_own RWd) hN3).mono ?_
        rintro e w15 ⟨rfl, hbt⟩
        have hb15 := hbd.trans (hbt.mono hbd.size)
        have D15 := ord_later D14 hb15
        have G15 := (hb15.block _ lG14).trans G14
        have M15 := M14.below hb15
        have MR15 := MR14.below hb15
        clear D14 G14 M14 MR14 TH14 W14 TW14 RH14 RW14 RHd RWd hbd hbt hb15 q0 q1 r0 r1
        obtain ⟨q0, q1⟩ := cell2 G15
        go_wp2_with fail
        refine (heldBook_own _ _ _ _ N1 N2 w15 M15 hN1 hN2).mono ?_
        rintro e w16 ⟨rfl, hb16⟩
        have hfin := ord_later hBa (ord_later D15 hb16)
        have hmr := heldRecS_anyFrom (N2 * 4 + (N1 * 4 + 1)) _ N3 w16 (MR15.below hb16) hN3 (by omega)
        rw [HCT.out] at hmr
        have HMR := Lib.hid hmr
        clear hmr
        go_wp2_with fail
        refine ((HMR.out).mono (fun e w' h => (⟨h.1, h.2.symm⟩ : _ ∧ _))).mono ?_
        rintro e _ ⟨rfl, rfl⟩
        go_wp2_with fail
        go_ret
        exact ⟨by first | rfl | simp, hfin⟩
end Go.Proofs.Ythmoddohkchhfaa
