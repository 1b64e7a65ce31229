/-
  Drawn orders of an auction; the drawn law of what would trade at a price.
-/
import Derived.Test.YtfodkefaflpicabGD
import Derived.Test.YtfodkefaflpicabVolAt
import Derived.Test.YtfodkefaflpicabLawInts
namespace Go.Proofs.Ytfodkefaflpicab
open Go.RowKit Wire

theorem ordd_info : (Try.prog.info? 33).map (fun i => (i.zero, i.size, i.bytes)) = some (some (.agg #[.int .i64 0, .int .i64 0, .int .i64 0, .int .i64 0]), 4, 32) := by kernel_rfl
set_option linter.unusedSimpArgs false in
set_option maxHeartbeats 1600000 in
set_option maxRecDepth 100000 in
theorem orders_any (f0 : Int) (most : Nat) (g : Nat) (A : Option Addr) (len cap p : Nat) (w : World) (hr : RdAt w g A len cap p) (hs : Src w g A len) (hl : len ≤ 9223372036854775807) (hmost : most ≤ 1000) (hf : 0 ≤ f0 ∧ f0 ≤ 1000) :
    Calls Try.prog 30 #[.pointer (some ⟨g, 0, none⟩), .int .i64 f0, .int .i64 (most : Int)] w (DrawnRows w g A len cap 33 4 most) := by
  obtain ⟨i0, hi, hz0, hz1, hz2⟩ := info_parts ordd_info
  go_enter Try.func30, Try.ntmps30
  go_wp2_with fail
  refine (below_any ((most : Int) + 1) g A len cap p _ (hr.alloc _) (hs.keep (only_alloc (World.grownBy.refl _ _) _) (Nat.le_of_lt hr.lt)) hl (by omega) (by omega)).mono ?_
  rintro e w1 ⟨m, p1, m0, m1, rfl, hr1, hg1⟩
  have hlt := hr.lt
  have hB : w1.heap[w.heap.size]? = some (.cells #[] 33 (0, 0)) := (hg1.block w.heap.size (by simp) (fun e => by injection e with e; omega)).trans (heap_alloc_new w _)
  have hown1 : w1.ownsRow w.heap.size 33 4 (.slice (some ⟨w.heap.size, 0, none⟩) 0 0) 0 (nums []) := ⟨rfl, .inr ⟨w.heap.size, 0, #[], rfl, Nat.le_refl _, hB, Nat.le_refl _, Nat.zero_le _, rfl, rfl⟩⟩
  have hgw1 : w.grownBy w1 (some g) := only_trans (only_alloc (World.grownBy.refl _ _) _) hg1
  obtain ⟨M, rfl⟩ := Int.eq_ofNat_of_zero_le m0
  have hM : M ≤ most := by omega
  clear hB hg1 m0 m1
  go_wp2_with fail
  go_loopw [7, 8] (fun v i wr => ∃ (zs : List Int) (n k q : Nat), n + k ≤ most ∧ i = .int .i64 (k : Int) ∧ (∃ g' cap', v = .slice (some ⟨g', 0, none⟩) n cap') ∧ wr.ownsRow w.heap.size 33 4 v n (nums zs) ∧ RdAt wr g A len cap q ∧ w.grownBy wr (some g)) (fun _ i _ => (intOf i).toNat)
  case atStart => exact ⟨[], 0, M, p1, by omega, rfl, ⟨_, _, rfl⟩, hown1, hr1, hgw1⟩
  case round =>
    clear hown1 hr1 hgw1
    obtain ⟨zs, n, k, q, hk, rfl, ⟨g', cap', rfl⟩, hown, hq, hgr⟩ := hrel
    rcases k with _ | k
    · go_wp2_with fail
      go_ret
      exact ⟨_, n, zs, q, by omega, rfl, hown, hq, hgr⟩
    · go_wp2_with fail
      refine (order_any g A len cap q _ hq (hs.keep hgr (Nat.le_of_lt hlt)) hl).mono ?_
      rintro e w2 ⟨a, b, c, d, p2, rfl, hr2, hg2⟩
      have hgr2 := only_trans hgr hg2
      have hown2 := hown.kept hg2 (.inr (fun e => by have := (hown.lt g' rfl).1; simp [Value.ownBlock] at e; omega))
      clear hown hq hgr hg2
      have kO := heap_alloc_new w2 (.cells #[.int .i64 a, .int .i64 b, .int .i64 c, .int .i64 d] 33)
      obtain ⟨c0, c1, c2, c3, z0, z1, z2, z3⟩ := ord_cell kO
      go_upto_region 7 with fail
      clear c0 c1 c2 c3 z0 z1 z2 z3 kO
      have kN := heap_alloc_new w2 (.cells #[.int .i64 (f0 + (n : Int)), .int .i64 b, .int .i64 c, .int .i64 d] 33)
      have hown3 := hown2.alloc (.cells #[.int .i64 (f0 + (n : Int)), .int .i64 b, .int .i64 c, .int .i64 d] 33)
      have hr3 := hr2.alloc (.cells #[.int .i64 (f0 + (n : Int)), .int .i64 b, .int .i64 c, .int .i64 d] 33)
      have hgr3 := only_alloc hgr2 (.cells #[.int .i64 (f0 + (n : Int)), .int .i64 b, .int .i64 c, .int .i64 d] 33)
      have hsz3 := hgr3.size
      clear hown2 hr2 hgr2
      generalize w2.alloc (.cells #[.int .i64 (f0 + (n : Int)), .int .i64 b, .int .i64 c, .int .i64 d] 33) = w3 at *
      generalize w2.heap.size = GO at *
      obtain ⟨c0, c1, c2, c3, _, _, _, _⟩ := ord_cell kN
      clear kN
      go_wp2_with (at_builtin; refine wpList_append_own _ rfl _ _ 24 rfl w.heap.size 33 i0 _ 4 32 Try.underlying24 hi hz0 hz1 hz2 rfl (by decide) _ _ _ rfl (hown3.alloc _) ⟨w3.heap.size, 0, none⟩ 1 1 (nums [f0 + (n : Int), b, c, d]) rfl rfl ?c1 ?c2 ?c3 ?c4 ?c5 ?_)
      case c1 => exact World.news_of_block (heap_alloc_new w3 _)
      case c2 => exact nums_one _
      case c3 => unfold maxLen; omega
      case c4 => omega
      case c5 => simp; omega
      intro v' w4 hown4 hgrow4 _
      rw [← nums_append] at hown4
      have hv : ∃ g2 cap2, v' = .slice (some ⟨g2, 0, none⟩) (n + 1) cap2 := by
        rcases hown4.2 with ⟨_, h⟩ | ⟨a, b, c, h, _⟩
        · simp at h
        · exact ⟨_, _, h⟩
      have hbase := (hown3.lt g' rfl).1
      have hr4 : RdAt w4 g A len cap p2 := (hr3.alloc _).own hgrow4 (fun k hk => by simp [Value.ownBlock] at hk; omega)
      have hgr4 := only_own (only_alloc hgr3 _) hgrow4 (fun k hk => by simp [Value.ownBlock] at hk; omega)
      clear hgrow4 hown3 hr3 hgr3 c0 c1 c2 c3
      go_wp2_with fail
      go_roundw
      case rel => exact ⟨zs ++ [f0 + (n : Int), b, c, d], n + 1, k, p2, by omega, by go_num, hv, hown4, hr4, hgr4⟩
      case measure => simp [intOf]
theorem own_lower {w : World} {base base' sz n : Nat} {e : TypeId} {v : Value} {xs : List Value} (h : w.ownsRow base e sz v n xs) (hb : base' ≤ base) : w.ownsRow base' e sz v n xs :=
  ⟨h.1, h.2.imp id (fun ⟨g, cap, cur, a, b, c⟩ => ⟨g, cap, cur, a, Nat.le_trans hb b, c⟩)⟩
theorem own_aside {w w' : World} {base sz n g : Nat} {e : TypeId} {v : Value} {xs : List Value} (h : w.ownsRow base e sz v n xs) (hg : w.grownBy w' (some g)) (hlt : g < base) : w'.ownsRow base e sz v n xs := by
  refine h.kept hg ?_
  rcases h.2 with ⟨h1, _⟩ | ⟨q, _, _, h1, hq, _⟩
  · exact .inl (by rw [h1]; rfl)
  · refine .inr (fun e => ?_)
    rw [h1] at e
    simp [Value.ownBlock] at e
    omega
/-- two drawn sides of an auction, and where they lie -/
def TwoSides (w : World) (A : Option Addr) (n c : Nat) (za : List Int) (B : Option Addr) (m d : Nat) (zb : List Int) (w' : World) : Prop :=
  n ≤ 6 ∧ m ≤ 6 ∧ n ≤ c ∧ c ≤ maxLen ∧ m ≤ d ∧ d ≤ maxLen ∧ w'.ownsRow w.heap.size 33 4 (.slice A n c) n (nums za) ∧ w'.ownsRow w.heap.size 33 4 (.slice B m d) m (nums zb) ∧ Below w.heap.size w w'
set_option maxHeartbeats 800000 in
set_option maxRecDepth 100000 in
theorem DrawAuctionPrice_any (A : Option Addr) (len cap : Nat) (w : World) (hs : Src w w.heap.size A len) (hl : len ≤ 9223372036854775807) :
    Calls Try.prog 9 #[.slice A len cap] w fun e w' => ∃ A1 n c za B1 m d zb, e = .returned (.tuple #[.slice A1 n c, .slice B1 m d]) ∧ TwoSides w A1 n c za B1 m d zb w' := by
  go_enter Try.func9, Try.ntmps9
  go_wp2_with fail
  refine (open_any A len cap _).mono ?_
  rintro e w1 ⟨rfl, rfl⟩
  have hr0 : RdAt (w.alloc (.cells #[.slice A len cap, .int .i64 0] 102)) w.heap.size A len cap 0 := ⟨Nat.zero_le _, heap_alloc_new w _⟩
  have hs0 : Src (w.alloc (.cells #[.slice A len cap, .int .i64 0] 102)) w.heap.size A len := hs.keep (only_alloc (World.grownBy.refl _ _) _) (Nat.le_refl _)
  have hb0 : Below w.heap.size w (w.alloc (.cells #[.slice A len cap, .int .i64 0] 102)) := (Below.refl _ _).alloc (Nat.le_refl _) _
  have hlt0 : w.heap.size < (w.alloc (.cells #[.slice A len cap, .int .i64 0] 102)).heap.size := by simp
  generalize w.alloc (.cells #[.slice A len cap, .int .i64 0] 102) = w0 at *
  go_wp2_with fail
  refine (orders_any 1 6 w.heap.size A len cap 0 _ hr0 hs0 hl (by omega) (by omega)).mono ?_
  rintro e w1 ⟨v, n, za, p, hn, rfl, ho, hr1, hg1⟩
  obtain ⟨A1, c1, rfl, hc1, hc2⟩ := own_slice ho
  go_wp2_with fail
  refine (orders_any 20 6 w.heap.size A len cap p _ hr1 (hs0.keep hg1 (Nat.le_of_lt hlt0)) hl (by omega) (by omega)).mono ?_
  rintro e w2 ⟨v2, m, zb, p2, hm, rfl, ho2, hr2, hg2⟩
  have hoA := own_aside ho hg2 hlt0
  obtain ⟨B1, d1, rfl, hd1, hd2⟩ := own_slice ho2
  have hBz : Below w.heap.size w w2 := (hb0.grown hg1 hb0.size (fun k h => by cases h; exact Nat.le_refl _)).grown hg2 (Nat.le_trans hb0.size hg1.size) (fun k h => by cases h; exact Nat.le_refl _)
  have hL := own_lower hoA hb0.size
  have hR := own_lower ho2 (Nat.le_trans hb0.size hg1.size)
  clear ho ho2 hoA hr1 hr2 hg1 hg2
  go_wp2_with fail
  refine bodyPost_ret (v := .tuple #[.slice A1 n c1, .slice B1 m d1]) (by simp [results, Try.results9, go_sem]) rfl ⟨A1, n, c1, za, B1, m, d1, zb, rfl, hn, hm, hc1, hc2, hd1, hd2, hL, hR, hBz⟩
set_option maxHeartbeats 800000 in
set_option maxRecDepth 100000 in
theorem DrawVolumeAt_any (A : Option Addr) (len cap : Nat) (w : World) (hs : Src w w.heap.size A len) (hl : len ≤ 9223372036854775807) :
    Calls Try.prog 12 #[.slice A len cap] w fun e w' => ∃ A1 n c za B1 m d zb x, e = .returned (.tuple #[.slice A1 n c, .slice B1 m d, .int .i64 x]) ∧ TwoSides w A1 n c za B1 m d zb w' := by
  go_enter Try.func12, Try.ntmps12
  go_wp2_with fail
  refine (open_any A len cap _).mono ?_
  rintro e w1 ⟨rfl, rfl⟩
  have hr0 : RdAt (w.alloc (.cells #[.slice A len cap, .int .i64 0] 102)) w.heap.size A len cap 0 := ⟨Nat.zero_le _, heap_alloc_new w _⟩
  have hb0 : Below w.heap.size w (w.alloc (.cells #[.slice A len cap, .int .i64 0] 102)) := (Below.refl _ _).alloc (Nat.le_refl _) _
  have hlt0 : w.heap.size < (w.alloc (.cells #[.slice A len cap, .int .i64 0] 102)).heap.size := by simp
  generalize w.alloc (.cells #[.slice A len cap, .int .i64 0] 102) = w0 at *
  have hsrc : ∀ w', Below w.heap.size w w' → ∀ g, w.heap.size ≤ g → Src w' g A len := fun w' hb g hg i hi => by
    obtain ⟨b, o, n, h1, h2, h3, h4, h5⟩ := hs i hi
    exact ⟨b, o, n, h1, Nat.lt_of_lt_of_le h2 hg, h3, h4, (hb.cell (p := ⟨b, o + i, none⟩) h2).trans h5⟩
  go_wp2_with fail
  refine (DrawAuctionPrice_any A len cap _ (hsrc w0 hb0 _ hb0.size) hl).mono ?_
  rintro e w1 ⟨A1, n, c, za, B1, m, d, zb, rfl, hn, hm, hc1, hc2, hd1, hd2, hL, hR, hb1⟩
  have hr1 := hr0.below hb1
  have hB1 := below_later hb0 hb1
  go_wp2_with fail
  refine (off_any 97 103 w.heap.size A len cap 0 _ hr1 (hsrc w1 hB1 _ (Nat.le_refl _)) hl (by omega) (by omega) (by omega)).mono ?_
  rintro e w2 ⟨x, p2, _, rfl, hr2, hg2⟩
  have hL2 := own_lower (own_aside hL hg2 hlt0) hb0.size
  have hR2 := own_lower (own_aside hR hg2 hlt0) hb0.size
  have hBz : Below w.heap.size w w2 := hB1.grown hg2 hB1.size (fun k h => by cases h; exact Nat.le_refl _)
  clear hL hR hr1 hr2 hg2 hB1 hb1
  go_wp2_with fail
  refine bodyPost_ret (v := .tuple #[.slice A1 n c, .slice B1 m d, .int .i64 x]) (by simp [results, Try.results12, go_sem]) rfl ⟨A1, n, c, za, B1, m, d, zb, x, rfl, hn, hm, hc1, hc2, hd1, hd2, hL2, hR2, hBz⟩
theorem num_take4 {zs : List Int} {k j : Nat} (h : j < k) : num (zs.take k) j = num zs j := by
  unfold num; rw [List.getD_eq_getElem?_getD, List.getD_eq_getElem?_getD, List.getElem?_take_of_lt h]
theorem lst_front4 {w : World} {B n k : Nat} {A : Option Addr} {zs : List Int} (h : Lst w B 4 A n zs) (hk : k ≤ n) : Lst w B 4 A k (zs.take (k * 4)) := by
  refine ⟨by rw [List.length_take, h.1]; exact Nat.min_eq_left (Nat.mul_le_mul_right _ hk), fun h0 => ?_⟩
  obtain ⟨b, o, e, hb, hc⟩ := h.2 (by omega)
  refine ⟨b, o, e, hb, fun j hj => ?_⟩
  rw [num_take4 hj]
  exact hc j (Nat.lt_of_lt_of_le hj (Nat.mul_le_mul_right _ hk))
theorem sumW_take {zs : List Int} {side p : Int} {k : Nat} : ∀ i, i ≤ k → sumW side (zs.take (k * 4)) p i = sumW side zs p i
  | 0, _ => rfl
  | i + 1, hi => by
    have e2 : num (zs.take (k * 4)) (i * 4 + 2) = num zs (i * 4 + 2) := num_take4 (by omega)
    have e3 : num (zs.take (k * 4)) (i * 4 + 3) = num zs (i * 4 + 3) := num_take4 (by omega)
    rw [sumW, sumW, sumW_take i (by omega), e2, e3]
theorem allO_take {zs : List Int} {k : Nat} : ∀ i, i ≤ k → allO (zs.take (k * 4)) i = allO zs i
  | 0, _ => rfl
  | i + 1, hi => by
    rw [allO, allO, allO_take i (by omega)]
    congr 1
    unfold ordB
    have e0 : num (zs.take (k * 4)) (i * 4) = num zs (i * 4) := num_take4 (by omega)
    have e1 : num (zs.take (k * 4)) (i * 4 + 1) = num zs (i * 4 + 1) := num_take4 (by omega)
    have e2 : num (zs.take (k * 4)) (i * 4 + 2) = num zs (i * 4 + 2) := num_take4 (by omega)
    have e3 : num (zs.take (k * 4)) (i * 4 + 3) = num zs (i * 4 + 3) := num_take4 (by omega)
    rw [e0, e1, e2, e3]
theorem allO_front {zs : List Int} : ∀ n k, k ≤ n → allO zs n = true → allO zs k = true
  | 0, k, hk, h => by rw [show k = 0 by omega]; exact h
  | n + 1, k, hk, h => by
    rcases Nat.lt_or_ge n k with h1 | h1
    · rw [show k = n + 1 by omega]; exact h
    · simp only [allO, Bool.and_eq_true] at h
      exact allO_front n k h1 h.1
theorem vol_less {za zb : List Int} {n m : Nat} {p : Int} (h : 0 ≤ volP za zb (n + 1) m p) :
    volP (za.take (n * 4)) zb n m p ≤ volP za zb (n + 1) m p ∧ volP za zb (n + 1) m p ≤ volP (za.take (n * 4)) zb n m p + num za (n * 4 + 3) ∧ 0 ≤ volP (za.take (n * 4)) zb n m p ∧ volP (za.take (n * 4)) zb n m p ≤ 1000000000 ∧ 1 ≤ num za (n * 4 + 3) ∧ num za (n * 4 + 3) ≤ 1000000 := by
  by_cases hc : (aucB za (n + 1) && (aucB zb m && inB 1 p 1000000)) = true
  · rw [volP_yes hc]
    simp only [Bool.and_eq_true] at hc
    obtain ⟨h1, h2⟩ := aucB_at hc.1
    obtain ⟨_, h3⟩ := aucB_at hc.2.1
    have hf := allO_front (n + 1) n (by omega) h2
    have ha : aucB (za.take (n * 4)) n = true := by simp [aucB, allO_take n (Nat.le_refl _), hf]; omega
    have hq := ordB_qty (allO_at (n + 1) n h2 (by omega))
    have hs := sumW_le (side := 1) (p := p) h2 n (by omega)
    have ht := sumW_le (side := 2) (p := p) h3 m (Nat.le_refl _)
    rw [volP_yes (by rw [ha, hc.2.1, hc.2.2]; rfl), sumW_take n (Nat.le_refl _), sumW]
    refine ⟨?_, ?_, ?_, ?_, hq.1, hq.2⟩
    · split <;> omega
    · split <;> omega
    · omega
    · omega
  · rw [volP_no (by simpa using hc)] at h
    omega
end Go.Proofs.Ytfodkefaflpicab
