/-
  CancelAll of the program.
-/
import Derived.Test.YtdjmejjponlfoabGC
import Derived.Test.YtdjmejjponlfoabGA
import Derived.Test.YtdjmejjponlfoabCat
import Derived.Test.YtdjmejjponlfoabMtI
import Derived.Test.YtdjmejjponlfoabRestS
import Derived.Test.YtdjmejjponlfoabBookZ
namespace Go.Proofs.Ytdjmejjponlfoab
open Go.RowKit Wire

theorem ccell2 {w : World} {S : Nat} {a b : Value} {T : TypeId} (h : w.heap[S]? = some (.cells #[a, b] T (0, 0))) : w.cell? ⟨S, 0, none⟩ = some a ∧ w.cell? ⟨S, 1, none⟩ = some b := by
  refine ⟨?_, ?_⟩ <;> simp [World.cell?, h]
theorem ccell1 {w : World} {S : Nat} {a : Value} {T : TypeId} (h : w.heap[S]? = some (.cells #[a] T (0, 0))) : w.cell? ⟨S, 0, none⟩ = some a := by
  simp [World.cell?, h]
theorem ccell4 {w : World} {S : Nat} {a b c d : Value} {T : TypeId} (h : w.heap[S]? = some (.cells #[a, b, c, d] T (0, 0))) : w.cell? ⟨S, 0, none⟩ = some a ∧ w.cell? ⟨S, 1, none⟩ = some b ∧ w.cell? ⟨S, 2, none⟩ = some c ∧ w.cell? ⟨S, 3, none⟩ = some d := by
  refine ⟨?_, ?_, ?_, ?_⟩ <;> simp [World.cell?, h]
theorem cown_blocks {w w' : World} {base sz n : Nat} {e : TypeId} {v : Value} {xs : List Value} (h : w.ownsRow base e sz v n xs) (hb : ∀ q, v.ownBlock = some q → w'.heap[q]? = w.heap[q]?) : w'.ownsRow base e sz v n xs :=
  ⟨h.1, h.2.imp id (fun ⟨g, cap, cur, e1, b1, c1, rest⟩ => ⟨g, cap, cur, e1, b1, (hb g (by rw [e1]; rfl)).trans c1, rest⟩)⟩
/-- what cancelling all of an account answers -/
def CAns (w' : World) (base : Nat) (ok : Bool) (acct : Int) (za zb : List Int) (n m : Nat) (e : Ending) : Prop := ∃ v1 v2 v3, e = .returned (.tuple #[.agg #[v1, v2], v3]) ∧
  TwoRows w' base v1 (onN ok (tkNA za acct n)) (onZ ok (tkZA za acct n)) v2 (onN ok (tkNA zb acct m)) (onZ ok (tkZA zb acct m)) ∧ w'.ownsRow base 41 8 v3 (onN ok (gnN (za ++ zb) acct (n + m))) (nums (onZ ok (gnR (za ++ zb) acct (n + m))))
set_option linter.unusedSimpArgs false in
set_option maxHeartbeats 3200000 in
set_option maxRecDepth 100000 in
theorem impl_CancelAll (A : Option Addr) (n c : Nat) (B : Option Addr) (m d : Nat) (za zb : List Int) (acct : Int) (w : World) (ha : Lst w w.heap.size 4 A n za) (hb : Lst w w.heap.size 4 B m zb) (hn : n ≤ 1048576) (hm : m ≤ 1048576) (hA : A = none → n = 0 ∧ c = 0) (hB : B = none → m = 0 ∧ d = 0) :
    Calls Try.prog 20 #[.agg #[.slice A n c, .slice B m d], .int .i64 acct] w fun e w' => CAns w' w.heap.size (bookB za n zb m) acct za zb n m e ∧ Below w.heap.size w w' := by
  obtain ⟨i0, hi, hz0, hz1, hz2⟩ := info_parts rec_info
  obtain ⟨k0, k1, k2⟩ := three_blocks w (.cells #[.slice A n c, .slice B m d] 26) (.cells #[.int .i64 acct] 2) (.cells #[.slice none 0 0, .slice none 0 0] 26)
  have hb0 : Below w.heap.size w (((w.alloc (.cells #[.slice A n c, .slice B m d] 26)).alloc (.cells #[.int .i64 acct] 2)).alloc (.cells #[.slice none 0 0, .slice none 0 0] 26)) := (((Below.refl _ _).alloc (Nat.le_refl _) _).alloc (by simp) _).alloc (by simp; omega) _
  have hs0 : (((w.alloc (.cells #[.slice A n c, .slice B m d] 26)).alloc (.cells #[.int .i64 acct] 2)).alloc (.cells #[.slice none 0 0, .slice none 0 0] 26)).heap.size = w.heap.size + 3 := by simp
  have x0 := cell_of_row _ w.heap.size 0 _ _ (0, 0) k0
  have x1 := cell_of_row _ w.heap.size 1 _ _ (0, 0) k0
  have j0 := cell_of_row _ (w.heap.size + 1) 0 _ _ (0, 0) k1
  simp at x0 x1 j0
  go_enter Try.func20, Try.ntmps20
  go_wp2_with fail
  generalize (((w.alloc (.cells #[.slice A n c, .slice B m d] 26)).alloc (.cells #[.int .i64 acct] 2)).alloc (.cells #[.slice none 0 0, .slice none 0 0] 26)) = w0 at *
  refine (impl_BookOk A n c B m d za zb w0 (ha.later hb0) (hb.later hb0) hn hm).mono ?_
  rintro e w1 ⟨rfl, hb1⟩
  have k0 := (hb1.block w.heap.size (by omega)).trans k0
  have k1 := (hb1.block (w.heap.size + 1) (by omega)).trans k1
  have k2 := (hb1.block (w.heap.size + 1 + 1) (by omega)).trans k2
  have hs1 : w.heap.size + 3 ≤ w1.heap.size := by have := hb1.size; omega
  have hb1 := hb0.trans (hb1.mono hb0.size)
  clear hb0 hs0 x0 x1 j0
  have x0 := cell_of_row w1 w.heap.size 0 _ _ (0, 0) k0
  have x1 := cell_of_row w1 w.heap.size 1 _ _ (0, 0) k0
  have s0 := cell_of_row w1 (w.heap.size + 1 + 1) 0 _ _ (0, 0) k2
  have s1 := cell_of_row w1 (w.heap.size + 1 + 1) 1 _ _ (0, 0) k2
  have z0 := frozen_of_row w1 (w.heap.size + 1 + 1) 0 _ _ k2
  have z1 := frozen_of_row w1 (w.heap.size + 1 + 1) 1 _ _ k2
  simp at x0 x1 s0 s1
  obtain ⟨ok, hok⟩ : ∃ x, bookB za n zb m = x := ⟨_, rfl⟩
  have HOK := Lib.hid hok
  rw [hok]
  cases ok
  · clear hok
    have hx := heap_set1 (u := .slice none 0 0) (heap_set0 (u := .slice none 0 0) k2)
    have E0 := Lib.hid (cell_of_row _ (w.heap.size + 1 + 1) 0 _ _ (0, 0) hx)
    have E1 := Lib.hid (cell_of_row _ (w.heap.size + 1 + 1) 1 _ _ (0, 0) hx)
    clear hx
    go_wp2_with fail
    have e0 := E0.out
    have e1 := E1.out
    simp at e0 e1
    refine bodyPost_ret (v := .tuple #[.agg #[.slice none 0 0, .slice none 0 0], .slice none 0 0]) (by simp [results, Try.results20, go_sem, e0, e1]) rfl ⟨?_, ?_⟩
    · rw [HOK.out]
      exact ⟨_, _, _, rfl, TwoRows.nil _ _, World.ownsRow_nil _ _ _ _⟩
    exact ((hb1.setCell (p := ⟨w.heap.size + 1 + 1, 0, none⟩) (show w.heap.size ≤ w.heap.size + 1 + 1 by omega) _).setCell (p := ⟨w.heap.size + 1 + 1, 1, none⟩) (show w.heap.size ≤ w.heap.size + 1 + 1 by omega) _)
  · clear s0 s1 z0 z1
    have hsm := book_small hok
    clear hok
    have y := heap_alloc_new w1 (.cells #[.slice A n c, .slice B m d] 24)
    have hbY : Below w1.heap.size w1 (w1.alloc (.cells #[.slice A n c, .slice B m d] 24)) := (Below.refl _ _).alloc (Nat.le_refl _) _
    obtain ⟨y0, y1⟩ := ccell2 y
    have k0 := (hbY.block w.heap.size (by omega)).trans k0
    have k1 := (hbY.block (w.heap.size + 1) (by omega)).trans k1
    have k2 := (hbY.block (w.heap.size + 1 + 1) (by omega)).trans k2
    have hlY : w1.heap.size < (w1.alloc (.cells #[.slice A n c, .slice B m d] 24)).heap.size := by simp
    have hb2 := hb1.trans (hbY.mono hb1.size)
    go_wp2_with fail
    clear x0 x1 hbY y
    generalize (w1.alloc (.cells #[.slice A n c, .slice B m d] 24)) = w2 at *
    refine (cat_Concat w1.heap.size A n c B m d za zb w2 y0 y1 hlY (ha.later hb2) (hb.later hb2) hn hm hA hB).mono ?_
    rintro e w3 ⟨v, rfl, hown, hb3⟩
    obtain ⟨A3, c3, rfl, _, _⟩ := own_slice hown
    have k0 := (hb3.block w.heap.size (by omega)).trans k0
    have k1 := (hb3.block (w.heap.size + 1) (by omega)).trans k1
    have k2 := (hb3.block (w.heap.size + 1 + 1) (by omega)).trans k2
    have hs3 : w.heap.size + 3 ≤ w3.heap.size := by have := hb3.size; omega
    have hb4 := hb2.trans (hb3.mono hb2.size)
    have hL3 := Lst.of_own hown
    clear y0 y1 hlY hb1 hb2 hb3 hown hs1
    go_wp2_with fail
    have h4 : (za ++ zb).length = (n + m) * 4 := by have := hL3.1; omega
    go_loopw [6, 21] (fun rv i wr => ∃ (k : Nat) (v : Value), k ≤ n + m ∧ i = .int .i64 (k : Int) ∧ rv = v ∧ Below w3.heap.size w3 wr ∧ wr.ownsRow w3.heap.size 41 8 v (gnN (za ++ zb) acct k) (nums (gnR (za ++ zb) acct k))) (fun _ i _ => n + m - (intOf i).toNat)
    case atStart => exact ⟨0, .slice none 0 0, Nat.zero_le _, rfl, rfl, Below.refl _ _, World.ownsRow_nil _ _ _ _⟩
    case round =>
      obtain ⟨k, v, hk, rfl, rfl, hbr, hown⟩ := hrel
      by_cases hlt : k < n + m
      · obtain ⟨b, o, hax, hbo, c0, c1, c2, c3⟩ := (hL3.later hbr).row4 hlt
        subst hax
        have HG := Lib.hid (show gnR (za ++ zb) acct (k + 1) = if num (za ++ zb) (k * 4 + 1) = acct then gnR (za ++ zb) acct k ++ canR (num (za ++ zb) (k * 4)) (num (za ++ zb) (k * 4 + 1)) (num (za ++ zb) (k * 4 + 2)) (num (za ++ zb) (k * 4 + 3)) else gnR (za ++ zb) acct k from rfl)
        have HN := Lib.hid (show gnN (za ++ zb) acct (k + 1) = if num (za ++ zb) (k * 4 + 1) = acct then gnN (za ++ zb) acct k + 1 else gnN (za ++ zb) acct k from rfl)
        have hgk := gnN_le (za ++ zb) acct k
        generalize num (za ++ zb) (k * 4) = xi at *
        generalize num (za ++ zb) (k * 4 + 1) = xa at *
        generalize num (za ++ zb) (k * 4 + 2) = xp at *
        generalize num (za ++ zb) (k * 4 + 3) = xq at *
        have hlr := hbr.size
        have j0 := ccell1 ((hbr.block (w.heap.size + 1) (by omega)).trans k1)
        go_upto_region 7 with fail
        have hal : Below wr.heap.size wr (wr.alloc (.cells #[.int .i64 xi, .int .i64 xa, .int .i64 xp, .int .i64 xq] 28)) := (Below.refl _ _).alloc (Nat.le_refl _) _
        have y := heap_alloc_new wr (.cells #[.int .i64 xi, .int .i64 xa, .int .i64 xp, .int .i64 xq] 28)
        replace hown := own_below hown hal
        replace hbr := hbr.trans (hal.mono hlr)
        replace j0 := (hal.cell (p := ⟨w.heap.size + 1, 0, none⟩) (show w.heap.size + 1 < wr.heap.size by omega)).trans j0
        clear hal c0 c1 c2 c3 hlr
        generalize (wr.alloc (.cells #[.int .i64 xi, .int .i64 xa, .int .i64 xp, .int .i64 xq] 28)) = wa at *
        generalize wr.heap.size = gq at *
        obtain ⟨e0, e1, e2, e3⟩ := ccell4 y
        by_cases he : xa = acct
        · have ht : (xa == acct) = true := beq_iff_eq.2 he
          have hHE := Lib.hid he
          clear he
          go_wp2_with fail
          refine (impl_orderRec 4 xi xa xp xq wa).mono ?_
          rintro e wo ⟨rfl, hbo2⟩
          replace hown := own_below hown hbo2
          replace hbr := hbr.trans (hbo2.mono hbr.size)
          clear hbo2 e0 e1 e2 e3 j0 y ht
          have hbs := hbr.size
          have hov := hown.lt
          go_wp2_with (at_builtin; refine wpList_append_own_at _ rfl _ _ 31 rfl w3.heap.size 41 i0 _ 8 64 Try.underlying31 hi hz0 hz1 hz2 rfl (by decide) _ _ _ rfl (hown.alloc _) ⟨wo.heap.size, 0, none⟩ 1 1 [.int .i64 0, .int .i64 4, .int .i64 0, .int .i64 xa, .int .i64 xi, .int .i64 0, .int .i64 xp, .int .i64 xq] rfl rfl (World.news_of_block (heap_alloc_new wo _)) (by intro u hu; simp at hu; rcases hu with rfl | rfl | rfl | rfl | rfl | rfl | rfl | rfl <;> rfl) (by unfold maxLen; omega) (by omega) (by simp; omega) ?_)
          intro v' w5 hown2 hgrow2 _ _
          have hbel2 := (hbr.alloc hbs (.cells #[.int .i64 0, .int .i64 4, .int .i64 0, .int .i64 xa, .int .i64 xi, .int .i64 0, .int .i64 xp, .int .i64 xq] 41)).grown hgrow2 (by simp; omega) (fun q hq => (hov q hq).1)
          obtain ⟨A4, d4, rfl, _, _⟩ := own_slice hown2
          have HO2 := Lib.hid hown2
          have HB2 := Lib.hid hbel2
          clear hbel2 hgrow2 hown2 hbr hown hov hbs
          go_wp2_with fail
          go_roundw
          case rel => exact ⟨k + 1, _, by omega, by go_num, rfl, HB2.out, by
            have h := HO2.out
            rw [HG.out, HN.out, if_pos hHE.out, if_pos hHE.out]
            rw [show nums (gnR (za ++ zb) acct k ++ canR xi xa xp xq) = nums (gnR (za ++ zb) acct k) ++ [.int .i64 0, .int .i64 4, .int .i64 0, .int .i64 xa, .int .i64 xi, .int .i64 0, .int .i64 xp, .int .i64 xq] by simp [nums, canR]]
            exact h⟩
          case measure => simp [intOf]; omega
        · have ht : (xa == acct) = false := beq_eq_false_iff_ne.2 he
          have HT := Lib.hid (show gnR (za ++ zb) acct (k + 1) = gnR (za ++ zb) acct k ∧ gnN (za ++ zb) acct (k + 1) = gnN (za ++ zb) acct k from ⟨by rw [HG.out, if_neg he], by rw [HN.out, if_neg he]⟩)
          clear he
          go_wp2_with fail
          go_roundw
          case rel => exact ⟨k + 1, _, by omega, by go_num, rfl, hbr, by rw [HT.out.1, HT.out.2]; exact hown⟩
          case measure => simp [intOf]; omega
      · obtain rfl : k = n + m := by omega
        have k0 := (hbr.block w.heap.size (by omega)).trans k0
        have k1 := (hbr.block (w.heap.size + 1) (by omega)).trans k1
        have k2 := (hbr.block (w.heap.size + 1 + 1) (by omega)).trans k2
        obtain ⟨x0, x1⟩ := ccell2 k0
        have j0 := ccell1 k1
        have hs1 : w.heap.size + 3 ≤ wr.heap.size := by have := hbr.size; omega
        have hw3 : w.heap.size ≤ w3.heap.size := by omega
        have hb1 := hb4.trans (hbr.mono hb4.size)
        generalize hN3' : gnN (za ++ zb) acct (n + m) = N3 at *
        have H3 := Lib.hid hN3'
        obtain ⟨R3, d3, rfl, _, _⟩ := own_slice hown
        have hRq : ∀ q, (Value.slice R3 N3 d3).ownBlock = some q → q < wr.heap.size := fun q hq => (hown.lt q hq).2
        clear hN3' hL3 h4 hbr hb4 hs3 hsm
        go_wp2_with fail
        refine (impl_opened A n c B m d za zb wr ((ha.below hb1).more hb1.size) ((hb.below hb1).more hb1.size) hn hm).mono ?_
        rintro e w5 ⟨X1, S1, L1, v1, gs1, X2, S2, L2, v2, gs2, rfl, hp1, hp2, hX1, hX2, hfar, hb2⟩
        have k1 := (hb2.block (w.heap.size + 1) (by omega)).trans k1
        have k2 := (hb2.block (w.heap.size + 1 + 1) (by omega)).trans k2
        have hs2 : w.heap.size + 3 ≤ w5.heap.size := by have := hb2.size; omega
        replace hown := own_below hown hb2
        have hb2 := hb1.trans (hb2.mono hb1.size)
        clear hb1 k0 x0 x1 j0
        have o0 := heap_alloc_new w5 (.cells #[.pointer (some ⟨L1, 0, none⟩), .pointer (some ⟨L2, 0, none⟩)] 75)
        have hbA : Below w5.heap.size w5 (w5.alloc (.cells #[.pointer (some ⟨L1, 0, none⟩), .pointer (some ⟨L2, 0, none⟩)] 75)) := (Below.refl _ _).alloc (Nat.le_refl _) _
        have hsA : (w5.alloc (.cells #[.pointer (some ⟨L1, 0, none⟩), .pointer (some ⟨L2, 0, none⟩)] 75)).heap.size = w5.heap.size + 1 := by simp
        have k1 := (hbA.block (w.heap.size + 1) (by omega)).trans k1
        have k2 := (hbA.block (w.heap.size + 1 + 1) (by omega)).trans k2
        have hpw1 := hp1.1
        have hpw2 := hp2.1
        have hp1 := And.intro (hp1.1.below hbA) (hp1.2.below hbA)
        have hp2 := And.intro (hp2.1.below hbA) (hp2.2.below hbA)
        have o1 := cell_of_row _ w5.heap.size 0 _ _ (0, 0) o0
        have o2 := cell_of_row _ w5.heap.size 1 _ _ (0, 0) o0
        have j0 := cell_of_row _ (w.heap.size + 1) 0 _ _ (0, 0) k1
        simp at o1 o2 j0
        have hb3 := hb2.trans (hbA.mono hb2.size)
        replace hown := own_below hown hbA
        have hLa : L1 < w5.heap.size := heap_lt hpw1.list
        have hLb : L2 < w5.heap.size := heap_lt hpw2.list
        have hva : some w5.heap.size ≠ v1.ownBlock := fun e => by have := (hpw1.own.lt _ e.symm).2; omega
        have hvb : some w5.heap.size ≠ v2.ownBlock := fun e => by have := (hpw2.own.lt _ e.symm).2; omega
        clear hpw1 hpw2
        go_wp2_with fail
        generalize (w5.alloc (.cells #[.pointer (some ⟨L1, 0, none⟩), .pointer (some ⟨L2, 0, none⟩)] 75)) = w6 at *
        refine (impl_dropA X1 S1 L1 X2 S2 L2 n m (w.heap.size + 1) v1 v2 gs1 gs2 acct za zb w6 hp1 hp2 hn hm j0 (by omega) hX2 hfar).mono ?_
        rintro e w7 ⟨⟨_, rfl⟩, u1, u2, hq1, hq2, hb4, hk4⟩
        have o0 := (hk4 w5.heap.size (by omega) (by omega) (by omega) hva hvb).trans o0
        have k2 := (hb4.block (w.heap.size + 1 + 1) (by omega)).trans k2
        have hs4 := hb4.size
        replace hown := cown_blocks hown (fun q hq => hb4.block q (by have := hRq q hq; omega))
        have hb5 := hb3.trans (hb4.mono (by omega))
        clear hp1 hp2 k1 o1 o2 j0 hb4 hk4 hva hvb
        have o1 := cell_of_row _ w5.heap.size 0 _ _ (0, 0) o0
        have o2 := cell_of_row _ w5.heap.size 1 _ _ (0, 0) o0
        simp at o1 o2
        have HN1 := Lib.hid (tkZ_lenA za acct n)
        have HN2 := Lib.hid (tkZ_lenA zb acct m)
        have hN1 : tkNA za acct n ≤ 1048576 := Nat.le_trans (tkN_leA za acct n) hn
        have hN2 : tkNA zb acct m ≤ 1048576 := Nat.le_trans (tkN_leA zb acct m) hm
        go_wp2_with fail
        refine (impl_closed X1 S1 L1 X2 S2 L2 _ _ u1 u2 _ _ _ _ w7 hq1.1 hq1.2 hq2.1 hq2.2 hN1 hN2 HN1.out HN2.out).mono ?_
        rintro e w8 ⟨⟨r1, r2, rfl, ho1, ho2, hne⟩, hb6⟩
        have k2 := (hb6.block (w.heap.size + 1 + 1) (by omega)).trans k2
        replace hown := own_below hown hb6
        have hb7 := hb5.trans (hb6.mono hb5.size)
        have ho1 := own_mono (base' := w.heap.size + 3) ho1 (by omega)
        have ho2 := own_mono (base' := w.heap.size + 3) ho2 (by omega)
        obtain ⟨A1, d1, rfl, _, _⟩ := own_slice ho1
        obtain ⟨A2, d2, rfl, _, _⟩ := own_slice ho2
        clear hb5 hb6 o0 o1 o2 hq1 hq2
        have s0 := cell_of_row w8 (w.heap.size + 1 + 1) 0 _ _ (0, 0) k2
        have s1 := cell_of_row w8 (w.heap.size + 1 + 1) 1 _ _ (0, 0) k2
        have z0 := frozen_of_row w8 (w.heap.size + 1 + 1) 0 _ _ k2
        have z1 := frozen_of_row w8 (w.heap.size + 1 + 1) 1 _ _ k2
        simp at s0 s1
        generalize hN1' : tkNA za acct n = N1 at *
        generalize hN2' : tkNA zb acct m = N2 at *
        have E0 := Lib.hid (cell_of_row _ (w.heap.size + 1 + 1) 0 _ _ (0, 0) (heap_set1 (u := .slice A2 N2 d2) (heap_set0 (u := .slice A1 N1 d1) k2)))
        have E1 := Lib.hid (cell_of_row _ (w.heap.size + 1 + 1) 1 _ _ (0, 0) (heap_set1 (u := .slice A2 N2 d2) (heap_set0 (u := .slice A1 N1 d1) k2)))
        have H1 := Lib.hid hN1'
        have H2 := Lib.hid hN2'
        clear hN1' hN2' HN1 HN2
        go_wp2_with fail
        have e0 := E0.out
        have e1 := E1.out
        simp at e0 e1
        have ap : ∀ {v : Value} {N : Nat} {xs : List Value}, w8.ownsRow (w.heap.size + 3) 28 4 v N xs → ((w8.setCell ⟨w.heap.size + 1 + 1, 0, none⟩ (.slice A1 N1 d1)).setCell ⟨w.heap.size + 1 + 1, 1, none⟩ (.slice A2 N2 d2)).ownsRow w.heap.size 28 4 v N xs := fun h => by
          have h1 := own_apart h (set_grown w8 (w.heap.size + 1 + 1) 0 (.slice A1 N1 d1)) (fun q hq e => by have := (h.lt q hq).1; injection e with e; omega)
          exact own_mono (own_apart h1 (set_grown _ (w.heap.size + 1 + 1) 1 (.slice A2 N2 d2)) (fun q hq e => by have := (h.lt q hq).1; injection e with e; omega)) (by omega)
        have hownF := own_set_kind (i := 1) (u := .slice A2 N2 d2) (own_set_kind (i := 0) (u := .slice A1 N1 d1) hown k2 (by decide)) (heap_set0 k2) (by decide)
        refine bodyPost_ret (v := .tuple #[.agg #[.slice A1 N1 d1, .slice A2 N2 d2], .slice R3 N3 d3]) (by simp [results, Try.results20, go_sem, e0, e1]) rfl ⟨?_, ?_⟩
        · rw [HOK.out]
          refine ⟨_, _, _, rfl, ⟨?_, ?_, hne⟩, ?_⟩
          · rw [show onN true (tkNA za acct n) = N1 from H1.out]; exact ap ho1
          · rw [show onN true (tkNA zb acct m) = N2 from H2.out]; exact ap ho2
          · rw [show onN true (gnN (za ++ zb) acct (n + m)) = N3 from H3.out]; exact own_mono hownF (by omega)
        exact (hb7.setCell (p := ⟨w.heap.size + 1 + 1, 0, none⟩) (show w.heap.size ≤ w.heap.size + 1 + 1 by omega) _).setCell (p := ⟨w.heap.size + 1 + 1, 1, none⟩) (show w.heap.size ≤ w.heap.size + 1 + 1 by omega) _
end Go.Proofs.Ytdjmejjponlfoab
