/-
  The drawn law of a mirrored book.
-/
import Derived.Deep.Cut
import Derived.Test.YtempggikcpminaaMirQ
import Derived.Test.YtempggikcpminaaMir
import Derived.Test.YtempggikcpminaaGD
import Derived.Test.YtempggikcpminaaGM
import Derived.Test.YtempggikcpminaaGU
import Derived.Test.YtempggikcpminaaGS
import Derived.Test.YtempggikcpminaaLawInts
import Derived.Test.YtempggikcpminaaLawCell
namespace Go.Proofs.Ytempggikcpminaa
open Go.RowKit Wire

theorem MgA {α : Type _} {xs : List α} {i : Nat} : xs.toArray[i]? = xs[i]? := by simp
theorem MgB {α : Type _} {a : α} {l : List α} {i : Nat} : (a :: l)[i + 1]? = l[i]? := rfl
theorem MgC {α : Type _} {a : α} {l : List α} : (a :: l)[0]? = some a := rfl
theorem MsA {α : Type _} {xs : List α} {i : Nat} {a : α} : xs.toArray.setIfInBounds i a = (xs.set i a).toArray := by simp
theorem MsB {α : Type _} {x a : α} {l : List α} : (x :: l).set 0 a = a :: l := rfl
theorem MsC {α : Type _} {x a : α} {l : List α} {i : Nat} : (x :: l).set (i + 1) a = x :: l.set i a := rfl

theorem m_len {za zb : List Int} {n m : Nat} {rg : Bool} {side oi oa op oq mode : Int} (ha : za.length = n * 4) (hb : zb.length = m * 4) (h : rgB za n zb m side oi oa op oq mode = rg) (hn : n ≤ 20) (hm : m ≤ 20) :
    (mZ1 rg side oi oa op oq mode za zb).length / 4 ≤ 20 ∧ (mZ2 rg side oi oa op oq mode za zb).length / 4 ≤ 20 ∧ (mRR rg side oi oa op oq mode za zb).length / 8 ≤ 41 := by
  cases rg
  · simp [mZ1, mZ2, mRR]
  · have R := rg_oth h ha hb
    obtain ⟨M, N, e1, e2, e3, e4⟩ := mtS_len (side := side) (id := oi) (acct := oa) (pr := op) (mode := mode) (othN side n m) (Z := othZ side za zb) (R := []) (q := oq) 0 R.len rfl
    have hle := R.le
    unfold mZ1 mZ2 mRR mtA
    rw [if_pos rfl, if_pos rfl, if_pos rfl]
    unfold othZ at e1 e3
    rw [e3]
    refine ⟨?_, ?_, by omega⟩ <;> split <;> first | omega | (rw [e1]; omega) | simp_all <;> omega
theorem lst_one {w : World} {S : Nat} {a b c d : Int} {T : TypeId} (h : w.heap[S]? = some (.cells #[.int .i64 a, .int .i64 b, .int .i64 c, .int .i64 d] T (0, 0))) : Lst w w.heap.size 4 (some ⟨S, 0, none⟩) 1 [a, b, c, d] :=
  ⟨rfl, fun _ => ⟨S, 0, rfl, (Array.getElem?_eq_some_iff.1 h).1, fun j hj => by
    rw [Nat.zero_add]
    simp only [World.cell?, h]
    rcases (show j = 0 ∨ j = 1 ∨ j = 2 ∨ j = 3 by omega) with rfl | rfl | rfl | rfl <;> rfl⟩⟩
theorem rg_side {za zb : List Int} {n m : Nat} {side oi oa op oq mode : Int} (h : rgB za n zb m side oi oa op oq mode = true) : side = 1 ∨ side = 2 := by
  have hs := (rg_parts h).2.1
  rcases side_cases side with ⟨rfl, -⟩ | ⟨rfl, -⟩ | ⟨-, -, hno⟩
  · exact .inl rfl
  · exact .inr rfl
  · rw [hno] at hs
    exact absurd hs (by decide)
theorem rg_inc {za zb : List Int} {n m : Nat} {side oi oa op oq mode : Int} (h : rgB za n zb m side oi oa op oq mode = true) : 0 ≤ op ∧ op ≤ 1000000 := by
  have h3 := (rg_parts h).2.2.1
  simp only [incB, inB, Bool.and_eq_true, decide_eq_true_eq] at h3
  exact h3.2.2.1
/-- a book in a box, its sides in rows of their own -/
def MirRes (w : World) (base G N1 : Nat) (Z1 : List Int) (N2 : Nat) (Z2 : List Int) : Prop := ∃ A1 c1 A2 c2, w.heap[G]? = some (.cells #[.slice A1 N1 c1, .slice A2 N2 c2] 26 (0, 0)) ∧ w.ownsRow base 28 4 (.slice A1 N1 c1) N1 (nums Z1) ∧ w.ownsRow base 28 4 (.slice A2 N2 c2) N2 (nums Z2)
theorem mir_cell2 {w : World} {S : Nat} {a b : Value} {T : TypeId} (h : w.heap[S]? = some (.cells #[a, b] T (0, 0))) : w.cell? ⟨S, 0, none⟩ = some a ∧ w.cell? ⟨S, 1, none⟩ = some b ∧ w.frozen? ⟨S, 0, none⟩ = false ∧ w.frozen? ⟨S, 1, none⟩ = false := by
  simp [World.cell?, World.frozen?, h]
theorem mir_set0 {w : World} {S : Nat} {a b u : Value} {T : TypeId} (h : w.heap[S]? = some (.cells #[a, b] T (0, 0))) : (w.setCell ⟨S, 0, none⟩ u).heap[S]? = some (.cells #[u, b] T (0, 0)) := by
  simp [World.setCell, Array.getElem?_modify, h]
theorem near_Z1 {za zb : List Int} {n m : Nat} {side oi oa op oq mode : Int} (ha : za.length = n * 4) (_hb : zb.length = m * 4) (hna : ∀ k, k < n → 50 ≤ num za (k * 4 + 2) ∧ num za (k * 4 + 2) ≤ 150) (_hnb : ∀ k, k < m → 50 ≤ num zb (k * 4 + 2) ∧ num zb (k * 4 + 2) ≤ 150) (_hs : side = 1 ∨ side = 2) : NearZ (mZ1 true side oi oa op oq mode za zb) := by
  have h1 := (near_of n ha).2 hna
  unfold mZ1 mtA
  rw [if_pos rfl]
  by_cases h : side = 1
  · rw [if_pos h]; exact h1
  · rw [if_neg h, if_neg h]; exact mt_near n ha h1
theorem near_Z2 {za zb : List Int} {n m : Nat} {side oi oa op oq mode : Int} (_ha : za.length = n * 4) (hb : zb.length = m * 4) (_hna : ∀ k, k < n → 50 ≤ num za (k * 4 + 2) ∧ num za (k * 4 + 2) ≤ 150) (hnb : ∀ k, k < m → 50 ≤ num zb (k * 4 + 2) ∧ num zb (k * 4 + 2) ≤ 150) (_hs : side = 1 ∨ side = 2) : NearZ (mZ2 true side oi oa op oq mode za zb) := by
  have h1 := (near_of m hb).2 hnb
  unfold mZ2 mtA
  rw [if_pos rfl]
  by_cases h : side = 1
  · rw [if_pos h, if_pos h]; exact mt_near m hb h1
  · rw [if_neg h]; exact h1
set_option linter.unusedSimpArgs false in
set_option linter.unusedVariables false in
set_option maxHeartbeats 40000000 in
set_option maxRecDepth 100000 in
theorem law_Mirror (A : Option Addr) (len cap : Nat) (ys : List Int) (w : World) (hrow : IsRow .u8 w A len cap ys) :
    Calls Try.prog 3 #[.slice A len cap] w fun e w' => e = .returned (.bool true) ∧ Below w.heap.size w w' := by
  have hs := src_of_row hrow
  have hl := row_len hrow
  clear hrow
  have hsrc : ∀ w', Below w.heap.size w w' → Src w' w'.heap.size A len := fun w' hb i hi => by
    obtain ⟨b, o, n, h1, h2, h3, h4, h5⟩ := hs i hi
    exact ⟨b, o, n, h1, Nat.lt_of_lt_of_le h2 hb.size, h3, h4, (hb.cell (p := ⟨b, o + i, none⟩) h2).trans h5⟩
  by_cases hbig : 1048576 < len
  · go_enter Try.func3, Try.ntmps3
    go_wp2_with (go_at_call 7; go_in)
    go_ret
    exact ⟨rfl, Below.refl _ _⟩
  go_enter Try.func3, Try.ntmps3
  go_wp2_with (go_at_call 7; go_in)
  refine (DrawMatched_any A len cap _ hs hl).mono ?_
  rintro e w1 ⟨v1, n, za, v2, m, zb, s, oi, oa, op, oq, md, rfl, hn, hm, TB, D⟩
  obtain ⟨A1, c, A2, d, rfl, rfl⟩ := TB.slices
  have hlA : za.length = n * 4 := by have := TB.one.1; rwa [nums_length] at this
  have hlB : zb.length = m * 4 := by have := TB.two.1; rwa [nums_length] at this
  obtain ⟨kB, kO⟩ := two_blocks w1 (.cells #[.slice A1 n c, .slice A2 m d] 26) (.cells #[.int .i64 oi, .int .i64 oa, .int .i64 op, .int .i64 oq] 28)
  have hba : Below w1.heap.size w1 ((w1.alloc (.cells #[.slice A1 n c, .slice A2 m d] 26)).alloc (.cells #[.int .i64 oi, .int .i64 oa, .int .i64 op, .int .i64 oq] 28)) := ((Below.refl _ _).alloc (Nat.le_refl _) _).alloc (by simp) _
  replace D := D.trans (hba.mono D.size)
  replace TB := TB.below hba
  clear hba
  obtain ⟨p0, p1⟩ := cell2 kB
  obtain ⟨o0, o1, o2, o3, -⟩ := ord_cell kO
  go_wp2_with fail
  clear p0 p1 o0 o1 o2 o3
  generalize ((w1.alloc (.cells #[.slice A1 n c, .slice A2 m d] 26)).alloc (.cells #[.int .i64 oi, .int .i64 oa, .int .i64 op, .int .i64 oq] 28)) = w2 at *
  generalize w1.heap.size = X1 at *
  obtain ⟨rg, hrg⟩ : ∃ x, rgB za n zb m s oi oa op oq md = x := ⟨_, rfl⟩
  have HRG := Lib.hid hrg
  have hLN := m_len hlA hlB hrg hn hm
  obtain ⟨Y1, hsY1⟩ : ∃ x, mZ1 rg s oi oa op oq md za zb = x := ⟨_, rfl⟩
  obtain ⟨Y2, hsY2⟩ : ∃ x, mZ2 rg s oi oa op oq md za zb = x := ⟨_, rfl⟩
  obtain ⟨RR, hsRR⟩ : ∃ x, mRR rg s oi oa op oq md za zb = x := ⟨_, rfl⟩
  obtain ⟨lf, hslf⟩ : ∃ x, mLL rg s oi oa op oq md za zb = x := ⟨_, rfl⟩
  rw [hsY1, hsY2, hsRR] at hLN
  obtain ⟨N1, hsN1⟩ : ∃ x, Y1.length / 4 = x := ⟨_, rfl⟩
  obtain ⟨N2, hsN2⟩ : ∃ x, Y2.length / 4 = x := ⟨_, rfl⟩
  obtain ⟨N3, hsN3⟩ : ∃ x, RR.length / 8 = x := ⟨_, rfl⟩
  rw [hsN1, hsN2, hsN3] at hLN
  obtain ⟨hN1, hN2, hN3⟩ := hLN
  have HY1 := Lib.hid hsY1
  have HY2 := Lib.hid hsY2
  have HRR := Lib.hid hsRR
  have Hlf := Lib.hid hslf
  have HN1 := Lib.hid hsN1
  have HN2 := Lib.hid hsN2
  have HN3 := Lib.hid hsN3
  have hcon := (impl_Matched A1 n c A2 m d za zb s oi oa op oq md w2 (Lst.of_own TB.one) (Lst.of_own TB.two) (by omega) (by omega)).mono (fun e w' h => (⟨mans_len h.1, h.2⟩ : _ ∧ _))
  rw [hrg, hsY1, hsY2, hsRR, hslf, hsN1, hsN2, hsN3] at hcon
  refine hcon.mono ?_
  clear hcon
  rintro e w3 ⟨⟨t1, t2, t3, rfl, TI, RI⟩, hbm⟩
  obtain ⟨BI, bI, CI, cI, rfl, rfl⟩ := TI.slices
  obtain ⟨EI, eI, rfl, _, _⟩ := own_slice RI
  replace D := D.trans (hbm.mono D.size)
  replace TB := TB.below hbm
  replace kB := (hbm.block _ (heap_lt kB)).trans kB
  replace kO := (hbm.block _ (heap_lt kO)).trans kO
  clear hbm
  have kN := heap_alloc_new w3 (.cells #[.slice BI N1 bI, .slice CI N2 cI] 26)
  have hba : Below w3.heap.size w3 (w3.alloc (.cells #[.slice BI N1 bI, .slice CI N2 cI] 26)) := (Below.refl _ _).alloc (Nat.le_refl _) _
  replace D := D.trans (hba.mono D.size)
  replace TB := TB.below hba
  replace kB := (hba.block _ (heap_lt kB)).trans kB
  replace kO := (hba.block _ (heap_lt kO)).trans kO
  replace TI := TI.below hba
  replace RI := own_below RI hba
  clear hba
  obtain ⟨p0, p1⟩ := cell2 kB
  obtain ⟨o0, o1, o2, o3, -⟩ := ord_cell kO
  go_wp2_with fail
  clear p0 p1 o0 o1 o2 o3
  generalize w3.alloc (.cells #[.slice BI N1 bI, .slice CI N2 cI] 26) = w4 at *
  generalize w3.heap.size = X2 at *
  have hcon := (spec_Matched A1 n c A2 m d za zb s oi oa op oq md w4 (Lst.of_own TB.one) (Lst.of_own TB.two) (by omega) (by omega) (own_nil TB.one) (own_nil TB.two)).mono (fun e w' h => (⟨mans_len h.1, h.2⟩ : _ ∧ _))
  rw [hrg, hsY1, hsY2, hsRR, hslf, hsN1, hsN2, hsN3] at hcon
  refine hcon.mono ?_
  clear hcon
  rintro e w5 ⟨⟨t1, t2, t3, rfl, TS, RS⟩, hbm⟩
  obtain ⟨BS, bS, CS, cS, rfl, rfl⟩ := TS.slices
  obtain ⟨ES, eS, rfl, _, _⟩ := own_slice RS
  replace D := D.trans (hbm.mono D.size)
  replace TB := TB.below hbm
  replace kB := (hbm.block _ (heap_lt kB)).trans kB
  replace kO := (hbm.block _ (heap_lt kO)).trans kO
  replace TI := TI.below hbm
  replace RI := own_below RI hbm
  replace kN := (hbm.block _ (heap_lt kN)).trans kN
  clear hbm
  clear hsY1 hsY2 hsRR hslf hsN1 hsN2 hsN3 hrg
  clear TS
  have hba : Below w5.heap.size w5 (w5.alloc (.cells #[.slice BS N1 bS, .slice CS N2 cS] 26)) := (Below.refl _ _).alloc (Nat.le_refl _) _
  replace D := D.trans (hba.mono D.size)
  replace TB := TB.below hba
  replace kB := (hba.block _ (heap_lt kB)).trans kB
  replace kO := (hba.block _ (heap_lt kO)).trans kO
  replace TI := TI.below hba
  replace RI := own_below RI hba
  replace kN := (hba.block _ (heap_lt kN)).trans kN
  replace RS := own_below RS hba
  clear hba
  go_upto_region 6 with fail
  generalize w5.alloc (.cells #[.slice BS N1 bS, .slice CS N2 cS] 26) = w6 at *
  generalize w5.heap.size = X3 at *
  have hBq : Below w6.heap.size w6 w6 := Below.refl _ _
  go_cut [85] (fun s85 wx => ∃ b, s85 = .bool b ∧ (b = false → rg = true ∧ nearB za n = true ∧ nearB zb m = true ∧ (op = 0 ∨ (50 ≤ op ∧ op ≤ 150))) ∧ Below w6.heap.size w6 wx)
  case first =>
    cases rg
    · have e1 : (false != false) = false := rfl
      go_wp2_with fail
      refine (sameRecs_same EI ES N3 eI eS RR w6 (Lst.of_own RI) (Lst.of_own RS) (by omega)).mono ?_
      rintro e w7 ⟨rfl, hbs⟩
      replace D := D.trans (hbs.mono D.size)
      replace TB := TB.below hbs
      replace kB := (hbs.block _ (heap_lt kB)).trans kB
      replace kO := (hbs.block _ (heap_lt kO)).trans kO
      replace TI := TI.below hbs
      replace RI := own_below RI hbs
      replace kN := (hbs.block _ (heap_lt kN)).trans kN
      replace RS := own_below RS hbs
      replace hBq := hBq.trans (hbs.mono hBq.size)
      clear hbs
      go_wp2_with fail
      go_meet
      exact ⟨_, rfl, (fun h => by cases h), hBq⟩
    · have e1 : (true != true) = false := rfl
      go_wp2_with fail
      refine (sameRecs_same EI ES N3 eI eS RR w6 (Lst.of_own RI) (Lst.of_own RS) (by omega)).mono ?_
      rintro e w7 ⟨rfl, hbs⟩
      replace D := D.trans (hbs.mono D.size)
      replace TB := TB.below hbs
      replace kB := (hbs.block _ (heap_lt kB)).trans kB
      replace kO := (hbs.block _ (heap_lt kO)).trans kO
      replace TI := TI.below hbs
      replace RI := own_below RI hbs
      replace kN := (hbs.block _ (heap_lt kN)).trans kN
      replace RS := own_below RS hbs
      replace hBq := hBq.trans (hbs.mono hBq.size)
      clear hbs
      obtain ⟨p0, p1⟩ := cell2 kB
      obtain ⟨o0, o1, o2, o3, -⟩ := ord_cell kO
      go_wp2_with fail
      have hnA := laws_near A1 n c za w7 (Lst.of_own TB.one) (by omega)
      refine hnA.mono ?_
      clear hnA
      rcases Bool.eq_false_or_eq_true (nearB za n) with hq | hq
      rotate_left
      · rw [hq]
        rintro e w8 ⟨rfl, hbm⟩
        replace D := D.trans (hbm.mono D.size)
        replace TB := TB.below hbm
        replace kB := (hbm.block _ (heap_lt kB)).trans kB
        replace kO := (hbm.block _ (heap_lt kO)).trans kO
        replace TI := TI.below hbm
        replace RI := own_below RI hbm
        replace kN := (hbm.block _ (heap_lt kN)).trans kN
        replace RS := own_below RS hbm
        replace hBq := hBq.trans (hbm.mono hBq.size)
        clear hbm hq p0 p1 o0 o1 o2 o3
        go_wp2_with fail
        go_meet
        exact ⟨_, rfl, (fun h => by cases h), hBq⟩
      have HNA := Lib.hid hq
      rw [hq]
      clear hq
      rintro e w8 ⟨rfl, hbm⟩
      replace D := D.trans (hbm.mono D.size)
      replace TB := TB.below hbm
      replace kB := (hbm.block _ (heap_lt kB)).trans kB
      replace kO := (hbm.block _ (heap_lt kO)).trans kO
      replace TI := TI.below hbm
      replace RI := own_below RI hbm
      replace kN := (hbm.block _ (heap_lt kN)).trans kN
      replace RS := own_below RS hbm
      replace hBq := hBq.trans (hbm.mono hBq.size)
      clear hbm p0 p1 o0 o1 o2 o3
      obtain ⟨p0, p1⟩ := cell2 kB
      obtain ⟨o0, o1, o2, o3, -⟩ := ord_cell kO
      go_wp2_with fail
      have hnA := laws_near A2 m d zb w8 (Lst.of_own TB.two) (by omega)
      refine hnA.mono ?_
      clear hnA
      rcases Bool.eq_false_or_eq_true (nearB zb m) with hq | hq
      rotate_left
      · rw [hq]
        rintro e w9 ⟨rfl, hbm⟩
        replace D := D.trans (hbm.mono D.size)
        replace TB := TB.below hbm
        replace kB := (hbm.block _ (heap_lt kB)).trans kB
        replace kO := (hbm.block _ (heap_lt kO)).trans kO
        replace TI := TI.below hbm
        replace RI := own_below RI hbm
        replace kN := (hbm.block _ (heap_lt kN)).trans kN
        replace RS := own_below RS hbm
        replace hBq := hBq.trans (hbm.mono hBq.size)
        clear hbm hq p0 p1 o0 o1 o2 o3
        go_wp2_with fail
        go_meet
        exact ⟨_, rfl, (fun h => by cases h), hBq⟩
      have HNB := Lib.hid hq
      rw [hq]
      clear hq
      rintro e w9 ⟨rfl, hbm⟩
      replace D := D.trans (hbm.mono D.size)
      replace TB := TB.below hbm
      replace kB := (hbm.block _ (heap_lt kB)).trans kB
      replace kO := (hbm.block _ (heap_lt kO)).trans kO
      replace TI := TI.below hbm
      replace RI := own_below RI hbm
      replace kN := (hbm.block _ (heap_lt kN)).trans kN
      replace RS := own_below RS hbm
      replace hBq := hBq.trans (hbm.mono hBq.size)
      clear hbm p0 p1 o0 o1 o2 o3
      have hop := (rg_inc HRG.out)
      by_cases h0 : op = 0
      · have tz : (op != 0) = false := by simp [h0]
        have HOP := Lib.hid h0
        clear h0
        obtain ⟨p0, p1⟩ := cell2 kB
        obtain ⟨o0, o1, o2, o3, -⟩ := ord_cell kO
        go_wp2_with fail
        go_meet
        exact ⟨_, rfl, fun _ => ⟨(by first | rfl | trivial), HNA.out, HNB.out, .inl HOP.out⟩, hBq⟩
      · have tz : (op != 0) = true := by simp [h0]
        have tg : 0 < op := by omega
        obtain ⟨p0, p1⟩ := cell2 kB
        obtain ⟨o0, o1, o2, o3, -⟩ := ord_cell kO
        have kY := heap_alloc_new w9 (.cells #[.int .i64 oi, .int .i64 oa, .int .i64 op, .int .i64 oq] 28)
        have hba : Below w9.heap.size w9 (w9.alloc (.cells #[.int .i64 oi, .int .i64 oa, .int .i64 op, .int .i64 oq] 28)) := (Below.refl _ _).alloc (Nat.le_refl _) _
        go_wp2_with fail
        clear p0 p1 o0 o1 o2 o3
        have hnA := laws_near _ 1 1 [oi, oa, op, oq] _ (lst_one kY) (by omega)
        refine hnA.mono ?_
        clear hnA
        rw [show nearB [oi, oa, op, oq] 1 = (decide (50 ≤ op) && decide (op ≤ 150)) by rfl]
        replace D := D.trans (hba.mono D.size)
        replace TB := TB.below hba
        replace kB := (hba.block _ (heap_lt kB)).trans kB
        replace kO := (hba.block _ (heap_lt kO)).trans kO
        replace TI := TI.below hba
        replace RI := own_below RI hba
        replace kN := (hba.block _ (heap_lt kN)).trans kN
        replace RS := own_below RS hba
        replace hBq := hBq.trans (hba.mono hBq.size)
        clear hba kY
        rcases Bool.eq_false_or_eq_true (decide (50 ≤ op) && decide (op ≤ 150)) with hq | hq
        rotate_left
        · rw [hq]
          rintro e wa ⟨rfl, hbm⟩
          replace D := D.trans (hbm.mono D.size)
          replace TB := TB.below hbm
          replace kB := (hbm.block _ (heap_lt kB)).trans kB
          replace kO := (hbm.block _ (heap_lt kO)).trans kO
          replace TI := TI.below hbm
          replace RI := own_below RI hbm
          replace kN := (hbm.block _ (heap_lt kN)).trans kN
          replace RS := own_below RS hbm
          replace hBq := hBq.trans (hbm.mono hBq.size)
          clear hbm hq
          go_wp2_with fail
          go_meet
          exact ⟨_, rfl, (fun h => by cases h), hBq⟩
        have HOQ := Lib.hid hq
        rw [hq]
        rintro e wa ⟨rfl, hbm⟩
        replace D := D.trans (hbm.mono D.size)
        replace TB := TB.below hbm
        replace kB := (hbm.block _ (heap_lt kB)).trans kB
        replace kO := (hbm.block _ (heap_lt kO)).trans kO
        replace TI := TI.below hbm
        replace RI := own_below RI hbm
        replace kN := (hbm.block _ (heap_lt kN)).trans kN
        replace RS := own_below RS hbm
        replace hBq := hBq.trans (hbm.mono hBq.size)
        clear hbm hq h0
        go_wp2_with fail
        go_meet
        exact ⟨_, rfl, fun _ => ⟨(by first | rfl | trivial), HNA.out, HNB.out, .inr (by have := HOQ.out; simpa using this)⟩, hBq⟩
  case rest =>
    obtain ⟨b, rfl, hb, hBq⟩ := hcut
    rename World => wk
    replace D := D.trans (hBq.mono D.size)
    replace TB := TB.below hBq
    replace kB := (hBq.block _ (heap_lt kB)).trans kB
    replace kO := (hBq.block _ (heap_lt kO)).trans kO
    replace TI := TI.below hBq
    replace RI := own_below RI hBq
    replace kN := (hBq.block _ (heap_lt kN)).trans kN
    replace RS := own_below RS hBq
    clear hBq
    cases b
    rotate_left
    · clear hb
      have e2 : (rg == rg) = true := by simp
      go_wp2_with fail
      refine (sameRecs_same EI ES N3 eI eS RR wk (Lst.of_own RI) (Lst.of_own RS) (by omega)).mono ?_
      rintro e wx ⟨rfl, hbs⟩
      replace D := D.trans (hbs.mono D.size)
      replace TB := TB.below hbs
      replace kB := (hbs.block _ (heap_lt kB)).trans kB
      replace kO := (hbs.block _ (heap_lt kO)).trans kO
      replace TI := TI.below hbs
      replace RI := own_below RI hbs
      replace kN := (hbs.block _ (heap_lt kN)).trans kN
      replace RS := own_below RS hbs
      clear hbs
      go_wp2_with fail
      go_ret
      exact ⟨by first | rfl | simp, D⟩
    obtain ⟨rfl, hq1, hq2, hq3⟩ := hb rfl
    have HNA := Lib.hid hq1
    have HNB := Lib.hid hq2
    have HON := Lib.hid hq3
    clear hb hq1 hq2 hq3
    obtain ⟨hs1, hs2⟩ : 1 ≤ s ∧ s ≤ 2 := by rcases rg_side HRG.out with rfl | rfl <;> omega
    have hop := rg_inc HRG.out
    obtain ⟨PP, hPP⟩ : ∃ x, mirP op = x := ⟨_, rfl⟩
    have HPP := Lib.hid hPP
    clear hPP
    obtain ⟨o0, o1, o2, o3, -⟩ := ord_cell kO
    have kX := heap_alloc_new wk (.cells #[.int .i64 oi, .int .i64 oa, .int .i64 op, .int .i64 oq] 28)
    have hba : Below wk.heap.size wk (wk.alloc (.cells #[.int .i64 oi, .int .i64 oa, .int .i64 op, .int .i64 oq] 28)) := (Below.refl _ _).alloc (Nat.le_refl _) _
    obtain ⟨x0, x1, x2, x3, xf0, xf1, xf2, xf3⟩ := ord_cell kX
    have hlO := heap_lt kO
    have HO := Lib.hid (show (wk.alloc (.cells #[.int .i64 oi, .int .i64 oa, .int .i64 op, .int .i64 oq] 28)).heap[X1 + 1]? = some (.cells #[.int .i64 oi, .int .i64 oa, .int .i64 op, .int .i64 oq] 28) from (hba.block _ hlO).trans kO)
    go_upto_if 97 with fail
    go_cut [15] (fun s15 wx => s15 = .pointer (some ⟨wk.heap.size, 0, none⟩) ∧ wx.heap[wk.heap.size]? = some (.cells #[.int .i64 oi, .int .i64 oa, .int .i64 PP, .int .i64 oq] 28) ∧ Below wk.heap.size wk wx)
    case first =>
      clear o0 o1 o2 o3
      have kO := HO.out
      obtain ⟨o0, o1, o2, o3, -⟩ := ord_cell kO
      by_cases tg : 0 < op
      · have HG := Lib.hid (show (wk.alloc (.cells #[.int .i64 oi, .int .i64 oa, .int .i64 (200 - op), .int .i64 oq] 28)).heap[wk.heap.size]? = some (.cells #[.int .i64 oi, .int .i64 oa, .int .i64 PP, .int .i64 oq] 28) by rw [← HPP.out]; unfold mirP; rw [if_pos tg]; exact heap_alloc_new _ _)
        have HB := Lib.hid (show Below wk.heap.size wk (wk.alloc (.cells #[.int .i64 oi, .int .i64 oa, .int .i64 (200 - op), .int .i64 oq] 28)) from (Below.refl _ _).alloc (Nat.le_refl _) _)
        clear hba kX
        go_wp2_with fail
        go_meet
        exact ⟨rfl, HG.out, HB.out⟩
      · have HG := Lib.hid (show (wk.alloc (.cells #[.int .i64 oi, .int .i64 oa, .int .i64 op, .int .i64 oq] 28)).heap[wk.heap.size]? = some (.cells #[.int .i64 oi, .int .i64 oa, .int .i64 PP, .int .i64 oq] 28) by rw [← HPP.out]; unfold mirP; rw [if_neg tg]; exact heap_alloc_new _ _)
        have HB := Lib.hid hba
        clear hba kX
        go_wp2_with fail
        go_meet
        exact ⟨rfl, HG.out, HB.out⟩
    case rest =>
    clear hba kX HO x0 x1 x2 x3 xf0 xf1 xf2 xf3 o0 o1 o2 o3 hlO
    obtain ⟨rfl, kP, hBq⟩ := hcut
    rename World => wq
    replace D := D.trans (hBq.mono D.size)
    replace TB := TB.below hBq
    replace kB := (hBq.block _ (heap_lt kB)).trans kB
    replace kO := (hBq.block _ (heap_lt kO)).trans kO
    replace TI := TI.below hBq
    replace RI := own_below RI hBq
    replace kN := (hBq.block _ (heap_lt kN)).trans kN
    replace RS := own_below RS hBq
    clear hBq
    generalize wk.heap.size = XP at *
    go_upto_region 11 with fail
    have hlB4 := hlB
    have hsd : s = 1 ∨ s = 2 := rg_side HRG.out
    have hon := HON.out
    have hlB := heap_lt kB
    have hlP := heap_lt kP
    have hlN := heap_lt kN
    obtain ⟨p0, p1⟩ := cell2 kB
    obtain ⟨y0, y1, y2, y3, -⟩ := ord_cell kP
    have hrg2 := rg_mir hlA hlB4 (fun k hk => nearB_at n k HNA.out hk) (fun k hk => nearB_at m k HNB.out hk) hon HRG.out
    rw [HPP.out] at hrg2
    obtain ⟨hz1, hz2, hrr, hll⟩ := ma_mir (n := n) (m := m) (oi := oi) (oa := oa) (oq := oq) (mode := md) hsd hlA hlB4 hon
    rw [HPP.out] at hz1 hz2 hrr hll
    rw [HY2.out] at hz1
    rw [HY1.out] at hz2
    rw [HRR.out] at hrr
    rw [Hlf.out] at hll
    obtain ⟨R2, hR2⟩ : ∃ x, mRR true (3 - s) oi oa PP oq md (mir zb) (mir za) = x := ⟨_, rfl⟩
    rw [hR2] at hrr
    have hY1l : Y1.length = N1 * 4 := by have := TI.one.1; rwa [nums_length] at this
    have hY2l : Y2.length = N2 * 4 := by have := TI.two.1; rwa [nums_length] at this
    have hRRl : RR.length = N3 * 8 := by have := RI.1; rwa [nums_length] at this
    have hM1 : (mir Y1).length / 4 = N1 := by rw [mir_len N1 hY1l]; omega
    have hM2 : (mir Y2).length / 4 = N2 := by rw [mir_len N2 hY2l]; omega
    have hR2l : R2.length / 8 = N3 := by rw [← hrr.1, hRRl]; omega
    have hcon := fun (wx : World) (B1 B2 : Option Addr) (c1 c2 : Nat) (h1 : wx.ownsRow wq.heap.size 28 4 (.slice B1 m c1) m (nums (mir zb))) (h2 : wx.ownsRow wq.heap.size 28 4 (.slice B2 n c2) n (nums (mir za))) => (impl_Matched B1 m c1 B2 n c2 (mir zb) (mir za) (3 - s) oi oa PP oq md wx (Lst.of_own h1) (Lst.of_own h2) (by omega) (by omega)).mono (fun e w' h => (⟨mans_len h.1, h.2⟩ : _ ∧ _))
    rw [hrg2, hz1, hz2, hll, hR2, hM1, hM2, hR2l] at hcon
    have HC := Lib.hid hcon
    have HAL := Lib.hid hrr
    have HN2 := Lib.hid (show nearB Y2 N2 = true from near_all ((near_of N2 hY2l).1 (by rw [← HY2.out]; exact near_Z2 hlA hlB4 (fun k hk => nearB_at n k HNA.out hk) (fun k hk => nearB_at m k HNB.out hk) hsd)))
    have HN1 := Lib.hid (show nearB Y1 N1 = true from near_all ((near_of N1 hY1l).1 (by rw [← HY1.out]; exact near_Z1 hlA hlB4 (fun k hk => nearB_at n k HNA.out hk) (fun k hk => nearB_at m k HNB.out hk) hsd)))
    clear hcon hrg2 hz1 hz2 hll hR2 hM1 hM2 hR2l hrr
    go_cut [16, 17, 18, 19] (fun s16 s17 s18 s19 wx => ∃ G R3 d3, s16 = .pointer (some ⟨G, 0, none⟩) ∧ s17 = .slice R3 N3 d3 ∧ s18 = .int .i64 lf ∧ s19 = .bool true ∧ MirRes wx wq.heap.size G N2 (mir Y2) N1 (mir Y1) ∧ wx.ownsRow wq.heap.size 39 8 (.slice R3 N3 d3) N3 (nums R2) ∧ Below wq.heap.size wq wx)
    case first =>
      as_aux_lemma =>
        refine wp_region_held_drew (S := (fun w' => Below wq.heap.size wq w')) (by kernel_rfl) ?hSm1 (fun hHeld => ?restm1)
        case hSm1 => exact (Below.refl _ _).drew
        refine wpAnyH_take (i := 0) (oi := ?oim2) (v := ?vm2) ?him2 (by kernel_rfl) (by kernel_rfl) (by kernel_rfl) ?hQm2 (Or.inl ⟨?hwm2, ?hym2⟩) (by assumption) ?restm2
        case him2 => simp only [MgA, MgB, MgC]; exact rfl
        case hQm2 => exact fun _ _ _ h => h
        case hwm2 => rfl
        case hym2 => ((intro w hSw; (try dsimp only at hSw); go_simp) <;> with_reducible rfl)
        try simp only [Act.put, MsA, MsB, MsC]
        refine wpAnyH_take (i := 1) (oi := ?oim3) (v := ?vm3) ?him3 (by kernel_rfl) (by kernel_rfl) (by kernel_rfl) ?hQm3 (Or.inl ⟨?hwm3, ?hym3⟩) (by assumption) ?restm3
        case him3 => simp only [MgA, MgB, MgC]; exact rfl
        case hQm3 => exact fun _ _ _ h => h
        case hwm3 => rfl
        case hym3 => ((intro wS hSw; have t0 := (hSw.cell (p := ⟨X1, 0, none⟩) hlB).trans p0; have t1 := (hSw.cell (p := ⟨X1, 1, none⟩) hlB).trans p1; go_simp) <;> with_reducible rfl)
        try simp only [Act.put, MsA, MsB, MsC]
        refine wpAnyH_take (i := 3) (oi := ?oim4) (v := ?vm4) ?him4 (by kernel_rfl) (by kernel_rfl) (by kernel_rfl) ?hQm4 (Or.inl ⟨?hwm4, ?hym4⟩) (by assumption) ?restm4
        case him4 => simp only [MgA, MgB, MgC]; exact rfl
        case hQm4 => exact fun _ _ _ h => h
        case hwm4 => rfl
        case hym4 => ((intro w hSw; (try dsimp only at hSw); go_simp) <;> with_reducible rfl)
        try simp only [Act.put, MsA, MsB, MsC]
        refine wpAnyH_take (i := 4) (oi := ?oim5) (v := ?vm5) ?him5 (by kernel_rfl) (by kernel_rfl) (by kernel_rfl) ?hQm5 (Or.inl ⟨?hwm5, ?hym5⟩) (by assumption) ?restm5
        case him5 => simp only [MgA, MgB, MgC]; exact rfl
        case hQm5 => exact fun _ _ _ h => h
        case hwm5 => rfl
        case hym5 => ((intro wS hSw; have t0 := (hSw.cell (p := ⟨X1, 0, none⟩) hlB).trans p0; have t1 := (hSw.cell (p := ⟨X1, 1, none⟩) hlB).trans p1; go_simp) <;> with_reducible rfl)
        try simp only [Act.put, MsA, MsB, MsC]
        refine wpAnyH_take (i := 7) (oi := ?oim6) (v := ?vm6) ?him6 (by kernel_rfl) (by kernel_rfl) (by kernel_rfl) ?hQm6 (Or.inl ⟨?hwm6, ?hym6⟩) (by assumption) ?restm6
        case him6 => simp only [MgA, MgB, MgC]; exact rfl
        case hQm6 => exact fun _ _ _ h => h
        case hwm6 => rfl
        case hym6 => ((intro w hSw; (try dsimp only at hSw); go_simp) <;> with_reducible rfl)
        try simp only [Act.put, MsA, MsB, MsC]
        refine wpAnyH_take (i := 8) (oi := ?oim7) (v := ?vm7) ?him7 (by kernel_rfl) (by kernel_rfl) (by kernel_rfl) ?hQm7 (Or.inl ⟨?hwm7, ?hym7⟩) (by assumption) ?restm7
        case him7 => simp only [MgA, MgB, MgC]; exact rfl
        case hQm7 => exact fun _ _ _ h => h
        case hwm7 => rfl
        case hym7 => ((intro w hSw; (try dsimp only at hSw); go_simp) <;> with_reducible rfl)
        try simp only [Act.put, MsA, MsB, MsC]
        refine wpAnyH_take (i := 9) (oi := ?oim8) (v := ?vm8) ?him8 (by kernel_rfl) (by kernel_rfl) (by kernel_rfl) ?hQm8 (Or.inl ⟨?hwm8, ?hym8⟩) (by assumption) ?restm8
        case him8 => simp only [MgA, MgB, MgC]; exact rfl
        case hQm8 => exact fun _ _ _ h => h
        case hwm8 => rfl
        case hym8 => ((intro wS hSw; have t0 := (hSw.cell (p := ⟨XP, 0, none⟩) hlP).trans y0; have t1 := (hSw.cell (p := ⟨XP, 1, none⟩) hlP).trans y1; have t2 := (hSw.cell (p := ⟨XP, 2, none⟩) hlP).trans y2; have t3 := (hSw.cell (p := ⟨XP, 3, none⟩) hlP).trans y3; go_simp) <;> with_reducible rfl)
        try simp only [Act.put, MsA, MsB, MsC]
        refine wpAnyH_take (i := 10) (oi := ?oim9) (v := ?vm9) ?him9 (by kernel_rfl) (by kernel_rfl) (by kernel_rfl) ?hQm9 (Or.inl ⟨?hwm9, ?hym9⟩) (by assumption) ?restm9
        case him9 => simp only [MgA, MgB, MgC]; exact rfl
        case hQm9 => exact fun _ _ _ h => h
        case hwm9 => rfl
        case hym9 => ((intro w hSw; (try dsimp only at hSw); go_simp) <;> with_reducible rfl)
        try simp only [Act.put, MsA, MsB, MsC]
        refine wpAnyH_ready (rs := [2, 17]) (by kernel_rfl) (by simp) ?_
        refine AllReadyH.cons (o := ?or10_2) ?hor10_2 (fun K hK => ?stepr10_2) (AllReadyH.cons (o := ?or10_17) ?hor10_17 (fun K hK => ?stepr10_17) (AllReadyH.nil))
        case hor10_2 => simp only [MgA, MgB, MgC]; exact rfl
        case hor10_17 => simp only [MgA, MgB, MgC]; exact rfl
        case stepr10_2 =>
          go_simp
          refine (laws_turned A2 m d zb _ (Lst.of_own (own_below TB.two hHeld)) (by omega) HNB.out).mono ?_
          rintro e v2 ⟨⟨vv, rfl, T1⟩, hb2⟩
          replace T1 := own_mono T1 (show wq.heap.size ≤ _ from Below.size hHeld)
          obtain ⟨E1, e1, rfl, _, _⟩ := own_slice T1
          have hB2 : Below wq.heap.size wq v2 := Below.trans hHeld (hb2.mono (Below.size hHeld))
          refine hK.out _ _ ?hSr10_2 (fun hHeld => ?restr10_2)
          case hSr10_2 => exact hB2
          clear hK K
          try simp only [Act.put, MsA, MsB, MsC]
          refine wpAnyH_ready (rs := [5, 17]) (by kernel_rfl) (by simp) ?_
          refine AllReadyH.cons (o := ?or11_5) ?hor11_5 (fun K hK => ?stepr11_5) (AllReadyH.cons (o := ?or11_17) ?hor11_17 (fun K hK => ?stepr11_17) (AllReadyH.nil))
          case hor11_5 => simp only [MgA, MgB, MgC]; exact rfl
          case hor11_17 => simp only [MgA, MgB, MgC]; exact rfl
          case stepr11_5 =>
            go_simp
            refine (laws_turned A1 n c za _ (Lst.of_own (own_below TB.one hHeld)) (by omega) HNA.out).mono ?_
            rintro e v5 ⟨⟨vv, rfl, T2⟩, hb5⟩
            replace T2 := own_mono T2 (show wq.heap.size ≤ _ from Below.size hHeld)
            obtain ⟨E2, e2, rfl, _, _⟩ := own_slice T2
            replace T1 := own_below T1 hb5
            have hB5 : Below wq.heap.size wq v5 := Below.trans hHeld (hb5.mono (Below.size hHeld))
            refine hK.out _ _ ?hSr11_5 (fun hHeld => ?restr11_5)
            case hSr11_5 => exact hB5
            clear hK K
            try simp only [Act.put, MsA, MsB, MsC]
            refine wpAnyH_take (i := 6) (oi := ?oim12) (v := ?vm12) ?him12 (by kernel_rfl) (by kernel_rfl) (by kernel_rfl) ?hQm12 (Or.inl ⟨?hwm12, ?hym12⟩) (by assumption) ?restm12
            case him12 => simp only [MgA, MgB, MgC]; exact rfl
            case hQm12 => exact fun _ _ _ h => h
            case hwm12 => rfl
            case hym12 => ((intro w hSw; (try dsimp only at hSw); go_simp) <;> with_reducible rfl)
            try simp only [Act.put, MsA, MsB, MsC]
            refine wpAnyH_ready (rs := [11, 17]) (by kernel_rfl) (by simp) ?_
            refine AllReadyH.cons (o := ?or13_11) ?hor13_11 (fun K hK => ?stepr13_11) (AllReadyH.cons (o := ?or13_17) ?hor13_17 (fun K hK => ?stepr13_17) (AllReadyH.nil))
            case hor13_11 => simp only [MgA, MgB, MgC]; exact rfl
            case hor13_17 => simp only [MgA, MgB, MgC]; exact rfl
            case stepr13_11 =>
              go_simp
              rw [show IntKind.i64.wrap (3 - s) = 3 - s by rw [IntKind.wrap_i64]; omega]
              refine (HC.out _ E1 E2 e1 e2 T1 T2).mono ?_
              rintro e v7 ⟨⟨t1, t2, t3, rfl, TG, RG⟩, hb7⟩
              replace TG := TG.mono (show wq.heap.size ≤ _ from Below.size hHeld)
              replace RG := own_mono RG (show wq.heap.size ≤ _ from Below.size hHeld)
              obtain ⟨BG, bG, CG, cG, rfl, rfl⟩ := TG.slices
              obtain ⟨EG, eG, rfl, _, _⟩ := own_slice RG
              have hB7 : Below wq.heap.size wq v7 := Below.trans hHeld (hb7.mono (Below.size hHeld))
              clear T1 T2
              refine hK.out _ _ ?hSr13_11 (fun hHeld => ?restr13_11)
              case hSr13_11 => exact hB7
              clear hK K
              try simp only [Act.put, MsA, MsB, MsC]
              refine wpAnyH_take (i := 12) (oi := ?oim14) (v := ?vm14) ?him14 (by kernel_rfl) (by kernel_rfl) (by kernel_rfl) ?hQm14 (Or.inl ⟨?hwm14, ?hym14⟩) (by assumption) ?restm14
              case him14 => simp only [MgA, MgB, MgC]; exact rfl
              case hQm14 => exact fun _ _ _ h => h
              case hwm14 => rfl
              case hym14 => ((intro w hSw; (try dsimp only at hSw); go_simp) <;> with_reducible rfl)
              try simp only [Act.put, MsA, MsB, MsC]
              refine wpAnyH_take (i := 13) (oi := ?oim15) (v := ?vm15) ?him15 (by kernel_rfl) (by kernel_rfl) (by kernel_rfl) ?hQm15 (Or.inl ⟨?hwm15, ?hym15⟩) (by assumption) ?restm15
              case him15 => simp only [MgA, MgB, MgC]; exact rfl
              case hQm15 => exact fun _ _ _ h => h
              case hwm15 => rfl
              case hym15 => ((intro w hSw; (try dsimp only at hSw); go_simp) <;> with_reducible rfl)
              try simp only [Act.put, MsA, MsB, MsC]
              refine wpAnyH_take (i := 14) (oi := ?oim16) (v := ?vm16) ?him16 (by kernel_rfl) (by kernel_rfl) (by kernel_rfl) ?hQm16 (Or.inl ⟨?hwm16, ?hym16⟩) (by assumption) ?restm16
              case him16 => simp only [MgA, MgB, MgC]; exact rfl
              case hQm16 => exact fun _ _ _ h => h
              case hwm16 => rfl
              case hym16 => ((intro w hSw; (try dsimp only at hSw); go_simp) <;> with_reducible rfl)
              try simp only [Act.put, MsA, MsB, MsC]
              refine wpAnyH_take (i := 15) (oi := ?oim17) (v := ?vm17) ?him17 (by kernel_rfl) (by kernel_rfl) (by kernel_rfl) ?hQm17 (Or.inl ⟨?hwm17, ?hym17⟩) (by assumption) ?restm17
              case him17 => simp only [MgA, MgB, MgC]; exact rfl
              case hQm17 => exact fun _ _ _ h => h
              case hwm17 => rfl
              case hym17 => ((intro w hSw; (try dsimp only at hSw); go_simp) <;> with_reducible rfl)
              try simp only [Act.put, MsA, MsB, MsC]
              refine wpAnyH_take (i := 16) (oi := ?oim18) (v := ?vm18) ?him18 (by kernel_rfl) (by kernel_rfl) (by kernel_rfl) ?hQm18 (Or.inl ⟨?hwm18, ?hym18⟩) (by assumption) ?restm18
              case him18 => simp only [MgA, MgB, MgC]; exact rfl
              case hQm18 => exact fun _ _ _ h => h
              case hwm18 => rfl
              case hym18 => ((intro w hSw; (try dsimp only at hSw); go_simp) <;> with_reducible rfl)
              try simp only [Act.put, MsA, MsB, MsC]
              refine wpAnyH_ready (rs := [17]) (by kernel_rfl) (by simp) ?_
              refine AllReadyH.cons (o := ?or19_17) ?hor19_17 (fun K hK => ?stepr19_17) (AllReadyH.nil)
              case hor19_17 => simp only [MgA, MgB, MgC]; exact rfl
              case stepr19_17 =>
                go_simp
                have kQ : (v7.alloc (.cells #[.slice none 0 0, .slice none 0 0] 26)).heap[v7.heap.size]? = some (.cells #[.slice none 0 0, .slice none 0 0] 26) := heap_alloc_new v7 (.cells #[.slice none 0 0, .slice none 0 0] 26)
                have hC6 : wq.heap.size ≤ v7.heap.size := Below.size hHeld
                have hba : Below v7.heap.size v7 (v7.alloc (.cells #[.slice none 0 0, .slice none 0 0] 26)) := (Below.refl _ _).alloc (Nat.le_refl _) _
                replace TG := TG.below hba
                replace RG := own_below RG hba
                clear hba
                have hB6 : Below wq.heap.size wq (v7.alloc (.cells #[.slice none 0 0, .slice none 0 0] 26)) := Below.alloc hHeld (Below.size hHeld) _
                refine hK.out _ _ ?hSr19_17 (fun hHeld => ?restr19_17)
                case hSr19_17 => exact hB6
                clear hK K
                try simp only [Act.put, MsA, MsB, MsC]
                refine wpAnyH_ready (rs := [18]) (by kernel_rfl) (by simp) ?_
                refine AllReadyH.cons (o := ?or20_18) ?hor20_18 (fun K hK => ?stepr20_18) (AllReadyH.nil)
                case hor20_18 => simp only [MgA, MgB, MgC]; exact rfl
                case stepr20_18 =>
                  generalize (v7.alloc (.cells #[.slice none 0 0, .slice none 0 0] 26)) = wa at *
                  obtain ⟨q0, q1, g0, g1⟩ := mir_cell2 kQ
                  have HQ := Lib.hid kQ
                  have TG1 := own_set_kind (i := 0) (u := (.slice BG N2 bG)) TG.one kQ (by decide)
                  have TG2 := own_set_kind (i := 0) (u := (.slice BG N2 bG)) TG.two kQ (by decide)
                  have RG1 := own_set_kind (i := 0) (u := (.slice BG N2 bG)) RG kQ (by decide)
                  have kQ1 : (wa.setCell ⟨v7.heap.size, 0, none⟩ (.slice BG N2 bG)).heap[v7.heap.size]? = some (.cells #[(.slice BG N2 bG), .slice none 0 0] 26) := mir_set0 kQ
                  replace TG1 := own_set_kind (i := 1) (u := (.slice CG N1 cG)) TG1 kQ1 (by decide)
                  replace TG2 := own_set_kind (i := 1) (u := (.slice CG N1 cG)) TG2 kQ1 (by decide)
                  replace RG1 := own_set_kind (i := 1) (u := (.slice CG N1 cG)) RG1 kQ1 (by decide)
                  have kQ2 : ((wa.setCell ⟨v7.heap.size, 0, none⟩ (.slice BG N2 bG)).setCell ⟨v7.heap.size, 1, none⟩ (.slice CG N1 cG)).heap[v7.heap.size]? = some (.cells #[(.slice BG N2 bG), (.slice CG N1 cG)] 26) := mset2 kQ
                  have hBz : Below wq.heap.size wq ((wa.setCell ⟨v7.heap.size, 0, none⟩ (.slice BG N2 bG)).setCell ⟨v7.heap.size, 1, none⟩ (.slice CG N1 cG)) := (Below.setCell hHeld (p := ⟨v7.heap.size, 0, none⟩) hC6 (.slice BG N2 bG)).setCell (p := ⟨v7.heap.size, 1, none⟩) hC6 (.slice CG N1 cG)
                  have HT1 := Lib.hid TG1
                  have HT2 := Lib.hid TG2
                  have HG1 := Lib.hid RG1
                  have HQ2 := Lib.hid kQ2
                  clear TG RG kQ TG1 TG2 RG1 kQ1 kQ2
                  go_simp
                  refine hK.out _ _ ?hSr20_18 (fun hHeld => ?restr20_18)
                  case hSr20_18 => exact hBz
                  clear hK K
                  try simp only [Act.put, MsA, MsB, MsC]
                  refine wpAnyH_take (i := 19) (oi := ?oim21) (v := ?vm21) ?him21 (by kernel_rfl) (by kernel_rfl) (by kernel_rfl) ?hQm21 (Or.inl ⟨?hwm21, ?hym21⟩) (by assumption) ?restm21
                  case him21 => simp only [MgA, MgB, MgC]; exact rfl
                  case hQm21 => exact fun _ _ _ h => h
                  case hwm21 => rfl
                  case hym21 => ((intro w hSw; (try dsimp only at hSw); go_simp) <;> with_reducible rfl)
                  try simp only [Act.put, MsA, MsB, MsC]
                  refine wpAnyH_take (i := 20) (oi := ?oim22) (v := ?vm22) ?him22 (by kernel_rfl) (by kernel_rfl) (by kernel_rfl) ?hQm22 (Or.inl ⟨?hwm22, ?hym22⟩) (by assumption) ?restm22
                  case him22 => simp only [MgA, MgB, MgC]; exact rfl
                  case hQm22 => exact fun _ _ _ h => h
                  case hwm22 => rfl
                  case hym22 => ((intro w hSw; (try dsimp only at hSw); go_simp) <;> with_reducible rfl)
                  try simp only [Act.put, MsA, MsB, MsC]
                  refine wpAnyH_take (i := 21) (oi := ?oim23) (v := ?vm23) ?him23 (by kernel_rfl) (by kernel_rfl) (by kernel_rfl) ?hQm23 (Or.inl ⟨?hwm23, ?hym23⟩) (by assumption) ?restm23
                  case him23 => simp only [MgA, MgB, MgC]; exact rfl
                  case hQm23 => exact fun _ _ _ h => h
                  case hwm23 => rfl
                  case hym23 => ((intro w hSw; (try dsimp only at hSw); go_simp) <;> with_reducible rfl)
                  try simp only [Act.put, MsA, MsB, MsC]
                  refine wpAnyH_done (by kernel_rfl) ?_ _
                  have kQ := HQ2.out
                  have TG1 := HT1.out
                  have TG2 := HT2.out
                  have RG := HG1.out
                  have hBq := hBz
                  clear hHeld hBz HQ2 HT1 HT2 HG1 HQ q0 q1 g0 g1
                  generalize ((wa.setCell ⟨v7.heap.size, 0, none⟩ (.slice BG N2 bG)).setCell ⟨v7.heap.size, 1, none⟩ (.slice CG N1 cG)) = wr at *
                  go_wp2_with fail
                  go_meet
                  exact ⟨_, _, _, rfl, rfl, rfl, rfl, ⟨_, _, _, _, kQ, TG1, TG2⟩, RG, hBq⟩
            case stepr13_17 =>
              go_simp
              have kQ : (v5.alloc (.cells #[.slice none 0 0, .slice none 0 0] 26)).heap[v5.heap.size]? = some (.cells #[.slice none 0 0, .slice none 0 0] 26) := heap_alloc_new v5 (.cells #[.slice none 0 0, .slice none 0 0] 26)
              have hC6 : wq.heap.size ≤ v5.heap.size := Below.size hHeld
              have hba : Below v5.heap.size v5 (v5.alloc (.cells #[.slice none 0 0, .slice none 0 0] 26)) := (Below.refl _ _).alloc (Nat.le_refl _) _
              replace T1 := own_below T1 hba
              replace T2 := own_below T2 hba
              clear hba
              have hB6 : Below wq.heap.size wq (v5.alloc (.cells #[.slice none 0 0, .slice none 0 0] 26)) := Below.alloc hHeld (Below.size hHeld) _
              refine hK.out _ _ ?hSr13_17 (fun hHeld => ?restr13_17)
              case hSr13_17 => exact hB6
              clear hK K
              try simp only [Act.put, MsA, MsB, MsC]
              refine wpAnyH_ready (rs := [11]) (by kernel_rfl) (by simp) ?_
              refine AllReadyH.cons (o := ?or24_11) ?hor24_11 (fun K hK => ?stepr24_11) (AllReadyH.nil)
              case hor24_11 => simp only [MgA, MgB, MgC]; exact rfl
              case stepr24_11 =>
                go_simp
                rw [show IntKind.i64.wrap (3 - s) = 3 - s by rw [IntKind.wrap_i64]; omega]
                refine (HC.out _ E1 E2 e1 e2 T1 T2).mono ?_
                rintro e v7 ⟨⟨t1, t2, t3, rfl, TG, RG⟩, hb7⟩
                replace TG := TG.mono (show wq.heap.size ≤ _ from Below.size hHeld)
                replace RG := own_mono RG (show wq.heap.size ≤ _ from Below.size hHeld)
                obtain ⟨BG, bG, CG, cG, rfl, rfl⟩ := TG.slices
                obtain ⟨EG, eG, rfl, _, _⟩ := own_slice RG
                replace kQ := (hb7.block _ (heap_lt kQ)).trans kQ
                have hB7 : Below wq.heap.size wq v7 := Below.trans hHeld (hb7.mono (Below.size hHeld))
                clear T1 T2
                refine hK.out _ _ ?hSr24_11 (fun hHeld => ?restr24_11)
                case hSr24_11 => exact hB7
                clear hK K
                try simp only [Act.put, MsA, MsB, MsC]
                refine wpAnyH_take (i := 12) (oi := ?oim25) (v := ?vm25) ?him25 (by kernel_rfl) (by kernel_rfl) (by kernel_rfl) ?hQm25 (Or.inl ⟨?hwm25, ?hym25⟩) (by assumption) ?restm25
                case him25 => simp only [MgA, MgB, MgC]; exact rfl
                case hQm25 => exact fun _ _ _ h => h
                case hwm25 => rfl
                case hym25 => ((intro w hSw; (try dsimp only at hSw); go_simp) <;> with_reducible rfl)
                try simp only [Act.put, MsA, MsB, MsC]
                refine wpAnyH_take (i := 13) (oi := ?oim26) (v := ?vm26) ?him26 (by kernel_rfl) (by kernel_rfl) (by kernel_rfl) ?hQm26 (Or.inl ⟨?hwm26, ?hym26⟩) (by assumption) ?restm26
                case him26 => simp only [MgA, MgB, MgC]; exact rfl
                case hQm26 => exact fun _ _ _ h => h
                case hwm26 => rfl
                case hym26 => ((intro w hSw; (try dsimp only at hSw); go_simp) <;> with_reducible rfl)
                try simp only [Act.put, MsA, MsB, MsC]
                refine wpAnyH_take (i := 14) (oi := ?oim27) (v := ?vm27) ?him27 (by kernel_rfl) (by kernel_rfl) (by kernel_rfl) ?hQm27 (Or.inl ⟨?hwm27, ?hym27⟩) (by assumption) ?restm27
                case him27 => simp only [MgA, MgB, MgC]; exact rfl
                case hQm27 => exact fun _ _ _ h => h
                case hwm27 => rfl
                case hym27 => ((intro w hSw; (try dsimp only at hSw); go_simp) <;> with_reducible rfl)
                try simp only [Act.put, MsA, MsB, MsC]
                refine wpAnyH_take (i := 15) (oi := ?oim28) (v := ?vm28) ?him28 (by kernel_rfl) (by kernel_rfl) (by kernel_rfl) ?hQm28 (Or.inl ⟨?hwm28, ?hym28⟩) (by assumption) ?restm28
                case him28 => simp only [MgA, MgB, MgC]; exact rfl
                case hQm28 => exact fun _ _ _ h => h
                case hwm28 => rfl
                case hym28 => ((intro w hSw; (try dsimp only at hSw); go_simp) <;> with_reducible rfl)
                try simp only [Act.put, MsA, MsB, MsC]
                refine wpAnyH_take (i := 16) (oi := ?oim29) (v := ?vm29) ?him29 (by kernel_rfl) (by kernel_rfl) (by kernel_rfl) ?hQm29 (Or.inl ⟨?hwm29, ?hym29⟩) (by assumption) ?restm29
                case him29 => simp only [MgA, MgB, MgC]; exact rfl
                case hQm29 => exact fun _ _ _ h => h
                case hwm29 => rfl
                case hym29 => ((intro w hSw; (try dsimp only at hSw); go_simp) <;> with_reducible rfl)
                try simp only [Act.put, MsA, MsB, MsC]
                refine wpAnyH_ready (rs := [18]) (by kernel_rfl) (by simp) ?_
                refine AllReadyH.cons (o := ?or30_18) ?hor30_18 (fun K hK => ?stepr30_18) (AllReadyH.nil)
                case hor30_18 => simp only [MgA, MgB, MgC]; exact rfl
                case stepr30_18 =>
                  obtain ⟨q0, q1, g0, g1⟩ := mir_cell2 kQ
                  have HQ := Lib.hid kQ
                  have TG1 := own_set_kind (i := 0) (u := (.slice BG N2 bG)) TG.one kQ (by decide)
                  have TG2 := own_set_kind (i := 0) (u := (.slice BG N2 bG)) TG.two kQ (by decide)
                  have RG1 := own_set_kind (i := 0) (u := (.slice BG N2 bG)) RG kQ (by decide)
                  have kQ1 : (v7.setCell ⟨v5.heap.size, 0, none⟩ (.slice BG N2 bG)).heap[v5.heap.size]? = some (.cells #[(.slice BG N2 bG), .slice none 0 0] 26) := mir_set0 kQ
                  replace TG1 := own_set_kind (i := 1) (u := (.slice CG N1 cG)) TG1 kQ1 (by decide)
                  replace TG2 := own_set_kind (i := 1) (u := (.slice CG N1 cG)) TG2 kQ1 (by decide)
                  replace RG1 := own_set_kind (i := 1) (u := (.slice CG N1 cG)) RG1 kQ1 (by decide)
                  have kQ2 : ((v7.setCell ⟨v5.heap.size, 0, none⟩ (.slice BG N2 bG)).setCell ⟨v5.heap.size, 1, none⟩ (.slice CG N1 cG)).heap[v5.heap.size]? = some (.cells #[(.slice BG N2 bG), (.slice CG N1 cG)] 26) := mset2 kQ
                  have hBz : Below wq.heap.size wq ((v7.setCell ⟨v5.heap.size, 0, none⟩ (.slice BG N2 bG)).setCell ⟨v5.heap.size, 1, none⟩ (.slice CG N1 cG)) := (Below.setCell hHeld (p := ⟨v5.heap.size, 0, none⟩) hC6 (.slice BG N2 bG)).setCell (p := ⟨v5.heap.size, 1, none⟩) hC6 (.slice CG N1 cG)
                  have HT1 := Lib.hid TG1
                  have HT2 := Lib.hid TG2
                  have HG1 := Lib.hid RG1
                  have HQ2 := Lib.hid kQ2
                  clear TG RG kQ TG1 TG2 RG1 kQ1 kQ2
                  go_simp
                  refine hK.out _ _ ?hSr30_18 (fun hHeld => ?restr30_18)
                  case hSr30_18 => exact hBz
                  clear hK K
                  try simp only [Act.put, MsA, MsB, MsC]
                  refine wpAnyH_take (i := 19) (oi := ?oim31) (v := ?vm31) ?him31 (by kernel_rfl) (by kernel_rfl) (by kernel_rfl) ?hQm31 (Or.inl ⟨?hwm31, ?hym31⟩) (by assumption) ?restm31
                  case him31 => simp only [MgA, MgB, MgC]; exact rfl
                  case hQm31 => exact fun _ _ _ h => h
                  case hwm31 => rfl
                  case hym31 => ((intro w hSw; (try dsimp only at hSw); go_simp) <;> with_reducible rfl)
                  try simp only [Act.put, MsA, MsB, MsC]
                  refine wpAnyH_take (i := 20) (oi := ?oim32) (v := ?vm32) ?him32 (by kernel_rfl) (by kernel_rfl) (by kernel_rfl) ?hQm32 (Or.inl ⟨?hwm32, ?hym32⟩) (by assumption) ?restm32
                  case him32 => simp only [MgA, MgB, MgC]; exact rfl
                  case hQm32 => exact fun _ _ _ h => h
                  case hwm32 => rfl
                  case hym32 => ((intro w hSw; (try dsimp only at hSw); go_simp) <;> with_reducible rfl)
                  try simp only [Act.put, MsA, MsB, MsC]
                  refine wpAnyH_take (i := 21) (oi := ?oim33) (v := ?vm33) ?him33 (by kernel_rfl) (by kernel_rfl) (by kernel_rfl) ?hQm33 (Or.inl ⟨?hwm33, ?hym33⟩) (by assumption) ?restm33
                  case him33 => simp only [MgA, MgB, MgC]; exact rfl
                  case hQm33 => exact fun _ _ _ h => h
                  case hwm33 => rfl
                  case hym33 => ((intro w hSw; (try dsimp only at hSw); go_simp) <;> with_reducible rfl)
                  try simp only [Act.put, MsA, MsB, MsC]
                  refine wpAnyH_done (by kernel_rfl) ?_ _
                  have kQ := HQ2.out
                  have TG1 := HT1.out
                  have TG2 := HT2.out
                  have RG := HG1.out
                  have hBq := hBz
                  clear hHeld hBz HQ2 HT1 HT2 HG1 HQ q0 q1 g0 g1
                  generalize ((v7.setCell ⟨v5.heap.size, 0, none⟩ (.slice BG N2 bG)).setCell ⟨v5.heap.size, 1, none⟩ (.slice CG N1 cG)) = wr at *
                  go_wp2_with fail
                  go_meet
                  exact ⟨_, _, _, rfl, rfl, rfl, rfl, ⟨_, _, _, _, kQ, TG1, TG2⟩, RG, hBq⟩
          case stepr11_17 =>
            go_simp
            have kQ : (v2.alloc (.cells #[.slice none 0 0, .slice none 0 0] 26)).heap[v2.heap.size]? = some (.cells #[.slice none 0 0, .slice none 0 0] 26) := heap_alloc_new v2 (.cells #[.slice none 0 0, .slice none 0 0] 26)
            have hC6 : wq.heap.size ≤ v2.heap.size := Below.size hHeld
            have hba : Below v2.heap.size v2 (v2.alloc (.cells #[.slice none 0 0, .slice none 0 0] 26)) := (Below.refl _ _).alloc (Nat.le_refl _) _
            replace T1 := own_below T1 hba
            clear hba
            have hB6 : Below wq.heap.size wq (v2.alloc (.cells #[.slice none 0 0, .slice none 0 0] 26)) := Below.alloc hHeld (Below.size hHeld) _
            refine hK.out _ _ ?hSr11_17 (fun hHeld => ?restr11_17)
            case hSr11_17 => exact hB6
            clear hK K
            try simp only [Act.put, MsA, MsB, MsC]
            refine wpAnyH_ready (rs := [5]) (by kernel_rfl) (by simp) ?_
            refine AllReadyH.cons (o := ?or34_5) ?hor34_5 (fun K hK => ?stepr34_5) (AllReadyH.nil)
            case hor34_5 => simp only [MgA, MgB, MgC]; exact rfl
            case stepr34_5 =>
              go_simp
              refine (laws_turned A1 n c za _ (Lst.of_own (own_below TB.one hHeld)) (by omega) HNA.out).mono ?_
              rintro e v5 ⟨⟨vv, rfl, T2⟩, hb5⟩
              replace T2 := own_mono T2 (show wq.heap.size ≤ _ from Below.size hHeld)
              obtain ⟨E2, e2, rfl, _, _⟩ := own_slice T2
              replace T1 := own_below T1 hb5
              replace kQ := (hb5.block _ (heap_lt kQ)).trans kQ
              have hB5 : Below wq.heap.size wq v5 := Below.trans hHeld (hb5.mono (Below.size hHeld))
              refine hK.out _ _ ?hSr34_5 (fun hHeld => ?restr34_5)
              case hSr34_5 => exact hB5
              clear hK K
              try simp only [Act.put, MsA, MsB, MsC]
              refine wpAnyH_take (i := 6) (oi := ?oim35) (v := ?vm35) ?him35 (by kernel_rfl) (by kernel_rfl) (by kernel_rfl) ?hQm35 (Or.inl ⟨?hwm35, ?hym35⟩) (by assumption) ?restm35
              case him35 => simp only [MgA, MgB, MgC]; exact rfl
              case hQm35 => exact fun _ _ _ h => h
              case hwm35 => rfl
              case hym35 => ((intro w hSw; (try dsimp only at hSw); go_simp) <;> with_reducible rfl)
              try simp only [Act.put, MsA, MsB, MsC]
              refine wpAnyH_ready (rs := [11]) (by kernel_rfl) (by simp) ?_
              refine AllReadyH.cons (o := ?or36_11) ?hor36_11 (fun K hK => ?stepr36_11) (AllReadyH.nil)
              case hor36_11 => simp only [MgA, MgB, MgC]; exact rfl
              case stepr36_11 =>
                go_simp
                rw [show IntKind.i64.wrap (3 - s) = 3 - s by rw [IntKind.wrap_i64]; omega]
                refine (HC.out _ E1 E2 e1 e2 T1 T2).mono ?_
                rintro e v7 ⟨⟨t1, t2, t3, rfl, TG, RG⟩, hb7⟩
                replace TG := TG.mono (show wq.heap.size ≤ _ from Below.size hHeld)
                replace RG := own_mono RG (show wq.heap.size ≤ _ from Below.size hHeld)
                obtain ⟨BG, bG, CG, cG, rfl, rfl⟩ := TG.slices
                obtain ⟨EG, eG, rfl, _, _⟩ := own_slice RG
                replace kQ := (hb7.block _ (heap_lt kQ)).trans kQ
                have hB7 : Below wq.heap.size wq v7 := Below.trans hHeld (hb7.mono (Below.size hHeld))
                clear T1 T2
                refine hK.out _ _ ?hSr36_11 (fun hHeld => ?restr36_11)
                case hSr36_11 => exact hB7
                clear hK K
                try simp only [Act.put, MsA, MsB, MsC]
                refine wpAnyH_take (i := 12) (oi := ?oim37) (v := ?vm37) ?him37 (by kernel_rfl) (by kernel_rfl) (by kernel_rfl) ?hQm37 (Or.inl ⟨?hwm37, ?hym37⟩) (by assumption) ?restm37
                case him37 => simp only [MgA, MgB, MgC]; exact rfl
                case hQm37 => exact fun _ _ _ h => h
                case hwm37 => rfl
                case hym37 => ((intro w hSw; (try dsimp only at hSw); go_simp) <;> with_reducible rfl)
                try simp only [Act.put, MsA, MsB, MsC]
                refine wpAnyH_take (i := 13) (oi := ?oim38) (v := ?vm38) ?him38 (by kernel_rfl) (by kernel_rfl) (by kernel_rfl) ?hQm38 (Or.inl ⟨?hwm38, ?hym38⟩) (by assumption) ?restm38
                case him38 => simp only [MgA, MgB, MgC]; exact rfl
                case hQm38 => exact fun _ _ _ h => h
                case hwm38 => rfl
                case hym38 => ((intro w hSw; (try dsimp only at hSw); go_simp) <;> with_reducible rfl)
                try simp only [Act.put, MsA, MsB, MsC]
                refine wpAnyH_take (i := 14) (oi := ?oim39) (v := ?vm39) ?him39 (by kernel_rfl) (by kernel_rfl) (by kernel_rfl) ?hQm39 (Or.inl ⟨?hwm39, ?hym39⟩) (by assumption) ?restm39
                case him39 => simp only [MgA, MgB, MgC]; exact rfl
                case hQm39 => exact fun _ _ _ h => h
                case hwm39 => rfl
                case hym39 => ((intro w hSw; (try dsimp only at hSw); go_simp) <;> with_reducible rfl)
                try simp only [Act.put, MsA, MsB, MsC]
                refine wpAnyH_take (i := 15) (oi := ?oim40) (v := ?vm40) ?him40 (by kernel_rfl) (by kernel_rfl) (by kernel_rfl) ?hQm40 (Or.inl ⟨?hwm40, ?hym40⟩) (by assumption) ?restm40
                case him40 => simp only [MgA, MgB, MgC]; exact rfl
                case hQm40 => exact fun _ _ _ h => h
                case hwm40 => rfl
                case hym40 => ((intro w hSw; (try dsimp only at hSw); go_simp) <;> with_reducible rfl)
                try simp only [Act.put, MsA, MsB, MsC]
                refine wpAnyH_take (i := 16) (oi := ?oim41) (v := ?vm41) ?him41 (by kernel_rfl) (by kernel_rfl) (by kernel_rfl) ?hQm41 (Or.inl ⟨?hwm41, ?hym41⟩) (by assumption) ?restm41
                case him41 => simp only [MgA, MgB, MgC]; exact rfl
                case hQm41 => exact fun _ _ _ h => h
                case hwm41 => rfl
                case hym41 => ((intro w hSw; (try dsimp only at hSw); go_simp) <;> with_reducible rfl)
                try simp only [Act.put, MsA, MsB, MsC]
                refine wpAnyH_ready (rs := [18]) (by kernel_rfl) (by simp) ?_
                refine AllReadyH.cons (o := ?or42_18) ?hor42_18 (fun K hK => ?stepr42_18) (AllReadyH.nil)
                case hor42_18 => simp only [MgA, MgB, MgC]; exact rfl
                case stepr42_18 =>
                  obtain ⟨q0, q1, g0, g1⟩ := mir_cell2 kQ
                  have HQ := Lib.hid kQ
                  have TG1 := own_set_kind (i := 0) (u := (.slice BG N2 bG)) TG.one kQ (by decide)
                  have TG2 := own_set_kind (i := 0) (u := (.slice BG N2 bG)) TG.two kQ (by decide)
                  have RG1 := own_set_kind (i := 0) (u := (.slice BG N2 bG)) RG kQ (by decide)
                  have kQ1 : (v7.setCell ⟨v2.heap.size, 0, none⟩ (.slice BG N2 bG)).heap[v2.heap.size]? = some (.cells #[(.slice BG N2 bG), .slice none 0 0] 26) := mir_set0 kQ
                  replace TG1 := own_set_kind (i := 1) (u := (.slice CG N1 cG)) TG1 kQ1 (by decide)
                  replace TG2 := own_set_kind (i := 1) (u := (.slice CG N1 cG)) TG2 kQ1 (by decide)
                  replace RG1 := own_set_kind (i := 1) (u := (.slice CG N1 cG)) RG1 kQ1 (by decide)
                  have kQ2 : ((v7.setCell ⟨v2.heap.size, 0, none⟩ (.slice BG N2 bG)).setCell ⟨v2.heap.size, 1, none⟩ (.slice CG N1 cG)).heap[v2.heap.size]? = some (.cells #[(.slice BG N2 bG), (.slice CG N1 cG)] 26) := mset2 kQ
                  have hBz : Below wq.heap.size wq ((v7.setCell ⟨v2.heap.size, 0, none⟩ (.slice BG N2 bG)).setCell ⟨v2.heap.size, 1, none⟩ (.slice CG N1 cG)) := (Below.setCell hHeld (p := ⟨v2.heap.size, 0, none⟩) hC6 (.slice BG N2 bG)).setCell (p := ⟨v2.heap.size, 1, none⟩) hC6 (.slice CG N1 cG)
                  have HT1 := Lib.hid TG1
                  have HT2 := Lib.hid TG2
                  have HG1 := Lib.hid RG1
                  have HQ2 := Lib.hid kQ2
                  clear TG RG kQ TG1 TG2 RG1 kQ1 kQ2
                  go_simp
                  refine hK.out _ _ ?hSr42_18 (fun hHeld => ?restr42_18)
                  case hSr42_18 => exact hBz
                  clear hK K
                  try simp only [Act.put, MsA, MsB, MsC]
                  refine wpAnyH_take (i := 19) (oi := ?oim43) (v := ?vm43) ?him43 (by kernel_rfl) (by kernel_rfl) (by kernel_rfl) ?hQm43 (Or.inl ⟨?hwm43, ?hym43⟩) (by assumption) ?restm43
                  case him43 => simp only [MgA, MgB, MgC]; exact rfl
                  case hQm43 => exact fun _ _ _ h => h
                  case hwm43 => rfl
                  case hym43 => ((intro w hSw; (try dsimp only at hSw); go_simp) <;> with_reducible rfl)
                  try simp only [Act.put, MsA, MsB, MsC]
                  refine wpAnyH_take (i := 20) (oi := ?oim44) (v := ?vm44) ?him44 (by kernel_rfl) (by kernel_rfl) (by kernel_rfl) ?hQm44 (Or.inl ⟨?hwm44, ?hym44⟩) (by assumption) ?restm44
                  case him44 => simp only [MgA, MgB, MgC]; exact rfl
                  case hQm44 => exact fun _ _ _ h => h
                  case hwm44 => rfl
                  case hym44 => ((intro w hSw; (try dsimp only at hSw); go_simp) <;> with_reducible rfl)
                  try simp only [Act.put, MsA, MsB, MsC]
                  refine wpAnyH_take (i := 21) (oi := ?oim45) (v := ?vm45) ?him45 (by kernel_rfl) (by kernel_rfl) (by kernel_rfl) ?hQm45 (Or.inl ⟨?hwm45, ?hym45⟩) (by assumption) ?restm45
                  case him45 => simp only [MgA, MgB, MgC]; exact rfl
                  case hQm45 => exact fun _ _ _ h => h
                  case hwm45 => rfl
                  case hym45 => ((intro w hSw; (try dsimp only at hSw); go_simp) <;> with_reducible rfl)
                  try simp only [Act.put, MsA, MsB, MsC]
                  refine wpAnyH_done (by kernel_rfl) ?_ _
                  have kQ := HQ2.out
                  have TG1 := HT1.out
                  have TG2 := HT2.out
                  have RG := HG1.out
                  have hBq := hBz
                  clear hHeld hBz HQ2 HT1 HT2 HG1 HQ q0 q1 g0 g1
                  generalize ((v7.setCell ⟨v2.heap.size, 0, none⟩ (.slice BG N2 bG)).setCell ⟨v2.heap.size, 1, none⟩ (.slice CG N1 cG)) = wr at *
                  go_wp2_with fail
                  go_meet
                  exact ⟨_, _, _, rfl, rfl, rfl, rfl, ⟨_, _, _, _, kQ, TG1, TG2⟩, RG, hBq⟩
        case stepr10_17 =>
          go_simp
          have kQ : (wq.drew.alloc (.cells #[.slice none 0 0, .slice none 0 0] 26)).heap[wq.heap.size]? = some (.cells #[.slice none 0 0, .slice none 0 0] 26) := heap_alloc_new wq.drew (.cells #[.slice none 0 0, .slice none 0 0] 26)
          have hC6 : wq.heap.size ≤ wq.heap.size := Nat.le_refl _
          have hba : Below wq.drew.heap.size wq.drew (wq.drew.alloc (.cells #[.slice none 0 0, .slice none 0 0] 26)) := (Below.refl _ _).alloc (Nat.le_refl _) _
          clear hba
          have hB6 : Below wq.heap.size wq (wq.drew.alloc (.cells #[.slice none 0 0, .slice none 0 0] 26)) := Below.alloc hHeld (Below.size hHeld) _
          refine hK.out _ _ ?hSr10_17 (fun hHeld => ?restr10_17)
          case hSr10_17 => exact hB6
          clear hK K
          try simp only [Act.put, MsA, MsB, MsC]
          refine wpAnyH_ready (rs := [2]) (by kernel_rfl) (by simp) ?_
          refine AllReadyH.cons (o := ?or46_2) ?hor46_2 (fun K hK => ?stepr46_2) (AllReadyH.nil)
          case hor46_2 => simp only [MgA, MgB, MgC]; exact rfl
          case stepr46_2 =>
            go_simp
            refine (laws_turned A2 m d zb _ (Lst.of_own (own_below TB.two hHeld)) (by omega) HNB.out).mono ?_
            rintro e v2 ⟨⟨vv, rfl, T1⟩, hb2⟩
            replace T1 := own_mono T1 (show wq.heap.size ≤ _ from Below.size hHeld)
            obtain ⟨E1, e1, rfl, _, _⟩ := own_slice T1
            replace kQ := (hb2.block _ (heap_lt kQ)).trans kQ
            have hB2 : Below wq.heap.size wq v2 := Below.trans hHeld (hb2.mono (Below.size hHeld))
            refine hK.out _ _ ?hSr46_2 (fun hHeld => ?restr46_2)
            case hSr46_2 => exact hB2
            clear hK K
            try simp only [Act.put, MsA, MsB, MsC]
            refine wpAnyH_ready (rs := [5]) (by kernel_rfl) (by simp) ?_
            refine AllReadyH.cons (o := ?or47_5) ?hor47_5 (fun K hK => ?stepr47_5) (AllReadyH.nil)
            case hor47_5 => simp only [MgA, MgB, MgC]; exact rfl
            case stepr47_5 =>
              go_simp
              refine (laws_turned A1 n c za _ (Lst.of_own (own_below TB.one hHeld)) (by omega) HNA.out).mono ?_
              rintro e v5 ⟨⟨vv, rfl, T2⟩, hb5⟩
              replace T2 := own_mono T2 (show wq.heap.size ≤ _ from Below.size hHeld)
              obtain ⟨E2, e2, rfl, _, _⟩ := own_slice T2
              replace T1 := own_below T1 hb5
              replace kQ := (hb5.block _ (heap_lt kQ)).trans kQ
              have hB5 : Below wq.heap.size wq v5 := Below.trans hHeld (hb5.mono (Below.size hHeld))
              refine hK.out _ _ ?hSr47_5 (fun hHeld => ?restr47_5)
              case hSr47_5 => exact hB5
              clear hK K
              try simp only [Act.put, MsA, MsB, MsC]
              refine wpAnyH_take (i := 6) (oi := ?oim48) (v := ?vm48) ?him48 (by kernel_rfl) (by kernel_rfl) (by kernel_rfl) ?hQm48 (Or.inl ⟨?hwm48, ?hym48⟩) (by assumption) ?restm48
              case him48 => simp only [MgA, MgB, MgC]; exact rfl
              case hQm48 => exact fun _ _ _ h => h
              case hwm48 => rfl
              case hym48 => ((intro w hSw; (try dsimp only at hSw); go_simp) <;> with_reducible rfl)
              try simp only [Act.put, MsA, MsB, MsC]
              refine wpAnyH_ready (rs := [11]) (by kernel_rfl) (by simp) ?_
              refine AllReadyH.cons (o := ?or49_11) ?hor49_11 (fun K hK => ?stepr49_11) (AllReadyH.nil)
              case hor49_11 => simp only [MgA, MgB, MgC]; exact rfl
              case stepr49_11 =>
                go_simp
                rw [show IntKind.i64.wrap (3 - s) = 3 - s by rw [IntKind.wrap_i64]; omega]
                refine (HC.out _ E1 E2 e1 e2 T1 T2).mono ?_
                rintro e v7 ⟨⟨t1, t2, t3, rfl, TG, RG⟩, hb7⟩
                replace TG := TG.mono (show wq.heap.size ≤ _ from Below.size hHeld)
                replace RG := own_mono RG (show wq.heap.size ≤ _ from Below.size hHeld)
                obtain ⟨BG, bG, CG, cG, rfl, rfl⟩ := TG.slices
                obtain ⟨EG, eG, rfl, _, _⟩ := own_slice RG
                replace kQ := (hb7.block _ (heap_lt kQ)).trans kQ
                have hB7 : Below wq.heap.size wq v7 := Below.trans hHeld (hb7.mono (Below.size hHeld))
                clear T1 T2
                refine hK.out _ _ ?hSr49_11 (fun hHeld => ?restr49_11)
                case hSr49_11 => exact hB7
                clear hK K
                try simp only [Act.put, MsA, MsB, MsC]
                refine wpAnyH_take (i := 12) (oi := ?oim50) (v := ?vm50) ?him50 (by kernel_rfl) (by kernel_rfl) (by kernel_rfl) ?hQm50 (Or.inl ⟨?hwm50, ?hym50⟩) (by assumption) ?restm50
                case him50 => simp only [MgA, MgB, MgC]; exact rfl
                case hQm50 => exact fun _ _ _ h => h
                case hwm50 => rfl
                case hym50 => ((intro w hSw; (try dsimp only at hSw); go_simp) <;> with_reducible rfl)
                try simp only [Act.put, MsA, MsB, MsC]
                refine wpAnyH_take (i := 13) (oi := ?oim51) (v := ?vm51) ?him51 (by kernel_rfl) (by kernel_rfl) (by kernel_rfl) ?hQm51 (Or.inl ⟨?hwm51, ?hym51⟩) (by assumption) ?restm51
                case him51 => simp only [MgA, MgB, MgC]; exact rfl
                case hQm51 => exact fun _ _ _ h => h
                case hwm51 => rfl
                case hym51 => ((intro w hSw; (try dsimp only at hSw); go_simp) <;> with_reducible rfl)
                try simp only [Act.put, MsA, MsB, MsC]
                refine wpAnyH_take (i := 14) (oi := ?oim52) (v := ?vm52) ?him52 (by kernel_rfl) (by kernel_rfl) (by kernel_rfl) ?hQm52 (Or.inl ⟨?hwm52, ?hym52⟩) (by assumption) ?restm52
                case him52 => simp only [MgA, MgB, MgC]; exact rfl
                case hQm52 => exact fun _ _ _ h => h
                case hwm52 => rfl
                case hym52 => ((intro w hSw; (try dsimp only at hSw); go_simp) <;> with_reducible rfl)
                try simp only [Act.put, MsA, MsB, MsC]
                refine wpAnyH_take (i := 15) (oi := ?oim53) (v := ?vm53) ?him53 (by kernel_rfl) (by kernel_rfl) (by kernel_rfl) ?hQm53 (Or.inl ⟨?hwm53, ?hym53⟩) (by assumption) ?restm53
                case him53 => simp only [MgA, MgB, MgC]; exact rfl
                case hQm53 => exact fun _ _ _ h => h
                case hwm53 => rfl
                case hym53 => ((intro w hSw; (try dsimp only at hSw); go_simp) <;> with_reducible rfl)
                try simp only [Act.put, MsA, MsB, MsC]
                refine wpAnyH_take (i := 16) (oi := ?oim54) (v := ?vm54) ?him54 (by kernel_rfl) (by kernel_rfl) (by kernel_rfl) ?hQm54 (Or.inl ⟨?hwm54, ?hym54⟩) (by assumption) ?restm54
                case him54 => simp only [MgA, MgB, MgC]; exact rfl
                case hQm54 => exact fun _ _ _ h => h
                case hwm54 => rfl
                case hym54 => ((intro w hSw; (try dsimp only at hSw); go_simp) <;> with_reducible rfl)
                try simp only [Act.put, MsA, MsB, MsC]
                refine wpAnyH_ready (rs := [18]) (by kernel_rfl) (by simp) ?_
                refine AllReadyH.cons (o := ?or55_18) ?hor55_18 (fun K hK => ?stepr55_18) (AllReadyH.nil)
                case hor55_18 => simp only [MgA, MgB, MgC]; exact rfl
                case stepr55_18 =>
                  obtain ⟨q0, q1, g0, g1⟩ := mir_cell2 kQ
                  have HQ := Lib.hid kQ
                  have TG1 := own_set_kind (i := 0) (u := (.slice BG N2 bG)) TG.one kQ (by decide)
                  have TG2 := own_set_kind (i := 0) (u := (.slice BG N2 bG)) TG.two kQ (by decide)
                  have RG1 := own_set_kind (i := 0) (u := (.slice BG N2 bG)) RG kQ (by decide)
                  have kQ1 : (v7.setCell ⟨wq.heap.size, 0, none⟩ (.slice BG N2 bG)).heap[wq.heap.size]? = some (.cells #[(.slice BG N2 bG), .slice none 0 0] 26) := mir_set0 kQ
                  replace TG1 := own_set_kind (i := 1) (u := (.slice CG N1 cG)) TG1 kQ1 (by decide)
                  replace TG2 := own_set_kind (i := 1) (u := (.slice CG N1 cG)) TG2 kQ1 (by decide)
                  replace RG1 := own_set_kind (i := 1) (u := (.slice CG N1 cG)) RG1 kQ1 (by decide)
                  have kQ2 : ((v7.setCell ⟨wq.heap.size, 0, none⟩ (.slice BG N2 bG)).setCell ⟨wq.heap.size, 1, none⟩ (.slice CG N1 cG)).heap[wq.heap.size]? = some (.cells #[(.slice BG N2 bG), (.slice CG N1 cG)] 26) := mset2 kQ
                  have hBz : Below wq.heap.size wq ((v7.setCell ⟨wq.heap.size, 0, none⟩ (.slice BG N2 bG)).setCell ⟨wq.heap.size, 1, none⟩ (.slice CG N1 cG)) := (Below.setCell hHeld (p := ⟨wq.heap.size, 0, none⟩) hC6 (.slice BG N2 bG)).setCell (p := ⟨wq.heap.size, 1, none⟩) hC6 (.slice CG N1 cG)
                  have HT1 := Lib.hid TG1
                  have HT2 := Lib.hid TG2
                  have HG1 := Lib.hid RG1
                  have HQ2 := Lib.hid kQ2
                  clear TG RG kQ TG1 TG2 RG1 kQ1 kQ2
                  go_simp
                  refine hK.out _ _ ?hSr55_18 (fun hHeld => ?restr55_18)
                  case hSr55_18 => exact hBz
                  clear hK K
                  try simp only [Act.put, MsA, MsB, MsC]
                  refine wpAnyH_take (i := 19) (oi := ?oim56) (v := ?vm56) ?him56 (by kernel_rfl) (by kernel_rfl) (by kernel_rfl) ?hQm56 (Or.inl ⟨?hwm56, ?hym56⟩) (by assumption) ?restm56
                  case him56 => simp only [MgA, MgB, MgC]; exact rfl
                  case hQm56 => exact fun _ _ _ h => h
                  case hwm56 => rfl
                  case hym56 => ((intro w hSw; (try dsimp only at hSw); go_simp) <;> with_reducible rfl)
                  try simp only [Act.put, MsA, MsB, MsC]
                  refine wpAnyH_take (i := 20) (oi := ?oim57) (v := ?vm57) ?him57 (by kernel_rfl) (by kernel_rfl) (by kernel_rfl) ?hQm57 (Or.inl ⟨?hwm57, ?hym57⟩) (by assumption) ?restm57
                  case him57 => simp only [MgA, MgB, MgC]; exact rfl
                  case hQm57 => exact fun _ _ _ h => h
                  case hwm57 => rfl
                  case hym57 => ((intro w hSw; (try dsimp only at hSw); go_simp) <;> with_reducible rfl)
                  try simp only [Act.put, MsA, MsB, MsC]
                  refine wpAnyH_take (i := 21) (oi := ?oim58) (v := ?vm58) ?him58 (by kernel_rfl) (by kernel_rfl) (by kernel_rfl) ?hQm58 (Or.inl ⟨?hwm58, ?hym58⟩) (by assumption) ?restm58
                  case him58 => simp only [MgA, MgB, MgC]; exact rfl
                  case hQm58 => exact fun _ _ _ h => h
                  case hwm58 => rfl
                  case hym58 => ((intro w hSw; (try dsimp only at hSw); go_simp) <;> with_reducible rfl)
                  try simp only [Act.put, MsA, MsB, MsC]
                  refine wpAnyH_done (by kernel_rfl) ?_ _
                  have kQ := HQ2.out
                  have TG1 := HT1.out
                  have TG2 := HT2.out
                  have RG := HG1.out
                  have hBq := hBz
                  clear hHeld hBz HQ2 HT1 HT2 HG1 HQ q0 q1 g0 g1
                  generalize ((v7.setCell ⟨wq.heap.size, 0, none⟩ (.slice BG N2 bG)).setCell ⟨wq.heap.size, 1, none⟩ (.slice CG N1 cG)) = wr at *
                  go_wp2_with fail
                  go_meet
                  exact ⟨_, _, _, rfl, rfl, rfl, rfl, ⟨_, _, _, _, kQ, TG1, TG2⟩, RG, hBq⟩
    case rest =>
      as_aux_lemma =>
        clear p0 p1 y0 y1 y2 y3 kB kP TB hlB hlP hlN HC
        rename World => wr
        obtain ⟨XQ, EG, eG, rfl, rfl, rfl, rfl, ⟨BG, bG, CG, cG, kQ, TG1, TG2⟩, RG, hBq⟩ := hcut
        replace D := D.trans (hBq.mono D.size)
        replace kN := (hBq.block _ (heap_lt kN)).trans kN
        replace TI := TI.below hBq
        replace RI := own_below RI hBq
        clear hBq
        have hlQ := heap_lt kQ
        have hlN := heap_lt kN
        obtain ⟨p0, p1⟩ := cell2 kQ
        obtain ⟨r0, r1⟩ := cell2 kN
        have hff : (lf != lf) = false := by simp
        have hnn : ((N3 : Int) != (N3 : Int)) = false := by simp
        go_upto_region 12 with fail
        refine wp_region_held_drew (S := (fun w' => Below wr.heap.size wr w')) (by kernel_rfl) ?hSm59 (fun hHeld => ?restm59)
        case hSm59 => exact (Below.refl _ _).drew
        refine wpAnyH_take (i := 0) (oi := ?oim60) (v := ?vm60) ?him60 (by kernel_rfl) (by kernel_rfl) (by kernel_rfl) ?hQm60 (Or.inl ⟨?hwm60, ?hym60⟩) (by assumption) ?restm60
        case him60 => simp only [MgA, MgB, MgC]; exact rfl
        case hQm60 => exact fun _ _ _ h => h
        case hwm60 => rfl
        case hym60 => ((intro w hSw; (try dsimp only at hSw); go_simp) <;> with_reducible rfl)
        try simp only [Act.put, MsA, MsB, MsC]
        refine wpAnyH_take (i := 1) (oi := ?oim61) (v := ?vm61) ?him61 (by kernel_rfl) (by kernel_rfl) (by kernel_rfl) ?hQm61 (Or.inl ⟨?hwm61, ?hym61⟩) (by assumption) ?restm61
        case him61 => simp only [MgA, MgB, MgC]; exact rfl
        case hQm61 => exact fun _ _ _ h => h
        case hwm61 => rfl
        case hym61 => ((intro w hSw; (try dsimp only at hSw); go_simp) <;> with_reducible rfl)
        try simp only [Act.put, MsA, MsB, MsC]
        refine wpAnyH_take (i := 2) (oi := ?oim62) (v := ?vm62) ?him62 (by kernel_rfl) (by kernel_rfl) (by kernel_rfl) ?hQm62 (Or.inl ⟨?hwm62, ?hym62⟩) (by assumption) ?restm62
        case him62 => simp only [MgA, MgB, MgC]; exact rfl
        case hQm62 => exact fun _ _ _ h => h
        case hwm62 => rfl
        case hym62 => ((intro w hSw; (try dsimp only at hSw); go_simp) <;> with_reducible rfl)
        try simp only [Act.put, MsA, MsB, MsC]
        refine wpAnyH_take (i := 3) (oi := ?oim63) (v := ?vm63) ?him63 (by kernel_rfl) (by kernel_rfl) (by kernel_rfl) ?hQm63 (Or.inl ⟨?hwm63, ?hym63⟩) (by assumption) ?restm63
        case him63 => simp only [MgA, MgB, MgC]; exact rfl
        case hQm63 => exact fun _ _ _ h => h
        case hwm63 => rfl
        case hym63 => ((intro w hSw; (try dsimp only at hSw); go_simp) <;> with_reducible rfl)
        try simp only [Act.put, MsA, MsB, MsC]
        refine wpAnyH_take (i := 4) (oi := ?oim64) (v := ?vm64) ?him64 (by kernel_rfl) (by kernel_rfl) (by kernel_rfl) ?hQm64 (Or.inl ⟨?hwm64, ?hym64⟩) (by assumption) ?restm64
        case him64 => simp only [MgA, MgB, MgC]; exact rfl
        case hQm64 => exact fun _ _ _ h => h
        case hwm64 => rfl
        case hym64 => ((intro w hSw; (try dsimp only at hSw); go_simp) <;> with_reducible rfl)
        try simp only [Act.put, MsA, MsB, MsC]
        refine wpAnyH_take (i := 5) (oi := ?oim65) (v := ?vm65) ?him65 (by kernel_rfl) (by kernel_rfl) (by kernel_rfl) ?hQm65 (Or.inl ⟨?hwm65, ?hym65⟩) (by assumption) ?restm65
        case him65 => simp only [MgA, MgB, MgC]; exact rfl
        case hQm65 => exact fun _ _ _ h => h
        case hwm65 => rfl
        case hym65 => ((intro w hSw; (try dsimp only at hSw); go_simp) <;> with_reducible rfl)
        try simp only [Act.put, MsA, MsB, MsC]
        refine wpAnyH_take (i := 6) (oi := ?oim66) (v := ?vm66) ?him66 (by kernel_rfl) (by kernel_rfl) (by kernel_rfl) ?hQm66 (Or.inl ⟨?hwm66, ?hym66⟩) (by assumption) ?restm66
        case him66 => simp only [MgA, MgB, MgC]; exact rfl
        case hQm66 => exact fun _ _ _ h => h
        case hwm66 => rfl
        case hym66 => ((intro w hSw; (try dsimp only at hSw); go_simp) <;> with_reducible rfl)
        try simp only [Act.put, MsA, MsB, MsC]
        refine wpAnyH_take (i := 7) (oi := ?oim67) (v := ?vm67) ?him67 (by kernel_rfl) (by kernel_rfl) (by kernel_rfl) ?hQm67 (Or.inl ⟨?hwm67, ?hym67⟩) (by assumption) ?restm67
        case him67 => simp only [MgA, MgB, MgC]; exact rfl
        case hQm67 => exact fun _ _ _ h => h
        case hwm67 => rfl
        case hym67 => ((intro w hSw; (try dsimp only at hSw); go_simp) <;> with_reducible rfl)
        try simp only [Act.put, MsA, MsB, MsC]
        refine wpAnyH_take (i := 8) (oi := ?oim68) (v := ?vm68) ?him68 (by kernel_rfl) (by kernel_rfl) (by kernel_rfl) ?hQm68 (Or.inl ⟨?hwm68, ?hym68⟩) (by assumption) ?restm68
        case him68 => simp only [MgA, MgB, MgC]; exact rfl
        case hQm68 => exact fun _ _ _ h => h
        case hwm68 => rfl
        case hym68 => ((intro w hSw; (try dsimp only at hSw); go_simp) <;> with_reducible rfl)
        try simp only [Act.put, MsA, MsB, MsC]
        refine wpAnyH_take (i := 9) (oi := ?oim69) (v := ?vm69) ?him69 (by kernel_rfl) (by kernel_rfl) (by kernel_rfl) ?hQm69 (Or.inl ⟨?hwm69, ?hym69⟩) (by assumption) ?restm69
        case him69 => simp only [MgA, MgB, MgC]; exact rfl
        case hQm69 => exact fun _ _ _ h => h
        case hwm69 => rfl
        case hym69 => ((intro w hSw; (try dsimp only at hSw); go_simp) <;> with_reducible rfl)
        try simp only [Act.put, MsA, MsB, MsC]
        refine wpAnyH_take (i := 10) (oi := ?oim70) (v := ?vm70) ?him70 (by kernel_rfl) (by kernel_rfl) (by kernel_rfl) ?hQm70 (Or.inl ⟨?hwm70, ?hym70⟩) (by assumption) ?restm70
        case him70 => simp only [MgA, MgB, MgC]; exact rfl
        case hQm70 => exact fun _ _ _ h => h
        case hwm70 => rfl
        case hym70 => ((intro w hSw; (try dsimp only at hSw); go_simp) <;> with_reducible rfl)
        try simp only [Act.put, MsA, MsB, MsC]
        refine wpAnyH_take (i := 11) (oi := ?oim71) (v := ?vm71) ?him71 (by kernel_rfl) (by kernel_rfl) (by kernel_rfl) ?hQm71 (Or.inl ⟨?hwm71, ?hym71⟩) (by assumption) ?restm71
        case him71 => simp only [MgA, MgB, MgC]; exact rfl
        case hQm71 => exact fun _ _ _ h => h
        case hwm71 => rfl
        case hym71 => ((intro w hSw; (try dsimp only at hSw); go_simp) <;> with_reducible rfl)
        try simp only [Act.put, MsA, MsB, MsC]
        refine wpAnyH_take (i := 12) (oi := ?oim72) (v := ?vm72) ?him72 (by kernel_rfl) (by kernel_rfl) (by kernel_rfl) ?hQm72 (Or.inl ⟨?hwm72, ?hym72⟩) (by assumption) ?restm72
        case him72 => simp only [MgA, MgB, MgC]; exact rfl
        case hQm72 => exact fun _ _ _ h => h
        case hwm72 => rfl
        case hym72 => ((intro w hSw; (try dsimp only at hSw); go_simp) <;> with_reducible rfl)
        try simp only [Act.put, MsA, MsB, MsC]
        refine wpAnyH_take (i := 13) (oi := ?oim73) (v := ?vm73) ?him73 (by kernel_rfl) (by kernel_rfl) (by kernel_rfl) ?hQm73 (Or.inl ⟨?hwm73, ?hym73⟩) (by assumption) ?restm73
        case him73 => simp only [MgA, MgB, MgC]; exact rfl
        case hQm73 => exact fun _ _ _ h => h
        case hwm73 => rfl
        case hym73 => ((intro w hSw; (try dsimp only at hSw); go_simp) <;> with_reducible rfl)
        try simp only [Act.put, MsA, MsB, MsC]
        refine wpAnyH_take (i := 14) (oi := ?oim74) (v := ?vm74) ?him74 (by kernel_rfl) (by kernel_rfl) (by kernel_rfl) ?hQm74 (Or.inl ⟨?hwm74, ?hym74⟩) (by assumption) ?restm74
        case him74 => simp only [MgA, MgB, MgC]; exact rfl
        case hQm74 => exact fun _ _ _ h => h
        case hwm74 => rfl
        case hym74 => ((intro w hSw; (try dsimp only at hSw); go_simp) <;> with_reducible rfl)
        try simp only [Act.put, MsA, MsB, MsC]
        refine wpAnyH_take (i := 15) (oi := ?oim75) (v := ?vm75) ?him75 (by kernel_rfl) (by kernel_rfl) (by kernel_rfl) ?hQm75 (Or.inl ⟨?hwm75, ?hym75⟩) (by assumption) ?restm75
        case him75 => simp only [MgA, MgB, MgC]; exact rfl
        case hQm75 => exact fun _ _ _ h => h
        case hwm75 => rfl
        case hym75 => ((intro w hSw; (try dsimp only at hSw); go_simp) <;> with_reducible rfl)
        try simp only [Act.put, MsA, MsB, MsC]
        refine wpAnyH_take (i := 16) (oi := ?oim76) (v := ?vm76) ?him76 (by kernel_rfl) (by kernel_rfl) (by kernel_rfl) ?hQm76 (Or.inl ⟨?hwm76, ?hym76⟩) (by assumption) ?restm76
        case him76 => simp only [MgA, MgB, MgC]; exact rfl
        case hQm76 => exact fun _ _ _ h => h
        case hwm76 => rfl
        case hym76 => ((intro wS hSw; have t0 := (hSw.cell (p := ⟨XQ, 0, none⟩) hlQ).trans p0; have t1 := (hSw.cell (p := ⟨XQ, 1, none⟩) hlQ).trans p1; go_simp) <;> with_reducible rfl)
        try simp only [Act.put, MsA, MsB, MsC]
        refine wpAnyH_take (i := 17) (oi := ?oim77) (v := ?vm77) ?him77 (by kernel_rfl) (by kernel_rfl) (by kernel_rfl) ?hQm77 (Or.inl ⟨?hwm77, ?hym77⟩) (by assumption) ?restm77
        case him77 => simp only [MgA, MgB, MgC]; exact rfl
        case hQm77 => exact fun _ _ _ h => h
        case hwm77 => rfl
        case hym77 => ((intro w hSw; (try dsimp only at hSw); go_simp) <;> with_reducible rfl)
        try simp only [Act.put, MsA, MsB, MsC]
        refine wpAnyH_take (i := 18) (oi := ?oim78) (v := ?vm78) ?him78 (by kernel_rfl) (by kernel_rfl) (by kernel_rfl) ?hQm78 (Or.inl ⟨?hwm78, ?hym78⟩) (by assumption) ?restm78
        case him78 => simp only [MgA, MgB, MgC]; exact rfl
        case hQm78 => exact fun _ _ _ h => h
        case hwm78 => rfl
        case hym78 => ((intro wS hSw; have t0 := (hSw.cell (p := ⟨X2, 0, none⟩) hlN).trans r0; have t1 := (hSw.cell (p := ⟨X2, 1, none⟩) hlN).trans r1; go_simp) <;> with_reducible rfl)
        try simp only [Act.put, MsA, MsB, MsC]
        refine wpAnyH_ready (rs := [19]) (by kernel_rfl) (by simp) ?_
        refine AllReadyH.cons (o := ?or79_19) ?hor79_19 (fun K hK => ?stepr79_19) (AllReadyH.nil)
        case hor79_19 => simp only [MgA, MgB, MgC]; exact rfl
        case stepr79_19 =>
          go_simp
          refine (laws_turned CI N2 cI Y2 _ (Lst.of_own (own_below TI.two hHeld)) (by omega) HN2.out).mono ?_
          rintro e u1 ⟨⟨vv, rfl, U1⟩, hb1⟩
          obtain ⟨F1, f1, rfl, _, _⟩ := own_slice U1
          have hD1 : Below wr.heap.size wr u1 := Below.trans hHeld (hb1.mono (Below.size hHeld))
          refine hK.out _ _ ?hSr79_19 (fun hHeld => ?restr79_19)
          case hSr79_19 => exact hD1
          clear hK K
          try simp only [Act.put, MsA, MsB, MsC]
          refine wpAnyH_ready (rs := [20]) (by kernel_rfl) (by simp) ?_
          refine AllReadyH.cons (o := ?or80_20) ?hor80_20 (fun K hK => ?stepr80_20) (AllReadyH.nil)
          case hor80_20 => simp only [MgA, MgB, MgC]; exact rfl
          case stepr80_20 =>
            go_simp
            refine (sameOrders_same BG F1 N2 bG f1 (mir Y2) u1 (Lst.of_own (own_below TG1 hD1)) (Lst.of_own U1) (by omega)).mono ?_
            rintro e u2 ⟨rfl, hb2⟩
            have hD2 : Below wr.heap.size wr u2 := hD1.trans (hb2.mono hD1.size)
            clear U1
            refine hK.out _ _ ?hSr80_20 (fun hHeld => ?restr80_20)
            case hSr80_20 => exact hD2
            clear hK K
            try simp only [Act.put, MsA, MsB, MsC]
            refine wpAnyH_take (i := 21) (oi := ?oim81) (v := ?vm81) ?him81 (by kernel_rfl) (by kernel_rfl) (by kernel_rfl) ?hQm81 (Or.inl ⟨?hwm81, ?hym81⟩) (by assumption) ?restm81
            case him81 => simp only [MgA, MgB, MgC]; exact rfl
            case hQm81 => exact fun _ _ _ h => h
            case hwm81 => rfl
            case hym81 => ((intro w hSw; (try dsimp only at hSw); go_simp) <;> with_reducible rfl)
            try simp only [Act.put, MsA, MsB, MsC]
            refine wpAnyH_take (i := 22) (oi := ?oim82) (v := ?vm82) ?him82 (by kernel_rfl) (by kernel_rfl) (by kernel_rfl) ?hQm82 (Or.inl ⟨?hwm82, ?hym82⟩) (by assumption) ?restm82
            case him82 => simp only [MgA, MgB, MgC]; exact rfl
            case hQm82 => exact fun _ _ _ h => h
            case hwm82 => rfl
            case hym82 => ((intro w hSw; (try dsimp only at hSw); go_simp) <;> with_reducible rfl)
            try simp only [Act.put, MsA, MsB, MsC]
            refine wpAnyH_take (i := 23) (oi := ?oim83) (v := ?vm83) ?him83 (by kernel_rfl) (by kernel_rfl) (by kernel_rfl) ?hQm83 (Or.inl ⟨?hwm83, ?hym83⟩) (by assumption) ?restm83
            case him83 => simp only [MgA, MgB, MgC]; exact rfl
            case hQm83 => exact fun _ _ _ h => h
            case hwm83 => rfl
            case hym83 => ((intro w hSw; (try dsimp only at hSw); go_simp) <;> with_reducible rfl)
            try simp only [Act.put, MsA, MsB, MsC]
            refine wpAnyH_take (i := 24) (oi := ?oim84) (v := ?vm84) ?him84 (by kernel_rfl) (by kernel_rfl) (by kernel_rfl) ?hQm84 (Or.inl ⟨?hwm84, ?hym84⟩) (by assumption) ?restm84
            case him84 => simp only [MgA, MgB, MgC]; exact rfl
            case hQm84 => exact fun _ _ _ h => h
            case hwm84 => rfl
            case hym84 => ((intro w hSw; (try dsimp only at hSw); go_simp) <;> with_reducible rfl)
            try simp only [Act.put, MsA, MsB, MsC]
            refine wpAnyH_take (i := 25) (oi := ?oim85) (v := ?vm85) ?him85 (by kernel_rfl) (by kernel_rfl) (by kernel_rfl) ?hQm85 (Or.inl ⟨?hwm85, ?hym85⟩) (by assumption) ?restm85
            case him85 => simp only [MgA, MgB, MgC]; exact rfl
            case hQm85 => exact fun _ _ _ h => h
            case hwm85 => rfl
            case hym85 => ((intro wS hSw; have t0 := (hSw.cell (p := ⟨XQ, 0, none⟩) hlQ).trans p0; have t1 := (hSw.cell (p := ⟨XQ, 1, none⟩) hlQ).trans p1; go_simp) <;> with_reducible rfl)
            try simp only [Act.put, MsA, MsB, MsC]
            refine wpAnyH_take (i := 26) (oi := ?oim86) (v := ?vm86) ?him86 (by kernel_rfl) (by kernel_rfl) (by kernel_rfl) ?hQm86 (Or.inl ⟨?hwm86, ?hym86⟩) (by assumption) ?restm86
            case him86 => simp only [MgA, MgB, MgC]; exact rfl
            case hQm86 => exact fun _ _ _ h => h
            case hwm86 => rfl
            case hym86 => ((intro w hSw; (try dsimp only at hSw); go_simp) <;> with_reducible rfl)
            try simp only [Act.put, MsA, MsB, MsC]
            refine wpAnyH_take (i := 27) (oi := ?oim87) (v := ?vm87) ?him87 (by kernel_rfl) (by kernel_rfl) (by kernel_rfl) ?hQm87 (Or.inl ⟨?hwm87, ?hym87⟩) (by assumption) ?restm87
            case him87 => simp only [MgA, MgB, MgC]; exact rfl
            case hQm87 => exact fun _ _ _ h => h
            case hwm87 => rfl
            case hym87 => ((intro wS hSw; have t0 := (hSw.cell (p := ⟨X2, 0, none⟩) hlN).trans r0; have t1 := (hSw.cell (p := ⟨X2, 1, none⟩) hlN).trans r1; go_simp) <;> with_reducible rfl)
            try simp only [Act.put, MsA, MsB, MsC]
            refine wpAnyH_ready (rs := [28]) (by kernel_rfl) (by simp) ?_
            refine AllReadyH.cons (o := ?or88_28) ?hor88_28 (fun K hK => ?stepr88_28) (AllReadyH.nil)
            case hor88_28 => simp only [MgA, MgB, MgC]; exact rfl
            case stepr88_28 =>
              go_simp
              refine (laws_turned BI N1 bI Y1 u2 (Lst.of_own (own_below TI.one hD2)) (by omega) HN1.out).mono ?_
              rintro e u3 ⟨⟨vv, rfl, U3⟩, hb3⟩
              obtain ⟨F3, f3, rfl, _, _⟩ := own_slice U3
              have hD3 : Below wr.heap.size wr u3 := hD2.trans (hb3.mono hD2.size)
              refine hK.out _ _ ?hSr88_28 (fun hHeld => ?restr88_28)
              case hSr88_28 => exact hD3
              clear hK K
              try simp only [Act.put, MsA, MsB, MsC]
              refine wpAnyH_ready (rs := [29]) (by kernel_rfl) (by simp) ?_
              refine AllReadyH.cons (o := ?or89_29) ?hor89_29 (fun K hK => ?stepr89_29) (AllReadyH.nil)
              case hor89_29 => simp only [MgA, MgB, MgC]; exact rfl
              case stepr89_29 =>
                go_simp
                refine (sameOrders_same CG F3 N1 cG f3 (mir Y1) u3 (Lst.of_own (own_below TG2 hD3)) (Lst.of_own U3) (by omega)).mono ?_
                rintro e u4 ⟨rfl, hb4⟩
                have hD4 : Below wr.heap.size wr u4 := hD3.trans (hb4.mono hD3.size)
                clear U3
                refine hK.out _ _ ?hSr89_29 (fun hHeld => ?restr89_29)
                case hSr89_29 => exact hD4
                clear hK K
                try simp only [Act.put, MsA, MsB, MsC]
                refine wpAnyH_take (i := 30) (oi := ?oim90) (v := ?vm90) ?him90 (by kernel_rfl) (by kernel_rfl) (by kernel_rfl) ?hQm90 (Or.inl ⟨?hwm90, ?hym90⟩) (by assumption) ?restm90
                case him90 => simp only [MgA, MgB, MgC]; exact rfl
                case hQm90 => exact fun _ _ _ h => h
                case hwm90 => rfl
                case hym90 => ((intro w hSw; (try dsimp only at hSw); go_simp) <;> with_reducible rfl)
                try simp only [Act.put, MsA, MsB, MsC]
                refine wpAnyH_take (i := 31) (oi := ?oim91) (v := ?vm91) ?him91 (by kernel_rfl) (by kernel_rfl) (by kernel_rfl) ?hQm91 (Or.inl ⟨?hwm91, ?hym91⟩) (by assumption) ?restm91
                case him91 => simp only [MgA, MgB, MgC]; exact rfl
                case hQm91 => exact fun _ _ _ h => h
                case hwm91 => rfl
                case hym91 => ((intro w hSw; (try dsimp only at hSw); go_simp) <;> with_reducible rfl)
                try simp only [Act.put, MsA, MsB, MsC]
                refine wpAnyH_done (by kernel_rfl) ?_ _
                have RI4 := own_below RI hD4
                have RG4 := own_below RG hD4
                have D4 := D.trans (hD4.mono D.size)
                clear hHeld hD1 hD2 hD3 hD4 hb1 hb2 hb3 hb4 p0 p1 r0 r1 kQ kN TI RI RG D TG1 TG2 hlQ hlN
                go_wp2_with fail
                go_loopw [20] (fun i wx => ∃ k : Nat, k ≤ N3 ∧ i = .int .i64 (k : Int) ∧ Below u4.heap.size u4 wx) (fun i _ => N3 - (intOf i).toNat)
                case atStart => exact ⟨0, Nat.zero_le _, rfl, Below.refl _ _⟩
                case round =>
                  rename World => wx
                  obtain ⟨k, hk, rfl, hbr⟩ := hrel
                  have D := D4.trans (hbr.mono D4.size)
                  by_cases hlt : k < N3
                  · obtain ⟨b, o, hax, hbo, c0, c1, c2, c3, c4, c5, c6, c7⟩ := (Lst.of_own (own_below RI4 hbr)).row8 hlt
                    subst hax
                    obtain ⟨b2, o2, hax2, hbo2, d0, d1, d2, d3, d4, d5, d6, d7⟩ := (Lst.of_own (own_below RG4 hbr)).row8 hlt
                    subst hax2
                    rw [← HAL.out.2 (k * 8 + 1) (by omega)] at d1
                    rw [← HAL.out.2 (k * 8 + 4) (by omega)] at d4
                    rw [← HAL.out.2 (k * 8 + 5) (by omega)] at d5
                    rw [← HAL.out.2 (k * 8 + 7) (by omega)] at d7
                    clear c0 c2 c3 c6 d0 d2 d3 d6
                    have g1 : (num RR (k * 8 + 1) != num RR (k * 8 + 1)) = false := by simp
                    have g4 : (num RR (k * 8 + 4) != num RR (k * 8 + 4)) = false := by simp
                    have g5 : (num RR (k * 8 + 5) != num RR (k * 8 + 5)) = false := by simp
                    have g7 : (num RR (k * 8 + 7) != num RR (k * 8 + 7)) = false := by simp
                    go_upto_region 17 with fail
                    refine wp_region_held_drew (S := (fun w' => Below wx.heap.size wx w')) (by kernel_rfl) ?hSm92 (fun hHeld => ?restm92)
                    case hSm92 => exact (Below.refl _ _).drew
                    refine wpAnyH_take (i := 0) (oi := ?oim93) (v := ?vm93) ?him93 (by kernel_rfl) (by kernel_rfl) (by kernel_rfl) ?hQm93 (Or.inl ⟨?hwm93, ?hym93⟩) (by assumption) ?restm93
                    case him93 => simp only [MgA, MgB, MgC]; exact rfl
                    case hQm93 => exact fun _ _ _ h => h
                    case hwm93 => rfl
                    case hym93 => ((intro w hSw; (try dsimp only at hSw); go_simp) <;> with_reducible rfl)
                    try simp only [Act.put, MsA, MsB, MsC]
                    refine wpAnyH_take (i := 1) (oi := ?oim94) (v := ?vm94) ?him94 (by kernel_rfl) (by kernel_rfl) (by kernel_rfl) ?hQm94 (Or.inl ⟨?hwm94, ?hym94⟩) (by assumption) ?restm94
                    case him94 => simp only [MgA, MgB, MgC]; exact rfl
                    case hQm94 => exact fun _ _ _ h => h
                    case hwm94 => rfl
                    case hym94 => ((intro w hSw; (try dsimp only at hSw); go_simp) <;> with_reducible rfl)
                    try simp only [Act.put, MsA, MsB, MsC]
                    refine wpAnyH_take (i := 2) (oi := ?oim95) (v := ?vm95) ?him95 (by kernel_rfl) (by kernel_rfl) (by kernel_rfl) ?hQm95 (Or.inl ⟨?hwm95, ?hym95⟩) (by assumption) ?restm95
                    case him95 => simp only [MgA, MgB, MgC]; exact rfl
                    case hQm95 => exact fun _ _ _ h => h
                    case hwm95 => rfl
                    case hym95 => ((intro w hSw; (try dsimp only at hSw); go_simp) <;> with_reducible rfl)
                    try simp only [Act.put, MsA, MsB, MsC]
                    refine wpAnyH_take (i := 3) (oi := ?oim96) (v := ?vm96) ?him96 (by kernel_rfl) (by kernel_rfl) (by kernel_rfl) ?hQm96 (Or.inl ⟨?hwm96, ?hym96⟩) (by assumption) ?restm96
                    case him96 => simp only [MgA, MgB, MgC]; exact rfl
                    case hQm96 => exact fun _ _ _ h => h
                    case hwm96 => rfl
                    case hym96 => ((intro w hSw; (try dsimp only at hSw); go_simp) <;> with_reducible rfl)
                    try simp only [Act.put, MsA, MsB, MsC]
                    refine wpAnyH_take (i := 4) (oi := ?oim97) (v := ?vm97) ?him97 (by kernel_rfl) (by kernel_rfl) (by kernel_rfl) ?hQm97 (Or.inl ⟨?hwm97, ?hym97⟩) (by assumption) ?restm97
                    case him97 => simp only [MgA, MgB, MgC]; exact rfl
                    case hQm97 => exact fun _ _ _ h => h
                    case hwm97 => rfl
                    case hym97 => ((intro wS hSw; have t0 := (hSw.cell (p := ⟨b, o + k * 8 + 1, none⟩) hbo).trans c1; go_simp) <;> with_reducible rfl)
                    try simp only [Act.put, MsA, MsB, MsC]
                    refine wpAnyH_take (i := 5) (oi := ?oim98) (v := ?vm98) ?him98 (by kernel_rfl) (by kernel_rfl) (by kernel_rfl) ?hQm98 (Or.inl ⟨?hwm98, ?hym98⟩) (by assumption) ?restm98
                    case him98 => simp only [MgA, MgB, MgC]; exact rfl
                    case hQm98 => exact fun _ _ _ h => h
                    case hwm98 => rfl
                    case hym98 => ((intro w hSw; (try dsimp only at hSw); go_simp) <;> with_reducible rfl)
                    try simp only [Act.put, MsA, MsB, MsC]
                    refine wpAnyH_take (i := 6) (oi := ?oim99) (v := ?vm99) ?him99 (by kernel_rfl) (by kernel_rfl) (by kernel_rfl) ?hQm99 (Or.inl ⟨?hwm99, ?hym99⟩) (by assumption) ?restm99
                    case him99 => simp only [MgA, MgB, MgC]; exact rfl
                    case hQm99 => exact fun _ _ _ h => h
                    case hwm99 => rfl
                    case hym99 => ((intro w hSw; (try dsimp only at hSw); go_simp) <;> with_reducible rfl)
                    try simp only [Act.put, MsA, MsB, MsC]
                    refine wpAnyH_take (i := 7) (oi := ?oim100) (v := ?vm100) ?him100 (by kernel_rfl) (by kernel_rfl) (by kernel_rfl) ?hQm100 (Or.inl ⟨?hwm100, ?hym100⟩) (by assumption) ?restm100
                    case him100 => simp only [MgA, MgB, MgC]; exact rfl
                    case hQm100 => exact fun _ _ _ h => h
                    case hwm100 => rfl
                    case hym100 => ((intro w hSw; (try dsimp only at hSw); go_simp) <;> with_reducible rfl)
                    try simp only [Act.put, MsA, MsB, MsC]
                    refine wpAnyH_take (i := 8) (oi := ?oim101) (v := ?vm101) ?him101 (by kernel_rfl) (by kernel_rfl) (by kernel_rfl) ?hQm101 (Or.inl ⟨?hwm101, ?hym101⟩) (by assumption) ?restm101
                    case him101 => simp only [MgA, MgB, MgC]; exact rfl
                    case hQm101 => exact fun _ _ _ h => h
                    case hwm101 => rfl
                    case hym101 => ((intro w hSw; (try dsimp only at hSw); go_simp) <;> with_reducible rfl)
                    try simp only [Act.put, MsA, MsB, MsC]
                    refine wpAnyH_take (i := 9) (oi := ?oim102) (v := ?vm102) ?him102 (by kernel_rfl) (by kernel_rfl) (by kernel_rfl) ?hQm102 (Or.inl ⟨?hwm102, ?hym102⟩) (by assumption) ?restm102
                    case him102 => simp only [MgA, MgB, MgC]; exact rfl
                    case hQm102 => exact fun _ _ _ h => h
                    case hwm102 => rfl
                    case hym102 => ((intro wS hSw; have t0 := (hSw.cell (p := ⟨b2, o2 + k * 8 + 1, none⟩) hbo2).trans d1; go_simp) <;> with_reducible rfl)
                    try simp only [Act.put, MsA, MsB, MsC]
                    refine wpAnyH_take (i := 10) (oi := ?oim103) (v := ?vm103) ?him103 (by kernel_rfl) (by kernel_rfl) (by kernel_rfl) ?hQm103 (Or.inl ⟨?hwm103, ?hym103⟩) (by assumption) ?restm103
                    case him103 => simp only [MgA, MgB, MgC]; exact rfl
                    case hQm103 => exact fun _ _ _ h => h
                    case hwm103 => rfl
                    case hym103 => ((intro w hSw; (try dsimp only at hSw); go_simp) <;> with_reducible rfl)
                    try simp only [Act.put, MsA, MsB, MsC]
                    refine wpAnyH_take (i := 11) (oi := ?oim104) (v := ?vm104) ?him104 (by kernel_rfl) (by kernel_rfl) (by kernel_rfl) ?hQm104 (Or.inl ⟨?hwm104, ?hym104⟩) (by assumption) ?restm104
                    case him104 => simp only [MgA, MgB, MgC]; exact rfl
                    case hQm104 => exact fun _ _ _ h => h
                    case hwm104 => rfl
                    case hym104 => ((intro w hSw; (try dsimp only at hSw); go_simp) <;> with_reducible rfl)
                    try simp only [Act.put, MsA, MsB, MsC]
                    refine wpAnyH_take (i := 12) (oi := ?oim105) (v := ?vm105) ?him105 (by kernel_rfl) (by kernel_rfl) (by kernel_rfl) ?hQm105 (Or.inl ⟨?hwm105, ?hym105⟩) (by assumption) ?restm105
                    case him105 => simp only [MgA, MgB, MgC]; exact rfl
                    case hQm105 => exact fun _ _ _ h => h
                    case hwm105 => rfl
                    case hym105 => ((intro w hSw; (try dsimp only at hSw); go_simp) <;> with_reducible rfl)
                    try simp only [Act.put, MsA, MsB, MsC]
                    refine wpAnyH_take (i := 13) (oi := ?oim106) (v := ?vm106) ?him106 (by kernel_rfl) (by kernel_rfl) (by kernel_rfl) ?hQm106 (Or.inl ⟨?hwm106, ?hym106⟩) (by assumption) ?restm106
                    case him106 => simp only [MgA, MgB, MgC]; exact rfl
                    case hQm106 => exact fun _ _ _ h => h
                    case hwm106 => rfl
                    case hym106 => ((intro w hSw; (try dsimp only at hSw); go_simp) <;> with_reducible rfl)
                    try simp only [Act.put, MsA, MsB, MsC]
                    refine wpAnyH_take (i := 14) (oi := ?oim107) (v := ?vm107) ?him107 (by kernel_rfl) (by kernel_rfl) (by kernel_rfl) ?hQm107 (Or.inl ⟨?hwm107, ?hym107⟩) (by assumption) ?restm107
                    case him107 => simp only [MgA, MgB, MgC]; exact rfl
                    case hQm107 => exact fun _ _ _ h => h
                    case hwm107 => rfl
                    case hym107 => ((intro w hSw; (try dsimp only at hSw); go_simp) <;> with_reducible rfl)
                    try simp only [Act.put, MsA, MsB, MsC]
                    refine wpAnyH_take (i := 15) (oi := ?oim108) (v := ?vm108) ?him108 (by kernel_rfl) (by kernel_rfl) (by kernel_rfl) ?hQm108 (Or.inl ⟨?hwm108, ?hym108⟩) (by assumption) ?restm108
                    case him108 => simp only [MgA, MgB, MgC]; exact rfl
                    case hQm108 => exact fun _ _ _ h => h
                    case hwm108 => rfl
                    case hym108 => ((intro w hSw; (try dsimp only at hSw); go_simp) <;> with_reducible rfl)
                    try simp only [Act.put, MsA, MsB, MsC]
                    refine wpAnyH_take (i := 16) (oi := ?oim109) (v := ?vm109) ?him109 (by kernel_rfl) (by kernel_rfl) (by kernel_rfl) ?hQm109 (Or.inl ⟨?hwm109, ?hym109⟩) (by assumption) ?restm109
                    case him109 => simp only [MgA, MgB, MgC]; exact rfl
                    case hQm109 => exact fun _ _ _ h => h
                    case hwm109 => rfl
                    case hym109 => ((intro wS hSw; have t0 := (hSw.cell (p := ⟨b, o + k * 8 + 4, none⟩) hbo).trans c4; go_simp) <;> with_reducible rfl)
                    try simp only [Act.put, MsA, MsB, MsC]
                    refine wpAnyH_take (i := 17) (oi := ?oim110) (v := ?vm110) ?him110 (by kernel_rfl) (by kernel_rfl) (by kernel_rfl) ?hQm110 (Or.inl ⟨?hwm110, ?hym110⟩) (by assumption) ?restm110
                    case him110 => simp only [MgA, MgB, MgC]; exact rfl
                    case hQm110 => exact fun _ _ _ h => h
                    case hwm110 => rfl
                    case hym110 => ((intro w hSw; (try dsimp only at hSw); go_simp) <;> with_reducible rfl)
                    try simp only [Act.put, MsA, MsB, MsC]
                    refine wpAnyH_take (i := 18) (oi := ?oim111) (v := ?vm111) ?him111 (by kernel_rfl) (by kernel_rfl) (by kernel_rfl) ?hQm111 (Or.inl ⟨?hwm111, ?hym111⟩) (by assumption) ?restm111
                    case him111 => simp only [MgA, MgB, MgC]; exact rfl
                    case hQm111 => exact fun _ _ _ h => h
                    case hwm111 => rfl
                    case hym111 => ((intro w hSw; (try dsimp only at hSw); go_simp) <;> with_reducible rfl)
                    try simp only [Act.put, MsA, MsB, MsC]
                    refine wpAnyH_take (i := 19) (oi := ?oim112) (v := ?vm112) ?him112 (by kernel_rfl) (by kernel_rfl) (by kernel_rfl) ?hQm112 (Or.inl ⟨?hwm112, ?hym112⟩) (by assumption) ?restm112
                    case him112 => simp only [MgA, MgB, MgC]; exact rfl
                    case hQm112 => exact fun _ _ _ h => h
                    case hwm112 => rfl
                    case hym112 => ((intro w hSw; (try dsimp only at hSw); go_simp) <;> with_reducible rfl)
                    try simp only [Act.put, MsA, MsB, MsC]
                    refine wpAnyH_take (i := 20) (oi := ?oim113) (v := ?vm113) ?him113 (by kernel_rfl) (by kernel_rfl) (by kernel_rfl) ?hQm113 (Or.inl ⟨?hwm113, ?hym113⟩) (by assumption) ?restm113
                    case him113 => simp only [MgA, MgB, MgC]; exact rfl
                    case hQm113 => exact fun _ _ _ h => h
                    case hwm113 => rfl
                    case hym113 => ((intro w hSw; (try dsimp only at hSw); go_simp) <;> with_reducible rfl)
                    try simp only [Act.put, MsA, MsB, MsC]
                    refine wpAnyH_take (i := 21) (oi := ?oim114) (v := ?vm114) ?him114 (by kernel_rfl) (by kernel_rfl) (by kernel_rfl) ?hQm114 (Or.inl ⟨?hwm114, ?hym114⟩) (by assumption) ?restm114
                    case him114 => simp only [MgA, MgB, MgC]; exact rfl
                    case hQm114 => exact fun _ _ _ h => h
                    case hwm114 => rfl
                    case hym114 => ((intro wS hSw; have t0 := (hSw.cell (p := ⟨b2, o2 + k * 8 + 4, none⟩) hbo2).trans d4; go_simp) <;> with_reducible rfl)
                    try simp only [Act.put, MsA, MsB, MsC]
                    refine wpAnyH_take (i := 22) (oi := ?oim115) (v := ?vm115) ?him115 (by kernel_rfl) (by kernel_rfl) (by kernel_rfl) ?hQm115 (Or.inl ⟨?hwm115, ?hym115⟩) (by assumption) ?restm115
                    case him115 => simp only [MgA, MgB, MgC]; exact rfl
                    case hQm115 => exact fun _ _ _ h => h
                    case hwm115 => rfl
                    case hym115 => ((intro w hSw; (try dsimp only at hSw); go_simp) <;> with_reducible rfl)
                    try simp only [Act.put, MsA, MsB, MsC]
                    refine wpAnyH_take (i := 23) (oi := ?oim116) (v := ?vm116) ?him116 (by kernel_rfl) (by kernel_rfl) (by kernel_rfl) ?hQm116 (Or.inl ⟨?hwm116, ?hym116⟩) (by assumption) ?restm116
                    case him116 => simp only [MgA, MgB, MgC]; exact rfl
                    case hQm116 => exact fun _ _ _ h => h
                    case hwm116 => rfl
                    case hym116 => ((intro w hSw; (try dsimp only at hSw); go_simp) <;> with_reducible rfl)
                    try simp only [Act.put, MsA, MsB, MsC]
                    refine wpAnyH_take (i := 24) (oi := ?oim117) (v := ?vm117) ?him117 (by kernel_rfl) (by kernel_rfl) (by kernel_rfl) ?hQm117 (Or.inl ⟨?hwm117, ?hym117⟩) (by assumption) ?restm117
                    case him117 => simp only [MgA, MgB, MgC]; exact rfl
                    case hQm117 => exact fun _ _ _ h => h
                    case hwm117 => rfl
                    case hym117 => ((intro w hSw; (try dsimp only at hSw); go_simp) <;> with_reducible rfl)
                    try simp only [Act.put, MsA, MsB, MsC]
                    refine wpAnyH_take (i := 25) (oi := ?oim118) (v := ?vm118) ?him118 (by kernel_rfl) (by kernel_rfl) (by kernel_rfl) ?hQm118 (Or.inl ⟨?hwm118, ?hym118⟩) (by assumption) ?restm118
                    case him118 => simp only [MgA, MgB, MgC]; exact rfl
                    case hQm118 => exact fun _ _ _ h => h
                    case hwm118 => rfl
                    case hym118 => ((intro w hSw; (try dsimp only at hSw); go_simp) <;> with_reducible rfl)
                    try simp only [Act.put, MsA, MsB, MsC]
                    refine wpAnyH_take (i := 26) (oi := ?oim119) (v := ?vm119) ?him119 (by kernel_rfl) (by kernel_rfl) (by kernel_rfl) ?hQm119 (Or.inl ⟨?hwm119, ?hym119⟩) (by assumption) ?restm119
                    case him119 => simp only [MgA, MgB, MgC]; exact rfl
                    case hQm119 => exact fun _ _ _ h => h
                    case hwm119 => rfl
                    case hym119 => ((intro w hSw; (try dsimp only at hSw); go_simp) <;> with_reducible rfl)
                    try simp only [Act.put, MsA, MsB, MsC]
                    refine wpAnyH_take (i := 27) (oi := ?oim120) (v := ?vm120) ?him120 (by kernel_rfl) (by kernel_rfl) (by kernel_rfl) ?hQm120 (Or.inl ⟨?hwm120, ?hym120⟩) (by assumption) ?restm120
                    case him120 => simp only [MgA, MgB, MgC]; exact rfl
                    case hQm120 => exact fun _ _ _ h => h
                    case hwm120 => rfl
                    case hym120 => ((intro w hSw; (try dsimp only at hSw); go_simp) <;> with_reducible rfl)
                    try simp only [Act.put, MsA, MsB, MsC]
                    refine wpAnyH_take (i := 28) (oi := ?oim121) (v := ?vm121) ?him121 (by kernel_rfl) (by kernel_rfl) (by kernel_rfl) ?hQm121 (Or.inl ⟨?hwm121, ?hym121⟩) (by assumption) ?restm121
                    case him121 => simp only [MgA, MgB, MgC]; exact rfl
                    case hQm121 => exact fun _ _ _ h => h
                    case hwm121 => rfl
                    case hym121 => ((intro w hSw; (try dsimp only at hSw); go_simp) <;> with_reducible rfl)
                    try simp only [Act.put, MsA, MsB, MsC]
                    refine wpAnyH_take (i := 29) (oi := ?oim122) (v := ?vm122) ?him122 (by kernel_rfl) (by kernel_rfl) (by kernel_rfl) ?hQm122 (Or.inl ⟨?hwm122, ?hym122⟩) (by assumption) ?restm122
                    case him122 => simp only [MgA, MgB, MgC]; exact rfl
                    case hQm122 => exact fun _ _ _ h => h
                    case hwm122 => rfl
                    case hym122 => ((intro wS hSw; have t0 := (hSw.cell (p := ⟨b, o + k * 8 + 5, none⟩) hbo).trans c5; go_simp) <;> with_reducible rfl)
                    try simp only [Act.put, MsA, MsB, MsC]
                    refine wpAnyH_take (i := 30) (oi := ?oim123) (v := ?vm123) ?him123 (by kernel_rfl) (by kernel_rfl) (by kernel_rfl) ?hQm123 (Or.inl ⟨?hwm123, ?hym123⟩) (by assumption) ?restm123
                    case him123 => simp only [MgA, MgB, MgC]; exact rfl
                    case hQm123 => exact fun _ _ _ h => h
                    case hwm123 => rfl
                    case hym123 => ((intro w hSw; (try dsimp only at hSw); go_simp) <;> with_reducible rfl)
                    try simp only [Act.put, MsA, MsB, MsC]
                    refine wpAnyH_take (i := 31) (oi := ?oim124) (v := ?vm124) ?him124 (by kernel_rfl) (by kernel_rfl) (by kernel_rfl) ?hQm124 (Or.inl ⟨?hwm124, ?hym124⟩) (by assumption) ?restm124
                    case him124 => simp only [MgA, MgB, MgC]; exact rfl
                    case hQm124 => exact fun _ _ _ h => h
                    case hwm124 => rfl
                    case hym124 => ((intro w hSw; (try dsimp only at hSw); go_simp) <;> with_reducible rfl)
                    try simp only [Act.put, MsA, MsB, MsC]
                    refine wpAnyH_take (i := 32) (oi := ?oim125) (v := ?vm125) ?him125 (by kernel_rfl) (by kernel_rfl) (by kernel_rfl) ?hQm125 (Or.inl ⟨?hwm125, ?hym125⟩) (by assumption) ?restm125
                    case him125 => simp only [MgA, MgB, MgC]; exact rfl
                    case hQm125 => exact fun _ _ _ h => h
                    case hwm125 => rfl
                    case hym125 => ((intro w hSw; (try dsimp only at hSw); go_simp) <;> with_reducible rfl)
                    try simp only [Act.put, MsA, MsB, MsC]
                    refine wpAnyH_take (i := 33) (oi := ?oim126) (v := ?vm126) ?him126 (by kernel_rfl) (by kernel_rfl) (by kernel_rfl) ?hQm126 (Or.inl ⟨?hwm126, ?hym126⟩) (by assumption) ?restm126
                    case him126 => simp only [MgA, MgB, MgC]; exact rfl
                    case hQm126 => exact fun _ _ _ h => h
                    case hwm126 => rfl
                    case hym126 => ((intro w hSw; (try dsimp only at hSw); go_simp) <;> with_reducible rfl)
                    try simp only [Act.put, MsA, MsB, MsC]
                    refine wpAnyH_take (i := 34) (oi := ?oim127) (v := ?vm127) ?him127 (by kernel_rfl) (by kernel_rfl) (by kernel_rfl) ?hQm127 (Or.inl ⟨?hwm127, ?hym127⟩) (by assumption) ?restm127
                    case him127 => simp only [MgA, MgB, MgC]; exact rfl
                    case hQm127 => exact fun _ _ _ h => h
                    case hwm127 => rfl
                    case hym127 => ((intro wS hSw; have t0 := (hSw.cell (p := ⟨b2, o2 + k * 8 + 5, none⟩) hbo2).trans d5; go_simp) <;> with_reducible rfl)
                    try simp only [Act.put, MsA, MsB, MsC]
                    refine wpAnyH_take (i := 35) (oi := ?oim128) (v := ?vm128) ?him128 (by kernel_rfl) (by kernel_rfl) (by kernel_rfl) ?hQm128 (Or.inl ⟨?hwm128, ?hym128⟩) (by assumption) ?restm128
                    case him128 => simp only [MgA, MgB, MgC]; exact rfl
                    case hQm128 => exact fun _ _ _ h => h
                    case hwm128 => rfl
                    case hym128 => ((intro w hSw; (try dsimp only at hSw); go_simp) <;> with_reducible rfl)
                    try simp only [Act.put, MsA, MsB, MsC]
                    refine wpAnyH_take (i := 36) (oi := ?oim129) (v := ?vm129) ?him129 (by kernel_rfl) (by kernel_rfl) (by kernel_rfl) ?hQm129 (Or.inl ⟨?hwm129, ?hym129⟩) (by assumption) ?restm129
                    case him129 => simp only [MgA, MgB, MgC]; exact rfl
                    case hQm129 => exact fun _ _ _ h => h
                    case hwm129 => rfl
                    case hym129 => ((intro w hSw; (try dsimp only at hSw); go_simp) <;> with_reducible rfl)
                    try simp only [Act.put, MsA, MsB, MsC]
                    refine wpAnyH_take (i := 37) (oi := ?oim130) (v := ?vm130) ?him130 (by kernel_rfl) (by kernel_rfl) (by kernel_rfl) ?hQm130 (Or.inl ⟨?hwm130, ?hym130⟩) (by assumption) ?restm130
                    case him130 => simp only [MgA, MgB, MgC]; exact rfl
                    case hQm130 => exact fun _ _ _ h => h
                    case hwm130 => rfl
                    case hym130 => ((intro w hSw; (try dsimp only at hSw); go_simp) <;> with_reducible rfl)
                    try simp only [Act.put, MsA, MsB, MsC]
                    refine wpAnyH_take (i := 38) (oi := ?oim131) (v := ?vm131) ?him131 (by kernel_rfl) (by kernel_rfl) (by kernel_rfl) ?hQm131 (Or.inl ⟨?hwm131, ?hym131⟩) (by assumption) ?restm131
                    case him131 => simp only [MgA, MgB, MgC]; exact rfl
                    case hQm131 => exact fun _ _ _ h => h
                    case hwm131 => rfl
                    case hym131 => ((intro w hSw; (try dsimp only at hSw); go_simp) <;> with_reducible rfl)
                    try simp only [Act.put, MsA, MsB, MsC]
                    refine wpAnyH_take (i := 39) (oi := ?oim132) (v := ?vm132) ?him132 (by kernel_rfl) (by kernel_rfl) (by kernel_rfl) ?hQm132 (Or.inl ⟨?hwm132, ?hym132⟩) (by assumption) ?restm132
                    case him132 => simp only [MgA, MgB, MgC]; exact rfl
                    case hQm132 => exact fun _ _ _ h => h
                    case hwm132 => rfl
                    case hym132 => ((intro w hSw; (try dsimp only at hSw); go_simp) <;> with_reducible rfl)
                    try simp only [Act.put, MsA, MsB, MsC]
                    refine wpAnyH_take (i := 40) (oi := ?oim133) (v := ?vm133) ?him133 (by kernel_rfl) (by kernel_rfl) (by kernel_rfl) ?hQm133 (Or.inl ⟨?hwm133, ?hym133⟩) (by assumption) ?restm133
                    case him133 => simp only [MgA, MgB, MgC]; exact rfl
                    case hQm133 => exact fun _ _ _ h => h
                    case hwm133 => rfl
                    case hym133 => ((intro w hSw; (try dsimp only at hSw); go_simp) <;> with_reducible rfl)
                    try simp only [Act.put, MsA, MsB, MsC]
                    refine wpAnyH_take (i := 41) (oi := ?oim134) (v := ?vm134) ?him134 (by kernel_rfl) (by kernel_rfl) (by kernel_rfl) ?hQm134 (Or.inl ⟨?hwm134, ?hym134⟩) (by assumption) ?restm134
                    case him134 => simp only [MgA, MgB, MgC]; exact rfl
                    case hQm134 => exact fun _ _ _ h => h
                    case hwm134 => rfl
                    case hym134 => ((intro w hSw; (try dsimp only at hSw); go_simp) <;> with_reducible rfl)
                    try simp only [Act.put, MsA, MsB, MsC]
                    refine wpAnyH_take (i := 42) (oi := ?oim135) (v := ?vm135) ?him135 (by kernel_rfl) (by kernel_rfl) (by kernel_rfl) ?hQm135 (Or.inl ⟨?hwm135, ?hym135⟩) (by assumption) ?restm135
                    case him135 => simp only [MgA, MgB, MgC]; exact rfl
                    case hQm135 => exact fun _ _ _ h => h
                    case hwm135 => rfl
                    case hym135 => ((intro wS hSw; have t0 := (hSw.cell (p := ⟨b, o + k * 8 + 7, none⟩) hbo).trans c7; go_simp) <;> with_reducible rfl)
                    try simp only [Act.put, MsA, MsB, MsC]
                    refine wpAnyH_take (i := 43) (oi := ?oim136) (v := ?vm136) ?him136 (by kernel_rfl) (by kernel_rfl) (by kernel_rfl) ?hQm136 (Or.inl ⟨?hwm136, ?hym136⟩) (by assumption) ?restm136
                    case him136 => simp only [MgA, MgB, MgC]; exact rfl
                    case hQm136 => exact fun _ _ _ h => h
                    case hwm136 => rfl
                    case hym136 => ((intro w hSw; (try dsimp only at hSw); go_simp) <;> with_reducible rfl)
                    try simp only [Act.put, MsA, MsB, MsC]
                    refine wpAnyH_take (i := 44) (oi := ?oim137) (v := ?vm137) ?him137 (by kernel_rfl) (by kernel_rfl) (by kernel_rfl) ?hQm137 (Or.inl ⟨?hwm137, ?hym137⟩) (by assumption) ?restm137
                    case him137 => simp only [MgA, MgB, MgC]; exact rfl
                    case hQm137 => exact fun _ _ _ h => h
                    case hwm137 => rfl
                    case hym137 => ((intro w hSw; (try dsimp only at hSw); go_simp) <;> with_reducible rfl)
                    try simp only [Act.put, MsA, MsB, MsC]
                    refine wpAnyH_take (i := 45) (oi := ?oim138) (v := ?vm138) ?him138 (by kernel_rfl) (by kernel_rfl) (by kernel_rfl) ?hQm138 (Or.inl ⟨?hwm138, ?hym138⟩) (by assumption) ?restm138
                    case him138 => simp only [MgA, MgB, MgC]; exact rfl
                    case hQm138 => exact fun _ _ _ h => h
                    case hwm138 => rfl
                    case hym138 => ((intro w hSw; (try dsimp only at hSw); go_simp) <;> with_reducible rfl)
                    try simp only [Act.put, MsA, MsB, MsC]
                    refine wpAnyH_take (i := 46) (oi := ?oim139) (v := ?vm139) ?him139 (by kernel_rfl) (by kernel_rfl) (by kernel_rfl) ?hQm139 (Or.inl ⟨?hwm139, ?hym139⟩) (by assumption) ?restm139
                    case him139 => simp only [MgA, MgB, MgC]; exact rfl
                    case hQm139 => exact fun _ _ _ h => h
                    case hwm139 => rfl
                    case hym139 => ((intro w hSw; (try dsimp only at hSw); go_simp) <;> with_reducible rfl)
                    try simp only [Act.put, MsA, MsB, MsC]
                    refine wpAnyH_take (i := 47) (oi := ?oim140) (v := ?vm140) ?him140 (by kernel_rfl) (by kernel_rfl) (by kernel_rfl) ?hQm140 (Or.inl ⟨?hwm140, ?hym140⟩) (by assumption) ?restm140
                    case him140 => simp only [MgA, MgB, MgC]; exact rfl
                    case hQm140 => exact fun _ _ _ h => h
                    case hwm140 => rfl
                    case hym140 => ((intro wS hSw; have t0 := (hSw.cell (p := ⟨b2, o2 + k * 8 + 7, none⟩) hbo2).trans d7; go_simp) <;> with_reducible rfl)
                    try simp only [Act.put, MsA, MsB, MsC]
                    refine wpAnyH_take (i := 48) (oi := ?oim141) (v := ?vm141) ?him141 (by kernel_rfl) (by kernel_rfl) (by kernel_rfl) ?hQm141 (Or.inl ⟨?hwm141, ?hym141⟩) (by assumption) ?restm141
                    case him141 => simp only [MgA, MgB, MgC]; exact rfl
                    case hQm141 => exact fun _ _ _ h => h
                    case hwm141 => rfl
                    case hym141 => ((intro w hSw; (try dsimp only at hSw); go_simp) <;> with_reducible rfl)
                    try simp only [Act.put, MsA, MsB, MsC]
                    refine wpAnyH_take (i := 49) (oi := ?oim142) (v := ?vm142) ?him142 (by kernel_rfl) (by kernel_rfl) (by kernel_rfl) ?hQm142 (Or.inl ⟨?hwm142, ?hym142⟩) (by assumption) ?restm142
                    case him142 => simp only [MgA, MgB, MgC]; exact rfl
                    case hQm142 => exact fun _ _ _ h => h
                    case hwm142 => rfl
                    case hym142 => ((intro w hSw; (try dsimp only at hSw); go_simp) <;> with_reducible rfl)
                    try simp only [Act.put, MsA, MsB, MsC]
                    refine wpAnyH_done (by kernel_rfl) ?_ _
                    replace hbr := hbr.drew
                    clear hHeld c1 c4 c5 c7 d1 d4 d5 d7 RI4 RG4
                    go_wp2_with fail
                    go_roundw
                    case rel => exact ⟨k + 1, by omega, by go_num, hbr⟩
                    case measure => simp [intOf]; omega
                  · obtain rfl : k = N3 := by omega
                    go_wp2_with fail
                    go_ret
                    exact ⟨by first | rfl | simp, D⟩
end Go.Proofs.Ytempggikcpminaa
