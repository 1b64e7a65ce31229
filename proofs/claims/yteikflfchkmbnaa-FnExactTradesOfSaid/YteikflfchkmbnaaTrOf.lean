/-
  The trades of a tape: the fills of a book that are right as trades, in both programs.
-/
import Derived.Test.YteikflfchkmbnaaVol
import Derived.Test.YteikflfchkmbnaaTrd
import Derived.Test.YteikflfchkmbnaaStep
namespace Go.Proofs.Yteikflfchkmbnaa
open Go.RowKit Wire

/-- record k is a fill of the book, and a right trade -/
def trAt (zs : List Int) (sym : Int) (k : Nat) : Bool := volAt zs sym k && trdI (num zs (k * 8 + 6)) (num zs (k * 8 + 7))
def trZ (zs : List Int) (sym : Int) : Nat → List Int
  | 0 => []
  | k + 1 => if trAt zs sym k = true then trZ zs sym k ++ [num zs (k * 8 + 6), num zs (k * 8 + 7)] else trZ zs sym k
def trN (zs : List Int) (sym : Int) : Nat → Nat
  | 0 => 0
  | k + 1 => if trAt zs sym k = true then trN zs sym k + 1 else trN zs sym k
theorem trN_le (zs : List Int) (sym : Int) : ∀ k, trN zs sym k ≤ k
  | 0 => Nat.le_refl _
  | k + 1 => by
    have := trN_le zs sym k
    rw [trN]
    split <;> omega
theorem trZ_len (zs : List Int) (sym : Int) : ∀ k, (trZ zs sym k).length = trN zs sym k * 2
  | 0 => rfl
  | k + 1 => by
    have := trZ_len zs sym k
    rw [trZ, trN]
    split
    · rw [List.length_append, this]; simp; omega
    · exact this
/-- what both programs' lists are -/
def trV (zs : List Int) (sym : Int) (n : Nat) : List Int := if okTo zs n = true then trZ zs sym n else []
def trM (zs : List Int) (sym : Int) (n : Nat) : Nat := if okTo zs n = true then trN zs sym n else 0
theorem trV_no {zs : List Int} {n k : Nat} {sym : Int} (h : okAt zs k = false) (hk : k < n) : trV zs sym n = [] ∧ trM zs sym n = 0 := by
  simp [trV, trM, okTo_no h n hk]
theorem tro_empty (w : World) (e : TypeId) (sz : Nat) : (w.alloc (.cells #[] e)).ownsRow w.heap.size e sz (.slice (some ⟨w.heap.size, 0, none⟩) 0 0) 0 (nums []) :=
  ⟨by simp [nums], .inr ⟨w.heap.size, 0, #[], rfl, Nat.le_refl _, heap_alloc_new w _, Nat.le_refl _, Nat.zero_le _, by simp, by simp [nums]⟩⟩
theorem tro_lower {w : World} {base base' sz n : Nat} {e : TypeId} {v : Value} {xs : List Value} (h : w.ownsRow base e sz v n xs) (hb : base' ≤ base) : w.ownsRow base' e sz v n xs :=
  ⟨h.1, h.2.imp id (fun ⟨g, cap, cur, a, b, c⟩ => ⟨g, cap, cur, a, Nat.le_trans hb b, c⟩)⟩
theorem tro_cell2 {w : World} {S : Nat} {a b : Value} {T : TypeId} (h : w.heap[S]? = some (.cells #[a, b] T (0, 0))) : w.cell? ⟨S, 0, none⟩ = some a ∧ w.cell? ⟨S, 1, none⟩ = some b := by
  refine ⟨?_, ?_⟩ <;> simp [World.cell?, h]
theorem tro_free2 {w : World} {S : Nat} {a b : Value} {T : TypeId} (h : w.heap[S]? = some (.cells #[a, b] T (0, 0))) : w.frozen? ⟨S, 0, none⟩ = false ∧ w.frozen? ⟨S, 1, none⟩ = false := by
  refine ⟨?_, ?_⟩ <;> simp [World.frozen?, h]
theorem tro_put2 {w : World} {S : Nat} {a b u0 u1 : Value} {T : TypeId} (h : w.heap[S]? = some (.cells #[a, b] T (0, 0))) : ((w.setCell ⟨S, 0, none⟩ u0).setCell ⟨S, 1, none⟩ u1).heap[S]? = some (.cells #[u0, u1] T (0, 0)) := by
  simp [World.setCell, Array.getElem?_modify, h]
theorem tro_info : (Try.prog.info? 31).map (fun i => (i.zero, i.size, i.bytes)) = some (some (.agg #[.int .i64 0, .int .i64 0]), 2, 16) := by kernel_rfl
set_option linter.unusedSimpArgs false in
set_option maxHeartbeats 3200000 in
set_option maxRecDepth 100000 in
theorem spec_TradesOf (A : Option Addr) (n c : Nat) (zs : List Int) (sym : Int) (w : World) (hl : Lst w w.heap.size 8 A n zs) (hn : n ≤ 1048576) :
    Calls Try.prog 21 #[.slice A n c, .int .i64 sym] w fun e w' => ∃ v, e = .returned v ∧ w'.ownsRow w.heap.size 31 2 v (trM zs sym n) (nums (trV zs sym n)) ∧ Below w.heap.size w w' := by
  obtain ⟨i0, hi, hz0, hz1, hz2⟩ := info_parts tro_info
  go_enter Try.func21, Try.ntmps21
  go_wp2_with fail
  go_loopw [5, 6] (fun v i wr => ∃ k : Nat, k ≤ n ∧ i = .int .i64 (k : Int) ∧ okTo zs k = true ∧ wr.ownsRow w.heap.size 31 2 v (trN zs sym k) (nums (trZ zs sym k)) ∧ Below w.heap.size w wr) (fun _ i _ => n - (intOf i).toNat)
  case atStart => exact ⟨0, Nat.zero_le _, rfl, rfl, tro_empty w _ 2, (Below.refl _ _).alloc (Nat.le_refl _) _⟩
  case round =>
    obtain ⟨k, hk, rfl, hok, hown, hbel⟩ := hrel
    obtain ⟨A2, d2, rfl, _, _⟩ := own_slice hown
    by_cases hlt : k < n
    · obtain ⟨b, o, rfl, hb, c0, c1, c2, c3, c4, c5, c6, c7⟩ := (hl.below hbel).row8 hlt
      have hok2 := fun h => okTo_step (k := k) hok h
      have hno := fun h => @trV_no zs n k sym h hlt
      have HZ : Hid (trZ zs sym (k + 1) = if trAt zs sym k = true then trZ zs sym k ++ [num zs (k * 8 + 6), num zs (k * 8 + 7)] else trZ zs sym k) := Lib.hid rfl
      have HM : Hid (trN zs sym (k + 1) = if trAt zs sym k = true then trN zs sym k + 1 else trN zs sym k) := Lib.hid rfl
      have HT : Hid (trAt zs sym k = (((num zs (k * 8 + 1) == 3) && (num zs (k * 8 + 2) == sym)) && trdI (num zs (k * 8 + 6)) (num zs (k * 8 + 7)))) := Lib.hid rfl
      have hml := trN_le zs sym k
      have HA : Hid (okAt zs k = recB (num zs (k * 8)) (num zs (k * 8 + 1)) (num zs (k * 8 + 2)) (num zs (k * 8 + 3)) (num zs (k * 8 + 4)) (num zs (k * 8 + 5)) (num zs (k * 8 + 6)) (num zs (k * 8 + 7))) := Lib.hid rfl
      generalize trN zs sym k = M at *
      generalize trZ zs sym k = ts at *
      generalize trAt zs sym k = tb at *
      generalize num zs (k * 8) = z0 at *
      generalize num zs (k * 8 + 1) = z1 at *
      generalize num zs (k * 8 + 2) = z2 at *
      generalize num zs (k * 8 + 3) = z3 at *
      generalize num zs (k * 8 + 4) = z4 at *
      generalize num zs (k * 8 + 5) = z5 at *
      generalize num zs (k * 8 + 6) = z6 at *
      generalize num zs (k * 8 + 7) = z7 at *
      clear hok
      rcases Bool.eq_false_or_eq_true (okAt zs k) with hat | hat
      · have HO := Lib.hid (hok2 hat)
        have HR : Hid (recB z0 z1 z2 z3 z4 z5 z6 z7 = true) := Lib.hid (HA.out ▸ hat)
        clear hok2 hno hat HA
        go_wp2_with fail
        refine (spec_RecOk _ _ _ _ _ _ _ _ _).mono ?_
        rw [HR.out]
        rintro e w1 ⟨rfl, hb1⟩
        have hbw : b < wr.heap.size := Nat.lt_of_lt_of_le hb hbel.size
        replace c1 := (hb1.cell (p := ⟨b, o + k * 8 + 1, none⟩) hbw).trans c1
        replace c2 := (hb1.cell (p := ⟨b, o + k * 8 + 2, none⟩) hbw).trans c2
        replace c6 := (hb1.cell (p := ⟨b, o + k * 8 + 6, none⟩) hbw).trans c6
        replace c7 := (hb1.cell (p := ⟨b, o + k * 8 + 7, none⟩) hbw).trans c7
        replace hown := own_below hown hb1
        replace hbel := hbel.trans (hb1.mono hbel.size)
        replace hbw := Nat.lt_of_lt_of_le hbw hb1.size
        clear hb1 c0 c3 c4 c5 hl hb
        go_upto_region 7 with fail
        refine wp_region_held_drew (S := (fun w' => Below w1.heap.size w1 w' ∧ w'.cell? ⟨b, o + k * 8 + 6, none⟩ = some (.int .i64 z6) ∧ w'.cell? ⟨b, o + k * 8 + 7, none⟩ = some (.int .i64 z7))) (by kernel_rfl) ?hSr (fun hHeld => ?restr)
        case hSr => exact ⟨(Below.refl _ _).drew, c6, c7⟩
        have hn8 : (k < n) = True := by simp; omega
        refine wpAnyH_take (i := 0) (oi := ?oiu15) (v := ?vu15) ?hiu15 (by kernel_rfl) (by kernel_rfl) (by kernel_rfl) ?hQu15 (Or.inl ⟨?hwu15, ?hyu15⟩) (by assumption) ?restu15
        case hiu15 => simp only [List.getElem?_toArray, List.getElem?_cons_succ, List.getElem?_cons_zero]; exact rfl
        case hQu15 => exact fun _ _ _ h => h
        case hwu15 => rfl
        case hyu15 => ((intro w hSw; (try dsimp only at hSw); go_simp) <;> with_reducible rfl)
        try simp only [Act.put, List.setIfInBounds_toArray, List.set_cons_zero, List.set_cons_succ]
        refine wpAnyH_take (i := 1) (oi := ?oiu16) (v := ?vu16) ?hiu16 (by kernel_rfl) (by kernel_rfl) (by kernel_rfl) ?hQu16 (Or.inl ⟨?hwu16, ?hyu16⟩) (by assumption) ?restu16
        case hiu16 => simp only [List.getElem?_toArray, List.getElem?_cons_succ, List.getElem?_cons_zero]; exact rfl
        case hQu16 => exact fun _ _ _ h => h
        case hwu16 => rfl
        case hyu16 => ((intro w hSw; (try dsimp only at hSw); go_simp) <;> with_reducible rfl)
        try simp only [Act.put, List.setIfInBounds_toArray, List.set_cons_zero, List.set_cons_succ]
        refine wpAnyH_take (i := 2) (oi := ?oiu17) (v := ?vu17) ?hiu17 (by kernel_rfl) (by kernel_rfl) (by kernel_rfl) ?hQu17 (Or.inl ⟨?hwu17, ?hyu17⟩) (by assumption) ?restu17
        case hiu17 => simp only [List.getElem?_toArray, List.getElem?_cons_succ, List.getElem?_cons_zero]; exact rfl
        case hQu17 => exact fun _ _ _ h => h
        case hwu17 => rfl
        case hyu17 => ((intro w hSw; (try dsimp only at hSw); go_simp) <;> with_reducible rfl)
        try simp only [Act.put, List.setIfInBounds_toArray, List.set_cons_zero, List.set_cons_succ]
        refine wpAnyH_take (i := 3) (oi := ?oiu18) (v := ?vu18) ?hiu18 (by kernel_rfl) (by kernel_rfl) (by kernel_rfl) ?hQu18 (Or.inl ⟨?hwu18, ?hyu18⟩) (by assumption) ?restu18
        case hiu18 => simp only [List.getElem?_toArray, List.getElem?_cons_succ, List.getElem?_cons_zero]; exact rfl
        case hQu18 => exact fun _ _ _ h => h
        case hwu18 => rfl
        case hyu18 => ((intro w hSw; (try dsimp only at hSw); go_simp) <;> with_reducible rfl)
        try simp only [Act.put, List.setIfInBounds_toArray, List.set_cons_zero, List.set_cons_succ]
        refine wpAnyH_take (i := 4) (oi := ?oiu19) (v := ?vu19) ?hiu19 (by kernel_rfl) (by kernel_rfl) (by kernel_rfl) ?hQu19 (Or.inl ⟨?hwu19, ?hyu19⟩) (by assumption) ?restu19
        case hiu19 => simp only [List.getElem?_toArray, List.getElem?_cons_succ, List.getElem?_cons_zero]; exact rfl
        case hQu19 => exact fun _ _ _ h => h
        case hwu19 => rfl
        case hyu19 => ((intro w hSw; (try dsimp only at hSw); go_simp) <;> with_reducible rfl)
        try simp only [Act.put, List.setIfInBounds_toArray, List.set_cons_zero, List.set_cons_succ]
        refine wpAnyH_take (i := 5) (oi := ?oiu20) (v := ?vu20) ?hiu20 (by kernel_rfl) (by kernel_rfl) (by kernel_rfl) ?hQu20 (Or.inl ⟨?hwu20, ?hyu20⟩) (by assumption) ?restu20
        case hiu20 => simp only [List.getElem?_toArray, List.getElem?_cons_succ, List.getElem?_cons_zero]; exact rfl
        case hQu20 => exact fun _ _ _ h => h
        case hwu20 => rfl
        case hyu20 => ((intro w hSw; (try dsimp only at hSw); go_simp) <;> with_reducible rfl)
        try simp only [Act.put, List.setIfInBounds_toArray, List.set_cons_zero, List.set_cons_succ]
        refine wpAnyH_take (i := 6) (oi := ?oiu21) (v := ?vu21) ?hiu21 (by kernel_rfl) (by kernel_rfl) (by kernel_rfl) ?hQu21 (Or.inl ⟨?hwu21, ?hyu21⟩) (by assumption) ?restu21
        case hiu21 => simp only [List.getElem?_toArray, List.getElem?_cons_succ, List.getElem?_cons_zero]; exact rfl
        case hQu21 => exact fun _ _ _ h => h
        case hwu21 => rfl
        case hyu21 => ((intro w hSw; (try dsimp only at hSw); go_simp) <;> with_reducible rfl)
        try simp only [Act.put, List.setIfInBounds_toArray, List.set_cons_zero, List.set_cons_succ]
        refine wpAnyH_take (i := 7) (oi := ?oiu22) (v := ?vu22) ?hiu22 (by kernel_rfl) (by kernel_rfl) (by kernel_rfl) ?hQu22 (Or.inl ⟨?hwu22, ?hyu22⟩) (by assumption) ?restu22
        case hiu22 => simp only [List.getElem?_toArray, List.getElem?_cons_succ, List.getElem?_cons_zero]; exact rfl
        case hQu22 => exact fun _ _ _ h => h
        case hwu22 => rfl
        case hyu22 => ((intro w hSw; (try dsimp only at hSw); go_simp) <;> with_reducible rfl)
        try simp only [Act.put, List.setIfInBounds_toArray, List.set_cons_zero, List.set_cons_succ]
        refine wpAnyH_take (i := 8) (oi := ?oiu23) (v := ?vu23) ?hiu23 (by kernel_rfl) (by kernel_rfl) (by kernel_rfl) ?hQu23 (Or.inl ⟨?hwu23, ?hyu23⟩) (by assumption) ?restu23
        case hiu23 => simp only [List.getElem?_toArray, List.getElem?_cons_succ, List.getElem?_cons_zero]; exact rfl
        case hQu23 => exact fun _ _ _ h => h
        case hwu23 => rfl
        case hyu23 => ((intro w hSw; (try dsimp only at hSw); go_simp) <;> with_reducible rfl)
        try simp only [Act.put, List.setIfInBounds_toArray, List.set_cons_zero, List.set_cons_succ]
        refine wpAnyH_take (i := 9) (oi := ?oiu24) (v := ?vu24) ?hiu24 (by kernel_rfl) (by kernel_rfl) (by kernel_rfl) ?hQu24 (Or.inl ⟨?hwu24, ?hyu24⟩) (by assumption) ?restu24
        case hiu24 => simp only [List.getElem?_toArray, List.getElem?_cons_succ, List.getElem?_cons_zero]; exact rfl
        case hQu24 => exact fun _ _ _ h => h
        case hwu24 => rfl
        case hyu24 => ((intro w hSw; (try dsimp only at hSw); go_simp) <;> with_reducible rfl)
        try simp only [Act.put, List.setIfInBounds_toArray, List.set_cons_zero, List.set_cons_succ]
        refine wpAnyH_take (i := 10) (oi := ?oiu25) (v := ?vu25) ?hiu25 (by kernel_rfl) (by kernel_rfl) (by kernel_rfl) ?hQu25 (Or.inl ⟨?hwu25, ?hyu25⟩) (by assumption) ?restu25
        case hiu25 => simp only [List.getElem?_toArray, List.getElem?_cons_succ, List.getElem?_cons_zero]; exact rfl
        case hQu25 => exact fun _ _ _ h => h
        case hwu25 => rfl
        case hyu25 => ((intro w hSw; (try dsimp only at hSw); go_simp) <;> with_reducible rfl)
        try simp only [Act.put, List.setIfInBounds_toArray, List.set_cons_zero, List.set_cons_succ]
        refine wpAnyH_ready (rs := [11]) (by kernel_rfl) (by simp) ?_
        refine AllReadyH.cons (o := ?ou26) ?hou26 (fun K hK => ?stepu26) ?moreu26
        case hou26 => simp only [List.getElem?_toArray, List.getElem?_cons_succ, List.getElem?_cons_zero]; exact rfl
        case moreu26 => exact AllReadyH.nil
        go_simp
        have hBv : Below w1.heap.size w1 ((w1.alloc (.cells #[.int .i64 0, .int .i64 0] 31)).drew) := ((Below.refl _ _).alloc (Nat.le_refl _) _).drew
        refine hK.out _ _ ?hSu26 (fun hHeld => ?restu26)
        case hSu26 => exact ⟨hBv, ((hBv).cell (p := ⟨b, o + k * 8 + 6, none⟩) hbw).trans c6, ((hBv).cell (p := ⟨b, o + k * 8 + 7, none⟩) hbw).trans c7⟩
        clear hK K
        try simp only [Act.put, List.setIfInBounds_toArray, List.set_cons_zero, List.set_cons_succ]
        refine wpAnyH_ready (rs := [12]) (by kernel_rfl) (by simp) ?_
        refine AllReadyH.cons (o := ?ou27) ?hou27 (fun K hK => ?stepu27) ?moreu27
        case hou27 => simp only [List.getElem?_toArray, List.getElem?_cons_succ, List.getElem?_cons_zero]; exact rfl
        case moreu27 => exact AllReadyH.nil
        go_simp
        have hP : ((w1.alloc (.cells #[.int .i64 z6, .int .i64 z7] 31)).drew).heap[w1.heap.size]? = _ := heap_alloc_new w1 (.cells #[.int .i64 z6, .int .i64 z7] 31)
        have hBp : Below w1.heap.size w1 ((w1.alloc (.cells #[.int .i64 z6, .int .i64 z7] 31)).drew) := ((Below.refl _ _).alloc (Nat.le_refl _) _).drew
        clear hBv
        refine hK.out _ _ ?hSu27 (fun hHeld => ?restu27)
        case hSu27 => exact ⟨hBp, ((hBp).cell (p := ⟨b, o + k * 8 + 6, none⟩) hbw).trans c6, ((hBp).cell (p := ⟨b, o + k * 8 + 7, none⟩) hbw).trans c7⟩
        clear hK K
        try simp only [Act.put, List.setIfInBounds_toArray, List.set_cons_zero, List.set_cons_succ]
        generalize ((w1.alloc (.cells #[.int .i64 z6, .int .i64 z7] 31)).drew) = v2 at *
        refine wpAnyH_done (by kernel_rfl) ?_ _
        clear hn8
        replace c1 := (hHeld.1.cell (p := ⟨b, o + k * 8 + 1, none⟩) hbw).trans c1
        replace c2 := (hHeld.1.cell (p := ⟨b, o + k * 8 + 2, none⟩) hbw).trans c2
        replace hown := own_below hown hHeld.1
        replace hbel := hbel.trans (hHeld.1.mono hbel.size)
        have hGv : w1.heap.size < v2.heap.size := heap_lt' hP
        obtain ⟨g0, g1⟩ := tro_cell2 hP
        clear hHeld c6 c7 hBp
        rcases Bool.eq_false_or_eq_true (z1 == 3) with t1 | t1
        · rcases Bool.eq_false_or_eq_true (z2 == sym) with t2 | t2
          · go_wp2_with fail
            refine (spec_l9Trade z6 z7 _).mono ?_
            rcases Bool.eq_false_or_eq_true (trdI z6 z7) with t3 | t3
            · have HF : Hid (tb = true) := Lib.hid (by rw [HT.out, t1, t2, t3]; rfl)
              rw [t3]
              rintro e w3 ⟨rfl, hb3⟩
              replace hown := own_below hown hb3
              replace hP := (hb3.block w1.heap.size hGv).trans hP
              replace hbel := hbel.trans (hb3.mono hbel.size)
              have hbs := hbel.size
              have hov := hown.lt
              obtain ⟨g0, g1⟩ := tro_cell2 hP
              clear hb3 hP c1 c2 t3
              go_wp2_with (at_builtin; refine wpList_append_own_at _ rfl _ _ 28 rfl w.heap.size 31 i0 _ 2 16 Try.underlying28 hi hz0 hz1 hz2 rfl (by decide) _ _ _ rfl (hown.alloc _) ⟨w3.heap.size, 0, none⟩ 1 1 (nums [z6, z7]) rfl rfl ?c1 ?c2 ?c3 ?c4 ?c5 ?_)
              case c1 => exact World.news_of_block (heap_alloc_new w3 _)
              case c2 => exact nums_one _
              case c3 => unfold maxLen; omega
              case c4 => omega
              case c5 => simp; omega
              intro v' w4 hown4 hgrow4 _ _
              rw [← nums_append] at hown4
              have hbz := (hbel.alloc hbs (.cells #[.int .i64 z6, .int .i64 z7] 31)).grown hgrow4 (by simp; omega) (fun q hq => (hov q hq).1)
              clear hown hgrow4 hbel g0 g1
              go_wp2_with fail
              go_roundw
              case rel => exact ⟨k + 1, by omega, by go_num, HO.out, by rw [HM.out, HZ.out, HF.out]; exact hown4, hbz⟩
              case measure => simp [intOf]; omega
            · have HF : Hid (tb = false) := Lib.hid (by rw [HT.out, t3, Bool.and_false])
              rw [t3]
              rintro e w3 ⟨rfl, hb3⟩
              replace hown := own_below hown hb3
              replace hbel := hbel.trans (hb3.mono hbel.size)
              clear hb3 hP c1 c2 t3
              go_wp2_with fail
              go_roundw
              case rel => exact ⟨k + 1, by omega, by go_num, HO.out, by rw [HM.out, HZ.out, HF.out]; exact hown, hbel⟩
              case measure => simp [intOf]; omega
          · have HF : Hid (tb = false) := Lib.hid (by rw [HT.out, t2, Bool.and_false, Bool.false_and])
            go_wp2_with fail
            go_roundw
            case rel => exact ⟨k + 1, by omega, by go_num, HO.out, by rw [HM.out, HZ.out, HF.out]; exact hown, hbel⟩
            case measure => simp [intOf]; omega
        · have HF : Hid (tb = false) := Lib.hid (by rw [HT.out, t1, Bool.false_and, Bool.false_and])
          go_wp2_with fail
          go_roundw
          case rel => exact ⟨k + 1, by omega, by go_num, HO.out, by rw [HM.out, HZ.out, HF.out]; exact hown, hbel⟩
          case measure => simp [intOf]; omega
      · have HNO := Lib.hid (hno hat)
        have HR : Hid (recB z0 z1 z2 z3 z4 z5 z6 z7 = false) := Lib.hid (HA.out ▸ hat)
        clear hok2 hat HA hno
        go_wp2_with fail
        refine (spec_RecOk _ _ _ _ _ _ _ _ _).mono ?_
        rw [HR.out]
        rintro e w1 ⟨rfl, hb1⟩
        have hbz := hbel.trans (hb1.mono hbel.size)
        have hB := tro_lower (tro_empty w1 31 2) hbz.size
        clear hown hbel hb1 c0 c1 c2 c3 c4 c5 c6 c7 hl
        go_wp2_with fail
        go_ret
        exact ⟨_, rfl, by rw [HNO.out.1, HNO.out.2]; exact hB, hbz.alloc hbz.size _⟩
    · obtain rfl : k = n := by omega
      have HN : Hid (trV zs sym k = trZ zs sym k ∧ trM zs sym k = trN zs sym k) := Lib.hid (by simp [trV, trM, hok])
      clear hok hl
      go_wp2_with fail
      go_ret
      exact ⟨_, rfl, by rw [HN.out.1, HN.out.2]; exact hown, hbel⟩
end Go.Proofs.Yteikflfchkmbnaa
