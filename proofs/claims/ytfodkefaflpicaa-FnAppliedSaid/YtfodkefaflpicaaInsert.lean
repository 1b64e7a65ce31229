/-
  An order put into its side of the opened book.
-/
import Derived.Test.YtfodkefaflpicaaIns
import Derived.Test.YtfodkefaflpicaaCross
import Derived.Test.YtfodkefaflpicaaDrop
namespace Go.Proofs.Ytfodkefaflpicaa
open Go.RowKit Wire

/-- the rows with an order put in at place i -/
def insZ (zs : List Int) (i : Nat) (o : List Int) : List Int := zs.take (i * 4) ++ o ++ zs.drop (i * 4)
theorem insZ_len {zs o : List Int} {n i : Nat} (hz : zs.length = n * 4) (ho : o.length = 4) (hi : i ≤ n) : (insZ zs i o).length = (n + 1) * 4 := by
  simp [insZ, hz, ho]
  omega
theorem insZ_lo {zs o : List Int} {n i q j : Nat} (hz : zs.length = n * 4) (hi : i ≤ n) (hq : q < i) (hj : j < 4) : num (insZ zs i o) (q * 4 + j) = num zs (q * 4 + j) := by
  unfold num insZ
  rw [List.append_assoc, List.getD_eq_getElem?_getD, List.getElem?_append_left (by simp; omega), List.getElem?_take, if_pos (by omega), ← List.getD_eq_getElem?_getD]
theorem insZ_at {zs o : List Int} {n i j : Nat} (hz : zs.length = n * 4) (ho : o.length = 4) (hi : i ≤ n) (hj : j < 4) : num (insZ zs i o) (i * 4 + j) = num o j := by
  unfold num insZ
  have ht : (zs.take (i * 4)).length = i * 4 := by simp; omega
  rw [List.append_assoc, List.getD_eq_getElem?_getD, List.getElem?_append_right (by omega), ht, List.getElem?_append_left (by omega), List.getD_eq_getElem?_getD]
  congr 2
  omega
theorem insZ_hi {zs o : List Int} {n i q j : Nat} (hz : zs.length = n * 4) (ho : o.length = 4) (hi : i < q) (hq : q < n + 1) (hj : j < 4) : num (insZ zs i o) (q * 4 + j) = num zs ((q - 1) * 4 + j) := by
  unfold num insZ
  have ht : (zs.take (i * 4)).length = i * 4 := by simp; omega
  rw [List.append_assoc, List.getD_eq_getElem?_getD, List.getElem?_append_right (by omega), ht, List.getElem?_append_right (by omega), ho, List.getElem?_drop, List.getD_eq_getElem?_getD]
  congr 2
  omega
theorem row4_of {w : World} {bo : Nat} {a b c d : Int} {T : TypeId} (h : w.heap[bo]? = some (.cells #[.int .i64 a, .int .i64 b, .int .i64 c, .int .i64 d] T (0, 0))) : w.rowIs bo T 4 (numAt fun j => num [a, b, c, d] j) :=
  ⟨_, h, rfl, fun i hi => by
    rcases (show i = 0 ∨ i = 1 ∨ i = 2 ∨ i = 3 from by omega) with rfl | rfl | rfl | rfl <;> rfl⟩
/-- an order's place: behind all that are not worse -/
def restI (side p : Int) (zs : List Int) (n : Nat) : Nat := lead (fun k => !betB side p (price zs k)) n
theorem cell_lt {w : World} {p : Addr} {u : Value} (h : w.cell? p = some u) : p.block < w.heap.size := by
  rcases Nat.lt_or_ge p.block w.heap.size with h' | h'
  · exact h'
  · simp [World.cell?, Array.getElem?_eq_none h'] at h
theorem Opened.lower {w : World} {X X' S L : Nat} {T0 T1 T2 : TypeId} {F : Value} {side : Int} {zs : List Int} {n : Nat} {v : Value} {gs : Nat → Nat} (h : Opened w X S L T0 T1 T2 F side zs n v gs) (hX : X' ≤ X) : Opened w X' S L T0 T1 T2 F side zs n v gs :=
  ⟨⟨Nat.le_trans hX h.low.1, Nat.le_trans hX h.low.2.1, h.low.2.2⟩, h.side, h.list, own_mono h.own hX, h.far⟩
theorem Copies.lower {w : World} {X X' S L : Nat} {T : TypeId} {zs : List Int} {n : Nat} {v : Value} {gs : Nat → Nat} (h : Copies w X S L T zs n v gs) (hX : X' ≤ X) : Copies w X' S L T zs n v gs := fun k hk => by
  obtain ⟨h1, h2⟩ := h k hk
  exact ⟨Nat.le_trans hX h1, h2⟩
/-- behind slices.Insert and the store of its answer -/
theorem insert_one {u u1 : World} {X S L bo i : Nat} {T T0 T1 T2 : TypeId} {F : Value} {side : Int} {zs o : List Int} {n : Nat} {v v' : Value} {gs : Nat → Nat} (hop : Opened u X S L T0 T1 T2 F side zs n v gs) (hcp : Copies u X S L T zs n v gs) (hz : zs.length = n * 4) (ho : o.length = 4) (hi : i ≤ n)
    (hg : u.grownBy u1 v.ownBlock) (hown : u1.ownsRow X T2 1 v' (n + 1) (ptrs (insP gs i bo) (n + 1))) (hv : v'.ownBlock = v.ownBlock ∨ ∃ q, v'.ownBlock = some q ∧ u.heap.size ≤ q)
    (hb : u.rowIs bo T 4 (numAt fun j => num o j)) (hbX : X ≤ bo) (hbS : bo ≠ S) (hbL : bo ≠ L) (hbv : some bo ≠ v.ownBlock) :
    Opened (u1.setCell ⟨L, 0, none⟩ v') X S L T0 T1 T2 F side (insZ zs i o) (n + 1) v' (insP gs i bo) ∧ Copies (u1.setCell ⟨L, 0, none⟩ v') X S L T (insZ zs i o) (n + 1) v' (insP gs i bo) := by
  have hL := heap_lt hop.list
  have hS := heap_lt hop.side
  have far : ∀ q, q < u.heap.size → some q ≠ v.ownBlock → v'.ownBlock ≠ some q := fun q hq h1 e => by
    rcases hv with h | ⟨r, h, hr⟩
    · exact h1 (e.symm.trans h)
    · rw [h] at e; injection e with e; omega
  refine ⟨⟨hop.low, (Below.heap_setCell u1 _ _ S hop.low.2.2).trans ((hg.block S hS (fun e => hop.far.2 e.symm)).trans hop.side), heap_set0 ((hg.block L hL (fun e => hop.far.1 e.symm)).trans hop.list), hown.kept (set_grown u1 L 0 v') (.inr (fun e => far L hL (fun h => hop.far.1 h.symm) e)), far L hL (fun h => hop.far.1 h.symm), far S hS (fun h => hop.far.2 h.symm)⟩, fun q hq => ?_⟩
  have old : ∀ b f, u.rowIs b T 4 f → b ≠ L → some b ≠ v.ownBlock → (u1.setCell ⟨L, 0, none⟩ v').rowIs b T 4 f := fun b f h h1 h2 => (h.of_block (hg.block b h.lt h2)).setOther (a := ⟨L, 0, none⟩) h1 _
  unfold insP
  by_cases h1 : q < i
  · obtain ⟨c1, c2, c3, c4, c5⟩ := hcp q (by omega)
    simp only [h1, if_true]
    exact ⟨c1, c2, c3, fun e => far _ c5.lt c4 e.symm, (old _ _ c5 c3 c4).congr (fun j hj => by simp only [numAt]; rw [insZ_lo hz hi h1 hj])⟩
  · by_cases h2 : q = i
    · subst h2
      simp only [Nat.lt_irrefl, if_false, if_true]
      exact ⟨hbX, hbS, hbL, fun e => far _ hb.lt hbv e.symm, (old _ _ hb hbL hbv).congr (fun j hj => by simp only [numAt]; rw [insZ_at hz ho hi hj])⟩
    · obtain ⟨c1, c2, c3, c4, c5⟩ := hcp (q - 1) (by omega)
      simp only [h1, h2, if_false]
      exact ⟨c1, c2, c3, fun e => far _ c5.lt c4 e.symm, (old _ _ c5 c3 c4).congr (fun j hj => by simp only [numAt]; rw [insZ_hi hz ho (by omega) hq hj])⟩
set_option linter.unusedSimpArgs false in
set_option maxHeartbeats 3200000 in
set_option maxRecDepth 100000 in
theorem impl_insert (X S L n bo : Nat) (side oi oa op oq : Int) (zs : List Int) (v : Value) (gs : Nat → Nat) (w : World) (hop : Opened w X S L 2 129 85 (.func (.func 134) #[] #[.pointer (some ⟨S, 0, none⟩)]) side zs n v gs) (hcp : Copies w X S L 28 zs n v gs) (hn : n ≤ 1048576) (hz : zs.length = n * 4)
    (hb : w.heap[bo]? = some (.cells #[.int .i64 oi, .int .i64 oa, .int .i64 op, .int .i64 oq] 28 (0, 0))) (hbX : X ≤ bo) (hbS : bo ≠ S) (hbL : bo ≠ L) (hbv : some bo ≠ v.ownBlock) :
    Calls Try.prog 130 #[.pointer (some ⟨L, 0, none⟩), .pointer (some ⟨bo, 0, none⟩)] w fun e w' => (∃ u, e = .returned u) ∧ (∃ v', Opened w' X S L 2 129 85 (.func (.func 134) #[] #[.pointer (some ⟨S, 0, none⟩)]) side (insZ zs (restI side op zs n) [oi, oa, op, oq]) (n + 1) v' (insP gs (restI side op zs n) bo) ∧ Copies w' X S L 28 (insZ zs (restI side op zs n) [oi, oa, op, oq]) (n + 1) v' (insP gs (restI side op zs n) bo)) ∧ Below X w w' ∧ ∀ k, k < w.heap.size → k ≠ L → some k ≠ v.ownBlock → w'.heap[k]? = w.heap[k]? := by
  have hXw : X ≤ w.heap.size := Nat.le_of_lt (Nat.lt_of_le_of_lt hop.low.1 (heap_lt hop.side))
  go_enter Try.func130, Try.ntmps130
  go_wp2_with fail
  go_loopw [4] (fun i wr => ∃ k : Nat, k ≤ n ∧ i = .int .i64 (k : Int) ∧ (∀ j, j < k → (!betB side op (price zs j)) = true) ∧ Below w.heap.size w wr) (fun i _ => n - (intOf i).toNat)
  case atStart => exact ⟨0, Nat.zero_le _, rfl, fun j hj => absurd hj (Nat.not_lt_zero j), Below.refl _ _⟩
  case round =>
    obtain ⟨k, hk, rfl, hall, hbel⟩ := hrel
    have HA := Lib.hid hall
    have hopr := hop.below hbel
    have hcpr := hcp.below hbel
    have hbr := (hbel.block bo (heap_lt hb)).trans hb
    have cB : wr.cell? ⟨bo, 2, none⟩ = some (.int .i64 op) := by simp [World.cell?, hbr]
    have cL := cell_of_row wr L 0 _ _ (0, 0) hopr.list
    have cF := cell_of_row wr L 1 _ _ (0, 0) hopr.list
    have cS := cell_of_row wr S 0 _ _ (0, 0) hopr.side
    simp at cL cF cS
    clear hall
    have fin : ∀ wz : World, Below w.heap.size w wz → restI side op zs n = k → True := fun _ _ _ => trivial
    clear fin
    by_cases hlt : k < n
    · obtain ⟨g, cap, rfl, hnd, hdm⟩ := hopr.own.form (by omega)
      have p0 := hopr.own.cells (g := g) rfl k _ (ptrs_at gs n k hlt)
      rw [add0 g k] at p0
      have q0 : wr.cell? ⟨gs k, 2, none⟩ = some (.int .i64 (price zs k)) := (hcpr k hlt).2.2.2.2.cell (i := 2) (by omega)
      have HB := Lib.hid hbel
      have hbsz := hbel.size
      rcases Bool.eq_false_or_eq_true (betB side op (price zs k)) with hbt | hbt
      · have HL := Lib.hid (show restI side op zs n = k from lead_one n (fun k => !betB side op (price zs k)) k hk HA.out (.inr (by simp [hbt])))
        go_upto_region 1 with fail
        refine wp_region_held_drew (S := (fun w' => Below wr.heap.size wr w' ∧ w'.cell? ⟨L, 0, none⟩ = some (.slice (some ⟨g, 0, none⟩) n cap) ∧ w'.cell? ⟨L, 1, none⟩ = some (.func (.func 134) #[] #[.pointer (some ⟨S, 0, none⟩)]) ∧ w'.cell? ⟨g, k, none⟩ = some (.pointer (some ⟨gs k, 0, none⟩)) ∧ w'.cell? ⟨S, 0, none⟩ = some (.int .i64 side) ∧ w'.cell? ⟨gs k, 2, none⟩ = some (.int .i64 (price zs k)) ∧ w'.cell? ⟨bo, 2, none⟩ = some (.int .i64 op))) (by kernel_rfl) ?hSq1xs (fun hHeld => ?restq1xs)
        case hSq1xs => ((first | assumption | ((((try dsimp only); repeat' apply And.intro) <;> (first | assumption | (refine below_later ?_ (by assumption); first | assumption | (simp only [*]; done) | (go_grown; done)) | (refine cell_later (by assumption) ?_; first | assumption | (simp only [*]; done) | (simp [go_sem]; done)) | (go_grown; done) | (simp [go_sem]; done))))))
        refine wpAnyH_take (i := 0) (oi := ?oiq1x1) (v := ?vq1x1) ?hiq1x1 (by kernel_rfl) (by kernel_rfl) (by kernel_rfl) ?hQq1x1 (Or.inl ⟨?hwq1x1, ?hyq1x1⟩) (by assumption) ?restq1x1
        case hiq1x1 => simp only [List.getElem?_toArray, List.getElem?_cons_succ, List.getElem?_cons_zero]; exact rfl
        case hQq1x1 => exact fun _ _ _ h => h
        case hwq1x1 => rfl
        case hyq1x1 => ((intro w hSw; (try dsimp only at hSw); go_simp) <;> with_reducible rfl)
        try simp only [Act.put, List.setIfInBounds_toArray, List.set_cons_zero, List.set_cons_succ]
        refine wpAnyH_take (i := 1) (oi := ?oiq1x2) (v := ?vq1x2) ?hiq1x2 (by kernel_rfl) (by kernel_rfl) (by kernel_rfl) ?hQq1x2 (Or.inl ⟨?hwq1x2, ?hyq1x2⟩) (by assumption) ?restq1x2
        case hiq1x2 => simp only [List.getElem?_toArray, List.getElem?_cons_succ, List.getElem?_cons_zero]; exact rfl
        case hQq1x2 => exact fun _ _ _ h => h
        case hwq1x2 => rfl
        case hyq1x2 => ((intro w hSw; (try dsimp only at hSw); go_simp) <;> with_reducible rfl)
        try simp only [Act.put, List.setIfInBounds_toArray, List.set_cons_zero, List.set_cons_succ]
        refine wpAnyH_take (i := 2) (oi := ?oiq1x3) (v := ?vq1x3) ?hiq1x3 (by kernel_rfl) (by kernel_rfl) (by kernel_rfl) ?hQq1x3 (Or.inl ⟨?hwq1x3, ?hyq1x3⟩) (by assumption) ?restq1x3
        case hiq1x3 => simp only [List.getElem?_toArray, List.getElem?_cons_succ, List.getElem?_cons_zero]; exact rfl
        case hQq1x3 => exact fun _ _ _ h => h
        case hwq1x3 => rfl
        case hyq1x3 => ((intro w hSw; (try dsimp only at hSw); go_simp) <;> with_reducible rfl)
        try simp only [Act.put, List.setIfInBounds_toArray, List.set_cons_zero, List.set_cons_succ]
        refine wpAnyH_take (i := 3) (oi := ?oiq1x4) (v := ?vq1x4) ?hiq1x4 (by kernel_rfl) (by kernel_rfl) (by kernel_rfl) ?hQq1x4 (Or.inl ⟨?hwq1x4, ?hyq1x4⟩) (by assumption) ?restq1x4
        case hiq1x4 => simp only [List.getElem?_toArray, List.getElem?_cons_succ, List.getElem?_cons_zero]; exact rfl
        case hQq1x4 => exact fun _ _ _ h => h
        case hwq1x4 => rfl
        case hyq1x4 => ((intro w hSw; (try dsimp only at hSw); go_simp) <;> with_reducible rfl)
        try simp only [Act.put, List.setIfInBounds_toArray, List.set_cons_zero, List.set_cons_succ]
        refine wpAnyH_take (i := 4) (oi := ?oiq1x5) (v := ?vq1x5) ?hiq1x5 (by kernel_rfl) (by kernel_rfl) (by kernel_rfl) ?hQq1x5 (Or.inl ⟨?hwq1x5, ?hyq1x5⟩) (by assumption) ?restq1x5
        case hiq1x5 => simp only [List.getElem?_toArray, List.getElem?_cons_succ, List.getElem?_cons_zero]; exact rfl
        case hQq1x5 => exact fun _ _ _ h => h
        case hwq1x5 => rfl
        case hyq1x5 => ((intro w hSw; (try dsimp only at hSw); go_simp) <;> with_reducible rfl)
        try simp only [Act.put, List.setIfInBounds_toArray, List.set_cons_zero, List.set_cons_succ]
        refine wpAnyH_take (i := 5) (oi := ?oiq1x6) (v := ?vq1x6) ?hiq1x6 (by kernel_rfl) (by kernel_rfl) (by kernel_rfl) ?hQq1x6 (Or.inl ⟨?hwq1x6, ?hyq1x6⟩) (by assumption) ?restq1x6
        case hiq1x6 => simp only [List.getElem?_toArray, List.getElem?_cons_succ, List.getElem?_cons_zero]; exact rfl
        case hQq1x6 => exact fun _ _ _ h => h
        case hwq1x6 => rfl
        case hyq1x6 => ((intro w hSw; (try dsimp only at hSw); go_simp) <;> with_reducible rfl)
        try simp only [Act.put, List.setIfInBounds_toArray, List.set_cons_zero, List.set_cons_succ]
        refine wpAnyH_take (i := 6) (oi := ?oiq1x7) (v := ?vq1x7) ?hiq1x7 (by kernel_rfl) (by kernel_rfl) (by kernel_rfl) ?hQq1x7 (Or.inl ⟨?hwq1x7, ?hyq1x7⟩) (by assumption) ?restq1x7
        case hiq1x7 => simp only [List.getElem?_toArray, List.getElem?_cons_succ, List.getElem?_cons_zero]; exact rfl
        case hQq1x7 => exact fun _ _ _ h => h
        case hwq1x7 => rfl
        case hyq1x7 => ((intro w hSw; (try dsimp only at hSw); go_simp) <;> with_reducible rfl)
        try simp only [Act.put, List.setIfInBounds_toArray, List.set_cons_zero, List.set_cons_succ]
        refine wpAnyH_take (i := 7) (oi := ?oiq1x8) (v := ?vq1x8) ?hiq1x8 (by kernel_rfl) (by kernel_rfl) (by kernel_rfl) ?hQq1x8 (Or.inl ⟨?hwq1x8, ?hyq1x8⟩) (by assumption) ?restq1x8
        case hiq1x8 => simp only [List.getElem?_toArray, List.getElem?_cons_succ, List.getElem?_cons_zero]; exact rfl
        case hQq1x8 => exact fun _ _ _ h => h
        case hwq1x8 => rfl
        case hyq1x8 => ((intro w hSw; (try dsimp only at hSw); go_simp) <;> with_reducible rfl)
        try simp only [Act.put, List.setIfInBounds_toArray, List.set_cons_zero, List.set_cons_succ]
        refine wpAnyH_take (i := 8) (oi := ?oiq1x9) (v := ?vq1x9) ?hiq1x9 (by kernel_rfl) (by kernel_rfl) (by kernel_rfl) ?hQq1x9 (Or.inl ⟨?hwq1x9, ?hyq1x9⟩) (by assumption) ?restq1x9
        case hiq1x9 => simp only [List.getElem?_toArray, List.getElem?_cons_succ, List.getElem?_cons_zero]; exact rfl
        case hQq1x9 => exact fun _ _ _ h => h
        case hwq1x9 => rfl
        case hyq1x9 => ((intro w hSw; (try dsimp only at hSw); go_simp) <;> with_reducible rfl)
        try simp only [Act.put, List.setIfInBounds_toArray, List.set_cons_zero, List.set_cons_succ]
        refine wpAnyH_take (i := 9) (oi := ?oiq1x10) (v := ?vq1x10) ?hiq1x10 (by kernel_rfl) (by kernel_rfl) (by kernel_rfl) ?hQq1x10 (Or.inl ⟨?hwq1x10, ?hyq1x10⟩) (by assumption) ?restq1x10
        case hiq1x10 => simp only [List.getElem?_toArray, List.getElem?_cons_succ, List.getElem?_cons_zero]; exact rfl
        case hQq1x10 => exact fun _ _ _ h => h
        case hwq1x10 => rfl
        case hyq1x10 => ((intro w hSw; (try dsimp only at hSw); go_simp) <;> with_reducible rfl)
        try simp only [Act.put, List.setIfInBounds_toArray, List.set_cons_zero, List.set_cons_succ]
        refine wpAnyH_take (i := 10) (oi := ?oiq1x11) (v := ?vq1x11) ?hiq1x11 (by kernel_rfl) (by kernel_rfl) (by kernel_rfl) ?hQq1x11 (Or.inl ⟨?hwq1x11, ?hyq1x11⟩) (by assumption) ?restq1x11
        case hiq1x11 => simp only [List.getElem?_toArray, List.getElem?_cons_succ, List.getElem?_cons_zero]; exact rfl
        case hQq1x11 => exact fun _ _ _ h => h
        case hwq1x11 => rfl
        case hyq1x11 => ((intro w hSw; (try dsimp only at hSw); go_simp) <;> with_reducible rfl)
        try simp only [Act.put, List.setIfInBounds_toArray, List.set_cons_zero, List.set_cons_succ]
        refine wpAnyH_take (i := 11) (oi := ?oiq1x12) (v := ?vq1x12) ?hiq1x12 (by kernel_rfl) (by kernel_rfl) (by kernel_rfl) ?hQq1x12 (Or.inl ⟨?hwq1x12, ?hyq1x12⟩) (by assumption) ?restq1x12
        case hiq1x12 => simp only [List.getElem?_toArray, List.getElem?_cons_succ, List.getElem?_cons_zero]; exact rfl
        case hQq1x12 => exact fun _ _ _ h => h
        case hwq1x12 => rfl
        case hyq1x12 => ((intro w hSw; (try dsimp only at hSw); go_simp) <;> with_reducible rfl)
        try simp only [Act.put, List.setIfInBounds_toArray, List.set_cons_zero, List.set_cons_succ]
        refine wpAnyH_take (i := 12) (oi := ?oiq1x13) (v := ?vq1x13) ?hiq1x13 (by kernel_rfl) (by kernel_rfl) (by kernel_rfl) ?hQq1x13 (Or.inl ⟨?hwq1x13, ?hyq1x13⟩) (by assumption) ?restq1x13
        case hiq1x13 => simp only [List.getElem?_toArray, List.getElem?_cons_succ, List.getElem?_cons_zero]; exact rfl
        case hQq1x13 => exact fun _ _ _ h => h
        case hwq1x13 => rfl
        case hyq1x13 => ((intro w hSw; (try dsimp only at hSw); go_simp) <;> with_reducible rfl)
        try simp only [Act.put, List.setIfInBounds_toArray, List.set_cons_zero, List.set_cons_succ]
        refine wpAnyH_take (i := 13) (oi := ?oiq1x14) (v := ?vq1x14) ?hiq1x14 (by kernel_rfl) (by kernel_rfl) (by kernel_rfl) ?hQq1x14 (Or.inl ⟨?hwq1x14, ?hyq1x14⟩) (by assumption) ?restq1x14
        case hiq1x14 => simp only [List.getElem?_toArray, List.getElem?_cons_succ, List.getElem?_cons_zero]; exact rfl
        case hQq1x14 => exact fun _ _ _ h => h
        case hwq1x14 => rfl
        case hyq1x14 => ((intro w hSw; (try dsimp only at hSw); go_simp) <;> with_reducible rfl)
        try simp only [Act.put, List.setIfInBounds_toArray, List.set_cons_zero, List.set_cons_succ]
        refine wpAnyH_take (i := 14) (oi := ?oiq1x15) (v := ?vq1x15) ?hiq1x15 (by kernel_rfl) (by kernel_rfl) (by kernel_rfl) ?hQq1x15 (Or.inl ⟨?hwq1x15, ?hyq1x15⟩) (by assumption) ?restq1x15
        case hiq1x15 => simp only [List.getElem?_toArray, List.getElem?_cons_succ, List.getElem?_cons_zero]; exact rfl
        case hQq1x15 => exact fun _ _ _ h => h
        case hwq1x15 => rfl
        case hyq1x15 => ((intro w hSw; (try dsimp only at hSw); go_simp) <;> with_reducible rfl)
        try simp only [Act.put, List.setIfInBounds_toArray, List.set_cons_zero, List.set_cons_succ]
        refine wpAnyH_take (i := 15) (oi := ?oiq1x16) (v := ?vq1x16) ?hiq1x16 (by kernel_rfl) (by kernel_rfl) (by kernel_rfl) ?hQq1x16 (Or.inl ⟨?hwq1x16, ?hyq1x16⟩) (by assumption) ?restq1x16
        case hiq1x16 => simp only [List.getElem?_toArray, List.getElem?_cons_succ, List.getElem?_cons_zero]; exact rfl
        case hQq1x16 => exact fun _ _ _ h => h
        case hwq1x16 => rfl
        case hyq1x16 => ((intro w hSw; (try dsimp only at hSw); go_simp) <;> with_reducible rfl)
        try simp only [Act.put, List.setIfInBounds_toArray, List.set_cons_zero, List.set_cons_succ]
        refine wpAnyH_take (i := 16) (oi := ?oiq1x17) (v := ?vq1x17) ?hiq1x17 (by kernel_rfl) (by kernel_rfl) (by kernel_rfl) ?hQq1x17 (Or.inl ⟨?hwq1x17, ?hyq1x17⟩) (by assumption) ?restq1x17
        case hiq1x17 => simp only [List.getElem?_toArray, List.getElem?_cons_succ, List.getElem?_cons_zero]; exact rfl
        case hQq1x17 => exact fun _ _ _ h => h
        case hwq1x17 => rfl
        case hyq1x17 => ((intro w hSw; (try dsimp only at hSw); go_simp) <;> with_reducible rfl)
        try simp only [Act.put, List.setIfInBounds_toArray, List.set_cons_zero, List.set_cons_succ]
        refine wpAnyH_take (i := 17) (oi := ?oiq1x18) (v := ?vq1x18) ?hiq1x18 (by kernel_rfl) (by kernel_rfl) (by kernel_rfl) ?hQq1x18 (Or.inl ⟨?hwq1x18, ?hyq1x18⟩) (by assumption) ?restq1x18
        case hiq1x18 => simp only [List.getElem?_toArray, List.getElem?_cons_succ, List.getElem?_cons_zero]; exact rfl
        case hQq1x18 => exact fun _ _ _ h => h
        case hwq1x18 => rfl
        case hyq1x18 => ((intro w hSw; (try dsimp only at hSw); go_simp) <;> with_reducible rfl)
        try simp only [Act.put, List.setIfInBounds_toArray, List.set_cons_zero, List.set_cons_succ]
        refine wpAnyH_take (i := 18) (oi := ?oiq1x19) (v := ?vq1x19) ?hiq1x19 (by kernel_rfl) (by kernel_rfl) (by kernel_rfl) ?hQq1x19 (Or.inl ⟨?hwq1x19, ?hyq1x19⟩) (by assumption) ?restq1x19
        case hiq1x19 => simp only [List.getElem?_toArray, List.getElem?_cons_succ, List.getElem?_cons_zero]; exact rfl
        case hQq1x19 => exact fun _ _ _ h => h
        case hwq1x19 => rfl
        case hyq1x19 => ((intro w hSw; (try dsimp only at hSw); go_simp) <;> with_reducible rfl)
        try simp only [Act.put, List.setIfInBounds_toArray, List.set_cons_zero, List.set_cons_succ]
        refine wpAnyH_take (i := 19) (oi := ?oiq1x20) (v := ?vq1x20) ?hiq1x20 (by kernel_rfl) (by kernel_rfl) (by kernel_rfl) ?hQq1x20 (Or.inl ⟨?hwq1x20, ?hyq1x20⟩) (by assumption) ?restq1x20
        case hiq1x20 => simp only [List.getElem?_toArray, List.getElem?_cons_succ, List.getElem?_cons_zero]; exact rfl
        case hQq1x20 => exact fun _ _ _ h => h
        case hwq1x20 => rfl
        case hyq1x20 => ((intro w hSw; (try dsimp only at hSw); go_simp) <;> with_reducible rfl)
        try simp only [Act.put, List.setIfInBounds_toArray, List.set_cons_zero, List.set_cons_succ]
        refine wpAnyH_ready (rs := [20]) (by kernel_rfl) (by simp) ?_
        refine AllReadyH.cons (o := ?oq1x21) ?hoq1x21 (fun K hK => ?stepq1x21) ?moreq1x21
        case hoq1x21 => simp only [List.getElem?_toArray, List.getElem?_cons_succ, List.getElem?_cons_zero]; exact rfl
        case moreq1x21 => exact AllReadyH.nil
        go_simp
        (go_at_call 134; refine (impl_worse (gs k) bo S side (price zs k) op _ hHeld.2.2.2.2.1 hHeld.2.2.2.2.2.1 hHeld.2.2.2.2.2.2).mono ?_; rw [hbt]; rintro e u2 ⟨rfl, hb2'⟩)
        refine hK.out _ _ ?hSq1x21 (fun hHeld => ?restq1x21)
        case hSq1x21 => exact ⟨hHeld.1.trans (hb2'.mono hHeld.1.size), (hb2'.cell (p := ⟨L, 0, none⟩) (cell_lt hHeld.2.1)).trans hHeld.2.1, (hb2'.cell (p := ⟨L, 1, none⟩) (cell_lt hHeld.2.2.1)).trans hHeld.2.2.1, (hb2'.cell (p := ⟨g, k, none⟩) (cell_lt hHeld.2.2.2.1)).trans hHeld.2.2.2.1, (hb2'.cell (p := ⟨S, 0, none⟩) (cell_lt hHeld.2.2.2.2.1)).trans hHeld.2.2.2.2.1, (hb2'.cell (p := ⟨gs k, 2, none⟩) (cell_lt hHeld.2.2.2.2.2.1)).trans hHeld.2.2.2.2.2.1, (hb2'.cell (p := ⟨bo, 2, none⟩) (cell_lt hHeld.2.2.2.2.2.2)).trans hHeld.2.2.2.2.2.2⟩
        clear hK K
        try simp only [Act.put, List.setIfInBounds_toArray, List.set_cons_zero, List.set_cons_succ]
        refine wpAnyH_take (i := 21) (oi := ?oiq1x22) (v := ?vq1x22) ?hiq1x22 (by kernel_rfl) (by kernel_rfl) (by kernel_rfl) ?hQq1x22 (Or.inl ⟨?hwq1x22, ?hyq1x22⟩) (by assumption) ?restq1x22
        case hiq1x22 => simp only [List.getElem?_toArray, List.getElem?_cons_succ, List.getElem?_cons_zero]; exact rfl
        case hQq1x22 => exact fun _ _ _ h => h
        case hwq1x22 => rfl
        case hyq1x22 => ((intro w hSw; (try dsimp only at hSw); go_simp) <;> with_reducible rfl)
        try simp only [Act.put, List.setIfInBounds_toArray, List.set_cons_zero, List.set_cons_succ]
        refine wpAnyH_take (i := 22) (oi := ?oiq1x23) (v := ?vq1x23) ?hiq1x23 (by kernel_rfl) (by kernel_rfl) (by kernel_rfl) ?hQq1x23 (Or.inl ⟨?hwq1x23, ?hyq1x23⟩) (by assumption) ?restq1x23
        case hiq1x23 => simp only [List.getElem?_toArray, List.getElem?_cons_succ, List.getElem?_cons_zero]; exact rfl
        case hQq1x23 => exact fun _ _ _ h => h
        case hwq1x23 => rfl
        case hyq1x23 => ((intro w hSw; (try dsimp only at hSw); go_simp) <;> with_reducible rfl)
        try simp only [Act.put, List.setIfInBounds_toArray, List.set_cons_zero, List.set_cons_succ]
        refine wpAnyH_done (by kernel_rfl) ?_ _
        obtain ⟨hbz, cL, -, -, -, -, -⟩ := hHeld
        have hbz := HB.out.trans (hbz.mono hbsz)
        have hopz := hop.below hbz
        have hcpz := hcp.below hbz
        have hBz := (hbz.block bo (heap_lt hb)).trans hb
        clear hop hcp hopr hcpr hbel cB cF cS p0 q0 hbt
        generalize u2 = wz at *
        have hsz2 : w.heap.size ≤ wz.heap.size := hbz.size
        have hba := (Below.refl wz.heap.size wz).alloc (Nat.le_refl _) (.cells #[.pointer (some ⟨bo, 0, none⟩)] 85)
        have hop5 := hopz.below hba
        have hcp5 := hcpz.below hba
        have hrb := row4_of ((hba.block bo (heap_lt hBz)).trans hBz)
        have hvb := heap_alloc_new wz (.cells #[.pointer (some ⟨bo, 0, none⟩)] 85)
        have hsa : (wz.alloc (.cells #[.pointer (some ⟨bo, 0, none⟩)] 85)).heap.size = wz.heap.size + 1 := by simp
        have hvn : some wz.heap.size ≠ (Value.slice (some ⟨g, 0, none⟩) n cap).ownBlock := fun e => by have := (hopz.own.lt _ e.symm).2; omega
        have hxb := ((hbz.mono hXw).alloc (by omega) (.cells #[.pointer (some ⟨bo, 0, none⟩)] 85))
        have hfr := fun (q : Nat) (hq : q < w.heap.size) => (hba.block q (by omega)).trans (hbz.block q hq)
        have hrl := fun (q : Nat) (hq : (Value.slice (some ⟨g, 0, none⟩) n cap).ownBlock = some q) => (hopz.own.lt q hq).1
        go_wp2_with fail
        generalize (wz.alloc (.cells #[.pointer (some ⟨bo, 0, none⟩)] 85)) = wa at *
        refine (impl_Insert X n k wz.heap.size bo _ gs wa hop5.own (by omega) hn hk hvb hvn).mono ?_
        rintro e w5 ⟨⟨r, rfl, hown, hat⟩, hg⟩
        have hone := insert_one (o := [oi, oa, op, oq]) hop5 hcp5 hz rfl hk hg hown hat hrb hbX hbS hbL hbv
        have hk5 := (hg.block L (heap_lt hop5.list) (fun e => hop5.far.1 e.symm)).trans hop5.list
        have d0 := cell_of_row w5 L 0 _ _ (0, 0) hk5
        have z0 := frozen_of_row w5 L 0 _ _ hk5
        simp only [List.getElem?_toArray, List.getElem?_cons_zero] at d0
        have HX := Lib.hid ((hxb.grown hg (by omega) hrl).setCell (p := ⟨L, 0, none⟩) hop5.low.2.1 r)
        have HF := Lib.hid (fun (q : Nat) (hq : q < w.heap.size) (h1 : q ≠ L) (h2 : some q ≠ (Value.slice (some ⟨g, 0, none⟩) n cap).ownBlock) => (Below.heap_setCell w5 ⟨L, 0, none⟩ r q h1).trans ((hg.block q (by omega) h2).trans (hfr q hq)))
        have HONE := Lib.hid hone
        obtain ⟨A5, d5, rfl, _, _⟩ := own_slice hown
        clear hone hown hat hg hk5 hxb hfr hrl hop5 hcp5
        go_wp2_with fail
        go_end0
        exact ⟨⟨_, rfl⟩, ⟨_, by rw [HL.out]; exact HONE.out⟩, HX.out, HF.out⟩
      · have HM := Lib.hid (show (!betB side op (price zs k)) = true by simp [hbt])
        go_upto_region 1 with fail
        refine wp_region_held_drew (S := (fun w' => Below wr.heap.size wr w' ∧ w'.cell? ⟨L, 0, none⟩ = some (.slice (some ⟨g, 0, none⟩) n cap) ∧ w'.cell? ⟨L, 1, none⟩ = some (.func (.func 134) #[] #[.pointer (some ⟨S, 0, none⟩)]) ∧ w'.cell? ⟨g, k, none⟩ = some (.pointer (some ⟨gs k, 0, none⟩)) ∧ w'.cell? ⟨S, 0, none⟩ = some (.int .i64 side) ∧ w'.cell? ⟨gs k, 2, none⟩ = some (.int .i64 (price zs k)) ∧ w'.cell? ⟨bo, 2, none⟩ = some (.int .i64 op))) (by kernel_rfl) ?hSq2xs (fun hHeld => ?restq2xs)
        case hSq2xs => ((first | assumption | ((((try dsimp only); repeat' apply And.intro) <;> (first | assumption | (refine below_later ?_ (by assumption); first | assumption | (simp only [*]; done) | (go_grown; done)) | (refine cell_later (by assumption) ?_; first | assumption | (simp only [*]; done) | (simp [go_sem]; done)) | (go_grown; done) | (simp [go_sem]; done))))))
        refine wpAnyH_take (i := 0) (oi := ?oiq2x1) (v := ?vq2x1) ?hiq2x1 (by kernel_rfl) (by kernel_rfl) (by kernel_rfl) ?hQq2x1 (Or.inl ⟨?hwq2x1, ?hyq2x1⟩) (by assumption) ?restq2x1
        case hiq2x1 => simp only [List.getElem?_toArray, List.getElem?_cons_succ, List.getElem?_cons_zero]; exact rfl
        case hQq2x1 => exact fun _ _ _ h => h
        case hwq2x1 => rfl
        case hyq2x1 => ((intro w hSw; (try dsimp only at hSw); go_simp) <;> with_reducible rfl)
        try simp only [Act.put, List.setIfInBounds_toArray, List.set_cons_zero, List.set_cons_succ]
        refine wpAnyH_take (i := 1) (oi := ?oiq2x2) (v := ?vq2x2) ?hiq2x2 (by kernel_rfl) (by kernel_rfl) (by kernel_rfl) ?hQq2x2 (Or.inl ⟨?hwq2x2, ?hyq2x2⟩) (by assumption) ?restq2x2
        case hiq2x2 => simp only [List.getElem?_toArray, List.getElem?_cons_succ, List.getElem?_cons_zero]; exact rfl
        case hQq2x2 => exact fun _ _ _ h => h
        case hwq2x2 => rfl
        case hyq2x2 => ((intro w hSw; (try dsimp only at hSw); go_simp) <;> with_reducible rfl)
        try simp only [Act.put, List.setIfInBounds_toArray, List.set_cons_zero, List.set_cons_succ]
        refine wpAnyH_take (i := 2) (oi := ?oiq2x3) (v := ?vq2x3) ?hiq2x3 (by kernel_rfl) (by kernel_rfl) (by kernel_rfl) ?hQq2x3 (Or.inl ⟨?hwq2x3, ?hyq2x3⟩) (by assumption) ?restq2x3
        case hiq2x3 => simp only [List.getElem?_toArray, List.getElem?_cons_succ, List.getElem?_cons_zero]; exact rfl
        case hQq2x3 => exact fun _ _ _ h => h
        case hwq2x3 => rfl
        case hyq2x3 => ((intro w hSw; (try dsimp only at hSw); go_simp) <;> with_reducible rfl)
        try simp only [Act.put, List.setIfInBounds_toArray, List.set_cons_zero, List.set_cons_succ]
        refine wpAnyH_take (i := 3) (oi := ?oiq2x4) (v := ?vq2x4) ?hiq2x4 (by kernel_rfl) (by kernel_rfl) (by kernel_rfl) ?hQq2x4 (Or.inl ⟨?hwq2x4, ?hyq2x4⟩) (by assumption) ?restq2x4
        case hiq2x4 => simp only [List.getElem?_toArray, List.getElem?_cons_succ, List.getElem?_cons_zero]; exact rfl
        case hQq2x4 => exact fun _ _ _ h => h
        case hwq2x4 => rfl
        case hyq2x4 => ((intro w hSw; (try dsimp only at hSw); go_simp) <;> with_reducible rfl)
        try simp only [Act.put, List.setIfInBounds_toArray, List.set_cons_zero, List.set_cons_succ]
        refine wpAnyH_take (i := 4) (oi := ?oiq2x5) (v := ?vq2x5) ?hiq2x5 (by kernel_rfl) (by kernel_rfl) (by kernel_rfl) ?hQq2x5 (Or.inl ⟨?hwq2x5, ?hyq2x5⟩) (by assumption) ?restq2x5
        case hiq2x5 => simp only [List.getElem?_toArray, List.getElem?_cons_succ, List.getElem?_cons_zero]; exact rfl
        case hQq2x5 => exact fun _ _ _ h => h
        case hwq2x5 => rfl
        case hyq2x5 => ((intro w hSw; (try dsimp only at hSw); go_simp) <;> with_reducible rfl)
        try simp only [Act.put, List.setIfInBounds_toArray, List.set_cons_zero, List.set_cons_succ]
        refine wpAnyH_take (i := 5) (oi := ?oiq2x6) (v := ?vq2x6) ?hiq2x6 (by kernel_rfl) (by kernel_rfl) (by kernel_rfl) ?hQq2x6 (Or.inl ⟨?hwq2x6, ?hyq2x6⟩) (by assumption) ?restq2x6
        case hiq2x6 => simp only [List.getElem?_toArray, List.getElem?_cons_succ, List.getElem?_cons_zero]; exact rfl
        case hQq2x6 => exact fun _ _ _ h => h
        case hwq2x6 => rfl
        case hyq2x6 => ((intro w hSw; (try dsimp only at hSw); go_simp) <;> with_reducible rfl)
        try simp only [Act.put, List.setIfInBounds_toArray, List.set_cons_zero, List.set_cons_succ]
        refine wpAnyH_take (i := 6) (oi := ?oiq2x7) (v := ?vq2x7) ?hiq2x7 (by kernel_rfl) (by kernel_rfl) (by kernel_rfl) ?hQq2x7 (Or.inl ⟨?hwq2x7, ?hyq2x7⟩) (by assumption) ?restq2x7
        case hiq2x7 => simp only [List.getElem?_toArray, List.getElem?_cons_succ, List.getElem?_cons_zero]; exact rfl
        case hQq2x7 => exact fun _ _ _ h => h
        case hwq2x7 => rfl
        case hyq2x7 => ((intro w hSw; (try dsimp only at hSw); go_simp) <;> with_reducible rfl)
        try simp only [Act.put, List.setIfInBounds_toArray, List.set_cons_zero, List.set_cons_succ]
        refine wpAnyH_take (i := 7) (oi := ?oiq2x8) (v := ?vq2x8) ?hiq2x8 (by kernel_rfl) (by kernel_rfl) (by kernel_rfl) ?hQq2x8 (Or.inl ⟨?hwq2x8, ?hyq2x8⟩) (by assumption) ?restq2x8
        case hiq2x8 => simp only [List.getElem?_toArray, List.getElem?_cons_succ, List.getElem?_cons_zero]; exact rfl
        case hQq2x8 => exact fun _ _ _ h => h
        case hwq2x8 => rfl
        case hyq2x8 => ((intro w hSw; (try dsimp only at hSw); go_simp) <;> with_reducible rfl)
        try simp only [Act.put, List.setIfInBounds_toArray, List.set_cons_zero, List.set_cons_succ]
        refine wpAnyH_take (i := 8) (oi := ?oiq2x9) (v := ?vq2x9) ?hiq2x9 (by kernel_rfl) (by kernel_rfl) (by kernel_rfl) ?hQq2x9 (Or.inl ⟨?hwq2x9, ?hyq2x9⟩) (by assumption) ?restq2x9
        case hiq2x9 => simp only [List.getElem?_toArray, List.getElem?_cons_succ, List.getElem?_cons_zero]; exact rfl
        case hQq2x9 => exact fun _ _ _ h => h
        case hwq2x9 => rfl
        case hyq2x9 => ((intro w hSw; (try dsimp only at hSw); go_simp) <;> with_reducible rfl)
        try simp only [Act.put, List.setIfInBounds_toArray, List.set_cons_zero, List.set_cons_succ]
        refine wpAnyH_take (i := 9) (oi := ?oiq2x10) (v := ?vq2x10) ?hiq2x10 (by kernel_rfl) (by kernel_rfl) (by kernel_rfl) ?hQq2x10 (Or.inl ⟨?hwq2x10, ?hyq2x10⟩) (by assumption) ?restq2x10
        case hiq2x10 => simp only [List.getElem?_toArray, List.getElem?_cons_succ, List.getElem?_cons_zero]; exact rfl
        case hQq2x10 => exact fun _ _ _ h => h
        case hwq2x10 => rfl
        case hyq2x10 => ((intro w hSw; (try dsimp only at hSw); go_simp) <;> with_reducible rfl)
        try simp only [Act.put, List.setIfInBounds_toArray, List.set_cons_zero, List.set_cons_succ]
        refine wpAnyH_take (i := 10) (oi := ?oiq2x11) (v := ?vq2x11) ?hiq2x11 (by kernel_rfl) (by kernel_rfl) (by kernel_rfl) ?hQq2x11 (Or.inl ⟨?hwq2x11, ?hyq2x11⟩) (by assumption) ?restq2x11
        case hiq2x11 => simp only [List.getElem?_toArray, List.getElem?_cons_succ, List.getElem?_cons_zero]; exact rfl
        case hQq2x11 => exact fun _ _ _ h => h
        case hwq2x11 => rfl
        case hyq2x11 => ((intro w hSw; (try dsimp only at hSw); go_simp) <;> with_reducible rfl)
        try simp only [Act.put, List.setIfInBounds_toArray, List.set_cons_zero, List.set_cons_succ]
        refine wpAnyH_take (i := 11) (oi := ?oiq2x12) (v := ?vq2x12) ?hiq2x12 (by kernel_rfl) (by kernel_rfl) (by kernel_rfl) ?hQq2x12 (Or.inl ⟨?hwq2x12, ?hyq2x12⟩) (by assumption) ?restq2x12
        case hiq2x12 => simp only [List.getElem?_toArray, List.getElem?_cons_succ, List.getElem?_cons_zero]; exact rfl
        case hQq2x12 => exact fun _ _ _ h => h
        case hwq2x12 => rfl
        case hyq2x12 => ((intro w hSw; (try dsimp only at hSw); go_simp) <;> with_reducible rfl)
        try simp only [Act.put, List.setIfInBounds_toArray, List.set_cons_zero, List.set_cons_succ]
        refine wpAnyH_take (i := 12) (oi := ?oiq2x13) (v := ?vq2x13) ?hiq2x13 (by kernel_rfl) (by kernel_rfl) (by kernel_rfl) ?hQq2x13 (Or.inl ⟨?hwq2x13, ?hyq2x13⟩) (by assumption) ?restq2x13
        case hiq2x13 => simp only [List.getElem?_toArray, List.getElem?_cons_succ, List.getElem?_cons_zero]; exact rfl
        case hQq2x13 => exact fun _ _ _ h => h
        case hwq2x13 => rfl
        case hyq2x13 => ((intro w hSw; (try dsimp only at hSw); go_simp) <;> with_reducible rfl)
        try simp only [Act.put, List.setIfInBounds_toArray, List.set_cons_zero, List.set_cons_succ]
        refine wpAnyH_take (i := 13) (oi := ?oiq2x14) (v := ?vq2x14) ?hiq2x14 (by kernel_rfl) (by kernel_rfl) (by kernel_rfl) ?hQq2x14 (Or.inl ⟨?hwq2x14, ?hyq2x14⟩) (by assumption) ?restq2x14
        case hiq2x14 => simp only [List.getElem?_toArray, List.getElem?_cons_succ, List.getElem?_cons_zero]; exact rfl
        case hQq2x14 => exact fun _ _ _ h => h
        case hwq2x14 => rfl
        case hyq2x14 => ((intro w hSw; (try dsimp only at hSw); go_simp) <;> with_reducible rfl)
        try simp only [Act.put, List.setIfInBounds_toArray, List.set_cons_zero, List.set_cons_succ]
        refine wpAnyH_take (i := 14) (oi := ?oiq2x15) (v := ?vq2x15) ?hiq2x15 (by kernel_rfl) (by kernel_rfl) (by kernel_rfl) ?hQq2x15 (Or.inl ⟨?hwq2x15, ?hyq2x15⟩) (by assumption) ?restq2x15
        case hiq2x15 => simp only [List.getElem?_toArray, List.getElem?_cons_succ, List.getElem?_cons_zero]; exact rfl
        case hQq2x15 => exact fun _ _ _ h => h
        case hwq2x15 => rfl
        case hyq2x15 => ((intro w hSw; (try dsimp only at hSw); go_simp) <;> with_reducible rfl)
        try simp only [Act.put, List.setIfInBounds_toArray, List.set_cons_zero, List.set_cons_succ]
        refine wpAnyH_take (i := 15) (oi := ?oiq2x16) (v := ?vq2x16) ?hiq2x16 (by kernel_rfl) (by kernel_rfl) (by kernel_rfl) ?hQq2x16 (Or.inl ⟨?hwq2x16, ?hyq2x16⟩) (by assumption) ?restq2x16
        case hiq2x16 => simp only [List.getElem?_toArray, List.getElem?_cons_succ, List.getElem?_cons_zero]; exact rfl
        case hQq2x16 => exact fun _ _ _ h => h
        case hwq2x16 => rfl
        case hyq2x16 => ((intro w hSw; (try dsimp only at hSw); go_simp) <;> with_reducible rfl)
        try simp only [Act.put, List.setIfInBounds_toArray, List.set_cons_zero, List.set_cons_succ]
        refine wpAnyH_take (i := 16) (oi := ?oiq2x17) (v := ?vq2x17) ?hiq2x17 (by kernel_rfl) (by kernel_rfl) (by kernel_rfl) ?hQq2x17 (Or.inl ⟨?hwq2x17, ?hyq2x17⟩) (by assumption) ?restq2x17
        case hiq2x17 => simp only [List.getElem?_toArray, List.getElem?_cons_succ, List.getElem?_cons_zero]; exact rfl
        case hQq2x17 => exact fun _ _ _ h => h
        case hwq2x17 => rfl
        case hyq2x17 => ((intro w hSw; (try dsimp only at hSw); go_simp) <;> with_reducible rfl)
        try simp only [Act.put, List.setIfInBounds_toArray, List.set_cons_zero, List.set_cons_succ]
        refine wpAnyH_take (i := 17) (oi := ?oiq2x18) (v := ?vq2x18) ?hiq2x18 (by kernel_rfl) (by kernel_rfl) (by kernel_rfl) ?hQq2x18 (Or.inl ⟨?hwq2x18, ?hyq2x18⟩) (by assumption) ?restq2x18
        case hiq2x18 => simp only [List.getElem?_toArray, List.getElem?_cons_succ, List.getElem?_cons_zero]; exact rfl
        case hQq2x18 => exact fun _ _ _ h => h
        case hwq2x18 => rfl
        case hyq2x18 => ((intro w hSw; (try dsimp only at hSw); go_simp) <;> with_reducible rfl)
        try simp only [Act.put, List.setIfInBounds_toArray, List.set_cons_zero, List.set_cons_succ]
        refine wpAnyH_take (i := 18) (oi := ?oiq2x19) (v := ?vq2x19) ?hiq2x19 (by kernel_rfl) (by kernel_rfl) (by kernel_rfl) ?hQq2x19 (Or.inl ⟨?hwq2x19, ?hyq2x19⟩) (by assumption) ?restq2x19
        case hiq2x19 => simp only [List.getElem?_toArray, List.getElem?_cons_succ, List.getElem?_cons_zero]; exact rfl
        case hQq2x19 => exact fun _ _ _ h => h
        case hwq2x19 => rfl
        case hyq2x19 => ((intro w hSw; (try dsimp only at hSw); go_simp) <;> with_reducible rfl)
        try simp only [Act.put, List.setIfInBounds_toArray, List.set_cons_zero, List.set_cons_succ]
        refine wpAnyH_take (i := 19) (oi := ?oiq2x20) (v := ?vq2x20) ?hiq2x20 (by kernel_rfl) (by kernel_rfl) (by kernel_rfl) ?hQq2x20 (Or.inl ⟨?hwq2x20, ?hyq2x20⟩) (by assumption) ?restq2x20
        case hiq2x20 => simp only [List.getElem?_toArray, List.getElem?_cons_succ, List.getElem?_cons_zero]; exact rfl
        case hQq2x20 => exact fun _ _ _ h => h
        case hwq2x20 => rfl
        case hyq2x20 => ((intro w hSw; (try dsimp only at hSw); go_simp) <;> with_reducible rfl)
        try simp only [Act.put, List.setIfInBounds_toArray, List.set_cons_zero, List.set_cons_succ]
        refine wpAnyH_ready (rs := [20]) (by kernel_rfl) (by simp) ?_
        refine AllReadyH.cons (o := ?oq2x21) ?hoq2x21 (fun K hK => ?stepq2x21) ?moreq2x21
        case hoq2x21 => simp only [List.getElem?_toArray, List.getElem?_cons_succ, List.getElem?_cons_zero]; exact rfl
        case moreq2x21 => exact AllReadyH.nil
        go_simp
        (go_at_call 134; refine (impl_worse (gs k) bo S side (price zs k) op _ hHeld.2.2.2.2.1 hHeld.2.2.2.2.2.1 hHeld.2.2.2.2.2.2).mono ?_; rw [hbt]; rintro e u2 ⟨rfl, hb2'⟩)
        refine hK.out _ _ ?hSq2x21 (fun hHeld => ?restq2x21)
        case hSq2x21 => exact ⟨hHeld.1.trans (hb2'.mono hHeld.1.size), (hb2'.cell (p := ⟨L, 0, none⟩) (cell_lt hHeld.2.1)).trans hHeld.2.1, (hb2'.cell (p := ⟨L, 1, none⟩) (cell_lt hHeld.2.2.1)).trans hHeld.2.2.1, (hb2'.cell (p := ⟨g, k, none⟩) (cell_lt hHeld.2.2.2.1)).trans hHeld.2.2.2.1, (hb2'.cell (p := ⟨S, 0, none⟩) (cell_lt hHeld.2.2.2.2.1)).trans hHeld.2.2.2.2.1, (hb2'.cell (p := ⟨gs k, 2, none⟩) (cell_lt hHeld.2.2.2.2.2.1)).trans hHeld.2.2.2.2.2.1, (hb2'.cell (p := ⟨bo, 2, none⟩) (cell_lt hHeld.2.2.2.2.2.2)).trans hHeld.2.2.2.2.2.2⟩
        clear hK K
        try simp only [Act.put, List.setIfInBounds_toArray, List.set_cons_zero, List.set_cons_succ]
        refine wpAnyH_take (i := 21) (oi := ?oiq2x22) (v := ?vq2x22) ?hiq2x22 (by kernel_rfl) (by kernel_rfl) (by kernel_rfl) ?hQq2x22 (Or.inl ⟨?hwq2x22, ?hyq2x22⟩) (by assumption) ?restq2x22
        case hiq2x22 => simp only [List.getElem?_toArray, List.getElem?_cons_succ, List.getElem?_cons_zero]; exact rfl
        case hQq2x22 => exact fun _ _ _ h => h
        case hwq2x22 => rfl
        case hyq2x22 => ((intro w hSw; (try dsimp only at hSw); go_simp) <;> with_reducible rfl)
        try simp only [Act.put, List.setIfInBounds_toArray, List.set_cons_zero, List.set_cons_succ]
        refine wpAnyH_take (i := 22) (oi := ?oiq2x23) (v := ?vq2x23) ?hiq2x23 (by kernel_rfl) (by kernel_rfl) (by kernel_rfl) ?hQq2x23 (Or.inl ⟨?hwq2x23, ?hyq2x23⟩) (by assumption) ?restq2x23
        case hiq2x23 => simp only [List.getElem?_toArray, List.getElem?_cons_succ, List.getElem?_cons_zero]; exact rfl
        case hQq2x23 => exact fun _ _ _ h => h
        case hwq2x23 => rfl
        case hyq2x23 => ((intro w hSw; (try dsimp only at hSw); go_simp) <;> with_reducible rfl)
        try simp only [Act.put, List.setIfInBounds_toArray, List.set_cons_zero, List.set_cons_succ]
        refine wpAnyH_done (by kernel_rfl) ?_ _
        obtain ⟨hbz, -, -, -, -, -, -⟩ := hHeld
        have hbz := HB.out.trans (hbz.mono hbsz)
        clear hop hcp hopr hcpr hbel cB cF cS p0 q0 hbt
        go_wp2_with fail
        go_roundw
        case rel => exact ⟨k + 1, by omega, by go_num, fun j hj => by
          rcases (show j < k ∨ j = k from by omega) with h | rfl
          · exact HA.out j h
          · exact HM.out, hbz⟩
        case measure => simp [intOf]; omega
    · obtain rfl : k = n := by omega
      have HL := Lib.hid (show restI side op zs k = k from lead_one k (fun k => !betB side op (price zs k)) k hk HA.out (.inl rfl))
      obtain ⟨A, cap, rfl, _, _⟩ := own_slice hopr.own
      have HB := Lib.hid hbel
      have hbsz := hbel.size
      go_upto_region 1 with fail
      refine wp_region_held_drew (S := (fun w' => Below wr.heap.size wr w' ∧ w'.cell? ⟨L, 0, none⟩ = some (.slice A k cap))) (by kernel_rfl) ?hSq3xs (fun hHeld => ?restq3xs)
      case hSq3xs => ((first | assumption | ((((try dsimp only); repeat' apply And.intro) <;> (first | assumption | (refine below_later ?_ (by assumption); first | assumption | (simp only [*]; done) | (go_grown; done)) | (refine cell_later (by assumption) ?_; first | assumption | (simp only [*]; done) | (simp [go_sem]; done)) | (go_grown; done) | (simp [go_sem]; done))))))
      refine wpAnyH_take (i := 0) (oi := ?oiq3x1) (v := ?vq3x1) ?hiq3x1 (by kernel_rfl) (by kernel_rfl) (by kernel_rfl) ?hQq3x1 (Or.inl ⟨?hwq3x1, ?hyq3x1⟩) (by assumption) ?restq3x1
      case hiq3x1 => simp only [List.getElem?_toArray, List.getElem?_cons_succ, List.getElem?_cons_zero]; exact rfl
      case hQq3x1 => exact fun _ _ _ h => h
      case hwq3x1 => rfl
      case hyq3x1 => ((intro w hSw; (try dsimp only at hSw); go_simp) <;> with_reducible rfl)
      try simp only [Act.put, List.setIfInBounds_toArray, List.set_cons_zero, List.set_cons_succ]
      refine wpAnyH_take (i := 1) (oi := ?oiq3x2) (v := ?vq3x2) ?hiq3x2 (by kernel_rfl) (by kernel_rfl) (by kernel_rfl) ?hQq3x2 (Or.inl ⟨?hwq3x2, ?hyq3x2⟩) (by assumption) ?restq3x2
      case hiq3x2 => simp only [List.getElem?_toArray, List.getElem?_cons_succ, List.getElem?_cons_zero]; exact rfl
      case hQq3x2 => exact fun _ _ _ h => h
      case hwq3x2 => rfl
      case hyq3x2 => ((intro w hSw; (try dsimp only at hSw); go_simp) <;> with_reducible rfl)
      try simp only [Act.put, List.setIfInBounds_toArray, List.set_cons_zero, List.set_cons_succ]
      refine wpAnyH_take (i := 2) (oi := ?oiq3x3) (v := ?vq3x3) ?hiq3x3 (by kernel_rfl) (by kernel_rfl) (by kernel_rfl) ?hQq3x3 (Or.inl ⟨?hwq3x3, ?hyq3x3⟩) (by assumption) ?restq3x3
      case hiq3x3 => simp only [List.getElem?_toArray, List.getElem?_cons_succ, List.getElem?_cons_zero]; exact rfl
      case hQq3x3 => exact fun _ _ _ h => h
      case hwq3x3 => rfl
      case hyq3x3 => ((intro w hSw; (try dsimp only at hSw); go_simp) <;> with_reducible rfl)
      try simp only [Act.put, List.setIfInBounds_toArray, List.set_cons_zero, List.set_cons_succ]
      refine wpAnyH_take (i := 3) (oi := ?oiq3x4) (v := ?vq3x4) ?hiq3x4 (by kernel_rfl) (by kernel_rfl) (by kernel_rfl) ?hQq3x4 (Or.inl ⟨?hwq3x4, ?hyq3x4⟩) (by assumption) ?restq3x4
      case hiq3x4 => simp only [List.getElem?_toArray, List.getElem?_cons_succ, List.getElem?_cons_zero]; exact rfl
      case hQq3x4 => exact fun _ _ _ h => h
      case hwq3x4 => rfl
      case hyq3x4 => ((intro w hSw; (try dsimp only at hSw); go_simp) <;> with_reducible rfl)
      try simp only [Act.put, List.setIfInBounds_toArray, List.set_cons_zero, List.set_cons_succ]
      refine wpAnyH_take (i := 4) (oi := ?oiq3x5) (v := ?vq3x5) ?hiq3x5 (by kernel_rfl) (by kernel_rfl) (by kernel_rfl) ?hQq3x5 (Or.inl ⟨?hwq3x5, ?hyq3x5⟩) (by assumption) ?restq3x5
      case hiq3x5 => simp only [List.getElem?_toArray, List.getElem?_cons_succ, List.getElem?_cons_zero]; exact rfl
      case hQq3x5 => exact fun _ _ _ h => h
      case hwq3x5 => rfl
      case hyq3x5 => ((intro w hSw; (try dsimp only at hSw); go_simp) <;> with_reducible rfl)
      try simp only [Act.put, List.setIfInBounds_toArray, List.set_cons_zero, List.set_cons_succ]
      refine wpAnyH_take (i := 5) (oi := ?oiq3x6) (v := ?vq3x6) ?hiq3x6 (by kernel_rfl) (by kernel_rfl) (by kernel_rfl) ?hQq3x6 (Or.inl ⟨?hwq3x6, ?hyq3x6⟩) (by assumption) ?restq3x6
      case hiq3x6 => simp only [List.getElem?_toArray, List.getElem?_cons_succ, List.getElem?_cons_zero]; exact rfl
      case hQq3x6 => exact fun _ _ _ h => h
      case hwq3x6 => rfl
      case hyq3x6 => ((intro w hSw; (try dsimp only at hSw); go_simp) <;> with_reducible rfl)
      try simp only [Act.put, List.setIfInBounds_toArray, List.set_cons_zero, List.set_cons_succ]
      refine wpAnyH_take (i := 6) (oi := ?oiq3x7) (v := ?vq3x7) ?hiq3x7 (by kernel_rfl) (by kernel_rfl) (by kernel_rfl) ?hQq3x7 (Or.inl ⟨?hwq3x7, ?hyq3x7⟩) (by assumption) ?restq3x7
      case hiq3x7 => simp only [List.getElem?_toArray, List.getElem?_cons_succ, List.getElem?_cons_zero]; exact rfl
      case hQq3x7 => exact fun _ _ _ h => h
      case hwq3x7 => rfl
      case hyq3x7 => ((intro w hSw; (try dsimp only at hSw); go_simp) <;> with_reducible rfl)
      try simp only [Act.put, List.setIfInBounds_toArray, List.set_cons_zero, List.set_cons_succ]
      refine wpAnyH_take (i := 7) (oi := ?oiq3x8) (v := ?vq3x8) ?hiq3x8 (by kernel_rfl) (by kernel_rfl) (by kernel_rfl) ?hQq3x8 (Or.inl ⟨?hwq3x8, ?hyq3x8⟩) (by assumption) ?restq3x8
      case hiq3x8 => simp only [List.getElem?_toArray, List.getElem?_cons_succ, List.getElem?_cons_zero]; exact rfl
      case hQq3x8 => exact fun _ _ _ h => h
      case hwq3x8 => rfl
      case hyq3x8 => ((intro w hSw; (try dsimp only at hSw); go_simp) <;> with_reducible rfl)
      try simp only [Act.put, List.setIfInBounds_toArray, List.set_cons_zero, List.set_cons_succ]
      refine wpAnyH_take (i := 8) (oi := ?oiq3x9) (v := _) ?hiq3x9 (by kernel_rfl) (by kernel_rfl) (by kernel_rfl) ?hQq3x9 (Or.inr ⟨?hwq3x9, rfl⟩) (by assumption) ?restq3x9
      case hiq3x9 => simp only [List.getElem?_toArray, List.getElem?_cons_succ, List.getElem?_cons_zero]; exact rfl
      case hQq3x9 => exact fun _ _ _ h => h
      case hwq3x9 => rfl
      try simp only [Act.put, List.setIfInBounds_toArray, List.set_cons_zero, List.set_cons_succ]
      refine wpAnyH_take (i := 9) (oi := ?oiq3x10) (v := _) ?hiq3x10 (by kernel_rfl) (by kernel_rfl) (by kernel_rfl) ?hQq3x10 (Or.inr ⟨?hwq3x10, rfl⟩) (by assumption) ?restq3x10
      case hiq3x10 => simp only [List.getElem?_toArray, List.getElem?_cons_succ, List.getElem?_cons_zero]; exact rfl
      case hQq3x10 => exact fun _ _ _ h => h
      case hwq3x10 => rfl
      try simp only [Act.put, List.setIfInBounds_toArray, List.set_cons_zero, List.set_cons_succ]
      refine wpAnyH_take (i := 10) (oi := ?oiq3x11) (v := _) ?hiq3x11 (by kernel_rfl) (by kernel_rfl) (by kernel_rfl) ?hQq3x11 (Or.inr ⟨?hwq3x11, rfl⟩) (by assumption) ?restq3x11
      case hiq3x11 => simp only [List.getElem?_toArray, List.getElem?_cons_succ, List.getElem?_cons_zero]; exact rfl
      case hQq3x11 => exact fun _ _ _ h => h
      case hwq3x11 => rfl
      try simp only [Act.put, List.setIfInBounds_toArray, List.set_cons_zero, List.set_cons_succ]
      refine wpAnyH_take (i := 11) (oi := ?oiq3x12) (v := _) ?hiq3x12 (by kernel_rfl) (by kernel_rfl) (by kernel_rfl) ?hQq3x12 (Or.inr ⟨?hwq3x12, rfl⟩) (by assumption) ?restq3x12
      case hiq3x12 => simp only [List.getElem?_toArray, List.getElem?_cons_succ, List.getElem?_cons_zero]; exact rfl
      case hQq3x12 => exact fun _ _ _ h => h
      case hwq3x12 => rfl
      try simp only [Act.put, List.setIfInBounds_toArray, List.set_cons_zero, List.set_cons_succ]
      refine wpAnyH_take (i := 12) (oi := ?oiq3x13) (v := _) ?hiq3x13 (by kernel_rfl) (by kernel_rfl) (by kernel_rfl) ?hQq3x13 (Or.inr ⟨?hwq3x13, rfl⟩) (by assumption) ?restq3x13
      case hiq3x13 => simp only [List.getElem?_toArray, List.getElem?_cons_succ, List.getElem?_cons_zero]; exact rfl
      case hQq3x13 => exact fun _ _ _ h => h
      case hwq3x13 => rfl
      try simp only [Act.put, List.setIfInBounds_toArray, List.set_cons_zero, List.set_cons_succ]
      refine wpAnyH_take (i := 13) (oi := ?oiq3x14) (v := _) ?hiq3x14 (by kernel_rfl) (by kernel_rfl) (by kernel_rfl) ?hQq3x14 (Or.inr ⟨?hwq3x14, rfl⟩) (by assumption) ?restq3x14
      case hiq3x14 => simp only [List.getElem?_toArray, List.getElem?_cons_succ, List.getElem?_cons_zero]; exact rfl
      case hQq3x14 => exact fun _ _ _ h => h
      case hwq3x14 => rfl
      try simp only [Act.put, List.setIfInBounds_toArray, List.set_cons_zero, List.set_cons_succ]
      refine wpAnyH_take (i := 14) (oi := ?oiq3x15) (v := _) ?hiq3x15 (by kernel_rfl) (by kernel_rfl) (by kernel_rfl) ?hQq3x15 (Or.inr ⟨?hwq3x15, rfl⟩) (by assumption) ?restq3x15
      case hiq3x15 => simp only [List.getElem?_toArray, List.getElem?_cons_succ, List.getElem?_cons_zero]; exact rfl
      case hQq3x15 => exact fun _ _ _ h => h
      case hwq3x15 => rfl
      try simp only [Act.put, List.setIfInBounds_toArray, List.set_cons_zero, List.set_cons_succ]
      refine wpAnyH_take (i := 15) (oi := ?oiq3x16) (v := _) ?hiq3x16 (by kernel_rfl) (by kernel_rfl) (by kernel_rfl) ?hQq3x16 (Or.inr ⟨?hwq3x16, rfl⟩) (by assumption) ?restq3x16
      case hiq3x16 => simp only [List.getElem?_toArray, List.getElem?_cons_succ, List.getElem?_cons_zero]; exact rfl
      case hQq3x16 => exact fun _ _ _ h => h
      case hwq3x16 => rfl
      try simp only [Act.put, List.setIfInBounds_toArray, List.set_cons_zero, List.set_cons_succ]
      refine wpAnyH_take (i := 16) (oi := ?oiq3x17) (v := _) ?hiq3x17 (by kernel_rfl) (by kernel_rfl) (by kernel_rfl) ?hQq3x17 (Or.inr ⟨?hwq3x17, rfl⟩) (by assumption) ?restq3x17
      case hiq3x17 => simp only [List.getElem?_toArray, List.getElem?_cons_succ, List.getElem?_cons_zero]; exact rfl
      case hQq3x17 => exact fun _ _ _ h => h
      case hwq3x17 => rfl
      try simp only [Act.put, List.setIfInBounds_toArray, List.set_cons_zero, List.set_cons_succ]
      refine wpAnyH_take (i := 17) (oi := ?oiq3x18) (v := _) ?hiq3x18 (by kernel_rfl) (by kernel_rfl) (by kernel_rfl) ?hQq3x18 (Or.inr ⟨?hwq3x18, rfl⟩) (by assumption) ?restq3x18
      case hiq3x18 => simp only [List.getElem?_toArray, List.getElem?_cons_succ, List.getElem?_cons_zero]; exact rfl
      case hQq3x18 => exact fun _ _ _ h => h
      case hwq3x18 => rfl
      try simp only [Act.put, List.setIfInBounds_toArray, List.set_cons_zero, List.set_cons_succ]
      refine wpAnyH_take (i := 18) (oi := ?oiq3x19) (v := _) ?hiq3x19 (by kernel_rfl) (by kernel_rfl) (by kernel_rfl) ?hQq3x19 (Or.inr ⟨?hwq3x19, rfl⟩) (by assumption) ?restq3x19
      case hiq3x19 => simp only [List.getElem?_toArray, List.getElem?_cons_succ, List.getElem?_cons_zero]; exact rfl
      case hQq3x19 => exact fun _ _ _ h => h
      case hwq3x19 => rfl
      try simp only [Act.put, List.setIfInBounds_toArray, List.set_cons_zero, List.set_cons_succ]
      refine wpAnyH_take (i := 19) (oi := ?oiq3x20) (v := _) ?hiq3x20 (by kernel_rfl) (by kernel_rfl) (by kernel_rfl) ?hQq3x20 (Or.inr ⟨?hwq3x20, rfl⟩) (by assumption) ?restq3x20
      case hiq3x20 => simp only [List.getElem?_toArray, List.getElem?_cons_succ, List.getElem?_cons_zero]; exact rfl
      case hQq3x20 => exact fun _ _ _ h => h
      case hwq3x20 => rfl
      try simp only [Act.put, List.setIfInBounds_toArray, List.set_cons_zero, List.set_cons_succ]
      refine wpAnyH_take (i := 20) (oi := ?oiq3x21) (v := _) ?hiq3x21 (by kernel_rfl) (by kernel_rfl) (by kernel_rfl) ?hQq3x21 (Or.inr ⟨?hwq3x21, rfl⟩) (by assumption) ?restq3x21
      case hiq3x21 => simp only [List.getElem?_toArray, List.getElem?_cons_succ, List.getElem?_cons_zero]; exact rfl
      case hQq3x21 => exact fun _ _ _ h => h
      case hwq3x21 => rfl
      try simp only [Act.put, List.setIfInBounds_toArray, List.set_cons_zero, List.set_cons_succ]
      refine wpAnyH_take (i := 21) (oi := ?oiq3x22) (v := _) ?hiq3x22 (by kernel_rfl) (by kernel_rfl) (by kernel_rfl) ?hQq3x22 (Or.inr ⟨?hwq3x22, rfl⟩) (by assumption) ?restq3x22
      case hiq3x22 => simp only [List.getElem?_toArray, List.getElem?_cons_succ, List.getElem?_cons_zero]; exact rfl
      case hQq3x22 => exact fun _ _ _ h => h
      case hwq3x22 => rfl
      try simp only [Act.put, List.setIfInBounds_toArray, List.set_cons_zero, List.set_cons_succ]
      refine wpAnyH_take (i := 22) (oi := ?oiq3x23) (v := ?vq3x23) ?hiq3x23 (by kernel_rfl) (by kernel_rfl) (by kernel_rfl) ?hQq3x23 (Or.inl ⟨?hwq3x23, ?hyq3x23⟩) (by assumption) ?restq3x23
      case hiq3x23 => simp only [List.getElem?_toArray, List.getElem?_cons_succ, List.getElem?_cons_zero]; exact rfl
      case hQq3x23 => exact fun _ _ _ h => h
      case hwq3x23 => rfl
      case hyq3x23 => ((intro w hSw; (try dsimp only at hSw); go_simp) <;> with_reducible rfl)
      try simp only [Act.put, List.setIfInBounds_toArray, List.set_cons_zero, List.set_cons_succ]
      refine wpAnyH_done (by kernel_rfl) ?_ _
      obtain ⟨hbz, cL⟩ := hHeld
      have hbz := HB.out.trans (hbz.mono hbsz)
      have hopz := hop.below hbz
      have hcpz := hcp.below hbz
      have hBz := (hbz.block bo (heap_lt hb)).trans hb
      clear hop hcp hopr hcpr hbel cB cF cS
      generalize wr.drew = wq at *
      have hsz2 : w.heap.size ≤ wq.heap.size := hbz.size
      have hba := (Below.refl wq.heap.size wq).alloc (Nat.le_refl _) (.cells #[.pointer (some ⟨bo, 0, none⟩)] 85)
      have hop5 := hopz.below hba
      have hcp5 := hcpz.below hba
      have hrb := row4_of ((hba.block bo (heap_lt hBz)).trans hBz)
      have hvb := heap_alloc_new wq (.cells #[.pointer (some ⟨bo, 0, none⟩)] 85)
      have hsa : (wq.alloc (.cells #[.pointer (some ⟨bo, 0, none⟩)] 85)).heap.size = wq.heap.size + 1 := by simp
      have hvn : some wq.heap.size ≠ (Value.slice A k cap).ownBlock := fun e => by have := (hopz.own.lt _ e.symm).2; omega
      have hxb := ((hbz.mono hXw).alloc (by omega) (.cells #[.pointer (some ⟨bo, 0, none⟩)] 85))
      have hfr := fun (q : Nat) (hq : q < w.heap.size) => (hba.block q (by omega)).trans (hbz.block q hq)
      have hrl := fun (q : Nat) (hq : (Value.slice A k cap).ownBlock = some q) => (hopz.own.lt q hq).1
      go_wp2_with fail
      generalize (wq.alloc (.cells #[.pointer (some ⟨bo, 0, none⟩)] 85)) = wa at *
      refine (impl_Insert X k k wq.heap.size bo _ gs wa hop5.own (by omega) hn hk hvb hvn).mono ?_
      rintro e w5 ⟨⟨r, rfl, hown, hat⟩, hg⟩
      have hone := insert_one (o := [oi, oa, op, oq]) hop5 hcp5 hz rfl hk hg hown hat hrb hbX hbS hbL hbv
      have hk5 := (hg.block L (heap_lt hop5.list) (fun e => hop5.far.1 e.symm)).trans hop5.list
      have d0 := cell_of_row w5 L 0 _ _ (0, 0) hk5
      have z0 := frozen_of_row w5 L 0 _ _ hk5
      simp only [List.getElem?_toArray, List.getElem?_cons_zero] at d0
      have HX := Lib.hid ((hxb.grown hg (by omega) hrl).setCell (p := ⟨L, 0, none⟩) hop5.low.2.1 r)
      have HF := Lib.hid (fun (q : Nat) (hq : q < w.heap.size) (h1 : q ≠ L) (h2 : some q ≠ (Value.slice A k cap).ownBlock) => (Below.heap_setCell w5 ⟨L, 0, none⟩ r q h1).trans ((hg.block q (by omega) h2).trans (hfr q hq)))
      have HONE := Lib.hid hone
      obtain ⟨A5, d5, rfl, _, _⟩ := own_slice hown
      clear hone hown hat hg hk5 hxb hfr hrl hop5 hcp5
      go_wp2_with fail
      go_end0
      exact ⟨⟨_, rfl⟩, ⟨_, by rw [HL.out]; exact HONE.out⟩, HX.out, HF.out⟩
end Go.Proofs.Ytfodkefaflpicaa
