/-
  Finding an order by its number, and which books are right: the specification's.
-/
import Derived.Test.YtempggikcpminaaBookS
import Derived.Test.YtempggikcpminaaOrd
import Derived.Laws.AppendOwn
namespace Go.Proofs.Ytempggikcpminaa
open Go.RowKit Wire

theorem seenB_iff (f : Nat → Int) (x : Int) : ∀ k, seenB f x k = true ↔ ∃ j, j < k ∧ f j = x
  | 0 => by simp [seenB]
  | k + 1 => by
    rw [seenB, Bool.or_eq_true, seenB_iff f x k]
    constructor
    · rintro (⟨j, h1, h2⟩ | h)
      · exact ⟨j, by omega, h2⟩
      · exact ⟨k, by omega, by simpa using h⟩
    · rintro ⟨j, h1, h2⟩
      rcases Nat.lt_or_ge j k with h | h
      · exact .inl ⟨j, h, h2⟩
      · obtain rfl : j = k := by omega
        exact .inr (by simpa using h2)
/-- where an id stands first, -1 if nowhere -/
def AtRel (f : Nat → Int) (x : Int) (n : Nat) (z : Int) : Prop :=
  (z = -1 ∧ ∀ k, k < n → f k ≠ x) ∨ (∃ k : Nat, k < n ∧ z = (k : Int) ∧ f k = x ∧ ∀ j, j < k → f j ≠ x)
theorem AtRel.one {f : Nat → Int} {x : Int} {n : Nat} {z y : Int} (h : AtRel f x n z) (k : AtRel f x n y) : z = y := by
  rcases h with ⟨h0, h1⟩ | ⟨K, h0, h1, h2, h3⟩ <;> rcases k with ⟨k0, k1⟩ | ⟨L, k0, k1, k2, k3⟩
  · omega
  · exact absurd k2 (h1 L k0)
  · exact absurd h2 (k1 K h0)
  · rcases Nat.lt_trichotomy K L with h | h | h
    · exact absurd h2 (k3 K h)
    · omega
    · exact absurd k2 (h3 L h)
theorem AtRel.self {f : Nat → Int} {i n : Nat} {z : Int} (h : AtRel f (f i) n z) (hi : i < n) : (z = (i : Int)) ↔ seenB f (f i) i = false := by
  have hs := seenB_iff f (f i) i
  rcases h with ⟨h0, h1⟩ | ⟨K, h0, h1, h2, h3⟩
  · exact absurd rfl (h1 i hi)
  · constructor
    · intro e
      obtain rfl : K = i := by omega
      cases hb : seenB f (f K) K with
      | false => rfl
      | true =>
        obtain ⟨j, hj, e2⟩ := hs.1 hb
        exact absurd e2 (h3 j hj)
    · intro hb
      rcases Nat.lt_trichotomy K i with h | h | h
      · rw [hs.2 ⟨K, h, h2⟩] at hb; cases hb
      · omega
      · exact absurd rfl (h3 i h)
def idN (zs : List Int) (k : Nat) : Int := num zs (k * 4)
theorem idN_append {za zb : List Int} {n : Nat} (h : za.length = n * 4) (k : Nat) : idN (za ++ zb) k = idA za n zb k := by
  unfold idN idA
  split
  · unfold num
    rw [List.getD_eq_getElem?_getD, List.getD_eq_getElem?_getD, List.getElem?_append_left (by omega)]
  · unfold num
    rw [List.getD_eq_getElem?_getD, List.getD_eq_getElem?_getD, List.getElem?_append_right (by omega)]
    congr 2
    omega
theorem seenB_congr {f g : Nat → Int} (x : Int) : ∀ k, (∀ j, j < k → f j = g j) → seenB f x k = seenB g x k
  | 0, _ => rfl
  | k + 1, h => by rw [seenB, seenB, seenB_congr x k (fun j hj => h j (by omega)), h k (by omega)]
theorem distB_congr {f g : Nat → Int} : ∀ k, (∀ j, j < k → f j = g j) → distB f k = distB g k
  | 0, _ => rfl
  | k + 1, h => by rw [distB, distB, distB_congr k (fun j hj => h j (by omega)), h k (by omega), seenB_congr _ k (fun j hj => h j (by omega))]
theorem Lst.news {w : World} {X sz n : Nat} {a : Addr} {zs : List Int} (h : Lst w X sz (some a) n zs) : ∀ j u, (nums zs)[j]? = some u → w.cell? (a.add j) = some u := by
  intro j u hj
  have hl : j < zs.length := by
    have := (List.getElem?_eq_some_iff.1 hj).1
    rwa [nums_length] at this
  rw [nums_get hl] at hj
  injection hj with hj
  subst hj
  have hn : 0 < n := by
    rcases Nat.eq_zero_or_pos n with h0 | h0
    · rw [h.1, h0] at hl; omega
    · exact h0
  obtain ⟨b, o, e, _, hc⟩ := h.2 hn
  injection e with e
  subst e
  have hadd : (⟨b, o, none⟩ : Addr).add j = ⟨b, o + j, none⟩ := by unfold Addr.add; split <;> simp_all
  rw [hadd]
  exact hc j (by rw [← h.1]; exact hl)
theorem Lst.newsO {w : World} {X sz n : Nat} {A : Option Addr} {zs : List Int} (h : Lst w X sz A n zs) : ∀ ad, A = some ad → ∀ j u, (nums zs)[j]? = some u → w.cell? (ad.add j) = some u := fun ad e => by
  subst e
  exact h.news
section
variable {P : Program} (w : World)
theorem step_append_own {ops : Array Oper} {o : Oper} {a : Act} {K : Act → World → Prop} {Q : Exit → Act → World → Prop} {E : Prop} (hgd : o.guard = none) (s x : Operand) (t : TypeId)
    (ho : o.op = .call { callee := .builtin .append, args := #[s, x], argTypes := #[t, t] })
    (base : Nat) (e : TypeId) (i : TypeInfo) (z : Value) (size bytes : Nat) (ht : P.underlying t = some (.slice e)) (hi : P.info? e = some i) (hz : i.zero = some z)
    (hsize : i.size = size) (hby : i.bytes = bytes) (hzs : z.cells.size = size) (hsz : 0 < size)
    (v : Value) (n : Nat) (xs : List Value) (hs : a.eval s = v) (hown : w.ownsRow base e size v n xs)
    (ad : Addr) (m c : Nat) (news : List Value) (hx : a.eval x = .slice (some ad) m c) (hl : news.length = m * size) (hnews : ∀ j u, news[j]? = some u → w.cell? (ad.add j) = some u) (h1 : ∀ u ∈ news, u.oneCell' = true)
    (h63 : n + m ≤ maxLen) (hbytes : (n + m) * bytes ≤ 140737488355328) (hbase : base ≤ w.heap.size)
    (h : ∀ v' w', w'.ownsRow base e size v' (n + m) (xs ++ news) → w.grownBy w' v.ownBlock → (v' = .slice none 0 0 ↔ v = .slice none 0 0 ∧ m = 0) → K (a.put o.dst v') w') :
    if Region.wanted o (yielded ops a.tmps) = true then Oper.wp P o a w K Q else E := by
  have hw : Region.wanted o (yielded ops a.tmps) = true := by simp [Region.wanted, hgd]
  rw [if_pos hw]
  exact wp_append_own w s x t ho base e i z size bytes ht hi hz hsize hby hzs hsz v n xs hs hown ad m c news hx hl hnews h1 h63 hbytes hbase h
variable {m c : Nat} in
theorem step_append_ownO {ops : Array Oper} {o : Oper} {a : Act} {K : Act → World → Prop} {Q : Exit → Act → World → Prop} {E : Prop} (hgd : o.guard = none) (s x : Operand) (t : TypeId)
    (ho : o.op = .call { callee := .builtin .append, args := #[s, x], argTypes := #[t, t] })
    (base : Nat) (e : TypeId) (i : TypeInfo) (z : Value) (size bytes : Nat) (ht : P.underlying t = some (.slice e)) (hi : P.info? e = some i) (hz : i.zero = some z)
    (hsize : i.size = size) (hby : i.bytes = bytes) (hzs : z.cells.size = size) (hsz : 0 < size)
    (v : Value) (n : Nat) (xs : List Value) (hs : a.eval s = v) (hown : w.ownsRow base e size v n xs)
    (A : Option Addr) (hA : A = none → m = 0 ∧ c = 0) (news : List Value) (hx : a.eval x = .slice A m c) (hl : news.length = m * size) (hnews : ∀ ad, A = some ad → ∀ j u, news[j]? = some u → w.cell? (ad.add j) = some u) (h1 : ∀ u ∈ news, u.oneCell' = true)
    (h63 : n + m ≤ maxLen) (hbytes : (n + m) * bytes ≤ 140737488355328) (hbase : base ≤ w.heap.size)
    (h : ∀ v' w', w'.ownsRow base e size v' (n + m) (xs ++ news) → w.grownBy w' v.ownBlock → K (a.put o.dst v') w') :
    if Region.wanted o (yielded ops a.tmps) = true then Oper.wp P o a w K Q else E := by
  have hw : Region.wanted o (yielded ops a.tmps) = true := by simp [Region.wanted, hgd]
  rw [if_pos hw]
  cases A with
  | some ad => exact wp_append_own w s x t ho base e i z size bytes ht hi hz hsize hby hzs hsz v n xs hs hown ad m c news hx hl (hnews ad rfl) h1 h63 hbytes hbase fun v' w' h2 h3 _ => h v' w' h2 h3
  | none =>
    obtain ⟨rfl, rfl⟩ := hA rfl
    have hr := run_append_owned_none (P := P) (w := w) base t o.type e i size ht hi v n xs hown
    have e0 : news = [] := List.eq_nil_of_length_eq_zero (by rw [hl]; omega)
    subst e0
    unfold Oper.wp execOp
    simp only [ho, resolve, invoke, builtin, Sem.run_bind, Sem.run_pure, Result.andThen_ok, List.map_toArray, List.map_cons, List.map_nil, hs, hx, hr]
    exact h v w (by simpa using hown) (World.grownBy.refl _ _)
end
set_option maxHeartbeats 1600000 in
set_option maxRecDepth 100000 in
theorem spec_l2At (A : Option Addr) (n c : Nat) (zs : List Int) (x : Int) (w : World) (hl : Lst w w.heap.size 4 A n zs) (hn : n ≤ 1048576) :
    Calls Try.prog 108 #[.slice A n c, .int .i64 x] w fun e w' => (∃ z, AtRel (idN zs) x n z ∧ e = .returned (.int .i64 z)) ∧ Below w.heap.size w w' := by
  go_enter Try.func108, Try.ntmps108
  go_wp2_with fail
  go_loopw [5] (fun i wr => ∃ k : Nat, k ≤ n ∧ i = .int .i64 (k : Int) ∧ (∀ j, j < k → idN zs j ≠ x) ∧ Below w.heap.size w wr) (fun i _ => n - (intOf i).toNat)
  case atStart => exact ⟨0, Nat.zero_le _, rfl, fun j hj => absurd hj (Nat.not_lt_zero j), Below.refl _ _⟩
  case round =>
    obtain ⟨k, hk, rfl, hno, hbel⟩ := hrel
    have HN := Lib.hid hno
    clear hno
    by_cases hlt : k < n
    · obtain ⟨b, o, rfl, hb, c0, _, _, _⟩ := (hl.below hbel).row4 hlt
      have HQ := Lib.hid (show idN zs k = num zs (k * 4) from rfl)
      generalize num zs (k * 4) = y at *
      rcases Bool.eq_false_or_eq_true (y == x) with hyx | hyx
      · have HX := Lib.hid (beq_iff_eq.1 hyx)
        go_wp2_with fail
        go_ret
        exact ⟨⟨_, .inr ⟨k, hlt, rfl, HQ.out.trans HX.out, HN.out⟩, rfl⟩, hbel⟩
      · have HX : Hid (y ≠ x) := Lib.hid (by simpa using hyx)
        go_wp2_with fail
        go_roundw
        case rel => exact ⟨k + 1, by omega, by go_num, fun j hj => by
          rcases Nat.lt_or_ge j k with h | h
          · exact HN.out j h
          · obtain rfl : j = k := by omega
            rw [HQ.out]
            exact HX.out, hbel⟩
        case measure => simp [intOf]; omega
    · obtain rfl : k = n := by omega
      go_wp2_with fail
      go_ret
      exact ⟨⟨-1, .inl ⟨rfl, HN.out⟩, rfl⟩, hbel⟩
set_option linter.unusedSimpArgs false in
set_option maxHeartbeats 3200000 in
set_option maxRecDepth 100000 in
theorem spec_BookOkO (A1 : Option Addr) (n c : Nat) (A2 : Option Addr) (m d : Nat) (za zb : List Int) (w : World) (ha : Lst w w.heap.size 4 A1 n za) (hb : Lst w w.heap.size 4 A2 m zb) (hn : n ≤ 1048576) (hm : m ≤ 1048576) (hA1 : A1 = none → n = 0 ∧ c = 0) (hA2 : A2 = none → m = 0 ∧ d = 0) :
    Calls Try.prog 81 #[.agg #[.slice A1 n c, .slice A2 m d]] w fun e w' => e = .returned (.bool (bookB za n zb m)) ∧ Below w.heap.size w w' := by
  obtain ⟨i0, hi, hz0, hz1, hz2⟩ := info_parts ord_info
  have hb0 : Below w.heap.size w (w.alloc (.cells #[.slice A1 n c, .slice A2 m d] 26)) := (Below.refl _ _).alloc (Nat.le_refl _) _
  have k0 : (w.alloc (.cells #[.slice A1 n c, .slice A2 m d] 26)).heap[w.heap.size]? = some (.cells #[.slice A1 n c, .slice A2 m d] 26 (0, 0)) := heap_alloc_new w _
  have hs0 : w.heap.size < (w.alloc (.cells #[.slice A1 n c, .slice A2 m d] 26)).heap.size := by simp
  have HC := Lib.hid (show bookB za n zb m = (sideB 1 za n && (sideB 2 zb m && (!crossB za n zb m && distB (idA za n zb) (n + m)))) from rfl)
  have HA := Lib.hid (show sideB 1 za n = true → n ≤ 20 ∧ allO za n = true from fun h => by unfold sideB at h; simp only [Bool.and_eq_true, decide_eq_true_eq] at h; exact ⟨h.1, h.2.1⟩)
  have HB := Lib.hid (show sideB 2 zb m = true → m ≤ 20 ∧ allO zb m = true from fun h => by unfold sideB at h; simp only [Bool.and_eq_true, decide_eq_true_eq] at h; exact ⟨h.1, h.2.1⟩)
  have HX := Lib.hid (show crossB za n zb m = (decide (0 < n) && (decide (0 < m) && decide (price zb 0 ≤ price za 0))) from rfl)
  go_enter Try.func81, Try.ntmps81
  go_wp2_with fail
  generalize (w.alloc (.cells #[.slice A1 n c, .slice A2 m d] 26)) = w0 at *
  refine (spec_l2Side A1 n c za 1 w0 ((ha.below hb0).more hb0.size) hn).mono ?_
  rcases Bool.eq_false_or_eq_true (sideB 1 za n) with h1 | h1
  · have H1 := Lib.hid h1
    rw [h1]
    rintro e w1 ⟨rfl, hb1⟩
    have k1 := (hb1.block w.heap.size hs0).trans k0
    have x0 := cell_of_row w1 w.heap.size 0 _ _ (0, 0) k1
    have x1 := cell_of_row w1 w.heap.size 1 _ _ (0, 0) k1
    simp at x0 x1
    have hs1 := hb1.size
    have hb1 := hb0.trans (hb1.mono hb0.size)
    clear k0 hb0 h1
    go_wp2_with fail
    refine (spec_l2Side A2 m d zb 2 w1 ((hb.below hb1).more hb1.size) hm).mono ?_
    rcases Bool.eq_false_or_eq_true (sideB 2 zb m) with h2 | h2
    · have H2 := Lib.hid h2
      rw [h2]
      rintro e w2 ⟨rfl, hb2⟩
      have k2 := (hb2.block w.heap.size (by omega)).trans k1
      have y0 := cell_of_row w2 w.heap.size 0 _ _ (0, 0) k2
      have y1 := cell_of_row w2 w.heap.size 1 _ _ (0, 0) k2
      simp at y0 y1
      have hs2 := hb2.size
      have hb2 := hb1.trans (hb2.mono hb1.size)
      have ha2 := (ha.below hb2).more hb2.size
      have hbb2 := (hb.below hb2).more hb2.size
      have hn20 := (HA.out H1.out).1
      have hm20 := (HB.out H2.out).1
      clear k1 hb1 h2 x0 x1 ha hb
      have hown0 : (w2.alloc (.cells #[] 28)).drew.ownsRow w2.heap.size 28 4 (.slice (some ⟨w2.heap.size, 0, none⟩) 0 0) 0 [] := ⟨rfl, .inr ⟨w2.heap.size, 0, #[], rfl, Nat.le_refl _, heap_alloc_new w2 _, Nat.le_refl _, Nat.zero_le _, rfl, rfl⟩⟩
      have hba2 : Below w2.heap.size w2 (w2.alloc (.cells #[] 28)) := (Below.refl _ _).alloc (Nat.le_refl _) _
      have q0 := (hba2.cell (p := ⟨w.heap.size, 0, none⟩) (show w.heap.size < w2.heap.size by omega)).trans y0
      have q1 := (hba2.cell (p := ⟨w.heap.size, 1, none⟩) (show w.heap.size < w2.heap.size by omega)).trans y1
      go_upto_region 3 with fail
      refine wp_region_held_drew (S := (fun w' => Below w2.heap.size w2 w' ∧ w'.cell? ⟨w.heap.size, 0, none⟩ = some (.slice A1 n c) ∧ w'.cell? ⟨w.heap.size, 1, none⟩ = some (.slice A2 m d))) (by kernel_rfl) ?hSq1xs (fun hHeld => ?restq1xs)
      case hSq1xs => ((first | assumption | ((((try dsimp only); repeat' apply And.intro) <;> (first | assumption | (refine below_later ?_ (by assumption); first | assumption | (simp only [*]; done) | (go_grown; done)) | (refine cell_later (by assumption) ?_; first | assumption | (simp only [*]; done) | (simp [go_sem]; done)) | (go_grown; done) | (simp [go_sem]; done))))))
      refine wpAnyH_take (i := 1) (oi := ?oiq1x1) (v := ?vq1x1) ?hiq1x1 (by kernel_rfl) (by kernel_rfl) (by kernel_rfl) ?hQq1x1 (Or.inl ⟨?hwq1x1, ?hyq1x1⟩) (by assumption) ?restq1x1
      case hiq1x1 => simp only [List.getElem?_toArray, List.getElem?_cons_succ, List.getElem?_cons_zero]; exact rfl
      case hQq1x1 => exact fun _ _ _ h => h
      case hwq1x1 => rfl
      case hyq1x1 => ((intro w hSw; (try dsimp only at hSw); go_simp) <;> with_reducible rfl)
      try simp only [Act.put, List.setIfInBounds_toArray, List.set_cons_zero, List.set_cons_succ]
      refine wpAnyH_take (i := 2) (oi := ?oiq1x2) (v := ?vq1x2) ?hiq1x2 (by kernel_rfl) (by kernel_rfl) (by kernel_rfl) ?hQq1x2 (Or.inl ⟨?hwq1x2, ?hyq1x2⟩) (by assumption) ?restq1x2
      case hiq1x2 => simp only [List.getElem?_toArray, List.getElem?_cons_succ, List.getElem?_cons_zero]; exact rfl
      case hQq1x2 => exact fun _ _ _ h => h
      case hwq1x2 => rfl
      case hyq1x2 => ((intro w hSw; (try dsimp only at hSw); go_simp) <;> with_reducible rfl)
      try simp only [Act.put, List.setIfInBounds_toArray, List.set_cons_zero, List.set_cons_succ]
      refine wpAnyH_take (i := 4) (oi := ?oiq1x3) (v := ?vq1x3) ?hiq1x3 (by kernel_rfl) (by kernel_rfl) (by kernel_rfl) ?hQq1x3 (Or.inl ⟨?hwq1x3, ?hyq1x3⟩) (by assumption) ?restq1x3
      case hiq1x3 => simp only [List.getElem?_toArray, List.getElem?_cons_succ, List.getElem?_cons_zero]; exact rfl
      case hQq1x3 => exact fun _ _ _ h => h
      case hwq1x3 => rfl
      case hyq1x3 => ((intro w hSw; (try dsimp only at hSw); go_simp) <;> with_reducible rfl)
      try simp only [Act.put, List.setIfInBounds_toArray, List.set_cons_zero, List.set_cons_succ]
      refine wpAnyH_take (i := 5) (oi := ?oiq1x4) (v := ?vq1x4) ?hiq1x4 (by kernel_rfl) (by kernel_rfl) (by kernel_rfl) ?hQq1x4 (Or.inl ⟨?hwq1x4, ?hyq1x4⟩) (by assumption) ?restq1x4
      case hiq1x4 => simp only [List.getElem?_toArray, List.getElem?_cons_succ, List.getElem?_cons_zero]; exact rfl
      case hQq1x4 => exact fun _ _ _ h => h
      case hwq1x4 => rfl
      case hyq1x4 => ((intro w hSw; (try dsimp only at hSw); go_simp) <;> with_reducible rfl)
      try simp only [Act.put, List.setIfInBounds_toArray, List.set_cons_zero, List.set_cons_succ]
      refine wpAnyH_ready (rs := [0]) (by kernel_rfl) (by simp) ?_
      refine AllReadyH.cons (o := ?oq1x5) ?hoq1x5 (fun K hK => ?stepq1x5) ?moreq1x5
      case hoq1x5 => simp only [List.getElem?_toArray, List.getElem?_cons_succ, List.getElem?_cons_zero]; exact rfl
      case moreq1x5 => exact AllReadyH.nil
      go_simp
      skip
      refine hK.out _ _ ?hSq1x5 (fun hHeld => ?restq1x5)
      case hSq1x5 => ((first | assumption | ((((try dsimp only); repeat' apply And.intro) <;> (first | assumption | (refine below_later ?_ (by assumption); first | assumption | (simp only [*]; done) | (go_grown; done)) | (refine cell_later (by assumption) ?_; first | assumption | (simp only [*]; done) | (simp [go_sem]; done)) | (go_grown; done) | (simp [go_sem]; done))))))
      clear hK K
      try simp only [Act.put, List.setIfInBounds_toArray, List.set_cons_zero, List.set_cons_succ]
      refine wpAnyH_ready (rs := [3]) (by kernel_rfl) (by simp) ?_
      refine AllReadyH.cons (o := ?oq1x6) ?hoq1x6 (fun K hK => ?stepq1x6) ?moreq1x6
      case hoq1x6 => simp only [List.getElem?_toArray, List.getElem?_cons_succ, List.getElem?_cons_zero]; exact rfl
      case moreq1x6 => exact AllReadyH.nil
      (refine step_append_ownO _ rfl _ _ 24 rfl w2.heap.size 28 i0 _ 4 32 Try.underlying24 hi hz0 hz1 hz2 rfl (by decide) _ 0 [] rfl hown0 A1 hA1 (nums za) rfl (by rw [nums_length]; exact ha2.1) ((ha2.below hHeld.1).newsO) (nums_one _) (by unfold maxLen; omega) (by omega) (hHeld.1.size) ?_; intro v1 wq1 hown1 hgrow1; have hbq1 := hHeld.1.grown hgrow1 (hHeld.1.size) (fun q hq => (hown0.lt q hq).1))
      rw [Nat.zero_add, List.nil_append] at hown1
      refine hK.out _ _ ?hSq1x6 (fun hHeld => ?restq1x6)
      case hSq1x6 => ((first | assumption | ((((try dsimp only); repeat' apply And.intro) <;> (first | assumption | (refine below_later ?_ (by assumption); first | assumption | (simp only [*]; done) | (go_grown; done)) | (refine cell_later (by assumption) ?_; first | assumption | (simp only [*]; done) | (simp [go_sem]; done)) | (go_grown; done) | (simp [go_sem]; done))))))
      clear hK K
      try simp only [Act.put, List.setIfInBounds_toArray, List.set_cons_zero, List.set_cons_succ]
      refine wpAnyH_ready (rs := [6]) (by kernel_rfl) (by simp) ?_
      refine AllReadyH.cons (o := ?oq1x7) ?hoq1x7 (fun K hK => ?stepq1x7) ?moreq1x7
      case hoq1x7 => simp only [List.getElem?_toArray, List.getElem?_cons_succ, List.getElem?_cons_zero]; exact rfl
      case moreq1x7 => exact AllReadyH.nil
      (refine step_append_ownO _ rfl _ _ 24 rfl w2.heap.size 28 i0 _ 4 32 Try.underlying24 hi hz0 hz1 hz2 rfl (by decide) _ n (nums za) rfl hown1 A2 hA2 (nums zb) rfl (by rw [nums_length]; exact hbb2.1) ((hbb2.below hHeld.1).newsO) (nums_one _) (by unfold maxLen; omega) (by omega) (hHeld.1.size) ?_; intro v2 wq2 hown2 hgrow2; have hbq2 := hHeld.1.grown hgrow2 (hHeld.1.size) (fun q hq => (hown1.lt q hq).1))
      refine hK.out _ _ ?hSq1x7 (fun hHeld => ?restq1x7)
      case hSq1x7 => ((first | assumption | ((((try dsimp only); repeat' apply And.intro) <;> (first | assumption | (refine below_later ?_ (by assumption); first | assumption | (simp only [*]; done) | (go_grown; done)) | (refine cell_later (by assumption) ?_; first | assumption | (simp only [*]; done) | (simp [go_sem]; done)) | (go_grown; done) | (simp [go_sem]; done))))))
      clear hK K
      try simp only [Act.put, List.setIfInBounds_toArray, List.set_cons_zero, List.set_cons_succ]
      refine wpAnyH_take (i := 7) (oi := ?oiq1x8) (v := ?vq1x8) ?hiq1x8 (by kernel_rfl) (by kernel_rfl) (by kernel_rfl) ?hQq1x8 (Or.inl ⟨?hwq1x8, ?hyq1x8⟩) (by assumption) ?restq1x8
      case hiq1x8 => simp only [List.getElem?_toArray, List.getElem?_cons_succ, List.getElem?_cons_zero]; exact rfl
      case hQq1x8 => exact fun _ _ _ h => h
      case hwq1x8 => rfl
      case hyq1x8 => ((intro w hSw; (try dsimp only at hSw); go_simp) <;> with_reducible rfl)
      try simp only [Act.put, List.setIfInBounds_toArray, List.set_cons_zero, List.set_cons_succ]
      refine wpAnyH_done (by kernel_rfl) ?_ _
      rw [← nums_append] at hown2
      obtain ⟨A3, c3, rfl, _, _⟩ := own_slice hown2
      have hL3 := Lst.of_own hown2
      have HBQ := Lib.hid hHeld.1
      have hbel0 := hb2.trans (hHeld.1.mono hb2.size)
      have z0 := hHeld.2.1
      have z1 := hHeld.2.2
      have hwq : w.heap.size < wq2.heap.size := by have := hHeld.1.size; omega
      have HDe := Lib.hid (show distB (idA za n zb) (n + m) = distB (idN (za ++ zb)) (n + m) from distB_congr _ (fun j _ => (idN_append ha2.1 j).symm))
      clear hHeld hown2 hgrow2 hgrow1 hown1 hown0 hba2 q0 q1 hbq1 hbq2 y0 y1 k2
      go_wp2_with fail
      go_loopw [4] (fun i wr => ∃ k : Nat, k ≤ n + m ∧ i = .int .i64 (k : Int) ∧ distB (idN (za ++ zb)) k = true ∧ Below w.heap.size w wr ∧ Below wq2.heap.size wq2 wr) (fun i _ => n + m - (intOf i).toNat)
      case atStart => exact ⟨0, Nat.zero_le _, rfl, rfl, hbel0, Below.refl _ _⟩
      case round =>
        obtain ⟨k, hk, rfl, hdist, hbel, hbq⟩ := hrel
        have HD := Lib.hid hdist
        have r0 := (hbq.cell (p := ⟨w.heap.size, 0, none⟩) hwq).trans z0
        have r1 := (hbq.cell (p := ⟨w.heap.size, 1, none⟩) hwq).trans z1
        clear hdist z0 z1 hbel0
        by_cases hlt : k < n + m
        · obtain ⟨b, o, rfl, hbo, c0, _, _, _⟩ := (hL3.below hbq).row4 hlt
          have HDS := Lib.hid (show distB (idN (za ++ zb)) (k + 1) = (distB (idN (za ++ zb)) k && !seenB (idN (za ++ zb)) (idN (za ++ zb) k) k) from rfl)
          go_wp2_with fail
          refine (spec_l2At (some ⟨b, o, none⟩) (n + m) c3 (za ++ zb) (num (za ++ zb) (k * 4)) wr ((hL3.below hbq).more hbq.size) (by omega)).mono ?_
          rintro e wz ⟨⟨z, hz, rfl⟩, hbz⟩
          have hself : (z = (k : Int)) ↔ seenB (idN (za ++ zb)) (idN (za ++ zb) k) k = false := AtRel.self hz hlt
          have hbel := hbel.trans (hbz.mono hbel.size)
          have hbq := hbq.trans (hbz.mono hbq.size)
          clear hbz hz
          rcases Bool.eq_false_or_eq_true (seenB (idN (za ++ zb)) (idN (za ++ zb) k) k) with hseen | hseen
          · have hne : (z != (k : Int)) = true := by
              simp only [bne_iff_ne, ne_eq]
              intro e
              rw [hself.1 e] at hseen
              cases hseen
            have HN := Lib.hid (show distB (idN (za ++ zb)) (n + m) = false from distB_no hseen (n + m) hlt)
            clear hseen hself
            go_wp2_with fail
            go_ret
            exact ⟨by rw [HC.out, H1.out, H2.out, HDe.out, HN.out, Bool.and_false]; rfl, hbel⟩
          · obtain rfl := hself.2 hseen
            have HQ := Lib.hid hseen
            clear hseen hself
            go_wp2_with fail
            go_roundw
            case rel => exact ⟨k + 1, by omega, by go_num, by rw [HDS.out, HD.out, HQ.out]; rfl, hbel, hbq⟩
            case measure => simp [intOf]; omega
        · obtain rfl : k = n + m := by omega
          have HR := Lib.hid (show bookB za n zb m = !crossB za n zb m from by rw [HC.out, H1.out, H2.out, HDe.out, HD.out]; simp)
          have haz := (ha2.below ((show Below w2.heap.size w2 wq2 from HBQ.out).trans (hbq.mono HBQ.out.size))).more (Nat.le_trans HBQ.out.size hbq.size)
          have hbz := (hbb2.below ((show Below w2.heap.size w2 wq2 from HBQ.out).trans (hbq.mono HBQ.out.size))).more (Nat.le_trans HBQ.out.size hbq.size)
          have HBL := Lib.hid hbel
          clear ha2 hbb2 hL3 hbq hbel HBQ
          go_upto_region 9 with fail
          rcases Nat.eq_zero_or_pos n with rfl | hn0
          · clear haz hbz
            skip
            refine wp_region_held_drew (S := (fun w' => Below wr.heap.size wr w' ∧ w'.cell? ⟨w.heap.size, 0, none⟩ = some (.slice A1 0 c) ∧ w'.cell? ⟨w.heap.size, 1, none⟩ = some (.slice A2 m d))) (by kernel_rfl) ?hSq2xs (fun hHeld => ?restq2xs)
            case hSq2xs => ((first | assumption | ((((try dsimp only); repeat' apply And.intro) <;> (first | assumption | (refine below_later ?_ (by assumption); first | assumption | (simp only [*]; done) | (go_grown; done)) | (refine cell_later (by assumption) ?_; first | assumption | (simp only [*]; done) | (simp [go_sem]; done)) | (go_grown; done) | (simp [go_sem]; done))))))
            refine wpAnyH_take (i := 0) (oi := ?oiq2x1) (v := ?vq2x1) ?hiq2x1 (by kernel_rfl) (by kernel_rfl) (by kernel_rfl) ?hQq2x1 (Or.inl ⟨?hwq2x1, ?hyq2x1⟩) (by assumption) ?restq2x1
            case hiq2x1 => simp only [List.getElem?_toArray, List.getElem?_cons_succ, List.getElem?_cons_zero]; exact rfl
            case hQq2x1 => exact fun _ _ _ h => h
            case hwq2x1 => rfl
            case hyq2x1 => ((intro w hSw; (try dsimp only at hSw); go_simp) <;> with_reducible rfl)
            try simp only [Act.put, List.setIfInBounds_toArray, List.set_cons_zero, List.set_cons_succ]
            refine wpAnyH_take (i := 1) (oi := ?oiq2x2) (v := ?vq2x2) ?hiq2x2 (by kernel_rfl) (by kernel_rfl) (by kernel_rfl) ?hQq2x2 (Or.inl ⟨?hwq2x2, ?hyq2x2⟩) (by assumption) ?restq2x2
            case hiq2x2 => simp only [List.getElem?_toArray, List.getElem?_cons_succ, List.getElem?_cons_zero]; exact rfl
            case hQq2x2 => exact fun _ _ _ h => h
            case hwq2x2 => rfl
            case hyq2x2 => ((intro w hSw; (try dsimp only at hSw); go_simp) <;> with_reducible rfl)
            try simp only [Act.put, List.setIfInBounds_toArray, List.set_cons_zero, List.set_cons_succ]
            refine wpAnyH_take (i := 2) (oi := ?oiq2x3) (v := ?vq2x3) ?hiq2x3 (by kernel_rfl) (by kernel_rfl) (by kernel_rfl) ?hQq2x3 (Or.inl ⟨?hwq2x3, ?hyq2x3⟩) (by assumption) ?restq2x3
            case hiq2x3 => simp only [List.getElem?_toArray, List.getElem?_cons_succ, List.getElem?_cons_zero]; exact rfl
            case hQq2x3 => exact fun _ _ _ h => h
            case hwq2x3 => rfl
            case hyq2x3 => ((intro w hSw; (try dsimp only at hSw); go_simp) <;> with_reducible rfl)
            try simp only [Act.put, List.setIfInBounds_toArray, List.set_cons_zero, List.set_cons_succ]
            refine wpAnyH_take (i := 3) (oi := ?oiq2x4) (v := ?vq2x4) ?hiq2x4 (by kernel_rfl) (by kernel_rfl) (by kernel_rfl) ?hQq2x4 (Or.inl ⟨?hwq2x4, ?hyq2x4⟩) (by assumption) ?restq2x4
            case hiq2x4 => simp only [List.getElem?_toArray, List.getElem?_cons_succ, List.getElem?_cons_zero]; exact rfl
            case hQq2x4 => exact fun _ _ _ h => h
            case hwq2x4 => rfl
            case hyq2x4 => ((intro w hSw; (try dsimp only at hSw); go_simp) <;> with_reducible rfl)
            try simp only [Act.put, List.setIfInBounds_toArray, List.set_cons_zero, List.set_cons_succ]
            refine wpAnyH_take (i := 4) (oi := ?oiq2x5) (v := ?vq2x5) ?hiq2x5 (by kernel_rfl) (by kernel_rfl) (by kernel_rfl) ?hQq2x5 (Or.inl ⟨?hwq2x5, ?hyq2x5⟩) (by assumption) ?restq2x5
            case hiq2x5 => simp only [List.getElem?_toArray, List.getElem?_cons_succ, List.getElem?_cons_zero]; exact rfl
            case hQq2x5 => exact fun _ _ _ h => h
            case hwq2x5 => rfl
            case hyq2x5 => ((intro w hSw; (try dsimp only at hSw); go_simp) <;> with_reducible rfl)
            try simp only [Act.put, List.setIfInBounds_toArray, List.set_cons_zero, List.set_cons_succ]
            refine wpAnyH_take (i := 5) (oi := ?oiq2x6) (v := _) ?hiq2x6 (by kernel_rfl) (by kernel_rfl) (by kernel_rfl) ?hQq2x6 (Or.inr ⟨?hwq2x6, rfl⟩) (by assumption) ?restq2x6
            case hiq2x6 => simp only [List.getElem?_toArray, List.getElem?_cons_succ, List.getElem?_cons_zero]; exact rfl
            case hQq2x6 => exact fun _ _ _ h => h
            case hwq2x6 => rfl
            try simp only [Act.put, List.setIfInBounds_toArray, List.set_cons_zero, List.set_cons_succ]
            refine wpAnyH_take (i := 6) (oi := ?oiq2x7) (v := _) ?hiq2x7 (by kernel_rfl) (by kernel_rfl) (by kernel_rfl) ?hQq2x7 (Or.inr ⟨?hwq2x7, rfl⟩) (by assumption) ?restq2x7
            case hiq2x7 => simp only [List.getElem?_toArray, List.getElem?_cons_succ, List.getElem?_cons_zero]; exact rfl
            case hQq2x7 => exact fun _ _ _ h => h
            case hwq2x7 => rfl
            try simp only [Act.put, List.setIfInBounds_toArray, List.set_cons_zero, List.set_cons_succ]
            refine wpAnyH_take (i := 7) (oi := ?oiq2x8) (v := _) ?hiq2x8 (by kernel_rfl) (by kernel_rfl) (by kernel_rfl) ?hQq2x8 (Or.inr ⟨?hwq2x8, rfl⟩) (by assumption) ?restq2x8
            case hiq2x8 => simp only [List.getElem?_toArray, List.getElem?_cons_succ, List.getElem?_cons_zero]; exact rfl
            case hQq2x8 => exact fun _ _ _ h => h
            case hwq2x8 => rfl
            try simp only [Act.put, List.setIfInBounds_toArray, List.set_cons_zero, List.set_cons_succ]
            refine wpAnyH_take (i := 8) (oi := ?oiq2x9) (v := _) ?hiq2x9 (by kernel_rfl) (by kernel_rfl) (by kernel_rfl) ?hQq2x9 (Or.inr ⟨?hwq2x9, rfl⟩) (by assumption) ?restq2x9
            case hiq2x9 => simp only [List.getElem?_toArray, List.getElem?_cons_succ, List.getElem?_cons_zero]; exact rfl
            case hQq2x9 => exact fun _ _ _ h => h
            case hwq2x9 => rfl
            try simp only [Act.put, List.setIfInBounds_toArray, List.set_cons_zero, List.set_cons_succ]
            refine wpAnyH_take (i := 9) (oi := ?oiq2x10) (v := ?vq2x10) ?hiq2x10 (by kernel_rfl) (by kernel_rfl) (by kernel_rfl) ?hQq2x10 (Or.inl ⟨?hwq2x10, ?hyq2x10⟩) (by assumption) ?restq2x10
            case hiq2x10 => simp only [List.getElem?_toArray, List.getElem?_cons_succ, List.getElem?_cons_zero]; exact rfl
            case hQq2x10 => exact fun _ _ _ h => h
            case hwq2x10 => rfl
            case hyq2x10 => ((intro w hSw; (try dsimp only at hSw); go_simp) <;> with_reducible rfl)
            try simp only [Act.put, List.setIfInBounds_toArray, List.set_cons_zero, List.set_cons_succ]
            refine wpAnyH_take (i := 10) (oi := ?oiq2x11) (v := ?vq2x11) ?hiq2x11 (by kernel_rfl) (by kernel_rfl) (by kernel_rfl) ?hQq2x11 (Or.inl ⟨?hwq2x11, ?hyq2x11⟩) (by assumption) ?restq2x11
            case hiq2x11 => simp only [List.getElem?_toArray, List.getElem?_cons_succ, List.getElem?_cons_zero]; exact rfl
            case hQq2x11 => exact fun _ _ _ h => h
            case hwq2x11 => rfl
            case hyq2x11 => ((intro w hSw; (try dsimp only at hSw); go_simp) <;> with_reducible rfl)
            try simp only [Act.put, List.setIfInBounds_toArray, List.set_cons_zero, List.set_cons_succ]
            refine wpAnyH_take (i := 11) (oi := ?oiq2x12) (v := _) ?hiq2x12 (by kernel_rfl) (by kernel_rfl) (by kernel_rfl) ?hQq2x12 (Or.inr ⟨?hwq2x12, rfl⟩) (by assumption) ?restq2x12
            case hiq2x12 => simp only [List.getElem?_toArray, List.getElem?_cons_succ, List.getElem?_cons_zero]; exact rfl
            case hQq2x12 => exact fun _ _ _ h => h
            case hwq2x12 => rfl
            try simp only [Act.put, List.setIfInBounds_toArray, List.set_cons_zero, List.set_cons_succ]
            refine wpAnyH_take (i := 12) (oi := ?oiq2x13) (v := _) ?hiq2x13 (by kernel_rfl) (by kernel_rfl) (by kernel_rfl) ?hQq2x13 (Or.inr ⟨?hwq2x13, rfl⟩) (by assumption) ?restq2x13
            case hiq2x13 => simp only [List.getElem?_toArray, List.getElem?_cons_succ, List.getElem?_cons_zero]; exact rfl
            case hQq2x13 => exact fun _ _ _ h => h
            case hwq2x13 => rfl
            try simp only [Act.put, List.setIfInBounds_toArray, List.set_cons_zero, List.set_cons_succ]
            refine wpAnyH_take (i := 13) (oi := ?oiq2x14) (v := _) ?hiq2x14 (by kernel_rfl) (by kernel_rfl) (by kernel_rfl) ?hQq2x14 (Or.inr ⟨?hwq2x14, rfl⟩) (by assumption) ?restq2x14
            case hiq2x14 => simp only [List.getElem?_toArray, List.getElem?_cons_succ, List.getElem?_cons_zero]; exact rfl
            case hQq2x14 => exact fun _ _ _ h => h
            case hwq2x14 => rfl
            try simp only [Act.put, List.setIfInBounds_toArray, List.set_cons_zero, List.set_cons_succ]
            refine wpAnyH_take (i := 14) (oi := ?oiq2x15) (v := _) ?hiq2x15 (by kernel_rfl) (by kernel_rfl) (by kernel_rfl) ?hQq2x15 (Or.inr ⟨?hwq2x15, rfl⟩) (by assumption) ?restq2x15
            case hiq2x15 => simp only [List.getElem?_toArray, List.getElem?_cons_succ, List.getElem?_cons_zero]; exact rfl
            case hQq2x15 => exact fun _ _ _ h => h
            case hwq2x15 => rfl
            try simp only [Act.put, List.setIfInBounds_toArray, List.set_cons_zero, List.set_cons_succ]
            refine wpAnyH_take (i := 15) (oi := ?oiq2x16) (v := _) ?hiq2x16 (by kernel_rfl) (by kernel_rfl) (by kernel_rfl) ?hQq2x16 (Or.inr ⟨?hwq2x16, rfl⟩) (by assumption) ?restq2x16
            case hiq2x16 => simp only [List.getElem?_toArray, List.getElem?_cons_succ, List.getElem?_cons_zero]; exact rfl
            case hQq2x16 => exact fun _ _ _ h => h
            case hwq2x16 => rfl
            try simp only [Act.put, List.setIfInBounds_toArray, List.set_cons_zero, List.set_cons_succ]
            refine wpAnyH_take (i := 16) (oi := ?oiq2x17) (v := _) ?hiq2x17 (by kernel_rfl) (by kernel_rfl) (by kernel_rfl) ?hQq2x17 (Or.inr ⟨?hwq2x17, rfl⟩) (by assumption) ?restq2x17
            case hiq2x17 => simp only [List.getElem?_toArray, List.getElem?_cons_succ, List.getElem?_cons_zero]; exact rfl
            case hQq2x17 => exact fun _ _ _ h => h
            case hwq2x17 => rfl
            try simp only [Act.put, List.setIfInBounds_toArray, List.set_cons_zero, List.set_cons_succ]
            refine wpAnyH_take (i := 17) (oi := ?oiq2x18) (v := _) ?hiq2x18 (by kernel_rfl) (by kernel_rfl) (by kernel_rfl) ?hQq2x18 (Or.inr ⟨?hwq2x18, rfl⟩) (by assumption) ?restq2x18
            case hiq2x18 => simp only [List.getElem?_toArray, List.getElem?_cons_succ, List.getElem?_cons_zero]; exact rfl
            case hQq2x18 => exact fun _ _ _ h => h
            case hwq2x18 => rfl
            try simp only [Act.put, List.setIfInBounds_toArray, List.set_cons_zero, List.set_cons_succ]
            refine wpAnyH_take (i := 18) (oi := ?oiq2x19) (v := _) ?hiq2x19 (by kernel_rfl) (by kernel_rfl) (by kernel_rfl) ?hQq2x19 (Or.inr ⟨?hwq2x19, rfl⟩) (by assumption) ?restq2x19
            case hiq2x19 => simp only [List.getElem?_toArray, List.getElem?_cons_succ, List.getElem?_cons_zero]; exact rfl
            case hQq2x19 => exact fun _ _ _ h => h
            case hwq2x19 => rfl
            try simp only [Act.put, List.setIfInBounds_toArray, List.set_cons_zero, List.set_cons_succ]
            refine wpAnyH_take (i := 19) (oi := ?oiq2x20) (v := _) ?hiq2x20 (by kernel_rfl) (by kernel_rfl) (by kernel_rfl) ?hQq2x20 (Or.inr ⟨?hwq2x20, rfl⟩) (by assumption) ?restq2x20
            case hiq2x20 => simp only [List.getElem?_toArray, List.getElem?_cons_succ, List.getElem?_cons_zero]; exact rfl
            case hQq2x20 => exact fun _ _ _ h => h
            case hwq2x20 => rfl
            try simp only [Act.put, List.setIfInBounds_toArray, List.set_cons_zero, List.set_cons_succ]
            refine wpAnyH_take (i := 20) (oi := ?oiq2x21) (v := _) ?hiq2x21 (by kernel_rfl) (by kernel_rfl) (by kernel_rfl) ?hQq2x21 (Or.inr ⟨?hwq2x21, rfl⟩) (by assumption) ?restq2x21
            case hiq2x21 => simp only [List.getElem?_toArray, List.getElem?_cons_succ, List.getElem?_cons_zero]; exact rfl
            case hQq2x21 => exact fun _ _ _ h => h
            case hwq2x21 => rfl
            try simp only [Act.put, List.setIfInBounds_toArray, List.set_cons_zero, List.set_cons_succ]
            refine wpAnyH_take (i := 21) (oi := ?oiq2x22) (v := _) ?hiq2x22 (by kernel_rfl) (by kernel_rfl) (by kernel_rfl) ?hQq2x22 (Or.inr ⟨?hwq2x22, rfl⟩) (by assumption) ?restq2x22
            case hiq2x22 => simp only [List.getElem?_toArray, List.getElem?_cons_succ, List.getElem?_cons_zero]; exact rfl
            case hQq2x22 => exact fun _ _ _ h => h
            case hwq2x22 => rfl
            try simp only [Act.put, List.setIfInBounds_toArray, List.set_cons_zero, List.set_cons_succ]
            refine wpAnyH_take (i := 22) (oi := ?oiq2x23) (v := ?vq2x23) ?hiq2x23 (by kernel_rfl) (by kernel_rfl) (by kernel_rfl) ?hQq2x23 (Or.inl ⟨?hwq2x23, ?hyq2x23⟩) (by assumption) ?restq2x23
            case hiq2x23 => simp only [List.getElem?_toArray, List.getElem?_cons_succ, List.getElem?_cons_zero]; exact rfl
            case hQq2x23 => exact fun _ _ _ h => h
            case hwq2x23 => rfl
            case hyq2x23 => ((intro w hSw; (try dsimp only at hSw); go_simp) <;> with_reducible rfl)
            try simp only [Act.put, List.setIfInBounds_toArray, List.set_cons_zero, List.set_cons_succ]
            refine wpAnyH_take (i := 23) (oi := ?oiq2x24) (v := ?vq2x24) ?hiq2x24 (by kernel_rfl) (by kernel_rfl) (by kernel_rfl) ?hQq2x24 (Or.inl ⟨?hwq2x24, ?hyq2x24⟩) (by assumption) ?restq2x24
            case hiq2x24 => simp only [List.getElem?_toArray, List.getElem?_cons_succ, List.getElem?_cons_zero]; exact rfl
            case hQq2x24 => exact fun _ _ _ h => h
            case hwq2x24 => rfl
            case hyq2x24 => ((intro w hSw; (try dsimp only at hSw); go_simp) <;> with_reducible rfl)
            try simp only [Act.put, List.setIfInBounds_toArray, List.set_cons_zero, List.set_cons_succ]
            refine wpAnyH_done (by kernel_rfl) ?_ _
            have hBz := HBL.out.trans (hHeld.1.mono HBL.out.size)
            clear hHeld
            go_wp2_with fail
            go_ret
            exact ⟨by rw [HR.out, HX.out]; rfl, hBz⟩
          · have n1 : ((n : Int) == 0) = false := beq_eq_false_iff_ne.2 (by omega)
            have n2 : n ≠ 0 := by omega
            rcases Nat.eq_zero_or_pos m with rfl | hm0
            · clear haz hbz
              skip
              refine wp_region_held_drew (S := (fun w' => Below wr.heap.size wr w' ∧ w'.cell? ⟨w.heap.size, 0, none⟩ = some (.slice A1 n c) ∧ w'.cell? ⟨w.heap.size, 1, none⟩ = some (.slice A2 0 d))) (by kernel_rfl) ?hSq3xs (fun hHeld => ?restq3xs)
              case hSq3xs => ((first | assumption | ((((try dsimp only); repeat' apply And.intro) <;> (first | assumption | (refine below_later ?_ (by assumption); first | assumption | (simp only [*]; done) | (go_grown; done)) | (refine cell_later (by assumption) ?_; first | assumption | (simp only [*]; done) | (simp [go_sem]; done)) | (go_grown; done) | (simp [go_sem]; done))))))
              refine wpAnyH_take (i := 0) (oi := ?oiq3x1) (v := ?vq3x1) ?hiq3x1 (by kernel_rfl) (by kernel_rfl) (by kernel_rfl) ?hQq3x1 (Or.inl ⟨?hwq3x1, ?hyq3x1⟩) (by assumption) ?restq3x1
              case hiq3x1 => simp only [List.getElem?_toArray, List.getElem?_cons_succ, List.getElem?_cons_zero]; exact rfl
              case hQq3x1 => exact fun _ _ _ h => h
              case hwq3x1 => rfl
              case hyq3x1 => ((intro w hSw; (try dsimp only at hSw); go_simp) <;> with_reducible rfl)
              try simp only [Act.put, List.setIfInBounds_toArray, List.set_cons_zero, List.set_cons_succ]
              refine wpAnyH_take (i := 1) (oi := ?oiq3x2) (v := ?vq3x2) ?hiq3x2 (by kernel_rfl) (by kernel_rfl) (by kernel_rfl) ?hQq3x2 (Or.inl ⟨?hwq3x2, ?hyq3x2⟩) (by assumption) ?restq3x2
              case hiq3x2 => simp only [List.getElem?_toArray, List.getElem?_cons_succ, List.getElem?_cons_zero]; exact rfl
              case hQq3x2 => exact fun _ _ _ h => h
              case hwq3x2 => rfl
              case hyq3x2 => ((intro w hSw; (try dsimp only at hSw); go_simp) <;> with_reducible rfl)
              try simp only [Act.put, List.setIfInBounds_toArray, List.set_cons_zero, List.set_cons_succ]
              refine wpAnyH_take (i := 2) (oi := ?oiq3x3) (v := ?vq3x3) ?hiq3x3 (by kernel_rfl) (by kernel_rfl) (by kernel_rfl) ?hQq3x3 (Or.inl ⟨?hwq3x3, ?hyq3x3⟩) (by assumption) ?restq3x3
              case hiq3x3 => simp only [List.getElem?_toArray, List.getElem?_cons_succ, List.getElem?_cons_zero]; exact rfl
              case hQq3x3 => exact fun _ _ _ h => h
              case hwq3x3 => rfl
              case hyq3x3 => ((intro w hSw; (try dsimp only at hSw); go_simp) <;> with_reducible rfl)
              try simp only [Act.put, List.setIfInBounds_toArray, List.set_cons_zero, List.set_cons_succ]
              refine wpAnyH_take (i := 3) (oi := ?oiq3x4) (v := ?vq3x4) ?hiq3x4 (by kernel_rfl) (by kernel_rfl) (by kernel_rfl) ?hQq3x4 (Or.inl ⟨?hwq3x4, ?hyq3x4⟩) (by assumption) ?restq3x4
              case hiq3x4 => simp only [List.getElem?_toArray, List.getElem?_cons_succ, List.getElem?_cons_zero]; exact rfl
              case hQq3x4 => exact fun _ _ _ h => h
              case hwq3x4 => rfl
              case hyq3x4 => ((intro w hSw; (try dsimp only at hSw); go_simp) <;> with_reducible rfl)
              try simp only [Act.put, List.setIfInBounds_toArray, List.set_cons_zero, List.set_cons_succ]
              refine wpAnyH_take (i := 4) (oi := ?oiq3x5) (v := ?vq3x5) ?hiq3x5 (by kernel_rfl) (by kernel_rfl) (by kernel_rfl) ?hQq3x5 (Or.inl ⟨?hwq3x5, ?hyq3x5⟩) (by assumption) ?restq3x5
              case hiq3x5 => simp only [List.getElem?_toArray, List.getElem?_cons_succ, List.getElem?_cons_zero]; exact rfl
              case hQq3x5 => exact fun _ _ _ h => h
              case hwq3x5 => rfl
              case hyq3x5 => ((intro w hSw; (try dsimp only at hSw); go_simp) <;> with_reducible rfl)
              try simp only [Act.put, List.setIfInBounds_toArray, List.set_cons_zero, List.set_cons_succ]
              refine wpAnyH_take (i := 5) (oi := ?oiq3x6) (v := ?vq3x6) ?hiq3x6 (by kernel_rfl) (by kernel_rfl) (by kernel_rfl) ?hQq3x6 (Or.inl ⟨?hwq3x6, ?hyq3x6⟩) (by assumption) ?restq3x6
              case hiq3x6 => simp only [List.getElem?_toArray, List.getElem?_cons_succ, List.getElem?_cons_zero]; exact rfl
              case hQq3x6 => exact fun _ _ _ h => h
              case hwq3x6 => rfl
              case hyq3x6 => ((intro w hSw; (try dsimp only at hSw); go_simp) <;> with_reducible rfl)
              try simp only [Act.put, List.setIfInBounds_toArray, List.set_cons_zero, List.set_cons_succ]
              refine wpAnyH_take (i := 6) (oi := ?oiq3x7) (v := ?vq3x7) ?hiq3x7 (by kernel_rfl) (by kernel_rfl) (by kernel_rfl) ?hQq3x7 (Or.inl ⟨?hwq3x7, ?hyq3x7⟩) (by assumption) ?restq3x7
              case hiq3x7 => simp only [List.getElem?_toArray, List.getElem?_cons_succ, List.getElem?_cons_zero]; exact rfl
              case hQq3x7 => exact fun _ _ _ h => h
              case hwq3x7 => rfl
              case hyq3x7 => ((intro w hSw; (try dsimp only at hSw); go_simp) <;> with_reducible rfl)
              try simp only [Act.put, List.setIfInBounds_toArray, List.set_cons_zero, List.set_cons_succ]
              refine wpAnyH_take (i := 7) (oi := ?oiq3x8) (v := ?vq3x8) ?hiq3x8 (by kernel_rfl) (by kernel_rfl) (by kernel_rfl) ?hQq3x8 (Or.inl ⟨?hwq3x8, ?hyq3x8⟩) (by assumption) ?restq3x8
              case hiq3x8 => simp only [List.getElem?_toArray, List.getElem?_cons_succ, List.getElem?_cons_zero]; exact rfl
              case hQq3x8 => exact fun _ _ _ h => h
              case hwq3x8 => rfl
              case hyq3x8 => ((intro w hSw; (try dsimp only at hSw); go_simp) <;> with_reducible rfl)
              try simp only [Act.put, List.setIfInBounds_toArray, List.set_cons_zero, List.set_cons_succ]
              refine wpAnyH_take (i := 8) (oi := ?oiq3x9) (v := ?vq3x9) ?hiq3x9 (by kernel_rfl) (by kernel_rfl) (by kernel_rfl) ?hQq3x9 (Or.inl ⟨?hwq3x9, ?hyq3x9⟩) (by assumption) ?restq3x9
              case hiq3x9 => simp only [List.getElem?_toArray, List.getElem?_cons_succ, List.getElem?_cons_zero]; exact rfl
              case hQq3x9 => exact fun _ _ _ h => h
              case hwq3x9 => rfl
              case hyq3x9 => ((intro w hSw; (try dsimp only at hSw); go_simp) <;> with_reducible rfl)
              try simp only [Act.put, List.setIfInBounds_toArray, List.set_cons_zero, List.set_cons_succ]
              refine wpAnyH_take (i := 9) (oi := ?oiq3x10) (v := ?vq3x10) ?hiq3x10 (by kernel_rfl) (by kernel_rfl) (by kernel_rfl) ?hQq3x10 (Or.inl ⟨?hwq3x10, ?hyq3x10⟩) (by assumption) ?restq3x10
              case hiq3x10 => simp only [List.getElem?_toArray, List.getElem?_cons_succ, List.getElem?_cons_zero]; exact rfl
              case hQq3x10 => exact fun _ _ _ h => h
              case hwq3x10 => rfl
              case hyq3x10 => ((intro w hSw; (try dsimp only at hSw); go_simp) <;> with_reducible rfl)
              try simp only [Act.put, List.setIfInBounds_toArray, List.set_cons_zero, List.set_cons_succ]
              refine wpAnyH_take (i := 10) (oi := ?oiq3x11) (v := ?vq3x11) ?hiq3x11 (by kernel_rfl) (by kernel_rfl) (by kernel_rfl) ?hQq3x11 (Or.inl ⟨?hwq3x11, ?hyq3x11⟩) (by assumption) ?restq3x11
              case hiq3x11 => simp only [List.getElem?_toArray, List.getElem?_cons_succ, List.getElem?_cons_zero]; exact rfl
              case hQq3x11 => exact fun _ _ _ h => h
              case hwq3x11 => rfl
              case hyq3x11 => ((intro w hSw; (try dsimp only at hSw); go_simp) <;> with_reducible rfl)
              try simp only [Act.put, List.setIfInBounds_toArray, List.set_cons_zero, List.set_cons_succ]
              refine wpAnyH_take (i := 11) (oi := ?oiq3x12) (v := _) ?hiq3x12 (by kernel_rfl) (by kernel_rfl) (by kernel_rfl) ?hQq3x12 (Or.inr ⟨?hwq3x12, rfl⟩) (by assumption) ?restq3x12
              case hiq3x12 => simp only [List.getElem?_toArray, List.getElem?_cons_succ, List.getElem?_cons_zero]; exact rfl
              case hQq3x12 => exact fun _ _ _ h => h
              case hwq3x12 => rfl
              try simp only [Act.put, List.setIfInBounds_toArray, List.set_cons_zero, List.set_cons_succ]
              refine wpAnyH_take (i := 12) (oi := ?oiq3x13) (v := _) ?hiq3x13 (by kernel_rfl) (by kernel_rfl) (by kernel_rfl) ?hQq3x13 (Or.inr ⟨?hwq3x13, rfl⟩) (by assumption) ?restq3x13
              case hiq3x13 => simp only [List.getElem?_toArray, List.getElem?_cons_succ, List.getElem?_cons_zero]; exact rfl
              case hQq3x13 => exact fun _ _ _ h => h
              case hwq3x13 => rfl
              try simp only [Act.put, List.setIfInBounds_toArray, List.set_cons_zero, List.set_cons_succ]
              refine wpAnyH_take (i := 13) (oi := ?oiq3x14) (v := _) ?hiq3x14 (by kernel_rfl) (by kernel_rfl) (by kernel_rfl) ?hQq3x14 (Or.inr ⟨?hwq3x14, rfl⟩) (by assumption) ?restq3x14
              case hiq3x14 => simp only [List.getElem?_toArray, List.getElem?_cons_succ, List.getElem?_cons_zero]; exact rfl
              case hQq3x14 => exact fun _ _ _ h => h
              case hwq3x14 => rfl
              try simp only [Act.put, List.setIfInBounds_toArray, List.set_cons_zero, List.set_cons_succ]
              refine wpAnyH_take (i := 14) (oi := ?oiq3x15) (v := _) ?hiq3x15 (by kernel_rfl) (by kernel_rfl) (by kernel_rfl) ?hQq3x15 (Or.inr ⟨?hwq3x15, rfl⟩) (by assumption) ?restq3x15
              case hiq3x15 => simp only [List.getElem?_toArray, List.getElem?_cons_succ, List.getElem?_cons_zero]; exact rfl
              case hQq3x15 => exact fun _ _ _ h => h
              case hwq3x15 => rfl
              try simp only [Act.put, List.setIfInBounds_toArray, List.set_cons_zero, List.set_cons_succ]
              refine wpAnyH_take (i := 15) (oi := ?oiq3x16) (v := _) ?hiq3x16 (by kernel_rfl) (by kernel_rfl) (by kernel_rfl) ?hQq3x16 (Or.inr ⟨?hwq3x16, rfl⟩) (by assumption) ?restq3x16
              case hiq3x16 => simp only [List.getElem?_toArray, List.getElem?_cons_succ, List.getElem?_cons_zero]; exact rfl
              case hQq3x16 => exact fun _ _ _ h => h
              case hwq3x16 => rfl
              try simp only [Act.put, List.setIfInBounds_toArray, List.set_cons_zero, List.set_cons_succ]
              refine wpAnyH_take (i := 16) (oi := ?oiq3x17) (v := _) ?hiq3x17 (by kernel_rfl) (by kernel_rfl) (by kernel_rfl) ?hQq3x17 (Or.inr ⟨?hwq3x17, rfl⟩) (by assumption) ?restq3x17
              case hiq3x17 => simp only [List.getElem?_toArray, List.getElem?_cons_succ, List.getElem?_cons_zero]; exact rfl
              case hQq3x17 => exact fun _ _ _ h => h
              case hwq3x17 => rfl
              try simp only [Act.put, List.setIfInBounds_toArray, List.set_cons_zero, List.set_cons_succ]
              refine wpAnyH_take (i := 17) (oi := ?oiq3x18) (v := _) ?hiq3x18 (by kernel_rfl) (by kernel_rfl) (by kernel_rfl) ?hQq3x18 (Or.inr ⟨?hwq3x18, rfl⟩) (by assumption) ?restq3x18
              case hiq3x18 => simp only [List.getElem?_toArray, List.getElem?_cons_succ, List.getElem?_cons_zero]; exact rfl
              case hQq3x18 => exact fun _ _ _ h => h
              case hwq3x18 => rfl
              try simp only [Act.put, List.setIfInBounds_toArray, List.set_cons_zero, List.set_cons_succ]
              refine wpAnyH_take (i := 18) (oi := ?oiq3x19) (v := _) ?hiq3x19 (by kernel_rfl) (by kernel_rfl) (by kernel_rfl) ?hQq3x19 (Or.inr ⟨?hwq3x19, rfl⟩) (by assumption) ?restq3x19
              case hiq3x19 => simp only [List.getElem?_toArray, List.getElem?_cons_succ, List.getElem?_cons_zero]; exact rfl
              case hQq3x19 => exact fun _ _ _ h => h
              case hwq3x19 => rfl
              try simp only [Act.put, List.setIfInBounds_toArray, List.set_cons_zero, List.set_cons_succ]
              refine wpAnyH_take (i := 19) (oi := ?oiq3x20) (v := _) ?hiq3x20 (by kernel_rfl) (by kernel_rfl) (by kernel_rfl) ?hQq3x20 (Or.inr ⟨?hwq3x20, rfl⟩) (by assumption) ?restq3x20
              case hiq3x20 => simp only [List.getElem?_toArray, List.getElem?_cons_succ, List.getElem?_cons_zero]; exact rfl
              case hQq3x20 => exact fun _ _ _ h => h
              case hwq3x20 => rfl
              try simp only [Act.put, List.setIfInBounds_toArray, List.set_cons_zero, List.set_cons_succ]
              refine wpAnyH_take (i := 20) (oi := ?oiq3x21) (v := _) ?hiq3x21 (by kernel_rfl) (by kernel_rfl) (by kernel_rfl) ?hQq3x21 (Or.inr ⟨?hwq3x21, rfl⟩) (by assumption) ?restq3x21
              case hiq3x21 => simp only [List.getElem?_toArray, List.getElem?_cons_succ, List.getElem?_cons_zero]; exact rfl
              case hQq3x21 => exact fun _ _ _ h => h
              case hwq3x21 => rfl
              try simp only [Act.put, List.setIfInBounds_toArray, List.set_cons_zero, List.set_cons_succ]
              refine wpAnyH_take (i := 21) (oi := ?oiq3x22) (v := _) ?hiq3x22 (by kernel_rfl) (by kernel_rfl) (by kernel_rfl) ?hQq3x22 (Or.inr ⟨?hwq3x22, rfl⟩) (by assumption) ?restq3x22
              case hiq3x22 => simp only [List.getElem?_toArray, List.getElem?_cons_succ, List.getElem?_cons_zero]; exact rfl
              case hQq3x22 => exact fun _ _ _ h => h
              case hwq3x22 => rfl
              try simp only [Act.put, List.setIfInBounds_toArray, List.set_cons_zero, List.set_cons_succ]
              refine wpAnyH_take (i := 22) (oi := ?oiq3x23) (v := ?vq3x23) ?hiq3x23 (by kernel_rfl) (by kernel_rfl) (by kernel_rfl) ?hQq3x23 (Or.inl ⟨?hwq3x23, ?hyq3x23⟩) (by assumption) ?restq3x23
              case hiq3x23 => simp only [List.getElem?_toArray, List.getElem?_cons_succ, List.getElem?_cons_zero]; exact rfl
              case hQq3x23 => exact fun _ _ _ h => h
              case hwq3x23 => rfl
              case hyq3x23 => ((intro w hSw; (try dsimp only at hSw); go_simp) <;> with_reducible rfl)
              try simp only [Act.put, List.setIfInBounds_toArray, List.set_cons_zero, List.set_cons_succ]
              refine wpAnyH_take (i := 23) (oi := ?oiq3x24) (v := ?vq3x24) ?hiq3x24 (by kernel_rfl) (by kernel_rfl) (by kernel_rfl) ?hQq3x24 (Or.inl ⟨?hwq3x24, ?hyq3x24⟩) (by assumption) ?restq3x24
              case hiq3x24 => simp only [List.getElem?_toArray, List.getElem?_cons_succ, List.getElem?_cons_zero]; exact rfl
              case hQq3x24 => exact fun _ _ _ h => h
              case hwq3x24 => rfl
              case hyq3x24 => ((intro w hSw; (try dsimp only at hSw); go_simp) <;> with_reducible rfl)
              try simp only [Act.put, List.setIfInBounds_toArray, List.set_cons_zero, List.set_cons_succ]
              refine wpAnyH_done (by kernel_rfl) ?_ _
              have hBz := HBL.out.trans (hHeld.1.mono HBL.out.size)
              clear hHeld
              go_wp2_with fail
              go_ret
              exact ⟨by rw [HR.out, HX.out, decide_eq_true hn0]; rfl, hBz⟩
            · have m1 : ((m : Int) == 0) = false := beq_eq_false_iff_ne.2 (by omega)
              have m2 : m ≠ 0 := by omega
              have n3 : (0 : Int) < (n : Int) := by omega
              have m3 : (0 : Int) < (m : Int) := by omega
              obtain ⟨b, o, e1, hlb, _, _, c2, _⟩ := haz.row4 hn0
              obtain ⟨b', o', e2, hlb', _, _, d2, _⟩ := hbz.row4 hm0
              subst e1 e2
              have HV := Lib.hid (show bookB za n zb m = !decide (price zb 0 ≤ price za 0) from by rw [HR.out, HX.out, decide_eq_true hn0, decide_eq_true hm0]; rfl)
              have HPa : num za (0 * 4 + 2) = price za 0 := rfl
              have HPb : num zb (0 * 4 + 2) = price zb 0 := rfl
              rw [HPa] at c2
              rw [HPb] at d2
              clear haz hbz HX HR HPa HPb
              simp at c2 d2
              generalize price za 0 = pa at *
              generalize price zb 0 = pb at *
              refine wp_region_held_drew (S := (fun w' => Below wr.heap.size wr w' ∧ w'.cell? ⟨w.heap.size, 0, none⟩ = some (.slice (some ⟨b, o, none⟩) n c) ∧ w'.cell? ⟨w.heap.size, 1, none⟩ = some (.slice (some ⟨b', o', none⟩) m d) ∧ w'.cell? ⟨b, o + 2, none⟩ = some (.int .i64 pa) ∧ w'.cell? ⟨b', o' + 2, none⟩ = some (.int .i64 pb))) (by kernel_rfl) ?hSq4xs (fun hHeld => ?restq4xs)
              case hSq4xs => ((first | assumption | ((((try dsimp only); repeat' apply And.intro) <;> (first | assumption | (refine below_later ?_ (by assumption); first | assumption | (simp only [*]; done) | (go_grown; done)) | (refine cell_later (by assumption) ?_; first | assumption | (simp only [*]; done) | (simp [go_sem]; done)) | (go_grown; done) | (simp [go_sem]; done))))))
              refine wpAnyH_take (i := 0) (oi := ?oiq4x1) (v := ?vq4x1) ?hiq4x1 (by kernel_rfl) (by kernel_rfl) (by kernel_rfl) ?hQq4x1 (Or.inl ⟨?hwq4x1, ?hyq4x1⟩) (by assumption) ?restq4x1
              case hiq4x1 => simp only [List.getElem?_toArray, List.getElem?_cons_succ, List.getElem?_cons_zero]; exact rfl
              case hQq4x1 => exact fun _ _ _ h => h
              case hwq4x1 => rfl
              case hyq4x1 => ((intro w hSw; (try dsimp only at hSw); go_simp) <;> with_reducible rfl)
              try simp only [Act.put, List.setIfInBounds_toArray, List.set_cons_zero, List.set_cons_succ]
              refine wpAnyH_take (i := 1) (oi := ?oiq4x2) (v := ?vq4x2) ?hiq4x2 (by kernel_rfl) (by kernel_rfl) (by kernel_rfl) ?hQq4x2 (Or.inl ⟨?hwq4x2, ?hyq4x2⟩) (by assumption) ?restq4x2
              case hiq4x2 => simp only [List.getElem?_toArray, List.getElem?_cons_succ, List.getElem?_cons_zero]; exact rfl
              case hQq4x2 => exact fun _ _ _ h => h
              case hwq4x2 => rfl
              case hyq4x2 => ((intro w hSw; (try dsimp only at hSw); go_simp) <;> with_reducible rfl)
              try simp only [Act.put, List.setIfInBounds_toArray, List.set_cons_zero, List.set_cons_succ]
              refine wpAnyH_take (i := 2) (oi := ?oiq4x3) (v := ?vq4x3) ?hiq4x3 (by kernel_rfl) (by kernel_rfl) (by kernel_rfl) ?hQq4x3 (Or.inl ⟨?hwq4x3, ?hyq4x3⟩) (by assumption) ?restq4x3
              case hiq4x3 => simp only [List.getElem?_toArray, List.getElem?_cons_succ, List.getElem?_cons_zero]; exact rfl
              case hQq4x3 => exact fun _ _ _ h => h
              case hwq4x3 => rfl
              case hyq4x3 => ((intro w hSw; (try dsimp only at hSw); go_simp) <;> with_reducible rfl)
              try simp only [Act.put, List.setIfInBounds_toArray, List.set_cons_zero, List.set_cons_succ]
              refine wpAnyH_take (i := 3) (oi := ?oiq4x4) (v := ?vq4x4) ?hiq4x4 (by kernel_rfl) (by kernel_rfl) (by kernel_rfl) ?hQq4x4 (Or.inl ⟨?hwq4x4, ?hyq4x4⟩) (by assumption) ?restq4x4
              case hiq4x4 => simp only [List.getElem?_toArray, List.getElem?_cons_succ, List.getElem?_cons_zero]; exact rfl
              case hQq4x4 => exact fun _ _ _ h => h
              case hwq4x4 => rfl
              case hyq4x4 => ((intro w hSw; (try dsimp only at hSw); go_simp) <;> with_reducible rfl)
              try simp only [Act.put, List.setIfInBounds_toArray, List.set_cons_zero, List.set_cons_succ]
              refine wpAnyH_take (i := 4) (oi := ?oiq4x5) (v := ?vq4x5) ?hiq4x5 (by kernel_rfl) (by kernel_rfl) (by kernel_rfl) ?hQq4x5 (Or.inl ⟨?hwq4x5, ?hyq4x5⟩) (by assumption) ?restq4x5
              case hiq4x5 => simp only [List.getElem?_toArray, List.getElem?_cons_succ, List.getElem?_cons_zero]; exact rfl
              case hQq4x5 => exact fun _ _ _ h => h
              case hwq4x5 => rfl
              case hyq4x5 => ((intro w hSw; (try dsimp only at hSw); go_simp) <;> with_reducible rfl)
              try simp only [Act.put, List.setIfInBounds_toArray, List.set_cons_zero, List.set_cons_succ]
              refine wpAnyH_take (i := 5) (oi := ?oiq4x6) (v := ?vq4x6) ?hiq4x6 (by kernel_rfl) (by kernel_rfl) (by kernel_rfl) ?hQq4x6 (Or.inl ⟨?hwq4x6, ?hyq4x6⟩) (by assumption) ?restq4x6
              case hiq4x6 => simp only [List.getElem?_toArray, List.getElem?_cons_succ, List.getElem?_cons_zero]; exact rfl
              case hQq4x6 => exact fun _ _ _ h => h
              case hwq4x6 => rfl
              case hyq4x6 => ((intro w hSw; (try dsimp only at hSw); go_simp) <;> with_reducible rfl)
              try simp only [Act.put, List.setIfInBounds_toArray, List.set_cons_zero, List.set_cons_succ]
              refine wpAnyH_take (i := 6) (oi := ?oiq4x7) (v := ?vq4x7) ?hiq4x7 (by kernel_rfl) (by kernel_rfl) (by kernel_rfl) ?hQq4x7 (Or.inl ⟨?hwq4x7, ?hyq4x7⟩) (by assumption) ?restq4x7
              case hiq4x7 => simp only [List.getElem?_toArray, List.getElem?_cons_succ, List.getElem?_cons_zero]; exact rfl
              case hQq4x7 => exact fun _ _ _ h => h
              case hwq4x7 => rfl
              case hyq4x7 => ((intro w hSw; (try dsimp only at hSw); go_simp) <;> with_reducible rfl)
              try simp only [Act.put, List.setIfInBounds_toArray, List.set_cons_zero, List.set_cons_succ]
              refine wpAnyH_take (i := 7) (oi := ?oiq4x8) (v := ?vq4x8) ?hiq4x8 (by kernel_rfl) (by kernel_rfl) (by kernel_rfl) ?hQq4x8 (Or.inl ⟨?hwq4x8, ?hyq4x8⟩) (by assumption) ?restq4x8
              case hiq4x8 => simp only [List.getElem?_toArray, List.getElem?_cons_succ, List.getElem?_cons_zero]; exact rfl
              case hQq4x8 => exact fun _ _ _ h => h
              case hwq4x8 => rfl
              case hyq4x8 => ((intro w hSw; (try dsimp only at hSw); go_simp) <;> with_reducible rfl)
              try simp only [Act.put, List.setIfInBounds_toArray, List.set_cons_zero, List.set_cons_succ]
              refine wpAnyH_take (i := 8) (oi := ?oiq4x9) (v := ?vq4x9) ?hiq4x9 (by kernel_rfl) (by kernel_rfl) (by kernel_rfl) ?hQq4x9 (Or.inl ⟨?hwq4x9, ?hyq4x9⟩) (by assumption) ?restq4x9
              case hiq4x9 => simp only [List.getElem?_toArray, List.getElem?_cons_succ, List.getElem?_cons_zero]; exact rfl
              case hQq4x9 => exact fun _ _ _ h => h
              case hwq4x9 => rfl
              case hyq4x9 => ((intro w hSw; (try dsimp only at hSw); go_simp) <;> with_reducible rfl)
              try simp only [Act.put, List.setIfInBounds_toArray, List.set_cons_zero, List.set_cons_succ]
              refine wpAnyH_take (i := 9) (oi := ?oiq4x10) (v := ?vq4x10) ?hiq4x10 (by kernel_rfl) (by kernel_rfl) (by kernel_rfl) ?hQq4x10 (Or.inl ⟨?hwq4x10, ?hyq4x10⟩) (by assumption) ?restq4x10
              case hiq4x10 => simp only [List.getElem?_toArray, List.getElem?_cons_succ, List.getElem?_cons_zero]; exact rfl
              case hQq4x10 => exact fun _ _ _ h => h
              case hwq4x10 => rfl
              case hyq4x10 => ((intro w hSw; (try dsimp only at hSw); go_simp) <;> with_reducible rfl)
              try simp only [Act.put, List.setIfInBounds_toArray, List.set_cons_zero, List.set_cons_succ]
              refine wpAnyH_take (i := 10) (oi := ?oiq4x11) (v := ?vq4x11) ?hiq4x11 (by kernel_rfl) (by kernel_rfl) (by kernel_rfl) ?hQq4x11 (Or.inl ⟨?hwq4x11, ?hyq4x11⟩) (by assumption) ?restq4x11
              case hiq4x11 => simp only [List.getElem?_toArray, List.getElem?_cons_succ, List.getElem?_cons_zero]; exact rfl
              case hQq4x11 => exact fun _ _ _ h => h
              case hwq4x11 => rfl
              case hyq4x11 => ((intro w hSw; (try dsimp only at hSw); go_simp) <;> with_reducible rfl)
              try simp only [Act.put, List.setIfInBounds_toArray, List.set_cons_zero, List.set_cons_succ]
              refine wpAnyH_take (i := 11) (oi := ?oiq4x12) (v := ?vq4x12) ?hiq4x12 (by kernel_rfl) (by kernel_rfl) (by kernel_rfl) ?hQq4x12 (Or.inl ⟨?hwq4x12, ?hyq4x12⟩) (by assumption) ?restq4x12
              case hiq4x12 => simp only [List.getElem?_toArray, List.getElem?_cons_succ, List.getElem?_cons_zero]; exact rfl
              case hQq4x12 => exact fun _ _ _ h => h
              case hwq4x12 => rfl
              case hyq4x12 => ((intro w hSw; (try dsimp only at hSw); go_simp) <;> with_reducible rfl)
              try simp only [Act.put, List.setIfInBounds_toArray, List.set_cons_zero, List.set_cons_succ]
              refine wpAnyH_take (i := 12) (oi := ?oiq4x13) (v := ?vq4x13) ?hiq4x13 (by kernel_rfl) (by kernel_rfl) (by kernel_rfl) ?hQq4x13 (Or.inl ⟨?hwq4x13, ?hyq4x13⟩) (by assumption) ?restq4x13
              case hiq4x13 => simp only [List.getElem?_toArray, List.getElem?_cons_succ, List.getElem?_cons_zero]; exact rfl
              case hQq4x13 => exact fun _ _ _ h => h
              case hwq4x13 => rfl
              case hyq4x13 => ((intro w hSw; (try dsimp only at hSw); go_simp) <;> with_reducible rfl)
              try simp only [Act.put, List.setIfInBounds_toArray, List.set_cons_zero, List.set_cons_succ]
              refine wpAnyH_take (i := 13) (oi := ?oiq4x14) (v := ?vq4x14) ?hiq4x14 (by kernel_rfl) (by kernel_rfl) (by kernel_rfl) ?hQq4x14 (Or.inl ⟨?hwq4x14, ?hyq4x14⟩) (by assumption) ?restq4x14
              case hiq4x14 => simp only [List.getElem?_toArray, List.getElem?_cons_succ, List.getElem?_cons_zero]; exact rfl
              case hQq4x14 => exact fun _ _ _ h => h
              case hwq4x14 => rfl
              case hyq4x14 => ((intro w hSw; (try dsimp only at hSw); go_simp) <;> with_reducible rfl)
              try simp only [Act.put, List.setIfInBounds_toArray, List.set_cons_zero, List.set_cons_succ]
              refine wpAnyH_take (i := 14) (oi := ?oiq4x15) (v := ?vq4x15) ?hiq4x15 (by kernel_rfl) (by kernel_rfl) (by kernel_rfl) ?hQq4x15 (Or.inl ⟨?hwq4x15, ?hyq4x15⟩) (by assumption) ?restq4x15
              case hiq4x15 => simp only [List.getElem?_toArray, List.getElem?_cons_succ, List.getElem?_cons_zero]; exact rfl
              case hQq4x15 => exact fun _ _ _ h => h
              case hwq4x15 => rfl
              case hyq4x15 => ((intro w hSw; (try dsimp only at hSw); go_simp) <;> with_reducible rfl)
              try simp only [Act.put, List.setIfInBounds_toArray, List.set_cons_zero, List.set_cons_succ]
              refine wpAnyH_take (i := 15) (oi := ?oiq4x16) (v := ?vq4x16) ?hiq4x16 (by kernel_rfl) (by kernel_rfl) (by kernel_rfl) ?hQq4x16 (Or.inl ⟨?hwq4x16, ?hyq4x16⟩) (by assumption) ?restq4x16
              case hiq4x16 => simp only [List.getElem?_toArray, List.getElem?_cons_succ, List.getElem?_cons_zero]; exact rfl
              case hQq4x16 => exact fun _ _ _ h => h
              case hwq4x16 => rfl
              case hyq4x16 => ((intro w hSw; (try dsimp only at hSw); go_simp) <;> with_reducible rfl)
              try simp only [Act.put, List.setIfInBounds_toArray, List.set_cons_zero, List.set_cons_succ]
              refine wpAnyH_take (i := 16) (oi := ?oiq4x17) (v := ?vq4x17) ?hiq4x17 (by kernel_rfl) (by kernel_rfl) (by kernel_rfl) ?hQq4x17 (Or.inl ⟨?hwq4x17, ?hyq4x17⟩) (by assumption) ?restq4x17
              case hiq4x17 => simp only [List.getElem?_toArray, List.getElem?_cons_succ, List.getElem?_cons_zero]; exact rfl
              case hQq4x17 => exact fun _ _ _ h => h
              case hwq4x17 => rfl
              case hyq4x17 => ((intro w hSw; (try dsimp only at hSw); go_simp) <;> with_reducible rfl)
              try simp only [Act.put, List.setIfInBounds_toArray, List.set_cons_zero, List.set_cons_succ]
              refine wpAnyH_take (i := 17) (oi := ?oiq4x18) (v := ?vq4x18) ?hiq4x18 (by kernel_rfl) (by kernel_rfl) (by kernel_rfl) ?hQq4x18 (Or.inl ⟨?hwq4x18, ?hyq4x18⟩) (by assumption) ?restq4x18
              case hiq4x18 => simp only [List.getElem?_toArray, List.getElem?_cons_succ, List.getElem?_cons_zero]; exact rfl
              case hQq4x18 => exact fun _ _ _ h => h
              case hwq4x18 => rfl
              case hyq4x18 => ((intro w hSw; (try dsimp only at hSw); go_simp) <;> with_reducible rfl)
              try simp only [Act.put, List.setIfInBounds_toArray, List.set_cons_zero, List.set_cons_succ]
              refine wpAnyH_take (i := 18) (oi := ?oiq4x19) (v := ?vq4x19) ?hiq4x19 (by kernel_rfl) (by kernel_rfl) (by kernel_rfl) ?hQq4x19 (Or.inl ⟨?hwq4x19, ?hyq4x19⟩) (by assumption) ?restq4x19
              case hiq4x19 => simp only [List.getElem?_toArray, List.getElem?_cons_succ, List.getElem?_cons_zero]; exact rfl
              case hQq4x19 => exact fun _ _ _ h => h
              case hwq4x19 => rfl
              case hyq4x19 => ((intro w hSw; (try dsimp only at hSw); go_simp) <;> with_reducible rfl)
              try simp only [Act.put, List.setIfInBounds_toArray, List.set_cons_zero, List.set_cons_succ]
              refine wpAnyH_take (i := 19) (oi := ?oiq4x20) (v := ?vq4x20) ?hiq4x20 (by kernel_rfl) (by kernel_rfl) (by kernel_rfl) ?hQq4x20 (Or.inl ⟨?hwq4x20, ?hyq4x20⟩) (by assumption) ?restq4x20
              case hiq4x20 => simp only [List.getElem?_toArray, List.getElem?_cons_succ, List.getElem?_cons_zero]; exact rfl
              case hQq4x20 => exact fun _ _ _ h => h
              case hwq4x20 => rfl
              case hyq4x20 => ((intro w hSw; (try dsimp only at hSw); go_simp) <;> with_reducible rfl)
              try simp only [Act.put, List.setIfInBounds_toArray, List.set_cons_zero, List.set_cons_succ]
              refine wpAnyH_take (i := 20) (oi := ?oiq4x21) (v := ?vq4x21) ?hiq4x21 (by kernel_rfl) (by kernel_rfl) (by kernel_rfl) ?hQq4x21 (Or.inl ⟨?hwq4x21, ?hyq4x21⟩) (by assumption) ?restq4x21
              case hiq4x21 => simp only [List.getElem?_toArray, List.getElem?_cons_succ, List.getElem?_cons_zero]; exact rfl
              case hQq4x21 => exact fun _ _ _ h => h
              case hwq4x21 => rfl
              case hyq4x21 => ((intro w hSw; (try dsimp only at hSw); go_simp) <;> with_reducible rfl)
              try simp only [Act.put, List.setIfInBounds_toArray, List.set_cons_zero, List.set_cons_succ]
              refine wpAnyH_take (i := 21) (oi := ?oiq4x22) (v := ?vq4x22) ?hiq4x22 (by kernel_rfl) (by kernel_rfl) (by kernel_rfl) ?hQq4x22 (Or.inl ⟨?hwq4x22, ?hyq4x22⟩) (by assumption) ?restq4x22
              case hiq4x22 => simp only [List.getElem?_toArray, List.getElem?_cons_succ, List.getElem?_cons_zero]; exact rfl
              case hQq4x22 => exact fun _ _ _ h => h
              case hwq4x22 => rfl
              case hyq4x22 => ((intro w hSw; (try dsimp only at hSw); go_simp) <;> with_reducible rfl)
              try simp only [Act.put, List.setIfInBounds_toArray, List.set_cons_zero, List.set_cons_succ]
              refine wpAnyH_take (i := 22) (oi := ?oiq4x23) (v := ?vq4x23) ?hiq4x23 (by kernel_rfl) (by kernel_rfl) (by kernel_rfl) ?hQq4x23 (Or.inl ⟨?hwq4x23, ?hyq4x23⟩) (by assumption) ?restq4x23
              case hiq4x23 => simp only [List.getElem?_toArray, List.getElem?_cons_succ, List.getElem?_cons_zero]; exact rfl
              case hQq4x23 => exact fun _ _ _ h => h
              case hwq4x23 => rfl
              case hyq4x23 => ((intro w hSw; (try dsimp only at hSw); go_simp) <;> with_reducible rfl)
              try simp only [Act.put, List.setIfInBounds_toArray, List.set_cons_zero, List.set_cons_succ]
              refine wpAnyH_take (i := 23) (oi := ?oiq4x24) (v := ?vq4x24) ?hiq4x24 (by kernel_rfl) (by kernel_rfl) (by kernel_rfl) ?hQq4x24 (Or.inl ⟨?hwq4x24, ?hyq4x24⟩) (by assumption) ?restq4x24
              case hiq4x24 => simp only [List.getElem?_toArray, List.getElem?_cons_succ, List.getElem?_cons_zero]; exact rfl
              case hQq4x24 => exact fun _ _ _ h => h
              case hwq4x24 => rfl
              case hyq4x24 => ((intro w hSw; (try dsimp only at hSw); go_simp) <;> with_reducible rfl)
              try simp only [Act.put, List.setIfInBounds_toArray, List.set_cons_zero, List.set_cons_succ]
              refine wpAnyH_done (by kernel_rfl) ?_ _
              have hBz := HBL.out.trans (hHeld.1.mono HBL.out.size)
              clear hHeld
              go_wp2_with fail
              go_ret
              exact ⟨by rw [HV.out]; first | rfl | (rw [← decide_not]; congr 2; simp) | (simp; omega), hBz⟩
    · have H2 := Lib.hid h2
      rw [h2]
      rintro e w2 ⟨rfl, hb2⟩
      have hb2 := hb1.trans (hb2.mono hb1.size)
      clear h2 k1
      go_wp2_with fail
      go_ret
      exact ⟨by rw [HC.out, H1.out, H2.out]; rfl, hb2⟩
  · have H1 := Lib.hid h1
    rw [h1]
    rintro e w1 ⟨rfl, hb1⟩
    have hb1 := hb0.trans (hb1.mono hb0.size)
    clear h1 k0
    go_wp2_with fail
    go_ret
    exact ⟨by rw [HC.out, H1.out]; rfl, hb1⟩
theorem spec_BookOk (a1 : Addr) (n c : Nat) (a2 : Addr) (m d : Nat) (za zb : List Int) (w : World) (ha : Lst w w.heap.size 4 (some a1) n za) (hb : Lst w w.heap.size 4 (some a2) m zb) (hn : n ≤ 1048576) (hm : m ≤ 1048576) :
    Calls Try.prog 81 #[.agg #[.slice (some a1) n c, .slice (some a2) m d]] w fun e w' => e = .returned (.bool (bookB za n zb m)) ∧ Below w.heap.size w w' :=
  spec_BookOkO (some a1) n c (some a2) m d za zb w ha hb hn hm (fun e => by cases e) (fun e => by cases e)
end Go.Proofs.Ytempggikcpminaa
