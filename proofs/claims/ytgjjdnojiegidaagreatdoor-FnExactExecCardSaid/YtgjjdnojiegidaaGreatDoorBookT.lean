/-
 Finding an order by its number, and which books are right: the specification's.
-/
import Derived.Test.YtgjjdnojiegidaaGreatDoorTak
import Derived.Test.YtgjjdnojiegidaaGreatDoorBookS
import Derived.Test.YtgjjdnojiegidaaGreatDoorOrd
import Derived.Laws.AppendOwn
namespace Go.Proofs.YtgjjdnojiegidaaGreatDoor
open Go.RowKit Wire
set_option maxHeartbeats 3200000
set_option maxRecDepth 100000
set_option linter.unusedSimpArgs false

theorem seenB_iff (f : Nat → Int) (x : Int) : ∀ k, seenB f x k = true ↔ ∃ j, j < k ∧ f j = x
 | 0 => by simp [seenB]
 | k + 1 => by
  rw [seenB, Bool.or_eq_true, seenB_iff f x k]
  constructor
  · rintro (⟨j, h1, h2⟩ | h)
    · exact ⟨j, by omega, h2⟩
    · exact ⟨k, by omega, by simpa using h⟩
  · rintro ⟨j, h1, h2⟩
    rcases Nat.lt_or_ge j k with h | h
    · exact .inl ⟨j, h, h2⟩
    · obtain rfl : j = k := by omega
      exact .inr (by simpa using h2)
def AtRel (f : Nat → Int) (x : Int) (n : Nat) (z : Int) : Prop :=
 (z = -1 ∧ ∀ k, k < n → f k ≠ x) ∨ (∃ k : Nat, k < n ∧ z = (k : Int) ∧ f k = x ∧ ∀ j, j < k → f j ≠ x)
theorem AtRel.one {f : Nat → Int} {x : Int} {n : Nat} {z y : Int} (h : AtRel f x n z) (k : AtRel f x n y) : z = y := by
 rcases h with ⟨h0, h1⟩ | ⟨K, h0, h1, h2, h3⟩ <;> rcases k with ⟨k0, k1⟩ | ⟨L, k0, k1, k2, k3⟩
 · omega
 · exact absurd k2 (h1 L k0)
 · exact absurd h2 (k1 K h0)
 · rcases Nat.lt_trichotomy K L with h | h | h
   · exact absurd h2 (k3 K h)
   · omega
   · exact absurd k2 (h3 L h)
theorem AtRel.self {f : Nat → Int} {i n : Nat} {z : Int} (h : AtRel f (f i) n z) (hi : i < n) : (z = (i : Int)) ↔ seenB f (f i) i = false := by
 have hs := seenB_iff f (f i) i
 rcases h with ⟨h0, h1⟩ | ⟨K, h0, h1, h2, h3⟩
 · exact absurd rfl (h1 i hi)
 · constructor
   · intro e
     obtain rfl : K = i := by omega
     cases hb : seenB f (f K) K with
     | false => rfl
     | true =>
      obtain ⟨j, hj, e2⟩ := hs.1 hb
      exact absurd e2 (h3 j hj)
   · intro hb
     rcases Nat.lt_trichotomy K i with h | h | h
     · rw [hs.2 ⟨K, h, h2⟩] at hb; cases hb
     · omega
     · exact absurd rfl (h3 i h)
def idN (zs : List Int) (k : Nat) : Int := num zs (k * 4)
theorem idN_append {za zb : List Int} {n : Nat} (h : za.length = n * 4) (k : Nat) : idN (za ++ zb) k = idA za n zb k := by
 unfold idN idA
 split
 · unfold num
   rw [List.getD_eq_getElem?_getD, List.getD_eq_getElem?_getD, List.getElem?_append_left (by omega)]
 · unfold num
   rw [List.getD_eq_getElem?_getD, List.getD_eq_getElem?_getD, List.getElem?_append_right (by omega)]
   congr 2
   omega
theorem seenB_congr {f g : Nat → Int} (x : Int) : ∀ k, (∀ j, j < k → f j = g j) → seenB f x k = seenB g x k
 | 0, _ => rfl
 | k + 1, h => by rw [seenB, seenB, seenB_congr x k (fun j hj => h j (by omega)), h k (by omega)]
theorem distB_congr {f g : Nat → Int} : ∀ k, (∀ j, j < k → f j = g j) → distB f k = distB g k
 | 0, _ => rfl
 | k + 1, h => by rw [distB, distB, distB_congr k (fun j hj => h j (by omega)), h k (by omega), seenB_congr _ k (fun j hj => h j (by omega))]
theorem Lst.news {w : World} {X sz n : Nat} {a : Addr} {zs : List Int} (h : Lst w X sz (some a) n zs) : ∀ j u, (nums zs)[j]? = some u → w.cell? (a.add j) = some u := by
 intro j u hj
 have hl : j < zs.length := by
  have := (List.getElem?_eq_some_iff.1 hj).1
  rwa [nums_length] at this
 rw [nums_get hl] at hj
 injection hj with hj
 subst hj
 have hn : 0 < n := by
  rcases Nat.eq_zero_or_pos n with h0 | h0
  · rw [h.1, h0] at hl; omega
  · exact h0
 obtain ⟨b, o, e, _, hc⟩ := h.2 hn
 injection e with e
 subst e
 have hadd : (⟨b, o, none⟩ : Addr).add j = ⟨b, o + j, none⟩ := by unfold Addr.add; split <;> simp_all
 rw [hadd]
 exact hc j (by rw [← h.1]; exact hl)
theorem Lst.newsO {w : World} {X sz n : Nat} {A : Option Addr} {zs : List Int} (h : Lst w X sz A n zs) : ∀ ad, A = some ad → ∀ j u, (nums zs)[j]? = some u → w.cell? (ad.add j) = some u := fun ad e => by
 subst e
 exact h.news
section
variable {P : Program} (w : World)
theorem step_append_own {ops : Array Oper} {o : Oper} {a : Act} {K : Act → World → Prop} {Q : Exit → Act → World → Prop} {E : Prop} (hgd : o.guard = none) (s x : Operand) (t : TypeId)
 (ho : o.op = .call { callee := .builtin .append, args := #[s, x], argTypes := #[t, t] })
 (base : Nat) (e : TypeId) (i : TypeInfo) (z : Value) (size bytes : Nat) (ht : P.underlying t = some (.slice e)) (hi : P.info? e = some i) (hz : i.zero = some z)
 (hsize : i.size = size) (hby : i.bytes = bytes) (hzs : z.cells.size = size) (hsz : 0 < size)
 (v : Value) (n : Nat) (xs : List Value) (hs : a.eval s = v) (hown : w.ownsRow base e size v n xs)
 (ad : Addr) (m c : Nat) (news : List Value) (hx : a.eval x = .slice (some ad) m c) (hl : news.length = m * size) (hnews : ∀ j u, news[j]? = some u → w.cell? (ad.add j) = some u) (h1 : ∀ u ∈ news, u.oneCell' = true)
 (h63 : n + m ≤ maxLen) (hbytes : (n + m) * bytes ≤ 140737488355328) (hbase : base ≤ w.heap.size)
 (h : ∀ v' w', w'.ownsRow base e size v' (n + m) (xs ++ news) → w.grownBy w' v.ownBlock → (v' = .slice none 0 0 ↔ v = .slice none 0 0 ∧ m = 0) → K (a.put o.dst v') w') :
 if Region.wanted o (yielded ops a.tmps) = true then Oper.wp P o a w K Q else E := by
 have hw : Region.wanted o (yielded ops a.tmps) = true := by simp [Region.wanted, hgd]
 rw [if_pos hw]
 exact wp_append_own w s x t ho base e i z size bytes ht hi hz hsize hby hzs hsz v n xs hs hown ad m c news hx hl hnews h1 h63 hbytes hbase h
variable {m c : Nat} in
theorem step_append_ownO {ops : Array Oper} {o : Oper} {a : Act} {K : Act → World → Prop} {Q : Exit → Act → World → Prop} {E : Prop} (hgd : o.guard = none) (s x : Operand) (t : TypeId)
 (ho : o.op = .call { callee := .builtin .append, args := #[s, x], argTypes := #[t, t] })
 (base : Nat) (e : TypeId) (i : TypeInfo) (z : Value) (size bytes : Nat) (ht : P.underlying t = some (.slice e)) (hi : P.info? e = some i) (hz : i.zero = some z)
 (hsize : i.size = size) (hby : i.bytes = bytes) (hzs : z.cells.size = size) (hsz : 0 < size)
 (v : Value) (n : Nat) (xs : List Value) (hs : a.eval s = v) (hown : w.ownsRow base e size v n xs)
 (A : Option Addr) (hA : A = none → m = 0 ∧ c = 0) (news : List Value) (hx : a.eval x = .slice A m c) (hl : news.length = m * size) (hnews : ∀ ad, A = some ad → ∀ j u, news[j]? = some u → w.cell? (ad.add j) = some u) (h1 : ∀ u ∈ news, u.oneCell' = true)
 (h63 : n + m ≤ maxLen) (hbytes : (n + m) * bytes ≤ 140737488355328) (hbase : base ≤ w.heap.size)
 (h : ∀ v' w', w'.ownsRow base e size v' (n + m) (xs ++ news) → w.grownBy w' v.ownBlock → K (a.put o.dst v') w') :
 if Region.wanted o (yielded ops a.tmps) = true then Oper.wp P o a w K Q else E := by
 have hw : Region.wanted o (yielded ops a.tmps) = true := by simp [Region.wanted, hgd]
 rw [if_pos hw]
 cases A with
 | some ad => exact wp_append_own w s x t ho base e i z size bytes ht hi hz hsize hby hzs hsz v n xs hs hown ad m c news hx hl (hnews ad rfl) h1 h63 hbytes hbase fun v' w' h2 h3 _ => h v' w' h2 h3
 | none =>
  obtain ⟨rfl, rfl⟩ := hA rfl
  have hr := run_append_owned_none (P := P) (w := w) base t o.type e i size ht hi v n xs hown
  have e0 : news = [] := List.eq_nil_of_length_eq_zero (by rw [hl]; omega)
  subst e0
  unfold Oper.wp execOp
  simp only [ho, resolve, invoke, builtin, Sem.run_bind, Sem.run_pure, Result.andThen_ok, List.map_toArray, List.map_cons, List.map_nil, hs, hx, hr]
  exact h v w (by simpa using hown) (World.grownBy.refl _ _)
end
theorem spec_l2At (A : Option Addr) (n c : Nat) (zs : List Int) (x : Int) (w : World) (hl : Lst w w.heap.size 4 A n zs) (hn : n ≤ 1048576) :
 Calls Tryz.prog 33 #[.slice A n c, .int .i64 x] w fun e w' => (∃ z, AtRel (idN zs) x n z ∧ e = .returned (.int .i64 z)) ∧ Below w.heap.size w w' := by
 go_enter Tryz.func33, Tryz.ntmps33
 go_wp2_with fail
 go_loopw [5] (fun i wr => ∃ k : Nat, k ≤ n ∧ i = .int .i64 (k : Int) ∧ (∀ j, j < k → idN zs j ≠ x) ∧ Below w.heap.size w wr) (fun i _ => n - (intOf i).toNat)
 case atStart => exact ⟨0, Nat.zero_le _, rfl, fun j hj => absurd hj (Nat.not_lt_zero j), Below.refl _ _⟩
 case round =>
  obtain ⟨k, hk, rfl, hno, hbel⟩ := hrel
  have HN := Lib.hid hno
  clear hno
  by_cases hlt : k < n
  · obtain ⟨b, o, rfl, hb, c0, _, _, _⟩ := (hl.below hbel).row4 hlt
    have HQ := Lib.hid (show idN zs k = num zs (k * 4) from rfl)
    generalize num zs (k * 4) = y at *
    rcases Bool.eq_false_or_eq_true (y == x) with hyx | hyx
    · have HX := Lib.hid (beq_iff_eq.1 hyx)
      go_wp2_with fail
      go_ret
      exact ⟨⟨_, .inr ⟨k, hlt, rfl, HQ.out.trans HX.out, HN.out⟩, rfl⟩, hbel⟩
    · have HX : Hid (y ≠ x) := Lib.hid (by simpa using hyx)
      go_wp2_with fail
      go_roundw
      case rel => exact ⟨k + 1, by omega, by go_num, fun j hj => by
       rcases Nat.lt_or_ge j k with h | h
       · exact HN.out j h
       · obtain rfl : j = k := by omega
         rw [HQ.out]
         exact HX.out, hbel⟩
      case measure => simp [intOf]; omega
  · obtain rfl : k = n := by omega
    go_wp2_with fail
    go_ret
    exact ⟨⟨-1, .inl ⟨rfl, HN.out⟩, rfl⟩, hbel⟩
theorem spec_BookOkO (A1 : Option Addr) (n c : Nat) (A2 : Option Addr) (m d : Nat) (za zb : List Int) (w : World) (ha : Lst w w.heap.size 4 A1 n za) (hb : Lst w w.heap.size 4 A2 m zb) (hn : n ≤ 1048576) (hm : m ≤ 1048576) (hA1 : A1 = none → n = 0 ∧ c = 0) (hA2 : A2 = none → m = 0 ∧ d = 0) :
 Calls Tryz.prog 16 #[.agg #[.slice A1 n c, .slice A2 m d]] w fun e w' => e = .returned (.bool (bookB za n zb m)) ∧ Below w.heap.size w w' := by
 obtain ⟨i0, hi, hz0, hz1, hz2⟩ := info_parts ord_info
 have hb0 : Below w.heap.size w (w.alloc (.cells #[.slice A1 n c, .slice A2 m d] 30)) := (Below.refl _ _).alloc (Nat.le_refl _) _
 have k0 : (w.alloc (.cells #[.slice A1 n c, .slice A2 m d] 30)).heap[w.heap.size]? = some (.cells #[.slice A1 n c, .slice A2 m d] 30 (0, 0)) := heap_alloc_new w _
 have hs0 : w.heap.size < (w.alloc (.cells #[.slice A1 n c, .slice A2 m d] 30)).heap.size := by simp
 have HC := Lib.hid (show bookB za n zb m = (sideB 1 za n && (sideB 2 zb m && (!crossB za n zb m && distB (idA za n zb) (n + m)))) from rfl)
 have HA := Lib.hid (show sideB 1 za n = true → n ≤ 20 ∧ allO za n = true from fun h => by unfold sideB at h; simp only [Bool.and_eq_true, decide_eq_true_eq] at h; exact ⟨h.1, h.2.1⟩)
 have HB := Lib.hid (show sideB 2 zb m = true → m ≤ 20 ∧ allO zb m = true from fun h => by unfold sideB at h; simp only [Bool.and_eq_true, decide_eq_true_eq] at h; exact ⟨h.1, h.2.1⟩)
 have HX := Lib.hid (show crossB za n zb m = (decide (0 < n) && (decide (0 < m) && decide (price zb 0 ≤ price za 0))) from rfl)
 go_enter Tryz.func16, Tryz.ntmps16
 go_wp2_with fail
 generalize (w.alloc (.cells #[.slice A1 n c, .slice A2 m d] 30)) = w0 at *
 refine (spec_l2Side A1 n c za 1 w0 ((ha.below hb0).more hb0.size) hn).mono ?_
 rcases Bool.eq_false_or_eq_true (sideB 1 za n) with h1 | h1
 · have H1 := Lib.hid h1
   rw [h1]
   rintro e w1 ⟨rfl, hb1⟩
   have k1 := (hb1.block w.heap.size hs0).trans k0
   have x0 := cell_of_row w1 w.heap.size 0 _ _ (0, 0) k1
   have x1 := cell_of_row w1 w.heap.size 1 _ _ (0, 0) k1
   simp at x0 x1
   have hs1 := hb1.size
   have hb1 := hb0.trans (hb1.mono hb0.size)
   clear k0 hb0 h1
   go_wp2_with fail
   refine (spec_l2Side A2 m d zb 2 w1 ((hb.below hb1).more hb1.size) hm).mono ?_
   rcases Bool.eq_false_or_eq_true (sideB 2 zb m) with h2 | h2
   · have H2 := Lib.hid h2
     rw [h2]
     rintro e w2 ⟨rfl, hb2⟩
     have k2 := (hb2.block w.heap.size (by omega)).trans k1
     have y0 := cell_of_row w2 w.heap.size 0 _ _ (0, 0) k2
     have y1 := cell_of_row w2 w.heap.size 1 _ _ (0, 0) k2
     simp at y0 y1
     have hs2 := hb2.size
     have hb2 := hb1.trans (hb2.mono hb1.size)
     have ha2 := (ha.below hb2).more hb2.size
     have hbb2 := (hb.below hb2).more hb2.size
     have hn20 := (HA.out H1.out).1
     have hm20 := (HB.out H2.out).1
     clear k1 hb1 h2 x0 x1 ha hb
     have hown0 : (w2.alloc (.cells #[] 65)).drew.ownsRow w2.heap.size 65 4 (.slice (some ⟨w2.heap.size, 0, none⟩) 0 0) 0 [] := ⟨rfl, .inr ⟨w2.heap.size, 0, #[], rfl, Nat.le_refl _, heap_alloc_new w2 _, Nat.le_refl _, Nat.zero_le _, rfl, rfl⟩⟩
     have hba2 : Below w2.heap.size w2 (w2.alloc (.cells #[] 65)) := (Below.refl _ _).alloc (Nat.le_refl _) _
     have q0 := (hba2.cell (p := ⟨w.heap.size, 0, none⟩) (show w.heap.size < w2.heap.size by omega)).trans y0
     have q1 := (hba2.cell (p := ⟨w.heap.size, 1, none⟩) (show w.heap.size < w2.heap.size by omega)).trans y1
     go_upto_region 3 with fail
     refine wp_region_held_drew (S := (fun w' => Below w2.heap.size w2 w' ∧ w'.cell? ⟨w.heap.size, 0, none⟩ = some (.slice A1 n c) ∧ w'.cell? ⟨w.heap.size, 1, none⟩ = some (.slice A2 m d))) (by kernel_rfl) ?hSq1xs (fun zH => ?restq1xs)
     case hSq1xs => (exact kp2)
     refine tkV 1 ?_
     refine tkV 2 ?_
     refine tkV 4 ?_
     refine tkV 5 ?_
     refine rd1 0 (fun K hK => ?_)
     go_simp
     skip
     refine hK.out _ _ ?hSq1x5 (fun zH => ?restq1x5)
     case hSq1x5 => (exact kp2)
     clear hK K
     try simp only [Act.put, sA, sB, sC]
     refine rd1 3 (fun K hK => ?_)
     (refine step_append_ownO _ rfl _ _ 28 rfl w2.heap.size 65 i0 _ 4 32 Tryz.underlying28 hi hz0 hz1 hz2 rfl (by decide) _ 0 [] rfl hown0 A1 hA1 (nums za) rfl (by rw [nums_length]; exact ha2.1) ((ha2.below zH.1).newsO) (nums_one _) (by unfold maxLen; omega) (by omega) (zH.1.size) ?_; intro v1 wq1 hown1 hgrow1; have hbq1 := zH.1.grown hgrow1 (zH.1.size) (fun q hq => (hown0.lt q hq).1))
     rw [Nat.zero_add, List.nil_append] at hown1
     refine hK.out _ _ ?hSq1x6 (fun zH => ?restq1x6)
     case hSq1x6 => (exact kp2)
     clear hK K
     try simp only [Act.put, sA, sB, sC]
     refine rd1 6 (fun K hK => ?_)
     (refine step_append_ownO _ rfl _ _ 28 rfl w2.heap.size 65 i0 _ 4 32 Tryz.underlying28 hi hz0 hz1 hz2 rfl (by decide) _ n (nums za) rfl hown1 A2 hA2 (nums zb) rfl (by rw [nums_length]; exact hbb2.1) ((hbb2.below zH.1).newsO) (nums_one _) (by unfold maxLen; omega) (by omega) (zH.1.size) ?_; intro v2 wq2 hown2 hgrow2; have hbq2 := zH.1.grown hgrow2 (zH.1.size) (fun q hq => (hown1.lt q hq).1))
     refine hK.out _ _ ?hSq1x7 (fun zH => ?restq1x7)
     case hSq1x7 => (exact kp2)
     clear hK K
     try simp only [Act.put, sA, sB, sC]
     refine tkV 7 ?_
     refine dn1 ?_
     rw [← nums_append] at hown2
     obtain ⟨A3, c3, rfl, _, _⟩ := oSl hown2
     have hL3 := Lst.of_own hown2
     have HBQ := Lib.hid zH.1
     have hbel0 := hb2.trans (zH.1.mono hb2.size)
     have z0 := zH.2.1
     have z1 := zH.2.2
     have hwq : w.heap.size < wq2.heap.size := by have := zH.1.size; omega
     have HDe := Lib.hid (show distB (idA za n zb) (n + m) = distB (idN (za ++ zb)) (n + m) from distB_congr _ (fun j _ => (idN_append ha2.1 j).symm))
     clear zH hown2 hgrow2 hgrow1 hown1 hown0 hba2 q0 q1 hbq1 hbq2 y0 y1 k2
     go_wp2_with fail
     go_loopw [4] (fun i wr => ∃ k : Nat, k ≤ n + m ∧ i = .int .i64 (k : Int) ∧ distB (idN (za ++ zb)) k = true ∧ Below w.heap.size w wr ∧ Below wq2.heap.size wq2 wr) (fun i _ => n + m - (intOf i).toNat)
     case atStart => exact ⟨0, Nat.zero_le _, rfl, rfl, hbel0, Below.refl _ _⟩
     case round =>
      obtain ⟨k, hk, rfl, hdist, hbel, hbq⟩ := hrel
      have HD := Lib.hid hdist
      have r0 := (hbq.cell (p := ⟨w.heap.size, 0, none⟩) hwq).trans z0
      have r1 := (hbq.cell (p := ⟨w.heap.size, 1, none⟩) hwq).trans z1
      clear hdist z0 z1 hbel0
      by_cases hlt : k < n + m
      · obtain ⟨b, o, rfl, hbo, c0, _, _, _⟩ := (hL3.below hbq).row4 hlt
        have HDS := Lib.hid (show distB (idN (za ++ zb)) (k + 1) = (distB (idN (za ++ zb)) k && !seenB (idN (za ++ zb)) (idN (za ++ zb) k) k) from rfl)
        go_wp2_with fail
        refine (spec_l2At (some ⟨b, o, none⟩) (n + m) c3 (za ++ zb) (num (za ++ zb) (k * 4)) wr ((hL3.below hbq).more hbq.size) (by omega)).mono ?_
        rintro e wz ⟨⟨z, hz, rfl⟩, hbz⟩
        have hself : (z = (k : Int)) ↔ seenB (idN (za ++ zb)) (idN (za ++ zb) k) k = false := AtRel.self hz hlt
        have hbel := hbel.trans (hbz.mono hbel.size)
        have hbq := hbq.trans (hbz.mono hbq.size)
        clear hbz hz
        rcases Bool.eq_false_or_eq_true (seenB (idN (za ++ zb)) (idN (za ++ zb) k) k) with hseen | hseen
        · have hne : (z != (k : Int)) = true := by
           simp only [bne_iff_ne, ne_eq]
           intro e
           rw [hself.1 e] at hseen
           cases hseen
          have HN := Lib.hid (show distB (idN (za ++ zb)) (n + m) = false from distB_no hseen (n + m) hlt)
          clear hseen hself
          go_wp2_with fail
          go_ret
          exact ⟨by rw [HC.out, H1.out, H2.out, HDe.out, HN.out, Bool.and_false]; rfl, hbel⟩
        · obtain rfl := hself.2 hseen
          have HQ := Lib.hid hseen
          clear hseen hself
          go_wp2_with fail
          go_roundw
          case rel => exact ⟨k + 1, by omega, by go_num, by rw [HDS.out, HD.out, HQ.out]; rfl, hbel, hbq⟩
          case measure => simp [intOf]; omega
      · obtain rfl : k = n + m := by omega
        have HR := Lib.hid (show bookB za n zb m = !crossB za n zb m from by rw [HC.out, H1.out, H2.out, HDe.out, HD.out]; simp)
        have haz := (ha2.below ((show Below w2.heap.size w2 wq2 from HBQ.out).trans (hbq.mono HBQ.out.size))).more (Nat.le_trans HBQ.out.size hbq.size)
        have hbz := (hbb2.below ((show Below w2.heap.size w2 wq2 from HBQ.out).trans (hbq.mono HBQ.out.size))).more (Nat.le_trans HBQ.out.size hbq.size)
        have HBL := Lib.hid hbel
        clear ha2 hbb2 hL3 hbq hbel HBQ
        go_upto_region 9 with fail
        rcases Nat.eq_zero_or_pos n with rfl | hn0
        · clear haz hbz
          skip
          refine wp_region_held_drew (S := (fun w' => Below wr.heap.size wr w' ∧ w'.cell? ⟨w.heap.size, 0, none⟩ = some (.slice A1 0 c) ∧ w'.cell? ⟨w.heap.size, 1, none⟩ = some (.slice A2 m d))) (by kernel_rfl) ?hSq2xs (fun zH => ?restq2xs)
          case hSq2xs => (exact kp2)
          refine tkV 0 ?_
          refine tkV 1 ?_
          refine tkV 2 ?_
          refine tkV 3 ?_
          refine tkV 4 ?_
          refine hdN 5 ?_
          refine hdN 6 ?_
          refine hdN 7 ?_
          refine hdN 8 ?_
          refine tkV 9 ?_
          refine tkV 10 ?_
          refine hdN 11 ?_
          refine hdN 12 ?_
          refine hdN 13 ?_
          refine hdN 14 ?_
          refine hdN 15 ?_
          refine hdN 16 ?_
          refine hdN 17 ?_
          refine hdN 18 ?_
          refine hdN 19 ?_
          refine hdN 20 ?_
          refine hdN 21 ?_
          refine tkV 22 ?_
          refine tkV 23 ?_
          refine dn1 ?_
          have hBz := HBL.out.trans (zH.1.mono HBL.out.size)
          clear zH
          go_wp2_with fail
          go_ret
          exact ⟨by rw [HR.out, HX.out]; rfl, hBz⟩
        · have n1 : ((n : Int) == 0) = false := beq_eq_false_iff_ne.2 (by omega)
          have n2 : n ≠ 0 := by omega
          rcases Nat.eq_zero_or_pos m with rfl | hm0
          · clear haz hbz
            skip
            refine wp_region_held_drew (S := (fun w' => Below wr.heap.size wr w' ∧ w'.cell? ⟨w.heap.size, 0, none⟩ = some (.slice A1 n c) ∧ w'.cell? ⟨w.heap.size, 1, none⟩ = some (.slice A2 0 d))) (by kernel_rfl) ?hSq3xs (fun zH => ?restq3xs)
            case hSq3xs => (exact kp2)
            refine tkV 0 ?_
            refine tkV 1 ?_
            refine tkV 2 ?_
            refine tkV 3 ?_
            refine tkV 4 ?_
            refine tkV 5 ?_
            refine tkV 6 ?_
            refine tkV 7 ?_
            refine tkV 8 ?_
            refine tkV 9 ?_
            refine tkV 10 ?_
            refine hdN 11 ?_
            refine hdN 12 ?_
            refine hdN 13 ?_
            refine hdN 14 ?_
            refine hdN 15 ?_
            refine hdN 16 ?_
            refine hdN 17 ?_
            refine hdN 18 ?_
            refine hdN 19 ?_
            refine hdN 20 ?_
            refine hdN 21 ?_
            refine tkV 22 ?_
            refine tkV 23 ?_
            refine dn1 ?_
            have hBz := HBL.out.trans (zH.1.mono HBL.out.size)
            clear zH
            go_wp2_with fail
            go_ret
            exact ⟨by rw [HR.out, HX.out, decide_eq_true hn0]; rfl, hBz⟩
          · have m1 : ((m : Int) == 0) = false := beq_eq_false_iff_ne.2 (by omega)
            have m2 : m ≠ 0 := by omega
            have n3 : (0 : Int) < (n : Int) := by omega
            have m3 : (0 : Int) < (m : Int) := by omega
            obtain ⟨b, o, e1, hlb, _, _, c2, _⟩ := haz.row4 hn0
            obtain ⟨b', o', e2, hlb', _, _, d2, _⟩ := hbz.row4 hm0
            subst e1 e2
            have HV := Lib.hid (show bookB za n zb m = !decide (price zb 0 ≤ price za 0) from by rw [HR.out, HX.out, decide_eq_true hn0, decide_eq_true hm0]; rfl)
            have HPa : num za (0 * 4 + 2) = price za 0 := rfl
            have HPb : num zb (0 * 4 + 2) = price zb 0 := rfl
            rw [HPa] at c2
            rw [HPb] at d2
            clear haz hbz HX HR HPa HPb
            simp at c2 d2
            generalize price za 0 = pa at *
            generalize price zb 0 = pb at *
            refine wp_region_held_drew (S := (fun w' => Below wr.heap.size wr w' ∧ w'.cell? ⟨w.heap.size, 0, none⟩ = some (.slice (some ⟨b, o, none⟩) n c) ∧ w'.cell? ⟨w.heap.size, 1, none⟩ = some (.slice (some ⟨b', o', none⟩) m d) ∧ w'.cell? ⟨b, o + 2, none⟩ = some (.int .i64 pa) ∧ w'.cell? ⟨b', o' + 2, none⟩ = some (.int .i64 pb))) (by kernel_rfl) ?hSq4xs (fun zH => ?restq4xs)
            case hSq4xs => (exact kp2)
            refine tkV 0 ?_
            refine tkV 1 ?_
            refine tkV 2 ?_
            refine tkV 3 ?_
            refine tkV 4 ?_
            refine tkV 5 ?_
            refine tkV 6 ?_
            refine tkV 7 ?_
            refine tkV 8 ?_
            refine tkV 9 ?_
            refine tkV 10 ?_
            refine tkV 11 ?_
            refine tkV 12 ?_
            refine tkV 13 ?_
            refine tkV 14 ?_
            refine tkV 15 ?_
            refine tkV 16 ?_
            refine tkV 17 ?_
            refine tkV 18 ?_
            refine tkV 19 ?_
            refine tkV 20 ?_
            refine tkV 21 ?_
            refine tkV 22 ?_
            refine tkV 23 ?_
            refine dn1 ?_
            have hBz := HBL.out.trans (zH.1.mono HBL.out.size)
            clear zH
            go_wp2_with fail
            go_ret
            exact ⟨by rw [HV.out]; first | rfl | (rw [← decide_not]; congr 2; simp) | (simp; omega), hBz⟩
   · have H2 := Lib.hid h2
     rw [h2]
     rintro e w2 ⟨rfl, hb2⟩
     have hb2 := hb1.trans (hb2.mono hb1.size)
     clear h2 k1
     go_wp2_with fail
     go_ret
     exact ⟨by rw [HC.out, H1.out, H2.out]; rfl, hb2⟩
 · have H1 := Lib.hid h1
   rw [h1]
   rintro e w1 ⟨rfl, hb1⟩
   have hb1 := hb0.trans (hb1.mono hb0.size)
   clear h1 k0
   go_wp2_with fail
   go_ret
   exact ⟨by rw [HC.out, H1.out]; rfl, hb1⟩
end Go.Proofs.YtgjjdnojiegidaaGreatDoor
