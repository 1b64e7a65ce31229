/-
  The program's hasOrderOf: whether one of two sides' orders is of one of some accounts (slices.Concat, ContainsFunc, Contains).
-/
import Derived.Test.YtfodkefaflpicabBookT
import Derived.Shelf.Spec.SlicesGrow
namespace Go.Proofs.Ytfodkefaflpicab
open Go.RowKit Wire Go.Shelf

/-- a row is appended to, the source nil or not -/
theorem wpList_appO {P : Program} (w : World) {ops : Array Oper} {rest : List Oper} {o : Oper} {a : Act} {Q : Exit → Act → World → Prop} (hgd : o.guard = none) (s x : Operand) (t : TypeId)
    (ho : o.op = .call { callee := .builtin .append, args := #[s, x], argTypes := #[t, t] })
    (base : Nat) (e : TypeId) (i : TypeInfo) (z : Value) (size bytes : Nat) (ht : P.underlying t = some (.slice e)) (hi : P.info? e = some i) (hz : i.zero = some z)
    (hsize : i.size = size) (hby : i.bytes = bytes) (hzs : z.cells.size = size) (hsz : 0 < size)
    (v : Value) (n : Nat) (xs : List Value) (hs : a.eval s = v) (hown : w.ownsRow base e size v n xs)
    (A : Option Addr) (m c : Nat) (hA : A = none → m = 0 ∧ c = 0) (news : List Value) (hx : a.eval x = .slice A m c) (hl : news.length = m * size) (hnews : ∀ ad, A = some ad → ∀ j u, news[j]? = some u → w.cell? (ad.add j) = some u) (h1 : ∀ u ∈ news, u.oneCell' = true)
    (h63 : n + m ≤ maxLen) (hbytes : (n + m) * bytes ≤ 140737488355328) (hbase : base ≤ w.heap.size)
    (h : ∀ v' w', w'.ownsRow base e size v' (n + m) (xs ++ news) → w.grownBy w' v.ownBlock → wpList P ops Q rest (a.put o.dst v') w') :
    wpList P ops Q (o :: rest) a w := by
  cases A with
  | some ad => exact wpList_append_own w hgd s x t ho base e i z size bytes ht hi hz hsize hby hzs hsz v n xs hs hown ad m c news hx hl (hnews ad rfl) h1 h63 hbytes hbase fun v' w' h2 h3 _ => h v' w' h2 h3
  | none =>
    obtain ⟨rfl, rfl⟩ := hA rfl
    have hr := run_append_owned_none (P := P) (w := w) base t o.type e i size ht hi v n xs hown
    have e0 : news = [] := List.eq_nil_of_length_eq_zero (by rw [hl]; omega)
    subst e0
    refine wpList_plain hgd fun K hK => ?_
    unfold Oper.wp execOp
    simp only [ho, resolve, invoke, builtin, Sem.run_bind, Sem.run_pure, Result.andThen_ok, List.map_toArray, List.map_cons, List.map_nil, hs, hx, hr]
    exact hK _ _ (h v w (by simpa using hown) (World.grownBy.refl _ _))
/-- one of the first k orders is of one of these accounts -/
def oweTo (is : List Int) (m : Nat) (zs : List Int) : Nat → Bool
  | 0 => false
  | k + 1 => oweTo is m zs k || seenB (num is) (num zs (k * 4 + 1)) m
theorem oweTo_yes {is : List Int} {m : Nat} {zs : List Int} {k : Nat} (h : seenB (num is) (num zs (k * 4 + 1)) m = true) : ∀ n, k < n → oweTo is m zs n = true
  | 0, hk => absurd hk (Nat.not_lt_zero k)
  | n + 1, hk => by
    rw [oweTo]
    rcases Nat.lt_or_ge k n with hlt | hge
    · rw [oweTo_yes h n hlt]; rfl
    · obtain rfl : k = n := by omega
      rw [h, Bool.or_true]
theorem oweTo_step {is : List Int} {m : Nat} {zs : List Int} {k : Nat} (h : oweTo is m zs k = false) (h1 : seenB (num is) (num zs (k * 4 + 1)) m = false) : oweTo is m zs (k + 1) = false := by rw [oweTo, h, h1]; rfl
theorem seenB_yes {f : Nat → Int} {x : Int} {k : Nat} (h : f k = x) : ∀ n, k < n → seenB f x n = true
  | 0, hk => absurd hk (Nat.not_lt_zero k)
  | n + 1, hk => by
    rw [seenB]
    rcases Nat.lt_or_ge k n with hlt | hge
    · rw [seenB_yes h n hlt]; rfl
    · obtain rfl : k = n := by omega
      rw [h]; simp
theorem seenB_step {f : Nat → Int} {x : Int} {k : Nat} (h : seenB f x k = false) (h1 : ¬ f k = x) : seenB f x (k + 1) = false := by rw [seenB, h]; simpa using h1
set_option maxHeartbeats 400000 in
theorem spec_l5Has (A : Option Addr) (n c : Nat) (is : List Int) (x : Int) (w : World) (hl : Lst w w.heap.size 1 A n is) (hn : n ≤ 1048576) :
    Calls Try.prog 54 #[.slice A n c, .int .i64 x] w fun e w' => e = .returned (.bool (seenB (num is) x n)) ∧ w = w' := by
  go_enter Try.func54, Try.ntmps54
  go_wp2_with fail
  go_loop [5] (fun i => ∃ k : Nat, k ≤ n ∧ i = .int .i64 (k : Int) ∧ Hid (seenB (num is) x k = false)) (fun i => n - (intOf i).toNat)
  case atStart => exact ⟨0, Nat.zero_le _, rfl, rfl⟩
  case round =>
    obtain ⟨k, hk, rfl, hs⟩ := hrel
    by_cases hlt : k < n
    · obtain ⟨b, o, rfl, hb, h0⟩ := hl.get hlt
      have p0 := h0 0 (by omega)
      simp only [Nat.mul_one, Nat.add_zero] at p0
      clear hl h0
      have HY := Lib.hid (fun h : num is k = x => seenB_yes h n hlt)
      have HN := Lib.hid (fun h : ¬ num is k = x => seenB_step hs.out h)
      clear hs
      generalize num is k = y at *
      by_cases hq : y = x
      · have H := Lib.hid (HY.out hq)
        clear HY HN
        subst hq
        go_wp2_with fail
        go_ret
        exact ⟨ret_bool H.out.symm, rfl⟩
      · have H := Lib.hid (HN.out hq)
        have t : (y == x) = false := beq_eq_false_iff_ne.2 hq
        clear HY HN
        go_wp2_with fail
        go_round
        case rel => exact ⟨k + 1, by omega, by go_num, H⟩
        case measure => simp [intOf]; omega
    · obtain rfl : k = n := by omega
      go_wp2_with fail
      go_ret
      exact ⟨ret_bool hs.out.symm, rfl⟩
set_option maxHeartbeats 400000 in
theorem cat_Index (A : Option Addr) (n c : Nat) (is : List Int) (x : Int) (w : World) (hl : Lst w w.heap.size 1 A n is) (hn : n ≤ 1048576) :
    Calls Try.prog 123 #[.slice A n c, .int .i64 x] w fun e w' => (∃ z : Int, e = .returned (.int .i64 z) ∧ -1 ≤ z ∧ z ≤ 1048576 ∧ seenB (num is) x n = decide (0 ≤ z)) ∧ w = w' := by
  go_enter Try.func123, Try.ntmps123
  go_wp2_with fail
  go_loop [8] (fun i => ∃ k : Nat, k ≤ n ∧ i = .int .i64 (k : Int) ∧ Hid (seenB (num is) x k = false)) (fun i => n - (intOf i).toNat)
  case atStart => exact ⟨0, Nat.zero_le _, rfl, rfl⟩
  case round =>
    obtain ⟨k, hk, rfl, hs⟩ := hrel
    by_cases hlt : k < n
    · obtain ⟨b, o, rfl, hb, h0⟩ := hl.get hlt
      have p0 := h0 0 (by omega)
      simp only [Nat.mul_one, Nat.add_zero] at p0
      clear hl h0
      have HY := Lib.hid (fun h : num is k = x => seenB_yes h n hlt)
      have HN := Lib.hid (fun h : ¬ num is k = x => seenB_step hs.out h)
      clear hs
      generalize num is k = y at *
      by_cases hq : y = x
      · have H := Lib.hid (HY.out hq)
        clear HY HN
        subst hq
        go_wp2_with fail
        go_ret
        exact ⟨⟨_, rfl, by omega, by omega, by rw [H.out]; simp⟩, rfl⟩
      · have H := Lib.hid (HN.out hq)
        have t : (x == y) = false := beq_eq_false_iff_ne.2 (fun e => hq e.symm)
        clear HY HN
        go_wp2_with fail
        go_round
        case rel => exact ⟨k + 1, by omega, by go_num, H⟩
        case measure => simp [intOf]; omega
    · obtain rfl : k = n := by omega
      go_wp2_with fail
      go_ret
      exact ⟨⟨_, rfl, by omega, by omega, by rw [hs.out]; rfl⟩, rfl⟩
theorem cat_Contains (A : Option Addr) (n c : Nat) (is : List Int) (x : Int) (w : World) (hl : Lst w w.heap.size 1 A n is) (hn : n ≤ 1048576) :
    Calls Try.prog 116 #[.slice A n c, .int .i64 x] w fun e w' => e = .returned (.bool (seenB (num is) x n)) ∧ w = w' := by
  go_enter Try.func116, Try.ntmps116
  go_wp2_with fail
  refine (cat_Index A n c is x _ hl hn).mono ?_
  rintro e w1 ⟨⟨z, rfl, hz0, hz1, hz2⟩, rfl⟩
  have HZ := Lib.hid hz2
  clear hz2
  go_wp2_with fail
  go_ret
  exact ⟨ret_bool HZ.out.symm, rfl⟩
set_option maxRecDepth 100000 in
theorem cat_closure (J : Nat) (I : Option Addr) (i d : Nat) (is : List Int) (a b p q : Int) (w : World) (hJ : w.cell? ⟨J, 0, none⟩ = some (.slice I i d)) (hJs : J < w.heap.size) (hl : Lst w w.heap.size 1 I i is) (hi : i ≤ 1048576) :
    Calls Try.prog 115 #[.agg #[.int .i64 a, .int .i64 b, .int .i64 p, .int .i64 q], .pointer (some ⟨J, 0, none⟩)] w fun x w' => x = .returned (.bool (seenB (num is) b i)) ∧ Below w.heap.size w w' := by
  have hb0 : Below w.heap.size w (w.alloc (.cells #[.int .i64 a, .int .i64 b, .int .i64 p, .int .i64 q] 33)) := (Below.refl _ _).alloc (Nat.le_refl _) _
  have j0 := (hb0.cell (p := ⟨J, 0, none⟩) hJs).trans hJ
  have hl0 := hl.later hb0
  go_enter Try.func115, Try.ntmps115
  go_wp2_with fail
  refine (cat_Contains I i d is b _ hl0 hi).mono ?_
  rintro e w1 ⟨rfl, rfl⟩
  go_wp2_with fail
  go_ret
  exact ⟨rfl, hb0⟩
set_option maxHeartbeats 1600000 in
set_option maxRecDepth 100000 in
theorem cat_IndexFunc (J : Nat) (I : Option Addr) (i d : Nat) (is : List Int) (A : Option Addr) (n c : Nat) (zs : List Int) (w : World) (hl : Lst w w.heap.size 4 A n zs) (hn : n ≤ 1048576) (hJ : w.cell? ⟨J, 0, none⟩ = some (.slice I i d)) (hJs : J < w.heap.size) (hI : Lst w w.heap.size 1 I i is) (hi : i ≤ 1048576) :
    Calls Try.prog 117 #[.slice A n c, .func (.func 115) #[] #[.pointer (some ⟨J, 0, none⟩)]] w fun e w' => (∃ z : Int, e = .returned (.int .i64 z) ∧ -1 ≤ z ∧ z ≤ 1048576 ∧ oweTo is i zs n = decide (0 ≤ z)) ∧ Below w.heap.size w w' := by
  go_enter Try.func117, Try.ntmps117
  go_wp2_with fail
  go_loopw [8] (fun j wr => ∃ k : Nat, k ≤ n ∧ j = .int .i64 (k : Int) ∧ Hid (oweTo is i zs k = false) ∧ Below w.heap.size w wr) (fun j _ => n - (intOf j).toNat)
  case atStart => exact ⟨0, Nat.zero_le _, rfl, rfl, Below.refl _ _⟩
  case round =>
    obtain ⟨k, hk, rfl, HL, hbel⟩ := hrel
    by_cases hlt : k < n
    · obtain ⟨b, o, rfl, hb, c0, c1, c2, c3⟩ := (hl.below hbel).row4 hlt
      have j0 := (hbel.cell (p := ⟨J, 0, none⟩) hJs).trans hJ
      have hIr := (hI.below hbel).more hbel.size
      have hJr := Nat.lt_of_lt_of_le hJs hbel.size
      clear hl hI
      rcases Bool.eq_false_or_eq_true (seenB (num is) (num zs (k * 4 + 1)) i) with hat | hat
      · have HN := Lib.hid (oweTo_yes hat n hlt)
        have HA := Lib.hid hat
        clear hat
        go_wp2_with fail
        refine (cat_closure J I i d is _ _ _ _ _ j0 hJr hIr hi).mono ?_
        rw [HA.out]
        rintro e w1 ⟨rfl, hb1⟩
        have hbel1 := hbel.trans (hb1.mono hbel.size)
        clear hbel hb1
        go_wp2_with fail
        go_ret
        exact ⟨⟨_, rfl, by omega, by omega, by rw [HN.out]; simp⟩, hbel1⟩
      · have HN := Lib.hid (oweTo_step HL.out hat)
        have HA := Lib.hid hat
        clear hat
        go_wp2_with fail
        refine (cat_closure J I i d is _ _ _ _ _ j0 hJr hIr hi).mono ?_
        rw [HA.out]
        rintro e w1 ⟨rfl, hb1⟩
        have hbel1 := hbel.trans (hb1.mono hbel.size)
        clear hbel hb1
        go_wp2_with fail
        go_roundw
        case rel => exact ⟨k + 1, by omega, by go_num, HN, hbel1⟩
        case measure => simp [intOf]; omega
    · obtain rfl : k = n := by omega
      clear hl
      go_wp2_with fail
      go_ret
      exact ⟨⟨_, rfl, by omega, by omega, by rw [HL.out]; rfl⟩, hbel⟩
set_option maxRecDepth 100000 in
theorem cat_ContainsFunc (J : Nat) (I : Option Addr) (i d : Nat) (is : List Int) (A : Option Addr) (n c : Nat) (zs : List Int) (w : World) (hl : Lst w w.heap.size 4 A n zs) (hn : n ≤ 1048576) (hJ : w.cell? ⟨J, 0, none⟩ = some (.slice I i d)) (hJs : J < w.heap.size) (hI : Lst w w.heap.size 1 I i is) (hi : i ≤ 1048576) :
    Calls Try.prog 101 #[.slice A n c, .func (.func 115) #[] #[.pointer (some ⟨J, 0, none⟩)]] w fun e w' => e = .returned (.bool (oweTo is i zs n)) ∧ Below w.heap.size w w' := by
  go_enter Try.func101, Try.ntmps101
  go_wp2_with fail
  refine (cat_IndexFunc J I i d is A n c zs _ hl hn hJ hJs hI hi).mono ?_
  rintro e w1 ⟨⟨z, rfl, hz0, hz1, hz2⟩, hb1⟩
  have HZ := Lib.hid hz2
  clear hz2
  go_wp2_with fail
  go_ret
  exact ⟨ret_bool HZ.out.symm, hb1⟩
shelf_lay_g Lays8.n4 Nm8 4 at Try 75 as Try.growO
def catN (n m : Nat) : Nat → Nat
  | 0 => 0
  | 1 => n
  | _ => n + m
def catL (za zb : List Int) : Nat → List Int
  | 0 => []
  | 1 => za
  | _ => za ++ zb
theorem cat_Grow (k : Nat) (w : World) (hk : k ≤ 2097152) :
    Calls Try.prog 75 #[.slice none 0 0, .int .i64 (k : Int)] w fun e w' => ∃ v, e = .returned v ∧ w'.ownsRow w.heap.size 33 4 v 0 [] ∧ Below w.heap.size w w' := by
  obtain ⟨i0, hi, hz0, hz1, hz2⟩ := info_parts ord_info
  rcases Nat.eq_zero_or_pos k with rfl | hpos
  · refine (Any8.slices_Grow_room Try.growO none 0 0 0 w (Nat.le_refl _) (by omega) (by omega) (Nat.le_refl _)).mono ?_
    rintro e w1 ⟨rfl, rfl⟩
    exact ⟨_, rfl, World.ownsRow_nil _ _ _ _, Below.refl _ _⟩
  · refine (Any8.slices_Grow_grow Try.growO i0 _ hi hz0 (by omega) none 0 0 k [] w (Nat.le_refl _) (by omega) (by rw [hz2]; omega) (by omega) (by simp) (fun _ => rfl) (fun a h => by cases h)).mono ?_
    rintro e w1 ⟨rfl, rfl⟩
    have hg := grownCap_ge w (0 + k) 0 33
    have hm := grownCap_le_maxLen w (0 + k) 0 33 (by unfold maxLen; omega)
    refine ⟨_, rfl, World.ownsRow_made w.drew _ (grownCap w (0 + k) 0 33) (Nat.le_refl _) hm ?_, ((Below.refl _ _).drew).alloc (Nat.le_refl _) _⟩
    simp only [Array.size_append, size_zeroCells, List.size_toArray, List.length_nil]
    have h4 : (Value.agg #[.int .i64 0, .int .i64 0, .int .i64 0, .int .i64 0]).cells.size = 4 := rfl
    have e25 : Try.growO_ren.t 25 = 33 := rfl
    rw [h4, e25]
    omega
set_option linter.unusedSimpArgs false in
set_option maxHeartbeats 1600000 in
set_option maxRecDepth 100000 in
theorem cat_Concat (X : Nat) (A : Option Addr) (n c : Nat) (B : Option Addr) (m d : Nat) (za zb : List Int) (w : World) (x0 : w.cell? ⟨X, 0, none⟩ = some (.slice A n c)) (x1 : w.cell? ⟨X, 1, none⟩ = some (.slice B m d)) (hX : X < w.heap.size)
    (ha : Lst w w.heap.size 4 A n za) (hb : Lst w w.heap.size 4 B m zb) (hn : n ≤ 1048576) (hm : m ≤ 1048576) (hA : A = none → n = 0 ∧ c = 0) (hB : B = none → m = 0 ∧ d = 0) :
    Calls Try.prog 35 #[.slice (some ⟨X, 0, none⟩) 2 2] w fun e w' => ∃ v, e = .returned v ∧ w'.ownsRow w.heap.size 33 4 v (n + m) (nums (za ++ zb)) ∧ Below w.heap.size w w' := by
  obtain ⟨i0, hi, hz0, hz1, hz2⟩ := info_parts ord_info
  go_enter Try.func35, Try.ntmps35
  go_wp2_with fail
  go_loop [3, 11] (fun s i => ∃ k : Nat, k ≤ 2 ∧ i = .int .i64 (k : Int) ∧ s = .int .i64 (catN n m k : Nat)) (fun _ i => 2 - (intOf i).toNat)
  case atStart => exact ⟨0, Nat.zero_le _, rfl, rfl⟩
  case round =>
    obtain ⟨k, hk, rfl, rfl⟩ := hrel
    rcases (show k = 0 ∨ k = 1 ∨ k = 2 by omega) with rfl | rfl | rfl
    · simp only [catN]
      go_wp2_with fail
      go_round
      case rel => exact ⟨1, by omega, rfl, by simp [catN]⟩
      case measure => simp [intOf]
    · simp only [catN]
      go_wp2_with fail
      go_round
      case rel => exact ⟨2, by omega, rfl, by simp [catN]⟩
      case measure => simp [intOf]
    · simp only [catN]
      go_wp2_with fail
      refine (cat_Grow (n + m) w (by omega)).mono ?_
      rintro e w1 ⟨v1, rfl, hown1, hb1⟩
      go_wp2_with fail
      go_loopw [6, 27] (fun nv i wr => ∃ k : Nat, k ≤ 2 ∧ i = .int .i64 (k : Int) ∧ wr.ownsRow w.heap.size 33 4 nv (catN n m k) (nums (catL za zb k)) ∧ Below w.heap.size w wr) (fun _ i _ => 2 - (intOf i).toNat)
      case atStart => exact ⟨0, Nat.zero_le _, rfl, hown1, hb1⟩
      case round =>
        clear hown1 hb1
        obtain ⟨k, hk, rfl, hown, hbel⟩ := hrel
        have x0 := (hbel.cell (p := ⟨X, 0, none⟩) hX).trans x0
        have x1 := (hbel.cell (p := ⟨X, 1, none⟩) hX).trans x1
        have hwa := (ha.below hbel).more hbel.size
        have hwb := (hb.below hbel).more hbel.size
        rcases (show k = 0 ∨ k = 1 ∨ k = 2 by omega) with rfl | rfl | rfl
        · simp only [catN, catL] at hown
          go_wp2_with (at_builtin; refine wpList_appO _ rfl _ _ 24 rfl w.heap.size 33 i0 _ 4 32 Try.underlying24 hi hz0 hz1 hz2 rfl (by decide) _ 0 (nums []) rfl hown A n c hA (nums za) rfl (by rw [nums_length]; exact hwa.1) hwa.newsO (nums_one _) (by unfold maxLen; omega) (by omega) hbel.size ?_)
          intro v' w2 hown2 hgrow2
          have hbel2 := hbel.grown hgrow2 hbel.size (fun q hq => (hown.lt q hq).1)
          have hown2 : Hid (w2.ownsRow w.heap.size 33 4 v' n (nums za)) := Lib.hid (by simpa [nums] using hown2)
          clear hown hbel hwa hwb x0 x1 hgrow2
          go_wp2_with fail
          go_roundw
          case rel => exact ⟨1, by omega, rfl, hown2.out, hbel2⟩
          case measure => simp [intOf]
        · simp only [catN, catL] at hown
          go_wp2_with (at_builtin; refine wpList_appO _ rfl _ _ 24 rfl w.heap.size 33 i0 _ 4 32 Try.underlying24 hi hz0 hz1 hz2 rfl (by decide) _ n (nums za) rfl hown B m d hB (nums zb) rfl (by rw [nums_length]; exact hwb.1) hwb.newsO (nums_one _) (by unfold maxLen; omega) (by omega) hbel.size ?_)
          intro v' w2 hown2 hgrow2
          have hbel2 := hbel.grown hgrow2 hbel.size (fun q hq => (hown.lt q hq).1)
          rw [← nums_append] at hown2
          have hown2 := Lib.hid hown2
          clear hown hbel hwa hwb x0 x1 hgrow2
          go_wp2_with fail
          go_roundw
          case rel => exact ⟨2, by omega, rfl, hown2.out, hbel2⟩
          case measure => simp [intOf]
        · simp only [catN, catL] at hown
          clear hwa hwb x0 x1
          go_wp2_with fail
          go_ret
          exact ⟨_, rfl, hown, hbel⟩
set_option maxHeartbeats 800000 in
set_option maxRecDepth 100000 in
theorem impl_hasOrderOf (A : Option Addr) (n c : Nat) (B : Option Addr) (m d : Nat) (I : Option Addr) (i e : Nat) (za zb is : List Int) (w : World) (ha : Lst w w.heap.size 4 A n za) (hb : Lst w w.heap.size 4 B m zb) (hI : Lst w w.heap.size 1 I i is) (hn : n ≤ 1048576) (hm : m ≤ 1048576) (hnm : n + m ≤ 1048576) (hi : i ≤ 1048576) (hA : A = none → n = 0 ∧ c = 0) (hB : B = none → m = 0 ∧ d = 0) :
    Calls Try.prog 89 #[.agg #[.slice A n c, .slice B m d], .slice I i e] w fun x w' => x = .returned (.bool (oweTo is i (za ++ zb) (n + m))) ∧ Below w.heap.size w w' := by
  have hb0 : Below w.heap.size w (((w.alloc (.cells #[.slice A n c, .slice B m d] 51)).alloc (.cells #[.slice I i e] 41)).alloc (.cells #[.slice A n c, .slice B m d] 24)) := (((Below.refl _ _).alloc (Nat.le_refl _) _).alloc (by simp) _).alloc (by simp; omega) _
  obtain ⟨-, k1, k2⟩ := three_blocks w (.cells #[.slice A n c, .slice B m d] 51) (.cells #[.slice I i e] 41) (.cells #[.slice A n c, .slice B m d] 24)
  have hs0 : (((w.alloc (.cells #[.slice A n c, .slice B m d] 51)).alloc (.cells #[.slice I i e] 41)).alloc (.cells #[.slice A n c, .slice B m d] 24)).heap.size = w.heap.size + 3 := by simp
  have j0 := cell_of_row _ (w.heap.size + 1) 0 _ _ (0, 0) k1
  have y0 := cell_of_row _ (w.heap.size + 1 + 1) 0 _ _ (0, 0) k2
  have y1 := cell_of_row _ (w.heap.size + 1 + 1) 1 _ _ (0, 0) k2
  simp at j0 y0 y1
  have ha0 := ha.later hb0
  have hbb0 := hb.later hb0
  have hI0 := hI.later hb0
  go_enter Try.func89, Try.ntmps89
  go_wp2_with fail
  generalize (((w.alloc (.cells #[.slice A n c, .slice B m d] 51)).alloc (.cells #[.slice I i e] 41)).alloc (.cells #[.slice A n c, .slice B m d] 24)) = w0 at *
  refine (cat_Concat (w.heap.size + 1 + 1) A n c B m d za zb w0 y0 y1 (by omega) ha0 hbb0 hn hm hA hB).mono ?_
  rintro e' w1 ⟨v, rfl, hown, hb1⟩
  obtain ⟨A3, c3, rfl, _, _⟩ := own_slice hown
  have hL3 := Lst.of_own hown
  have j1 := (hb1.cell (p := ⟨w.heap.size + 1, 0, none⟩) (show w.heap.size + 1 < w0.heap.size by omega)).trans j0
  have hI1 := hI0.later hb1
  have hs1 : w.heap.size + 1 < w1.heap.size := by have := hb1.size; omega
  have hB1 := hb0.trans (hb1.mono hb0.size)
  clear ha0 hbb0 hI0 k1 k2 y0 y1 j0 hb0 hb1 hown ha hb hI
  go_wp2_with fail
  refine (cat_ContainsFunc (w.heap.size + 1) I i e is A3 (n + m) c3 (za ++ zb) _ hL3 hnm j1 hs1 hI1 hi).mono ?_
  rintro e' w2 ⟨rfl, hb2⟩
  go_wp2_with fail
  go_ret
  exact ⟨rfl, hB1.trans (hb2.mono hB1.size)⟩
end Go.Proofs.Ytfodkefaflpicab
