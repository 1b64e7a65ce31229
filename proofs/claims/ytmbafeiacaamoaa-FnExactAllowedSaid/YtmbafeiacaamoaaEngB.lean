/-
  Engines as the laws hand them on: their sizes, and the engine that a law makes of its argument.
-/
import Derived.Test.YtmbafeiacaamoaaNum
import Derived.Test.YtmbafeiacaamoaaOpenE
namespace Go.Proofs.Ytmbafeiacaamoaa
open Go.RowKit Wire

/-- a side in memory, in a block below X; without an address it is empty -/
def SdAt (w : World) (X : Nat) (v : Value) (zs : List Int) : Prop := ∃ A n c, v = .slice A n c ∧ Lst w X 4 A n zs ∧ n ≤ 1048576 ∧ (A = none → n = 0 ∧ c = 0) ∧ n ≤ c ∧ c ≤ maxLen
theorem SdAt.below {w w' : World} {X : Nat} {v : Value} {zs : List Int} (h : SdAt w X v zs) (hb : Below X w w') : SdAt w' X v zs := by
  obtain ⟨A, n, c, h1, h2, h3⟩ := h
  exact ⟨A, n, c, h1, h2.below hb, h3⟩
theorem SdAt.more {w : World} {X X' : Nat} {v : Value} {zs : List Int} (h : SdAt w X v zs) (hX : X ≤ X') : SdAt w X' v zs := by
  obtain ⟨A, n, c, h1, h2, h3⟩ := h
  exact ⟨A, n, c, h1, h2.more hX, h3⟩
/-- some books in memory, in blocks below X -/
def EBks (w : World) (X : Nat) (A : Option Addr) (bs : List (List Int × List Int)) : Prop := ∀ (k : Nat) (x : List Int × List Int), bs[k]? = some x → ∃ b o v1 v2, A = some ⟨b, o, none⟩ ∧ b < X ∧ w.cell? ⟨b, o + k * 2, none⟩ = some v1 ∧ w.cell? ⟨b, o + k * 2 + 1, none⟩ = some v2 ∧ SdAt w X v1 x.1 ∧ SdAt w X v2 x.2
theorem EBks.below {w w' : World} {X : Nat} {A : Option Addr} {bs : List (List Int × List Int)} (h : EBks w X A bs) (hb : Below X w w') : EBks w' X A bs := fun k x hx => by
  obtain ⟨b, o, v1, v2, h1, h2, h3, h4, h5, h6⟩ := h k x hx
  exact ⟨b, o, v1, v2, h1, h2, (hb.cell (p := ⟨b, _, none⟩) h2).trans h3, (hb.cell (p := ⟨b, _, none⟩) h2).trans h4, h5.below hb, h6.below hb⟩
theorem EBks.more {w : World} {X X' : Nat} {A : Option Addr} {bs : List (List Int × List Int)} (h : EBks w X A bs) (hX : X ≤ X') : EBks w X' A bs := fun k x hx => by
  obtain ⟨b, o, v1, v2, h1, h2, h3, h4, h5, h6⟩ := h k x hx
  exact ⟨b, o, v1, v2, h1, Nat.lt_of_lt_of_le h2 hX, h3, h4, h5.more hX, h6.more hX⟩
theorem EBks.later {w w' : World} {A : Option Addr} {bs : List (List Int × List Int)} (h : EBks w w.heap.size A bs) (hb : Below w.heap.size w w') : EBks w' w'.heap.size A bs := (h.below hb).more hb.size
theorem EBks.books {w : World} {X : Nat} {A : Option Addr} {bs : List (List Int × List Int)} (h : EBks w X A bs) : BooksAt w X A bs := fun k x hx => by
  obtain ⟨b, o, _, _, h1, h2, h3, h4, ⟨A1, n1, c1, rfl, h5, h6, _⟩, ⟨A2, n2, c2, rfl, h7, h8, _⟩⟩ := h k x hx
  exact ⟨b, o, A1, n1, c1, A2, n2, c2, h1, h2, h3, h4, ⟨h5, h7⟩, h6, h8⟩
/-- an engine's parts, in blocks below X -/
structure EngS (w : World) (X : Nat) (A : Option Addr) (n : Nat) (I : Option Addr) (i d : Nat) (bs : List (List Int × List Int)) (is : List Int) : Prop where
  books : EBks w X A bs
  len : bs.length = n
  accts : Lst w X 1 I i is
  none : I = .none → i = 0 ∧ d = 0
  cap : i ≤ d ∧ d ≤ maxLen
theorem EngS.later {w w' : World} {A I : Option Addr} {n i d : Nat} {bs : List (List Int × List Int)} {is : List Int} (h : EngS w w.heap.size A n I i d bs is) (hb : Below w.heap.size w w') : EngS w' w'.heap.size A n I i d bs is := ⟨h.books.later hb, h.len, h.accts.later hb, h.none, h.cap⟩
theorem EngS.engIn {w : World} {X : Nat} {A I : Option Addr} {n i d : Nat} {bs : List (List Int × List Int)} {is : List Int} (h : EngS w X A n I i d bs is) : EngIn w X A n I i bs is := ⟨h.books.books, h.len, h.accts⟩
/-- a row of books that was made, its sides in rows of their own, from block base on -/
def ERow (w : World) (base g n : Nat) (bs : List (List Int × List Int)) : Prop := ∃ F, w.rowIs g 58 (n * 2) F ∧ ∀ (k : Nat) (x : List Int × List Int), bs[k]? = some x → ∃ g1 g2 n1 n2, base ≤ g1 ∧ base ≤ g2 ∧ F (k * 2) = .slice (some ⟨g1, 0, none⟩) n1 n1 ∧ F (k * 2 + 1) = .slice (some ⟨g2, 0, none⟩) n2 n2 ∧
  x.1.length = n1 * 4 ∧ x.2.length = n2 * 4 ∧ n1 + n2 ≤ 1048576 ∧ w.rowIs g1 84 (n1 * 4) (numAt fun j => num x.1 j) ∧ w.rowIs g2 84 (n2 * 4) (numAt fun j => num x.2 j)
theorem ERow.below {w w' : World} {base g n : Nat} {bs : List (List Int × List Int)} (h : ERow w base g n bs) (hb : Below w.heap.size w w') : ERow w' base g n bs := by
  obtain ⟨F, hr, hx⟩ := h
  refine ⟨F, hr.of_block (hb.block _ hr.lt), fun k x hk => ?_⟩
  obtain ⟨g1, g2, n1, n2, h1, h2, h3, h4, h5, h6, h7, h8, h9⟩ := hx k x hk
  exact ⟨g1, g2, n1, n2, h1, h2, h3, h4, h5, h6, h7, h8.of_block (hb.block _ h8.lt), h9.of_block (hb.block _ h9.lt)⟩
theorem ERow.other {w : World} {base g n q j : Nat} {bs : List (List Int × List Int)} (h : ERow w base g n bs) (hq : q < base) (hg : g ≠ q) (u : Value) : ERow (w.setCell ⟨q, j, none⟩ u) base g n bs := by
  obtain ⟨F, hr, hx⟩ := h
  refine ⟨F, hr.setOther (a := ⟨q, j, none⟩) hg u, fun k x hk => ?_⟩
  obtain ⟨g1, g2, n1, n2, h1, h2, h3, h4, h5, h6, h7, h8, h9⟩ := hx k x hk
  exact ⟨g1, g2, n1, n2, h1, h2, h3, h4, h5, h6, h7, h8.setOther (a := ⟨q, j, none⟩) (show g1 ≠ q by omega) u, h9.setOther (a := ⟨q, j, none⟩) (show g2 ≠ q by omega) u⟩
theorem ERow.put {w : World} {base g n k g1 g2 n1 n2 : Nat} {bs : List (List Int × List Int)} {x : List Int × List Int} (h : ERow w base g n (bs.take k)) (hx : bs[k]? = some x) (hg : g < base) (h1 : base ≤ g1) (h2 : base ≤ g2)
    (l1 : x.1.length = n1 * 4) (l2 : x.2.length = n2 * 4) (hn : n1 + n2 ≤ 1048576) (r1 : w.rowIs g1 84 (n1 * 4) (numAt fun j => num x.1 j)) (r2 : w.rowIs g2 84 (n2 * 4) (numAt fun j => num x.2 j)) :
    ERow ((w.setCell ⟨g, k * 2, none⟩ (.slice (some ⟨g1, 0, none⟩) n1 n1)).setCell ⟨g, k * 2 + 1, none⟩ (.slice (some ⟨g2, 0, none⟩) n2 n2)) base g n (bs.take (k + 1)) := by
  obtain ⟨F, hr, hF⟩ := h
  refine ⟨_, (hr.set _ _).set _ _, fun q y hy => ?_⟩
  have hq : q < k + 1 := by
    have := (List.getElem?_eq_some_iff.1 hy).1
    rw [List.length_take] at this
    omega
  rw [List.getElem?_take_of_lt hq] at hy
  rcases Nat.lt_or_ge q k with hlt | hge
  · obtain ⟨g1', g2', n1', n2', p1, p2, p3, p4, p5, p6, p7, p8, p9⟩ := hF q y (by rw [List.getElem?_take_of_lt hlt]; exact hy)
    refine ⟨g1', g2', n1', n2', p1, p2, ?_, ?_, p5, p6, p7, (p8.setOther (a := ⟨g, _, none⟩) (show g1' ≠ g by omega) _).setOther (a := ⟨g, _, none⟩) (show g1' ≠ g by omega) _, (p9.setOther (a := ⟨g, _, none⟩) (show g2' ≠ g by omega) _).setOther (a := ⟨g, _, none⟩) (show g2' ≠ g by omega) _⟩
    · rw [if_neg (by omega), if_neg (by omega)]; exact p3
    · rw [if_neg (by omega), if_neg (by omega)]; exact p4
  · obtain rfl : q = k := by omega
    obtain rfl : x = y := by rw [hx] at hy; injection hy
    refine ⟨g1, g2, n1, n2, h1, h2, ?_, ?_, l1, l2, hn, (r1.setOther (a := ⟨g, _, none⟩) (show g1 ≠ g by omega) _).setOther (a := ⟨g, _, none⟩) (show g1 ≠ g by omega) _, (r2.setOther (a := ⟨g, _, none⟩) (show g2 ≠ g by omega) _).setOther (a := ⟨g, _, none⟩) (show g2 ≠ g by omega) _⟩
    · rw [if_neg (by omega), if_pos rfl]
    · rw [if_pos rfl]
theorem ERow.eBks {w : World} {base g n : Nat} {bs : List (List Int × List Int)} (h : ERow w base g n bs) (hn : bs.length = n) : EBks w w.heap.size (some ⟨g, 0, none⟩) bs := fun k x hx => by
  obtain ⟨F, hr, hF⟩ := h
  obtain ⟨g1, g2, n1, n2, p1, p2, p3, p4, p5, p6, p7, p8, p9⟩ := hF k x hx
  have hk : k < n := by rw [← hn]; exact (List.getElem?_eq_some_iff.1 hx).1
  have hm : (1048576 : Nat) ≤ maxLen := by unfold maxLen; omega
  refine ⟨g, 0, _, _, rfl, hr.lt, (by rw [Nat.zero_add, hr.cell (i := k * 2) (by omega), p3]), (by rw [Nat.zero_add, hr.cell (i := k * 2 + 1) (by omega), p4]), ⟨_, _, _, rfl, Lst.of_row (sz := 4) (zs := x.1) (n := n1) p8 (Nat.le_refl _) p5 (fun _ _ => rfl), by omega, (fun e => by cases e), Nat.le_refl _, by omega⟩, ⟨_, _, _, rfl, Lst.of_row (sz := 4) (zs := x.2) (n := n2) p9 (Nat.le_refl _) p6 (fun _ _ => rfl), by omega, (fun e => by cases e), Nat.le_refl _, by omega⟩⟩
theorem szBook_left (A : Option Addr) (n c : Nat) (B : Option Addr) (m d : Nat) (left : Int) (w : World) (hn : n ≤ maxLen) (hm : m ≤ maxLen) (h0 : 0 ≤ left) (h1 : left ≤ 1048576) :
    Calls Try.prog 64 #[.agg #[.slice A n c, .slice B m d], .int .i64 left] w fun e w' => (∃ z : Int, e = .returned (.int .i64 z) ∧ (z = -1 ∨ (0 ≤ z ∧ z ≤ left ∧ n + m ≤ 1048576))) ∧ Below w.heap.size w w' := by
  unfold maxLen at hn hm
  go_enter Try.func64, Try.ntmps64
  go_wp2_with fail
  refine (szOrderS_any _ _ _ _ _ (by omega) (by omega) (by omega)).mono ?_
  by_cases h2 : left < n
  · rw [if_pos h2]
    rintro e w1 ⟨rfl, rfl⟩
    go_wp2_with fail
    go_ret
    exact ⟨⟨-1, rfl, .inl rfl⟩, by go_grown⟩
  · rw [if_neg h2]
    rintro e w1 ⟨rfl, rfl⟩
    obtain ⟨L, hL, hL2⟩ : ∃ L : Int, left - (n : Int) = L ∧ 0 ≤ L := ⟨_, rfl, by omega⟩
    rw [hL]
    go_wp2_with fail
    refine (szOrderS_any _ _ _ _ _ (by omega) (by omega) (by omega)).mono ?_
    by_cases h3 : L < m
    · rw [if_pos h3]
      rintro e w1 ⟨rfl, rfl⟩
      go_wp2_with fail
      go_ret
      exact ⟨⟨-1, rfl, .inl rfl⟩, by go_grown⟩
    · rw [if_neg h3]
      rintro e w1 ⟨rfl, rfl⟩
      obtain ⟨K, hK, hK2⟩ : ∃ K : Int, L - (m : Int) = K ∧ 0 ≤ K := ⟨_, rfl, by omega⟩
      rw [hK]
      go_wp2_with fail
      go_ret
      exact ⟨⟨_, rfl, .inr ⟨hK2, by omega, by omega⟩⟩, by go_grown⟩
theorem szInt64S_any (A : Option Addr) (n c : Nat) (left : Int) (w : World) (hn : n ≤ 9223372036854775807) (h0 : 0 ≤ left) (h1 : left ≤ 1048576) :
    Calls Try.prog 28 #[.slice A n c, .int .i64 left] w fun e w' => e = .returned (.int .i64 (if left < n then -1 else left - n)) ∧ w = w' := by
  by_cases h : left < n
  · rw [if_pos h]
    go_enter Try.func28, Try.ntmps28
    go_wp2_with fail
    go_ret
    exact ⟨rfl, rfl⟩
  · rw [if_neg h]
    go_enter Try.func28, Try.ntmps28
    go_wp2_with fail
    go_ret
    exact ⟨rfl, rfl⟩
/-- no book of these is too long -/
def BkSmall (bs : List (List Int × List Int)) (k : Nat) : Prop := ∀ (j : Nat) (x : List Int × List Int), j < k → bs[j]? = some x → x.1.length + x.2.length ≤ 1048576 * 4
set_option maxHeartbeats 800000 in
theorem szBookS_any (A : Option Addr) (n c : Nat) (bs : List (List Int × List Int)) (w : World) (hl : BksAt maxLen w w.heap.size A bs) (hlen : bs.length = n) (hn : n ≤ maxLen) :
    Calls Try.prog 27 #[.slice A n c, .int .i64 1048576] w fun e w' => (∃ z : Int, e = .returned (.int .i64 z) ∧ (z = -1 ∨ (0 ≤ z ∧ z ≤ 1048576 ∧ n ≤ 1048576 ∧ BkSmall bs n))) ∧ Below w.heap.size w w' := by
  unfold maxLen at hn
  by_cases hb : 1048576 < n
  · go_enter Try.func27, Try.ntmps27
    go_wp2_with fail
    go_ret
    exact ⟨⟨-1, rfl, Or.inl rfl⟩, Below.refl _ _⟩
  · go_enter Try.func27, Try.ntmps27
    go_wp2_with fail
    go_loopw [1, 5] (fun lv i wr => ∃ (k : Nat) (z : Int), k ≤ n ∧ i = .int .i64 (k : Int) ∧ lv = .int .i64 z ∧ 0 ≤ z ∧ z ≤ 1048576 ∧ Hid (BkSmall bs k) ∧ Below w.heap.size w wr) (fun _ i _ => n - (intOf i).toNat)
    case atStart => exact ⟨0, (1048576 : Int) - n, Nat.zero_le _, rfl, rfl, by omega, by omega, Lib.hid (fun j x hj => absurd hj (Nat.not_lt_zero j)), Below.refl _ _⟩
    case round =>
      obtain ⟨k, z, hk, rfl, rfl, hz0, hz1, hsz, hbel⟩ := hrel
      by_cases hlt : k < n
      · obtain ⟨x, hx⟩ : ∃ x, bs[k]? = some x := ⟨bs[k]'(by omega), List.getElem?_eq_getElem (by omega)⟩
        obtain ⟨b, o, A1, n1, c1, A2, n2, c2, rfl, hbX, q0, q1, ⟨hl1, hl2⟩, hn1, hn2⟩ := (hl.below hbel) k x hx
        have e1 := hl1.1
        have e2 := hl2.1
        clear hl hl1 hl2
        have HX := Lib.hid hx
        clear hx
        go_wp2_with fail
        refine (szBook_left _ _ _ _ _ _ z _ hn1 hn2 hz0 hz1).mono ?_
        rintro e w1 ⟨⟨z', rfl, hz'⟩, hb1⟩
        rcases hz' with rfl | ⟨hz'0, hz'1, hs12⟩
        · clear q0 q1 hn1 hn2
          go_wp2_with fail
          go_ret
          exact ⟨⟨-1, rfl, Or.inl rfl⟩, below_later hbel hb1⟩
        · have H : Hid (BkSmall bs (k + 1)) := Lib.hid (fun j y hj hy => by
            rcases Nat.lt_or_ge j k with h | h
            · exact hsz.out j y h hy
            · obtain rfl : j = k := by omega
              rw [HX.out] at hy
              injection hy with hy
              subst hy
              omega)
          have hz'2 : z' ≤ 1048576 := by omega
          clear q0 q1 hn1 hn2 hsz hz0 hz1 hz'1
          go_wp2_with fail
          go_roundw
          case rel => exact ⟨k + 1, z', by omega, by go_num, rfl, hz'0, hz'2, H, below_later hbel hb1⟩
          case measure => simp [intOf]; omega
      · obtain rfl : k = n := by omega
        go_wp2_with fail
        go_ret
        exact ⟨⟨z, rfl, Or.inr ⟨hz0, hz1, by omega, hsz.out⟩⟩, hbel⟩
set_option maxHeartbeats 800000 in
theorem szEngine_any (A : Option Addr) (n c : Nat) (I : Option Addr) (i d : Nat) (bs : List (List Int × List Int)) (w : World) (hl : BksAt maxLen w w.heap.size A bs) (hlen : bs.length = n) (hn : n ≤ maxLen) (hi : i ≤ maxLen) :
    Calls Try.prog 9 #[.agg #[.slice A n c, .slice I i d], .int .i64 1048576] w fun e w' => (∃ z : Int, e = .returned (.int .i64 z) ∧ (z = -1 ∨ (0 ≤ z ∧ n ≤ 1048576 ∧ i ≤ 1048576 ∧ BkSmall bs n))) ∧ Below w.heap.size w w' := by
  have k0 := heap_alloc_new w (.cells #[.slice A n c, .slice I i d] 25)
  have hb0 : Below w.heap.size w (w.alloc (.cells #[.slice A n c, .slice I i d] 25)) := (Below.refl _ _).alloc (Nat.le_refl _) _
  have hs0 : w.heap.size < (w.alloc (.cells #[.slice A n c, .slice I i d] 25)).heap.size := by simp
  have hl0 := hl.later hb0
  go_enter Try.func9, Try.ntmps9
  go_wp2_with fail
  generalize (w.alloc (.cells #[.slice A n c, .slice I i d] 25)) = w0 at *
  refine (szBookS_any _ _ _ bs _ hl0 hlen hn).mono ?_
  rintro e w1 ⟨⟨z, rfl, hz⟩, hb1⟩
  have k1 := (hb1.block _ hs0).trans k0
  have x1 := cell_of_row w1 w.heap.size 1 _ _ (0, 0) k1
  simp at x1
  have hB := ord_later hb0 hb1
  clear k0 k1 hl0 hb0 hb1 hl
  rcases hz with rfl | ⟨hz0, hz1, hn1, hsm⟩
  · go_wp2_with fail
    go_ret
    exact ⟨⟨-1, rfl, .inl rfl⟩, hB⟩
  · have HS := Lib.hid hsm
    clear hsm
    unfold maxLen at hi
    go_wp2_with fail
    refine (szInt64S_any _ _ _ z _ (by omega) hz0 hz1).mono ?_
    by_cases h3 : z < i
    · rw [if_pos h3]
      rintro e w1 ⟨rfl, rfl⟩
      go_wp2_with fail
      go_ret
      exact ⟨⟨-1, rfl, .inl rfl⟩, hB⟩
    · rw [if_neg h3]
      rintro e w1 ⟨rfl, rfl⟩
      obtain ⟨K, hK, hK2⟩ : ∃ K : Int, z - (i : Int) = K ∧ 0 ≤ K := ⟨_, rfl, by omega⟩
      rw [hK]
      go_wp2_with fail
      go_ret
      exact ⟨⟨_, rfl, .inr ⟨hK2, hn1, by omega, HS.out⟩⟩, hB⟩
end Go.Proofs.Ytmbafeiacaamoaa
