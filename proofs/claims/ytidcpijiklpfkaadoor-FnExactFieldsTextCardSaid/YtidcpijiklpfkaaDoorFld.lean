/-
  Fields: a tag and a text; slices of them, as the laws hand them on and compare them; when a list of them is right, in both programs.
-/
import Derived.Test.YtidcpijiklpfkaaDoorKit
import Derived.Test.YtidcpijiklpfkaaDoorOwn
import Derived.Test.YtidcpijiklpfkaaDoorNum
import Derived.Test.YtidcpijiklpfkaaDoorList
import Derived.Handy
import Derived.Deep.Cut
import Derived.Deep.RegionHeld3
namespace Go.Proofs.YtidcpijiklpfkaaDoor
open Go.RowKit Wire

def fT (fs : List (Int × ByteArray)) (k : Nat) : Int := (fs.getD k (0, ⟨#[]⟩)).1
def fV (fs : List (Int × ByteArray)) (k : Nat) : ByteArray := (fs.getD k (0, ⟨#[]⟩)).2
/-- these fields lie in the cells of a slice, in a block below X -/
def Flds (w : World) (X : Nat) (A : Option Addr) (n : Nat) (fs : List (Int × ByteArray)) : Prop :=
  ∀ k, k < n → ∃ b o, A = some ⟨b, o, none⟩ ∧ b < X ∧ w.cell? ⟨b, o + k * 2, none⟩ = some (.int .i64 (fT fs k)) ∧ w.cell? ⟨b, o + k * 2 + 1, none⟩ = some (.string (fV fs k))
theorem Flds.below {w w' : World} {X n : Nat} {A : Option Addr} {fs : List (Int × ByteArray)} (h : Flds w X A n fs) (hb : Below X w w') : Flds w' X A n fs := fun k hk => by
  obtain ⟨b, o, h1, h2, h3, h4⟩ := h k hk
  exact ⟨b, o, h1, h2, (hb.cell (p := ⟨b, _, none⟩) h2).trans h3, (hb.cell (p := ⟨b, _, none⟩) h2).trans h4⟩
theorem Flds.more {w : World} {X X' n : Nat} {A : Option Addr} {fs : List (Int × ByteArray)} (h : Flds w X A n fs) (hX : X ≤ X') : Flds w X' A n fs := fun k hk => by
  obtain ⟨b, o, h1, h2, h3, h4⟩ := h k hk
  exact ⟨b, o, h1, Nat.lt_of_lt_of_le h2 hX, h3, h4⟩
theorem Flds.later {w w' : World} {n : Nat} {A : Option Addr} {fs : List (Int × ByteArray)} (h : Flds w w.heap.size A n fs) (hb : Below w.heap.size w w') : Flds w' w'.heap.size A n fs := (h.below hb).more hb.size
/-- the cells of a row of fields -/
def fldCell (fs : List (Int × ByteArray)) (j : Nat) : Value := if j % 2 = 0 then .int .i64 (fT fs (j / 2)) else .string (fV fs (j / 2))
theorem fldCell_tag (fs : List (Int × ByteArray)) (k : Nat) : fldCell fs (k * 2) = .int .i64 (fT fs k) := by
  rw [fldCell, if_pos (by omega), show k * 2 / 2 = k by omega]
theorem fldCell_val (fs : List (Int × ByteArray)) (k : Nat) : fldCell fs (k * 2 + 1) = .string (fV fs k) := by
  rw [fldCell, if_neg (by omega), show (k * 2 + 1) / 2 = k by omega]
theorem Flds.of_row {w : World} {g M n : Nat} {t : TypeId} {f : Nat → Value} {fs : List (Int × ByteArray)} (h : w.rowIs g t M f) (hM : n * 2 ≤ M) (hf : ∀ j, j < n * 2 → f j = fldCell fs j) : Flds w w.heap.size (some ⟨g, 0, none⟩) n fs := fun k hk => by
  refine ⟨g, 0, rfl, h.lt, ?_, ?_⟩
  · rw [Nat.zero_add, h.cell (i := k * 2) (by omega), hf _ (by omega), fldCell_tag]
  · rw [Nat.zero_add, h.cell (i := k * 2 + 1) (by omega), hf _ (by omega), fldCell_val]
def bAtOk (v : ByteArray) (k : Nat) : Bool := if h : k < v.size then inB 32 (v[k].toNat) 126 else true
def valTo (v : ByteArray) : Nat → Bool
  | 0 => true
  | k + 1 => valTo v k && bAtOk v k
def valB (v : ByteArray) : Bool := decide (v.size ≤ 20) && valTo v v.size
def fldB (t : Int) (v : ByteArray) : Bool := inB 1 t 9999 && (!decide (t = 10) && valB v)
def fldTo (fs : List (Int × ByteArray)) : Nat → Bool
  | 0 => true
  | k + 1 => fldTo fs k && fldB (fT fs k) (fV fs k)
def fldsB (fs : List (Int × ByteArray)) (n : Nat) : Bool := decide (n ≤ 20) && fldTo fs n
theorem bAtOk_at {v : ByteArray} {k : Nat} (h : k < v.size) : bAtOk v k = inB 32 (v[k].toNat) 126 := by rw [bAtOk, dif_pos h]
theorem valTo_no {v : ByteArray} {k : Nat} (h : bAtOk v k = false) : ∀ n, k < n → valTo v n = false
  | 0, hk => absurd hk (Nat.not_lt_zero k)
  | n + 1, hk => by
    rw [valTo]
    rcases Nat.lt_or_ge k n with hlt | hge
    · rw [valTo_no h n hlt]; rfl
    · obtain rfl : k = n := by omega
      rw [h, Bool.and_false]
theorem fldTo_no {fs : List (Int × ByteArray)} {k : Nat} (h : fldB (fT fs k) (fV fs k) = false) : ∀ n, k < n → fldTo fs n = false
  | 0, hk => absurd hk (Nat.not_lt_zero k)
  | n + 1, hk => by
    rw [fldTo]
    rcases Nat.lt_or_ge k n with hlt | hge
    · rw [fldTo_no h n hlt]; rfl
    · obtain rfl : k = n := by omega
      rw [h, Bool.and_false]
set_option maxHeartbeats 400000 in
theorem impl_valOk (v : ByteArray) (w : World) (hv : v.size ≤ maxLen) :
    Calls Tryd.prog 56 #[.string v] w fun e w' => e = .returned (.bool (valB v)) ∧ w = w' := by
  unfold maxLen at hv
  by_cases h20 : v.size ≤ 20
  · go_enter Tryd.func56, Tryd.ntmps56
    go_wp2_with fail
    go_loop [9] (fun i => ∃ k : Nat, k ≤ v.size ∧ i = .int .i64 (k : Int) ∧ Hid (valTo v k = true)) (fun i => v.size - (intOf i).toNat)
    case atStart => exact ⟨0, Nat.zero_le _, rfl, rfl⟩
    case round =>
      obtain ⟨k, hk, rfl, ht⟩ := hrel
      by_cases hlt : k < v.size
      · have hu := v[k].toNat_lt
        have hq := Lib.hid (bAtOk_at hlt)
        rcases Bool.eq_false_or_eq_true (bAtOk v k) with hq1 | hq1
        · have H1 : Hid (valTo v (k + 1) = true) := by show _ = _; rw [valTo, ht.out, hq1]; rfl
          have Hq : Hid (inB 32 (v[k].toNat) 126 = true) := Lib.hid (hq.out.symm.trans hq1)
          clear hq hq1 ht
          go_wp2_with fail
          refine (within_any _ _ _ _).mono ?_
          rw [Hq.out]
          rintro e w1 ⟨rfl, rfl⟩
          go_wp2_with fail
          go_round
          case rel => exact ⟨k + 1, by omega, by go_num, H1⟩
          case measure => simp [intOf]; omega
        · have H1 : Hid (valB v = false) := by show _ = _; rw [valB, valTo_no hq1 _ hlt, Bool.and_false]
          have Hq : Hid (inB 32 (v[k].toNat) 126 = false) := Lib.hid (hq.out.symm.trans hq1)
          clear hq hq1 ht
          go_wp2_with fail
          refine (within_any _ _ _ _).mono ?_
          rw [Hq.out]
          rintro e w1 ⟨rfl, rfl⟩
          go_wp2_with fail
          go_ret
          exact ⟨(by rw [H1.out]; first | done | rfl), rfl⟩
      · obtain rfl : k = v.size := by omega
        have H1 : Hid (valB v = true) := by show _ = _; rw [valB, ht.out, decide_eq_true h20]; rfl
        clear ht
        go_wp2_with fail
        go_ret
        exact ⟨(by rw [H1.out]; first | done | rfl), rfl⟩
  · have H1 : Hid (valB v = false) := by show _ = _; rw [valB, decide_eq_false h20]; rfl
    go_enter Tryd.func56, Tryd.ntmps56
    go_wp2_with fail
    go_ret
    exact ⟨(by rw [H1.out]; first | done | rfl), rfl⟩
theorem szField_any (t : Int) (v : ByteArray) (left : Int) (w : World) (hv : v.size ≤ maxLen) (h0 : 0 ≤ left) (h1 : left ≤ 1048576) :
    Calls Tryd.prog 35 #[.agg #[.int .i64 t, .string v], .int .i64 left] w fun e w' => e = .returned (.int .i64 (if left < v.size then -1 else left - v.size)) ∧ Below w.heap.size w w' := by
  unfold maxLen at hv
  by_cases h : left < v.size
  · rw [if_pos h]
    go_enter Tryd.func35, Tryd.ntmps35
    go_wp2_with fail
    go_ret
    refine ⟨rfl, ?_⟩
    go_grown
  · rw [if_neg h]
    go_enter Tryd.func35, Tryd.ntmps35
    go_wp2_with fail
    go_ret
    refine ⟨rfl, ?_⟩
    go_grown
set_option maxHeartbeats 400000 in
/-- what is left by the sizes: it says that neither the list nor a text is too long -/
theorem szFieldS_any (A : Option Addr) (n c : Nat) (fs : List (Int × ByteArray)) (w : World) (hl : Flds w w.heap.size A n fs) (hs : ∀ k, k < n → (fV fs k).size ≤ maxLen) (hn : n ≤ maxLen) :
    Calls Tryd.prog 10 #[.slice A n c, .int .i64 1048576] w fun e w' => (∃ z : Int, e = .returned (.int .i64 z) ∧ (z = -1 ∨ (0 ≤ z ∧ z ≤ 1048576 ∧ n ≤ 1048576 ∧ ∀ k, k < n → (fV fs k).size ≤ 1048576))) ∧ Below w.heap.size w w' := by
  unfold maxLen at hn
  by_cases hb : 1048576 < n
  · go_enter Tryd.func10, Tryd.ntmps10
    go_wp2_with fail
    go_ret
    exact ⟨⟨-1, rfl, Or.inl rfl⟩, Below.refl _ _⟩
  · go_enter Tryd.func10, Tryd.ntmps10
    go_wp2_with fail
    go_loopw [1, 5] (fun lv i wr => ∃ (k : Nat) (z : Int), k ≤ n ∧ i = .int .i64 (k : Int) ∧ lv = .int .i64 z ∧ 0 ≤ z ∧ z ≤ 1048576 ∧ Hid (∀ j, j < k → (fV fs j).size ≤ 1048576) ∧ Below w.heap.size w wr) (fun _ i _ => n - (intOf i).toNat)
    case atStart => exact ⟨0, (1048576 : Int) - n, Nat.zero_le _, rfl, rfl, by omega, by omega, Lib.hid (fun j hj => absurd hj (Nat.not_lt_zero j)), Below.refl _ _⟩
    case round =>
      obtain ⟨k, z, hk, rfl, rfl, hz0, hz1, hsz, hbel⟩ := hrel
      by_cases hlt : k < n
      · obtain ⟨b, o, rfl, hbX, q0, q1⟩ := (hl.below hbel) k hlt
        have hv := hs k hlt
        clear hl hs
        go_wp2_with fail
        refine (szField_any _ _ z _ hv hz0 hz1).mono ?_
        by_cases hzv : z < (fV fs k).size
        · rw [if_pos hzv]
          rintro e w1 ⟨rfl, hb1⟩
          clear q0 q1 hv hzv
          go_wp2_with fail
          go_ret
          exact ⟨⟨-1, rfl, Or.inl rfl⟩, below_later hbel hb1⟩
        · rw [if_neg hzv]
          rintro e w1 ⟨rfl, hb1⟩
          have H : Hid (∀ j, j < k + 1 → (fV fs j).size ≤ 1048576) := Lib.hid (fun j hj => by
            rcases Nat.lt_or_ge j k with h | h
            · exact hsz.out j h
            · obtain rfl : j = k := by omega
              omega)
          obtain ⟨z', hz'⟩ : ∃ z' : Int, z - (fV fs k).size = z' := ⟨_, rfl⟩
          rw [hz']
          have hz'0 : 0 ≤ z' := by omega
          have hz'1 : z' ≤ 1048576 := by omega
          clear q0 q1 hv hzv hz' hsz hz0 hz1
          go_wp2_with fail
          go_roundw
          case rel => exact ⟨k + 1, z', by omega, by go_num, rfl, hz'0, hz'1, H, below_later hbel hb1⟩
          case measure => simp [intOf]; omega
      · obtain rfl : k = n := by omega
        go_wp2_with fail
        go_ret
        exact ⟨⟨z, rfl, Or.inr ⟨hz0, hz1, by omega, hsz.out⟩⟩, hbel⟩
set_option maxRecDepth 100000 in
theorem toField_any (t : Int) (v : ByteArray) (w : World) :
    Calls Tryd.prog 37 #[.agg #[.int .i64 t, .string v]] w fun x w' => x = .returned (.agg #[.int .i64 t, .string v]) ∧ Below w.heap.size w w' := by
  go_enter Tryd.func37, Tryd.ntmps37
  go_wp2
  refine bodyPost_ret (v := .agg #[.int .i64 t, .string v]) (by simp [results, Tryd.results37, go_sem]) rfl ⟨rfl, ?_⟩
  go_grown
set_option maxRecDepth 100000 in
theorem eqField_one (t : Int) (v : ByteArray) (w : World) :
    Calls Tryd.prog 40 #[.agg #[.int .i64 t, .string v], .agg #[.int .i64 t, .string v]] w fun x w' => x = .returned (.bool true) ∧ Below w.heap.size w w' := by
  go_enter Tryd.func40, Tryd.ntmps40
  go_wp2_with fail
  go_ret
  refine ⟨rfl, ?_⟩
  go_grown
theorem field_info : (Tryd.prog.info? 50).map (fun i => (i.zero, i.size, i.bytes)) = some (some (.agg #[.int .i64 0, .string ⟨#[]⟩]), 2, 24) := by kernel_rfl
def zfCell (j : Nat) : Value := if j % 2 = 0 then .int .i64 0 else .string ⟨#[]⟩
/-- the first k fields are laid, the others are zero -/
def fldUp (fs : List (Int × ByteArray)) (k j : Nat) : Value := if j < k * 2 then fldCell fs j else zfCell j
theorem rowIs_field {w : World} {g m k : Nat} {t : TypeId} {fs : List (Int × ByteArray)} (h : w.rowIs g t m (fldUp fs k)) :
    ((w.setCell ⟨g, k * 2, none⟩ (.int .i64 (fT fs k))).setCell ⟨g, k * 2 + 1, none⟩ (.string (fV fs k))).rowIs g t m (fldUp fs (k + 1)) :=
  ((h.set _ _).set _ _).congr fun j _ => by
    simp only [fldUp]
    rcases (show j < k * 2 ∨ j = k * 2 ∨ j = k * 2 + 1 ∨ k * 2 + 2 ≤ j from by omega) with hj | rfl | rfl | hj
    · rw [if_neg (by omega), if_neg (by omega), if_pos hj, if_pos (by omega)]
    · rw [if_neg (by omega), if_pos rfl, if_pos (by omega), fldCell_tag]
    · rw [if_pos rfl, if_pos (by omega), fldCell_val]
    · rw [if_neg (by omega), if_neg (by omega), if_neg (by omega), if_neg (by omega)]
set_option linter.unusedSimpArgs false in
set_option maxHeartbeats 1600000 in
set_option maxRecDepth 100000 in
theorem eqFieldS_same (A B : Option Addr) (n c d : Nat) (fs : List (Int × ByteArray)) (w : World) (hA : Flds w w.heap.size A n fs) (hB : Flds w w.heap.size B n fs) (hn : n ≤ 1048576) :
    Calls Tryd.prog 14 #[.slice A n c, .slice B n d] w fun e w' => e = .returned (.bool true) ∧ Below w.heap.size w w' := by
  go_enter Tryd.func14, Tryd.ntmps14
  go_wp2_with fail
  go_loopw [5] (fun i wr => ∃ k : Nat, k ≤ n ∧ i = .int .i64 (k : Int) ∧ Below w.heap.size w wr) (fun i _ => n - (intOf i).toNat)
  case atStart => exact ⟨0, Nat.zero_le _, rfl, Below.refl _ _⟩
  case round =>
    obtain ⟨k, hk, rfl, hbel⟩ := hrel
    by_cases hlt : k < n
    · obtain ⟨b, o, rfl, hb, q0, q1⟩ := hA k hlt
      obtain ⟨b', o', rfl, hb', q0', q1'⟩ := hB k hlt
      have p0 := (hbel.cell (p := ⟨b, o + k * 2, none⟩) hb).trans q0
      have p1 := (hbel.cell (p := ⟨b, o + k * 2 + 1, none⟩) hb).trans q1
      have p2 := (hbel.cell (p := ⟨b', o' + k * 2, none⟩) hb').trans q0'
      have p3 := (hbel.cell (p := ⟨b', o' + k * 2 + 1, none⟩) hb').trans q1'
      clear hA hB
      have hb1 := hbel.size
      go_upto_region 6 with fail
      refine wp_region_held_drew (S := (fun w' => Below w.heap.size w w' ∧ w'.cell? ⟨b, o + k * 2, none⟩ = some (.int .i64 (fT fs k)) ∧ w'.cell? ⟨b, o + k * 2 + 1, none⟩ = some (.string (fV fs k)) ∧ w'.cell? ⟨b', o' + k * 2, none⟩ = some (.int .i64 (fT fs k)) ∧ w'.cell? ⟨b', o' + k * 2 + 1, none⟩ = some (.string (fV fs k)))) (by kernel_rfl) ?hSq1xs (fun hHeld => ?restq1xs)
      case hSq1xs => ((first | assumption | ((((try dsimp only); repeat' apply And.intro) <;> (first | assumption | (refine below_later ?_ (by assumption); first | assumption | (simp only [*]; done) | (go_grown; done)) | (refine cell_later (by assumption) ?_; first | assumption | (simp only [*]; done) | (simp [go_sem]; done)) | (go_grown; done) | (simp [go_sem]; done))))))
      refine wpAnyH_take (i := 0) (oi := ?oiq1x1) (v := ?vq1x1) ?hiq1x1 (by kernel_rfl) (by kernel_rfl) (by kernel_rfl) ?hQq1x1 (Or.inl ⟨?hwq1x1, ?hyq1x1⟩) (by assumption) ?restq1x1
      case hiq1x1 => simp only [List.getElem?_toArray, List.getElem?_cons_succ, List.getElem?_cons_zero]; exact rfl
      case hQq1x1 => exact fun _ _ _ h => h
      case hwq1x1 => rfl
      case hyq1x1 => ((intro w hSw; (try dsimp only at hSw); go_simp) <;> with_reducible rfl)
      try simp only [Act.put, List.setIfInBounds_toArray, List.set_cons_zero, List.set_cons_succ]
      refine wpAnyH_take (i := 1) (oi := ?oiq1x2) (v := ?vq1x2) ?hiq1x2 (by kernel_rfl) (by kernel_rfl) (by kernel_rfl) ?hQq1x2 (Or.inl ⟨?hwq1x2, ?hyq1x2⟩) (by assumption) ?restq1x2
      case hiq1x2 => simp only [List.getElem?_toArray, List.getElem?_cons_succ, List.getElem?_cons_zero]; exact rfl
      case hQq1x2 => exact fun _ _ _ h => h
      case hwq1x2 => rfl
      case hyq1x2 => ((intro w hSw; (try dsimp only at hSw); go_simp) <;> with_reducible rfl)
      try simp only [Act.put, List.setIfInBounds_toArray, List.set_cons_zero, List.set_cons_succ]
      refine wpAnyH_take (i := 2) (oi := ?oiq1x3) (v := ?vq1x3) ?hiq1x3 (by kernel_rfl) (by kernel_rfl) (by kernel_rfl) ?hQq1x3 (Or.inl ⟨?hwq1x3, ?hyq1x3⟩) (by assumption) ?restq1x3
      case hiq1x3 => simp only [List.getElem?_toArray, List.getElem?_cons_succ, List.getElem?_cons_zero]; exact rfl
      case hQq1x3 => exact fun _ _ _ h => h
      case hwq1x3 => rfl
      case hyq1x3 => ((intro w hSw; (try dsimp only at hSw); go_simp) <;> with_reducible rfl)
      try simp only [Act.put, List.setIfInBounds_toArray, List.set_cons_zero, List.set_cons_succ]
      refine wpAnyH_take (i := 3) (oi := ?oiq1x4) (v := ?vq1x4) ?hiq1x4 (by kernel_rfl) (by kernel_rfl) (by kernel_rfl) ?hQq1x4 (Or.inl ⟨?hwq1x4, ?hyq1x4⟩) (by assumption) ?restq1x4
      case hiq1x4 => simp only [List.getElem?_toArray, List.getElem?_cons_succ, List.getElem?_cons_zero]; exact rfl
      case hQq1x4 => exact fun _ _ _ h => h
      case hwq1x4 => rfl
      case hyq1x4 => ((intro w hSw; (try dsimp only at hSw); go_simp) <;> with_reducible rfl)
      try simp only [Act.put, List.setIfInBounds_toArray, List.set_cons_zero, List.set_cons_succ]
      refine wpAnyH_take (i := 4) (oi := ?oiq1x5) (v := ?vq1x5) ?hiq1x5 (by kernel_rfl) (by kernel_rfl) (by kernel_rfl) ?hQq1x5 (Or.inl ⟨?hwq1x5, ?hyq1x5⟩) (by assumption) ?restq1x5
      case hiq1x5 => simp only [List.getElem?_toArray, List.getElem?_cons_succ, List.getElem?_cons_zero]; exact rfl
      case hQq1x5 => exact fun _ _ _ h => h
      case hwq1x5 => rfl
      case hyq1x5 => ((intro w hSw; (try dsimp only at hSw); go_simp) <;> with_reducible rfl)
      try simp only [Act.put, List.setIfInBounds_toArray, List.set_cons_zero, List.set_cons_succ]
      refine wpAnyH_take (i := 5) (oi := ?oiq1x6) (v := ?vq1x6) ?hiq1x6 (by kernel_rfl) (by kernel_rfl) (by kernel_rfl) ?hQq1x6 (Or.inl ⟨?hwq1x6, ?hyq1x6⟩) (by assumption) ?restq1x6
      case hiq1x6 => simp only [List.getElem?_toArray, List.getElem?_cons_succ, List.getElem?_cons_zero]; exact rfl
      case hQq1x6 => exact fun _ _ _ h => h
      case hwq1x6 => rfl
      case hyq1x6 => ((intro w hSw; (try dsimp only at hSw); go_simp) <;> with_reducible rfl)
      try simp only [Act.put, List.setIfInBounds_toArray, List.set_cons_zero, List.set_cons_succ]
      refine wpAnyH_take (i := 6) (oi := ?oiq1x7) (v := ?vq1x7) ?hiq1x7 (by kernel_rfl) (by kernel_rfl) (by kernel_rfl) ?hQq1x7 (Or.inl ⟨?hwq1x7, ?hyq1x7⟩) (by assumption) ?restq1x7
      case hiq1x7 => simp only [List.getElem?_toArray, List.getElem?_cons_succ, List.getElem?_cons_zero]; exact rfl
      case hQq1x7 => exact fun _ _ _ h => h
      case hwq1x7 => rfl
      case hyq1x7 => ((intro w hSw; (try dsimp only at hSw); go_simp) <;> with_reducible rfl)
      try simp only [Act.put, List.setIfInBounds_toArray, List.set_cons_zero, List.set_cons_succ]
      refine wpAnyH_take (i := 7) (oi := ?oiq1x8) (v := ?vq1x8) ?hiq1x8 (by kernel_rfl) (by kernel_rfl) (by kernel_rfl) ?hQq1x8 (Or.inl ⟨?hwq1x8, ?hyq1x8⟩) (by assumption) ?restq1x8
      case hiq1x8 => simp only [List.getElem?_toArray, List.getElem?_cons_succ, List.getElem?_cons_zero]; exact rfl
      case hQq1x8 => exact fun _ _ _ h => h
      case hwq1x8 => rfl
      case hyq1x8 => ((intro w hSw; (try dsimp only at hSw); go_simp) <;> with_reducible rfl)
      try simp only [Act.put, List.setIfInBounds_toArray, List.set_cons_zero, List.set_cons_succ]
      refine wpAnyH_ready (rs := [8]) (by kernel_rfl) (by simp) ?_
      refine AllReadyH.cons (o := ?oq1x9) ?hoq1x9 (fun K hK => ?stepq1x9) ?moreq1x9
      case hoq1x9 => simp only [List.getElem?_toArray, List.getElem?_cons_succ, List.getElem?_cons_zero]; exact rfl
      case moreq1x9 => exact AllReadyH.nil
      go_simp
      (go_at_call 40; refine (eqField_one _ _ _).mono ?_; rintro e w6 ⟨rfl, hb6⟩)
      refine hK.out _ _ ?hSq1x9 (fun hHeld => ?restq1x9)
      case hSq1x9 => ((first | assumption | ((((try dsimp only); repeat' apply And.intro) <;> (first | assumption | (refine below_later ?_ (by assumption); first | assumption | (simp only [*]; done) | (go_grown; done)) | (refine cell_later (by assumption) ?_; first | assumption | (simp only [*]; done) | (simp [go_sem]; done)) | (go_grown; done) | (simp [go_sem]; done))))))
      clear hK K
      try simp only [Act.put, List.setIfInBounds_toArray, List.set_cons_zero, List.set_cons_succ]
      refine wpAnyH_take (i := 9) (oi := ?oiq1x10) (v := ?vq1x10) ?hiq1x10 (by kernel_rfl) (by kernel_rfl) (by kernel_rfl) ?hQq1x10 (Or.inl ⟨?hwq1x10, ?hyq1x10⟩) (by assumption) ?restq1x10
      case hiq1x10 => simp only [List.getElem?_toArray, List.getElem?_cons_succ, List.getElem?_cons_zero]; exact rfl
      case hQq1x10 => exact fun _ _ _ h => h
      case hwq1x10 => rfl
      case hyq1x10 => ((intro w hSw; (try dsimp only at hSw); go_simp) <;> with_reducible rfl)
      try simp only [Act.put, List.setIfInBounds_toArray, List.set_cons_zero, List.set_cons_succ]
      refine wpAnyH_done (by kernel_rfl) ?_ _
      obtain ⟨hbel, -, -, -, -⟩ := hHeld
      go_wp2_with fail
      go_roundw
      case rel => exact ⟨k + 1, by omega, by go_num, hbel⟩
      case measure => simp [intOf]; omega
    · obtain rfl : k = n := by omega
      go_wp2_with fail
      go_ret
      exact ⟨rfl, hbel⟩
theorem rows_made_any {w : World} (z : Array Value) (n : Nat) (t : TypeId) (f : Nat → Value) (hf : ∀ i, i < n → z[i % z.size]? = some (f i)) : (w.alloc (.cells (madeCells z n) t)).rowIs w.heap.size t n f :=
  ⟨_, heap_alloc_new w _, size_madeCells _ _, fun i hi => by
    simp only [madeCells, Array.getElem?_map, Array.getElem?_range, hi, if_true, Option.map_some]
    rw [Array.getElem!_eq_getD, Array.getD_eq_getD_getElem?, hf i hi]
    rfl⟩
theorem zfCell_at (i : Nat) : (#[.int .i64 0, .string ⟨#[]⟩] : Array Value)[i % (#[.int .i64 0, .string ⟨#[]⟩] : Array Value).size]? = some (zfCell i) := by
  have h : i % 2 = 0 ∨ i % 2 = 1 := by omega
  show (#[.int .i64 0, .string ⟨#[]⟩] : Array Value)[i % 2]? = _
  rcases h with h | h <;> rw [h] <;> simp [zfCell, h]
set_option maxHeartbeats 1600000 in
set_option maxRecDepth 100000 in
theorem toFieldS_any (A : Option Addr) (n c : Nat) (fs : List (Int × ByteArray)) (w : World) (hl : Flds w w.heap.size A n fs) (hn : n ≤ 1048576) :
    Calls Tryd.prog 12 #[.slice A n c] w fun e w' => e = .returned (.slice (some ⟨w.heap.size, 0, none⟩) n n) ∧ w'.rowIs w.heap.size 50 (n * 2) (fldCell fs) ∧ Below w.heap.size w w' := by
  obtain ⟨i0, hi, hz0, hz1, hz2⟩ := info_parts field_info
  have hmk := fun (w : World) => run_make_rows (P := Tryd.prog) w 25 50 i0 _ 2 24 Tryd.underlying25 hi hz0 hz1 hz2 .i64 .i64 n (by omega) (by omega)
  have hrow0 := rows_made_any (w := w) #[.int .i64 0, .string ⟨#[]⟩] (n * 2) 50 zfCell (fun i _ => zfCell_at i)
  have hbel0 : Below w.heap.size w (w.alloc (.cells (madeCells #[.int .i64 0, .string ⟨#[]⟩] (n * 2)) 50)) := (Below.refl _ _).alloc (Nat.le_refl _) _
  go_enter Tryd.func12, Tryd.ntmps12
  go_wp2
  go_loopw [4] (fun i wr => ∃ k : Nat, k ≤ n ∧ i = .int .i64 (k : Int) ∧ wr.rowIs w.heap.size 50 (n * 2) (fldUp fs k) ∧ Below w.heap.size w wr) (fun i _ => n - (intOf i).toNat)
  case atStart => exact ⟨0, Nat.zero_le _, rfl, hrow0.congr (fun j _ => by simp [fldUp]), hbel0⟩
  case round =>
    obtain ⟨k, hk, rfl, hrow, hbel⟩ := hrel
    by_cases hlt : k < n
    · obtain ⟨b, o, rfl, hb, c0, c1⟩ := (hl.below hbel) k hlt
      go_wp2_with fail
      refine (toField_any _ _ _).mono ?_
      rintro e w1 ⟨rfl, hb1⟩
      have hrow1 := hrow.of_block (hb1.block _ hrow.lt)
      have hbel1 : Below w.heap.size w w1 := hbel.trans (hb1.mono hbel.size)
      have d0 : w1.cell? ⟨w.heap.size, k * 2, none⟩ = _ := hrow1.cell (i := k * 2) (by omega)
      have d1 : w1.cell? ⟨w.heap.size, k * 2 + 1, none⟩ = _ := hrow1.cell (i := k * 2 + 1) (by omega)
      have z := hrow1.frozen
      clear hb1 hrow hbel
      go_wp2_with fail
      go_roundw
      case rel =>
        have hp := rowIs_field hrow1
        have hq := (hbel1.setCell (p := ⟨w.heap.size, k * 2, none⟩) (Nat.le_refl w.heap.size) (.int .i64 (fT fs k))).setCell (p := ⟨w.heap.size, k * 2 + 1, none⟩) (Nat.le_refl w.heap.size) (.string (fV fs k))
        exact ⟨k + 1, by omega, by go_num, hp, hq⟩
      case measure => simp [intOf]; omega
    · obtain rfl : k = n := by omega
      go_wp2_with fail
      go_ret
      exact ⟨rfl, hrow.congr (fun j hj => by simp only [fldUp]; rw [if_pos hj]), hbel⟩
theorem fldB_yes {t : Int} {v : ByteArray} (h1 : inB 1 t 9999 = true) (h2 : ¬ t = 10) (h3 : valB v = true) : fldB t v = true := by simp [fldB, h1, h2, h3]
theorem fldB_no1 {t : Int} {v : ByteArray} (h1 : inB 1 t 9999 = false) : fldB t v = false := by simp [fldB, h1]
theorem fldB_no2 {t : Int} {v : ByteArray} (h2 : t = 10) : fldB t v = false := by simp [fldB, h2]
theorem fldB_no3 {t : Int} {v : ByteArray} (h3 : valB v = false) : fldB t v = false := by simp [fldB, h3]
theorem fldsB_no {fs : List (Int × ByteArray)} {n k : Nat} (h : fldB (fT fs k) (fV fs k) = false) (hk : k < n) : fldsB fs n = false := by rw [fldsB, fldTo_no h n hk, Bool.and_false]
theorem fldTo_step {fs : List (Int × ByteArray)} {k : Nat} (h : fldTo fs k = true) (h1 : fldB (fT fs k) (fV fs k) = true) : fldTo fs (k + 1) = true := by rw [fldTo, h, h1]; rfl
set_option maxHeartbeats 800000 in
set_option maxRecDepth 100000 in
theorem impl_FieldsOk (A : Option Addr) (n c : Nat) (fs : List (Int × ByteArray)) (w : World) (hl : Flds w w.heap.size A n fs) (hs : ∀ k, k < n → (fV fs k).size ≤ maxLen) (hn : n ≤ 1048576) :
    Calls Tryd.prog 28 #[.slice A n c] w fun e w' => e = .returned (.bool (fldsB fs n)) ∧ Below w.heap.size w w' := by
  by_cases h20 : n ≤ 20
  · go_enter Tryd.func28, Tryd.ntmps28
    go_wp2_with fail
    go_loopw [10] (fun i wr => ∃ k : Nat, k ≤ n ∧ i = .int .i64 (k : Int) ∧ Hid (fldTo fs k = true) ∧ Below w.heap.size w wr) (fun i _ => n - (intOf i).toNat)
    case atStart => exact ⟨0, Nat.zero_le _, rfl, rfl, Below.refl _ _⟩
    case round =>
      obtain ⟨k, hk, rfl, ht, hbel⟩ := hrel
      by_cases hlt : k < n
      · obtain ⟨b, o, rfl, hb, c0, c1⟩ := (hl.below hbel) k hlt
        have hv := hs k hlt
        have hba := hbel.alloc hbel.size (.cells #[.int .i64 (fT fs k), .string (fV fs k)] 50)
        clear hl hs
        rcases Bool.eq_false_or_eq_true (inB 1 (fT fs k) 9999) with h1 | h1
        · by_cases h2 : fT fs k = 10
          · have H := Lib.hid (fldsB_no (fldB_no2 (v := fV fs k) h2) hlt)
            clear ht
            go_wp2_with fail
            refine (within_any _ _ _ _).mono ?_
            rw [show inB 1 10 9999 = true from rfl]
            rintro e w1 ⟨rfl, rfl⟩
            rw [h2] at hba
            go_wp2_with fail
            go_ret
            exact ⟨(by rw [H.out]; first | done | rfl), hba⟩
          · rcases Bool.eq_false_or_eq_true (valB (fV fs k)) with h3 | h3
            · have H := Lib.hid (fldTo_step ht.out (fldB_yes h1 h2 h3))
              clear ht
              go_wp2_with fail
              refine (within_any _ _ _ _).mono ?_
              rw [h1]
              rintro e w1 ⟨rfl, rfl⟩
              go_wp2_with fail
              refine (impl_valOk _ _ hv).mono ?_
              rw [h3]
              rintro e w1 ⟨rfl, rfl⟩
              go_wp2_with fail
              go_roundw
              case rel => exact ⟨k + 1, by omega, by go_num, H, hba⟩
              case measure => simp [intOf]; omega
            · have H := Lib.hid (fldsB_no (fldB_no3 (t := fT fs k) h3) hlt)
              clear ht
              go_wp2_with fail
              refine (within_any _ _ _ _).mono ?_
              rw [h1]
              rintro e w1 ⟨rfl, rfl⟩
              go_wp2_with fail
              refine (impl_valOk _ _ hv).mono ?_
              rw [h3]
              rintro e w1 ⟨rfl, rfl⟩
              go_wp2_with fail
              go_ret
              exact ⟨(by rw [H.out]; first | done | rfl), hba⟩
        · have H := Lib.hid (fldsB_no (fldB_no1 (v := fV fs k) h1) hlt)
          clear ht
          go_wp2_with fail
          refine (within_any _ _ _ _).mono ?_
          rw [h1]
          rintro e w1 ⟨rfl, rfl⟩
          go_wp2_with fail
          go_ret
          exact ⟨(by rw [H.out]; first | done | rfl), hba⟩
      · obtain rfl : k = n := by omega
        have H : Hid (fldsB fs k = true) := Lib.hid (by rw [fldsB, ht.out, decide_eq_true h20]; rfl)
        clear ht
        go_wp2_with fail
        go_ret
        exact ⟨(by rw [H.out]; first | done | rfl), hbel⟩
  · have H : Hid (fldsB fs n = false) := Lib.hid (by rw [fldsB, decide_eq_false h20]; rfl)
    go_enter Tryd.func28, Tryd.ntmps28
    go_wp2_with fail
    go_ret
    exact ⟨(by rw [H.out]; first | done | rfl), Below.refl _ _⟩
set_option maxHeartbeats 1600000 in
set_option maxRecDepth 100000 in
theorem spec_FieldsOk (A : Option Addr) (n c : Nat) (fs : List (Int × ByteArray)) (w : World) (hl : Flds w w.heap.size A n fs) (hs : ∀ k, k < n → (fV fs k).size ≤ maxLen) (hn : n ≤ 1048576) :
    Calls Tryd.prog 29 #[.slice A n c] w fun e w' => e = .returned (.bool (fldsB fs n)) ∧ w = w' := by
  unfold maxLen at hs
  go_enter Tryd.func29, Tryd.ntmps29
  go_wp2_with fail
  go_loop [3] (fun i => ∃ k : Nat, k ≤ n ∧ i = .int .i64 (k : Int) ∧ Hid (fldTo fs k = true)) (fun i => n - (intOf i).toNat)
  case atStart => exact ⟨0, Nat.zero_le _, rfl, rfl⟩
  case round =>
    obtain ⟨k, hk, rfl, ht⟩ := hrel
    by_cases hlt : k < n
    · obtain ⟨b, o, rfl, hb, c0, c1⟩ := hl k hlt
      have hv := hs k hlt
      clear hl hs
      rcases Bool.eq_false_or_eq_true (inB 1 (fT fs k) 9999) with h1 | h1
      · by_cases h2 : fT fs k = 10
        · have H := Lib.hid (fldsB_no (fldB_no2 (v := fV fs k) h2) hlt)
          clear ht
          go_wp2_with fail
          refine (l1In_any _ _ _ _).mono ?_
          rw [show inB 1 10 9999 = true from rfl]
          rintro e w1 ⟨rfl, rfl⟩
          go_wp2_with fail
          go_ret
          exact ⟨(by rw [H.out]; first | done | rfl), rfl⟩
        · have t10 : (fT fs k == 10) = false := beq_eq_false_iff_ne.2 h2
          by_cases h3 : (fV fs k).size ≤ 20
          · go_wp2_with fail
            refine (l1In_any _ _ _ _).mono ?_
            rw [h1]
            rintro e w1 ⟨rfl, rfl⟩
            go_wp2_with fail
            go_loop [4] (fun i => ∃ j : Nat, j ≤ (fV fs k).size ∧ i = .int .i64 (j : Int) ∧ Hid (valTo (fV fs k) j = true)) (fun i => (fV fs k).size - (intOf i).toNat)
            case atStart => exact ⟨0, Nat.zero_le _, rfl, rfl⟩
            case round =>
              obtain ⟨j, hj, rfl, hvt⟩ := hrel
              by_cases hjlt : j < (fV fs k).size
              · have hu := (fV fs k)[j].toNat_lt
                have hq := bAtOk_at hjlt
                by_cases ha : (fV fs k)[j].toNat < 32
                · have H := Lib.hid (fldsB_no (fldB_no3 (t := fT fs k) (show valB (fV fs k) = false by rw [valB, valTo_no (hq.trans (inB_no (by omega))) _ hjlt, Bool.and_false])) hlt)
                  clear ht hvt hq
                  go_wp2_with fail
                  go_ret
                  exact ⟨(by rw [H.out]; first | done | rfl), rfl⟩
                · by_cases hc : 126 < (fV fs k)[j].toNat
                  · have H := Lib.hid (fldsB_no (fldB_no3 (t := fT fs k) (show valB (fV fs k) = false by rw [valB, valTo_no (hq.trans (inB_no (by omega))) _ hjlt, Bool.and_false])) hlt)
                    clear ht hvt hq
                    go_wp2_with fail
                    go_ret
                    exact ⟨(by rw [H.out]; first | done | rfl), rfl⟩
                  · have H : Hid (valTo (fV fs k) (j + 1) = true) := Lib.hid (by rw [valTo, hvt.out, hq, inB_yes (by omega) (by omega)]; rfl)
                    clear hvt hq
                    go_wp2_with fail
                    go_round
                    case rel => exact ⟨j + 1, by omega, by go_num, H⟩
                    case measure => simp [intOf]; omega
              · obtain rfl : j = (fV fs k).size := by omega
                have H := Lib.hid (fldTo_step ht.out (fldB_yes h1 h2 (show valB (fV fs k) = true by rw [valB, hvt.out, decide_eq_true h3]; rfl)))
                clear ht hvt
                go_wp2_with fail
                go_round
                case rel => exact ⟨k + 1, by omega, by go_num, H⟩
                case measure => simp [intOf]; omega
          · have H := Lib.hid (fldsB_no (fldB_no3 (t := fT fs k) (show valB (fV fs k) = false by rw [valB, decide_eq_false h3]; rfl)) hlt)
            clear ht
            go_wp2_with fail
            refine (l1In_any _ _ _ _).mono ?_
            rw [h1]
            rintro e w1 ⟨rfl, rfl⟩
            go_wp2_with fail
            go_ret
            exact ⟨(by rw [H.out]; first | done | rfl), rfl⟩
      · have H := Lib.hid (fldsB_no (fldB_no1 (v := fV fs k) h1) hlt)
        clear ht
        go_wp2_with fail
        refine (l1In_any _ _ _ _).mono ?_
        rw [h1]
        rintro e w1 ⟨rfl, rfl⟩
        go_wp2_with fail
        go_ret
        exact ⟨(by rw [H.out]; first | done | rfl), rfl⟩
    · obtain rfl : k = n := by omega
      by_cases h20 : k ≤ 20
      · have H : Hid (fldsB fs k = true) := Lib.hid (by rw [fldsB, ht.out, decide_eq_true h20]; rfl)
        clear ht
        go_wp2_with fail
        go_ret
        exact ⟨(by rw [H.out]; first | done | rfl | (simp; omega)), rfl⟩
      · have H : Hid (fldsB fs k = false) := Lib.hid (by rw [fldsB, decide_eq_false h20]; rfl)
        clear ht
        go_wp2_with fail
        go_ret
        exact ⟨(by rw [H.out]; first | done | rfl | (simp; omega)), rfl⟩
end Go.Proofs.YtidcpijiklpfkaaDoor
