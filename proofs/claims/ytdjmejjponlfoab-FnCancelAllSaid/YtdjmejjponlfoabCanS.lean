/-
  CancelAll of the document.
-/
import Derived.Test.YtdjmejjponlfoabCanM
import Derived.Test.YtdjmejjponlfoabMtL
import Derived.Test.YtdjmejjponlfoabWith
import Derived.Test.YtdjmejjponlfoabBookT
namespace Go.Proofs.Ytdjmejjponlfoab
open Go.RowKit Wire

/-- the orders that are left behind the first k -/
def gP (zs : List Int) (acct : Int) (k : Nat) : Int → Int → Bool := fun i _ => !goneB (fun j => num zs (j * 4)) (fun j => num zs (j * 4 + 1)) acct i k
theorem gP_zero {zs za : List Int} {acct : Int} {n : Nat} (h : za.length = n * 4) : flt (gP zs acct 0) za n = za ∧ fln (gP zs acct 0) za n = n := by
  have := flt_all (zs := za) n (by omega)
  refine ⟨this.1.trans ?_, this.2⟩
  rw [← h, List.take_length]
theorem gP_take {zs za : List Int} {acct : Int} {k n : Nat} (h : num zs (k * 4 + 1) = acct) :
    tkZ (flt (gP zs acct k) za n) (num zs (k * 4)) (fln (gP zs acct k) za n) = flt (gP zs acct (k + 1)) za n ∧ tkN (flt (gP zs acct k) za n) (num zs (k * 4)) (fln (gP zs acct k) za n) = fln (gP zs acct (k + 1)) za n := by
  obtain ⟨h1, h2⟩ := tk_flt (gP zs acct k) za (num zs (k * 4)) n
  obtain ⟨h3, h4⟩ := flt_gone (f := fun j => num zs (j * 4)) (g := fun j => num zs (j * 4 + 1)) (acct := acct) (k := k) (n := n) (zs := za) h
  exact ⟨h1.trans h3, h2.trans h4⟩
theorem gP_skip {zs : List Int} {acct : Int} {k : Nat} (h : ¬ num zs (k * 4 + 1) = acct) : gP zs acct (k + 1) = gP zs acct k := by
  funext i _
  unfold gP
  rw [gone_skip (g := fun j => num zs (j * 4 + 1)) h]
theorem gP_end1 {za zb : List Int} {acct : Int} {n m : Nat} (ha : za.length = n * 4) (hd : distB (idN (za ++ zb)) (n + m) = true) :
    flt (gP (za ++ zb) acct (n + m)) za n = tkZA za acct n ∧ fln (gP (za ++ zb) acct (n + m)) za n = tkNA za acct n := by
  rw [(tkA_flt za acct n).1, (tkA_flt za acct n).2]
  refine flt_congr n fun k hk => ?_
  have e0 : num (za ++ zb) (k * 4) = num za (k * 4) := pnum_lt (by omega)
  have e1 : num (za ++ zb) (k * 4 + 1) = num za (k * 4 + 1) := pnum_lt (by omega)
  have := goneB_end (f := fun j => num (za ++ zb) (j * 4)) (g := fun j => num (za ++ zb) (j * 4 + 1)) (acct := acct) (j := k) (n + m) hd (by omega)
  unfold gP
  rw [e0, e1] at this
  rw [this]
  simp
theorem gP_end2 {za zb : List Int} {acct : Int} {n m : Nat} (ha : za.length = n * 4) (hd : distB (idN (za ++ zb)) (n + m) = true) :
    flt (gP (za ++ zb) acct (n + m)) zb m = tkZA zb acct m ∧ fln (gP (za ++ zb) acct (n + m)) zb m = tkNA zb acct m := by
  rw [(tkA_flt zb acct m).1, (tkA_flt zb acct m).2]
  refine flt_congr m fun k hk => ?_
  have e0 : num (za ++ zb) ((n + k) * 4) = num zb (k * 4) := by rw [Nat.add_mul]; exact pnum_ge ha
  have e1 : num (za ++ zb) ((n + k) * 4 + 1) = num zb (k * 4 + 1) := by rw [Nat.add_mul, Nat.add_assoc]; exact pnum_ge ha
  have := goneB_end (f := fun j => num (za ++ zb) (j * 4)) (g := fun j => num (za ++ zb) (j * 4 + 1)) (acct := acct) (j := n + k) (n + m) hd (by omega)
  unfold gP
  rw [e0, e1] at this
  rw [this]
  simp
/-- the book in its box, the result's cell, all orders, the records -/
structure AlW (w wr : World) (T : Nat) (v1 v2 : Value) (n1 : Nat) (z1 : List Int) (n2 : Nat) (z2 : List Int) (av : Value) (M : Nat) (zs : List Int) (rv : Value) (N : Nat) (R : List Int) : Prop where
  box : wr.heap[T]? = some (.cells #[v1, v2] 26 (0, 0))
  res : wr.heap[w.heap.size + 1]? = some (.cells #[.slice none 0 0, .slice none 0 0] 26 (0, 0))
  rows : TwoRows wr (w.heap.size + 2) v1 n1 z1 v2 n2 z2
  all : wr.ownsRow (w.heap.size + 2) 28 4 av M (nums zs)
  recs : wr.ownsRow (w.heap.size + 2) 41 8 rv N (nums R)
  bel : Below w.heap.size w wr
  far : w.heap.size + 2 ≤ T
section
variable {w wr wx : World} {T n1 n2 M N : Nat} {v1 v2 av rv : Value} {z1 z2 zs R : List Int}
theorem AlW.later (h : AlW w wr T v1 v2 n1 z1 n2 z2 av M zs rv N R) (hb : Below wr.heap.size wr wx) : AlW w wx T v1 v2 n1 z1 n2 z2 av M zs rv N R :=
  ⟨(hb.block _ (heap_lt h.box)).trans h.box, (hb.block _ (heap_lt h.res)).trans h.res, h.rows.below hb, own_below h.all hb, own_below h.recs hb, h.bel.trans (hb.mono h.bel.size), h.far⟩
theorem AlW.drew (h : AlW w wr T v1 v2 n1 z1 n2 z2 av M zs rv N R) : AlW w wr.drew T v1 v2 n1 z1 n2 z2 av M zs rv N R := h.later (Below.refl _ _).drew
theorem AlW.more {rv' : Value} {N' : Nat} {R' : List Int} (h : AlW w wr T v1 v2 n1 z1 n2 z2 av M zs rv N R) (ho : wx.ownsRow (w.heap.size + 2) 41 8 rv' N' (nums R')) (hg : wr.grownBy wx rv.ownBlock) : AlW w wx T v1 v2 n1 z1 n2 z2 av M zs rv' N' R' := by
  have lo : ∀ k, rv.ownBlock = some k → w.heap.size + 2 ≤ k := fun k e => (h.recs.lt k e).1
  have nk : ∀ {n : Nat} {v : Value} {z : List Int}, wr.ownsRow (w.heap.size + 2) 28 4 v n (nums z) → ∀ k, v.ownBlock = some k → rv.ownBlock ≠ some k := fun {n v z} hv k e e' => mt_apart hv h.recs (by decide) k e e'
  have nb : rv.ownBlock ≠ some T := fun e => by
    obtain ⟨c1, f1, g1⟩ := Lib.ownsRow_kind h.recs _ e
    rw [h.box] at g1
    injection g1 with g1
    injection g1 with _ g1
    exact absurd g1 (by decide)
  exact ⟨(hg.block _ (heap_lt h.box) (fun e => nb e.symm)).trans h.box, (hg.block _ (heap_lt h.res) (fun e => by have := lo _ e.symm; omega)).trans h.res,
    ⟨own_apart h.rows.one hg (nk h.rows.one), own_apart h.rows.two hg (nk h.rows.two), h.rows.apart⟩, own_apart h.all hg (nk h.all), ho, h.bel.grown hg h.bel.size (fun k e => by have := lo k e; omega), h.far⟩
/-- another book is stored -/
theorem AlW.put {u1 u2 : Value} {k1 k2 : Nat} {y1 y2 : List Int} (h : AlW w wr T v1 v2 n1 z1 n2 z2 av M zs rv N R) (hr : TwoRows wr (w.heap.size + 2) u1 k1 y1 u2 k2 y2) : AlW w ((wr.setCell ⟨T, 0, none⟩ u1).setCell ⟨T, 1, none⟩ u2) T u1 u2 k1 y1 k2 y2 av M zs rv N R :=
  ⟨mset2 h.box, mset2_other h.res (by have := h.far; omega), ⟨own_set_kind (own_set_kind hr.one h.box (by decide)) (heap_set0 h.box) (by decide), own_set_kind (own_set_kind hr.two h.box (by decide)) (heap_set0 h.box) (by decide), hr.apart⟩,
    own_set_kind (own_set_kind h.all h.box (by decide)) (heap_set0 h.box) (by decide), own_set_kind (own_set_kind h.recs h.box (by decide)) (heap_set0 h.box) (by decide),
    (h.bel.setCell (p := ⟨T, 0, none⟩) (show w.heap.size ≤ T by have := h.far; omega) _).setCell (p := ⟨T, 1, none⟩) (show w.heap.size ≤ T by have := h.far; omega) _, h.far⟩
/-- the result is stored -/
theorem AlW.done (h : AlW w wr T v1 v2 n1 z1 n2 z2 av M zs rv N R) : (((wr.setCell ⟨w.heap.size + 1, 0, none⟩ v1).setCell ⟨w.heap.size + 1, 1, none⟩ v2).cell? ⟨w.heap.size + 1, 0, none⟩ = some v1 ∧ ((wr.setCell ⟨w.heap.size + 1, 0, none⟩ v1).setCell ⟨w.heap.size + 1, 1, none⟩ v2).cell? ⟨w.heap.size + 1, 1, none⟩ = some v2) ∧
    TwoRows ((wr.setCell ⟨w.heap.size + 1, 0, none⟩ v1).setCell ⟨w.heap.size + 1, 1, none⟩ v2) (w.heap.size + 2) v1 n1 z1 v2 n2 z2 ∧ ((wr.setCell ⟨w.heap.size + 1, 0, none⟩ v1).setCell ⟨w.heap.size + 1, 1, none⟩ v2).ownsRow (w.heap.size + 2) 41 8 rv N (nums R) ∧ Below w.heap.size w ((wr.setCell ⟨w.heap.size + 1, 0, none⟩ v1).setCell ⟨w.heap.size + 1, 1, none⟩ v2) :=
  ⟨mcell2 (mset2 h.res), ⟨own_set_kind (own_set_kind h.rows.one h.res (by decide)) (heap_set0 h.res) (by decide), own_set_kind (own_set_kind h.rows.two h.res (by decide)) (heap_set0 h.res) (by decide), h.rows.apart⟩,
    own_set_kind (own_set_kind h.recs h.res (by decide)) (heap_set0 h.res) (by decide), (h.bel.setCell (p := ⟨w.heap.size + 1, 0, none⟩) (show w.heap.size ≤ w.heap.size + 1 by omega) _).setCell (p := ⟨w.heap.size + 1, 1, none⟩) (show w.heap.size ≤ w.heap.size + 1 by omega) _⟩
theorem AlW.ne {b o M' c' : Nat} (h : AlW w wr T v1 v2 n1 z1 n2 z2 (.slice (some ⟨b, o, none⟩) M' c') M zs rv N R) : T ≠ b := fun e => by
  obtain ⟨c1, f1, g1⟩ := Lib.ownsRow_kind h.all b rfl
  rw [← e, h.box] at g1
  injection g1 with g1
  injection g1 with _ g1
  exact absurd g1 (by decide)
end
set_option linter.unusedSimpArgs false in
set_option maxHeartbeats 6400000 in
set_option maxRecDepth 100000 in
theorem spec_l4All (A : Option Addr) (n c : Nat) (B : Option Addr) (m d : Nat) (za zb : List Int) (acct : Int) (w : World) (ha : Lst w w.heap.size 4 A n za) (hb : Lst w w.heap.size 4 B m zb) (hn : n ≤ 20) (hm : m ≤ 20) (hA : A = none → n = 0 ∧ c = 0) (hB : B = none → m = 0 ∧ d = 0) (hdist : distB (idN (za ++ zb)) (n + m) = true) :
    Calls Try.prog 61 #[.agg #[.slice A n c, .slice B m d], .int .i64 acct] w fun e w' => CAns w' w.heap.size true acct za zb n m e ∧ Below w.heap.size w w' := by
  obtain ⟨i0, hi, hz0, hz1, hz2⟩ := info_parts ord_info
  obtain ⟨r0, ri, rz0, rz1, rz2⟩ := info_parts rec_info
  have hlA := ha.1
  have hlB := hb.1
  obtain ⟨k0, k1, k2⟩ := three_blocks w (.cells #[.slice A n c, .slice B m d] 26) (.cells #[.slice none 0 0, .slice none 0 0] 26) (.cells #[] 41)
  have hb0 : Below w.heap.size w (((w.alloc (.cells #[.slice A n c, .slice B m d] 26)).alloc (.cells #[.slice none 0 0, .slice none 0 0] 26)).alloc (.cells #[] 41)) := (((Below.refl _ _).alloc (Nat.le_refl _) _).alloc (by simp) _).alloc (by simp; omega) _
  have hs0 : (((w.alloc (.cells #[.slice A n c, .slice B m d] 26)).alloc (.cells #[.slice none 0 0, .slice none 0 0] 26)).alloc (.cells #[] 41)).heap.size = w.heap.size + 3 := by simp
  have hr0 := own_mono (base' := w.heap.size + 2) (own_empty ((w.alloc (.cells #[.slice A n c, .slice B m d] 26)).alloc (.cells #[.slice none 0 0, .slice none 0 0] 26)) 41 8) (by simp)
  rw [show ((w.alloc (.cells #[.slice A n c, .slice B m d] 26)).alloc (.cells #[.slice none 0 0, .slice none 0 0] 26)).heap.size = w.heap.size + 1 + 1 by simp] at hr0
  obtain ⟨x0, x1⟩ := ccell2 k0
  go_enter Try.func61, Try.ntmps61
  go_wp2_with fail
  generalize (((w.alloc (.cells #[.slice A n c, .slice B m d] 26)).alloc (.cells #[.slice none 0 0, .slice none 0 0] 26)).alloc (.cells #[] 41)) = w0 at *
  refine (spec_l2CopyO A n c B m d za zb w0 (ha.later hb0) (hb.later hb0) (by omega) (by omega) hA hB).mono ?_
  rintro e w1 ⟨⟨u1, u2, rfl, hT, -, -⟩, hb1⟩
  obtain ⟨A1, c1, A2, c2, rfl, rfl⟩ := hT.slices
  have k0 := (hb1.block w.heap.size (by omega)).trans k0
  have k1 := (hb1.block (w.heap.size + 1) (by omega)).trans k1
  replace hr0 := own_below hr0 hb1
  have hs1 : w.heap.size + 3 ≤ w1.heap.size := by have := hb1.size; omega
  have hb2 := hb0.trans (hb1.mono hb0.size)
  replace hT := hT.mono (base' := w.heap.size + 2) (by omega)
  clear hb0 hb1 hs0 x0 x1
  have y := heap_alloc_new w1 (.cells #[.slice A1 n c1, .slice A2 m c2] 26)
  have hbY : Below w1.heap.size w1 (w1.alloc (.cells #[.slice A1 n c1, .slice A2 m c2] 26)) := (Below.refl _ _).alloc (Nat.le_refl _) _
  go_upto_region 3 with fail
  have k0 := (hbY.block w.heap.size (by omega)).trans k0
  have k1 := (hbY.block (w.heap.size + 1) (by omega)).trans k1
  replace hr0 := own_below hr0 hbY
  replace hT := hT.below hbY
  have hb2 := hb2.trans (hbY.mono hb2.size)
  have hlY : w1.heap.size < (w1.alloc (.cells #[.slice A1 n c1, .slice A2 m c2] 26)).heap.size := by simp
  clear hbY
  generalize (w1.alloc (.cells #[.slice A1 n c1, .slice A2 m c2] 26)) = w2 at *
  have ha2 := (ha.below hb2).more hb2.size
  have hbb2 := (hb.below hb2).more hb2.size
  obtain ⟨y0, y1⟩ := ccell2 k0
  have hown0 : (w2.alloc (.cells #[] 28)).drew.ownsRow w2.heap.size 28 4 (.slice (some ⟨w2.heap.size, 0, none⟩) 0 0) 0 [] := ⟨rfl, .inr ⟨w2.heap.size, 0, #[], rfl, Nat.le_refl _, heap_alloc_new w2 _, Nat.le_refl _, Nat.zero_le _, rfl, rfl⟩⟩
  have hba2 : Below w2.heap.size w2 (w2.alloc (.cells #[] 28)) := (Below.refl _ _).alloc (Nat.le_refl _) _
  have q0 := (hba2.cell (p := ⟨w.heap.size, 0, none⟩) (show w.heap.size < w2.heap.size by omega)).trans y0
  have q1 := (hba2.cell (p := ⟨w.heap.size, 1, none⟩) (show w.heap.size < w2.heap.size by omega)).trans y1
  refine wp_region_held_drew (S := (fun w' => Below w2.heap.size w2 w' ∧ w'.cell? ⟨w.heap.size, 0, none⟩ = some (.slice A n c) ∧ w'.cell? ⟨w.heap.size, 1, none⟩ = some (.slice B m d))) (by kernel_rfl) ?hSq1xs (fun hHeld => ?restq1xs)
  case hSq1xs => ((first | assumption | ((((try dsimp only); repeat' apply And.intro) <;> (first | assumption | (refine below_later ?_ (by assumption); first | assumption | (simp only [*]; done) | (go_grown; done)) | (refine cell_later (by assumption) ?_; first | assumption | (simp only [*]; done) | (simp [go_sem]; done)) | (go_grown; done) | (simp [go_sem]; done))))))
  refine wpAnyH_take (i := 1) (oi := ?oiq1x1) (v := ?vq1x1) ?hiq1x1 (by kernel_rfl) (by kernel_rfl) (by kernel_rfl) ?hQq1x1 (Or.inl ⟨?hwq1x1, ?hyq1x1⟩) (by assumption) ?restq1x1
  case hiq1x1 => simp only [List.getElem?_toArray, List.getElem?_cons_succ, List.getElem?_cons_zero]; exact rfl
  case hQq1x1 => exact fun _ _ _ h => h
  case hwq1x1 => rfl
  case hyq1x1 => ((intro w hSw; (try dsimp only at hSw); go_simp) <;> with_reducible rfl)
  try simp only [Act.put, List.setIfInBounds_toArray, List.set_cons_zero, List.set_cons_succ]
  refine wpAnyH_take (i := 2) (oi := ?oiq1x2) (v := ?vq1x2) ?hiq1x2 (by kernel_rfl) (by kernel_rfl) (by kernel_rfl) ?hQq1x2 (Or.inl ⟨?hwq1x2, ?hyq1x2⟩) (by assumption) ?restq1x2
  case hiq1x2 => simp only [List.getElem?_toArray, List.getElem?_cons_succ, List.getElem?_cons_zero]; exact rfl
  case hQq1x2 => exact fun _ _ _ h => h
  case hwq1x2 => rfl
  case hyq1x2 => ((intro w hSw; (try dsimp only at hSw); go_simp) <;> with_reducible rfl)
  try simp only [Act.put, List.setIfInBounds_toArray, List.set_cons_zero, List.set_cons_succ]
  refine wpAnyH_take (i := 4) (oi := ?oiq1x3) (v := ?vq1x3) ?hiq1x3 (by kernel_rfl) (by kernel_rfl) (by kernel_rfl) ?hQq1x3 (Or.inl ⟨?hwq1x3, ?hyq1x3⟩) (by assumption) ?restq1x3
  case hiq1x3 => simp only [List.getElem?_toArray, List.getElem?_cons_succ, List.getElem?_cons_zero]; exact rfl
  case hQq1x3 => exact fun _ _ _ h => h
  case hwq1x3 => rfl
  case hyq1x3 => ((intro w hSw; (try dsimp only at hSw); go_simp) <;> with_reducible rfl)
  try simp only [Act.put, List.setIfInBounds_toArray, List.set_cons_zero, List.set_cons_succ]
  refine wpAnyH_take (i := 5) (oi := ?oiq1x4) (v := ?vq1x4) ?hiq1x4 (by kernel_rfl) (by kernel_rfl) (by kernel_rfl) ?hQq1x4 (Or.inl ⟨?hwq1x4, ?hyq1x4⟩) (by assumption) ?restq1x4
  case hiq1x4 => simp only [List.getElem?_toArray, List.getElem?_cons_succ, List.getElem?_cons_zero]; exact rfl
  case hQq1x4 => exact fun _ _ _ h => h
  case hwq1x4 => rfl
  case hyq1x4 => ((intro w hSw; (try dsimp only at hSw); go_simp) <;> with_reducible rfl)
  try simp only [Act.put, List.setIfInBounds_toArray, List.set_cons_zero, List.set_cons_succ]
  refine wpAnyH_ready (rs := [0]) (by kernel_rfl) (by simp) ?_
  refine AllReadyH.cons (o := ?oq1x5) ?hoq1x5 (fun K hK => ?stepq1x5) ?moreq1x5
  case hoq1x5 => simp only [List.getElem?_toArray, List.getElem?_cons_succ, List.getElem?_cons_zero]; exact rfl
  case moreq1x5 => exact AllReadyH.nil
  go_simp
  skip
  refine hK.out _ _ ?hSq1x5 (fun hHeld => ?restq1x5)
  case hSq1x5 => ((first | assumption | ((((try dsimp only); repeat' apply And.intro) <;> (first | assumption | (refine below_later ?_ (by assumption); first | assumption | (simp only [*]; done) | (go_grown; done)) | (refine cell_later (by assumption) ?_; first | assumption | (simp only [*]; done) | (simp [go_sem]; done)) | (go_grown; done) | (simp [go_sem]; done))))))
  clear hK K
  try simp only [Act.put, List.setIfInBounds_toArray, List.set_cons_zero, List.set_cons_succ]
  refine wpAnyH_ready (rs := [3]) (by kernel_rfl) (by simp) ?_
  refine AllReadyH.cons (o := ?oq1x6) ?hoq1x6 (fun K hK => ?stepq1x6) ?moreq1x6
  case hoq1x6 => simp only [List.getElem?_toArray, List.getElem?_cons_succ, List.getElem?_cons_zero]; exact rfl
  case moreq1x6 => exact AllReadyH.nil
  (refine step_append_ownO _ rfl _ _ 24 rfl w2.heap.size 28 i0 _ 4 32 Try.underlying24 hi hz0 hz1 hz2 rfl (by decide) _ 0 [] rfl hown0 A hA (nums za) rfl (by rw [nums_length]; exact ha2.1) ((ha2.below hHeld.1).newsO) (nums_one _) (by unfold maxLen; omega) (by omega) (hHeld.1.size) ?_; intro v1 wq1 hown1 hgrow1; have hbq1 := hHeld.1.grown hgrow1 (hHeld.1.size) (fun q hq => (hown0.lt q hq).1))
  rw [Nat.zero_add, List.nil_append] at hown1
  refine hK.out _ _ ?hSq1x6 (fun hHeld => ?restq1x6)
  case hSq1x6 => ((first | assumption | ((((try dsimp only); repeat' apply And.intro) <;> (first | assumption | (refine below_later ?_ (by assumption); first | assumption | (simp only [*]; done) | (go_grown; done)) | (refine cell_later (by assumption) ?_; first | assumption | (simp only [*]; done) | (simp [go_sem]; done)) | (go_grown; done) | (simp [go_sem]; done))))))
  clear hK K
  try simp only [Act.put, List.setIfInBounds_toArray, List.set_cons_zero, List.set_cons_succ]
  refine wpAnyH_ready (rs := [6]) (by kernel_rfl) (by simp) ?_
  refine AllReadyH.cons (o := ?oq1x7) ?hoq1x7 (fun K hK => ?stepq1x7) ?moreq1x7
  case hoq1x7 => simp only [List.getElem?_toArray, List.getElem?_cons_succ, List.getElem?_cons_zero]; exact rfl
  case moreq1x7 => exact AllReadyH.nil
  (refine step_append_ownO _ rfl _ _ 24 rfl w2.heap.size 28 i0 _ 4 32 Try.underlying24 hi hz0 hz1 hz2 rfl (by decide) _ n (nums za) rfl hown1 B hB (nums zb) rfl (by rw [nums_length]; exact hbb2.1) ((hbb2.below hHeld.1).newsO) (nums_one _) (by unfold maxLen; omega) (by omega) (hHeld.1.size) ?_; intro v2 wq2 hown2 hgrow2; have hbq2 := hHeld.1.grown hgrow2 (hHeld.1.size) (fun q hq => (hown1.lt q hq).1))
  refine hK.out _ _ ?hSq1x7 (fun hHeld => ?restq1x7)
  case hSq1x7 => ((first | assumption | ((((try dsimp only); repeat' apply And.intro) <;> (first | assumption | (refine below_later ?_ (by assumption); first | assumption | (simp only [*]; done) | (go_grown; done)) | (refine cell_later (by assumption) ?_; first | assumption | (simp only [*]; done) | (simp [go_sem]; done)) | (go_grown; done) | (simp [go_sem]; done))))))
  clear hK K
  try simp only [Act.put, List.setIfInBounds_toArray, List.set_cons_zero, List.set_cons_succ]
  refine wpAnyH_take (i := 7) (oi := ?oiq1x8) (v := ?vq1x8) ?hiq1x8 (by kernel_rfl) (by kernel_rfl) (by kernel_rfl) ?hQq1x8 (Or.inl ⟨?hwq1x8, ?hyq1x8⟩) (by assumption) ?restq1x8
  case hiq1x8 => simp only [List.getElem?_toArray, List.getElem?_cons_succ, List.getElem?_cons_zero]; exact rfl
  case hQq1x8 => exact fun _ _ _ h => h
  case hwq1x8 => rfl
  case hyq1x8 => ((intro w hSw; (try dsimp only at hSw); go_simp) <;> with_reducible rfl)
  try simp only [Act.put, List.setIfInBounds_toArray, List.set_cons_zero, List.set_cons_succ]
  refine wpAnyH_done (by kernel_rfl) ?_ _
  rw [← nums_append] at hown2
  obtain ⟨A3, c3, rfl, _, _⟩ := own_slice hown2
  have hM : AlW w wq2 w1.heap.size (.slice A1 n c1) (.slice A2 m c2) n za m zb (.slice A3 (n + m) c3) (n + m) (za ++ zb) (.slice (some ⟨w.heap.size + 1 + 1, 0, none⟩) 0 0) 0 [] := ⟨(hHeld.1.block _ hlY).trans y, (hHeld.1.block _ (by omega)).trans k1, hT.below hHeld.1, own_mono hown2 (by omega), own_below hr0 hHeld.1, hb2.trans (hHeld.1.mono hb2.size), by omega⟩
  have HD := Lib.hid hdist
  clear hHeld hown2 hgrow2 hgrow1 hown1 hown0 hba2 q0 q1 hbq1 hbq2 y0 y1 y k0 k1 k2 hr0 hT hb2 ha2 hbb2 hdist hi hz0 hz1 hz2 hlY ha hb hA hB
  have hTs : w.heap.size + 2 ≤ w1.heap.size := by omega
  clear hs1
  generalize w1.heap.size = T at *
  go_wp2_with fail
  go_loopw [6, 9] (fun rv i wr => ∃ (k : Nat) (A1 : Option Addr) (c1 : Nat) (A2 : Option Addr) (c2 : Nat) (Ar : Option Addr) (dr : Nat), k ≤ n + m ∧ i = .int .i64 (k : Int) ∧ rv = .slice Ar (gnN (za ++ zb) acct k) dr ∧
    AlW w wr T (.slice A1 (fln (gP (za ++ zb) acct k) za n) c1) (.slice A2 (fln (gP (za ++ zb) acct k) zb m) c2) (fln (gP (za ++ zb) acct k) za n) (flt (gP (za ++ zb) acct k) za n) (fln (gP (za ++ zb) acct k) zb m) (flt (gP (za ++ zb) acct k) zb m) (.slice A3 (n + m) c3) (n + m) (za ++ zb) (.slice Ar (gnN (za ++ zb) acct k) dr) (gnN (za ++ zb) acct k) (gnR (za ++ zb) acct k)) (fun _ i _ => n + m - (intOf i).toNat)
  case atStart =>
    refine ⟨0, A1, c1, A2, c2, some ⟨w.heap.size + 1 + 1, 0, none⟩, 0, Nat.zero_le _, rfl, rfl, ?_⟩
    rw [(gP_zero (zs := za ++ zb) (acct := acct) hlA).1, (gP_zero (zs := za ++ zb) (acct := acct) hlA).2, (gP_zero (zs := za ++ zb) (acct := acct) hlB).1, (gP_zero (zs := za ++ zb) (acct := acct) hlB).2]
    exact hM
  case round =>
    clear hM
    obtain ⟨k, A1, c1, A2, c2, Ar, dr, hk, rfl, rfl, hM⟩ := hrel
    have hf1 := fln_le (gP (za ++ zb) acct k) za n
    have hf2 := fln_le (gP (za ++ zb) acct k) zb m
    have hgk := gnN_le (za ++ zb) acct k
    by_cases hlt : k < n + m
    · obtain ⟨b, o, hax, hbo, c0, c1', c2', c3'⟩ := (Lst.of_own hM.all).row4 hlt
      subst hax
      have hne := hM.ne
      have HG := Lib.hid (show gnR (za ++ zb) acct (k + 1) = if num (za ++ zb) (k * 4 + 1) = acct then gnR (za ++ zb) acct k ++ canR (num (za ++ zb) (k * 4)) (num (za ++ zb) (k * 4 + 1)) (num (za ++ zb) (k * 4 + 2)) (num (za ++ zb) (k * 4 + 3)) else gnR (za ++ zb) acct k from rfl)
      have HN := Lib.hid (show gnN (za ++ zb) acct (k + 1) = if num (za ++ zb) (k * 4 + 1) = acct then gnN (za ++ zb) acct k + 1 else gnN (za ++ zb) acct k from rfl)
      by_cases he : num (za ++ zb) (k * 4 + 1) = acct
      · have HP1 := Lib.hid (gP_take (za := za) (n := n) he)
        have HP2 := Lib.hid (gP_take (za := zb) (n := m) he)
        have HE := Lib.hid he
        have ht : (num (za ++ zb) (k * 4 + 1) == acct) = true := beq_iff_eq.2 he
        clear he
        generalize hN1 : fln (gP (za ++ zb) acct k) za n = N1 at *
        generalize hN2 : fln (gP (za ++ zb) acct k) zb m = N2 at *
        generalize hZ1 : flt (gP (za ++ zb) acct k) za n = Z1 at *
        generalize hZ2 : flt (gP (za ++ zb) acct k) zb m = Z2 at *
        generalize hNr : gnN (za ++ zb) acct k = Nr at *
        generalize hRr : gnR (za ++ zb) acct k = Rr at *
        clear hN1 hN2 hZ1 hZ2 hNr hRr
        go_wp2_with fail
        refine (spec_l4Gone _ _ _ _ wr).mono ?_
        rintro e wo ⟨rfl, hbo2⟩
        replace hM := hM.later hbo2
        clear hbo2 c0 c1' c2' c3' hbo ht
        have hbs := hM.bel.size
        have hsG : w.heap.size + 2 ≤ wo.heap.size := by have := heap_lt hM.box; omega
        go_wp2_with (at_builtin; refine wpList_append_own_at _ rfl _ _ 31 rfl (w.heap.size + 2) 41 r0 _ 8 64 Try.underlying31 ri rz0 rz1 rz2 rfl (by decide) _ _ _ rfl (hM.recs.alloc _) ⟨wo.heap.size, 0, none⟩ 1 1 [.int .i64 0, .int .i64 4, .int .i64 0, .int .i64 (num (za ++ zb) (k * 4 + 1)), .int .i64 (num (za ++ zb) (k * 4)), .int .i64 0, .int .i64 (num (za ++ zb) (k * 4 + 2)), .int .i64 (num (za ++ zb) (k * 4 + 3))] rfl rfl (World.news_of_block (heap_alloc_new wo _)) (by intro u hu; simp at hu; rcases hu with rfl | rfl | rfl | rfl | rfl | rfl | rfl | rfl <;> rfl) (by unfold maxLen; omega) (by omega) (by simp; omega) ?_)
        intro v' w5 hown2 hgrow2 _ _
        obtain ⟨A4, d4, rfl, _, _⟩ := own_slice hown2
        replace hM := AlW.more (R' := gnR (za ++ zb) acct (k + 1)) (hM.later ((Below.refl _ _).alloc (Nat.le_refl _) (.cells #[.int .i64 0, .int .i64 4, .int .i64 0, .int .i64 (num (za ++ zb) (k * 4 + 1)), .int .i64 (num (za ++ zb) (k * 4)), .int .i64 0, .int .i64 (num (za ++ zb) (k * 4 + 2)), .int .i64 (num (za ++ zb) (k * 4 + 3))] 41))) (by
          have h := hown2
          rw [HG.out, if_pos HE.out]
          rw [show nums (Rr ++ canR (num (za ++ zb) (k * 4)) (num (za ++ zb) (k * 4 + 1)) (num (za ++ zb) (k * 4 + 2)) (num (za ++ zb) (k * 4 + 3))) = nums Rr ++ [.int .i64 0, .int .i64 4, .int .i64 0, .int .i64 (num (za ++ zb) (k * 4 + 1)), .int .i64 (num (za ++ zb) (k * 4)), .int .i64 0, .int .i64 (num (za ++ zb) (k * 4 + 2)), .int .i64 (num (za ++ zb) (k * 4 + 3))] by simp [nums, canR]]
          exact h) hgrow2
        clear hown2 hgrow2 hsG hbs
        go_upto_region 9 with fail
        have hMd := hM.drew
        obtain ⟨b', o', hax, hbo, c0, -, -, -⟩ := (Lst.of_own hMd.all).row4 hlt
        injection hax with hax
        injection hax with e1 e2 _
        subst e1 e2
        refine wp_region_held_drew (S := (fun w' => w'.cell? ⟨b, o + k * 4, none⟩ = some (.int .i64 (num (za ++ zb) (k * 4))))) (by kernel_rfl) ?hSm121 (fun hHeld => ?restm121)
        case hSm121 => exact c0
        refine wpAnyH_take (i := 1) (oi := ?oim122) (v := ?vm122) ?him122 (by kernel_rfl) (by kernel_rfl) (by kernel_rfl) ?hQm122 (Or.inl ⟨?hwm122, ?hym122⟩) (by assumption) ?restm122
        case him122 => simp only [List.getElem?_toArray, List.getElem?_cons_succ, List.getElem?_cons_zero]; exact rfl
        case hQm122 => exact fun _ _ _ h => h
        case hwm122 => rfl
        case hym122 => ((intro w hSw; (try dsimp only at hSw); go_simp) <;> with_reducible rfl)
        try simp only [Act.put, List.setIfInBounds_toArray, List.set_cons_zero, List.set_cons_succ]
        refine wpAnyH_take (i := 2) (oi := ?oim123) (v := ?vm123) ?him123 (by kernel_rfl) (by kernel_rfl) (by kernel_rfl) ?hQm123 (Or.inl ⟨?hwm123, ?hym123⟩) (by assumption) ?restm123
        case him123 => simp only [List.getElem?_toArray, List.getElem?_cons_succ, List.getElem?_cons_zero]; exact rfl
        case hQm123 => exact fun _ _ _ h => h
        case hwm123 => rfl
        case hym123 => ((intro w hSw; (try dsimp only at hSw); go_simp) <;> with_reducible rfl)
        try simp only [Act.put, List.setIfInBounds_toArray, List.set_cons_zero, List.set_cons_succ]
        refine wpAnyH_take (i := 3) (oi := ?oim124) (v := ?vm124) ?him124 (by kernel_rfl) (by kernel_rfl) (by kernel_rfl) ?hQm124 (Or.inl ⟨?hwm124, ?hym124⟩) (by assumption) ?restm124
        case him124 => simp only [List.getElem?_toArray, List.getElem?_cons_succ, List.getElem?_cons_zero]; exact rfl
        case hQm124 => exact fun _ _ _ h => h
        case hwm124 => rfl
        case hym124 => ((intro w hSw; (try dsimp only at hSw); go_simp) <;> with_reducible rfl)
        try simp only [Act.put, List.setIfInBounds_toArray, List.set_cons_zero, List.set_cons_succ]
        refine wpAnyH_take (i := 4) (oi := ?oim125) (v := ?vm125) ?him125 (by kernel_rfl) (by kernel_rfl) (by kernel_rfl) ?hQm125 (Or.inl ⟨?hwm125, ?hym125⟩) (by assumption) ?restm125
        case him125 => simp only [List.getElem?_toArray, List.getElem?_cons_succ, List.getElem?_cons_zero]; exact rfl
        case hQm125 => exact fun _ _ _ h => h
        case hwm125 => rfl
        case hym125 => ((intro w hSw; (try dsimp only at hSw); go_simp) <;> with_reducible rfl)
        try simp only [Act.put, List.setIfInBounds_toArray, List.set_cons_zero, List.set_cons_succ]
        refine wpAnyH_take (i := 5) (oi := ?oim126) (v := ?vm126) ?him126 (by kernel_rfl) (by kernel_rfl) (by kernel_rfl) ?hQm126 (Or.inl ⟨?hwm126, ?hym126⟩) (by assumption) ?restm126
        case him126 => simp only [List.getElem?_toArray, List.getElem?_cons_succ, List.getElem?_cons_zero]; exact rfl
        case hQm126 => exact fun _ _ _ h => h
        case hwm126 => rfl
        case hym126 => ((intro w hSw; (try dsimp only at hSw); go_simp) <;> with_reducible rfl)
        try simp only [Act.put, List.setIfInBounds_toArray, List.set_cons_zero, List.set_cons_succ]
        refine wpAnyH_ready (rs := [0]) (by kernel_rfl) (by simp) ?_
        refine AllReadyH.cons (o := ?or127_0) ?hor127_0 (fun K hK => ?stepr127_0) (AllReadyH.nil)
        case hor127_0 => simp only [List.getElem?_toArray, List.getElem?_cons_succ, List.getElem?_cons_zero]; exact rfl
        case stepr127_0 =>
          obtain ⟨b0, b1⟩ := mcell2 hM.box
          go_simp
          clear b0 b1
          refine hK.out _ _ ?hSr127_0 (fun hHeld => ?restr127_0)
          case hSr127_0 => exact hHeld
          clear hK K
          try simp only [Act.put, List.setIfInBounds_toArray, List.set_cons_zero, List.set_cons_succ]
          refine wpAnyH_ready (rs := [6]) (by kernel_rfl) (by simp) ?_
          refine AllReadyH.cons (o := ?or128_6) ?hor128_6 (fun K hK => ?stepr128_6) (AllReadyH.nil)
          case hor128_6 => simp only [List.getElem?_toArray, List.getElem?_cons_succ, List.getElem?_cons_zero]; exact rfl
          case stepr128_6 =>
            go_simp
            go_at_call 98
            refine (spec_l2TakeO A1 N1 c1 A2 N2 c2 Z1 Z2 (num (za ++ zb) (k * 4)) w5.drew (Lst.of_own hMd.rows.one) (Lst.of_own hMd.rows.two) (by omega) (by omega)).mono ?_
            rintro e wt ⟨⟨t1, t2, rfl, ho1, ho2, hap⟩, hbt⟩
            obtain ⟨A5, c5, rfl, _, _⟩ := own_slice ho1
            obtain ⟨A6, c6, rfl, _, _⟩ := own_slice ho2
            have hlb : w.heap.size + 2 ≤ w5.drew.heap.size := by have := heap_lt hMd.box; omega
            replace hMd := hMd.later hbt
            refine hK.out _ _ ?hSr128_6 (fun hHeld => ?restr128_6)
            case hSr128_6 => exact (hbt.cell (p := ⟨b, o + k * 4, none⟩) hbo).trans hHeld
            clear hK K
            try simp only [Act.put, List.setIfInBounds_toArray, List.set_cons_zero, List.set_cons_succ]
            refine wpAnyH_ready (rs := [7]) (by kernel_rfl) (by simp) ?_
            refine AllReadyH.cons (o := ?or129_7) ?hor129_7 (fun K hK => ?stepr129_7) (AllReadyH.nil)
            case hor129_7 => simp only [List.getElem?_toArray, List.getElem?_cons_succ, List.getElem?_cons_zero]; exact rfl
            case stepr129_7 =>
              have f0 := mfree hMd.box 0
              have f1 := mfree hMd.box 1
              obtain ⟨b0, b1⟩ := mcell2 hMd.box
              go_simp
              refine hK.out _ _ ?hSr129_7 (fun hHeld => ?restr129_7)
              case hSr129_7 => exact (set2_far hne).trans hHeld
              clear hK K
              try simp only [Act.put, List.setIfInBounds_toArray, List.set_cons_zero, List.set_cons_succ]
              refine wpAnyH_done (by kernel_rfl) ?_ _
              have HM := Lib.hid (hMd.put ⟨own_mono ho1 hlb, own_mono ho2 hlb, hap⟩)
              clear hHeld hM hMd ho1 ho2 hap hbt hlb f0 f1 b0 b1 c0 hbo
              go_wp2_with fail
              go_roundw
              case rel =>
                refine ⟨k + 1, A5, c5, A6, c6, A4, d4, by omega, by go_num, ?_, ?_⟩
                · rw [HN.out, if_pos HE.out]
                · have h := HM.out
                  rw [HP1.out.1, HP1.out.2, HP2.out.1, HP2.out.2] at h
                  rw [show gnN (za ++ zb) acct (k + 1) = Nr + 1 by rw [HN.out, if_pos HE.out], HP1.out.2, HP2.out.2]
                  exact h
              case measure => simp [intOf]; omega
      · have HT := Lib.hid (show gnR (za ++ zb) acct (k + 1) = gnR (za ++ zb) acct k ∧ gnN (za ++ zb) acct (k + 1) = gnN (za ++ zb) acct k from ⟨by rw [HG.out, if_neg he], by rw [HN.out, if_neg he]⟩)
        have HP := Lib.hid (gP_skip he)
        have ht : (num (za ++ zb) (k * 4 + 1) == acct) = false := beq_eq_false_iff_ne.2 he
        clear he HG HN
        go_wp2_with fail
        go_roundw
        case rel =>
          refine ⟨k + 1, A1, c1, A2, c2, Ar, dr, by omega, by go_num, ?_, ?_⟩
          · rw [HT.out.2]
          · rw [HP.out, HT.out.1, HT.out.2]
            exact hM
        case measure => simp [intOf]; omega
    · obtain rfl : k = n + m := by omega
      have HE1 := Lib.hid (gP_end1 (acct := acct) hlA HD.out)
      have HE2 := Lib.hid (gP_end2 (acct := acct) hlA HD.out)
      rw [HE1.out.1, HE1.out.2, HE2.out.1, HE2.out.2] at hM
      rw [HE1.out.2] at hf1
      rw [HE2.out.2] at hf2
      generalize hN3 : gnN (za ++ zb) acct (n + m) = N3 at *
      generalize hN1 : tkNA za acct n = N1 at *
      generalize hN2 : tkNA zb acct m = N2 at *
      have H1 := Lib.hid hN1
      have H2 := Lib.hid hN2
      have H3 := Lib.hid hN3
      clear hN1 hN2 hN3
      have f0 := mfree hM.res 0
      have f1 := mfree hM.res 1
      obtain ⟨b0, b1⟩ := mcell2 hM.box
      obtain ⟨e0, e1⟩ := mcell2 hM.res
      have HDn := Lib.hid hM.done
      clear hM
      go_wp2_with fail
      obtain ⟨⟨g0, g1⟩, hrows, hrecs, hbelf⟩ := HDn.out
      exact bodyPost_ret (v := .tuple #[.agg #[.slice A1 N1 c1, .slice A2 N2 c2], .slice Ar N3 dr]) (by simp [results, Try.results61, go_sem, g0, g1]) rfl ⟨⟨_, _, _, rfl, by
        rw [show onN true (tkNA za acct n) = N1 from H1.out, show onN true (tkNA zb acct m) = N2 from H2.out]; exact hrows.mono (by omega), by
        rw [show onN true (gnN (za ++ zb) acct (n + m)) = N3 from H3.out]; exact own_mono hrecs (by omega)⟩, hbelf⟩
set_option linter.unusedSimpArgs false in
set_option maxHeartbeats 3200000 in
set_option maxRecDepth 100000 in
theorem spec_CancelAll (A : Option Addr) (n c : Nat) (B : Option Addr) (m d : Nat) (za zb : List Int) (acct : Int) (w : World) (ha : Lst w w.heap.size 4 A n za) (hb : Lst w w.heap.size 4 B m zb) (hn : n ≤ 1048576) (hm : m ≤ 1048576) (hA : A = none → n = 0 ∧ c = 0) (hB : B = none → m = 0 ∧ d = 0) :
    Calls Try.prog 21 #[.agg #[.slice A n c, .slice B m d], .int .i64 acct] w fun e w' => CAns w' w.heap.size (bookB za n zb m) acct za zb n m e ∧ Below w.heap.size w w' := by
  obtain ⟨k0, k1⟩ := two_blocks w (.cells #[.slice A n c, .slice B m d] 26) (.cells #[.slice none 0 0, .slice none 0 0] 26)
  have hb0 : Below w.heap.size w ((w.alloc (.cells #[.slice A n c, .slice B m d] 26)).alloc (.cells #[.slice none 0 0, .slice none 0 0] 26)) := ((Below.refl _ _).alloc (Nat.le_refl _) _).alloc (by simp) _
  have hs0 : w.heap.size + 2 ≤ ((w.alloc (.cells #[.slice A n c, .slice B m d] 26)).alloc (.cells #[.slice none 0 0, .slice none 0 0] 26)).heap.size := by simp
  obtain ⟨x0, x1⟩ := ccell2 k0
  go_enter Try.func21, Try.ntmps21
  go_wp2_with fail
  generalize ((w.alloc (.cells #[.slice A n c, .slice B m d] 26)).alloc (.cells #[.slice none 0 0, .slice none 0 0] 26)) = w0 at *
  refine (spec_BookOkO A n c B m d za zb w0 ((ha.below hb0).more hb0.size) ((hb.below hb0).more hb0.size) hn hm hA hB).mono ?_
  rintro e w1 ⟨rfl, hb1⟩
  have k0 := (hb1.block w.heap.size (by omega)).trans k0
  have k1 := (hb1.block (w.heap.size + 1) (by omega)).trans k1
  have hs1 : w.heap.size + 2 ≤ w1.heap.size := by have := hb1.size; omega
  have hb1 := hb0.trans (hb1.mono hb0.size)
  clear hb0 hs0 x0 x1
  obtain ⟨ok, hok⟩ : ∃ x, bookB za n zb m = x := ⟨_, rfl⟩
  have HOK := Lib.hid hok
  rw [hok]
  cases ok
  · clear hok
    have f0 := mfree k1 0
    have f1 := mfree k1 1
    obtain ⟨b0, b1⟩ := mcell2 k1
    have HS := Lib.hid (mcell2 (mset2 (u := .slice none 0 0) (v := .slice none 0 0) k1))
    clear k0 k1
    go_wp2_with fail
    obtain ⟨g0, g1⟩ := HS.out
    exact bodyPost_ret (v := .tuple #[.agg #[.slice none 0 0, .slice none 0 0], .slice none 0 0]) (by simp [results, Try.results21, go_sem, g0, g1]) rfl ⟨by
      rw [HOK.out]
      exact ⟨_, _, _, rfl, TwoRows.nil _ _, World.ownsRow_nil _ _ _ _⟩, (hb1.setCell (p := ⟨w.heap.size + 1, 0, none⟩) (show w.heap.size ≤ w.heap.size + 1 by omega) _).setCell (p := ⟨w.heap.size + 1, 1, none⟩) (show w.heap.size ≤ w.heap.size + 1 by omega) _⟩
  · obtain ⟨hn2, hm2⟩ := book_small hok
    have hdist : distB (idN (za ++ zb)) (n + m) = true := by
      simp only [bookB, Bool.and_eq_true] at hok
      rw [distB_congr (g := idA za n zb) _ (fun j _ => idN_append ha.1 j)]
      exact hok.2.2.2
    clear hok
    obtain ⟨x0, x1⟩ := ccell2 k0
    go_wp2_with fail
    refine (spec_l4All A n c B m d za zb acct w1 ((ha.below hb1).more hb1.size) ((hb.below hb1).more hb1.size) hn2 hm2 hA hB hdist).mono ?_
    rintro e w2 ⟨⟨v1, v2, v3, rfl, hT, hR⟩, hb2⟩
    obtain ⟨A1, c1, A2, c2, rfl, rfl⟩ := hT.slices
    obtain ⟨A3, c3, rfl, _, _⟩ := own_slice hR
    generalize hN1 : onN true (tkNA za acct n) = N1 at *
    generalize hN2 : onN true (tkNA zb acct m) = N2 at *
    generalize hN3 : onN true (gnN (za ++ zb) acct (n + m)) = N3 at *
    have H1 := Lib.hid hN1
    have H2 := Lib.hid hN2
    have H3 := Lib.hid hN3
    clear hN1 hN2 hN3 x0 x1
    have k1 := (hb2.block (w.heap.size + 1) (by omega)).trans k1
    have hbf := hb1.trans (hb2.mono hb1.size)
    have f0 := mfree k1 0
    have f1 := mfree k1 1
    obtain ⟨b0, b1⟩ := mcell2 k1
    have HS := Lib.hid (mcell2 (mset2 (u := .slice A1 N1 c1) (v := .slice A2 N2 c2) k1))
    have HT : Hid (TwoRows ((w2.setCell ⟨w.heap.size + 1, 0, none⟩ (.slice A1 N1 c1)).setCell ⟨w.heap.size + 1, 1, none⟩ (.slice A2 N2 c2)) w.heap.size (.slice A1 N1 c1) N1 (onZ true (tkZA za acct n)) (.slice A2 N2 c2) N2 (onZ true (tkZA zb acct m))) := Lib.hid ((⟨own_set_kind (own_set_kind hT.one k1 (by decide)) (heap_set0 k1) (by decide), own_set_kind (own_set_kind hT.two k1 (by decide)) (heap_set0 k1) (by decide), hT.apart⟩ : TwoRows _ w1.heap.size _ _ _ _ _ _).mono (by omega))
    have HR := Lib.hid (own_mono (base' := w.heap.size) (own_set_kind (i := 1) (u := .slice A2 N2 c2) (own_set_kind (i := 0) (u := .slice A1 N1 c1) hR k1 (by decide)) (heap_set0 k1) (by decide)) (by omega))
    clear hT hR k0 k1 hb1 hb2
    go_wp2_with fail
    obtain ⟨g0, g1⟩ := HS.out
    exact bodyPost_ret (v := .tuple #[.agg #[.slice A1 N1 c1, .slice A2 N2 c2], .slice A3 N3 c3]) (by simp [results, Try.results21, go_sem, g0, g1]) rfl ⟨by
      rw [HOK.out]
      exact ⟨_, _, _, rfl, by rw [H1.out, H2.out]; exact HT.out, by rw [H3.out]; exact HR.out⟩, (hbf.setCell (p := ⟨w.heap.size + 1, 0, none⟩) (show w.heap.size ≤ w.heap.size + 1 by omega) _).setCell (p := ⟨w.heap.size + 1, 1, none⟩) (show w.heap.size ≤ w.heap.size + 1 by omega) _⟩
end Go.Proofs.Ytdjmejjponlfoab
