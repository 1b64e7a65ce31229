/-
  Two drawn candles.
-/
import Derived.Test.YteikflfchkmbnaaDrawTrd
import Derived.Test.YteikflfchkmbnaaTrdM
import Derived.Test.YteikflfchkmbnaaCnd
namespace Go.Proofs.Yteikflfchkmbnaa
open Go.RowKit Wire

theorem put6_other {w : World} {S k : Nat} {o : Obj} {u0 u1 u2 u3 u4 u5 : Value} (h : w.heap[k]? = some o) (hne : k ≠ S) :
    ((((((w.setCell ⟨S, 0, none⟩ u0).setCell ⟨S, 1, none⟩ u1).setCell ⟨S, 2, none⟩ u2).setCell ⟨S, 3, none⟩ u3).setCell ⟨S, 4, none⟩ u4).setCell ⟨S, 5, none⟩ u5).heap[k]? = some o := by
  have e := fun (v : World) (i : Nat) (u : Value) => Below.heap_setCell v ⟨S, i, none⟩ u k hne
  rw [e, e, e, e, e, e]
  exact h
/-- a drawn candle: where it is right, its quantity is not great -/
def Gd (f : Nat → Int) : Prop := cdlB (f 0) (f 1) (f 2) (f 3) (f 4) (f 5) = true → f 4 ≤ 300000000
def cndF (zs : List Int) (n : Nat) (j : Nat) : Int := match j with
  | 0 => cndN zs n (num zs 0) | 1 => cndN zs n (hiA zs n) | 2 => cndN zs n (loA zs n) | 3 => cndN zs n (num zs ((n - 1) * 2)) | 4 => cndN zs n (qtA zs n) | _ => cndN zs n (woA zs n)
theorem cndF_gd (zs : List Int) (n : Nat) (hn : n ≤ 300) : Gd (cndF zs n) := by
  intro _
  show cndN zs n (qtA zs n) ≤ 300000000
  unfold cndN
  by_cases h : cndB zs n = true
  · rw [if_pos h]
    have := (qtA_le (cnd_parts h).2.2 n (Nat.le_refl _)).2
    omega
  · rw [if_neg h]; omega
theorem cndF_val (zs : List Int) (n : Nat) : cndV zs n = .tuple #[.agg #[.int .i64 (cndF zs n 0), .int .i64 (cndF zs n 1), .int .i64 (cndF zs n 2), .int .i64 (cndF zs n 3), .int .i64 (cndF zs n 4), .int .i64 (cndF zs n 5)], .bool (cndB zs n)] := rfl
/-- two drawn candles -/
def SomeTwo (w : World) (e : Ending) (w' : World) : Prop := ∃ fa fb : Nat → Int, Gd fa ∧ Gd fb ∧ e = .returned (.tuple #[.agg #[.int .i64 (fa 0), .int .i64 (fa 1), .int .i64 (fa 2), .int .i64 (fa 3), .int .i64 (fa 4), .int .i64 (fa 5)], .agg #[.int .i64 (fb 0), .int .i64 (fb 1), .int .i64 (fb 2), .int .i64 (fb 3), .int .i64 (fb 4), .int .i64 (fb 5)]]) ∧ Below w.heap.size w w'
set_option linter.unusedSimpArgs false in
set_option maxHeartbeats 1600000 in
set_option maxRecDepth 100000 in
theorem DrawBehind_any (A : Option Addr) (len cap : Nat) (w : World) (hs : Src w w.heap.size A len) (hl : len ≤ 9223372036854775807) :
    Calls Try.prog 30 #[.slice A len cap] w (SomeTwo w) := by
  obtain ⟨k0, k1⟩ := two_blocks w (.cells #[.int .i64 0, .int .i64 0, .int .i64 0, .int .i64 0, .int .i64 0, .int .i64 0] 44) (.cells #[.int .i64 0, .int .i64 0, .int .i64 0, .int .i64 0, .int .i64 0, .int .i64 0] 44)
  have hb0 : Below w.heap.size w ((w.alloc (.cells #[.int .i64 0, .int .i64 0, .int .i64 0, .int .i64 0, .int .i64 0, .int .i64 0] 44)).alloc (.cells #[.int .i64 0, .int .i64 0, .int .i64 0, .int .i64 0, .int .i64 0, .int .i64 0] 44)) := ((Below.refl _ _).alloc (Nat.le_refl _) _).alloc (by simp) _
  have hsz : ((w.alloc (.cells #[.int .i64 0, .int .i64 0, .int .i64 0, .int .i64 0, .int .i64 0, .int .i64 0] 44)).alloc (.cells #[.int .i64 0, .int .i64 0, .int .i64 0, .int .i64 0, .int .i64 0, .int .i64 0] 44)).heap.size = w.heap.size + 2 := by simp
  go_enter Try.func30, Try.ntmps30
  go_wp2_with fail
  refine (open_any A len cap _).mono ?_
  rintro e w1 ⟨rfl, rfl⟩
  generalize (w.alloc (.cells #[.int .i64 0, .int .i64 0, .int .i64 0, .int .i64 0, .int .i64 0, .int .i64 0] 44)).alloc (.cells #[.int .i64 0, .int .i64 0, .int .i64 0, .int .i64 0, .int .i64 0, .int .i64 0] 44) = w0 at *
  have hgz : w.heap.size + 2 ≤ w0.heap.size := by omega
  have hs1 : Src w0 w0.heap.size A len := fun i hi => by
    obtain ⟨b, o, n, h1, h2, h3, h4, h5⟩ := hs i hi
    exact ⟨b, o, n, h1, Nat.lt_of_lt_of_le h2 hb0.size, h3, h4, (hb0.cell (p := ⟨b, o + i, none⟩) h2).trans h5⟩
  have hr1 : RdAt (w0.alloc (.cells #[.slice A len cap, .int .i64 0] 112)) w0.heap.size A len cap 0 := ⟨Nat.zero_le _, heap_alloc_new w0 _⟩
  have hg1 : w0.grownBy (w0.alloc (.cells #[.slice A len cap, .int .i64 0] 112)) (some w0.heap.size) := only_alloc (World.grownBy.refl _ _) _
  have hlt1 : w0.heap.size < (w0.alloc (.cells #[.slice A len cap, .int .i64 0] 112)).heap.size := by simp
  clear hs hsz
  generalize w0.alloc (.cells #[.slice A len cap, .int .i64 0] 112) = w1 at *
  go_wp2_with fail
  refine (trades_any 5 w0.heap.size A len cap 0 _ hr1 (hs1.keep hg1 (Nat.le_refl _)) hl (by omega)).mono ?_
  rintro e v1 ⟨s1, n1, zs1, q1, hn1, rfl, ho1, hr1', hg1'⟩
  obtain ⟨A1, c1, rfl, _, _⟩ := own_slice ho1
  have hL1 := Lst.of_own ho1
  have hgr1 := only_trans hg1 hg1'
  clear ho1 hg1' hr1 hg1
  go_wp2_with fail
  refine (spec_CandleOf A1 n1 c1 zs1 _ hL1 (by omega)).mono ?_
  rw [cndF_val]
  have hGd1 := cndF_gd zs1 n1 (by omega)
  generalize cndF zs1 n1 = fa at *
  generalize cndB zs1 n1 = b1
  rintro e v1' ⟨rfl, hb1⟩
  have hbx1 := hb1.alloc hb1.size (.cells #[.int .i64 (fa 0), .int .i64 (fa 1), .int .i64 (fa 2), .int .i64 (fa 3), .int .i64 (fa 4), .int .i64 (fa 5)] 44)
  have hgx1 := only_below hgr1 hbx1
  have hrx1 := hr1'.below hbx1
  have kx1 := heap_alloc_new v1' (.cells #[.int .i64 (fa 0), .int .i64 (fa 1), .int .i64 (fa 2), .int .i64 (fa 3), .int .i64 (fa 4), .int .i64 (fa 5)] 44)
  have hszx1 : w0.heap.size < v1'.heap.size := Nat.lt_of_lt_of_le hr1'.lt hb1.size
  clear hL1 hgr1 hr1' hbx1 hb1
  go_wp2_with fail
  generalize v1'.alloc (.cells #[.int .i64 (fa 0), .int .i64 (fa 1), .int .i64 (fa 2), .int .i64 (fa 3), .int .i64 (fa 4), .int .i64 (fa 5)] 44) = y1 at *
  generalize v1'.heap.size = G3 at *
  have hr2 := hrx1
  have hg2 := hgx1
  clear hrx1 hgx1
  go_wp2_with fail
  refine (trades_any 5 w0.heap.size A len cap q1 _ hr2 (hs1.keep hg2 (Nat.le_refl _)) hl (by omega)).mono ?_
  rintro e v2 ⟨s2, n2, zs2, q2, hn2, rfl, ho2, hr2', hg2'⟩
  obtain ⟨A2, c2, rfl, _, _⟩ := own_slice ho2
  have hL2 := Lst.of_own ho2
  have hgr2 := only_trans hg2 hg2'
  have hgt2 := hg2'
  clear ho2 hg2' hr2 hg2
  go_wp2_with fail
  refine (spec_CandleOf A2 n2 c2 zs2 _ hL2 (by omega)).mono ?_
  rw [cndF_val]
  have hGd2 := cndF_gd zs2 n2 (by omega)
  generalize cndF zs2 n2 = fb at *
  generalize cndB zs2 n2 = b2
  rintro e v2' ⟨rfl, hb2⟩
  have hbx2 := hb2.alloc hb2.size (.cells #[.int .i64 (fb 0), .int .i64 (fb 1), .int .i64 (fb 2), .int .i64 (fb 3), .int .i64 (fb 4), .int .i64 (fb 5)] 44)
  have hgx2 := only_below hgr2 hbx2
  have hrx2 := hr2'.below hbx2
  have kx2 := heap_alloc_new v2' (.cells #[.int .i64 (fb 0), .int .i64 (fb 1), .int .i64 (fb 2), .int .i64 (fb 3), .int .i64 (fb 4), .int .i64 (fb 5)] 44)
  have hszx2 : w0.heap.size < v2'.heap.size := Nat.lt_of_lt_of_le hr2'.lt hb2.size
  have kx3 := (hbx2.block G3 (Nat.lt_of_lt_of_le (heap_lt' kx1) hgt2.size)).trans ((hgt2.block G3 (heap_lt' kx1) (fun e => by injection e with e; omega)).trans kx1)
  clear hL2 hgr2 hr2' hbx2 hb2
  go_wp2_with fail
  generalize v2'.alloc (.cells #[.int .i64 (fb 0), .int .i64 (fb 1), .int .i64 (fb 2), .int .i64 (fb 3), .int .i64 (fb 4), .int .i64 (fb 5)] 44) = y2 at *
  generalize v2'.heap.size = G4 at *
  have k0' := (hgx2.block w.heap.size (by omega) (fun e => by injection e with e; omega)).trans k0
  have k1' := (hgx2.block (w.heap.size + 1) (by omega) (fun e => by injection e with e; omega)).trans k1
  have hBx : Below w.heap.size w y2 := hb0.grown hgx2 hb0.size (fun k h => by cases h; exact hb0.size)
  clear k0 k1 hgx2 hgt2 hrx2 hs1 kx1 hb0
  have k0 : y2.drew.heap[w.heap.size]? = _ := k0'
  have k1 : y2.drew.heap[w.heap.size + 1]? = _ := k1'
  have hY : Below w.heap.size w y2.drew ∧ y2.drew.heap[G3]? = _ ∧ y2.drew.heap[G4]? = _ := ⟨hBx.drew, kx3, kx2⟩
  clear k0' k1' hBx kx2 kx3
  refine wp_region_held_drew (S := (fun w' => Below w.heap.size w w' ∧ w'.heap[G3]? = some (.cells #[.int .i64 (fa 0), .int .i64 (fa 1), .int .i64 (fa 2), .int .i64 (fa 3), .int .i64 (fa 4), .int .i64 (fa 5)] 44 (0, 0)) ∧ w'.heap[G4]? = some (.cells #[.int .i64 (fb 0), .int .i64 (fb 1), .int .i64 (fb 2), .int .i64 (fb 3), .int .i64 (fb 4), .int .i64 (fb 5)] 44 (0, 0)))) (by kernel_rfl) ?hSr (fun hHeld => ?restr)
  case hSr => exact hY
  clear hY
  generalize y2.drew = wd at *
  refine wpAnyH_take (i := 0) (oi := ?oiu15) (v := ?vu15) ?hiu15 (by kernel_rfl) (by kernel_rfl) (by kernel_rfl) ?hQu15 (Or.inl ⟨?hwu15, ?hyu15⟩) (by assumption) ?restu15
  case hiu15 => simp only [List.getElem?_toArray, List.getElem?_cons_succ, List.getElem?_cons_zero]; exact rfl
  case hQu15 => exact fun _ _ _ h => h
  case hwu15 => rfl
  case hyu15 => ((intro w hSw; obtain ⟨c0, c1, c2, c3, c4, c5⟩ := cell6 hSw.2.1; go_simp) <;> with_reducible rfl)
  try simp only [Act.put, List.setIfInBounds_toArray, List.set_cons_zero, List.set_cons_succ]
  refine wpAnyH_take (i := 1) (oi := ?oiu16) (v := ?vu16) ?hiu16 (by kernel_rfl) (by kernel_rfl) (by kernel_rfl) ?hQu16 (Or.inl ⟨?hwu16, ?hyu16⟩) (by assumption) ?restu16
  case hiu16 => simp only [List.getElem?_toArray, List.getElem?_cons_succ, List.getElem?_cons_zero]; exact rfl
  case hQu16 => exact fun _ _ _ h => h
  case hwu16 => rfl
  case hyu16 => ((intro w hSw; obtain ⟨c0, c1, c2, c3, c4, c5⟩ := cell6 hSw.2.2; go_simp) <;> with_reducible rfl)
  try simp only [Act.put, List.setIfInBounds_toArray, List.set_cons_zero, List.set_cons_succ]
  refine wpAnyH_ready (rs := [2]) (by kernel_rfl) (by simp) ?_
  refine AllReadyH.cons (o := ?ou17) ?hou17 (fun K hK => ?stepu17) ?moreu17
  case hou17 => simp only [List.getElem?_toArray, List.getElem?_cons_succ, List.getElem?_cons_zero]; exact rfl
  case moreu17 => exact AllReadyH.nil
  obtain ⟨c0, c1, c2, c3, c4, c5⟩ := cell6 k0
  obtain ⟨f0, f1, f2, f3, f4, f5⟩ := free6 k0
  have hX := hHeld
  go_simp
  have r0 := put6 (u0 := .int .i64 (fa 0)) (u1 := .int .i64 (fa 1)) (u2 := .int .i64 (fa 2)) (u3 := .int .i64 (fa 3)) (u4 := .int .i64 (fa 4)) (u5 := .int .i64 (fa 5)) k0
  have r1 := put6_other (S := w.heap.size) (u0 := .int .i64 (fa 0)) (u1 := .int .i64 (fa 1)) (u2 := .int .i64 (fa 2)) (u3 := .int .i64 (fa 3)) (u4 := .int .i64 (fa 4)) (u5 := .int .i64 (fa 5)) k1 (by omega)
  have hY : Below w.heap.size w (((((((wd.setCell ⟨w.heap.size, 0, none⟩ (.int .i64 (fa 0))).setCell ⟨w.heap.size, 1, none⟩ (.int .i64 (fa 1))).setCell ⟨w.heap.size, 2, none⟩ (.int .i64 (fa 2))).setCell ⟨w.heap.size, 3, none⟩ (.int .i64 (fa 3))).setCell ⟨w.heap.size, 4, none⟩ (.int .i64 (fa 4))).setCell ⟨w.heap.size, 5, none⟩ (.int .i64 (fa 5)))) ∧ (((((((wd.setCell ⟨w.heap.size, 0, none⟩ (.int .i64 (fa 0))).setCell ⟨w.heap.size, 1, none⟩ (.int .i64 (fa 1))).setCell ⟨w.heap.size, 2, none⟩ (.int .i64 (fa 2))).setCell ⟨w.heap.size, 3, none⟩ (.int .i64 (fa 3))).setCell ⟨w.heap.size, 4, none⟩ (.int .i64 (fa 4))).setCell ⟨w.heap.size, 5, none⟩ (.int .i64 (fa 5)))).heap[G3]? = _ ∧ (((((((wd.setCell ⟨w.heap.size, 0, none⟩ (.int .i64 (fa 0))).setCell ⟨w.heap.size, 1, none⟩ (.int .i64 (fa 1))).setCell ⟨w.heap.size, 2, none⟩ (.int .i64 (fa 2))).setCell ⟨w.heap.size, 3, none⟩ (.int .i64 (fa 3))).setCell ⟨w.heap.size, 4, none⟩ (.int .i64 (fa 4))).setCell ⟨w.heap.size, 5, none⟩ (.int .i64 (fa 5)))).heap[G4]? = _ := ⟨below6 hX.1 (Nat.le_refl _) _ _ _ _ _ _, put6_other (S := w.heap.size) (u0 := .int .i64 (fa 0)) (u1 := .int .i64 (fa 1)) (u2 := .int .i64 (fa 2)) (u3 := .int .i64 (fa 3)) (u4 := .int .i64 (fa 4)) (u5 := .int .i64 (fa 5)) hX.2.1 (by omega), put6_other (S := w.heap.size) (u0 := .int .i64 (fa 0)) (u1 := .int .i64 (fa 1)) (u2 := .int .i64 (fa 2)) (u3 := .int .i64 (fa 3)) (u4 := .int .i64 (fa 4)) (u5 := .int .i64 (fa 5)) hX.2.2 (by omega)⟩
  clear c0 c1 c2 c3 c4 c5 f0 f1 f2 f3 f4 f5 k0 k1 hX hHeld
  refine hK.out _ _ ?hSu17 (fun hHeld => ?restu17)
  case hSu17 => exact hY
  clear hK K
  try simp only [Act.put, List.setIfInBounds_toArray, List.set_cons_zero, List.set_cons_succ]
  clear hY
  generalize ((((((wd.setCell ⟨w.heap.size, 0, none⟩ (.int .i64 (fa 0))).setCell ⟨w.heap.size, 1, none⟩ (.int .i64 (fa 1))).setCell ⟨w.heap.size, 2, none⟩ (.int .i64 (fa 2))).setCell ⟨w.heap.size, 3, none⟩ (.int .i64 (fa 3))).setCell ⟨w.heap.size, 4, none⟩ (.int .i64 (fa 4))).setCell ⟨w.heap.size, 5, none⟩ (.int .i64 (fa 5))) = wy at *
  refine wpAnyH_ready (rs := [3]) (by kernel_rfl) (by simp) ?_
  refine AllReadyH.cons (o := ?ou18) ?hou18 (fun K hK => ?stepu18) ?moreu18
  case hou18 => simp only [List.getElem?_toArray, List.getElem?_cons_succ, List.getElem?_cons_zero]; exact rfl
  case moreu18 => exact AllReadyH.nil
  obtain ⟨c0, c1, c2, c3, c4, c5⟩ := cell6 r1
  obtain ⟨f0, f1, f2, f3, f4, f5⟩ := free6 r1
  have hX := hHeld
  go_simp
  have q1 := put6 (u0 := .int .i64 (fb 0)) (u1 := .int .i64 (fb 1)) (u2 := .int .i64 (fb 2)) (u3 := .int .i64 (fb 3)) (u4 := .int .i64 (fb 4)) (u5 := .int .i64 (fb 5)) r1
  have q0 := put6_other (S := w.heap.size + 1) (u0 := .int .i64 (fb 0)) (u1 := .int .i64 (fb 1)) (u2 := .int .i64 (fb 2)) (u3 := .int .i64 (fb 3)) (u4 := .int .i64 (fb 4)) (u5 := .int .i64 (fb 5)) r0 (by omega)
  have hY : Below w.heap.size w (((((((wy.setCell ⟨w.heap.size + 1, 0, none⟩ (.int .i64 (fb 0))).setCell ⟨w.heap.size + 1, 1, none⟩ (.int .i64 (fb 1))).setCell ⟨w.heap.size + 1, 2, none⟩ (.int .i64 (fb 2))).setCell ⟨w.heap.size + 1, 3, none⟩ (.int .i64 (fb 3))).setCell ⟨w.heap.size + 1, 4, none⟩ (.int .i64 (fb 4))).setCell ⟨w.heap.size + 1, 5, none⟩ (.int .i64 (fb 5)))) ∧ (((((((wy.setCell ⟨w.heap.size + 1, 0, none⟩ (.int .i64 (fb 0))).setCell ⟨w.heap.size + 1, 1, none⟩ (.int .i64 (fb 1))).setCell ⟨w.heap.size + 1, 2, none⟩ (.int .i64 (fb 2))).setCell ⟨w.heap.size + 1, 3, none⟩ (.int .i64 (fb 3))).setCell ⟨w.heap.size + 1, 4, none⟩ (.int .i64 (fb 4))).setCell ⟨w.heap.size + 1, 5, none⟩ (.int .i64 (fb 5)))).heap[G3]? = _ ∧ (((((((wy.setCell ⟨w.heap.size + 1, 0, none⟩ (.int .i64 (fb 0))).setCell ⟨w.heap.size + 1, 1, none⟩ (.int .i64 (fb 1))).setCell ⟨w.heap.size + 1, 2, none⟩ (.int .i64 (fb 2))).setCell ⟨w.heap.size + 1, 3, none⟩ (.int .i64 (fb 3))).setCell ⟨w.heap.size + 1, 4, none⟩ (.int .i64 (fb 4))).setCell ⟨w.heap.size + 1, 5, none⟩ (.int .i64 (fb 5)))).heap[G4]? = _ := ⟨below6 hX.1 (Nat.le_succ _) _ _ _ _ _ _, put6_other (S := w.heap.size + 1) (u0 := .int .i64 (fb 0)) (u1 := .int .i64 (fb 1)) (u2 := .int .i64 (fb 2)) (u3 := .int .i64 (fb 3)) (u4 := .int .i64 (fb 4)) (u5 := .int .i64 (fb 5)) hX.2.1 (by omega), put6_other (S := w.heap.size + 1) (u0 := .int .i64 (fb 0)) (u1 := .int .i64 (fb 1)) (u2 := .int .i64 (fb 2)) (u3 := .int .i64 (fb 3)) (u4 := .int .i64 (fb 4)) (u5 := .int .i64 (fb 5)) hX.2.2 (by omega)⟩
  clear c0 c1 c2 c3 c4 c5 f0 f1 f2 f3 f4 f5 r0 r1 hX hHeld
  refine hK.out _ _ ?hSu18 (fun hHeld => ?restu18)
  case hSu18 => exact hY
  clear hK K
  try simp only [Act.put, List.setIfInBounds_toArray, List.set_cons_zero, List.set_cons_succ]
  generalize ((((((wy.setCell ⟨w.heap.size + 1, 0, none⟩ (.int .i64 (fb 0))).setCell ⟨w.heap.size + 1, 1, none⟩ (.int .i64 (fb 1))).setCell ⟨w.heap.size + 1, 2, none⟩ (.int .i64 (fb 2))).setCell ⟨w.heap.size + 1, 3, none⟩ (.int .i64 (fb 3))).setCell ⟨w.heap.size + 1, 4, none⟩ (.int .i64 (fb 4))).setCell ⟨w.heap.size + 1, 5, none⟩ (.int .i64 (fb 5))) = wz at *
  refine wpAnyH_done (by kernel_rfl) ?_ _
  obtain ⟨c0, c1, c2, c3, c4, c5⟩ := cell6 q0
  obtain ⟨d0, d1, d2, d3, d4, d5⟩ := cell6 q1
  have hBz := hHeld.1
  clear hHeld q0 q1
  go_wp2_with fail
  refine bodyPost_ret (v := .tuple #[.agg #[.int .i64 (fa 0), .int .i64 (fa 1), .int .i64 (fa 2), .int .i64 (fa 3), .int .i64 (fa 4), .int .i64 (fa 5)], .agg #[.int .i64 (fb 0), .int .i64 (fb 1), .int .i64 (fb 2), .int .i64 (fb 3), .int .i64 (fb 4), .int .i64 (fb 5)]]) (by simp [results, Try.results30, go_sem, c0, c1, c2, c3, c4, c5, d0, d1, d2, d3, d4, d5]) rfl ⟨fa, fb, hGd1, hGd2, rfl, hBz⟩
end Go.Proofs.Yteikflfchkmbnaa
