/-
 Orders, prices: the small functions of books.
-/
import Derived.Test.YtgjjdnojiegidaaGreatDoorTak
import Derived.Test.YtgjjdnojiegidaaGreatDoorHA
import Derived.Handy
import Derived.Deep.RegionHeld3
import Derived.Deep.Cut
import Derived.Deep.CutBlock
import Derived.Deep.RegionWith
import Derived.Deep.DeepCutAuto
import Derived.Laws.EntriesVeiled
namespace Go.Proofs.YtgjjdnojiegidaaGreatDoor
open Go.RowKit Wire
set_option maxHeartbeats 1600000
set_option maxRecDepth 100000

def ordI (a b c d : Int) : Bool := inB 1 a 1000000000 && (inB 1 b 100 && (inB 1 c 1000000 && inB 1 d 1000000))
theorem ordB_eq (zs : List Int) (k : Nat) : ordB zs k = ordI (num zs (k * 4)) (num zs (k * 4 + 1)) (num zs (k * 4 + 2)) (num zs (k * 4 + 3)) := rfl
theorem impl_orderOk (a b c d : Int) (w : World) :
 Calls Tryz.prog 72 #[.agg #[.int .i64 a, .int .i64 b, .int .i64 c, .int .i64 d]] w fun x w' => x = .returned (.bool (ordI a b c d)) ∧ Below w.heap.size w w' := by
 go_enter Tryz.func72, Tryz.ntmps72
 go_wp2_with (go_at_call 95; refine (within_any _ _ _ _).mono ?_; rintro e w' ⟨rfl, rfl⟩)
 all_goals
  go_ret
  refine ⟨ret_bool ?_, (Below.refl _ _).alloc (Nat.le_refl _) _⟩
  simp [ordI, *]
theorem spec_l2Order (a b c d : Int) (w : World) :
 Calls Tryz.prog 62 #[.agg #[.int .i64 a, .int .i64 b, .int .i64 c, .int .i64 d]] w fun x w' => x = .returned (.bool (ordI a b c d)) ∧ Below w.heap.size w w' := by
 go_enter Tryz.func62, Tryz.ntmps62
 go_wp2_with (first | (go_at_call 35; refine (l1In_any _ _ _ _).mono ?_; rintro e w' ⟨rfl, rfl⟩) | (go_at_call 37; go_in) | (go_at_call 34; go_in))
 all_goals
  go_ret
  refine ⟨ret_bool ?_, (Below.refl _ _).alloc (Nat.le_refl _) _⟩
  simp [ordI, *]
theorem impl_better (side a b : Int) (w : World) :
 Calls Tryz.prog 78 #[.int .i64 side, .int .i64 a, .int .i64 b] w fun x w' => x = .returned (.bool (betB side a b)) ∧ w = w' := by
 unfold betB
 by_cases h : side = 1
 · subst h
   rw [if_pos rfl]
   go_enter Tryz.func78, Tryz.ntmps78
   go_wp2_with fail
   go_ret
   exact ⟨rfl, rfl⟩
 · rw [if_neg h]
   have t : (side == 1) = false := beq_eq_false_iff_ne.2 h
   go_enter Tryz.func78, Tryz.ntmps78
   go_wp2_with fail
   go_ret
   exact ⟨rfl, rfl⟩
theorem spec_l2Ahead (side a b : Int) (w : World) :
 Calls Tryz.prog 63 #[.int .i64 side, .int .i64 a, .int .i64 b] w fun x w' => x = .returned (.bool (betB side a b)) ∧ w = w' := by
 unfold betB
 by_cases h : side = 1
 · subst h
   rw [if_pos rfl]
   go_enter Tryz.func63, Tryz.ntmps63
   go_wp2_with fail
   go_ret
   exact ⟨rfl, rfl⟩
 · rw [if_neg h]
   have t : (side == 1) = false := beq_eq_false_iff_ne.2 h
   go_enter Tryz.func63, Tryz.ntmps63
   go_wp2_with fail
   go_ret
   exact ⟨rfl, rfl⟩
theorem impl_worse (ga gb S : Nat) (side pa pb : Int) (w : World) (hS : w.cell? ⟨S, 0, none⟩ = some (.int .i64 side)) (ha : w.cell? ⟨ga, 2, none⟩ = some (.int .i64 pa)) (hb : w.cell? ⟨gb, 2, none⟩ = some (.int .i64 pb)) :
 Calls Tryz.prog 77 #[.pointer (some ⟨ga, 0, none⟩), .pointer (some ⟨gb, 0, none⟩), .pointer (some ⟨S, 0, none⟩)] w fun x w' => x = .returned (.bool (betB side pb pa)) ∧ Below w.heap.size w w' := by
 go_enter Tryz.func77, Tryz.ntmps77
 go_wp2_with fail
 go_region_held3 (fun w' => Below w.heap.size w w' ∧ w'.cell? ⟨S, 0, none⟩ = some (.int .i64 side) ∧ w'.cell? ⟨ga, 2, none⟩ = some (.int .i64 pa) ∧ w'.cell? ⟨gb, 2, none⟩ = some (.int .i64 pb)) (exact kp1)
  ((go_at_call 78; refine (impl_better _ _ _ _).mono ?_; rintro e w' ⟨rfl, rfl⟩))
 rename_i hS
 have hB := hS.1
 clear hS
 go_wp2_with fail
 go_ret
 exact ⟨rfl, hB⟩
def ptrs (gs : Nat → Nat) : Nat → List Value
 | 0 => []
 | k + 1 => ptrs gs k ++ [.pointer (some ⟨gs k, 0, none⟩)]
theorem ptrs_len (gs : Nat → Nat) : ∀ n, (ptrs gs n).length = n
 | 0 => rfl
 | n + 1 => by rw [ptrs, List.length_append, ptrs_len gs n]; rfl
theorem ptrs_congr {f g : Nat → Nat} : ∀ n, (∀ k, k < n → f k = g k) → ptrs f n = ptrs g n
 | 0, _ => rfl
 | n + 1, h => by rw [ptrs, ptrs, ptrs_congr n (fun k hk => h k (by omega)), h n (by omega)]
theorem ptrs_at (gs : Nat → Nat) : ∀ n k, k < n → (ptrs gs n)[k]? = some (.pointer (some ⟨gs k, 0, none⟩))
 | 0, k, h => absurd h (Nat.not_lt_zero k)
 | n + 1, k, h => by
  have hl := ptrs_len gs n
  rcases Nat.lt_or_ge k n with hk | hk
  · rw [ptrs, List.getElem?_append_left (by omega)]
    exact ptrs_at gs n k hk
  · obtain rfl : k = n := by omega
    rw [ptrs, List.getElem?_append_right (by omega), hl]
    simp
theorem ptrs_one (gs : Nat → Nat) : ∀ n, ∀ u ∈ ptrs gs n, u.oneCell' = true
 | 0, u, h => by cases h
 | n + 1, u, h => by
  rw [ptrs] at h
  rcases List.mem_append.1 h with h | h
  · exact ptrs_one gs n u h
  · simp at h; subst h; rfl
theorem set_grown (w : World) (g i : Nat) (u : Value) : w.grownBy (w.setCell ⟨g, i, none⟩ u) (some g) :=
 ⟨rfl, rfl, rfl, by simp [World.setCell], fun k _ hne => Below.heap_setCell w _ u k (by
  rintro rfl
  exact hne rfl)⟩
structure Opened (w : World) (X S L : Nat) (T0 T1 T2 : TypeId) (F : Value) (side : Int) (zs : List Int) (n : Nat) (v : Value) (gs : Nat → Nat) : Prop where
 low : X ≤ S ∧ X ≤ L ∧ S ≠ L
 side : w.heap[S]? = some (.cells #[.int .i64 side] T0 (0, 0))
 list : w.heap[L]? = some (.cells #[v, F] T1 (0, 0))
 own : w.ownsRow X T2 1 v n (ptrs gs n)
 far : v.ownBlock ≠ some L ∧ v.ownBlock ≠ some S
theorem hlT {w : World} {g : Nat} {o : Obj} (h : w.heap[g]? = some o) : g < w.heap.size := by
 rcases Nat.lt_or_ge g w.heap.size with h' | h'
 · exact h'
 · simp [Array.getElem?_eq_none h'] at h
def Copies (w : World) (X S L : Nat) (T : TypeId) (zs : List Int) (n : Nat) (v : Value) (gs : Nat → Nat) : Prop :=
 ∀ k, k < n → X ≤ gs k ∧ gs k ≠ S ∧ gs k ≠ L ∧ some (gs k) ≠ v.ownBlock ∧ w.rowIs (gs k) T 4 (numAt fun j => num zs (k * 4 + j))
theorem Opened.below {w w' : World} {X S L : Nat} {T0 T1 T2 : TypeId} {F : Value} {side : Int} {zs : List Int} {n : Nat} {v : Value} {gs : Nat → Nat} (h : Opened w X S L T0 T1 T2 F side zs n v gs) (hb : Below w.heap.size w w') : Opened w' X S L T0 T1 T2 F side zs n v gs :=
 ⟨h.low, (hb.block S (hlT h.side)).trans h.side, (hb.block L (hlT h.list)).trans h.list, oBw h.own hb, h.far⟩
theorem Copies.below {w w' : World} {X S L : Nat} {T : TypeId} {zs : List Int} {n : Nat} {v : Value} {gs : Nat → Nat} (h : Copies w X S L T zs n v gs) (hb : Below w.heap.size w w') : Copies w' X S L T zs n v gs := fun k hk => by
 obtain ⟨h1, h2, h3, h4, h5⟩ := h k hk
 exact ⟨h1, h2, h3, h4, h5.of_block (hb.block _ h5.lt)⟩
theorem zS0 {w : World} {L : Nat} {a b u : Value} {T : TypeId} (h : w.heap[L]? = some (.cells #[a, b] T (0, 0))) : (w.setCell ⟨L, 0, none⟩ u).heap[L]? = some (.cells #[u, b] T (0, 0)) := by
 simp [World.setCell, Array.getElem?_modify, h]
theorem opened_next {w1 w2 : World} {X S L g k : Nat} {T T0 T1 T2 tb : TypeId} {F : Value} {side : Int} {zs : List Int} {v v' : Value} {gs : Nat → Nat} {B : Array Value} (hop : Opened w1 X S L T0 T1 T2 F side zs k v gs) (hcp : Copies w1 X S L T zs k v gs)
 (hg : X ≤ g) (hr : w1.rowIs g T 4 (numAt fun j => num zs (k * 4 + j))) (hS : g ≠ S) (hL : g ≠ L) (hv : some g ≠ v.ownBlock) (hown : w2.ownsRow X T2 1 v' (k + 1) (ptrs gs k ++ [.pointer (some ⟨g, 0, none⟩)]))
 (hgrow : (w1.alloc (.cells B tb)).grownBy w2 v.ownBlock) (hat : v'.ownBlock = v.ownBlock ∨ v'.ownBlock = some (w1.heap.size + 1)) :
 Opened (w2.setCell ⟨L, 0, none⟩ v') X S L T0 T1 T2 F side zs (k + 1) v' (fun j => if j = k then g else gs j) ∧ Copies (w2.setCell ⟨L, 0, none⟩ v') X S L T zs (k + 1) v' (fun j => if j = k then g else gs j) := by
 have hsz : (w1.alloc (.cells B tb)).heap.size = w1.heap.size + 1 := by simp
 have lS := hlT hop.side
 have lL := hlT hop.list
 have lg := hr.lt
 have old : ∀ q, q < w1.heap.size → some q ≠ v.ownBlock → w2.heap[q]? = w1.heap[q]? := fun q hq hne => (hgrow.block q (by omega) hne).trans (Below.heap_alloc w1 _ q hq)
 have hother : ∀ q, q < w1.heap.size → some q ≠ v.ownBlock → some q ≠ v'.ownBlock := fun q hq hne e => by
  rcases hat with h | h
  · exact hne (e.trans h)
  · rw [h] at e; injection e with e; omega
 have hL2 := (old L lL (fun e => hop.far.1 e.symm)).trans hop.list
 have hS2 := (old S lS (fun e => hop.far.2 e.symm)).trans hop.side
 have hfL := hother L lL (fun e => hop.far.1 e.symm)
 have hfS := hother S lS (fun e => hop.far.2 e.symm)
 refine ⟨⟨hop.low, ?_, zS0 hL2, ?_, fun e => hfL e.symm, fun e => hfS e.symm⟩, fun j hj => ?_⟩
 · exact (Below.heap_setCell w2 _ _ S hop.low.2.2).trans hS2
 · have e : ptrs (fun j => if j = k then g else gs j) (k + 1) = ptrs gs k ++ [.pointer (some ⟨g, 0, none⟩)] := by
    rw [ptrs, if_pos rfl, ptrs_congr k (fun q hq => if_neg (by omega))]
   rw [e]
   exact hown.kept (set_grown w2 L 0 v') (.inr (fun e => hfL e.symm))
 · by_cases hjk : j = k
   · subst hjk
     dsimp only
     rw [if_pos rfl]
     exact ⟨hg, hS, hL, hother g lg hv, ((hr.of_block (old g lg hv)).setOther (a := ⟨L, 0, none⟩) hL _)⟩
   · dsimp only
     rw [if_neg hjk]
     obtain ⟨h1, h2, h3, h4, h5⟩ := hcp j (by omega)
     exact ⟨h1, h2, h3, hother _ h5.lt h4, (h5.of_block (old _ h5.lt h4)).setOther (a := ⟨L, 0, none⟩) h3 _⟩
theorem ptr_info : (Tryz.prog.info? 101).map (fun i => (i.zero, i.size, i.bytes)) = some (some (.pointer none), 1, 8) := by kernel_rfl
theorem impl_openedSide (A : Option Addr) (n c : Nat) (zs : List Int) (side : Int) (w : World) (hl : Lst w w.heap.size 4 A n zs) (hn : n ≤ 1048576) :
 Calls Tryz.prog 51 #[.slice A n c, .int .i64 side] w fun e w' => ∃ S L v gs, e = .returned (.pointer (some ⟨L, 0, none⟩)) ∧ Opened w' w.heap.size S L 2 106 101 (.func (.func 77) #[] #[.pointer (some ⟨S, 0, none⟩)]) side zs n v gs ∧ Copies w' w.heap.size S L 65 zs n v gs ∧ Below w.heap.size w w' := by
 obtain ⟨i0, hi, hz0, hz1, hz2⟩ := info_parts ptr_info
 obtain ⟨k0, k1⟩ := two_blocks w (.cells #[.int .i64 side] 2) (.cells #[.slice none 0 0, .func (.func 77) #[] #[.pointer (some ⟨w.heap.size, 0, none⟩)]] 106)
 have hb0 : Below w.heap.size w ((w.alloc (.cells #[.int .i64 side] 2)).alloc (.cells #[.slice none 0 0, .func (.func 77) #[] #[.pointer (some ⟨w.heap.size, 0, none⟩)]] 106)) := ((Below.refl _ _).alloc (Nat.le_refl _) _).alloc (by simp) _
 go_enter Tryz.func51, Tryz.ntmps51
 go_wp2_with fail
 go_loopw [16] (fun i wr => ∃ (k : Nat) (v : Value) (gs : Nat → Nat), k ≤ n ∧ i = .int .i64 (k : Int) ∧ Opened wr w.heap.size w.heap.size (w.heap.size + 1) 2 106 101 (.func (.func 77) #[] #[.pointer (some ⟨w.heap.size, 0, none⟩)]) side zs k v gs ∧ Copies wr w.heap.size w.heap.size (w.heap.size + 1) 65 zs k v gs ∧ Below w.heap.size w wr) (fun i _ => n - (intOf i).toNat)
 case atStart => exact ⟨0, .slice none 0 0, fun _ => 0, Nat.zero_le _, rfl, ⟨⟨by omega, by omega, by omega⟩, k0, k1, World.ownsRow_nil _ _ _ _, by simp [Value.ownBlock], by simp [Value.ownBlock]⟩, fun k hk => absurd hk (Nat.not_lt_zero k), hb0⟩
 case round =>
  obtain ⟨k, v, gs, hk, rfl, hop, hcp, hbel⟩ := hrel
  by_cases hlt : k < n
  · obtain ⟨b, o, rfl, hb, c0, c1, c2, c3⟩ := (hl.below hbel).row4 hlt
    clear k0 k1 hb0
    go_upto_region 6 with fail
    have hba := (Below.refl wr.heap.size wr).alloc (Nat.le_refl _) (.cells #[.int .i64 (num zs (k * 4)), .int .i64 (num zs (k * 4 + 1)), .int .i64 (num zs (k * 4 + 2)), .int .i64 (num zs (k * 4 + 3))] 65)
    have hrow : (wr.alloc (.cells #[.int .i64 (num zs (k * 4)), .int .i64 (num zs (k * 4 + 1)), .int .i64 (num zs (k * 4 + 2)), .int .i64 (num zs (k * 4 + 3))] 65)).rowIs wr.heap.size 65 4 (numAt fun j => num zs (k * 4 + j)) := World.rowIs_alloc wr _ _ _ (fun i hi => by
     simp at hi
     rcases (show i = 0 ∨ i = 1 ∨ i = 2 ∨ i = 3 from by omega) with rfl | rfl | rfl | rfl <;> rfl)
    have hsz1 : (wr.alloc (.cells #[.int .i64 (num zs (k * 4)), .int .i64 (num zs (k * 4 + 1)), .int .i64 (num zs (k * 4 + 2)), .int .i64 (num zs (k * 4 + 3))] 65)).heap.size ≤ wr.heap.size + 1 ∧ wr.heap.size + 1 ≤ (wr.alloc (.cells #[.int .i64 (num zs (k * 4)), .int .i64 (num zs (k * 4 + 1)), .int .i64 (num zs (k * 4 + 2)), .int .i64 (num zs (k * 4 + 3))] 65)).heap.size := by simp
    generalize wr.alloc (.cells #[.int .i64 (num zs (k * 4)), .int .i64 (num zs (k * 4 + 1)), .int .i64 (num zs (k * 4 + 2)), .int .i64 (num zs (k * 4 + 3))] 65) = w1 at *
    have hop1 := hop.below hba
    have hcp1 := hcp.below hba
    have hbel1 := hbel.trans (hba.mono hbel.size)
    have hov := hop.own.lt
    have hbs := hbel.size
    have hlS := hlT hop.side
    have hlL := hlT hop.list
    have cL := cell_of_row w1 (w.heap.size + 1) 0 _ _ (0, 0) hop1.list
    simp at cL
    obtain ⟨A1, d1, rfl, _, _⟩ := oSl hop1.own
    clear hop hcp hbel c0 c1 c2 c3 hba hb
    go_wp2_with (at_builtin; refine wpList_append_own_at _ rfl _ _ 103 rfl w.heap.size 101 i0 _ 1 8 Tryz.underlying103 hi hz0 hz1 hz2 rfl (by decide) _ _ _ rfl (hop1.own.alloc _) ⟨w1.heap.size, 0, none⟩ 1 1 [.pointer (some ⟨wr.heap.size, 0, none⟩)] rfl rfl ?c1 ?c2 ?c3 ?c4 ?c5 ?_)
    case c1 => exact World.news_of_block (heap_alloc_new w1 _)
    case c2 => intro u hu; simp at hu; subst hu; rfl
    case c3 => unfold maxLen; omega
    case c4 => omega
    case c5 => simp; omega
    intro v' w2 hown2 hgrow2 _ hat2
    have hL2 := (hgrow2.block (w.heap.size + 1) (by simp; omega) (fun e => hop1.far.1 e.symm)).trans ((Below.heap_alloc w1 _ (w.heap.size + 1) (by omega)).trans hop1.list)
    have d0 := cell_of_row w2 (w.heap.size + 1) 0 _ _ (0, 0) hL2
    have z0 := frozen_of_row w2 (w.heap.size + 1) 0 _ _ hL2
    simp at d0
    have hnext := opened_next (g := wr.heap.size) hop1 hcp1 (by omega) hrow (by omega) (by omega) (fun e => by have := (hov _ e.symm).2; omega) hown2 hgrow2 hat2
    have hbel2 := (hbel1.alloc (by omega) (.cells #[.pointer (some ⟨wr.heap.size, 0, none⟩)] 101)).grown hgrow2 (by simp; omega) (fun q hq => (hov q hq).1)
    obtain ⟨A2, d2, rfl, _, _⟩ := oSl hown2
    have HN := Lib.hid hnext
    have HB := Lib.hid hbel2
    clear hnext hbel2 hgrow2 hat2 hown2 hop1 hcp1 hrow hbel1 hL2 cL
    go_wp2_with fail
    go_roundw
    case rel => exact ⟨k + 1, _, _, by omega, by go_num, HN.out.1, HN.out.2, HB.out.setCell (p := ⟨w.heap.size + 1, 0, none⟩) (show w.heap.size ≤ w.heap.size + 1 by omega) _⟩
    case measure => simp [intOf]; omega
  · obtain rfl : k = n := by omega
    clear k0 k1 hb0
    go_wp2_with fail
    go_ret
    exact ⟨_, _, v, gs, rfl, hop, hcp, hbel⟩
end Go.Proofs.YtgjjdnojiegidaaGreatDoor
