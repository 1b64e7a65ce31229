/-
 Del, Take, DelFunc, Sel, BookClosed, Drop, MtP.
-/
import Derived.Test.YtgjjdnojiegidaaGreatDoorTak
import Derived.Test.YtgjjdnojiegidaaGreatDoorHC
import Derived.Lib.SliceRun
import Derived.Lib.LazyBuf
import Derived.Test.YtgjjdnojiegidaaGreatDoorHA
namespace Go.Proofs.YtgjjdnojiegidaaGreatDoor
open Go.RowKit Wire
set_option maxHeartbeats 3200000
set_option maxRecDepth 100000
set_option linter.unusedSimpArgs false

theorem impl_isId (ga J : Nat) (x id : Int) (w : World) (hJ : w.cell? ⟨J, 0, none⟩ = some (.int .i64 id)) (ha : w.cell? ⟨ga, 0, none⟩ = some (.int .i64 x)) :
 Calls Tryz.prog 87 #[.pointer (some ⟨ga, 0, none⟩), .pointer (some ⟨J, 0, none⟩)] w fun e w' => e = .returned (.bool (x == id)) ∧ Below w.heap.size w w' := by
 go_enter Tryz.func87, Tryz.ntmps87
 go_wp2_with fail
 go_region_held3 (fun w' => Below w.heap.size w w' ∧ w'.cell? ⟨J, 0, none⟩ = some (.int .i64 id) ∧ w'.cell? ⟨ga, 0, none⟩ = some (.int .i64 x)) (exact kp1)
  (fail)
 rename_i hS
 have hB := hS.1
 clear hS
 go_wp2_with fail
 go_ret
 exact ⟨rfl, hB⟩
theorem impl_IndexFunc (X S L n J : Nat) (side id : Int) (zs : List Int) (v : Value) (gs : Nat → Nat) (w : World) (hop : Opened w X S L 2 106 101 (.func (.func 77) #[] #[.pointer (some ⟨S, 0, none⟩)]) side zs n v gs) (hcp : Copies w X S L 65 zs n v gs) (hn : n ≤ 1048576) (hJ : w.cell? ⟨J, 0, none⟩ = some (.int .i64 id)) (hJs : J < w.heap.size) :
 Calls Tryz.prog 114 #[v, .func (.func 87) #[] #[.pointer (some ⟨J, 0, none⟩)]] w fun e w' => (∃ z, AtRel (idN zs) id n z ∧ e = .returned (.int .i64 z)) ∧ Below w.heap.size w w' := by
 obtain ⟨A1, d1, rfl, _, _⟩ := oSl hop.own
 go_enter Tryz.func114, Tryz.ntmps114
 go_wp2_with fail
 go_loopw [8] (fun i wr => ∃ k : Nat, k ≤ n ∧ i = .int .i64 (k : Int) ∧ (∀ j, j < k → idN zs j ≠ id) ∧ Below w.heap.size w wr) (fun i _ => n - (intOf i).toNat)
 case atStart => exact ⟨0, Nat.zero_le _, rfl, fun j hj => absurd hj (Nat.not_lt_zero j), Below.refl _ _⟩
 case round =>
  obtain ⟨k, hk, rfl, hno, hbel⟩ := hrel
  have HN := Lib.hid hno
  clear hno
  by_cases hlt : k < n
  · obtain ⟨g, cap, hg, _, _⟩ := hop.own.form (by omega)
    injection hg with hg1 hg2 hg3
    subst hg1 hg3
    have p0 := (hop.below hbel).own.cells (g := g) rfl k _ (ptrs_at gs n k hlt)
    rw [add0 g] at p0
    have q0 : wr.cell? ⟨gs k, 0, none⟩ = some (.int .i64 (idN zs k)) := ((hcp.below hbel) k hlt).2.2.2.2.cell (i := 0) (by omega)
    have j0 := (hbel.cell (p := ⟨J, 0, none⟩) hJs).trans hJ
    have hbs := hbel.size
    go_wp2_with fail
    refine (impl_isId (gs k) J (idN zs k) id wr j0 q0).mono ?_
    rcases Bool.eq_false_or_eq_true (idN zs k == id) with hyx | hyx
    · have HX := Lib.hid (beq_iff_eq.1 hyx)
      rw [hyx]
      rintro e w1 ⟨rfl, hb1⟩
      have hbel1 := hbel.trans (hb1.mono hbel.size)
      clear hb1 hbel hyx
      go_wp2_with fail
      go_ret
      exact ⟨⟨_, .inr ⟨k, hlt, rfl, HX.out, HN.out⟩, rfl⟩, hbel1⟩
    · have HX : Hid (idN zs k ≠ id) := Lib.hid (by simpa using hyx)
      rw [hyx]
      rintro e w1 ⟨rfl, hb1⟩
      have hbel1 := hbel.trans (hb1.mono hbel.size)
      clear hb1 hbel hyx
      go_wp2_with fail
      go_roundw
      case rel => exact ⟨k + 1, by omega, by go_num, fun j hj => by
       rcases Nat.lt_or_ge j k with h | h
       · exact HN.out j h
       · obtain rfl : j = k := by omega
         exact HX.out, hbel1⟩
      case measure => simp [intOf]; omega
  · obtain rfl : k = n := by omega
    go_wp2_with fail
    go_ret
    exact ⟨⟨-1, .inl ⟨rfl, HN.out⟩, rfl⟩, hbel⟩
end Go.Proofs.YtgjjdnojiegidaaGreatDoor

namespace Go.Proofs.YtgjjdnojiegidaaGreatDoor
open Go.RowKit Wire
set_option maxHeartbeats 3200000
set_option maxRecDepth 100000
set_option linter.unusedSimpArgs false

def tkZ (zs : List Int) (id : Int) : Nat → List Int
 | 0 => []
 | k + 1 => if num zs (k * 4) = id then tkZ zs id k else tkZ zs id k ++ [num zs (k * 4), num zs (k * 4 + 1), num zs (k * 4 + 2), num zs (k * 4 + 3)]
def tkN (zs : List Int) (id : Int) : Nat → Nat
 | 0 => 0
 | k + 1 => if num zs (k * 4) = id then tkN zs id k else tkN zs id k + 1
theorem own_apart {w w' : World} {B n sz : Nat} {e : TypeId} {v : Value} {xs : List Value} {row : Option Nat} (h : w.ownsRow B e sz v n xs) (hg : w.grownBy w' row) (hr : ∀ q, v.ownBlock = some q → row ≠ some q) : w'.ownsRow B e sz v n xs :=
 h.kept hg (by
  rcases h.2 with ⟨rfl, _⟩ | ⟨g, cap, cur, rfl, _⟩
  · exact .inl rfl
  · exact .inr (fun e => hr g rfl (e.symm.trans rfl)))
theorem tkN_le (zs : List Int) (id : Int) : ∀ k, tkN zs id k ≤ k
 | 0 => Nat.le_refl _
 | k + 1 => by
  have := tkN_le zs id k
  rw [tkN]
  split <;> omega
def TkS (w w' : World) (A1 A2 : Option Addr) (n c m d b o k : Nat) (z0 z1 z2 z3 : Int) : Prop := Below w.heap.size w w' ∧ w'.cell? ⟨w.heap.size, 0, none⟩ = some (.slice A1 n c) ∧ w'.cell? ⟨w.heap.size, 1, none⟩ = some (.slice A2 m d) ∧ w'.cell? ⟨b, o + k * 4, none⟩ = some (.int .i64 z0) ∧ w'.cell? ⟨b, o + k * 4 + 1, none⟩ = some (.int .i64 z1) ∧ w'.cell? ⟨b, o + k * 4 + 2, none⟩ = some (.int .i64 z2) ∧ w'.cell? ⟨b, o + k * 4 + 3, none⟩ = some (.int .i64 z3) ∧ w'.heap[w.heap.size]? = some (.cells #[.slice A1 n c, .slice A2 m d] 30 (0, 0)) ∧ w'.heap[w.heap.size + 1]? = some (.cells #[.slice none 0 0, .slice none 0 0] 30 (0, 0)) ∧ w.heap.size + 2 < w'.heap.size ∧ ∃ x y, w'.heap[w.heap.size + 2]? = some (.cells #[x, y] 30 (0, 0))
theorem TkS.keep {w w' w'' : World} {A1 A2 : Option Addr} {n c m d b o k : Nat} {z0 z1 z2 z3 : Int} (h : TkS w w' A1 A2 n c m d b o k z0 z1 z2 z3) (hb : b < w.heap.size) (hbel : Below w.heap.size w w'') (e : ∀ q, q < w.heap.size + 2 → w''.heap[q]? = w'.heap[q]?) (hs : w.heap.size + 2 < w''.heap.size) (h2 : ∃ x y, w''.heap[w.heap.size + 2]? = some (.cells #[x, y] 30 (0, 0))) : TkS w w'' A1 A2 n c m d b o k z0 z1 z2 z3 := by
 have g : ∀ p : Addr, p.block < w.heap.size + 2 → w''.cell? p = w'.cell? p := fun p hp => by unfold World.cell?; rw [e _ hp]
 exact ⟨hbel, (g _ (by show w.heap.size < _; omega)).trans h.2.1, (g _ (by show w.heap.size < _; omega)).trans h.2.2.1, (g _ (by show b < _; omega)).trans h.2.2.2.1, (g _ (by show b < _; omega)).trans h.2.2.2.2.1, (g _ (by show b < _; omega)).trans h.2.2.2.2.2.1, (g _ (by show b < _; omega)).trans h.2.2.2.2.2.2.1, (e _ (by omega)).trans h.2.2.2.2.2.2.2.1, (e _ (by omega)).trans h.2.2.2.2.2.2.2.2.1, hs, h2⟩
end Go.Proofs.YtgjjdnojiegidaaGreatDoor

namespace Go.Proofs.YtgjjdnojiegidaaGreatDoor
open Go.RowKit Wire
set_option maxHeartbeats 3200000
set_option maxRecDepth 100000
set_option linter.unusedSimpArgs false

def sel (zs : List Int) (id : Int) (gs : Nat → Nat) : Nat → Nat → Nat
 | 0 => fun _ => 0
 | k + 1 => if num zs (k * 4) = id then sel zs id gs k else fun q => if q = tkN zs id k then gs k else sel zs id gs k q
theorem tk_all {zs : List Int} {id : Int} {gs : Nat → Nat} : ∀ k, (∀ j, j < k → idN zs j ≠ id) → tkN zs id k = k ∧ ∀ q, q < k → sel zs id gs k q = gs q
 | 0, _ => ⟨rfl, fun q h => absurd h (Nat.not_lt_zero q)⟩
 | k + 1, h => by
  obtain ⟨h1, h2⟩ := tk_all (gs := gs) k (fun j hj => h j (by omega))
  have hk : ¬ num zs (k * 4) = id := h k (by omega)
  refine ⟨by rw [tkN, if_neg hk, h1], fun q hq => ?_⟩
  rw [sel, if_neg hk]
  by_cases hqk : q = tkN zs id k
  · rw [if_pos hqk, hqk, h1]
  · rw [if_neg hqk]
    exact h2 q (by omega)
theorem grown_below {w w' : World} {row : Option Nat} (hb : Below w.heap.size w w') : w.grownBy w' row := ⟨hb.os, hb.tape, hb.output, hb.size, fun i hi _ => hb.block i hi⟩
theorem sets_grown (g : Nat) : ∀ (vs : List Value) (o : Nat) (w : World), w.grownBy (w.setCells g o vs) (some g)
 | [], _, _ => World.grownBy.refl _ _
 | v :: vs, o, w => World.grownBy.trans (set_grown w g o v) (sets_grown g vs (o + 1) _)
theorem own_of_row {w : World} {X g N cap : Nat} {e : TypeId} {F : Nat → Value} {xs : List Value} (h : w.rowIs g e cap F) (hX : X ≤ g) (hN : N ≤ cap) (hc : cap ≤ maxLen) (hl : xs.length = N) (hx : ∀ q, q < N → xs[q]? = some (F q)) : w.ownsRow X e 1 (.slice (some ⟨g, 0, none⟩) N cap) N xs := by
 obtain ⟨c, h1, h2, h3⟩ := h
 refine ⟨by omega, .inr ⟨g, cap, c, rfl, hX, h1, hN, hc, by omega, ?_⟩⟩
 apply List.ext_getElem?
 intro q
 rw [Nat.mul_one]
 by_cases hq : q < N
 · rw [List.getElem?_take, if_pos hq, hx q hq, Array.getElem?_toList, h3 q (by omega)]
 · rw [List.getElem?_take, if_neg hq, List.getElem?_eq_none (by omega)]
theorem ptr_zero (w : World) : (zeroValue 101).run Tryz.prog w = .ok (.pointer none) w := by kernel_rfl
theorem impl_DeleteFunc (X S L n J : Nat) (side id : Int) (zs : List Int) (v : Value) (gs : Nat → Nat) (w : World) (hop : Opened w X S L 2 106 101 (.func (.func 77) #[] #[.pointer (some ⟨S, 0, none⟩)]) side zs n v gs) (hcp : Copies w X S L 65 zs n v gs) (hn : n ≤ 1048576) (hJ : w.cell? ⟨J, 0, none⟩ = some (.int .i64 id)) (hJs : J < w.heap.size) (hJv : some J ≠ v.ownBlock) :
 Calls Tryz.prog 102 #[v, .func (.func 87) #[] #[.pointer (some ⟨J, 0, none⟩)]] w fun e w' => (∃ v', e = .returned v' ∧ w'.ownsRow X 101 1 v' (tkN zs id n) (ptrs (sel zs id gs n) (tkN zs id n)) ∧ v'.ownBlock = v.ownBlock) ∧ w.grownBy w' v.ownBlock := by
 obtain ⟨A1, d1, rfl, hnd, hdm⟩ := oSl hop.own
 go_enter Tryz.func102, Tryz.ntmps102
 go_wp2_with fail
 refine (impl_IndexFunc X S L n J side id zs _ gs w hop hcp hn hJ hJs).mono ?_
 rintro e w1 ⟨⟨z, hz, rfl⟩, hb1⟩
 rcases hz with ⟨rfl, hno⟩ | ⟨k0, hk0, rfl, hit, hbefore⟩
 · have HT := Lib.hid (tk_all (gs := gs) n hno)
   clear hno
   have hown := oBw hop.own hb1
   go_wp2_with fail
   go_ret
   exact ⟨⟨_, rfl, by rw [HT.out.1, ptrs_congr n HT.out.2]; exact hown, rfl⟩, grown_below hb1⟩
 · have HI := Lib.hid hit
   have HT := Lib.hid (tk_all (gs := gs) k0 hbefore)
   clear hit hbefore
   obtain ⟨g, cap, hg, _, _⟩ := hop.own.form (by omega)
   injection hg with hg1 hg2 hg3
   subst hg1 hg3
   have t0 : ((k0 : Int) == -1) = false := beq_eq_false_iff_ne.2 (by omega)
   have hT1 : tkN zs id (k0 + 1) = k0 := by rw [tkN, if_pos (show num zs (k0 * 4) = id from HI.out), HT.out.1]
   have hS1 : ∀ q, q < k0 → sel zs id gs (k0 + 1) q = gs q := fun q hq => by rw [sel, if_pos (show num zs (k0 * 4) = id from HI.out)]; exact HT.out.2 q hq
   obtain ⟨F0, hrow0, hF0⟩ : ∃ F, w.rowIs g 101 d1 F ∧ ∀ q, q < n → F q = .pointer (some ⟨gs q, 0, none⟩) := by
    rcases hop.own.2 with ⟨h0, _⟩ | ⟨g', cap', cur, e', _, hheap, _, _, hcs, _⟩
    · cases h0
    · injection e' with e1 _ e3
      injection e1 with e1
      injection e1 with e1
      subst e1 e3
      have hr : w.rowIs g 101 d1 (fun q => cur[q]?.getD (.pointer none)) := ⟨cur, hheap, by omega, fun i hi => by simp [show i < cur.size by omega]⟩
      refine ⟨_, hr, fun q hq => ?_⟩
      have h1 := hop.own.cells (g := g) rfl q _ (ptrs_at gs n q hq)
      rw [add0 g] at h1
      have h2 := hr.cell (i := q) (by omega)
      rw [h1] at h2
      injection h2 with h2
      exact h2.symm
   have hgX : X ≤ g := (hop.own.lt g rfl).1
   have H1 := Lib.hid hT1
   have H2 := Lib.hid hS1
   have HF := Lib.hid hF0
   have hrow1 := hrow0.of_block (hb1.block g hrow0.lt)
   clear hT1 hS1 hF0
   go_wp2_with fail
   go_loopw [5, 6] (fun iv jv wr => ∃ (k : Nat) (F : Nat → Value), k ≤ n ∧ jv = .int .i64 (k : Int) ∧ iv = .int .i64 ((tkN zs id k : Nat) : Int) ∧ tkN zs id k < k ∧ wr.rowIs g 101 d1 F ∧ (∀ q, q < tkN zs id k → F q = .pointer (some ⟨sel zs id gs k q, 0, none⟩)) ∧ (∀ q, k ≤ q → q < n → F q = .pointer (some ⟨gs q, 0, none⟩)) ∧ w.grownBy wr (some g)) (fun _ jv _ => n - (intOf jv).toNat)
   case atStart => exact ⟨k0 + 1, F0, by omega, by go_num, by rw [H1.out], by rw [H1.out]; omega, hrow1, fun q hq => by rw [H1.out] at hq; rw [H2.out q hq]; exact HF.out q (by omega), fun q _ hq => HF.out q hq, grown_below hb1⟩
   case round =>
    clear hrow1 hb1
    obtain ⟨k, F, hk, rfl, rfl, htk, hrow, hA, hB, hgr⟩ := hrel
    have HA := Lib.hid hA
    have HBq := Lib.hid hB
    clear hA hB
    have HT1 := Lib.hid (show tkN zs id (k + 1) = if num zs (k * 4) = id then tkN zs id k else tkN zs id k + 1 from rfl)
    have HS1 := Lib.hid (show sel zs id gs (k + 1) = if num zs (k * 4) = id then sel zs id gs k else fun q => if q = tkN zs id k then gs k else sel zs id gs k q from rfl)
    generalize hN : tkN zs id k = N at *
    have HN := Lib.hid hN
    clear hN
    have zf := hrow.frozen
    by_cases hlt : k < n
    · have p0 := hrow.cell (i := k) (by omega)
      rw [HBq.out k (Nat.le_refl _) hlt] at p0
      have cN := hrow.cell (i := N) (by omega)
      have hck := hcp k hlt
      have q0 : wr.cell? ⟨gs k, 0, none⟩ = some (.int .i64 (idN zs k)) := (hck.2.2.2.2.of_block (hgr.block (gs k) hck.2.2.2.2.lt hck.2.2.2.1)).cell (i := 0) (by omega)
      have j0 := hgr.cell hJ hJv
      clear hck
      go_wp2_with fail
      refine (impl_isId (gs k) J (idN zs k) id wr j0 q0).mono ?_
      rcases Bool.eq_false_or_eq_true (idN zs k == id) with hy | hy
      · have HX := Lib.hid (show num zs (k * 4) = id from beq_iff_eq.1 hy)
        rw [hy]
        rintro e w5 ⟨rfl, hb5⟩
        have HR := Lib.hid (hrow.of_block (hb5.block g hrow.lt))
        have HG := Lib.hid (hgr.trans (grown_below hb5))
        clear hb5 hy hrow hgr p0 q0 j0 cN zf
        go_wp2_with fail
        go_roundw
        case rel => exact ⟨k + 1, F, by omega, by go_num, by rw [HT1.out, if_pos HX.out], by rw [HT1.out, if_pos HX.out]; omega, HR.out, fun q hq => by rw [HT1.out, if_pos HX.out] at hq; rw [HS1.out, if_pos HX.out]; exact HA.out q hq, fun q h1 h2 => HBq.out q (by omega) h2, HG.out⟩
        case measure => simp [intOf]; omega
      · have hy' : ¬ idN zs k = id := by simpa using hy
        have HX := Lib.hid (show ¬ num zs (k * 4) = id from hy')
        clear hy'
        rw [hy]
        rintro e w5 ⟨rfl, hb5⟩
        have hrow5 := hrow.of_block (hb5.block g hrow.lt)
        have HR := Lib.hid (hrow5.set N (.pointer (some ⟨gs k, 0, none⟩)))
        have HG := Lib.hid ((hgr.trans (grown_below hb5)).trans (set_grown w5 g N (.pointer (some ⟨gs k, 0, none⟩))))
        have cN5 := hrow5.cell (i := N) (by omega)
        have zf5 := hrow5.frozen
        clear hb5 hy hrow hgr p0 q0 j0 cN zf hrow5
        go_wp2_with fail
        go_roundw
        case rel => exact ⟨k + 1, _, by omega, by go_num, by rw [HT1.out, if_neg HX.out]; go_num, by rw [HT1.out, if_neg HX.out]; omega, HR.out, fun q hq => by
         rw [HT1.out, if_neg HX.out] at hq
         rw [HS1.out, if_neg HX.out]
         by_cases hqN : q = N
         · rw [if_pos hqN, if_pos hqN]
         · rw [if_neg hqN, if_neg hqN]
           exact HA.out q (by omega), fun q h1 h2 => by
         rw [if_neg (by omega)]
         exact HBq.out q (by omega) h2, HG.out⟩
        case measure => simp [intOf]; omega
    · obtain rfl : n = k := by omega
      have hcl : ∀ ty, (Builtin.clear_ #[103] ty #[.slice (some ⟨g, N, none⟩) (n - N) (d1 - N)]).run Tryz.prog wr = .ok (.tuple #[]) (wr.setCells g N (List.replicate (n - N) (.pointer none))) :=
       fun ty => Lib.run_clear_slice wr _ _ ty (.pointer none) Tryz.underlying103 ptr_zero rfl rfl g N _ _ (by omega) (fun j hj => by rw [hrow.cell (i := N + j) (by omega)]; rfl) (fun j hj => hrow.frozen (N + j))
      have HR := Lib.hid (rowIs_setCells (List.replicate (n - N) (.pointer none)) N wr F hrow)
      have HG := Lib.hid (hgr.trans (sets_grown g (List.replicate (n - N) (.pointer none)) N wr))
      go_wp2_with (simp only [hcl])
      go_ret
      have hlen := ptrs_len (sel zs id gs n) N
      refine ⟨⟨_, rfl, ?_, rfl⟩, HG.out⟩
      rw [HN.out]
      exact own_of_row HR.out hgX (by omega) hdm hlen (fun q hq => by
       rw [ptrs_at _ _ q hq, if_neg (by omega), HA.out q hq])
end Go.Proofs.YtgjjdnojiegidaaGreatDoor

namespace Go.Proofs.YtgjjdnojiegidaaGreatDoor
open Go.RowKit Wire
set_option maxHeartbeats 3200000
set_option maxRecDepth 100000
set_option linter.unusedSimpArgs false

theorem tkZ_len (zs : List Int) (id : Int) : ∀ n, (tkZ zs id n).length = tkN zs id n * 4
 | 0 => rfl
 | n + 1 => by
  have ih := tkZ_len zs id n
  rw [tkZ, tkN]
  split
  · exact ih
  · rw [List.length_append, ih]
    simp
    omega
theorem tk_at (zs : List Int) (id : Int) (gs : Nat → Nat) : ∀ n q, q < tkN zs id n → ∃ k, k < n ∧ sel zs id gs n q = gs k ∧ ∀ j, j < 4 → num (tkZ zs id n) (q * 4 + j) = num zs (k * 4 + j)
 | 0, q, h => absurd h (Nat.not_lt_zero q)
 | n + 1, q, h => by
  have hl := tkZ_len zs id n
  by_cases hid : num zs (n * 4) = id
  · rw [tkN, if_pos hid] at h
    obtain ⟨k, h1, h2, h3⟩ := tk_at zs id gs n q h
    rw [sel, if_pos hid, tkZ, if_pos hid]
    exact ⟨k, by omega, h2, h3⟩
  · rw [tkN, if_neg hid] at h
    rw [sel, if_neg hid, tkZ, if_neg hid]
    by_cases hq : q = tkN zs id n
    · subst hq
      refine ⟨n, by omega, if_pos rfl, fun j hj => ?_⟩
      unfold num
      rw [List.getD_eq_getElem?_getD, List.getElem?_append_right (by omega), hl, Nat.add_sub_cancel_left]
      rcases (show j = 0 ∨ j = 1 ∨ j = 2 ∨ j = 3 from by omega) with rfl | rfl | rfl | rfl <;> rfl
    · obtain ⟨k, h1, h2, h3⟩ := tk_at zs id gs n q (by omega)
      refine ⟨k, by omega, (if_neg hq).trans h2, fun j hj => ?_⟩
      rw [← h3 j hj]
      unfold num
      rw [List.getD_eq_getElem?_getD, List.getElem?_append_left (by omega), ← List.getD_eq_getElem?_getD]
theorem Copies.left {w : World} {X S L : Nat} {T : TypeId} {zs : List Int} {n : Nat} {v v' : Value} {gs : Nat → Nat} (h : Copies w X S L T zs n v gs) (id : Int) (hv : v'.ownBlock = v.ownBlock) : Copies w X S L T (tkZ zs id n) (tkN zs id n) v' (sel zs id gs n) := fun q hq => by
 obtain ⟨k, h1, h2, h3⟩ := tk_at zs id gs n q hq
 obtain ⟨c1, c2, c3, c4, c5⟩ := h k h1
 rw [h2, hv]
 exact ⟨c1, c2, c3, c4, c5.congr (fun j hj => by simp only [numAt]; rw [h3 j hj])⟩
end Go.Proofs.YtgjjdnojiegidaaGreatDoor

namespace Go.Proofs.YtgjjdnojiegidaaGreatDoor
open Go.RowKit Wire
set_option maxHeartbeats 3200000
set_option maxRecDepth 100000
set_option linter.unusedSimpArgs false

theorem impl_closed (X1 S1 L1 X2 S2 L2 n m : Nat) (v1 v2 : Value) (gs1 gs2 : Nat → Nat) (za zb : List Int) (w : World) (hop1 : Opened w X1 S1 L1 2 106 101 (.func (.func 77) #[] #[.pointer (some ⟨S1, 0, none⟩)]) 1 za n v1 gs1) (hcp1 : Copies w X1 S1 L1 65 za n v1 gs1) (hop2 : Opened w X2 S2 L2 2 106 101 (.func (.func 77) #[] #[.pointer (some ⟨S2, 0, none⟩)]) 2 zb m v2 gs2) (hcp2 : Copies w X2 S2 L2 65 zb m v2 gs2) (hn : n ≤ 1048576) (hm : m ≤ 1048576) (hza : za.length = n * 4) (hzb : zb.length = m * 4) :
 Calls Tryz.prog 25 #[.agg #[.pointer (some ⟨L1, 0, none⟩), .pointer (some ⟨L2, 0, none⟩)]] w fun e w' => (∃ r1 r2, e = .returned (.agg #[r1, r2]) ∧ w'.ownsRow w.heap.size 65 4 r1 n (nums za) ∧ w'.ownsRow w.heap.size 65 4 r2 m (nums zb) ∧ ∀ q, r1.ownBlock = some q → r2.ownBlock ≠ some q) ∧ Below w.heap.size w w' := by
 obtain ⟨k0, k1⟩ := two_blocks w (.cells #[.pointer (some ⟨L1, 0, none⟩), .pointer (some ⟨L2, 0, none⟩)] 55) (.cells #[.slice none 0 0, .slice none 0 0] 30)
 have hb0 : Below w.heap.size w ((w.alloc (.cells #[.pointer (some ⟨L1, 0, none⟩), .pointer (some ⟨L2, 0, none⟩)] 55)).alloc (.cells #[.slice none 0 0, .slice none 0 0] 30)) := ((Below.refl _ _).alloc (Nat.le_refl _) _).alloc (by simp) _
 have hs0 : w.heap.size + 1 < ((w.alloc (.cells #[.pointer (some ⟨L1, 0, none⟩), .pointer (some ⟨L2, 0, none⟩)] 55)).alloc (.cells #[.slice none 0 0, .slice none 0 0] 30)).heap.size := by simp
 go_enter Tryz.func25, Tryz.ntmps25
 go_upto_region 1 with fail
 generalize ((w.alloc (.cells #[.pointer (some ⟨L1, 0, none⟩), .pointer (some ⟨L2, 0, none⟩)] 55)).alloc (.cells #[.slice none 0 0, .slice none 0 0] 30)) = w0 at *
 have p0 := cell_of_row w0 w.heap.size 0 _ _ (0, 0) k0
 have p1 := cell_of_row w0 w.heap.size 1 _ _ (0, 0) k0
 simp at p0 p1
 refine wp_region_held_drew (S := (fun w' => Below w.heap.size w w' ∧ w'.cell? ⟨w.heap.size, 0, none⟩ = some (.pointer (some ⟨L1, 0, none⟩)) ∧ w'.cell? ⟨w.heap.size, 1, none⟩ = some (.pointer (some ⟨L2, 0, none⟩)) ∧ w.heap.size + 1 < w'.heap.size ∧ ∃ x y, w'.heap[w.heap.size + 1]? = some (.cells #[x, y] 30 (0, 0)))) (by kernel_rfl) ?hS0 (fun zH => ?rest0)
 case hS0 => exact ⟨hb0.drew, p0, p1, hs0, _, _, k1⟩
 refine tkV 0 ?_
 refine tkV 1 ?_
 refine tkV 3 ?_
 refine tkV 4 ?_
 refine rd1 2 (fun K hK => ?_)
 have hG1 := zH.2.2.2.1
 go_simp
 go_at_call 52
 refine (impl_closedSide X1 S1 L1 n 1 za v1 gs1 _ (hop1.below zH.1) (hcp1.below zH.1) hn hza).mono ?_
 rintro e u1 ⟨r1, rfl, hr1, hb1'⟩
 have hsz1 := zH.1.size
 have lr1 := hr1.lt
 refine hK.out _ _ (⟨zH.1.trans (hb1'.mono zH.1.size), (hb1'.cell (p := ⟨w.heap.size, 0, none⟩) (show w.heap.size < _ by omega)).trans zH.2.1, (hb1'.cell (p := ⟨w.heap.size, 1, none⟩) (show w.heap.size < _ by omega)).trans zH.2.2.1, Nat.lt_of_lt_of_le hG1 hb1'.size, by obtain ⟨x, y, h⟩ := zH.2.2.2.2; exact ⟨x, y, (hb1'.block _ hG1).trans h⟩⟩) (fun zH => ?_)
 clear hK K
 try simp only [Act.put, sA, sB, sC]
 refine rd1 5 (fun K hK => ?_)
 have hG2 := zH.2.2.2.1
 go_simp
 go_at_call 52
 refine (impl_closedSide X2 S2 L2 m 2 zb v2 gs2 _ (hop2.below zH.1) (hcp2.below zH.1) hm hzb).mono ?_
 rintro e u2 ⟨r2, rfl, hr2, hb2'⟩
 have hsz2 := zH.1.size
 have lr2 := hr2.lt
 refine hK.out _ _ (⟨zH.1.trans (hb2'.mono zH.1.size), (hb2'.cell (p := ⟨w.heap.size, 0, none⟩) (show w.heap.size < _ by omega)).trans zH.2.1, (hb2'.cell (p := ⟨w.heap.size, 1, none⟩) (show w.heap.size < _ by omega)).trans zH.2.2.1, Nat.lt_of_lt_of_le hG2 hb2'.size, by obtain ⟨x, y, h⟩ := zH.2.2.2.2; exact ⟨x, y, (hb2'.block _ hG2).trans h⟩⟩) (fun zH => ?_)
 clear hK K
 try simp only [Act.put, sA, sB, sC]
 have hr1 := oBw hr1 hb2'
 obtain ⟨A1, d1, rfl, _, _⟩ := oSl hr1
 obtain ⟨A2, d2, rfl, _, _⟩ := oSl hr2
 have hz1 := hb1'.size
 have hne : ∀ q, (Value.slice A1 n d1).ownBlock = some q → (Value.slice A2 m d2).ownBlock ≠ some q := fun q h1 h2 => by have a := (lr1 q h1).2; have b := (lr2 q h2).1; omega
 obtain ⟨x, y, hr⟩ := zH.2.2.2.2
 refine tkV 6 ?_
 refine rd1 7 (fun K hK => ?_)
 have hX := zH
 have r0 := cell_of_row u2 (w.heap.size + 1) 0 _ _ (0, 0) hr
 have r1 := cell_of_row u2 (w.heap.size + 1) 1 _ _ (0, 0) hr
 have z0 := frozen_of_row u2 (w.heap.size + 1) 0 _ _ hr
 have z1 := frozen_of_row u2 (w.heap.size + 1) 1 _ _ hr
 simp at r0 r1
 go_simp
 refine hK.out _ _ (⟨(hX.1.setCell (p := ⟨w.heap.size + 1, 0, none⟩) (show w.heap.size ≤ w.heap.size + 1 by omega) _).setCell (p := ⟨w.heap.size + 1, 1, none⟩) (show w.heap.size ≤ w.heap.size + 1 by omega) _, by simp [go_sem, hX.2.1], by simp [go_sem, hX.2.2.1], by simpa [World.setCell] using hX.2.2.2.1, _, _, zS1 (zS0 hr)⟩) (fun zH => ?_)
 clear hK K
 try simp only [Act.put, sA, sB, sC]
 refine dn1 ?_
 have f0 := cell_of_row _ (w.heap.size + 1) 0 _ _ (0, 0) (zS1 (b := y) (u := .slice A2 m d2) (zS0 (u := .slice A1 n d1) hr))
 have f1 := cell_of_row _ (w.heap.size + 1) 1 _ _ (0, 0) (zS1 (b := y) (u := .slice A2 m d2) (zS0 (u := .slice A1 n d1) hr))
 simp at f0 f1
 have E0 := Lib.hid hr1
 have E1 := Lib.hid hr2
 go_wp2_with fail
 have ap : ∀ {B : Nat} {v : Value} {N : Nat} {xs : List Value}, u2.ownsRow B 65 4 v N xs → w.heap.size + 1 < B → ((u2.setCell ⟨w.heap.size + 1, 0, none⟩ (.slice A1 n d1)).setCell ⟨w.heap.size + 1, 1, none⟩ (.slice A2 m d2)).ownsRow w.heap.size 65 4 v N xs := fun h hB => by
  have h1 := own_apart h (set_grown u2 (w.heap.size + 1) 0 (.slice A1 n d1)) (fun q hq e => by have := (h.lt q hq).1; injection e with e; omega)
  exact oMn (own_apart h1 (set_grown _ (w.heap.size + 1) 1 (.slice A2 m d2)) (fun q hq e => by have := (h.lt q hq).1; injection e with e; omega)) (by omega)
 exact bodyPost_ret (v := .agg #[.slice A1 n d1, .slice A2 m d2]) (by simp [results, Tryz.results25, go_sem, f0, f1]) rfl ⟨⟨_, _, rfl, ap E0.out hG1, ap E1.out hG2, hne⟩, zH.1⟩
end Go.Proofs.YtgjjdnojiegidaaGreatDoor

namespace Go.Proofs.YtgjjdnojiegidaaGreatDoor
open Go.RowKit Wire
set_option maxHeartbeats 3200000
set_option maxRecDepth 100000
set_option linter.unusedSimpArgs false

theorem Opened.drew {w : World} {X S L : Nat} {T0 T1 T2 : TypeId} {F : Value} {side : Int} {zs : List Int} {n : Nat} {v : Value} {gs : Nat → Nat} (h : Opened w X S L T0 T1 T2 F side zs n v gs) : Opened w.drew X S L T0 T1 T2 F side zs n v gs := h.below (Below.refl _ _).drew
theorem Copies.drew {w : World} {X S L : Nat} {T : TypeId} {zs : List Int} {n : Nat} {v : Value} {gs : Nat → Nat} (h : Copies w X S L T zs n v gs) : Copies w.drew X S L T zs n v gs := h.below (Below.refl _ _).drew
theorem Opened.kept {w w' : World} {X S L : Nat} {T0 T1 T2 : TypeId} {F : Value} {side : Int} {zs : List Int} {n : Nat} {v : Value} {gs : Nat → Nat} {row : Option Nat} (h : Opened w X S L T0 T1 T2 F side zs n v gs) (hg : w.grownBy w' row) (hr : ∀ q, row = some q → q ≠ S ∧ q ≠ L ∧ v.ownBlock ≠ some q) : Opened w' X S L T0 T1 T2 F side zs n v gs :=
 ⟨h.low, (hg.block S (hlT h.side) (fun e => (hr S e.symm).1 rfl)).trans h.side, (hg.block L (hlT h.list) (fun e => (hr L e.symm).2.1 rfl)).trans h.list, own_apart h.own hg (fun q hq e => (hr q e).2.2 hq), h.far⟩
theorem Copies.kept {w w' : World} {X S L : Nat} {T : TypeId} {zs : List Int} {n : Nat} {v : Value} {gs : Nat → Nat} {row : Option Nat} (h : Copies w X S L T zs n v gs) (hg : w.grownBy w' row) (hr : ∀ q, row = some q → ∀ k, k < n → gs k ≠ q) : Copies w' X S L T zs n v gs := fun k hk => by
 obtain ⟨h1, h2, h3, h4, h5⟩ := h k hk
 exact ⟨h1, h2, h3, h4, h5.of_block (hg.block _ h5.lt (fun e => hr _ e.symm k hk rfl))⟩
theorem drop_far {w : World} {X S L : Nat} {T0 T1 T2 : TypeId} {F : Value} {side : Int} {zs : List Int} {n : Nat} {v : Value} {gs : Nat → Nat} (h : Opened w X S L T0 T1 T2 F side zs n v gs) {q : Nat} (hq : q < X) : q ≠ S ∧ q ≠ L ∧ v.ownBlock ≠ some q := by
 obtain ⟨h1, h2, _⟩ := h.low
 exact ⟨by omega, by omega, fun e => by have := (h.own.lt q e).1; omega⟩
theorem drop_one {u u1 : World} {X S L : Nat} {T T0 T1 T2 : TypeId} {F : Value} {side : Int} {zs zs' : List Int} {n N : Nat} {v v' : Value} {gs g' : Nat → Nat} (hop : Opened u X S L T0 T1 T2 F side zs n v gs) (_ : Copies u X S L T zs n v gs) (hg : u.grownBy u1 v.ownBlock) (hv : v'.ownBlock = v.ownBlock) (hown : u1.ownsRow X T2 1 v' N (ptrs g' N)) (hcp : Copies u X S L T zs' N v' g') :
 Opened (u1.setCell ⟨L, 0, none⟩ v') X S L T0 T1 T2 F side zs' N v' g' ∧ Copies (u1.setCell ⟨L, 0, none⟩ v') X S L T zs' N v' g' := by
 refine ⟨⟨hop.low, (Below.heap_setCell u1 _ _ S hop.low.2.2).trans ((hg.block S (hlT hop.side) (fun e => hop.far.2 e.symm)).trans hop.side), zS0 ((hg.block L (hlT hop.list) (fun e => hop.far.1 e.symm)).trans hop.list), hown.kept (set_grown u1 L 0 v') (.inr (fun e => hop.far.1 (hv.symm.trans e))), by rw [hv]; exact hop.far⟩, fun k hk => ?_⟩
 obtain ⟨h1, h2, h3, h4, h5⟩ := hcp k hk
 exact ⟨h1, h2, h3, h4, (h5.of_block (hg.block _ h5.lt (by rw [← hv]; exact h4))).setOther (a := ⟨L, 0, none⟩) h3 _⟩
theorem impl_drop (X1 S1 L1 X2 S2 L2 n m J : Nat) (v1 v2 : Value) (gs1 gs2 : Nat → Nat) (id : Int) (za zb : List Int) (w : World) (hp1 : Opened w X1 S1 L1 2 106 101 (.func (.func 77) #[] #[.pointer (some ⟨S1, 0, none⟩)]) 1 za n v1 gs1 ∧ Copies w X1 S1 L1 65 za n v1 gs1) (hp2 : Opened w X2 S2 L2 2 106 101 (.func (.func 77) #[] #[.pointer (some ⟨S2, 0, none⟩)]) 2 zb m v2 gs2 ∧ Copies w X2 S2 L2 65 zb m v2 gs2) (hn : n ≤ 1048576) (hm : m ≤ 1048576) (hJ : w.cell? ⟨J, 0, none⟩ = some (.int .i64 id)) (hJX : J < X1) (hX : X1 ≤ X2) (hfar : S1 < X2 ∧ L1 < X2 ∧ (∀ q, v1.ownBlock = some q → q < X2) ∧ ∀ k, k < n → gs1 k < X2) :
 Calls Tryz.prog 86 #[.agg #[.pointer (some ⟨L1, 0, none⟩), .pointer (some ⟨L2, 0, none⟩)], .func (.func 87) #[] #[.pointer (some ⟨J, 0, none⟩)]] w fun e w' => (∃ u, e = .returned u) ∧ ∃ u1 u2, (Opened w' X1 S1 L1 2 106 101 (.func (.func 77) #[] #[.pointer (some ⟨S1, 0, none⟩)]) 1 (tkZ za id n) (tkN za id n) u1 (sel za id gs1 n) ∧ Copies w' X1 S1 L1 65 (tkZ za id n) (tkN za id n) u1 (sel za id gs1 n)) ∧ (Opened w' X2 S2 L2 2 106 101 (.func (.func 77) #[] #[.pointer (some ⟨S2, 0, none⟩)]) 2 (tkZ zb id m) (tkN zb id m) u2 (sel zb id gs2 m) ∧ Copies w' X2 S2 L2 65 (tkZ zb id m) (tkN zb id m) u2 (sel zb id gs2 m)) ∧ Below X1 w w' ∧ ∀ i, i < w.heap.size → i ≠ L1 → i ≠ L2 → some i ≠ v1.ownBlock → some i ≠ v2.ownBlock → w'.heap[i]? = w.heap[i]? := by
 obtain ⟨hop1, hcp1⟩ := hp1
 obtain ⟨hop2, hcp2⟩ := hp2
 obtain ⟨hf1, hf2, hf3, hf4⟩ := hfar
 have hb0 : Below w.heap.size w (w.alloc (.cells #[.pointer (some ⟨L1, 0, none⟩), .pointer (some ⟨L2, 0, none⟩)] 55)) := (Below.refl _ _).alloc (Nat.le_refl _) _
 have k0 := heap_alloc_new w (.cells #[.pointer (some ⟨L1, 0, none⟩), .pointer (some ⟨L2, 0, none⟩)] 55)
 have p0 := cell_of_row _ w.heap.size 0 _ _ (0, 0) k0
 have p1 := cell_of_row _ w.heap.size 1 _ _ (0, 0) k0
 have hopA := hop1.below hb0
 have hcpA := hcp1.below hb0
 have hopB := hop2.below hb0
 have hcpB := hcp2.below hb0
 have hJ0 := (hb0.cell (p := ⟨J, 0, none⟩) (Nat.lt_of_lt_of_le hJX (Nat.le_of_lt (Nat.lt_of_le_of_lt hop1.low.1 (hlT hop1.side))))).trans hJ
 go_enter Tryz.func86, Tryz.ntmps86
 go_upto_region 1 with fail
 generalize (w.alloc (.cells #[.pointer (some ⟨L1, 0, none⟩), .pointer (some ⟨L2, 0, none⟩)] 55)) = w0 at *
 simp at p0 p1
 have hJs : J < w0.heap.size := Nat.lt_of_lt_of_le hJX (Nat.le_of_lt (Nat.lt_of_le_of_lt hopA.low.1 (hlT hopA.side)))
 have hws : w.heap.size < w0.heap.size := hlT k0
 have hb1 : Below X1 w w0 := hb0.mono (Nat.le_trans hop1.low.1 (Nat.le_of_lt (hlT hop1.side)))
 have hL1w : w.heap.size ≠ L1 := fun e => by have := hlT hop1.list; omega
 have hL2w : w.heap.size ≠ L2 := fun e => by have := hlT hop2.list; omega
 have hJb1 : some w.heap.size ≠ v1.ownBlock := fun e => by have := (hop1.own.lt _ e.symm).2; omega
 have hJb2 : some w.heap.size ≠ v2.ownBlock := fun e => by have := (hop2.own.lt _ e.symm).2; omega
 have hJv1 : some J ≠ v1.ownBlock := fun e => by have := (hop1.own.lt _ e.symm).1; omega
 have hJv2 : some J ≠ v2.ownBlock := fun e => by have := (hop2.own.lt _ e.symm).1; omega
 have hWL1 : L1 ≠ w.heap.size := fun e => hL1w e.symm
 have hWL2 : L2 ≠ w.heap.size := fun e => hL2w e.symm
 have hXs : X1 ≤ w0.heap.size := Nat.le_trans hopA.low.1 (Nat.le_of_lt (hlT hopA.side))
 have hk0 : ∀ i, i < w.heap.size → w0.heap[i]? = w.heap[i]? := fun i hi => hb0.block i hi
 clear hop1 hcp1 hop2 hcp2 hb0 k0 hJ
 have hJ := hJ0
 have hop1 := hopA
 have hcp1 := hcpA
 clear hopA hcpA hJ0
 refine wp_region_held_drew (S := (fun w' => w'.cell? ⟨w.heap.size, 0, none⟩ = some (.pointer (some ⟨L1, 0, none⟩)) ∧ w'.cell? ⟨w.heap.size, 1, none⟩ = some (.pointer (some ⟨L2, 0, none⟩)))) (by kernel_rfl) ?hSr1 (fun zH => ?restr1)
 case hSr1 => exact ⟨p0, p1⟩
 refine tkV 0 ?_
 refine tkV 1 ?_
 refine tkV 2 ?_
 refine tkV 3 ?_
 refine tkV 4 ?_
 refine tkV 5 ?_
 refine tkV 7 ?_
 have hl1 := cell_of_row _ L1 0 _ _ (0, 0) hop1.drew.list
 simp only [List.getElem?_toArray, List.getElem?_cons_zero] at hl1
 refine rd1 6 (fun K hK => ?_)
 go_simp
 refine hK.out _ _ (zH) (fun zH => ?_)
 clear hK K
 try simp only [Act.put, sA, sB, sC]
 clear hl1
 refine rd1 8 (fun K hK => ?_)
 go_simp
 go_at_call 102
 refine (impl_DeleteFunc X1 S1 L1 n J 1 id za v1 gs1 _ hop1.drew hcp1.drew hn hJ hJs hJv1).mono ?_
 rintro e u1 ⟨⟨r1, rfl, hr1, hv1⟩, hg1⟩
 obtain ⟨A1, d1, rfl, _, _⟩ := oSl hr1
 have hx10 : u1.cell? ⟨w.heap.size, 0, none⟩ = _ := (hg1.cell p0 hJb1)
 have hx11 : u1.cell? ⟨w.heap.size, 1, none⟩ = _ := (hg1.cell p1 hJb1)
 refine hK.out _ _ (⟨hx10, hx11⟩) (fun zH => ?_)
 clear hK K
 try simp only [Act.put, sA, sB, sC]
 refine tkV 9 ?_
 refine tkV 10 ?_
 have hk1 := (hg1.block L1 (hlT hop1.drew.list) (fun e => hop1.far.1 e.symm)).trans hop1.drew.list
 have hq1 := cell_of_row _ L1 0 _ _ (0, 0) hk1
 have hf1z := frozen_of_row _ L1 0 _ _ hk1
 simp only [List.getElem?_toArray, List.getElem?_cons_zero] at hq1
 refine rd1 11 (fun K hK => ?_)
 go_simp
 refine hK.out _ _ (⟨(World.cell?_setCell_far _ _ _ _ hWL1).trans zH.1, (World.cell?_setCell_far _ _ _ _ hWL1).trans zH.2⟩) (fun zH => ?_)
 clear hK K
 try simp only [Act.put, sA, sB, sC]
 refine dn1 ?_
 obtain ⟨hop1, hcp1⟩ := drop_one hop1.drew hcp1.drew hg1 hv1 hr1 (hcp1.drew.left id hv1)
 have hB := (hopB.drew.kept hg1 (fun q hq => drop_far hopB (hf3 q hq))).kept (set_grown u1 L1 0 (.slice A1 (tkN za id n) d1)) (fun q hq => drop_far hopB (by injection hq with hq; omega))
 have hC := (hcpB.drew.kept hg1 (fun q hq k hk => by have := (hcpB k hk).1; have := hf3 q hq; omega)).kept (set_grown u1 L1 0 (.slice A1 (tkN za id n) d1)) (fun q hq k hk => by have := (hcpB k hk).1; injection hq with hq; omega)
 have hJ := (World.cell?_setCell_far u1 ⟨L1, 0, none⟩ ⟨J, 0, none⟩ (.slice A1 (tkN za id n) d1) (fun e => by have := hop1.low.2.1; have e : L1 = J := e; omega)).trans (hg1.cell (show w0.drew.cell? _ = _ from hJ) hJv1)
 have hz1 : (u1.setCell ⟨L1, 0, none⟩ (.slice A1 (tkN za id n) d1)).heap.size = u1.heap.size := by simp [World.setCell]
 have hs1 : w0.heap.size ≤ u1.heap.size := hg1.size
 have hJs : J < (u1.setCell ⟨L1, 0, none⟩ (.slice A1 (tkN za id n) d1)).heap.size := by omega
 have hbX := (hb1.drew.grown hg1 hXs (fun q hq => (hop1.own.lt q (hv1.trans hq)).1)).setCell (p := ⟨L1, 0, none⟩) hop1.low.2.1 (.slice A1 (tkN za id n) d1)
 have hN1 := Lib.hid hv1
 have HK := Lib.hid (fun (i : Nat) (hi : i < w.heap.size) (h1 : i ≠ L1) (h2 : some i ≠ v1.ownBlock) => (Below.heap_setCell u1 ⟨L1, 0, none⟩ (.slice A1 (tkN za id n) d1) i h1).trans ((hg1.block i (Nat.lt_trans hi hws) h2).trans (hk0 i hi)))
 have hwy : w.heap.size < (u1.setCell ⟨L1, 0, none⟩ (.slice A1 (tkN za id n) d1)).heap.size := by omega
 obtain ⟨p0, p1⟩ := zH
 clear hopB hcpB hk1 hq1 hf1z hr1 hg1 hx10 hx11 hb1 hv1
 have hXy1 : X1 ≤ (u1.setCell ⟨L1, 0, none⟩ (.slice A1 (tkN za id n) d1)).heap.size := by omega
 generalize hA1 : (Value.slice A1 (tkN za id n) d1) = t1 at *
 generalize (u1.setCell ⟨L1, 0, none⟩ t1) = y1 at *
 have hop2 := hB
 have hcp2 := hC
 clear hB hC
 go_upto_region 2 with fail
 refine wp_region_held_drew (S := (fun w' => w'.cell? ⟨w.heap.size, 0, none⟩ = some (.pointer (some ⟨L1, 0, none⟩)) ∧ w'.cell? ⟨w.heap.size, 1, none⟩ = some (.pointer (some ⟨L2, 0, none⟩)))) (by kernel_rfl) ?hSr2 (fun zH => ?restr2)
 case hSr2 => exact ⟨p0, p1⟩
 refine tkV 0 ?_
 refine tkV 1 ?_
 refine tkV 2 ?_
 refine tkV 3 ?_
 refine tkV 4 ?_
 refine tkV 5 ?_
 refine tkV 7 ?_
 have hl2 := cell_of_row _ L2 0 _ _ (0, 0) hop2.drew.list
 simp only [List.getElem?_toArray, List.getElem?_cons_zero] at hl2
 refine rd1 6 (fun K hK => ?_)
 go_simp
 refine hK.out _ _ (zH) (fun zH => ?_)
 clear hK K
 try simp only [Act.put, sA, sB, sC]
 clear hl2
 refine rd1 8 (fun K hK => ?_)
 go_simp
 go_at_call 102
 refine (impl_DeleteFunc X2 S2 L2 m J 2 id zb v2 gs2 _ hop2.drew hcp2.drew hm hJ hJs hJv2).mono ?_
 rintro e u2 ⟨⟨r2, rfl, hr2, hv2⟩, hg2⟩
 obtain ⟨A2, d2, rfl, _, _⟩ := oSl hr2
 have hx20 : u2.cell? ⟨w.heap.size, 0, none⟩ = _ := (hg2.cell p0 hJb2)
 have hx21 : u2.cell? ⟨w.heap.size, 1, none⟩ = _ := (hg2.cell p1 hJb2)
 refine hK.out _ _ (⟨hx20, hx21⟩) (fun zH => ?_)
 clear hK K
 try simp only [Act.put, sA, sB, sC]
 refine tkV 9 ?_
 refine tkV 10 ?_
 have hk2 := (hg2.block L2 (hlT hop2.drew.list) (fun e => hop2.far.1 e.symm)).trans hop2.drew.list
 have hq2 := cell_of_row _ L2 0 _ _ (0, 0) hk2
 have hf2z := frozen_of_row _ L2 0 _ _ hk2
 simp only [List.getElem?_toArray, List.getElem?_cons_zero] at hq2
 refine rd1 11 (fun K hK => ?_)
 go_simp
 refine hK.out _ _ (⟨(World.cell?_setCell_far _ _ _ _ hWL2).trans zH.1, (World.cell?_setCell_far _ _ _ _ hWL2).trans zH.2⟩) (fun zH => ?_)
 clear hK K
 try simp only [Act.put, sA, sB, sC]
 refine dn1 ?_
 have hBop2 := hop2
 have hXy : X1 ≤ y1.heap.size := by omega
 obtain ⟨hop2, hcp2⟩ := drop_one hop2.drew hcp2.drew hg2 hv2 hr2 (hcp2.drew.left id hv2)
 have hge : ∀ q, v2.ownBlock = some q → X2 ≤ q := fun q hq => (hBop2.own.lt q hq).1
 have hsel : ∀ k, k < tkN za id n → sel za id gs1 n k < X2 := fun k hk => by
  obtain ⟨j, hj, he, _⟩ := tk_at za id gs1 n k hk
  rw [he]
  exact hf4 j hj
 have fr : ∀ q, X2 ≤ q → q ≠ S1 ∧ q ≠ L1 ∧ t1.ownBlock ≠ some q := fun q hq => ⟨by omega, by omega, fun e => by have := hf3 q (hN1.out.symm.trans e); omega⟩
 have hL2X : X2 ≤ L2 := hBop2.low.2.1
 have h1 := (hop1.drew.kept hg2 (fun q hq => fr q (hge q hq))).kept (set_grown u2 L2 0 (.slice A2 (tkN zb id m) d2)) (fun q hq => fr q (by injection hq with hq; omega))
 have h2 := (hcp1.drew.kept hg2 (fun q hq k hk => by have := hsel k hk; have := hge q hq; omega)).kept (set_grown u2 L2 0 (.slice A2 (tkN zb id m) d2)) (fun q hq k hk => by have := hsel k hk; injection hq with hq; omega)
 have hfin := (hbX.drew.grown hg2 hXy (fun q hq => Nat.le_trans hX (hge q hq))).setCell (p := ⟨L2, 0, none⟩) (Nat.le_trans hX hL2X) (.slice A2 (tkN zb id m) d2)
 have HK2 := fun (i : Nat) (hi : i < w.heap.size) (h1 : i ≠ L1) (h2 : i ≠ L2) (h3 : some i ≠ v1.ownBlock) (h4 : some i ≠ v2.ownBlock) => (Below.heap_setCell u2 ⟨L2, 0, none⟩ (.slice A2 (tkN zb id m) d2) i h2).trans ((hg2.block i (Nat.lt_trans hi hwy) h4).trans (HK.out i hi h1 h3))
 go_wp2_with fail
 go_end0
 exact ⟨⟨_, rfl⟩, _, _, ⟨h1, h2⟩, ⟨hop2, hcp2⟩, hfin, HK2⟩
end Go.Proofs.YtgjjdnojiegidaaGreatDoor

namespace Go.Proofs.YtgjjdnojiegidaaGreatDoor
open Go.RowKit Wire
set_option maxHeartbeats 3200000
set_option maxRecDepth 100000
set_option linter.unusedSimpArgs false

def canR (i a p c : Int) : List Int := [0, 4, 0, a, i, 0, p, c]
def filR (id acct i p t : Int) : List Int := [0, 3, 0, acct, id, i, p, t]
def mtS (side id acct pr mode : Int) : List Int → List Int → Int → List Int × List Int × Int
 | i :: a :: p :: c :: t, R, q =>
  if 0 < q ∧ meetB side pr p = true then
   if a = acct then
    if mode = 1 then (i :: a :: p :: c :: t, R ++ canR id acct pr q, 0)
    else if mode = 2 then mtS side id acct pr mode t (R ++ canR i a p c) q
    else (t, R ++ canR i a p c ++ canR id acct pr q, 0)
   else if c ≤ q then mtS side id acct pr mode t (R ++ filR id acct i p c) (q - c)
   else (i :: a :: p :: (c - q) :: t, R ++ filR id acct i p q, 0)
  else (i :: a :: p :: c :: t, R, q)
 | Z, R, q => (Z, R, q)
theorem mtS_nil {side id acct pr mode : Int} {R : List Int} {q : Int} : mtS side id acct pr mode [] R q = ([], R, q) := by simp [mtS]
theorem mtS_cons {side id acct pr mode i a p c : Int} {t R : List Int} {q : Int} : mtS side id acct pr mode (i :: a :: p :: c :: t) R q =
 if 0 < q ∧ meetB side pr p = true then
  if a = acct then
   if mode = 1 then (i :: a :: p :: c :: t, R ++ canR id acct pr q, 0)
   else if mode = 2 then mtS side id acct pr mode t (R ++ canR i a p c) q
   else (t, R ++ canR i a p c ++ canR id acct pr q, 0)
  else if c ≤ q then mtS side id acct pr mode t (R ++ filR id acct i p c) (q - c)
  else (i :: a :: p :: (c - q) :: t, R ++ filR id acct i p q, 0)
 else (i :: a :: p :: c :: t, R, q) := by
 conv => lhs; rw [mtS]
theorem mtS_done {side id acct pr mode : Int} {R : List Int} : ∀ {Z : List Int} {q : Int}, ¬ 0 < q → ∀ m, Z.length = m * 4 → mtS side id acct pr mode Z R q = (Z, R, q)
 | [], q, _, _, _ => mtS_nil
 | [a], _, _, m, h => by simp at h; omega
 | [a, b], _, _, m, h => by simp at h; omega
 | [a, b, c], _, _, m, h => by simp at h; omega
 | i :: a :: p :: c :: t, q, hq, _, _ => by rw [mtS_cons, if_neg (fun h => hq h.1)]
theorem head4 {Z : List Int} {m : Nat} (h : Z.length = (m + 1) * 4) : ∃ t, Z = num Z 0 :: num Z 1 :: num Z 2 :: num Z 3 :: t ∧ t.length = m * 4 ∧ Z.drop 4 = t := by
 match Z, h with
 | [], h => simp at h
 | [_], h => simp at h; omega
 | [_, _], h => simp at h; omega
 | [_, _, _], h => simp at h; omega
 | i :: a :: p :: c :: t, h => exact ⟨t, rfl, by simp at h; omega, rfl⟩
def qtyOk (Z : List Int) (m : Nat) : Prop := ∀ k, k < m → 1 ≤ num Z (k * 4 + 3) ∧ num Z (k * 4 + 3) ≤ 1000000
theorem qtyOk_tail {i a p c : Int} {t : List Int} {m : Nat} (h : qtyOk (i :: a :: p :: c :: t) (m + 1)) : qtyOk t m := fun k hk => by
 have := h (k + 1) (by omega)
 rw [show (k + 1) * 4 + 3 = k * 4 + 3 + 4 by omega] at this
 exact this
theorem qtyOk_of {zs : List Int} {n : Nat} (h : allO zs n = true) : qtyOk zs n := fun k hk => by
 have hq := allO_at n k h hk
 simp only [ordB, inB, Bool.and_eq_true, decide_eq_true_eq] at hq
 exact hq.2.2.2
theorem mtS_len {side id acct pr mode : Int} : ∀ (m : Nat) {Z R : List Int} {q : Int} (N : Nat), Z.length = m * 4 → R.length = N * 8 → ∃ M N', (mtS side id acct pr mode Z R q).1.length = M * 4 ∧ M ≤ m ∧ (mtS side id acct pr mode Z R q).2.1.length = N' * 8 ∧ N' ≤ N + m + 1
 | 0, Z, R, q, N, hZ, hR => by
  have : Z = [] := List.eq_nil_of_length_eq_zero (by omega)
  subst this
  rw [mtS_nil]
  exact ⟨0, N, rfl, Nat.le_refl _, hR, by omega⟩
 | m + 1, Z, R, q, N, hZ, hR => by
  obtain ⟨t, e, ht, -⟩ := head4 hZ
  rw [e, mtS_cons]
  split
  · split
    · split
      · exact ⟨m + 1, N + 1, by simp [ht]; omega, Nat.le_refl _, by simp [canR, hR]; omega, by omega⟩
      · split
        · obtain ⟨M, N', h1, h2, h3, h4⟩ := mtS_len (side := side) (id := id) (acct := acct) (pr := pr) (mode := mode) m (q := q) (R := R ++ canR (num Z 0) (num Z 1) (num Z 2) (num Z 3)) (N + 1) ht (by simp [canR, hR]; omega)
          exact ⟨M, N', h1, by omega, h3, by omega⟩
        · exact ⟨m, N + 2, ht, by omega, by simp [canR, hR]; omega, by omega⟩
    · split
      · obtain ⟨M, N', h1, h2, h3, h4⟩ := mtS_len (side := side) (id := id) (acct := acct) (pr := pr) (mode := mode) m (q := q - num Z 3) (R := R ++ filR id acct (num Z 0) (num Z 2) (num Z 3)) (N + 1) ht (by simp [filR, hR]; omega)
        exact ⟨M, N', h1, by omega, h3, by omega⟩
      · exact ⟨m + 1, N + 1, by simp [ht]; omega, Nat.le_refl _, by simp [filR, hR]; omega, by omega⟩
  · exact ⟨m + 1, N, by simp [ht]; omega, Nat.le_refl _, hR, by omega⟩
end Go.Proofs.YtgjjdnojiegidaaGreatDoor
