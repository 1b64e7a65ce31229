/-
 Num, List, Own, Mark, BookP, Seen.
-/
import Derived.Test.YtgjjdnojiegidaaGreatDoorKit
import Derived.Laws.OwnMore
import Derived.Laws.MakeOwn
import Derived.Deep.AppendLies
import Derived.Deep.OwnRows
import Derived.Maps.AppendAt
import Derived.Maps.OwnSet
namespace Go.Proofs.YtgjjdnojiegidaaGreatDoor
open Go.RowKit Wire

def inB (lo n hi : Int) : Bool := decide (lo ≤ n) && decide (n ≤ hi)
theorem inB_yes {lo n hi : Int} (h1 : lo ≤ n) (h2 : n ≤ hi) : inB lo n hi = true := by simp [inB, h1, h2]
theorem inB_no {lo n hi : Int} (h : ¬ (lo ≤ n ∧ n ≤ hi)) : inB lo n hi = false := by
 unfold inB
 by_cases h1 : lo ≤ n
 · have h2 : ¬ n ≤ hi := fun k => h ⟨h1, k⟩
   simp [h2]
 · simp [h1]

theorem within_any (n lo hi : Int) (w : World) :
 Calls Tryz.prog 95 #[.int .i64 n, .int .i64 lo, .int .i64 hi] w fun e w' => e = .returned (.bool (inB lo n hi)) ∧ w = w' := by
 by_cases h1 : lo ≤ n <;> by_cases h2 : n ≤ hi
 all_goals
  go_enter Tryz.func95, Tryz.ntmps95
  go_wp2
  go_ret
  exact ⟨by simp [inB, h1, h2], rfl⟩
theorem l1In_any (n lo hi : Int) (w : World) :
 Calls Tryz.prog 35 #[.int .i64 n, .int .i64 lo, .int .i64 hi] w fun e w' => e = .returned (.bool (inB lo n hi)) ∧ w = w' := by
 by_cases h1 : lo ≤ n <;> by_cases h2 : n ≤ hi
 all_goals
  go_enter Tryz.func35, Tryz.ntmps35
  go_wp2
  go_ret
  exact ⟨by simp [inB, h1, h2], rfl⟩

end Go.Proofs.YtgjjdnojiegidaaGreatDoor

namespace Go.Proofs.YtgjjdnojiegidaaGreatDoor
open Go.RowKit Wire
def num (zs : List Int) (j : Nat) : Int := zs.getD j 0
def nums (zs : List Int) : List Value := zs.map (Value.int .i64)
theorem nums_length (zs : List Int) : (nums zs).length = zs.length := by simp [nums]
theorem nums_append (a b : List Int) : nums (a ++ b) = nums a ++ nums b := by simp [nums]
theorem nums_one (zs : List Int) : ∀ u ∈ nums zs, u.oneCell' = true := ints_oneCell .i64 zs
theorem nums_get {zs : List Int} {j : Nat} (h : j < zs.length) : (nums zs)[j]? = some (.int .i64 (num zs j)) := by
 simp [nums, num, List.getElem?_map, List.getElem?_eq_getElem h]

def Lst (w : World) (B sz : Nat) (A : Option Addr) (n : Nat) (zs : List Int) : Prop :=
 zs.length = n * sz ∧ (0 < n → ∃ b o, A = some ⟨b, o, none⟩ ∧ b < B ∧ ∀ j, j < n * sz → w.cell? ⟨b, o + j, none⟩ = some (.int .i64 (num zs j)))
section
variable {w w' : World} {B B' sz n : Nat} {A : Option Addr} {zs : List Int}
theorem Lst.nil (w : World) (B sz : Nat) (A : Option Addr) : Lst w B sz A 0 [] := ⟨by simp, fun h => absurd h (by omega)⟩
theorem Lst.keep (h : Lst w B sz A n zs) (hk : ∀ p : Addr, p.block < B → w'.cell? p = w.cell? p) : Lst w' B sz A n zs :=
 ⟨h.1, fun hn => by
  obtain ⟨b, o, e, hb, hc⟩ := h.2 hn
  exact ⟨b, o, e, hb, fun j hj => (hk _ hb).trans (hc j hj)⟩⟩
theorem Lst.more (h : Lst w B sz A n zs) (hB : B ≤ B') : Lst w B' sz A n zs :=
 ⟨h.1, fun hn => by
  obtain ⟨b, o, e, hb, hc⟩ := h.2 hn
  exact ⟨b, o, e, by omega, hc⟩⟩
theorem Lst.below (h : Lst w B sz A n zs) (hb : Below B w w') : Lst w' B sz A n zs := h.keep fun _ hp => hb.cell hp
theorem Lst.later (h : Lst w w.heap.size sz A n zs) (hb : Below w.heap.size w w') : Lst w' w'.heap.size sz A n zs := (h.below hb).more hb.size
theorem Lst.grown (h : Lst w B sz A n zs) {row : Option Nat} (hg : w.grownBy w' row) (hB : B ≤ w.heap.size) (hr : ∀ g, row = some g → B ≤ g) : Lst w' B sz A n zs :=
 h.keep fun p hp => World.cell?_of_block (hg.block p.block (by omega) (fun e => by have := hr _ e.symm; omega))
theorem Lst.get (h : Lst w B sz A n zs) {k : Nat} (hk : k < n) : ∃ b o, A = some ⟨b, o, none⟩ ∧ b < B ∧ ∀ j, j < sz → w.cell? ⟨b, o + (k * sz + j), none⟩ = some (.int .i64 (num zs (k * sz + j))) := by
 obtain ⟨b, o, e, hb, hc⟩ := h.2 (by omega)
 refine ⟨b, o, e, hb, fun j hj => hc _ ?_⟩
 have : (k + 1) * sz ≤ n * sz := Nat.mul_le_mul_right _ hk
 rw [Nat.add_mul] at this
 omega
theorem Lst.of_own {base : Nat} {e : TypeId} {c : Nat} (h : w.ownsRow base e sz (.slice A n c) n (nums zs)) : Lst w w.heap.size sz A n zs := by
 have hl : zs.length = n * sz := by rw [← nums_length]; exact h.1
 refine ⟨hl, fun hn => ?_⟩
 obtain ⟨g, cap, hv, _, hlt⟩ := h.form hn
 have hA : A = some ⟨g, 0, none⟩ := by injection hv
 subst hA
 refine ⟨g, 0, rfl, hlt, fun j hj => ?_⟩
 have := h.cells (g := g) rfl j _ (nums_get (by omega))
 have hadd : (⟨g, 0, none⟩ : Addr).add j = ⟨g, 0 + j, none⟩ := by unfold Addr.add; split <;> simp_all
 rwa [hadd] at this
def numAt (f : Nat → Int) (j : Nat) : Value := .int .i64 (f j)
theorem Lst.of_row {g m : Nat} {t : TypeId} {f : Nat → Int} (h : w.rowIs g t m (numAt f)) (hn : n * sz ≤ m) (hz : zs.length = n * sz) (hf : ∀ j, j < n * sz → f j = num zs j) : Lst w w.heap.size sz (some ⟨g, 0, none⟩) n zs :=
 ⟨hz, fun _ => ⟨g, 0, rfl, h.lt, fun j hj => by
  rw [Nat.zero_add, h.cell (by omega)]
  show some (Value.int .i64 (f j)) = _
  rw [hf j hj]⟩⟩
end
section
variable {P : Program} (w : World)
theorem run_make_rows (t e : TypeId) (i : TypeInfo) (z : Value) (sz by_ : Nat) (ht : P.underlying t = some (.slice e)) (hi : P.info? e = some i) (hz : i.zero = some z) (hsize : i.size = sz) (hby : i.bytes = by_)
 (kl kc : IntKind) (n : Nat) (hbytes : by_ * n ≤ 281474976710656) (h63 : n ≤ 9223372036854775807) :
 (Instr.makeSlice t (.int kl (n : Int)) (.int kc (n : Int))).run P w = .ok (.slice (some ⟨w.heap.size, 0, none⟩) n n) (w.alloc (.cells (madeCells z.cells (n * sz)) e)) := by
 subst hsize hby
 have hb' : (i.bytes : Int) * (n : Int) ≤ 281474976710656 := by
  have h : ((i.bytes * n : Nat) : Int) ≤ 281474976710656 := by omega
  rwa [Int.natCast_mul] at h
 have hr := run_make (P := P) w t e i z ht hi hz kl kc n n (by omega) (Int.le_refl _) hb' (by omega)
 simp only [Int.toNat_natCast] at hr
 exact hr
theorem rows_made (zs : Array Value) (n : Nat) (t : TypeId) (hz : ∀ j, j < zs.size → zs[j]? = some (.int .i64 0)) (h0 : 0 < zs.size) : (w.alloc (.cells (madeCells zs n) t)).rowIs w.heap.size t n (numAt fun _ => 0) :=
 ⟨_, heap_alloc_new w _, size_madeCells _ _, fun i hi => by
  have hm := Nat.mod_lt i h0
  simp only [madeCells, Array.getElem?_map, Array.getElem?_range, hi, if_true, Option.map_some]
  rw [Array.getElem!_eq_getD, Array.getD_eq_getD_getElem?, hz _ hm]
  rfl⟩
end
section
variable {w : World} {B n : Nat} {A : Option Addr} {zs : List Int}
theorem Lst.row4 (h : Lst w B 4 A n zs) {k : Nat} (hk : k < n) : ∃ b o, A = some ⟨b, o, none⟩ ∧ b < B ∧ w.cell? ⟨b, o + k * 4, none⟩ = some (.int .i64 (num zs (k * 4))) ∧ w.cell? ⟨b, o + k * 4 + 1, none⟩ = some (.int .i64 (num zs (k * 4 + 1))) ∧ w.cell? ⟨b, o + k * 4 + 2, none⟩ = some (.int .i64 (num zs (k * 4 + 2))) ∧ w.cell? ⟨b, o + k * 4 + 3, none⟩ = some (.int .i64 (num zs (k * 4 + 3))) := by
 obtain ⟨b, o, e, hb, hc⟩ := h.get hk
 simp only [← Nat.add_assoc] at hc
 exact ⟨b, o, e, hb, hc 0 (by omega), hc 1 (by omega), hc 2 (by omega), hc 3 (by omega)⟩
theorem rowIs_at4 {g m k : Nat} {t : TypeId} {f : Nat → Int} (h : w.rowIs g t m (numAt f)) (hk : (k + 1) * 4 ≤ m) : w.cell? ⟨g, k * 4, none⟩ = some (.int .i64 (f (k * 4))) ∧ w.cell? ⟨g, k * 4 + 1, none⟩ = some (.int .i64 (f (k * 4 + 1))) ∧ w.cell? ⟨g, k * 4 + 2, none⟩ = some (.int .i64 (f (k * 4 + 2))) ∧ w.cell? ⟨g, k * 4 + 3, none⟩ = some (.int .i64 (f (k * 4 + 3))) :=
 ⟨h.cell (i := k * 4) (by omega), h.cell (i := k * 4 + 1) (by omega), h.cell (i := k * 4 + 2) (by omega), h.cell (i := k * 4 + 3) (by omega)⟩
theorem rowIs_put4 {g m k : Nat} {t : TypeId} (h : w.rowIs g t m (numAt fun j => if j < k * 4 then num zs j else 0)) :
 ((((w.setCell ⟨g, k * 4, none⟩ (.int .i64 (num zs (k * 4)))).setCell ⟨g, k * 4 + 1, none⟩ (.int .i64 (num zs (k * 4 + 1)))).setCell ⟨g, k * 4 + 2, none⟩ (.int .i64 (num zs (k * 4 + 2)))).setCell ⟨g, k * 4 + 3, none⟩ (.int .i64 (num zs (k * 4 + 3)))).rowIs g t m (numAt fun j => if j < (k + 1) * 4 then num zs j else 0) :=
 ((((h.set _ _).set _ _).set _ _).set _ _).congr fun j _ => by
  rw [show (k + 1) * 4 = k * 4 + 4 from by omega]
  generalize k * 4 = i
  rcases (show j < i ∨ j = i ∨ j = i + 1 ∨ j = i + 2 ∨ j = i + 3 ∨ i + 4 ≤ j from by omega) with h | rfl | rfl | rfl | rfl | h
  · simp only [numAt]
    repeat rw [if_neg (by omega)]
    rw [if_pos h, if_pos (by omega)]
  iterate 4 (simp [numAt])
  · simp only [numAt]
    repeat rw [if_neg (by omega)]
end
section
variable {w : World} {B n : Nat} {A : Option Addr} {zs : List Int}
theorem Lst.row8 (h : Lst w B 8 A n zs) {k : Nat} (hk : k < n) : ∃ b o, A = some ⟨b, o, none⟩ ∧ b < B ∧ w.cell? ⟨b, o + k * 8, none⟩ = some (.int .i64 (num zs (k * 8))) ∧ w.cell? ⟨b, o + k * 8 + 1, none⟩ = some (.int .i64 (num zs (k * 8 + 1))) ∧ w.cell? ⟨b, o + k * 8 + 2, none⟩ = some (.int .i64 (num zs (k * 8 + 2))) ∧ w.cell? ⟨b, o + k * 8 + 3, none⟩ = some (.int .i64 (num zs (k * 8 + 3))) ∧ w.cell? ⟨b, o + k * 8 + 4, none⟩ = some (.int .i64 (num zs (k * 8 + 4))) ∧ w.cell? ⟨b, o + k * 8 + 5, none⟩ = some (.int .i64 (num zs (k * 8 + 5))) ∧ w.cell? ⟨b, o + k * 8 + 6, none⟩ = some (.int .i64 (num zs (k * 8 + 6))) ∧ w.cell? ⟨b, o + k * 8 + 7, none⟩ = some (.int .i64 (num zs (k * 8 + 7))) := by
 obtain ⟨b, o, e, hb, hc⟩ := h.get hk
 simp only [← Nat.add_assoc] at hc
 exact ⟨b, o, e, hb, hc 0 (by omega), hc 1 (by omega), hc 2 (by omega), hc 3 (by omega), hc 4 (by omega), hc 5 (by omega), hc 6 (by omega), hc 7 (by omega)⟩
end
section
variable {a w : World} {B : Nat}
theorem below_put4 (h : Below B a w) {g : Nat} (hg : B ≤ g) (i0 i1 i2 i3 : Nat) (v0 v1 v2 v3 : Value) : Below B a ((((w.setCell ⟨g, i0, none⟩ v0).setCell ⟨g, i1, none⟩ v1).setCell ⟨g, i2, none⟩ v2).setCell ⟨g, i3, none⟩ v3) := ((((h.setCell (p := ⟨g, i0, none⟩) hg v0).setCell (p := ⟨g, i1, none⟩) hg v1).setCell (p := ⟨g, i2, none⟩) hg v2).setCell (p := ⟨g, i3, none⟩) hg v3)
end
end Go.Proofs.YtgjjdnojiegidaaGreatDoor

namespace Go.Proofs.YtgjjdnojiegidaaGreatDoor
open Go.RowKit Wire

theorem below_later {w w1 w2 : World} (h1 : Below w.heap.size w w1) (h2 : Below w1.heap.size w1 w2) : Below w.heap.size w w2 := h1.trans (h2.mono h1.size)
theorem below_alloc {w w' : World} {o : Obj} (hb : Below (w.alloc o).heap.size (w.alloc o) w') : Below w.heap.size w w' :=
 ((Below.refl _ _).alloc (Nat.le_refl _) o).trans (hb.mono (by simp))
theorem box_cell {w w' : World} {cs : Array Value} {t : TypeId} (hb : Below (w.alloc (.cells cs t)).heap.size (w.alloc (.cells cs t)) w') (j : Nat) : w'.cell? ⟨w.heap.size, j, none⟩ = cs[j]? := by
 rw [hb.cell (p := ⟨w.heap.size, j, none⟩) (by simp)]
 exact World.cell?_alloc_mark _ _ _ _ _

theorem three_blocks (w : World) (o1 o2 o3 : Obj) : (((w.alloc o1).alloc o2).alloc o3).heap[w.heap.size]? = some o1 ∧ (((w.alloc o1).alloc o2).alloc o3).heap[w.heap.size + 1]? = some o2 ∧ (((w.alloc o1).alloc o2).alloc o3).heap[w.heap.size + 1 + 1]? = some o3 := by
 have e1 : (w.alloc o1).heap.size = w.heap.size + 1 := by simp
 have e2 : ((w.alloc o1).alloc o2).heap.size = w.heap.size + 1 + 1 := by simp
 refine ⟨(Below.heap_alloc _ o3 _ (by omega)).trans ((Below.heap_alloc _ o2 _ (by omega)).trans (heap_alloc_new w o1)), ?_, ?_⟩
 · have := heap_alloc_new (w.alloc o1) o2
   rw [e1] at this
   exact (Below.heap_alloc _ o3 _ (by omega)).trans this
 · have := heap_alloc_new ((w.alloc o1).alloc o2) o3
   rw [e2] at this
   exact this
theorem two_blocks (w : World) (o1 o2 : Obj) : ((w.alloc o1).alloc o2).heap[w.heap.size]? = some o1 ∧ ((w.alloc o1).alloc o2).heap[w.heap.size + 1]? = some o2 := by
 have e1 : (w.alloc o1).heap.size = w.heap.size + 1 := by simp
 refine ⟨(Below.heap_alloc _ o2 _ (by omega)).trans (heap_alloc_new w o1), ?_⟩
 have := heap_alloc_new (w.alloc o1) o2
 rw [e1] at this
 exact this
theorem oBw {w w1 : World} {base sz n : Nat} {e : TypeId} {v : Value} {xs : List Value} (h : w.ownsRow base e sz v n xs) (hb : Below w.heap.size w w1) : w1.ownsRow base e sz v n xs := by
 refine h.kept (row := none) ⟨hb.os, hb.tape, hb.output, hb.size, fun k hk _ => hb.block k hk⟩ ?_
 rcases h.2 with ⟨rfl, _⟩ | ⟨g, cap, cur, rfl, _⟩
 · exact .inl rfl
 · exact .inr (by simp [Value.ownBlock])
theorem oSl {w : World} {base sz n : Nat} {e : TypeId} {v : Value} {xs : List Value} (h : w.ownsRow base e sz v n xs) : ∃ A c, v = .slice A n c ∧ n ≤ c ∧ c ≤ maxLen := by
 rcases h.2 with ⟨rfl, rfl⟩ | ⟨g, cap, cur, rfl, _, _, h1, h2, _⟩
 · exact ⟨none, 0, rfl, Nat.le_refl _, Nat.zero_le _⟩
 · exact ⟨_, cap, rfl, h1, h2⟩
end Go.Proofs.YtgjjdnojiegidaaGreatDoor

namespace Go.Proofs.YtgjjdnojiegidaaGreatDoor
open Go.RowKit Wire

def markAt (f : Nat → Value) (N j : Nat) : Value := if j < N then .int .i64 ((j + 1 : Nat) : Int) else f j
theorem mark_set {a w : World} {g : Nat} (h : a.grownBy w (some g)) (i : Nat) (u : Value) : a.grownBy (w.setCell ⟨g, i, none⟩ u) (some g) :=
 ⟨h.os, h.tape, h.output, by simpa [World.setCell] using h.size, fun k hk hne => (Below.heap_setCell w _ u k (by
  rintro rfl
  exact hne rfl)).trans (h.block k hk hne)⟩
theorem row_of_own {w : World} {base sz n g cap : Nat} {e : TypeId} {xs : List Value} (h : w.ownsRow base e sz (.slice (some ⟨g, 0, none⟩) n cap) n xs) : ∃ f M, n * sz ≤ M ∧ w.rowIs g e M f := by
 rcases h.2 with ⟨h0, _⟩ | ⟨g', cap', cur, h0, _, hb, hc, _, hs, _⟩
 · cases h0
 · injection h0 with h0 _ _
   injection h0 with h0
   injection h0 with h0
   subst h0
   exact ⟨fun j => cur[j]?.getD .nilIface, cur.size, by rw [hs]; exact Nat.mul_le_mul_right _ hc, cur, hb, rfl, fun i hi => by simp [Array.getElem?_eq_getElem hi]⟩
end Go.Proofs.YtgjjdnojiegidaaGreatDoor

namespace Go.Proofs.YtgjjdnojiegidaaGreatDoor
open Go.RowKit Wire

def ordB (zs : List Int) (k : Nat) : Bool := inB 1 (num zs (k * 4)) 1000000000 && (inB 1 (num zs (k * 4 + 1)) 100 && (inB 1 (num zs (k * 4 + 2)) 1000000 && inB 1 (num zs (k * 4 + 3)) 1000000))
def price (zs : List Int) (k : Nat) : Int := num zs (k * 4 + 2)
def betB (side a b : Int) : Bool := if side = 1 then decide (b < a) else decide (a < b)
def allO (zs : List Int) : Nat → Bool
 | 0 => true
 | k + 1 => allO zs k && ordB zs k
def srtO (side : Int) (zs : List Int) : Nat → Bool
 | 0 => true
 | k + 1 => srtO side zs k && (decide (k = 0) || !betB side (price zs k) (price zs (k - 1)))
def sideB (side : Int) (zs : List Int) (n : Nat) : Bool := decide (n ≤ 20) && (allO zs n && srtO side zs n)
def idA (za : List Int) (n : Nat) (zb : List Int) (i : Nat) : Int := if i < n then num za (i * 4) else num zb ((i - n) * 4)
def seenB (f : Nat → Int) (x : Int) : Nat → Bool
 | 0 => false
 | k + 1 => seenB f x k || (f k == x)
def distB (f : Nat → Int) : Nat → Bool
 | 0 => true
 | k + 1 => distB f k && !seenB f (f k) k
def cntB (f : Nat → Int) : Nat → Nat
 | 0 => 0
 | k + 1 => if seenB f (f k) k = true then cntB f k else cntB f k + 1
theorem cntB_le (f : Nat → Int) : ∀ k, cntB f k ≤ k
 | 0 => Nat.le_refl _
 | k + 1 => by
  have := cntB_le f k
  rw [cntB]
  split <;> omega
theorem cntB_iff (f : Nat → Int) : ∀ k, (cntB f k = k) ↔ distB f k = true
 | 0 => by simp [cntB, distB]
 | k + 1 => by
  have h1 := cntB_le f k
  have h2 := cntB_iff f k
  rw [cntB, distB]
  rcases Bool.eq_false_or_eq_true (seenB f (f k) k) with h | h
  · rw [if_pos h, h]
    simp
    omega
  · rw [if_neg (by simp [h]), h]
    simp
    exact h2
def crossB (za : List Int) (n : Nat) (zb : List Int) (m : Nat) : Bool := decide (0 < n) && (decide (0 < m) && decide (price zb 0 ≤ price za 0))
def bookB (za : List Int) (n : Nat) (zb : List Int) (m : Nat) : Bool := sideB 1 za n && (sideB 2 zb m && (!crossB za n zb m && distB (idA za n zb) (n + m)))
theorem allO_no {zs : List Int} {k : Nat} (h : ordB zs k = false) : ∀ n, k < n → allO zs n = false
 | 0, hk => absurd hk (Nat.not_lt_zero k)
 | n + 1, hk => by
  rw [allO]
  rcases Nat.lt_or_ge k n with hlt | hge
  · rw [allO_no h n hlt]; rfl
  · obtain rfl : k = n := by omega
    rw [h, Bool.and_false]
theorem allO_at {zs : List Int} : ∀ n k, allO zs n = true → k < n → ordB zs k = true
 | 0, k, _, hk => absurd hk (Nat.not_lt_zero k)
 | n + 1, k, h, hk => by
  simp only [allO, Bool.and_eq_true] at h
  rcases Nat.lt_or_ge k n with hlt | hge
  · exact allO_at n k h.1 hlt
  · obtain rfl : k = n := by omega
    exact h.2
theorem srtO_no {side : Int} {zs : List Int} {k : Nat} (h0 : 0 < k) (h : betB side (price zs k) (price zs (k - 1)) = true) : ∀ n, k < n → srtO side zs n = false
 | 0, hk => absurd hk (Nat.not_lt_zero k)
 | n + 1, hk => by
  rw [srtO]
  rcases Nat.lt_or_ge k n with hlt | hge
  · rw [srtO_no h0 h n hlt]; rfl
  · obtain rfl : k = n := by omega
    rw [h, show decide (k = 0) = false from decide_eq_false (by omega)]
    simp
theorem srtO_step {side : Int} {zs : List Int} {k : Nat} (h : srtO side zs k = true) (h1 : k = 0 ∨ betB side (price zs k) (price zs (k - 1)) = false) : srtO side zs (k + 1) = true := by
 rw [srtO, h]
 rcases h1 with rfl | h1
 · rfl
 · rw [h1]; simp
theorem distB_no {f : Nat → Int} {k : Nat} (h : seenB f (f k) k = true) : ∀ n, k < n → distB f n = false
 | 0, hk => absurd hk (Nat.not_lt_zero k)
 | n + 1, hk => by
  rw [distB]
  rcases Nat.lt_or_ge k n with hlt | hge
  · rw [distB_no h n hlt]; rfl
  · obtain rfl : k = n := by omega
    rw [h]
    simp
end Go.Proofs.YtgjjdnojiegidaaGreatDoor

namespace Go.Proofs.YtgjjdnojiegidaaGreatDoor
open Go.RowKit Wire
open Go.Maps (Keyed IsMap Tidy)

def seenD (f : Nat → Int) : Nat → DataW Unit
 | 0 => .map []
 | k + 1 => (seenD f k).put (.int .i64 (f k)) (.lit (.bool true))
theorem seen_key (x : Int) : WideAt.IsKeyLit (.int .i64 x) := by first | trivial | exact rfl | decide | simp [WideAt.IsKeyLit]
theorem seen_tidy (f : Nat → Int) : ∀ k, Tidy (seenD f k)
 | 0 => Maps.tidy_empty
 | k + 1 => (seen_tidy f k).put (seen_key _) _
theorem seen_has (f : Nat → Int) (x : Int) : ∀ k, Maps.has (seenD f k) (.int .i64 x) = seenB f x k
 | 0 => rfl
 | k + 1 => by
  rw [seenD, seenB]
  by_cases h : f k = x
  · subst h
    rw [Maps.has_put_same (seen_tidy f k).isMap (seen_key _)]
    simp
  · rw [Maps.has_put_other (fun e => h (by injection e with _ e; exact e.symm)), seen_has f x k]
    simp [h]
theorem seen_size (f : Nat → Int) : ∀ k, Maps.size (seenD f k) = cntB f k
 | 0 => rfl
 | k + 1 => by
  rw [seenD, cntB, Maps.size_put (seen_tidy f k), seen_has, seen_size f k]
end Go.Proofs.YtgjjdnojiegidaaGreatDoor
