/-
 Err, ErrAs, ErrC, ErrL.
-/
import Derived.Test.YtgjjdnojiegidaaGreatDoorKit
import Derived.WalkKit
import Derived.LaidEql
import Derived.Stop.Asserts
import Derived.RowKitTokens
import Derived.Test.YtgjjdnojiegidaaGreatDoorHA
import Derived.Test.YtgjjdnojiegidaaGreatDoorRows
import Derived.Stop.LaidTwo
import Derived.LaidLaws
import Derived.LaidHandle
namespace Go.Proofs.YtgjjdnojiegidaaGreatDoor
open Go.RowKit Go.Extern.Stop Go.Stop Go.Extern
set_option maxHeartbeats 4000000
set_option maxRecDepth 100000

/-! what reflectlite answers at these types -/
theorem er_typeOf (v : Value) (w : World) : (Extern.ReflectliteType.typeOf #[.iface 164 v]).run Tryz.prog w = .ok (.iface 131 (.agg #[.pointer (some ⟨8, 164, none⟩)])) w := by kernel_rfl
theorem er_comparable (w : World) : (callFunc 155 #[.agg #[.pointer (some ⟨8, 164, none⟩)]]).run Tryz.prog w = .ok (.value (.bool true)) w := by
 rw [run_callFunc_extern Tryz.func155 (by kernel_rfl) (by kernel_rfl) (by kernel_rfl) (e := (Extern.ReflectliteType.method fun t => do Extern.Rtype.noPackHeld "Comparable" t; pure (.bool (← typeInfo t).comparable))) (by kernel_rfl)]
 kernel_rfl
theorem er_methodComparable (v : Value) (w : World) : (Go.method 298 131 v "Comparable").run Tryz.prog w = .ok (155, v) w := by kernel_rfl
theorem er_comp : (Tryz.prog.info? 164).map (·.comparable) = some true := by kernel_rfl
theorem er_size : (Tryz.prog.info? 186).map (·.size) = some 1 := by kernel_rfl
/-! what the assertions find -/
theorem er_noIsE (v : Value) (xT : TypeId) (w : World) : (Instr.typeAssert (.iface 164 v) xT 143 true).run Tryz.prog w = .ok (.tuple #[.nilIface, .bool false]) w := run_typeAssert_lacksB Tryz.underlying143 (by kernel_rfl) (by kernel_rfl) v xT w
theorem er_noUnwrapE (v : Value) (xT : TypeId) (w : World) : (Instr.typeAssert (.iface 164 v) xT 138 true).run Tryz.prog w = .ok (.tuple #[.nilIface, .bool false]) w := run_typeAssert_lacksB Tryz.underlying138 (by kernel_rfl) (by kernel_rfl) v xT w
theorem er_noUnwrapsE (v : Value) (xT : TypeId) (w : World) : (Instr.typeAssert (.iface 164 v) xT 140 true).run Tryz.prog w = .ok (.tuple #[.nilIface, .bool false]) w := run_typeAssert_lacksB Tryz.underlying140 (by kernel_rfl) (by kernel_rfl) v xT w
theorem er_noIsR (v : Value) (xT : TypeId) (w : World) : (Instr.typeAssert (.iface 79 v) xT 143 true).run Tryz.prog w = .ok (.tuple #[.nilIface, .bool false]) w := run_typeAssert_lacksB Tryz.underlying143 (by kernel_rfl) (by kernel_rfl) v xT w
theorem er_hasUnwrapR (v : Value) (xT : TypeId) (w : World) : (Instr.typeAssert (.iface 79 v) xT 138 true).run Tryz.prog w = .ok (.tuple #[.iface 79 v, .bool true]) w := run_typeAssert_hasB Tryz.underlying138 (by kernel_rfl) v xT w
theorem er_methodUnwrap (v : Value) (w : World) : (Go.method 298 79 v "Unwrap").run Tryz.prog w = .ok (149, v) w := by kernel_rfl
theorem is_rej_same (eb : Nat) (b : Addr) (w : World) (h8 : w.cell? ⟨eb, 8, none⟩ = some (.iface 164 (.pointer (some b)))) :
 Calls Tryz.prog 55 #[.iface 79 (.pointer (some ⟨eb, 0, none⟩)), .iface 164 (.pointer (some b))] w fun e w' => e = .returned (.bool true) ∧ w' = w := by
 obtain ⟨i, hi, hcmp⟩ := Option.map_eq_some_iff.1 er_comp
 obtain ⟨j, hj, hjs⟩ := Option.map_eq_some_iff.1 er_size
 have hT := @run_callFunc_extern Tryz.prog 83 _ Extern.ReflectliteType.typeOf Tryz.func83 (by kernel_rfl) (by kernel_rfl) (by kernel_rfl) (by kernel_rfl)
 have tT := er_typeOf
 have cT := er_comparable
 have mR := er_methodComparable
 have nE := er_noIsE
 have uE := er_noUnwrapE
 have vE := er_noUnwrapsE
 have nW := er_noIsR
 have uW := er_hasUnwrapR
 have mU := er_methodUnwrap
 have heq := run_eql_iface_ptr_same (P := Tryz.prog) w b Tryz.underlying51 Tryz.underlying164 hi hcmp hj
 have hty := run_eql_iface_types (P := Tryz.prog) 79 164 (.pointer (some ⟨eb, 0, none⟩)) (.pointer (some b)) Tryz.underlying51 (by decide) w
 go_enter Tryz.func55, Tryz.ntmps55
 go_wp2
 refine wp_loop_rounds 2 ?_
 rw [rounds_succ]
 go_wp2
 rw [rounds_succ]
 go_wp2
 go_ret
 exact ⟨rfl, rfl⟩
theorem is_rej_other (eb : Nat) (a b : Addr) (ca cb : Array Value) (ta tb : TypeId) (w : World) (h8 : w.cell? ⟨eb, 8, none⟩ = some (.iface 164 (.pointer (some a)))) (hne : a ≠ b) (ha : w.heap[a.block]? = some (.cells ca ta (0, 0))) (hb : w.heap[b.block]? = some (.cells cb tb (0, 0))) :
 Calls Tryz.prog 55 #[.iface 79 (.pointer (some ⟨eb, 0, none⟩)), .iface 164 (.pointer (some b))] w fun e w' => e = .returned (.bool false) ∧ w' = w := by
 obtain ⟨i, hi, hcmp⟩ := Option.map_eq_some_iff.1 er_comp
 obtain ⟨j, hj, hjs⟩ := Option.map_eq_some_iff.1 er_size
 have hT := @run_callFunc_extern Tryz.prog 83 _ Extern.ReflectliteType.typeOf Tryz.func83 (by kernel_rfl) (by kernel_rfl) (by kernel_rfl) (by kernel_rfl)
 have tT := er_typeOf
 have cT := er_comparable
 have mR := er_methodComparable
 have nE := er_noIsE
 have uE := er_noUnwrapE
 have vE := er_noUnwrapsE
 have nW := er_noIsR
 have uW := er_hasUnwrapR
 have mU := er_methodUnwrap
 have heq := run_eql_iface_ptr_other (P := Tryz.prog) w Tryz.underlying51 Tryz.underlying164 hi hcmp hj (by rw [hjs]; decide) hne ha hb
 have hty := run_eql_iface_types (P := Tryz.prog) 79 164 (.pointer (some ⟨eb, 0, none⟩)) (.pointer (some b)) Tryz.underlying51 (by decide) w
 go_enter Tryz.func55, Tryz.ntmps55
 go_wp2
 refine wp_loop_rounds 2 ?_
 rw [rounds_succ]
 go_wp2
 rw [rounds_succ]
 go_wp2
 go_ret
 exact ⟨rfl, rfl⟩
end Go.Proofs.YtgjjdnojiegidaaGreatDoor

namespace Go.Proofs.YtgjjdnojiegidaaGreatDoor
open Go.RowKit Go.Extern.Stop Go.Stop Go.Extern
set_option maxHeartbeats 4000000
set_option maxRecDepth 100000

/-! what reflectlite answers at a pointer to a pointer to a rejection -/
theorem ea_valueOf2 (t : Addr) (w : World) : (ReflectliteValue.unpack (.iface 85 (.pointer (some t)))).run Tryz.prog w = .ok (.agg #[.pointer (some ⟨8, 85, none⟩), .pointer (some ⟨w.heap.size, 0, none⟩), .int .u64 150]) (w.alloc (.cells #[.pointer (some t)] 85)) := by kernel_rfl
theorem ea_valueOf1 (e : Addr) (w : World) : (ReflectliteValue.unpack (.iface 79 (.pointer (some e)))).run Tryz.prog w = .ok (.agg #[.pointer (some ⟨8, 79, none⟩), .pointer (some ⟨w.heap.size, 0, none⟩), .int .u64 150]) (w.alloc (.cells #[.pointer (some e)] 79)) := by kernel_rfl
theorem ea_type (a : Addr) (w : World) : (ReflectliteValue.methodAny (ReflectliteValue.valueError "reflectlite.Value.Type" 0) (fun t _ _ _ => ReflectliteType.toType t) #[.agg #[.pointer (some ⟨8, 85, none⟩), .pointer (some a), .int .u64 150]]).run Tryz.prog w = .ok (.iface 131 (.agg #[.pointer (some ⟨8, 85, none⟩)])) w := by kernel_rfl
theorem ea_methodKind (h : Value) (w : World) : (Go.method 298 131 (.agg #[h]) "Kind").run Tryz.prog w = .ok (145, h) w := by kernel_rfl
theorem ea_methodElem (h : Value) (w : World) : (Go.method 298 131 (.agg #[h]) "Elem").run Tryz.prog w = .ok (156, .agg #[h]) w := by kernel_rfl
theorem ea_methodImpl (h : Value) (w : World) : (Go.method 298 131 (.agg #[h]) "Implements").run Tryz.prog w = .ok (157, .agg #[h]) w := by kernel_rfl
theorem ea_methodAssign (h : Value) (w : World) : (Go.method 298 131 (.agg #[h]) "AssignableTo").run Tryz.prog w = .ok (154, .agg #[h]) w := by kernel_rfl
theorem ea_kind (t : TypeId) (h : t = 85 ∨ t = 79) (w : World) : ((ReflectliteType.abiMethod fun t => (fun a : Nat => Value.int IntKind.u8 (a : Int)) <$> Rtype.kind t) #[.pointer (some ⟨8, t, none⟩)]).run Tryz.prog w = .ok (.int .u8 22) w := by
 rcases h with rfl | rfl <;> kernel_rfl
theorem ea_elem (w : World) : (ReflectliteType.method ReflectliteType.elem #[.agg #[.pointer (some ⟨8, 85, none⟩)]]).run Tryz.prog w = .ok (.iface 131 (.agg #[.pointer (some ⟨8, 79, none⟩)])) w := by kernel_rfl
theorem ea_impl (w : World) : (ReflectliteType.relation "Implements" ReflectliteType.implements_ #[.agg #[.pointer (some ⟨8, 79, none⟩)], .iface 131 (.agg #[.pointer (some ⟨8, 51, none⟩)])]).run Tryz.prog w = .ok (.bool true) w := by kernel_rfl
theorem ea_typeOf (v : Value) (w : World) : (ReflectliteType.typeOf #[.iface 79 v]).run Tryz.prog w = .ok (.iface 131 (.agg #[.pointer (some ⟨8, 79, none⟩)])) w := by kernel_rfl
theorem ea_assign (w : World) : (ReflectliteType.relation "AssignableTo" ReflectliteType.assignableTo #[.agg #[.pointer (some ⟨8, 79, none⟩)], .iface 131 (.agg #[.pointer (some ⟨8, 79, none⟩)])]).run Tryz.prog w = .ok (.bool true) w := by kernel_rfl
theorem ea_parts2 (a : Addr) (w : World) : (ReflectliteValue.parts (.agg #[.pointer (some ⟨8, 85, none⟩), .pointer (some a), .int .u64 150])).run Tryz.prog w = .ok (some (85, a, 150)) w := by kernel_rfl
theorem ea_parts1 (a : Addr) (w : World) : (ReflectliteValue.parts (.agg #[.pointer (some ⟨8, 79, none⟩), .pointer (some a), .int .u64 150])).run Tryz.prog w = .ok (some (79, a, 150)) w := by kernel_rfl
theorem ea_parts1a (a : Addr) (w : World) : (ReflectliteValue.parts (.agg #[.pointer (some ⟨8, 79, none⟩), .pointer (some a), .int .u64 406])).run Tryz.prog w = .ok (some (79, a, 406)) w := by kernel_rfl
theorem ea_elemOf (w : World) : (Rtype.elem? 85).run Tryz.prog w = .ok (some 79) w := by kernel_rfl
theorem ea_mk (p : Addr) (w : World) : (ReflectliteValue.mk 79 p ReflectliteValue.flagAddr).run Tryz.prog w = .ok (.agg #[.pointer (some ⟨8, 79, none⟩), .pointer (some p), .int .u64 406]) w := by kernel_rfl
theorem ea_direct (w : World) : (Rtype.directlyAssignable 79 79).run Tryz.prog w = .ok true w := by kernel_rfl
theorem ea_one (v : Value) (h1 : Value → Sem Value) (h2 : Array Value → Sem Value) : ReflectliteValue.method.match_2 (fun _ => Sem Value) #[v] h1 h2 = h1 v := rfl
theorem ea_two (v x : Value) (h1 : Value → Value → Sem Value) (h2 : Array Value → Sem Value) : ReflectliteValue.set.match_3 (fun _ => Sem Value) #[v, x] h1 h2 = h1 v x := rfl
theorem ea_isNil (a p : Addr) (W : World) (ha : W.cell? a = some (.pointer (some p))) :
 (ReflectliteValue.method (ReflectliteValue.valueError "reflectlite.Value.IsNil" 0) ReflectliteValue.isNil #[.agg #[.pointer (some ⟨8, 85, none⟩), .pointer (some a), .int .u64 150]]).run Tryz.prog W = .ok (.bool false) W := by
 have hp := ea_parts2 a W
 delta ReflectliteValue.method
 rw [ea_one]
 simp [ReflectliteValue.isNil, loadVar, isAgg, underlying, Tryz.underlying85, ha, Result.andThen, hp]
theorem ea_elemV (a p : Addr) (W : World) (ha : W.cell? a = some (.pointer (some p))) :
 (ReflectliteValue.method (ReflectliteValue.valueError "reflectlite.Value.Elem" 0) ReflectliteValue.elem #[.agg #[.pointer (some ⟨8, 85, none⟩), .pointer (some a), .int .u64 150]]).run Tryz.prog W = .ok (.agg #[.pointer (some ⟨8, 79, none⟩), .pointer (some p), .int .u64 406]) W := by
 have hp := ea_parts2 a W
 have he := ea_elemOf W
 have hm := ea_mk p W
 delta ReflectliteValue.method
 rw [ea_one]
 simp [ReflectliteValue.elem, loadVar, isAgg, underlying, Tryz.underlying85, ha, Result.andThen, hp, he, hm]
theorem ea_set (ta b e : Addr) (old : Value) (W : World) (hb : W.cell? b = some (.pointer (some e))) (ht : W.cell? ta = some old) (hf : W.frozen? ta = false) :
 (ReflectliteValue.set #[.agg #[.pointer (some ⟨8, 79, none⟩), .pointer (some ta), .int .u64 406], .agg #[.pointer (some ⟨8, 79, none⟩), .pointer (some b), .int .u64 150]]).run Tryz.prog W = .ok (.tuple #[]) (W.setCell ta (.pointer (some e))) := by
 have h1 := ea_parts1a ta W
 have h2 := ea_parts1 b W
 have h3 := ea_direct W
 delta ReflectliteValue.set
 rw [ea_two]
 simp [Sem.run_bind, h1, h2, ReflectliteValue.flagAddr, loadVar, isAgg, underlying, Tryz.underlying79, hb, Result.andThen, h3, storeVar, Value.cells, storeCells, Addr.add]
 rw [run_store Tryz.prog W ta _ _ (by rfl)]
 simp [ht, hf]
theorem as_rej (e t : Addr) (old : Value) (w : World) (hg : w.cell? ⟨1, 0, none⟩ = some (.iface 131 (.agg #[.pointer (some ⟨8, 51, none⟩)]))) (ht0 : w.cell? t = some old) (hf0 : w.frozen? t = false) :
 Calls Tryz.prog 53 #[.iface 79 (.pointer (some e)), .iface 85 (.pointer (some t))] w fun ev w' => ev = .returned (.bool true) ∧ ∃ W, Below w.heap.size w W ∧ w' = W.setCell t (.pointer (some e)) := by
 have h6 := @run_callFunc_extern Tryz.prog 79 _ (fun args => ReflectliteValue.unpack (args.getD 0 (.tuple #[]))) Tryz.func79 (by kernel_rfl) (by kernel_rfl) (by kernel_rfl) (by kernel_rfl)
 have h7 := @run_callFunc_extern Tryz.prog 80 _ (ReflectliteValue.methodAny (ReflectliteValue.valueError "reflectlite.Value.Type" 0) (fun t _ _ _ => ReflectliteType.toType t)) Tryz.func80 (by kernel_rfl) (by kernel_rfl) (by kernel_rfl) (by kernel_rfl)
 have h8 := @run_callFunc_extern Tryz.prog 81 _ (ReflectliteValue.method (ReflectliteValue.valueError "reflectlite.Value.IsNil" 0) ReflectliteValue.isNil) Tryz.func81 (by kernel_rfl) (by kernel_rfl) (by kernel_rfl) (by kernel_rfl)
 have h27 := @run_callFunc_extern Tryz.prog 145 _ (ReflectliteType.abiMethod fun t => do pure (.int .u8 (← Rtype.kind t))) Tryz.func145 (by kernel_rfl) (by kernel_rfl) (by kernel_rfl) (by kernel_rfl)
 have h37 := @run_callFunc_extern Tryz.prog 156 _ (ReflectliteType.method ReflectliteType.elem) Tryz.func156 (by kernel_rfl) (by kernel_rfl) (by kernel_rfl) (by kernel_rfl)
 have h38 := @run_callFunc_extern Tryz.prog 157 _ (ReflectliteType.relation "Implements" ReflectliteType.implements_) Tryz.func157 (by kernel_rfl) (by kernel_rfl) (by kernel_rfl) (by kernel_rfl)
 have h10 := @run_callFunc_extern Tryz.prog 83 _ ReflectliteType.typeOf Tryz.func83 (by kernel_rfl) (by kernel_rfl) (by kernel_rfl) (by kernel_rfl)
 have h35 := @run_callFunc_extern Tryz.prog 154 _ (ReflectliteType.relation "AssignableTo" ReflectliteType.assignableTo) Tryz.func154 (by kernel_rfl) (by kernel_rfl) (by kernel_rfl) (by kernel_rfl)
 have h11 := @run_callFunc_extern Tryz.prog 100 _ (ReflectliteValue.method (ReflectliteValue.valueError "reflectlite.Value.Elem" 0) ReflectliteValue.elem) Tryz.func100 (by kernel_rfl) (by kernel_rfl) (by kernel_rfl) (by kernel_rfl)
 have h12 := @run_callFunc_extern Tryz.prog 101 _ ReflectliteValue.set Tryz.func101 (by kernel_rfl) (by kernel_rfl) (by kernel_rfl) (by kernel_rfl)
 have tO := ea_typeOf
 have mA := ea_methodAssign
 have a25 := ea_assign
 have v25 := ea_valueOf1
 have f6 := ea_valueOf2
 have f7 := ea_type
 have mK := ea_methodKind
 have mE := ea_methodElem
 have mI := ea_methodImpl
 have k27 := ea_kind 85 (.inl rfl)
 have k25 := ea_kind 79 (.inr rfl)
 have e27 := ea_elem
 have i25 := ea_impl
 have n8 := ea_isNil ⟨w.heap.size, 0, none⟩ t ((w.alloc (.cells #[.pointer (some t)] 85)).alloc (.cells #[.pointer (some ⟨8, 85, none⟩), .pointer (some ⟨w.heap.size, 0, none⟩), .int .u64 150] 110)) (by simp)
 have hlt : 1 < w.heap.size := by
  rcases Nat.lt_or_ge 1 w.heap.size with h | h
  · exact h
  · simp [World.cell?, Array.getElem?_eq_none h] at hg
 have hg2 : ((w.alloc (.cells #[.pointer (some t)] 85)).alloc (.cells #[.pointer (some ⟨8, 85, none⟩), .pointer (some ⟨w.heap.size, 0, none⟩), .int .u64 150] 110)).cell? ⟨1, 0, none⟩ = some (.iface 131 (.agg #[.pointer (some ⟨8, 51, none⟩)])) := by
  rw [World.cell?_alloc_lt _ _ ⟨1, 0, none⟩ (by simp; omega), World.cell?_alloc_lt _ _ ⟨1, 0, none⟩ hlt]; exact hg
 have htl : t.block < w.heap.size := by
  rcases Nat.lt_or_ge t.block w.heap.size with h | h
  · exact h
  · simp [World.cell?, Array.getElem?_eq_none h] at ht0
 have el := ea_elemV ⟨w.heap.size, 0, none⟩ t (((w.alloc (.cells #[.pointer (some t)] 85)).alloc (.cells #[.pointer (some ⟨8, 85, none⟩), .pointer (some ⟨w.heap.size, 0, none⟩), .int .u64 150] 110)).alloc (.cells #[.pointer (some ⟨8, 85, none⟩), .pointer (some ⟨w.heap.size, 0, none⟩), .int .u64 150] 110)) (by rw [World.cell?_alloc_lt _ _ ⟨w.heap.size, 0, none⟩ (by simp; omega)]; simp)
 have st := ea_set t ⟨w.heap.size + 1 + 1 + 1, 0, none⟩ e old ((((w.alloc (.cells #[.pointer (some t)] 85)).alloc (.cells #[.pointer (some ⟨8, 85, none⟩), .pointer (some ⟨w.heap.size, 0, none⟩), .int .u64 150] 110)).alloc (.cells #[.pointer (some ⟨8, 85, none⟩), .pointer (some ⟨w.heap.size, 0, none⟩), .int .u64 150] 110)).alloc (.cells #[.pointer (some e)] 79))
  (by rw [World.cell?_alloc_at _ _ _ _ (by simp)]; rfl)
  (by rw [World.cell?_alloc_lt _ _ t (by simp; omega), World.cell?_alloc_lt _ _ t (by simp; omega), World.cell?_alloc_lt _ _ t (by simp; omega), World.cell?_alloc_lt _ _ t htl]; exact ht0)
  (by rw [World.frozen?_alloc_old _ _ t (by simp; omega), World.frozen?_alloc_old _ _ t (by simp; omega), World.frozen?_alloc_old _ _ t (by simp; omega), World.frozen?_alloc_old _ _ t (Nat.ne_of_lt htl)]; exact hf0)
 go_enter Tryz.func53, Tryz.ntmps53
 go_wp2
 refine wp_loop_rounds 1 ?_
 rw [rounds_succ]
 go_wp2
 go_ret
 exact ⟨rfl, _, ((((Below.refl _ w).alloc (Nat.le_refl _) _).alloc (by simp) _).alloc (by simp; omega) _).alloc (by simp; omega) _, rfl⟩
end Go.Proofs.YtgjjdnojiegidaaGreatDoor

namespace Go.Proofs.YtgjjdnojiegidaaGreatDoor
open Go.RowKit
set_option maxHeartbeats 4000000
set_option maxRecDepth 100000

def gE : Nat → Nat
 | 1 => 0
 | 2 => 2
 | 3 => 3
 | 4 => 4
 | 5 => 5
 | 6 => 6
 | _ => 7
structure Errs (w : World) (A : Nat → Addr) : Prop where
 var : ∀ c, 1 ≤ c → c ≤ 7 → w.cell? ⟨gE c, 0, none⟩ = some (.iface 164 (.pointer (some (A c))))
 blk : ∀ c, 1 ≤ c → c ≤ 7 → ∃ ca ta, w.heap[(A c).block]? = some (.cells ca ta (0, 0))
 ne : ∀ c d, 1 ≤ c → c ≤ 7 → 1 ≤ d → d ≤ 7 → c ≠ d → A c ≠ A d
 hnd : w.cell? ⟨1, 0, none⟩ = some (.iface 131 (.agg #[.pointer (some ⟨8, 51, none⟩)]))
theorem ecell_lt {w : World} {p : Addr} {u : Value} (h : w.cell? p = some u) : p.block < w.heap.size := by
 rcases Nat.lt_or_ge p.block w.heap.size with c | c
 · exact c
 · simp [World.cell?, Array.getElem?_eq_none c] at h
theorem Errs.below {w w' : World} {A : Nat → Addr} (h : Errs w A) (hb : Below w.heap.size w w') : Errs w' A where
 var c h1 h2 := (hb.cell (ecell_lt (h.var c h1 h2))).trans (h.var c h1 h2)
 blk c h1 h2 := by
  obtain ⟨ca, ta, e⟩ := h.blk c h1 h2
  exact ⟨ca, ta, (hb.block _ (Array.getElem?_eq_some_iff.1 e).1).trans e⟩
 ne := h.ne
 hnd := (hb.cell (ecell_lt h.hnd)).trans h.hnd
theorem is_rej (eb c d : Nat) (A : Nat → Addr) (w : World) (h : Errs w A) (h8 : w.cell? ⟨eb, 8, none⟩ = some (.iface 164 (.pointer (some (A c))))) (c1 : 1 ≤ c) (c7 : c ≤ 7) (d1 : 1 ≤ d) (d7 : d ≤ 7) :
 Calls Tryz.prog 55 #[.iface 79 (.pointer (some ⟨eb, 0, none⟩)), .iface 164 (.pointer (some (A d)))] w fun e w' => e = .returned (.bool (decide (c = d))) ∧ w' = w := by
 by_cases he : c = d
 · subst he
   rw [decide_eq_true rfl]
   exact is_rej_same eb (A c) w h8
 · obtain ⟨ca, ta, ha⟩ := h.blk c c1 c7
   obtain ⟨cb, tb, hb⟩ := h.blk d d1 d7
   rw [decide_eq_false he]
   exact is_rej_other eb (A c) (A d) ca cb ta tb w h8 (h.ne c d c1 c7 d1 d7 he) ha hb
theorem impl_codeOf (eb c : Nat) (A : Nat → Addr) (w : World) (h : Errs w A) (h8 : w.cell? ⟨eb, 8, none⟩ = some (.iface 164 (.pointer (some (A c))))) (c1 : 1 ≤ c) (c7 : c ≤ 7) :
 Calls Tryz.prog 54 #[.iface 79 (.pointer (some ⟨eb, 0, none⟩))] w fun e w' => e = .returned (.int .i64 (c : Int)) ∧ w' = w := by
 have v2 := h.var 2 (by omega) (by omega)
 have v3 := h.var 3 (by omega) (by omega)
 have v4 := h.var 4 (by omega) (by omega)
 have v5 := h.var 5 (by omega) (by omega)
 have v6 := h.var 6 (by omega) (by omega)
 have v7 := h.var 7 (by omega) (by omega)
 simp only [gE] at v2 v3 v4 v5 v6 v7
 have I := fun d (d1 : 1 ≤ d) (d7 : d ≤ 7) => is_rej eb c d A w h h8 c1 c7 d1 d7
 have hI := Lib.hid I
 clear I h h8
 rcases (show c = 1 ∨ c = 2 ∨ c = 3 ∨ c = 4 ∨ c = 5 ∨ c = 6 ∨ c = 7 by omega) with rfl | rfl | rfl | rfl | rfl | rfl | rfl
 all_goals
  go_enter Tryz.func54, Tryz.ntmps54
  go_wp2_with (go_at_call 55; refine (hI.out _ (by decide) (by decide)).mono ?_; rintro e w' ⟨rfl, rfl⟩)
  go_ret
  exact ⟨rfl, rfl⟩
end Go.Proofs.YtgjjdnojiegidaaGreatDoor

namespace Go.Proofs.YtgjjdnojiegidaaGreatDoor
open Go.RowKit
set_option maxHeartbeats 4000000
set_option maxRecDepth 100000

def SentAt (W : World) (g : Nat) (t : List UInt8) (a : Addr) : Prop := W.cell? ⟨g, 0, none⟩ = some (.iface 164 (.pointer (some a))) ∧ (∃ s, W.cell? a = some (.string s) ∧ s.data.toList = t) ∧ ∃ c T, W.heap[a.block]? = some (.cells c T (0, 0))
theorem sent_ne {W : World} {g g' : Nat} {t t' : List UInt8} {a a' : Addr} (h : SentAt W g t a) (h' : SentAt W g' t' a') (hne : t ≠ t') : a ≠ a' := by
 rintro rfl
 obtain ⟨-, ⟨s, e1, e2⟩, -⟩ := h
 obtain ⟨-, ⟨s', e3, e4⟩, -⟩ := h'
 rw [e1] at e3
 injection e3 with e3
 injection e3 with e3
 subst e3
 exact hne (e2.symm.trans e4)
theorem vars_len {H : Type} {enc : TypeId × Value → H} {P : Program} {w : World} {sp : Nat → Bool} : ∀ {ns : List String} {ds : List (DataW H)} {ps : List MemPlace}, DataW.TrodVars enc P w sp ns ds ps → ds.length = ns.length
 | [], [], _, _ => rfl
 | [], _ :: _, _, h => h.elim
 | _ :: _, [], _, h => h.elim
 | _ :: _, _ :: _, _, ⟨_, _, _, _, _, _, _, _, _, _, hs, _⟩ => congrArg (· + 1) (vars_len hs)
theorem seven {α : Type} {l : List α} (h : l.length = 7) : ∃ a b c d e f g, l = [a, b, c, d, e, f, g] := by
 match l, h with
 | [a, b, c, d, e, f, g], _ => exact ⟨a, b, c, d, e, f, g, rfl⟩
theorem el_star : "*" ++ "errors.errorString" = "*errors.errorString" := by decide
theorem el_row (u : TypeId) (h : Tryz.prog.typeName? 3 u = some "*errors.errorString") : u = 164 :=
 typeName_ptr_named (nm := "errors.errorString") (by rw [el_star]; kernel_rfl) (by kernel_rfl) (by decide) u (by rw [el_star]; exact h)
theorem el_pair {n0 n1 : String} {t0 t1 : List UInt8} {r : List (String × DataW Unit)} {W : World} {g0 g1 : Nat} (h : laidMet Tryz.prog ((n0, .iface "*errors.errorString" (.ptr (.agg [.lit (.string t0)]))) :: (n1, .iface "*errors.errorString" (.ptr (.agg [.lit (.string t1)]))) :: r) W)
 (hg0 : Tryz.prog.globalNamed n0 = some g0) (ht0 : (Tryz.prog.globals[g0]?).map (·.type) = some 51) (hg1 : Tryz.prog.globalNamed n1 = some g1) (ht1 : (Tryz.prog.globals[g1]?).map (·.type) = some 51) : ∃ a0 a1, SentAt W g0 t0 a0 ∧ SentAt W g1 t1 a1 := by
 obtain ⟨a0, a1, s0, s1, c0, c1, T0, T1, hv0, hv1, hc0, hs0, -, hc1, hs1, -, -, hb0, hb1⟩ := laid_sentinels2 h hg0 ht0 hg1 ht1 Tryz.underlying51 el_row Tryz.underlying164 Tryz.underlying186 rfl rfl Tryz.underlying9 (by kernel_rfl) (by kernel_rfl)
 exact ⟨a0, a1, ⟨by simpa using World.var?_cell hg0 hv0 0, ⟨s0, hc0, hs0⟩, c0, T0, hb0⟩, ⟨by simpa using World.var?_cell hg1 hv1 0, ⟨s1, hc1, hs1⟩, c1, T1, hb1⟩⟩
theorem el_rt : (Tryz.prog.cutTypes.find? (·.1 == "internal/reflectlite.rtype")).map (·.2) = some 131 := by kernel_rfl
theorem el_one : ((List.range 198).filter fun t => Tryz.prog.rowNamed t [101, 114, 114, 111, 114]) = [51] := by kernel_rfl
theorem el_size : Tryz.prog.types.size = 198 := by kernel_rfl
theorem el_hnd {W : World} (h : handlesMet Tryz.prog [("errors.errorType", Rows.laid_errors_errorType)] W) : W.cell? ⟨1, 0, none⟩ = some (.iface 131 (.agg #[.pointer (some ⟨8, 51, none⟩)])) := by
 obtain ⟨name, u, ty, e1, e2, e3, e4, e5⟩ := h _ (List.mem_singleton.2 rfl)
 have en : name = [101, 114, 114, 111, 114] := (Option.some.inj e1).symm
 subst en
 obtain rfl := Option.some.inj (el_rt.symm.trans e2)
 have hm : ty ∈ (List.range 198).filter fun t => Tryz.prog.rowNamed t [101, 114, 114, 111, 114] := List.mem_filter.2 ⟨List.mem_range.2 (by rw [← el_size]; exact e3), e4⟩
 rw [el_one] at hm
 obtain rfl := List.mem_singleton.1 hm
 have hh : typeHandle Tryz.prog 51 = .pointer (some ⟨8, 51, none⟩) := by kernel_rfl
 rw [hh] at e5
 simpa using World.var?_cell (show Tryz.prog.globalNamed "errors.errorType" = some 1 by kernel_rfl) e5 0
theorem errs_of_laid {W : World} (h : laidMetH Tryz.prog (("errors.errorType", Rows.laid_errors_errorType) :: [("loop.example/g00609/impl.errForm", Rows.laid_loop_example_g00609_impl_errForm), ("loop.example/g00609/impl.errBlocked", Rows.laid_loop_example_g00609_impl_errBlocked), ("loop.example/g00609/impl.errTwice", Rows.laid_loop_example_g00609_impl_errTwice), ("loop.example/g00609/impl.errNone", Rows.laid_loop_example_g00609_impl_errNone), ("loop.example/g00609/impl.errCross", Rows.laid_loop_example_g00609_impl_errCross), ("loop.example/g00609/impl.errFill", Rows.laid_loop_example_g00609_impl_errFill), ("loop.example/g00609/impl.errRoom", Rows.laid_loop_example_g00609_impl_errRoom)]) W) : ∃ Ad, Errs W Ad := by
 have h' : laidMet Tryz.prog [("loop.example/g00609/impl.errForm", Rows.laid_loop_example_g00609_impl_errForm), ("loop.example/g00609/impl.errBlocked", Rows.laid_loop_example_g00609_impl_errBlocked), ("loop.example/g00609/impl.errTwice", Rows.laid_loop_example_g00609_impl_errTwice), ("loop.example/g00609/impl.errNone", Rows.laid_loop_example_g00609_impl_errNone), ("loop.example/g00609/impl.errCross", Rows.laid_loop_example_g00609_impl_errCross), ("loop.example/g00609/impl.errFill", Rows.laid_loop_example_g00609_impl_errFill), ("loop.example/g00609/impl.errRoom", Rows.laid_loop_example_g00609_impl_errRoom)] W ∧ handlesMet Tryz.prog [("errors.errorType", Rows.laid_errors_errorType)] W := h
 obtain ⟨h1, hh⟩ := h'
 have h3 := h1.tail.tail
 have h5 := h3.tail.tail
 have h6 := h5.tail
 obtain ⟨a1, a2, s1, s2⟩ := el_pair (g0 := 0) (g1 := 2) h1 (by kernel_rfl) (by kernel_rfl) (by kernel_rfl) (by kernel_rfl)
 obtain ⟨a3, a4, s3, s4⟩ := el_pair (g0 := 3) (g1 := 4) h3 (by kernel_rfl) (by kernel_rfl) (by kernel_rfl) (by kernel_rfl)
 obtain ⟨a5, a6, s5, s6⟩ := el_pair (g0 := 5) (g1 := 6) h5 (by kernel_rfl) (by kernel_rfl) (by kernel_rfl) (by kernel_rfl)
 obtain ⟨a6', a7, s6', s7⟩ := el_pair (g0 := 6) (g1 := 7) h6 (by kernel_rfl) (by kernel_rfl) (by kernel_rfl) (by kernel_rfl)
 clear h1 h3 h5 h6 h s6'
 refine ⟨fun c => match c with | 1 => a1 | 2 => a2 | 3 => a3 | 4 => a4 | 5 => a5 | 6 => a6 | _ => a7, fun c c1 c7 => ?_, fun c c1 c7 => ?_, fun c d c1 c7 d1 d7 hne => ?_, el_hnd hh⟩
 · rcases (show c = 1 ∨ c = 2 ∨ c = 3 ∨ c = 4 ∨ c = 5 ∨ c = 6 ∨ c = 7 by omega) with rfl | rfl | rfl | rfl | rfl | rfl | rfl
   · exact s1.1
   · exact s2.1
   · exact s3.1
   · exact s4.1
   · exact s5.1
   · exact s6.1
   · exact s7.1
 · rcases (show c = 1 ∨ c = 2 ∨ c = 3 ∨ c = 4 ∨ c = 5 ∨ c = 6 ∨ c = 7 by omega) with rfl | rfl | rfl | rfl | rfl | rfl | rfl
   · exact s1.2.2
   · exact s2.2.2
   · exact s3.2.2
   · exact s4.2.2
   · exact s5.2.2
   · exact s6.2.2
   · exact s7.2.2
 · rcases (show c = 1 ∨ c = 2 ∨ c = 3 ∨ c = 4 ∨ c = 5 ∨ c = 6 ∨ c = 7 by omega) with rfl | rfl | rfl | rfl | rfl | rfl | rfl <;> rcases (show d = 1 ∨ d = 2 ∨ d = 3 ∨ d = 4 ∨ d = 5 ∨ d = 6 ∨ d = 7 by omega) with rfl | rfl | rfl | rfl | rfl | rfl | rfl
   · exact absurd rfl hne
   · exact sent_ne s1 s2 (by decide)
   · exact sent_ne s1 s3 (by decide)
   · exact sent_ne s1 s4 (by decide)
   · exact sent_ne s1 s5 (by decide)
   · exact sent_ne s1 s6 (by decide)
   · exact sent_ne s1 s7 (by decide)
   · exact sent_ne s2 s1 (by decide)
   · exact absurd rfl hne
   · exact sent_ne s2 s3 (by decide)
   · exact sent_ne s2 s4 (by decide)
   · exact sent_ne s2 s5 (by decide)
   · exact sent_ne s2 s6 (by decide)
   · exact sent_ne s2 s7 (by decide)
   · exact sent_ne s3 s1 (by decide)
   · exact sent_ne s3 s2 (by decide)
   · exact absurd rfl hne
   · exact sent_ne s3 s4 (by decide)
   · exact sent_ne s3 s5 (by decide)
   · exact sent_ne s3 s6 (by decide)
   · exact sent_ne s3 s7 (by decide)
   · exact sent_ne s4 s1 (by decide)
   · exact sent_ne s4 s2 (by decide)
   · exact sent_ne s4 s3 (by decide)
   · exact absurd rfl hne
   · exact sent_ne s4 s5 (by decide)
   · exact sent_ne s4 s6 (by decide)
   · exact sent_ne s4 s7 (by decide)
   · exact sent_ne s5 s1 (by decide)
   · exact sent_ne s5 s2 (by decide)
   · exact sent_ne s5 s3 (by decide)
   · exact sent_ne s5 s4 (by decide)
   · exact absurd rfl hne
   · exact sent_ne s5 s6 (by decide)
   · exact sent_ne s5 s7 (by decide)
   · exact sent_ne s6 s1 (by decide)
   · exact sent_ne s6 s2 (by decide)
   · exact sent_ne s6 s3 (by decide)
   · exact sent_ne s6 s4 (by decide)
   · exact sent_ne s6 s5 (by decide)
   · exact absurd rfl hne
   · exact sent_ne s6 s7 (by decide)
   · exact sent_ne s7 s1 (by decide)
   · exact sent_ne s7 s2 (by decide)
   · exact sent_ne s7 s3 (by decide)
   · exact sent_ne s7 s4 (by decide)
   · exact sent_ne s7 s5 (by decide)
   · exact sent_ne s7 s6 (by decide)
   · exact absurd rfl hne
end Go.Proofs.YtgjjdnojiegidaaGreatDoor
