/-
 The exact law of Exec.
-/
import Derived.Test.YtgjjdnojiegidaaGreatDoorTak
import Derived.Test.YtgjjdnojiegidaaGreatDoorHV
import Derived.Test.YtgjjdnojiegidaaGreatDoorExZ
import Derived.Test.YtgjjdnojiegidaaGreatDoorHErr
import Derived.Test.YtgjjdnojiegidaaGreatDoorGB
import Derived.Test.YtgjjdnojiegidaaGreatDoorHC
import Derived.Test.YtgjjdnojiegidaaGreatDoorKeep
namespace Go.Proofs.YtgjjdnojiegidaaGreatDoor
open Go.RowKit Wire
set_option maxHeartbeats 6400000
set_option maxRecDepth 100000
set_option linter.unusedSimpArgs false

theorem rfree2 {w : World} {S : Nat} {a b : Value} {T : TypeId} (h : w.heap[S]? = some (.cells #[a, b] T (0, 0))) : w.frozen? ⟨S, 0, none⟩ = false ∧ w.frozen? ⟨S, 1, none⟩ = false := by
 refine ⟨?_, ?_⟩ <;> simp [World.frozen?, h]
theorem rput2 {w : World} {S : Nat} {a b u0 u1 : Value} {T : TypeId} (h : w.heap[S]? = some (.cells #[a, b] T (0, 0))) : ((w.setCell ⟨S, 0, none⟩ u0).setCell ⟨S, 1, none⟩ u1).heap[S]? = some (.cells #[u0, u1] T (0, 0)) := by
 simp [World.setCell, Array.getElem?_modify, h]
theorem TwoRows.put' {w w' : World} {base q : Nat} {r1 r2 : Value} {n1 n2 : Nat} {z1 z2 : List Int} (h : TwoRows w base r1 n1 z1 r2 n2 z2) (hg : w.grownBy w' (some q)) (h1 : r1.ownBlock = some q → False) (h2 : r2.ownBlock = some q → False) : TwoRows w' base r1 n1 z1 r2 n2 z2 :=
 ⟨h.one.kept hg (.inr h1), h.two.kept hg (.inr h2), h.apart⟩
def BoxRes (w : World) (base G N1 : Nat) (Z1 : List Int) (N2 : Nat) (Z2 : List Int) : Prop := ∃ A1 c1 A2 c2, w.heap[G]? = some (.cells #[.slice A1 N1 c1, .slice A2 N2 c2] 30 (0, 0)) ∧ TwoRows w base (.slice A1 N1 c1) N1 Z1 (.slice A2 N2 c2) N2 Z2 ∧
 ((Value.slice A1 N1 c1).ownBlock = some G → False) ∧ ((Value.slice A2 N2 c2).ownBlock = some G → False) ∧ base ≤ G
theorem own_keptlt {w w' : World} {base sz n g : Nat} {e : TypeId} {v : Value} {xs : List Value} (h : w.ownsRow base e sz v n xs) (hg : w.grownBy w' (some g)) (hlt : g < base) : w'.ownsRow base e sz v n xs :=
 h.kept hg (.inr (fun e => absurd (h.lt g e).1 (Nat.not_le_of_lt hlt)))
theorem own_blocks {w w' : World} {base sz n : Nat} {e : TypeId} {v : Value} {xs : List Value} (h : w.ownsRow base e sz v n xs) (hb : ∀ q, v.ownBlock = some q → w'.heap[q]? = w.heap[q]?) : w'.ownsRow base e sz v n xs :=
 ⟨h.1, h.2.imp id (fun ⟨g, cap, cur, e1, b1, c1, rest⟩ => ⟨g, cap, cur, e1, b1, (hb g (by rw [e1]; rfl)).trans c1, rest⟩)⟩
theorem m_mul {za zb : List Int} {n m : Nat} {side oi oa op oq mode : Int} (ha : za.length = n * 4) (hb : zb.length = m * 4) (h : rgB za n zb m side oi oa op oq mode = true) :
 (mZ1 true side oi oa op oq mode za zb).length = (mZ1 true side oi oa op oq mode za zb).length / 4 * 4 ∧ (mZ2 true side oi oa op oq mode za zb).length = (mZ2 true side oi oa op oq mode za zb).length / 4 * 4 := by
 have R := rg_oth h ha hb
 obtain ⟨M, N, e1, -, -, -⟩ := mtS_len (side := side) (id := oi) (acct := oa) (pr := op) (mode := mode) (othN side n m) (Z := othZ side za zb) (R := []) (q := oq) 0 R.len rfl
 have J : ∀ x : Nat, x = M * 4 → x = x / 4 * 4 := fun x hx => by omega
 have Ja : za.length = za.length / 4 * 4 := by omega
 have Jb : zb.length = zb.length / 4 * 4 := by omega
 have I : ∀ (P : Prop) [Decidable P] (x y : List Int), x.length = x.length / 4 * 4 → y.length = y.length / 4 * 4 → (if P then x else y).length = (if P then x else y).length / 4 * 4 := fun P _ x y hx hy => by split <;> assumption
 unfold mZ1 mZ2 mtA
 rw [if_pos rfl, if_pos rfl]
 unfold othZ at e1
 exact ⟨I _ _ _ Ja (J _ e1), I _ _ _ (J _ e1) Jb⟩
theorem rest_long {sd p : Int} {zs o : List Int} {n : Nat} (hz : zs.length = n * 4) (ho : o.length = 4) : (rest1 sd p zs n o).length ≤ (n + 1) * 4 ∧ (rest2 sd p zs n o).length ≤ (n + 1) * 4 := by
 have h := insZ_len (i := restI sd p zs n) hz ho (lead_le _ n)
 unfold rest1 rest2
 constructor <;> split <;> omega
theorem pla_long {za zb : List Int} {n m : Nat} {sd id ac pr qt md : Int} {rest : Bool} (ha : za.length = n * 4) (hb : zb.length = m * 4) (h : rgB za n zb m sd id ac pr qt md = true) (hn : n ≤ 20) (hm : m ≤ 20) :
 (plaR id ac pr qt md sd rest za zb).1.length ≤ 1000 ∧ (plaR id ac pr qt md sd rest za zb).2.1.length ≤ 1000 ∧ (plaR id ac pr qt md sd rest za zb).2.2.length ≤ 1000 := by
 have h3 := pla_len (rest := rest) ha hb h hn hm
 refine ⟨?_, ?_, by omega⟩
 · obtain ⟨h1, h2, -⟩ := m_len2 ha hb h hn hm
   have hz1 : (mZ1 true sd id ac pr qt md za zb).length = (mZ1 true sd id ac pr qt md za zb).length / 4 * 4 := (m_mul ha hb h).1
   have I : ∀ (P : Prop) [Decidable P] (x y : Trip), x.1.length ≤ 1000 → y.1.length ≤ 1000 → (if P then x else y).1.length ≤ 1000 := fun P _ x y hx hy => by split <;> assumption
   unfold plaR
   refine I _ _ _ ?_ (I _ _ _ ?_ ?_)
   · dsimp only; omega
   · have := (rest_long (sd := sd) (p := pr) (o := [id, ac, pr, mLL true sd id ac pr qt md za zb]) hz1 rfl).1
     dsimp only
     omega
   · dsimp only; omega
 · obtain ⟨h1, h2, -⟩ := m_len2 ha hb h hn hm
   have hz2 : (mZ2 true sd id ac pr qt md za zb).length = (mZ2 true sd id ac pr qt md za zb).length / 4 * 4 := (m_mul ha hb h).2
   have I : ∀ (P : Prop) [Decidable P] (x y : Trip), x.2.1.length ≤ 1000 → y.2.1.length ≤ 1000 → (if P then x else y).2.1.length ≤ 1000 := fun P _ x y hx hy => by split <;> assumption
   unfold plaR
   refine I _ _ _ ?_ (I _ _ _ ?_ ?_)
   · dsimp only; omega
   · have := (rest_long (sd := sd) (p := pr) (o := [id, ac, pr, mLL true sd id ac pr qt md za zb]) hz2 rfl).2
     dsimp only
     omega
   · dsimp only; omega
theorem exA_long {s : Int} {f : Nat → Int} {ok : Bool} {k sy ac id sd pr qt md : Int} {za zb : List Int} {n m : Nat} (ha : za.length = n * 4) (hb : zb.length = m * 4) (hf : FindRel (bookB za n zb m) za n zb m id s f ok) :
 (exA s f ok k sy ac id sd pr qt md za n zb m).1.length ≤ 1000 ∧ (exA s f ok k sy ac id sd pr qt md za n zb m).2.1.length ≤ 1000 ∧ (exA s f ok k sy ac id sd pr qt md za n zb m).2.2.length ≤ 1000 := by
 unfold exA
 by_cases hbk : bookB za n zb m = true
 · obtain ⟨hn, hm⟩ := book20 hbk
   rw [if_pos hbk]
   by_cases h0 : whyA ok f k sy ac id sd pr qt md za n zb m = 0
   · rw [if_pos h0]
     dsimp only
     rw [symR_len]
     have ht1 := tkZ_len za id n
     have ht2 := tkZ_len zb id m
     have hl1 := tkN_le za id n
     have hl2 := tkN_le zb id m
     unfold doT
     by_cases h6 : k = 6
     · rw [if_pos h6]
       dsimp only
       exact ⟨by omega, by omega, by simp [canR]⟩
     rw [if_neg h6]
     by_cases h7 : k = 7
     · rw [if_pos h7]
       obtain ⟨hc, hok, -⟩ := why_old h0 (.inr h7)
       subst hok
       subst h7
       obtain ⟨hi, hmd, -⟩ := cmd_repl hc
       have HR := rg_repl hbk hi hmd hf
       have hp := pla_long (rest := true) ht1 ht2 HR (by omega) (by omega)
       have hp3 := pla_len (rest := true) ht1 ht2 HR (by omega) (by omega)
       by_cases hq : pr = f 2 ∧ qt ≤ f 3
       · rw [if_pos hq]
         dsimp only
         rw [rdZ_len, rdZ_len]
         exact ⟨by omega, by omega, by simp [canR, ackR]⟩
       · rw [if_neg hq]
         dsimp only
         exact ⟨hp.1, hp.2.1, by rw [List.length_append]; simp only [canR, List.length_cons, List.length_nil]; omega⟩
     · rw [if_neg h7]
       obtain ⟨hc, h5, hok⟩ := why_new h0 (fun e => e.elim h6 h7)
       subst hok
       obtain ⟨hs, hi, hmd, -⟩ := cmd_new hc h5
       exact pla_long ha hb (rg_new hbk hs hi hmd hf) hn hm
   · rw [if_neg h0]
     dsimp only
     exact ⟨by omega, by omega, by simp [rejR]⟩
 · rw [if_neg hbk]
   simp
theorem eans_fix {w' : World} {base : Nat} {t : Trip} {e : Ending} (h : EAns w' base t e) :
 ∃ v1 v2 v3, e = .returned (.tuple #[.agg #[v1, v2], v3]) ∧ TwoRows w' base v1 (t.1.length / 4) t.1 v2 (t.2.1.length / 4) t.2.1 ∧ w'.ownsRow base 48 8 v3 (t.2.2.length / 8) (nums t.2.2) := by
 obtain ⟨r1, r2, rv, n1, n2, N, he, hT, hR⟩ := h
 have e1 : t.1.length / 4 = n1 := by have := hT.one.1; rw [nums_length] at this; omega
 have e2 : t.2.1.length / 4 = n2 := by have := hT.two.1; rw [nums_length] at this; omega
 have e3 : t.2.2.length / 8 = N := by have := hR.1; rw [nums_length] at this; omega
 exact ⟨r1, r2, rv, he, by rw [e1, e2]; exact hT, by rw [e3]; exact hR⟩
theorem law_Exec (A : Option Addr) (n c : Nat) (B : Option Addr) (m d : Nat) (za zb : List Int) (kd sy ac id sd pr qt md : Int) (w : World) (hl : BookIn w w.heap.size A n B m za zb) (hn : n ≤ maxLen) (hm : m ≤ maxLen) (hL : laidMetH Tryz.prog Rows.fnExactExecRow.laid w) :
 Calls Tryz.prog 3 #[.agg #[.slice A n c, .slice B m d], .agg #[.int .i64 kd, .int .i64 sy, .int .i64 ac, .int .i64 id, .int .i64 sd, .int .i64 pr, .int .i64 qt, .int .i64 md]] w fun e w' => e = .returned (.bool true) ∧ Below w.heap.size w w' := by
 obtain ⟨Ad, hE⟩ := errs_of_laid hL
 clear hL
 have HE := Lib.hid hE
 clear hE
 obtain ⟨b0, b1⟩ := two_blocks w (.cells #[.slice A n c, .slice B m d] 24) (.cells #[.int .i64 kd, .int .i64 sy, .int .i64 ac, .int .i64 id, .int .i64 sd, .int .i64 pr, .int .i64 qt, .int .i64 md] 26)
 have hbw : Below w.heap.size w ((w.alloc (.cells #[.slice A n c, .slice B m d] 24)).alloc (.cells #[.int .i64 kd, .int .i64 sy, .int .i64 ac, .int .i64 id, .int .i64 sd, .int .i64 pr, .int .i64 qt, .int .i64 md] 26)) := ((Below.refl _ _).alloc (Nat.le_refl _) _).alloc (by simp) _
 have hsw : ((w.alloc (.cells #[.slice A n c, .slice B m d] 24)).alloc (.cells #[.int .i64 kd, .int .i64 sy, .int .i64 ac, .int .i64 id, .int .i64 sd, .int .i64 pr, .int .i64 qt, .int .i64 md] 26)).heap.size = w.heap.size + 2 := by simp
 have hlw := hl.later hbw
 go_enter Tryz.func3, Tryz.ntmps3
 go_wp2_with fail
 generalize ((w.alloc (.cells #[.slice A n c, .slice B m d] 24)).alloc (.cells #[.int .i64 kd, .int .i64 sy, .int .i64 ac, .int .i64 id, .int .i64 sd, .int .i64 pr, .int .i64 qt, .int .i64 md] 26)) = ww at *
 refine (szBook_any A n c B m d _ hn hm).mono ?_
 rintro e w0 ⟨⟨z, rfl, hz⟩, hb0⟩
 have H0 := (hb0.block (w.heap.size) (by omega)).trans b0
 have O0 := (hb0.block (w.heap.size + 1) (by omega)).trans b1
 have hs0 : w.heap.size + 2 ≤ w0.heap.size := by have := hb0.size; omega
 have hl0 := hlw.later hb0
 have hB0 := hbw.trans (hb0.mono hbw.size)
 clear b0 b1 hb0 hbw hlw hsw
 rcases hz with ⟨rfl, hbig⟩ | ⟨hz0, hnm⟩
 · clear H0 O0
   go_wp2_with fail
   go_ret
   exact ⟨rfl, hB0⟩
 have hz1 : decide (z < 0) = false := decide_eq_false (by omega)
 have hn1 : n ≤ 1048576 := by omega
 have hm1 : m ≤ 1048576 := by omega
 have hlA := hl.1.1
 have hlB := hl.2.1
 clear hl
 obtain ⟨s, f, ok, hF⟩ := find_is (bookB za n zb m) za n zb m id
 have hlong := exA_long (k := kd) (sy := sy) (ac := ac) (sd := sd) (pr := pr) (qt := qt) (md := md) hlA hlB hF
 have HF := Lib.hid hF
 clear hF
 obtain ⟨TT, hTT⟩ : ∃ x, exA s f ok kd sy ac id sd pr qt md za n zb m = x := ⟨_, rfl⟩
 rw [hTT] at hlong
 obtain ⟨Z1, Z2, RR⟩ := TT
 dsimp only at hlong
 obtain ⟨hz1l, hz2l, hrl⟩ := hlong
 obtain ⟨N1, hsN1⟩ : ∃ x, Z1.length / 4 = x := ⟨_, rfl⟩
 obtain ⟨N2, hsN2⟩ : ∃ x, Z2.length / 4 = x := ⟨_, rfl⟩
 obtain ⟨N3, hsN3⟩ : ∃ x, RR.length / 8 = x := ⟨_, rfl⟩
 have hN1 : N1 ≤ 1048576 := by omega
 have hN2 : N2 ≤ 1048576 := by omega
 have hN3 : N3 ≤ 1048576 := by omega
 have HCS : Hid (∀ (v : World) (g f : Nat), BookIn v v.heap.size (some ⟨g, 0, none⟩) n (some ⟨f, 0, none⟩) m za zb → Calls Tryz.prog 5 #[.agg #[.slice (some ⟨g, 0, none⟩) n n, .slice (some ⟨f, 0, none⟩) m m], .agg #[.int .i64 kd, .int .i64 sy, .int .i64 ac, .int .i64 id, .int .i64 sd, .int .i64 pr, .int .i64 qt, .int .i64 md]] v fun e w' => (∃ v1 v2 v3, e = .returned (.tuple #[.agg #[v1, v2], v3]) ∧ TwoRows w' v.heap.size v1 N1 Z1 v2 N2 Z2 ∧ w'.ownsRow v.heap.size 48 8 v3 N3 (nums RR)) ∧ Below v.heap.size v w') := Lib.hid (fun v g f_ hx => by
  have := (spec_Exec (some ⟨g, 0, none⟩) n n (some ⟨f_, 0, none⟩) m m za zb kd sy ac id sd pr qt md v hx.1 hx.2 hn1 hm1 (fun e => by cases e) (fun e => by cases e) s f ok HF).mono (fun e w' h => (⟨eans_fix h.1, h.2⟩ : _ ∧ _))
  rw [hTT] at this
  dsimp only at this
  rw [hsN1, hsN2, hsN3] at this
  exact this)
 have HCI : Hid (∀ (v : World) (g f : Nat), BookIn v v.heap.size (some ⟨g, 0, none⟩) n (some ⟨f, 0, none⟩) m za zb → Below w.heap.size w v → Calls Tryz.prog 8 #[.agg #[.slice (some ⟨g, 0, none⟩) n n, .slice (some ⟨f, 0, none⟩) m m], .agg #[.int .i64 kd, .int .i64 sy, .int .i64 ac, .int .i64 id, .int .i64 sd, .int .i64 pr, .int .i64 qt, .int .i64 md]] v fun e w' => (∃ v1 v2 v3, e = .returned (.tuple #[.agg #[v1, v2], v3]) ∧ TwoRows w' v.heap.size v1 N1 Z1 v2 N2 Z2 ∧ w'.ownsRow v.heap.size 48 8 v3 N3 (nums RR)) ∧ Below v.heap.size v w') := Lib.hid (fun v g f_ hx hbv => by
  have := (impl_Exec (some ⟨g, 0, none⟩) n n (some ⟨f_, 0, none⟩) m m za zb kd sy ac id sd pr qt md Ad v hx.1 hx.2 hn1 hm1 (HE.out.below hbv) s f ok HF).mono (fun e w' h => (⟨eans_fix h.1, h.2⟩ : _ ∧ _))
  rw [hTT] at this
  dsimp only at this
  rw [hsN1, hsN2, hsN3] at this
  exact this)
 clear hTT hz1l hz2l hrl hsN1 hsN2 hsN3
 have hK0 : Keeps w0.heap.size w0 [(w.heap.size, (.cells #[.slice A n c, .slice B m d] 24)), (w.heap.size + 1, (.cells #[.int .i64 kd, .int .i64 sy, .int .i64 ac, .int .i64 id, .int .i64 sd, .int .i64 pr, .int .i64 qt, .int .i64 md] 26))] w0 := ⟨Below.refl _ _, Nat.le_refl _, fun p hp => by
  simp only [List.mem_cons, List.not_mem_nil, or_false] at hp
  rcases hp with rfl | rfl
  · exact H0
  · exact O0⟩
 go_wp2_with fail
 go_upto_region 5 with fail
 go_cut [6, 7] (fun s6 s7 wx => ∃ G R3 d3, s6 = .pointer (some ⟨G, 0, none⟩) ∧ s7 = .slice R3 N3 d3 ∧ BoxRes wx w0.heap.size G N1 Z1 N2 Z2 ∧ wx.ownsRow w0.heap.size 48 8 (.slice R3 N3 d3) N3 (nums RR) ∧ Keeps w0.heap.size w0 [(w.heap.size, (.cells #[.slice A n c, .slice B m d] 24)), (w.heap.size + 1, (.cells #[.int .i64 kd, .int .i64 sy, .int .i64 ac, .int .i64 id, .int .i64 sd, .int .i64 pr, .int .i64 qt, .int .i64 md] 26))] wx)
 case first =>
  refine wp_region_held_drew (S := Keeps w0.heap.size w0 [(w.heap.size, (.cells #[.slice A n c, .slice B m d] 24)), (w.heap.size + 1, (.cells #[.int .i64 kd, .int .i64 sy, .int .i64 ac, .int .i64 id, .int .i64 sd, .int .i64 pr, .int .i64 qt, .int .i64 md] 26))]) (by kernel_rfl) ?hSr5 (fun zH => ?restr5)
  case hSr5 => exact hK0.drew
  replace hK0 := hK0.drew
  have hls := hl0
  clear zH
  generalize hw1s : w0.drew = w1s at hK0 ⊢
  clear hw1s
  refine tkY 0 (hy := by ((intro w hSw; obtain ⟨c0, c1⟩ := cell2 hSw.one; go_simp) <;> with_reducible rfl)) (h := ?_)
  refine tkY 2 (hy := by ((intro w hSw; obtain ⟨c0, c1, c2, c3, c4, c5, c6, c7⟩ := cmd_cell hSw.two; go_simp) <;> with_reducible rfl)) (h := ?_)
  refine wpAnyH_ready (rs := [1, 8]) (by kernel_rfl) (by simp) ?_
  refine AllReadyH.cons (o := ?or459_1) ?hor459_1 (fun K hK => ?stepr459_1) (AllReadyH.cons (o := ?or459_8) ?hor459_8 (fun K hK => ?stepr459_8) (AllReadyH.nil))
  case hor459_1 => simp only [gA, gB, gC]; exact rfl
  case hor459_8 => simp only [gA, gB, gC]; exact rfl
  case stepr459_1 =>
   go_simp
   refine (tBa A n c B m d za zb w1s (hls.later hK0.bel) hnm).mono ?_
   rintro e v462 ⟨g464, f465, rfl, _, _, _, hr466, hs467, hb463⟩
   have hx468 : BookIn v462 v462.heap.size (some ⟨g464, 0, none⟩) n (some ⟨f465, 0, none⟩) m za zb := ⟨Lst.of_row (sz := 4) (zs := za) (n := n) hr466 (Nat.le_refl _) hlA (fun _ _ => rfl), Lst.of_row (sz := 4) (zs := zb) (n := m) hs467 (Nat.le_refl _) hlB (fun _ _ => rfl)⟩
   clear hr466 hs467
   have hk461 := hK0.upto (Nat.le_refl _) hb463
   refine hK.out _ _ (hk461) (fun zH => ?_)
   clear hK K hb463 hK0
   try simp only [Act.put, sA, sB, sC]
   refine wpAnyH_ready (rs := [3, 8]) (by kernel_rfl) (by simp) ?_
   refine AllReadyH.cons (o := ?or469_3) ?hor469_3 (fun K hK => ?stepr469_3) (AllReadyH.cons (o := ?or469_8) ?hor469_8 (fun K hK => ?stepr469_8) (AllReadyH.nil))
   case hor469_3 => simp only [gA, gB, gC]; exact rfl
   case hor469_8 => simp only [gA, gB, gC]; exact rfl
   case stepr469_3 =>
    go_simp
    refine (toCmd_any kd sy ac id sd pr qt md v462).mono ?_
    rintro e v472 ⟨rfl, hb473⟩
    have hx474 := hx468.later hb473
    clear hx468
    have hk471 := hk461.upto (Nat.le_refl _) hb473
    refine hK.out _ _ (hk471) (fun zH => ?_)
    clear hK K hb473 hk461
    try simp only [Act.put, sA, sB, sC]
    refine wpAnyH_ready (rs := [4, 8]) (by kernel_rfl) (by simp) ?_
    refine AllReadyH.cons (o := ?or475_4) ?hor475_4 (fun K hK => ?stepr475_4) (AllReadyH.cons (o := ?or475_8) ?hor475_8 (fun K hK => ?stepr475_8) (AllReadyH.nil))
    case hor475_4 => simp only [gA, gB, gC]; exact rfl
    case hor475_8 => simp only [gA, gB, gC]; exact rfl
    case stepr475_4 =>
     go_simp
     refine (HCS.out v472 g464 f465 hx474).mono ?_
     rintro e v478 ⟨⟨r480, r481, r482, rfl, two483, hr484⟩, hb479⟩
     obtain ⟨A485, c486, A487, c488, rfl, rfl⟩ := two483.slices
     obtain ⟨A489, c490, rfl, -, -⟩ := oSl hr484
     have two493 := two483.mono hk471.low
     have hr494 := oMn hr484 hk471.low
     clear two483 hr484
     clear hx474
     have hk477 := hk471.upto (Nat.le_refl _) hb479
     refine hK.out _ _ (hk477) (fun zH => ?_)
     clear hK K hb479 hk471
     try simp only [Act.put, sA, sB, sC]
     refine tkY 5 (hy := by ((intro w hSw; go_simp) <;> with_reducible rfl)) (h := ?_)
     refine tkY 6 (hy := by ((intro w hSw; go_simp) <;> with_reducible rfl)) (h := ?_)
     refine tkY 7 (hy := by ((intro w hSw; go_simp) <;> with_reducible rfl)) (h := ?_)
     refine rd1 8 (fun K hK => ?_)
     go_simp
     have hk500 := hk477.upto (Nat.le_refl _) ((Below.refl _ _).alloc (Nat.le_refl _) (.cells #[.slice none 0 0, .slice none 0 0] 30))
     have hg503 := heap_alloc_new v478 (.cells #[.slice none 0 0, .slice none 0 0] 30)
     have hz504 := hk477.lo
     have hn506 : (Value.slice A485 N1 c486).ownBlock = some v478.heap.size → False := fun e => absurd (two493.one.lt _ e).2 (Nat.lt_irrefl _)
     have hn507 : (Value.slice A487 N2 c488).ownBlock = some v478.heap.size → False := fun e => absurd (two493.two.lt _ e).2 (Nat.lt_irrefl _)
     have two505 := two493.alloc (.cells #[.slice none 0 0, .slice none 0 0] 30)
     have hr508 := hr494.alloc (.cells #[.slice none 0 0, .slice none 0 0] 30)
     clear two493 hr494
     refine hK.out _ _ (hk500) (fun zH => ?_)
     clear hK K hk477
     try simp only [Act.put, sA, sB, sC]
     generalize v478.alloc (.cells #[.slice none 0 0, .slice none 0 0] 30) = v501 at *
     generalize v478.heap.size = G502 at *
     refine rd1 9 (fun K hK => ?_)
     obtain ⟨c0, c1⟩ := cell2 hg503
     obtain ⟨f0, f1⟩ := rfree2 hg503
     go_simp
     have hk511 := hk500.upto' hz504 (((Below.refl G502 v501).setCell (p := ⟨G502, 0, none⟩) (Nat.le_refl _) (.slice A485 N1 c486)).setCell (p := ⟨G502, 1, none⟩) (Nat.le_refl _) (.slice A487 N2 c488))
     have hput513 := rput2 (u0 := (.slice A485 N1 c486)) (u1 := (.slice A487 N2 c488)) hg503
     have two512 := (two505.put' (set_grown v501 G502 0 (.slice A485 N1 c486)) hn506 hn507).put' (set_grown _ G502 1 (.slice A487 N2 c488)) hn506 hn507
     have hr514 := oSk (i := 1) (u := (.slice A487 N2 c488)) (oSk (i := 0) (u := (.slice A485 N1 c486)) hr508 hg503 (by decide)) (zS0 hg503) (by decide)
     refine hK.out _ _ (hk511) (fun zH => ?_)
     clear hK K hk500 two505 hr508 hg503 c0 c1 f0 f1
     try simp only [Act.put, sA, sB, sC]
     refine tkY 10 (hy := by ((intro w hSw; go_simp) <;> with_reducible rfl)) (h := ?_)
     refine dn1 ?_
     go_wp2_with fail
     go_meet
     exact ⟨_, _, _, rfl, rfl, ⟨_, _, _, _, hput513, two512, hn506, hn507, hz504.low⟩, hr514, hk511⟩
    case stepr475_8 =>
     go_simp
     have hk517 := hk471.upto (Nat.le_refl _) ((Below.refl _ _).alloc (Nat.le_refl _) (.cells #[.slice none 0 0, .slice none 0 0] 30))
     have hg520 := heap_alloc_new v472 (.cells #[.slice none 0 0, .slice none 0 0] 30)
     have hz521 := hk471.lo
     have hx522 := hx474.later ((Below.refl _ _).alloc (Nat.le_refl _) (.cells #[.slice none 0 0, .slice none 0 0] 30))
     clear hx474
     refine hK.out _ _ (hk517) (fun zH => ?_)
     clear hK K hk471
     try simp only [Act.put, sA, sB, sC]
     generalize v472.alloc (.cells #[.slice none 0 0, .slice none 0 0] 30) = v518 at *
     generalize v472.heap.size = G519 at *
     refine rd1 4 (fun K hK => ?_)
     go_simp
     refine (HCS.out v518 g464 f465 hx522).mono ?_
     rintro e v526 ⟨⟨r528, r529, r530, rfl, two531, hr532⟩, hb527⟩
     obtain ⟨A533, c534, A535, c536, rfl, rfl⟩ := two531.slices
     obtain ⟨A537, c538, rfl, -, -⟩ := oSl hr532
     have hn539 : (Value.slice A533 N1 c534).ownBlock = some G519 → False := fun e => absurd (two531.one.lt _ e).1 (Nat.not_le_of_lt (heap_lt' hg520))
     have hn540 : (Value.slice A535 N2 c536).ownBlock = some G519 → False := fun e => absurd (two531.two.lt _ e).1 (Nat.not_le_of_lt (heap_lt' hg520))
     have two541 := two531.mono hk517.low
     have hr542 := oMn hr532 hk517.low
     clear two531 hr532
     clear hx522
     have hk525 := hk517.upto (Nat.le_refl _) hb527
     have hg543 := (hb527.block G519 (heap_lt' hg520)).trans hg520
     clear hg520
     refine hK.out _ _ (hk525) (fun zH => ?_)
     clear hK K hb527 hk517
     try simp only [Act.put, sA, sB, sC]
     refine tkY 5 (hy := by ((intro w hSw; go_simp) <;> with_reducible rfl)) (h := ?_)
     refine tkY 6 (hy := by ((intro w hSw; go_simp) <;> with_reducible rfl)) (h := ?_)
     refine tkY 7 (hy := by ((intro w hSw; go_simp) <;> with_reducible rfl)) (h := ?_)
     refine rd1 9 (fun K hK => ?_)
     obtain ⟨c0, c1⟩ := cell2 hg543
     obtain ⟨f0, f1⟩ := rfree2 hg543
     go_simp
     have hk549 := hk525.upto' hz521 (((Below.refl G519 v526).setCell (p := ⟨G519, 0, none⟩) (Nat.le_refl _) (.slice A533 N1 c534)).setCell (p := ⟨G519, 1, none⟩) (Nat.le_refl _) (.slice A535 N2 c536))
     have hput551 := rput2 (u0 := (.slice A533 N1 c534)) (u1 := (.slice A535 N2 c536)) hg543
     have two550 := (two541.put' (set_grown v526 G519 0 (.slice A533 N1 c534)) hn539 hn540).put' (set_grown _ G519 1 (.slice A535 N2 c536)) hn539 hn540
     have hr552 := oSk (i := 1) (u := (.slice A535 N2 c536)) (oSk (i := 0) (u := (.slice A533 N1 c534)) hr542 hg543 (by decide)) (zS0 hg543) (by decide)
     refine hK.out _ _ (hk549) (fun zH => ?_)
     clear hK K hk525 two541 hr542 hg543 c0 c1 f0 f1
     try simp only [Act.put, sA, sB, sC]
     refine tkY 10 (hy := by ((intro w hSw; go_simp) <;> with_reducible rfl)) (h := ?_)
     refine dn1 ?_
     go_wp2_with fail
     go_meet
     exact ⟨_, _, _, rfl, rfl, ⟨_, _, _, _, hput551, two550, hn539, hn540, hz521.low⟩, hr552, hk549⟩
   case stepr469_8 =>
    go_simp
    have hk555 := hk461.upto (Nat.le_refl _) ((Below.refl _ _).alloc (Nat.le_refl _) (.cells #[.slice none 0 0, .slice none 0 0] 30))
    have hg558 := heap_alloc_new v462 (.cells #[.slice none 0 0, .slice none 0 0] 30)
    have hz559 := hk461.lo
    have hx560 := hx468.later ((Below.refl _ _).alloc (Nat.le_refl _) (.cells #[.slice none 0 0, .slice none 0 0] 30))
    clear hx468
    refine hK.out _ _ (hk555) (fun zH => ?_)
    clear hK K hk461
    try simp only [Act.put, sA, sB, sC]
    generalize v462.alloc (.cells #[.slice none 0 0, .slice none 0 0] 30) = v556 at *
    generalize v462.heap.size = G557 at *
    refine rd1 3 (fun K hK => ?_)
    go_simp
    refine (toCmd_any kd sy ac id sd pr qt md v556).mono ?_
    rintro e v564 ⟨rfl, hb565⟩
    have hx566 := hx560.later hb565
    clear hx560
    have hk563 := hk555.upto (Nat.le_refl _) hb565
    have hg567 := (hb565.block G557 (heap_lt' hg558)).trans hg558
    clear hg558
    refine hK.out _ _ (hk563) (fun zH => ?_)
    clear hK K hb565 hk555
    try simp only [Act.put, sA, sB, sC]
    refine rd1 4 (fun K hK => ?_)
    go_simp
    refine (HCS.out v564 g464 f465 hx566).mono ?_
    rintro e v571 ⟨⟨r573, r574, r575, rfl, two576, hr577⟩, hb572⟩
    obtain ⟨A578, c579, A580, c581, rfl, rfl⟩ := two576.slices
    obtain ⟨A582, c583, rfl, -, -⟩ := oSl hr577
    have hn584 : (Value.slice A578 N1 c579).ownBlock = some G557 → False := fun e => absurd (two576.one.lt _ e).1 (Nat.not_le_of_lt (heap_lt' hg567))
    have hn585 : (Value.slice A580 N2 c581).ownBlock = some G557 → False := fun e => absurd (two576.two.lt _ e).1 (Nat.not_le_of_lt (heap_lt' hg567))
    have two586 := two576.mono hk563.low
    have hr587 := oMn hr577 hk563.low
    clear two576 hr577
    clear hx566
    have hk570 := hk563.upto (Nat.le_refl _) hb572
    have hg588 := (hb572.block G557 (heap_lt' hg567)).trans hg567
    clear hg567
    refine hK.out _ _ (hk570) (fun zH => ?_)
    clear hK K hb572 hk563
    try simp only [Act.put, sA, sB, sC]
    refine tkY 5 (hy := by ((intro w hSw; go_simp) <;> with_reducible rfl)) (h := ?_)
    refine tkY 6 (hy := by ((intro w hSw; go_simp) <;> with_reducible rfl)) (h := ?_)
    refine tkY 7 (hy := by ((intro w hSw; go_simp) <;> with_reducible rfl)) (h := ?_)
    refine rd1 9 (fun K hK => ?_)
    obtain ⟨c0, c1⟩ := cell2 hg588
    obtain ⟨f0, f1⟩ := rfree2 hg588
    go_simp
    have hk594 := hk570.upto' hz559 (((Below.refl G557 v571).setCell (p := ⟨G557, 0, none⟩) (Nat.le_refl _) (.slice A578 N1 c579)).setCell (p := ⟨G557, 1, none⟩) (Nat.le_refl _) (.slice A580 N2 c581))
    have hput596 := rput2 (u0 := (.slice A578 N1 c579)) (u1 := (.slice A580 N2 c581)) hg588
    have two595 := (two586.put' (set_grown v571 G557 0 (.slice A578 N1 c579)) hn584 hn585).put' (set_grown _ G557 1 (.slice A580 N2 c581)) hn584 hn585
    have hr597 := oSk (i := 1) (u := (.slice A580 N2 c581)) (oSk (i := 0) (u := (.slice A578 N1 c579)) hr587 hg588 (by decide)) (zS0 hg588) (by decide)
    refine hK.out _ _ (hk594) (fun zH => ?_)
    clear hK K hk570 two586 hr587 hg588 c0 c1 f0 f1
    try simp only [Act.put, sA, sB, sC]
    refine tkY 10 (hy := by ((intro w hSw; go_simp) <;> with_reducible rfl)) (h := ?_)
    refine dn1 ?_
    go_wp2_with fail
    go_meet
    exact ⟨_, _, _, rfl, rfl, ⟨_, _, _, _, hput596, two595, hn584, hn585, hz559.low⟩, hr597, hk594⟩
  case stepr459_8 =>
   go_simp
   have hk600 := hK0.upto (Nat.le_refl _) ((Below.refl _ _).alloc (Nat.le_refl _) (.cells #[.slice none 0 0, .slice none 0 0] 30))
   have hg603 := heap_alloc_new w1s (.cells #[.slice none 0 0, .slice none 0 0] 30)
   have hz604 := hK0.lo
   refine hK.out _ _ (hk600) (fun zH => ?_)
   clear hK K hK0
   try simp only [Act.put, sA, sB, sC]
   generalize w1s.alloc (.cells #[.slice none 0 0, .slice none 0 0] 30) = v601 at *
   generalize w1s.heap.size = G602 at *
   refine rd1 1 (fun K hK => ?_)
   go_simp
   refine (tBa A n c B m d za zb v601 (hls.later hk600.bel) hnm).mono ?_
   rintro e v608 ⟨g610, f611, rfl, _, _, _, hr612, hs613, hb609⟩
   have hx614 : BookIn v608 v608.heap.size (some ⟨g610, 0, none⟩) n (some ⟨f611, 0, none⟩) m za zb := ⟨Lst.of_row (sz := 4) (zs := za) (n := n) hr612 (Nat.le_refl _) hlA (fun _ _ => rfl), Lst.of_row (sz := 4) (zs := zb) (n := m) hs613 (Nat.le_refl _) hlB (fun _ _ => rfl)⟩
   clear hr612 hs613
   have hk607 := hk600.upto (Nat.le_refl _) hb609
   have hg615 := (hb609.block G602 (heap_lt' hg603)).trans hg603
   clear hg603
   refine hK.out _ _ (hk607) (fun zH => ?_)
   clear hK K hb609 hk600
   try simp only [Act.put, sA, sB, sC]
   refine rd1 3 (fun K hK => ?_)
   go_simp
   refine (toCmd_any kd sy ac id sd pr qt md v608).mono ?_
   rintro e v619 ⟨rfl, hb620⟩
   have hx621 := hx614.later hb620
   clear hx614
   have hk618 := hk607.upto (Nat.le_refl _) hb620
   have hg622 := (hb620.block G602 (heap_lt' hg615)).trans hg615
   clear hg615
   refine hK.out _ _ (hk618) (fun zH => ?_)
   clear hK K hb620 hk607
   try simp only [Act.put, sA, sB, sC]
   refine rd1 4 (fun K hK => ?_)
   go_simp
   refine (HCS.out v619 g610 f611 hx621).mono ?_
   rintro e v626 ⟨⟨r628, r629, r630, rfl, two631, hr632⟩, hb627⟩
   obtain ⟨A633, c634, A635, c636, rfl, rfl⟩ := two631.slices
   obtain ⟨A637, c638, rfl, -, -⟩ := oSl hr632
   have hn639 : (Value.slice A633 N1 c634).ownBlock = some G602 → False := fun e => absurd (two631.one.lt _ e).1 (Nat.not_le_of_lt (heap_lt' hg622))
   have hn640 : (Value.slice A635 N2 c636).ownBlock = some G602 → False := fun e => absurd (two631.two.lt _ e).1 (Nat.not_le_of_lt (heap_lt' hg622))
   have two641 := two631.mono hk618.low
   have hr642 := oMn hr632 hk618.low
   clear two631 hr632
   clear hx621
   have hk625 := hk618.upto (Nat.le_refl _) hb627
   have hg643 := (hb627.block G602 (heap_lt' hg622)).trans hg622
   clear hg622
   refine hK.out _ _ (hk625) (fun zH => ?_)
   clear hK K hb627 hk618
   try simp only [Act.put, sA, sB, sC]
   refine tkY 5 (hy := by ((intro w hSw; go_simp) <;> with_reducible rfl)) (h := ?_)
   refine tkY 6 (hy := by ((intro w hSw; go_simp) <;> with_reducible rfl)) (h := ?_)
   refine tkY 7 (hy := by ((intro w hSw; go_simp) <;> with_reducible rfl)) (h := ?_)
   refine rd1 9 (fun K hK => ?_)
   obtain ⟨c0, c1⟩ := cell2 hg643
   obtain ⟨f0, f1⟩ := rfree2 hg643
   go_simp
   have hk649 := hk625.upto' hz604 (((Below.refl G602 v626).setCell (p := ⟨G602, 0, none⟩) (Nat.le_refl _) (.slice A633 N1 c634)).setCell (p := ⟨G602, 1, none⟩) (Nat.le_refl _) (.slice A635 N2 c636))
   have hput651 := rput2 (u0 := (.slice A633 N1 c634)) (u1 := (.slice A635 N2 c636)) hg643
   have two650 := (two641.put' (set_grown v626 G602 0 (.slice A633 N1 c634)) hn639 hn640).put' (set_grown _ G602 1 (.slice A635 N2 c636)) hn639 hn640
   have hr652 := oSk (i := 1) (u := (.slice A635 N2 c636)) (oSk (i := 0) (u := (.slice A633 N1 c634)) hr642 hg643 (by decide)) (zS0 hg643) (by decide)
   refine hK.out _ _ (hk649) (fun zH => ?_)
   clear hK K hk625 two641 hr642 hg643 c0 c1 f0 f1
   try simp only [Act.put, sA, sB, sC]
   refine tkY 10 (hy := by ((intro w hSw; go_simp) <;> with_reducible rfl)) (h := ?_)
   refine dn1 ?_
   go_wp2_with fail
   go_meet
   exact ⟨_, _, _, rfl, rfl, ⟨_, _, _, _, hput651, two650, hn639, hn640, hz604.low⟩, hr652, hk649⟩
 case rest =>
  clear hK0
  rename World => wa
  obtain ⟨G1, Rw, dw, rfl, rfl, ⟨Aw, cw, Av, cv, Wa, TWa, -, -, hbase1⟩, RWa, hK0⟩ := hcut
  have Ha := hK0.one
  have Oa := hK0.two
  have lHa := heap_lt' Ha
  have lOa := heap_lt' Oa
  have lWa := heap_lt' Wa
  have hla := hl0.later hK0.bel
  have hBa := ord_later hB0 hK0.bel
  obtain ⟨p0, p1⟩ := cell2 Ha
  clear hK0 hl0 hB0 H0 O0 hs0 HCS
  go_wp2_with fail
  refine (tBa A n c B m d za zb _ hla hnm).mono ?_
  rintro e w3 ⟨g3, f3, rfl, hg3, hf3, hgf3, hr3, hs3, hb3⟩
  have hx3 : BookIn w3 w3.heap.size (some ⟨g3, 0, none⟩) n (some ⟨f3, 0, none⟩) m za zb := ⟨Lst.of_row (sz := 4) (zs := za) (n := n) hr3 (Nat.le_refl _) hlA (fun _ _ => rfl), Lst.of_row (sz := 4) (zs := zb) (n := m) hs3 (Nat.le_refl _) hlB (fun _ _ => rfl)⟩
  have HR3 := Lib.hid hr3
  have HS3 := Lib.hid hs3
  have lg3 := hr3.lt
  have lf3 := hs3.lt
  have D3 := hb3
  have Ob := (hb3.block _ lOa).trans Oa
  clear hb3 hr3 hs3 p0 p1
  have hbb : Below w3.heap.size w3 (w3.alloc (.cells #[.slice (some ⟨g3, 0, none⟩) n n, .slice (some ⟨f3, 0, none⟩) m m] 30)) := (Below.refl _ _).alloc (Nat.le_refl _) _
  have Xb := heap_alloc_new w3 (.cells #[.slice (some ⟨g3, 0, none⟩) n n, .slice (some ⟨f3, 0, none⟩) m m] 30)
  have lX := heap_lt' Xb
  have Ob := (hbb.block _ (heap_lt' Ob)).trans Ob
  have Db := ord_later D3 hbb
  have hxb := hx3.later hbb
  have HR3 := Lib.hid (HR3.out.of_block (hbb.block g3 lg3))
  have HS3 := Lib.hid (HS3.out.of_block (hbb.block f3 lf3))
  have hwab : wa.heap.size ≤ (w3.alloc (.cells #[.slice (some ⟨g3, 0, none⟩) n n, .slice (some ⟨f3, 0, none⟩) m m] 30)).heap.size := Nat.le_trans D3.size hbb.size
  have lg3 := Nat.lt_of_lt_of_le lg3 hbb.size
  have lf3 := Nat.lt_of_lt_of_le lf3 hbb.size
  clear hx3 D3 hbb
  go_wp2_with fail
  generalize (w3.alloc (.cells #[.slice (some ⟨g3, 0, none⟩) n n, .slice (some ⟨f3, 0, none⟩) m m] 30)) = wb at *
  have hK0 : Keeps wb.heap.size wb [(w.heap.size + 1, (.cells #[.int .i64 kd, .int .i64 sy, .int .i64 ac, .int .i64 id, .int .i64 sd, .int .i64 pr, .int .i64 qt, .int .i64 md] 26)), (w3.heap.size, (.cells #[.slice (some ⟨g3, 0, none⟩) n n, .slice (some ⟨f3, 0, none⟩) m m] 30))] wb := ⟨Below.refl _ _, Nat.le_refl _, fun p hp => by
   simp only [List.mem_cons, List.not_mem_nil, or_false] at hp
   rcases hp with rfl | rfl
   · exact Ob
   · exact Xb⟩
  clear Ob
  go_upto_region 7 with fail
  go_cut [9, 10] (fun s9 s10 wx => ∃ G R3 d3, s9 = .pointer (some ⟨G, 0, none⟩) ∧ s10 = .slice R3 N3 d3 ∧ BoxRes wx wb.heap.size G N1 Z1 N2 Z2 ∧ wx.ownsRow wb.heap.size 48 8 (.slice R3 N3 d3) N3 (nums RR) ∧ Keeps wb.heap.size wb [(w.heap.size + 1, (.cells #[.int .i64 kd, .int .i64 sy, .int .i64 ac, .int .i64 id, .int .i64 sd, .int .i64 pr, .int .i64 qt, .int .i64 md] 26)), (w3.heap.size, (.cells #[.slice (some ⟨g3, 0, none⟩) n n, .slice (some ⟨f3, 0, none⟩) m m] 30))] wx)
  case first =>
   refine wp_region_held_drew (S := Keeps wb.heap.size wb [(w.heap.size + 1, (.cells #[.int .i64 kd, .int .i64 sy, .int .i64 ac, .int .i64 id, .int .i64 sd, .int .i64 pr, .int .i64 qt, .int .i64 md] 26)), (w3.heap.size, (.cells #[.slice (some ⟨g3, 0, none⟩) n n, .slice (some ⟨f3, 0, none⟩) m m] 30))]) (by kernel_rfl) ?hSr7 (fun zH => ?restr7)
   case hSr7 => exact hK0.drew
   replace hK0 := hK0.drew
   have hls := hxb
   clear zH
   generalize hw1s : wb.drew = w1s at hK0 ⊢
   clear hw1s
   refine tkY 0 (hy := by ((intro w hSw; obtain ⟨c0, c1⟩ := cell2 hSw.two; go_simp) <;> with_reducible rfl)) (h := ?_)
   refine tkY 1 (hy := by ((intro w hSw; obtain ⟨c0, c1, c2, c3, c4, c5, c6, c7⟩ := cmd_cell hSw.one; go_simp) <;> with_reducible rfl)) (h := ?_)
   refine wpAnyH_ready (rs := [2, 7]) (by kernel_rfl) (by simp) ?_
   refine AllReadyH.cons (o := ?or656_2) ?hor656_2 (fun K hK => ?stepr656_2) (AllReadyH.cons (o := ?or656_7) ?hor656_7 (fun K hK => ?stepr656_7) (AllReadyH.nil))
   case hor656_2 => simp only [gA, gB, gC]; exact rfl
   case hor656_7 => simp only [gA, gB, gC]; exact rfl
   case stepr656_2 =>
    go_simp
    refine (toCmd_any kd sy ac id sd pr qt md w1s).mono ?_
    rintro e v659 ⟨rfl, hb660⟩
    have hk658 := hK0.upto (Nat.le_refl _) hb660
    refine hK.out _ _ (hk658) (fun zH => ?_)
    clear hK K hb660 hK0
    try simp only [Act.put, sA, sB, sC]
    refine wpAnyH_ready (rs := [3, 7]) (by kernel_rfl) (by simp) ?_
    refine AllReadyH.cons (o := ?or661_3) ?hor661_3 (fun K hK => ?stepr661_3) (AllReadyH.cons (o := ?or661_7) ?hor661_7 (fun K hK => ?stepr661_7) (AllReadyH.nil))
    case hor661_3 => simp only [gA, gB, gC]; exact rfl
    case hor661_7 => simp only [gA, gB, gC]; exact rfl
    case stepr661_3 =>
     go_simp
     refine (HCI.out v659 g3 f3 (hxb.later hk658.bel) (ord_later (ord_later hBa Db) hk658.bel)).mono ?_
     rintro e v664 ⟨⟨r666, r667, r668, rfl, two669, hr670⟩, hb665⟩
     obtain ⟨A671, c672, A673, c674, rfl, rfl⟩ := two669.slices
     obtain ⟨A675, c676, rfl, -, -⟩ := oSl hr670
     have two679 := two669.mono hk658.low
     have hr680 := oMn hr670 hk658.low
     clear two669 hr670
     have hk663 := hk658.upto (Nat.le_refl _) hb665
     refine hK.out _ _ (hk663) (fun zH => ?_)
     clear hK K hb665 hk658
     try simp only [Act.put, sA, sB, sC]
     refine tkY 4 (hy := by ((intro w hSw; go_simp) <;> with_reducible rfl)) (h := ?_)
     refine tkY 5 (hy := by ((intro w hSw; go_simp) <;> with_reducible rfl)) (h := ?_)
     refine tkY 6 (hy := by ((intro w hSw; go_simp) <;> with_reducible rfl)) (h := ?_)
     refine rd1 7 (fun K hK => ?_)
     go_simp
     have hk686 := hk663.upto (Nat.le_refl _) ((Below.refl _ _).alloc (Nat.le_refl _) (.cells #[.slice none 0 0, .slice none 0 0] 30))
     have hg689 := heap_alloc_new v664 (.cells #[.slice none 0 0, .slice none 0 0] 30)
     have hz690 := hk663.lo
     have hn692 : (Value.slice A671 N1 c672).ownBlock = some v664.heap.size → False := fun e => absurd (two679.one.lt _ e).2 (Nat.lt_irrefl _)
     have hn693 : (Value.slice A673 N2 c674).ownBlock = some v664.heap.size → False := fun e => absurd (two679.two.lt _ e).2 (Nat.lt_irrefl _)
     have two691 := two679.alloc (.cells #[.slice none 0 0, .slice none 0 0] 30)
     have hr694 := hr680.alloc (.cells #[.slice none 0 0, .slice none 0 0] 30)
     clear two679 hr680
     refine hK.out _ _ (hk686) (fun zH => ?_)
     clear hK K hk663
     try simp only [Act.put, sA, sB, sC]
     generalize v664.alloc (.cells #[.slice none 0 0, .slice none 0 0] 30) = v687 at *
     generalize v664.heap.size = G688 at *
     refine rd1 8 (fun K hK => ?_)
     obtain ⟨c0, c1⟩ := cell2 hg689
     obtain ⟨f0, f1⟩ := rfree2 hg689
     go_simp
     have hk697 := hk686.upto' hz690 (((Below.refl G688 v687).setCell (p := ⟨G688, 0, none⟩) (Nat.le_refl _) (.slice A671 N1 c672)).setCell (p := ⟨G688, 1, none⟩) (Nat.le_refl _) (.slice A673 N2 c674))
     have hput699 := rput2 (u0 := (.slice A671 N1 c672)) (u1 := (.slice A673 N2 c674)) hg689
     have two698 := (two691.put' (set_grown v687 G688 0 (.slice A671 N1 c672)) hn692 hn693).put' (set_grown _ G688 1 (.slice A673 N2 c674)) hn692 hn693
     have hr700 := oSk (i := 1) (u := (.slice A673 N2 c674)) (oSk (i := 0) (u := (.slice A671 N1 c672)) hr694 hg689 (by decide)) (zS0 hg689) (by decide)
     refine hK.out _ _ (hk697) (fun zH => ?_)
     clear hK K hk686 two691 hr694 hg689 c0 c1 f0 f1
     try simp only [Act.put, sA, sB, sC]
     refine tkY 9 (hy := by ((intro w hSw; go_simp) <;> with_reducible rfl)) (h := ?_)
     refine dn1 ?_
     go_wp2_with fail
     go_meet
     exact ⟨_, _, _, rfl, rfl, ⟨_, _, _, _, hput699, two698, hn692, hn693, hz690.low⟩, hr700, hk697⟩
    case stepr661_7 =>
     go_simp
     have hk703 := hk658.upto (Nat.le_refl _) ((Below.refl _ _).alloc (Nat.le_refl _) (.cells #[.slice none 0 0, .slice none 0 0] 30))
     have hg706 := heap_alloc_new v659 (.cells #[.slice none 0 0, .slice none 0 0] 30)
     have hz707 := hk658.lo
     refine hK.out _ _ (hk703) (fun zH => ?_)
     clear hK K hk658
     try simp only [Act.put, sA, sB, sC]
     generalize v659.alloc (.cells #[.slice none 0 0, .slice none 0 0] 30) = v704 at *
     generalize v659.heap.size = G705 at *
     refine rd1 3 (fun K hK => ?_)
     go_simp
     refine (HCI.out v704 g3 f3 (hxb.later hk703.bel) (ord_later (ord_later hBa Db) hk703.bel)).mono ?_
     rintro e v711 ⟨⟨r713, r714, r715, rfl, two716, hr717⟩, hb712⟩
     obtain ⟨A718, c719, A720, c721, rfl, rfl⟩ := two716.slices
     obtain ⟨A722, c723, rfl, -, -⟩ := oSl hr717
     have hn724 : (Value.slice A718 N1 c719).ownBlock = some G705 → False := fun e => absurd (two716.one.lt _ e).1 (Nat.not_le_of_lt (heap_lt' hg706))
     have hn725 : (Value.slice A720 N2 c721).ownBlock = some G705 → False := fun e => absurd (two716.two.lt _ e).1 (Nat.not_le_of_lt (heap_lt' hg706))
     have two726 := two716.mono hk703.low
     have hr727 := oMn hr717 hk703.low
     clear two716 hr717
     have hk710 := hk703.upto (Nat.le_refl _) hb712
     have hg728 := (hb712.block G705 (heap_lt' hg706)).trans hg706
     clear hg706
     refine hK.out _ _ (hk710) (fun zH => ?_)
     clear hK K hb712 hk703
     try simp only [Act.put, sA, sB, sC]
     refine tkY 4 (hy := by ((intro w hSw; go_simp) <;> with_reducible rfl)) (h := ?_)
     refine tkY 5 (hy := by ((intro w hSw; go_simp) <;> with_reducible rfl)) (h := ?_)
     refine tkY 6 (hy := by ((intro w hSw; go_simp) <;> with_reducible rfl)) (h := ?_)
     refine rd1 8 (fun K hK => ?_)
     obtain ⟨c0, c1⟩ := cell2 hg728
     obtain ⟨f0, f1⟩ := rfree2 hg728
     go_simp
     have hk734 := hk710.upto' hz707 (((Below.refl G705 v711).setCell (p := ⟨G705, 0, none⟩) (Nat.le_refl _) (.slice A718 N1 c719)).setCell (p := ⟨G705, 1, none⟩) (Nat.le_refl _) (.slice A720 N2 c721))
     have hput736 := rput2 (u0 := (.slice A718 N1 c719)) (u1 := (.slice A720 N2 c721)) hg728
     have two735 := (two726.put' (set_grown v711 G705 0 (.slice A718 N1 c719)) hn724 hn725).put' (set_grown _ G705 1 (.slice A720 N2 c721)) hn724 hn725
     have hr737 := oSk (i := 1) (u := (.slice A720 N2 c721)) (oSk (i := 0) (u := (.slice A718 N1 c719)) hr727 hg728 (by decide)) (zS0 hg728) (by decide)
     refine hK.out _ _ (hk734) (fun zH => ?_)
     clear hK K hk710 two726 hr727 hg728 c0 c1 f0 f1
     try simp only [Act.put, sA, sB, sC]
     refine tkY 9 (hy := by ((intro w hSw; go_simp) <;> with_reducible rfl)) (h := ?_)
     refine dn1 ?_
     go_wp2_with fail
     go_meet
     exact ⟨_, _, _, rfl, rfl, ⟨_, _, _, _, hput736, two735, hn724, hn725, hz707.low⟩, hr737, hk734⟩
   case stepr656_7 =>
    go_simp
    have hk740 := hK0.upto (Nat.le_refl _) ((Below.refl _ _).alloc (Nat.le_refl _) (.cells #[.slice none 0 0, .slice none 0 0] 30))
    have hg743 := heap_alloc_new w1s (.cells #[.slice none 0 0, .slice none 0 0] 30)
    have hz744 := hK0.lo
    refine hK.out _ _ (hk740) (fun zH => ?_)
    clear hK K hK0
    try simp only [Act.put, sA, sB, sC]
    generalize w1s.alloc (.cells #[.slice none 0 0, .slice none 0 0] 30) = v741 at *
    generalize w1s.heap.size = G742 at *
    refine rd1 2 (fun K hK => ?_)
    go_simp
    refine (toCmd_any kd sy ac id sd pr qt md v741).mono ?_
    rintro e v748 ⟨rfl, hb749⟩
    have hk747 := hk740.upto (Nat.le_refl _) hb749
    have hg750 := (hb749.block G742 (heap_lt' hg743)).trans hg743
    clear hg743
    refine hK.out _ _ (hk747) (fun zH => ?_)
    clear hK K hb749 hk740
    try simp only [Act.put, sA, sB, sC]
    refine rd1 3 (fun K hK => ?_)
    go_simp
    refine (HCI.out v748 g3 f3 (hxb.later hk747.bel) (ord_later (ord_later hBa Db) hk747.bel)).mono ?_
    rintro e v754 ⟨⟨r756, r757, r758, rfl, two759, hr760⟩, hb755⟩
    obtain ⟨A761, c762, A763, c764, rfl, rfl⟩ := two759.slices
    obtain ⟨A765, c766, rfl, -, -⟩ := oSl hr760
    have hn767 : (Value.slice A761 N1 c762).ownBlock = some G742 → False := fun e => absurd (two759.one.lt _ e).1 (Nat.not_le_of_lt (heap_lt' hg750))
    have hn768 : (Value.slice A763 N2 c764).ownBlock = some G742 → False := fun e => absurd (two759.two.lt _ e).1 (Nat.not_le_of_lt (heap_lt' hg750))
    have two769 := two759.mono hk747.low
    have hr770 := oMn hr760 hk747.low
    clear two759 hr760
    have hk753 := hk747.upto (Nat.le_refl _) hb755
    have hg771 := (hb755.block G742 (heap_lt' hg750)).trans hg750
    clear hg750
    refine hK.out _ _ (hk753) (fun zH => ?_)
    clear hK K hb755 hk747
    try simp only [Act.put, sA, sB, sC]
    refine tkY 4 (hy := by ((intro w hSw; go_simp) <;> with_reducible rfl)) (h := ?_)
    refine tkY 5 (hy := by ((intro w hSw; go_simp) <;> with_reducible rfl)) (h := ?_)
    refine tkY 6 (hy := by ((intro w hSw; go_simp) <;> with_reducible rfl)) (h := ?_)
    refine rd1 8 (fun K hK => ?_)
    obtain ⟨c0, c1⟩ := cell2 hg771
    obtain ⟨f0, f1⟩ := rfree2 hg771
    go_simp
    have hk777 := hk753.upto' hz744 (((Below.refl G742 v754).setCell (p := ⟨G742, 0, none⟩) (Nat.le_refl _) (.slice A761 N1 c762)).setCell (p := ⟨G742, 1, none⟩) (Nat.le_refl _) (.slice A763 N2 c764))
    have hput779 := rput2 (u0 := (.slice A761 N1 c762)) (u1 := (.slice A763 N2 c764)) hg771
    have two778 := (two769.put' (set_grown v754 G742 0 (.slice A761 N1 c762)) hn767 hn768).put' (set_grown _ G742 1 (.slice A763 N2 c764)) hn767 hn768
    have hr780 := oSk (i := 1) (u := (.slice A763 N2 c764)) (oSk (i := 0) (u := (.slice A761 N1 c762)) hr770 hg771 (by decide)) (zS0 hg771) (by decide)
    refine hK.out _ _ (hk777) (fun zH => ?_)
    clear hK K hk753 two769 hr770 hg771 c0 c1 f0 f1
    try simp only [Act.put, sA, sB, sC]
    refine tkY 9 (hy := by ((intro w hSw; go_simp) <;> with_reducible rfl)) (h := ?_)
    refine dn1 ?_
    go_wp2_with fail
    go_meet
    exact ⟨_, _, _, rfl, rfl, ⟨_, _, _, _, hput779, two778, hn767, hn768, hz744.low⟩, hr780, hk777⟩
  case rest =>
   clear hK0
   obtain ⟨G2, Rg, dg, rfl, rfl, ⟨Ag, cg, Ah, ch, Gc, TGc, hGa', hGb', hw4⟩, RGc, hK0⟩ := hcut
   have hGa : some G2 ≠ (Value.slice Ag N1 cg).ownBlock := fun e => hGa' e.symm
   have hGb : some G2 ≠ (Value.slice Ah N2 ch).ownBlock := fun e => hGb' e.symm
   have lGc := heap_lt' Gc
   have Xc := hK0.two
   have lXc := heap_lt' Xc
   have hxc := hxb.later hK0.bel
   have Dc := ord_later Db hK0.bel
   have Ec := hK0.bel
   have Wc := (Dc.block _ lWa).trans Wa
   have TWc := TWa.below Dc
   have RWc := oBw RWa Dc
   have hap1 := mt_apart TGc.one RGc (by decide)
   have hap2 := mt_apart TGc.two RGc (by decide)
   have hGr : some G2 ≠ (Value.slice Rg N3 dg).ownBlock := fun e => by
    obtain ⟨c1, f1, g1⟩ := Lib.ownsRow_kind RGc _ e.symm
    rw [Gc] at g1
    injection g1 with g1
    injection g1 with _ g1
    exact absurd g1 (by decide)
   clear hK0 hxb Db Xb hGa' hGb' lX
   obtain ⟨q0, q1⟩ := cell2 Gc
   obtain ⟨r0, r1⟩ := cell2 Wc
   go_wp2_with fail
   refine (eqBook_same _ _ _ _ N1 N2 _ _ _ _ Z1 Z2 wc TGc.bookIn TWc.bookIn hN1 hN2).mono ?_
   rintro e wd ⟨rfl, hbd⟩
   have RGd := oBw RGc hbd
   have RWd := oBw RWc hbd
   go_wp2_with fail
   refine (eqRecS_same _ _ N3 _ _ RR wd (Lst.of_own RGd) (Lst.of_own RWd) hN3).mono ?_
   rintro e w5 ⟨rfl, hbt⟩
   have hb5 : Below wc.heap.size wc w5 := hbd.trans (hbt.mono hbd.size)
   clear hbd hbt RGd RWd RWc
   have D5 := ord_later Dc hb5
   have E5 := ord_later Ec hb5
   have TG5 := TGc.below hb5
   have RG5 := oBw RGc hb5
   clear RGc
   have X5 := (hb5.block _ lXc).trans Xc
   have G5 := (hb5.block _ lGc).trans Gc
   have H5 := (D5.block _ lHa).trans Ha
   have hx5 := hxc.later hb5
   have hl5 := hla.later D5
   have lX := Nat.lt_of_lt_of_le lXc hb5.size
   have lG := Nat.lt_of_lt_of_le lGc hb5.size
   have lg3b : g3 < wb.heap.size := lg3
   have lf3b : f3 < wb.heap.size := lf3
   clear Dc Ec TGc Xc Gc hxc hb5 Wc TWc q0 q1 r0 r1 lXc lGc
   obtain ⟨p0, p1⟩ := cell2 H5
   obtain ⟨q0, q1⟩ := cell2 X5
   have hd5 : Below w5.heap.size w5 w5.drew := (Below.refl _ _).drew
   have hl5d := hl5.later hd5
   have hx5d := hx5.later hd5
   clear hl5 hx5
   go_upto_region 10 with fail
   refine wp_region_held_drew (S := (fun w' => Below w5.heap.size w5 w' ∧ w'.cell? ⟨w.heap.size, 0, none⟩ = some (.slice A n c) ∧ w'.cell? ⟨w.heap.size, 1, none⟩ = some (.slice B m d) ∧ w'.cell? ⟨w3.heap.size, 0, none⟩ = some (.slice (some ⟨g3, 0, none⟩) n n) ∧ w'.cell? ⟨w3.heap.size, 1, none⟩ = some (.slice (some ⟨f3, 0, none⟩) m m))) (by kernel_rfl) ?hSq2xs (fun zH => ?restq2xs)
   case hSq2xs => (exact kp2)
   refine tkV 0 ?_
   refine tkV 1 ?_
   refine rd1 2 (fun K hK => ?_)
   go_simp
   (go_at_call 6; refine (tBa A n c B m d za zb _ hl5d hnm).mono ?_; rintro e w6 ⟨g6, f6, rfl, _, _, _, hr6, hs6, hb6⟩; have hx6 : BookIn w6 w6.heap.size (some ⟨g6, 0, none⟩) n (some ⟨f6, 0, none⟩) m za zb := ⟨Lst.of_row (sz := 4) (zs := za) (n := n) hr6 (Nat.le_refl _) hlA (fun _ _ => rfl), Lst.of_row (sz := 4) (zs := zb) (n := m) hs6 (Nat.le_refl _) hlB (fun _ _ => rfl)⟩)
   refine hK.out _ _ ?hSq2x3 (fun zH => ?restq2x3)
   case hSq2x3 => (exact kp2)
   clear hK K
   try simp only [Act.put, sA, sB, sC]
   refine rd1 3 (fun K hK => ?_)
   go_simp
   (go_at_call 9; refine (eqBook_same _ _ _ _ n m _ _ _ _ za zb w6 (hx5d.later hb6) hx6 hn1 hm1).mono ?_; rintro e w7 ⟨rfl, hb7⟩)
   refine hK.out _ _ ?hSq2x4 (fun zH => ?restq2x4)
   case hSq2x4 => (exact kp2)
   clear hK K
   try simp only [Act.put, sA, sB, sC]
   refine tkV 4 ?_
   refine dn1 ?_
   obtain ⟨hb7, -, -, -, -⟩ := zH
   have hsz7 := hb7.size
   have D7 := ord_later D5 hb7
   have E7 := ord_later E5 hb7
   have X7 := (hb7.block _ lX).trans X5
   have G7 := (hb7.block _ lG).trans G5
   have TG7 := TG5.below hb7
   have RG7 := oBw RG5 hb7
   clear RG5
   obtain ⟨q0, q1⟩ := cell2 X7
   clear hb7
   go_wp2_with fail
   have hr7 := HR3.out.of_block (E7.block g3 lg3)
   have hs7 := HS3.out.of_block (E7.block f3 lf3)
   refine (markBook_any g3 f3 n n m m (n * 4) (m * 4) _ ⟨_, hr7⟩ ⟨_, hs7⟩ hgf3 (Nat.le_refl _) (Nat.le_refl _) hn1 hm1).mono ?_
   rintro e w8 ⟨⟨k, hk, rfl⟩, o, wm, hga, hgb⟩
   have hszm := hga.size
   have D8 := ((D7.alloc D7.size o).grown hga (Nat.le_trans D7.size (by simp)) (fun q hq => by cases hq; exact hg3)).grown hgb (Nat.le_trans (Nat.le_trans D7.size (by simp)) hszm) (fun q hq => by cases hq; exact hf3)
   have TG8 := ((TG7.alloc o).kept hga lg3b).kept hgb lf3b
   have RG8 := own_keptlt (own_keptlt (RG7.alloc o) hga lg3b) hgb lf3b
   clear RG7
   have G8 := (hgb.block _ (by simp at hszm; omega) (fun e => by injection e with e; omega)).trans ((hga.block _ (by simp; omega) (fun e => by injection e with e; omega)).trans ((Below.heap_alloc _ o _ (by omega)).trans G7))
   have lG8 : G2 < w8.heap.size := by have := hgb.size; simp at hszm; omega
   have hk0 : decide (k < 0) = false := decide_eq_false (by omega)
   have W8 := (D8.block _ lWa).trans Wa
   have TW8 := TWa.below D8
   clear hga hgb hszm hr7 hs7 q0 q1 X7 G7 TG7 E7
   obtain ⟨q0, q1⟩ := cell2 G8
   obtain ⟨r0, r1⟩ := cell2 W8
   go_wp2_with fail
   refine (eqBook_same _ _ _ _ N1 N2 _ _ _ _ Z1 Z2 w8 TG8.bookIn TW8.bookIn hN1 hN2).mono ?_
   rintro e wd ⟨rfl, hbd⟩
   have RGd := oBw RG8 hbd
   have RWd := oBw RWa (ord_later D8 hbd)
   go_wp2_with fail
   refine (eqRecS_same _ _ N3 _ _ RR wd (Lst.of_own RGd) (Lst.of_own RWd) hN3).mono ?_
   rintro e w9 ⟨rfl, hbt⟩
   have hb9 := hbd.trans (hbt.mono hbd.size)
   have RG9 := oBw RG8 hb9
   clear hbd hbt RGd RWd RG8
   have D9 := ord_later D8 hb9
   have TG9 := TG8.below hb9
   have G9 := (hb9.block _ lG8).trans G8
   have lG9 := Nat.lt_of_lt_of_le lG8 hb9.size
   clear TW8 D8 hb9 TG8 G8 W8 q0 q1 r0 r1
   obtain ⟨q0, q1⟩ := cell2 G9
   go_wp2_with fail
   refine (markBook_own wb.heap.size _ _ _ _ N1 N2 Z1 Z2 w9 TG9 hN1 hN2).mono ?_
   rintro e wk ⟨rfl, Mk, hbel, hblk⟩
   have Dk := hbel _ _ D9 hwab D9.size
   have Gk := (hblk _ lG9 hGa hGb).trans G9
   have lGk : G2 < wk.heap.size := heap_lt' Gk
   have RGk := own_blocks RG9 (fun q hq => hblk q (RG9.lt q hq).2 (fun e => hap1 q e.symm hq) (fun e => hap2 q e.symm hq))
   clear hbel hblk G9 lG9 D9 TG9 RG9 q0 q1
   have hct : ((N2 * 4 + (N1 * 4 + 1) : Nat) : Int) = (N2 : Int) * 4 + ((N1 : Int) * 4 + 1) := by omega
   have hmr := markRecS_anyFrom wb.heap.size (N2 * 4 + (N1 * 4 + 1)) _ N3 _ wk RGk hN3 (by omega)
   rw [hct] at hmr
   have HMR := Lib.hid hmr
   have HCT := Lib.hid hct
   clear hmr hct
   go_wp2_with fail
   refine (HMR.out).mono ?_
   rintro e w10 ⟨rfl, MR10, hgR⟩
   have D10 := Dk.grown hgR Dk.size (fun q hq => Nat.le_trans hwab (RGk.lt q hq).1)
   have G10 := (hgR.block _ lGk hGr).trans Gk
   have M10 : MarkedTwo w10 (.slice Ag N1 cg) N1 (.slice Ah N2 ch) N2 := ⟨Mk.1.apart hgR hap1, Mk.2.apart hgR hap2⟩
   have lG10 : G2 < w10.heap.size := heap_lt' G10
   clear HMR hgR Gk lGk Mk Dk RGk
   have ht0 : decide ((N2 : Int) * 4 + ((N1 : Int) * 4 + 1) < 0) = false := decide_eq_false (by omega)
   obtain ⟨q0, q1⟩ := cell2 G10
   go_wp2_with fail
   refine (heldBook_own _ _ _ _ N1 N2 w10 M10 hN1 hN2).mono ?_
   rintro e w11 ⟨rfl, hb11⟩
   have D11 := ord_later D10 hb11
   have G11 := (hb11.block _ lG10).trans G10
   have M11 := M10.below hb11
   have MR11 := MR10.below hb11
   clear MR10
   have lG11 := Nat.lt_of_lt_of_le lG10 hb11.size
   have H11 := (D11.block _ lHa).trans Ha
   have hl11 := hla.later D11
   clear D10 G10 M10 lG10 hb11 q0 q1
   have ht1 : decide ((N3 : Int) * 8 + ((N2 : Int) * 4 + ((N1 : Int) * 4 + 1)) < 0) = false := decide_eq_false (by omega)
   have hmr := heldRecS_anyFrom (N2 * 4 + (N1 * 4 + 1)) _ N3 w11 MR11 hN3 (by omega)
   rw [HCT.out] at hmr
   have HMR := Lib.hid hmr
   clear hmr
   go_wp2_with fail
   refine ((HMR.out).mono (fun e w' h => (⟨h.1, h.2.symm⟩ : _ ∧ _))).mono ?_
   rintro e _ ⟨rfl, rfl⟩
   clear HMR
   obtain ⟨p0, p1⟩ := cell2 H11
   have O11 := (D11.block _ lOa).trans Oa
   have hK0 : Keeps w11.heap.size w11 [(w.heap.size, (.cells #[.slice A n c, .slice B m d] 24)), (w.heap.size + 1, (.cells #[.int .i64 kd, .int .i64 sy, .int .i64 ac, .int .i64 id, .int .i64 sd, .int .i64 pr, .int .i64 qt, .int .i64 md] 26))] w11 := ⟨Below.refl _ _, Nat.le_refl _, fun p hp => by
    simp only [List.mem_cons, List.not_mem_nil, or_false] at hp
    rcases hp with rfl | rfl
    · exact H11
    · exact O11⟩
   clear O11
   go_wp2_with fail
   go_upto_region 28 with fail
   go_cut [14, 15] (fun s14 s15 wx => ∃ G R3 d3, s14 = .pointer (some ⟨G, 0, none⟩) ∧ s15 = .slice R3 N3 d3 ∧ BoxRes wx w11.heap.size G N1 Z1 N2 Z2 ∧ wx.ownsRow w11.heap.size 48 8 (.slice R3 N3 d3) N3 (nums RR) ∧ Keeps w11.heap.size w11 [(w.heap.size, (.cells #[.slice A n c, .slice B m d] 24)), (w.heap.size + 1, (.cells #[.int .i64 kd, .int .i64 sy, .int .i64 ac, .int .i64 id, .int .i64 sd, .int .i64 pr, .int .i64 qt, .int .i64 md] 26))] wx)
   case first =>
    refine wp_region_held_drew (S := Keeps w11.heap.size w11 [(w.heap.size, (.cells #[.slice A n c, .slice B m d] 24)), (w.heap.size + 1, (.cells #[.int .i64 kd, .int .i64 sy, .int .i64 ac, .int .i64 id, .int .i64 sd, .int .i64 pr, .int .i64 qt, .int .i64 md] 26))]) (by kernel_rfl) ?hSr28 (fun zH => ?restr28)
    case hSr28 => exact hK0.drew
    replace hK0 := hK0.drew
    have hls := hl11
    clear zH
    generalize hw1s : w11.drew = w1s at hK0 ⊢
    clear hw1s
    refine tkY 0 (hy := by ((intro w hSw; obtain ⟨c0, c1⟩ := cell2 hSw.one; go_simp) <;> with_reducible rfl)) (h := ?_)
    refine tkY 2 (hy := by ((intro w hSw; obtain ⟨c0, c1, c2, c3, c4, c5, c6, c7⟩ := cmd_cell hSw.two; go_simp) <;> with_reducible rfl)) (h := ?_)
    refine wpAnyH_ready (rs := [1, 8]) (by kernel_rfl) (by simp) ?_
    refine AllReadyH.cons (o := ?or784_1) ?hor784_1 (fun K hK => ?stepr784_1) (AllReadyH.cons (o := ?or784_8) ?hor784_8 (fun K hK => ?stepr784_8) (AllReadyH.nil))
    case hor784_1 => simp only [gA, gB, gC]; exact rfl
    case hor784_8 => simp only [gA, gB, gC]; exact rfl
    case stepr784_1 =>
     go_simp
     refine (tBa A n c B m d za zb w1s (hls.later hK0.bel) hnm).mono ?_
     rintro e v787 ⟨g789, f790, rfl, _, _, _, hr791, hs792, hb788⟩
     have hx793 : BookIn v787 v787.heap.size (some ⟨g789, 0, none⟩) n (some ⟨f790, 0, none⟩) m za zb := ⟨Lst.of_row (sz := 4) (zs := za) (n := n) hr791 (Nat.le_refl _) hlA (fun _ _ => rfl), Lst.of_row (sz := 4) (zs := zb) (n := m) hs792 (Nat.le_refl _) hlB (fun _ _ => rfl)⟩
     clear hr791 hs792
     have hk786 := hK0.upto (Nat.le_refl _) hb788
     refine hK.out _ _ (hk786) (fun zH => ?_)
     clear hK K hb788 hK0
     try simp only [Act.put, sA, sB, sC]
     refine wpAnyH_ready (rs := [3, 8]) (by kernel_rfl) (by simp) ?_
     refine AllReadyH.cons (o := ?or794_3) ?hor794_3 (fun K hK => ?stepr794_3) (AllReadyH.cons (o := ?or794_8) ?hor794_8 (fun K hK => ?stepr794_8) (AllReadyH.nil))
     case hor794_3 => simp only [gA, gB, gC]; exact rfl
     case hor794_8 => simp only [gA, gB, gC]; exact rfl
     case stepr794_3 =>
      go_simp
      refine (toCmd_any kd sy ac id sd pr qt md v787).mono ?_
      rintro e v797 ⟨rfl, hb798⟩
      have hx799 := hx793.later hb798
      clear hx793
      have hk796 := hk786.upto (Nat.le_refl _) hb798
      refine hK.out _ _ (hk796) (fun zH => ?_)
      clear hK K hb798 hk786
      try simp only [Act.put, sA, sB, sC]
      refine wpAnyH_ready (rs := [4, 8]) (by kernel_rfl) (by simp) ?_
      refine AllReadyH.cons (o := ?or800_4) ?hor800_4 (fun K hK => ?stepr800_4) (AllReadyH.cons (o := ?or800_8) ?hor800_8 (fun K hK => ?stepr800_8) (AllReadyH.nil))
      case hor800_4 => simp only [gA, gB, gC]; exact rfl
      case hor800_8 => simp only [gA, gB, gC]; exact rfl
      case stepr800_4 =>
       go_simp
       refine (HCI.out v797 g789 f790 hx799 (ord_later (ord_later hBa D11) hk796.bel)).mono ?_
       rintro e v803 ⟨⟨r805, r806, r807, rfl, two808, hr809⟩, hb804⟩
       obtain ⟨A810, c811, A812, c813, rfl, rfl⟩ := two808.slices
       obtain ⟨A814, c815, rfl, -, -⟩ := oSl hr809
       have two818 := two808.mono hk796.low
       have hr819 := oMn hr809 hk796.low
       clear two808 hr809
       clear hx799
       have hk802 := hk796.upto (Nat.le_refl _) hb804
       refine hK.out _ _ (hk802) (fun zH => ?_)
       clear hK K hb804 hk796
       try simp only [Act.put, sA, sB, sC]
       refine tkY 5 (hy := by ((intro w hSw; go_simp) <;> with_reducible rfl)) (h := ?_)
       refine tkY 6 (hy := by ((intro w hSw; go_simp) <;> with_reducible rfl)) (h := ?_)
       refine tkY 7 (hy := by ((intro w hSw; go_simp) <;> with_reducible rfl)) (h := ?_)
       refine rd1 8 (fun K hK => ?_)
       go_simp
       have hk825 := hk802.upto (Nat.le_refl _) ((Below.refl _ _).alloc (Nat.le_refl _) (.cells #[.slice none 0 0, .slice none 0 0] 30))
       have hg828 := heap_alloc_new v803 (.cells #[.slice none 0 0, .slice none 0 0] 30)
       have hz829 := hk802.lo
       have hn831 : (Value.slice A810 N1 c811).ownBlock = some v803.heap.size → False := fun e => absurd (two818.one.lt _ e).2 (Nat.lt_irrefl _)
       have hn832 : (Value.slice A812 N2 c813).ownBlock = some v803.heap.size → False := fun e => absurd (two818.two.lt _ e).2 (Nat.lt_irrefl _)
       have two830 := two818.alloc (.cells #[.slice none 0 0, .slice none 0 0] 30)
       have hr833 := hr819.alloc (.cells #[.slice none 0 0, .slice none 0 0] 30)
       clear two818 hr819
       refine hK.out _ _ (hk825) (fun zH => ?_)
       clear hK K hk802
       try simp only [Act.put, sA, sB, sC]
       generalize v803.alloc (.cells #[.slice none 0 0, .slice none 0 0] 30) = v826 at *
       generalize v803.heap.size = G827 at *
       refine rd1 9 (fun K hK => ?_)
       obtain ⟨c0, c1⟩ := cell2 hg828
       obtain ⟨f0, f1⟩ := rfree2 hg828
       go_simp
       have hk836 := hk825.upto' hz829 (((Below.refl G827 v826).setCell (p := ⟨G827, 0, none⟩) (Nat.le_refl _) (.slice A810 N1 c811)).setCell (p := ⟨G827, 1, none⟩) (Nat.le_refl _) (.slice A812 N2 c813))
       have hput838 := rput2 (u0 := (.slice A810 N1 c811)) (u1 := (.slice A812 N2 c813)) hg828
       have two837 := (two830.put' (set_grown v826 G827 0 (.slice A810 N1 c811)) hn831 hn832).put' (set_grown _ G827 1 (.slice A812 N2 c813)) hn831 hn832
       have hr839 := oSk (i := 1) (u := (.slice A812 N2 c813)) (oSk (i := 0) (u := (.slice A810 N1 c811)) hr833 hg828 (by decide)) (zS0 hg828) (by decide)
       refine hK.out _ _ (hk836) (fun zH => ?_)
       clear hK K hk825 two830 hr833 hg828 c0 c1 f0 f1
       try simp only [Act.put, sA, sB, sC]
       refine tkY 10 (hy := by ((intro w hSw; go_simp) <;> with_reducible rfl)) (h := ?_)
       refine dn1 ?_
       go_wp2_with fail
       go_meet
       exact ⟨_, _, _, rfl, rfl, ⟨_, _, _, _, hput838, two837, hn831, hn832, hz829.low⟩, hr839, hk836⟩
      case stepr800_8 =>
       go_simp
       have hk842 := hk796.upto (Nat.le_refl _) ((Below.refl _ _).alloc (Nat.le_refl _) (.cells #[.slice none 0 0, .slice none 0 0] 30))
       have hg845 := heap_alloc_new v797 (.cells #[.slice none 0 0, .slice none 0 0] 30)
       have hz846 := hk796.lo
       have hx847 := hx799.later ((Below.refl _ _).alloc (Nat.le_refl _) (.cells #[.slice none 0 0, .slice none 0 0] 30))
       clear hx799
       refine hK.out _ _ (hk842) (fun zH => ?_)
       clear hK K hk796
       try simp only [Act.put, sA, sB, sC]
       generalize v797.alloc (.cells #[.slice none 0 0, .slice none 0 0] 30) = v843 at *
       generalize v797.heap.size = G844 at *
       refine rd1 4 (fun K hK => ?_)
       go_simp
       refine (HCI.out v843 g789 f790 hx847 (ord_later (ord_later hBa D11) hk842.bel)).mono ?_
       rintro e v851 ⟨⟨r853, r854, r855, rfl, two856, hr857⟩, hb852⟩
       obtain ⟨A858, c859, A860, c861, rfl, rfl⟩ := two856.slices
       obtain ⟨A862, c863, rfl, -, -⟩ := oSl hr857
       have hn864 : (Value.slice A858 N1 c859).ownBlock = some G844 → False := fun e => absurd (two856.one.lt _ e).1 (Nat.not_le_of_lt (heap_lt' hg845))
       have hn865 : (Value.slice A860 N2 c861).ownBlock = some G844 → False := fun e => absurd (two856.two.lt _ e).1 (Nat.not_le_of_lt (heap_lt' hg845))
       have two866 := two856.mono hk842.low
       have hr867 := oMn hr857 hk842.low
       clear two856 hr857
       clear hx847
       have hk850 := hk842.upto (Nat.le_refl _) hb852
       have hg868 := (hb852.block G844 (heap_lt' hg845)).trans hg845
       clear hg845
       refine hK.out _ _ (hk850) (fun zH => ?_)
       clear hK K hb852 hk842
       try simp only [Act.put, sA, sB, sC]
       refine tkY 5 (hy := by ((intro w hSw; go_simp) <;> with_reducible rfl)) (h := ?_)
       refine tkY 6 (hy := by ((intro w hSw; go_simp) <;> with_reducible rfl)) (h := ?_)
       refine tkY 7 (hy := by ((intro w hSw; go_simp) <;> with_reducible rfl)) (h := ?_)
       refine rd1 9 (fun K hK => ?_)
       obtain ⟨c0, c1⟩ := cell2 hg868
       obtain ⟨f0, f1⟩ := rfree2 hg868
       go_simp
       have hk874 := hk850.upto' hz846 (((Below.refl G844 v851).setCell (p := ⟨G844, 0, none⟩) (Nat.le_refl _) (.slice A858 N1 c859)).setCell (p := ⟨G844, 1, none⟩) (Nat.le_refl _) (.slice A860 N2 c861))
       have hput876 := rput2 (u0 := (.slice A858 N1 c859)) (u1 := (.slice A860 N2 c861)) hg868
       have two875 := (two866.put' (set_grown v851 G844 0 (.slice A858 N1 c859)) hn864 hn865).put' (set_grown _ G844 1 (.slice A860 N2 c861)) hn864 hn865
       have hr877 := oSk (i := 1) (u := (.slice A860 N2 c861)) (oSk (i := 0) (u := (.slice A858 N1 c859)) hr867 hg868 (by decide)) (zS0 hg868) (by decide)
       refine hK.out _ _ (hk874) (fun zH => ?_)
       clear hK K hk850 two866 hr867 hg868 c0 c1 f0 f1
       try simp only [Act.put, sA, sB, sC]
       refine tkY 10 (hy := by ((intro w hSw; go_simp) <;> with_reducible rfl)) (h := ?_)
       refine dn1 ?_
       go_wp2_with fail
       go_meet
       exact ⟨_, _, _, rfl, rfl, ⟨_, _, _, _, hput876, two875, hn864, hn865, hz846.low⟩, hr877, hk874⟩
     case stepr794_8 =>
      go_simp
      have hk880 := hk786.upto (Nat.le_refl _) ((Below.refl _ _).alloc (Nat.le_refl _) (.cells #[.slice none 0 0, .slice none 0 0] 30))
      have hg883 := heap_alloc_new v787 (.cells #[.slice none 0 0, .slice none 0 0] 30)
      have hz884 := hk786.lo
      have hx885 := hx793.later ((Below.refl _ _).alloc (Nat.le_refl _) (.cells #[.slice none 0 0, .slice none 0 0] 30))
      clear hx793
      refine hK.out _ _ (hk880) (fun zH => ?_)
      clear hK K hk786
      try simp only [Act.put, sA, sB, sC]
      generalize v787.alloc (.cells #[.slice none 0 0, .slice none 0 0] 30) = v881 at *
      generalize v787.heap.size = G882 at *
      refine rd1 3 (fun K hK => ?_)
      go_simp
      refine (toCmd_any kd sy ac id sd pr qt md v881).mono ?_
      rintro e v889 ⟨rfl, hb890⟩
      have hx891 := hx885.later hb890
      clear hx885
      have hk888 := hk880.upto (Nat.le_refl _) hb890
      have hg892 := (hb890.block G882 (heap_lt' hg883)).trans hg883
      clear hg883
      refine hK.out _ _ (hk888) (fun zH => ?_)
      clear hK K hb890 hk880
      try simp only [Act.put, sA, sB, sC]
      refine rd1 4 (fun K hK => ?_)
      go_simp
      refine (HCI.out v889 g789 f790 hx891 (ord_later (ord_later hBa D11) hk888.bel)).mono ?_
      rintro e v896 ⟨⟨r898, r899, r900, rfl, two901, hr902⟩, hb897⟩
      obtain ⟨A903, c904, A905, c906, rfl, rfl⟩ := two901.slices
      obtain ⟨A907, c908, rfl, -, -⟩ := oSl hr902
      have hn909 : (Value.slice A903 N1 c904).ownBlock = some G882 → False := fun e => absurd (two901.one.lt _ e).1 (Nat.not_le_of_lt (heap_lt' hg892))
      have hn910 : (Value.slice A905 N2 c906).ownBlock = some G882 → False := fun e => absurd (two901.two.lt _ e).1 (Nat.not_le_of_lt (heap_lt' hg892))
      have two911 := two901.mono hk888.low
      have hr912 := oMn hr902 hk888.low
      clear two901 hr902
      clear hx891
      have hk895 := hk888.upto (Nat.le_refl _) hb897
      have hg913 := (hb897.block G882 (heap_lt' hg892)).trans hg892
      clear hg892
      refine hK.out _ _ (hk895) (fun zH => ?_)
      clear hK K hb897 hk888
      try simp only [Act.put, sA, sB, sC]
      refine tkY 5 (hy := by ((intro w hSw; go_simp) <;> with_reducible rfl)) (h := ?_)
      refine tkY 6 (hy := by ((intro w hSw; go_simp) <;> with_reducible rfl)) (h := ?_)
      refine tkY 7 (hy := by ((intro w hSw; go_simp) <;> with_reducible rfl)) (h := ?_)
      refine rd1 9 (fun K hK => ?_)
      obtain ⟨c0, c1⟩ := cell2 hg913
      obtain ⟨f0, f1⟩ := rfree2 hg913
      go_simp
      have hk919 := hk895.upto' hz884 (((Below.refl G882 v896).setCell (p := ⟨G882, 0, none⟩) (Nat.le_refl _) (.slice A903 N1 c904)).setCell (p := ⟨G882, 1, none⟩) (Nat.le_refl _) (.slice A905 N2 c906))
      have hput921 := rput2 (u0 := (.slice A903 N1 c904)) (u1 := (.slice A905 N2 c906)) hg913
      have two920 := (two911.put' (set_grown v896 G882 0 (.slice A903 N1 c904)) hn909 hn910).put' (set_grown _ G882 1 (.slice A905 N2 c906)) hn909 hn910
      have hr922 := oSk (i := 1) (u := (.slice A905 N2 c906)) (oSk (i := 0) (u := (.slice A903 N1 c904)) hr912 hg913 (by decide)) (zS0 hg913) (by decide)
      refine hK.out _ _ (hk919) (fun zH => ?_)
      clear hK K hk895 two911 hr912 hg913 c0 c1 f0 f1
      try simp only [Act.put, sA, sB, sC]
      refine tkY 10 (hy := by ((intro w hSw; go_simp) <;> with_reducible rfl)) (h := ?_)
      refine dn1 ?_
      go_wp2_with fail
      go_meet
      exact ⟨_, _, _, rfl, rfl, ⟨_, _, _, _, hput921, two920, hn909, hn910, hz884.low⟩, hr922, hk919⟩
    case stepr784_8 =>
     go_simp
     have hk925 := hK0.upto (Nat.le_refl _) ((Below.refl _ _).alloc (Nat.le_refl _) (.cells #[.slice none 0 0, .slice none 0 0] 30))
     have hg928 := heap_alloc_new w1s (.cells #[.slice none 0 0, .slice none 0 0] 30)
     have hz929 := hK0.lo
     refine hK.out _ _ (hk925) (fun zH => ?_)
     clear hK K hK0
     try simp only [Act.put, sA, sB, sC]
     generalize w1s.alloc (.cells #[.slice none 0 0, .slice none 0 0] 30) = v926 at *
     generalize w1s.heap.size = G927 at *
     refine rd1 1 (fun K hK => ?_)
     go_simp
     refine (tBa A n c B m d za zb v926 (hls.later hk925.bel) hnm).mono ?_
     rintro e v933 ⟨g935, f936, rfl, _, _, _, hr937, hs938, hb934⟩
     have hx939 : BookIn v933 v933.heap.size (some ⟨g935, 0, none⟩) n (some ⟨f936, 0, none⟩) m za zb := ⟨Lst.of_row (sz := 4) (zs := za) (n := n) hr937 (Nat.le_refl _) hlA (fun _ _ => rfl), Lst.of_row (sz := 4) (zs := zb) (n := m) hs938 (Nat.le_refl _) hlB (fun _ _ => rfl)⟩
     clear hr937 hs938
     have hk932 := hk925.upto (Nat.le_refl _) hb934
     have hg940 := (hb934.block G927 (heap_lt' hg928)).trans hg928
     clear hg928
     refine hK.out _ _ (hk932) (fun zH => ?_)
     clear hK K hb934 hk925
     try simp only [Act.put, sA, sB, sC]
     refine rd1 3 (fun K hK => ?_)
     go_simp
     refine (toCmd_any kd sy ac id sd pr qt md v933).mono ?_
     rintro e v944 ⟨rfl, hb945⟩
     have hx946 := hx939.later hb945
     clear hx939
     have hk943 := hk932.upto (Nat.le_refl _) hb945
     have hg947 := (hb945.block G927 (heap_lt' hg940)).trans hg940
     clear hg940
     refine hK.out _ _ (hk943) (fun zH => ?_)
     clear hK K hb945 hk932
     try simp only [Act.put, sA, sB, sC]
     refine rd1 4 (fun K hK => ?_)
     go_simp
     refine (HCI.out v944 g935 f936 hx946 (ord_later (ord_later hBa D11) hk943.bel)).mono ?_
     rintro e v951 ⟨⟨r953, r954, r955, rfl, two956, hr957⟩, hb952⟩
     obtain ⟨A958, c959, A960, c961, rfl, rfl⟩ := two956.slices
     obtain ⟨A962, c963, rfl, -, -⟩ := oSl hr957
     have hn964 : (Value.slice A958 N1 c959).ownBlock = some G927 → False := fun e => absurd (two956.one.lt _ e).1 (Nat.not_le_of_lt (heap_lt' hg947))
     have hn965 : (Value.slice A960 N2 c961).ownBlock = some G927 → False := fun e => absurd (two956.two.lt _ e).1 (Nat.not_le_of_lt (heap_lt' hg947))
     have two966 := two956.mono hk943.low
     have hr967 := oMn hr957 hk943.low
     clear two956 hr957
     clear hx946
     have hk950 := hk943.upto (Nat.le_refl _) hb952
     have hg968 := (hb952.block G927 (heap_lt' hg947)).trans hg947
     clear hg947
     refine hK.out _ _ (hk950) (fun zH => ?_)
     clear hK K hb952 hk943
     try simp only [Act.put, sA, sB, sC]
     refine tkY 5 (hy := by ((intro w hSw; go_simp) <;> with_reducible rfl)) (h := ?_)
     refine tkY 6 (hy := by ((intro w hSw; go_simp) <;> with_reducible rfl)) (h := ?_)
     refine tkY 7 (hy := by ((intro w hSw; go_simp) <;> with_reducible rfl)) (h := ?_)
     refine rd1 9 (fun K hK => ?_)
     obtain ⟨c0, c1⟩ := cell2 hg968
     obtain ⟨f0, f1⟩ := rfree2 hg968
     go_simp
     have hk974 := hk950.upto' hz929 (((Below.refl G927 v951).setCell (p := ⟨G927, 0, none⟩) (Nat.le_refl _) (.slice A958 N1 c959)).setCell (p := ⟨G927, 1, none⟩) (Nat.le_refl _) (.slice A960 N2 c961))
     have hput976 := rput2 (u0 := (.slice A958 N1 c959)) (u1 := (.slice A960 N2 c961)) hg968
     have two975 := (two966.put' (set_grown v951 G927 0 (.slice A958 N1 c959)) hn964 hn965).put' (set_grown _ G927 1 (.slice A960 N2 c961)) hn964 hn965
     have hr977 := oSk (i := 1) (u := (.slice A960 N2 c961)) (oSk (i := 0) (u := (.slice A958 N1 c959)) hr967 hg968 (by decide)) (zS0 hg968) (by decide)
     refine hK.out _ _ (hk974) (fun zH => ?_)
     clear hK K hk950 two966 hr967 hg968 c0 c1 f0 f1
     try simp only [Act.put, sA, sB, sC]
     refine tkY 10 (hy := by ((intro w hSw; go_simp) <;> with_reducible rfl)) (h := ?_)
     refine dn1 ?_
     go_wp2_with fail
     go_meet
     exact ⟨_, _, _, rfl, rfl, ⟨_, _, _, _, hput976, two975, hn964, hn965, hz929.low⟩, hr977, hk974⟩
   case rest =>
    clear hK0
    obtain ⟨G3, Rh, dh, rfl, rfl, ⟨At, ct, Au, cu, Q14, TH14, -, -, -⟩, RH14, hK0⟩ := hcut
    have D14 := ord_later D11 hK0.bel
    have G14 := (hK0.bel.block _ lG11).trans G11
    have M14 := M11.below hK0.bel
    have MR14 := MR11.below hK0.bel
    have W14 := (D14.block _ lWa).trans Wa
    have TW14 := TWa.below D14
    have RW14 := oBw RWa D14
    obtain ⟨q0, q1⟩ := cell2 Q14
    obtain ⟨r0, r1⟩ := cell2 W14
    clear D11 G11 M11 MR11 H11 hl11 p0 p1 hK0 Q14
    have lG14 := heap_lt' G14
    go_wp2_with fail
    refine (eqBook_same _ _ _ _ N1 N2 _ _ _ _ Z1 Z2 _ TH14.bookIn TW14.bookIn hN1 hN2).mono ?_
    rintro e w14 ⟨rfl, hbd⟩
    have RHd := oBw RH14 hbd
    have RWd := oBw RW14 hbd
    go_wp2_with fail
    refine (eqRecS_same _ _ N3 _ _ RR w14 (Lst.of_own RHd) (Lst.of_own RWd) hN3).mono ?_
    rintro e w15 ⟨rfl, hbt⟩
    have hb15 := hbd.trans (hbt.mono hbd.size)
    have D15 := ord_later D14 hb15
    have G15 := (hb15.block _ lG14).trans G14
    have M15 := M14.below hb15
    have MR15 := MR14.below hb15
    clear D14 G14 M14 MR14 TH14 W14 TW14 RH14 RW14 RHd RWd hbd hbt hb15 q0 q1 r0 r1
    obtain ⟨q0, q1⟩ := cell2 G15
    go_wp2_with fail
    refine (heldBook_own _ _ _ _ N1 N2 w15 M15 hN1 hN2).mono ?_
    rintro e w16 ⟨rfl, hb16⟩
    have hfin := ord_later hBa (ord_later D15 hb16)
    have hmr := heldRecS_anyFrom (N2 * 4 + (N1 * 4 + 1)) _ N3 w16 (MR15.below hb16) hN3 (by omega)
    rw [HCT.out] at hmr
    have HMR := Lib.hid hmr
    clear hmr
    go_wp2_with fail
    refine ((HMR.out).mono (fun e w' h => (⟨h.1, h.2.symm⟩ : _ ∧ _))).mono ?_
    rintro e _ ⟨rfl, rfl⟩
    go_wp2_with fail
    go_ret
    exact ⟨by first | rfl | simp, hfin⟩
end Go.Proofs.YtgjjdnojiegidaaGreatDoor
