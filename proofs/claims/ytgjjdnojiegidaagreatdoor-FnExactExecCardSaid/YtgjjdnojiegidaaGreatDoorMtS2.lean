/-
 The same for a seller.
-/
import Derived.Test.YtgjjdnojiegidaaGreatDoorTak
import Derived.Test.YtgjjdnojiegidaaGreatDoorMtL
namespace Go.Proofs.YtgjjdnojiegidaaGreatDoor
open Go.RowKit Wire
set_option maxHeartbeats 6400000
set_option maxRecDepth 100000
set_option linter.unusedSimpArgs false

theorem spec_l3Match2 (base : Nat) (A1 : Option Addr) (n c : Nat) (A2 : Option Addr) (m d : Nat) (za zb : List Int) (oi oa op oq mode : Int) (w : World) (hT : TwoRows w base (.slice A1 n c) n za (.slice A2 m d) m zb) (hbase : base ≤ w.heap.size) (hn : n ≤ 1048576) (hm : m ≤ 1048576) (hqty : qtyOk za n) (h0 : 0 ≤ oq) (h1 : oq ≤ 1000000) :
 Calls Tryz.prog 66 #[.agg #[.slice A1 n c, .slice A2 m d], .int .i64 2, .agg #[.int .i64 oi, .int .i64 oa, .int .i64 op, .int .i64 oq], .int .i64 mode] w fun e w' => MtRes2 w' base m zb n (mtS 2 oi oa op mode za [] oq) e ∧ Below w.heap.size w w' := by
 obtain ⟨i0, hi, hz0, hz1, hz2⟩ := info_parts rec_info
 obtain ⟨k0, k1, k2⟩ := three_blocks w (.cells #[.slice A1 n c, .slice A2 m d] 30) (.cells #[.int .i64 oi, .int .i64 oa, .int .i64 op, .int .i64 oq] 65) (.cells #[.slice none 0 0, .slice none 0 0] 30)
 have hs3 : (((w.alloc (.cells #[.slice A1 n c, .slice A2 m d] 30)).alloc (.cells #[.int .i64 oi, .int .i64 oa, .int .i64 op, .int .i64 oq] 65)).alloc (.cells #[.slice none 0 0, .slice none 0 0] 30)).heap.size = w.heap.size + 3 := by simp
 have hb3 : Below w.heap.size w (((w.alloc (.cells #[.slice A1 n c, .slice A2 m d] 30)).alloc (.cells #[.int .i64 oi, .int .i64 oa, .int .i64 op, .int .i64 oq] 65)).alloc (.cells #[.slice none 0 0, .slice none 0 0] 30)) := (((Below.refl _ _).alloc (Nat.le_refl _) _).alloc (by simp) _).alloc (by simp; omega) _
 have hE := own_empty (((w.alloc (.cells #[.slice A1 n c, .slice A2 m d] 30)).alloc (.cells #[.int .i64 oi, .int .i64 oa, .int .i64 op, .int .i64 oq] 65)).alloc (.cells #[.slice none 0 0, .slice none 0 0] 30)) 48 8
 rw [hs3] at hE
 have lt1 := hT.one.lt
 have lt2 := hT.two.lt
 have hM0 : MtW w (((w.alloc (.cells #[.slice A1 n c, .slice A2 m d] 30)).alloc (.cells #[.int .i64 oi, .int .i64 oa, .int .i64 op, .int .i64 oq] 65)).alloc (.cells #[.slice none 0 0, .slice none 0 0] 30)) oi oa op oq (.slice A1 n c) (.slice A2 m d) n za m zb base (.slice none 0 0) 0 [] :=
  ⟨k0, k1, k2, hT.below hb3, fun q e => .inl (lt1 q e).2, fun q e => .inl (lt2 q e).2, World.ownsRow_nil _ _ _ _, hb3⟩
 have hM1 := hM0.later ((Below.refl _ _).alloc (Nat.le_refl _) (.cells #[] 48))
 have hM : MtW w ((((w.alloc (.cells #[.slice A1 n c, .slice A2 m d] 30)).alloc (.cells #[.int .i64 oi, .int .i64 oa, .int .i64 op, .int .i64 oq] 65)).alloc (.cells #[.slice none 0 0, .slice none 0 0] 30)).alloc (.cells #[] 48)) oi oa op oq (.slice A1 n c) (.slice A2 m d) n za m zb base (.slice (some ⟨w.heap.size + 3, 0, none⟩) 0 0) 0 [] :=
  ⟨hM1.book, hM1.ord, hM1.res, hM1.rows, hM1.far1, hM1.far2, by exact hE, hM1.bel⟩
 have hlz := hT.one.1
 rw [nums_length] at hlz
 clear k0 k1 k2 hb3 hE lt1 lt2 hM0 hM1 hT
 go_enter Tryz.func66, Tryz.ntmps66
 go_wp2_with fail
 generalize ((((w.alloc (.cells #[.slice A1 n c, .slice A2 m d] 30)).alloc (.cells #[.int .i64 oi, .int .i64 oa, .int .i64 op, .int .i64 oq] 65)).alloc (.cells #[.slice none 0 0, .slice none 0 0] 30)).alloc (.cells #[] 48)) = w4 at *
 refine (spec_other2 w4).mono ?_
 rintro e w5 ⟨rfl, rfl⟩
 go_wp2_with fail
 go_loopg [11] (n + 1) (fun g s11 wr => ∃ (M N : Nat) (Z R : List Int) (q : Int) (v1 v2 : Value), mtS 2 oi oa op mode za [] oq = mtS 2 oi oa op mode Z R q ∧ (0 < q → M + 1 ≤ g) ∧ Z.length = M * 4 ∧ R.length = N * 8 ∧ M ≤ n ∧ (0 < q → N + M ≤ n) ∧ N + M ≤ n + 1 ∧ N ≤ n + 1 ∧ (0 < q → qtyOk Z M) ∧ 0 ≤ q ∧ q ≤ 1000000 ∧ MtW w wr oi oa op q v1 v2 M Z m zb base s11 N R ∧ True)
 case atStart => exact ⟨n, 0, za, [], oq, _, _, rfl, fun _ => Nat.le_refl _, hlz, rfl, Nat.le_refl _, fun _ => by omega, by omega, by omega, fun _ => hqty, h0, h1, hM, trivial⟩
 case round =>
  clear hM hlz hqty h0 h1
  obtain ⟨M, N, Z, R, q, v1, v2, heq, hg, hZ, hR, hMm, hNM, hNM1, hN1, hqt, q0, q1, hM, -⟩ := hrel
  have HEQ := Lib.hid heq
  have HZ := Lib.hid hZ
  have HR := Lib.hid hR
  clear heq hZ hR
  obtain ⟨A, dd, Ak, dk, rfl, rfl⟩ := hM.rows.slices
  obtain ⟨o0, o1, o2, o3⟩ := mcell4 hM.ord
  obtain ⟨b0, b1⟩ := mcell2 hM.book
  obtain ⟨Ar, dr, rfl, _, _⟩ := oSl hM.recs
  by_cases hq : 0 < q
  · obtain ⟨g, rfl⟩ : ∃ g, gk = g + 1 := ⟨gk - 1, by have := hg hq; omega⟩
    have hgM : M ≤ g := by have := hg hq; omega
    have hNq := hNM hq
    replace hqt := hqt hq
    clear hg hNM
    go_wp2_with fail
    refine (spec_l2ListO _ _ _ _ _ _ 1 _).mono ?_
    simp only [if_pos]
    rintro e wx ⟨rfl, hbx⟩
    replace hM := hM.later hbx
    clear hbx o0 o1 o2 o3 b0 b1
    obtain ⟨o0, o1, o2, o3⟩ := mcell4 hM.ord
    obtain ⟨b0, b1⟩ := mcell2 hM.book
    rcases Nat.eq_zero_or_pos M with hM0 | hM0
    · subst hM0
      have HF : Hid (mtS 2 oi oa op mode za [] oq = (Z, R, q)) := Lib.hid (by
       rw [HEQ.out]
       have e : Z = [] := List.eq_nil_of_length_eq_zero (by have := HZ.out; omega)
       subst e
       exact mtS_nil)
      go_upto_region 5 with fail
      go_quiet (fail)
      go_upto_region 6 with fail
      rename Nat => nq
      clear o0 o1 o2 o3 b0 b1
      replace hM := (hM.drewN nq)
      generalize wx.drewN nq = wz at *
      obtain ⟨o0, o1, o2, o3⟩ := mcell4 hM.ord
      obtain ⟨b0, b1⟩ := mcell2 hM.book
      have f0 := mfree hM.res 0
      have f1 := mfree hM.res 1
      obtain ⟨r0, r1⟩ := mcell2 hM.res
      have HD := Lib.hid (hM.done)
      refine wp_region_held_drew (S := (fun w' => w'.cell? ⟨w.heap.size, 0, none⟩ = some (.slice A 0 dd) ∧ w'.cell? ⟨w.heap.size, 1, none⟩ = some (.slice Ak m dk) ∧ w'.cell? ⟨w.heap.size + 1, 3, none⟩ = some (.int .i64 q))) (by kernel_rfl) ?hSq3xs (fun zH => ?restq3xs)
      case hSq3xs => (first | exact ⟨b0, b1, o3⟩ | exact zH | exact ⟨(set2_far (by omega)).trans zH.1, (set2_far (by omega)).trans zH.2.1, (set2_far (by omega)).trans zH.2.2⟩)
      refine tkV 0 ?_
      refine tkV 1 ?_
      refine tkV 2 ?_
      refine tkV 3 ?_
      refine rd1 4 (fun K hK => ?_)
      go_simp
      skip
      refine hK.out _ _ ?hSq3x5 (fun zH => ?restq3x5)
      case hSq3x5 => (first | exact ⟨b0, b1, o3⟩ | exact zH | exact ⟨(set2_far (by omega)).trans zH.1, (set2_far (by omega)).trans zH.2.1, (set2_far (by omega)).trans zH.2.2⟩)
      clear hK K
      try simp only [Act.put, sA, sB, sC]
      refine tkV 5 ?_
      refine tkV 6 ?_
      refine dn1 ?_
      clear zH o0 o1 o2 o3 b0 b1 r0 r1 f0 f1
      go_wp2_with fail
      obtain ⟨⟨g0, g1⟩, hrows, hrecs, hbelf⟩ := HD.out
      exact bodyPost_ret (v := .tuple #[.agg #[(.slice A 0 dd), (.slice Ak m dk)], (.slice Ar N dr), .int .i64 q]) (by simp [results, Tryz.results66, go_sem, g0, g1]) rfl ⟨⟨_, _, _, _, _, by rw [HF.out], by rw [HF.out]; exact hrows.below (Below.refl _ _).drew, by rw [HF.out]; exact oMn (oBw hrecs (Below.refl _ _).drew) (by omega), by omega, by omega⟩, hbelf.drew⟩
    · obtain ⟨M, rfl⟩ : ∃ M', M = M' + 1 := ⟨M - 1, by omega⟩
      obtain ⟨t, ez, ht, hdr⟩ := head4 HZ.out
      have EZ := Lib.hid ez
      have HT := Lib.hid ht
      have EDR := Lib.hid hdr
      obtain ⟨gz, cz, hv, _, _⟩ := World.ownsRow.form hM.rows.one (by omega)
      injection hv with hv1 _ hv2
      subst hv1 hv2
      have hMd := mt_cap hM.rows.one
      clear ez ht hdr
      obtain ⟨TA, TC, hTA⟩ : ∃ TA TC, TaOk gz dd M TA TC := ta_ex hMd
      have z0 := own_at hM.rows.one (i := 0) (by omega)
      have z1 := own_at hM.rows.one (i := 1) (by omega)
      have z2 := own_at hM.rows.one (i := 2) (by omega)
      have z3 := own_at hM.rows.one (i := 3) (by omega)
      have p1 : (0 < M + 1) = True := by simp
      have p3 : ((1 : Int) ≤ (M : Int) + 1) = True := by simp; omega
      have p2 : (((M : Int) + 1) == 0) = false := beq_eq_false_iff_ne.2 (by omega)
      rcases Bool.eq_false_or_eq_true (meetB 2 op (num Z 2)) with hmt | hmt
      · have HMT := Lib.hid hmt
        go_upto_region 5 with fail
        go_quiet ((go_at_call 70; exact Calls.quiet_of_same (meets_yes _ _ _ _ HMT.out)))
        go_upto_region 7 with fail
        rename Nat => nq
        clear o0 o1 o2 o3 b0 b1 z0 z1 z2 z3
        replace hM := hM.drewN nq
        generalize wx.drewN nq = wz at *
        obtain ⟨o0, o1, o2, o3⟩ := mcell4 hM.ord
        obtain ⟨b0, b1⟩ := mcell2 hM.book
        have z0 := own_at hM.rows.one (i := 0) (by omega)
        have z1 := own_at hM.rows.one (i := 1) (by omega)
        have z2 := own_at hM.rows.one (i := 2) (by omega)
        have z3 := own_at hM.rows.one (i := 3) (by omega)
        go_upto_region 8 with fail
        have hH := heap_alloc_new wz (.cells #[.int .i64 (num Z 0), .int .i64 (num Z 1), .int .i64 (num Z 2), .int .i64 (num Z 3)] 65)
        have hr1 := hM.rows.one.lt
        have hr2 := hM.rows.two.lt
        have hg3 : w.heap.size + 3 ≤ wz.heap.size := by have := hlT hM.res; omega
        have hk1 : (Value.slice Ak m dk).ownBlock ≠ some wz.heap.size := fun e => absurd (hr2 _ e).2 (Nat.lt_irrefl _)
        have hk2 : (Value.slice (some ⟨gz, 0, none⟩) (M + 1) dd).ownBlock ≠ some wz.heap.size := fun e => absurd (hr1 _ e).2 (Nat.lt_irrefl _)
        replace hM := hM.later ((Below.refl _ _).alloc (Nat.le_refl _) (.cells #[.int .i64 (num Z 0), .int .i64 (num Z 1), .int .i64 (num Z 2), .int .i64 (num Z 3)] 65))
        clear o0 o1 o2 o3 b0 b1 z0 z1 z2 z3 hr1 hr2
        generalize wz.alloc (.cells #[.int .i64 (num Z 0), .int .i64 (num Z 1), .int .i64 (num Z 2), .int .i64 (num Z 3)] 65) = wh at *
        generalize wz.heap.size = gh at *
        obtain ⟨o0, o1, o2, o3⟩ := mcell4 hM.ord
        obtain ⟨b0, b1⟩ := mcell2 hM.book
        obtain ⟨h0, h1, h2, h3⟩ := mcell4 hH
        have HQT := Lib.hid hqt
        have hC1 := (hqt 0 (by omega)).1
        have hC2 := (hqt 0 (by omega)).2
        simp only [Nat.zero_mul, Nat.zero_add] at hC1 hC2
        clear hqt p1 p2 hmt
        by_cases ha : num Z 1 = oa
        · have HA := Lib.hid ha
          have t1 : (num Z 1 == oa) = true := beq_iff_eq.2 ha
          clear ha
          by_cases hm1 : mode = 1
          · subst hm1
            have HF : Hid (mtS 2 oi oa op 1 za [] oq = (Z, R ++ canR oi oa op q, 0)) := Lib.hid (by rw [HEQ.out]; (conv => lhs; rw [EZ.out, mtS_cons, if_pos (And.intro hq HMT.out), if_pos HA.out, if_pos rfl]); rw [← EZ.out])
            have hsG : w.heap.size + 3 ≤ wh.heap.size := by have := hlT hM.res; omega
            have hrl := hM.recs.lt
            go_wp2_with (at_builtin; refine wpList_append_own_at _ rfl _ _ 31 rfl (w.heap.size + 3) 48 i0 _ 8 64 Tryz.underlying31 hi hz0 hz1 hz2 rfl (by decide) _ _ _ rfl (hM.recs.alloc _) ⟨wh.heap.size, 0, none⟩ 1 1 [.int .i64 (0), .int .i64 (4), .int .i64 (0), .int .i64 (oa), .int .i64 (oi), .int .i64 (0), .int .i64 (op), .int .i64 (q)] rfl rfl (World.news_of_block (heap_alloc_new wh _)) (nums_one (canR oi oa op q)) (by unfold maxLen; omega) (by omega) (by simp; omega) ?_)
            intro v' wk hown hgrow _ _
            replace hH := (hgrow.block gh (by have := hlT hH; simp; omega) (fun e => mt_apart hM.recs (own_of_box hH) (by decide) gh e.symm rfl)).trans ((Below.heap_alloc wh _ gh (hlT hH)).trans hH)
            replace hM := (hM.later ((Below.refl _ _).alloc (Nat.le_refl _) (.cells #[.int .i64 (0), .int .i64 (4), .int .i64 (0), .int .i64 (oa), .int .i64 (oi), .int .i64 (0), .int .i64 (op), .int .i64 (q)] 48))).more (R' := R ++ canR oi oa op q) (by rw [nums_append]; exact hown) hgrow
            obtain ⟨Ar, dr, rfl, _, _⟩ := oSl hown
            clear hown hgrow hrl hsG
            clear o0 o1 o2 o3 b0 b1 h0 h1 h2 h3
            clear t1
            have f0 := mfree hM.res 0
            have f1 := mfree hM.res 1
            obtain ⟨r0, r1⟩ := mcell2 hM.res
            obtain ⟨b0, b1⟩ := mcell2 hM.book
            have HD := Lib.hid (hM.done)
            go_wp2_with fail
            obtain ⟨⟨g0, g1⟩, hrows, hrecs, hbelf⟩ := HD.out
            exact bodyPost_ret (v := .tuple #[.agg #[(.slice (some ⟨gz, 0, none⟩) (M + 1) dd), (.slice Ak m dk)], (.slice Ar (N + 1) dr), .int .i64 0]) (by simp [results, Tryz.results66, go_sem, g0, g1]) rfl ⟨⟨_, _, _, _, _, by rw [HF.out], by rw [HF.out]; exact hrows, by rw [HF.out]; exact oMn hrecs (by omega), by omega, by omega⟩, hbelf⟩
          · have HM1 := Lib.hid hm1
            have tm1 : (mode != 1) = true := by simpa using hm1
            clear hm1
            have hsG : w.heap.size + 3 ≤ wh.heap.size := by have := hlT hM.res; omega
            have hrl := hM.recs.lt
            go_wp2_with (at_builtin; refine wpList_append_own_at _ rfl _ _ 31 rfl (w.heap.size + 3) 48 i0 _ 8 64 Tryz.underlying31 hi hz0 hz1 hz2 rfl (by decide) _ _ _ rfl (hM.recs.alloc _) ⟨wh.heap.size, 0, none⟩ 1 1 [.int .i64 (0), .int .i64 (4), .int .i64 (0), .int .i64 (num Z 1), .int .i64 (num Z 0), .int .i64 (0), .int .i64 (num Z 2), .int .i64 (num Z 3)] rfl rfl (World.news_of_block (heap_alloc_new wh _)) (nums_one (canR (num Z 0) (num Z 1) (num Z 2) (num Z 3))) (by unfold maxLen; omega) (by omega) (by simp; omega) ?_)
            intro v' wk hown hgrow _ _
            replace hH := (hgrow.block gh (by have := hlT hH; simp; omega) (fun e => mt_apart hM.recs (own_of_box hH) (by decide) gh e.symm rfl)).trans ((Below.heap_alloc wh _ gh (hlT hH)).trans hH)
            replace hM := (hM.later ((Below.refl _ _).alloc (Nat.le_refl _) (.cells #[.int .i64 (0), .int .i64 (4), .int .i64 (0), .int .i64 (num Z 1), .int .i64 (num Z 0), .int .i64 (0), .int .i64 (num Z 2), .int .i64 (num Z 3)] 48))).more (R' := R ++ canR (num Z 0) (num Z 1) (num Z 2) (num Z 3)) (by rw [nums_append]; exact hown) hgrow
            obtain ⟨Ar, dr, rfl, _, _⟩ := oSl hown
            clear hown hgrow hrl hsG
            clear o0 o1 o2 o3 b0 b1 h0 h1 h2 h3
            clear t1 hH hk1 hk2
            go_upto_region 11 with fail
            go_cut [66] (fun s66 wy => ∃ u1 u2, MtW w wy oi oa op q u1 u2 M t m zb base (.slice Ar (N + 1) dr) (N + 1) (R ++ canR (num Z 0) (num Z 1) (num Z 2) (num Z 3)))
            case first =>
             refine wp_region_any (by kernel_rfl) ?_
             change wpAny _ _ _ _ _ _ _ (World.drew _)
             replace hM := hM.drew
             generalize World.drew _ = wd at *
             refine wpAny_take (i := 1) (oi := ?oit60) (v := ?vt60) ?hit60 (by kernel_rfl) (by kernel_rfl) (by kernel_rfl) ?hQt60 (Or.inl ⟨?hwt60, ?hyt60⟩) ?restt60
             case hit60 => simp only [gA, gB, gC]; exact rfl
             case hQt60 => exact fun _ _ _ h => h
             case hwt60 => rfl
             case hyt60 => ((intro w; go_simp) <;> with_reducible rfl)
             try simp only [Act.put, sA, sB, sC]
             refine wpAny_take (i := 3) (oi := ?oit61) (v := ?vt61) ?hit61 (by kernel_rfl) (by kernel_rfl) (by kernel_rfl) ?hQt61 (Or.inl ⟨?hwt61, ?hyt61⟩) ?restt61
             case hit61 => simp only [gA, gB, gC]; exact rfl
             case hQt61 => exact fun _ _ _ h => h
             case hwt61 => rfl
             case hyt61 => ((intro w; go_simp) <;> with_reducible rfl)
             try simp only [Act.put, sA, sB, sC]
             refine wpAny_take (i := 4) (oi := ?oit62) (v := (.slice TA M TC)) ?hit62 (by kernel_rfl) (by kernel_rfl) (by kernel_rfl) ?hQt62 (Or.inl ⟨?hwt62, ?hyt62⟩) ?restt62
             case hit62 => simp only [gA, gB, gC]; exact rfl
             case hQt62 => exact fun _ _ _ h => h
             case hwt62 => rfl
             case hyt62 => (rcases hTA with ⟨rfl, rfl, rfl, rfl⟩ | ⟨hd1, rfl, rfl⟩; (((intro w; go_simp) <;> with_reducible rfl)); (have hd2 : ¬ dd = 1 := by omega); (((intro w; go_simp) <;> with_reducible rfl)))
             try simp only [Act.put, sA, sB, sC]
             refine wpAny_ready (rs := [0, 2]) (by kernel_rfl) (by simp) ?_
             refine AllReady.cons (o := ?or63_0) ?hor63_0 (fun K hK' => ?stepr63_0) (AllReady.cons (o := ?or63_2) ?hor63_2 (fun K hK' => ?stepr63_2) (AllReady.nil))
             case hor63_0 => simp only [gA, gB, gC]; exact rfl
             case hor63_2 => simp only [gA, gB, gC]; exact rfl
             case stepr63_0 =>
              have HKK := Lib.hid hK'
              clear hK'
              obtain ⟨b0, b1⟩ := mcell2 hM.book
              go_simp
              clear b0 b1
              refine HKK.out _ _ ?restr63_0
              clear HKK K
              try simp only [Act.put, sA, sB, sC]
              refine wpAny_ready (rs := [2]) (by kernel_rfl) (by simp) ?_
              refine AllReady.cons (o := ?or64_2) ?hor64_2 (fun K hK' => ?stepr64_2) (AllReady.nil)
              case hor64_2 => simp only [gA, gB, gC]; exact rfl
              case stepr64_2 =>
               have HKK := Lib.hid hK'
               clear hK'
               go_simp
               refine HKK.out _ _ ?restr64_2
               clear HKK K
               try simp only [Act.put, sA, sB, sC]
               have hs67 : w.heap.size + 3 ≤ wd.heap.size := by have := hlT hM.res; omega
               have hXn : ∀ q, (Value.slice (some ⟨wd.heap.size, 0, none⟩) 0 0).ownBlock = some q → (Value.slice Ak m dk).ownBlock ≠ some q ∧ (Value.slice (some ⟨gz, 0, none⟩) (M + 1) dd).ownBlock ≠ some q := fun q hq => by simp only [Value.ownBlock, Option.map_some, Option.some.injEq] at hq; subst hq; exact ⟨fun e => absurd (hM.rows.two.lt _ e).2 (Nat.lt_irrefl _), fun e => absurd (hM.rows.one.lt _ e).2 (Nat.lt_irrefl _)⟩
               have hX := oMn (base' := w.heap.size + 3) (own_empty wd 65 4) hs67
               replace hM := hM.later ((Below.refl _ _).alloc (Nat.le_refl _) (.cells #[] 65))
               generalize wd.alloc (.cells #[] 65) = wa65 at *
               generalize wd.heap.size = gx68 at *
               refine wpAny_ready (rs := [5]) (by kernel_rfl) (by simp) ?_
               refine AllReady.cons (o := ?or69_5) ?hor69_5 (fun K hK' => ?stepr69_5) (AllReady.nil)
               case hor69_5 => simp only [gA, gB, gC]; exact rfl
               case stepr69_5 =>
                have hsz : w.heap.size + 3 ≤ wa65.heap.size := by have := hlT hM.res; omega
                refine step_appX _ rfl _ _ rfl (w.heap.size + 3) _ rfl 0 [] hX TA M TC (ta_nil hTA) t rfl wa65.heap.size (ta_lst hTA hM.rows.one EDR.out HT.out) (by omega) (by omega) hsz ?_
                intro r7 u70 hown7 hgrow7 _
                have hlx := hX.lt
                replace hM := hM.keepGrown hgrow7 (fun q hq => (hlx q hq).1) (fun q hq => ⟨(hXn q hq).2, (hXn q hq).1, mt_apart hX hM.recs (by decide) q hq⟩)
                obtain ⟨A7, d7, rfl, _, _⟩ := oSl hown7
                clear hgrow7 hlx hX hXn
                refine hK' _ _ ?restr69_5
                clear hK' K
                try simp only [Act.put, sA, sB, sC]
                refine wpAny_ready (rs := [6]) (by kernel_rfl) (by simp) ?_
                refine AllReady.cons (o := ?or71_6) ?hor71_6 (fun K hK' => ?stepr71_6) (AllReady.nil)
                case hor71_6 => simp only [gA, gB, gC]; exact rfl
                case stepr71_6 =>
                 have HKK := Lib.hid hK'
                 clear hK'
                 go_simp
                 go_at_call 64
                 refine (spec_l2With1 _ _ _ _ _ _ (Z) zb A7 _ d7 u70 (Lst.of_own hM.rows.one) (Lst.of_own hM.rows.two) (by omega) (by omega) (mt_nil hM.rows.one) (mt_nil hM.rows.two)).mono ?_
                 rintro e u72 ⟨⟨r8, rfl, ho8, _⟩, hb8⟩
                 have hl7 := hown7.lt
                 have hl8 := ho8.lt
                 have hsz6 : w.heap.size + 3 ≤ u70.heap.size := by have := hlT hM.res; omega
                 replace hown7 := oBw hown7 hb8
                 replace hM := hM.later hb8
                 clear hb8
                 have hTR : TwoRows u72 base (.slice A7 (0 + M) d7) (0 + M) ([] ++ t) r8 m zb := ⟨oMn hown7 (by omega), oMn ho8 (by omega), fun q h1 h2 => by have a := (hl7 q h1).2; have b := (hl8 q h2).1; omega⟩
                 have hF8 : MtFar w.heap.size r8 := fun q hq => .inr (by have := (hl8 q hq).1; omega)
                 have hF7 : MtFar w.heap.size (.slice A7 (0 + M) d7) := fun q hq => .inr (hl7 q hq).1
                 obtain ⟨A8, d8, rfl, _, _⟩ := oSl ho8
                 clear hl7 hl8 hown7 ho8
                 refine HKK.out _ _ ?restr71_6
                 clear HKK K
                 try simp only [Act.put, sA, sB, sC]
                 refine wpAny_ready (rs := [7]) (by kernel_rfl) (by simp) ?_
                 refine AllReady.cons (o := ?or73_7) ?hor73_7 (fun K hK' => ?stepr73_7) (AllReady.nil)
                 case hor73_7 => simp only [gA, gB, gC]; exact rfl
                 case stepr73_7 =>
                  have HKK := Lib.hid hK'
                  clear hK'
                  obtain ⟨b0, b1⟩ := mcell2 hM.book
                  have z0 := mfree hM.book 0
                  have z1 := mfree hM.book 1
                  go_simp
                  clear b0 b1 z0 z1
                  replace hM := hM.setBook hTR hF7 hF8
                  clear hTR hF8 hF7
                  refine HKK.out _ _ ?restr73_7
                  clear HKK K
                  try simp only [Act.put, sA, sB, sC]
                  refine wpAny_done (by kernel_rfl) ?_ _
                  go_wp2_with fail
                  go_meet
                  exact ⟨_, _, by simpa using hM⟩
             case stepr63_2 =>
              have HKK := Lib.hid hK'
              clear hK'
              go_simp
              refine HKK.out _ _ ?restr63_2
              clear HKK K
              try simp only [Act.put, sA, sB, sC]
              have hs76 : w.heap.size + 3 ≤ wd.heap.size := by have := hlT hM.res; omega
              have hXn : ∀ q, (Value.slice (some ⟨wd.heap.size, 0, none⟩) 0 0).ownBlock = some q → (Value.slice Ak m dk).ownBlock ≠ some q ∧ (Value.slice (some ⟨gz, 0, none⟩) (M + 1) dd).ownBlock ≠ some q := fun q hq => by simp only [Value.ownBlock, Option.map_some, Option.some.injEq] at hq; subst hq; exact ⟨fun e => absurd (hM.rows.two.lt _ e).2 (Nat.lt_irrefl _), fun e => absurd (hM.rows.one.lt _ e).2 (Nat.lt_irrefl _)⟩
              have hX := oMn (base' := w.heap.size + 3) (own_empty wd 65 4) hs76
              replace hM := hM.later ((Below.refl _ _).alloc (Nat.le_refl _) (.cells #[] 65))
              generalize wd.alloc (.cells #[] 65) = wa74 at *
              generalize wd.heap.size = gx77 at *
              refine wpAny_ready (rs := [0, 5]) (by kernel_rfl) (by simp) ?_
              refine AllReady.cons (o := ?or78_0) ?hor78_0 (fun K hK' => ?stepr78_0) (AllReady.cons (o := ?or78_5) ?hor78_5 (fun K hK' => ?stepr78_5) (AllReady.nil))
              case hor78_0 => simp only [gA, gB, gC]; exact rfl
              case hor78_5 => simp only [gA, gB, gC]; exact rfl
              case stepr78_0 =>
               have HKK := Lib.hid hK'
               clear hK'
               obtain ⟨b0, b1⟩ := mcell2 hM.book
               go_simp
               clear b0 b1
               refine HKK.out _ _ ?restr78_0
               clear HKK K
               try simp only [Act.put, sA, sB, sC]
               refine wpAny_ready (rs := [5]) (by kernel_rfl) (by simp) ?_
               refine AllReady.cons (o := ?or79_5) ?hor79_5 (fun K hK' => ?stepr79_5) (AllReady.nil)
               case hor79_5 => simp only [gA, gB, gC]; exact rfl
               case stepr79_5 =>
                have hsz : w.heap.size + 3 ≤ wa74.heap.size := by have := hlT hM.res; omega
                refine step_appX _ rfl _ _ rfl (w.heap.size + 3) _ rfl 0 [] hX TA M TC (ta_nil hTA) t rfl wa74.heap.size (ta_lst hTA hM.rows.one EDR.out HT.out) (by omega) (by omega) hsz ?_
                intro r7 u80 hown7 hgrow7 _
                have hlx := hX.lt
                replace hM := hM.keepGrown hgrow7 (fun q hq => (hlx q hq).1) (fun q hq => ⟨(hXn q hq).2, (hXn q hq).1, mt_apart hX hM.recs (by decide) q hq⟩)
                obtain ⟨A7, d7, rfl, _, _⟩ := oSl hown7
                clear hgrow7 hlx hX hXn
                refine hK' _ _ ?restr79_5
                clear hK' K
                try simp only [Act.put, sA, sB, sC]
                refine wpAny_ready (rs := [6]) (by kernel_rfl) (by simp) ?_
                refine AllReady.cons (o := ?or81_6) ?hor81_6 (fun K hK' => ?stepr81_6) (AllReady.nil)
                case hor81_6 => simp only [gA, gB, gC]; exact rfl
                case stepr81_6 =>
                 have HKK := Lib.hid hK'
                 clear hK'
                 go_simp
                 go_at_call 64
                 refine (spec_l2With1 _ _ _ _ _ _ (Z) zb A7 _ d7 u80 (Lst.of_own hM.rows.one) (Lst.of_own hM.rows.two) (by omega) (by omega) (mt_nil hM.rows.one) (mt_nil hM.rows.two)).mono ?_
                 rintro e u82 ⟨⟨r8, rfl, ho8, _⟩, hb8⟩
                 have hl7 := hown7.lt
                 have hl8 := ho8.lt
                 have hsz6 : w.heap.size + 3 ≤ u80.heap.size := by have := hlT hM.res; omega
                 replace hown7 := oBw hown7 hb8
                 replace hM := hM.later hb8
                 clear hb8
                 have hTR : TwoRows u82 base (.slice A7 (0 + M) d7) (0 + M) ([] ++ t) r8 m zb := ⟨oMn hown7 (by omega), oMn ho8 (by omega), fun q h1 h2 => by have a := (hl7 q h1).2; have b := (hl8 q h2).1; omega⟩
                 have hF8 : MtFar w.heap.size r8 := fun q hq => .inr (by have := (hl8 q hq).1; omega)
                 have hF7 : MtFar w.heap.size (.slice A7 (0 + M) d7) := fun q hq => .inr (hl7 q hq).1
                 obtain ⟨A8, d8, rfl, _, _⟩ := oSl ho8
                 clear hl7 hl8 hown7 ho8
                 refine HKK.out _ _ ?restr81_6
                 clear HKK K
                 try simp only [Act.put, sA, sB, sC]
                 refine wpAny_ready (rs := [7]) (by kernel_rfl) (by simp) ?_
                 refine AllReady.cons (o := ?or83_7) ?hor83_7 (fun K hK' => ?stepr83_7) (AllReady.nil)
                 case hor83_7 => simp only [gA, gB, gC]; exact rfl
                 case stepr83_7 =>
                  have HKK := Lib.hid hK'
                  clear hK'
                  obtain ⟨b0, b1⟩ := mcell2 hM.book
                  have z0 := mfree hM.book 0
                  have z1 := mfree hM.book 1
                  go_simp
                  clear b0 b1 z0 z1
                  replace hM := hM.setBook hTR hF7 hF8
                  clear hTR hF8 hF7
                  refine HKK.out _ _ ?restr83_7
                  clear HKK K
                  try simp only [Act.put, sA, sB, sC]
                  refine wpAny_done (by kernel_rfl) ?_ _
                  go_wp2_with fail
                  go_meet
                  exact ⟨_, _, by simpa using hM⟩
              case stepr78_5 =>
               have hsz : w.heap.size + 3 ≤ wa74.heap.size := by have := hlT hM.res; omega
               refine step_appX _ rfl _ _ rfl (w.heap.size + 3) _ rfl 0 [] hX TA M TC (ta_nil hTA) t rfl wa74.heap.size (ta_lst hTA hM.rows.one EDR.out HT.out) (by omega) (by omega) hsz ?_
               intro r7 u84 hown7 hgrow7 _
               have hlx := hX.lt
               replace hM := hM.keepGrown hgrow7 (fun q hq => (hlx q hq).1) (fun q hq => ⟨(hXn q hq).2, (hXn q hq).1, mt_apart hX hM.recs (by decide) q hq⟩)
               obtain ⟨A7, d7, rfl, _, _⟩ := oSl hown7
               clear hgrow7 hlx hX hXn
               refine hK' _ _ ?restr78_5
               clear hK' K
               try simp only [Act.put, sA, sB, sC]
               refine wpAny_ready (rs := [0]) (by kernel_rfl) (by simp) ?_
               refine AllReady.cons (o := ?or85_0) ?hor85_0 (fun K hK' => ?stepr85_0) (AllReady.nil)
               case hor85_0 => simp only [gA, gB, gC]; exact rfl
               case stepr85_0 =>
                have HKK := Lib.hid hK'
                clear hK'
                obtain ⟨b0, b1⟩ := mcell2 hM.book
                go_simp
                clear b0 b1
                refine HKK.out _ _ ?restr85_0
                clear HKK K
                try simp only [Act.put, sA, sB, sC]
                refine wpAny_ready (rs := [6]) (by kernel_rfl) (by simp) ?_
                refine AllReady.cons (o := ?or86_6) ?hor86_6 (fun K hK' => ?stepr86_6) (AllReady.nil)
                case hor86_6 => simp only [gA, gB, gC]; exact rfl
                case stepr86_6 =>
                 have HKK := Lib.hid hK'
                 clear hK'
                 go_simp
                 go_at_call 64
                 refine (spec_l2With1 _ _ _ _ _ _ (Z) zb A7 _ d7 u84 (Lst.of_own hM.rows.one) (Lst.of_own hM.rows.two) (by omega) (by omega) (mt_nil hM.rows.one) (mt_nil hM.rows.two)).mono ?_
                 rintro e u87 ⟨⟨r8, rfl, ho8, _⟩, hb8⟩
                 have hl7 := hown7.lt
                 have hl8 := ho8.lt
                 have hsz6 : w.heap.size + 3 ≤ u84.heap.size := by have := hlT hM.res; omega
                 replace hown7 := oBw hown7 hb8
                 replace hM := hM.later hb8
                 clear hb8
                 have hTR : TwoRows u87 base (.slice A7 (0 + M) d7) (0 + M) ([] ++ t) r8 m zb := ⟨oMn hown7 (by omega), oMn ho8 (by omega), fun q h1 h2 => by have a := (hl7 q h1).2; have b := (hl8 q h2).1; omega⟩
                 have hF8 : MtFar w.heap.size r8 := fun q hq => .inr (by have := (hl8 q hq).1; omega)
                 have hF7 : MtFar w.heap.size (.slice A7 (0 + M) d7) := fun q hq => .inr (hl7 q hq).1
                 obtain ⟨A8, d8, rfl, _, _⟩ := oSl ho8
                 clear hl7 hl8 hown7 ho8
                 refine HKK.out _ _ ?restr86_6
                 clear HKK K
                 try simp only [Act.put, sA, sB, sC]
                 refine wpAny_ready (rs := [7]) (by kernel_rfl) (by simp) ?_
                 refine AllReady.cons (o := ?or88_7) ?hor88_7 (fun K hK' => ?stepr88_7) (AllReady.nil)
                 case hor88_7 => simp only [gA, gB, gC]; exact rfl
                 case stepr88_7 =>
                  have HKK := Lib.hid hK'
                  clear hK'
                  obtain ⟨b0, b1⟩ := mcell2 hM.book
                  have z0 := mfree hM.book 0
                  have z1 := mfree hM.book 1
                  go_simp
                  clear b0 b1 z0 z1
                  replace hM := hM.setBook hTR hF7 hF8
                  clear hTR hF8 hF7
                  refine HKK.out _ _ ?restr88_7
                  clear HKK K
                  try simp only [Act.put, sA, sB, sC]
                  refine wpAny_done (by kernel_rfl) ?_ _
                  go_wp2_with fail
                  go_meet
                  exact ⟨_, _, by simpa using hM⟩
            case rest =>
             obtain ⟨u1, u2, hM⟩ := hcut
             obtain ⟨A, de, Ak, dk, rfl, rfl⟩ := hM.rows.slices
             by_cases hm2 : mode = 2
             · subst hm2
               go_wp2_with fail
               go_roundg g
               case measure => omega
               case rel => exact ⟨M, N + 1, t, _, q, _, _, (by rw [HEQ.out]; (conv => lhs; rw [EZ.out, mtS_cons, if_pos (And.intro hq HMT.out), if_pos HA.out, if_neg HM1.out, if_pos rfl])), fun _ => by omega, HT.out, by rw [List.length_append, HR.out]; simp [canR]; omega, by omega, fun _ => by omega, by omega, by omega, fun _ => qtyOk_tail (by rw [← EZ.out]; exact HQT.out), q0, q1, hM, trivial⟩
             · have HM2 := Lib.hid hm2
               have tm2 : (mode != 2) = true := by simpa using hm2
               clear hm2
               have HF : Hid (mtS 2 oi oa op mode za [] oq = (t, R ++ canR (num Z 0) (num Z 1) (num Z 2) (num Z 3) ++ canR oi oa op q, 0)) := Lib.hid (by rw [HEQ.out]; (conv => lhs; rw [EZ.out, mtS_cons, if_pos (And.intro hq HMT.out), if_pos HA.out, if_neg HM1.out, if_neg HM2.out]))
               obtain ⟨o0, o1, o2, o3⟩ := mcell4 hM.ord
               rename World => wc
               have hsG : w.heap.size + 3 ≤ wc.heap.size := by have := hlT hM.res; omega
               have hrl := hM.recs.lt
               go_wp2_with (at_builtin; refine wpList_append_own_at _ rfl _ _ 31 rfl (w.heap.size + 3) 48 i0 _ 8 64 Tryz.underlying31 hi hz0 hz1 hz2 rfl (by decide) _ _ _ rfl (hM.recs.alloc _) ⟨wc.heap.size, 0, none⟩ 1 1 [.int .i64 (0), .int .i64 (4), .int .i64 (0), .int .i64 (oa), .int .i64 (oi), .int .i64 (0), .int .i64 (op), .int .i64 (q)] rfl rfl (World.news_of_block (heap_alloc_new wc _)) (nums_one (canR oi oa op q)) (by unfold maxLen; omega) (by omega) (by simp; omega) ?_)
               intro v' wk hown hgrow _ _
               replace hM := (hM.later ((Below.refl _ _).alloc (Nat.le_refl _) (.cells #[.int .i64 (0), .int .i64 (4), .int .i64 (0), .int .i64 (oa), .int .i64 (oi), .int .i64 (0), .int .i64 (op), .int .i64 (q)] 48))).more (R' := (R ++ canR (num Z 0) (num Z 1) (num Z 2) (num Z 3)) ++ canR oi oa op q) (by rw [nums_append]; exact hown) hgrow
               obtain ⟨Ar, dr, rfl, _, _⟩ := oSl hown
               clear hown hgrow hrl hsG
               clear o0 o1 o2 o3
               have f0 := mfree hM.res 0
               have f1 := mfree hM.res 1
               obtain ⟨r0, r1⟩ := mcell2 hM.res
               obtain ⟨b0, b1⟩ := mcell2 hM.book
               have HD := Lib.hid (hM.done)
               go_wp2_with fail
               obtain ⟨⟨g0, g1⟩, hrows, hrecs, hbelf⟩ := HD.out
               exact bodyPost_ret (v := .tuple #[.agg #[(.slice A M de), (.slice Ak m dk)], (.slice Ar (N + 1 + 1) dr), .int .i64 0]) (by simp [results, Tryz.results66, go_sem, g0, g1]) rfl ⟨⟨_, _, _, _, _, by rw [HF.out], by rw [HF.out]; exact hrows, by rw [HF.out]; exact oMn hrecs (by omega), by omega, by omega⟩, hbelf⟩
        · have HA := Lib.hid ha
          have t1 : (num Z 1 == oa) = false := beq_eq_false_iff_ne.2 ha
          clear ha
          obtain ⟨T, tmn, T1, T2, T3, T4⟩ : ∃ T, min q (num Z 3) = T ∧ T ≤ q ∧ T ≤ num Z 3 ∧ 1 ≤ T ∧ (T = q ∨ T = num Z 3) := ⟨_, rfl, by omega, by omega, by omega, by omega⟩
          have HT4 := Lib.hid T4
          clear T4
          have hsG : w.heap.size + 3 ≤ wh.heap.size := by have := hlT hM.res; omega
          have hrl := hM.recs.lt
          go_wp2_with (at_builtin; refine wpList_append_own_at _ rfl _ _ 31 rfl (w.heap.size + 3) 48 i0 _ 8 64 Tryz.underlying31 hi hz0 hz1 hz2 rfl (by decide) _ _ _ rfl (hM.recs.alloc _) ⟨wh.heap.size, 0, none⟩ 1 1 [.int .i64 (0), .int .i64 (3), .int .i64 (0), .int .i64 (oa), .int .i64 (oi), .int .i64 (num Z 0), .int .i64 (num Z 2), .int .i64 (T)] rfl rfl (World.news_of_block (heap_alloc_new wh _)) (nums_one (filR oi oa (num Z 0) (num Z 2) (T))) (by unfold maxLen; omega) (by omega) (by simp; omega) ?_)
          intro v' wk hown hgrow _ _
          replace hH := (hgrow.block gh (by have := hlT hH; simp; omega) (fun e => mt_apart hM.recs (own_of_box hH) (by decide) gh e.symm rfl)).trans ((Below.heap_alloc wh _ gh (hlT hH)).trans hH)
          replace hM := (hM.later ((Below.refl _ _).alloc (Nat.le_refl _) (.cells #[.int .i64 (0), .int .i64 (3), .int .i64 (0), .int .i64 (oa), .int .i64 (oi), .int .i64 (num Z 0), .int .i64 (num Z 2), .int .i64 (T)] 48))).more (R' := R ++ filR oi oa (num Z 0) (num Z 2) (T)) (by rw [nums_append]; exact hown) hgrow
          obtain ⟨Ar, dr, rfl, _, _⟩ := oSl hown
          clear hown hgrow hrl hsG
          clear o0 o1 o2 o3 b0 b1 h0 h1 h2 h3
          clear t1 tmn
          obtain ⟨o0, o1, o2, o3⟩ := mcell4 hM.ord
          obtain ⟨b0, b1⟩ := mcell2 hM.book
          obtain ⟨h0, h1, h2, h3⟩ := mcell4 hH
          have zo := mfree hM.ord 3
          have ho1 : gh ≠ w.heap.size + 1 := by omega
          go_upto_region 18 with fail
          clear o0 o1 o2 o3 b0 b1 h0 h1 h2 h3 zo
          replace hH := mSo (S := w.heap.size + 1) (i := 3) (u := .int .i64 (q - T)) hH ho1
          replace hM := hM.setQ (q - T)
          generalize wk.setCell ⟨w.heap.size + 1, 3, none⟩ (.int .i64 (q - T)) = ws at *
          obtain ⟨o0, o1, o2, o3⟩ := mcell4 hM.ord
          obtain ⟨b0, b1⟩ := mcell2 hM.book
          obtain ⟨h0, h1, h2, h3⟩ := mcell4 hH
          have zh := mfree hH 3
          go_upto_region 19 with fail
          clear o0 o1 o2 o3 b0 b1 h0 h1 h2 h3 zh
          replace hM := hM.setH (i := 3) (u := .int .i64 (num Z 3 - T)) hH (by omega) hk2 hk1
          replace hH := mset4_3 (u := .int .i64 (num Z 3 - T)) hH
          generalize ws.setCell ⟨gh, 3, none⟩ (.int .i64 (num Z 3 - T)) = wt at *
          obtain ⟨o0, o1, o2, o3⟩ := mcell4 hM.ord
          obtain ⟨b0, b1⟩ := mcell2 hM.book
          obtain ⟨h0, h1, h2, h3⟩ := mcell4 hH
          have hXn : ∀ q, (Value.slice (some ⟨wt.heap.size, 0, none⟩) 0 0).ownBlock = some q → (Value.slice Ak m dk).ownBlock ≠ some q ∧ (Value.slice (some ⟨gz, 0, none⟩) (M + 1) dd).ownBlock ≠ some q := fun q hq => by simp only [Value.ownBlock, Option.map_some, Option.some.injEq] at hq; subst hq; exact ⟨fun e => absurd (hM.rows.two.lt _ e).2 (Nat.lt_irrefl _), fun e => absurd (hM.rows.one.lt _ e).2 (Nat.lt_irrefl _)⟩
          have hsT : w.heap.size + 3 ≤ wt.heap.size := by have := hlT hM.res; omega
          have hX := oMn (base' := w.heap.size + 3) (own_empty wt 65 4) hsT
          go_upto_region 20 with fail
          clear o0 o1 o2 o3 b0 b1 h0 h1 h2 h3
          replace hM := hM.later ((Below.refl _ _).alloc (Nat.le_refl _) (.cells #[] 65))
          replace hH := (Below.heap_alloc wt (.cells #[] 65) gh (hlT hH)).trans hH
          generalize wt.alloc (.cells #[] 65) = wv at *
          generalize wt.heap.size = gx at *
          obtain ⟨o0, o1, o2, o3⟩ := mcell4 hM.ord
          obtain ⟨b0, b1⟩ := mcell2 hM.book
          obtain ⟨h0, h1, h2, h3⟩ := mcell4 hH
          by_cases hrest : T < num Z 3
          · have hr0 : 0 < num Z 3 - T := by omega
            have HRE := Lib.hid hrest
            have hTq : T = q := by rcases HT4.out with h | h <;> omega
            have HTQ := Lib.hid hTq
            clear hTq
            obtain ⟨j0, hj, jz0, jz1, jz2⟩ := info_parts ord_info
            skip
            have hsV : w.heap.size + 3 ≤ wv.heap.size := by have := hlT hM.res; omega
            go_wp2_with (at_builtin; refine wpList_append_own_at _ rfl _ _ 28 rfl (w.heap.size + 3) 65 j0 _ 4 32 Tryz.underlying28 hj jz0 jz1 jz2 rfl (by decide) _ _ _ rfl (hX.alloc _) ⟨wv.heap.size, 0, none⟩ 1 1 [.int .i64 (num Z 0), .int .i64 (num Z 1), .int .i64 (num Z 2), .int .i64 (num Z 3 - T)] rfl rfl (World.news_of_block (heap_alloc_new wv _)) (nums_one [num Z 0, num Z 1, num Z 2, num Z 3 - T]) (by unfold maxLen; omega) (by omega) (by simp; omega) ?_)
            intro v' wz2 hown hgrow _ hat
            have hXa := hX.alloc (.cells #[.int .i64 (num Z 0), .int .i64 (num Z 1), .int .i64 (num Z 2), .int .i64 (num Z 3 - T)] 65)
            have hMa := hM.later ((Below.refl _ _).alloc (Nat.le_refl _) (.cells #[.int .i64 (num Z 0), .int .i64 (num Z 1), .int .i64 (num Z 2), .int .i64 (num Z 3 - T)] 65))
            have hXm := mt_apart hXa hMa.recs (by decide)
            replace hM := hMa.keepGrown hgrow (fun q hq => (hXa.lt q hq).1) (fun q hq => ⟨(hXn q hq).2, (hXn q hq).1, hXm q hq⟩)
            replace hXn : ∀ q, v'.ownBlock = some q → (Value.slice Ak m dk).ownBlock ≠ some q ∧ (Value.slice (some ⟨gz, 0, none⟩) (M + 1) dd).ownBlock ≠ some q := fun q hq => by
             rcases hat with h | h
             · exact hXn q (h.symm.trans hq)
             · rw [h] at hq; injection hq with hq; subst hq; exact ⟨fun e => by have := (hMa.rows.two.lt _ e).2; simp at this, fun e => by have := (hMa.rows.one.lt _ e).2; simp at this⟩
            replace hX : wz2.ownsRow (w.heap.size + 3) 65 4 v' 1 (nums [num Z 0, num Z 1, num Z 2, num Z 3 - T]) := by simpa [nums] using hown
            obtain ⟨AX, dx, rfl, _, _⟩ := oSl hX
            clear hown hgrow hat hXa hMa hXm h0 h1 h2 h3 hH hk1 hk2 hrest hr0
            go_upto_region 22 with fail
            refine wp_region_any (by kernel_rfl) ?_
            change wpAny _ _ _ _ _ _ _ (World.drew _)
            replace hM := hM.drew
            replace hX : World.ownsRow (World.drew _) _ _ _ _ _ _ := hX
            generalize World.drew _ = wd at *
            refine wpAny_take (i := 1) (oi := ?oit89) (v := ?vt89) ?hit89 (by kernel_rfl) (by kernel_rfl) (by kernel_rfl) ?hQt89 (Or.inl ⟨?hwt89, ?hyt89⟩) ?restt89
            case hit89 => simp only [gA, gB, gC]; exact rfl
            case hQt89 => exact fun _ _ _ h => h
            case hwt89 => rfl
            case hyt89 => ((intro w; go_simp) <;> with_reducible rfl)
            try simp only [Act.put, sA, sB, sC]
            refine wpAny_take (i := 2) (oi := ?oit90) (v := ?vt90) ?hit90 (by kernel_rfl) (by kernel_rfl) (by kernel_rfl) ?hQt90 (Or.inl ⟨?hwt90, ?hyt90⟩) ?restt90
            case hit90 => simp only [gA, gB, gC]; exact rfl
            case hQt90 => exact fun _ _ _ h => h
            case hwt90 => rfl
            case hyt90 => ((intro w; go_simp) <;> with_reducible rfl)
            try simp only [Act.put, sA, sB, sC]
            refine wpAny_take (i := 3) (oi := ?oit91) (v := ?vt91) ?hit91 (by kernel_rfl) (by kernel_rfl) (by kernel_rfl) ?hQt91 (Or.inl ⟨?hwt91, ?hyt91⟩) ?restt91
            case hit91 => simp only [gA, gB, gC]; exact rfl
            case hQt91 => exact fun _ _ _ h => h
            case hwt91 => rfl
            case hyt91 => ((intro w; go_simp) <;> with_reducible rfl)
            try simp only [Act.put, sA, sB, sC]
            refine wpAny_take (i := 4) (oi := ?oit92) (v := (.slice TA M TC)) ?hit92 (by kernel_rfl) (by kernel_rfl) (by kernel_rfl) ?hQt92 (Or.inl ⟨?hwt92, ?hyt92⟩) ?restt92
            case hit92 => simp only [gA, gB, gC]; exact rfl
            case hQt92 => exact fun _ _ _ h => h
            case hwt92 => rfl
            case hyt92 => (rcases hTA with ⟨rfl, rfl, rfl, rfl⟩ | ⟨hd1, rfl, rfl⟩; (((intro w; go_simp) <;> with_reducible rfl)); (have hd2 : ¬ dd = 1 := by omega); (((intro w; go_simp) <;> with_reducible rfl)))
            try simp only [Act.put, sA, sB, sC]
            refine wpAny_ready (rs := [0, 5]) (by kernel_rfl) (by simp) ?_
            refine AllReady.cons (o := ?or93_0) ?hor93_0 (fun K hK' => ?stepr93_0) (AllReady.cons (o := ?or93_5) ?hor93_5 (fun K hK' => ?stepr93_5) (AllReady.nil))
            case hor93_0 => simp only [gA, gB, gC]; exact rfl
            case hor93_5 => simp only [gA, gB, gC]; exact rfl
            case stepr93_0 =>
             have HKK := Lib.hid hK'
             clear hK'
             obtain ⟨b0, b1⟩ := mcell2 hM.book
             go_simp
             clear b0 b1
             refine HKK.out _ _ ?restr93_0
             clear HKK K
             try simp only [Act.put, sA, sB, sC]
             refine wpAny_ready (rs := [5]) (by kernel_rfl) (by simp) ?_
             refine AllReady.cons (o := ?or94_5) ?hor94_5 (fun K hK' => ?stepr94_5) (AllReady.nil)
             case hor94_5 => simp only [gA, gB, gC]; exact rfl
             case stepr94_5 =>
              have hsz : w.heap.size + 3 ≤ wd.heap.size := by have := hlT hM.res; omega
              refine step_appX _ rfl _ _ rfl (w.heap.size + 3) _ rfl 1 [num Z 0, num Z 1, num Z 2, num Z 3 - T] hX TA M TC (ta_nil hTA) t rfl wd.heap.size (ta_lst hTA hM.rows.one EDR.out HT.out) (by omega) (by omega) hsz ?_
              intro r7 u95 hown7 hgrow7 _
              have hlx := hX.lt
              replace hM := hM.keepGrown hgrow7 (fun q hq => (hlx q hq).1) (fun q hq => ⟨(hXn q hq).2, (hXn q hq).1, mt_apart hX hM.recs (by decide) q hq⟩)
              obtain ⟨A7, d7, rfl, _, _⟩ := oSl hown7
              clear hgrow7 hlx hX hXn
              refine hK' _ _ ?restr94_5
              clear hK' K
              try simp only [Act.put, sA, sB, sC]
              refine wpAny_ready (rs := [6]) (by kernel_rfl) (by simp) ?_
              refine AllReady.cons (o := ?or96_6) ?hor96_6 (fun K hK' => ?stepr96_6) (AllReady.nil)
              case hor96_6 => simp only [gA, gB, gC]; exact rfl
              case stepr96_6 =>
               have HKK := Lib.hid hK'
               clear hK'
               go_simp
               go_at_call 64
               refine (spec_l2With1 _ _ _ _ _ _ (Z) zb A7 _ d7 u95 (Lst.of_own hM.rows.one) (Lst.of_own hM.rows.two) (by omega) (by omega) (mt_nil hM.rows.one) (mt_nil hM.rows.two)).mono ?_
               rintro e u97 ⟨⟨r8, rfl, ho8, _⟩, hb8⟩
               have hl7 := hown7.lt
               have hl8 := ho8.lt
               have hsz6 : w.heap.size + 3 ≤ u95.heap.size := by have := hlT hM.res; omega
               replace hown7 := oBw hown7 hb8
               replace hM := hM.later hb8
               clear hb8
               have hTR : TwoRows u97 base (.slice A7 (1 + M) d7) (1 + M) ([num Z 0, num Z 1, num Z 2, num Z 3 - T] ++ t) r8 m zb := ⟨oMn hown7 (by omega), oMn ho8 (by omega), fun q h1 h2 => by have a := (hl7 q h1).2; have b := (hl8 q h2).1; omega⟩
               have hF8 : MtFar w.heap.size r8 := fun q hq => .inr (by have := (hl8 q hq).1; omega)
               have hF7 : MtFar w.heap.size (.slice A7 (1 + M) d7) := fun q hq => .inr (hl7 q hq).1
               obtain ⟨A8, d8, rfl, _, _⟩ := oSl ho8
               clear hl7 hl8 hown7 ho8
               refine HKK.out _ _ ?restr96_6
               clear HKK K
               try simp only [Act.put, sA, sB, sC]
               refine wpAny_ready (rs := [7]) (by kernel_rfl) (by simp) ?_
               refine AllReady.cons (o := ?or98_7) ?hor98_7 (fun K hK' => ?stepr98_7) (AllReady.nil)
               case hor98_7 => simp only [gA, gB, gC]; exact rfl
               case stepr98_7 =>
                have HKK := Lib.hid hK'
                clear hK'
                obtain ⟨b0, b1⟩ := mcell2 hM.book
                have z0 := mfree hM.book 0
                have z1 := mfree hM.book 1
                go_simp
                clear b0 b1 z0 z1
                replace hM := hM.setBook hTR hF7 hF8
                clear hTR hF8 hF7
                refine HKK.out _ _ ?restr98_7
                clear HKK K
                try simp only [Act.put, sA, sB, sC]
                refine wpAny_done (by kernel_rfl) ?_ _
                go_wp2_with fail
                go_roundg g
                case measure => omega
                case rel => exact ⟨1 + M, N + 1, [num Z 0, num Z 1, num Z 2, num Z 3 - T] ++ t, _, q - T, _, _, (by rw [HEQ.out]; (conv => lhs; rw [EZ.out, mtS_cons, if_pos (And.intro hq HMT.out), if_neg HA.out, if_neg (show ¬ num Z 3 ≤ q by have := HRE.out; have := HTQ.out; omega)]); rw [show q - T = 0 by have := HTQ.out; omega, HTQ.out]; exact (mtS_done (by omega) (1 + M) (by simp [HT.out]; omega)).symm), fun h => absurd h (by have := HTQ.out; omega), by simp [HT.out]; omega, by rw [List.length_append, HR.out]; simp [filR]; omega, by omega, fun h => absurd h (by have := HTQ.out; omega), by omega, by omega, fun h => absurd h (by have := HTQ.out; omega), by omega, by omega, hM, trivial⟩
            case stepr93_5 =>
             have hsz : w.heap.size + 3 ≤ wd.heap.size := by have := hlT hM.res; omega
             refine step_appX _ rfl _ _ rfl (w.heap.size + 3) _ rfl 1 [num Z 0, num Z 1, num Z 2, num Z 3 - T] hX TA M TC (ta_nil hTA) t rfl wd.heap.size (ta_lst hTA hM.rows.one EDR.out HT.out) (by omega) (by omega) hsz ?_
             intro r7 u99 hown7 hgrow7 _
             have hlx := hX.lt
             replace hM := hM.keepGrown hgrow7 (fun q hq => (hlx q hq).1) (fun q hq => ⟨(hXn q hq).2, (hXn q hq).1, mt_apart hX hM.recs (by decide) q hq⟩)
             obtain ⟨A7, d7, rfl, _, _⟩ := oSl hown7
             clear hgrow7 hlx hX hXn
             refine hK' _ _ ?restr93_5
             clear hK' K
             try simp only [Act.put, sA, sB, sC]
             refine wpAny_ready (rs := [0]) (by kernel_rfl) (by simp) ?_
             refine AllReady.cons (o := ?or100_0) ?hor100_0 (fun K hK' => ?stepr100_0) (AllReady.nil)
             case hor100_0 => simp only [gA, gB, gC]; exact rfl
             case stepr100_0 =>
              have HKK := Lib.hid hK'
              clear hK'
              obtain ⟨b0, b1⟩ := mcell2 hM.book
              go_simp
              clear b0 b1
              refine HKK.out _ _ ?restr100_0
              clear HKK K
              try simp only [Act.put, sA, sB, sC]
              refine wpAny_ready (rs := [6]) (by kernel_rfl) (by simp) ?_
              refine AllReady.cons (o := ?or101_6) ?hor101_6 (fun K hK' => ?stepr101_6) (AllReady.nil)
              case hor101_6 => simp only [gA, gB, gC]; exact rfl
              case stepr101_6 =>
               have HKK := Lib.hid hK'
               clear hK'
               go_simp
               go_at_call 64
               refine (spec_l2With1 _ _ _ _ _ _ (Z) zb A7 _ d7 u99 (Lst.of_own hM.rows.one) (Lst.of_own hM.rows.two) (by omega) (by omega) (mt_nil hM.rows.one) (mt_nil hM.rows.two)).mono ?_
               rintro e u102 ⟨⟨r8, rfl, ho8, _⟩, hb8⟩
               have hl7 := hown7.lt
               have hl8 := ho8.lt
               have hsz6 : w.heap.size + 3 ≤ u99.heap.size := by have := hlT hM.res; omega
               replace hown7 := oBw hown7 hb8
               replace hM := hM.later hb8
               clear hb8
               have hTR : TwoRows u102 base (.slice A7 (1 + M) d7) (1 + M) ([num Z 0, num Z 1, num Z 2, num Z 3 - T] ++ t) r8 m zb := ⟨oMn hown7 (by omega), oMn ho8 (by omega), fun q h1 h2 => by have a := (hl7 q h1).2; have b := (hl8 q h2).1; omega⟩
               have hF8 : MtFar w.heap.size r8 := fun q hq => .inr (by have := (hl8 q hq).1; omega)
               have hF7 : MtFar w.heap.size (.slice A7 (1 + M) d7) := fun q hq => .inr (hl7 q hq).1
               obtain ⟨A8, d8, rfl, _, _⟩ := oSl ho8
               clear hl7 hl8 hown7 ho8
               refine HKK.out _ _ ?restr101_6
               clear HKK K
               try simp only [Act.put, sA, sB, sC]
               refine wpAny_ready (rs := [7]) (by kernel_rfl) (by simp) ?_
               refine AllReady.cons (o := ?or103_7) ?hor103_7 (fun K hK' => ?stepr103_7) (AllReady.nil)
               case hor103_7 => simp only [gA, gB, gC]; exact rfl
               case stepr103_7 =>
                have HKK := Lib.hid hK'
                clear hK'
                obtain ⟨b0, b1⟩ := mcell2 hM.book
                have z0 := mfree hM.book 0
                have z1 := mfree hM.book 1
                go_simp
                clear b0 b1 z0 z1
                replace hM := hM.setBook hTR hF7 hF8
                clear hTR hF8 hF7
                refine HKK.out _ _ ?restr103_7
                clear HKK K
                try simp only [Act.put, sA, sB, sC]
                refine wpAny_done (by kernel_rfl) ?_ _
                go_wp2_with fail
                go_roundg g
                case measure => omega
                case rel => exact ⟨1 + M, N + 1, [num Z 0, num Z 1, num Z 2, num Z 3 - T] ++ t, _, q - T, _, _, (by rw [HEQ.out]; (conv => lhs; rw [EZ.out, mtS_cons, if_pos (And.intro hq HMT.out), if_neg HA.out, if_neg (show ¬ num Z 3 ≤ q by have := HRE.out; have := HTQ.out; omega)]); rw [show q - T = 0 by have := HTQ.out; omega, HTQ.out]; exact (mtS_done (by omega) (1 + M) (by simp [HT.out]; omega)).symm), fun h => absurd h (by have := HTQ.out; omega), by simp [HT.out]; omega, by rw [List.length_append, HR.out]; simp [filR]; omega, by omega, fun h => absurd h (by have := HTQ.out; omega), by omega, by omega, fun h => absurd h (by have := HTQ.out; omega), by omega, by omega, hM, trivial⟩
          · have hr0 : num Z 3 - T = 0 := by omega
            have hTC : T = num Z 3 := by omega
            have HTC := Lib.hid hTC
            rw [hr0] at hH
            clear h0 h1 h2 h3
            obtain ⟨h0, h1, h2, h3⟩ := mcell4 hH
            have HR0 := Lib.hid hr0
            clear hTC hr0 hrest
            go_upto_region 22 with fail
            clear o0 o1 o2 o3 b0 b1 h0 h1 h2 h3
            clear hH hk1 hk2
            go_upto_region 22 with fail
            refine wp_region_any (by kernel_rfl) ?_
            change wpAny _ _ _ _ _ _ _ (World.drew _)
            replace hM := hM.drew
            replace hX : World.ownsRow (World.drew _) _ _ _ _ _ _ := hX
            generalize World.drew _ = wd at *
            refine wpAny_take (i := 1) (oi := ?oit104) (v := ?vt104) ?hit104 (by kernel_rfl) (by kernel_rfl) (by kernel_rfl) ?hQt104 (Or.inl ⟨?hwt104, ?hyt104⟩) ?restt104
            case hit104 => simp only [gA, gB, gC]; exact rfl
            case hQt104 => exact fun _ _ _ h => h
            case hwt104 => rfl
            case hyt104 => ((intro w; go_simp) <;> with_reducible rfl)
            try simp only [Act.put, sA, sB, sC]
            refine wpAny_take (i := 2) (oi := ?oit105) (v := ?vt105) ?hit105 (by kernel_rfl) (by kernel_rfl) (by kernel_rfl) ?hQt105 (Or.inl ⟨?hwt105, ?hyt105⟩) ?restt105
            case hit105 => simp only [gA, gB, gC]; exact rfl
            case hQt105 => exact fun _ _ _ h => h
            case hwt105 => rfl
            case hyt105 => ((intro w; go_simp) <;> with_reducible rfl)
            try simp only [Act.put, sA, sB, sC]
            refine wpAny_take (i := 3) (oi := ?oit106) (v := ?vt106) ?hit106 (by kernel_rfl) (by kernel_rfl) (by kernel_rfl) ?hQt106 (Or.inl ⟨?hwt106, ?hyt106⟩) ?restt106
            case hit106 => simp only [gA, gB, gC]; exact rfl
            case hQt106 => exact fun _ _ _ h => h
            case hwt106 => rfl
            case hyt106 => ((intro w; go_simp) <;> with_reducible rfl)
            try simp only [Act.put, sA, sB, sC]
            refine wpAny_take (i := 4) (oi := ?oit107) (v := (.slice TA M TC)) ?hit107 (by kernel_rfl) (by kernel_rfl) (by kernel_rfl) ?hQt107 (Or.inl ⟨?hwt107, ?hyt107⟩) ?restt107
            case hit107 => simp only [gA, gB, gC]; exact rfl
            case hQt107 => exact fun _ _ _ h => h
            case hwt107 => rfl
            case hyt107 => (rcases hTA with ⟨rfl, rfl, rfl, rfl⟩ | ⟨hd1, rfl, rfl⟩; (((intro w; go_simp) <;> with_reducible rfl)); (have hd2 : ¬ dd = 1 := by omega); (((intro w; go_simp) <;> with_reducible rfl)))
            try simp only [Act.put, sA, sB, sC]
            refine wpAny_ready (rs := [0, 5]) (by kernel_rfl) (by simp) ?_
            refine AllReady.cons (o := ?or108_0) ?hor108_0 (fun K hK' => ?stepr108_0) (AllReady.cons (o := ?or108_5) ?hor108_5 (fun K hK' => ?stepr108_5) (AllReady.nil))
            case hor108_0 => simp only [gA, gB, gC]; exact rfl
            case hor108_5 => simp only [gA, gB, gC]; exact rfl
            case stepr108_0 =>
             have HKK := Lib.hid hK'
             clear hK'
             obtain ⟨b0, b1⟩ := mcell2 hM.book
             go_simp
             clear b0 b1
             refine HKK.out _ _ ?restr108_0
             clear HKK K
             try simp only [Act.put, sA, sB, sC]
             refine wpAny_ready (rs := [5]) (by kernel_rfl) (by simp) ?_
             refine AllReady.cons (o := ?or109_5) ?hor109_5 (fun K hK' => ?stepr109_5) (AllReady.nil)
             case hor109_5 => simp only [gA, gB, gC]; exact rfl
             case stepr109_5 =>
              have hsz : w.heap.size + 3 ≤ wd.heap.size := by have := hlT hM.res; omega
              refine step_appX _ rfl _ _ rfl (w.heap.size + 3) _ rfl 0 [] hX TA M TC (ta_nil hTA) t rfl wd.heap.size (ta_lst hTA hM.rows.one EDR.out HT.out) (by omega) (by omega) hsz ?_
              intro r7 u110 hown7 hgrow7 _
              have hlx := hX.lt
              replace hM := hM.keepGrown hgrow7 (fun q hq => (hlx q hq).1) (fun q hq => ⟨(hXn q hq).2, (hXn q hq).1, mt_apart hX hM.recs (by decide) q hq⟩)
              obtain ⟨A7, d7, rfl, _, _⟩ := oSl hown7
              clear hgrow7 hlx hX hXn
              refine hK' _ _ ?restr109_5
              clear hK' K
              try simp only [Act.put, sA, sB, sC]
              refine wpAny_ready (rs := [6]) (by kernel_rfl) (by simp) ?_
              refine AllReady.cons (o := ?or111_6) ?hor111_6 (fun K hK' => ?stepr111_6) (AllReady.nil)
              case hor111_6 => simp only [gA, gB, gC]; exact rfl
              case stepr111_6 =>
               have HKK := Lib.hid hK'
               clear hK'
               go_simp
               go_at_call 64
               refine (spec_l2With1 _ _ _ _ _ _ (Z) zb A7 _ d7 u110 (Lst.of_own hM.rows.one) (Lst.of_own hM.rows.two) (by omega) (by omega) (mt_nil hM.rows.one) (mt_nil hM.rows.two)).mono ?_
               rintro e u112 ⟨⟨r8, rfl, ho8, _⟩, hb8⟩
               have hl7 := hown7.lt
               have hl8 := ho8.lt
               have hsz6 : w.heap.size + 3 ≤ u110.heap.size := by have := hlT hM.res; omega
               replace hown7 := oBw hown7 hb8
               replace hM := hM.later hb8
               clear hb8
               have hTR : TwoRows u112 base (.slice A7 (0 + M) d7) (0 + M) ([] ++ t) r8 m zb := ⟨oMn hown7 (by omega), oMn ho8 (by omega), fun q h1 h2 => by have a := (hl7 q h1).2; have b := (hl8 q h2).1; omega⟩
               have hF8 : MtFar w.heap.size r8 := fun q hq => .inr (by have := (hl8 q hq).1; omega)
               have hF7 : MtFar w.heap.size (.slice A7 (0 + M) d7) := fun q hq => .inr (hl7 q hq).1
               obtain ⟨A8, d8, rfl, _, _⟩ := oSl ho8
               clear hl7 hl8 hown7 ho8
               refine HKK.out _ _ ?restr111_6
               clear HKK K
               try simp only [Act.put, sA, sB, sC]
               refine wpAny_ready (rs := [7]) (by kernel_rfl) (by simp) ?_
               refine AllReady.cons (o := ?or113_7) ?hor113_7 (fun K hK' => ?stepr113_7) (AllReady.nil)
               case hor113_7 => simp only [gA, gB, gC]; exact rfl
               case stepr113_7 =>
                have HKK := Lib.hid hK'
                clear hK'
                obtain ⟨b0, b1⟩ := mcell2 hM.book
                have z0 := mfree hM.book 0
                have z1 := mfree hM.book 1
                go_simp
                clear b0 b1 z0 z1
                replace hM := hM.setBook hTR hF7 hF8
                clear hTR hF8 hF7
                refine HKK.out _ _ ?restr113_7
                clear HKK K
                try simp only [Act.put, sA, sB, sC]
                refine wpAny_done (by kernel_rfl) ?_ _
                go_wp2_with fail
                go_roundg g
                case measure => omega
                case rel => exact ⟨M, N + 1, t, R ++ filR oi oa (num Z 0) (num Z 2) (T), q - T, _, _, (by rw [HEQ.out]; (conv => lhs; rw [EZ.out, mtS_cons, if_pos (And.intro hq HMT.out), if_neg HA.out, if_pos (show num Z 3 ≤ q by have := HTC.out; omega)]); rw [HTC.out]), fun _ => by omega, HT.out, by rw [List.length_append, HR.out]; simp [filR]; omega, by omega, fun _ => by omega, by omega, by omega, fun _ => qtyOk_tail (by rw [← EZ.out]; exact HQT.out), by omega, by omega, by simpa using hM, trivial⟩
            case stepr108_5 =>
             have hsz : w.heap.size + 3 ≤ wd.heap.size := by have := hlT hM.res; omega
             refine step_appX _ rfl _ _ rfl (w.heap.size + 3) _ rfl 0 [] hX TA M TC (ta_nil hTA) t rfl wd.heap.size (ta_lst hTA hM.rows.one EDR.out HT.out) (by omega) (by omega) hsz ?_
             intro r7 u114 hown7 hgrow7 _
             have hlx := hX.lt
             replace hM := hM.keepGrown hgrow7 (fun q hq => (hlx q hq).1) (fun q hq => ⟨(hXn q hq).2, (hXn q hq).1, mt_apart hX hM.recs (by decide) q hq⟩)
             obtain ⟨A7, d7, rfl, _, _⟩ := oSl hown7
             clear hgrow7 hlx hX hXn
             refine hK' _ _ ?restr108_5
             clear hK' K
             try simp only [Act.put, sA, sB, sC]
             refine wpAny_ready (rs := [0]) (by kernel_rfl) (by simp) ?_
             refine AllReady.cons (o := ?or115_0) ?hor115_0 (fun K hK' => ?stepr115_0) (AllReady.nil)
             case hor115_0 => simp only [gA, gB, gC]; exact rfl
             case stepr115_0 =>
              have HKK := Lib.hid hK'
              clear hK'
              obtain ⟨b0, b1⟩ := mcell2 hM.book
              go_simp
              clear b0 b1
              refine HKK.out _ _ ?restr115_0
              clear HKK K
              try simp only [Act.put, sA, sB, sC]
              refine wpAny_ready (rs := [6]) (by kernel_rfl) (by simp) ?_
              refine AllReady.cons (o := ?or116_6) ?hor116_6 (fun K hK' => ?stepr116_6) (AllReady.nil)
              case hor116_6 => simp only [gA, gB, gC]; exact rfl
              case stepr116_6 =>
               have HKK := Lib.hid hK'
               clear hK'
               go_simp
               go_at_call 64
               refine (spec_l2With1 _ _ _ _ _ _ (Z) zb A7 _ d7 u114 (Lst.of_own hM.rows.one) (Lst.of_own hM.rows.two) (by omega) (by omega) (mt_nil hM.rows.one) (mt_nil hM.rows.two)).mono ?_
               rintro e u117 ⟨⟨r8, rfl, ho8, _⟩, hb8⟩
               have hl7 := hown7.lt
               have hl8 := ho8.lt
               have hsz6 : w.heap.size + 3 ≤ u114.heap.size := by have := hlT hM.res; omega
               replace hown7 := oBw hown7 hb8
               replace hM := hM.later hb8
               clear hb8
               have hTR : TwoRows u117 base (.slice A7 (0 + M) d7) (0 + M) ([] ++ t) r8 m zb := ⟨oMn hown7 (by omega), oMn ho8 (by omega), fun q h1 h2 => by have a := (hl7 q h1).2; have b := (hl8 q h2).1; omega⟩
               have hF8 : MtFar w.heap.size r8 := fun q hq => .inr (by have := (hl8 q hq).1; omega)
               have hF7 : MtFar w.heap.size (.slice A7 (0 + M) d7) := fun q hq => .inr (hl7 q hq).1
               obtain ⟨A8, d8, rfl, _, _⟩ := oSl ho8
               clear hl7 hl8 hown7 ho8
               refine HKK.out _ _ ?restr116_6
               clear HKK K
               try simp only [Act.put, sA, sB, sC]
               refine wpAny_ready (rs := [7]) (by kernel_rfl) (by simp) ?_
               refine AllReady.cons (o := ?or118_7) ?hor118_7 (fun K hK' => ?stepr118_7) (AllReady.nil)
               case hor118_7 => simp only [gA, gB, gC]; exact rfl
               case stepr118_7 =>
                have HKK := Lib.hid hK'
                clear hK'
                obtain ⟨b0, b1⟩ := mcell2 hM.book
                have z0 := mfree hM.book 0
                have z1 := mfree hM.book 1
                go_simp
                clear b0 b1 z0 z1
                replace hM := hM.setBook hTR hF7 hF8
                clear hTR hF8 hF7
                refine HKK.out _ _ ?restr118_7
                clear HKK K
                try simp only [Act.put, sA, sB, sC]
                refine wpAny_done (by kernel_rfl) ?_ _
                go_wp2_with fail
                go_roundg g
                case measure => omega
                case rel => exact ⟨M, N + 1, t, R ++ filR oi oa (num Z 0) (num Z 2) (T), q - T, _, _, (by rw [HEQ.out]; (conv => lhs; rw [EZ.out, mtS_cons, if_pos (And.intro hq HMT.out), if_neg HA.out, if_pos (show num Z 3 ≤ q by have := HTC.out; omega)]); rw [HTC.out]), fun _ => by omega, HT.out, by rw [List.length_append, HR.out]; simp [filR]; omega, by omega, fun _ => by omega, by omega, by omega, fun _ => qtyOk_tail (by rw [← EZ.out]; exact HQT.out), by omega, by omega, by simpa using hM, trivial⟩
      · have HMT := Lib.hid hmt
        have HF : Hid (mtS 2 oi oa op mode za [] oq = (Z, R, q)) := Lib.hid (by
         rw [HEQ.out]
         conv => lhs; rw [EZ.out, mtS_cons, if_neg (fun h => by rw [hmt] at h; exact absurd h.2 (by decide))]
         rw [← EZ.out])
        go_upto_region 5 with fail
        go_quiet ((go_at_call 70; exact Calls.quiet_of_same (meets_no _ _ _ _ HMT.out)))
        clear z0 z1 z2 z3
        go_upto_region 6 with fail
        rename Nat => nq
        clear o0 o1 o2 o3 b0 b1
        replace hM := (hM.drewN nq)
        generalize wx.drewN nq = wz at *
        obtain ⟨o0, o1, o2, o3⟩ := mcell4 hM.ord
        obtain ⟨b0, b1⟩ := mcell2 hM.book
        have f0 := mfree hM.res 0
        have f1 := mfree hM.res 1
        obtain ⟨r0, r1⟩ := mcell2 hM.res
        have HD := Lib.hid (hM.done)
        refine wp_region_held_drew (S := (fun w' => w'.cell? ⟨w.heap.size, 0, none⟩ = some (.slice (some ⟨gz, 0, none⟩) (M + 1) dd) ∧ w'.cell? ⟨w.heap.size, 1, none⟩ = some (.slice Ak m dk) ∧ w'.cell? ⟨w.heap.size + 1, 3, none⟩ = some (.int .i64 q))) (by kernel_rfl) ?hSq4xs (fun zH => ?restq4xs)
        case hSq4xs => (first | exact ⟨b0, b1, o3⟩ | exact zH | exact ⟨(set2_far (by omega)).trans zH.1, (set2_far (by omega)).trans zH.2.1, (set2_far (by omega)).trans zH.2.2⟩)
        refine tkV 0 ?_
        refine tkV 1 ?_
        refine tkV 2 ?_
        refine tkV 3 ?_
        refine rd1 4 (fun K hK => ?_)
        go_simp
        skip
        refine hK.out _ _ ?hSq4x5 (fun zH => ?restq4x5)
        case hSq4x5 => (first | exact ⟨b0, b1, o3⟩ | exact zH | exact ⟨(set2_far (by omega)).trans zH.1, (set2_far (by omega)).trans zH.2.1, (set2_far (by omega)).trans zH.2.2⟩)
        clear hK K
        try simp only [Act.put, sA, sB, sC]
        refine tkV 5 ?_
        refine tkV 6 ?_
        refine dn1 ?_
        clear zH o0 o1 o2 o3 b0 b1 r0 r1 f0 f1
        go_wp2_with fail
        obtain ⟨⟨g0, g1⟩, hrows, hrecs, hbelf⟩ := HD.out
        exact bodyPost_ret (v := .tuple #[.agg #[(.slice (some ⟨gz, 0, none⟩) (M + 1) dd), (.slice Ak m dk)], (.slice Ar N dr), .int .i64 q]) (by simp [results, Tryz.results66, go_sem, g0, g1]) rfl ⟨⟨_, _, _, _, _, by rw [HF.out], by rw [HF.out]; exact hrows.below (Below.refl _ _).drew, by rw [HF.out]; exact oMn (oBw hrecs (Below.refl _ _).drew) (by omega), by omega, by omega⟩, hbelf.drew⟩
  · obtain rfl : q = 0 := by omega
    have HF : Hid (mtS 2 oi oa op mode za [] oq = (Z, R, 0)) := Lib.hid (by rw [HEQ.out]; exact mtS_done hq M HZ.out)
    have f0 := mfree hM.res 0
    have f1 := mfree hM.res 1
    obtain ⟨r0, r1⟩ := mcell2 hM.res
    obtain ⟨b0, b1⟩ := mcell2 hM.book
    have HD := Lib.hid (hM.done)
    go_wp2_with fail
    obtain ⟨⟨g0, g1⟩, hrows, hrecs, hbelf⟩ := HD.out
    exact bodyPost_ret (v := .tuple #[.agg #[(.slice A M dd), (.slice Ak m dk)], (.slice Ar N dr), .int .i64 0]) (by simp [results, Tryz.results66, go_sem, g0, g1]) rfl ⟨⟨_, _, _, _, _, by rw [HF.out], by rw [HF.out]; exact hrows, by rw [HF.out]; exact oMn hrecs (by omega), by omega, by omega⟩, hbelf⟩
end Go.Proofs.YtgjjdnojiegidaaGreatDoor
