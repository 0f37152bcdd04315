/-
  The document's question: may a machine be?
-/
import Derived.Test.YtnjognmnbpcaaaaGreatZlaf
import Derived.Test.YtnjognmnbpcaaaaGreatZlad
namespace Go.Proofs.YtnjognmnbpcaaaaGreat
open Go.RowKit
set_option linter.unusedSimpArgs false
set_option linter.unusedVariables false
theorem Tryz.sizeMac : (Tryz.prog.info? 28).map (·.size) = some 11 := by kernel_rfl
theorem Tryz.rowMac : (Tryz.prog.underlying 28).any (·.isRow) = true := by kernel_rfl
theorem macL_c {s : Nat → Sl} {c : Nat → Int} {m : Int} {ss ts : Value} {k : Nat} (hk : k < 4) : (macL s c m ss ts)[4 + k]? = some (.int .i64 (c k)) := by
  have : k = 0 ∨ k = 1 ∨ k = 2 ∨ k = 3 := by omega
  rcases this with rfl | rfl | rfl | rfl <;> rfl
set_option maxRecDepth 100000 in
set_option maxHeartbeats 2000000 in
theorem rmachMay_any (A : MacM) (M : PMach) (w : World) (h : MachIs w A M) :
    Calls Tryz.prog 47 #[machA A M] w fun e w' => e = .returned (.bool (machMay M)) ∧ Below w.heap.size w w' := by
  have HS : ∃ S : World → Prop, S (w.alloc (.cells (machL A M).toArray 28)) ∧ (∀ W, S W → Below w.heap.size w W ∧ Blk W w.heap.size (machL A M)) ∧ Stays S :=
    ⟨fun W => Below w.heap.size w W ∧ Blk W w.heap.size (machL A M), ⟨(Below.refl _ w).alloc (Nat.le_refl _) _, blk_new w _ _⟩, fun W h => h, (stays_below w).and (stays_blk _ _)⟩
  obtain ⟨S, hS0, hSo, hSt⟩ := HS
  have HM : Hid (∀ W, S W → MachIs W A M) := fun W hW => h.below (hSo W hW).1
  have C1 : Hid (∀ W, S W → Calls Tryz.prog 75 #[arenaA A.w] W fun e w' => e = .returned (.bool (amay M.lens M.wz)) ∧ S w') := fun W hW => by
    have := rarenaMay_any A.w M.wz W (HM.out W hW).short (HM.out W hW).arn
    rw [amay_lens h.lens] at this
    exact this.mono fun e w' ⟨he, hb⟩ => ⟨he, hSt W w' hW hb⟩
  have hX : M.sess.length = A.s.n := h.sess.1
  have hT : M.tn = A.e.n := h.trace.len (by decide)
  have E : machMay M = ((amay M.lens M.wz && (upToV M.ceil 65535 && (decide (A.s.n ≤ 4) && decide (A.e.n ≤ 512)))) && (allUp (lz M.clocks) M.ceil 4 && (allTo (sessOk M) A.s.n && allTo (labOk M) A.e.n))) := by unfold machMay; rw [hX, hT]
  obtain ⟨ML, hML⟩ : ∃ ML, ML = machL A M := ⟨_, rfl⟩
  obtain ⟨SL, hSL⟩ : ∃ SL : Nat → List Value, SL = fun k => sessOf (A.q k) (M.at k) := ⟨_, rfl⟩
  have rM : Hid (∀ W, S W → W.rangeAt w.heap.size 0 ML) := fun W hW => by rw [hML]; exact (hSo W hW).2.range
  have lM : Hid ((Tryz.prog.info? 28).map (·.size) = some ML.length) := by show _ = _; rw [hML]; exact Tryz.sizeMac
  have lS : Hid (∀ k, (Tryz.prog.info? 44).map (·.size) = some (SL k).length) := fun k => by rw [hSL]; exact Tryz.sizeSess
  have rS : Hid (∀ W k, S W → k < A.s.n → ∃ b off, A.s.a = some ⟨b, off, none⟩ ∧ b < W.heap.size ∧ W.rangeAt b (off + k * 17) (SL k)) := fun W k hW hk => by rw [hSL]; exact (HM.out W hW).sess.range hk
  have iS : Hid (∀ k, (SL k)[0]? = some (.int .i64 (lz (M.at k).num 0))) := fun k => by rw [hSL]; rfl
  have C2 : Hid (∀ W (u : Kin W) k, S W → k < A.s.n → Calls Tryz.prog 78 #[.agg ML.toArray, .agg (SL k).toArray] u.at_ fun e w' => e = .returned (.bool (sessMayP M.lens (M.at k))) ∧ ∃ u' : Kin W, w' = u'.at_) := fun W u k hW hk => by
    have hu : S u.at_ := hSt W _ hW u.below
    have hs := (HM.out _ hu).sess.2.2.2 k hk
    have := rsessMay_any A.w (lz M.clocks) M.ceil A.s.v A.e.v (lz (M.at k).num) (A.q k).p.a (A.q k).r.a (A.q k).t.a (A.q k).p.n (A.q k).p.c (A.q k).r.n (A.q k).r.c (A.q k).t.n (A.q k).t.c (lz (M.at k).prog) (lz (M.at k).reads) (lz (M.at k).writes) u.at_ (by have := hs.2.1.2.1.1; omega) (by have := hs.2.2.1.2.1.1; omega) (by have := hs.2.2.2.2.1.1; omega) hs.2.1.2.2 hs.2.2.1.2.2 hs.2.2.2.2.2
    rw [SessIs.may (x := M.at k) hs h.lens] at this
    rw [hML, hSL]
    exact Calls.kin_of this
  clear hML hSL
  have hs4 : A.s.n ≤ 1152921504606846976 := by have := h.sess.2.1.1; omega
  have he4 : A.e.n ≤ 1152921504606846976 := by have := h.trace.2.1.1; omega
  clear hX hT h
  replace hSo := hide hSo
  replace hSt := hide hSt
  replace hS0 := hide hS0
  replace E := hide E
  generalize machMay M = R at *
  generalize amay M.lens M.wz = a1 at *
  unfold machA machL macA arenaA at *
  go_enter Tryz.func47, Tryz.ntmps47
  go_wp2_with fail
  refine (C1.out _ hS0.out).mono ?_
  rintro e w1 ⟨rfl, sw⟩
  have HW := hide sw
  clear hS0 C1 sw
  obtain ⟨bb, B0⟩ := hSo.out _ HW.out
  obtain ⟨p0, p1, p2, p3, p4, p5, p6, p7, p8, p9, p10⟩ := B0.mac
  cases a1
  · go_wp2
    go_ret
    exact ⟨ret_bool (by rw [E.out]; rfl), bb⟩
  · cases h2 : upToV M.ceil 65535
    · go_wp2_with (go_at_call 76; refine (rclock_any _ _).mono ?_; rintro e w' ⟨rfl, rfl⟩)
      go_ret
      exact ⟨ret_bool (by rw [E.out, h2]; rfl), bb⟩
    · by_cases h3 : A.s.n ≤ 4
      · have i3 : (A.s.n : Int) ≤ 4 := by omega
        by_cases h4 : A.e.n ≤ 512
        · have i4 : (A.e.n : Int) ≤ 512 := by omega
          replace E : Hid (R = (allUp (lz M.clocks) M.ceil 4 && (allTo (sessOk M) A.s.n && allTo (labOk M) A.e.n))) := by
            show R = _
            rw [E.out, h2, decide_eq_true h3, decide_eq_true h4]; rfl
          go_wp2_with (go_at_call 76; refine (rclock_any _ _).mono ?_; rintro e w' ⟨rfl, rfl⟩)
          clear p0 p1 p2 p3 p4 p5 p6 p7 p8 p9 p10 B0 bb
          go_loopw [3] (fun x wr => ∃ k : Nat, k ≤ 4 ∧ x = .int .i64 k ∧ Hid (allUp (lz M.clocks) M.ceil k = true) ∧ Hid (S wr)) (fun x _ => 4 - (intOf x).toNat)
          case atStart => exact ⟨0, Nat.zero_le _, rfl, rfl, HW⟩
          case round =>
            clear HW
            obtain ⟨k, hk, rfl, HK, HW⟩ := hrel
            obtain ⟨bb, B0⟩ := hSo.out _ HW.out
            by_cases hlt : k < 4
            · have k1 : (k : Int) < 4 := by omega
              have c8 : ∀ u : Kin wr, u.at_.cell? ⟨w.heap.size, 8, none⟩ = some (.int .i64 M.ceil) := fun u => (B0.kin u).cell 8 _ rfl
              have ck : ∀ u : Kin wr, u.at_.cell? ⟨w.heap.size, 4 + k, none⟩ = some (.int .i64 (lz M.clocks k)) := fun u => (B0.kin u).cell (4 + k) _ (macL_c hlt)
              have kne : Nonempty (Kin wr) := kin_any wr
              have HC := hide fun u : Kin wr => Calls.kin_same (u := u) (mupTo_any (lz M.clocks k) M.ceil u.at_)
              clear B0 bb
              cases hu : upToV (lz M.clocks k) M.ceil
              · rw [hu] at HC
                have HN : Hid (R = false) := by
                  show R = false
                  rw [E.out, allUp_no k hlt hu]; rfl
                clear hu HK
                go_upto_region 6 with (fail)
                refine wp_region_kin (by kernel_rfl) (by kernel_rfl) ?_
                repeat (go_big_quiet_step ((go_at_call 77; with_reducible exact HC.out _)))
                refine wpQuiet_nil ?_
                rintro _ ⟨u, rfl⟩
                have SV := hide (hSt.out _ _ HW.out u.below)
                clear c8 ck kne HC HW
                generalize u.at_ = V at *
                clear u
                obtain ⟨bV, _⟩ := hSo.out _ SV.out
                go_wp2
                go_ret
                exact ⟨ret_bool HN.out.symm, bV⟩
              · rw [hu] at HC
                have HN : Hid (allUp (lz M.clocks) M.ceil (k + 1) = true) := by
                  show allUp (lz M.clocks) M.ceil (k + 1) = true
                  rw [allUp, HK.out, hu]; rfl
                clear hu HK
                go_upto_region 6 with (fail)
                refine wp_region_kin (by kernel_rfl) (by kernel_rfl) ?_
                repeat (go_big_quiet_step ((go_at_call 77; with_reducible exact HC.out _)))
                refine wpQuiet_nil ?_
                rintro _ ⟨u, rfl⟩
                have SV := hide (hSt.out _ _ HW.out u.below)
                clear c8 ck kne HC HW
                generalize u.at_ = V at *
                clear u
                go_wp2
                go_roundw
                case rel =>
                  first
                    | exact ⟨k + 1, by omega, by go_num, HN, SV⟩
                    | (repeat apply Exists.intro
                       exact ⟨⟨k + 1, by omega, by go_num, HN, SV⟩, rfl⟩)
                case measure => simp [intOf]; omega
            · obtain rfl : k = 4 := by omega
              clear B0 bb hlt hk
              go_wp2
              go_loopw [4] (fun x wr => ∃ k : Nat, k ≤ A.s.n ∧ x = .int .i64 k ∧ Hid (allTo (sessOk M) k = true) ∧ Hid (S wr)) (fun x _ => A.s.n - (intOf x).toNat)
              case atStart => exact ⟨0, Nat.zero_le _, rfl, rfl, HW⟩
              case round =>
                clear HW
                have HKc := HK
                obtain ⟨k, hk, rfl, HK, HW⟩ := hrel
                obtain ⟨bb, B0⟩ := hSo.out _ HW.out
                have p9 := B0.cell 9 _ rfl
                by_cases hlt : k < A.s.n
                · have k1 : (k : Int) < (A.s.n : Int) := by omega
                  obtain ⟨b, off, ea, hb, hrk⟩ := rS.out wr k HW.out hlt
                  have hrM := hide (rM.out wr HW.out)
                  have hrS := hide hrk
                  have bM : w.heap.size < wr.heap.size := B0.lt
                  have q9 : ∀ u : Kin wr, u.at_.cell? ⟨w.heap.size, 9, none⟩ = some (.slice (some ⟨b, off, none⟩) A.s.n A.s.c) := fun u => by rw [← ea]; exact (B0.kin u).cell 9 _ rfl
                  have ci : ∀ u : Kin wr, u.at_.cell? ⟨b, off + k * 17, none⟩ = some (.int .i64 (lz (M.at k).num 0)) := fun u => (u.cell b _ hb).trans (hrk 0 _ (iS.out k))
                  have kne : Nonempty (Kin wr) := kin_any wr
                  have HC := hide fun u : Kin wr => C2.out wr u k HW.out hlt
                  cases hm : sessMayP M.lens (M.at k)
                  · rw [hm] at HC
                    have HN : Hid (R = false) := by
                      show R = false
                      rw [E.out, HKc.out, allTo_no k hlt (by unfold sessOk; rw [hm, Bool.false_and])]; rfl
                    clear hm HK HKc hrk ea B0 bb C2 rS rM iS HM
                    go_upto_region 11 with (fail)
                    refine wp_region_kin (by kernel_rfl) (by kernel_rfl) ?_
                    refine wpQuiet_load_at 28 (.tmp 1) rfl rfl w.heap.size 0 rfl ML Tryz.rowMac lM.out bM hrM.out ?_
                    simp only [Act.put, List.setIfInBounds_toArray, List.set_cons_zero, List.set_cons_succ]
                    iterate 4 (go_big_quiet_step (fail))
                    refine wpQuiet_load_at 44 (.tmp 51) rfl rfl b (off + k * 17) rfl (SL k) Tryz.rowSess (lS.out k) hb hrS.out ?_
                    simp only [Act.put, List.setIfInBounds_toArray, List.set_cons_zero, List.set_cons_succ]
                    repeat (go_big_quiet_step ((go_at_call 78; with_reducible exact HC.out _)))
                    refine wpQuiet_nil ?_
                    rintro _ ⟨u, rfl⟩
                    have SV := hide (hSt.out _ _ HW.out u.below)
                    clear q9 p9 ci kne HC HW hb bM hrM hrS
                    generalize u.at_ = V at *
                    clear u
                    obtain ⟨bV, _⟩ := hSo.out _ SV.out
                    go_wp2
                    go_ret
                    exact ⟨ret_bool HN.out.symm, bV⟩
                  · rw [hm] at HC
                    by_cases h0 : k = 0
                    · have HN : Hid (allTo (sessOk M) (k + 1) = true) := by
                        show allTo (sessOk M) (k + 1) = true
                        rw [allTo, HK.out]
                        unfold sessOk riseP
                        rw [hm, decide_eq_true h0]; rfl
                      have z0 : ¬ (0 : Int) < (k : Int) := by omega
                      have z1 : ¬ 0 < k := by omega
                      have z2 : decide (0 < k) = false := decide_eq_false z1
                      clear hm HK HKc hrk ea B0 bb C2 rS rM iS HM h0
                      go_upto_region 11 with (fail)
                      refine wp_region_kin (by kernel_rfl) (by kernel_rfl) ?_
                      refine wpQuiet_load_at 28 (.tmp 1) rfl rfl w.heap.size 0 rfl ML Tryz.rowMac lM.out bM hrM.out ?_
                      simp only [Act.put, List.setIfInBounds_toArray, List.set_cons_zero, List.set_cons_succ]
                      iterate 4 (go_big_quiet_step (fail))
                      refine wpQuiet_load_at 44 (.tmp 51) rfl rfl b (off + k * 17) rfl (SL k) Tryz.rowSess (lS.out k) hb hrS.out ?_
                      simp only [Act.put, List.setIfInBounds_toArray, List.set_cons_zero, List.set_cons_succ]
                      repeat (go_big_quiet_step ((go_at_call 78; with_reducible exact HC.out _)))
                      refine wpQuiet_nil ?_
                      rintro _ ⟨u, rfl⟩
                      have SV := hide (hSt.out _ _ HW.out u.below)
                      clear q9 p9 ci kne HC HW hb bM hrM hrS z0 z1 z2
                      generalize u.at_ = V at *
                      clear u
                      go_wp2
                      go_roundw
                      case rel =>
                        first
                          | exact ⟨k + 1, by omega, by go_num, HN, SV⟩
                          | (repeat apply Exists.intro
                             exact ⟨⟨k + 1, by omega, by go_num, HN, SV⟩, rfl⟩)
                      case measure => simp [intOf]; omega
                    · have z0 : (0 : Int) < (k : Int) := by omega
                      have z1 : 0 < k := by omega
                      have z2 : decide (0 < k) = true := decide_eq_true z1
                      obtain ⟨j, hj⟩ : ∃ j : Nat, j = k - 1 := ⟨_, rfl⟩
                      have z3 : IntKind.i64.wrap ((k : Int) - 1) = (j : Int) := by rw [IntWalk.i64_in _ ⟨by omega, by omega⟩]; omega
                      have j1 : (j : Int) < (A.s.n : Int) := by omega
                      obtain ⟨b', off', ea', _, hrj⟩ := rS.out wr j HW.out (by omega)
                      rw [ea] at ea'
                      simp only [Option.some.injEq, Addr.mk.injEq, and_true] at ea'
                      obtain ⟨rfl, rfl⟩ := ea'
                      have cj : ∀ u : Kin wr, u.at_.cell? ⟨b, off + j * 17, none⟩ = some (.int .i64 (lz (M.at j).num 0)) := fun u => (u.cell b _ hb).trans (hrj 0 _ (iS.out j))
                      have cj2 : ∀ u : Kin wr, u.at_.cell? ⟨b, off + (k - 1) * 17, none⟩ = some (.int .i64 (lz (M.at j).num 0)) := fun u => by rw [← hj]; exact cj u
                      have cj3 : ∀ u : Kin wr, u.at_.cell? ⟨b, off + ((k : Int) - 1).toNat * 17, none⟩ = some (.int .i64 (lz (M.at j).num 0)) := fun u => by rw [show ((k : Int) - 1).toNat = j by omega]; exact cj u
                      have hr1 : riseP M k = decide (lz (M.at j).num 0 < lz (M.at k).num 0) := by unfold riseP; rw [decide_eq_false h0, Bool.false_or, ← hj]
                      by_cases hle : lz (M.at k).num 0 ≤ lz (M.at j).num 0
                      · have HN : Hid (R = false) := by
                          show R = false
                          rw [E.out, HKc.out, allTo_no k hlt (by unfold sessOk; rw [hr1, decide_eq_false (by omega), Bool.and_false])]; rfl
                        clear hm HK HKc hrk ea B0 bb C2 rS rM iS HM h0 hrj hr1
                        generalize lz (M.at k).num 0 = ik at *
                        generalize lz (M.at j).num 0 = ij at *
                        go_upto_region 11 with (fail)
                        refine wp_region_kin (by kernel_rfl) (by kernel_rfl) ?_
                        refine wpQuiet_load_at 28 (.tmp 1) rfl rfl w.heap.size 0 rfl ML Tryz.rowMac lM.out bM hrM.out ?_
                        simp only [Act.put, List.setIfInBounds_toArray, List.set_cons_zero, List.set_cons_succ]
                        iterate 4 (go_big_quiet_step (fail))
                        refine wpQuiet_load_at 44 (.tmp 51) rfl rfl b (off + k * 17) rfl (SL k) Tryz.rowSess (lS.out k) hb hrS.out ?_
                        simp only [Act.put, List.setIfInBounds_toArray, List.set_cons_zero, List.set_cons_succ]
                        repeat (go_big_quiet_step ((go_at_call 78; with_reducible exact HC.out _)))
                        refine wpQuiet_nil ?_
                        rintro _ ⟨u, rfl⟩
                        have SV := hide (hSt.out _ _ HW.out u.below)
                        clear q9 p9 ci cj cj2 cj3 kne HC HW hb bM hrM hrS z0 z1 z2 z3 hj j1
                        generalize u.at_ = V at *
                        clear u
                        obtain ⟨bV, _⟩ := hSo.out _ SV.out
                        go_wp2
                        go_ret
                        exact ⟨ret_bool HN.out.symm, bV⟩
                      · have HN : Hid (allTo (sessOk M) (k + 1) = true) := by
                          show allTo (sessOk M) (k + 1) = true
                          rw [allTo, HK.out]
                          unfold sessOk
                          rw [hm, hr1, decide_eq_true (by omega)]; rfl
                        clear hm HK HKc hrk ea B0 bb C2 rS rM iS HM h0 hrj hr1
                        generalize lz (M.at k).num 0 = ik at *
                        generalize lz (M.at j).num 0 = ij at *
                        go_upto_region 11 with (fail)
                        refine wp_region_kin (by kernel_rfl) (by kernel_rfl) ?_
                        refine wpQuiet_load_at 28 (.tmp 1) rfl rfl w.heap.size 0 rfl ML Tryz.rowMac lM.out bM hrM.out ?_
                        simp only [Act.put, List.setIfInBounds_toArray, List.set_cons_zero, List.set_cons_succ]
                        iterate 4 (go_big_quiet_step (fail))
                        refine wpQuiet_load_at 44 (.tmp 51) rfl rfl b (off + k * 17) rfl (SL k) Tryz.rowSess (lS.out k) hb hrS.out ?_
                        simp only [Act.put, List.setIfInBounds_toArray, List.set_cons_zero, List.set_cons_succ]
                        repeat (go_big_quiet_step ((go_at_call 78; with_reducible exact HC.out _)))
                        refine wpQuiet_nil ?_
                        rintro _ ⟨u, rfl⟩
                        have SV := hide (hSt.out _ _ HW.out u.below)
                        clear q9 p9 ci cj cj2 cj3 kne HC HW hb bM hrM hrS z0 z1 z2 z3 hj j1 hle
                        generalize u.at_ = V at *
                        clear u
                        go_wp2
                        go_roundw
                        case rel =>
                          first
                            | exact ⟨k + 1, by omega, by go_num, HN, SV⟩
                            | (repeat apply Exists.intro
                               exact ⟨⟨k + 1, by omega, by go_num, HN, SV⟩, rfl⟩)
                        case measure => simp [intOf]; omega
                · obtain rfl : k = A.s.n := by omega
                  have p10 := B0.cell 10 _ rfl
                  clear B0 bb hlt hk
                  go_wp2
                  clear p9 p10
                  go_loopw [5] (fun x wr => ∃ k : Nat, k ≤ A.e.n ∧ x = .int .i64 k ∧ Hid (allTo (labOk M) k = true) ∧ Hid (S wr)) (fun x _ => A.e.n - (intOf x).toNat)
                  case atStart => exact ⟨0, Nat.zero_le _, rfl, rfl, HW⟩
                  case round =>
                    clear HW
                    have HKs := HK
                    obtain ⟨k, hk, rfl, HK, HW⟩ := hrel
                    obtain ⟨bb, B0⟩ := hSo.out _ HW.out
                    have p10 := B0.cell 10 _ rfl
                    by_cases hlt : k < A.e.n
                    · have k1 : (k : Int) < (A.e.n : Int) := by omega
                      obtain ⟨b, off, ea, hb, _, ci, _⟩ := (HM.out _ HW.out).trace.2.2.at4 k hlt
                      rw [ea] at p10
                      clear ea hb
                      cases hu : upToV (lz M.trace (k * 4 + 1)) 3
                      · have HN : Hid (R = false) := by
                          show R = false
                          rw [E.out, HKc.out, HKs.out, allTo_no k hlt hu]; rfl
                        clear HK HKc HKs C2 rS rM iS HM B0
                        go_wp2_with (go_at_call 79; refine (rlabel_any _ _).mono ?_; rintro e w' ⟨rfl, rfl⟩)
                        go_ret
                        exact ⟨ret_bool HN.out.symm, bb⟩
                      · have HN : Hid (allTo (labOk M) (k + 1) = true) := by
                          show allTo (labOk M) (k + 1) = true
                          rw [allTo, HK.out]
                          exact hu
                        clear HK HKc HKs C2 rS rM iS HM B0 bb
                        go_wp2_with (go_at_call 79; refine (rlabel_any _ _).mono ?_; rintro e w' ⟨rfl, rfl⟩)
                        go_roundw
                        case rel =>
                          first
                            | exact ⟨k + 1, by omega, by go_num, HN, HW⟩
                            | (repeat apply Exists.intro
                               exact ⟨⟨k + 1, by omega, by go_num, HN, HW⟩, rfl⟩)
                        case measure => simp [intOf]; omega
                    · obtain rfl : k = A.e.n := by omega
                      have HN : Hid (R = true) := by
                        show R = true
                        rw [E.out, HKc.out, HKs.out, HK.out]; rfl
                      clear HK HKc HKs C2 rS rM iS HM B0 HW
                      go_wp2
                      go_ret
                      exact ⟨ret_bool HN.out.symm, bb⟩
        · have i4 : ¬ (A.e.n : Int) ≤ 512 := by omega
          go_wp2_with (go_at_call 76; refine (rclock_any _ _).mono ?_; rintro e w' ⟨rfl, rfl⟩)
          go_ret
          exact ⟨ret_bool (by rw [E.out, h2, decide_eq_true h3, decide_eq_false h4]; rfl), bb⟩
      · have i3 : ¬ (A.s.n : Int) ≤ 4 := by omega
        go_wp2_with (go_at_call 76; refine (rclock_any _ _).mono ?_; rintro e w' ⟨rfl, rfl⟩)
        go_ret
        exact ⟨ret_bool (by rw [E.out, h2, decide_eq_false h3]; rfl), bb⟩
end Go.Proofs.YtnjognmnbpcaaaaGreat
