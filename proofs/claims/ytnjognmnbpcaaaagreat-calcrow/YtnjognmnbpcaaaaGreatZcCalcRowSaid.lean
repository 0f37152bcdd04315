/-
  The law CalcRow.
-/
import Derived.Test.YtnjognmnbpcaaaaGreatZlaj
import Derived.Test.YtnjognmnbpcaaaaGreatZlbh
import Derived.Test.YtnjognmnbpcaaaaGreatZlbj
import Derived.Test.YtnjognmnbpcaaaaGreatZlca
import Derived.Test.YtnjognmnbpcaaaaGreatZlcb
import Derived.Test.YtnjognmnbpcaaaaGreatZlab
import Derived.Test.YtnjognmnbpcaaaaGreatZlac
import Derived.BigQuiet
namespace Go.Proofs.YtnjognmnbpcaaaaGreat
open Go.RowKit
set_option linter.unusedSimpArgs false
set_option linter.unusedVariables false
theorem field_sess17 (v0 v1 v2 v3 v4 v5 v6 v7 v8 v9 v10 : Value) (W : World) : Sem.run Tryz.prog (Instr.field 28 (.agg #[v0, v1, v2, v3, v4, v5, v6, v7, v8, v9, v10]) 3) W = .ok v9 W := by
  kernel_rfl
set_option maxRecDepth 100000 in
set_option maxHeartbeats 4000000 in
theorem calcRow_at (a : Option Addr) (n c k : Nat) (z T G B V F : Nat → Int) (w : World) (hn : n * 8 ≤ 140737488351232) (hr : Row w a n fun i => .int .i64 (z i)) (hk : k = min n 16)
    (hG : Hid (∀ j, bits .and .i64 (z j) 3 = G j ∧ bits .and .i64 (z j / 4) 3 = B j ∧ bits .and .i64 (z j / 16) 255 = V j ∧ bits .and .i64 (z j / 4096) 1 = T j ∧ (0 ≤ B j ∧ B j ≤ 3))) (hF : Hid (∀ j, F j = if T j = 1 then B j else V j)) (hC : CalG T G F) :
    Calls Tryz.prog 7 #[.slice a n c] w fun e w' => e = .returned (.bool true) ∧ Below w.heap.size w w' := by
  have HS := hide (St.refl w)
  have hRow := hide fun (W : World) (hb : Below w.heap.size w W) => hr.below hb (Nat.le_refl _)
  have hAw := hide fun (W : World) => awake17_any W
  have hB := hide fun (W : World) => begun17_any W
  have hP := hide fun (W : World) => stepped17_any 0 0 (by decide) W
  have sN : Hid ((stepM begunM 0 0).sess.length = 2) := by show _ = 2; decide +kernel
  have hk16 : k ≤ 16 := by omega
  have hkn : k ≤ n := by omega
  have lN : Hid (begunM.sess.length = 2) := hide begun_two
  have eO : Hid (begunM.setS 0 ((begunM.at 0).setL 0 (calL T G F k)) = calM T G F k 0) := hide (calM_begin T G F k)
  clear hr
  replace hk := hide hk
  replace hC := hide hC
  generalize stepM begunM 0 0 = Z at hP sN
  have hStep := hide fun (j : Nat) (hj : j < k) => calM_step hC.out hk16 hj
  have hAt := hide (calM_at T G F k)
  have hLen := hide (calM_len T G F k)
  have hTr : Hid (∀ j, (calM T G F k j).trace = []) := fun j => (by decide +kernel : begunM.trace = [])
  obtain ⟨M0, hM0⟩ : ∃ M0 : Nat → PMach, M0 = calM T G F k := ⟨_, rfl⟩
  rw [← hM0] at eO hAt hLen hTr
  replace hStep : Hid (∀ j, j < k → calcP (M0 j) 0 = (M0 (j + 1), 0)) := by rw [hM0]; exact hStep
  clear hM0
  generalize begunM = N at hB eO lN
  go_enter Tryz.func7, Tryz.ntmps7
  go_wp2_with fail
  refine (hAw.out _).mono ?_
  (rintro e Wq ⟨rfl, hb⟩; have HSq := hide (HS.out.on hb); clear HS hb; replace HS := HSq; clear HSq)
  clear hAw
  go_wp2_with fail
  refine (hB.out _).mono ?_
  (rintro e Wq ⟨A2, rfl, hO, hb⟩; have HSq := hide (HS.out.push hb (machI (fun k => _) A2 _) (machI_loc _ _ _) hO fun k hk => hk); generalize (fun k => _) = D2 at HSq; clear HS hb hO; replace HS := HSq; clear HSq)
  clear hB
  go_upto_region 4 with (first | ((with_reducible refine isList ?_); first | (refine st_alloc HS _ rfl rfl zeroML zeroM ?_; clear HS; intro W b3 HS) | (refine st_storeA HS 0 rfl _ _ _ rfl rfl rfl _ rfl rfl (by kernel_rfl) rfl ?_; clear HS; intro W HS)))
  replace HS : Hid (St w W [blkI b3 (machL A2 N), machI D2 A2 N]) := HS
  have hk1 : 0 < A2.s.n := by
    have := (MachOwn.is (show MachOwn D2 _ A2 N from HS.out.get 1 rfl)).sess.1
    have := lN.out; omega
  have hki : (0 : Int) < (A2.s.n : Int) := by omega
  obtain ⟨bs1, hbs1, _⟩ := MachOwn.sblk (show MachOwn D2 _ A2 N from HS.out.get 1 rfl) hk1
  replace hk1 := hide hk1; replace hki := hide hki; replace hbs1 := hide hbs1
  have hif : ∀ inst : Decidable ((16 : Int) < (n : Int)), @ite Int ((16 : Int) < (n : Int)) inst 16 (n : Int) = (k : Int) := fun inst => by have := hk.out; split <;> omega
  have hif2 : ∀ inst : Decidable ((n : Int) ≤ 16), @ite Int ((n : Int) ≤ 16) inst (n : Int) 16 = (k : Int) := fun inst => by have := hk.out; split <;> omega
  go_upto_region 5 with fail
  clear hif hif2
  go_upto_region 7 with (first | ((with_reducible refine isList ?_); first | (refine st_alloc HS _ rfl rfl zeroQL zeroQ ?_; clear HS; intro W bw HS)))
  replace HS := hide (slI_nil w W _ 47 4 HS.out)
  replace HS : Hid (St w W [slI _ 47 4 noSl (calL T G F 0), blkI bw (quadL (calR T G F 0)), blkI b3 (machL A2 N), machI D2 A2 N]) := HS
  go_upto_region 8 with fail
  go_loopw [5, 7] (fun p i wr => ∃ (j : Nat) (D : Nat → Prop) (s : Sl), j ≤ k ∧ i = .int .i64 j ∧ p = .slice s.a s.n s.c ∧ Hid (s.n = j) ∧ Hid (St w wr [slI D 47 4 s (calL T G F j), blkI bw (quadL (calR T G F j)), blkI b3 (machL A2 N), machI D2 A2 N])) (fun _ i _ => k - (intOf i).toNat)
  case atStart => exact ⟨0, _, noSl, Nat.zero_le _, rfl, rfl, rfl, HS⟩
  case round =>
    clear HS
    obtain ⟨j, D3, s, hj, rfl, rfl, hsn, HS⟩ := hrel
    by_cases hlt : j < k
    · have i2 : (j : Int) < (k : Int) := by omega
      have i3 : (j : Int) < (n : Int) := by omega
      have hs512 : s.n < 512 := by have := hsn.out; omega
      obtain ⟨g1, g2, g3, g4, g5⟩ := hG.out j
      have hA := hC.out.reg j
      have hV := hC.out.val j
      have hFj := hF.out j
      obtain ⟨ra, era⟩ : ∃ ra : Nat, G j = ra := ⟨(G j).toNat, by omega⟩
      obtain ⟨rb, erb⟩ : ∃ rb : Nat, B j = rb := ⟨(B j).toNat, by omega⟩
      have ra4 : ra < 4 := by omega
      have rb4 : rb < 4 := by omega
      have rai : (ra : Int) < 4 := by omega
      have rbi : (rb : Int) < 4 := by omega
      obtain ⟨u, hu⟩ : ∃ u, u = z j := ⟨_, rfl⟩
      obtain ⟨bz, oz, ez, _, cz⟩ := hRow.out _ HS.out.below j (by omega)
      rw [← hu] at g1 g2 g3 g4
      rw [era] at g1
      rw [erb] at g2
      replace cz : wr.cell? ⟨bz, oz + j, none⟩ = some (.int .i64 (z j)) := cz
      rw [← hu] at cz
      replace hu := hide hu
      replace hFj := hide hFj
      replace era := hide era; replace erb := hide erb
      clear hA g5
      go_upto_region 10 with fail
      go_big_quiet (fail)
      clear cz ez g1 g2 g3
      replace HS := hide (HS.out.drawn nq)
      generalize World.drewN _ _ = Wd at *
      obtain ⟨bz', oz', ez, _, cz⟩ := hRow.out _ HS.out.below j (by omega)
      replace cz : Wd.cell? ⟨bz', oz' + j, none⟩ = some (.int .i64 (z j)) := cz
      rw [← hu.out] at cz
      rcases hC.out.code j with hT | hT
      · rw [hT] at g4
        have eF : Hid (F j = V j) := by show _ = _; rw [hFj.out, hT]; rfl
        have hr1 : Hid (calL T G F (j + 1) = calL T G F j ++ [0, (ra : Int), V j, 0]) := by
          show _ = _
          rw [calL, hT, era.out, eF.out]
        have hR1 : Hid (calR T G F (j + 1) = updQ (calR T G F j) ra (V j)) := by
          show _ = _
          rw [calR, if_neg (by omega), era.out, Int.toNat_natCast, eF.out]
        replace hT := hide hT
        generalize V j = vv at *
        generalize calL T G F j = rl at *
        generalize calR T G F j = R at *
        go_upto_region 14 with fail
        clear cz ez g4
        go_upto_region 15 with (first | ((with_reducible refine isList ?_); first | (refine st_litB HS _ 47 1 _ rfl rfl Tryz.underlying40 Tryz.infoI (by decide) (by decide) [(0, .agg #[.int .i64 0, .int .i64 ra, .int .i64 vv, .int .i64 0])] rfl _ (fill_i1 0 ra vv 0) ?_; clear HS; intro W bl HS) | (refine st_app1 (k := 4) (x := [0, ra, vv, 0]) HS 1 (fun q u hq => (show Blk _ bl [.int .i64 0, .int .i64 ra, .int .i64 vv, .int .i64 0] from HS.out.get 0 rfl).cell q u hq) rfl rfl hs512 rfl _ _ _ rfl _ _ Tryz.underlying40 Tryz.infoI rfl (by decide) (by decide) rfl rfl rfl ?_; clear HS; intro W D4 g4' c4 HS)))
        replace HS : Hid (St w W [slI D4 47 4 ⟨some ⟨g4', 0, none⟩, s.n + 1, c4⟩ (rl ++ [0, (ra : Int), vv, 0]), blkI bw (quadL R), blkI b3 (machL A2 N), machI D2 A2 N]) := hide HS.out.tail
        rw [← hr1.out] at HS
        go_upto_region 9 with (first | ((with_reducible refine isList ?_); first | (refine st_store1 HS 1 rfl _ _ _ rfl _ rfl rfl rfl (by decide +kernel) rfl (quadL_get _ ra4) ?_; clear HS; intro W HS)))
        replace HS : Hid (St w W [slI D4 47 4 ⟨some ⟨g4', 0, none⟩, s.n + 1, c4⟩ (calL T G F (j + 1)), blkI bw ((quadL R).set ra (.int .i64 vv)), blkI b3 (machL A2 N), machI D2 A2 N]) := HS
        rw [quadL_set R ra4, ← hR1.out] at HS
        go_wp2
        go_roundw
        case rel =>
          first
            | exact ⟨j + 1, D4, ⟨some ⟨g4', 0, none⟩, s.n + 1, c4⟩, by omega, by go_num, rfl, by show _ = _; have := hsn.out; show s.n + 1 = j + 1; omega, HS⟩
            | (repeat apply Exists.intro
               exact ⟨⟨j + 1, D4, ⟨some ⟨g4', 0, none⟩, s.n + 1, c4⟩, by omega, by go_num, rfl, by show _ = _; have := hsn.out; show s.n + 1 = j + 1; omega, HS⟩, rfl⟩)
        case measure => simp [intOf]; omega
      · rw [hT] at g4
        have eF : Hid (F j = rb) := by show _ = _; rw [hFj.out, if_pos hT]; exact erb.out
        obtain ⟨va, eva⟩ : ∃ va, calR T G F j ra = va := ⟨_, rfl⟩
        obtain ⟨vb, evb⟩ : ∃ vb, calR T G F j rb = vb := ⟨_, rfl⟩
        have hva := calR_in hC.out j ra
        have hvb := calR_in hC.out j rb
        rw [eva] at hva
        rw [evb] at hvb
        obtain ⟨sm, hsm⟩ : ∃ sm, bits .and .i64 (va + vb) 255 = sm := ⟨_, rfl⟩
        have hr1 : Hid (calL T G F (j + 1) = calL T G F j ++ [1, (ra : Int), (rb : Int), 0]) := by
          show _ = _
          rw [calL, hT, era.out, eF.out]
        have hR1 : Hid (calR T G F (j + 1) = updQ (calR T G F j) ra sm) := by
          show _ = _
          rw [calR, if_pos hT, era.out, eF.out, Int.toNat_natCast, Int.toNat_natCast, eva, evb, ← hsm, mask255]
        replace hT := hide hT
        have hcl : Hid (∀ W', Blk W' bw (quadL (calR T G F j)) → W'.cell? ⟨bw, ra, none⟩ = some (.int .i64 va) ∧ W'.cell? ⟨bw, rb, none⟩ = some (.int .i64 vb)) := fun W' h => ⟨by rw [← eva]; exact h.cell ra _ (quadL_get _ ra4), by rw [← evb]; exact h.cell rb _ (quadL_get _ rb4)⟩
        clear eva evb
        generalize calL T G F j = rl at *
        generalize calR T G F j = R at *
        go_upto_region 12 with fail
        clear cz ez g4
        go_upto_region 13 with (first | ((with_reducible refine isList ?_); first | (refine st_litB HS _ 47 1 _ rfl rfl Tryz.underlying40 Tryz.infoI (by decide) (by decide) [(0, .agg #[.int .i64 1, .int .i64 ra, .int .i64 rb, .int .i64 0])] rfl _ (fill_i1 1 ra rb 0) ?_; clear HS; intro W bl HS) | (refine st_app1 (k := 4) (x := [1, ra, rb, 0]) HS 1 (fun q u hq => (show Blk _ bl [.int .i64 1, .int .i64 ra, .int .i64 rb, .int .i64 0] from HS.out.get 0 rfl).cell q u hq) rfl rfl hs512 rfl _ _ _ rfl _ _ Tryz.underlying40 Tryz.infoI rfl (by decide) (by decide) rfl rfl rfl ?_; clear HS; intro W D4 g4' c4 HS)))
        replace HS : Hid (St w W [slI D4 47 4 ⟨some ⟨g4', 0, none⟩, s.n + 1, c4⟩ (rl ++ [1, (ra : Int), (rb : Int), 0]), blkI bw (quadL R), blkI b3 (machL A2 N), machI D2 A2 N]) := hide HS.out.tail
        rw [← hr1.out] at HS
        have HB := HS.out.blk 1 rfl
        (try simp only [Act.put, List.setIfInBounds_toArray, List.set_cons_zero, List.set_cons_succ])
        refine wp_region_mask [true, true, true, true, true, true, true, true, true, true, false] [false, false, false, false, false, false, false, false, false, false, true] [1] (fun W' => W'.cell? ⟨bw, ra, none⟩ = some (.int .i64 va) ∧ W'.cell? ⟨bw, rb, none⟩ = some (.int .i64 vb)) (by kernel_rfl) (by kernel_rfl) (by kernel_rfl) (by decide +kernel) (hcl.out _ HB.drew) ?_
        intro kne
        simp only [pickAt]
        repeat (first | ((first | (refine wpQuiet_ld _ _ rfl ⟨bw, ra, none⟩ rfl rfl (by decide +kernel) (fun w hC => hC.1) ?_) | (refine wpQuiet_ld _ _ rfl ⟨bw, rb, none⟩ rfl rfl (by decide +kernel) (fun w hC => hC.2) ?_)); simp only [Act.put, List.setIfInBounds_toArray, List.set_cons_zero, List.set_cons_succ]) | go_big_quiet_step (fail))
        refine wpQuiet_nil ?_
        clear kne HB hcl
        replace HS := hide HS.out.drew
        generalize World.drew _ = We at *
        refine wpRest_cons rfl rfl fun K hK => ?_
        refine stw_store1 HS 1 rfl _ _ _ rfl _ rfl rfl (by decide +kernel) rfl (quadL_get _ ra4) ?_
        clear HS
        intro W6 HS
        refine hK _ _ (fun h => by cases h) (wpRest_nil ?_)
        clear hK K
        (try simp only [Act.put, List.setIfInBounds_toArray, List.set_cons_zero, List.set_cons_succ])
        refine NoPanic.normal ?_
        replace HS : Hid (St w W6 [slI D4 47 4 ⟨some ⟨g4', 0, none⟩, s.n + 1, c4⟩ (calL T G F (j + 1)), blkI bw ((quadL R).set ra (.int .i64 sm)), blkI b3 (machL A2 N), machI D2 A2 N]) := HS
        rw [quadL_set R ra4, ← hR1.out] at HS
        go_wp2
        go_roundw
        case rel =>
          first
            | exact ⟨j + 1, D4, ⟨some ⟨g4', 0, none⟩, s.n + 1, c4⟩, by omega, by go_num, rfl, by show _ = _; have := hsn.out; show s.n + 1 = j + 1; omega, HS⟩
            | (repeat apply Exists.intro
               exact ⟨⟨j + 1, D4, ⟨some ⟨g4', 0, none⟩, s.n + 1, c4⟩, by omega, by go_num, rfl, by show _ = _; have := hsn.out; show s.n + 1 = j + 1; omega, HS⟩, rfl⟩)
        case measure => simp [intOf]; omega
    · obtain rfl : k = j := by omega
      clear hlt hj
      replace hk1 := hk1.out; replace hki := hki.out; replace hbs1 := hbs1.out
      replace HS := hide (HS.out.set 0 rfl (lisI D3 4 s (calL T G F k)) (Chg.refl _ _) (lisI_loc _ _ _ _) ⟨(show ListOwn D3 47 4 _ s (calL T G F k) from HS.out.get 0 rfl).is, (show ListOwn D3 47 4 _ s (calL T G F k) from HS.out.get 0 rfl).own⟩ fun k hk => .inl hk)
      replace HS : Hid (St w wr [lisI D3 4 s (calL T G F k), blkI bw (quadL (calR T G F k)), blkI b3 (machL A2 N), machI D2 A2 N]) := HS
      go_upto_region 16 with fail
      go_upto_region 17 with (first | ((with_reducible refine isList ?_); first | (refine st_load1 HS 2 rfl _ _ rfl _ rfl rfl (by decide +kernel) rfl ?_) | (refine st_storeL HS 3 0 rfl 0 (by decide) rfl (by decide) hk1 hbs1 _ _ _ rfl _ rfl rfl rfl rfl (by decide +kernel) ?_; clear HS; intro W HS)))
      replace HS : Hid (St w W [blkI bw (quadL (calR T G F k)), blkI b3 (machL (A2.setQ 0 ((A2.q 0).setL 0 s)) (N.setS 0 ((N.at 0).setL 0 (calL T G F k)))), machI (fun k => D2 k ∨ D3 k) (A2.setQ 0 ((A2.q 0).setL 0 s)) (N.setS 0 ((N.at 0).setL 0 (calL T G F k)))]) := hide (HS.out.sel [1, 2, 3] (by decide) rfl)
      rw [eO.out] at HS
      clear hk1 hki hbs1 hsn
      generalize (fun k => D2 k ∨ D3 k) = D4 at HS
      generalize A2.setQ 0 ((A2.q 0).setL 0 s) = A4 at HS
      go_upto_region 18 with fail
      go_loopw [11] (fun i wr => ∃ (j : Nat) (A : MacM) (D : Nat → Prop), i = .int .i64 j ∧ j ≤ k ∧ Hid (St w wr [blkI bw (quadL (calR T G F k)), blkI b3 (machL A (M0 j)), machI D A (M0 j)])) (fun i _ => k - (intOf i).toNat)
      case atStart => exact ⟨0, A4, D4, rfl, Nat.zero_le _, HS⟩
      case round =>
        clear HS
        obtain ⟨j, A1, D, rfl, hj, HS⟩ := hrel
        by_cases hlt : j < k
        · have i2 : (j : Int) < (k : Int) := by omega
          have hE := hide fun (W : World) (h : MachIs W A1 (M0 j)) => calcStep_any A1 (M0 j) 0 W h
          rw [hStep.out j hlt] at hE
          go_wp2_with (first | ((with_reducible refine isList ?_); first | (refine st_loadA HS 1 rfl _ _ rfl rfl rfl (by decide +kernel) (by kernel_rfl) ?_)))
          refine (hE.out _ (MachOwn.is (show MachOwn D _ A1 (M0 j) from HS.out.get 2 rfl))).mono ?_
          (rintro e Wq ⟨AX, rfl, hO, hb⟩; have HSq := hide (HS.out.push hb (machI (fun k => _) AX _) (machI_loc _ _ _) hO fun k hk => hk); generalize (fun k => _) = DX at HSq; clear HS hb hO; replace HS := HSq; clear HSq)
          clear hE
          go_upto_region 21 with (first | ((with_reducible refine isList ?_); first | (refine st_alloc HS _ rfl rfl zeroML zeroM ?_; clear HS; intro W b9 HS) | (refine st_storeA HS 0 rfl _ _ _ rfl rfl rfl _ rfl rfl (by kernel_rfl) rfl ?_; clear HS; intro W HS)))
          replace HS : Hid (St w W [blkI b9 (machL AX (M0 (j + 1))), machI DX AX (M0 (j + 1)), blkI bw (quadL (calR T G F k)), blkI b3 (machL A1 (M0 j)), machI D A1 (M0 j)]) := HS
          have h2 := hLen.out (j + 1)
          obtain ⟨n2, g⟩ := MachOwn.sfact (show MachOwn DX _ AX (M0 (j + 1)) from HS.out.get 1 rfl) h2
          obtain ⟨s2, e2, _⟩ := g (by decide)
          clear g
          obtain ⟨c9, _⟩ := MachOwn.scell (show MachOwn DX _ AX (M0 (j + 1)) from HS.out.get 1 rfl) (HS.out.blk 0 rfl) h2 e2
          replace n2 := hide n2; replace e2 := hide e2; replace h2 := hide h2
          go_upto_region 23 with (go_at_call 12; refine (num_any _ _).mono ?_; rintro e w' ⟨rfl, rfl⟩)
          clear c9
          go_upto_region 19 with (first | ((with_reducible refine isList ?_); first | (refine st_loadA HS 0 rfl _ _ rfl rfl rfl (by decide +kernel) (by kernel_rfl) ?_) | (refine st_storeA HS 3 rfl _ _ _ rfl rfl rfl _ rfl rfl (by kernel_rfl) rfl ?_; clear HS; intro W HS)))
          replace HS : Hid (St w W [blkI b9 (machL AX (M0 (j + 1))), machI DX AX (M0 (j + 1)), blkI bw (quadL (calR T G F k)), blkI b3 (machL AX (M0 (j + 1))), machI D A1 (M0 j)]) := HS
          replace HS : Hid (St w W [blkI bw (quadL (calR T G F k)), blkI b3 (machL AX (M0 (j + 1))), machI DX AX (M0 (j + 1))]) := hide (HS.out.sel [2, 3, 1] (by decide) rfl)
          go_wp2
          go_roundw
          case rel =>
            first
              | exact ⟨j + 1, AX, DX, by go_num, by omega, HS⟩
              | (repeat apply Exists.intro
                 exact ⟨⟨j + 1, AX, DX, by go_num, by omega, HS⟩, rfl⟩)
          case measure => simp [intOf]; omega
        · obtain rfl : k = j := by omega
          clear hlt hj
          go_upto_region 24 with fail
          have hI2 := hLen.out k
          obtain ⟨n2, g⟩ := MachOwn.sfact (show MachOwn D _ A1 (M0 k) from HS.out.get 2 rfl) hI2
          obtain ⟨s2, e2, _⟩ := g (by decide)
          clear g
          have hat := hAt.out k
          have hk1 : 0 < A1.s.n := by omega
          have hki : (0 : Int) < (A1.s.n : Int) := by omega
          obtain ⟨y0, ey0⟩ : ∃ y, calR T G F k 0 = y := ⟨_, rfl⟩
          obtain ⟨y1, ey1⟩ : ∃ y, calR T G F k 1 = y := ⟨_, rfl⟩
          obtain ⟨y2, ey2⟩ : ∃ y, calR T G F k 2 = y := ⟨_, rfl⟩
          obtain ⟨y3, ey3⟩ : ∃ y, calR T G F k 3 = y := ⟨_, rfl⟩
          have hnum : ((M0 k).at 0).num = [3, 0, 3, 0, (k : Int), y0, y1, y2, y3, 0, 0, 0, 0, 0] := by rw [hat, ← ey0, ← ey1, ← ey2, ← ey3]; rfl
          replace HS : Hid (St w wr [blkI bw [.int .i64 (calR T G F k 0), .int .i64 (calR T G F k 1), .int .i64 (calR T G F k 2), .int .i64 (calR T G F k 3)], blkI b3 (machL A1 (M0 k)), machI D A1 (M0 k)]) := HS
          rw [ey0, ey1, ey2, ey3] at HS
          have htr := hTr.out k
          have HC : Hid (∀ W' : World, Blk W' bw [.int .i64 y0, .int .i64 y1, .int .i64 y2, .int .i64 y3] → Blk W' b3 (machL A1 (M0 k)) → MachOwn D W' A1 (M0 k) → (W'.cell? ⟨b3, 9, none⟩ = some (.slice (some ⟨s2, 0, none⟩) A1.s.n A1.s.c) ∧ W'.rangeAt s2 6 [.int .i64 y0, .int .i64 y1, .int .i64 y2, .int .i64 y3] ∧ W'.rangeAt bw 0 [.int .i64 y0, .int .i64 y1, .int .i64 y2, .int .i64 y3] ∧ W'.cell? ⟨s2, 5, none⟩ = some (.int .i64 k) ∧ W'.cell? ⟨b3, 10, none⟩ = some (.slice A1.e.a 0 A1.e.c))) := fun W' h1 h2 h3 => by
            obtain ⟨j1, j2⟩ := h3.scell h2 hI2 e2
            have j3 := j2 0 (by decide)
            rw [show sessOf (A1.q 0) ((M0 k).at 0) = sessL (lz ((M0 k).at 0).num) (.slice (A1.q 0).p.a (A1.q 0).p.n (A1.q 0).p.c) (.slice (A1.q 0).r.a (A1.q 0).r.n (A1.q 0).r.c) (.slice (A1.q 0).t.a (A1.q 0).t.n (A1.q 0).t.c) from rfl, hnum] at j3
            refine ⟨by rw [n2]; exact j1, fun u v hu => ?_, h1.range, j3 5 _ rfl, ?_⟩
            · have hu4 : u < 4 := by simpa using (List.getElem?_eq_some_iff.1 hu).1
              have : u = 0 ∨ u = 1 ∨ u = 2 ∨ u = 3 := by omega
              rcases this with rfl | rfl | rfl | rfl
              · exact j3 6 v hu
              · exact j3 7 v hu
              · exact j3 8 v hu
              · exact j3 9 v hu
            · have q1 := h2.cell 10 _ rfl
              have q2 : A1.e.n = 0 := by
                have := h3.is.trace.1
                rw [htr] at this
                have h0 : (0 : Nat) = A1.e.n * 4 := this
                omega
              rw [q2] at q1
              exact q1
          have Q := fun W => quad_eq y0 y1 y2 y3 y0 y1 y2 y3 W
          simp only [beq_self_eq_true, Bool.and_self] at Q
          have hF2 := fun (v0 v1 v2 v3 v4 v5 v6 v7 v8 v9 v10 : Value) (W : World) => field_sess17 v0 v1 v2 v3 v4 v5 v6 v7 v8 v9 v10 W
          clear ey0 ey1 ey2 ey3 hat hnum htr hI2
          replace n2 := hide n2; replace e2 := hide e2
          (try simp only [Act.put, List.setIfInBounds_toArray, List.set_cons_zero, List.set_cons_succ])
          refine wp_region_tree [true, true, true, true, true, true, true, true, true, true, true, true, true, true, true, true, true, true, true, true, true, true, true, false, false, false, false, false, false] #[true, true, true, true, true, true, true, true, true, true, true, true, true, true, true, true, true, true, true, true, true, true, true, false, false, false, false, false, false] 6 (fun W' => W'.cell? ⟨b3, 9, none⟩ = some (.slice (some ⟨s2, 0, none⟩) A1.s.n A1.s.c) ∧ W'.rangeAt s2 6 [.int .i64 y0, .int .i64 y1, .int .i64 y2, .int .i64 y3] ∧ W'.rangeAt bw 0 [.int .i64 y0, .int .i64 y1, .int .i64 y2, .int .i64 y3] ∧ W'.cell? ⟨s2, 5, none⟩ = some (.int .i64 k) ∧ W'.cell? ⟨b3, 10, none⟩ = some (.slice A1.e.a 0 A1.e.c)) (by kernel_rfl) (by kernel_rfl) (by kernel_rfl) (by decide +kernel) (HC.out _ (HS.out.drew.blk 0 rfl) (HS.out.drew.blk 1 rfl) (HS.out.drew.get 2 rfl)) ?_
          intro kne
          simp only [pickAt]
          repeat (first | go_big_quiet_skip | ((first | (refine wpQuiet_ld _ _ rfl ⟨b3, 9, none⟩ rfl rfl (by decide +kernel) (fun w hC => hC.1) ?_) | (refine wpQuiet_la _ _ rfl s2 (6) rfl rfl (by decide +kernel) [.int .i64 y0, .int .i64 y1, .int .i64 y2, .int .i64 y3] (by kernel_rfl) (fun w hC => hC.2.1) ?_) | (refine wpQuiet_la _ _ rfl bw (0) rfl rfl (by decide +kernel) [.int .i64 y0, .int .i64 y1, .int .i64 y2, .int .i64 y3] (by kernel_rfl) (fun w hC => hC.2.2.1) ?_) | (refine wpQuiet_ld _ _ rfl ⟨s2, 5, none⟩ rfl rfl (by decide +kernel) (fun w hC => hC.2.2.2.1) ?_) | (refine wpQuiet_ld _ _ rfl ⟨b3, 10, none⟩ rfl rfl (by decide +kernel) (fun w hC => hC.2.2.2.2) ?_)); simp only [Act.put, List.setIfInBounds_toArray, List.set_cons_zero, List.set_cons_succ]) | go_big_quiet_step (fail))
          refine wpQuiet_nil ?_
          clear kne
          replace HS := hide HS.out.drew
          generalize World.drew _ = Wd at *
          refine tree_step [23] (by decide +kernel) rfl (in_one ?_)
          refine tree_op rfl rfl fun K hK => ?_
          go_big_op
          refine (hP.out _).mono ?_
          (rintro e Wq ⟨AZ, rfl, hO, hb⟩; have HSq := hide (HS.out.push hb (machI (fun k => _) AZ _) (machI_loc _ _ _) hO fun k hk => hk); generalize (fun k => _) = DZ at HSq; clear HS hb hO; replace HS := HSq; clear HSq)
          obtain ⟨n3, g⟩ := MachOwn.sfact (show MachOwn DZ _ AZ Z from HS.out.get 0 rfl) sN.out
          clear g
          refine hK _ _ (InC.mk (HC.out _ (HS.out.blk 1 rfl) (HS.out.blk 2 rfl) (HS.out.get 3 rfl))) ?_
          clear hK K
          (try simp only [Act.put, List.setIfInBounds_toArray, List.set_cons_zero, List.set_cons_succ])
          rw [show machA AZ Z = .agg (macL AZ.w (lz Z.clocks) Z.ceil (.slice AZ.s.a AZ.s.n AZ.s.c) (.slice AZ.e.a AZ.e.n AZ.e.c)).toArray from rfl, n3]
          unfold macL
          refine tree_step [24] (by decide +kernel) rfl (in_one ?_)
          refine tree_op rfl rfl fun K hK => ?_
          go_big_op
          refine hK _ _ (InC.mk (HC.out _ (HS.out.blk 1 rfl) (HS.out.blk 2 rfl) (HS.out.get 3 rfl))) ?_
          clear hK K
          (try simp only [Act.put, List.setIfInBounds_toArray, List.set_cons_zero, List.set_cons_succ])
          refine tree_step [25] (by decide +kernel) rfl (in_one ?_)
          refine tree_op rfl rfl fun K hK => ?_
          go_big_op
          refine hK _ _ (InC.mk (HC.out _ (HS.out.blk 1 rfl) (HS.out.blk 2 rfl) (HS.out.get 3 rfl))) ?_
          clear hK K
          (try simp only [Act.put, List.setIfInBounds_toArray, List.set_cons_zero, List.set_cons_succ])
          refine tree_step [26] (by decide +kernel) rfl (in_one ?_)
          refine tree_op rfl rfl fun K hK => ?_
          go_big_op
          refine hK _ _ (InC.mk (HC.out _ (HS.out.blk 1 rfl) (HS.out.blk 2 rfl) (HS.out.get 3 rfl))) ?_
          clear hK K
          (try simp only [Act.put, List.setIfInBounds_toArray, List.set_cons_zero, List.set_cons_succ])
          refine tree_step [27] (by decide +kernel) rfl (in_one ?_)
          refine tree_op rfl rfl fun K hK => ?_
          go_big_op
          refine hK _ _ (InC.mk (HC.out _ (HS.out.blk 1 rfl) (HS.out.blk 2 rfl) (HS.out.get 3 rfl))) ?_
          clear hK K
          (try simp only [Act.put, List.setIfInBounds_toArray, List.set_cons_zero, List.set_cons_succ])
          refine tree_step [28] (by decide +kernel) rfl (in_one ?_)
          refine tree_op rfl rfl fun K hK => ?_
          go_big_op
          refine hK _ _ (InC.mk (HC.out _ (HS.out.blk 1 rfl) (HS.out.blk 2 rfl) (HS.out.get 3 rfl))) ?_
          clear hK K
          (try simp only [Act.put, List.setIfInBounds_toArray, List.set_cons_zero, List.set_cons_succ])
          refine tree_end (by decide +kernel) ?_
          refine NoPanic.normal ?_
          go_wp2
          go_ret
          exact ⟨rfl, HS.out.below⟩
theorem calcRow_any (a : Option Addr) (n c : Nat) (z : Nat → Int) (w : World) (hn : n * 8 ≤ 140737488351232) (hr : Row w a n fun i => .int .i64 (z i)) :
    Calls Tryz.prog 7 #[.slice a n c] w fun e w' => e = .returned (.bool true) ∧ Below w.heap.size w w' := by
  have b3 : ∀ x : Int, 0 ≤ bits .and .i64 x 3 ∧ bits .and .i64 x 3 ≤ 3 := fun x => by rw [mask3]; omega
  have b255 : ∀ x : Int, 0 ≤ bits .and .i64 x 255 ∧ bits .and .i64 x 255 ≤ 255 := fun x => by rw [mask255]; omega
  have b1 : ∀ x : Int, bits .and .i64 x 1 = 0 ∨ bits .and .i64 x 1 = 1 := fun x => by rw [mask1]; omega
  refine calcRow_at a n c (min n 16) z (fun j => bits .and .i64 (z j / 4096) 1) (fun j => bits .and .i64 (z j) 3) (fun j => bits .and .i64 (z j / 4) 3) (fun j => bits .and .i64 (z j / 16) 255) (fun j => if bits .and .i64 (z j / 4096) 1 = 1 then bits .and .i64 (z j / 4) 3 else bits .and .i64 (z j / 16) 255) w hn hr rfl (hide fun j => ⟨rfl, rfl, rfl, rfl, b3 _⟩) (hide fun j => rfl) ⟨fun j => b1 _, fun j => b3 _, fun j => ?_, fun j h => ?_⟩
  · split
    · have := b3 (z j / 4); omega
    · exact b255 _
  · rw [if_pos h]
    exact (b3 _).2
end Go.Proofs.YtnjognmnbpcaaaaGreat
