/-
  Scripts that hold the same: they are the same. (veil/veillaw0.SameScript)
-/
import Derived.Test.YtaaenolbfhhnfaaGreatZlad
import Derived.Test.YtaaenolbfhhnfaaGreatZlah
import Derived.Test.YtaaenolbfhhnfaaGreatZhMachNewProg
import Derived.Test.YtaaenolbfhhnfaaGreatZlab
import Derived.Test.YtaaenolbfhhnfaaGreatZlae
namespace Go.Proofs.YtaaenolbfhhnfaaGreat
open Go.RowKit
set_option linter.unusedSimpArgs false
set_option linter.unusedVariables false
theorem scrL_lv (B : ScrM) (S : PScript) {g : Nat} (hg : g < 4) : (scrL B S)[g]? = some (.slice (B.v g).a (B.v g).n (B.v g).c) := by
  have : g = 0 ∨ g = 1 ∨ g = 2 ∨ g = 3 := by omega
  rcases this with rfl | rfl | rfl | rfl <;> rfl
set_option maxRecDepth 100000 in
set_option maxHeartbeats 4000000 in
theorem sameScript_yes (A B : ScrM) (S : PScript) (w : World) (h : ScrIs w A S) (h' : ScrIs w B S) :
    Calls Tryz.prog 25 #[scrA A S, scrA B S] w fun e w' => e = .returned (.bool true) ∧ Below w.heap.size w w' := by
  have HA := hide h
  have HB := hide h'
  have HS := hide (St.refl w)
  have hv : ∀ g, g < 4 → (B.v g).n = (A.v g).n := fun g hg => by rw [h.len g hg, h'.len g hg]
  have ht : B.t.n = A.t.n := by rw [← h.starts.len, ← h'.starts.len]
  have ho : B.o.n = A.o.n := by have h1 := h.slots.1; have h2 := h'.slots.1; omega
  have hfit := h.starts.fit.1
  have hof := h.slots.2.1.1
  clear h h'
  obtain ⟨V0, hV0⟩ : ∃ V0, V0 = scrA A S := ⟨_, rfl⟩
  obtain ⟨V1, hV1⟩ : ∃ V1, V1 = scrA B S := ⟨_, rfl⟩
  rw [← hV0, ← hV1]
  have HV0 : Hid (V0.cells = (scrL A S).toArray) := by rw [hV0]; rfl
  have HV1 : Hid (V1.cells = (scrL B S).toArray) := by rw [hV1]; rfl
  clear hV0 hV1
  replace hv := hide hv; replace ht := hide ht; replace ho := hide ho
  go_enter Tryz.func25, Tryz.ntmps25
  go_upto_region 2 with (first | ((with_reducible refine isList ?_); first | (refine st_box HS _ _ rfl rfl (scrL A S) HV0.out ?_; clear HS HV0; intro W b1 HS) | (refine st_box HS _ _ rfl rfl (scrL B S) HV1.out ?_; clear HS; intro W b2 HS)))
  replace HS : Hid (St w W [blkI b2 (scrL B S), blkI b1 (scrL A S)]) := HS
  go_loopw [5] (fun i wr => ∃ k : Nat, k ≤ 4 ∧ i = .int .i64 k ∧ Hid (St w wr [blkI b2 (scrL B S), blkI b1 (scrL A S)])) (fun i _ => 4 - (intOf i).toNat)
  case atStart => exact ⟨0, Nat.zero_le _, rfl, HS⟩
  case round =>
    clear HS
    obtain ⟨k, hk, rfl, HS⟩ := hrel
    by_cases hlt : k < 4
    · have i1 : (k : Int) < 4 := by omega
      go_upto_region 4 with fail
      have hS := hide fun (W : World) (hb : Below w.heap.size w W) => sameInts_yes (A.v k).a (B.v k).a (A.v k).n (A.v k).c (B.v k).c (lz (S.lv k)) W (by have := ((HA.out.below hb).vals k hlt).2.1.1; omega) (by have := ((HA.out.below hb).vals k hlt).2.2; rw [Nat.mul_one] at this; exact this) (by have := ((HB.out.below hb).vals k hlt).2.2; rw [Nat.mul_one, hv.out k hlt] at this; exact this)
      (try simp only [Act.put, List.setIfInBounds_toArray, List.set_cons_zero, List.set_cons_succ])
      refine wp_region_mid [true, true, true, true, true, true, true, true, false, false] 8 _ [false, false, false, false, false, false, false, false, false, true] (fun W' => Blk W' b1 (scrL A S) ∧ Blk W' b2 (scrL B S)) (by kernel_rfl) (by kernel_rfl) (by kernel_rfl) rfl (by decide +kernel) ⟨HS.out.drew.blk 1 rfl, HS.out.drew.blk 0 rfl⟩ ?_
      intro kne
      simp only [pickAt]
      repeat (first | ((first | (refine wpQuiet_ld _ _ rfl ⟨b1, k, none⟩ rfl rfl (by decide +kernel) (fun w hC => hC.1.cell k _ (scrL_lv A S hlt)) ?_) | (refine wpQuiet_ld _ _ rfl ⟨b2, k, none⟩ rfl rfl (by decide +kernel) (fun w hC => hC.2.cell k _ (scrL_lv B S hlt)) ?_)); simp only [Act.put, List.setIfInBounds_toArray, List.set_cons_zero, List.set_cons_succ]) | go_big_quiet_step (fail))
      refine wpQuiet_nil ?_
      clear kne
      replace HS := hide HS.out.drew
      generalize World.drew _ = Wd at *
      refine wpMid_op rfl fun K hK => ?_
      go_big_op
      rw [hv.out k hlt]
      refine (hS.out _ HS.out.below).mono ?_
      rintro e Wq ⟨rfl, q, rfl⟩
      replace HS := hide (HS.out.drawn q)
      clear hS
      generalize World.drewN _ _ = Wd2 at *
      have hCC : Blk Wd2 b1 (scrL A S) ∧ Blk Wd2 b2 (scrL B S) := ⟨HS.out.blk 1 rfl, HS.out.blk 0 rfl⟩
      refine hK _ _ (InC.mk hCC) ?_
      clear hK K
      have kne : Nonempty (Cls (fun W' => Blk W' b1 (scrL A S) ∧ Blk W' b2 (scrL B S))) := ⟨⟨_, hCC⟩⟩
      clear hCC
      (try simp only [Act.put, List.setIfInBounds_toArray, List.set_cons_zero, List.set_cons_succ])
      repeat (go_big_quiet_step (fail))
      refine wpQuiet_nil ?_
      clear kne
      refine NoPanic.normal ?_
      go_wp2
      go_roundw
      case rel => exact ⟨k + 1, by omega, by go_num, HS⟩
      case measure => simp [intOf]; omega
    · obtain rfl : k = 4 := by omega
      have hq : ((A.t.n : Int) != (B.t.n : Int)) = false := by rw [ht.out]; simp
      have hO := hide fun (W : World) (hb : Below w.heap.size w W) => sameSlots_yes A.o.a B.o.a A.o.n A.o.c B.o.c (lz S.slots) W (by omega) (HA.out.below hb).slots.2.2 (by have := (HB.out.below hb).slots.2.2; rw [ho.out] at this; exact this)
      go_wp2_with (first | ((with_reducible refine isList ?_); first | (refine st_load1 HS 1 rfl _ _ rfl _ rfl rfl (by decide +kernel) rfl ?_) | (refine st_load1 HS 0 rfl _ _ rfl _ rfl rfl (by decide +kernel) rfl ?_)))
      rw [ho.out]
      refine (hO.out _ HS.out.below).mono ?_
      rintro e Wq ⟨rfl, q, rfl⟩
      replace HS := hide (HS.out.drawn q)
      clear hO hq
      generalize World.drewN _ _ = Wd at *
      go_upto_region 9 with fail
      go_loopw [6] (fun i wr => ∃ k : Nat, k ≤ A.t.n ∧ i = .int .i64 k ∧ Hid (St w wr [blkI b2 (scrL B S), blkI b1 (scrL A S)])) (fun i _ => A.t.n - (intOf i).toNat)
      case atStart => exact ⟨0, Nat.zero_le _, rfl, HS⟩
      case round =>
        clear HS
        obtain ⟨k, hk, rfl, HS⟩ := hrel
        have i9 : (A.t.n : Int) ≤ 140737488351232 := by omega
        have i8 : A.t.n ≤ 1152921504606846976 := by omega
        by_cases hlt : k < A.t.n
        · have i1 : (k : Int) < (A.t.n : Int) := by omega
          have hltB : k < B.t.n := by have := ht.out; omega
          have i2 : (k : Int) < (B.t.n : Int) := by omega
          have npr : (B.p k).n = (A.p k).n := by
            have h1 := (HA.out.starts.each k hlt).2.1
            have h2 := (HB.out.starts.each k hltB).2.1
            omega
          have hS := hide fun (W : World) (hb : Below w.heap.size w W) => sameInsts_any (A.p k).a (B.p k).a (A.p k).n (A.p k).c (B.p k).n (B.p k).c (lz (S.at k).prog) (lz (S.at k).prog) W (by have := ((HA.out.below hb).starts.each k hlt).2.2.1.1; omega) ((HA.out.below hb).starts.each k hlt).2.2.2 ((HB.out.below hb).starts.each k hltB).2.2.2
          rw [npr, show (decide ((A.p k).n = (A.p k).n) && eqTo (lz (S.at k).prog) (lz (S.at k).prog) ((A.p k).n * 4)) = true by rw [eqTo_mk fun _ _ => rfl]; simp] at hS
          replace npr := hide npr
          have hcl : Hid (∀ W', Below w.heap.size w W' → Blk W' b1 (scrL A S) → Blk W' b2 (scrL B S) → ∀ bs off bs' off', A.t.a = some ⟨bs, off, none⟩ → B.t.a = some ⟨bs', off', none⟩ → (fun W' => (W'.cell? ⟨b1, 5, none⟩ = some (.slice (some ⟨bs, off, none⟩) A.t.n A.t.c) ∧ W'.rangeAt bs (off + k * 4) (startOf (A.p k) (S.at k))) ∧ (W'.cell? ⟨b2, 5, none⟩ = some (.slice (some ⟨bs', off', none⟩) B.t.n B.t.c) ∧ W'.rangeAt bs' (off' + k * 4) (startOf (B.p k) (S.at k)))) W') := fun W' hb h1 h2 bs off bs' off' e1 e2 => by
            obtain ⟨x1, y1, q1, _, q2⟩ := (HA.out.below hb).starts.range hlt
            obtain ⟨x2, y2, q3, _, q4⟩ := (HB.out.below hb).starts.range hltB
            rw [e1] at q1; cases q1
            rw [e2] at q3; cases q3
            exact ⟨⟨by rw [← e1]; exact h1.cell 5 _ rfl, q2⟩, by rw [← e2]; exact h2.cell 5 _ rfl, q4⟩
          obtain ⟨bs, off, es, _⟩ := (HA.out.below HS.out.below).starts.range hlt
          obtain ⟨bs', off', es', _⟩ := (HB.out.below HS.out.below).starts.range hltB
          replace hcl := hide fun W' h0 h1 h2 => hcl.out W' h0 h1 h2 bs off bs' off' es es'
          clear es es'
          go_upto_region 11 with (first | ((with_reducible refine isList ?_); first | (refine st_load1 HS 1 rfl _ _ rfl _ rfl rfl (by decide +kernel) rfl ?_)))
          (try simp only [Act.put, List.setIfInBounds_toArray, List.set_cons_zero, List.set_cons_succ])
          refine wp_region_fork [true, true, true, true, true, true, true, true, true, true, false, false, false, false] 10 [11, 12, 13] [0, 0, 0] 11 [10, 12, 13] [0, 0, 0] (fun W' => (W'.cell? ⟨b1, 5, none⟩ = some (.slice (some ⟨bs, off, none⟩) A.t.n A.t.c) ∧ W'.rangeAt bs (off + k * 4) (startOf (A.p k) (S.at k))) ∧ (W'.cell? ⟨b2, 5, none⟩ = some (.slice (some ⟨bs', off', none⟩) B.t.n B.t.c) ∧ W'.rangeAt bs' (off' + k * 4) (startOf (B.p k) (S.at k)))) (by kernel_rfl) (by kernel_rfl) (by kernel_rfl) (by decide +kernel) (hcl.out _ HS.out.drew.below (HS.out.drew.blk 1 rfl) (HS.out.drew.blk 0 rfl)) ?_
          intro kne
          simp only [pickAt]
          repeat (first | ((first | (refine wpQuiet_ld _ _ rfl ⟨b1, 5, none⟩ rfl rfl (by decide +kernel) (fun w hC => hC.1.1) ?_) | (refine wpQuiet_la _ _ rfl bs (off + k * 4) rfl rfl (by decide +kernel) (startOf (A.p k) (S.at k)) (by kernel_rfl) (fun w hC => hC.1.2) ?_) | (refine wpQuiet_ld _ _ rfl ⟨b2, 5, none⟩ rfl rfl (by decide +kernel) (fun w hC => hC.2.1) ?_) | (refine wpQuiet_la _ _ rfl bs' (off' + k * 4) rfl rfl (by decide +kernel) (startOf (B.p k) (S.at k)) (by kernel_rfl) (fun w hC => hC.2.2) ?_)); simp only [Act.put, List.setIfInBounds_toArray, List.set_cons_zero, List.set_cons_succ]) | go_big_quiet_step (fail))
          refine wpQuiet_nil ?_
          clear kne
          replace HS := hide HS.out.drew
          generalize World.drew _ = Wd at *
          simp only [pickIx, List.getElem?_cons_zero, List.getElem?_cons_succ]
          refine ⟨?_, ?_⟩
          case' refine_1 =>
            refine wpRest_cons rfl rfl fun K hK => ?_
            refine stw_alloc HS _ rfl zeroCL zeroC ?_
            clear HS
            intro W3 b7 HS
            refine hK _ _ (fun _ => InC.mk (hcl.out _ HS.out.below (HS.out.blk 2 rfl) (HS.out.blk 1 rfl))) ?_
            clear hK K
            (try simp only [Act.put, List.setIfInBounds_toArray, List.set_cons_zero, List.set_cons_succ])
            refine wpRest_cons rfl rfl fun K hK => ?_
            refine stw_alloc HS _ rfl zeroCL zeroC ?_
            clear HS
            intro W4 b8 HS
            refine hK _ _ (fun _ => InC.mk (hcl.out _ HS.out.below (HS.out.blk 3 rfl) (HS.out.blk 2 rfl))) ?_
            clear hK K
            (try simp only [Act.put, List.setIfInBounds_toArray, List.set_cons_zero, List.set_cons_succ])
            replace HS : Hid (St w W4 [blkI b7 zeroCL, blkI b8 zeroCL, blkI b2 (scrL B S), blkI b1 (scrL A S)]) := hide (HS.out.sel [1, 0, 2, 3] (by decide) rfl)
          case' refine_2 =>
            refine wpRest_cons rfl rfl fun K hK => ?_
            refine stw_alloc HS _ rfl zeroCL zeroC ?_
            clear HS
            intro W3 b8 HS
            refine hK _ _ (fun _ => InC.mk (hcl.out _ HS.out.below (HS.out.blk 2 rfl) (HS.out.blk 1 rfl))) ?_
            clear hK K
            (try simp only [Act.put, List.setIfInBounds_toArray, List.set_cons_zero, List.set_cons_succ])
            refine wpRest_cons rfl rfl fun K hK => ?_
            refine stw_alloc HS _ rfl zeroCL zeroC ?_
            clear HS
            intro W4 b7 HS
            refine hK _ _ (fun _ => InC.mk (hcl.out _ HS.out.below (HS.out.blk 3 rfl) (HS.out.blk 2 rfl))) ?_
            clear hK K
            (try simp only [Act.put, List.setIfInBounds_toArray, List.set_cons_zero, List.set_cons_succ])
          all_goals
            refine wpRest_cons rfl rfl fun K hK => ?_
            refine stw_storeA HS 0 rfl _ _ _ rfl rfl (startOf (A.p k) (S.at k)) rfl rfl (by kernel_rfl) rfl ?_
            clear HS
            intro W5 HS
            refine hK _ _ (fun _ => InC.mk (hcl.out _ HS.out.below (HS.out.blk 3 rfl) (HS.out.blk 2 rfl))) ?_
            clear hK K
            (try simp only [Act.put, List.setIfInBounds_toArray, List.set_cons_zero, List.set_cons_succ])
            refine wpRest_cons rfl rfl fun K hK => ?_
            refine stw_storeA HS 1 rfl _ _ _ rfl rfl (startOf (B.p k) (S.at k)) rfl rfl (by kernel_rfl) rfl ?_
            clear HS
            intro W6 HS
            refine hK _ _ (fun _ => InC.mk (hcl.out _ HS.out.below (HS.out.blk 3 rfl) (HS.out.blk 2 rfl))) (wpRest_nil ?_)
            clear hK K hcl
            (try simp only [Act.put, List.setIfInBounds_toArray, List.set_cons_zero, List.set_cons_succ])
            refine NoPanic.normal ?_
            replace HS : Hid (St w W6 [blkI b7 (startOf (A.p k) (S.at k)), blkI b8 (startOf (B.p k) (S.at k)), blkI b2 (scrL B S), blkI b1 (scrL A S)]) := HS
            go_wp2_with (first | ((with_reducible refine isList ?_); first | (refine st_load1 HS 0 rfl _ _ rfl _ rfl rfl (by decide +kernel) rfl ?_) | (refine st_load1 HS 1 rfl _ _ rfl _ rfl rfl (by decide +kernel) rfl ?_)))
            rw [npr.out]
            refine (hS.out _ HS.out.below).mono ?_
            rintro e Wq ⟨rfl, q, rfl⟩
            replace HS := hide (HS.out.drawn q)
            clear hS
            generalize World.drewN _ _ = Wd2 at *
            replace HS : Hid (St w Wd2 [blkI b2 (scrL B S), blkI b1 (scrL A S)]) := hide (HS.out.sel [2, 3] (by decide) rfl)
            go_wp2
            go_roundw
            case rel => exact ⟨k + 1, by omega, by go_num, HS⟩
            case measure => simp [intOf]; omega
        · obtain rfl : k = A.t.n := by omega
          go_wp2_with (first | ((with_reducible refine isList ?_); first | (refine st_load1 HS 1 rfl _ _ rfl _ rfl rfl (by decide +kernel) rfl ?_)))
          go_ret
          exact ⟨rfl, HS.out.below⟩
end Go.Proofs.YtaaenolbfhhnfaaGreat
