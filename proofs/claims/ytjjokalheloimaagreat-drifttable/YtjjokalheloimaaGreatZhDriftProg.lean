/-
  The landed drift.
-/
import Derived.Test.YtjjokalheloimaaGreatZhStandProg
import Derived.Test.YtjjokalheloimaaGreatZlbb
import Derived.Test.YtjjokalheloimaaGreatZlag
import Derived.Test.YtjjokalheloimaaGreatZlac
import Derived.Test.YtjjokalheloimaaGreatZlah
namespace Go.Proofs.YtjjokalheloimaaGreat
open Go.RowKit
set_option linter.unusedSimpArgs false
set_option linter.unusedVariables false
theorem below_lab {a b : Int} (ha : upToV a 3 = true) (hb : upToV b 3 = true) : belowV a b = underV a b := by
  obtain ⟨x, rfl, hx⟩ := upToV_nat (m := 3) ha
  obtain ⟨y, rfl, hy⟩ := upToV_nat (m := 3) hb
  have e1 : x = 0 ∨ x = 1 ∨ x = 2 ∨ x = 3 := by omega
  have e2 : y = 0 ∨ y = 1 ∨ y = 2 ∨ y = 3 := by omega
  rcases e1 with rfl | rfl | rfl | rfl <;> rcases e2 with rfl | rfl | rfl | rfl <;> decide +kernel
theorem row_one {W : World} {b : Nat} {v : Int} (h : Blk W b [.int .i64 v]) : Row W (some ⟨b, 0, none⟩) 1 fun _ => .int .i64 v := fun j hj => by
  obtain rfl : j = 0 := by omega
  exact ⟨b, 0, rfl, h.lt, h.cell 0 _ rfl⟩
theorem join_or {a b : Int} (ha : upToV a 3 = true) (hb : upToV b 3 = true) : joinV a b = bits .or .i64 a b ∧ upToV (bits .or .i64 a b) 3 = true := by
  obtain ⟨x, rfl, hx⟩ := upToV_nat (m := 3) ha
  obtain ⟨y, rfl, hy⟩ := upToV_nat (m := 3) hb
  have e1 : x = 0 ∨ x = 1 ∨ x = 2 ∨ x = 3 := by omega
  have e2 : y = 0 ∨ y = 1 ∨ y = 2 ∨ y = 3 := by omega
  rcases e1 with rfl | rfl | rfl | rfl <;> rcases e2 with rfl | rfl | rfl | rfl <;> decide +kernel
set_option maxRecDepth 100000 in
set_option maxHeartbeats 1000000 in
theorem driftRead_any (q : SesM) (x : PSess) (p : Nat) (w : World) (h : SessIs w q x) (hp : lz x.num 4 = p) (hlt : p < q.p.n) :
    Calls Tryz.prog 99 #[.agg (sessOf q x).toArray] w fun e w' => e = .returned (.int .i64 (lz x.prog (p * 4 + 2))) ∧ Below w.heap.size w w' := by
  have i1 : (p : Int) < (q.p.n : Int) := by omega
  obtain ⟨bp, op, hbp, _, _⟩ := h.2.1.four hlt
  have hI : Hid (∀ W, Below w.heap.size w W → W.cell? ⟨bp, op + p * 4 + 2, none⟩ = some (.int .i64 (lz x.prog (p * 4 + 2)))) := fun W hb => by
    obtain ⟨b2, o2, e2, _, r⟩ := (h.below hb).2.1.four hlt
    rw [hbp] at e2; cases e2
    exact r 2 _ rfl
  obtain ⟨V0, hV0⟩ : ∃ V0, V0 = Value.agg (sessOf q x).toArray := ⟨_, rfl⟩
  rw [← hV0]
  have HV : Hid (V0.cells = (sessOf q x).toArray) := by rw [hV0]; rfl
  clear hV0 h
  have HS := hide (St.refl w)
  go_enter Tryz.func99, Tryz.ntmps99
  go_upto_region 1 with (first | ((with_reducible refine isList ?_); first | (refine st_box HS _ _ rfl rfl (sessOf q x) HV.out ?_; clear HS; intro W b HS)))
  have d3 : W.cell? ⟨b, 3, none⟩ = some (.slice (some ⟨bp, op, none⟩) q.p.n q.p.c) := by rw [← hbp]; exact (HS.out.blk 0 rfl).cell 3 _ rfl
  have d5 : W.cell? ⟨b, 5, none⟩ = some (.int .i64 p) := by rw [← hp]; exact (HS.out.blk 0 rfl).cell 5 _ rfl
  have c0 := hI.out W HS.out.below
  clear hbp
  replace hp := hide hp
  go_wp2
  go_ret
  exact ⟨rfl, HS.out.below⟩
theorem needsP_code (M : PMach) (i : Int) : needsP M i = bif atCodeP M i (fun _ => 2) 1 then (!underV ((M.at i.toNat).ins 2) (lz (M.at i.toNat).num 1), 0) else (false, 1400) := by
  have e : decide (runP (M.at i.toNat) = 2) = ((M.at i.toNat).runs && inTo (fun _ => 2) ((M.at i.toNat).ins 0) 1) := by
    unfold runP inTo
    cases (M.at i.toNat).runs
    · rfl
    · show decide ((M.at i.toNat).ins 0 = 2) = _
      unfold inTo
      simp
  unfold needsP atCodeP
  rw [e]
/-- Whoever stands at a read: what stands there. -/
theorem atRead {M : PMach} {i : Int} (h : atCodeP M i (fun _ => 2) 1 = true) : hereP M i = true ∧ runP (M.at i.toNat) = 2 := by
  have := needsP_code M i
  rw [h] at this
  exact needsP_here (by rw [this]; rfl)
set_option maxRecDepth 100000 in
set_option maxHeartbeats 2000000 in
theorem driftNeeds_any (A : MacM) (M : PMach) (i : Int) (w : World) (h : MachIs w A M) :
    Calls Tryz.prog 44 #[machA A M, .int .i64 i] w fun e w' => e = .returned (.tuple #[.bool (needsP M i).1, .int .i64 (needsP M i).2]) ∧ Below w.heap.size w w' := by
  have hX := hide h.sess.1
  have hrng := hide fun (k : Nat) (hk : k < A.s.n) (W : World) (hb : Below w.heap.size w W) => (h.below hb).sess.range hk
  have hSes : Hid (∀ (k : Nat) (hk : k < A.s.n) (W : World) (hb : Below w.heap.size w W), SessIs W (A.q k) (M.at k)) := fun k hk W hb => (h.below hb).sess.2.2.2 k hk
  have hIns := hide fun (k : Nat) (hk : k < A.s.n) (hok : SessOk M.lens (M.at k)) (c : Int) (hr : runP (M.at k) = c) (hc : c ≠ -1) => ins_at h hk hok hr hc
  have hAt := hide fun (b : Nat) (W : World) (hb : Below w.heap.size w W) (hB : Blk W b [.int .i64 2]) => standAtCode_any A M i (some ⟨b, 0, none⟩) 1 1 (fun _ => 2) W (h.below hb) (by decide) (row_one hB)
  have eN := needsP_code M i
  obtain ⟨V0, hV0⟩ : ∃ V0, V0 = machA A M := ⟨_, rfl⟩
  rw [← hV0]
  have HV : Hid (V0.cells = (machL A M).toArray) := by rw [hV0]; rfl
  clear hV0
  have HM := hide h
  have HS := hide (St.refl w)
  clear h
  go_enter Tryz.func44, Tryz.ntmps44
  go_wp2_with (first | ((with_reducible refine isList ?_); first | (refine st_box HS _ _ rfl rfl (machL A M) HV.out ?_; clear HS; intro W bm HS) | (refine st_loadA HS 0 rfl _ _ rfl rfl rfl (by decide +kernel) (by kernel_rfl) ?_)))
  replace HS := hide (HS.out.alloc [.int .i64 2] 3)
  refine (hAt.out _ _ HS.out.below (HS.out.blk 0 rfl)).mono ?_
  (rintro e Wq ⟨rfl, hb⟩; have HSq := hide (HS.out.on hb); clear HS hb; replace HS := HSq; clear HSq)
  clear hAt
  cases hc : atCodeP M i (fun _ => 2) 1
  · rw [hc] at eN
    replace eN : needsP M i = (false, 1400) := eN
    replace eN := hide eN
    go_wp2
    go_ret2
    rw [eN.out]
    exact ⟨rfl, HS.out.below⟩
  obtain ⟨hh, hr⟩ := atRead hc
  obtain ⟨hmay, k, rfl, hk0⟩ := hereP_yes hh
  rw [Int.toNat_natCast] at hr
  have hk : k < A.s.n := by have := hX.out; omega
  have hok := here_sess hmay hk0
  have i2 : (k : Int) < (A.s.n : Int) := by omega
  obtain ⟨p, hI⟩ := hIns.out k hk hok 2 hr (by decide)
  obtain ⟨x, y, u, _, ⟨hb2, hb3⟩, _⟩ := hI.word (.inl (hI.code hr (by decide)))
  rw [hc, Int.toNat_natCast] at eN
  replace eN : needsP M k = (!underV ((M.at k).ins 2) (lz (M.at k).num 1), 0) := eN
  have eB : belowV (lz (M.at k).prog (p * 4 + 2)) (lz (M.at k).num 1) = underV ((M.at k).ins 2) (lz (M.at k).num 1) := by
    rw [hI.ins 2]
    exact below_lab (by rw [hb2]; exact upToV_of (by omega) (by omega)) hok.label
  have hRead := hide fun (W : World) (hb : Below w.heap.size w W) => driftRead_any (A.q k) (M.at k) p W (hSes.out k hk W hb) hI.pc hI.lt
  replace eN := hide eN; replace eB := hide eB
  clear hb2 hb3 hI hIns hok hmay hh hr hc
  replace HS : Hid (St w Wq [blkI bm (machL A M)]) := hide (HS.out.sel [1] (by decide) rfl)
  obtain ⟨bs, off, hbs, _, hR⟩ := hrng.out k hk _ HS.out.below
  replace hR := hide hR
  go_upto_region 3 with fail
  go_upto_region 4 with (first | ((with_reducible refine isList ?_); first | (refine st_load1 HS 0 rfl _ _ rfl _ rfl rfl (by decide +kernel) rfl ?_) | (refine wpList_load_at _ _ rfl rfl bs (off + k * 17) rfl (sessOf (A.q k) (M.at k)) (by decide +kernel) (by kernel_rfl) hR.out ?_) | (refine st_alloc HS _ rfl rfl zeroSL zeroS ?_; clear HS; intro W b6 HS) | (refine st_storeA HS 0 rfl _ _ _ rfl rfl rfl _ rfl rfl (by kernel_rfl) rfl ?_; clear HS; intro W HS)))
  replace HS : Hid (St w W [blkI b6 (sessOf (A.q k) (M.at k)), blkI bm (machL A M)]) := HS
  clear hR hbs
  have HB := HS.out.blk 0 rfl
  (try simp only [Act.put, List.setIfInBounds_toArray, List.set_cons_zero, List.set_cons_succ])
  refine wp_region_mask [true, false, true, true, false, false, false, false, false, false] [false, true, false, false, true, true, true, true, true, true] [0, 0, 3, 3, 3, 2, 2] (fun w' => Blk w' b6 (sessOf (A.q k) (M.at k))) (by kernel_rfl) (by kernel_rfl) (by kernel_rfl) (by decide +kernel) HB.drew ?_
  intro kne
  simp only [pickAt]
  repeat (first | ((first | (refine wpQuiet_la _ _ rfl b6 (0) rfl rfl (by decide +kernel) (sessOf (A.q k) (M.at k)) (by kernel_rfl) (fun w hC => hC.range) ?_) | (refine wpQuiet_ld _ _ rfl ⟨b6, 1, none⟩ rfl rfl (by decide +kernel) (fun w hC => hC.cell 1 _ rfl) ?_)); simp only [Act.put, List.setIfInBounds_toArray, List.set_cons_zero, List.set_cons_succ]) | go_big_quiet_step (fail))
  refine wpQuiet_nil ?_
  clear kne HB
  replace HS := hide HS.out.drew
  generalize World.drew _ = Wd at *
  refine wpRest_cons rfl rfl fun K hK => ?_
  go_big_op
  refine (hRead.out _ HS.out.below).mono ?_
  (rintro e Wq ⟨rfl, hb⟩; have HSq := hide (HS.out.on hb); clear HS hb; replace HS := HSq; clear HSq)
  refine hK _ _ (fun _ => InC.mk (HS.out.blk 0 rfl)) ?_
  clear hK K
  (try simp only [Act.put, List.setIfInBounds_toArray, List.set_cons_zero, List.set_cons_succ])
  refine wpRest_cons rfl rfl fun K hK => ?_
  go_big_op
  refine (below_any _ _ _).mono ?_
  rintro e w' ⟨rfl, rfl⟩
  refine hK _ _ (fun _ => InC.mk (HS.out.blk 0 rfl)) ?_
  clear hK K
  (try simp only [Act.put, List.setIfInBounds_toArray, List.set_cons_zero, List.set_cons_succ])
  refine wpRest_move _ rfl rfl rfl ?_
  (try simp only [Act.put, List.setIfInBounds_toArray, List.set_cons_zero, List.set_cons_succ])
  refine wpRest_extract _ 0 rfl rfl rfl rfl ?_
  (try simp only [Act.put, List.setIfInBounds_toArray, List.set_cons_zero, List.set_cons_succ])
  refine wpRest_extract _ 1 rfl rfl rfl rfl ?_
  (try simp only [Act.put, List.setIfInBounds_toArray, List.set_cons_zero, List.set_cons_succ])
  refine wpRest_assign _ rfl rfl rfl ?_
  (try simp only [Act.put, List.setIfInBounds_toArray, List.set_cons_zero, List.set_cons_succ])
  refine wpRest_assign _ rfl rfl rfl (wpRest_nil ?_)
  (try simp only [Act.put, List.setIfInBounds_toArray, List.set_cons_zero, List.set_cons_succ])
  refine NoPanic.normal ?_
  rw [eB.out]
  go_wp2
  go_ret2
  rw [eN.out]
  exact ⟨rfl, HS.out.below⟩
set_option maxRecDepth 100000 in
set_option maxHeartbeats 4000000 in
theorem driftStep_any (A : MacM) (M : PMach) (i : Int) (w : World) (h : MachIs w A M) :
    Calls Tryz.prog 46 #[machA A M, .int .i64 i] w (MRet w (driftP M i)) := by
  have hX := hide h.sess.1
  have hrng := hide fun (k : Nat) (hk : k < A.s.n) (W : World) (hb : Below w.heap.size w W) => (h.below hb).sess.range hk
  have hSes : Hid (∀ (k : Nat) (hk : k < A.s.n) (W : World) (hb : Below w.heap.size w W), SessIs W (A.q k) (M.at k)) := fun k hk W hb => (h.below hb).sess.2.2.2 k hk
  have hIns := hide fun (k : Nat) (hk : k < A.s.n) (hok : SessOk M.lens (M.at k)) (c : Int) (hr : runP (M.at k) = c) (hc : c ≠ -1) => ins_at h hk hok hr hc
  have hNe := hide fun (W : World) (hb : Below w.heap.size w W) => driftNeeds_any A M i W (h.below hb)
  have hEnd := hide fun (W : World) (hb : Below w.heap.size w W) => undoEnd_any A M i 4 0 W (h.below hb)
  have hTell := hide fun (v : Int) (W : World) (hb : Below w.heap.size w W) => gtelling_any A M i 2 v W (h.below hb)
  obtain ⟨V0, hV0⟩ : ∃ V0, V0 = machA A M := ⟨_, rfl⟩
  rw [← hV0]
  have HV : Hid (V0.cells = (machL A M).toArray) := by rw [hV0]; rfl
  clear hV0
  have HM := hide h
  have HS := hide (St.refl w)
  clear h
  go_enter Tryz.func46, Tryz.ntmps46
  go_wp2_with (first | ((with_reducible refine isList ?_); first | (refine st_box HS _ _ rfl rfl (machL A M) HV.out ?_; clear HS; intro W bm HS) | (refine st_alloc HS _ rfl rfl zeroML zeroM ?_; clear HS; intro W br HS) | (refine st_loadA HS 1 rfl _ _ rfl rfl rfl (by decide +kernel) (by kernel_rfl) ?_)))
  refine (hNe.out _ HS.out.below).mono ?_
  (rintro e Wq ⟨rfl, hb⟩; have HSq := hide (HS.out.on hb); clear HS hb; replace HS := HSq; clear HSq)
  clear hNe
  cases hn : (needsP M i).1
  case false =>
    go_wp2_with (first | ((with_reducible refine isList ?_); first | (refine st_storeA HS 0 rfl _ _ _ rfl rfl rfl _ rfl rfl (by kernel_rfl) rfl ?_; clear HS; intro W HS)))
    rw [show driftP M i = (noMach, 1400) by unfold driftP; rw [hn, Bool.and_false]; rfl]
    exact bodyPost_ret (ret_mach2 Tryz.results46 (HS.out.blk 0 rfl) rfl rfl rfl) rfl (mret_no HS.out.below)
  have hc : atCodeP M i (fun _ => 2) 1 = true := by
    cases hc : atCodeP M i (fun _ => 2) 1
    · have := needsP_code M i
      rw [hc] at this
      rw [this] at hn
      cases hn
    · rfl
  obtain ⟨hh, hr⟩ := atRead hc
  obtain ⟨hmay, k, rfl, hk0⟩ := hereP_yes hh
  rw [Int.toNat_natCast] at hr
  have hk : k < A.s.n := by have := hX.out; omega
  have hok := here_sess hmay hk0
  have i2 : (k : Int) < (A.s.n : Int) := by omega
  obtain ⟨p, hI⟩ := hIns.out k hk hok 2 hr (by decide)
  obtain ⟨x, y, u, _, ⟨hb2, hb3⟩, _⟩ := hI.word (.inl (hI.code hr (by decide)))
  have he : (needsP M k).2 = 0 := by
    have := needsP_code M k
    rw [hc] at this
    rw [this]; rfl
  have eD : driftP M k = bif underV (driftL (M.at k)) (lz (M.at k).num 2) then ((tellP M k 2 (driftL (M.at k))).doN k 1 (driftL (M.at k)), 0) else endP M k 4 0 := by
    unfold driftP; rw [hn, decide_eq_true he, Int.toNat_natCast]; rfl
  have hl : joinV (lz (M.at k).num 1) (lz (M.at k).prog (p * 4 + 2)) = driftL (M.at k) ∧ upToV (driftL (M.at k)) 3 = true := by
    unfold driftL
    rw [hI.ins 2]
    exact join_or hok.label (by rw [hb2]; exact upToV_of (by omega) (by omega))
  have eT : ∀ v, tellingP M k 2 v = (tellP M k 2 v, 0) := fun v => by unfold tellingP; rw [hh, Int.toNat_natCast]; rfl
  obtain ⟨l, hll⟩ : ∃ l, l = driftL (M.at k) := ⟨_, rfl⟩
  rw [← hll] at eD hl
  have eB : belowV l (lz (M.at k).num 2) = underV l (lz (M.at k).num 2) := below_lab hl.2 hok.clear
  have eJ := hide hl.1
  have hRead := hide fun (W : World) (hb : Below w.heap.size w W) => driftRead_any (A.q k) (M.at k) p W (hSes.out k hk W hb) hI.pc hI.lt
  replace hTell := hide (hTell.out l)
  rw [eT] at hTell
  replace eD := hide eD; replace eB := hide eB; replace hn := hide hn
  clear hb2 hb3 hI hIns hok hmay hh hr hc he hll hl eT
  obtain ⟨bs, off, hbs, _, hR⟩ := hrng.out k hk _ HS.out.below
  replace hR := hide hR
  go_upto_region 4 with fail
  go_upto_region 5 with (first | ((with_reducible refine isList ?_); first | (refine st_load1 HS 1 rfl _ _ rfl _ rfl rfl (by decide +kernel) rfl ?_) | (refine wpList_load_at _ _ rfl rfl bs (off + k * 17) rfl (sessOf (A.q k) (M.at k)) (by decide +kernel) (by kernel_rfl) hR.out ?_) | (refine st_alloc HS _ rfl rfl zeroSL zeroS ?_; clear HS; intro W b8 HS) | (refine st_storeA HS 0 rfl _ _ _ rfl rfl rfl _ rfl rfl (by kernel_rfl) rfl ?_; clear HS; intro W HS)))
  replace HS : Hid (St w W [blkI b8 (sessOf (A.q k) (M.at k)), blkI br zeroML, blkI bm (machL A M)]) := HS
  clear hR hbs
  have HB := HS.out.blk 0 rfl
  (try simp only [Act.put, List.setIfInBounds_toArray, List.set_cons_zero, List.set_cons_succ])
  refine wp_region_mask [true, true, true, false, false, false, false, false, false, false] [false, false, false, true, true, true, true, true, true, true] [0, 0, 3, 3, 3, 2, 2] (fun w' => Blk w' b8 (sessOf (A.q k) (M.at k))) (by kernel_rfl) (by kernel_rfl) (by kernel_rfl) (by decide +kernel) HB.drew ?_
  intro kne
  simp only [pickAt]
  repeat (first | ((first | (refine wpQuiet_ld _ _ rfl ⟨b8, 1, none⟩ rfl rfl (by decide +kernel) (fun w hC => hC.cell 1 _ rfl) ?_) | (refine wpQuiet_la _ _ rfl b8 (0) rfl rfl (by decide +kernel) (sessOf (A.q k) (M.at k)) (by kernel_rfl) (fun w hC => hC.range) ?_)); simp only [Act.put, List.setIfInBounds_toArray, List.set_cons_zero, List.set_cons_succ]) | go_big_quiet_step (fail))
  refine wpQuiet_nil ?_
  clear kne HB
  replace HS := hide HS.out.drew
  generalize World.drew _ = Wd at *
  refine wpRest_cons rfl rfl fun K hK => ?_
  go_big_op
  refine (hRead.out _ HS.out.below).mono ?_
  (rintro e Wq ⟨rfl, hb⟩; have HSq := hide (HS.out.on hb); clear HS hb; replace HS := HSq; clear HSq)
  refine hK _ _ (fun _ => InC.mk (HS.out.blk 0 rfl)) ?_
  clear hK K
  (try simp only [Act.put, List.setIfInBounds_toArray, List.set_cons_zero, List.set_cons_succ])
  refine wpRest_cons rfl rfl fun K hK => ?_
  go_big_op
  refine (join_any _ _ _).mono ?_
  rintro e w' ⟨rfl, rfl⟩
  rw [eJ.out]
  refine hK _ _ (fun _ => InC.mk (HS.out.blk 0 rfl)) ?_
  clear hK K
  (try simp only [Act.put, List.setIfInBounds_toArray, List.set_cons_zero, List.set_cons_succ])
  refine wpRest_move _ rfl rfl rfl ?_
  (try simp only [Act.put, List.setIfInBounds_toArray, List.set_cons_zero, List.set_cons_succ])
  refine wpRest_extract _ 0 rfl rfl rfl rfl ?_
  (try simp only [Act.put, List.setIfInBounds_toArray, List.set_cons_zero, List.set_cons_succ])
  refine wpRest_extract _ 1 rfl rfl rfl rfl ?_
  (try simp only [Act.put, List.setIfInBounds_toArray, List.set_cons_zero, List.set_cons_succ])
  refine wpRest_assign _ rfl rfl rfl ?_
  (try simp only [Act.put, List.setIfInBounds_toArray, List.set_cons_zero, List.set_cons_succ])
  refine wpRest_assign _ rfl rfl rfl (wpRest_nil ?_)
  (try simp only [Act.put, List.setIfInBounds_toArray, List.set_cons_zero, List.set_cons_succ])
  refine NoPanic.normal ?_
  have d2 : Wq.cell? ⟨b8, 2, none⟩ = some (.int .i64 (lz (M.at k).num 2)) := (HS.out.blk 0 rfl).cell 2 _ rfl
  go_wp2_with fail
  refine (below_any _ _ _).mono ?_
  rintro e w' ⟨rfl, rfl⟩
  rw [eB.out]
  clear d2
  cases hu : underV l (lz (M.at k).num 2)
  · rw [hu] at eD
    have eS : Hid (driftP M k = endP M k 4 0) := eD.out
    go_wp2_with (first | ((with_reducible refine isList ?_); first | (refine st_loadA HS 2 rfl _ _ rfl rfl rfl (by decide +kernel) (by kernel_rfl) ?_)))
    refine (hEnd.out _ HS.out.below).mono ?_
    (rintro e W2 ⟨A2, rfl, hO, hb⟩; have HS2 := hide (HS.out.push hb (machI (fun k => _) A2 _) (machI_loc _ _ _) hO fun k hk => hk); generalize (fun k => _) = D2 at HS2; clear hO HS hb; replace HS := HS2; clear HS2; go_wp2_with (first | ((with_reducible refine isList ?_); first | (refine st_storeA HS 2 rfl _ _ _ rfl rfl rfl _ rfl rfl (by kernel_rfl) rfl ?_; clear HS; intro W HS))); rw [eS.out]; exact bodyPost_ret (ret_mach2 Tryz.results46 (HS.out.blk 2 rfl) rfl rfl rfl) rfl (mret_of (R := endP M k 4 0) HS.out 0 (D := D2) (A := A2) rfl))
  · rw [hu] at eD
    replace eD : Hid (driftP M k = ((tellP M k 2 l).doN k 1 l, 0)) := eD
    go_wp2_with (first | ((with_reducible refine isList ?_); first | (refine st_loadA HS 2 rfl _ _ rfl rfl rfl (by decide +kernel) (by kernel_rfl) ?_)))
    refine (hTell.out _ HS.out.below).mono ?_
    (rintro e Wq ⟨A2, rfl, hO, hb⟩; have HSq := hide (HS.out.push hb (machI (fun k => _) A2 _) (machI_loc _ _ _) hO fun k hk => hk); generalize (fun k => _) = D2 at HSq; clear HS hb hO; replace HS := HSq; clear HSq)
    have hk2 : k < A2.s.n := by
      have := (MachOwn.is (show MachOwn D2 _ A2 (tellP M k 2 l) from HS.out.get 0 rfl)).sess.1
      rw [tellP_sess] at this
      have := hX.out; omega
    have i4 : (k : Int) < (A2.s.n : Int) := by omega
    obtain ⟨bs1, hbs1, _⟩ := MachOwn.sblk (show MachOwn D2 _ A2 (tellP M k 2 l) from HS.out.get 0 rfl) hk2
    have hk1 := hk2
    go_upto_region 10 with (first | ((with_reducible refine isList ?_); first | (refine st_alloc HS _ rfl rfl zeroML zeroM ?_; clear HS; intro W bn HS) | (refine st_storeA HS 0 rfl _ _ _ rfl rfl rfl _ rfl rfl (by kernel_rfl) rfl ?_; clear HS; intro W HS)))
    replace HS : Hid (St w W [blkI bn (machL A2 (tellP M k 2 l)), machI D2 A2 (tellP M k 2 l), blkI b8 (sessOf (A.q k) (M.at k)), blkI br zeroML, blkI bm (machL A M)]) := HS
    go_upto_region 11 with (first | ((with_reducible refine isList ?_); first | (refine st_load1 HS 0 rfl _ _ rfl _ rfl rfl (by decide +kernel) rfl ?_) | (refine st_storeN HS 1 rfl hk1 hbs1 1 (by decide) _ _ _ rfl _ rfl (show _ = k * 17 + 1 from by with_reducible rfl) rfl rfl (by decide +kernel) ?_; clear HS; intro W HS)))
    replace HS : Hid (St w W [blkI bn (machL A2 ((tellP M k 2 l).doN k 1 l)), machI D2 A2 ((tellP M k 2 l).doN k 1 l), blkI b8 (sessOf (A.q k) (M.at k)), blkI br zeroML, blkI bm (machL A M)]) := HS
    go_wp2_with (first | ((with_reducible refine isList ?_); first | (refine st_loadA HS 0 rfl _ _ rfl rfl rfl (by decide +kernel) (by kernel_rfl) ?_) | (refine st_storeA HS 3 rfl _ _ _ rfl rfl rfl _ rfl rfl (by kernel_rfl) rfl ?_; clear HS; intro W HS)))
    rw [eD.out]
    exact bodyPost_ret (ret_mach2 Tryz.results46 (HS.out.blk 3 rfl) rfl rfl rfl) rfl (mret_of (R := ((tellP M k 2 l).doN k 1 l, 0)) HS.out 1 (D := D2) (A := A2) rfl)
end Go.Proofs.YtjjokalheloimaaGreat
