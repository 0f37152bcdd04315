/-
  The law UndoAgain.
-/
import Derived.Test.YtjjokalheloimaaGreatZhAwake13
import Derived.Test.YtjjokalheloimaaGreatZlbe
import Derived.Test.YtjjokalheloimaaGreatZlbf
import Derived.Test.YtjjokalheloimaaGreatZlac
import Derived.BigQuiet
namespace Go.Proofs.YtjjokalheloimaaGreat
open Go.RowKit
set_option linter.unusedSimpArgs false
set_option linter.unusedVariables false
theorem againS_back {x : PSess} (h : x.num.length = 14) (T : Int) : againS x T = ⟨[lz x.num 0, lz x.num 1, lz x.num 2, 0, 0, 0, 0, 0, 0, 0, 0, T, lz x.num 12, lz x.num 13], x.prog, [], []⟩ := by
  refine psess_eq (list_lz (by rw [againS_len, h]; rfl) fun i hi => ?_) rfl rfl rfl
  rw [againS_lz h]
  rw [againS_len, h] at hi
  match i, hi with
  | 0, _ => rfl
  | 1, _ => rfl
  | 2, _ => rfl
  | 3, _ => rfl
  | 4, _ => rfl
  | 5, _ => rfl
  | 6, _ => rfl
  | 7, _ => rfl
  | 8, _ => rfl
  | 9, _ => rfl
  | 10, _ => rfl
  | 11, _ => rfl
  | 12, _ => rfl
  | 13, _ => rfl
set_option maxRecDepth 100000 in
set_option maxHeartbeats 4000000 in
theorem undoAgainLaw_any (A : MacM) (M : PMach) (i : Int) (w : World) (h : MachIs w A M) :
    Calls Tryz.prog 12 #[machA A M, .int .i64 i] w fun e w' => e = .returned (.bool true) ∧ Below w.heap.size w w' := by
  have hX := hide h.sess.1
  have h4 := hide h.four
  have hT4 : Hid (M.trace.length = A.e.n * 4) := h.trace.1
  have hrng := hide fun (k : Nat) (hk : k < A.s.n) (W : World) (hb : Below w.heap.size w W) => (h.below hb).sess.range hk
  have hA := hide fun (W : World) (hb : Below w.heap.size w W) => undoAgain_any A M i 3 W (h.below hb)
  have hAw := hide fun (W : World) => awake13_any W
  obtain ⟨V0, hV0⟩ : ∃ V0, V0 = machA A M := ⟨_, rfl⟩
  rw [← hV0]
  have HV : Hid (V0.cells = (machL A M).toArray) := by rw [hV0]; rfl
  clear hV0
  have HM := hide h
  have HS := hide (St.refl w)
  clear h
  go_enter Tryz.func12, Tryz.ntmps12
  go_wp2_with (first | ((with_reducible refine isList ?_); first | (refine st_box HS _ _ rfl rfl (machL A M) HV.out ?_; clear HS; intro W bm HS)))
  refine (hAw.out _).mono ?_
  (rintro e Wq ⟨rfl, hb⟩; have HSq := hide (HS.out.on hb); clear HS hb; replace HS := HSq; clear HSq)
  go_wp2_with (first | ((with_reducible refine isList ?_); first | (refine st_loadA HS 0 rfl _ _ rfl rfl rfl (by decide +kernel) (by kernel_rfl) ?_)))
  refine (hA.out _ HS.out.below).mono ?_
  cases hh : hereP M i
  case false =>
    rw [againP_no (.inl hh)]
    (rintro e Wq ⟨A2, rfl, hO, hb⟩; have HSq := hide (HS.out.push hb (machI (fun k => _) A2 _) (machI_loc _ _ _) hO fun k hk => hk); generalize (fun k => _) = D2 at HSq; clear HS hb hO; replace HS := HSq; clear HSq)
    go_wp2_with (first | ((with_reducible refine isList ?_); first | (refine st_alloc HS _ rfl rfl zeroML zeroM ?_; clear HS; intro W ba HS) | (refine st_storeA HS 0 rfl _ _ _ rfl rfl rfl _ rfl rfl (by kernel_rfl) rfl ?_; clear HS; intro W HS) | (refine st_loadA HS 0 rfl _ _ rfl rfl rfl (by decide +kernel) (by kernel_rfl) ?_)) | (go_at_call 27; refine (num_any _ _).mono ?_; rintro e w' ⟨rfl, rfl⟩))
    refine (sameMachine_yes A2 noMac noMach _ (MachOwn.is (show MachOwn D2 _ A2 noMach from HS.out.get 1 rfl)) (machIs_none _)).mono ?_
    (rintro e Wq ⟨rfl, hb⟩; have HSq := hide (HS.out.on hb); clear HS hb; replace HS := HSq; clear HSq)
    go_wp2
    go_ret
    exact ⟨rfl, HS.out.below⟩
  obtain ⟨hm, k, rfl, hk0⟩ := hereP_yes hh
  have hk : k < A.s.n := by have := hX.out; omega
  have h14 : (M.at k).num.length = 14 := (HM.out.sess.2.2.2 k hk).1
  have hok := here_sess hm hk0
  have htr := hok.tries
  have L := againR_loosed h4.out hk0 3
  have eN : (againR M k 3).at k = ⟨[lz (M.at k).num 0, lz (M.at k).num 1, lz (M.at k).num 2, 0, 0, 0, 0, 0, 0, 0, 0, triesP M k, lz (M.at k).num 12, lz (M.at k).num 13], (M.at k).prog, [], []⟩ := by rw [againR_at hk0, againS_back h14]
  have hl := L.len
  have eT : (againR M k 3).trace = if A.e.n < 512 then M.trace ++ [lz (M.at k).num 0, lz (M.at k).num 1, 3, triesP M k] else M.trace := by
    unfold againR
    rw [tellP_trace, againM_trace, againM_at hk0, againS_lz h14, againS_lz h14, hT4.out, Nat.mul_div_cancel _ (by decide)]
    rfl
  rw [againP_ok hh hk0 rfl]
  clear L hh
  generalize againR M k 3 = N at *
  replace eN := hide eN; replace hl := hide hl; replace eT := hide eT
  obtain ⟨tr, etr⟩ : ∃ tr, tr = lz (M.at k).num 11 := ⟨_, rfl⟩
  obtain ⟨T, hT⟩ : ∃ T, T = triesP M k := ⟨_, rfl⟩
  rw [← hT] at eN eT
  rw [← etr] at htr
  obtain ⟨t0, t1⟩ := htr
  have hTc : T = if 65535 < wrap64 (tr + 1) then 65535 else wrap64 (tr + 1) := by rw [hT, etr]; rfl
  clear hT
  (rintro e Wq ⟨A2, rfl, hO, hb⟩; have HSq := hide (HS.out.push hb (machI (fun k => _) A2 _) (machI_loc _ _ _) hO fun k hk => hk); generalize (fun k => _) = D2 at HSq; clear HS hb hO; replace HS := HSq; clear HSq)
  have n2 := (MachOwn.is (show MachOwn D2 _ A2 N from HS.out.get 0 rfl)).sess.1
  have m2 := (MachOwn.is (show MachOwn D2 _ A2 N from HS.out.get 0 rfl)).trace.1
  have k2 : k < A2.s.n := by have := hl.out; omega
  have i1 : (k : Int) < (A.s.n : Int) := by omega
  have i2 : (k : Int) < (A2.s.n : Int) := by omega
  have i3 : ¬ (k : Int) < 0 := by omega
  have i4 : ¬ (A2.e.n : Int) < 1 := by
    rw [eT.out] at m2
    split at m2
    · rw [List.length_append] at m2; simp only [List.length_cons, List.length_nil] at m2; omega
    · have := hT4.out; omega
  replace n2 := hide n2; replace m2 := hide m2; replace hTc := hide hTc; replace etr := hide etr
  go_upto_region 6 with (first | ((with_reducible refine isList ?_); first | (refine st_alloc HS _ rfl rfl zeroML zeroM ?_; clear HS; intro W ba HS) | (refine st_storeA HS 0 rfl _ _ _ rfl rfl rfl _ rfl rfl (by kernel_rfl) rfl ?_; clear HS; intro W HS)) | (go_at_call 27; refine (num_any _ _).mono ?_; rintro e w' ⟨rfl, rfl⟩))
  replace HS : Hid (St w W [blkI ba (machL A2 N), machI D2 A2 N, blkI bm (machL A M)]) := HS
  have c29 : W.cell? ⟨ba, 9, none⟩ = some (.slice A2.s.a A2.s.n A2.s.c) := (HS.out.blk 0 rfl).cell 9 _ rfl
  have c2t : W.cell? ⟨ba, 10, none⟩ = some (.slice A2.e.a A2.e.n A2.e.c) := (HS.out.blk 0 rfl).cell 10 _ rfl
  have cm9 : W.cell? ⟨bm, 9, none⟩ = some (.slice A.s.a A.s.n A.s.c) := (HS.out.blk 2 rfl).cell 9 _ rfl
  go_upto_region 8 with fail
  clear c29 c2t cm9
  obtain ⟨bs, off, hbs, _, hR⟩ := hrng.out k hk _ HS.out.below
  replace hR := hide hR
  go_upto_region 9 with (first | ((with_reducible refine isList ?_); first | (refine st_load1 HS 2 rfl _ _ rfl _ rfl rfl (by decide +kernel) rfl ?_) | (refine wpList_load_at _ _ rfl rfl bs (off + k * 17) rfl (sessOf (A.q k) (M.at k)) (by decide +kernel) (by kernel_rfl) hR.out ?_) | (refine st_alloc HS _ rfl rfl zeroSL zeroS ?_; clear HS; intro W b7 HS) | (refine st_storeA HS 0 rfl _ _ _ rfl rfl rfl _ rfl rfl (by kernel_rfl) rfl ?_; clear HS; intro W HS)))
  replace HS : Hid (St w W [blkI b7 (sessL (lz (M.at k).num) (.slice (A.q k).p.a (A.q k).p.n (A.q k).p.c) (.slice (A.q k).r.a (A.q k).r.n (A.q k).r.c) (.slice (A.q k).t.a (A.q k).t.n (A.q k).t.c)), blkI ba (machL A2 N), machI D2 A2 N, blkI bm (machL A M)]) := HS
  clear hR hbs
  obtain ⟨d0, d1, d2, d3, _, _, _, _, _, _, _, _, _, _, d14, d15, d16⟩ := (HS.out.blk 0 rfl).sess
  rw [← etr.out] at d14
  by_cases hcap : 65535 < tr + 1
  case' pos =>
    have hT5 : Hid (T = 65535) := by
      have e : wrap64 (tr + 1) = tr + 1 := by simp only [wrap64]; omega
      show T = _
      rw [hTc.out, e, if_pos hcap]
    go_upto_region 10 with (first | ((with_reducible refine isList ?_); first | (refine st_alloc HS _ rfl rfl zeroSL zeroS ?_; clear HS; intro W b8 HS) | (refine st_storeA HS 0 rfl _ _ _ rfl rfl rfl _ rfl rfl (by kernel_rfl) rfl ?_; clear HS; intro W HS)))
    replace HS : Hid (St w W [blkI b8 (sessOf ⟨(A.q k).p, noSl, noSl⟩ (N.at k)), blkI b7 (sessL (lz (M.at k).num) (.slice (A.q k).p.a (A.q k).p.n (A.q k).p.c) (.slice (A.q k).r.a (A.q k).r.n (A.q k).r.c) (.slice (A.q k).t.a (A.q k).t.n (A.q k).t.c)), blkI ba (machL A2 N), machI D2 A2 N, blkI bm (machL A M)]) := by rw [eN.out, hT5.out]; exact HS
    clear hcap
  case' neg =>
    have hT5 : Hid (T = tr + 1) := by
      have e : wrap64 (tr + 1) = tr + 1 := by simp only [wrap64]; omega
      show T = _
      rw [hTc.out, e, if_neg hcap]
    go_upto_region 10 with (first | ((with_reducible refine isList ?_); first | (refine st_alloc HS _ rfl rfl zeroSL zeroS ?_; clear HS; intro W b8 HS) | (refine st_storeA HS 0 rfl _ _ _ rfl rfl rfl _ rfl rfl (by kernel_rfl) rfl ?_; clear HS; intro W HS)))
    replace HS : Hid (St w W [blkI b8 (sessOf ⟨(A.q k).p, noSl, noSl⟩ (N.at k)), blkI b7 (sessL (lz (M.at k).num) (.slice (A.q k).p.a (A.q k).p.n (A.q k).p.c) (.slice (A.q k).r.a (A.q k).r.n (A.q k).r.c) (.slice (A.q k).t.a (A.q k).t.n (A.q k).t.c)), blkI ba (machL A2 N), machI D2 A2 N, blkI bm (machL A M)]) := by rw [eN.out, hT5.out]; exact HS
    clear hcap
  all_goals
    obtain ⟨s2, e2, _⟩ := MachOwn.sblk (show MachOwn D2 _ A2 N from HS.out.get 3 rfl) k2
    replace e2 := hide e2
    clear d0 d1 d2 d3 d14 d15 d16 hT5
    by_cases hlt : A.e.n < 512
    · have ne : Hid (A2.e.n = A.e.n + 1) := by
        have h1 := m2.out
        have h2 := hT4.out
        rw [eT.out, if_pos hlt, List.length_append] at h1
        simp only [List.length_cons, List.length_nil] at h1
        show _ = _
        omega
      obtain ⟨be, eb, _⟩ : ∃ b, A2.e.a = some ⟨b, 0, none⟩ ∧ True := by
        obtain ⟨b, h1, _⟩ := MachOwn.own (show MachOwn D2 _ A2 N from HS.out.get 3 rfl) 5 (by unfold MacM.num; omega) (by rw [A2.sl_e]; have := ne.out; omega)
        exact ⟨b, h1, trivial⟩
      replace eb := hide eb
      have hev : Hid (∀ W', MachOwn D2 W' A2 N → W'.rangeAt be (A.e.n * 4) [.int .i64 (lz (M.at k).num 0), .int .i64 (lz (M.at k).num 1), .int .i64 3, .int .i64 T]) := fun W' h2 j v hv => by
        have hj : j < 4 := (List.getElem?_eq_some_iff.1 hv).1
        obtain ⟨b2, o2, q1, _, q2⟩ := h2.is.trace.2.2 (A.e.n * 4 + j) (by have := ne.out; omega)
        rw [eb.out] at q1; cases q1
        rw [Nat.zero_add] at q2
        rw [q2, eT.out, if_pos hlt]
        have e : lz (M.trace ++ [lz (M.at k).num 0, lz (M.at k).num 1, 3, T]) (A.e.n * 4 + j) = [lz (M.at k).num 0, lz (M.at k).num 1, 3, T].getD j 0 := by
          unfold lz
          rw [List.getD_eq_getElem?_getD, List.getElem?_append_right (by have := hT4.out; omega), ← List.getD_eq_getElem?_getD, show A.e.n * 4 + j - M.trace.length = j by have := hT4.out; omega]
        show some (Value.int .i64 (lz (M.trace ++ [lz (M.at k).num 0, lz (M.at k).num 1, 3, T]) (A.e.n * 4 + j))) = some v
        rw [e]
        match j, hj, hv with
        | 0, _, hv => exact hv
        | 1, _, hv => exact hv
        | 2, _, hv => exact hv
        | 3, _, hv => exact hv
      have i9 : ¬ (512 : Int) ≤ (A.e.n : Int) := by omega

      have hcl : Hid (∀ W', Blk W' ba (machL A2 N) → MachOwn D2 W' A2 N → Blk W' bm (machL A M) → Blk W' b7 (sessL (lz (M.at k).num) (.slice (A.q k).p.a (A.q k).p.n (A.q k).p.c) (.slice (A.q k).r.a (A.q k).r.n (A.q k).r.c) (.slice (A.q k).t.a (A.q k).t.n (A.q k).t.c)) → Blk W' b8 (sessOf ⟨(A.q k).p, noSl, noSl⟩ (N.at k)) → (fun W' => ((W'.cell? ⟨ba, 9, none⟩ = some (.slice (some ⟨s2, 0, none⟩) A2.s.n A2.s.c) ∧ W'.cell? ⟨ba, 10, none⟩ = some (.slice (some ⟨be, 0, none⟩) (A.e.n + 1) A2.e.c)) ∧ (W'.cell? ⟨bm, 10, none⟩ = some (.slice A.e.a A.e.n A.e.c) ∧ Blk W' b7 (sessL (lz (M.at k).num) (.slice (A.q k).p.a (A.q k).p.n (A.q k).p.c) (.slice (A.q k).r.a (A.q k).r.n (A.q k).r.c) (.slice (A.q k).t.a (A.q k).t.n (A.q k).t.c)))) ∧ ((Blk W' b8 (sessOf ⟨(A.q k).p, noSl, noSl⟩ (N.at k)) ∧ W'.rangeAt s2 (k * 17) (sessOf (A2.q k) (N.at k))) ∧ W'.rangeAt be (A.e.n * 4) [.int .i64 (lz (M.at k).num 0), .int .i64 (lz (M.at k).num 1), .int .i64 3, .int .i64 T])) W') := fun W' h1 h2 h3 h4 h5 => by
        obtain ⟨j1, j2⟩ := h2.scell h1 n2.out e2.out
        refine ⟨⟨⟨j1, by rw [← eb.out, ← ne.out]; exact h1.cell 10 _ rfl⟩, h3.cell 10 _ rfl, h4⟩, ⟨h5, j2 k k2⟩, hev.out _ h2⟩
      (try simp only [Act.put, List.setIfInBounds_toArray, List.set_cons_zero, List.set_cons_succ])
      refine wp_region_mid [true, true, true, true, true, true, false, false, false, false, false, false, false, false, false, false, false, false, false, false, false, false, false, false, false, false, false, false, false, false, false, false] 6 _ [false, false, false, false, false, false, false, true, true, true, true, true, true, true, true, true, true, true, true, true, true, true, true, true, true, true, true, true, true, true, true, true] (fun W' => ((W'.cell? ⟨ba, 9, none⟩ = some (.slice (some ⟨s2, 0, none⟩) A2.s.n A2.s.c) ∧ W'.cell? ⟨ba, 10, none⟩ = some (.slice (some ⟨be, 0, none⟩) (A.e.n + 1) A2.e.c)) ∧ (W'.cell? ⟨bm, 10, none⟩ = some (.slice A.e.a A.e.n A.e.c) ∧ Blk W' b7 (sessL (lz (M.at k).num) (.slice (A.q k).p.a (A.q k).p.n (A.q k).p.c) (.slice (A.q k).r.a (A.q k).r.n (A.q k).r.c) (.slice (A.q k).t.a (A.q k).t.n (A.q k).t.c)))) ∧ ((Blk W' b8 (sessOf ⟨(A.q k).p, noSl, noSl⟩ (N.at k)) ∧ W'.rangeAt s2 (k * 17) (sessOf (A2.q k) (N.at k))) ∧ W'.rangeAt be (A.e.n * 4) [.int .i64 (lz (M.at k).num 0), .int .i64 (lz (M.at k).num 1), .int .i64 3, .int .i64 T])) (by kernel_rfl) (by kernel_rfl) (by kernel_rfl) rfl (by decide +kernel) (hcl.out _ (HS.out.drew.blk 2 rfl) (HS.out.drew.get 3 rfl) (HS.out.drew.blk 4 rfl) (HS.out.drew.blk 1 rfl) (HS.out.drew.blk 0 rfl)) ?_
      intro kne
      simp only [pickAt]
      repeat (first | ((first | (refine wpQuiet_ld _ _ rfl ⟨ba, 9, none⟩ rfl rfl (by decide +kernel) (fun w hC => hC.1.1.1) ?_) | (refine wpQuiet_la _ _ rfl s2 (k * 17) rfl rfl (by decide +kernel) (sessOf (A2.q k) (N.at k)) (by kernel_rfl) (fun w hC => hC.2.1.2) ?_) | (refine wpQuiet_la _ _ rfl b8 (0) rfl rfl (by decide +kernel) (sessOf ⟨(A.q k).p, noSl, noSl⟩ (N.at k)) (by kernel_rfl) (fun w hC => hC.2.1.1.range) ?_)); simp only [Act.put, List.setIfInBounds_toArray, List.set_cons_zero, List.set_cons_succ]) | go_big_quiet_step (fail))
      refine wpQuiet_nil ?_
      clear kne
      replace HS := hide HS.out.drew
      generalize World.drew _ = Wd at *
      refine wpMid_op rfl fun K hK => ?_
      go_big_op
      refine (sameSess_any (A2.q k) ⟨(A.q k).p, noSl, noSl⟩ (N.at k) _ ((MachOwn.is (show MachOwn D2 _ A2 N from HS.out.get 3 rfl)).sess.2.2.2 k k2) (by rw [eN.out]; exact ⟨rfl, ((HM.out.below HS.out.below).sess.2.2.2 k hk).2.1, slIs_none _ 3, slIs_none _ 3⟩)).mono ?_
      (rintro e Wq ⟨rfl, hb⟩; have HSq := hide (HS.out.on hb); clear HS hb; replace HS := HSq; clear HSq)
      have hCC := (hcl.out _ (HS.out.blk 2 rfl) (HS.out.get 3 rfl) (HS.out.blk 4 rfl) (HS.out.blk 1 rfl) (HS.out.blk 0 rfl))
      refine hK _ _ (InC.mk hCC) ?_
      clear hK K
      have kne : Nonempty (Cls (fun W' => ((W'.cell? ⟨ba, 9, none⟩ = some (.slice (some ⟨s2, 0, none⟩) A2.s.n A2.s.c) ∧ W'.cell? ⟨ba, 10, none⟩ = some (.slice (some ⟨be, 0, none⟩) (A.e.n + 1) A2.e.c)) ∧ (W'.cell? ⟨bm, 10, none⟩ = some (.slice A.e.a A.e.n A.e.c) ∧ Blk W' b7 (sessL (lz (M.at k).num) (.slice (A.q k).p.a (A.q k).p.n (A.q k).p.c) (.slice (A.q k).r.a (A.q k).r.n (A.q k).r.c) (.slice (A.q k).t.a (A.q k).t.n (A.q k).t.c)))) ∧ ((Blk W' b8 (sessOf ⟨(A.q k).p, noSl, noSl⟩ (N.at k)) ∧ W'.rangeAt s2 (k * 17) (sessOf (A2.q k) (N.at k))) ∧ W'.rangeAt be (A.e.n * 4) [.int .i64 (lz (M.at k).num 0), .int .i64 (lz (M.at k).num 1), .int .i64 3, .int .i64 T]))) := ⟨⟨_, hCC⟩⟩
      clear hCC
      (try simp only [Act.put, List.setIfInBounds_toArray, List.set_cons_zero, List.set_cons_succ])
      repeat (first | go_big_quiet_skip | ((first | (refine wpQuiet_ld _ _ rfl ⟨bm, 10, none⟩ rfl rfl (by decide +kernel) (fun w hC => hC.1.2.1) ?_) | (refine wpQuiet_ld _ _ rfl ⟨ba, 10, none⟩ rfl rfl (by decide +kernel) (fun w hC => hC.1.1.2) ?_) | (refine wpQuiet_ld _ _ rfl ⟨b7, 0, none⟩ rfl rfl (by decide +kernel) (fun w hC => hC.1.2.2.cell 0 _ rfl) ?_) | (refine wpQuiet_ld _ _ rfl ⟨b7, 1, none⟩ rfl rfl (by decide +kernel) (fun w hC => hC.1.2.2.cell 1 _ rfl) ?_) | (refine wpQuiet_ld _ _ rfl ⟨b8, 14, none⟩ rfl rfl (by decide +kernel) (fun w hC => (show w.cell? _ = some (.int .i64 T) from (by have h := hC.2.1.1; rw [eN.out] at h; exact h.cell 14 _ rfl))) ?_) | (refine wpQuiet_la _ _ rfl be (A.e.n * 4) rfl rfl (by decide +kernel) [.int .i64 (lz (M.at k).num 0), .int .i64 (lz (M.at k).num 1), .int .i64 3, .int .i64 T] (by kernel_rfl) (fun w hC => hC.2.2) ?_)); simp only [Act.put, List.setIfInBounds_toArray, List.set_cons_zero, List.set_cons_succ]) | go_big_quiet_step (fail))
      refine wpQuiet_nil ?_
      refine NoPanic.normal ?_
      go_wp2
      go_ret
      exact ⟨rfl, HS.out.below⟩
    · have i9 : (512 : Int) ≤ (A.e.n : Int) := by omega

      have hcl : Hid (∀ W', Blk W' ba (machL A2 N) → MachOwn D2 W' A2 N → Blk W' bm (machL A M) → Blk W' b7 (sessL (lz (M.at k).num) (.slice (A.q k).p.a (A.q k).p.n (A.q k).p.c) (.slice (A.q k).r.a (A.q k).r.n (A.q k).r.c) (.slice (A.q k).t.a (A.q k).t.n (A.q k).t.c)) → Blk W' b8 (sessOf ⟨(A.q k).p, noSl, noSl⟩ (N.at k)) → (fun W' => ((W'.cell? ⟨ba, 9, none⟩ = some (.slice (some ⟨s2, 0, none⟩) A2.s.n A2.s.c) ∧ W'.cell? ⟨ba, 10, none⟩ = some (.slice A2.e.a A2.e.n A2.e.c)) ∧ (W'.cell? ⟨bm, 10, none⟩ = some (.slice A.e.a A.e.n A.e.c) ∧ Blk W' b7 (sessL (lz (M.at k).num) (.slice (A.q k).p.a (A.q k).p.n (A.q k).p.c) (.slice (A.q k).r.a (A.q k).r.n (A.q k).r.c) (.slice (A.q k).t.a (A.q k).t.n (A.q k).t.c)))) ∧ ((Blk W' b8 (sessOf ⟨(A.q k).p, noSl, noSl⟩ (N.at k)) ∧ W'.rangeAt s2 (k * 17) (sessOf (A2.q k) (N.at k))))) W') := fun W' h1 h2 h3 h4 h5 => by
        obtain ⟨j1, j2⟩ := h2.scell h1 n2.out e2.out
        refine ⟨⟨⟨j1, h1.cell 10 _ rfl⟩, h3.cell 10 _ rfl, h4⟩, h5, j2 k k2⟩
      (try simp only [Act.put, List.setIfInBounds_toArray, List.set_cons_zero, List.set_cons_succ])
      refine wp_region_mid [true, true, true, true, true, true, false, false, false, false, false, false, false, false, false, false, false, false, false, false, false, false, false, false, false, false, false, false, false, false, false, false] 6 _ [false, false, false, false, false, false, false, true, true, true, true, true, true, true, true, true, true, true, true, true, true, true, true, true, true, true, true, true, true, true, true, true] (fun W' => ((W'.cell? ⟨ba, 9, none⟩ = some (.slice (some ⟨s2, 0, none⟩) A2.s.n A2.s.c) ∧ W'.cell? ⟨ba, 10, none⟩ = some (.slice A2.e.a A2.e.n A2.e.c)) ∧ (W'.cell? ⟨bm, 10, none⟩ = some (.slice A.e.a A.e.n A.e.c) ∧ Blk W' b7 (sessL (lz (M.at k).num) (.slice (A.q k).p.a (A.q k).p.n (A.q k).p.c) (.slice (A.q k).r.a (A.q k).r.n (A.q k).r.c) (.slice (A.q k).t.a (A.q k).t.n (A.q k).t.c)))) ∧ ((Blk W' b8 (sessOf ⟨(A.q k).p, noSl, noSl⟩ (N.at k)) ∧ W'.rangeAt s2 (k * 17) (sessOf (A2.q k) (N.at k))))) (by kernel_rfl) (by kernel_rfl) (by kernel_rfl) rfl (by decide +kernel) (hcl.out _ (HS.out.drew.blk 2 rfl) (HS.out.drew.get 3 rfl) (HS.out.drew.blk 4 rfl) (HS.out.drew.blk 1 rfl) (HS.out.drew.blk 0 rfl)) ?_
      intro kne
      simp only [pickAt]
      repeat (first | ((first | (refine wpQuiet_ld _ _ rfl ⟨ba, 9, none⟩ rfl rfl (by decide +kernel) (fun w hC => hC.1.1.1) ?_) | (refine wpQuiet_la _ _ rfl s2 (k * 17) rfl rfl (by decide +kernel) (sessOf (A2.q k) (N.at k)) (by kernel_rfl) (fun w hC => hC.2.2) ?_) | (refine wpQuiet_la _ _ rfl b8 (0) rfl rfl (by decide +kernel) (sessOf ⟨(A.q k).p, noSl, noSl⟩ (N.at k)) (by kernel_rfl) (fun w hC => hC.2.1.range) ?_)); simp only [Act.put, List.setIfInBounds_toArray, List.set_cons_zero, List.set_cons_succ]) | go_big_quiet_step (fail))
      refine wpQuiet_nil ?_
      clear kne
      replace HS := hide HS.out.drew
      generalize World.drew _ = Wd at *
      refine wpMid_op rfl fun K hK => ?_
      go_big_op
      refine (sameSess_any (A2.q k) ⟨(A.q k).p, noSl, noSl⟩ (N.at k) _ ((MachOwn.is (show MachOwn D2 _ A2 N from HS.out.get 3 rfl)).sess.2.2.2 k k2) (by rw [eN.out]; exact ⟨rfl, ((HM.out.below HS.out.below).sess.2.2.2 k hk).2.1, slIs_none _ 3, slIs_none _ 3⟩)).mono ?_
      (rintro e Wq ⟨rfl, hb⟩; have HSq := hide (HS.out.on hb); clear HS hb; replace HS := HSq; clear HSq)
      have hCC := (hcl.out _ (HS.out.blk 2 rfl) (HS.out.get 3 rfl) (HS.out.blk 4 rfl) (HS.out.blk 1 rfl) (HS.out.blk 0 rfl))
      refine hK _ _ (InC.mk hCC) ?_
      clear hK K
      have kne : Nonempty (Cls (fun W' => ((W'.cell? ⟨ba, 9, none⟩ = some (.slice (some ⟨s2, 0, none⟩) A2.s.n A2.s.c) ∧ W'.cell? ⟨ba, 10, none⟩ = some (.slice A2.e.a A2.e.n A2.e.c)) ∧ (W'.cell? ⟨bm, 10, none⟩ = some (.slice A.e.a A.e.n A.e.c) ∧ Blk W' b7 (sessL (lz (M.at k).num) (.slice (A.q k).p.a (A.q k).p.n (A.q k).p.c) (.slice (A.q k).r.a (A.q k).r.n (A.q k).r.c) (.slice (A.q k).t.a (A.q k).t.n (A.q k).t.c)))) ∧ ((Blk W' b8 (sessOf ⟨(A.q k).p, noSl, noSl⟩ (N.at k)) ∧ W'.rangeAt s2 (k * 17) (sessOf (A2.q k) (N.at k)))))) := ⟨⟨_, hCC⟩⟩
      clear hCC
      (try simp only [Act.put, List.setIfInBounds_toArray, List.set_cons_zero, List.set_cons_succ])
      repeat (first | go_big_quiet_skip | ((first | (refine wpQuiet_ld _ _ rfl ⟨bm, 10, none⟩ rfl rfl (by decide +kernel) (fun w hC => hC.1.2.1) ?_) | (refine wpQuiet_ld _ _ rfl ⟨ba, 10, none⟩ rfl rfl (by decide +kernel) (fun w hC => hC.1.1.2) ?_) | (refine wpQuiet_ld _ _ rfl ⟨b7, 0, none⟩ rfl rfl (by decide +kernel) (fun w hC => hC.1.2.2.cell 0 _ rfl) ?_) | (refine wpQuiet_ld _ _ rfl ⟨b7, 1, none⟩ rfl rfl (by decide +kernel) (fun w hC => hC.1.2.2.cell 1 _ rfl) ?_) | (refine wpQuiet_ld _ _ rfl ⟨b8, 14, none⟩ rfl rfl (by decide +kernel) (fun w hC => (show w.cell? _ = some (.int .i64 T) from (by have h := hC.2.1; rw [eN.out] at h; exact h.cell 14 _ rfl))) ?_)); simp only [Act.put, List.setIfInBounds_toArray, List.set_cons_zero, List.set_cons_succ]) | go_big_quiet_step (fail))
      refine wpQuiet_nil ?_
      refine NoPanic.normal ?_
      go_wp2
      go_ret
      exact ⟨rfl, HS.out.below⟩
end Go.Proofs.YtjjokalheloimaaGreat
