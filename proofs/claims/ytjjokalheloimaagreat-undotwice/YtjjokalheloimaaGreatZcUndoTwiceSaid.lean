/-
  The law UndoTwice.
-/
import Derived.Test.YtjjokalheloimaaGreatZhAwake13
import Derived.Test.YtjjokalheloimaaGreatZlbe
import Derived.Test.YtjjokalheloimaaGreatZlbd
import Derived.Test.YtjjokalheloimaaGreatZlbf
namespace Go.Proofs.YtjjokalheloimaaGreat
open Go.RowKit
set_option linter.unusedSimpArgs false
set_option linter.unusedVariables false
theorem here_none (i : Int) : hereP noMach i = false := by
  unfold hereP
  by_cases h : 0 ≤ i
  · rw [decide_eq_false (show ¬ i < (noMach.sess.length : Int) by show ¬ i < 0; omega), Bool.and_false, Bool.and_false]
  · rw [decide_eq_false h, Bool.false_and, Bool.and_false]
set_option maxRecDepth 100000 in
set_option maxHeartbeats 4000000 in
theorem undoTwice_no (A : MacM) (M : PMach) (i a b a0 b0 : Int) (w : World) (h : MachIs w A M) (ha : bits .and .i64 a 255 = a0) (hb : bits .and .i64 b 255 = b0) (hh : hereP M i = false) :
    Calls Tryz.prog 14 #[machA A M, .int .i64 i, .int .i64 a, .int .i64 b] w fun e w' => e = .returned (.bool true) ∧ Below w.heap.size w w' := by
  have hX := hide h.sess.1
  have hA := hide fun (W : World) (hb : Below w.heap.size w W) => undoAgain_any A M i 5 W (h.below hb)
  have hA2 := hide fun (B : MacM) (W : World) (hB : MachIs W B noMach) => undoAgain_any B noMach i 5 W hB
  have hE := hide fun (W : World) (hb : Below w.heap.size w W) => undoEnd_any A M i 2 a0 W (h.below hb)
  have hE2 := hide fun (B : MacM) (W : World) (hB : MachIs W B noMach) => undoEnd_any B noMach i 2 b0 W hB
  rw [againP_no (.inl hh)] at hA
  rw [againP_no (.inl (here_none i))] at hA2
  rw [endP_no (.inl hh)] at hE
  rw [endP_no (.inl (here_none i))] at hE2
  have hMay := hide fun (W : World) (hb : Below w.heap.size w W) => rmachMay_any A M W (h.below hb)
  have hAw := hide fun (W : World) => awake13_any W
  replace hh := hide hh
  obtain ⟨V0, hV0⟩ : ∃ V0, V0 = machA A M := ⟨_, rfl⟩
  rw [← hV0]
  have HV : Hid (V0.cells = (machL A M).toArray) := by rw [hV0]; rfl
  clear hV0
  have HM := hide h
  have HS := hide (St.refl w)
  clear h
  go_enter Tryz.func14, Tryz.ntmps14
  go_wp2_with (first | ((with_reducible refine isList ?_); first | (refine st_box HS _ _ rfl rfl (machL A M) HV.out ?_; clear HS; intro W bm HS)))
  refine (hAw.out _).mono ?_
  (rintro e Wq ⟨rfl, hb⟩; have HSq := hide (HS.out.on hb); clear HS hb; replace HS := HSq; clear HSq)
  clear hAw
  go_wp2_with (first | ((with_reducible refine isList ?_); first | (refine st_loadA HS 0 rfl _ _ rfl rfl rfl (by decide +kernel) (by kernel_rfl) ?_)))
  refine (hA.out _ HS.out.below).mono ?_
  (rintro e Wq ⟨A1, rfl, hO, hb⟩; have HSq := hide (HS.out.push hb (machI (fun k => _) A1 _) (machI_loc _ _ _) hO fun k hk => hk); generalize (fun k => _) = D1 at HSq; clear HS hb hO; replace HS := HSq; clear HSq)
  go_wp2_with (first | ((with_reducible refine isList ?_); first | (refine st_alloc HS _ rfl rfl zeroML zeroM ?_; clear HS; intro W b1 HS) | (refine st_storeA HS 0 rfl _ _ _ rfl rfl rfl _ rfl rfl (by kernel_rfl) rfl ?_; clear HS; intro W HS) | (refine st_loadA HS 0 rfl _ _ rfl rfl rfl (by decide +kernel) (by kernel_rfl) ?_)))
  replace HS : Hid (St w W [blkI b1 (machL A1 noMach), machI D1 A1 noMach, blkI bm (machL A M)]) := HS
  refine (hA2.out A1 _ (MachOwn.is (show MachOwn D1 _ A1 noMach from HS.out.get 1 rfl))).mono ?_
  (rintro e Wq ⟨A2, rfl, hO, hb⟩; have HSq := hide (HS.out.push hb (machI (fun k => _) A2 _) (machI_loc _ _ _) hO fun k hk => hk); generalize (fun k => _) = D2 at HSq; clear HS hb hO; replace HS := HSq; clear HSq)
  go_wp2_with (first | ((with_reducible refine isList ?_); first | (refine st_alloc HS _ rfl rfl zeroML zeroM ?_; clear HS; intro W b2 HS) | (refine st_storeA HS 0 rfl _ _ _ rfl rfl rfl _ rfl rfl (by kernel_rfl) rfl ?_; clear HS; intro W HS) | (refine st_loadA HS 4 rfl _ _ rfl rfl rfl (by decide +kernel) (by kernel_rfl) ?_)))
  refine (hE.out _ HS.out.below).mono ?_
  (rintro e Wq ⟨A3, rfl, hO, hb⟩; have HSq := hide (HS.out.push hb (machI (fun k => _) A3 _) (machI_loc _ _ _) hO fun k hk => hk); generalize (fun k => _) = D3 at HSq; clear HS hb hO; replace HS := HSq; clear HSq)
  go_wp2_with (first | ((with_reducible refine isList ?_); first | (refine st_alloc HS _ rfl rfl zeroML zeroM ?_; clear HS; intro W b3 HS) | (refine st_storeA HS 0 rfl _ _ _ rfl rfl rfl _ rfl rfl (by kernel_rfl) rfl ?_; clear HS; intro W HS) | (refine st_loadA HS 0 rfl _ _ rfl rfl rfl (by decide +kernel) (by kernel_rfl) ?_)))
  replace HS : Hid (St w W [blkI b3 (machL A3 noMach), machI D3 A3 noMach, blkI b2 (machL A2 noMach), machI D2 A2 noMach, blkI b1 (machL A1 noMach), machI D1 A1 noMach, blkI bm (machL A M)]) := HS
  refine (hE2.out A3 _ (MachOwn.is (show MachOwn D3 _ A3 noMach from HS.out.get 1 rfl))).mono ?_
  (rintro e Wq ⟨A4, rfl, hO, hb⟩; have HSq := hide (HS.out.push hb (machI (fun k => _) A4 _) (machI_loc _ _ _) hO fun k hk => hk); generalize (fun k => _) = D4 at HSq; clear HS hb hO; replace HS := HSq; clear HSq)
  go_upto_region 7 with (first | ((with_reducible refine isList ?_); first | (refine st_alloc HS _ rfl rfl zeroML zeroM ?_; clear HS; intro W b4 HS) | (refine st_storeA HS 0 rfl _ _ _ rfl rfl rfl _ rfl rfl (by kernel_rfl) rfl ?_; clear HS; intro W HS)))
  go_upto_region 8 with (go_at_call 27; refine (num_any _ _).mono ?_; rintro e w' ⟨rfl, rfl⟩)
  replace HS : Hid (St w W [blkI bm (machL A M)]) := hide (HS.out.sel [8] (by decide) rfl)
  go_wp2_with (first | ((with_reducible refine isList ?_); first | (refine st_loadA HS 0 rfl _ _ rfl rfl rfl (by decide +kernel) (by kernel_rfl) ?_)))
  refine (hMay.out _ HS.out.below).mono ?_
  (rintro e Wq ⟨rfl, hb⟩; have HSq := hide (HS.out.on hb); clear HS hb; replace HS := HSq; clear HSq)
  have c9 : Wq.cell? ⟨bm, 9, none⟩ = some (.slice A.s.a A.s.n A.s.c) := (HS.out.blk 0 rfl).cell 9 _ rfl
  have hh := hh.out
  unfold hereP at hh
  cases hm : machMay M
  · go_wp2
    go_ret
    exact ⟨rfl, HS.out.below⟩
  · rw [hm, Bool.true_and] at hh
    by_cases h0 : i < 0
    · go_wp2
      go_ret
      exact ⟨rfl, HS.out.below⟩
    · have h1 : ¬ i < (A.s.n : Int) := by
        intro h1
        rw [decide_eq_true (by omega : 0 ≤ i), decide_eq_true (by have := hX.out; omega : i < (M.sess.length : Int))] at hh
        cases hh
      clear hh
      go_wp2
      go_ret
      exact ⟨rfl, HS.out.below⟩
set_option maxRecDepth 100000 in
set_option maxHeartbeats 4000000 in
theorem undoTwice_yes (A : MacM) (M : PMach) (k : Nat) (a b a0 b0 : Int) (w : World) (h : MachIs w A M) (ha : bits .and .i64 a 255 = a0) (hb : bits .and .i64 b 255 = b0) (ua : upToV a0 255 = true) (ub : upToV b0 255 = true) (hm : machMay M = true) (hk0 : k < M.sess.length) :
    Calls Tryz.prog 14 #[machA A M, .int .i64 k, .int .i64 a, .int .i64 b] w fun e w' => e = .returned (.bool true) ∧ Below w.heap.size w w' := by
  have hX := h.sess.1
  have hh : hereP M k = true := by
    unfold hereP
    rw [hm, decide_eq_true (by omega : (0 : Int) ≤ k), decide_eq_true (by omega : (k : Int) < (M.sess.length : Int))]; rfl
  have h4 := h.four
  have hT4 : M.trace.length % 4 = 0 := by have := h.trace.1; omega
  have hk : k < A.s.n := by omega
  have h14 : (M.at k).num.length = 14 := (h.sess.2.2.2 k hk).1
  have LX := againR_loosed h4 hk0 5
  have hhX := again_here hm h4 hk0 h14 hT4 5
  have LY := againR_loosed LX.four (by rw [LX.len]; exact hk0) 5
  have LP := endR_loosed h4 hk0 2 a0
  have hhP := end_here hm h4 hk0 h14 hT4 (r := 2) rfl ua
  have LQ := endR_loosed LP.four (by rw [LP.len]; exact hk0) 2 b0
  have eZ := again_twice (c := 5) (d := 5) h4 hk0 h14
  have eW := end_twice (r := 2) (t := a0) (r' := 2) (t' := b0) h4 hk0 h14
  have q13 : lz ((endR (endR M k 2 a0) k 2 b0).at k).num 13 = b0 := by
    rw [endR_at (by rw [LP.len]; exact hk0), endS_lz (by rw [endR_at hk0, endS_len, h14])]; simp
  have hA := hide fun (W : World) (hb : Below w.heap.size w W) => undoAgain_any A M k 5 W (h.below hb)
  have hA2 := hide fun (B : MacM) (W : World) (hB : MachIs W B (againR M k 5)) => undoAgain_any B (againR M k 5) k 5 W hB
  have hE := hide fun (W : World) (hb : Below w.heap.size w W) => undoEnd_any A M k 2 a0 W (h.below hb)
  have hE2 := hide fun (B : MacM) (W : World) (hB : MachIs W B (endR M k 2 a0)) => undoEnd_any B (endR M k 2 a0) k 2 b0 W hB
  rw [againP_ok hh hk0 rfl] at hA
  rw [againP_ok hhX (by rw [LX.len]; exact hk0) rfl] at hA2
  rw [endP_ok hh rfl ua] at hE
  rw [endP_ok hhP rfl ub] at hE2
  have lX := LX.len
  have lY := LY.len
  have lP := LP.len
  have lQ := LQ.len
  clear LX hhX LY LP hhP LQ hT4 h14 h4
  generalize againR (againR M k 5) k 5 = Y at *
  generalize againR M k 5 = X at *
  generalize endR (endR M k 2 a0) k 2 b0 = Q at *
  generalize endR M k 2 a0 = P at *
  have hAw := hide fun (W : World) => awake13_any W
  replace eZ := hide eZ; replace eW := hide eW; replace q13 := hide q13; replace lX := hide lX; replace lY := hide lY; replace lP := hide lP; replace lQ := hide lQ; replace hh := hide hh; replace hX := hide hX; replace hm := hide hm
  have i1 : (k : Int) < (A.s.n : Int) := by omega
  have i3 : ¬ (k : Int) < 0 := by omega
  obtain ⟨V0, hV0⟩ : ∃ V0, V0 = machA A M := ⟨_, rfl⟩
  rw [← hV0]
  have HV : Hid (V0.cells = (machL A M).toArray) := by rw [hV0]; rfl
  clear hV0
  have HM := hide h
  have HS := hide (St.refl w)
  clear h
  go_enter Tryz.func14, Tryz.ntmps14
  go_wp2_with (first | ((with_reducible refine isList ?_); first | (refine st_box HS _ _ rfl rfl (machL A M) HV.out ?_; clear HS; intro W bm HS)))
  refine (hAw.out _).mono ?_
  (rintro e Wq ⟨rfl, hb⟩; have HSq := hide (HS.out.on hb); clear HS hb; replace HS := HSq; clear HSq)
  clear hAw
  go_wp2_with (first | ((with_reducible refine isList ?_); first | (refine st_loadA HS 0 rfl _ _ rfl rfl rfl (by decide +kernel) (by kernel_rfl) ?_)))
  refine (hA.out _ HS.out.below).mono ?_
  (rintro e Wq ⟨A1, rfl, hO, hb⟩; have HSq := hide (HS.out.push hb (machI (fun k => _) A1 _) (machI_loc _ _ _) hO fun k hk => hk); generalize (fun k => _) = D1 at HSq; clear HS hb hO; replace HS := HSq; clear HSq)
  go_wp2_with (first | ((with_reducible refine isList ?_); first | (refine st_alloc HS _ rfl rfl zeroML zeroM ?_; clear HS; intro W b1 HS) | (refine st_storeA HS 0 rfl _ _ _ rfl rfl rfl _ rfl rfl (by kernel_rfl) rfl ?_; clear HS; intro W HS) | (refine st_loadA HS 0 rfl _ _ rfl rfl rfl (by decide +kernel) (by kernel_rfl) ?_)))
  replace HS : Hid (St w W [blkI b1 (machL A1 X), machI D1 A1 X, blkI bm (machL A M)]) := HS
  refine (hA2.out A1 _ (MachOwn.is (show MachOwn D1 _ A1 X from HS.out.get 1 rfl))).mono ?_
  (rintro e Wq ⟨A2, rfl, hO, hb⟩; have HSq := hide (HS.out.push hb (machI (fun k => _) A2 _) (machI_loc _ _ _) hO fun k hk => hk); generalize (fun k => _) = D2 at HSq; clear HS hb hO; replace HS := HSq; clear HSq)
  go_wp2_with (first | ((with_reducible refine isList ?_); first | (refine st_alloc HS _ rfl rfl zeroML zeroM ?_; clear HS; intro W b2 HS) | (refine st_storeA HS 0 rfl _ _ _ rfl rfl rfl _ rfl rfl (by kernel_rfl) rfl ?_; clear HS; intro W HS) | (refine st_loadA HS 4 rfl _ _ rfl rfl rfl (by decide +kernel) (by kernel_rfl) ?_)))
  refine (hE.out _ HS.out.below).mono ?_
  (rintro e Wq ⟨A3, rfl, hO, hb⟩; have HSq := hide (HS.out.push hb (machI (fun k => _) A3 _) (machI_loc _ _ _) hO fun k hk => hk); generalize (fun k => _) = D3 at HSq; clear HS hb hO; replace HS := HSq; clear HSq)
  go_wp2_with (first | ((with_reducible refine isList ?_); first | (refine st_alloc HS _ rfl rfl zeroML zeroM ?_; clear HS; intro W b3 HS) | (refine st_storeA HS 0 rfl _ _ _ rfl rfl rfl _ rfl rfl (by kernel_rfl) rfl ?_; clear HS; intro W HS) | (refine st_loadA HS 0 rfl _ _ rfl rfl rfl (by decide +kernel) (by kernel_rfl) ?_)))
  replace HS : Hid (St w W [blkI b3 (machL A3 P), machI D3 A3 P, blkI b2 (machL A2 Y), machI D2 A2 Y, blkI b1 (machL A1 X), machI D1 A1 X, blkI bm (machL A M)]) := HS
  refine (hE2.out A3 _ (MachOwn.is (show MachOwn D3 _ A3 P from HS.out.get 1 rfl))).mono ?_
  (rintro e Wq ⟨A4, rfl, hO, hb⟩; have HSq := hide (HS.out.push hb (machI (fun k => _) A4 _) (machI_loc _ _ _) hO fun k hk => hk); generalize (fun k => _) = D4 at HSq; clear HS hb hO; replace HS := HSq; clear HSq)
  go_upto_region 7 with (first | ((with_reducible refine isList ?_); first | (refine st_alloc HS _ rfl rfl zeroML zeroM ?_; clear HS; intro W b4 HS) | (refine st_storeA HS 0 rfl _ _ _ rfl rfl rfl _ rfl rfl (by kernel_rfl) rfl ?_; clear HS; intro W HS)))
  replace HS : Hid (St w W [blkI b4 (machL A4 Q), machI D4 A4 Q, blkI b3 (machL A3 P), machI D3 A3 P, blkI b2 (machL A2 Y), machI D2 A2 Y, blkI b1 (machL A1 X), machI D1 A1 X, blkI bm (machL A M)]) := HS
  go_upto_region 9 with (go_at_call 27; refine (num_any _ _).mono ?_; rintro e w' ⟨rfl, rfl⟩)
  have n4 := (MachOwn.is (show MachOwn D4 _ A4 Q from HS.out.get 1 rfl)).sess.1
  have n2 := (MachOwn.is (show MachOwn D2 _ A2 Y from HS.out.get 5 rfl)).sess.1
  have n1 := (MachOwn.is (show MachOwn D1 _ A1 X from HS.out.get 7 rfl)).sess.1
  have k4 : k < A4.s.n := by have := lQ.out; have := lP.out; omega
  have k2 : k < A2.s.n := by have := lY.out; have := lX.out; omega
  have k1 : k < A1.s.n := by have := lX.out; omega
  have j4 : (k : Int) < (A4.s.n : Int) := by omega
  have j2 : (k : Int) < (A2.s.n : Int) := by omega
  have j1 : (k : Int) < (A1.s.n : Int) := by omega
  replace n4 := hide n4; replace n2 := hide n2; replace n1 := hide n1
  have c4 : W.cell? ⟨b4, 9, none⟩ = some (.slice A4.s.a A4.s.n A4.s.c) := (HS.out.blk 0 rfl).cell 9 _ rfl
  have c2 : W.cell? ⟨b2, 9, none⟩ = some (.slice A2.s.a A2.s.n A2.s.c) := (HS.out.blk 4 rfl).cell 9 _ rfl
  have c1 : W.cell? ⟨b1, 9, none⟩ = some (.slice A1.s.a A1.s.n A1.s.c) := (HS.out.blk 6 rfl).cell 9 _ rfl
  go_upto_region 11 with (go_at_call 27; refine (num_any _ _).mono ?_; rintro e w' ⟨rfl, rfl⟩)
  clear c4 c2 c1
  go_wp2_with (first | ((with_reducible refine isList ?_); first | (refine st_loadA HS 4 rfl _ _ rfl rfl rfl (by decide +kernel) (by kernel_rfl) ?_)))
  refine (copyMach_any A2 Y _ (MachOwn.is (show MachOwn D2 _ A2 Y from HS.out.get 5 rfl))).mono ?_
  (rintro e Wq ⟨A5, rfl, hO, hb⟩; have HSq := hide (HS.out.push hb (machI (fun k => _) A5 _) (machI_loc _ _ _) hO fun k hk => hk); generalize (fun k => _) = D5 at HSq; clear HS hb hO; replace HS := HSq; clear HSq)
  go_upto_region 12 with (first | ((with_reducible refine isList ?_); first | (refine st_alloc HS _ rfl rfl zeroML zeroM ?_; clear HS; intro W b5 HS) | (refine st_storeA HS 0 rfl _ _ _ rfl rfl rfl _ rfl rfl (by kernel_rfl) rfl ?_; clear HS; intro W HS)))
  replace HS : Hid (St w W [blkI b5 (machL A5 Y), machI D5 A5 Y, blkI b4 (machL A4 Q), machI D4 A4 Q, blkI b3 (machL A3 P), machI D3 A3 P, blkI b2 (machL A2 Y), machI D2 A2 Y, blkI b1 (machL A1 X), machI D1 A1 X, blkI bm (machL A M)]) := HS
  have n5 := (MachOwn.is (show MachOwn D5 _ A5 Y from HS.out.get 1 rfl)).sess.1
  have k5 : k < A5.s.n := by have := n2.out; omega
  have j5 : (k : Int) < (A5.s.n : Int) := by omega
  replace n5 := hide n5
  obtain ⟨s5, e5, _⟩ := MachOwn.sblk (show MachOwn D5 _ A5 Y from HS.out.get 1 rfl) k5
  obtain ⟨s1, e1, _⟩ := MachOwn.sblk (show MachOwn D1 _ A1 X from HS.out.get 9 rfl) k1
  have hcl : Hid (∀ W', Blk W' b5 (machL A5 Y) → Blk W' b1 (machL A1 X) → MachOwn D1 W' A1 X → (W'.cell? ⟨b5, 9, none⟩ = some (.slice (some ⟨s5, 0, none⟩) A5.s.n A5.s.c) ∧ W'.cell? ⟨b1, 9, none⟩ = some (.slice (some ⟨s1, 0, none⟩) A1.s.n A1.s.c)) ∧ W'.cell? ⟨s1, k * 17 + 14, none⟩ = some (.int .i64 (lz (X.at k).num 11))) := fun W' h1 h2 h3 => by
    obtain ⟨i1, i2⟩ := h3.scell h2 n1.out e1
    refine ⟨⟨by rw [← e5]; exact h1.cell 9 _ rfl, i1⟩, i2 k k1 14 _ rfl⟩
  (try simp only [Act.put, List.setIfInBounds_toArray, List.set_cons_zero, List.set_cons_succ])
  refine wp_region_mask [true, true, true, true, true, true, true, true, true, false, false, false] [false, false, false, false, false, false, false, false, false, true, true, true] [3, 3, 1] (fun W' => (W'.cell? ⟨b5, 9, none⟩ = some (.slice (some ⟨s5, 0, none⟩) A5.s.n A5.s.c) ∧ W'.cell? ⟨b1, 9, none⟩ = some (.slice (some ⟨s1, 0, none⟩) A1.s.n A1.s.c)) ∧ W'.cell? ⟨s1, k * 17 + 14, none⟩ = some (.int .i64 (lz (X.at k).num 11))) (by kernel_rfl) (by kernel_rfl) (by kernel_rfl) (by decide +kernel) (hcl.out _ (HS.out.drew.blk 0 rfl) (HS.out.drew.blk 8 rfl) (HS.out.drew.get 9 rfl)) ?_
  intro kne
  simp only [pickAt]
  repeat (first | ((first | (refine wpQuiet_ld _ _ rfl ⟨b5, 9, none⟩ rfl rfl (by decide +kernel) (fun w hC => hC.1.1) ?_) | (refine wpQuiet_ld _ _ rfl ⟨b1, 9, none⟩ rfl rfl (by decide +kernel) (fun w hC => hC.1.2) ?_) | (refine wpQuiet_ld _ _ rfl ⟨s1, k * 17 + 14, none⟩ rfl rfl (by decide +kernel) (fun w hC => hC.2) ?_)); simp only [Act.put, List.setIfInBounds_toArray, List.set_cons_zero, List.set_cons_succ]) | go_big_quiet_step (fail))
  refine wpQuiet_nil ?_
  clear kne
  replace HS := hide HS.out.drew
  generalize World.drew _ = Wd at *
  refine wpRest_of (v := .pointer (some ⟨s5, k * 17, none⟩)) rfl (ix_hv (.tmp 106) (.tmp 107) rfl s5 A5.s.n A5.s.c k rfl rfl k5) ?_
  (try simp only [Act.put, List.setIfInBounds_toArray, List.set_cons_zero, List.set_cons_succ])
  refine wpRest_of (v := .pointer (some ⟨s5, k * 17 + 14, none⟩)) rfl (fun w => rfl) ?_
  (try simp only [Act.put, List.setIfInBounds_toArray, List.set_cons_zero, List.set_cons_succ])
  refine wpRest_cons rfl rfl fun K hK => ?_
  refine stw_storeN HS 1 rfl k5 e5 11 (by decide) _ _ _ rfl _ rfl rfl rfl (by decide +kernel) ?_
  clear HS
  intro W2 HS
  refine hK _ _ (fun h => by cases h) (wpRest_nil ?_)
  clear hK K
  (try simp only [Act.put, List.setIfInBounds_toArray, List.set_cons_zero, List.set_cons_succ])
  refine NoPanic.normal ?_
  obtain ⟨T, hT⟩ : ∃ T, T = lz (X.at k).num 11 := ⟨_, rfl⟩
  rw [← hT] at HS eZ
  clear hT
  replace HS : Hid (St w W2 [blkI b5 (machL A5 (Y.doN k 11 T)), machI D5 A5 (Y.doN k 11 T), blkI b4 (machL A4 Q), machI D4 A4 Q, blkI b3 (machL A3 P), machI D3 A3 P, blkI b2 (machL A2 Y), machI D2 A2 Y, blkI b1 (machL A1 X), machI D1 A1 X, blkI bm (machL A M)]) := HS
  go_upto_region 14 with (first | ((with_reducible refine isList ?_); first | (refine st_load1 HS 8 rfl _ _ rfl _ rfl rfl (by decide +kernel) rfl ?_) | (refine st_load1 HS 9 rfl _ _ rfl _ rfl rfl (by decide +kernel) rfl ?_) | (refine st_store1 HS 1 rfl _ _ _ rfl _ rfl rfl rfl (by decide +kernel) rfl rfl ?_; clear HS; intro W HS) | (refine st_lit0 HS _ 66 4 rfl rfl Tryz.underlying32 (by kernel_rfl) ?_; clear HS; intro W be HS) | (refine st_copy HS 0 rfl (MachIs.trace (MachOwn.is (show MachOwn D1 _ A1 X from HS.out.get 10 rfl))) rfl _ _ _ rfl _ _ Tryz.underlying32 Tryz.infoEvent rfl (by decide) rfl rfl rfl ?_; clear HS; intro W De se he HS)))
  replace HS : Hid (St w W [slI De 66 4 se X.trace, blkI b5 (machL (A5.setE se) X), machI D5 A5 (Y.doN k 11 T), blkI b4 (machL A4 Q), machI D4 A4 Q, blkI b3 (machL A3 P), machI D3 A3 P, blkI b2 (machL A2 Y), machI D2 A2 Y, blkI b1 (machL A1 X), machI D1 A1 X, blkI bm (machL A M)]) := by
    have e : machL (A5.setE se) X = machL (A5.setE se) { (Y.doN k 11 T) with trace := X.trace } := by rw [eZ.out]
    rw [e]
    exact HS
  have hZ := MachOwn.withE (show MachOwn D5 _ A5 (Y.doN k 11 T) from HS.out.get 2 rfl) (HS.out.apart 2 0 _ _ rfl rfl (by decide)) (show ListOwn De 66 4 W se X.trace from HS.out.get 0 rfl)
  rw [eZ.out] at hZ
  replace hZ := hide hZ.is
  go_wp2_with (first | ((with_reducible refine isList ?_); first | (refine st_loadA HS 1 rfl _ _ rfl rfl rfl (by decide +kernel) (by kernel_rfl) ?_) | (refine st_loadA HS 9 rfl _ _ rfl rfl rfl (by decide +kernel) (by kernel_rfl) ?_)))
  refine (sameMachine_yes (A5.setE se) A1 X _ hZ.out (MachOwn.is (show MachOwn D1 _ A1 X from HS.out.get 10 rfl))).mono ?_
  (rintro e Wq ⟨rfl, hb⟩; have HSq := hide (HS.out.on hb); clear HS hb; replace HS := HSq; clear HSq)
  clear hZ
  go_wp2_with (first | ((with_reducible refine isList ?_); first | (refine st_loadR HS 5 rfl _ _ rfl 0 rfl rfl (by decide +kernel) (arenaL A3.w) _ (by kernel_rfl) rfl ?_) | (refine st_loadR HS 3 rfl _ _ rfl 0 rfl rfl (by decide +kernel) (arenaL A4.w) _ (by kernel_rfl) rfl ?_)))
  refine (sameArena_yes A3 A4 P Q _ (MachOwn.is (show MachOwn D3 _ A3 P from HS.out.get 6 rfl)) (MachOwn.is (show MachOwn D4 _ A4 Q from HS.out.get 4 rfl)) eW.out).mono ?_
  (rintro e Wq ⟨rfl, hb⟩; have HSq := hide (HS.out.on hb); clear HS hb; replace HS := HSq; clear HSq)
  obtain ⟨s4, e4, _⟩ := MachOwn.sblk (show MachOwn D4 _ A4 Q from HS.out.get 4 rfl) k4
  obtain ⟨c9, hR⟩ := MachOwn.scell (show MachOwn D4 _ A4 Q from HS.out.get 4 rfl) (HS.out.blk 3 rfl) n4.out e4
  have c16 : Wq.cell? ⟨s4, k * 17 + 16, none⟩ = some (.int .i64 b0) := by rw [← q13.out]; exact hR k k4 16 _ rfl
  clear hR
  go_wp2
  go_ret
  exact ⟨rfl, HS.out.below⟩
theorem undoTwice_any (A : MacM) (M : PMach) (i a b : Int) (w : World) (h : MachIs w A M) :
    Calls Tryz.prog 14 #[machA A M, .int .i64 i, .int .i64 a, .int .i64 b] w fun e w' => e = .returned (.bool true) ∧ Below w.heap.size w w' := by
  cases hh : hereP M i
  · exact undoTwice_no A M i a b (a % 256) (b % 256) w h (mask255 a) (mask255 b) hh
  · obtain ⟨hm, k, rfl, hk⟩ := hereP_yes hh
    exact undoTwice_yes A M k a b (a % 256) (b % 256) w h (mask255 a) (mask255 b) (upToV_of (by omega) (by omega)) (upToV_of (by omega) (by omega)) hm hk
end Go.Proofs.YtjjokalheloimaaGreat
