/-
  The law UndoTurns' own question: is all the same, but for a session, its locks, the trace?
-/
import Derived.Test.YtjjokalheloimaaGreatZlbe
import Derived.Test.YtjjokalheloimaaGreatZlbc
import Derived.Test.YtjjokalheloimaaGreatZlad
import Derived.Test.YtjjokalheloimaaGreatZlac
import Derived.Test.YtjjokalheloimaaGreatZlah
import Derived.BigQuiet
namespace Go.Proofs.YtjjokalheloimaaGreat
open Go.RowKit
set_option linter.unusedSimpArgs false
set_option linter.unusedVariables false
theorem wpMid_skip {P : Program} {ops : Array Oper} {Q : Exit → Act → World → Prop} {C : World → Prop} {o : Oper} {os : List Oper} {a : Act} {w : World} (hw : Region.wanted o (yielded ops a.tmps) = false)
    (hC : InC C w) (h : wpQuiet P ops (fun w' => ∃ u : Cls C, w' = u.at_) (fun a'' => Q .normal a'' w) os (a.put o.dst undef)) : wpMid P ops Q C o os a w := by
  unfold wpMid
  rw [if_neg (by rw [hw]; decide)]
  exact ⟨hC, h⟩
/-- A word's three cells. -/
theorem MachIs.wrange {W : World} {A : MacM} {M : PMach} (h : MachIs W A M) {g j b off : Nat} (hg : g < 4) (hj : j < (A.w g).n) (hb : (A.w g).a = some ⟨b, off, none⟩) : W.rangeAt b (off + j * 3) [.int .i64 (lz (M.lv g) (j * 3)), .int .i64 (lz (M.lv g) (j * 3 + 1)), .int .i64 (lz (M.lv g) (j * 3 + 2))] := fun c v hv => by
  have hc : c < 3 := (List.getElem?_eq_some_iff.1 hv).1
  rw [Nat.add_assoc, h.wcell hg hj hc hb]
  match c, hc, hv with
  | 0, _, hv => exact hv
  | 1, _, hv => exact hv
  | 2, _, hv => exact hv
set_option maxRecDepth 100000 in
set_option maxHeartbeats 4000000 in
theorem turns_yes (A B : MacM) (M N : PMach) (k : Nat) (w : World) (h : MachIs w A M) (h' : MachIs w B N) (hk : k < M.sess.length) (hL : Loosed M N k) (hid0 : 0 ≤ lz (M.at k).num 0) (hid1 : lz (M.at k).num 0 ≤ 254) (hlab : lz (N.at k).num 1 = lz (M.at k).num 1) :
    Calls Tryz.prog 40 #[machA A M, machA B N, .int .i64 k] w fun e w' => e = .returned (.bool true) ∧ Below w.heap.size w w' := by
  have hn1 := h.sess.1
  have hn2 := h'.sess.1
  have eqn : B.s.n = A.s.n := by have := hL.len; omega
  have k1 : k < A.s.n := by omega
  have k2 : k < B.s.n := by omega
  have i1 : (k : Int) < (A.s.n : Int) := by omega
  have i2 : (k : Int) < (B.s.n : Int) := by omega
  have i3 : ¬ (k : Int) < 0 := by omega
  have hn8 : A.s.n * 184 ≤ 140737488351232 := h.sess.2.1.1
  obtain ⟨id, hid⟩ : ∃ id, id = lz (M.at k).num 0 := ⟨_, rfl⟩
  rw [← hid] at hid0 hid1
  have Q := fun W => quad_eq (lz M.clocks 0) (lz M.clocks 1) (lz M.clocks 2) (lz M.clocks 3) (lz M.clocks 0) (lz M.clocks 1) (lz M.clocks 2) (lz M.clocks 3) W
  simp only [beq_self_eq_true, Bool.and_self] at Q
  have hM2 := hide fun (W : World) (hb : Below w.heap.size w W) => h'.below hb
  have hlen : Hid (∀ g, g < 4 → (B.w g).n = (A.w g).n ∧ (A.w g).n * 24 ≤ 140737488351232) := fun g hg => by
    have h1 := (h.words g hg).1
    have h2 := (h'.words g hg).1
    rw [hL.words g hg, freeTo_len] at h2
    have h3 := (h.words g hg).2.1.1
    exact ⟨by omega, by omega⟩
  have hwd : Hid (∀ g, g < 4 → ∀ j, j < (A.w g).n → lz (N.lv g) (j * 3) = lz (M.lv g) (j * 3) ∧ lz (N.lv g) (j * 3 + 1) = lz (M.lv g) (j * 3 + 1) ∧ lz (N.lv g) (j * 3 + 2) = if lz (M.lv g) (j * 3 + 2) = id + 1 then 0 else lz (M.lv g) (j * 3 + 2)) := fun g hg j hj => by
    have h1 := (h.words g hg).1
    have e : wrap64 (id + 1) = id + 1 := by simp only [wrap64]; omega
    rw [hL.words g hg, ← hid, freeTo_lz, freeTo_lz, freeTo_lz, if_neg (by omega), if_neg (by omega), e]
    refine ⟨rfl, rfl, ?_⟩
    by_cases hh : lz (M.lv g) (j * 3 + 2) = id + 1
    · rw [if_pos ⟨by omega, by omega, hh, by omega⟩, if_pos hh]
    · rw [if_neg (fun x => hh x.2.2.1), if_neg hh]
  have hSs : Hid (∀ (j : Nat) (hj : j < A.s.n) (hjk : j ≠ k) (W : World) (hb : Below w.heap.size w W), Calls Tryz.prog 34 #[.agg (sessOf (B.q j) (N.at j)).toArray, .agg (sessOf (A.q j) (M.at j)).toArray] W fun e w' => e = .returned (.bool true) ∧ Below W.heap.size W w') := fun j hj hjk W hb => by
    have e := hL.other j hjk
    rw [e]
    exact sameSess_any (B.q j) (A.q j) (M.at j) W (by have := (h'.below hb).sess.2.2.2 j (by omega); rw [show N.sess.getD j noSess = N.at j from rfl, e] at this; exact this) ((h.below hb).sess.2.2.2 j hj)
  have hrng := hide fun (j : Nat) (hj : j < A.s.n) (W : World) (hb : Below w.heap.size w W) => (h.below hb).sess.range hj
  have hrng2 := hide fun (j : Nat) (hj : j < B.s.n) (W : World) (hb : Below w.heap.size w W) => (h'.below hb).sess.range hj
  have hwr := hide fun (g j : Nat) (hg : g < 4) (hj : j < (A.w g).n) (b off : Nat) (hb : (A.w g).a = some ⟨b, off, none⟩) (W : World) (hbl : Below w.heap.size w W) => (h.below hbl).wrange hg hj hb
  have hwr2 := hide fun (g j : Nat) (hg : g < 4) (hj : j < (B.w g).n) (b off : Nat) (hb : (B.w g).a = some ⟨b, off, none⟩) (W : World) (hbl : Below w.heap.size w W) => (h'.below hbl).wrange hg hj hb
  have hwa : Hid (∀ g, g < 4 → 0 < (A.w g).n → ∃ b off, (A.w g).a = some ⟨b, off, none⟩) := fun g hg h0 => by
    obtain ⟨b, off, e, _⟩ := (h.words g hg).2.2 0 (by omega)
    exact ⟨b, off, e⟩
  have hwb : Hid (∀ g, g < 4 → 0 < (B.w g).n → ∃ b off, (B.w g).a = some ⟨b, off, none⟩) := fun g hg h0 => by
    obtain ⟨b, off, e, _⟩ := (h'.words g hg).2.2 0 (by omega)
    exact ⟨b, off, e⟩
  have hz := h'.sess.2.2.2 k k2
  have zr := SessIs.rn0 hz hL.reads
  have zw := SessIs.tn0 hz hL.writes
  have ec := hL.clocks
  have ece := hL.ceil
  clear hL hz hn1 hn2 h h'
  replace zr := hide zr; replace zw := hide zw; replace hlab := hide hlab; replace hid := hide hid; replace eqn := hide eqn; replace hk := hide hk
  obtain ⟨V0, hV0⟩ : ∃ V0, V0 = machA A M := ⟨_, rfl⟩
  obtain ⟨V1, hV1⟩ : ∃ V1, V1 = machA B N := ⟨_, rfl⟩
  rw [← hV0, ← hV1]
  have HV : Hid (V0.cells = (machL A M).toArray) := by rw [hV0]; rfl
  have HV1 : Hid (V1.cells = (macL B.w (lz M.clocks) M.ceil (.slice B.s.a B.s.n B.s.c) (.slice B.e.a B.e.n B.e.c)).toArray) := by rw [hV1]; show (machL B N).toArray = _; unfold machL; rw [ec, ece]
  clear hV0 hV1 ec ece
  have HS := hide (St.refl w)
  go_enter Tryz.func40, Tryz.ntmps40
  go_upto_region 1 with (first | ((with_reducible refine isList ?_); first | (refine st_box HS _ _ rfl rfl (machL A M) HV.out ?_; clear HS; intro W bm HS) | (refine st_box HS _ _ rfl rfl (macL B.w (lz M.clocks) M.ceil (.slice B.s.a B.s.n B.s.c) (.slice B.e.a B.e.n B.e.c)) HV1.out ?_; clear HS; intro W ba HS)))
  obtain ⟨LB, hLB⟩ : ∃ LB, LB = macL B.w (lz M.clocks) M.ceil (.slice B.s.a B.s.n B.s.c) (.slice B.e.a B.e.n B.e.c) := ⟨_, rfl⟩
  replace HS : Hid (St w W [blkI ba LB, blkI bm (machL A M)]) := by rw [hLB]; exact HS
  have hB9 : Hid (∀ W', Blk W' ba LB → W'.cell? ⟨ba, 9, none⟩ = some (.slice B.s.a B.s.n B.s.c)) := fun W' h => by rw [hLB] at h; exact h.cell 9 _ rfl
  have hBw : Hid (∀ W' g, g < 4 → Blk W' ba LB → W'.cell? ⟨ba, g, none⟩ = some (.slice (B.w g).a (B.w g).n (B.w g).c)) := fun W' g hg h => by
    rw [hLB] at h
    exact h.cell g _ (machL_w B { words := [], clocks := M.clocks, ceil := M.ceil, sess := [], trace := [] } hg)
  obtain ⟨a0, a1, a2, a3, a4, a5, a6, a7, a8, a9, a10⟩ := (HS.out.blk 1 rfl).mac
  have b4 : W.cell? ⟨ba, 4, none⟩ = some (.int .i64 (lz M.clocks 0)) := (HS.out.blk 0 rfl).cell 4 _ (by rw [hLB]; rfl)
  have b5 : W.cell? ⟨ba, 5, none⟩ = some (.int .i64 (lz M.clocks 1)) := (HS.out.blk 0 rfl).cell 5 _ (by rw [hLB]; rfl)
  have b6 : W.cell? ⟨ba, 6, none⟩ = some (.int .i64 (lz M.clocks 2)) := (HS.out.blk 0 rfl).cell 6 _ (by rw [hLB]; rfl)
  have b7 : W.cell? ⟨ba, 7, none⟩ = some (.int .i64 (lz M.clocks 3)) := (HS.out.blk 0 rfl).cell 7 _ (by rw [hLB]; rfl)
  have b8 : W.cell? ⟨ba, 8, none⟩ = some (.int .i64 M.ceil) := (HS.out.blk 0 rfl).cell 8 _ (by rw [hLB]; rfl)
  have b9 : W.cell? ⟨ba, 9, none⟩ = some (.slice B.s.a A.s.n B.s.c) := by rw [← eqn.out]; exact hB9.out W (HS.out.blk 0 rfl)
  replace hLB := hide hLB
  go_upto_region 3 with fail
  clear a0 a1 a2 a3 a4 a5 a6 a7 a8 a9 a10 b4 b5 b6 b7 b8 b9 Q
  go_wp2
  go_loopw [7] (fun i wr => ∃ g : Nat, g ≤ 4 ∧ i = .int .i64 g ∧ Hid (St w wr [blkI ba LB, blkI bm (machL A M)])) (fun i _ => 4 - (intOf i).toNat)
  case atStart => exact ⟨0, by omega, rfl, HS⟩
  case round =>
    clear HS
    obtain ⟨g, hg, rfl, HS⟩ := hrel
    by_cases hlt : g < 4
    · have j1 : (g : Int) < 4 := by omega
      obtain ⟨eb, hsz⟩ := hlen.out g hlt
      replace eb := hide eb
      have ca := (HS.out.blk 1 rfl).cell g _ (machL_w A M hlt)
      have cb := hBw.out _ g hlt (HS.out.blk 0 rfl)
      rw [eb.out] at cb
      have hn5 : (A.w g).n ≤ 1152921504606846976 := by omega
      go_upto_region 6 with fail
      go_big_quiet (fail)
      clear ca cb
      replace HS := hide (HS.out.drawn nq)
      generalize World.drewN _ _ = Wd at *
      go_wp2
      go_loopw [8] (fun i wr => ∃ j : Nat, j ≤ (A.w g).n ∧ i = .int .i64 j ∧ Hid (St w wr [blkI ba LB, blkI bm (machL A M)])) (fun i _ => (A.w g).n - (intOf i).toNat)
      case atStart => exact ⟨0, Nat.zero_le _, rfl, HS⟩
      case round =>
        clear HS
        obtain ⟨j, hj0, rfl, HS⟩ := hrel
        have ca := (HS.out.blk 1 rfl).cell g _ (machL_w A M hlt)
        by_cases hj : j < (A.w g).n
        · have j2 : (j : Int) < ((A.w g).n : Int) := by omega
          obtain ⟨bx, ox, ex⟩ := hwa.out g hlt (by omega)
          obtain ⟨bY, oy, ey⟩ := hwb.out g hlt (by have := eb.out; omega)
          obtain ⟨q0, q1, q2⟩ := hwd.out g hlt j hj
          obtain ⟨x0, h0⟩ : ∃ x0, x0 = lz (M.lv g) (j * 3) := ⟨_, rfl⟩
          obtain ⟨x1, h1⟩ : ∃ x1, x1 = lz (M.lv g) (j * 3 + 1) := ⟨_, rfl⟩
          obtain ⟨x2, h2⟩ : ∃ x2, x2 = lz (M.lv g) (j * 3 + 2) := ⟨_, rfl⟩
          obtain ⟨y2, h3⟩ : ∃ y2, y2 = if x2 = id + 1 then 0 else x2 := ⟨_, rfl⟩
          have r1 := fun W hb => hwr.out g j hlt hj bx ox ex W hb
          have r2 := fun W hb => hwr2.out g j hlt (by have := eb.out; omega) bY oy ey W hb
          rw [← h2, ← h3] at q2
          rw [← h0] at q0
          rw [← h1] at q1
          rw [q0, q1, q2] at r2
          rw [← h0, ← h1, ← h2] at r1
          clear q0 q1 q2 h0 h1 h2
          have hcl : Hid (∀ W', Below w.heap.size w W' → Blk W' bm (machL A M) → Blk W' ba LB → (fun W' => (W'.cell? ⟨bm, g, none⟩ = some (.slice (some ⟨bx, ox, none⟩) (A.w g).n (A.w g).c) ∧ W'.cell? ⟨ba, g, none⟩ = some (.slice (some ⟨bY, oy, none⟩) (A.w g).n (B.w g).c)) ∧ (W'.rangeAt bx (ox + j * 3) [.int .i64 x0, .int .i64 x1, .int .i64 x2] ∧ W'.rangeAt bY (oy + j * 3) [.int .i64 x0, .int .i64 x1, .int .i64 y2])) W') := fun W' hb h1 h2 => by
            have e1 := h1.cell g _ (machL_w A M hlt)
            have e2 := hBw.out W' g hlt h2
            rw [ex] at e1
            rw [ey, eb.out] at e2
            exact ⟨⟨e1, e2⟩, r1 W' hb, r2 W' hb⟩
          clear r1 r2
          replace h3 := hide h3; replace ex := hide ex; replace ey := hide ey
          go_upto_region 11 with fail
          clear ca
          (try simp only [Act.put, List.setIfInBounds_toArray, List.set_cons_zero, List.set_cons_succ])
          refine wp_region_fork [true, true, true, true, true, true, true, true, true, true, true, true, true, true, false, false, false, false] 14 [15, 16, 17] [0, 0, 0] 15 [14, 16, 17] [0, 0, 0] (fun W' => (W'.cell? ⟨bm, g, none⟩ = some (.slice (some ⟨bx, ox, none⟩) (A.w g).n (A.w g).c) ∧ W'.cell? ⟨ba, g, none⟩ = some (.slice (some ⟨bY, oy, none⟩) (A.w g).n (B.w g).c)) ∧ (W'.rangeAt bx (ox + j * 3) [.int .i64 x0, .int .i64 x1, .int .i64 x2] ∧ W'.rangeAt bY (oy + j * 3) [.int .i64 x0, .int .i64 x1, .int .i64 y2])) (by kernel_rfl) (by kernel_rfl) (by kernel_rfl) (by decide +kernel) (hcl.out _ HS.out.drew.below (HS.out.drew.blk 1 rfl) (HS.out.drew.blk 0 rfl)) ?_
          intro kne
          simp only [pickAt]
          repeat (first | ((first | (refine wpQuiet_ld _ _ rfl ⟨bm, g, none⟩ rfl rfl (by decide +kernel) (fun w hC => hC.1.1) ?_) | (refine wpQuiet_ld _ _ rfl ⟨ba, g, none⟩ rfl rfl (by decide +kernel) (fun w hC => hC.1.2) ?_) | (refine wpQuiet_la _ _ rfl bx (ox + j * 3) rfl rfl (by decide +kernel) [.int .i64 x0, .int .i64 x1, .int .i64 x2] (by kernel_rfl) (fun w hC => hC.2.1) ?_) | (refine wpQuiet_la _ _ rfl bY (oy + j * 3) rfl rfl (by decide +kernel) [.int .i64 x0, .int .i64 x1, .int .i64 y2] (by kernel_rfl) (fun w hC => hC.2.2) ?_)); simp only [Act.put, List.setIfInBounds_toArray, List.set_cons_zero, List.set_cons_succ]) | go_big_quiet_step (fail))
          refine wpQuiet_nil ?_
          clear kne
          replace HS := hide HS.out.drew
          generalize World.drew _ = We at *
          simp only [pickIx, List.getElem?_cons_zero, List.getElem?_cons_succ]
          refine ⟨?_, ?_⟩
          case' refine_1 =>
            refine wpRest_cons rfl rfl fun K hK => ?_
            refine stw_alloc HS _ rfl [.int .i64 0, .int .i64 0, .int .i64 0] zeroW ?_
            clear HS
            intro W3 b9 HS
            refine hK _ _ (fun _ => InC.mk (hcl.out _ HS.out.below (HS.out.blk 2 rfl) (HS.out.blk 1 rfl))) ?_
            clear hK K
            (try simp only [Act.put, List.setIfInBounds_toArray, List.set_cons_zero, List.set_cons_succ])
            refine wpRest_cons rfl rfl fun K hK => ?_
            refine stw_alloc HS _ rfl [.int .i64 0, .int .i64 0, .int .i64 0] zeroW ?_
            clear HS
            intro W4 b10 HS
            refine hK _ _ (fun _ => InC.mk (hcl.out _ HS.out.below (HS.out.blk 3 rfl) (HS.out.blk 2 rfl))) ?_
            clear hK K
            (try simp only [Act.put, List.setIfInBounds_toArray, List.set_cons_zero, List.set_cons_succ])
            replace HS : Hid (St w W4 [blkI b9 [.int .i64 0, .int .i64 0, .int .i64 0], blkI b10 [.int .i64 0, .int .i64 0, .int .i64 0], blkI ba LB, blkI bm (machL A M)]) := hide (HS.out.sel [1, 0, 2, 3] (by decide) rfl)
          case' refine_2 =>
            refine wpRest_cons rfl rfl fun K hK => ?_
            refine stw_alloc HS _ rfl [.int .i64 0, .int .i64 0, .int .i64 0] zeroW ?_
            clear HS
            intro W3 b10 HS
            refine hK _ _ (fun _ => InC.mk (hcl.out _ HS.out.below (HS.out.blk 2 rfl) (HS.out.blk 1 rfl))) ?_
            clear hK K
            (try simp only [Act.put, List.setIfInBounds_toArray, List.set_cons_zero, List.set_cons_succ])
            refine wpRest_cons rfl rfl fun K hK => ?_
            refine stw_alloc HS _ rfl [.int .i64 0, .int .i64 0, .int .i64 0] zeroW ?_
            clear HS
            intro W4 b9 HS
            refine hK _ _ (fun _ => InC.mk (hcl.out _ HS.out.below (HS.out.blk 3 rfl) (HS.out.blk 2 rfl))) ?_
            clear hK K
            (try simp only [Act.put, List.setIfInBounds_toArray, List.set_cons_zero, List.set_cons_succ])
          all_goals
            refine wpRest_cons rfl rfl fun K hK => ?_
            refine stw_storeA HS 0 rfl _ _ _ rfl rfl [.int .i64 x0, .int .i64 x1, .int .i64 x2] rfl rfl (by kernel_rfl) rfl ?_
            clear HS
            intro W5 HS
            refine hK _ _ (fun _ => InC.mk (hcl.out _ HS.out.below (HS.out.blk 3 rfl) (HS.out.blk 2 rfl))) ?_
            clear hK K
            (try simp only [Act.put, List.setIfInBounds_toArray, List.set_cons_zero, List.set_cons_succ])
            refine wpRest_cons rfl rfl fun K hK => ?_
            refine stw_storeA HS 1 rfl _ _ _ rfl rfl [.int .i64 x0, .int .i64 x1, .int .i64 y2] rfl rfl (by kernel_rfl) rfl ?_
            clear HS
            intro W6 HS
            refine hK _ _ (fun _ => InC.mk (hcl.out _ HS.out.below (HS.out.blk 3 rfl) (HS.out.blk 2 rfl))) (wpRest_nil ?_)
            clear hK K hcl
            (try simp only [Act.put, List.setIfInBounds_toArray, List.set_cons_zero, List.set_cons_succ])
            refine NoPanic.normal ?_
            replace HS : Hid (St w W6 [blkI b9 [.int .i64 x0, .int .i64 x1, .int .i64 x2], blkI b10 [.int .i64 x0, .int .i64 x1, .int .i64 y2], blkI ba LB, blkI bm (machL A M)]) := HS
            obtain ⟨bs, os, ebs, _, r0⟩ := hrng.out k k1 W6 HS.out.below
            have c0 : W6.cell? ⟨bs, os + k * 17, none⟩ = some (.int .i64 id) := by rw [hid.out]; exact r0 0 _ rfl
            have cm : W6.cell? ⟨bm, 9, none⟩ = some (.slice (some ⟨bs, os, none⟩) A.s.n A.s.c) := by rw [← ebs]; exact (HS.out.blk 3 rfl).cell 9 _ rfl
            obtain ⟨d0, d1, d2⟩ := (HS.out.blk 0 rfl).cells3
            clear r0 ebs
            by_cases hx : x2 = id + 1
            · have hy : y2 = 0 := by rw [h3.out, if_pos hx]
              subst hy
              go_wp2_with (first | ((with_reducible refine isList ?_); first | (refine st_loadA HS 1 rfl _ _ rfl rfl rfl (by decide +kernel) (by kernel_rfl) ?_)))
              replace HS : Hid (St w W6 [blkI ba LB, blkI bm (machL A M)]) := hide (HS.out.sel [2, 3] (by decide) rfl)
              go_roundw
              case rel => exact ⟨j + 1, by omega, by go_num, HS⟩
              case measure => simp [intOf]; omega
            · have hy : y2 = x2 := by rw [h3.out, if_neg hx]
              subst hy
              go_wp2_with (first | ((with_reducible refine isList ?_); first | (refine st_loadA HS 1 rfl _ _ rfl rfl rfl (by decide +kernel) (by kernel_rfl) ?_)))
              replace HS : Hid (St w W6 [blkI ba LB, blkI bm (machL A M)]) := hide (HS.out.sel [2, 3] (by decide) rfl)
              go_roundw
              case rel => exact ⟨j + 1, by omega, by go_num, HS⟩
              case measure => simp [intOf]; omega
        · obtain rfl : j = (A.w g).n := by omega
          go_wp2
          go_roundw
          case rel => exact ⟨g + 1, by omega, by go_num, HS⟩
          case measure => simp [intOf]; omega
    · obtain rfl : g = 4 := by omega
      go_wp2
      go_loopw [12] (fun i wr => ∃ j : Nat, j ≤ A.s.n ∧ i = .int .i64 j ∧ Hid (St w wr [blkI ba LB, blkI bm (machL A M)])) (fun i _ => A.s.n - (intOf i).toNat)
      case atStart => exact ⟨0, Nat.zero_le _, rfl, HS⟩
      case round =>
        clear HS
        obtain ⟨j, hj0, rfl, HS⟩ := hrel
        have cm : wr.cell? ⟨bm, 9, none⟩ = some (.slice A.s.a A.s.n A.s.c) := (HS.out.blk 1 rfl).cell 9 _ rfl
        by_cases hj : j < A.s.n
        · have j2 : (j : Int) < (A.s.n : Int) := by omega
          go_upto_region 20 with fail
          clear cm
          obtain ⟨bs, os, ebs, _, _⟩ := hrng.out j hj _ HS.out.below
          obtain ⟨bt, ot, ebt, _, _⟩ := hrng2.out j (by have := eqn.out; omega) _ HS.out.below
          have hcl : Hid (∀ W', Below w.heap.size w W' → Blk W' bm (machL A M) → Blk W' ba LB → (fun W' => (W'.cell? ⟨bm, 9, none⟩ = some (.slice (some ⟨bs, os, none⟩) A.s.n A.s.c) ∧ W'.cell? ⟨ba, 9, none⟩ = some (.slice (some ⟨bt, ot, none⟩) A.s.n B.s.c)) ∧ (W'.rangeAt bs (os + j * 17) (sessOf (A.q j) (M.at j)) ∧ W'.rangeAt bt (ot + j * 17) (sessOf (B.q j) (N.at j)))) W') := fun W' hb h1 h2 => by
            obtain ⟨b', o', e1, _, r1⟩ := hrng.out j hj W' hb
            obtain ⟨b2, o2, e2, _, r2⟩ := hrng2.out j (by have := eqn.out; omega) W' hb
            rw [ebs] at e1; cases e1
            rw [ebt] at e2; cases e2
            refine ⟨⟨by rw [← ebs]; exact h1.cell 9 _ rfl, by rw [← ebt, ← eqn.out]; exact hB9.out W' h2⟩, r1, r2⟩
          replace ebs := hide ebs; replace ebt := hide ebt
          by_cases hjk : j = k
          · subst hjk
            (try simp only [Act.put, List.setIfInBounds_toArray, List.set_cons_zero, List.set_cons_succ])
            refine wp_region_mid [true, true, true, true, true, true, true, true, true, true, true, true, true, true, false, false, false] 14 _ [false, false, false, false, false, false, false, false, false, false, false, false, false, false, false, true, true] (fun W' => (W'.cell? ⟨bm, 9, none⟩ = some (.slice (some ⟨bs, os, none⟩) A.s.n A.s.c) ∧ W'.cell? ⟨ba, 9, none⟩ = some (.slice (some ⟨bt, ot, none⟩) A.s.n B.s.c)) ∧ (W'.rangeAt bs (os + j * 17) (sessOf (A.q j) (M.at j)) ∧ W'.rangeAt bt (ot + j * 17) (sessOf (B.q j) (N.at j)))) (by kernel_rfl) (by kernel_rfl) (by kernel_rfl) rfl (by decide +kernel) (hcl.out _ HS.out.drew.below (HS.out.drew.blk 1 rfl) (HS.out.drew.blk 0 rfl)) ?_
            intro kne
            simp only [pickAt]
            repeat (first | go_big_quiet_skip | ((first | (refine wpQuiet_ld _ _ rfl ⟨bm, 9, none⟩ rfl rfl (by decide +kernel) (fun w hC => hC.1.1) ?_) | (refine wpQuiet_ld _ _ rfl ⟨ba, 9, none⟩ rfl rfl (by decide +kernel) (fun w hC => hC.1.2) ?_)); simp only [Act.put, List.setIfInBounds_toArray, List.set_cons_zero, List.set_cons_succ]) | go_big_quiet_step (fail))
            refine wpQuiet_nil ?_
            replace HS := hide HS.out.drew
            generalize World.drew _ = We at *
            refine wpMid_skip rfl (InC.mk (hcl.out _ HS.out.below (HS.out.blk 1 rfl) (HS.out.blk 0 rfl))) ?_
            (try simp only [Act.put, List.setIfInBounds_toArray, List.set_cons_zero, List.set_cons_succ])
            repeat (first | go_big_quiet_skip | ((first | (refine wpQuiet_ld _ _ rfl ⟨bm, 9, none⟩ rfl rfl (by decide +kernel) (fun w hC => hC.1.1) ?_) | (refine wpQuiet_ld _ _ rfl ⟨ba, 9, none⟩ rfl rfl (by decide +kernel) (fun w hC => hC.1.2) ?_)); simp only [Act.put, List.setIfInBounds_toArray, List.set_cons_zero, List.set_cons_succ]) | go_big_quiet_step (fail))
            refine wpQuiet_nil ?_
            clear kne hcl
            refine NoPanic.normal ?_
            go_wp2
            go_roundw
            case rel => exact ⟨j + 1, by omega, by go_num, HS⟩
            case measure => simp [intOf]; omega
          · have hne : ((j : Int) != (k : Int)) = true := by simp; omega
            have hne2 : ¬ (j : Int) = (k : Int) := by omega
            (try simp only [Act.put, List.setIfInBounds_toArray, List.set_cons_zero, List.set_cons_succ])
            refine wp_region_mid [true, true, true, true, true, true, true, true, true, true, true, true, true, true, false, false, false] 14 _ [false, false, false, false, false, false, false, false, false, false, false, false, false, false, false, true, true] (fun W' => (W'.cell? ⟨bm, 9, none⟩ = some (.slice (some ⟨bs, os, none⟩) A.s.n A.s.c) ∧ W'.cell? ⟨ba, 9, none⟩ = some (.slice (some ⟨bt, ot, none⟩) A.s.n B.s.c)) ∧ (W'.rangeAt bs (os + j * 17) (sessOf (A.q j) (M.at j)) ∧ W'.rangeAt bt (ot + j * 17) (sessOf (B.q j) (N.at j)))) (by kernel_rfl) (by kernel_rfl) (by kernel_rfl) rfl (by decide +kernel) (hcl.out _ HS.out.drew.below (HS.out.drew.blk 1 rfl) (HS.out.drew.blk 0 rfl)) ?_
            intro kne
            simp only [pickAt]
            repeat (first | go_big_quiet_skip | ((first | (refine wpQuiet_ld _ _ rfl ⟨bm, 9, none⟩ rfl rfl (by decide +kernel) (fun w hC => hC.1.1) ?_) | (refine wpQuiet_ld _ _ rfl ⟨ba, 9, none⟩ rfl rfl (by decide +kernel) (fun w hC => hC.1.2) ?_) | (refine wpQuiet_la _ _ rfl bs (os + j * 17) rfl rfl (by decide +kernel) (sessOf (A.q j) (M.at j)) (by kernel_rfl) (fun w hC => hC.2.1) ?_) | (refine wpQuiet_la _ _ rfl bt (ot + j * 17) rfl rfl (by decide +kernel) (sessOf (B.q j) (N.at j)) (by kernel_rfl) (fun w hC => hC.2.2) ?_)); simp only [Act.put, List.setIfInBounds_toArray, List.set_cons_zero, List.set_cons_succ]) | go_big_quiet_step (fail))
            refine wpQuiet_nil ?_
            clear kne
            replace HS := hide HS.out.drew
            generalize World.drew _ = We at *
            refine wpMid_op rfl fun K hK => ?_
            go_big_op
            refine (hSs.out j hj hjk _ HS.out.below).mono ?_
            (rintro e Wq ⟨rfl, hb⟩; have HSq := hide (HS.out.on hb); clear HS hb; replace HS := HSq; clear HSq)
            have hCC := hcl.out _ HS.out.below (HS.out.blk 1 rfl) (HS.out.blk 0 rfl)
            refine hK _ _ (InC.mk hCC) ?_
            clear hK K
            have kne : Nonempty (Cls (fun W' => (W'.cell? ⟨bm, 9, none⟩ = some (.slice (some ⟨bs, os, none⟩) A.s.n A.s.c) ∧ W'.cell? ⟨ba, 9, none⟩ = some (.slice (some ⟨bt, ot, none⟩) A.s.n B.s.c)) ∧ (W'.rangeAt bs (os + j * 17) (sessOf (A.q j) (M.at j)) ∧ W'.rangeAt bt (ot + j * 17) (sessOf (B.q j) (N.at j))))) := ⟨⟨_, hCC⟩⟩
            clear hCC
            (try simp only [Act.put, List.setIfInBounds_toArray, List.set_cons_zero, List.set_cons_succ])
            repeat (first | go_big_quiet_skip | ((first | (refine wpQuiet_ld _ _ rfl ⟨bm, 9, none⟩ rfl rfl (by decide +kernel) (fun w hC => hC.1.1) ?_) | (refine wpQuiet_ld _ _ rfl ⟨ba, 9, none⟩ rfl rfl (by decide +kernel) (fun w hC => hC.1.2) ?_)); simp only [Act.put, List.setIfInBounds_toArray, List.set_cons_zero, List.set_cons_succ]) | go_big_quiet_step (fail))
            refine wpQuiet_nil ?_
            clear kne hcl
            refine NoPanic.normal ?_
            go_wp2
            go_roundw
            case rel => exact ⟨j + 1, by omega, by go_num, HS⟩
            case measure => simp [intOf]; omega
        · obtain rfl : j = A.s.n := by omega
          go_upto_region 22 with fail
          clear cm
          obtain ⟨bs, os, ebs, _, _⟩ := hrng.out k k1 _ HS.out.below
          obtain ⟨bt, ot, ebt, _, _⟩ := hrng2.out k k2 _ HS.out.below
          have hcl : Hid (∀ W', Below w.heap.size w W' → Blk W' bm (machL A M) → Blk W' ba LB → (fun W' => (W'.cell? ⟨bm, 9, none⟩ = some (.slice (some ⟨bs, os, none⟩) A.s.n A.s.c) ∧ W'.cell? ⟨ba, 9, none⟩ = some (.slice (some ⟨bt, ot, none⟩) A.s.n B.s.c)) ∧ (W'.rangeAt bs (os + k * 17) (sessOf (A.q k) (M.at k)) ∧ W'.rangeAt bt (ot + k * 17) (sessOf (B.q k) (N.at k)))) W') := fun W' hb h1 h2 => by
            obtain ⟨b', o', e1, _, r1⟩ := hrng.out k k1 W' hb
            obtain ⟨b2, o2, e2, _, r2⟩ := hrng2.out k k2 W' hb
            rw [ebs] at e1; cases e1
            rw [ebt] at e2; cases e2
            refine ⟨⟨by rw [← ebs]; exact h1.cell 9 _ rfl, by rw [← ebt, ← eqn.out]; exact hB9.out W' h2⟩, r1, r2⟩
          have hcc := hcl.out _ HS.out.below (HS.out.blk 1 rfl) (HS.out.blk 0 rfl)
          obtain ⟨⟨c1, c2⟩, c3, c4⟩ := hcc
          have e1 := c3 1 _ rfl
          have e2 := c4 1 _ rfl
          have e3 := c4 10 _ rfl
          have e4 := c4 11 _ rfl
          rw [zr.out] at e3
          rw [zw.out] at e4
          rw [hlab.out] at e2
          clear c3 c4 hcl
          go_big_quiet (fail)
          replace HS := hide (HS.out.drawn nq)
          generalize World.drewN _ _ = Wd at *
          go_wp2
          go_ret
          exact ⟨rfl, HS.out.below⟩
end Go.Proofs.YtjjokalheloimaaGreat
