/-
  The law StoreKeeps. (Written by wip/tools/gen_storekeeps.py)
-/
import Derived.Test.YtlnenmfippedpaaGreatZlai
import Derived.Test.YtlnenmfippedpaaGreatZlbd
import Derived.Test.YtlnenmfippedpaaGreatZlba
import Derived.Test.YtlnenmfippedpaaGreatZlbe
import Derived.Test.YtlnenmfippedpaaGreatZlah
import Derived.Test.YtlnenmfippedpaaGreatZlbf
import Derived.Test.YtlnenmfippedpaaGreatZlac
import Derived.BigQuiet
namespace Go.Proofs.YtlnenmfippedpaaGreat
open Go.RowKit
set_option linter.unusedSimpArgs false
set_option linter.unusedVariables false
theorem store_cases {A : MacM} {M : PMach} {w : World} (h : MachIs w A M) (i : Int) : storeP M i = (noMach, 1600) ∨ ∃ (N : PMach) (k : Nat), storeP M i = (N, 0) ∧ i = k ∧ k < M.sess.length ∧ hereP M k = true ∧ runP (M.at k) = 3 ∧ Stored M N k ((M.at k).ins 2) ((M.at k).ins 3) ((M.at k).reg ((M.at k).ins 1).toNat) := by
  cases hc : hereP M i && decide (runP (M.at i.toNat) = 3)
  · left
    unfold storeP
    rw [hc]
    rfl
  · right
    have e : ∃ N, storeP M i = (N, 0) := by
      unfold storeP
      rw [hc]
      exact ⟨_, rfl⟩
    obtain ⟨N, e⟩ := e
    obtain ⟨k, h1, h2, h3, h4, h5⟩ := stored_of h e
    exact ⟨N, k, e, h1, h2, h3, h4, h5⟩
theorem quad_same (x y : Nat → Int) (h : ∀ c, c < 4 → x c = y c) (W : World) : Sem.run Tryz.prog (Op.equalIn 10000 24 (.agg #[.int .i64 (x 0), .int .i64 (x 1), .int .i64 (x 2), .int .i64 (x 3)]) (.agg #[.int .i64 (y 0), .int .i64 (y 1), .int .i64 (y 2), .int .i64 (y 3)])) W = .ok true W := by
  rw [quad_eq, h 0 (by decide), h 1 (by decide), h 2 (by decide), h 3 (by decide)]
  simp
set_option maxRecDepth 100000 in
set_option maxHeartbeats 8000000 in
theorem storeKeeps_any (A : MacM) (M : PMach) (i : Int) (w : World) (h : MachIs w A M) :
    Calls Tryz.prog 4 #[machA A M, .int .i64 i] w fun e w' => e = .returned (.bool true) ∧ Below w.heap.size w w' := by
  have hX := hide h.sess.1
  have hE := hide fun (W : World) (hb : Below w.heap.size w W) => storeStep_any A M i W (h.below hb)
  have hAw := hide fun (W : World) => awake16_any W
  have hrng := hide fun (k : Nat) (hk : k < A.s.n) (W : World) (hb : Below w.heap.size w W) => (h.below hb).sess.range hk
  have hIns := hide fun (k : Nat) (hk : k < A.s.n) (hok : SessOk M.lens (M.at k)) (c : Int) (hr : runP (M.at k) = c) (hc : c ≠ -1) => ins_at h hk hok hr hc
  have hC := store_cases h i
  have hn8 : A.s.n * 184 ≤ 140737488351232 := h.sess.2.1.1
  obtain ⟨V0, hV0⟩ : ∃ V0, V0 = machA A M := ⟨_, rfl⟩
  rw [← hV0]
  have HV : Hid (V0.cells = (machL A M).toArray) := by rw [hV0]; rfl
  clear hV0
  have HM := hide h
  have HS := hide (St.refl w)
  clear h
  go_enter Tryz.func4, Tryz.ntmps4
  go_wp2_with (first | ((with_reducible refine isList ?_); first | (refine st_box HS _ _ rfl rfl (machL A M) HV.out ?_; clear HS; intro W bm HS)))
  refine (hAw.out _).mono ?_
  (rintro e Wq ⟨rfl, hb⟩; have HSq := hide (HS.out.on hb); clear HS hb; replace HS := HSq; clear HSq)
  clear hAw
  go_wp2_with (first | ((with_reducible refine isList ?_); first | (refine st_loadA HS 0 rfl _ _ rfl rfl rfl (by decide +kernel) (by kernel_rfl) ?_)))
  refine (hE.out _ HS.out.below).mono ?_
  clear hE
  rcases hC with hD | ⟨N, k, hD, rfl, hk0, hh, hr, hS⟩
  · rw [hD]
    (rintro e Wq ⟨A2, rfl, hO, hb⟩; have HSq := hide (HS.out.push hb (machI (fun k => _) A2 _) (machI_loc _ _ _) hO fun k hk => hk); generalize (fun k => _) = D2 at HSq; clear HS hb hO; replace HS := HSq; clear HSq)
    go_wp2_with (first | ((with_reducible refine isList ?_); first | (refine st_alloc HS _ rfl rfl zeroML zeroM ?_; clear HS; intro W ba HS) | (refine st_storeA HS 0 rfl _ _ _ rfl rfl rfl _ rfl rfl (by kernel_rfl) rfl ?_; clear HS; intro W HS) | (refine st_loadA HS 0 rfl _ _ rfl rfl rfl (by decide +kernel) (by kernel_rfl) ?_)) | (go_at_call 11; refine (num_any _ _).mono ?_; rintro e w' ⟨rfl, rfl⟩))
    refine (sameMachine_yes A2 noMac noMach _ (MachOwn.is (show MachOwn D2 _ A2 noMach from HS.out.get 1 rfl)) (machIs_none _)).mono ?_
    (rintro e Wq ⟨rfl, hb⟩; have HSq := hide (HS.out.on hb); clear HS hb; replace HS := HSq; clear HSq)
    go_wp2
    go_ret
    exact ⟨rfl, HS.out.below⟩
  have hk : k < A.s.n := by have := hX.out; omega
  have hok := here_sess (hereP_yes hh).1 hk0
  obtain ⟨p, hI⟩ := hIns.out k hk hok 3 hr (by decide)
  obtain ⟨a, b, c, ⟨ea, ha⟩, ⟨eb, hb⟩, ⟨ec, hc3⟩⟩ := hI.word (.inr (hI.code hr (by decide)))
  obtain ⟨v, hv⟩ : ∃ v, v = (M.at k).reg a := ⟨_, rfl⟩
  rw [hI.ins 1, hI.ins 2, hI.ins 3, ea, eb, ec, Int.toNat_natCast, ← hv] at hS
  have hWr : Wr (N.at k).tn (lz (N.at k).writes) := writesMay_get (here_sess (hereP_yes hS.here).1 (by rw [hS.len]; exact hk0)).writes
  have hkeep := hide (keep_yes hWr hS.kept)
  have hfewW := hide hWr.few
  have hp := hide hI.pc
  have hlt := hI.lt
  have hfew := hI.few
  have hpc2 : Hid (lz (N.at k).num 4 = (p : Int) + 1) := by show _ = _; rw [hS.pc, hI.pc]
  have hnum := hide hS.num
  have hwd := hide hS.words
  have hrd := hide hS.reads
  have hot := hide hS.other
  have hln := hide hS.len
  have Q := hide fun W => quad_same (lz N.clocks) (lz M.clocks) (fun c _ => by rw [hS.clocks]) W
  rw [hD]
  replace hv := hide hv; replace ea := hide ea; replace eb := hide eb; replace ec := hide ec
  clear hIns hS hWr hI hh hr hok hD hc3 hb
  (rintro e Wq ⟨A2, rfl, hO, hb⟩; have HSq := hide (HS.out.push hb (machI (fun k => _) A2 _) (machI_loc _ _ _) hO fun k hk => hk); generalize (fun k => _) = D2 at HSq; clear HS hb hO; replace HS := HSq; clear HSq)
  have n2 : A2.s.n = A.s.n := by
    have := (MachOwn.is (show MachOwn D2 _ A2 N from HS.out.get 0 rfl)).sess.1
    have := hln.out
    have := hX.out
    omega
  have hk2 : k < A2.s.n := by omega
  have i1 : (k : Int) < (A.s.n : Int) := by omega
  have i2 : (p : Int) < ((A.q k).p.n : Int) := by omega
  have i3 : (a : Int) < 4 := by omega
  have i4 : ¬ (A.s.n : Int) ≤ (k : Int) := by omega
  have i5 : ¬ ((A.q k).p.n : Int) ≤ (p : Int) := by omega
  have i6 : (p : Int) ≤ 16 := by omega
  have i7 : ¬ (4 : Int) ≤ (a : Int) := by omega
  have i8 : decide ((p : Int) < 0) = false := decide_eq_false (by omega)
  have i9 : decide ((k : Int) < 0) = false := decide_eq_false (by omega)
  have i10 : decide ((a : Int) < 0) = false := decide_eq_false (by omega)
  have i13 : decide ((A.q k).p.n ≤ p) = false := decide_eq_false (by omega)
  have i14 : decide (4 ≤ a) = false := decide_eq_false (by omega)
  have i11 : ((p : Int) + 1 != (p : Int) + 1) = false := bne_self_eq_false _
  have i12 : IntKind.i64.wrap ((p : Int) + 1) = (p : Int) + 1 := IntWalk.i64_in _ ⟨by omega, by omega⟩
  replace n2 := hide n2
  go_upto_region 6 with (first | ((with_reducible refine isList ?_); first | (refine st_alloc HS _ rfl rfl zeroML zeroM ?_; clear HS; intro W ba HS) | (refine st_storeA HS 0 rfl _ _ _ rfl rfl rfl _ rfl rfl (by kernel_rfl) rfl ?_; clear HS; intro W HS)) | (go_at_call 11; refine (num_any _ _).mono ?_; rintro e w' ⟨rfl, rfl⟩))
  replace HS : Hid (St w W [blkI ba (machL A2 N), machI D2 A2 N, blkI bm (machL A M)]) := HS
  obtain ⟨s2, e2, _⟩ := MachOwn.sblk (show MachOwn D2 _ A2 N from HS.out.get 1 rfl) hk2
  replace e2 := hide e2
  have m2 := (MachOwn.is (show MachOwn D2 _ A2 N from HS.out.get 1 rfl)).sess.1
  replace m2 := hide m2
  obtain ⟨bs, os, es, _⟩ := hrng.out k hk _ HS.out.below
  replace es := hide es
  have h9 : Hid (∀ W', Blk W' bm (machL A M) → Blk W' ba (machL A2 N) → (W'.cell? ⟨bm, 9, none⟩ = some (.slice (some ⟨bs, os, none⟩) A.s.n A.s.c) ∧ W'.cell? ⟨ba, 9, none⟩ = some (.slice (some ⟨s2, 0, none⟩) A.s.n A2.s.c))) := fun W' h1 h2 => ⟨by rw [← es.out]; exact h1.cell 9 _ rfl, by rw [← e2.out, ← n2.out]; exact h2.cell 9 _ rfl⟩
  have hcj : Hid (∀ j, j < A.s.n → ∀ W', Below w.heap.size w W' → Blk W' ba (machL A2 N) → MachOwn D2 W' A2 N → (W'.rangeAt bs (os + j * 17) (sessOf (A.q j) (M.at j)) ∧ W'.rangeAt s2 (j * 17) (sessOf (A2.q j) (N.at j)))) := fun j hj W' hb h2 h3 => by
    obtain ⟨b', o', q1, _, q2⟩ := hrng.out j hj W' hb
    rw [es.out] at q1; cases q1
    exact ⟨q2, (h3.scell h2 m2.out e2.out).2 j (by have := n2.out; omega)⟩
  obtain ⟨c1, c2⟩ := h9.out _ (HS.out.blk 2 rfl) (HS.out.blk 0 rfl)
  go_upto_region 8 with fail
  clear c1 c2
  (try simp only [Act.put, List.setIfInBounds_toArray, List.set_cons_zero, List.set_cons_succ])
  refine wp_region_fork [true, true, true, true, true, true, true, true, true, true, false, false, false, false] 10 [11, 12, 13] [0, 0, 0] 11 [10, 12, 13] [0, 0, 0] (fun W' => (W'.cell? ⟨bm, 9, none⟩ = some (.slice (some ⟨bs, os, none⟩) A.s.n A.s.c) ∧ W'.rangeAt bs (os + k * 17) (sessOf (A.q k) (M.at k))) ∧ (W'.cell? ⟨ba, 9, none⟩ = some (.slice (some ⟨s2, 0, none⟩) A.s.n A2.s.c) ∧ W'.rangeAt s2 (k * 17) (sessOf (A2.q k) (N.at k)))) (by kernel_rfl) (by kernel_rfl) (by kernel_rfl) (by decide +kernel) ((fun (x : _ ∧ _) (y : _ ∧ _) => ⟨⟨x.1, y.1⟩, x.2, y.2⟩) (h9.out _ (HS.out.drew.blk 2 rfl) (HS.out.drew.blk 0 rfl)) (hcj.out k hk _ HS.out.drew.below (HS.out.drew.blk 0 rfl) (HS.out.drew.get 1 rfl))) ?_
  intro kne
  simp only [pickAt]
  repeat (first | ((first | (refine wpQuiet_ld _ _ rfl ⟨bm, 9, none⟩ rfl rfl (by decide +kernel) (fun w hC => hC.1.1) ?_) | (refine wpQuiet_la _ _ rfl bs (os + k * 17) rfl rfl (by decide +kernel) (sessOf (A.q k) (M.at k)) (by kernel_rfl) (fun w hC => hC.1.2) ?_) | (refine wpQuiet_ld _ _ rfl ⟨ba, 9, none⟩ rfl rfl (by decide +kernel) (fun w hC => hC.2.1) ?_) | (refine wpQuiet_la _ _ rfl s2 (k * 17) rfl rfl (by decide +kernel) (sessOf (A2.q k) (N.at k)) (by kernel_rfl) (fun w hC => hC.2.2) ?_)); simp only [Act.put, List.setIfInBounds_toArray, List.set_cons_zero, List.set_cons_succ]) | go_big_quiet_step (fail))
  refine wpQuiet_nil ?_
  clear kne
  replace HS := hide HS.out.drew
  generalize World.drew _ = Wd at *
  simp only [pickIx, List.getElem?_cons_zero, List.getElem?_cons_succ]
  have hcl : Hid (∀ W', Below w.heap.size w W' → Blk W' bm (machL A M) → Blk W' ba (machL A2 N) → MachOwn D2 W' A2 N → (fun W' => (W'.cell? ⟨bm, 9, none⟩ = some (.slice (some ⟨bs, os, none⟩) A.s.n A.s.c) ∧ W'.rangeAt bs (os + k * 17) (sessOf (A.q k) (M.at k))) ∧ (W'.cell? ⟨ba, 9, none⟩ = some (.slice (some ⟨s2, 0, none⟩) A.s.n A2.s.c) ∧ W'.rangeAt s2 (k * 17) (sessOf (A2.q k) (N.at k)))) W') := fun W' h0 h1 h2 h3 => ⟨⟨(h9.out W' h1 h2).1, (hcj.out k hk W' h0 h2 h3).1⟩, (h9.out W' h1 h2).2, (hcj.out k hk W' h0 h2 h3).2⟩
  refine' (fun (key : ∀ (W4 : World) (b7 b8 : Nat), Hid (St w W4 [blkI b7 zeroSL, blkI b8 zeroSL, blkI ba (machL A2 N), machI D2 A2 N, blkI bm (machL A M)]) → (_ : World → Nat → Nat → Prop) W4 b7 b8) => ?main) ?pf
  case main =>
    refine ⟨?_, ?_⟩
    · -- refine_1
      refine wpRest_cons rfl rfl fun K hK => ?_
      refine stw_alloc HS _ rfl zeroSL zeroS ?_
      intro W3 b7 HS
      refine hK _ _ (fun _ => InC.mk (hcl.out _ HS.out.below (HS.out.blk 3 rfl) (HS.out.blk 1 rfl) (HS.out.get 2 rfl))) ?_
      clear hK K
      (try simp only [Act.put, List.setIfInBounds_toArray, List.set_cons_zero, List.set_cons_succ])
      refine wpRest_cons rfl rfl fun K hK => ?_
      refine stw_alloc HS _ rfl zeroSL zeroS ?_
      intro W4 b8 HS
      refine hK _ _ (fun _ => InC.mk (hcl.out _ HS.out.below (HS.out.blk 4 rfl) (HS.out.blk 2 rfl) (HS.out.get 3 rfl))) ?_
      clear hK K
      (try simp only [Act.put, List.setIfInBounds_toArray, List.set_cons_zero, List.set_cons_succ])
      replace HS : Hid (St w W4 [blkI b7 zeroSL, blkI b8 zeroSL, blkI ba (machL A2 N), machI D2 A2 N, blkI bm (machL A M)]) := hide (HS.out.sel [1, 0, 2, 3, 4] (by decide) rfl)
      exact key _ _ _ HS
    · -- refine_2
      refine wpRest_cons rfl rfl fun K hK => ?_
      refine stw_alloc HS _ rfl zeroSL zeroS ?_
      intro W3 b8 HS
      refine hK _ _ (fun _ => InC.mk (hcl.out _ HS.out.below (HS.out.blk 3 rfl) (HS.out.blk 1 rfl) (HS.out.get 2 rfl))) ?_
      clear hK K
      (try simp only [Act.put, List.setIfInBounds_toArray, List.set_cons_zero, List.set_cons_succ])
      refine wpRest_cons rfl rfl fun K hK => ?_
      refine stw_alloc HS _ rfl zeroSL zeroS ?_
      intro W4 b7 HS
      refine hK _ _ (fun _ => InC.mk (hcl.out _ HS.out.below (HS.out.blk 4 rfl) (HS.out.blk 2 rfl) (HS.out.get 3 rfl))) ?_
      clear hK K
      (try simp only [Act.put, List.setIfInBounds_toArray, List.set_cons_zero, List.set_cons_succ])
      exact key _ _ _ HS
  case pf =>
    clear HS
    intro W4 b7 b8 HS
    refine wpRest_cons rfl rfl fun K hK => ?_
    refine stw_storeA HS 0 rfl _ _ _ rfl rfl (sessOf (A.q k) (M.at k)) rfl rfl (by kernel_rfl) rfl ?_
    clear HS
    intro W5 HS
    refine hK _ _ (fun _ => InC.mk (hcl.out _ HS.out.below (HS.out.blk 4 rfl) (HS.out.blk 2 rfl) (HS.out.get 3 rfl))) ?_
    clear hK K
    (try simp only [Act.put, List.setIfInBounds_toArray, List.set_cons_zero, List.set_cons_succ])
    refine wpRest_cons rfl rfl fun K hK => ?_
    refine stw_storeA HS 1 rfl _ _ _ rfl rfl (sessOf (A2.q k) (N.at k)) rfl rfl (by kernel_rfl) rfl ?_
    clear HS
    intro W6 HS
    refine hK _ _ (fun _ => InC.mk (hcl.out _ HS.out.below (HS.out.blk 4 rfl) (HS.out.blk 2 rfl) (HS.out.get 3 rfl))) (wpRest_nil ?_)
    clear hK K hcl
    (try simp only [Act.put, List.setIfInBounds_toArray, List.set_cons_zero, List.set_cons_succ])
    refine NoPanic.normal ?_
    replace HS : Hid (St w W6 [blkI b7 (sessL (lz (M.at k).num) (.slice (A.q k).p.a (A.q k).p.n (A.q k).p.c) (.slice (A.q k).r.a (A.q k).r.n (A.q k).r.c) (.slice (A.q k).t.a (A.q k).t.n (A.q k).t.c)), blkI b8 (sessL (lz (N.at k).num) (.slice (A2.q k).p.a (A2.q k).p.n (A2.q k).p.c) (.slice (A2.q k).r.a (A2.q k).r.n (A2.q k).r.c) (.slice (A2.q k).t.a (A2.q k).t.n (A2.q k).t.c)), blkI ba (machL A2 N), machI D2 A2 N, blkI bm (machL A M)]) := HS
    obtain ⟨-, -, -, g3, -, g5, -, -, -, -, -, -, -, -, -, -, -⟩ := (HS.out.blk 0 rfl).sess
    obtain ⟨-, -, -, -, -, d5, -, -, -, -, -, -, -, -, -, -, -⟩ := (HS.out.blk 1 rfl).sess
    rw [hp.out] at g5
    rw [hpc2.out] at d5
    go_wp2_with (first | ((with_reducible refine isList ?_); first | (refine st_loadR HS 2 rfl _ _ rfl _ rfl rfl (by decide +kernel) (arenaL A2.w) [.int .i64 (lz N.clocks 0), .int .i64 (lz N.clocks 1), .int .i64 (lz N.clocks 2), .int .i64 (lz N.clocks 3), .int .i64 N.ceil, .slice A2.s.a A2.s.n A2.s.c, .slice A2.e.a A2.e.n A2.e.c] (by kernel_rfl) rfl ?_) | (refine st_loadR HS 4 rfl _ _ rfl _ rfl rfl (by decide +kernel) (arenaL A.w) [.int .i64 (lz M.clocks 0), .int .i64 (lz M.clocks 1), .int .i64 (lz M.clocks 2), .int .i64 (lz M.clocks 3), .int .i64 M.ceil, .slice A.s.a A.s.n A.s.c, .slice A.e.a A.e.n A.e.c] (by kernel_rfl) rfl ?_)))
    refine (sameArena_yes A2 A N M _ (MachOwn.is (show MachOwn D2 _ A2 N from HS.out.get 3 rfl)) (HM.out.below HS.out.below) hwd.out.symm).mono ?_
    (rintro e Wq ⟨rfl, hb⟩; have HSq := hide (HS.out.on hb); clear HS hb; replace HS := HSq; clear HSq)
    clear g3 g5 d5
    have Qo := Q.out
    go_upto_region 11 with (first | ((with_reducible refine isList ?_); first | (refine st_loadR HS 2 rfl _ _ rfl _ rfl rfl (by decide +kernel) [.int .i64 (lz N.clocks 0), .int .i64 (lz N.clocks 1), .int .i64 (lz N.clocks 2), .int .i64 (lz N.clocks 3)] [.int .i64 N.ceil, .slice A2.s.a A2.s.n A2.s.c, .slice A2.e.a A2.e.n A2.e.c] (by kernel_rfl) rfl ?_) | (refine st_loadR HS 4 rfl _ _ rfl _ rfl rfl (by decide +kernel) [.int .i64 (lz M.clocks 0), .int .i64 (lz M.clocks 1), .int .i64 (lz M.clocks 2), .int .i64 (lz M.clocks 3)] [.int .i64 M.ceil, .slice A.s.a A.s.n A.s.c, .slice A.e.a A.e.n A.e.c] (by kernel_rfl) rfl ?_)))
    clear Qo
    obtain ⟨bp, op, hbp, hpl, hR⟩ := ((HM.out.below HS.out.below).sess.2.2.2 k hk).2.1.four hlt
    rw [show M.sess.getD k noSess = M.at k from rfl, ea.out, eb.out, ec.out] at hR
    replace hR := hide hR
    have hp5 := hp.out
    go_upto_region 12 with (first | ((with_reducible refine isList ?_); first | (refine st_load1 HS 0 rfl _ _ rfl _ rfl rfl (by decide +kernel) rfl ?_) | (refine wpList_load_at _ _ rfl rfl bp (op + p * 4) rfl [.int .i64 (lz (M.at k).prog (p * 4)), .int .i64 a, .int .i64 b, .int .i64 c] (by decide +kernel) (by kernel_rfl) hR.out ?_) | (refine st_alloc HS _ rfl rfl zeroIL zeroI ?_; clear HS; intro W b9 HS) | (refine st_storeA HS 0 rfl _ _ _ rfl rfl rfl _ rfl rfl (by kernel_rfl) rfl ?_; clear HS; intro W HS)))
    replace HS : Hid (St w W [blkI b9 [.int .i64 (lz (M.at k).prog (p * 4)), .int .i64 a, .int .i64 b, .int .i64 c], blkI b7 (sessL (lz (M.at k).num) (.slice (A.q k).p.a (A.q k).p.n (A.q k).p.c) (.slice (A.q k).r.a (A.q k).r.n (A.q k).r.c) (.slice (A.q k).t.a (A.q k).t.n (A.q k).t.c)), blkI b8 (sessL (lz (N.at k).num) (.slice (A2.q k).p.a (A2.q k).p.n (A2.q k).p.c) (.slice (A2.q k).r.a (A2.q k).r.n (A2.q k).r.c) (.slice (A2.q k).t.a (A2.q k).t.n (A2.q k).t.c)), blkI ba (machL A2 N), machI D2 A2 N, blkI bm (machL A M)]) := HS
    clear hR hbp hp5
    have hreg : Hid (∀ w' : World, Blk w' b7 (sessL (lz (M.at k).num) (.slice (A.q k).p.a (A.q k).p.n (A.q k).p.c) (.slice (A.q k).r.a (A.q k).r.n (A.q k).r.c) (.slice (A.q k).t.a (A.q k).t.n (A.q k).t.c)) → w'.cell? ⟨b7, 6 + a, none⟩ = some (.int .i64 v)) := fun w' h => by rw [hv.out]; exact h.cell (6 + a) _ (sessL_reg ha)
    have eTn : (N.at k).tn = (A2.q k).t.n := ((MachOwn.is (show MachOwn D2 _ A2 N from HS.out.get 4 rfl)).sess.2.2.2 k hk2).2.2.2.len (by decide)
    have hkp := hide hkeep.out
    rw [eTn] at hkp
    have hfw : (A2.q k).t.n ≤ 16 := by rw [← eTn]; exact hfewW.out
    clear eTn
    have f1 : W.cell? ⟨b9, 1, none⟩ = some (.int .i64 a) := (HS.out.blk 0 rfl).cell 1 _ rfl
    go_upto_region 16 with fail
    clear f1
    go_loopw [10, 11] (fun t i wr => ∃ j : Nat, j ≤ (A2.q k).t.n ∧ t = .bool (keepP (lz (N.at k).writes) b c v j) ∧ i = .int .i64 j ∧ Hid (St w wr [blkI b9 [.int .i64 (lz (M.at k).prog (p * 4)), .int .i64 a, .int .i64 b, .int .i64 c], blkI b7 (sessL (lz (M.at k).num) (.slice (A.q k).p.a (A.q k).p.n (A.q k).p.c) (.slice (A.q k).r.a (A.q k).r.n (A.q k).r.c) (.slice (A.q k).t.a (A.q k).t.n (A.q k).t.c)), blkI b8 (sessL (lz (N.at k).num) (.slice (A2.q k).p.a (A2.q k).p.n (A2.q k).p.c) (.slice (A2.q k).r.a (A2.q k).r.n (A2.q k).r.c) (.slice (A2.q k).t.a (A2.q k).t.n (A2.q k).t.c)), blkI ba (machL A2 N), machI D2 A2 N, blkI bm (machL A M)])) (fun _ i _ => (A2.q k).t.n - (intOf i).toNat)
    case atStart => exact ⟨0, Nat.zero_le _, rfl, rfl, HS⟩
    case round =>
      clear HS
      obtain ⟨j, hj, rfl, rfl, HS⟩ := hrel
      have d11 : wr.cell? ⟨b8, 11, none⟩ = some (.slice (A2.q k).t.a (A2.q k).t.n (A2.q k).t.c) := (HS.out.blk 2 rfl).cell 11 _ rfl
      by_cases hlt2 : j < (A2.q k).t.n
      · have j1 : (j : Int) < ((A2.q k).t.n : Int) := by omega
        obtain ⟨bw, ow, ebw, _, hR⟩ := ((MachOwn.is (show MachOwn D2 _ A2 N from HS.out.get 4 rfl)).sess.2.2.2 k hk2).2.2.2.three hlt2
        obtain ⟨x0, h0⟩ : ∃ x0, x0 = lz (N.at k).writes (j * 3) := ⟨_, rfl⟩
        obtain ⟨x1, h1⟩ : ∃ x1, x1 = lz (N.at k).writes (j * 3 + 1) := ⟨_, rfl⟩
        obtain ⟨x2, h2⟩ : ∃ x2, x2 = lz (N.at k).writes (j * 3 + 2) := ⟨_, rfl⟩
        rw [show N.sess.getD k noSess = N.at k from rfl, ← h0, ← h1, ← h2] at hR
        replace hR := hide hR
        have hk3 : Hid (keepP (lz (N.at k).writes) b c v (j + 1) = if x0 = b ∧ x1 = c then decide (x2 = v) else keepP (lz (N.at k).writes) b c v j) := by
          show _ = _
          rw [h0, h1, h2]
          rfl
        clear h0 h1 h2
        generalize keepP (lz (N.at k).writes) b c v j = q at *
        go_upto_region 19 with (first | ((with_reducible refine isList ?_); first | (refine st_load1 HS 2 rfl _ _ rfl _ rfl rfl (by decide +kernel) rfl ?_) | (refine wpList_load_at _ _ rfl rfl bw (ow + j * 3) rfl [.int .i64 x0, .int .i64 x1, .int .i64 x2] (by decide +kernel) (by kernel_rfl) hR.out ?_) | (refine st_alloc HS _ rfl rfl zeroVL zeroV ?_; clear HS; intro W bv HS) | (refine st_storeA HS 0 rfl _ _ _ rfl rfl rfl _ rfl rfl (by kernel_rfl) rfl ?_; clear HS; intro W HS)))
        replace HS : Hid (St w W [blkI bv [.int .i64 x0, .int .i64 x1, .int .i64 x2], blkI b9 [.int .i64 (lz (M.at k).prog (p * 4)), .int .i64 a, .int .i64 b, .int .i64 c], blkI b7 (sessL (lz (M.at k).num) (.slice (A.q k).p.a (A.q k).p.n (A.q k).p.c) (.slice (A.q k).r.a (A.q k).r.n (A.q k).r.c) (.slice (A.q k).t.a (A.q k).t.n (A.q k).t.c)), blkI b8 (sessL (lz (N.at k).num) (.slice (A2.q k).p.a (A2.q k).p.n (A2.q k).p.c) (.slice (A2.q k).r.a (A2.q k).r.n (A2.q k).r.c) (.slice (A2.q k).t.a (A2.q k).t.n (A2.q k).t.c)), blkI ba (machL A2 N), machI D2 A2 N, blkI bm (machL A M)]) := HS
        clear hR ebw d11
        obtain ⟨v0, v1, v2⟩ := (HS.out.blk 0 rfl).cells3
        have f1 : W.cell? ⟨b9, 1, none⟩ = some (.int .i64 a) := (HS.out.blk 1 rfl).cell 1 _ rfl
        have f2 : W.cell? ⟨b9, 2, none⟩ = some (.int .i64 b) := (HS.out.blk 1 rfl).cell 2 _ rfl
        have f3 : W.cell? ⟨b9, 3, none⟩ = some (.int .i64 c) := (HS.out.blk 1 rfl).cell 3 _ rfl
        have f6 := hreg.out _ (HS.out.blk 2 rfl)
        replace HS := hide HS.out.tail
        by_cases y0 : x0 = b
        · by_cases y1 : x1 = c
          · subst y0
            subst y1
            go_upto_region 20 with fail
            go_big_quiet (fail)
            clear f1 f2 f3 f6 v0 v1 v2
            replace HS := hide (HS.out.drawn nq)
            generalize World.drewN _ _ = Wd at *
            go_wp2
            go_roundw
            case rel => exact ⟨j + 1, by omega, by rw [hk3.out, if_pos ⟨rfl, rfl⟩]; rfl, by go_num, HS⟩
            case measure => simp [intOf]; omega
          · have y1b : (x1 == (c : Int)) = false := by simpa using y1
            have y2 : Hid (¬ (x0 = b ∧ x1 = c)) := fun e => y1 e.2
            subst y0
            clear y1
            go_wp2
            go_roundw
            case rel => exact ⟨j + 1, by omega, by rw [hk3.out, if_neg y2.out], by go_num, HS⟩
            case measure => simp [intOf]; omega
        · have y0b : (x0 == (b : Int)) = false := by simpa using y0
          have y2 : Hid (¬ (x0 = b ∧ x1 = c)) := fun e => y0 e.1
          clear y0
          go_wp2
          go_roundw
          case rel => exact ⟨j + 1, by omega, by rw [hk3.out, if_neg y2.out], by go_num, HS⟩
          case measure => simp [intOf]; omega
      · obtain rfl : j = (A2.q k).t.n := by omega
        rw [hkp.out]
        go_upto_region 22 with fail
        clear d11 hkp
        go_loopw [13] (fun i wr => ∃ j : Nat, j ≤ A.s.n ∧ i = .int .i64 j ∧ Hid (St w wr [blkI b9 [.int .i64 (lz (M.at k).prog (p * 4)), .int .i64 a, .int .i64 b, .int .i64 c], blkI b7 (sessL (lz (M.at k).num) (.slice (A.q k).p.a (A.q k).p.n (A.q k).p.c) (.slice (A.q k).r.a (A.q k).r.n (A.q k).r.c) (.slice (A.q k).t.a (A.q k).t.n (A.q k).t.c)), blkI b8 (sessL (lz (N.at k).num) (.slice (A2.q k).p.a (A2.q k).p.n (A2.q k).p.c) (.slice (A2.q k).r.a (A2.q k).r.n (A2.q k).r.c) (.slice (A2.q k).t.a (A2.q k).t.n (A2.q k).t.c)), blkI ba (machL A2 N), machI D2 A2 N, blkI bm (machL A M)])) (fun i _ => A.s.n - (intOf i).toNat)
        case atStart => exact ⟨0, Nat.zero_le _, rfl, HS⟩
        case round =>
          clear HS
          obtain ⟨j, hj0, rfl, HS⟩ := hrel
          have cm := (h9.out _ (HS.out.blk 5 rfl) (HS.out.blk 3 rfl)).1
          by_cases hj : j < A.s.n
          · have j2 : (j : Int) < (A.s.n : Int) := by omega
            go_upto_region 24 with fail
            clear cm
            have hcl : Hid (∀ W', Below w.heap.size w W' → Blk W' bm (machL A M) → Blk W' ba (machL A2 N) → MachOwn D2 W' A2 N → (fun W' => (W'.cell? ⟨bm, 9, none⟩ = some (.slice (some ⟨bs, os, none⟩) A.s.n A.s.c) ∧ W'.cell? ⟨ba, 9, none⟩ = some (.slice (some ⟨s2, 0, none⟩) A.s.n A2.s.c)) ∧ (W'.rangeAt bs (os + j * 17) (sessOf (A.q j) (M.at j)) ∧ W'.rangeAt s2 (j * 17) (sessOf (A2.q j) (N.at j)))) W') := fun W' q0 q1 q2 q3 => ⟨h9.out W' q1 q2, hcj.out j hj W' q0 q2 q3⟩
            by_cases hjk : j = k
            · subst hjk
              have jne : ((j : Int) != (j : Int)) = false := bne_self_eq_false _
              (try simp only [Act.put, List.setIfInBounds_toArray, List.set_cons_zero, List.set_cons_succ])
              refine wp_region_mid [true, true, true, true, true, true, true, true, true, true, true, true, true, true, false, false, false] 14 _ [false, false, false, false, false, false, false, false, false, false, false, false, false, false, false, true, true] (fun W' => (W'.cell? ⟨bm, 9, none⟩ = some (.slice (some ⟨bs, os, none⟩) A.s.n A.s.c) ∧ W'.cell? ⟨ba, 9, none⟩ = some (.slice (some ⟨s2, 0, none⟩) A.s.n A2.s.c)) ∧ (W'.rangeAt bs (os + j * 17) (sessOf (A.q j) (M.at j)) ∧ W'.rangeAt s2 (j * 17) (sessOf (A2.q j) (N.at j)))) (by kernel_rfl) (by kernel_rfl) (by kernel_rfl) rfl (by decide +kernel) (hcl.out _ HS.out.drew.below (HS.out.drew.blk 5 rfl) (HS.out.drew.blk 3 rfl) (HS.out.drew.get 4 rfl)) ?_
              intro kne
              simp only [pickAt]
              repeat (first | go_big_quiet_skip | ((first | (refine wpQuiet_ld _ _ rfl ⟨bm, 9, none⟩ rfl rfl (by decide +kernel) (fun w hC => hC.1.1) ?_) | (refine wpQuiet_ld _ _ rfl ⟨ba, 9, none⟩ rfl rfl (by decide +kernel) (fun w hC => hC.1.2) ?_)); simp only [Act.put, List.setIfInBounds_toArray, List.set_cons_zero, List.set_cons_succ]) | go_big_quiet_step (fail))
              refine wpQuiet_nil ?_
              replace HS := hide HS.out.drew
              generalize World.drew _ = We at *
              refine wpMid_skip rfl (InC.mk (hcl.out _ HS.out.below (HS.out.blk 5 rfl) (HS.out.blk 3 rfl) (HS.out.get 4 rfl))) ?_
              (try simp only [Act.put, List.setIfInBounds_toArray, List.set_cons_zero, List.set_cons_succ])
              repeat (first | go_big_quiet_skip | ((first | (refine wpQuiet_ld _ _ rfl ⟨bm, 9, none⟩ rfl rfl (by decide +kernel) (fun w hC => hC.1.1) ?_) | (refine wpQuiet_ld _ _ rfl ⟨ba, 9, none⟩ rfl rfl (by decide +kernel) (fun w hC => hC.1.2) ?_)); simp only [Act.put, List.setIfInBounds_toArray, List.set_cons_zero, List.set_cons_succ]) | go_big_quiet_step (fail))
              refine wpQuiet_nil ?_
              clear kne hcl
              refine NoPanic.normal ?_
              go_wp2
              go_roundw
              case rel => exact ⟨j + 1, by omega, by go_num, HS⟩
              case measure => simp [intOf]; omega
            · have hne : ((j : Int) != (k : Int)) = true := by simp; omega
              have hne2 : ¬ (j : Int) = (k : Int) := by omega
              (try simp only [Act.put, List.setIfInBounds_toArray, List.set_cons_zero, List.set_cons_succ])
              refine wp_region_mid [true, true, true, true, true, true, true, true, true, true, true, true, true, true, false, false, false] 14 _ [false, false, false, false, false, false, false, false, false, false, false, false, false, false, false, true, true] (fun W' => (W'.cell? ⟨bm, 9, none⟩ = some (.slice (some ⟨bs, os, none⟩) A.s.n A.s.c) ∧ W'.cell? ⟨ba, 9, none⟩ = some (.slice (some ⟨s2, 0, none⟩) A.s.n A2.s.c)) ∧ (W'.rangeAt bs (os + j * 17) (sessOf (A.q j) (M.at j)) ∧ W'.rangeAt s2 (j * 17) (sessOf (A2.q j) (N.at j)))) (by kernel_rfl) (by kernel_rfl) (by kernel_rfl) rfl (by decide +kernel) (hcl.out _ HS.out.drew.below (HS.out.drew.blk 5 rfl) (HS.out.drew.blk 3 rfl) (HS.out.drew.get 4 rfl)) ?_
              intro kne
              simp only [pickAt]
              repeat (first | go_big_quiet_skip | ((first | (refine wpQuiet_ld _ _ rfl ⟨bm, 9, none⟩ rfl rfl (by decide +kernel) (fun w hC => hC.1.1) ?_) | (refine wpQuiet_ld _ _ rfl ⟨ba, 9, none⟩ rfl rfl (by decide +kernel) (fun w hC => hC.1.2) ?_) | (refine wpQuiet_la _ _ rfl bs (os + j * 17) rfl rfl (by decide +kernel) (sessOf (A.q j) (M.at j)) (by kernel_rfl) (fun w hC => hC.2.1) ?_) | (refine wpQuiet_la _ _ rfl s2 (j * 17) rfl rfl (by decide +kernel) (sessOf (A2.q j) (N.at j)) (by kernel_rfl) (fun w hC => hC.2.2) ?_)); simp only [Act.put, List.setIfInBounds_toArray, List.set_cons_zero, List.set_cons_succ]) | go_big_quiet_step (fail))
              refine wpQuiet_nil ?_
              clear kne
              replace HS := hide HS.out.drew
              generalize World.drew _ = We at *
              have e := hot.out j hjk
              have hNs := (MachOwn.is (show MachOwn D2 _ A2 N from HS.out.get 4 rfl)).sess.2.2.2 j (by have := n2.out; omega)
              rw [show N.sess.getD j noSess = N.at j from rfl, e] at hNs
              have hSs : Hid (Calls Tryz.prog 15 #[.agg (sessOf (A2.q j) (N.at j)).toArray, .agg (sessOf (A.q j) (M.at j)).toArray] We fun e w' => e = .returned (.bool true) ∧ Below We.heap.size We w') := by
                show Calls _ _ _ _ _
                rw [e]
                exact sameSess_any (A2.q j) (A.q j) (M.at j) We hNs ((HM.out.below HS.out.below).sess.2.2.2 j hj)
              clear hNs e
              refine wpMid_op rfl fun K hK => ?_
              go_big_op
              refine hSs.out.mono ?_
              (rintro e Wq ⟨rfl, hb⟩; have HSq := hide (HS.out.on hb); clear HS hb; replace HS := HSq; clear HSq)
              clear hSs
              have hCC := hcl.out _ HS.out.below (HS.out.blk 5 rfl) (HS.out.blk 3 rfl) (HS.out.get 4 rfl)
              refine hK _ _ (InC.mk hCC) ?_
              clear hK K
              have kne : Nonempty (Cls (fun W' => (W'.cell? ⟨bm, 9, none⟩ = some (.slice (some ⟨bs, os, none⟩) A.s.n A.s.c) ∧ W'.cell? ⟨ba, 9, none⟩ = some (.slice (some ⟨s2, 0, none⟩) A.s.n A2.s.c)) ∧ (W'.rangeAt bs (os + j * 17) (sessOf (A.q j) (M.at j)) ∧ W'.rangeAt s2 (j * 17) (sessOf (A2.q j) (N.at j))))) := ⟨⟨_, hCC⟩⟩
              clear hCC
              (try simp only [Act.put, List.setIfInBounds_toArray, List.set_cons_zero, List.set_cons_succ])
              repeat (first | go_big_quiet_skip | ((first | (refine wpQuiet_ld _ _ rfl ⟨bm, 9, none⟩ rfl rfl (by decide +kernel) (fun w hC => hC.1.1) ?_) | (refine wpQuiet_ld _ _ rfl ⟨ba, 9, none⟩ rfl rfl (by decide +kernel) (fun w hC => hC.1.2) ?_)); simp only [Act.put, List.setIfInBounds_toArray, List.set_cons_zero, List.set_cons_succ]) | go_big_quiet_step (fail))
              refine wpQuiet_nil ?_
              clear kne hcl
              refine NoPanic.normal ?_
              go_wp2
              go_roundw
              case rel => exact ⟨j + 1, by omega, by go_num, HS⟩
              case measure => simp [intOf]; omega
          · obtain rfl : j = A.s.n := by omega
            obtain ⟨-, g1, -, -, -, -, -, -, -, -, g10, -, -, -, -, -, -⟩ := (HS.out.blk 1 rfl).sess
            obtain ⟨-, d1, -, -, -, -, -, -, -, -, d10, -, -, -, -, -, -⟩ := (HS.out.blk 2 rfl).sess
            rw [hnum.out 1 (by decide)] at d1
            have Q2 : ∀ W, Sem.run Tryz.prog (Op.equalIn 10000 24 (.agg #[.int .i64 (lz (N.at k).num 5), .int .i64 (lz (N.at k).num 6), .int .i64 (lz (N.at k).num 7), .int .i64 (lz (N.at k).num 8)]) (.agg #[.int .i64 (lz (M.at k).num 5), .int .i64 (lz (M.at k).num 6), .int .i64 (lz (M.at k).num 7), .int .i64 (lz (M.at k).num 8)])) W = .ok true W := fun W => quad_same (fun c => lz (N.at k).num (5 + c)) (fun c => lz (M.at k).num (5 + c)) (fun c hc => hnum.out (5 + c) (by omega)) W
            replace Q2 := hide Q2
            go_upto_region 26 with fail
            clear cm
            go_wp2_with fail
            refine (sameReads_yes (A.q k) (A2.q k) (M.at k) (N.at k) _ ((HM.out.below HS.out.below).sess.2.2.2 k hk) ((MachOwn.is (show MachOwn D2 _ A2 N from HS.out.get 4 rfl)).sess.2.2.2 k hk2) hrd.out).mono ?_
            rintro e Wq ⟨rfl, q, rfl⟩
            replace HS := hide (HS.out.drawn q)
            generalize World.drewN _ q = Wq at *
            clear g1 g10 d1 d10
            have Q2o := Q2.out
            obtain ⟨-, g1, -, -, -, -, -, -, -, -, -, -, -, -, -, -, -⟩ := (HS.out.blk 1 rfl).sess
            obtain ⟨-, d1, -, -, -, -, -, -, -, -, -, -, -, -, -, -, -⟩ := (HS.out.blk 2 rfl).sess
            rw [hnum.out 1 (by decide)] at d1
            go_wp2_with (first | ((with_reducible refine isList ?_); first | (refine st_loadR HS 1 rfl _ _ rfl _ rfl rfl (by decide +kernel) [.int .i64 (lz (M.at k).num 5), .int .i64 (lz (M.at k).num 6), .int .i64 (lz (M.at k).num 7), .int .i64 (lz (M.at k).num 8)] [.slice (A.q k).r.a (A.q k).r.n (A.q k).r.c, .slice (A.q k).t.a (A.q k).t.n (A.q k).t.c, .int .i64 (lz (M.at k).num 9), .int .i64 (lz (M.at k).num 10), .int .i64 (lz (M.at k).num 11), .int .i64 (lz (M.at k).num 12), .int .i64 (lz (M.at k).num 13)] (by kernel_rfl) rfl ?_) | (refine st_loadR HS 2 rfl _ _ rfl _ rfl rfl (by decide +kernel) [.int .i64 (lz (N.at k).num 5), .int .i64 (lz (N.at k).num 6), .int .i64 (lz (N.at k).num 7), .int .i64 (lz (N.at k).num 8)] [.slice (A2.q k).r.a (A2.q k).r.n (A2.q k).r.c, .slice (A2.q k).t.a (A2.q k).t.n (A2.q k).t.c, .int .i64 (lz (N.at k).num 9), .int .i64 (lz (N.at k).num 10), .int .i64 (lz (N.at k).num 11), .int .i64 (lz (N.at k).num 12), .int .i64 (lz (N.at k).num 13)] (by kernel_rfl) rfl ?_)))
            go_ret
            exact ⟨rfl, HS.out.below⟩
end Go.Proofs.YtlnenmfippedpaaGreat
