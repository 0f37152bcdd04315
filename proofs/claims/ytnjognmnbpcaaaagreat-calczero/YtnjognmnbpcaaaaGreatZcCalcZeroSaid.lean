/-
  The law CalcZero.
-/
import Derived.Test.YtnjognmnbpcaaaaGreatZlaj
import Derived.Test.YtnjognmnbpcaaaaGreatZlbh
import Derived.Test.YtnjognmnbpcaaaaGreatZlbi
import Derived.Test.YtnjognmnbpcaaaaGreatZlab
import Derived.Test.YtnjognmnbpcaaaaGreatZlac
import Derived.BigQuiet
namespace Go.Proofs.YtnjognmnbpcaaaaGreat
open Go.RowKit
set_option linter.unusedSimpArgs false
set_option linter.unusedVariables false
def jumpM (r k : Nat) : PMach := begunM.setS 0 ((begunM.at 0).setL 0 [4, r, 1 + (k : Int), 0, 0, 0, 0, 0, 0, 0, 0, 0, 0, 0, 0, 0])
def jumpOk (r k v : Nat) : Bool :=
  let O := (jumpM r k).doN 0 (5 + r) v
  let X := calcP O 0
  decide (X.2 = 0) && (decide (X.1.sess.length = 2) && (decide (O.sess.length = 2) && (decide (lz (X.1.at 0).num 4 = if v = 0 then 1 + (k : Int) else 1) && (decide (lz (X.1.at 0).num 5 = lz (O.at 0).num 5) && (decide (lz (X.1.at 0).num 6 = lz (O.at 0).num 6) && (decide (lz (X.1.at 0).num 7 = lz (O.at 0).num 7) && decide (lz (X.1.at 0).num 8 = lz (O.at 0).num 8)))))))
theorem jump_all : ((List.range 4).all fun r => (List.range 4).all fun k => (List.range 4).all fun v => jumpOk r k v) = true := by decide +kernel
theorem jump_ok {r k v : Nat} (hr : r < 4) (hk : k < 4) (hv : v < 4) : jumpOk r k v = true := by
  have h := jump_all
  rw [List.all_eq_true] at h
  have h1 := h r (List.mem_range.2 hr)
  rw [List.all_eq_true] at h1
  have h2 := h1 k (List.mem_range.2 hk)
  rw [List.all_eq_true] at h2
  exact h2 v (List.mem_range.2 hv)
theorem reg_pos {a : Nat} (ha : a < 4) : 6 + a = 0 * 17 + posN (5 + a) := by
  have : a = 0 ∨ a = 1 ∨ a = 2 ∨ a = 3 := by omega
  rcases this with rfl | rfl | rfl | rfl <;> rfl
set_option maxRecDepth 100000 in
set_option maxHeartbeats 4000000 in
theorem calcZero_at (a0 a1 a2 : Int) (w : World) (v r k : Nat) (hv : bits .and .i64 a0 3 = v) (hr : bits .and .i64 a1 3 = r) (hk : bits .and .i64 a2 3 = k) (v4 : v < 4) (r4 : r < 4) (k4 : k < 4) :
    Calls Tryz.prog 5 #[.int .i64 a0, .int .i64 a1, .int .i64 a2] w fun e w' => e = .returned (.bool true) ∧ Below w.heap.size w w' := by
  have HS := hide (St.refl w)
  have hAw := hide fun (W : World) => awake17_any W
  have hB := hide fun (W : World) => begun17_any W
  have lN : Hid (begunM.sess.length = 2) := by show _ = 2; decide +kernel
  have hJ := jump_ok r4 k4 v4
  unfold jumpOk at hJ
  simp only [Bool.and_eq_true, decide_eq_true_eq] at hJ
  obtain ⟨p0, p1, p2, p3, p4, p5, p6, p7⟩ := hJ
  obtain ⟨O1, eO1⟩ : ∃ O1, O1 = jumpM r k := ⟨_, rfl⟩
  rw [← eO1] at p0 p1 p2 p3 p4 p5 p6 p7
  replace eO1 : Hid (O1 = begunM.setS 0 ((begunM.at 0).setL 0 [4, r, 1 + (k : Int), 0, 0, 0, 0, 0, 0, 0, 0, 0, 0, 0, 0, 0])) := eO1
  obtain ⟨O, eO⟩ : ∃ O, O = O1.doN 0 (5 + r) v := ⟨_, rfl⟩
  rw [← eO] at p0 p1 p2 p3 p4 p5 p6 p7
  replace eO := hide eO
  obtain ⟨X, hX⟩ : ∃ X, X = (calcP O 0).1 := ⟨_, rfl⟩
  have eX : calcP O 0 = (X, 0) := Prod.ext hX.symm p0
  rw [← hX] at p1 p3 p4 p5 p6 p7
  have hE := fun (A : MacM) (W : World) (h : MachIs W A O) => calcStep_any A O 0 W h
  rw [eX] at hE
  clear eX hX p0
  replace hE := hide hE
  replace p1 := hide p1; replace p2 := hide p2; replace p3 := hide p3; replace p4 := hide p4; replace p5 := hide p5; replace p6 := hide p6; replace p7 := hide p7
  generalize begunM = N at *
  have hri : (r : Int) < 4 := by omega
  have hki : (k : Int) < 4 := by omega
  go_enter Tryz.func5, Tryz.ntmps5
  go_wp2_with fail
  refine (hAw.out _).mono ?_
  (rintro e Wq ⟨rfl, hb⟩; have HSq := hide (HS.out.on hb); clear HS hb; replace HS := HSq; clear HSq)
  clear hAw
  go_wp2_with fail
  refine (hB.out _).mono ?_
  (rintro e Wq ⟨A2, rfl, hO, hb⟩; have HSq := hide (HS.out.push hb (machI (fun k => _) A2 _) (machI_loc _ _ _) hO fun k hk => hk); generalize (fun k => _) = D2 at HSq; clear HS hb hO; replace HS := HSq; clear HSq)
  clear hB
  have hk1 : 0 < A2.s.n := by
    have := (MachOwn.is (show MachOwn D2 _ A2 N from HS.out.get 0 rfl)).sess.1
    have := lN.out; omega
  have hkj : (0 : Int) < (A2.s.n : Int) := by omega
  obtain ⟨bs1, hbs1, _⟩ := MachOwn.sblk (show MachOwn D2 _ A2 N from HS.out.get 0 rfl) hk1
  go_upto_region 5 with (first | ((with_reducible refine isList ?_); first | (refine st_alloc HS _ rfl rfl zeroML zeroM ?_; clear HS; intro W b7 HS) | (refine st_storeA HS 0 rfl _ _ _ rfl rfl rfl _ rfl rfl (by kernel_rfl) rfl ?_; clear HS; intro W HS)))
  replace HS : Hid (St w W [blkI b7 (machL A2 N), machI D2 A2 N]) := HS
  go_upto_region 6 with (first | ((with_reducible refine isList ?_); first | (refine st_load1 HS 0 rfl _ _ rfl _ rfl rfl (by decide +kernel) rfl ?_) | (refine st_lit_4_4 HS _ 47 _ _ _ _ rfl rfl Tryz.underlying40 Tryz.infoI rfl rfl rfl rfl ?_; clear HS; intro W bl HS) | (refine st_storeL HS 2 0 rfl 0 (by decide) rfl (by decide) hk1 hbs1 _ _ _ rfl _ rfl rfl rfl rfl (by decide +kernel) ?_; clear HS; intro W HS)))
  replace HS : Hid (St w W [blkI b7 (machL (A2.setQ 0 ((A2.q 0).setL 0 ⟨some ⟨bl, 0, none⟩, 4, 4⟩)) (N.setS 0 ((N.at 0).setL 0 [4, r, 1 + (k : Int), 0, 0, 0, 0, 0, 0, 0, 0, 0, 0, 0, 0, 0]))), machI (fun k => D2 k ∨ k = bl) (A2.setQ 0 ((A2.q 0).setL 0 ⟨some ⟨bl, 0, none⟩, 4, 4⟩)) (N.setS 0 ((N.at 0).setL 0 [4, r, 1 + (k : Int), 0, 0, 0, 0, 0, 0, 0, 0, 0, 0, 0, 0, 0]))]) := hide (HS.out.sel [1, 2] (by decide) rfl)
  rw [← eO1.out] at HS
  replace hk1 : 0 < (A2.setQ 0 ((A2.q 0).setL 0 ⟨some ⟨bl, 0, none⟩, 4, 4⟩)).s.n := hk1
  replace hkj : (0 : Int) < ((A2.setQ 0 ((A2.q 0).setL 0 ⟨some ⟨bl, 0, none⟩, 4, 4⟩)).s.n : Int) := hkj
  replace hbs1 : (A2.setQ 0 ((A2.q 0).setL 0 ⟨some ⟨bl, 0, none⟩, 4, 4⟩)).s.a = some ⟨bs1, 0, none⟩ := hbs1
  generalize (fun k => D2 k ∨ k = bl) = D4 at HS
  generalize A2.setQ 0 ((A2.q 0).setL 0 ⟨some ⟨bl, 0, none⟩, 4, 4⟩) = A4 at HS hk1 hkj hbs1
  have c9 : W.cell? ⟨b7, 9, none⟩ = some (.slice (some ⟨bs1, 0, none⟩) A4.s.n A4.s.c) := by rw [← hbs1]; exact (HS.out.blk 0 rfl).cell 9 _ rfl
  go_upto_region 7 with (first | ((with_reducible refine isList ?_); first | (refine st_storeN HS 1 rfl hk1 hbs1 (5 + r) (by omega) _ _ _ rfl _ rfl (reg_pos r4) rfl rfl (by decide +kernel) ?_; clear HS; intro W HS)))
  clear c9 hk1 hkj hbs1
  replace HS : Hid (St w W [blkI b7 (machL A4 (O1.doN 0 (5 + r) v)), machI D4 A4 (O1.doN 0 (5 + r) v)]) := HS
  rw [← eO.out] at HS
  go_wp2_with (first | ((with_reducible refine isList ?_); first | (refine st_loadA HS 0 rfl _ _ rfl rfl rfl (by decide +kernel) (by kernel_rfl) ?_)))
  refine (hE.out A4 _ (MachOwn.is (show MachOwn D4 _ A4 O from HS.out.get 1 rfl))).mono ?_
  (rintro e Wq ⟨AX, rfl, hO, hb⟩; have HSq := hide (HS.out.push hb (machI (fun k => _) AX _) (machI_loc _ _ _) hO fun k hk => hk); generalize (fun k => _) = DX at HSq; clear HS hb hO; replace HS := HSq; clear HSq)
  clear hE
  go_upto_region 8 with (first | ((with_reducible refine isList ?_); first | (refine st_alloc HS _ rfl rfl zeroML zeroM ?_; clear HS; intro W b10 HS) | (refine st_storeA HS 0 rfl _ _ _ rfl rfl rfl _ rfl rfl (by kernel_rfl) rfl ?_; clear HS; intro W HS)))
  replace HS : Hid (St w W [blkI b10 (machL AX X), machI DX AX X, blkI b7 (machL A4 O), machI D4 A4 O]) := HS
  obtain ⟨n2, g⟩ := MachOwn.sfact (show MachOwn DX _ AX X from HS.out.get 1 rfl) p1.out
  obtain ⟨s2, e2, _⟩ := g (by decide)
  clear g
  obtain ⟨c9, r9⟩ := MachOwn.scell (show MachOwn DX _ AX X from HS.out.get 1 rfl) (HS.out.blk 0 rfl) p1.out e2
  obtain ⟨n3, g⟩ := MachOwn.sfact (show MachOwn D4 _ A4 O from HS.out.get 3 rfl) p2.out
  obtain ⟨s3, e3, _⟩ := g (by decide)
  clear g
  obtain ⟨f9, q9⟩ := MachOwn.scell (show MachOwn D4 _ A4 O from HS.out.get 3 rfl) (HS.out.blk 2 rfl) p2.out e3
  have d5 : W.cell? ⟨s2, 5, none⟩ = some (.int .i64 (lz (X.at 0).num 4)) := r9 0 (by decide) 5 _ rfl
  have d6 : W.cell? ⟨s2, 6, none⟩ = some (.int .i64 (lz (X.at 0).num 5)) := r9 0 (by decide) 6 _ rfl
  have d7 : W.cell? ⟨s2, 7, none⟩ = some (.int .i64 (lz (X.at 0).num 6)) := r9 0 (by decide) 7 _ rfl
  have d8 : W.cell? ⟨s2, 8, none⟩ = some (.int .i64 (lz (X.at 0).num 7)) := r9 0 (by decide) 8 _ rfl
  have d9 : W.cell? ⟨s2, 9, none⟩ = some (.int .i64 (lz (X.at 0).num 8)) := r9 0 (by decide) 9 _ rfl
  have f6 : W.cell? ⟨s3, 6, none⟩ = some (.int .i64 (lz (O.at 0).num 5)) := q9 0 (by decide) 6 _ rfl
  have f7 : W.cell? ⟨s3, 7, none⟩ = some (.int .i64 (lz (O.at 0).num 6)) := q9 0 (by decide) 7 _ rfl
  have f8 : W.cell? ⟨s3, 8, none⟩ = some (.int .i64 (lz (O.at 0).num 7)) := q9 0 (by decide) 8 _ rfl
  have f9' : W.cell? ⟨s3, 9, none⟩ = some (.int .i64 (lz (O.at 0).num 8)) := q9 0 (by decide) 9 _ rfl
  rw [p3.out] at d5
  rw [p4.out] at d6
  rw [p5.out] at d7
  rw [p6.out] at d8
  rw [p7.out] at d9
  generalize lz (O.at 0).num 5 = y0 at *
  generalize lz (O.at 0).num 6 = y1 at *
  generalize lz (O.at 0).num 7 = y2 at *
  generalize lz (O.at 0).num 8 = y3 at *
  have Q := fun W => quad_eq y0 y1 y2 y3 y0 y1 y2 y3 W
  simp only [beq_self_eq_true, Bool.and_self] at Q
  clear r9 q9 n3 e3 n2 e2
  by_cases hv0 : v = 0
  · subst hv0
    rw [if_pos rfl] at d5
    go_upto_region 13 with fail
    go_big_quiet ((go_at_call 12; exact Calls.quiet_of_same (flip (num_any _ _))))
    clear d5 d6 d7 d8 d9 f6 f7 f8 f9' c9 f9
    replace HS := hide (HS.out.drawn nq)
    go_wp2
    go_ret
    exact ⟨rfl, HS.out.below⟩
  · rw [if_neg hv0] at d5
    have hvi : ((v : Int) == 0) = false := by rw [beq_eq_false_iff_ne]; omega
    have hvn : ¬ (v : Int) = 0 := by omega
    go_upto_region 13 with fail
    go_big_quiet ((go_at_call 12; exact Calls.quiet_of_same (flip (num_any _ _))))
    clear d5 d6 d7 d8 d9 f6 f7 f8 f9' c9 f9
    replace HS := hide (HS.out.drawn nq)
    go_wp2
    go_ret
    exact ⟨rfl, HS.out.below⟩
theorem calcZero_any (a0 a1 a2 : Int) (w : World) :
    Calls Tryz.prog 5 #[.int .i64 a0, .int .i64 a1, .int .i64 a2] w fun e w' => e = .returned (.bool true) ∧ Below w.heap.size w w' := by
  obtain ⟨v, hv, v4⟩ := bit_pick a0 2 4 rfl (mask3 _) (by decide)
  obtain ⟨r, hr, r4⟩ := bit_pick a1 2 4 rfl (mask3 _) (by decide)
  obtain ⟨k, hk, k4⟩ := bit_pick a2 2 4 rfl (mask3 _) (by decide)
  exact calcZero_at a0 a1 a2 w v r k hv hr hk (by omega) (by omega) (by omega)
end Go.Proofs.YtnjognmnbpcaaaaGreat
