/-
  Several small texts in one: BegunPure, Begun17, Awake17.
-/
import Derived.Test.YtnjognmnbpcaaaaGreatZhNewRef
import Derived.Test.YtnjognmnbpcaaaaGreatZhStepRef
import Derived.Test.YtnjognmnbpcaaaaGreatZlai
import Derived.Test.YtnjognmnbpcaaaaGreatZhCalcProg
import Derived.Test.YtnjognmnbpcaaaaGreatZlad
import Derived.Test.YtnjognmnbpcaaaaGreatZlag
namespace Go.Proofs.YtnjognmnbpcaaaaGreat
open Go.RowKit
set_option linter.unusedVariables false
def begunS : PScript := ⟨[[5, 6], [7], [], [9]], 9, [⟨[3, 0, 3], [2, 0, 0, 0, 1, 0, 0, 0, 3, 0, 0, 0]⟩, ⟨[5, 1, 1], [2, 0, 0, 1, 3, 0, 1, 0]⟩], []⟩
def begunM : PMach := initM begunS
theorem newP_begun : newP begunS = (begunM, 0) := newP_yes (by decide +kernel)
/-- So many steps of session i. -/
def stepM (M : PMach) (i : Int) : Nat → PMach
  | 0 => M
  | n + 1 => (stepP (stepM M i n) i).1
theorem slIs_blk {W : World} {b k n : Nat} {L : List Int} (h : Blk W b (L.map (Value.int .i64))) (hl : L.length = n * k) (hf : n * (8 * k) ≤ 140737488351232) : SlIs W k ⟨some ⟨b, 0, none⟩, n, n⟩ L :=
  ⟨hl, ⟨hf, Nat.le_refl _, fun h => by cases h⟩, fun i hi => ⟨b, 0, rfl, h.lt, by
    rw [Nat.zero_add]
    have hi' : i < L.length := by rw [hl]; exact hi
    refine h.cell i _ ?_
    simp [lz, List.getD, hi']⟩⟩
/-- Two Starts, in a block. -/
theorem staIs_two {W : World} {b : Nat} {p0 p1 : Sl} {x y : PStart} (h : Blk W b (startOf p0 x ++ startOf p1 y)) (hx : x.num.length = 3) (hy : y.num.length = 3) (h0 : SlIs W 4 p0 x.prog) (h1 : SlIs W 4 p1 y.prog) :
    StaIs W ⟨some ⟨b, 0, none⟩, 2, 2⟩ (fun i => if i = 0 then p0 else p1) [x, y] :=
  ⟨rfl, ⟨by show 2 * 48 ≤ _; decide, Nat.le_refl _, fun h => by cases h⟩, fun j hj => ⟨b, 0, rfl, h.lt, by
    rw [Nat.zero_add]
    refine h.cell j _ ?_
    have hj : j < 8 := hj
    match j, hj with
    | 0, _ => rfl
    | 1, _ => rfl
    | 2, _ => rfl
    | 3, _ => rfl
    | 4, _ => rfl
    | 5, _ => rfl
    | 6, _ => rfl
    | 7, _ => rfl⟩, fun i hi => by
    have hi : i < 2 := hi
    match i, hi with
    | 0, _ => exact ⟨hx, h0⟩
    | 1, _ => exact ⟨hy, h1⟩⟩
end Go.Proofs.YtnjognmnbpcaaaaGreat
namespace Go.Proofs.YtnjognmnbpcaaaaGreat
open Go.RowKit
set_option linter.unusedSimpArgs false
set_option linter.unusedVariables false
set_option maxRecDepth 100000 in
set_option maxHeartbeats 4000000 in
theorem begun17_any (w : World) :
    Calls Tryz.prog 15 #[] w fun e w' => ∃ A', e = .returned (machA A' begunM) ∧ MachOwn (fun k => w.heap.size ≤ k ∧ k < w'.heap.size) w' A' begunM ∧ Below w.heap.size w w' := by
  have HS0 := ((((((((St.refl w).alloc [.slice none 0 0, .slice none 0 0, .slice none 0 0, .slice none 0 0, .int .i64 0, .int .i64 0, .int .i64 0, .int .i64 0, .int .i64 0, .slice none 0 0, .slice none 0 0] 28).alloc [.int .i64 5, .int .i64 6] 3).alloc [.int .i64 7] 3).alloc [.int .i64 9] 3).alloc [.int .i64 2, .int .i64 0, .int .i64 0, .int .i64 0, .int .i64 1, .int .i64 0, .int .i64 0, .int .i64 0, .int .i64 3, .int .i64 0, .int .i64 0, .int .i64 0] 47).alloc [.int .i64 2, .int .i64 0, .int .i64 0, .int .i64 1, .int .i64 3, .int .i64 0, .int .i64 1, .int .i64 0] 47).alloc [.int .i64 3, .int .i64 0, .int .i64 3, .slice (some ⟨w.heap.size + 1 + 1 + 1 + 1, 0, none⟩) 3 3, .int .i64 5, .int .i64 1, .int .i64 1, .slice (some ⟨w.heap.size + 1 + 1 + 1 + 1 + 1, 0, none⟩) 2 2] 72)
  simp only [World.size_alloc] at HS0
  have hIs := (show ScrIs _ ⟨fourSl ⟨some ⟨w.heap.size + 1, 0, none⟩, 2, 2⟩ ⟨some ⟨w.heap.size + 1 + 1, 0, none⟩, 1, 1⟩ noSl ⟨some ⟨w.heap.size + 1 + 1 + 1, 0, none⟩, 1, 1⟩, ⟨some ⟨w.heap.size + 1 + 1 + 1 + 1 + 1 + 1, 0, none⟩, 2, 2⟩, (fun i => if i = 0 then ⟨some ⟨w.heap.size + 1 + 1 + 1 + 1, 0, none⟩, 3, 3⟩ else ⟨some ⟨w.heap.size + 1 + 1 + 1 + 1 + 1, 0, none⟩, 2, 2⟩), noSl⟩ begunS from
    ⟨rfl, fun g hg => (match g, hg with
      | 0, _ => slIs_blk (HS0.blk 5 rfl) rfl (by decide)
      | 1, _ => slIs_blk (HS0.blk 4 rfl) rfl (by decide)
      | 2, _ => slIs_none _ 1
      | 3, _ => slIs_blk (HS0.blk 3 rfl) rfl (by decide)), staIs_two (HS0.blk 0 rfl) rfl rfl (slIs_blk (HS0.blk 2 rfl) rfl (by decide)) (slIs_blk (HS0.blk 1 rfl) rfl (by decide)), slIs_none _ 2⟩)
  have hN := rnewMach_any _ begunS _ hIs (by show 2 * 184 ≤ _; decide)
  rw [newP_begun] at hN
  have HS := hide HS0
  replace hN := hide hN
  clear hIs HS0
  go_enter Tryz.func15, Tryz.ntmps15
  go_wp2_with fail
  refine hN.out.mono ?_
  (rintro e Wq ⟨A1, rfl, hO, hb⟩; have HSq := hide (HS.out.push hb (machI (fun k => _) A1 _) (machI_loc _ _ _) hO fun k hk => hk); generalize (fun k => _) = D1 at HSq; clear HS hb hO; replace HS := HSq; clear HSq)
  clear hN
  go_wp2_with (first | ((with_reducible refine isList ?_); first | (refine st_alloc HS _ rfl rfl zeroML zeroM ?_; clear HS; intro W bq HS) | (refine st_storeA HS 0 rfl _ _ _ rfl rfl rfl _ rfl rfl (by kernel_rfl) rfl ?_; clear HS; intro W HS) | (refine st_loadA HS 0 rfl _ _ rfl rfl rfl (by decide +kernel) (by kernel_rfl) ?_) | (refine st_storeA HS 8 rfl _ _ _ rfl rfl rfl _ rfl rfl (by kernel_rfl) rfl ?_; clear HS; intro W HS)))
  refine bodyPost_ret (ret_mach Tryz.results15 (HS.out.blk 8 rfl) rfl rfl) rfl ⟨A1, rfl, ?_, HS.out.below⟩
  exact (show MachOwn D1 _ A1 begunM from HS.out.get 1 rfl).mono (HS.out.here 1 _ rfl).2.2
set_option maxRecDepth 100000 in
set_option maxHeartbeats 4000000 in
theorem stepped17_any (i : Int) (n : Nat) (hn : n ≤ 1000) (w : World) :
    Calls Tryz.prog 16 #[.int .i64 i, .int .i64 n] w fun e w' => ∃ A', e = .returned (machA A' (stepM begunM i n)) ∧ MachOwn (fun k => w.heap.size ≤ k ∧ k < w'.heap.size) w' A' (stepM begunM i n) ∧ Below w.heap.size w w' := by
  have HS := hide (St.refl w)
  have hB := hide fun (W : World) => begun17_any W
  have hP := hide fun (A : MacM) (M : PMach) (W : World) (h : MachIs W A M) => rstep_any A M i W h
  go_enter Tryz.func16, Tryz.ntmps16
  go_wp2_with (first | ((with_reducible refine isList ?_); first | (refine st_alloc HS _ rfl rfl zeroML zeroM ?_; clear HS; intro W b0 HS)))
  refine (hB.out _).mono ?_
  (rintro e Wq ⟨A1, rfl, hO, hb⟩; have HSq := hide (HS.out.push hb (machI (fun k => _) A1 _) (machI_loc _ _ _) hO fun k hk => hk); generalize (fun k => _) = D1 at HSq; clear HS hb hO; replace HS := HSq; clear HSq)
  clear hB
  go_wp2_with (first | ((with_reducible refine isList ?_); first | (refine st_alloc HS _ rfl rfl zeroML zeroM ?_; clear HS; intro W b5 HS) | (refine st_storeA HS 0 rfl _ _ _ rfl rfl rfl _ rfl rfl (by kernel_rfl) rfl ?_; clear HS; intro W HS)))
  replace HS : Hid (St w W [blkI b5 (machL A1 begunM), machI D1 A1 begunM, blkI b0 zeroML]) := HS
  go_loopw [6] (fun j wr => ∃ (k : Nat) (D : Nat → Prop) (B : MacM), k ≤ n ∧ j = .int .i64 k ∧ Hid (St w wr [blkI b5 (machL B (stepM begunM i k)), machI D B (stepM begunM i k), blkI b0 zeroML])) (fun j _ => n - (intOf j).toNat)
  case atStart => exact ⟨0, D1, A1, Nat.zero_le _, rfl, HS⟩
  case round =>
    clear HS
    obtain ⟨k, D, B, hk, rfl, HS⟩ := hrel
    by_cases hlt : k < n
    · have i1 : (k : Int) < (n : Int) := by omega
      go_wp2_with (first | ((with_reducible refine isList ?_); first | (refine st_loadA HS 0 rfl _ _ rfl rfl rfl (by decide +kernel) (by kernel_rfl) ?_)))
      refine (hP.out B _ _ (MachOwn.is (show MachOwn D _ B (stepM begunM i k) from HS.out.get 1 rfl))).mono ?_
      (rintro e Wq ⟨B2, rfl, hO, hb⟩; have HSq := hide (HS.out.push hb (machI (fun k => _) B2 _) (machI_loc _ _ _) hO fun k hk => hk); generalize (fun k => _) = D2 at HSq; clear HS hb hO; replace HS := HSq; clear HSq)
      go_wp2_with (first | ((with_reducible refine isList ?_); first | (refine st_storeA HS 1 rfl _ _ _ rfl rfl rfl _ rfl rfl (by kernel_rfl) rfl ?_; clear HS; intro W HS)))
      replace HS : Hid (St w W [machI D2 B2 (stepM begunM i (k + 1)), blkI b5 (machL B2 (stepM begunM i (k + 1))), machI D B (stepM begunM i k), blkI b0 zeroML]) := HS
      replace HS : Hid (St w W [blkI b5 (machL B2 (stepM begunM i (k + 1))), machI D2 B2 (stepM begunM i (k + 1)), blkI b0 zeroML]) := hide (HS.out.sel [1, 0, 3] (by decide) rfl)
      go_roundw
      case rel =>
        first
          | exact ⟨k + 1, D2, B2, by omega, by go_num, HS⟩
          | (repeat apply Exists.intro
             exact ⟨⟨k + 1, D2, B2, by omega, by go_num, HS⟩, rfl⟩)
      case measure => simp [intOf]; omega
    · obtain rfl : k = n := by omega
      go_wp2_with (first | ((with_reducible refine isList ?_); first | (refine st_loadA HS 0 rfl _ _ rfl rfl rfl (by decide +kernel) (by kernel_rfl) ?_) | (refine st_storeA HS 2 rfl _ _ _ rfl rfl rfl _ rfl rfl (by kernel_rfl) rfl ?_; clear HS; intro W HS)))
      refine bodyPost_ret (ret_mach Tryz.results16 (HS.out.blk 2 rfl) rfl rfl) rfl ⟨B, rfl, ?_, HS.out.below⟩
      exact (show MachOwn D _ B (stepM begunM i k) from HS.out.get 1 rfl).mono (HS.out.here 1 _ rfl).2.2
end Go.Proofs.YtnjognmnbpcaaaaGreat
namespace Go.Proofs.YtnjognmnbpcaaaaGreat
open Go.RowKit
set_option linter.unusedSimpArgs false
set_option linter.unusedVariables false
set_option maxRecDepth 100000 in
set_option maxHeartbeats 4000000 in
theorem awake17_any (w : World) :
    Calls Tryz.prog 14 #[] w fun e w' => e = .returned (.bool true) ∧ Below w.heap.size w w' := by
  have HS := hide (St.refl w)
  have hB := hide fun (W : World) => begun17_any W
  have hP := hide fun (W : World) => stepped17_any 0 1 (by decide) W
  obtain ⟨O, eO⟩ : ∃ O, O = begunM.setS 0 ((begunM.at 0).setL 0 [4, 2, 2, 0, 5, 0, 0, 0]) := ⟨_, rfl⟩
  have g1 := fun (A : MacM) (W : World) (h : MachIs W A (stepM begunM 0 1)) => calcStep_any A (stepM begunM 0 1) 0 W h
  have g2 := fun (A : MacM) (W : World) (h : MachIs W A O) => calcStep_any A O 0 W h
  have g3 := fun (A : MacM) (W : World) (h : MachIs W A begunM) => calcStep_any A begunM 0 W h
  obtain ⟨X, hX, sX, x5, x4⟩ : ∃ X, calcP (stepM begunM 0 1) 0 = (X, 0) ∧ X.sess.length = 2 ∧ lz (X.at 0).num 5 = 10 ∧ lz (X.at 0).num 4 = 2 := ⟨(calcP (stepM begunM 0 1) 0).1, Prod.ext rfl (by decide +kernel), by decide +kernel, by decide +kernel, by decide +kernel⟩
  obtain ⟨Y, hY, sY, y4⟩ : ∃ Y, calcP O 0 = (Y, 0) ∧ Y.sess.length = 2 ∧ lz (Y.at 0).num 4 = 2 := ⟨(calcP O 0).1, by rw [eO]; exact Prod.ext rfl (by decide +kernel), by rw [eO]; decide +kernel, by rw [eO]; decide +kernel⟩
  obtain ⟨Z0, hZ⟩ : ∃ Z0, calcP begunM 0 = (Z0, 1700) := ⟨(calcP begunM 0).1, Prod.ext rfl (by decide +kernel)⟩
  rw [hX] at g1
  rw [hY] at g2
  rw [hZ] at g3
  clear hX hY hZ
  have lN : Hid (begunM.sess.length = 2) := by show _ = 2; decide +kernel
  replace g1 := hide g1; replace g2 := hide g2; replace g3 := hide g3
  replace sX := hide sX; replace x4 := hide x4; replace x5 := hide x5; replace sY := hide sY; replace y4 := hide y4; replace eO := hide eO
  generalize stepM begunM 0 1 = Z at *
  generalize begunM = N at *
  go_enter Tryz.func14, Tryz.ntmps14
  go_wp2_with fail
  refine (hP.out _).mono ?_
  (rintro e Wq ⟨A1, rfl, hO, hb⟩; have HSq := hide (HS.out.push hb (machI (fun k => _) A1 _) (machI_loc _ _ _) hO fun k hk => hk); generalize (fun k => _) = D1 at HSq; clear HS hb hO; replace HS := HSq; clear HSq)
  go_wp2_with fail
  refine (g1.out A1 _ (MachOwn.is (show MachOwn D1 _ A1 Z from HS.out.get 0 rfl))).mono ?_
  (rintro e Wq ⟨AX, rfl, hO, hb⟩; have HSq := hide (HS.out.push hb (machI (fun k => _) AX _) (machI_loc _ _ _) hO fun k hk => hk); generalize (fun k => _) = DX at HSq; clear HS hb hO; replace HS := HSq; clear HSq)
  clear g1 hP
  go_wp2_with (first | ((with_reducible refine isList ?_); first | (refine st_alloc HS _ rfl rfl zeroML zeroM ?_; clear HS; intro W b1 HS) | (refine st_storeA HS 0 rfl _ _ _ rfl rfl rfl _ rfl rfl (by kernel_rfl) rfl ?_; clear HS; intro W HS)))
  refine (hB.out _).mono ?_
  (rintro e Wq ⟨A2, rfl, hO, hb⟩; have HSq := hide (HS.out.push hb (machI (fun k => _) A2 _) (machI_loc _ _ _) hO fun k hk => hk); generalize (fun k => _) = D2 at HSq; clear HS hb hO; replace HS := HSq; clear HSq)
  replace HS : Hid (St w Wq [machI D2 A2 N, blkI b1 (machL AX X), machI DX AX X]) := hide (HS.out.sel [0, 1, 2] (by decide) rfl)
  have hk1 : 0 < A2.s.n := by
    have := (MachOwn.is (show MachOwn D2 _ A2 N from HS.out.get 0 rfl)).sess.1
    have := lN.out; omega
  have hki : (0 : Int) < (A2.s.n : Int) := by omega
  obtain ⟨bs1, hbs1, _⟩ := MachOwn.sblk (show MachOwn D2 _ A2 N from HS.out.get 0 rfl) hk1
  go_upto_region 3 with (first | ((with_reducible refine isList ?_); first | (refine st_alloc HS _ rfl rfl zeroML zeroM ?_; clear HS; intro W b3 HS) | (refine st_storeA HS 0 rfl _ _ _ rfl rfl rfl _ rfl rfl (by kernel_rfl) rfl ?_; clear HS; intro W HS)))
  replace HS : Hid (St w W [blkI b3 (machL A2 N), machI D2 A2 N, blkI b1 (machL AX X), machI DX AX X]) := HS
  go_upto_region 4 with (first | ((with_reducible refine isList ?_); first | (refine st_load1 HS 0 rfl _ _ rfl _ rfl rfl (by decide +kernel) rfl ?_) | (refine st_lit_2_4 HS _ 47 _ _ rfl rfl Tryz.underlying40 Tryz.infoI rfl rfl ?_; clear HS; intro W bl HS) | (refine st_storeL HS 2 0 rfl 0 (by decide) rfl (by decide) hk1 hbs1 _ _ _ rfl _ rfl rfl rfl rfl (by decide +kernel) ?_; clear HS; intro W HS)))
  replace HS : Hid (St w W [blkI b3 (machL (A2.setQ 0 ((A2.q 0).setL 0 ⟨some ⟨bl, 0, none⟩, 2, 2⟩)) (N.setS 0 ((N.at 0).setL 0 [4, 2, 2, 0, 5, 0, 0, 0]))), machI (fun k => D2 k ∨ k = bl) (A2.setQ 0 ((A2.q 0).setL 0 ⟨some ⟨bl, 0, none⟩, 2, 2⟩)) (N.setS 0 ((N.at 0).setL 0 [4, 2, 2, 0, 5, 0, 0, 0])), blkI b1 (machL AX X), machI DX AX X]) := hide (HS.out.sel [1, 2, 3, 4] (by decide) rfl)
  rw [← eO.out] at HS
  generalize (fun k => D2 k ∨ k = bl) = D4 at HS
  generalize A2.setQ 0 ((A2.q 0).setL 0 ⟨some ⟨bl, 0, none⟩, 2, 2⟩) = A4 at HS
  clear hk1 hki hbs1
  go_wp2_with (first | ((with_reducible refine isList ?_); first | (refine st_loadA HS 0 rfl _ _ rfl rfl rfl (by decide +kernel) (by kernel_rfl) ?_)))
  refine (g2.out A4 _ (MachOwn.is (show MachOwn D4 _ A4 O from HS.out.get 1 rfl))).mono ?_
  (rintro e Wq ⟨AY, rfl, hO, hb⟩; have HSq := hide (HS.out.push hb (machI (fun k => _) AY _) (machI_loc _ _ _) hO fun k hk => hk); generalize (fun k => _) = DY at HSq; clear HS hb hO; replace HS := HSq; clear HSq)
  clear g2
  go_wp2_with (first | ((with_reducible refine isList ?_); first | (refine st_alloc HS _ rfl rfl zeroML zeroM ?_; clear HS; intro W b4 HS) | (refine st_storeA HS 0 rfl _ _ _ rfl rfl rfl _ rfl rfl (by kernel_rfl) rfl ?_; clear HS; intro W HS)))
  refine (hB.out _).mono ?_
  (rintro e Wq ⟨A5, rfl, hO, hb⟩; have HSq := hide (HS.out.push hb (machI (fun k => _) A5 _) (machI_loc _ _ _) hO fun k hk => hk); generalize (fun k => _) = D5 at HSq; clear HS hb hO; replace HS := HSq; clear HSq)
  go_wp2_with fail
  refine (g3.out A5 _ (MachOwn.is (show MachOwn D5 _ A5 N from HS.out.get 0 rfl))).mono ?_
  (rintro e Wq ⟨A6, rfl, hO, hb⟩; have HSq := hide (HS.out.push hb (machI (fun k => _) A6 _) (machI_loc _ _ _) hO fun k hk => hk); generalize (fun k => _) = D6 at HSq; clear HS hb hO; replace HS := HSq; clear HSq)
  clear g3 hB
  go_upto_region 6 with (first | ((with_reducible refine isList ?_); first | (refine st_alloc HS _ rfl rfl zeroML zeroM ?_; clear HS; intro W b6 HS) | (refine st_storeA HS 0 rfl _ _ _ rfl rfl rfl _ rfl rfl (by kernel_rfl) rfl ?_; clear HS; intro W HS)))
  replace HS : Hid (St w W [blkI b4 (machL AY Y), machI DY AY Y, blkI b1 (machL AX X), machI DX AX X]) := hide (HS.out.sel [3, 4, 7, 8] (by decide) rfl)
  obtain ⟨n2, g⟩ := MachOwn.sfact (show MachOwn DX _ AX X from HS.out.get 3 rfl) sX.out
  obtain ⟨s2, e2, _⟩ := g (by decide)
  clear g
  obtain ⟨c9, r9⟩ := MachOwn.scell (show MachOwn DX _ AX X from HS.out.get 3 rfl) (HS.out.blk 2 rfl) sX.out e2
  have d5 := r9 0 (by decide) 5 (.int .i64 (lz (X.at 0).num 4)) rfl
  have d6 := r9 0 (by decide) 6 (.int .i64 (lz (X.at 0).num 5)) rfl
  rw [x4.out] at d5
  rw [x5.out] at d6
  replace d5 : W.cell? ⟨s2, 5, none⟩ = some (.int .i64 2) := d5
  replace d6 : W.cell? ⟨s2, 6, none⟩ = some (.int .i64 10) := d6
  obtain ⟨m2, g⟩ := MachOwn.sfact (show MachOwn DY _ AY Y from HS.out.get 1 rfl) sY.out
  obtain ⟨s3, e3, _⟩ := g (by decide)
  clear g
  obtain ⟨f9, q9⟩ := MachOwn.scell (show MachOwn DY _ AY Y from HS.out.get 1 rfl) (HS.out.blk 0 rfl) sY.out e3
  have f5 := q9 0 (by decide) 5 (.int .i64 (lz (Y.at 0).num 4)) rfl
  rw [y4.out] at f5
  replace f5 : W.cell? ⟨s3, 5, none⟩ = some (.int .i64 2) := f5
  clear r9 q9
  replace n2 := hide n2; replace e2 := hide e2; replace m2 := hide m2; replace e3 := hide e3
  go_wp2_with (go_at_call 12; refine (num_any _ _).mono ?_; rintro e w' ⟨rfl, rfl⟩)
  go_ret
  exact ⟨rfl, HS.out.below⟩
end Go.Proofs.YtnjognmnbpcaaaaGreat
