/-
  Several small texts in one: BegunPure, Begun16, Awake16.
-/
import Derived.Test.YtlnenmfippedpaaGreatZhNewRef
import Derived.Test.YtlnenmfippedpaaGreatZhStepRef
import Derived.Test.YtlnenmfippedpaaGreatZlah
import Derived.Test.YtlnenmfippedpaaGreatZlbb
import Derived.Test.YtlnenmfippedpaaGreatZlad
import Derived.Test.YtlnenmfippedpaaGreatZlaf
import Derived.Test.YtlnenmfippedpaaGreatZlba
import Derived.Test.YtlnenmfippedpaaGreatZlac
namespace Go.Proofs.YtlnenmfippedpaaGreat
open Go.RowKit
set_option linter.unusedVariables false
def begunS : PScript := ⟨[[5, 6], [7], [], [9]], 9, [⟨[3, 0, 3], [2, 0, 0, 0, 1, 0, 0, 0, 3, 0, 0, 0]⟩, ⟨[5, 1, 1], [2, 0, 0, 1, 3, 0, 1, 0]⟩], []⟩
def begunM : PMach := initM begunS
theorem newP_begun : newP begunS = (begunM, 0) := newP_yes (by decide +kernel)
/-- So many steps of session i. -/
def stepM (M : PMach) (i : Int) : Nat → PMach
  | 0 => M
  | n + 1 => (stepP (stepM M i n) i).1
theorem slIs_blk {W : World} {b k n : Nat} {L : List Int} (h : Blk W b (L.map (Value.int .i64))) (hl : L.length = n * k) (hf : n * (8 * k) ≤ 140737488351232) : SlIs W k ⟨some ⟨b, 0, none⟩, n, n⟩ L :=
  ⟨hl, ⟨hf, Nat.le_refl _, fun h => by cases h⟩, fun i hi => ⟨b, 0, rfl, h.lt, by
    rw [Nat.zero_add]
    have hi' : i < L.length := by rw [hl]; exact hi
    refine h.cell i _ ?_
    simp [lz, List.getD, hi']⟩⟩
/-- Two Starts, in a block. -/
theorem staIs_two {W : World} {b : Nat} {p0 p1 : Sl} {x y : PStart} (h : Blk W b (startOf p0 x ++ startOf p1 y)) (hx : x.num.length = 3) (hy : y.num.length = 3) (h0 : SlIs W 4 p0 x.prog) (h1 : SlIs W 4 p1 y.prog) :
    StaIs W ⟨some ⟨b, 0, none⟩, 2, 2⟩ (fun i => if i = 0 then p0 else p1) [x, y] :=
  ⟨rfl, ⟨by show 2 * 48 ≤ _; decide, Nat.le_refl _, fun h => by cases h⟩, fun j hj => ⟨b, 0, rfl, h.lt, by
    rw [Nat.zero_add]
    refine h.cell j _ ?_
    have hj : j < 8 := hj
    match j, hj with
    | 0, _ => rfl
    | 1, _ => rfl
    | 2, _ => rfl
    | 3, _ => rfl
    | 4, _ => rfl
    | 5, _ => rfl
    | 6, _ => rfl
    | 7, _ => rfl⟩, fun i hi => by
    have hi : i < 2 := hi
    match i, hi with
    | 0, _ => exact ⟨hx, h0⟩
    | 1, _ => exact ⟨hy, h1⟩⟩
end Go.Proofs.YtlnenmfippedpaaGreat
namespace Go.Proofs.YtlnenmfippedpaaGreat
open Go.RowKit
set_option linter.unusedSimpArgs false
set_option linter.unusedVariables false
set_option maxRecDepth 100000 in
set_option maxHeartbeats 4000000 in
theorem begun16_any (w : World) :
    Calls Tryz.prog 18 #[] w fun e w' => ∃ A', e = .returned (machA A' begunM) ∧ MachOwn (fun k => w.heap.size ≤ k ∧ k < w'.heap.size) w' A' begunM ∧ Below w.heap.size w w' := by
  have HS0 := ((((((((St.refl w).alloc [.slice none 0 0, .slice none 0 0, .slice none 0 0, .slice none 0 0, .int .i64 0, .int .i64 0, .int .i64 0, .int .i64 0, .int .i64 0, .slice none 0 0, .slice none 0 0] 28).alloc [.int .i64 5, .int .i64 6] 3).alloc [.int .i64 7] 3).alloc [.int .i64 9] 3).alloc [.int .i64 2, .int .i64 0, .int .i64 0, .int .i64 0, .int .i64 1, .int .i64 0, .int .i64 0, .int .i64 0, .int .i64 3, .int .i64 0, .int .i64 0, .int .i64 0] 47).alloc [.int .i64 2, .int .i64 0, .int .i64 0, .int .i64 1, .int .i64 3, .int .i64 0, .int .i64 1, .int .i64 0] 47).alloc [.int .i64 3, .int .i64 0, .int .i64 3, .slice (some ⟨w.heap.size + 1 + 1 + 1 + 1, 0, none⟩) 3 3, .int .i64 5, .int .i64 1, .int .i64 1, .slice (some ⟨w.heap.size + 1 + 1 + 1 + 1 + 1, 0, none⟩) 2 2] 81)
  simp only [World.size_alloc] at HS0
  have hIs := (show ScrIs _ ⟨fourSl ⟨some ⟨w.heap.size + 1, 0, none⟩, 2, 2⟩ ⟨some ⟨w.heap.size + 1 + 1, 0, none⟩, 1, 1⟩ noSl ⟨some ⟨w.heap.size + 1 + 1 + 1, 0, none⟩, 1, 1⟩, ⟨some ⟨w.heap.size + 1 + 1 + 1 + 1 + 1 + 1, 0, none⟩, 2, 2⟩, (fun i => if i = 0 then ⟨some ⟨w.heap.size + 1 + 1 + 1 + 1, 0, none⟩, 3, 3⟩ else ⟨some ⟨w.heap.size + 1 + 1 + 1 + 1 + 1, 0, none⟩, 2, 2⟩), noSl⟩ begunS from
    ⟨rfl, fun g hg => (match g, hg with
      | 0, _ => slIs_blk (HS0.blk 5 rfl) rfl (by decide)
      | 1, _ => slIs_blk (HS0.blk 4 rfl) rfl (by decide)
      | 2, _ => slIs_none _ 1
      | 3, _ => slIs_blk (HS0.blk 3 rfl) rfl (by decide)), staIs_two (HS0.blk 0 rfl) rfl rfl (slIs_blk (HS0.blk 2 rfl) rfl (by decide)) (slIs_blk (HS0.blk 1 rfl) rfl (by decide)), slIs_none _ 2⟩)
  have hN := rnewMach_any _ begunS _ hIs (by show 2 * 184 ≤ _; decide)
  rw [newP_begun] at hN
  have HS := hide HS0
  replace hN := hide hN
  clear hIs HS0
  go_enter Tryz.func18, Tryz.ntmps18
  go_wp2_with fail
  refine hN.out.mono ?_
  (rintro e Wq ⟨A1, rfl, hO, hb⟩; have HSq := hide (HS.out.push hb (machI (fun k => _) A1 _) (machI_loc _ _ _) hO fun k hk => hk); generalize (fun k => _) = D1 at HSq; clear HS hb hO; replace HS := HSq; clear HSq)
  clear hN
  go_wp2_with (first | ((with_reducible refine isList ?_); first | (refine st_alloc HS _ rfl rfl zeroML zeroM ?_; clear HS; intro W bq HS) | (refine st_storeA HS 0 rfl _ _ _ rfl rfl rfl _ rfl rfl (by kernel_rfl) rfl ?_; clear HS; intro W HS) | (refine st_loadA HS 0 rfl _ _ rfl rfl rfl (by decide +kernel) (by kernel_rfl) ?_) | (refine st_storeA HS 8 rfl _ _ _ rfl rfl rfl _ rfl rfl (by kernel_rfl) rfl ?_; clear HS; intro W HS)))
  refine bodyPost_ret (ret_mach Tryz.results18 (HS.out.blk 8 rfl) rfl rfl) rfl ⟨A1, rfl, ?_, HS.out.below⟩
  exact (show MachOwn D1 _ A1 begunM from HS.out.get 1 rfl).mono (HS.out.here 1 _ rfl).2.2
set_option maxRecDepth 100000 in
set_option maxHeartbeats 4000000 in
theorem stepped16_any (i : Int) (n : Nat) (hn : n ≤ 1000) (w : World) :
    Calls Tryz.prog 17 #[.int .i64 i, .int .i64 n] w fun e w' => ∃ A', e = .returned (machA A' (stepM begunM i n)) ∧ MachOwn (fun k => w.heap.size ≤ k ∧ k < w'.heap.size) w' A' (stepM begunM i n) ∧ Below w.heap.size w w' := by
  have HS := hide (St.refl w)
  have hB := hide fun (W : World) => begun16_any W
  have hP := hide fun (A : MacM) (M : PMach) (W : World) (h : MachIs W A M) => rstep_any A M i W h
  go_enter Tryz.func17, Tryz.ntmps17
  go_wp2_with (first | ((with_reducible refine isList ?_); first | (refine st_alloc HS _ rfl rfl zeroML zeroM ?_; clear HS; intro W b0 HS)))
  refine (hB.out _).mono ?_
  (rintro e Wq ⟨A1, rfl, hO, hb⟩; have HSq := hide (HS.out.push hb (machI (fun k => _) A1 _) (machI_loc _ _ _) hO fun k hk => hk); generalize (fun k => _) = D1 at HSq; clear HS hb hO; replace HS := HSq; clear HSq)
  clear hB
  go_wp2_with (first | ((with_reducible refine isList ?_); first | (refine st_alloc HS _ rfl rfl zeroML zeroM ?_; clear HS; intro W b5 HS) | (refine st_storeA HS 0 rfl _ _ _ rfl rfl rfl _ rfl rfl (by kernel_rfl) rfl ?_; clear HS; intro W HS)))
  replace HS : Hid (St w W [blkI b5 (machL A1 begunM), machI D1 A1 begunM, blkI b0 zeroML]) := HS
  go_loopw [6] (fun j wr => ∃ (k : Nat) (D : Nat → Prop) (B : MacM), k ≤ n ∧ j = .int .i64 k ∧ Hid (St w wr [blkI b5 (machL B (stepM begunM i k)), machI D B (stepM begunM i k), blkI b0 zeroML])) (fun j _ => n - (intOf j).toNat)
  case atStart => exact ⟨0, D1, A1, Nat.zero_le _, rfl, HS⟩
  case round =>
    clear HS
    obtain ⟨k, D, B, hk, rfl, HS⟩ := hrel
    by_cases hlt : k < n
    · have i1 : (k : Int) < (n : Int) := by omega
      go_wp2_with (first | ((with_reducible refine isList ?_); first | (refine st_loadA HS 0 rfl _ _ rfl rfl rfl (by decide +kernel) (by kernel_rfl) ?_)))
      refine (hP.out B _ _ (MachOwn.is (show MachOwn D _ B (stepM begunM i k) from HS.out.get 1 rfl))).mono ?_
      (rintro e Wq ⟨B2, rfl, hO, hb⟩; have HSq := hide (HS.out.push hb (machI (fun k => _) B2 _) (machI_loc _ _ _) hO fun k hk => hk); generalize (fun k => _) = D2 at HSq; clear HS hb hO; replace HS := HSq; clear HSq)
      go_wp2_with (first | ((with_reducible refine isList ?_); first | (refine st_storeA HS 1 rfl _ _ _ rfl rfl rfl _ rfl rfl (by kernel_rfl) rfl ?_; clear HS; intro W HS)))
      replace HS : Hid (St w W [machI D2 B2 (stepM begunM i (k + 1)), blkI b5 (machL B2 (stepM begunM i (k + 1))), machI D B (stepM begunM i k), blkI b0 zeroML]) := HS
      replace HS : Hid (St w W [blkI b5 (machL B2 (stepM begunM i (k + 1))), machI D2 B2 (stepM begunM i (k + 1)), blkI b0 zeroML]) := hide (HS.out.sel [1, 0, 3] (by decide) rfl)
      go_roundw
      case rel =>
        first
          | exact ⟨k + 1, D2, B2, by omega, by go_num, HS⟩
          | (repeat apply Exists.intro
             exact ⟨⟨k + 1, D2, B2, by omega, by go_num, HS⟩, rfl⟩)
      case measure => simp [intOf]; omega
    · obtain rfl : k = n := by omega
      go_wp2_with (first | ((with_reducible refine isList ?_); first | (refine st_loadA HS 0 rfl _ _ rfl rfl rfl (by decide +kernel) (by kernel_rfl) ?_) | (refine st_storeA HS 2 rfl _ _ _ rfl rfl rfl _ rfl rfl (by kernel_rfl) rfl ?_; clear HS; intro W HS)))
      refine bodyPost_ret (ret_mach Tryz.results17 (HS.out.blk 2 rfl) rfl rfl) rfl ⟨B, rfl, ?_, HS.out.below⟩
      exact (show MachOwn D _ B (stepM begunM i k) from HS.out.get 1 rfl).mono (HS.out.here 1 _ rfl).2.2
end Go.Proofs.YtlnenmfippedpaaGreat
namespace Go.Proofs.YtlnenmfippedpaaGreat
open Go.RowKit
set_option linter.unusedSimpArgs false
set_option linter.unusedVariables false
/-- The words of a machine, read out of its block. -/
theorem mach_words {W : World} {b : Nat} {A : MacM} {M : PMach} (h : Blk W b (machL A M)) : W.rangeAt b 0 (arenaL A.w) := fun j v hj => by
  rw [Nat.zero_add]
  refine h.cell j v ?_
  have e : machL A M = arenaL A.w ++ [.int .i64 (lz M.clocks 0), .int .i64 (lz M.clocks 1), .int .i64 (lz M.clocks 2), .int .i64 (lz M.clocks 3), .int .i64 M.ceil, .slice A.s.a A.s.n A.s.c, .slice A.e.a A.e.n A.e.c] := by kernel_rfl
  rw [e, List.getElem?_append_left (List.getElem?_eq_some_iff.1 hj).1]
  exact hj
/-- SameWrites, of what a session writes and a list of one's own. -/
theorem sameWrites_lis {q : SesM} {x : PSess} {D : Nat → Prop} {s : Sl} {l : List Int} (W : World) (h : SessIs W q x) (h' : SlIs W 3 s l) (e : x.writes = l) :
    Calls Tryz.prog 19 #[.slice q.t.a q.t.n q.t.c, .slice s.a s.n s.c] W fun e w' => e = .returned (.bool true) ∧ ∃ q, w' = W.drewN q := by
  obtain ⟨_, _, _, t1⟩ := h
  rw [e] at t1
  have en : s.n = q.t.n := (h'.len (by decide)).symm.trans (t1.len (by decide))
  have R2 := h'.2.2
  rw [en] at R2 ⊢
  have := sameWrites_any q.t.a s.a q.t.n q.t.c q.t.n s.c (lz l) (lz l) W (by have := t1.2.1.1; omega) t1.2.2 R2
  rw [show (decide (q.t.n = q.t.n) && eqTo (lz l) (lz l) (q.t.n * 3)) = true from by rw [decide_eq_true rfl, eqTo_mk fun _ _ => rfl]; rfl] at this
  exact this
set_option maxRecDepth 100000 in
set_option maxHeartbeats 4000000 in
theorem awake16_any (w : World) :
    Calls Tryz.prog 13 #[] w fun e w' => e = .returned (.bool true) ∧ Below w.heap.size w w' := by
  have HS := hide (St.refl w)
  have hB := hide fun (W : World) => begun16_any W
  have hP := hide fun (W : World) => stepped16_any 0 2 (by decide) W
  have g1 := fun (A : MacM) (W : World) (h : MachIs W A (stepM begunM 0 2)) => storeStep_any A (stepM begunM 0 2) 0 W h
  have g2 := fun (A : MacM) (W : World) (h : MachIs W A begunM) => storeStep_any A begunM 0 W h
  obtain ⟨X, hX, sX, x4, xw, xW⟩ : ∃ X, storeP (stepM begunM 0 2) 0 = (X, 0) ∧ X.sess.length = 2 ∧ lz (X.at 0).num 4 = 3 ∧ (X.at 0).writes = [0, 0, 10] ∧ X.words = begunM.words := ⟨(storeP (stepM begunM 0 2) 0).1, Prod.ext rfl (by decide +kernel), by decide +kernel, by decide +kernel, by decide +kernel, by decide +kernel⟩
  obtain ⟨Y, hY⟩ : ∃ Y, storeP begunM 0 = (Y, 1600) := ⟨(storeP begunM 0).1, Prod.ext rfl (by decide +kernel)⟩
  rw [hX] at g1
  rw [hY] at g2
  clear hX hY
  replace g1 := hide g1; replace g2 := hide g2
  replace sX := hide sX; replace x4 := hide x4; replace xw := hide xw; replace xW := hide xW
  generalize stepM begunM 0 2 = Z at *
  generalize begunM = N at *
  go_enter Tryz.func13, Tryz.ntmps13
  go_wp2_with fail
  refine (hP.out _).mono ?_
  (rintro e Wq ⟨A1, rfl, hO, hb⟩; have HSq := hide (HS.out.push hb (machI (fun k => _) A1 _) (machI_loc _ _ _) hO fun k hk => hk); generalize (fun k => _) = D1 at HSq; clear HS hb hO; replace HS := HSq; clear HSq)
  go_wp2_with fail
  refine (g1.out A1 _ (MachOwn.is (show MachOwn D1 _ A1 Z from HS.out.get 0 rfl))).mono ?_
  (rintro e Wq ⟨AX, rfl, hO, hb⟩; have HSq := hide (HS.out.push hb (machI (fun k => _) AX _) (machI_loc _ _ _) hO fun k hk => hk); generalize (fun k => _) = DX at HSq; clear HS hb hO; replace HS := HSq; clear HSq)
  go_wp2_with (first | ((with_reducible refine isList ?_); first | (refine st_alloc HS _ rfl rfl zeroML zeroM ?_; clear HS; intro W b1 HS) | (refine st_storeA HS 0 rfl _ _ _ rfl rfl rfl _ rfl rfl (by kernel_rfl) rfl ?_; clear HS; intro W HS)))
  refine (hB.out _).mono ?_
  (rintro e Wq ⟨A2, rfl, hO, hb⟩; have HSq := hide (HS.out.push hb (machI (fun k => _) A2 _) (machI_loc _ _ _) hO fun k hk => hk); generalize (fun k => _) = D2 at HSq; clear HS hb hO; replace HS := HSq; clear HSq)
  go_wp2_with fail
  refine (g2.out A2 _ (MachOwn.is (show MachOwn D2 _ A2 N from HS.out.get 0 rfl))).mono ?_
  (rintro e Wq ⟨AY, rfl, hO, hb⟩; have HSq := hide (HS.out.push hb (machI (fun k => _) AY _) (machI_loc _ _ _) hO fun k hk => hk); generalize (fun k => _) = DY at HSq; clear HS hb hO; replace HS := HSq; clear HSq)
  go_upto_region 3 with (first | ((with_reducible refine isList ?_); first | (refine st_alloc HS _ rfl rfl zeroML zeroM ?_; clear HS; intro W b3 HS) | (refine st_storeA HS 0 rfl _ _ _ rfl rfl rfl _ rfl rfl (by kernel_rfl) rfl ?_; clear HS; intro W HS)))
  replace HS : Hid (St w W [blkI b1 (machL AX X), machI DX AX X]) := hide (HS.out.sel [3, 4] (by decide) rfl)
  obtain ⟨n2, g⟩ := MachOwn.sfact (show MachOwn DX _ AX X from HS.out.get 1 rfl) sX.out
  obtain ⟨s2, e2, _⟩ := g (by decide)
  clear g
  have c9 : W.cell? ⟨b1, 9, none⟩ = some (.slice (some ⟨s2, 0, none⟩) 2 AX.s.c) := by
    have := (HS.out.blk 0 rfl).cell 9 (.slice AX.s.a AX.s.n AX.s.c) rfl
    rw [e2, n2] at this
    exact this
  replace e2 := hide e2; replace n2 := hide n2
  go_upto_region 5 with fail
  clear c9
  have hk0 : 0 < AX.s.n := by have := n2.out; omega
  have i0 : (0 : Int) < (AX.s.n : Int) := by omega
  have HC := hide fun (W' : World) (hb : Blk W' b1 (machL AX X)) (hm : MachOwn DX W' AX X) => (⟨by rw [← e2.out]; exact hb.cell 9 _ rfl, hm.is.scell hk0 11 (by decide) rfl e2.out, by rw [← x4.out]; exact hm.is.scell hk0 5 (by decide) rfl e2.out, mach_words hb⟩ : (fun W' => W'.cell? ⟨b1, 9, none⟩ = some (.slice (some ⟨s2, 0, none⟩) AX.s.n AX.s.c) ∧ W'.cell? ⟨s2, 11, none⟩ = some (.slice (AX.q 0).t.a (AX.q 0).t.n (AX.q 0).t.c) ∧ W'.cell? ⟨s2, 5, none⟩ = some (.int .i64 3) ∧ W'.rangeAt b1 0 (arenaL AX.w)) W')
  (try simp only [Act.put, List.setIfInBounds_toArray, List.set_cons_zero, List.set_cons_succ])
  refine wp_region_tree [true, true, true, true, true, true, false, false, false, false, false, false, false, false, false, false, false, false, false, false, false, false, false, false, false, false, false, false, false, false, false, false, false, false] #[true, true, true, true, true, true, false, false, false, false, false, false, false, false, false, false, false, false, false, false, false, false, false, false, false, false, false, false, false, false, false, false, false, false] 28 (fun W' => W'.cell? ⟨b1, 9, none⟩ = some (.slice (some ⟨s2, 0, none⟩) AX.s.n AX.s.c) ∧ W'.cell? ⟨s2, 11, none⟩ = some (.slice (AX.q 0).t.a (AX.q 0).t.n (AX.q 0).t.c) ∧ W'.cell? ⟨s2, 5, none⟩ = some (.int .i64 3) ∧ W'.rangeAt b1 0 (arenaL AX.w)) (by kernel_rfl) (by kernel_rfl) (by kernel_rfl) (by decide +kernel) (HC.out _ (HS.out.drew.blk 0 rfl) (HS.out.drew.get 1 rfl)) ?_
  intro kne
  simp only [pickAt]
  repeat (first | ((first | (refine wpQuiet_ld _ _ rfl ⟨b1, 9, none⟩ rfl rfl (by decide +kernel) (fun w hC => hC.1) ?_) | (refine wpQuiet_ld _ _ rfl ⟨s2, 11, none⟩ rfl rfl (by decide +kernel) (fun w hC => hC.2.1) ?_)); simp only [Act.put, List.setIfInBounds_toArray, List.set_cons_zero, List.set_cons_succ]) | go_big_quiet_step (fail))
  refine wpQuiet_nil ?_
  clear kne
  replace HS := hide HS.out.drew
  generalize World.drew _ = Wd at *
  refine tree_step [6] (by decide +kernel) rfl (in_one ?_)
  refine tree_op rfl rfl fun K hK => ?_
  refine stw_lit_1_3 HS _ 49 _ rfl Tryz.underlying42 Tryz.infoWrite rfl ?_
  clear HS
  intro W2 bl HS
  refine hK _ _ (InC.mk (HC.out _ (HS.out.blk 1 rfl) (HS.out.get 2 rfl))) ?_
  clear hK K
  (try simp only [Act.put, List.setIfInBounds_toArray, List.set_cons_zero, List.set_cons_succ])
  refine tree_step [7] (by decide +kernel) rfl (in_one ?_)
  refine tree_op rfl rfl fun K hK => ?_
  go_big_op
  refine (sameWrites_lis (q := AX.q 0) (x := X.at 0) (D := fun _ => True) (s := ⟨some ⟨bl, 0, none⟩, 1, 1⟩) (l := [0, 0, 10]) _ ((MachOwn.is (show MachOwn DX _ AX X from HS.out.get 2 rfl)).sess.2.2.2 0 hk0) (HS.out.get 0 rfl).1 xw.out).mono ?_
  rintro e Wq ⟨rfl, q, rfl⟩
  replace HS := hide (HS.out.drawn q)
  generalize World.drewN _ q = Wq at *
  refine hK _ _ (InC.mk (HC.out _ (HS.out.blk 1 rfl) (HS.out.get 2 rfl))) ?_
  clear hK K
  (try simp only [Act.put, List.setIfInBounds_toArray, List.set_cons_zero, List.set_cons_succ])
  refine tree_step [8] (by decide +kernel) rfl (in_one ?_)
  refine tree_op rfl rfl fun K hK => ?_
  go_big_op
  refine hK _ _ (InC.mk (HC.out _ (HS.out.blk 1 rfl) (HS.out.get 2 rfl))) ?_
  clear hK K
  (try simp only [Act.put, List.setIfInBounds_toArray, List.set_cons_zero, List.set_cons_succ])
  obtain ⟨c1, -, c3, -⟩ := HC.out _ (HS.out.blk 1 rfl) (HS.out.get 2 rfl)
  refine tree_step [9] (by decide +kernel) rfl (in_one ?_)
  refine tree_op rfl rfl fun K hK => ?_
  go_big_op
  refine hK _ _ (InC.mk (HC.out _ (HS.out.blk 1 rfl) (HS.out.get 2 rfl))) ?_
  clear hK K
  (try simp only [Act.put, List.setIfInBounds_toArray, List.set_cons_zero, List.set_cons_succ])
  refine tree_step [10] (by decide +kernel) rfl (in_one ?_)
  refine tree_op rfl rfl fun K hK => ?_
  go_big_op
  refine hK _ _ (InC.mk (HC.out _ (HS.out.blk 1 rfl) (HS.out.get 2 rfl))) ?_
  clear hK K
  (try simp only [Act.put, List.setIfInBounds_toArray, List.set_cons_zero, List.set_cons_succ])
  refine tree_step [11] (by decide +kernel) rfl (in_one ?_)
  refine tree_op rfl rfl fun K hK => ?_
  go_big_op
  refine hK _ _ (InC.mk (HC.out _ (HS.out.blk 1 rfl) (HS.out.get 2 rfl))) ?_
  clear hK K
  (try simp only [Act.put, List.setIfInBounds_toArray, List.set_cons_zero, List.set_cons_succ])
  refine tree_step [12] (by decide +kernel) rfl (in_one ?_)
  refine tree_op rfl rfl fun K hK => ?_
  go_big_op
  refine hK _ _ (InC.mk (HC.out _ (HS.out.blk 1 rfl) (HS.out.get 2 rfl))) ?_
  clear hK K
  (try simp only [Act.put, List.setIfInBounds_toArray, List.set_cons_zero, List.set_cons_succ])
  refine tree_step [13] (by decide +kernel) rfl (in_one ?_)
  refine tree_op rfl rfl fun K hK => ?_
  go_big_op
  refine hK _ _ (InC.mk (HC.out _ (HS.out.blk 1 rfl) (HS.out.get 2 rfl))) ?_
  clear hK K
  (try simp only [Act.put, List.setIfInBounds_toArray, List.set_cons_zero, List.set_cons_succ])
  refine tree_step [14] (by decide +kernel) rfl (in_one ?_)
  refine tree_op rfl rfl fun K hK => ?_
  go_big_op
  refine hK _ _ (InC.mk (HC.out _ (HS.out.blk 1 rfl) (HS.out.get 2 rfl))) ?_
  clear hK K
  (try simp only [Act.put, List.setIfInBounds_toArray, List.set_cons_zero, List.set_cons_succ])
  refine tree_step [15] (by decide +kernel) rfl (in_one ?_)
  refine tree_op rfl rfl fun K hK => ?_
  go_big_op
  refine hK _ _ (InC.mk (HC.out _ (HS.out.blk 1 rfl) (HS.out.get 2 rfl))) ?_
  clear hK K
  (try simp only [Act.put, List.setIfInBounds_toArray, List.set_cons_zero, List.set_cons_succ])
  refine tree_step [16] (by decide +kernel) rfl (in_one ?_)
  refine tree_op rfl rfl fun K hK => ?_
  go_big_op
  refine hK _ _ (InC.mk (HC.out _ (HS.out.blk 1 rfl) (HS.out.get 2 rfl))) ?_
  clear hK K
  (try simp only [Act.put, List.setIfInBounds_toArray, List.set_cons_zero, List.set_cons_succ])
  clear c1 c3
  refine tree_x 17 (v := .pointer (some ⟨b1, 0, none⟩)) rfl (by kernel_rfl) (by decide +kernel) rfl (fun w => by kernel_rfl) ?_
  (try simp only [Act.put, List.setIfInBounds_toArray, List.set_cons_zero, List.set_cons_succ])
  refine tree_la 18 _ _ b1 (arenaL AX.w) rfl rfl rfl (by decide +kernel) (by kernel_rfl) (by kernel_rfl) (by decide +kernel) rfl (fun w hC => (InC.out hC).2.2.2) (InC.mk (HC.out _ (HS.out.blk 1 rfl) (HS.out.get 2 rfl))) ?_
  (try simp only [Act.put, List.setIfInBounds_toArray, List.set_cons_zero, List.set_cons_succ])
  refine tree_step [19] (by decide +kernel) rfl (in_one ?_)
  refine tree_op rfl rfl fun K hK => ?_
  go_big_op
  refine (hB.out _).mono ?_
  (rintro e Wq ⟨A4, rfl, hO, hb⟩; have HSq := hide (HS.out.push hb (machI (fun k => _) A4 _) (machI_loc _ _ _) hO fun k hk => hk); generalize (fun k => _) = D4 at HSq; clear HS hb hO; replace HS := HSq; clear HSq)
  refine hK _ _ (InC.mk (HC.out _ (HS.out.blk 2 rfl) (HS.out.get 3 rfl))) ?_
  clear hK K
  (try simp only [Act.put, List.setIfInBounds_toArray, List.set_cons_zero, List.set_cons_succ])
  refine tree_x 20 (v := arenaA A4.w) rfl (by kernel_rfl) (by decide +kernel) rfl (fun w => by kernel_rfl) ?_
  (try simp only [Act.put, List.setIfInBounds_toArray, List.set_cons_zero, List.set_cons_succ])
  refine tree_step [21] (by decide +kernel) rfl (in_one ?_)
  refine tree_op rfl rfl fun K hK => ?_
  go_big_op
  refine (sameArena_yes AX A4 X N _ (MachOwn.is (show MachOwn DX _ AX X from HS.out.get 3 rfl)) (MachOwn.is (show MachOwn D4 _ A4 N from HS.out.get 0 rfl)) xW.out.symm).mono ?_
  (rintro e Wq ⟨rfl, hb⟩; have HSq := hide (HS.out.on hb); clear HS hb; replace HS := HSq; clear HSq)
  refine hK _ _ (InC.mk (HC.out _ (HS.out.blk 2 rfl) (HS.out.get 3 rfl))) ?_
  clear hK K
  (try simp only [Act.put, List.setIfInBounds_toArray, List.set_cons_zero, List.set_cons_succ])
  refine tree_step [22] (by decide +kernel) rfl (in_one ?_)
  refine tree_op rfl rfl fun K hK => ?_
  go_big_op
  refine hK _ _ (InC.mk (HC.out _ (HS.out.blk 2 rfl) (HS.out.get 3 rfl))) ?_
  clear hK K
  (try simp only [Act.put, List.setIfInBounds_toArray, List.set_cons_zero, List.set_cons_succ])
  refine tree_step [23] (by decide +kernel) rfl (in_one ?_)
  refine tree_op rfl rfl fun K hK => ?_
  go_big_op
  refine hK _ _ (InC.mk (HC.out _ (HS.out.blk 2 rfl) (HS.out.get 3 rfl))) ?_
  clear hK K
  (try simp only [Act.put, List.setIfInBounds_toArray, List.set_cons_zero, List.set_cons_succ])
  refine tree_step [24] (by decide +kernel) rfl (in_one ?_)
  refine tree_op rfl rfl fun K hK => ?_
  go_big_op
  refine hK _ _ (InC.mk (HC.out _ (HS.out.blk 2 rfl) (HS.out.get 3 rfl))) ?_
  clear hK K
  (try simp only [Act.put, List.setIfInBounds_toArray, List.set_cons_zero, List.set_cons_succ])
  refine tree_step [25] (by decide +kernel) rfl (in_one ?_)
  refine tree_op rfl rfl fun K hK => ?_
  go_big_op
  refine (num_any _ _).mono ?_
  (rintro e w' ⟨rfl, rfl⟩)
  refine hK _ _ (InC.mk (HC.out _ (HS.out.blk 2 rfl) (HS.out.get 3 rfl))) ?_
  clear hK K
  (try simp only [Act.put, List.setIfInBounds_toArray, List.set_cons_zero, List.set_cons_succ])
  refine tree_step [26] (by decide +kernel) rfl (in_one ?_)
  refine tree_op rfl rfl fun K hK => ?_
  go_big_op
  refine hK _ _ (InC.mk (HC.out _ (HS.out.blk 2 rfl) (HS.out.get 3 rfl))) ?_
  clear hK K
  (try simp only [Act.put, List.setIfInBounds_toArray, List.set_cons_zero, List.set_cons_succ])
  refine tree_step [27] (by decide +kernel) rfl (in_one ?_)
  refine tree_op rfl rfl fun K hK => ?_
  go_big_op
  refine hK _ _ (InC.mk (HC.out _ (HS.out.blk 2 rfl) (HS.out.get 3 rfl))) ?_
  clear hK K
  (try simp only [Act.put, List.setIfInBounds_toArray, List.set_cons_zero, List.set_cons_succ])
  refine tree_step [28] (by decide +kernel) rfl (in_one ?_)
  refine tree_op rfl rfl fun K hK => ?_
  go_big_op
  refine hK _ _ (InC.mk (HC.out _ (HS.out.blk 2 rfl) (HS.out.get 3 rfl))) ?_
  clear hK K
  (try simp only [Act.put, List.setIfInBounds_toArray, List.set_cons_zero, List.set_cons_succ])
  refine tree_step [29] (by decide +kernel) rfl (in_one ?_)
  refine tree_op rfl rfl fun K hK => ?_
  go_big_op
  refine hK _ _ (InC.mk (HC.out _ (HS.out.blk 2 rfl) (HS.out.get 3 rfl))) ?_
  clear hK K
  (try simp only [Act.put, List.setIfInBounds_toArray, List.set_cons_zero, List.set_cons_succ])
  refine tree_step [30] (by decide +kernel) rfl (in_one ?_)
  refine tree_op rfl rfl fun K hK => ?_
  go_big_op
  refine (num_any _ _).mono ?_
  (rintro e w' ⟨rfl, rfl⟩)
  refine hK _ _ (InC.mk (HC.out _ (HS.out.blk 2 rfl) (HS.out.get 3 rfl))) ?_
  clear hK K
  (try simp only [Act.put, List.setIfInBounds_toArray, List.set_cons_zero, List.set_cons_succ])
  refine tree_step [31] (by decide +kernel) rfl (in_one ?_)
  refine tree_op rfl rfl fun K hK => ?_
  go_big_op
  refine hK _ _ (InC.mk (HC.out _ (HS.out.blk 2 rfl) (HS.out.get 3 rfl))) ?_
  clear hK K
  (try simp only [Act.put, List.setIfInBounds_toArray, List.set_cons_zero, List.set_cons_succ])
  refine tree_step [32] (by decide +kernel) rfl (in_one ?_)
  refine tree_op rfl rfl fun K hK => ?_
  go_big_op
  refine hK _ _ (InC.mk (HC.out _ (HS.out.blk 2 rfl) (HS.out.get 3 rfl))) ?_
  clear hK K
  (try simp only [Act.put, List.setIfInBounds_toArray, List.set_cons_zero, List.set_cons_succ])
  refine tree_step [33] (by decide +kernel) rfl (in_one ?_)
  refine tree_op rfl rfl fun K hK => ?_
  go_big_op
  refine hK _ _ (InC.mk (HC.out _ (HS.out.blk 2 rfl) (HS.out.get 3 rfl))) ?_
  clear hK K
  (try simp only [Act.put, List.setIfInBounds_toArray, List.set_cons_zero, List.set_cons_succ])
  refine tree_end (by decide +kernel) ?_
  refine NoPanic.normal ?_
  go_wp2
  go_ret
  exact ⟨rfl, HS.out.below⟩
end Go.Proofs.YtlnenmfippedpaaGreat
