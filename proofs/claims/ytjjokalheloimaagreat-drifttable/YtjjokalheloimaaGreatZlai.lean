/-
  Several small texts in one: BegunPure, Begun14.
-/
import Derived.Test.YtjjokalheloimaaGreatZhNewRef
import Derived.Test.YtjjokalheloimaaGreatZhStepRef
import Derived.Test.YtjjokalheloimaaGreatZlah
namespace Go.Proofs.YtjjokalheloimaaGreat
open Go.RowKit
set_option linter.unusedVariables false
def begunS : PScript := ⟨[[5, 6], [7], [], [9]], 9, [⟨[3, 0, 3], [2, 0, 0, 0, 1, 0, 0, 0, 3, 0, 0, 0]⟩, ⟨[5, 1, 1], [2, 0, 0, 1, 3, 0, 1, 0]⟩], []⟩
def begunM : PMach := initM begunS
theorem newP_begun : newP begunS = (begunM, 0) := newP_yes (by decide +kernel)
/-- So many steps of session i. -/
def stepM (M : PMach) (i : Int) : Nat → PMach
  | 0 => M
  | n + 1 => (stepP (stepM M i n) i).1
theorem slIs_blk {W : World} {b k n : Nat} {L : List Int} (h : Blk W b (L.map (Value.int .i64))) (hl : L.length = n * k) (hf : n * (8 * k) ≤ 140737488351232) : SlIs W k ⟨some ⟨b, 0, none⟩, n, n⟩ L :=
  ⟨hl, ⟨hf, Nat.le_refl _, fun h => by cases h⟩, fun i hi => ⟨b, 0, rfl, h.lt, by
    rw [Nat.zero_add]
    have hi' : i < L.length := by rw [hl]; exact hi
    refine h.cell i _ ?_
    simp [lz, List.getD, hi']⟩⟩
/-- Two Starts, in a block. -/
theorem staIs_two {W : World} {b : Nat} {p0 p1 : Sl} {x y : PStart} (h : Blk W b (startOf p0 x ++ startOf p1 y)) (hx : x.num.length = 3) (hy : y.num.length = 3) (h0 : SlIs W 4 p0 x.prog) (h1 : SlIs W 4 p1 y.prog) :
    StaIs W ⟨some ⟨b, 0, none⟩, 2, 2⟩ (fun i => if i = 0 then p0 else p1) [x, y] :=
  ⟨rfl, ⟨by show 2 * 48 ≤ _; decide, Nat.le_refl _, fun h => by cases h⟩, fun j hj => ⟨b, 0, rfl, h.lt, by
    rw [Nat.zero_add]
    refine h.cell j _ ?_
    have hj : j < 8 := hj
    match j, hj with
    | 0, _ => rfl
    | 1, _ => rfl
    | 2, _ => rfl
    | 3, _ => rfl
    | 4, _ => rfl
    | 5, _ => rfl
    | 6, _ => rfl
    | 7, _ => rfl⟩, fun i hi => by
    have hi : i < 2 := hi
    match i, hi with
    | 0, _ => exact ⟨hx, h0⟩
    | 1, _ => exact ⟨hy, h1⟩⟩
end Go.Proofs.YtjjokalheloimaaGreat
namespace Go.Proofs.YtjjokalheloimaaGreat
open Go.RowKit
set_option linter.unusedSimpArgs false
set_option linter.unusedVariables false
set_option maxRecDepth 100000 in
set_option maxHeartbeats 4000000 in
theorem begun14_any (w : World) :
    Calls Tryz.prog 50 #[] w fun e w' => ∃ A', e = .returned (machA A' begunM) ∧ MachOwn (fun k => w.heap.size ≤ k ∧ k < w'.heap.size) w' A' begunM ∧ Below w.heap.size w w' := by
  have HS0 := ((((((((St.refl w).alloc [.slice none 0 0, .slice none 0 0, .slice none 0 0, .slice none 0 0, .int .i64 0, .int .i64 0, .int .i64 0, .int .i64 0, .int .i64 0, .slice none 0 0, .slice none 0 0] 34).alloc [.int .i64 5, .int .i64 6] 3).alloc [.int .i64 7] 3).alloc [.int .i64 9] 3).alloc [.int .i64 2, .int .i64 0, .int .i64 0, .int .i64 0, .int .i64 1, .int .i64 0, .int .i64 0, .int .i64 0, .int .i64 3, .int .i64 0, .int .i64 0, .int .i64 0] 62).alloc [.int .i64 2, .int .i64 0, .int .i64 0, .int .i64 1, .int .i64 3, .int .i64 0, .int .i64 1, .int .i64 0] 62).alloc [.int .i64 3, .int .i64 0, .int .i64 3, .slice (some ⟨w.heap.size + 1 + 1 + 1 + 1, 0, none⟩) 3 3, .int .i64 5, .int .i64 1, .int .i64 1, .slice (some ⟨w.heap.size + 1 + 1 + 1 + 1 + 1, 0, none⟩) 2 2] 64)
  simp only [World.size_alloc] at HS0
  have hIs := (show ScrIs _ ⟨fourSl ⟨some ⟨w.heap.size + 1, 0, none⟩, 2, 2⟩ ⟨some ⟨w.heap.size + 1 + 1, 0, none⟩, 1, 1⟩ noSl ⟨some ⟨w.heap.size + 1 + 1 + 1, 0, none⟩, 1, 1⟩, ⟨some ⟨w.heap.size + 1 + 1 + 1 + 1 + 1 + 1, 0, none⟩, 2, 2⟩, (fun i => if i = 0 then ⟨some ⟨w.heap.size + 1 + 1 + 1 + 1, 0, none⟩, 3, 3⟩ else ⟨some ⟨w.heap.size + 1 + 1 + 1 + 1 + 1, 0, none⟩, 2, 2⟩), noSl⟩ begunS from
    ⟨rfl, fun g hg => (match g, hg with
      | 0, _ => slIs_blk (HS0.blk 5 rfl) rfl (by decide)
      | 1, _ => slIs_blk (HS0.blk 4 rfl) rfl (by decide)
      | 2, _ => slIs_none _ 1
      | 3, _ => slIs_blk (HS0.blk 3 rfl) rfl (by decide)), staIs_two (HS0.blk 0 rfl) rfl rfl (slIs_blk (HS0.blk 2 rfl) rfl (by decide)) (slIs_blk (HS0.blk 1 rfl) rfl (by decide)), slIs_none _ 2⟩)
  have hN := rnewMach_any _ begunS _ hIs (by show 2 * 184 ≤ _; decide)
  rw [newP_begun] at hN
  have HS := hide HS0
  replace hN := hide hN
  clear hIs HS0
  go_enter Tryz.func50, Tryz.ntmps50
  go_wp2_with fail
  refine hN.out.mono ?_
  (rintro e Wq ⟨A1, rfl, hO, hb⟩; have HSq := hide (HS.out.push hb (machI (fun k => _) A1 _) (machI_loc _ _ _) hO fun k hk => hk); generalize (fun k => _) = D1 at HSq; clear HS hb hO; replace HS := HSq; clear HSq)
  clear hN
  go_wp2_with (first | ((with_reducible refine isList ?_); first | (refine st_alloc HS _ rfl rfl zeroML zeroM ?_; clear HS; intro W bq HS) | (refine st_storeA HS 0 rfl _ _ _ rfl rfl rfl _ rfl rfl (by kernel_rfl) rfl ?_; clear HS; intro W HS) | (refine st_loadA HS 0 rfl _ _ rfl rfl rfl (by decide +kernel) (by kernel_rfl) ?_) | (refine st_storeA HS 8 rfl _ _ _ rfl rfl rfl _ rfl rfl (by kernel_rfl) rfl ?_; clear HS; intro W HS)))
  refine bodyPost_ret (ret_mach Tryz.results50 (HS.out.blk 8 rfl) rfl rfl) rfl ⟨A1, rfl, ?_, HS.out.below⟩
  exact (show MachOwn D1 _ A1 begunM from HS.out.get 1 rfl).mono (HS.out.here 1 _ rfl).2.2
set_option maxRecDepth 100000 in
set_option maxHeartbeats 4000000 in
theorem stepped14_any (i : Int) (n : Nat) (hn : n ≤ 1000) (w : World) :
    Calls Tryz.prog 52 #[.int .i64 i, .int .i64 n] w fun e w' => ∃ A', e = .returned (machA A' (stepM begunM i n)) ∧ MachOwn (fun k => w.heap.size ≤ k ∧ k < w'.heap.size) w' A' (stepM begunM i n) ∧ Below w.heap.size w w' := by
  have HS := hide (St.refl w)
  have hB := hide fun (W : World) => begun14_any W
  have hP := hide fun (A : MacM) (M : PMach) (W : World) (h : MachIs W A M) => rstep_any A M i W h
  go_enter Tryz.func52, Tryz.ntmps52
  go_wp2_with (first | ((with_reducible refine isList ?_); first | (refine st_alloc HS _ rfl rfl zeroML zeroM ?_; clear HS; intro W b0 HS)))
  refine (hB.out _).mono ?_
  (rintro e Wq ⟨A1, rfl, hO, hb⟩; have HSq := hide (HS.out.push hb (machI (fun k => _) A1 _) (machI_loc _ _ _) hO fun k hk => hk); generalize (fun k => _) = D1 at HSq; clear HS hb hO; replace HS := HSq; clear HSq)
  clear hB
  go_wp2_with (first | ((with_reducible refine isList ?_); first | (refine st_alloc HS _ rfl rfl zeroML zeroM ?_; clear HS; intro W b5 HS) | (refine st_storeA HS 0 rfl _ _ _ rfl rfl rfl _ rfl rfl (by kernel_rfl) rfl ?_; clear HS; intro W HS)))
  replace HS : Hid (St w W [blkI b5 (machL A1 begunM), machI D1 A1 begunM, blkI b0 zeroML]) := HS
  go_loopw [6] (fun j wr => ∃ (k : Nat) (D : Nat → Prop) (B : MacM), k ≤ n ∧ j = .int .i64 k ∧ Hid (St w wr [blkI b5 (machL B (stepM begunM i k)), machI D B (stepM begunM i k), blkI b0 zeroML])) (fun j _ => n - (intOf j).toNat)
  case atStart => exact ⟨0, D1, A1, Nat.zero_le _, rfl, HS⟩
  case round =>
    clear HS
    obtain ⟨k, D, B, hk, rfl, HS⟩ := hrel
    by_cases hlt : k < n
    · have i1 : (k : Int) < (n : Int) := by omega
      go_wp2_with (first | ((with_reducible refine isList ?_); first | (refine st_loadA HS 0 rfl _ _ rfl rfl rfl (by decide +kernel) (by kernel_rfl) ?_)))
      refine (hP.out B _ _ (MachOwn.is (show MachOwn D _ B (stepM begunM i k) from HS.out.get 1 rfl))).mono ?_
      (rintro e Wq ⟨B2, rfl, hO, hb⟩; have HSq := hide (HS.out.push hb (machI (fun k => _) B2 _) (machI_loc _ _ _) hO fun k hk => hk); generalize (fun k => _) = D2 at HSq; clear HS hb hO; replace HS := HSq; clear HSq)
      go_wp2_with (first | ((with_reducible refine isList ?_); first | (refine st_storeA HS 1 rfl _ _ _ rfl rfl rfl _ rfl rfl (by kernel_rfl) rfl ?_; clear HS; intro W HS)))
      replace HS : Hid (St w W [machI D2 B2 (stepM begunM i (k + 1)), blkI b5 (machL B2 (stepM begunM i (k + 1))), machI D B (stepM begunM i k), blkI b0 zeroML]) := HS
      replace HS : Hid (St w W [blkI b5 (machL B2 (stepM begunM i (k + 1))), machI D2 B2 (stepM begunM i (k + 1)), blkI b0 zeroML]) := hide (HS.out.sel [1, 0, 3] (by decide) rfl)
      go_roundw
      case rel =>
        first
          | exact ⟨k + 1, D2, B2, by omega, by go_num, HS⟩
          | (repeat apply Exists.intro
             exact ⟨⟨k + 1, D2, B2, by omega, by go_num, HS⟩, rfl⟩)
      case measure => simp [intOf]; omega
    · obtain rfl : k = n := by omega
      go_wp2_with (first | ((with_reducible refine isList ?_); first | (refine st_loadA HS 0 rfl _ _ rfl rfl rfl (by decide +kernel) (by kernel_rfl) ?_) | (refine st_storeA HS 2 rfl _ _ _ rfl rfl rfl _ rfl rfl (by kernel_rfl) rfl ?_; clear HS; intro W HS)))
      refine bodyPost_ret (ret_mach Tryz.results52 (HS.out.blk 2 rfl) rfl rfl) rfl ⟨B, rfl, ?_, HS.out.below⟩
      exact (show MachOwn D _ B (stepM begunM i k) from HS.out.get 1 rfl).mono (HS.out.here 1 _ rfl).2.2
end Go.Proofs.YtjjokalheloimaaGreat
