/-
  The law FetchOwn.
-/
import Derived.Test.YtaaenolbfhhnfaaGreatZhFetchOwnPure
import Derived.Test.YtaaenolbfhhnfaaGreatZlbc
import Derived.Test.YtaaenolbfhhnfaaGreatZlcb
import Derived.Test.YtaaenolbfhhnfaaGreatZlab
namespace Go.Proofs.YtaaenolbfhhnfaaGreat
open Go.RowKit
set_option linter.unusedSimpArgs false
set_option linter.unusedVariables false
set_option maxRecDepth 100000 in
set_option maxHeartbeats 4000000 in
theorem fetchOwn_way (a0 v : Int) (b : Bool) (w : World) (hd : bits .and .i64 a0 255 = v) (v0 : 0 ≤ v) (v1 : v ≤ 255) :
    Calls Tryz.prog 10 #[.int .i64 a0, .bool b] w fun e w' => e = .returned (.bool true) ∧ Below w.heap.size w w' := by
  have HS := hide (St.refl w)
  have hAw := hide fun (W : World) => awake15_any W
  have hB := hide fun (W : World) => begun15_any W
  have sN : Hid (begunM.sess.length = 2) := by show _ = 2; decide +kernel
  obtain ⟨X, hX, sX, x5, xr, x4, x11, xw, xt⟩ := own_get v0 v1 b
  have hE := hide fun (A : MacM) (W : World) (h : MachIs W A (bif b then ownL v else ownM v)) => fetchStep_any A (bif b then ownL v else ownM v) 0 W h
  rw [hX] at hE
  have eM : Hid (ownM v = begunM.setS 0 ((begunM.at 0).setL 2 [0, 0, v])) := rfl
  have eL : Hid (ownL v = (ownM v).setLv 0 (((ownM v).lv 0).set 2 6)) := rfl
  have lM : Hid (((ownM v).lv 0).length = 2 * 3) := by show (begunM.lv 0).length = 6; decide +kernel
  generalize ownM v = OM at *
  generalize ownL v = OL at *
  generalize begunM = N at *
  clear hX
  replace sX := hide sX; replace x5 := hide x5; replace xr := hide xr; replace x4 := hide x4; replace x11 := hide x11; replace xw := hide xw; replace xt := hide xt
  go_enter Tryz.func10, Tryz.ntmps10
  go_wp2_with fail
  refine (hAw.out _).mono ?_
  (rintro e Wq ⟨rfl, hb⟩; have HSq := hide (HS.out.on hb); clear HS hb; replace HS := HSq; clear HSq)
  clear hAw
  go_wp2_with fail
  refine (hB.out _).mono ?_
  (rintro e Wq ⟨A1, rfl, hO, hb⟩; have HSq := hide (HS.out.push hb (machI (fun k => _) A1 _) (machI_loc _ _ _) hO fun k hk => hk); generalize (fun k => _) = D1 at HSq; clear HS hb hO; replace HS := HSq; clear HSq)
  clear hB
  have hk1 : 0 < A1.s.n := by
    have := (MachOwn.is (show MachOwn D1 _ A1 N from HS.out.get 0 rfl)).sess.1
    have := sN.out; omega
  have i1 : (0 : Int) < (A1.s.n : Int) := by omega
  obtain ⟨bs1, hbs1, _⟩ := MachOwn.sblk (show MachOwn D1 _ A1 N from HS.out.get 0 rfl) hk1
  go_upto_region 5 with (first | ((with_reducible refine isList ?_); first | (refine st_alloc HS _ rfl rfl zeroML zeroM ?_; clear HS; intro W b5 HS) | (refine st_storeA HS 0 rfl _ _ _ rfl rfl rfl _ rfl rfl (by kernel_rfl) rfl ?_; clear HS; intro W HS)))
  replace HS : Hid (St w W [blkI b5 (machL A1 N), machI D1 A1 N]) := HS
  go_upto_region 6 with (first | ((with_reducible refine isList ?_); first | (refine st_load1 HS 0 rfl _ _ rfl _ rfl rfl (by decide +kernel) rfl ?_) | (refine st_lit_1_3 HS _ 68 _ rfl rfl Tryz.underlying57 Tryz.infoT rfl ?_; clear HS; intro W bl HS) | (refine st_storeL HS 2 0 rfl 2 (by decide) rfl (by decide) hk1 hbs1 _ _ _ rfl _ rfl rfl rfl rfl (by decide +kernel) ?_; clear HS; intro W HS)))
  replace HS : Hid (St w W [blkI b5 (machL (A1.setQ 0 ((A1.q 0).setL 2 ⟨some ⟨bl, 0, none⟩, 1, 1⟩)) (N.setS 0 ((N.at 0).setL 2 [0, 0, v]))), machI (fun k => D1 k ∨ k = bl) (A1.setQ 0 ((A1.q 0).setL 2 ⟨some ⟨bl, 0, none⟩, 1, 1⟩)) (N.setS 0 ((N.at 0).setL 2 [0, 0, v]))]) := hide (HS.out.sel [1, 2] (by decide) rfl)
  rw [← eM.out] at HS
  clear hk1 i1 hbs1 eM
  generalize (fun k => D1 k ∨ k = bl) = D2 at HS
  generalize A1.setQ 0 ((A1.q 0).setL 2 ⟨some ⟨bl, 0, none⟩, 1, 1⟩) = A2 at HS
  cases b
  case' true =>
    obtain ⟨n0, g⟩ := MachOwn.wfact (show MachOwn D2 _ A2 OM from HS.out.get 1 rfl) (g := 0) (m := 2) (by decide) lM.out
    obtain ⟨w0, e0, _⟩ := g (by decide)
    clear g
    have i0 : (0 : Int) < ((A2.w 0).n : Int) := by omega
    have i2 : 2 < (A2.w 0).n * 3 := by omega
    replace n0 := hide n0
    go_upto_region 8 with (first | ((with_reducible refine isList ?_); first | (refine st_load1 HS 0 rfl _ _ rfl _ rfl rfl (by decide +kernel) rfl ?_) | (refine st_storeW HS 1 rfl (g := 0) (c := 2) (by decide) i2 e0 _ _ _ rfl rfl rfl rfl (by decide +kernel) ?_; clear HS; intro W HS)))
    clear e0 i0
    replace HS : Hid (St w W [blkI b5 (machL A2 (OM.setLv 0 ((OM.lv 0).set 2 6))), machI D2 A2 (OM.setLv 0 ((OM.lv 0).set 2 6))]) := HS
    rw [← eL.out] at HS
    replace hE : Hid (∀ (A : MacM) (W : World), MachIs W A OL → Calls Tryz.prog 33 #[machA A OL, .int .i64 0] W (MRet W (X, 0))) := hE
    replace xw : Hid (X.words = OL.words) := xw
    clear eL lM
    generalize OL = O at *
  case' false =>
    go_upto_region 8 with fail
    replace hE : Hid (∀ (A : MacM) (W : World), MachIs W A OM → Calls Tryz.prog 33 #[machA A OM, .int .i64 0] W (MRet W (X, 0))) := hE
    replace xw : Hid (X.words = OM.words) := xw
    clear eL lM
    generalize OM = O at *
  all_goals
    go_wp2_with (first | ((with_reducible refine isList ?_); first | (refine st_loadA HS 0 rfl _ _ rfl rfl rfl (by decide +kernel) (by kernel_rfl) ?_)))
    refine (hE.out A2 _ (MachOwn.is (show MachOwn D2 _ A2 O from HS.out.get 1 rfl))).mono ?_
    (rintro e Wq ⟨AX, rfl, hO, hb⟩; have HSq := hide (HS.out.push hb (machI (fun k => _) AX _) (machI_loc _ _ _) hO fun k hk => hk); generalize (fun k => _) = DX at HSq; clear HS hb hO; replace HS := HSq; clear HSq)
    clear hE
    go_upto_region 9 with (first | ((with_reducible refine isList ?_); first | (refine st_alloc HS _ rfl rfl zeroML zeroM ?_; clear HS; intro W b7 HS) | (refine st_storeA HS 0 rfl _ _ _ rfl rfl rfl _ rfl rfl (by kernel_rfl) rfl ?_; clear HS; intro W HS)))
    replace HS : Hid (St w W [blkI b7 (machL AX X), machI DX AX X, blkI b5 (machL A2 O), machI D2 A2 O]) := HS
    obtain ⟨nX, g⟩ := MachOwn.sfact (show MachOwn DX _ AX X from HS.out.get 1 rfl) sX.out
    obtain ⟨s7, e7, r7⟩ := g (by decide)
    clear g
    replace r7 := hide (r7 0 (by decide))
    have nr : Hid ((AX.q 0).r.n = 0) := by
      have := ((MachOwn.is (show MachOwn DX _ AX X from HS.out.get 1 rfl)).sess.2.2.2 0 (by omega)).2.2.1.1
      have h2 := xr.out
      unfold PMach.at at h2
      show _ = 0
      omega
    obtain ⟨c9, _⟩ := MachOwn.scell (show MachOwn DX _ AX X from HS.out.get 1 rfl) (HS.out.blk 0 rfl) sX.out e7
    replace nX := hide nX; replace e7 := hide e7
    go_upto_region 12 with (first | ((with_reducible refine isList ?_); first | (refine wpList_load_at _ _ rfl rfl s7 (0 * 17) rfl (sessOf (AX.q 0) (X.at 0)) (by decide +kernel) (by kernel_rfl) r7.out ?_) | (refine st_alloc HS _ rfl rfl zeroSL zeroS ?_; clear HS; intro W b9 HS) | (refine st_storeA HS 0 rfl _ _ _ rfl rfl rfl _ rfl rfl (by kernel_rfl) rfl ?_; clear HS; intro W HS)))
    replace HS : Hid (St w W [blkI b9 (sessL (lz (X.at 0).num) (.slice (AX.q 0).p.a (AX.q 0).p.n (AX.q 0).p.c) (.slice (AX.q 0).r.a (AX.q 0).r.n (AX.q 0).r.c) (.slice (AX.q 0).t.a (AX.q 0).t.n (AX.q 0).t.c)), blkI b7 (machL AX X), machI DX AX X, blkI b5 (machL A2 O), machI D2 A2 O]) := HS
    clear c9 r7
    obtain ⟨-, -, -, -, -, d5, d6, -, -, -, d10, -, -, -, d14, -, -⟩ := (HS.out.blk 0 rfl).sess
    rw [x4.out] at d5
    rw [x5.out] at d6
    rw [nr.out] at d10
    rw [x11.out] at d14
    go_wp2_with (first | ((with_reducible refine isList ?_); first | (refine st_loadR HS 1 rfl _ _ rfl _ rfl rfl (by decide +kernel) (arenaL AX.w) [.int .i64 (lz X.clocks 0), .int .i64 (lz X.clocks 1), .int .i64 (lz X.clocks 2), .int .i64 (lz X.clocks 3), .int .i64 X.ceil, .slice AX.s.a AX.s.n AX.s.c, .slice AX.e.a AX.e.n AX.e.c] (by kernel_rfl) rfl ?_) | (refine st_loadR HS 3 rfl _ _ rfl _ rfl rfl (by decide +kernel) (arenaL A2.w) [.int .i64 (lz O.clocks 0), .int .i64 (lz O.clocks 1), .int .i64 (lz O.clocks 2), .int .i64 (lz O.clocks 3), .int .i64 O.ceil, .slice A2.s.a A2.s.n A2.s.c, .slice A2.e.a A2.e.n A2.e.c] (by kernel_rfl) rfl ?_)) | (go_at_call 21; refine (num_any _ _).mono ?_; rintro e w' ⟨rfl, rfl⟩))
    refine (sameArena_yes AX A2 X O _ (MachOwn.is (show MachOwn DX _ AX X from HS.out.get 2 rfl)) (MachOwn.is (show MachOwn D2 _ A2 O from HS.out.get 4 rfl)) xw.out.symm).mono ?_
    (rintro e Wq ⟨rfl, hb⟩; have HSq := hide (HS.out.on hb); clear HS hb; replace HS := HSq; clear HSq)
    clear d5 d6 d10 d14
    have hT := (MachOwn.is (show MachOwn DX _ AX X from HS.out.get 2 rfl)).trace
    have nT : AX.e.n = 1 := by have := hT.1; rw [xt.out] at this; simp at this; omega
    have c10 : Wq.cell? ⟨b7, 10, none⟩ = some (.slice AX.e.a 1 AX.e.c) := by rw [← nT]; exact (HS.out.blk 1 rfl).cell 10 _ rfl
    clear hT
    replace nT := hide nT
    go_wp2_with fail
    clear c10
    replace HS := hide (HS.out.alloc [.int .i64 3, .int .i64 0, .int .i64 0, .int .i64 v] 70)
    have hT := (MachOwn.is (show MachOwn DX _ AX X from HS.out.get 3 rfl)).trace
    have hV := sameEvents_any AX.e.a (some ⟨Wq.heap.size, 0, none⟩) AX.e.n AX.e.c 1 1 (lz X.trace) (lz [3, 0, 0, v]) _ (by rw [nT.out]; decide) hT.2.2 (slIs_blk (L := [3, 0, 0, v]) (n := 1) (k := 4) (HS.out.blk 0 rfl) rfl (by decide)).2.2
    rw [nT.out, xt.out] at hV
    rw [show (decide (1 = 1) && eqTo (lz [3, 0, 0, v]) (lz [3, 0, 0, v]) (1 * 4)) = true by rw [eqTo_mk fun _ _ => rfl]; rfl] at hV
    replace hV := hide hV
    clear hT
    refine hV.out.mono ?_
    rintro e Wq ⟨rfl, q, rfl⟩
    replace HS := hide (HS.out.drawn q)
    clear hV
    generalize World.drewN _ _ = Wd at *
    go_wp2
    go_ret
    exact ⟨rfl, HS.out.below⟩
theorem fetchOwn_any (a0 : Int) (b : Bool) (w : World) :
    Calls Tryz.prog 10 #[.int .i64 a0, .bool b] w fun e w' => e = .returned (.bool true) ∧ Below w.heap.size w w' :=
  fetchOwn_way a0 _ b w (mask255 a0) (by omega) (by omega)
end Go.Proofs.YtaaenolbfhhnfaaGreat
