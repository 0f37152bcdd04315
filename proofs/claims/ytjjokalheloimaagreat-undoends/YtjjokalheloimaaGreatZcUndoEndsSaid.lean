/-
  The law UndoEnds.
-/
import Derived.Test.YtjjokalheloimaaGreatZhAwake13
import Derived.Test.YtjjokalheloimaaGreatZlbb
import Derived.Test.YtjjokalheloimaaGreatZlbf
namespace Go.Proofs.YtjjokalheloimaaGreat
open Go.RowKit
set_option linter.unusedSimpArgs false
set_option linter.unusedVariables false
theorem stepP_done {M : PMach} {k : Nat} (hh : hereP M k = true) (h : lz (M.at k).num 3 = 6) : stepP M k = (M, 0) := by
  have e : (M.at k).step = 6 := h
  unfold stepP stepsP
  rw [hh, Int.toNat_natCast, e]
  rfl
set_option maxRecDepth 100000 in
set_option maxHeartbeats 4000000 in
theorem undoEnds_at (A : MacM) (M : PMach) (i r t r0 t0 : Int) (w : World) (h : MachIs w A M) (hr : wrap64 ((IntKind.u64.wrap r).tmod 6) = r0) (ht : bits .and .i64 t 255 = t0) (ur : Hid (upToV r0 5 = true)) (ut : Hid (upToV t0 255 = true)) :
    Calls Tryz.prog 13 #[machA A M, .int .i64 i, .int .i64 r, .int .i64 t] w fun e w' => e = .returned (.bool true) ∧ Below w.heap.size w w' := by
  have hX := hide h.sess.1
  have h4 := hide h.four
  have hT4 : Hid (M.trace.length % 4 = 0) := by
    show _ % 4 = 0
    have := h.trace.1
    omega
  have hE := hide fun (W : World) (hb : Below w.heap.size w W) => undoEnd_any A M i r0 t0 W (h.below hb)
  have hMay := hide fun (W : World) (hb : Below w.heap.size w W) => rmachMay_any A M W (h.below hb)
  have hAw := hide fun (W : World) => awake13_any W
  obtain ⟨V0, hV0⟩ : ∃ V0, V0 = machA A M := ⟨_, rfl⟩
  rw [← hV0]
  have HV : Hid (V0.cells = (machL A M).toArray) := by rw [hV0]; rfl
  clear hV0
  have HM := hide h
  have HS := hide (St.refl w)
  clear h
  go_enter Tryz.func13, Tryz.ntmps13
  go_wp2_with (first | ((with_reducible refine isList ?_); first | (refine st_box HS _ _ rfl rfl (machL A M) HV.out ?_; clear HS; intro W bm HS)))
  refine (hAw.out _).mono ?_
  (rintro e Wq ⟨rfl, hb⟩; have HSq := hide (HS.out.on hb); clear HS hb; replace HS := HSq; clear HSq)
  clear hAw
  go_wp2_with (first | ((with_reducible refine isList ?_); first | (refine st_loadA HS 0 rfl _ _ rfl rfl rfl (by decide +kernel) (by kernel_rfl) ?_)))
  refine (hE.out _ HS.out.below).mono ?_
  clear hE
  cases hh : hereP M i
  case false =>
    rw [endP_no (.inl hh)]
    (rintro e Wq ⟨A2, rfl, hO, hb⟩; have HSq := hide (HS.out.push hb (machI (fun k => _) A2 _) (machI_loc _ _ _) hO fun k hk => hk); generalize (fun k => _) = D2 at HSq; clear HS hb hO; replace HS := HSq; clear HSq)
    go_wp2_with (first | ((with_reducible refine isList ?_); first | (refine st_alloc HS _ rfl rfl zeroML zeroM ?_; clear HS; intro W ba HS) | (refine st_storeA HS 0 rfl _ _ _ rfl rfl rfl _ rfl rfl (by kernel_rfl) rfl ?_; clear HS; intro W HS) | (refine st_loadA HS 0 rfl _ _ rfl rfl rfl (by decide +kernel) (by kernel_rfl) ?_)) | (go_at_call 27; refine (num_any _ _).mono ?_; rintro e w' ⟨rfl, rfl⟩))
    refine (sameMachine_yes A2 noMac noMach _ (MachOwn.is (show MachOwn D2 _ A2 noMach from HS.out.get 1 rfl)) (machIs_none _)).mono ?_
    (rintro e Wq ⟨rfl, hb⟩; have HSq := hide (HS.out.on hb); clear HS hb; replace HS := HSq; clear HSq)
    go_wp2_with (first | ((with_reducible refine isList ?_); first | (refine st_loadA HS 2 rfl _ _ rfl rfl rfl (by decide +kernel) (by kernel_rfl) ?_)))
    refine (hMay.out _ HS.out.below).mono ?_
    (rintro e Wq ⟨rfl, hb⟩; have HSq := hide (HS.out.on hb); clear HS hb; replace HS := HSq; clear HSq)
    have c9 : Wq.cell? ⟨bm, 9, none⟩ = some (.slice A.s.a A.s.n A.s.c) := (HS.out.blk 2 rfl).cell 9 _ rfl
    unfold hereP at hh
    cases hm : machMay M
    · go_wp2
      go_ret
      exact ⟨rfl, HS.out.below⟩
    · rw [hm, Bool.true_and] at hh
      by_cases h0 : i < 0
      · go_wp2
        go_ret
        exact ⟨rfl, HS.out.below⟩
      · have h1 : ¬ i < (A.s.n : Int) := by
          intro h1
          rw [decide_eq_true (by omega : 0 ≤ i), decide_eq_true (by have := hX.out; omega : i < (M.sess.length : Int))] at hh
          cases hh
        clear hh
        go_wp2
        go_ret
        exact ⟨rfl, HS.out.below⟩
  obtain ⟨hm, k, rfl, hk0⟩ := hereP_yes hh
  have hk : k < A.s.n := by have := hX.out; omega
  have h14 : (M.at k).num.length = 14 := (HM.out.sess.2.2.2 k hk).1
  have hh2 := end_here hm h4.out hk0 h14 hT4.out ur.out ut.out
  have hL := endR_loosed h4.out hk0 r0 t0
  have hSt : stepP (endR M k r0 t0) k = (endR M k r0 t0, 0) := stepP_done hh2 (by rw [endR_at hk0, endS_lz h14]; simp)
  have n3 : lz ((endR M k r0 t0).at k).num 3 = 6 := by rw [endR_at hk0, endS_lz h14]; simp
  have n9 : lz ((endR M k r0 t0).at k).num 9 = 0 := by rw [endR_at hk0, endS_lz h14]; simp
  have n10 : lz ((endR M k r0 t0).at k).num 10 = 0 := by rw [endR_at hk0, endS_lz h14]; simp
  have n12 : lz ((endR M k r0 t0).at k).num 12 = r0 := by rw [endR_at hk0, endS_lz h14]; simp
  have n13 : lz ((endR M k r0 t0).at k).num 13 = t0 := by rw [endR_at hk0, endS_lz h14]; simp
  have nr := hL.reads
  have nw := hL.writes
  have nl := hL.len
  rw [endP_ok hh ur.out ut.out]
  clear hL hh hm h14 hh2
  generalize endR M k r0 t0 = N at *
  replace n3 := hide n3; replace n9 := hide n9; replace n10 := hide n10; replace n12 := hide n12; replace n13 := hide n13; replace nr := hide nr; replace nw := hide nw; replace nl := hide nl; replace hSt := hide hSt
  (rintro e Wq ⟨A2, rfl, hO, hb⟩; have HSq := hide (HS.out.push hb (machI (fun k => _) A2 _) (machI_loc _ _ _) hO fun k hk => hk); generalize (fun k => _) = D2 at HSq; clear HS hb hO; replace HS := HSq; clear HSq)
  have hk2 : k < A2.s.n := by
    have := (MachOwn.is (show MachOwn D2 _ A2 N from HS.out.get 0 rfl)).sess.1
    have := nl.out
    omega
  have i1 : (k : Int) < (A.s.n : Int) := by omega
  have i2 : (k : Int) < (A2.s.n : Int) := by omega
  have i3 : ¬ (k : Int) < 0 := by omega
  go_upto_region 7 with (first | ((with_reducible refine isList ?_); first | (refine st_alloc HS _ rfl rfl zeroML zeroM ?_; clear HS; intro W ba HS) | (refine st_storeA HS 0 rfl _ _ _ rfl rfl rfl _ rfl rfl (by kernel_rfl) rfl ?_; clear HS; intro W HS)) | (go_at_call 27; refine (num_any _ _).mono ?_; rintro e w' ⟨rfl, rfl⟩))
  replace HS : Hid (St w W [blkI ba (machL A2 N), machI D2 A2 N, blkI bm (machL A M)]) := HS
  obtain ⟨s2, e2, _⟩ := MachOwn.sblk (show MachOwn D2 _ A2 N from HS.out.get 1 rfl) hk2
  have c9 : W.cell? ⟨ba, 9, none⟩ = some (.slice A2.s.a A2.s.n A2.s.c) := (HS.out.blk 0 rfl).cell 9 _ rfl
  go_upto_region 9 with fail
  clear c9
  go_wp2_with (first | ((with_reducible refine isList ?_); first | (refine st_loadA HS 0 rfl _ _ rfl rfl rfl (by decide +kernel) (by kernel_rfl) ?_)))
  have hS := rstep_any A2 N k W (MachOwn.is (show MachOwn D2 _ A2 N from HS.out.get 1 rfl))
  rw [hSt.out] at hS
  replace hS := hide hS
  refine hS.out.mono ?_
  clear hS
  (rintro e Wq ⟨A3, rfl, hO, hb⟩; have HSq := hide (HS.out.push hb (machI (fun k => _) A3 _) (machI_loc _ _ _) hO fun k hk => hk); generalize (fun k => _) = D3 at HSq; clear HS hb hO; replace HS := HSq; clear HSq)
  go_upto_region 10 with (first | ((with_reducible refine isList ?_); first | (refine st_alloc HS _ rfl rfl zeroML zeroM ?_; clear HS; intro W bb HS) | (refine st_storeA HS 0 rfl _ _ _ rfl rfl rfl _ rfl rfl (by kernel_rfl) rfl ?_; clear HS; intro W HS)))
  replace HS : Hid (St w W [blkI bb (machL A3 N), machI D3 A3 N, blkI ba (machL A2 N), machI D2 A2 N, blkI bm (machL A M)]) := HS
  obtain ⟨c9, hR⟩ := MachOwn.scell (show MachOwn D2 _ A2 N from HS.out.get 3 rfl) (HS.out.blk 2 rfl) rfl e2
  have hl2 : N.sess.length = A2.s.n := (MachOwn.is (show MachOwn D2 _ A2 N from HS.out.get 3 rfl)).sess.1
  rw [hl2] at c9 hR
  replace hR := hide (hR k hk2)
  replace hl2 := hide hl2
  replace e2 := hide e2
  go_upto_region 11 with (first | ((with_reducible refine isList ?_); first | (refine wpList_load_at _ _ rfl rfl s2 (k * 17) rfl (sessOf (A2.q k) (N.at k)) (by decide +kernel) (by kernel_rfl) hR.out ?_) | (refine st_alloc HS _ rfl rfl zeroSL zeroS ?_; clear HS; intro W bs HS) | (refine st_storeA HS 0 rfl _ _ _ rfl rfl rfl _ rfl rfl (by kernel_rfl) rfl ?_; clear HS; intro W HS)))
  replace HS : Hid (St w W [blkI bs (sessL (lz (N.at k).num) (.slice (A2.q k).p.a (A2.q k).p.n (A2.q k).p.c) (.slice (A2.q k).r.a (A2.q k).r.n (A2.q k).r.c) (.slice (A2.q k).t.a (A2.q k).t.n (A2.q k).t.c)), blkI bb (machL A3 N), machI D3 A3 N, blkI ba (machL A2 N), machI D2 A2 N, blkI bm (machL A M)]) := HS
  clear c9
  go_wp2_with (first | ((with_reducible refine isList ?_); first | (refine st_loadA HS 3 rfl _ _ rfl rfl rfl (by decide +kernel) (by kernel_rfl) ?_) | (refine st_loadA HS 1 rfl _ _ rfl rfl rfl (by decide +kernel) (by kernel_rfl) ?_)))
  refine (sameMachine_yes A2 A3 N _ (MachOwn.is (show MachOwn D2 _ A2 N from HS.out.get 4 rfl)) (MachOwn.is (show MachOwn D3 _ A3 N from HS.out.get 2 rfl))).mono ?_
  (rintro e Wq ⟨rfl, hb⟩; have HSq := hide (HS.out.on hb); clear HS hb; replace HS := HSq; clear HSq)
  obtain ⟨_, _, _, _, d4, _, _, _, _, _, d10, d11, d12, d13, _, d15, d16⟩ := (HS.out.blk 0 rfl).sess
  have hs0 := (MachOwn.is (show MachOwn D2 _ A2 N from HS.out.get 4 rfl)).sess.2.2.2 k hk2
  rw [SessIs.rn0 hs0 nr.out] at d10
  rw [SessIs.tn0 hs0 nw.out] at d11
  rw [n3.out] at d4; rw [n9.out] at d12; rw [n10.out] at d13; rw [n12.out] at d15; rw [n13.out] at d16
  clear hs0
  go_wp2
  go_ret
  exact ⟨rfl, HS.out.below⟩
theorem undoEnds_any (A : MacM) (M : PMach) (i r t : Int) (w : World) (h : MachIs w A M) :
    Calls Tryz.prog 13 #[machA A M, .int .i64 i, .int .i64 r, .int .i64 t] w fun e w' => e = .returned (.bool true) ∧ Below w.heap.size w w' := by
  obtain ⟨m, hm, e⟩ := pick_at r 6 (by decide) (by decide)
  exact undoEnds_at A M i r t m (t % 256) w h e (mask255 t) (upToV_of (by omega) (by omega)) (upToV_of (by omega) (by omega))
end Go.Proofs.YtjjokalheloimaaGreat
