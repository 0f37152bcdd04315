/-
  The law StoreLast.
-/
import Derived.Test.YtlnenmfippedpaaGreatZlai
import Derived.Test.YtlnenmfippedpaaGreatZlbg
import Derived.Test.YtlnenmfippedpaaGreatZlbh
import Derived.Test.YtlnenmfippedpaaGreatZlbi
import Derived.Test.YtlnenmfippedpaaGreatZlab
namespace Go.Proofs.YtlnenmfippedpaaGreat
open Go.RowKit
set_option linter.unusedSimpArgs false
set_option linter.unusedVariables false
theorem field_sess1 (v0 v1 v2 v3 v4 v5 v6 v7 v8 v9 v10 : Value) (W : World) : Sem.run Tryz.prog (Instr.field 28 (.agg #[v0, v1, v2, v3, v4, v5, v6, v7, v8, v9, v10]) 3) W = .ok v9 W := by
  kernel_rfl
theorem regs_zero {a : Nat} (ha : a < 4) : 6 + a = 0 * 17 + posN (5 + a) := by
  have : a = 0 ∨ a = 1 ∨ a = 2 ∨ a = 3 := by omega
  rcases this with rfl | rfl | rfl | rfl <;> rfl
theorem last_many {A : MacM} {M : PMach} {w : World} {k j : Nat} {v : Int} (h : LastI k M j v) (hA : MachIs w A M) : A.e.n = j := by
  have h1 : M.trace.length = A.e.n * 4 := hA.trace.1
  have h2 := h.trace
  omega
set_option maxRecDepth 100000 in
set_option maxHeartbeats 4000000 in
theorem storeLast_at (a : Option Addr) (n c k : Nat) (z : Nat → Int) (G : Nat → Int) (w : World) (hn : n * 8 ≤ 140737488351232) (hr : Row w a n fun i => .int .i64 (z i)) (hk : k = min n 8) (hG : Hid (∀ j, bits .and .i64 (z j) 255 = G j ∧ 0 ≤ G j ∧ G j ≤ 255)) :
    Calls Tryz.prog 6 #[.slice a n c] w fun e w' => e = .returned (.bool true) ∧ Below w.heap.size w w' := by
  have HS := hide (St.refl w)
  have hRow := hide fun (W : World) (hb : Below w.heap.size w W) => hr.below hb (Nat.le_refl _)
  have hAw := hide fun (W : World) => awake16_any W
  have hB := hide fun (W : World) => begun16_any W
  have hP := hide fun (W : World) => stepped16_any 0 0 (by decide) W
  have sN : Hid ((stepM begunM 0 0).sess.length = 2) := by show _ = 2; decide +kernel
  have hk8 : k ≤ 8 := by omega
  have hkn : k ≤ n := by omega
  have hBeg := hide (last_begin hk8)
  have lN : Hid (begunM.sess.length = 2) := by show _ = 2; decide +kernel
  have eO : Hid (lastM k = begunM.setS 0 ((begunM.at 0).setL 0 (lastL k))) := rfl
  clear hr
  replace hk := hide hk
  generalize stepM begunM 0 0 = Z at hP sN
  generalize lastM k = O at eO hBeg
  generalize begunM = N at hB eO lN
  go_enter Tryz.func6, Tryz.ntmps6
  go_wp2_with fail
  refine (hAw.out _).mono ?_
  (rintro e Wq ⟨rfl, hb⟩; have HSq := hide (HS.out.on hb); clear HS hb; replace HS := HSq; clear HSq)
  clear hAw
  go_wp2_with fail
  refine (hB.out _).mono ?_
  (rintro e Wq ⟨A2, rfl, hO, hb⟩; have HSq := hide (HS.out.push hb (machI (fun k => _) A2 _) (machI_loc _ _ _) hO fun k hk => hk); generalize (fun k => _) = D2 at HSq; clear HS hb hO; replace HS := HSq; clear HSq)
  clear hB
  go_upto_region 4 with (first | ((with_reducible refine isList ?_); first | (refine st_alloc HS _ rfl rfl zeroML zeroM ?_; clear HS; intro W b3 HS) | (refine st_storeA HS 0 rfl _ _ _ rfl rfl rfl _ rfl rfl (by kernel_rfl) rfl ?_; clear HS; intro W HS)))
  replace HS : Hid (St w W [blkI b3 (machL A2 N), machI D2 A2 N]) := HS
  by_cases hn0 : n = 0
  · subst hn0
    go_wp2
    go_ret
    exact ⟨rfl, HS.out.below⟩
  have i0 : ¬ (n : Int) = 0 := by omega
  have i1 : ((n : Int) == 0) = false := by rw [beq_eq_false_iff_ne]; omega
  have hk0 : 0 < k := by have := hk.out; omega
  have hk1 : 0 < A2.s.n := by
    have := (MachOwn.is (show MachOwn D2 _ A2 N from HS.out.get 1 rfl)).sess.1
    have := lN.out; omega
  have hki : (0 : Int) < (A2.s.n : Int) := by omega
  obtain ⟨bs1, hbs1, _⟩ := MachOwn.sblk (show MachOwn D2 _ A2 N from HS.out.get 1 rfl) hk1
  replace hk1 := hide hk1; replace hki := hide hki; replace hbs1 := hide hbs1
  go_upto_region 7 with fail
  have hif : ∀ inst : Decidable ((8 : Int) < (n : Int)), @ite Int ((8 : Int) < (n : Int)) inst 8 (n : Int) = (k : Int) := fun inst => by have := hk.out; split <;> omega
  have hif2 : ∀ inst : Decidable ((n : Int) ≤ 8), @ite Int ((n : Int) ≤ 8) inst (n : Int) 8 = (k : Int) := fun inst => by have := hk.out; split <;> omega
  go_upto_region 8 with fail
  clear hif hif2
  go_upto_region 10 with fail
  replace HS := hide (slI_nil w W _ 47 4 HS.out)
  go_loopw [5, 6] (fun p i wr => ∃ (j : Nat) (D : Nat → Prop) (s : Sl), j ≤ k ∧ i = .int .i64 j ∧ p = .slice s.a s.n s.c ∧ Hid (s.n = j) ∧ Hid (St w wr [slI D 47 4 s (lastL j), blkI b3 (machL A2 N), machI D2 A2 N])) (fun _ i _ => k - (intOf i).toNat)
  case atStart => exact ⟨0, _, noSl, Nat.zero_le _, rfl, rfl, rfl, HS⟩
  case round =>
    clear HS
    obtain ⟨j, D3, s, hj, rfl, rfl, hsn, HS⟩ := hrel
    by_cases hlt : j < k
    · have i2 : (j : Int) < (k : Int) := by omega
      have hs512 : s.n < 512 := by have := hsn.out; omega
      obtain ⟨m, hm⟩ : ∃ m, m = bits .and .i64 (j : Int) 3 := ⟨_, rfl⟩
      have hr1 : Hid (lastL (j + 1) = lastL j ++ [3, m, 0, 0]) := by
        show lastL j ++ [3, ((j % 4 : Nat) : Int), 0, 0] = _
        rw [hm, mask3]
        congr 2
      have hmb := hm.symm
      replace hm := hide hm
      generalize lastL j = rl at *
      go_upto_region 12 with fail
      go_upto_region 11 with (first | ((with_reducible refine isList ?_); first | (refine st_litB HS _ 47 1 _ rfl rfl Tryz.underlying40 Tryz.infoI (by decide) (by decide) [(0, .agg #[.int .i64 3, .int .i64 m, .int .i64 0, .int .i64 0])] rfl _ (fill_i1 3 m 0 0) ?_; clear HS; intro W bl HS) | (refine st_app1 (k := 4) (x := [3, m, 0, 0]) HS 1 (fun q u hq => (show Blk _ bl [.int .i64 3, .int .i64 m, .int .i64 0, .int .i64 0] from HS.out.get 0 rfl).cell q u hq) rfl rfl hs512 rfl _ _ _ rfl _ _ Tryz.underlying40 Tryz.infoI rfl (by decide) (by decide) rfl rfl rfl ?_; clear HS; intro W D4 g4 c4 HS)))
      replace HS : Hid (St w W [slI D4 47 4 ⟨some ⟨g4, 0, none⟩, s.n + 1, c4⟩ (rl ++ [3, m, 0, 0]), blkI b3 (machL A2 N), machI D2 A2 N]) := hide HS.out.tail
      rw [← hr1.out] at HS
      go_wp2
      go_roundw
      case rel =>
        first
          | exact ⟨j + 1, D4, ⟨some ⟨g4, 0, none⟩, s.n + 1, c4⟩, by omega, by go_num, rfl, by show _ = _; have := hsn.out; show s.n + 1 = j + 1; omega, HS⟩
          | (repeat apply Exists.intro
             exact ⟨⟨j + 1, D4, ⟨some ⟨g4, 0, none⟩, s.n + 1, c4⟩, by omega, by go_num, rfl, by show _ = _; have := hsn.out; show s.n + 1 = j + 1; omega, HS⟩, rfl⟩)
      case measure => simp [intOf]; omega
    · obtain rfl : k = j := by omega
      clear hlt hj
      replace hk1 := hk1.out; replace hki := hki.out; replace hbs1 := hbs1.out
      replace HS := hide (HS.out.set 0 rfl (lisI D3 4 s (lastL k)) (Chg.refl _ _) (lisI_loc _ _ _ _) ⟨(show ListOwn D3 47 4 _ s (lastL k) from HS.out.get 0 rfl).is, (show ListOwn D3 47 4 _ s (lastL k) from HS.out.get 0 rfl).own⟩ fun k hk => .inl hk)
      replace HS : Hid (St w wr [lisI D3 4 s (lastL k), blkI b3 (machL A2 N), machI D2 A2 N]) := HS
      go_upto_region 13 with fail
      go_upto_region 14 with (first | ((with_reducible refine isList ?_); first | (refine st_load1 HS 1 rfl _ _ rfl _ rfl rfl (by decide +kernel) rfl ?_) | (refine st_storeL HS 2 0 rfl 0 (by decide) rfl (by decide) hk1 hbs1 _ _ _ rfl _ rfl rfl rfl rfl (by decide +kernel) ?_; clear HS; intro W HS)))
      replace HS : Hid (St w W [blkI b3 (machL (A2.setQ 0 ((A2.q 0).setL 0 s)) (N.setS 0 ((N.at 0).setL 0 (lastL k)))), machI (fun k => D2 k ∨ D3 k) (A2.setQ 0 ((A2.q 0).setL 0 s)) (N.setS 0 ((N.at 0).setL 0 (lastL k)))]) := hide (HS.out.sel [1, 2] (by decide) rfl)
      rw [← eO.out] at HS
      clear hk1 hki hbs1 hsn
      generalize (fun k => D2 k ∨ D3 k) = D4 at HS
      generalize A2.setQ 0 ((A2.q 0).setL 0 s) = A4 at HS
      go_upto_region 16 with fail
      go_loopw [7, 8] (fun la i wr => ∃ (j : Nat) (v : Int) (M : PMach) (A : MacM) (D : Nat → Prop), la = .int .i64 v ∧ i = .int .i64 j ∧ j ≤ k ∧ (0 ≤ v ∧ v ≤ 255) ∧ Hid (LastI k M j v) ∧ Hid (St w wr [blkI b3 (machL A M), machI D A M])) (fun _ i _ => k - (intOf i).toNat)
      case atStart => exact ⟨0, 0, O, A4, D4, rfl, rfl, Nat.zero_le _, ⟨by decide, by decide⟩, hBeg, HS⟩
      case round =>
        clear HS hBeg
        obtain ⟨j, v, M, A, D, rfl, rfl, hj, hv, hI, HS⟩ := hrel
        by_cases hlt : j < k
        · have i2 : (j : Int) < (k : Int) := by omega
          have i3 : (j : Int) < (n : Int) := by omega
          obtain ⟨bz, oz, ez, _, cz⟩ := hRow.out _ HS.out.below j (by omega)
          obtain ⟨g1, g2, g3⟩ := hG.out j
          generalize G j = u at *
          have hk1 : 0 < A.s.n := by
            have := (MachOwn.is (show MachOwn D _ A M from HS.out.get 1 rfl)).sess.1
            have := hI.out.two; omega
          have hki : (0 : Int) < (A.s.n : Int) := by omega
          obtain ⟨bs1, hbs1, _⟩ := MachOwn.sblk (show MachOwn D _ A M from HS.out.get 1 rfl) hk1
          replace hbs1 := hide hbs1
          go_upto_region 19 with fail
          clear cz ez
          obtain ⟨m, hm⟩ : ∃ m, m = j % 4 := ⟨_, rfl⟩
          have hmb : bits .and .i64 (j : Int) 3 = (m : Int) := by rw [mask3, hm]; rfl
          have hmc : (j : Int) % 4 = (m : Int) := by rw [hm]; rfl
          have hm4 : m < 4 := by omega
          have hmi : (m : Int) < 4 := by omega
          replace hm := hide hm
          have c9 : wr.cell? ⟨b3, 9, none⟩ = some (.slice (some ⟨bs1, 0, none⟩) A.s.n A.s.c) := by rw [← hbs1.out]; exact (HS.out.blk 0 rfl).cell 9 _ rfl
          replace hbs1 := hbs1.out
          go_upto_region 20 with (first | ((with_reducible refine isList ?_); first | (refine st_storeN HS 1 rfl hk1 hbs1 (5 + m) (by omega) _ _ _ rfl _ rfl (regs_zero hm4) rfl rfl (by decide +kernel) ?_; clear HS; intro W HS)))
          replace HS : Hid (St w W [blkI b3 (machL A (M.doN 0 (5 + m) u)), machI D A (M.doN 0 (5 + m) u)]) := HS
          clear c9 hbs1 hk1 hki
          have hSt := last_step (A := A) (w := W) hI.out hv hlt hk8 ⟨g2, g3⟩ (by rw [← hm.out]; exact MachOwn.is (show MachOwn D _ A (M.doN 0 (5 + m) u) from HS.out.get 1 rfl))
          rw [← hm.out] at hSt
          obtain ⟨N', es, hI'⟩ := hSt
          replace hI' := hide hI'
          clear hI hm hm4 hmb hmc hmi
          generalize M.doN 0 (5 + m) u = M1 at HS es
          have hE := hide fun (W : World) (h : MachIs W A M1) => storeStep_any A M1 0 W h
          rw [es] at hE
          clear es
          go_wp2_with (first | ((with_reducible refine isList ?_); first | (refine st_loadA HS 0 rfl _ _ rfl rfl rfl (by decide +kernel) (by kernel_rfl) ?_)))
          refine (hE.out _ (MachOwn.is (show MachOwn D _ A M1 from HS.out.get 1 rfl))).mono ?_
          (rintro e Wq ⟨AX, rfl, hO, hb⟩; have HSq := hide (HS.out.push hb (machI (fun k => _) AX _) (machI_loc _ _ _) hO fun k hk => hk); generalize (fun k => _) = DX at HSq; clear HS hb hO; replace HS := HSq; clear HSq)
          clear hE
          go_upto_region 21 with (first | ((with_reducible refine isList ?_); first | (refine st_alloc HS _ rfl rfl zeroML zeroM ?_; clear HS; intro W b9 HS) | (refine st_storeA HS 0 rfl _ _ _ rfl rfl rfl _ rfl rfl (by kernel_rfl) rfl ?_; clear HS; intro W HS)))
          replace HS : Hid (St w W [blkI b9 (machL AX N'), machI DX AX N', blkI b3 (machL A M1), machI D A M1]) := HS
          obtain ⟨n2, g⟩ := MachOwn.sfact (show MachOwn DX _ AX N' from HS.out.get 1 rfl) hI'.out.two
          obtain ⟨s2, e2, _⟩ := g (by decide)
          clear g
          obtain ⟨c9, _⟩ := MachOwn.scell (show MachOwn DX _ AX N' from HS.out.get 1 rfl) (HS.out.blk 0 rfl) hI'.out.two e2
          replace n2 := hide n2; replace e2 := hide e2
          go_upto_region 23 with (go_at_call 11; refine (num_any _ _).mono ?_; rintro e w' ⟨rfl, rfl⟩)
          clear c9
          go_wp2_with (first | ((with_reducible refine isList ?_); first | (refine st_loadA HS 0 rfl _ _ rfl rfl rfl (by decide +kernel) (by kernel_rfl) ?_) | (refine st_storeA HS 2 rfl _ _ _ rfl rfl rfl _ rfl rfl (by kernel_rfl) rfl ?_; clear HS; intro W HS)))
          replace HS : Hid (St w W [blkI b9 (machL AX N'), machI DX AX N', blkI b3 (machL AX N'), machI D A M1]) := HS
          replace HS : Hid (St w W [blkI b3 (machL AX N'), machI DX AX N']) := hide (HS.out.sel [2, 1] (by decide) rfl)
          go_roundw
          case rel =>
            first
              | exact ⟨j + 1, u, N', AX, DX, rfl, by go_num, by omega, ⟨g2, g3⟩, hI', HS⟩
              | (repeat apply Exists.intro
                 exact ⟨⟨j + 1, u, N', AX, DX, rfl, by go_num, by omega, ⟨g2, g3⟩, hI', HS⟩, rfl⟩)
          case measure => simp [intOf]; omega
        · obtain rfl : k = j := by omega
          clear hlt hj
          go_upto_region 24 with fail
          have hI2 := hI.out.two
          obtain ⟨n2, g⟩ := MachOwn.sfact (show MachOwn D _ A M from HS.out.get 1 rfl) hI2
          obtain ⟨s2, e2, _⟩ := g (by decide)
          clear g
          obtain ⟨c9, r9⟩ := MachOwn.scell (show MachOwn D _ A M from HS.out.get 1 rfl) (HS.out.blk 0 rfl) hI2 e2
          have c11 := r9 0 (by decide) 11 (.slice (A.q 0).t.a (A.q 0).t.n (A.q 0).t.c) rfl
          replace c11 : wr.cell? ⟨s2, 11, none⟩ = some (.slice (A.q 0).t.a (A.q 0).t.n (A.q 0).t.c) := c11
          have hk1 : 0 < A.s.n := by omega
          have hw : Hid ((M.at 0).writes = [0, 0, v]) := by
            show _ = _
            rw [hI.out.writes, if_neg (by omega)]
          have en : Hid (A.e.n = k) := last_many hI.out (MachOwn.is (show MachOwn D _ A M from HS.out.get 1 rfl))
          clear r9 hI2 hI
          replace n2 := hide n2; replace e2 := hide e2
          go_wp2_with (first | ((with_reducible refine isList ?_); first | (refine st_lit_1_3 HS _ 49 _ rfl rfl Tryz.underlying42 Tryz.infoWrite rfl ?_; clear HS; intro W bl HS)))
          refine (sameWrites_lis (q := A.q 0) (x := M.at 0) (D := fun _ => True) (s := ⟨some ⟨bl, 0, none⟩, 1, 1⟩) (l := [0, 0, v]) _ ((MachOwn.is (show MachOwn D _ A M from HS.out.get 2 rfl)).sess.2.2.2 0 hk1) (HS.out.get 0 rfl).1 hw.out).mono ?_
          rintro e Wq ⟨rfl, q, rfl⟩
          replace HS := hide (HS.out.drawn q)
          generalize World.drewN _ q = Wq at *
          clear c9 c11
          have c10 : Wq.cell? ⟨b3, 10, none⟩ = some (.slice A.e.a k A.e.c) := by rw [← en.out]; exact (HS.out.blk 1 rfl).cell 10 _ rfl
          have hF := fun (v0 v1 v2 v3 v4 v5 v6 v7 v8 v9 v10 : Value) (W : World) => field_sess1 v0 v1 v2 v3 v4 v5 v6 v7 v8 v9 v10 W
          go_wp2_with fail
          refine (hP.out _).mono ?_
          (rintro e Wq ⟨AZ, rfl, hO, hb⟩; have HSq := hide (HS.out.push hb (machI (fun k => _) AZ _) (machI_loc _ _ _) hO fun k hk => hk); generalize (fun k => _) = DZ at HSq; clear HS hb hO; replace HS := HSq; clear HSq)
          obtain ⟨n3, g⟩ := MachOwn.sfact (show MachOwn DZ _ AZ Z from HS.out.get 0 rfl) sN.out
          clear g
          rw [show machA AZ Z = .agg (macL AZ.w (lz Z.clocks) Z.ceil (.slice AZ.s.a AZ.s.n AZ.s.c) (.slice AZ.e.a AZ.e.n AZ.e.c)).toArray from rfl, n3]
          unfold macL
          clear c10
          go_wp2
          go_ret
          exact ⟨rfl, HS.out.below⟩
theorem storeLast_any (a : Option Addr) (n c : Nat) (z : Nat → Int) (w : World) (hn : n * 8 ≤ 140737488351232) (hr : Row w a n fun i => .int .i64 (z i)) :
    Calls Tryz.prog 6 #[.slice a n c] w fun e w' => e = .returned (.bool true) ∧ Below w.heap.size w w' :=
  storeLast_at a n c (min n 8) z (fun j => bits .and .i64 (z j) 255) w hn hr rfl (hide fun j => ⟨rfl, by rw [mask255]; omega, by rw [mask255]; omega⟩)
end Go.Proofs.YtlnenmfippedpaaGreat
