/-
  The law FetchTwice. (Written by wip/tools/gen_fetchtwice.py)
-/
import Derived.Test.YtaaenolbfhhnfaaGreatZlba
import Derived.Test.YtaaenolbfhhnfaaGreatZlbc
import Derived.Test.YtaaenolbfhhnfaaGreatZlcb
import Derived.Test.YtaaenolbfhhnfaaGreatZlab
import Derived.Test.YtaaenolbfhhnfaaGreatZlag
namespace Go.Proofs.YtaaenolbfhhnfaaGreat
open Go.RowKit
set_option linter.unusedSimpArgs false
set_option linter.unusedVariables false
/-- Four reads of two words; so many fetches. -/
def twiceM (k : Int) : Nat → PMach
  | 0 => begunM.setS 0 ((begunM.at 0).setL 0 [2, 0, 0, k, 2, 1, 0, k, 2, 2, 0, 1 - k, 2, 3, 0, k])
  | i + 1 => (fetchP (twiceM k i) 0).1
theorem twice0_step : ∀ i, i < 4 → ((fetchP (twiceM 0 i) 0).2 = 0 ∧ (twiceM 0 (i + 1)).sess.length = 2 ∧ lz ((twiceM 0 (i + 1)).at 0).num 4 = i + 1) := by decide +kernel
set_option maxRecDepth 100000 in
set_option maxHeartbeats 4000000 in
theorem fetchTwice_0 (a0 : Int) (w : World) (hk : bits .and .i64 a0 1 = 0) :
    Calls Tryz.prog 13 #[.int .i64 a0] w fun e w' => e = .returned (.bool true) ∧ Below w.heap.size w w' := by
  have HS := hide (St.refl w)
  have hAw := hide fun (W : World) => awake15_any W
  have hB := hide fun (W : World) => begun15_any W
  have sN : Hid (begunM.sess.length = 2) := by show _ = 2; decide +kernel
  have eT : Hid (twiceM 0 0 = begunM.setS 0 ((begunM.at 0).setL 0 [2, 0, 0, 0, 2, 1, 0, 0, 2, 2, 0, 1, 2, 3, 0, 0])) := rfl
  have hF := hide twice0_step
  have hE := hide fun (i : Nat) (hi : i < 4) (A : MacM) (W : World) (h : MachIs W A (twiceM 0 i)) => (show Calls Tryz.prog 33 #[machA A (twiceM 0 i), .int .i64 0] W (MRet W (twiceM 0 (i + 1), 0)) from by
    have := fetchStep_any A (twiceM 0 i) 0 W h
    rw [show fetchP (twiceM 0 i) 0 = (twiceM 0 (i + 1), 0) from Prod.ext rfl (hF.out i hi).1] at this
    exact this)
  obtain ⟨S, hS, sS⟩ : ∃ S, stepP (twiceM 0 4) 0 = (S, 0) ∧ S.sess.length = 2 := ⟨(stepP (twiceM 0 4) 0).1, Prod.ext rfl (by decide +kernel), by decide +kernel⟩
  have hR := hide fun (A : MacM) (W : World) (h : MachIs W A (twiceM 0 4)) => rstep_any A (twiceM 0 4) 0 W h
  rw [hS] at hR
  have x5 : Hid (lz ((twiceM 0 4).at 0).num 5 = 5) := by show _ = _; decide +kernel
  have x6 : Hid (lz ((twiceM 0 4).at 0).num 6 = 5) := by show _ = _; decide +kernel
  have x7 : Hid (lz ((twiceM 0 4).at 0).num 7 = 6) := by show _ = _; decide +kernel
  have x8 : Hid (lz ((twiceM 0 4).at 0).num 8 = 5) := by show _ = _; decide +kernel
  have xr : Hid (((twiceM 0 4).at 0).reads = [0, 0, 0, 0, 1, 0]) := by show _ = _; decide +kernel
  have xt : Hid ((twiceM 0 4).trace.length = 16) := by show _ = _; decide +kernel
  have s4 : Hid ((twiceM 0 4).sess.length = 2) := by show _ = _; decide +kernel
  clear hS
  replace sS := hide sS
  generalize twiceM 0 = T at *
  generalize begunM = N at *
  go_enter Tryz.func13, Tryz.ntmps13
  go_wp2_with fail
  refine (hAw.out _).mono ?_
  (rintro e Wq ⟨rfl, hb⟩; have HSq := hide (HS.out.on hb); clear HS hb; replace HS := HSq; clear HSq)
  clear hAw
  go_wp2_with fail
  refine (hB.out _).mono ?_
  (rintro e Wq ⟨A1, rfl, hO, hb⟩; have HSq := hide (HS.out.push hb (machI (fun k => _) A1 _) (machI_loc _ _ _) hO fun k hk => hk); generalize (fun k => _) = D1 at HSq; clear HS hb hO; replace HS := HSq; clear HSq)
  clear hB
  have hk1 : 0 < A1.s.n := by
    have := (MachOwn.is (show MachOwn D1 _ A1 N from HS.out.get 0 rfl)).sess.1
    have := sN.out; omega
  have i1 : (0 : Int) < (A1.s.n : Int) := by omega
  obtain ⟨bs1, hbs1, _⟩ := MachOwn.sblk (show MachOwn D1 _ A1 N from HS.out.get 0 rfl) hk1
  go_upto_region 5 with (first | ((with_reducible refine isList ?_); first | (refine st_alloc HS _ rfl rfl zeroML zeroM ?_; clear HS; intro W b3 HS) | (refine st_storeA HS 0 rfl _ _ _ rfl rfl rfl _ rfl rfl (by kernel_rfl) rfl ?_; clear HS; intro W HS)))
  replace HS : Hid (St w W [blkI b3 (machL A1 N), machI D1 A1 N]) := HS
  go_upto_region 6 with (first | ((with_reducible refine isList ?_); first | (refine st_load1 HS 0 rfl _ _ rfl _ rfl rfl (by decide +kernel) rfl ?_) | (refine st_lit_4_4 HS _ 62 _ _ _ _ rfl rfl Tryz.underlying55 Tryz.infoI rfl rfl rfl rfl ?_; clear HS; intro W bl HS) | (refine st_storeL HS 2 0 rfl 0 (by decide) rfl (by decide) hk1 hbs1 _ _ _ rfl _ rfl rfl rfl rfl (by decide +kernel) ?_; clear HS; intro W HS)))
  replace HS : Hid (St w W [blkI b3 (machL (A1.setQ 0 ((A1.q 0).setL 0 ⟨some ⟨bl, 0, none⟩, 4, 4⟩)) (N.setS 0 ((N.at 0).setL 0 [2, 0, 0, 0, 2, 1, 0, 0, 2, 2, 0, 1, 2, 3, 0, 0]))), machI (fun k => D1 k ∨ k = bl) (A1.setQ 0 ((A1.q 0).setL 0 ⟨some ⟨bl, 0, none⟩, 4, 4⟩)) (N.setS 0 ((N.at 0).setL 0 [2, 0, 0, 0, 2, 1, 0, 0, 2, 2, 0, 1, 2, 3, 0, 0]))]) := hide (HS.out.sel [1, 2] (by decide) rfl)
  rw [← eT.out] at HS
  clear hk1 i1 hbs1 eT
  generalize (fun k => D1 k ∨ k = bl) = D2 at HS
  generalize A1.setQ 0 ((A1.q 0).setL 0 ⟨some ⟨bl, 0, none⟩, 4, 4⟩) = A2 at HS
  go_wp2_with fail
  go_loopw [5] (fun j wr => ∃ (i : Nat) (D : Nat → Prop) (B : MacM), i ≤ 4 ∧ j = .int .i64 i ∧ Hid (St w wr [blkI b3 (machL B (T i)), machI D B (T i)])) (fun j _ => 4 - (intOf j).toNat)
  case atStart => exact ⟨0, D2, A2, Nat.zero_le _, rfl, HS⟩
  case round =>
    clear HS
    obtain ⟨i, D, B, hi, rfl, HS⟩ := hrel
    by_cases hlt : i < 4
    · have i1 : (i : Int) < 4 := by omega
      have i0 : (0 : Int) ≤ (i : Int) := by omega
      obtain ⟨_, t2, t4⟩ := hF.out i hlt
      have hE2 := hide fun (A : MacM) (W : World) (h : MachIs W A (T i)) => hE.out i hlt A W h
      obtain ⟨X, hXe⟩ : ∃ X, X = T (i + 1) := ⟨_, rfl⟩
      rw [← hXe] at hE2 t2 t4
      replace hXe := hide hXe
      go_wp2_with (first | ((with_reducible refine isList ?_); first | (refine st_loadA HS 0 rfl _ _ rfl rfl rfl (by decide +kernel) (by kernel_rfl) ?_)))
      refine (hE2.out B _ (MachOwn.is (show MachOwn D _ B (T i) from HS.out.get 1 rfl))).mono ?_
      (rintro e Wq ⟨AX, rfl, hO, hb⟩; have HSq := hide (HS.out.push hb (machI (fun k => _) AX _) (machI_loc _ _ _) hO fun k hk => hk); generalize (fun k => _) = DX at HSq; clear HS hb hO; replace HS := HSq; clear HSq)
      clear hE2
      go_upto_region 10 with (first | ((with_reducible refine isList ?_); first | (refine st_alloc HS _ rfl rfl zeroML zeroM ?_; clear HS; intro W b6 HS) | (refine st_storeA HS 0 rfl _ _ _ rfl rfl rfl _ rfl rfl (by kernel_rfl) rfl ?_; clear HS; intro W HS)))
      replace HS : Hid (St w W [blkI b6 (machL AX X), machI DX AX X, blkI b3 (machL B (T i)), machI D B (T i)]) := HS
      obtain ⟨n2, g⟩ := MachOwn.sfact (show MachOwn DX _ AX X from HS.out.get 1 rfl) t2
      obtain ⟨s2, e2, _⟩ := g (by decide)
      clear g
      obtain ⟨c9, r9⟩ := MachOwn.scell (show MachOwn DX _ AX X from HS.out.get 1 rfl) (HS.out.blk 0 rfl) t2 e2
      have c5 : W.cell? ⟨s2, 5, none⟩ = some (.int .i64 ((i : Int) + 1)) := by rw [← t4]; exact r9 0 (by decide) 5 _ rfl
      clear r9 t2 t4
      replace n2 := hide n2; replace e2 := hide e2
      go_upto_region 12 with (go_at_call 21; refine (num_any _ _).mono ?_; rintro e w' ⟨rfl, rfl⟩)
      clear c9 c5
      go_wp2_with (first | ((with_reducible refine isList ?_); first | (refine st_loadA HS 0 rfl _ _ rfl rfl rfl (by decide +kernel) (by kernel_rfl) ?_) | (refine st_storeA HS 2 rfl _ _ _ rfl rfl rfl _ rfl rfl (by kernel_rfl) rfl ?_; clear HS; intro W HS)))
      replace HS : Hid (St w W [blkI b6 (machL AX X), machI DX AX X, blkI b3 (machL AX X), machI D B (T i)]) := HS
      replace HS : Hid (St w W [blkI b3 (machL AX X), machI DX AX X]) := hide (HS.out.sel [2, 1] (by decide) rfl)
      rw [hXe.out] at HS
      go_roundw
      case rel =>
        first
          | exact ⟨i + 1, DX, AX, by omega, by go_num, HS⟩
          | (repeat apply Exists.intro
             exact ⟨⟨i + 1, DX, AX, by omega, by go_num, HS⟩, rfl⟩)
      case measure => simp [intOf]; omega
    · have hi4 : i = 4 := by omega
      subst hi4
      clear hlt hF hE
      generalize T 4 = Z at *
      obtain ⟨n2, g⟩ := MachOwn.sfact (show MachOwn D _ B Z from HS.out.get 1 rfl) s4.out
      obtain ⟨s3, e3, r3⟩ := g (by decide)
      clear g
      replace r3 := hide (r3 0 (by decide))
      have hr := ((MachOwn.is (show MachOwn D _ B Z from HS.out.get 1 rfl)).sess.2.2.2 0 (by omega)).2.2.1.1
      have nr : (B.q 0).r.n = 2 := by have h2 := xr.out; unfold PMach.at at h2; rw [h2] at hr; simp at hr; omega
      have nt : B.e.n = 4 := by have h1 := (MachOwn.is (show MachOwn D _ B Z from HS.out.get 1 rfl)).trace.1; rw [xt.out] at h1; omega
      obtain ⟨c9, _⟩ := MachOwn.scell (show MachOwn D _ B Z from HS.out.get 1 rfl) (HS.out.blk 0 rfl) s4.out e3
      clear hr
      replace n2 := hide n2; replace e3 := hide e3; replace nr := hide nr; replace nt := hide nt
      go_upto_region 13 with fail
      go_upto_region 14 with (first | ((with_reducible refine isList ?_); first | (refine wpList_load_at _ _ rfl rfl s3 (0 * 17) rfl (sessOf (B.q 0) (Z.at 0)) (by decide +kernel) (by kernel_rfl) r3.out ?_) | (refine st_alloc HS _ rfl rfl zeroSL zeroS ?_; clear HS; intro W b8 HS) | (refine st_storeA HS 0 rfl _ _ _ rfl rfl rfl _ rfl rfl (by kernel_rfl) rfl ?_; clear HS; intro W HS)))
      replace HS : Hid (St w W [blkI b8 (sessL (lz (Z.at 0).num) (.slice (B.q 0).p.a (B.q 0).p.n (B.q 0).p.c) (.slice (B.q 0).r.a (B.q 0).r.n (B.q 0).r.c) (.slice (B.q 0).t.a (B.q 0).t.n (B.q 0).t.c)), blkI b3 (machL B Z), machI D B Z]) := HS
      clear c9 r3
      go_wp2_with (first | ((with_reducible refine isList ?_); first | (refine st_loadA HS 1 rfl _ _ rfl rfl rfl (by decide +kernel) (by kernel_rfl) ?_)))
      refine (hR.out B _ (MachOwn.is (show MachOwn D _ B Z from HS.out.get 2 rfl))).mono ?_
      (rintro e Wq ⟨AS, rfl, hO, hb⟩; have HSq := hide (HS.out.push hb (machI (fun k => _) AS _) (machI_loc _ _ _) hO fun k hk => hk); generalize (fun k => _) = DS at HSq; clear HS hb hO; replace HS := HSq; clear HSq)
      clear hR
      go_upto_region 15 with (first | ((with_reducible refine isList ?_); first | (refine st_alloc HS _ rfl rfl zeroML zeroM ?_; clear HS; intro W b9 HS) | (refine st_storeA HS 0 rfl _ _ _ rfl rfl rfl _ rfl rfl (by kernel_rfl) rfl ?_; clear HS; intro W HS)))
      replace HS : Hid (St w W [blkI b9 (machL AS S), machI DS AS S, blkI b8 (sessL (lz (Z.at 0).num) (.slice (B.q 0).p.a (B.q 0).p.n (B.q 0).p.c) (.slice (B.q 0).r.a (B.q 0).r.n (B.q 0).r.c) (.slice (B.q 0).t.a (B.q 0).t.n (B.q 0).t.c)), blkI b3 (machL B Z), machI D B Z]) := HS
      obtain ⟨-, -, -, -, -, -, d6, d7, d8, d9, d10, -, -, -, -, -, -⟩ := (HS.out.blk 2 rfl).sess
      rw [x5.out] at d6
      rw [x6.out] at d7
      rw [x7.out] at d8
      rw [x8.out] at d9
      rw [nr.out] at d10
      have Q := fun W => quad_eq 5 5 6 5 5 5 6 5 W
      simp only [beq_self_eq_true, Bool.and_self] at Q
      go_wp2_with fail
      clear d6 d7 d8 d9 d10 Q
      replace HS := hide (HS.out.alloc [.int .i64 0, .int .i64 0, .int .i64 0, .int .i64 0, .int .i64 1, .int .i64 0] 66)
      have hQ := ((MachOwn.is (show MachOwn D _ B Z from HS.out.get 5 rfl)).sess.2.2.2 0 (by have := n2.out; omega)).2.2.1
      have hV := sameReads_any (B.q 0).r.a (some ⟨W.heap.size, 0, none⟩) (B.q 0).r.n (B.q 0).r.c 2 2 (lz (Z.at 0).reads) (lz [0, 0, 0, 0, 1, 0]) _ (by rw [nr.out]; decide) hQ.2.2 (slIs_blk (L := [0, 0, 0, 0, 1, 0]) (n := 2) (k := 3) (HS.out.blk 0 rfl) rfl (by decide)).2.2
      rw [nr.out, xr.out] at hV
      rw [show (decide (2 = 2) && eqTo (lz [0, 0, 0, 0, 1, 0]) (lz [0, 0, 0, 0, 1, 0]) (2 * 3)) = true by rw [eqTo_mk fun _ _ => rfl]; rfl] at hV
      replace hV := hide hV
      clear hQ
      refine hV.out.mono ?_
      rintro e Wq ⟨rfl, q, rfl⟩
      replace HS := hide (HS.out.drawn q)
      clear hV
      generalize World.drewN _ _ = Wd at *
      have c10 : Wd.cell? ⟨b3, 10, none⟩ = some (.slice B.e.a 4 B.e.c) := by rw [← nt.out]; exact (HS.out.blk 4 rfl).cell 10 _ rfl
      have nS : AS.s.n = 2 := by have := (MachOwn.is (show MachOwn DS _ AS S from HS.out.get 2 rfl)).sess.1; have := sS.out; omega
      have c99 : Wd.cell? ⟨b9, 9, none⟩ = some (.slice AS.s.a 2 AS.s.c) := by rw [← nS]; exact (HS.out.blk 1 rfl).cell 9 _ rfl
      clear nS
      go_wp2
      go_ret
      exact ⟨rfl, HS.out.below⟩
theorem twice1_step : ∀ i, i < 4 → ((fetchP (twiceM 1 i) 0).2 = 0 ∧ (twiceM 1 (i + 1)).sess.length = 2 ∧ lz ((twiceM 1 (i + 1)).at 0).num 4 = i + 1) := by decide +kernel
set_option maxRecDepth 100000 in
set_option maxHeartbeats 4000000 in
theorem fetchTwice_1 (a0 : Int) (w : World) (hk : bits .and .i64 a0 1 = 1) :
    Calls Tryz.prog 13 #[.int .i64 a0] w fun e w' => e = .returned (.bool true) ∧ Below w.heap.size w w' := by
  have HS := hide (St.refl w)
  have hAw := hide fun (W : World) => awake15_any W
  have hB := hide fun (W : World) => begun15_any W
  have sN : Hid (begunM.sess.length = 2) := by show _ = 2; decide +kernel
  have eT : Hid (twiceM 1 0 = begunM.setS 0 ((begunM.at 0).setL 0 [2, 0, 0, 1, 2, 1, 0, 1, 2, 2, 0, 0, 2, 3, 0, 1])) := rfl
  have hF := hide twice1_step
  have hE := hide fun (i : Nat) (hi : i < 4) (A : MacM) (W : World) (h : MachIs W A (twiceM 1 i)) => (show Calls Tryz.prog 33 #[machA A (twiceM 1 i), .int .i64 0] W (MRet W (twiceM 1 (i + 1), 0)) from by
    have := fetchStep_any A (twiceM 1 i) 0 W h
    rw [show fetchP (twiceM 1 i) 0 = (twiceM 1 (i + 1), 0) from Prod.ext rfl (hF.out i hi).1] at this
    exact this)
  obtain ⟨S, hS, sS⟩ : ∃ S, stepP (twiceM 1 4) 0 = (S, 0) ∧ S.sess.length = 2 := ⟨(stepP (twiceM 1 4) 0).1, Prod.ext rfl (by decide +kernel), by decide +kernel⟩
  have hR := hide fun (A : MacM) (W : World) (h : MachIs W A (twiceM 1 4)) => rstep_any A (twiceM 1 4) 0 W h
  rw [hS] at hR
  have x5 : Hid (lz ((twiceM 1 4).at 0).num 5 = 6) := by show _ = _; decide +kernel
  have x6 : Hid (lz ((twiceM 1 4).at 0).num 6 = 6) := by show _ = _; decide +kernel
  have x7 : Hid (lz ((twiceM 1 4).at 0).num 7 = 5) := by show _ = _; decide +kernel
  have x8 : Hid (lz ((twiceM 1 4).at 0).num 8 = 6) := by show _ = _; decide +kernel
  have xr : Hid (((twiceM 1 4).at 0).reads = [0, 1, 0, 0, 0, 0]) := by show _ = _; decide +kernel
  have xt : Hid ((twiceM 1 4).trace.length = 16) := by show _ = _; decide +kernel
  have s4 : Hid ((twiceM 1 4).sess.length = 2) := by show _ = _; decide +kernel
  clear hS
  replace sS := hide sS
  generalize twiceM 1 = T at *
  generalize begunM = N at *
  go_enter Tryz.func13, Tryz.ntmps13
  go_wp2_with fail
  refine (hAw.out _).mono ?_
  (rintro e Wq ⟨rfl, hb⟩; have HSq := hide (HS.out.on hb); clear HS hb; replace HS := HSq; clear HSq)
  clear hAw
  go_wp2_with fail
  refine (hB.out _).mono ?_
  (rintro e Wq ⟨A1, rfl, hO, hb⟩; have HSq := hide (HS.out.push hb (machI (fun k => _) A1 _) (machI_loc _ _ _) hO fun k hk => hk); generalize (fun k => _) = D1 at HSq; clear HS hb hO; replace HS := HSq; clear HSq)
  clear hB
  have hk1 : 0 < A1.s.n := by
    have := (MachOwn.is (show MachOwn D1 _ A1 N from HS.out.get 0 rfl)).sess.1
    have := sN.out; omega
  have i1 : (0 : Int) < (A1.s.n : Int) := by omega
  obtain ⟨bs1, hbs1, _⟩ := MachOwn.sblk (show MachOwn D1 _ A1 N from HS.out.get 0 rfl) hk1
  go_upto_region 5 with (first | ((with_reducible refine isList ?_); first | (refine st_alloc HS _ rfl rfl zeroML zeroM ?_; clear HS; intro W b3 HS) | (refine st_storeA HS 0 rfl _ _ _ rfl rfl rfl _ rfl rfl (by kernel_rfl) rfl ?_; clear HS; intro W HS)))
  replace HS : Hid (St w W [blkI b3 (machL A1 N), machI D1 A1 N]) := HS
  go_upto_region 6 with (first | ((with_reducible refine isList ?_); first | (refine st_load1 HS 0 rfl _ _ rfl _ rfl rfl (by decide +kernel) rfl ?_) | (refine st_lit_4_4 HS _ 62 _ _ _ _ rfl rfl Tryz.underlying55 Tryz.infoI rfl rfl rfl rfl ?_; clear HS; intro W bl HS) | (refine st_storeL HS 2 0 rfl 0 (by decide) rfl (by decide) hk1 hbs1 _ _ _ rfl _ rfl rfl rfl rfl (by decide +kernel) ?_; clear HS; intro W HS)))
  replace HS : Hid (St w W [blkI b3 (machL (A1.setQ 0 ((A1.q 0).setL 0 ⟨some ⟨bl, 0, none⟩, 4, 4⟩)) (N.setS 0 ((N.at 0).setL 0 [2, 0, 0, 1, 2, 1, 0, 1, 2, 2, 0, 0, 2, 3, 0, 1]))), machI (fun k => D1 k ∨ k = bl) (A1.setQ 0 ((A1.q 0).setL 0 ⟨some ⟨bl, 0, none⟩, 4, 4⟩)) (N.setS 0 ((N.at 0).setL 0 [2, 0, 0, 1, 2, 1, 0, 1, 2, 2, 0, 0, 2, 3, 0, 1]))]) := hide (HS.out.sel [1, 2] (by decide) rfl)
  rw [← eT.out] at HS
  clear hk1 i1 hbs1 eT
  generalize (fun k => D1 k ∨ k = bl) = D2 at HS
  generalize A1.setQ 0 ((A1.q 0).setL 0 ⟨some ⟨bl, 0, none⟩, 4, 4⟩) = A2 at HS
  go_wp2_with fail
  go_loopw [5] (fun j wr => ∃ (i : Nat) (D : Nat → Prop) (B : MacM), i ≤ 4 ∧ j = .int .i64 i ∧ Hid (St w wr [blkI b3 (machL B (T i)), machI D B (T i)])) (fun j _ => 4 - (intOf j).toNat)
  case atStart => exact ⟨0, D2, A2, Nat.zero_le _, rfl, HS⟩
  case round =>
    clear HS
    obtain ⟨i, D, B, hi, rfl, HS⟩ := hrel
    by_cases hlt : i < 4
    · have i1 : (i : Int) < 4 := by omega
      have i0 : (0 : Int) ≤ (i : Int) := by omega
      obtain ⟨_, t2, t4⟩ := hF.out i hlt
      have hE2 := hide fun (A : MacM) (W : World) (h : MachIs W A (T i)) => hE.out i hlt A W h
      obtain ⟨X, hXe⟩ : ∃ X, X = T (i + 1) := ⟨_, rfl⟩
      rw [← hXe] at hE2 t2 t4
      replace hXe := hide hXe
      go_wp2_with (first | ((with_reducible refine isList ?_); first | (refine st_loadA HS 0 rfl _ _ rfl rfl rfl (by decide +kernel) (by kernel_rfl) ?_)))
      refine (hE2.out B _ (MachOwn.is (show MachOwn D _ B (T i) from HS.out.get 1 rfl))).mono ?_
      (rintro e Wq ⟨AX, rfl, hO, hb⟩; have HSq := hide (HS.out.push hb (machI (fun k => _) AX _) (machI_loc _ _ _) hO fun k hk => hk); generalize (fun k => _) = DX at HSq; clear HS hb hO; replace HS := HSq; clear HSq)
      clear hE2
      go_upto_region 10 with (first | ((with_reducible refine isList ?_); first | (refine st_alloc HS _ rfl rfl zeroML zeroM ?_; clear HS; intro W b6 HS) | (refine st_storeA HS 0 rfl _ _ _ rfl rfl rfl _ rfl rfl (by kernel_rfl) rfl ?_; clear HS; intro W HS)))
      replace HS : Hid (St w W [blkI b6 (machL AX X), machI DX AX X, blkI b3 (machL B (T i)), machI D B (T i)]) := HS
      obtain ⟨n2, g⟩ := MachOwn.sfact (show MachOwn DX _ AX X from HS.out.get 1 rfl) t2
      obtain ⟨s2, e2, _⟩ := g (by decide)
      clear g
      obtain ⟨c9, r9⟩ := MachOwn.scell (show MachOwn DX _ AX X from HS.out.get 1 rfl) (HS.out.blk 0 rfl) t2 e2
      have c5 : W.cell? ⟨s2, 5, none⟩ = some (.int .i64 ((i : Int) + 1)) := by rw [← t4]; exact r9 0 (by decide) 5 _ rfl
      clear r9 t2 t4
      replace n2 := hide n2; replace e2 := hide e2
      go_upto_region 12 with (go_at_call 21; refine (num_any _ _).mono ?_; rintro e w' ⟨rfl, rfl⟩)
      clear c9 c5
      go_wp2_with (first | ((with_reducible refine isList ?_); first | (refine st_loadA HS 0 rfl _ _ rfl rfl rfl (by decide +kernel) (by kernel_rfl) ?_) | (refine st_storeA HS 2 rfl _ _ _ rfl rfl rfl _ rfl rfl (by kernel_rfl) rfl ?_; clear HS; intro W HS)))
      replace HS : Hid (St w W [blkI b6 (machL AX X), machI DX AX X, blkI b3 (machL AX X), machI D B (T i)]) := HS
      replace HS : Hid (St w W [blkI b3 (machL AX X), machI DX AX X]) := hide (HS.out.sel [2, 1] (by decide) rfl)
      rw [hXe.out] at HS
      go_roundw
      case rel =>
        first
          | exact ⟨i + 1, DX, AX, by omega, by go_num, HS⟩
          | (repeat apply Exists.intro
             exact ⟨⟨i + 1, DX, AX, by omega, by go_num, HS⟩, rfl⟩)
      case measure => simp [intOf]; omega
    · have hi4 : i = 4 := by omega
      subst hi4
      clear hlt hF hE
      generalize T 4 = Z at *
      obtain ⟨n2, g⟩ := MachOwn.sfact (show MachOwn D _ B Z from HS.out.get 1 rfl) s4.out
      obtain ⟨s3, e3, r3⟩ := g (by decide)
      clear g
      replace r3 := hide (r3 0 (by decide))
      have hr := ((MachOwn.is (show MachOwn D _ B Z from HS.out.get 1 rfl)).sess.2.2.2 0 (by omega)).2.2.1.1
      have nr : (B.q 0).r.n = 2 := by have h2 := xr.out; unfold PMach.at at h2; rw [h2] at hr; simp at hr; omega
      have nt : B.e.n = 4 := by have h1 := (MachOwn.is (show MachOwn D _ B Z from HS.out.get 1 rfl)).trace.1; rw [xt.out] at h1; omega
      obtain ⟨c9, _⟩ := MachOwn.scell (show MachOwn D _ B Z from HS.out.get 1 rfl) (HS.out.blk 0 rfl) s4.out e3
      clear hr
      replace n2 := hide n2; replace e3 := hide e3; replace nr := hide nr; replace nt := hide nt
      go_upto_region 13 with fail
      go_upto_region 14 with (first | ((with_reducible refine isList ?_); first | (refine wpList_load_at _ _ rfl rfl s3 (0 * 17) rfl (sessOf (B.q 0) (Z.at 0)) (by decide +kernel) (by kernel_rfl) r3.out ?_) | (refine st_alloc HS _ rfl rfl zeroSL zeroS ?_; clear HS; intro W b8 HS) | (refine st_storeA HS 0 rfl _ _ _ rfl rfl rfl _ rfl rfl (by kernel_rfl) rfl ?_; clear HS; intro W HS)))
      replace HS : Hid (St w W [blkI b8 (sessL (lz (Z.at 0).num) (.slice (B.q 0).p.a (B.q 0).p.n (B.q 0).p.c) (.slice (B.q 0).r.a (B.q 0).r.n (B.q 0).r.c) (.slice (B.q 0).t.a (B.q 0).t.n (B.q 0).t.c)), blkI b3 (machL B Z), machI D B Z]) := HS
      clear c9 r3
      go_wp2_with (first | ((with_reducible refine isList ?_); first | (refine st_loadA HS 1 rfl _ _ rfl rfl rfl (by decide +kernel) (by kernel_rfl) ?_)))
      refine (hR.out B _ (MachOwn.is (show MachOwn D _ B Z from HS.out.get 2 rfl))).mono ?_
      (rintro e Wq ⟨AS, rfl, hO, hb⟩; have HSq := hide (HS.out.push hb (machI (fun k => _) AS _) (machI_loc _ _ _) hO fun k hk => hk); generalize (fun k => _) = DS at HSq; clear HS hb hO; replace HS := HSq; clear HSq)
      clear hR
      go_upto_region 15 with (first | ((with_reducible refine isList ?_); first | (refine st_alloc HS _ rfl rfl zeroML zeroM ?_; clear HS; intro W b9 HS) | (refine st_storeA HS 0 rfl _ _ _ rfl rfl rfl _ rfl rfl (by kernel_rfl) rfl ?_; clear HS; intro W HS)))
      replace HS : Hid (St w W [blkI b9 (machL AS S), machI DS AS S, blkI b8 (sessL (lz (Z.at 0).num) (.slice (B.q 0).p.a (B.q 0).p.n (B.q 0).p.c) (.slice (B.q 0).r.a (B.q 0).r.n (B.q 0).r.c) (.slice (B.q 0).t.a (B.q 0).t.n (B.q 0).t.c)), blkI b3 (machL B Z), machI D B Z]) := HS
      obtain ⟨-, -, -, -, -, -, d6, d7, d8, d9, d10, -, -, -, -, -, -⟩ := (HS.out.blk 2 rfl).sess
      rw [x5.out] at d6
      rw [x6.out] at d7
      rw [x7.out] at d8
      rw [x8.out] at d9
      rw [nr.out] at d10
      have Q := fun W => quad_eq 6 6 5 6 6 6 5 6 W
      simp only [beq_self_eq_true, Bool.and_self] at Q
      go_wp2_with fail
      clear d6 d7 d8 d9 d10 Q
      replace HS := hide (HS.out.alloc [.int .i64 0, .int .i64 1, .int .i64 0, .int .i64 0, .int .i64 0, .int .i64 0] 66)
      have hQ := ((MachOwn.is (show MachOwn D _ B Z from HS.out.get 5 rfl)).sess.2.2.2 0 (by have := n2.out; omega)).2.2.1
      have hV := sameReads_any (B.q 0).r.a (some ⟨W.heap.size, 0, none⟩) (B.q 0).r.n (B.q 0).r.c 2 2 (lz (Z.at 0).reads) (lz [0, 1, 0, 0, 0, 0]) _ (by rw [nr.out]; decide) hQ.2.2 (slIs_blk (L := [0, 1, 0, 0, 0, 0]) (n := 2) (k := 3) (HS.out.blk 0 rfl) rfl (by decide)).2.2
      rw [nr.out, xr.out] at hV
      rw [show (decide (2 = 2) && eqTo (lz [0, 1, 0, 0, 0, 0]) (lz [0, 1, 0, 0, 0, 0]) (2 * 3)) = true by rw [eqTo_mk fun _ _ => rfl]; rfl] at hV
      replace hV := hide hV
      clear hQ
      refine hV.out.mono ?_
      rintro e Wq ⟨rfl, q, rfl⟩
      replace HS := hide (HS.out.drawn q)
      clear hV
      generalize World.drewN _ _ = Wd at *
      have c10 : Wd.cell? ⟨b3, 10, none⟩ = some (.slice B.e.a 4 B.e.c) := by rw [← nt.out]; exact (HS.out.blk 4 rfl).cell 10 _ rfl
      have nS : AS.s.n = 2 := by have := (MachOwn.is (show MachOwn DS _ AS S from HS.out.get 2 rfl)).sess.1; have := sS.out; omega
      have c99 : Wd.cell? ⟨b9, 9, none⟩ = some (.slice AS.s.a 2 AS.s.c) := by rw [← nS]; exact (HS.out.blk 1 rfl).cell 9 _ rfl
      clear nS
      go_wp2
      go_ret
      exact ⟨rfl, HS.out.below⟩
theorem fetchTwice_any (a0 : Int) (w : World) :
    Calls Tryz.prog 13 #[.int .i64 a0] w fun e w' => e = .returned (.bool true) ∧ Below w.heap.size w w' := by
  have : bits .and .i64 a0 1 = 0 ∨ bits .and .i64 a0 1 = 1 := by rw [mask1]; omega
  rcases this with h | h
  · exact fetchTwice_0 a0 w h
  · exact fetchTwice_1 a0 w h
end Go.Proofs.YtaaenolbfhhnfaaGreat
