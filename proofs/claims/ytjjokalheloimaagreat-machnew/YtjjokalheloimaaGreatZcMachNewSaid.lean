/-
  The law MachNew.
-/
import Derived.Test.YtjjokalheloimaaGreatZlai
import Derived.Test.YtjjokalheloimaaGreatZlbb
import Derived.Test.YtjjokalheloimaaGreatZhTurnsSaid
namespace Go.Proofs.YtjjokalheloimaaGreat
open Go.RowKit
set_option linter.unusedSimpArgs false
set_option linter.unusedVariables false
theorem wordsOf_lz {l : List Int} {j : Nat} (h : j < l.length) : lz (wordsOf l) (j * 3) = lz l j ∧ lz (wordsOf l) (j * 3 + 1) = 0 ∧ lz (wordsOf l) (j * 3 + 2) = 0 := by
  unfold wordsOf
  rw [lz_map (by omega), lz_map (by omega), lz_map (by omega), if_pos (by omega), if_neg (by omega), if_neg (by omega), show j * 3 / 3 = j by omega]
  exact ⟨rfl, rfl, rfl⟩
theorem initM_at {S : PScript} {k : Nat} (h : k < S.starts.length) : (initM S).at k = initS (S.at k) := by
  show ((S.starts.take S.starts.length).map initS).getD k noSess = _
  rw [List.take_length]
  unfold PScript.at
  simp [List.getD, h]
theorem initM_lv {S : PScript} (h : valsOk S = true) {g : Nat} (hg : g < 4) : (initM S).lv g = wordsOf (S.lv g) := newWords_lv h hg
theorem scrL_v (B : ScrM) (S : PScript) {g : Nat} (hg : g < 4) : (scrL B S)[g]? = some (.slice (B.v g).a (B.v g).n (B.v g).c) := by
  have : g = 0 ∨ g = 1 ∨ g = 2 ∨ g = 3 := by omega
  rcases this with rfl | rfl | rfl | rfl <;> rfl
set_option maxRecDepth 100000 in
set_option maxHeartbeats 4000000 in
theorem machNewLaw_any (B : ScrM) (S : PScript) (w : World) (h : ScrIs w B S) :
    Calls Tryz.prog 8 #[scrA B S] w fun e w' => e = .returned (.bool true) ∧ Below w.heap.size w w' := by
  have hNew := hide fun (W : World) (hb : Below w.heap.size w W) => machNew_any B S W (h.below hb)
  have hAw := hide fun (W : World) => awake12_any W
  have HB := hide h
  have hXL := hide h.starts.len
  have hVL : Hid (∀ g, g < 4 → (S.lv g).length = (B.v g).n) := fun g hg => by have := (h.vals g hg).1; omega
  clear h
  obtain ⟨V0, hV0⟩ : ∃ V0, V0 = scrA B S := ⟨_, rfl⟩
  rw [← hV0]
  have HV : Hid (V0.cells = (scrL B S).toArray) := by rw [hV0]; rfl
  clear hV0
  have HS := hide (St.refl w)
  go_enter Tryz.func8, Tryz.ntmps8
  go_wp2_with (first | ((with_reducible refine isList ?_); first | (refine st_box HS _ _ rfl rfl (scrL B S) HV.out ?_; clear HS; intro W bx HS)))
  refine (hAw.out _).mono ?_
  (rintro e Wq ⟨rfl, hb⟩; have HSq := hide (HS.out.on hb); clear HS hb; replace HS := HSq; clear HSq)
  clear hAw
  go_wp2_with (first | ((with_reducible refine isList ?_); first | (refine st_loadA HS 0 rfl _ _ rfl rfl rfl (by decide +kernel) (by kernel_rfl) ?_)))
  refine (hNew.out _ HS.out.below).mono ?_
  clear hNew
  cases hok : scrOk S
  · rw [newP_no hok]
    (rintro e Wq ⟨A2, rfl, hO, hb⟩; have HSq := hide (HS.out.push hb (machI (fun k => _) A2 _) (machI_loc _ _ _) hO fun k hk => hk); generalize (fun k => _) = D2 at HSq; clear HS hb hO; replace HS := HSq; clear HSq)
    go_wp2_with (first | ((with_reducible refine isList ?_); first | (refine st_alloc HS _ rfl rfl zeroML zeroM ?_; clear HS; intro W ba HS) | (refine st_storeA HS 0 rfl _ _ _ rfl rfl rfl _ rfl rfl (by kernel_rfl) rfl ?_; clear HS; intro W HS) | (refine st_loadA HS 0 rfl _ _ rfl rfl rfl (by decide +kernel) (by kernel_rfl) ?_)) | (go_at_call 27; refine (num_any _ _).mono ?_; rintro e w' ⟨rfl, rfl⟩))
    refine (sameMachine_yes A2 noMac noMach _ (MachOwn.is (show MachOwn D2 _ A2 noMach from HS.out.get 1 rfl)) (machIs_none _)).mono ?_
    (rintro e Wq ⟨rfl, hb⟩; have HSq := hide (HS.out.on hb); clear HS hb; replace HS := HSq; clear HSq)
    go_wp2
    go_ret
    exact ⟨rfl, HS.out.below⟩
  rw [newP_yes hok]
  have hv : valsOk S = true := by
    unfold scrOk at hok
    simp only [Bool.and_eq_true] at hok
    exact hok.2.1
  have hmay : machMay (initM S) = true := by
    unfold scrOk at hok
    simp only [Bool.and_eq_true] at hok
    exact hok.2.2
  have hMay := hide fun (A : MacM) (W : World) (hm : MachIs W A (initM S)) => gmachMay_any A (initM S) W hm
  rw [hmay] at hMay
  have f1 : Hid ((initM S).clocks = [0, 0, 0, 0]) := rfl
  have f2 : Hid ((initM S).ceil = S.ceil) := rfl
  have f3 : Hid ((initM S).trace = []) := rfl
  have f4 := hide (initM_len S)
  have f5 : Hid (∀ g, g < 4 → (initM S).lv g = wordsOf (S.lv g)) := fun g hg => initM_lv hv hg
  have f6 : Hid (∀ k, k < S.starts.length → (initM S).at k = initS (S.at k)) := fun k hk => initM_at hk
  clear hok hv hmay
  generalize initM S = N at *
  (rintro e Wq ⟨A2, rfl, hO, hb⟩; have HSq := hide (HS.out.push hb (machI (fun k => _) A2 _) (machI_loc _ _ _) hO fun k hk => hk); generalize (fun k => _) = D2 at HSq; clear HS hb hO; replace HS := HSq; clear HSq)
  have n2 := (MachOwn.is (show MachOwn D2 _ A2 N from HS.out.get 0 rfl)).sess.1
  have nE : A2.e.n = 0 := by
    have := (MachOwn.is (show MachOwn D2 _ A2 N from HS.out.get 0 rfl)).trace.1
    rw [f3.out] at this
    simp at this; omega
  have n3 : A2.s.n = B.t.n := by have := f4.out; have := hXL.out; omega
  replace n2 := hide n2
  go_upto_region 6 with (first | ((with_reducible refine isList ?_); first | (refine st_alloc HS _ rfl rfl zeroML zeroM ?_; clear HS; intro W ba HS) | (refine st_storeA HS 0 rfl _ _ _ rfl rfl rfl _ rfl rfl (by kernel_rfl) rfl ?_; clear HS; intro W HS)) | (go_at_call 27; refine (num_any _ _).mono ?_; rintro e w' ⟨rfl, rfl⟩))
  replace HS : Hid (St w W [blkI ba (machL A2 N), machI D2 A2 N, blkI bx (scrL B S)]) := HS
  obtain ⟨-, -, -, -, a4, a5, a6, a7, a8, a9, a10⟩ := (HS.out.blk 0 rfl).mac
  rw [f1.out] at a4 a5 a6 a7
  rw [f2.out] at a8
  rw [n3] at a9
  rw [nE] at a10
  have x4 : W.cell? ⟨bx, 4, none⟩ = some (.int .i64 S.ceil) := (HS.out.blk 2 rfl).cell 4 _ rfl
  have x5 : W.cell? ⟨bx, 5, none⟩ = some (.slice B.t.a B.t.n B.t.c) := (HS.out.blk 2 rfl).cell 5 _ rfl
  have Q := fun W => quad_eq 0 0 0 0 0 0 0 0 W
  simp only [beq_self_eq_true, Bool.and_self] at Q
  replace a4 : W.cell? ⟨ba, 4, none⟩ = some (.int .i64 0) := a4
  replace a5 : W.cell? ⟨ba, 5, none⟩ = some (.int .i64 0) := a5
  replace a6 : W.cell? ⟨ba, 6, none⟩ = some (.int .i64 0) := a6
  replace a7 : W.cell? ⟨ba, 7, none⟩ = some (.int .i64 0) := a7
  go_wp2_with (first | ((with_reducible refine isList ?_); first | (refine st_loadA HS 0 rfl _ _ rfl rfl rfl (by decide +kernel) (by kernel_rfl) ?_)))
  refine (hMay.out A2 _ (MachOwn.is (show MachOwn D2 _ A2 N from HS.out.get 1 rfl))).mono ?_
  clear a4 a5 a6 a7 a8 a9 a10 x4 x5 Q
  (rintro e Wq ⟨rfl, hb⟩; have HSq := hide (HS.out.on hb); clear HS hb; replace HS := HSq; clear HSq)
  clear hMay
  have hown : Hid (∀ g, g < 4 → 0 < (A2.w g).n → ∃ b, (A2.w g).a = some ⟨b, 0, none⟩) := fun g hg h0 => by
    obtain ⟨b, e, _⟩ := (show MachOwn D2 _ A2 N from HS.out.get 1 rfl).own g (by unfold MacM.num; omega) (by rw [A2.sl_w hg]; exact h0)
    rw [A2.sl_w hg] at e
    exact ⟨b, e⟩
  have hlen : Hid (∀ g, g < 4 → (A2.w g).n = (B.v g).n) := fun g hg => by
    have h1 := ((MachOwn.is (show MachOwn D2 _ A2 N from HS.out.get 1 rfl)).words g hg).1
    rw [f5.out g hg] at h1
    unfold wordsOf at h1
    rw [List.length_map, List.length_range, hVL.out g hg] at h1
    omega
  go_upto_region 9 with fail
  go_loopw [5] (fun i wr => ∃ g : Nat, g ≤ 4 ∧ i = .int .i64 g ∧ Hid (St w wr [blkI ba (machL A2 N), machI D2 A2 N, blkI bx (scrL B S)])) (fun i _ => 4 - (intOf i).toNat)
  case atStart => exact ⟨0, by omega, rfl, HS⟩
  case round =>
    clear HS
    obtain ⟨g, hg, rfl, HS⟩ := hrel
    by_cases hlt : g < 4
    · have j1 : (g : Int) < 4 := by omega
      have eb := hide (hlen.out g hlt)
      have ca := (HS.out.blk 0 rfl).cell g _ (machL_w A2 N hlt)
      have cb := (HS.out.blk 2 rfl).cell g _ (scrL_v B S hlt)
      rw [eb.out] at ca
      have hn5 : (B.v g).n ≤ 1152921504606846976 := by have := (HB.out.vals g hlt).2.1.1; omega
      go_upto_region 11 with fail
      go_big_quiet (fail)
      clear ca cb
      replace HS := hide (HS.out.drawn nq)
      generalize World.drewN _ _ = Wd at *
      go_wp2
      go_loopw [6] (fun i wr => ∃ j : Nat, j ≤ (B.v g).n ∧ i = .int .i64 j ∧ Hid (St w wr [blkI ba (machL A2 N), machI D2 A2 N, blkI bx (scrL B S)])) (fun i _ => (B.v g).n - (intOf i).toNat)
      case atStart => exact ⟨0, Nat.zero_le _, rfl, HS⟩
      case round =>
        clear HS
        obtain ⟨j, hj0, rfl, HS⟩ := hrel
        have ca := (HS.out.blk 0 rfl).cell g _ (machL_w A2 N hlt)
        rw [eb.out] at ca
        by_cases hj : j < (B.v g).n
        · have j2 : (j : Int) < ((B.v g).n : Int) := by omega
          obtain ⟨bw, ew⟩ := hown.out g hlt (by have := eb.out; omega)
          have r1 := (MachOwn.is (show MachOwn D2 _ A2 N from HS.out.get 1 rfl)).wrange hlt (j := j) (by have := eb.out; omega) ew
          obtain ⟨bv, ov, ev, _, cv⟩ := ((HB.out.below HS.out.below).vals g hlt).2.2 j (by omega)
          obtain ⟨y0, y1, y2⟩ := wordsOf_lz (l := S.lv g) (j := j) (by have := hVL.out g hlt; omega)
          rw [f5.out g hlt, y0, y1, y2, Nat.zero_add] at r1
          have cb := (HS.out.blk 2 rfl).cell g _ (scrL_v B S hlt)
          rw [ev] at cb
          rw [ew] at ca
          have c0 := r1 0 _ rfl
          have c1 := r1 1 _ rfl
          have c2 := r1 2 _ rfl
          rw [Nat.add_zero] at c0
          clear r1 y0 y1 y2
          replace ew := hide ew; replace ev := hide ev
          go_upto_region 16 with fail
          go_big_quiet (fail)
          clear ca cb c0 c1 c2 cv
          replace HS := hide (HS.out.drawn nq)
          generalize World.drewN _ _ = Wd at *
          go_wp2
          go_roundw
          case rel => exact ⟨j + 1, by omega, by go_num, HS⟩
          case measure => simp [intOf]; omega
        · obtain rfl : j = (B.v g).n := by omega
          go_wp2
          go_roundw
          case rel => exact ⟨g + 1, by omega, by go_num, HS⟩
          case measure => simp [intOf]; omega
    · obtain rfl : g = 4 := by omega
      go_wp2
      go_loopw [7] (fun i wr => ∃ k : Nat, k ≤ B.t.n ∧ i = .int .i64 k ∧ Hid (St w wr [blkI ba (machL A2 N), machI D2 A2 N, blkI bx (scrL B S)])) (fun i _ => B.t.n - (intOf i).toNat)
      case atStart => exact ⟨0, Nat.zero_le _, rfl, HS⟩
      case round =>
        clear HS
        obtain ⟨k, hk0, rfl, HS⟩ := hrel
        have cx : wr.cell? ⟨bx, 5, none⟩ = some (.slice B.t.a B.t.n B.t.c) := (HS.out.blk 2 rfl).cell 5 _ rfl
        by_cases hk : k < B.t.n
        · have j2 : (k : Int) < (B.t.n : Int) := by omega
          obtain ⟨bs, off, hbs, hbl, hr⟩ := (HB.out.below HS.out.below).starts.range hk
          replace hr := hide hr
          rw [hbs] at cx
          clear hbs
          go_upto_region 22 with (first | (refine wpList_load_at _ _ rfl rfl bs (off + k * 4) rfl (startOf (B.p k) (S.at k)) (by decide +kernel) (by kernel_rfl) hr.out ?_) | (refine st_alloc HS _ rfl rfl zeroCL zeroC ?_; clear HS; intro W bst HS) | (refine st_storeA HS 0 rfl _ _ _ rfl rfl rfl (startOf (B.p k) (S.at k)) rfl rfl (by kernel_rfl) rfl ?_; clear HS; intro W HS))
          replace HS : Hid (St w W [blkI bst [.int .i64 (lz (S.at k).num 0), .int .i64 (lz (S.at k).num 1), .int .i64 (lz (S.at k).num 2), .slice (B.p k).a (B.p k).n (B.p k).c], blkI ba (machL A2 N), machI D2 A2 N, blkI bx (scrL B S)]) := HS
          clear cx hr hbl
          have hk2 : k < A2.s.n := by omega
          have i2 : (k : Int) < (A2.s.n : Int) := by omega
          replace n3 := hide n3
          obtain ⟨s2, e2, _⟩ := MachOwn.sblk (show MachOwn D2 _ A2 N from HS.out.get 2 rfl) hk2
          replace e2 := hide e2
          have hcl : Hid (∀ W', Blk W' bst [.int .i64 (lz (S.at k).num 0), .int .i64 (lz (S.at k).num 1), .int .i64 (lz (S.at k).num 2), .slice (B.p k).a (B.p k).n (B.p k).c] → Blk W' ba (machL A2 N) → MachOwn D2 W' A2 N → (fun W' => W'.cell? ⟨ba, 9, none⟩ = some (.slice (some ⟨s2, 0, none⟩) A2.s.n A2.s.c) ∧ W'.rangeAt s2 (k * 17) (sessOf (A2.q k) (N.at k)) ∧ Blk W' bst [.int .i64 (lz (S.at k).num 0), .int .i64 (lz (S.at k).num 1), .int .i64 (lz (S.at k).num 2), .slice (B.p k).a (B.p k).n (B.p k).c]) W') := fun W' h1 h2 h3 => by
            obtain ⟨q1, q2⟩ := h3.scell h2 n2.out e2.out
            exact ⟨q1, q2 k hk2, h1⟩
          (try simp only [Act.put, List.setIfInBounds_toArray, List.set_cons_zero, List.set_cons_succ])
          refine wp_region_mid [true, true, true, true, true, true, true, true, true, true, true, true, true, true, false, false] 14 _ [false, false, false, false, false, false, false, false, false, false, false, false, false, false, false, true] (fun W' => W'.cell? ⟨ba, 9, none⟩ = some (.slice (some ⟨s2, 0, none⟩) A2.s.n A2.s.c) ∧ W'.rangeAt s2 (k * 17) (sessOf (A2.q k) (N.at k)) ∧ Blk W' bst [.int .i64 (lz (S.at k).num 0), .int .i64 (lz (S.at k).num 1), .int .i64 (lz (S.at k).num 2), .slice (B.p k).a (B.p k).n (B.p k).c]) (by kernel_rfl) (by kernel_rfl) (by kernel_rfl) rfl (by decide +kernel) (hcl.out _ (HS.out.drew.blk 0 rfl) (HS.out.drew.blk 1 rfl) (HS.out.drew.get 2 rfl)) ?_
          intro kne
          simp only [pickAt]
          repeat (first | ((first | (refine wpQuiet_ld _ _ rfl ⟨ba, 9, none⟩ rfl rfl (by decide +kernel) (fun w hC => hC.1) ?_) | (refine wpQuiet_la _ _ rfl s2 (k * 17) rfl rfl (by decide +kernel) (sessOf (A2.q k) (N.at k)) (by kernel_rfl) (fun w hC => hC.2.1) ?_) | (refine wpQuiet_ld _ _ rfl ⟨bst, 0, none⟩ rfl rfl (by decide +kernel) (fun w hC => hC.2.2.cell 0 _ rfl) ?_) | (refine wpQuiet_ld _ _ rfl ⟨bst, 1, none⟩ rfl rfl (by decide +kernel) (fun w hC => hC.2.2.cell 1 _ rfl) ?_) | (refine wpQuiet_ld _ _ rfl ⟨bst, 2, none⟩ rfl rfl (by decide +kernel) (fun w hC => hC.2.2.cell 2 _ rfl) ?_) | (refine wpQuiet_ld _ _ rfl ⟨bst, 3, none⟩ rfl rfl (by decide +kernel) (fun w hC => hC.2.2.cell 3 _ rfl) ?_)); simp only [Act.put, List.setIfInBounds_toArray, List.set_cons_zero, List.set_cons_succ]) | go_big_quiet_step (fail))
          refine wpQuiet_nil ?_
          clear kne
          replace HS := hide HS.out.drew
          generalize World.drew _ = Wd at *
          refine wpMid_op rfl fun K hK => ?_
          go_big_op
          have eI := f6.out k (by have := hXL.out; omega)
          have hSS := sameSess_any (A2.q k) ⟨B.p k, noSl, noSl⟩ (initS (S.at k)) Wd (by rw [← eI]; exact (MachOwn.is (show MachOwn D2 _ A2 N from HS.out.get 2 rfl)).sess.2.2.2 k hk2) ⟨rfl, ((HB.out.below HS.out.below).starts.each k hk).2, slIs_none _ 3, slIs_none _ 3⟩
          rw [← eI] at hSS
          have e3 : (Value.agg (sessOf ⟨B.p k, noSl, noSl⟩ (N.at k)).toArray) = .agg #[.int .i64 (lz (S.at k).num 0), .int .i64 (lz (S.at k).num 1), .int .i64 (lz (S.at k).num 2), .slice (B.p k).a (B.p k).n (B.p k).c, .int .i64 0, .int .i64 0, .int .i64 0, .int .i64 0, .int .i64 0, .int .i64 0, .slice none 0 0, .slice none 0 0, .int .i64 0, .int .i64 0, .int .i64 0, .int .i64 0, .int .i64 0] := by rw [eI]; rfl
          rw [e3] at hSS
          replace hSS := hide hSS
          clear eI e3
          refine hSS.out.mono ?_
          clear hSS
          (rintro e Wq ⟨rfl, hb⟩; have HSq := hide (HS.out.on hb); clear HS hb; replace HS := HSq; clear HSq)
          have hCC := hcl.out _ (HS.out.blk 0 rfl) (HS.out.blk 1 rfl) (HS.out.get 2 rfl)
          refine hK _ _ (InC.mk hCC) ?_
          clear hK K
          have kne : Nonempty (Cls (fun W' => W'.cell? ⟨ba, 9, none⟩ = some (.slice (some ⟨s2, 0, none⟩) A2.s.n A2.s.c) ∧ W'.rangeAt s2 (k * 17) (sessOf (A2.q k) (N.at k)) ∧ Blk W' bst [.int .i64 (lz (S.at k).num 0), .int .i64 (lz (S.at k).num 1), .int .i64 (lz (S.at k).num 2), .slice (B.p k).a (B.p k).n (B.p k).c])) := ⟨⟨_, hCC⟩⟩
          clear hCC
          (try simp only [Act.put, List.setIfInBounds_toArray, List.set_cons_zero, List.set_cons_succ])
          repeat (go_big_quiet_step (fail))
          refine wpQuiet_nil ?_
          clear kne hcl
          refine NoPanic.normal ?_
          replace HS := hide HS.out.tail
          have hn6 : B.t.n ≤ 1152921504606846976 := by have := HB.out.starts.fit.1; omega
          go_wp2
          go_roundw
          case rel => exact ⟨k + 1, by omega, by go_num, HS⟩
          case measure => simp [intOf]; omega
        · obtain rfl : k = B.t.n := by omega
          go_wp2
          go_ret
          exact ⟨rfl, HS.out.below⟩
end Go.Proofs.YtjjokalheloimaaGreat
