/-
  The document's Calc.
-/
import Derived.Test.YtnjognmnbpcaaaaGreatZhStoreRef
import Derived.Test.YtnjognmnbpcaaaaGreatZlac
namespace Go.Proofs.YtnjognmnbpcaaaaGreat
open Go.RowKit
set_option linter.unusedSimpArgs false
set_option linter.unusedVariables false
/-- The registers behind it; the place. -/
def calcR (x : PSess) : Nat → Int := if runP x = 0 then setC (regsI (lz x.num)) (x.ins 1) (x.ins 2) else if runP x = 1 then addC (regsI (lz x.num)) (x.ins 1) (x.ins 2) else regsI (lz x.num)
def calcTo (x : PSess) : Int := if runP x = 4 ∧ x.reg (x.ins 1).toNat = 0 then x.ins 2 else x.pc + 1
def calcP (M : PMach) (i : Int) : PMach × Int :=
  bif hereP M i && (decide (runP (M.at i.toNat) = 0) || (decide (runP (M.at i.toNat) = 1) || decide (runP (M.at i.toNat) = 4))) then
    ((M.doR i.toNat (calcR (M.at i.toNat) 0) (calcR (M.at i.toNat) 1) (calcR (M.at i.toNat) 2) (calcR (M.at i.toNat) 3)).doN i.toNat 4 (calcTo (M.at i.toNat)), 0)
  else (noMach, 1700)
theorem calcP_yes {M : PMach} {k : Nat} (hh : hereP M k = true) (hr : runP (M.at k) = 0 ∨ runP (M.at k) = 1 ∨ runP (M.at k) = 4) {R : Nat → Int} {T : Int} (hR : calcR (M.at k) = R) (hT : calcTo (M.at k) = T) :
    calcP M k = ((M.doR k (R 0) (R 1) (R 2) (R 3)).doN k 4 T, 0) := by
  unfold calcP
  rw [hh, Int.toNat_natCast, hR, hT]
  rcases hr with h | h | h <;> rw [h] <;> rfl
theorem InsAt.reg {A : MacM} {M : PMach} {k p : Nat} (h : InsAt A M k p) (hc : lz (M.at k).prog (p * 4) = 4) : ∃ a : Nat, lz (M.at k).prog (p * 4 + 1) = a ∧ a < 4 := by
  have := h.may
  rw [instMay_4 (by show lz (M.at k).prog (p * 4 + 0) = 4; rw [Nat.add_zero]; exact hc)] at this
  obtain ⟨h1, _, _⟩ := and3b this
  obtain ⟨a, ha, ha'⟩ := upToV_nat (m := 3) h1
  exact ⟨a, ha, by omega⟩
theorem sess_regs {w : World} {b : Nat} {i : Nat → Int} {p r t : Value} (h : Blk w b (sessL i p r t)) : w.rangeAt b 6 [.int .i64 (i 5), .int .i64 (i 6), .int .i64 (i 7), .int .i64 (i 8)] := h.part 6 (r := [r, t, .int .i64 (i 9), .int .i64 (i 10), .int .i64 (i 11), .int .i64 (i 12), .int .i64 (i 13)]) rfl
set_option maxRecDepth 100000 in
set_option maxHeartbeats 4000000 in
theorem rcalc_any (A : MacM) (M : PMach) (i : Int) (w : World) (h : MachIs w A M) :
    Calls Tryz.prog 10 #[machA A M, .int .i64 i] w (MRet w (calcP M i)) := by
  have hX := hide h.sess.1
  have hHere := hide fun (i : Int) (W : World) (hb : Below w.heap.size w W) => rhere_any A M i W (h.below hb)
  have hRun := hide fun (k : Nat) (hk : k < A.s.n) (hp : 0 ≤ (M.at k).pc) (W : World) (hb : Below w.heap.size w W) => rrunning_any A M k W (h.below hb) hk hp
  have hNeeds := hide fun (i : Int) (W : World) (hb : Below w.heap.size w W) => rneeds_any A M i W (h.below hb)
  have hAgain := hide fun (i c : Int) (W : World) (hb : Below w.heap.size w W) => ragain_any A M i c W (h.below hb)
  have hEnd := hide fun (i a b : Int) (W : World) (hb : Below w.heap.size w W) => rend_any A M i a b W (h.below hb)
  have hCopy := hide fun (W : World) (hb : Below w.heap.size w W) => rcopyMach_any A M W (h.below hb)
  have hrng := hide fun (k : Nat) (hk : k < A.s.n) (W : World) (hb : Below w.heap.size w W) => (h.below hb).sess.range hk
  have hSes : Hid (∀ (k : Nat) (hk : k < A.s.n) (W : World) (hb : Below w.heap.size w W), SessIs W (A.q k) (M.at k)) := fun k hk W hb => (h.below hb).sess.2.2.2 k hk
  have hIns := hide fun (k : Nat) (hk : k < A.s.n) (hok : SessOk M.lens (M.at k)) (c : Int) (hr : runP (M.at k) = c) (hc : c ≠ -1) => ins_at h hk hok hr hc
  obtain ⟨V0, hV0⟩ : ∃ V0, V0 = machA A M := ⟨_, rfl⟩
  rw [← hV0]
  have HV : Hid (V0.cells = (machL A M).toArray) := by rw [hV0]; rfl
  clear hV0
  have HM := hide h
  have HS := hide (St.refl w)
  clear h
  go_enter Tryz.func10, Tryz.ntmps10
  go_wp2_with (first | ((with_reducible refine isList ?_); first | (refine st_box HS _ _ rfl rfl (machL A M) HV.out ?_; clear HS; intro W bm HS) | (refine st_alloc HS _ rfl rfl zeroML zeroM ?_; clear HS; intro W br HS) | (refine st_loadA HS 1 rfl _ _ rfl rfl rfl (by decide +kernel) (by kernel_rfl) ?_)))
  refine (hHere.out i _ HS.out.below).mono ?_
  rintro e W1 ⟨rfl, hb⟩
  replace HS := hide (HS.out.on hb)
  clear hb hHere
  cases hh : hereP M i
  case false =>
    go_wp2_with (first | ((with_reducible refine isList ?_); first | (refine st_storeA HS 0 rfl _ _ _ rfl rfl rfl _ rfl rfl (by kernel_rfl) rfl ?_; clear HS; intro W HS)))
    rw [show calcP M i = (noMach, 1700) by unfold calcP; rw [hh]; rfl]
    exact bodyPost_ret (ret_mach2 Tryz.results10 (HS.out.blk 0 rfl) rfl rfl rfl) rfl (mret_no HS.out.below)
  obtain ⟨hmay, k, rfl, hk0⟩ := hereP_yes hh
  have hk : k < A.s.n := by have := hX.out; omega
  have hok := hide (here_sess hmay hk0)
  have i2 : (k : Int) < (A.s.n : Int) := by omega
  replace hmay := hide hmay
  replace hh := hide hh
  go_wp2_with (first | ((with_reducible refine isList ?_); first | (refine st_loadA HS 1 rfl _ _ rfl rfl rfl (by decide +kernel) (by kernel_rfl) ?_)))
  refine (hCopy.out _ HS.out.below).mono ?_
  rintro e W2 ⟨A1, rfl, hO, hb⟩
  have HS1 := hide (HS.out.push hb (machI (fun k => _) A1 M) (machI_loc _ _ _) hO fun k hk => hk)
  generalize (fun k => _) = D1 at HS1
  have hk1 : k < A1.s.n := by have := hO.is.sess.1; have := hX.out; omega
  have i4 : (k : Int) < (A1.s.n : Int) := by omega
  obtain ⟨bs1, hbs1, _⟩ := MachOwn.sblk hO hk1
  clear HS hb hO hCopy
  replace HS := HS1
  clear HS1
  replace hbs1 := hide hbs1
  go_upto_region 4 with (first | ((with_reducible refine isList ?_); first | (refine st_alloc HS _ rfl rfl zeroML zeroM ?_; clear HS; intro W bo HS) | (refine st_storeA HS 0 rfl _ _ _ rfl rfl rfl _ rfl rfl (by kernel_rfl) rfl ?_; clear HS; intro W HS)))
  replace HS : Hid (St w W [blkI bo (machL A1 M), machI D1 A1 M, blkI br zeroML, blkI bm (machL A M)]) := HS
  obtain ⟨bs, off, hbs, hbl, hR⟩ := hrng.out k hk _ HS.out.below
  replace hR := hide hR
  go_upto_region 5 with (first | ((with_reducible refine isList ?_); first | (refine st_load1 HS 3 rfl _ _ rfl _ rfl rfl (by decide +kernel) rfl ?_) | (refine wpList_load_at _ _ rfl rfl bs (off + k * 17) rfl (sessOf (A.q k) (M.at k)) (by decide +kernel) (by kernel_rfl) hR.out ?_) | (refine st_alloc HS _ rfl rfl zeroSL zeroS ?_; clear HS; intro W bx HS) | (refine st_storeA HS 0 rfl _ _ _ rfl rfl rfl _ rfl rfl (by kernel_rfl) rfl ?_; clear HS; intro W HS)))
  replace HS : Hid (St w W [blkI bx (sessL (lz (M.at k).num) (.slice (A.q k).p.a (A.q k).p.n (A.q k).p.c) (.slice (A.q k).r.a (A.q k).r.n (A.q k).r.c) (.slice (A.q k).t.a (A.q k).t.n (A.q k).t.c)), blkI bo (machL A1 M), machI D1 A1 M, blkI br zeroML, blkI bm (machL A M)]) := HS
  clear hR hbs
  have hp0 := hok.out.pc
  have hpn : (M.at k).pn ≤ 16 := by
    have hs := hok.out.start
    unfold startMay at hs
    simp only [Bool.and_eq_true] at hs
    exact (progMay_get hs.2.2).2
  obtain ⟨p, hp⟩ : ∃ p : Nat, lz (M.at k).num 4 = p := ⟨(lz (M.at k).num 4).toNat, (Int.toNat_of_nonneg hp0.1).symm⟩
  have hp16 : p ≤ 16 := by omega
  replace hp := hide hp
  have hx5 : Hid (∀ W' (b : Nat), Blk W' b (sessL (lz (M.at k).num) (.slice (A.q k).p.a (A.q k).p.n (A.q k).p.c) (.slice (A.q k).r.a (A.q k).r.n (A.q k).r.c) (.slice (A.q k).t.a (A.q k).t.n (A.q k).t.c)) → W'.cell? ⟨b, 5, none⟩ = some (.int .i64 p)) := fun W' b h => by rw [← hp.out]; exact h.cell 5 _ rfl
  clear hp0 hpn
  have HB0 := HS.out.blk 0 rfl
  (try simp only [Act.put, List.setIfInBounds_toArray, List.set_cons_zero, List.set_cons_succ])
  refine wp_region_mask [true, true, true, true, true, false, false, false] [false, false, false, false, false, true, true, true] [0, 0, 2] (fun w' => Blk w' bx (sessL (lz (M.at k).num) (.slice (A.q k).p.a (A.q k).p.n (A.q k).p.c) (.slice (A.q k).r.a (A.q k).r.n (A.q k).r.c) (.slice (A.q k).t.a (A.q k).t.n (A.q k).t.c))) (by kernel_rfl) (by kernel_rfl) (by kernel_rfl) (by decide +kernel) HB0.drew ?_
  intro kne
  simp only [pickAt]
  repeat (first | ((first | (refine wpQuiet_la _ _ rfl bx (6) rfl rfl (by decide +kernel) [.int .i64 (lz (M.at k).num 5), .int .i64 (lz (M.at k).num 6), .int .i64 (lz (M.at k).num 7), .int .i64 (lz (M.at k).num 8)] (by kernel_rfl) (fun w hC => sess_regs hC) ?_) | (refine wpQuiet_ld _ _ rfl ⟨bx, 5, none⟩ rfl rfl (by decide +kernel) (fun w hC => hx5.out _ _ hC) ?_)); simp only [Act.put, List.setIfInBounds_toArray, List.set_cons_zero, List.set_cons_succ]) | go_big_quiet_step (fail))
  refine wpQuiet_nil ?_
  clear kne HB0
  replace HS := hide HS.out.drew
  generalize W.drew = Wd at *
  refine wpRest_cons rfl rfl fun K hK => ?_
  refine stw_alloc HS _ rfl zeroQL zeroQ ?_
  clear HS
  intro W4 bg HS
  refine hK _ _ (fun _ => InC.mk (HS.out.blk 1 rfl)) ?_
  clear hK K
  (try simp only [Act.put, List.setIfInBounds_toArray, List.set_cons_zero, List.set_cons_succ])
  refine wpRest_cons rfl rfl fun K hK => ?_
  refine stw_storeA HS 0 rfl _ _ _ rfl rfl [.int .i64 (lz (M.at k).num 5), .int .i64 (lz (M.at k).num 6), .int .i64 (lz (M.at k).num 7), .int .i64 (lz (M.at k).num 8)] rfl rfl (by kernel_rfl) rfl ?_
  clear HS
  intro W5 HS
  refine hK _ _ (fun _ => InC.mk (HS.out.blk 1 rfl)) ?_
  clear hK K
  (try simp only [Act.put, List.setIfInBounds_toArray, List.set_cons_zero, List.set_cons_succ])
  refine wpRest_assign _ rfl rfl rfl (wpRest_nil ?_)
  (try simp only [Act.put, List.setIfInBounds_toArray, List.set_cons_zero, List.set_cons_succ])
  refine NoPanic.normal ?_
  replace HS : Hid (St w W5 [blkI bg [.int .i64 (regsI (lz (M.at k).num) 0), .int .i64 (regsI (lz (M.at k).num) 1), .int .i64 (regsI (lz (M.at k).num) 2), .int .i64 (regsI (lz (M.at k).num) 3)], blkI bx (sessL (lz (M.at k).num) (.slice (A.q k).p.a (A.q k).p.n (A.q k).p.c) (.slice (A.q k).r.a (A.q k).r.n (A.q k).r.c) (.slice (A.q k).t.a (A.q k).t.n (A.q k).t.c)), blkI bo (machL A1 M), machI D1 A1 M, blkI br zeroML, blkI bm (machL A M)]) := HS
  go_wp2_with (first | ((with_reducible refine isList ?_); first | (refine st_loadA HS 5 rfl _ _ rfl rfl rfl (by decide +kernel) (by kernel_rfl) ?_)))
  refine (hRun.out k hk hok.out.pc.1 _ HS.out.below).mono ?_
  rintro e W3 ⟨rfl, hb⟩
  replace HS := hide (HS.out.on hb)
  clear hb hRun
  replace hbs1 := hbs1.out
  obtain ⟨c, hc⟩ : ∃ c, c = runP (M.at k) := ⟨_, rfl⟩
  rw [← hc]
  by_cases hyes : c = 0 ∨ c = 1 ∨ c = 4
  · obtain ⟨p', hI⟩ := hIns.out k hk hok.out c hc.symm (by omega)
    obtain rfl : p' = p := by have := hI.pc; have := hp.out; omega
    have hlt := hI.lt
    have i1 : (p' : Int) < ((A.q k).p.n : Int) := by omega
    obtain ⟨a, ha⟩ : ∃ a, a = lz (M.at k).prog (p' * 4 + 1) := ⟨_, rfl⟩
    obtain ⟨b, hb⟩ : ∃ b, b = lz (M.at k).prog (p' * 4 + 2) := ⟨_, rfl⟩
    obtain ⟨bp, op, hbp, _⟩ := (hSes.out k hk _ HS.out.below).2.1.four hlt
    have hpi : Hid (∀ W', Below w.heap.size w W' → W'.cell? ⟨bp, op + p' * 4 + 1, none⟩ = some (.int .i64 a) ∧ W'.cell? ⟨bp, op + p' * 4 + 2, none⟩ = some (.int .i64 b)) := fun W' hw => by
      obtain ⟨bp', op', e, _, hR'⟩ := (hSes.out k hk _ hw).2.1.four hlt
      rw [hbp] at e; cases e
      rw [ha, hb]
      exact ⟨hR' 1 _ rfl, hR' 2 _ rfl⟩
    have hx3 : Hid (∀ W' (b : Nat), Blk W' b (sessL (lz (M.at k).num) (.slice (A.q k).p.a (A.q k).p.n (A.q k).p.c) (.slice (A.q k).r.a (A.q k).r.n (A.q k).r.c) (.slice (A.q k).t.a (A.q k).t.n (A.q k).t.c)) → W'.cell? ⟨b, 3, none⟩ = some (.slice (some ⟨bp, op, none⟩) (A.q k).p.n (A.q k).p.c)) := fun W' b h => by rw [← hbp]; exact h.cell 3 _ rfl
    clear hbp
    rcases hyes with h0 | h0 | h0
    · have hr : runP (M.at k) = 0 := by rw [← hc]; exact h0
      subst h0
      obtain ⟨R, hR⟩ : ∃ R, setC (regsI (lz (M.at k).num)) a b = R := ⟨_, rfl⟩
      replace hc := hide hc
      have eS : Hid (calcP M k = ((M.doR k (R 0) (R 1) (R 2) (R 3)).doN k 4 ((p' : Int) + 1), 0)) := by
        show _ = _
        refine calcP_yes hh.out (.inl hr) ?_ ?_
        · unfold calcR; rw [if_pos hr, hI.ins 1, hI.ins 2, ← ha, ← hb]; exact hR
        · unfold calcTo; rw [if_neg (by omega)]; exact congrArg (· + 1) hp.out
      replace hR := hide hR
      have hQ := hide fun W => rset_any (regsI (lz (M.at k).num)) a b W
      rw [hR.out] at hQ
      replace ha := hide ha
      replace hb := hide hb
      replace hr := hide hr
      replace hI := hide hI
      have c3 := hx3.out _ _ (HS.out.blk 1 rfl)
      have c5 := hx5.out _ _ (HS.out.blk 1 rfl)
      have HB1 := HS.out.blk 1 rfl
      go_upto_region 9 with fail
      (try simp only [Act.put, List.setIfInBounds_toArray, List.set_cons_zero, List.set_cons_succ])
      refine wp_region_mask [true, true, true, true, true, true, true, true, true, true, true, true, true, true, true, true, false, false, false, false, false] [false, false, false, false, false, false, false, false, false, false, false, false, false, false, false, false, true, true, true, true, true] [0, 3, 3, 3, 1] (fun w' => Blk w' bx (sessL (lz (M.at k).num) (.slice (A.q k).p.a (A.q k).p.n (A.q k).p.c) (.slice (A.q k).r.a (A.q k).r.n (A.q k).r.c) (.slice (A.q k).t.a (A.q k).t.n (A.q k).t.c)) ∧ w'.cell? ⟨bp, op + p' * 4 + 1, none⟩ = some (.int .i64 a) ∧ w'.cell? ⟨bp, op + p' * 4 + 2, none⟩ = some (.int .i64 b)) (by kernel_rfl) (by kernel_rfl) (by kernel_rfl) (by decide +kernel) ⟨HB1.drew, hpi.out _ HS.out.drew.below⟩ ?_
      intro kne
      simp only [pickAt]
      repeat (first | ((first | (refine wpQuiet_la _ _ rfl bx (6) rfl rfl (by decide +kernel) [.int .i64 (lz (M.at k).num 5), .int .i64 (lz (M.at k).num 6), .int .i64 (lz (M.at k).num 7), .int .i64 (lz (M.at k).num 8)] (by kernel_rfl) (fun w hC => sess_regs hC.1) ?_) | (refine wpQuiet_ld _ _ rfl ⟨bx, 3, none⟩ rfl rfl (by decide +kernel) (fun w hC => hx3.out _ _ hC.1) ?_) | (refine wpQuiet_ld _ _ rfl ⟨bx, 5, none⟩ rfl rfl (by decide +kernel) (fun w hC => hx5.out _ _ hC.1) ?_) | (refine wpQuiet_ld _ _ rfl ⟨bp, op + p' * 4 + 1, none⟩ rfl rfl (by decide +kernel) (fun w hC => hC.2.1) ?_) | (refine wpQuiet_ld _ _ rfl ⟨bp, op + p' * 4 + 2, none⟩ rfl rfl (by decide +kernel) (fun w hC => hC.2.2) ?_)); simp only [Act.put, List.setIfInBounds_toArray, List.set_cons_zero, List.set_cons_succ]) | go_big_quiet_step (fail))
      refine wpQuiet_nil ?_
      clear kne HB1 c3 c5
      replace HS := hide HS.out.drew
      generalize W3.drew = Wd1 at *
      refine wpRest_cons rfl rfl fun K hK => ?_
      go_big_op
      refine (hQ.out _).mono ?_
      rintro e W4 ⟨rfl, hb⟩
      replace HS := hide (HS.out.on hb)
      clear hb hQ
      refine hK _ _ (fun _ => InC.mk ⟨HS.out.blk 1 rfl, hpi.out _ HS.out.below⟩) ?_
      clear hK K
      (try simp only [Act.put, List.setIfInBounds_toArray, List.set_cons_zero, List.set_cons_succ])
      refine wpRest_move _ rfl rfl rfl ?_
      (try simp only [Act.put, List.setIfInBounds_toArray, List.set_cons_zero, List.set_cons_succ])
      refine wpRest_extract _ 0 rfl rfl rfl rfl ?_
      (try simp only [Act.put, List.setIfInBounds_toArray, List.set_cons_zero, List.set_cons_succ])
      refine wpRest_extract _ 1 rfl rfl rfl rfl ?_
      (try simp only [Act.put, List.setIfInBounds_toArray, List.set_cons_zero, List.set_cons_succ])
      refine wpRest_cons rfl rfl fun K hK => ?_
      refine stw_storeA HS 0 rfl _ _ _ rfl rfl [.int .i64 (R 0), .int .i64 (R 1), .int .i64 (R 2), .int .i64 (R 3)] rfl rfl (by kernel_rfl) rfl ?_
      clear HS
      intro W5 HS
      refine hK _ _ (fun h => by cases h) (wpRest_nil ?_)
      clear hK K
      (try simp only [Act.put, List.setIfInBounds_toArray, List.set_cons_zero, List.set_cons_succ])
      refine NoPanic.normal ?_
      replace HS : Hid (St w W5 [blkI bg [.int .i64 (R 0), .int .i64 (R 1), .int .i64 (R 2), .int .i64 (R 3)], blkI bx (sessL (lz (M.at k).num) (.slice (A.q k).p.a (A.q k).p.n (A.q k).p.c) (.slice (A.q k).r.a (A.q k).r.n (A.q k).r.c) (.slice (A.q k).t.a (A.q k).t.n (A.q k).t.c)), blkI bo (machL A1 M), machI D1 A1 M, blkI br zeroML, blkI bm (machL A M)]) := HS
      go_wp2_with (first | ((with_reducible refine isList ?_); first | (refine st_loadA HS 0 rfl _ _ rfl rfl rfl (by decide +kernel) (by kernel_rfl) ?_) | (refine st_load1 HS 2 rfl _ _ rfl _ rfl rfl (by decide +kernel) rfl ?_) | (refine st_storeG HS 3 rfl hk1 hbs1 _ _ _ rfl _ rfl (show _ = k * 17 + 6 from by with_reducible rfl) rfl rfl (by decide +kernel) ?_; clear HS; intro W HS) | (refine st_storeN HS 3 rfl hk1 hbs1 4 (by decide) _ _ _ rfl _ rfl (show _ = k * 17 + 5 from by with_reducible rfl) rfl rfl (by decide +kernel) ?_; clear HS; intro W HS) | (refine st_loadA HS 2 rfl _ _ rfl rfl rfl (by decide +kernel) (by kernel_rfl) ?_) | (refine st_storeA HS 4 rfl _ _ _ rfl rfl rfl _ rfl rfl (by kernel_rfl) rfl ?_; clear HS; intro W HS)))
      rw [eS.out]
      exact bodyPost_ret (ret_mach2 Tryz.results10 (HS.out.blk 4 rfl) rfl rfl rfl) rfl (mret_of (R := ((M.doR k (R 0) (R 1) (R 2) (R 3)).doN k 4 ((p' : Int) + 1), 0)) HS.out 3 (D := D1) (A := A1) rfl)

    · have hr : runP (M.at k) = 1 := by rw [← hc]; exact h0
      subst h0
      obtain ⟨R, hR⟩ : ∃ R, addC (regsI (lz (M.at k).num)) a b = R := ⟨_, rfl⟩
      replace hc := hide hc
      have eS : Hid (calcP M k = ((M.doR k (R 0) (R 1) (R 2) (R 3)).doN k 4 ((p' : Int) + 1), 0)) := by
        show _ = _
        refine calcP_yes hh.out (.inr (.inl hr)) ?_ ?_
        · unfold calcR; rw [if_neg (by omega), if_pos hr, hI.ins 1, hI.ins 2, ← ha, ← hb]; exact hR
        · unfold calcTo; rw [if_neg (by omega)]; exact congrArg (· + 1) hp.out
      replace hR := hide hR
      have hQ := hide fun W => radd_any (regsI (lz (M.at k).num)) a b W
      rw [hR.out] at hQ
      replace ha := hide ha
      replace hb := hide hb
      replace hr := hide hr
      replace hI := hide hI
      have c3 := hx3.out _ _ (HS.out.blk 1 rfl)
      have c5 := hx5.out _ _ (HS.out.blk 1 rfl)
      have HB1 := HS.out.blk 1 rfl
      go_upto_region 11 with fail
      (try simp only [Act.put, List.setIfInBounds_toArray, List.set_cons_zero, List.set_cons_succ])
      refine wp_region_mask [true, true, true, true, true, true, true, true, true, true, true, true, true, true, true, true, false, false, false, false, false] [false, false, false, false, false, false, false, false, false, false, false, false, false, false, false, false, true, true, true, true, true] [0, 3, 3, 3, 1] (fun w' => Blk w' bx (sessL (lz (M.at k).num) (.slice (A.q k).p.a (A.q k).p.n (A.q k).p.c) (.slice (A.q k).r.a (A.q k).r.n (A.q k).r.c) (.slice (A.q k).t.a (A.q k).t.n (A.q k).t.c)) ∧ w'.cell? ⟨bp, op + p' * 4 + 1, none⟩ = some (.int .i64 a) ∧ w'.cell? ⟨bp, op + p' * 4 + 2, none⟩ = some (.int .i64 b)) (by kernel_rfl) (by kernel_rfl) (by kernel_rfl) (by decide +kernel) ⟨HB1.drew, hpi.out _ HS.out.drew.below⟩ ?_
      intro kne
      simp only [pickAt]
      repeat (first | ((first | (refine wpQuiet_la _ _ rfl bx (6) rfl rfl (by decide +kernel) [.int .i64 (lz (M.at k).num 5), .int .i64 (lz (M.at k).num 6), .int .i64 (lz (M.at k).num 7), .int .i64 (lz (M.at k).num 8)] (by kernel_rfl) (fun w hC => sess_regs hC.1) ?_) | (refine wpQuiet_ld _ _ rfl ⟨bx, 3, none⟩ rfl rfl (by decide +kernel) (fun w hC => hx3.out _ _ hC.1) ?_) | (refine wpQuiet_ld _ _ rfl ⟨bx, 5, none⟩ rfl rfl (by decide +kernel) (fun w hC => hx5.out _ _ hC.1) ?_) | (refine wpQuiet_ld _ _ rfl ⟨bp, op + p' * 4 + 1, none⟩ rfl rfl (by decide +kernel) (fun w hC => hC.2.1) ?_) | (refine wpQuiet_ld _ _ rfl ⟨bp, op + p' * 4 + 2, none⟩ rfl rfl (by decide +kernel) (fun w hC => hC.2.2) ?_)); simp only [Act.put, List.setIfInBounds_toArray, List.set_cons_zero, List.set_cons_succ]) | go_big_quiet_step (fail))
      refine wpQuiet_nil ?_
      clear kne HB1 c3 c5
      replace HS := hide HS.out.drew
      generalize W3.drew = Wd1 at *
      refine wpRest_cons rfl rfl fun K hK => ?_
      go_big_op
      refine (hQ.out _).mono ?_
      rintro e W4 ⟨rfl, hb⟩
      replace HS := hide (HS.out.on hb)
      clear hb hQ
      refine hK _ _ (fun _ => InC.mk ⟨HS.out.blk 1 rfl, hpi.out _ HS.out.below⟩) ?_
      clear hK K
      (try simp only [Act.put, List.setIfInBounds_toArray, List.set_cons_zero, List.set_cons_succ])
      refine wpRest_move _ rfl rfl rfl ?_
      (try simp only [Act.put, List.setIfInBounds_toArray, List.set_cons_zero, List.set_cons_succ])
      refine wpRest_extract _ 0 rfl rfl rfl rfl ?_
      (try simp only [Act.put, List.setIfInBounds_toArray, List.set_cons_zero, List.set_cons_succ])
      refine wpRest_extract _ 1 rfl rfl rfl rfl ?_
      (try simp only [Act.put, List.setIfInBounds_toArray, List.set_cons_zero, List.set_cons_succ])
      refine wpRest_cons rfl rfl fun K hK => ?_
      refine stw_storeA HS 0 rfl _ _ _ rfl rfl [.int .i64 (R 0), .int .i64 (R 1), .int .i64 (R 2), .int .i64 (R 3)] rfl rfl (by kernel_rfl) rfl ?_
      clear HS
      intro W5 HS
      refine hK _ _ (fun h => by cases h) (wpRest_nil ?_)
      clear hK K
      (try simp only [Act.put, List.setIfInBounds_toArray, List.set_cons_zero, List.set_cons_succ])
      refine NoPanic.normal ?_
      replace HS : Hid (St w W5 [blkI bg [.int .i64 (R 0), .int .i64 (R 1), .int .i64 (R 2), .int .i64 (R 3)], blkI bx (sessL (lz (M.at k).num) (.slice (A.q k).p.a (A.q k).p.n (A.q k).p.c) (.slice (A.q k).r.a (A.q k).r.n (A.q k).r.c) (.slice (A.q k).t.a (A.q k).t.n (A.q k).t.c)), blkI bo (machL A1 M), machI D1 A1 M, blkI br zeroML, blkI bm (machL A M)]) := HS
      go_wp2_with (first | ((with_reducible refine isList ?_); first | (refine st_loadA HS 0 rfl _ _ rfl rfl rfl (by decide +kernel) (by kernel_rfl) ?_) | (refine st_load1 HS 2 rfl _ _ rfl _ rfl rfl (by decide +kernel) rfl ?_) | (refine st_storeG HS 3 rfl hk1 hbs1 _ _ _ rfl _ rfl (show _ = k * 17 + 6 from by with_reducible rfl) rfl rfl (by decide +kernel) ?_; clear HS; intro W HS) | (refine st_storeN HS 3 rfl hk1 hbs1 4 (by decide) _ _ _ rfl _ rfl (show _ = k * 17 + 5 from by with_reducible rfl) rfl rfl (by decide +kernel) ?_; clear HS; intro W HS) | (refine st_loadA HS 2 rfl _ _ rfl rfl rfl (by decide +kernel) (by kernel_rfl) ?_) | (refine st_storeA HS 4 rfl _ _ _ rfl rfl rfl _ rfl rfl (by kernel_rfl) rfl ?_; clear HS; intro W HS)))
      rw [eS.out]
      exact bodyPost_ret (ret_mach2 Tryz.results10 (HS.out.blk 4 rfl) rfl rfl rfl) rfl (mret_of (R := ((M.doR k (R 0) (R 1) (R 2) (R 3)).doN k 4 ((p' : Int) + 1), 0)) HS.out 3 (D := D1) (A := A1) rfl)

    · have hr : runP (M.at k) = 4 := by rw [← hc]; exact h0
      subst h0
      replace hc := hide hc
      obtain ⟨a', ha', ha4⟩ := hI.reg (hI.code hr (by decide))
      obtain rfl : a = a' := by rw [ha, ha']
      have i3 : (a' : Int) < 4 := by omega
      obtain ⟨v, hv⟩ : ∃ v, v = (M.at k).reg a' := ⟨_, rfl⟩
      have c3 := hx3.out _ _ (HS.out.blk 1 rfl)
      have c5 := hx5.out _ _ (HS.out.blk 1 rfl)
      have c6 : W3.cell? ⟨bx, 6 + a', none⟩ = some (.int .i64 v) := by rw [hv]; exact (HS.out.blk 1 rfl).cell (6 + a') _ (sessL_reg ha4)
      obtain ⟨cA, cB⟩ := hpi.out _ HS.out.below
      by_cases hz : v = 0
      · have eS : Hid (calcP M k = ((M.doR k (regsI (lz (M.at k).num) 0) (regsI (lz (M.at k).num) 1) (regsI (lz (M.at k).num) 2) (regsI (lz (M.at k).num) 3)).doN k 4 b, 0)) := by
          show _ = _
          refine calcP_yes hh.out (.inr (.inr hr)) ?_ ?_
          · unfold calcR; rw [if_neg (by omega), if_neg (by omega)]
          · unfold calcTo; rw [if_pos ⟨hr, by rw [hI.ins 1, ha', Int.toNat_natCast, ← hv, hz]⟩, hI.ins 2, hb]
        have hzb : (v == 0) = true := by rw [hz]; rfl
        replace hv := hide hv
        replace hz := hide hz
        replace hb := hide hb
        replace ha := hide ha
        replace ha' := hide ha'
        go_upto_region 15 with fail
        clear c3 c5 c6 cA cB
        go_wp2_with (first | ((with_reducible refine isList ?_); first | (refine st_loadA HS 0 rfl _ _ rfl rfl rfl (by decide +kernel) (by kernel_rfl) ?_) | (refine st_load1 HS 2 rfl _ _ rfl _ rfl rfl (by decide +kernel) rfl ?_) | (refine st_storeG HS 3 rfl hk1 hbs1 _ _ _ rfl _ rfl (show _ = k * 17 + 6 from by with_reducible rfl) rfl rfl (by decide +kernel) ?_; clear HS; intro W HS) | (refine st_storeN HS 3 rfl hk1 hbs1 4 (by decide) _ _ _ rfl _ rfl (show _ = k * 17 + 5 from by with_reducible rfl) rfl rfl (by decide +kernel) ?_; clear HS; intro W HS) | (refine st_loadA HS 2 rfl _ _ rfl rfl rfl (by decide +kernel) (by kernel_rfl) ?_) | (refine st_storeA HS 4 rfl _ _ _ rfl rfl rfl _ rfl rfl (by kernel_rfl) rfl ?_; clear HS; intro W HS)))
        rw [eS.out]
        exact bodyPost_ret (ret_mach2 Tryz.results10 (HS.out.blk 4 rfl) rfl rfl rfl) rfl (mret_of (R := ((M.doR k (regsI (lz (M.at k).num) 0) (regsI (lz (M.at k).num) 1) (regsI (lz (M.at k).num) 2) (regsI (lz (M.at k).num) 3)).doN k 4 b, 0)) HS.out 3 (D := D1) (A := A1) rfl)

      · have eS : Hid (calcP M k = ((M.doR k (regsI (lz (M.at k).num) 0) (regsI (lz (M.at k).num) 1) (regsI (lz (M.at k).num) 2) (regsI (lz (M.at k).num) 3)).doN k 4 ((p' : Int) + 1), 0)) := by
          show _ = _
          refine calcP_yes hh.out (.inr (.inr hr)) ?_ ?_
          · unfold calcR; rw [if_neg (by omega), if_neg (by omega)]
          · unfold calcTo; rw [if_neg (fun h => hz (by rw [hv]; have := h.2; rw [hI.ins 1, ha', Int.toNat_natCast] at this; exact this))]; exact congrArg (· + 1) hp.out
        have hzb : (v == 0) = false := by simpa using hz
        replace hv := hide hv
        replace hz := hide hz
        replace hb := hide hb
        replace ha := hide ha
        replace ha' := hide ha'
        go_upto_region 15 with fail
        clear c3 c5 c6 cA cB
        go_wp2_with (first | ((with_reducible refine isList ?_); first | (refine st_loadA HS 0 rfl _ _ rfl rfl rfl (by decide +kernel) (by kernel_rfl) ?_) | (refine st_load1 HS 2 rfl _ _ rfl _ rfl rfl (by decide +kernel) rfl ?_) | (refine st_storeG HS 3 rfl hk1 hbs1 _ _ _ rfl _ rfl (show _ = k * 17 + 6 from by with_reducible rfl) rfl rfl (by decide +kernel) ?_; clear HS; intro W HS) | (refine st_storeN HS 3 rfl hk1 hbs1 4 (by decide) _ _ _ rfl _ rfl (show _ = k * 17 + 5 from by with_reducible rfl) rfl rfl (by decide +kernel) ?_; clear HS; intro W HS) | (refine st_loadA HS 2 rfl _ _ rfl rfl rfl (by decide +kernel) (by kernel_rfl) ?_) | (refine st_storeA HS 4 rfl _ _ _ rfl rfl rfl _ rfl rfl (by kernel_rfl) rfl ?_; clear HS; intro W HS)))
        rw [eS.out]
        exact bodyPost_ret (ret_mach2 Tryz.results10 (HS.out.blk 4 rfl) rfl rfl rfl) rfl (mret_of (R := ((M.doR k (regsI (lz (M.at k).num) 0) (regsI (lz (M.at k).num) 1) (regsI (lz (M.at k).num) 2) (regsI (lz (M.at k).num) 3)).doN k 4 ((p' : Int) + 1), 0)) HS.out 3 (D := D1) (A := A1) rfl)

  · have h0 : (c == 0) = false := by simp; omega
    have h1 : (c == 1) = false := by simp; omega
    have h4 : (c == 4) = false := by simp; omega
    have eS : calcP M k = (noMach, 1700) := by
      unfold calcP
      rw [Int.toNat_natCast, ← hc, decide_eq_false (by omega : ¬ c = 0), decide_eq_false (by omega : ¬ c = 1), decide_eq_false (by omega : ¬ c = 4), Bool.or_false, Bool.or_false, Bool.and_false]
      rfl
    replace hc := hide hc
    replace hyes := hide hyes
    go_upto_region 7 with fail
    go_wp2_with (first | ((with_reducible refine isList ?_); first | (refine st_storeA HS 4 rfl _ _ _ rfl rfl rfl _ rfl rfl (by kernel_rfl) rfl ?_; clear HS; intro W HS)))
    rw [eS]
    exact bodyPost_ret (ret_mach2 Tryz.results10 (HS.out.blk 4 rfl) rfl rfl rfl) rfl (mret_no HS.out.below)
end Go.Proofs.YtnjognmnbpcaaaaGreat
