/-
  Several small texts in one: MachProg2, MachProg3, TellProg, UndoProg, StandProg, LetGoMay, LetGoProg, UndoEndProg.
-/
import Derived.Test.YtaaenolbfhhnfaaGreatZhMachProg1
import Derived.BigQuiet
import Derived.Test.YtaaenolbfhhnfaaGreatZlah
import Derived.Test.YtaaenolbfhhnfaaGreatZlag
namespace Go.Proofs.YtaaenolbfhhnfaaGreat
open Go.RowKit
set_option linter.unusedSimpArgs false
set_option linter.unusedVariables false
def riseS (X : List PSess) (k : Nat) : Bool := decide (k = 0) || decide (lz (X.getD (k - 1) noSess).num 0 < lz (X.getD k noSess).num 0)
theorem SesIs.id {W : World} {s : Sl} {q : Nat → SesM} {X : List PSess} (h : SesIs W s q X) {k : Nat} (hk : k < s.n) : ∃ b off, s.a = some ⟨b, off, none⟩ ∧ W.cell? ⟨b, off + k * 17, none⟩ = some (.int .i64 (lz (X.getD k noSess).num 0)) := by
  obtain ⟨b, off, e, _, hR⟩ := h.range hk
  exact ⟨b, off, e, hR 0 _ rfl⟩
set_option maxRecDepth 100000 in
set_option maxHeartbeats 1000000 in
theorem idsRise_any (s : Sl) (q : Nat → SesM) (X : List PSess) (w : World) (h : SesIs w s q X) :
    Calls Tryz.prog 57 #[.slice s.a s.n s.c] w fun e w' => e = .returned (.bool (allTo (riseS X) s.n)) ∧ Below w.heap.size w w' := by
  have hn : s.n ≤ 1152921504606846976 := by have := h.2.1.1; omega
  have H := hide fun (W : World) (hb : Below w.heap.size w W) (k : Nat) (hk : k < s.n) => (h.below hb).id hk
  clear h
  go_enter Tryz.func57, Tryz.ntmps57
  go_wp2
  go_loopw [3] (fun i wr => ∃ m : Nat, Hid (m < s.n ∨ m = 0) ∧ i = .int .i64 ((m : Int) + 1) ∧ Hid (allTo (riseS X) (m + 1) = true) ∧ Below w.heap.size w wr) (fun i _ => s.n - (intOf i).toNat)
  case atStart => exact ⟨0, .inr rfl, rfl, rfl, Below.refl _ _⟩
  case round =>
    obtain ⟨m, hm, rfl, HT, hb⟩ := hrel
    by_cases hlt : m + 1 < s.n
    · have i1 : (m : Int) + 1 < (s.n : Int) := by omega
      have i0 : (m : Int) < (s.n : Int) := by omega
      obtain ⟨b, off, hsa, d0⟩ := H.out _ hb m (by omega)
      obtain ⟨b', off', hsa', d1⟩ := H.out _ hb (m + 1) hlt
      rw [hsa] at hsa'
      cases hsa'
      obtain ⟨x0, hx0⟩ : ∃ x, x = lz (X.getD m noSess).num 0 := ⟨_, rfl⟩
      obtain ⟨x1, hx1⟩ : ∃ x, x = lz (X.getD (m + 1) noSess).num 0 := ⟨_, rfl⟩
      rw [← hx0] at d0
      rw [← hx1] at d1
      have hr : Hid (riseS X (m + 1) = decide (x0 < x1)) := by
        show _ = _
        unfold riseS
        rw [Nat.add_sub_cancel, ← hx0, ← hx1, decide_eq_false (by omega : ¬ m + 1 = 0), Bool.false_or]
      have hmi : ((m : Int) + 1).toNat = m + 1 := by omega
      have ha : off + (m + 1) * 17 = off + (m * 17 + 17) := by omega
      rw [ha] at d1
      clear hx0 hx1 H
      by_cases hlx : x0 < x1
      · rw [decide_eq_true hlx] at hr
        have hgb : ¬ x1 ≤ x0 := by omega
        have hr1 : Hid (allTo (riseS X) (m + 1 + 1) = true) := by
          show allTo (riseS X) (m + 1 + 1) = true
          rw [allTo, HT.out, hr.out]; rfl
        go_upto_region 4 with fail
        go_big_quiet (fail)
        have hb2 : Below w.heap.size w (wr.drewN nq) := Below.drawn hb nq
        generalize wr.drewN nq = Wq at *
        clear d0 d1 hb
        go_wp2
        go_roundw
        case rel =>
          exact ⟨m + 1, .inl hlt, by go_num, hr1, hb2⟩
        case measure => simp [intOf]; omega
      · rw [decide_eq_false hlx] at hr
        have hgb : x1 ≤ x0 := by omega
        have hr1 : Hid (allTo (riseS X) s.n = false) := allTo_no (m + 1) hlt hr.out
        go_upto_region 4 with fail
        go_big_quiet (fail)
        have hb2 : Below w.heap.size w (wr.drewN nq) := Below.drawn hb nq
        generalize wr.drewN nq = Wq at *
        clear d0 d1 hb
        go_wp2
        go_ret
        exact ⟨ret_bool hr1.out.symm, hb2⟩
    · have i1 : ¬ (m : Int) + 1 < (s.n : Int) := by omega
      have hr1 : Hid (allTo (riseS X) s.n = true) := by
        rcases hm.out with h | h
        · rw [show s.n = m + 1 by omega]; exact HT.out
        · by_cases h0 : s.n = 0
          · rw [h0]; rfl
          · rw [show s.n = m + 1 by omega]; exact HT.out
      go_wp2
      go_ret
      exact ⟨ret_bool hr1.out.symm, hb⟩
end Go.Proofs.YtaaenolbfhhnfaaGreat
namespace Go.Proofs.YtaaenolbfhhnfaaGreat
open Go.RowKit
set_option linter.unusedSimpArgs false
set_option linter.unusedVariables false
theorem allTo_eq {p q : Nat → Bool} : ∀ {n : Nat}, (∀ k, k < n → p k = q k) → allTo p n = allTo q n
  | 0, _ => rfl
  | n + 1, h => by rw [allTo, allTo, allTo_eq fun k hk => h k (by omega), h n (by omega)]
theorem thereV_lab {s : Nat → Sl} {l i : Int} (hl : 0 ≤ l ∧ l ≤ 3) (hi : 0 ≤ i) : thereV s l i = decide (i < ((s l.toNat).n : Int)) := by
  unfold thereV
  exact decide_eq_decide.2 ⟨fun h => h.2.2, fun h => ⟨⟨hl.1, by omega⟩, hi, h⟩⟩
/-- What a session's own part tells of the levels that it names. -/
structure Labs (x : PSess) : Prop where
  prog : ∀ k, k < x.pn → lz x.prog (k * 4) = 2 ∨ lz x.prog (k * 4) = 3 → (0 ≤ lz x.prog (k * 4 + 2) ∧ lz x.prog (k * 4 + 2) ≤ 3) ∧ 0 ≤ lz x.prog (k * 4 + 3)
  reads : ∀ k, k < x.rn → (0 ≤ lz x.reads (k * 3) ∧ lz x.reads (k * 3) ≤ 3) ∧ 0 ≤ lz x.reads (k * 3 + 1)
  writes : ∀ k, k < x.tn → (0 ≤ lz x.writes (k * 3) ∧ lz x.writes (k * 3) ≤ 3) ∧ 0 ≤ lz x.writes (k * 3 + 1)
theorem sess1P_labs {x : PSess} (h : sess1P x = true) : Labs x := by
  unfold sess1P at h
  simp only [Bool.and_eq_true] at h
  obtain ⟨h1, _, h3, h4, _⟩ := h
  unfold startMay at h1
  simp only [Bool.and_eq_true] at h1
  obtain ⟨hpt, _⟩ := progMay_get h1.2.2
  refine ⟨fun k hk hc => ?_, fun k hk => ?_, fun k hk => ?_⟩
  · have := (progTo_get hpt k hk).1
    rw [instMay_23 (by show lz x.prog (k * 4 + 0) = 2 ∨ lz x.prog (k * 4 + 0) = 3; rw [Nat.add_zero]; exact hc)] at this
    obtain ⟨_, h2, h3⟩ := and3b this
    exact ⟨upToV_yes h2, (upToV_yes h3).1⟩
  · have := allTo_get (readsMay_get h3).1 k hk
    unfold aloneP readMay at this
    simp only [Bool.and_eq_true] at this
    exact ⟨upToV_yes this.1.1, (upToV_yes this.1.2).1⟩
  · have := (writesMay_get h4).alone k hk
    exact ⟨this.1, this.2.1.1⟩
theorem Labs.hold {x : PSess} (h : Labs x) (s : Nat → Sl) : holdP s x = wordsThere s x.pn x.rn x.tn (lz x.prog) (lz x.reads) (lz x.writes) := by
  unfold holdP wordsThere
  rw [allTo_eq (p := holdI s (lz x.prog)) (q := instThere s (lz x.prog)) fun k hk => ?_, allTo_eq (p := holdR s (lz x.reads)) (q := thereP s (lz x.reads)) fun k hk => ?_, allTo_eq (p := holdR s (lz x.writes)) (q := thereP s (lz x.writes)) fun k hk => ?_]
  · cases allTo (instThere s (lz x.prog)) x.pn <;> cases allTo (thereP s (lz x.reads)) x.rn <;> cases allTo (thereP s (lz x.writes)) x.tn <;> rfl
  · obtain ⟨h1, h2⟩ := h.writes k hk
    exact (thereV_lab h1 h2).symm
  · obtain ⟨h1, h2⟩ := h.reads k hk
    exact (thereV_lab h1 h2).symm
  · unfold holdI instThere
    cases hn : namesW (lz x.prog) k
    · rfl
    · have hc : lz x.prog (k * 4) = 2 ∨ lz x.prog (k * 4) = 3 := by
        unfold namesW at hn
        simpa using hn
      obtain ⟨h1, h2⟩ := h.prog k hk hc
      rw [thereV_lab h1 h2]
theorem sessMayP_prog (s : Nat → Sl) (x : PSess) : sessMayP s x = (sess1P x && holdP s x) := by
  rw [Bool.eq_iff_iff, Bool.and_eq_true]
  unfold sessMayP sessMay
  simp only [Bool.and_eq_true]
  constructor
  · rintro ⟨⟨h1, h2⟩, ⟨h3, h4, h5, h6, h7⟩, h8, h9, h10, h11, h12⟩
    have hs : sess1P x = true := by
      unfold sess1P
      rw [h1, h5, h6, h7, h3, h4, h8, h9, h10, h11, h12]; rfl
    exact ⟨hs, by rw [(sess1P_labs hs).hold s]; exact h2⟩
  · rintro ⟨hs, hh⟩
    rw [(sess1P_labs hs).hold s] at hh
    unfold sess1P at hs
    simp only [Bool.and_eq_true] at hs
    obtain ⟨h1, h5, h6, h7, h3, h4, h8, h9, h10, h11, h12⟩ := hs
    exact ⟨⟨h1, hh⟩, ⟨h3, h4, h5, h6, h7⟩, h8, h9, h10, h11, h12⟩
theorem machMay_prog (M : PMach) : machMay M = (amay M.lens M.wz && ((upToV M.ceil 65535 && allUp (lz M.clocks) M.ceil 4) && ((decide (M.tn ≤ 512) && allTo (labOk M) M.tn) && (decide (M.sess.length ≤ 4) && (allTo (riseS M.sess) M.sess.length && (allTo (fun k => sess1P (M.at k)) M.sess.length && allTo (fun k => holdP M.lens (M.at k)) M.sess.length)))))) := by
  have e : allTo (sessOk M) M.sess.length = (allTo (riseS M.sess) M.sess.length && (allTo (fun k => sess1P (M.at k)) M.sess.length && allTo (fun k => holdP M.lens (M.at k)) M.sess.length)) := by
    rw [← allTo_and (fun k => sess1P (M.at k)) (fun k => holdP M.lens (M.at k)), ← allTo_and (riseS M.sess)]
    refine allTo_eq fun k hk => ?_
    unfold sessOk
    rw [sessMayP_prog]
    show (_ && riseS M.sess k) = _
    rw [Bool.and_comm]
  unfold machMay
  rw [e]
  generalize amay M.lens M.wz = a
  generalize upToV M.ceil 65535 = b
  generalize decide (M.sess.length ≤ 4) = c
  generalize decide (M.tn ≤ 512) = d
  generalize allUp (lz M.clocks) M.ceil 4 = f
  generalize (allTo (riseS M.sess) M.sess.length && (allTo (fun k => sess1P (M.at k)) M.sess.length && allTo (fun k => holdP M.lens (M.at k)) M.sess.length)) = g
  generalize allTo (labOk M) M.tn = h
  cases a <;> cases b <;> cases c <;> cases d <;> cases f <;> cases g <;> cases h <;> rfl
theorem holdP_lens {s s' : Nat → Sl} {x : PSess} (h : ∀ g, g < 4 → (s g).n = (s' g).n) (hx : Labs x) : holdP s x = holdP s' x := by
  unfold holdP
  rw [allTo_eq (p := holdI s (lz x.prog)) (q := holdI s' (lz x.prog)) fun k hk => ?_, allTo_eq (p := holdR s (lz x.reads)) (q := holdR s' (lz x.reads)) fun k hk => ?_, allTo_eq (p := holdR s (lz x.writes)) (q := holdR s' (lz x.writes)) fun k hk => ?_]
  · have := hx.writes k hk
    unfold holdR; rw [h _ (by omega)]
  · have := hx.reads k hk
    unfold holdR; rw [h _ (by omega)]
  · unfold holdI
    cases hn : namesW (lz x.prog) k
    · rfl
    · have hc : lz x.prog (k * 4) = 2 ∨ lz x.prog (k * 4) = 3 := by
        unfold namesW at hn
        simpa using hn
      have := hx.prog k hk hc
      rw [h _ (by omega)]
set_option maxRecDepth 100000 in
set_option maxHeartbeats 4000000 in
theorem gmachMay_any (A : MacM) (M : PMach) (w : World) (h : MachIs w A M) :
    Calls Tryz.prog 22 #[machA A M] w fun e w' => e = .returned (.bool (machMay M)) ∧ Below w.heap.size w w' := by
  have hX : M.sess.length = A.s.n := h.sess.1
  have hT : M.tn = A.e.n := h.trace.len (by decide)
  have hls := h.lens
  have E : Hid (machMay M = (amay A.w M.wz && ((upToV M.ceil 65535 && allUp (lz M.clocks) M.ceil 4) && ((decide (A.e.n ≤ 512) && allTo (labOk M) A.e.n) && (decide (A.s.n ≤ 4) && (allTo (riseS M.sess) A.s.n && (allTo (fun k => sess1P (M.at k)) A.s.n && allTo (fun k => holdP M.lens (M.at k)) A.s.n))))))) := by
    show _ = _
    rw [machMay_prog, hX, hT, amay_lens fun g hg => (hls g hg).symm]
  have hI := hide fun (W : World) (hb : Below w.heap.size w W) => h.below hb
  replace hls := hide hls
  clear hX hT
  obtain ⟨V0, hV0⟩ : ∃ V0, V0 = machA A M := ⟨_, rfl⟩
  rw [← hV0]
  have HV : Hid (V0.cells = (machL A M).toArray) := by rw [hV0]; rfl
  clear hV0
  have HM := hide h
  have HS := hide (St.refl w)
  clear h
  go_enter Tryz.func22, Tryz.ntmps22
  go_upto_region 1 with (first | ((with_reducible refine isList ?_); first | (refine st_box HS _ _ rfl rfl (machL A M) HV.out ?_; clear HS; intro W bm HS)))
  have cs := fun (W : World) (h : Hid (St w W [blkI bm (machL A M)])) => (h.out.blk 0 rfl).mac
  replace cs := hide cs
  obtain ⟨c0, c1, c2, c3, c4, c5, c6, c7, c8, c9, c10⟩ := cs.out _ HS
  go_wp2_with fail
  refine (may_c A.w M.wz _ (hI.out _ HS.out.below).fit (hI.out _ HS.out.below).arn).mono ?_
  rintro e w1 ⟨rfl, hb⟩
  replace HS := hide (HS.out.on hb)
  clear hb c0 c1 c2 c3 c4 c5 c6 c7 c8 c9 c10
  cases b0 : amay A.w M.wz
  · go_wp2
    go_ret
    exact ⟨ret_bool (by rw [E.out, b0]; rfl), HS.out.below⟩
  replace b0 := hide b0
  obtain ⟨c0, c1, c2, c3, c4, c5, c6, c7, c8, c9, c10⟩ := cs.out _ HS
  go_wp2_with fail
  refine (clocksMay_any (lz M.clocks) M.ceil _).mono ?_
  rintro e w2 ⟨rfl, hb⟩
  replace HS := hide (HS.out.on hb)
  clear hb c0 c1 c2 c3 c4 c5 c6 c7 c8 c9 c10
  cases b1 : upToV M.ceil 65535 && allUp (lz M.clocks) M.ceil 4
  · go_wp2
    go_ret
    exact ⟨ret_bool (by rw [E.out, b0.out, b1]; rfl), HS.out.below⟩
  replace b1 := hide b1
  obtain ⟨c0, c1, c2, c3, c4, c5, c6, c7, c8, c9, c10⟩ := cs.out _ HS
  go_wp2_with fail
  refine (traceMay_any A.e M.trace _ (hI.out _ HS.out.below).trace).mono ?_
  rintro e w3 ⟨rfl, hb⟩
  replace HS := hide (HS.out.on hb)
  clear hb c0 c1 c2 c3 c4 c5 c6 c7 c8 c9 c10
  cases b2 : decide (A.e.n ≤ 512) && allTo (fun k => upToV (lz M.trace (k * 4 + 1)) 3) A.e.n
  · go_wp2
    go_ret
    exact ⟨ret_bool (by rw [E.out, b0.out, b1.out, show (decide (A.e.n ≤ 512) && allTo (labOk M) A.e.n) = false from b2]; rfl), HS.out.below⟩
  replace b2 : Hid ((decide (A.e.n ≤ 512) && allTo (labOk M) A.e.n) = true) := hide b2
  obtain ⟨c0, c1, c2, c3, c4, c5, c6, c7, c8, c9, c10⟩ := cs.out _ HS
  by_cases hn : A.s.n ≤ 4
  case neg =>
    have i1 : ¬ (A.s.n : Int) ≤ 4 := by omega
    have b3 : decide (A.s.n ≤ 4) = false := decide_eq_false hn
    replace b3 := hide b3
    clear hn
    go_wp2
    go_ret
    exact ⟨ret_bool (by rw [E.out, b0.out, b1.out, b2.out, b3.out]; rfl), HS.out.below⟩
  have i1 : (A.s.n : Int) ≤ 4 := by omega
  have b3 : Hid (decide (A.s.n ≤ 4) = true) := decide_eq_true hn
  clear hn
  go_wp2_with fail
  refine (idsRise_any A.s A.q M.sess _ (hI.out _ HS.out.below).sess).mono ?_
  rintro e w4 ⟨rfl, hb⟩
  replace HS := hide (HS.out.on hb)
  clear hb c0 c1 c2 c3 c4 c5 c6 c7 c8 c9 c10
  cases b4 : allTo (riseS M.sess) A.s.n
  · go_wp2
    go_ret
    exact ⟨ret_bool (by rw [E.out, b0.out, b1.out, b2.out, b3.out, b4]; rfl), HS.out.below⟩
  replace b4 := hide b4
  obtain ⟨c0, c1, c2, c3, c4, c5, c6, c7, c8, c9, c10⟩ := cs.out _ HS
  go_wp2_with fail
  refine (askAllS_any 59 #[] #[] (fun k => sess1P (M.at k)) A.s A.q M.sess _ (hI.out _ HS.out.below).sess (fun _ _ => rfl) (fun k hk W' hb => sessionMay_any (A.q k) (M.at k) W' ((hI.out _ (Below.on HS.out.below hb)).sess.2.2.2 k hk))).mono ?_
  rintro e w5 ⟨rfl, hb⟩
  replace HS := hide (HS.out.on hb)
  clear hb c0 c1 c2 c3 c4 c5 c6 c7 c8 c9 c10
  cases b5 : allTo (fun k => sess1P (M.at k)) A.s.n
  · go_wp2
    go_ret
    exact ⟨ret_bool (by rw [E.out, b0.out, b1.out, b2.out, b3.out, b4.out, b5]; rfl), HS.out.below⟩
  have hlab := hide fun (k : Nat) (hk : k < A.s.n) => sess1P_labs (allTo_get b5 k hk)
  replace b5 := hide b5
  obtain ⟨c0, c1, c2, c3, c4, c5, c6, c7, c8, c9, c10⟩ := cs.out _ HS
  go_wp2_with fail
  refine (askAllS_any 60 #[arenaA A.w] #[] (fun k => holdP M.lens (M.at k)) A.s A.q M.sess _ (hI.out _ HS.out.below).sess (fun _ _ => rfl) (fun k hk W' hb => ?_)).mono ?_
  · have L := hlab.out k hk
    rw [← holdP_lens (hls.out) L]
    exact hold_any A.w (A.q k) (M.at k) W' ((hI.out _ (Below.on HS.out.below hb)).sess.2.2.2 k hk) (fun j hj hc => by have := (L.prog j hj hc).1; omega) (fun j hj => by have := (L.reads j hj).1; omega) (fun j hj => by have := (L.writes j hj).1; omega)
  rintro e w6 ⟨rfl, hb⟩
  replace HS := hide (HS.out.on hb)
  clear hb c0 c1 c2 c3 c4 c5 c6 c7 c8 c9 c10
  go_wp2
  go_ret
  exact ⟨ret_bool (by rw [E.out, b0.out, b1.out, b2.out, b3.out, b4.out, b5.out]; simp), HS.out.below⟩
end Go.Proofs.YtaaenolbfhhnfaaGreat
namespace Go.Proofs.YtaaenolbfhhnfaaGreat
open Go.RowKit
set_option linter.unusedSimpArgs false
set_option linter.unusedVariables false
set_option maxRecDepth 100000 in
theorem fill_ev (x0 x1 x2 x3 : Int) : Instr.fill (fun i => some (i * 4, 4)) ((Array.range (1 * 4)).map (#[Value.int .i64 0, .int .i64 0, .int .i64 0, .int .i64 0][· % 4]!)) [(0, .agg #[.int .i64 x0, .int .i64 x1, .int .i64 x2, .int .i64 x3])] = some #[.int .i64 x0, .int .i64 x1, .int .i64 x2, .int .i64 x3] := by
  kernel_rfl
theorem st_litE {w0 w : World} {L : List Itm} {ops : Array Oper} {rest : List Oper} {op : Oper} {a : Act} {Q : Exit → Act → World → Prop} (HS : Hid (St w0 w L)) (x : Operand) (ho : op.op = .buildSlice 32 1 #[(0, x)]) (hgd : Region.wanted op (yielded ops a.tmps) = true) {x0 x1 x2 x3 : Int} (hx : ValOf a x (.agg #[.int .i64 x0, .int .i64 x1, .int .i64 x2, .int .i64 x3]))
    (hw : ∀ W b, Hid (St w0 W (blkI b [.int .i64 x0, .int .i64 x1, .int .i64 x2, .int .i64 x3] :: L)) → wpList Tryz.prog ops Q rest (a.put op.dst (.slice (some ⟨b, 0, none⟩) 1 1)) W) : wpList Tryz.prog ops Q (op :: rest) a w := by
  refine BigFrame.wpList_want hgd fun _ hK => ?_
  obtain ⟨i, hi, hz, hs, hy⟩ := info_parts Tryz.infoEvent
  refine wp_buildSlice 32 70 1 _ ho #[.int .i64 x0, .int .i64 x1, .int .i64 x2, .int .i64 x3] i (.agg #[.int .i64 0, .int .i64 0, .int .i64 0, .int .i64 0]) Tryz.underlying32 hi hz (by rw [hs]; decide) (by rw [hs]; decide) ?_ (hK _ _ (hw _ _ (HS.out.alloc [.int .i64 x0, .int .i64 x1, .int .i64 x2, .int .i64 x3] 70)))
  simp only [List.map_toArray, List.map_cons, List.map_nil, hx.eval]
  rw [hs]
  exact fill_ev x0 x1 x2 x3
theorem st_event {w0 w : World} {L : List Itm} {P : Program} {ops : Array Oper} {rest : List Oper} {op : Oper} {a : Act} {Q : Exit → Act → World → Prop} (HS : Hid (St w0 w L)) (j i : Nat) {D : Nat → Prop} {A : MacM} {M : PMach} {be : Nat} {x : List Int} (ej : L[j]? = some (blkI be (x.map (Value.int .i64)))) (hx4 : x.length = 4) (ei : L[i]? = some (machI D A M)) (hn : A.e.n < 512) (hgd : Region.wanted op (yielded ops a.tmps) = true)
    (s y : Operand) (t : TypeId) (ho : op.op = .call { callee := .builtin .append, args := #[s, y], argTypes := #[t, t] }) (ie : TypeInfo) (z : Value) (ht : P.underlying t = some (.slice 70)) (hi : P.info? 70 = some ie) (hz : ie.zero = some z) (hsize : ie.size = 4) (hby : ie.bytes = 32) (hzs : z.cells.size = 4)
    (hs : a.eval s = .slice A.e.a A.e.n A.e.c) (hy : a.eval y = .slice (some ⟨be, 0, none⟩) 1 1)
    (h : ∀ W D' g cap, Hid (St w0 W (L.set i (machI D' (A.setE ⟨some ⟨g, 0, none⟩, A.e.n + 1, cap⟩) { M with trace := M.trace ++ x }))) → wpList P ops Q rest (a.put op.dst (.slice (some ⟨g, 0, none⟩) (A.e.n + 1) cap)) W) : wpList P ops Q (op :: rest) a w :=
  BigFrame.wpList_want hgd fun _ hK => stw_event HS j i ej hx4 ei hn s y t ho ie z ht hi hz hsize hby hzs hs hy fun W D' g cap h2 => hK _ _ (h W D' g cap h2)
set_option maxRecDepth 100000 in
set_option maxHeartbeats 4000000 in
theorem gtelling_any (A : MacM) (M : PMach) (i kind value : Int) (w : World) (h : MachIs w A M) :
    Calls Tryz.prog 18 #[machA A M, .int .i64 i, .int .i64 kind, .int .i64 value] w (MRet w (tellingP M i kind value)) := by
  have hX := hide h.sess.1
  have hn8 : A.s.n * 184 ≤ 140737488351232 := h.sess.2.1.1
  have hMay := hide fun (W : World) (hb : Below w.heap.size w W) => gmachMay_any A M W (h.below hb)
  have hCopy := hide fun (W : World) (hb : Below w.heap.size w W) => anewMachine_any A M W (h.below hb)
  obtain ⟨V0, hV0⟩ : ∃ V0, V0 = machA A M := ⟨_, rfl⟩
  rw [← hV0]
  have HV : Hid (V0.cells = (machL A M).toArray) := by rw [hV0]; rfl
  clear hV0
  have HM := hide h
  have HS := hide (St.refl w)
  clear h
  go_enter Tryz.func18, Tryz.ntmps18
  go_wp2_with (first | ((with_reducible refine isList ?_); first | (refine st_box HS _ _ rfl rfl (machL A M) HV.out ?_; clear HS; intro W bm HS) | (refine st_alloc HS _ rfl rfl zeroML zeroM ?_; clear HS; intro W br HS) | (refine st_loadA HS 1 rfl _ _ rfl rfl rfl (by decide +kernel) (by kernel_rfl) ?_)))
  refine (hMay.out _ HS.out.below).mono ?_
  rintro e W1 ⟨rfl, hb⟩
  replace HS := hide (HS.out.on hb)
  clear hb hMay
  cases hm : machMay M
  case false =>
    go_upto_region 2 with fail
    go_wp2_with (first | ((with_reducible refine isList ?_); first | (refine st_storeA HS 0 rfl _ _ _ rfl rfl rfl _ rfl rfl (by kernel_rfl) rfl ?_; clear HS; intro W HS)))
    rw [show tellingP M i kind value = (noMach, 1200) by unfold tellingP hereP; rw [hm]; rfl]
    exact bodyPost_ret (ret_mach2 Tryz.results18 (HS.out.blk 0 rfl) rfl rfl rfl) rfl (mret_no HS.out.below)
  have hU : Hid (hereP M i = upToV i ((A.s.n : Int) - 1)) := by
    show hereP M i = _
    unfold hereP upToV
    rw [hm, hX.out, Bool.true_and, ← Bool.decide_and]
    exact decide_eq_decide.2 (by omega)
  replace hm := hide hm
  have c9 : W1.cell? ⟨bm, 9, none⟩ = some (.slice A.s.a A.s.n A.s.c) := (HS.out.blk 1 rfl).cell 9 _ rfl
  go_wp2_with fail
  refine (askUpTo_any _ _ _).mono ?_
  rintro e w' ⟨rfl, rfl⟩
  clear c9
  cases hu : upToV i ((A.s.n : Int) - 1)
  · go_upto_region 2 with fail
    go_wp2_with (first | ((with_reducible refine isList ?_); first | (refine st_storeA HS 0 rfl _ _ _ rfl rfl rfl _ rfl rfl (by kernel_rfl) rfl ?_; clear HS; intro W HS)))
    rw [show tellingP M i kind value = (noMach, 1200) by unfold tellingP; rw [hU.out, hu]; rfl]
    exact bodyPost_ret (ret_mach2 Tryz.results18 (HS.out.blk 0 rfl) rfl rfl rfl) rfl (mret_no HS.out.below)
  have hh : Hid (hereP M i = true) := hU.out.trans hu
  obtain ⟨_, k, rfl, hk0⟩ := hereP_yes hh.out
  have hk : k < A.s.n := by have := hX.out; omega
  replace hu := hide hu
  go_wp2_with fail
  refine (askUpTo_any _ _ _).mono ?_
  rintro e w' ⟨rfl, rfl⟩
  cases hv : upToV kind 6
  · go_upto_region 2 with fail
    go_wp2_with (first | ((with_reducible refine isList ?_); first | (refine st_storeA HS 0 rfl _ _ _ rfl rfl rfl _ rfl rfl (by kernel_rfl) rfl ?_; clear HS; intro W HS)))
    rw [show tellingP M k kind value = (noMach, 1200) by unfold tellingP; rw [hv, Bool.and_false]; rfl]
    exact bodyPost_ret (ret_mach2 Tryz.results18 (HS.out.blk 0 rfl) rfl rfl rfl) rfl (mret_no HS.out.below)
  have eS : Hid (tellingP M k kind value = (tellP M k kind value, 0)) := by show _ = _; unfold tellingP; rw [hh.out, hv, Int.toNat_natCast]; rfl
  replace hv := hide hv
  go_upto_region 3 with fail
  go_wp2_with (first | ((with_reducible refine isList ?_); first | (refine st_loadA HS 1 rfl _ _ rfl rfl rfl (by decide +kernel) (by kernel_rfl) ?_)))
  refine (hCopy.out _ HS.out.below).mono ?_
  rintro e W2 ⟨A1, rfl, hO, hb⟩
  have HS1 := hide (HS.out.push hb (machI (fun k => _) A1 M) (machI_loc _ _ _) hO fun k hk => hk)
  generalize (fun k => _) = D1 at HS1
  have hk1 : k < A1.s.n := by have := hO.is.sess.1; have := hX.out; omega
  have i4 : (k : Int) < (A1.s.n : Int) := by omega
  have hTl := hO.is.trace.1
  obtain ⟨bs1, hbs1, _⟩ := MachOwn.sblk hO hk1
  clear HS hb hO hCopy
  replace HS := HS1
  clear HS1
  go_upto_region 4 with (first | ((with_reducible refine isList ?_); first | (refine st_alloc HS _ rfl rfl zeroML zeroM ?_; clear HS; intro W bo HS) | (refine st_storeA HS 0 rfl _ _ _ rfl rfl rfl _ rfl rfl (by kernel_rfl) rfl ?_; clear HS; intro W HS)))
  replace HS : Hid (St w W [blkI bo (machL A1 M), machI D1 A1 M, blkI br zeroML, blkI bm (machL A M)]) := HS
  by_cases hn : A1.e.n < 512
  · have i1 : (A1.e.n : Int) < 512 := by omega
    have eT : Hid (tellP M k kind value = { M with trace := M.trace ++ [lz (M.at k).num 0, lz (M.at k).num 1, kind, value] }) := by
      show _ = _
      unfold tellP
      rw [if_pos (by rw [hTl]; omega)]
    replace hTl := hide hTl
    go_upto_region 5 with (first | ((with_reducible refine isList ?_); first | (refine st_load1 HS 0 rfl _ _ rfl _ rfl rfl (by decide +kernel) rfl ?_)))
    obtain ⟨bs', off', hbs', _, hR⟩ := (MachOwn.is (HS.out.get 1 (x := machI D1 A1 M) rfl)).sess.range hk1
    rw [hbs1] at hbs'; cases hbs'
    rw [Nat.zero_add] at hR
    replace hR := hide hR
    go_upto_region 6 with (first | ((with_reducible refine isList ?_); first | (refine st_load1 HS 0 rfl _ _ rfl _ rfl rfl (by decide +kernel) rfl ?_) | (refine wpList_load_at _ _ rfl rfl bs1 (k * 17) rfl (sessOf (A1.q k) (M.at k)) (by decide +kernel) (by kernel_rfl) hR.out ?_) | (refine st_alloc HS _ rfl rfl zeroSL zeroS ?_; clear HS; intro W bx HS) | (refine st_storeA HS 0 rfl _ _ _ rfl rfl rfl _ rfl rfl (by kernel_rfl) rfl ?_; clear HS; intro W HS)))
    replace HS : Hid (St w W [blkI bx (sessL (lz (M.at k).num) (.slice (A1.q k).p.a (A1.q k).p.n (A1.q k).p.c) (.slice (A1.q k).r.a (A1.q k).r.n (A1.q k).r.c) (.slice (A1.q k).t.a (A1.q k).t.n (A1.q k).t.c)), blkI bo (machL A1 M), machI D1 A1 M, blkI br zeroML, blkI bm (machL A M)]) := HS
    clear hR
    obtain ⟨ie, hie, hz, hy, hx⟩ := info_parts Tryz.infoEvent
    replace hie := hide hie
    replace hz := hide hz
    replace hy := hide hy
    replace hx := hide hx
    replace hn := hide hn
    go_upto_region 7 with (first | ((with_reducible refine isList ?_); first | (refine st_load1 HS 0 rfl _ _ rfl _ rfl rfl (by decide +kernel) rfl ?_) | (refine st_load1 HS 1 rfl _ _ rfl _ rfl rfl (by decide +kernel) rfl ?_) | (refine st_litE HS _ rfl rfl rfl ?_; clear HS; intro W be HS) | (refine st_event HS 0 3 (x := [lz (M.at k).num 0, lz (M.at k).num 1, kind, value]) rfl rfl rfl hn.out rfl _ _ _ rfl ie _ Tryz.underlying32 hie.out hz.out hy.out hx.out rfl rfl rfl ?_; clear HS; intro W D2 g cap HS) | (refine st_store1 HS 2 rfl _ _ _ rfl _ rfl rfl rfl (by decide +kernel) rfl rfl ?_; clear HS; intro W HS)))
    replace HS := hide HS.out.tail.tail
    replace HS : Hid (St w W [blkI bo (machL (A1.setE ⟨some ⟨g, 0, none⟩, A1.e.n + 1, cap⟩) { M with trace := M.trace ++ [lz (M.at k).num 0, lz (M.at k).num 1, kind, value] }), machI D2 (A1.setE ⟨some ⟨g, 0, none⟩, A1.e.n + 1, cap⟩) { M with trace := M.trace ++ [lz (M.at k).num 0, lz (M.at k).num 1, kind, value] }, blkI br zeroML, blkI bm (machL A M)]) := HS
    rw [← eT.out] at HS
    generalize A1.setE ⟨some ⟨g, 0, none⟩, A1.e.n + 1, cap⟩ = A5 at HS
    go_wp2_with (first | ((with_reducible refine isList ?_); first | (refine st_loadA HS 0 rfl _ _ rfl rfl rfl (by decide +kernel) (by kernel_rfl) ?_) | (refine st_storeA HS 2 rfl _ _ _ rfl rfl rfl _ rfl rfl (by kernel_rfl) rfl ?_; clear HS; intro W HS)))
    rw [eS.out]
    exact bodyPost_ret (ret_mach2 Tryz.results18 (HS.out.blk 2 rfl) rfl rfl rfl) rfl (mret_of (R := (tellP M k kind value, 0)) HS.out 1 (D := D2) (A := A5) rfl)
  · have i1 : ¬ (A1.e.n : Int) < 512 := by omega
    have eT : tellP M k kind value = M := by
      unfold tellP
      rw [if_neg (by rw [hTl]; omega)]
    rw [eT] at eS
    go_wp2_with (first | ((with_reducible refine isList ?_); first | (refine st_load1 HS 0 rfl _ _ rfl _ rfl rfl (by decide +kernel) rfl ?_) | (refine st_loadA HS 0 rfl _ _ rfl rfl rfl (by decide +kernel) (by kernel_rfl) ?_) | (refine st_storeA HS 2 rfl _ _ _ rfl rfl rfl _ rfl rfl (by kernel_rfl) rfl ?_; clear HS; intro W HS)))
    rw [eS.out]
    exact bodyPost_ret (ret_mach2 Tryz.results18 (HS.out.blk 2 rfl) rfl rfl rfl) rfl (mret_of (R := (M, 0)) HS.out 1 (D := D1) (A := A1) rfl)
end Go.Proofs.YtaaenolbfhhnfaaGreat
namespace Go.Proofs.YtaaenolbfhhnfaaGreat
open Go.RowKit
set_option linter.unusedSimpArgs false
set_option linter.unusedVariables false
set_option maxRecDepth 100000 in
set_option maxHeartbeats 2000000 in
theorem undoHas_any (A : MacM) (M : PMach) (i : Int) (w : World) (h : MachIs w A M) :
    Calls Tryz.prog 137 #[machA A M, .int .i64 i] w fun e w' => e = .returned (.bool (hereP M i)) ∧ Below w.heap.size w w' := by
  have hX := hide h.sess.1
  have hn8 : A.s.n * 184 ≤ 140737488351232 := h.sess.2.1.1
  have hMay := hide fun (W : World) (hb : Below w.heap.size w W) => gmachMay_any A M W (h.below hb)
  obtain ⟨V0, hV0⟩ : ∃ V0, V0 = machA A M := ⟨_, rfl⟩
  rw [← hV0]
  have HV : Hid (V0.cells = (machL A M).toArray) := by rw [hV0]; rfl
  clear hV0
  have HM := hide h
  have HS := hide (St.refl w)
  clear h
  go_enter Tryz.func137, Tryz.ntmps137
  go_wp2_with (first | ((with_reducible refine isList ?_); first | (refine st_box HS _ _ rfl rfl (machL A M) HV.out ?_; clear HS; intro W bm HS) | (refine st_loadA HS 0 rfl _ _ rfl rfl rfl (by decide +kernel) (by kernel_rfl) ?_)))
  refine (hMay.out _ HS.out.below).mono ?_
  rintro e W1 ⟨rfl, hb⟩
  replace HS := hide (HS.out.on hb)
  clear hb hMay
  cases hm : machMay M
  · go_wp2
    go_ret
    exact ⟨ret_bool (by unfold hereP; rw [hm]; rfl), HS.out.below⟩
  have hU : Hid (hereP M i = upToV i ((A.s.n : Int) - 1)) := by
    show hereP M i = _
    unfold hereP upToV
    rw [hm, hX.out, Bool.true_and, ← Bool.decide_and]
    exact decide_eq_decide.2 (by omega)
  replace hm := hide hm
  have c9 : W1.cell? ⟨bm, 9, none⟩ = some (.slice A.s.a A.s.n A.s.c) := (HS.out.blk 0 rfl).cell 9 _ rfl
  go_wp2_with fail
  refine (askUpTo_any _ _ _).mono ?_
  rintro e w' ⟨rfl, rfl⟩
  clear c9
  rw [← hU.out]
  go_wp2
  go_ret
  exact ⟨ret_bool (by simp), HS.out.below⟩
set_option maxRecDepth 100000 in
set_option maxHeartbeats 2000000 in
theorem undoFree_any (w0 w : World) (L : List Itm) (i : Nat) (D : Nat → Prop) (A1 : MacM) (M0 : PMach) (g : Nat) (id : Int) (HS : Hid (St w0 w L)) (ei : Hid (L[i]? = some (machI D A1 M0))) (hlt : g < 4) :
    Calls Tryz.prog 174 #[.slice (A1.w g).a (A1.w g).n (A1.w g).c, .int .i64 (wrap64 (id + 1))] w fun e w' => e = .returned (.tuple #[]) ∧ St w0 w' (L.set i (machI D A1 (M0.setLv g (freeTo id (M0.lv g) ((M0.lv g).length / 3))))) := by
  have hM0 : MachOwn D w A1 M0 := HS.out.get i ei.out
  have hw4 : Hid (M0.words.length = 4) := hM0.is.four
  have hwl : Hid ((M0.lv g).length = (A1.w g).n * 3) := (hM0.is.words g hlt).1
  have hn5 : (A1.w g).n ≤ 1152921504606846976 := by have := (hM0.is.words g hlt).2.1.1; omega
  have hlen : Hid (i < L.length) := (List.getElem?_eq_some_iff.1 ei.out).1
  have HS0 : Hid (St w0 w (L.set i (machI D A1 (M0.setLv g (freeTo id (M0.lv g) 0))))) := by
    unfold freeTo
    rw [PMach.setLv_self, set_self ei.out]
    exact HS
  clear hM0 HS ei
  obtain ⟨lk, hlk⟩ : ∃ lk, lk = wrap64 (id + 1) := ⟨_, rfl⟩
  rw [← hlk]
  replace hlk := hide hlk
  go_enter Tryz.func174, Tryz.ntmps174
  go_wp2
  go_loopw [7] (fun j wr => ∃ m : Nat, m ≤ (A1.w g).n ∧ j = .int .i64 m ∧ Hid (St w0 wr (L.set i (machI D A1 (M0.setLv g (freeTo id (M0.lv g) m)))))) (fun j _ => (A1.w g).n - (intOf j).toNat)
  case atStart => exact ⟨0, Nat.zero_le _, rfl, HS0⟩
  case round =>
    clear HS0
    obtain ⟨m, hm, rfl, HS⟩ := hrel
    have hg1 : (L.set i (machI D A1 (M0.setLv g (freeTo id (M0.lv g) m))))[i]? = some (machI D A1 (M0.setLv g (freeTo id (M0.lv g) m))) := by
      rw [List.getElem?_set, if_pos rfl, if_pos hlen.out]
    by_cases hmn : m < (A1.w g).n
    · have i2 : (m : Int) < ((A1.w g).n : Int) := by omega
      have hM : MachOwn D _ A1 _ := HS.out.get i hg1
      obtain ⟨b, hb, _⟩ := hM.wblk hlt (by omega)
      have hc := hM.is.wcell hlt hmn (c := 2) (by decide) hb
      rw [PMach.lv_setLv (by rw [hw4.out]; exact hlt), Nat.zero_add] at hc
      obtain ⟨q, hq⟩ : ∃ q, q = lz (freeTo id (M0.lv g) m) (m * 3 + 2) := ⟨_, rfl⟩
      rw [← hq] at hc
      clear hM
      replace hg1 := hide hg1
      replace hq := hide hq
      by_cases hL : q = lk
      · have hL2 : (q == lk) = true := by rw [hL]; exact beq_self_eq_true _
        have hF : freeTo id (M0.lv g) (m + 1) = (freeTo id (M0.lv g) m).set (m * 3 + 2) 0 := by
          show (if _ then _ else _) = _
          rw [if_pos (by rw [← hq.out, hL]; exact hlk.out)]
        replace hL := hide hL
        replace hF := hide hF
        go_wp2_with (first | (refine st_storeW HS i hg1.out hlt (c := m * 3 + 2) (by omega) hb _ _ _ rfl rfl rfl rfl (by decide +kernel) ?_; clear HS; intro W HS))
        rw [List.set_set, PMach.setLv_twice, PMach.lv_setLv (by rw [hw4.out]; exact hlt), ← hF.out] at HS
        go_roundw
        case rel =>
          first
            | exact ⟨m + 1, by omega, by go_num, HS⟩
            | (repeat apply Exists.intro
               exact ⟨⟨m + 1, by omega, by go_num, HS⟩, by first | rfl | (rw [hb]; rfl)⟩)
        case measure => simp [intOf]; omega
      · have hL2 : (q == lk) = false := by simpa using hL
        have hF : freeTo id (M0.lv g) (m + 1) = freeTo id (M0.lv g) m := by
          show (if _ then _ else _) = _
          rw [if_neg (by rw [← hq.out]; intro h; exact hL (h.trans hlk.out.symm))]
        replace hL := hide hL
        replace hF := hide hF
        go_wp2
        rw [← hF.out] at HS
        go_roundw
        case rel =>
          first
            | exact ⟨m + 1, by omega, by go_num, HS⟩
            | (repeat apply Exists.intro
               exact ⟨⟨m + 1, by omega, by go_num, HS⟩, by first | rfl | (rw [hb]; rfl)⟩)
        case measure => simp [intOf]; omega
    · obtain rfl : m = (A1.w g).n := by omega
      go_wp2
      go_end0
      refine ⟨rfl, ?_⟩
      rw [hwl.out, Nat.mul_div_cancel _ (by decide)]
      exact HS.out
end Go.Proofs.YtaaenolbfhhnfaaGreat
namespace Go.Proofs.YtaaenolbfhhnfaaGreat
open Go.RowKit
set_option linter.unusedSimpArgs false
set_option linter.unusedVariables false
/-- Is it one of the first n? -/
def inTo (z : Nat → Int) (v : Int) : Nat → Bool
  | 0 => false
  | n + 1 => inTo z v n || decide (v = z n)
theorem inTo_yes {z : Nat → Int} {v : Int} : ∀ {n k : Nat}, k < n → v = z k → inTo z v n = true
  | n + 1, k, hk, h => by
    unfold inTo
    by_cases e : k = n
    · subst e; rw [decide_eq_true h, Bool.or_true]
    · rw [inTo_yes (show k < n by omega) h, Bool.true_or]
set_option maxHeartbeats 1000000 in
theorem slicesIndex_any (a : Option Addr) (n c : Nat) (z : Nat → Int) (v : Int) (w : World) (hn : n ≤ 1152921504606846976) (h : Row w a n fun i => .int .i64 (z i)) :
    Calls Tryz.prog 173 #[.slice a n c, .int .i64 v] w fun e w' => ∃ r : Int, e = .returned (.int .i64 r) ∧ decide (0 ≤ r) = inTo z v n ∧ w = w' := by
  go_enter Tryz.func173, Tryz.ntmps173
  go_wp2
  go_loopw [8] (fun i wr => ∃ k : Nat, k ≤ n ∧ i = .int .i64 k ∧ inTo z v k = false ∧ w = wr) (fun i _ => n - (intOf i).toNat)
  case atStart => exact ⟨0, Nat.zero_le _, rfl, rfl, rfl⟩
  case round =>
    obtain ⟨k, hk, rfl, hs, rfl⟩ := hrel
    replace hs := hide hs
    by_cases hlt : k < n
    · have i1 : (k : Int) < (n : Int) := by omega
      obtain ⟨b, off, rfl, hb, c0⟩ := h k hlt
      replace c0 : w.cell? ⟨b, off + k, none⟩ = some (.int .i64 (z k)) := c0
      obtain ⟨u, hu⟩ : ∃ u, u = z k := ⟨_, rfl⟩
      rw [← hu] at c0
      replace hu := hide hu
      by_cases hv : v = u
      · have hI := hide (inTo_yes hlt (hv.trans hu.out))
        subst hv
        clear h
        go_wp2
        go_ret
        exact ⟨k, rfl, by rw [hI.out, decide_eq_true (by omega : (0 : Int) ≤ k)], rfl⟩
      · have hI : Hid (inTo z v (k + 1) = false) := by
          show inTo z v (k + 1) = false
          rw [inTo, hs.out, Bool.false_or, decide_eq_false (by rw [← hu.out]; exact hv)]
        have hvb : (v == u) = false := by simpa using hv
        clear h
        go_wp2
        go_roundw
        case rel => exact ⟨k + 1, by omega, by go_num, hI.out, trivial⟩
        case measure => simp [intOf]; omega
    · obtain rfl : k = n := by omega
      clear h
      go_wp2
      go_ret
      exact ⟨-1, rfl, hs.out.symm, rfl⟩
theorem slicesContains_any (a : Option Addr) (n c : Nat) (z : Nat → Int) (v : Int) (w : World) (hn : n ≤ 1152921504606846976) (h : Row w a n fun i => .int .i64 (z i)) :
    Calls Tryz.prog 138 #[.slice a n c, .int .i64 v] w fun e w' => e = .returned (.bool (inTo z v n)) ∧ w = w' := by
  have hC := hide (slicesIndex_any a n c z v w hn h)
  clear h hn
  go_enter Tryz.func138, Tryz.ntmps138
  go_wp2_with fail
  refine hC.out.mono ?_
  rintro e w' ⟨r, rfl, hr, rfl⟩
  clear hC
  replace hr := hide hr
  go_wp2
  go_ret
  exact ⟨ret_bool hr.out, rfl⟩
/-- Does a session run, and does one of these codes stand there? -/
def atCodeP (M : PMach) (i : Int) (z : Nat → Int) (n : Nat) : Bool := hereP M i && ((M.at i.toNat).runs && inTo z ((M.at i.toNat).ins 0) n)
set_option maxRecDepth 100000 in
set_option maxHeartbeats 2000000 in
theorem standAtCode_any (A : MacM) (M : PMach) (i : Int) (a : Option Addr) (n c : Nat) (z : Nat → Int) (w : World) (h : MachIs w A M) (hn : n ≤ 1152921504606846976) (hr : Row w a n fun i => .int .i64 (z i)) :
    Calls Tryz.prog 74 #[machA A M, .int .i64 i, .slice a n c] w fun e w' => e = .returned (.bool (atCodeP M i z n)) ∧ Below w.heap.size w w' := by
  have hX := hide h.sess.1
  have hHas := hide fun (W : World) (hb : Below w.heap.size w W) => undoHas_any A M i W (h.below hb)
  have hrng := hide fun (k : Nat) (hk : k < A.s.n) (W : World) (hb : Below w.heap.size w W) => (h.below hb).sess.range hk
  have hSes : Hid (∀ (k : Nat) (hk : k < A.s.n) (W : World) (hb : Below w.heap.size w W), SessIs W (A.q k) (M.at k)) := fun k hk W hb => (h.below hb).sess.2.2.2 k hk
  have hCon := hide fun (v : Int) (W : World) (hb : Below w.heap.size w W) => slicesContains_any a n c z v W hn (hr.below hb (Nat.le_refl _))
  clear hr
  obtain ⟨V0, hV0⟩ : ∃ V0, V0 = machA A M := ⟨_, rfl⟩
  rw [← hV0]
  have HV : Hid (V0.cells = (machL A M).toArray) := by rw [hV0]; rfl
  clear hV0
  have HM := hide h
  have HS := hide (St.refl w)
  clear h
  go_enter Tryz.func74, Tryz.ntmps74
  go_wp2_with (first | ((with_reducible refine isList ?_); first | (refine st_box HS _ _ rfl rfl (machL A M) HV.out ?_; clear HS; intro W bm HS) | (refine st_loadA HS 0 rfl _ _ rfl rfl rfl (by decide +kernel) (by kernel_rfl) ?_)))
  refine (hHas.out _ HS.out.below).mono ?_
  (rintro e Wq ⟨rfl, hb⟩; have HSq := hide (HS.out.on hb); clear HS hb; replace HS := HSq; clear HSq)
  clear hHas
  cases hh : hereP M i
  case false =>
    go_wp2
    go_ret
    exact ⟨ret_bool (by unfold atCodeP; rw [hh]; rfl), HS.out.below⟩
  obtain ⟨hmay, k, rfl, hk0⟩ := hereP_yes hh
  have hk : k < A.s.n := by have := hX.out; omega
  have hok := here_sess hmay hk0
  have i2 : (k : Int) < (A.s.n : Int) := by omega
  have eA : Hid (atCodeP M k z n = ((M.at k).runs && inTo z ((M.at k).ins 0) n)) := by show _ = _; unfold atCodeP; rw [hh, Int.toNat_natCast]; rfl
  obtain ⟨p, hp⟩ : ∃ p : Nat, lz (M.at k).num 4 = p := ⟨(lz (M.at k).num 4).toNat, (Int.toNat_of_nonneg hok.pc.1).symm⟩
  have hpn : (M.at k).prog.length / 4 = (A.q k).p.n := by
    have h1 : (M.at k).prog.length = (A.q k).p.n * 4 := (HM.out.sess.2.2.2 k hk).2.1.1
    rw [h1, Nat.mul_div_cancel _ (by decide)]
  have hrun : Hid ((M.at k).runs = (decide (lz (M.at k).num 3 = 0) && decide (p < (A.q k).p.n))) := by
    show (M.at k).runs = _
    unfold PSess.runs PSess.step PSess.pc
    rw [hp, hpn]
    congr 1
    exact decide_eq_decide.2 (by omega)
  have hins : Hid ((M.at k).ins 0 = lz (M.at k).prog (p * 4)) := by
    show (M.at k).ins 0 = _
    unfold PSess.ins PSess.pc
    rw [hp, Int.toNat_natCast, Nat.add_zero]
  clear hh hok hmay hpn
  obtain ⟨bs, off, hbs, _, hR⟩ := hrng.out k hk _ HS.out.below
  replace hR := hide hR
  go_upto_region 3 with fail
  go_upto_region 4 with (first | ((with_reducible refine isList ?_); first | (refine st_load1 HS 0 rfl _ _ rfl _ rfl rfl (by decide +kernel) rfl ?_) | (refine wpList_load_at _ _ rfl rfl bs (off + k * 17) rfl (sessOf (A.q k) (M.at k)) (by decide +kernel) (by kernel_rfl) hR.out ?_) | (refine st_alloc HS _ rfl rfl zeroSL zeroS ?_; clear HS; intro W b7 HS) | (refine st_storeA HS 0 rfl _ _ _ rfl rfl rfl _ rfl rfl (by kernel_rfl) rfl ?_; clear HS; intro W HS)))
  replace HS : Hid (St w W [blkI b7 (sessL (lz (M.at k).num) (.slice (A.q k).p.a (A.q k).p.n (A.q k).p.c) (.slice (A.q k).r.a (A.q k).r.n (A.q k).r.c) (.slice (A.q k).t.a (A.q k).t.n (A.q k).t.c)), blkI bm (machL A M)]) := HS
  clear hR hbs
  have d3 : W.cell? ⟨b7, 3, none⟩ = some (.slice (A.q k).p.a (A.q k).p.n (A.q k).p.c) := (HS.out.blk 0 rfl).cell 3 _ rfl
  have d4 : W.cell? ⟨b7, 4, none⟩ = some (.int .i64 (lz (M.at k).num 3)) := (HS.out.blk 0 rfl).cell 4 _ rfl
  have d5 : W.cell? ⟨b7, 5, none⟩ = some (.int .i64 p) := by rw [← hp]; exact (HS.out.blk 0 rfl).cell 5 _ rfl
  replace hp := hide hp
  obtain ⟨st, hst⟩ : ∃ st, st = lz (M.at k).num 3 := ⟨_, rfl⟩
  rw [← hst] at d4 hrun
  clear hst
  by_cases h0 : st = 0
  · subst h0
    by_cases h1 : p < (A.q k).p.n
    · have i1 : (p : Int) < ((A.q k).p.n : Int) := by omega
      obtain ⟨bp, op, hbp, _, hI⟩ := (hSes.out k hk _ HS.out.below).2.1.four h1
      have c0 : W.cell? ⟨bp, op + p * 4, none⟩ = some (.int .i64 (lz (M.at k).prog (p * 4))) := hI 0 _ rfl
      rw [hbp] at d3
      clear hI hbp
      go_wp2_with fail
      refine (hCon.out _ _ HS.out.below).mono ?_
      rintro e w' ⟨rfl, rfl⟩
      clear d3 d4 d5 c0
      go_wp2
      go_ret
      exact ⟨ret_bool (by rw [eA.out, hrun.out, hins.out, decide_eq_true h1]; simp), HS.out.below⟩
    · have i1 : ¬ (p : Int) < ((A.q k).p.n : Int) := by omega
      have E := hide h1
      clear h1
      go_wp2
      go_ret
      exact ⟨ret_bool (by rw [eA.out, hrun.out, decide_eq_false E.out, Bool.and_false, Bool.false_and]), HS.out.below⟩
  · have hb : (st == 0) = false := by simpa using h0
    have E := hide h0
    clear h0
    go_wp2
    go_ret
    exact ⟨ret_bool (by rw [eA.out, hrun.out, decide_eq_false E.out, Bool.false_and, Bool.false_and]), HS.out.below⟩
end Go.Proofs.YtaaenolbfhhnfaaGreat
namespace Go.Proofs.YtaaenolbfhhnfaaGreat
open Go.RowKit
set_option linter.unusedSimpArgs false
set_option linter.unusedVariables false
theorem machMay_turn {M M' : PMach} {k : Nat} (h : machMay M = true) (hk : k < M.sess.length) (hlen : ∀ g, g < 4 → (M'.lens g).n = (M.lens g).n) (ham : amay M'.lens M'.wz = true) (hc : M'.clocks = M.clocks) (hce : M'.ceil = M.ceil) (ht : M'.trace = M.trace) (hl : M'.sess.length = M.sess.length)
    (ho : ∀ j, j ≠ k → M'.at j = M.at j) (hid : lz (M'.at k).num 0 = lz (M.at k).num 0) (hs : sessMayP M.lens (M'.at k) = true) : machMay M' = true := by
  obtain ⟨h1, h2, h3, h4, h5, h6, h7⟩ := machMay_parts h
  have hids : ∀ j, lz (M'.at j).num 0 = lz (M.at j).num 0 := fun j => by
    by_cases e : j = k
    · subst e; exact hid
    · rw [ho j e]
  have h6' : allTo (sessOk M') M'.sess.length = true := by
    refine allTo_mk fun j hj => ?_
    have hj' : j < M.sess.length := by omega
    have hj2 := allTo_get h6 j hj'
    unfold sessOk at hj2 ⊢
    simp only [Bool.and_eq_true] at hj2 ⊢
    refine ⟨?_, ?_⟩
    · have e : ∀ x, sessMayP M'.lens x = sessMayP M.lens x := fun x => by unfold sessMayP; exact sessMay_lens hlen
      rw [e]
      by_cases ej : j = k
      · subst ej; exact hs
      · rw [ho j ej]; exact hj2.1
    · unfold riseP at hj2 ⊢
      rw [hids, hids]
      exact hj2.2
  have htn : M'.tn = M.tn := by unfold PMach.tn; rw [ht]
  have h7' : allTo (labOk M') M'.tn = true := by
    rw [htn]
    have : labOk M' = labOk M := by funext j; unfold labOk; rw [ht]
    rw [this]; exact h7
  unfold machMay
  rw [ham, hce, h2, hc, h5, h6', h7', decide_eq_true (by omega : M'.sess.length ≤ 4), decide_eq_true (by omega : M'.tn ≤ 512)]
  rfl
theorem freeTo_lz (id : Int) (l : List Int) : ∀ n c, lz (freeTo id l n) c = if c % 3 = 2 ∧ c / 3 < n ∧ lz l c = wrap64 (id + 1) ∧ c < l.length then 0 else lz l c
  | 0, c => by rw [if_neg (by omega)]; rfl
  | n + 1, c => by
    have ih := freeTo_lz id l n
    have il := freeTo_len id l n
    show lz (if lz (freeTo id l n) (n * 3 + 2) = wrap64 (id + 1) then (freeTo id l n).set (n * 3 + 2) 0 else freeTo id l n) c = _
    have e2 : lz (freeTo id l n) (n * 3 + 2) = lz l (n * 3 + 2) := by rw [ih, if_neg (by omega)]
    rw [e2]
    by_cases hq : lz l (n * 3 + 2) = wrap64 (id + 1)
    · rw [if_pos hq]
      by_cases hb : n * 3 + 2 < l.length
      · rw [lz_set (by omega)]
        by_cases ec : c = n * 3 + 2
        · subst ec
          rw [if_pos rfl, if_pos ⟨by omega, by omega, hq, hb⟩]
        · rw [if_neg ec, ih]
          by_cases hh : c % 3 = 2 ∧ c / 3 < n ∧ lz l c = wrap64 (id + 1) ∧ c < l.length
          · rw [if_pos hh, if_pos ⟨hh.1, by omega, hh.2.2⟩]
          · rw [if_neg hh, if_neg fun h => hh ⟨h.1, by omega, h.2.2⟩]
      · rw [List.set_eq_of_length_le (by omega), ih]
        by_cases hh : c % 3 = 2 ∧ c / 3 < n ∧ lz l c = wrap64 (id + 1) ∧ c < l.length
        · rw [if_pos hh, if_pos ⟨hh.1, by omega, hh.2.2⟩]
        · rw [if_neg hh, if_neg fun h => hh ⟨h.1, by omega, h.2.2⟩]
    · rw [if_neg hq, ih]
      by_cases hh : c % 3 = 2 ∧ c / 3 < n ∧ lz l c = wrap64 (id + 1) ∧ c < l.length
      · rw [if_pos hh, if_pos ⟨hh.1, by omega, hh.2.2⟩]
      · rw [if_neg hh, if_neg fun h => hh ⟨h.1, by
          by_cases en : c / 3 = n
          · exfalso; exact hq (by rw [show n * 3 + 2 = c by omega]; exact h.2.2.1)
          · omega, h.2.2⟩]
theorem looseW_lv (id : Int) (M : PMach) (h4 : M.words.length = 4) : ∀ n, n ≤ 4 → ∀ g, g < 4 → (looseW id M n).lv g = if g < n then freeTo id (M.lv g) ((M.lv g).length / 3) else M.lv g
  | 0, _, g, _ => by rw [if_neg (by omega)]; rfl
  | n + 1, hn, g, hg => by
    have ih := looseW_lv id M h4 n (by omega)
    have hlen : (looseW id M n).words.length = 4 := by rw [looseW_len]; exact h4
    show ((looseW id M n).setLv n _).lv g = _
    by_cases e : g = n
    · subst e
      rw [PMach.lv_setLv (by omega), if_pos (by omega), ih g hg, if_neg (by omega)]
    · have : ((looseW id M n).setLv n (freeTo id ((looseW id M n).lv n) (((looseW id M n).lv n).length / 3))).lv g = (looseW id M n).lv g := by
        show (List.set _ n _).getD g [] = _
        rw [getD_set_ne' _ _ (Ne.symm e)]; rfl
      rw [this, ih g hg]
      by_cases hh : g < n
      · rw [if_pos hh, if_pos (by omega)]
      · rw [if_neg hh, if_neg (by omega)]
theorem looseW_amay {M : PMach} (id : Int) (h4 : M.words.length = 4) (h : amay M.lens M.wz = true) : (∀ g, g < 4 → ((looseW id M 4).lens g).n = (M.lens g).n) ∧ amay (looseW id M 4).lens (looseW id M 4).wz = true := by
  have hl : ∀ g, g < 4 → ((looseW id M 4).lens g).n = (M.lens g).n := fun g hg => by
    show ((looseW id M 4).lv g).length / 3 = (M.lv g).length / 3
    rw [looseW_lv id M h4 4 (by omega) g hg, if_pos hg, freeTo_len]
  refine ⟨hl, lvTo_mk fun g hg => ?_⟩
  have hg2 := lvTo_get h g hg
  unfold lvMay at hg2 ⊢
  rw [hl g hg]
  simp only [Bool.and_eq_true] at hg2 ⊢
  refine ⟨hg2.1, wordsTo_mk fun i hi => ?_⟩
  have hw := wordsTo_get hg2.2 i hi
  have e : ∀ c, (looseW id M 4).wz g c = lz (freeTo id (M.lv g) ((M.lv g).length / 3)) c := fun c => by
    show lz ((looseW id M 4).lv g) c = _
    rw [looseW_lv id M h4 4 (by omega) g hg, if_pos hg]
  rw [e, e, e, freeTo_lz, freeTo_lz, freeTo_lz, if_neg (by omega), if_neg (by omega)]
  split
  · obtain ⟨a, b, c⟩ := wmay_yes hw
    exact wmay_of a b (by decide)
  · exact hw
end Go.Proofs.YtaaenolbfhhnfaaGreat
namespace Go.Proofs.YtaaenolbfhhnfaaGreat
open Go.RowKit
set_option linter.unusedSimpArgs false
set_option linter.unusedVariables false
theorem looseW_at (id : Int) (M : PMach) (k : Nat) : ∀ g, (looseW id M g).at k = M.at k
  | 0 => rfl
  | g + 1 => looseW_at id M k g
set_option maxRecDepth 100000 in
set_option maxHeartbeats 4000000 in
theorem letGo_any (A : MacM) (M : PMach) (k : Nat) (w : World) (h : MachIs w A M) (hk : k < A.s.n) :
    Calls Tryz.prog 139 #[machA A M, .int .i64 k] w fun e w' => ∃ A', e = .returned (machA A' (looseP M k)) ∧ MachOwn (fun k => w.heap.size ≤ k ∧ k < w'.heap.size) w' A' (looseP M k) ∧ A'.s.n = A.s.n ∧ Below w.heap.size w w' := by
  have hCopy := hide fun (W : World) (hb : Below w.heap.size w W) => anewMachine_any A M W (h.below hb)
  have hXL := hide h.sess.1
  have i0 : (k : Int) < (A.s.n : Int) := by omega
  obtain ⟨V0, hV0⟩ : ∃ V0, V0 = machA A M := ⟨_, rfl⟩
  rw [← hV0]
  have HV : Hid (V0.cells = (machL A M).toArray) := by rw [hV0]; rfl
  clear hV0
  have HM := hide h
  have HS := hide (St.refl w)
  clear h
  go_enter Tryz.func139, Tryz.ntmps139
  go_wp2_with (first | ((with_reducible refine isList ?_); first | (refine st_box HS _ _ rfl rfl (machL A M) HV.out ?_; clear HS; intro W bm HS) | (refine st_alloc HS _ rfl rfl zeroML zeroM ?_; clear HS; intro W br HS) | (refine st_loadA HS 1 rfl _ _ rfl rfl rfl (by decide +kernel) (by kernel_rfl) ?_)))
  refine (hCopy.out _ HS.out.below).mono ?_
  rintro e W1 ⟨A1, rfl, hO, hb⟩
  have HS1 := hide (HS.out.push hb (machI (fun k => _) A1 M) (machI_loc _ _ _) hO fun k hk => hk)
  generalize (fun k => _) = D1 at HS1
  have hn1 : A1.s.n = A.s.n := by have := hO.is.sess.1; have := hXL.out; omega
  have hk1 : k < A1.s.n := by omega
  have i4 : (k : Int) < (A1.s.n : Int) := by omega
  obtain ⟨bs1, hbs1, _⟩ := MachOwn.sblk hO hk1
  clear HS hb hO hCopy
  replace HS := HS1
  clear HS1
  go_upto_region 2 with (first | ((with_reducible refine isList ?_); first | (refine st_alloc HS _ rfl rfl zeroML zeroM ?_; clear HS; intro W bo HS) | (refine st_storeA HS 0 rfl _ _ _ rfl rfl rfl _ rfl rfl (by kernel_rfl) rfl ?_; clear HS; intro W HS)))
  obtain ⟨id, hid⟩ : ∃ id, id = lz (M.at k).num 0 := ⟨_, rfl⟩
  replace HS : Hid (St w W [blkI bo (machL A1 M), machI D1 A1 (looseW id M 0), blkI br zeroML, blkI bm (machL A M)]) := HS
  have hv0 : Hid (∀ g, (sessOf (A1.q k) ((looseW id M g).at k))[0]? = some (.int .i64 id)) := fun g => by rw [looseW_at, hid]; rfl
  replace hid := hide hid
  replace hn1 := hide hn1
  go_upto_region 3 with (first | ((with_reducible refine isList ?_); first | (refine st_load1 HS 0 rfl _ _ rfl _ rfl rfl (by decide +kernel) rfl ?_)))
  go_wp2_with (first | ((with_reducible refine isList ?_); first | (refine st_loadR HS 0 rfl _ _ rfl _ rfl rfl (by decide +kernel) [.slice (A1.w 0).a (A1.w 0).n (A1.w 0).c, .slice (A1.w 1).a (A1.w 1).n (A1.w 1).c, .slice (A1.w 2).a (A1.w 2).n (A1.w 2).c, .slice (A1.w 3).a (A1.w 3).n (A1.w 3).c] [.int .i64 (lz M.clocks 0), .int .i64 (lz M.clocks 1), .int .i64 (lz M.clocks 2), .int .i64 (lz M.clocks 3), .int .i64 M.ceil, .slice A1.s.a A1.s.n A1.s.c, .slice A1.e.a A1.e.n A1.e.c] (by kernel_rfl) rfl ?_)))
  go_loopw [17] (fun i wr => ∃ g : Nat, g ≤ 4 ∧ i = .int .i64 g ∧ Hid (St w wr [blkI bo (machL A1 M), machI D1 A1 (looseW id M g), blkI br zeroML, blkI bm (machL A M)])) (fun i _ => 4 - (intOf i).toNat)
  case atStart => exact ⟨0, Nat.zero_le _, rfl, HS⟩
  case round =>
    clear HS
    obtain ⟨g, hg, rfl, HS⟩ := hrel
    by_cases hlt : g < 4
    · have i1 : (g : Int) < 4 := by omega
      have hx := fun W => index_at A1.w hlt W
      go_upto_region 6 with fail
      clear hx
      go_wp2_with (first | ((with_reducible refine isList ?_); first | (refine st_loadS (MachOwn.is (HS.out.get 1 (x := machI D1 A1 (looseW id M g)) rfl)) hk1 hbs1 0 (by decide) (hv0.out g) _ _ rfl _ rfl (by rw [Nat.zero_add] <;> rfl) rfl (by decide +kernel) ?_)))
      refine (undoFree_any w _ _ 1 D1 A1 (looseW id M g) g id HS rfl hlt).mono ?_
      rintro e w1 ⟨rfl, HS2⟩
      replace HS : Hid (St w w1 [blkI bo (machL A1 M), machI D1 A1 (looseW id M (g + 1)), blkI br zeroML, blkI bm (machL A M)]) := HS2
      clear HS2
      go_wp2
      go_roundw
      case rel =>
        first
          | exact ⟨g + 1, by omega, by go_num, HS⟩
          | (repeat apply Exists.intro
             exact ⟨⟨g + 1, by omega, by go_num, HS⟩, rfl⟩)
      case measure => simp [intOf]; omega
    · obtain rfl : g = 4 := by omega
      go_wp2_with (first | ((with_reducible refine isList ?_); first | (refine st_storeNil HS 1 rfl hk1 hbs1 1 (by decide) _ _ _ rfl _ rfl (show _ = k * 17 + 10 from by with_reducible rfl) rfl rfl (by decide +kernel) ?_; clear HS; intro W HS) | (refine st_storeNil HS 1 rfl hk1 hbs1 2 (by decide) _ _ _ rfl _ rfl (show _ = k * 17 + 11 from by with_reducible rfl) rfl rfl (by decide +kernel) ?_; clear HS; intro W HS) | (refine st_storeN HS 1 rfl hk1 hbs1 9 (by decide) _ _ _ rfl _ rfl (show _ = k * 17 + 12 from by with_reducible rfl) rfl rfl (by decide +kernel) ?_; clear HS; intro W HS) | (refine st_storeN HS 1 rfl hk1 hbs1 10 (by decide) _ _ _ rfl _ rfl (show _ = k * 17 + 13 from by with_reducible rfl) rfl rfl (by decide +kernel) ?_; clear HS; intro W HS) | (refine st_loadA HS 0 rfl _ _ rfl rfl rfl (by decide +kernel) (by kernel_rfl) ?_) | (refine st_storeA HS 2 rfl _ _ _ rfl rfl rfl _ rfl rfl (by kernel_rfl) rfl ?_; clear HS; intro W HS)))
      rw [hid.out] at HS
      have e1 := HS.out.get 1 rfl
      have e2 := (HS.out.here 1 _ rfl).2.2
      refine bodyPost_ret (ret_mach Tryz.results139 (HS.out.blk 2 rfl) rfl rfl) rfl ⟨_, ?_, MachOwn.mono e1 e2, hn1.out, HS.out.below⟩
      rfl
end Go.Proofs.YtaaenolbfhhnfaaGreat
namespace Go.Proofs.YtaaenolbfhhnfaaGreat
open Go.RowKit
set_option linter.unusedSimpArgs false
set_option linter.unusedVariables false
/-- What End hands to Tell. -/
def endM (M : PMach) (k : Nat) (result told : Int) : PMach := (((looseP M k).doN k 3 6).doN k 12 result).doN k 13 told
set_option maxRecDepth 100000 in
set_option maxHeartbeats 4000000 in
theorem undoEnd_of (A : MacM) (M : PMach) (i result told : Int) (w : World) (h : MachIs w A M) (hT : ∀ k : Nat, hereP M k = true → upToV result 5 = true → upToV told 255 = true → tellingP (endM M k result told) k 6 result = endP M k result told) :
    Calls Tryz.prog 78 #[machA A M, .int .i64 i, .int .i64 result, .int .i64 told] w (MRet w (endP M i result told)) := by
  have hX := hide h.sess.1
  have hHas := hide fun (W : World) (hb : Below w.heap.size w W) => undoHas_any A M i W (h.below hb)
  have hLet := hide fun (k : Nat) (hk : k < A.s.n) (W : World) (hb : Below w.heap.size w W) => letGo_any A M k W (h.below hb) hk
  replace hT := hide hT
  obtain ⟨V0, hV0⟩ : ∃ V0, V0 = machA A M := ⟨_, rfl⟩
  rw [← hV0]
  have HV : Hid (V0.cells = (machL A M).toArray) := by rw [hV0]; rfl
  clear hV0
  have HM := hide h
  have HS := hide (St.refl w)
  clear h
  go_enter Tryz.func78, Tryz.ntmps78
  go_wp2_with (first | ((with_reducible refine isList ?_); first | (refine st_box HS _ _ rfl rfl (machL A M) HV.out ?_; clear HS; intro W bm HS) | (refine st_alloc HS _ rfl rfl zeroML zeroM ?_; clear HS; intro W br HS) | (refine st_loadA HS 1 rfl _ _ rfl rfl rfl (by decide +kernel) (by kernel_rfl) ?_)))
  refine (hHas.out _ HS.out.below).mono ?_
  rintro e W1 ⟨rfl, hb⟩
  replace HS := hide (HS.out.on hb)
  clear hb hHas
  cases hh : hereP M i
  case false =>
    go_upto_region 2 with fail
    go_wp2_with (first | ((with_reducible refine isList ?_); first | (refine st_storeA HS 0 rfl _ _ _ rfl rfl rfl _ rfl rfl (by kernel_rfl) rfl ?_; clear HS; intro W HS)))
    rw [show endP M i result told = (noMach, 1300) by unfold endP; rw [hh]; rfl]
    exact bodyPost_ret (ret_mach2 Tryz.results78 (HS.out.blk 0 rfl) rfl rfl rfl) rfl (mret_no HS.out.below)
  replace hh := hide hh
  obtain ⟨_, k, rfl, hk0⟩ := hereP_yes hh.out
  have hk : k < A.s.n := by have := hX.out; omega
  go_wp2_with fail
  refine (askUpTo_any _ _ _).mono ?_
  rintro e w' ⟨rfl, rfl⟩
  cases hu : upToV result 5
  · go_upto_region 2 with fail
    go_wp2_with (first | ((with_reducible refine isList ?_); first | (refine st_storeA HS 0 rfl _ _ _ rfl rfl rfl _ rfl rfl (by kernel_rfl) rfl ?_; clear HS; intro W HS)))
    rw [show endP M k result told = (noMach, 1300) by unfold endP; rw [hu]; simp]
    exact bodyPost_ret (ret_mach2 Tryz.results78 (HS.out.blk 0 rfl) rfl rfl rfl) rfl (mret_no HS.out.below)
  replace hu := hide hu
  go_wp2_with fail
  refine (askUpTo_any _ _ _).mono ?_
  rintro e w' ⟨rfl, rfl⟩
  cases hv : upToV told 255
  · go_upto_region 2 with fail
    go_wp2_with (first | ((with_reducible refine isList ?_); first | (refine st_storeA HS 0 rfl _ _ _ rfl rfl rfl _ rfl rfl (by kernel_rfl) rfl ?_; clear HS; intro W HS)))
    rw [show endP M k result told = (noMach, 1300) by unfold endP; rw [hv]; simp]
    exact bodyPost_ret (ret_mach2 Tryz.results78 (HS.out.blk 0 rfl) rfl rfl rfl) rfl (mret_no HS.out.below)
  replace hv := hide hv
  have eS := hide (hT.out k hh.out hu.out hv.out).symm
  go_upto_region 3 with fail
  go_wp2_with (first | ((with_reducible refine isList ?_); first | (refine st_loadA HS 1 rfl _ _ rfl rfl rfl (by decide +kernel) (by kernel_rfl) ?_)))
  refine (hLet.out k hk _ HS.out.below).mono ?_
  rintro e W2 ⟨A1, rfl, hO, hn1, hb⟩
  have HS1 := hide (HS.out.push hb (machI (fun k => _) A1 _) (machI_loc _ _ _) hO fun k hk => hk)
  generalize (fun k => _) = D1 at HS1
  have hk1 : k < A1.s.n := by omega
  have i4 : (k : Int) < (A1.s.n : Int) := by omega
  obtain ⟨bs1, hbs1, _⟩ := MachOwn.sblk hO hk1
  clear HS hb hO hLet
  replace HS := HS1
  clear HS1
  unfold endM at eS
  generalize looseP M k = N0 at HS eS
  go_upto_region 4 with (first | ((with_reducible refine isList ?_); first | (refine st_alloc HS _ rfl rfl zeroML zeroM ?_; clear HS; intro W bo HS) | (refine st_storeA HS 0 rfl _ _ _ rfl rfl rfl _ rfl rfl (by kernel_rfl) rfl ?_; clear HS; intro W HS)))
  go_upto_region 6 with (first | ((with_reducible refine isList ?_); first | (refine st_load1 HS 0 rfl _ _ rfl _ rfl rfl (by decide +kernel) rfl ?_) | (refine st_storeN HS 1 rfl hk1 hbs1 3 (by decide) _ _ _ rfl _ rfl (show _ = k * 17 + 4 from by with_reducible rfl) rfl rfl (by decide +kernel) ?_; clear HS; intro W HS) | (refine st_storeN HS 1 rfl hk1 hbs1 12 (by decide) _ _ _ rfl _ rfl (show _ = k * 17 + 15 from by with_reducible rfl) rfl rfl (by decide +kernel) ?_; clear HS; intro W HS) | (refine st_storeN HS 1 rfl hk1 hbs1 13 (by decide) _ _ _ rfl _ rfl (show _ = k * 17 + 16 from by with_reducible rfl) rfl rfl (by decide +kernel) ?_; clear HS; intro W HS)))
  replace HS : Hid (St w W [blkI bo (machL A1 (((N0.doN k 3 6).doN k 12 result).doN k 13 told)), machI D1 A1 (((N0.doN k 3 6).doN k 12 result).doN k 13 told), blkI br zeroML, blkI bm (machL A M)]) := HS
  generalize ((N0.doN k 3 6).doN k 12 result).doN k 13 told = N1 at HS eS
  go_wp2_with (first | ((with_reducible refine isList ?_); first | (refine st_loadA HS 0 rfl _ _ rfl rfl rfl (by decide +kernel) (by kernel_rfl) ?_)))
  refine (gtelling_any A1 N1 k 6 result _ (MachOwn.is (HS.out.get 1 (x := machI D1 A1 N1) rfl))).mono ?_
  (rintro e W2 ⟨A2, rfl, hO, hb⟩; have HS2 := hide (HS.out.push hb (machI (fun k => _) A2 _) (machI_loc _ _ _) hO fun k hk => hk); generalize (fun k => _) = D2 at HS2; clear hO HS hb; replace HS := HS2; clear HS2; go_wp2_with (first | ((with_reducible refine isList ?_); first | (refine st_storeA HS 3 rfl _ _ _ rfl rfl rfl _ rfl rfl (by kernel_rfl) rfl ?_; clear HS; intro W HS))); rw [eS.out]; exact bodyPost_ret (ret_mach2 Tryz.results78 (HS.out.blk 3 rfl) rfl rfl rfl) rfl (mret_of (R := tellingP N1 k 6 result) HS.out 0 (D := D2) (A := A2) rfl))
end Go.Proofs.YtaaenolbfhhnfaaGreat
