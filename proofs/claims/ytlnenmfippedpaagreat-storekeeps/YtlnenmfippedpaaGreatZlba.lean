/-
  Several small texts in one: MachProg2, MachProg3, TellProg, UndoProg, StandProg, LetGoMay, UndoMay, UndoPure, TellMay, SameMach, SameSess.
-/
import Derived.Test.YtlnenmfippedpaaGreatZhMachProg1
import Derived.BigQuiet
import Derived.Test.YtlnenmfippedpaaGreatZlag
import Derived.Test.YtlnenmfippedpaaGreatZlaf
import Derived.Test.YtlnenmfippedpaaGreatZhUndoRef
import Derived.Test.YtlnenmfippedpaaGreatZlad
import Derived.Test.YtlnenmfippedpaaGreatZlah
import Derived.Test.YtlnenmfippedpaaGreatZhSessMem
namespace Go.Proofs.YtlnenmfippedpaaGreat
open Go.RowKit
set_option linter.unusedSimpArgs false
set_option linter.unusedVariables false
def riseS (X : List PSess) (k : Nat) : Bool := decide (k = 0) || decide (lz (X.getD (k - 1) noSess).num 0 < lz (X.getD k noSess).num 0)
theorem SesIs.id {W : World} {s : Sl} {q : Nat → SesM} {X : List PSess} (h : SesIs W s q X) {k : Nat} (hk : k < s.n) : ∃ b off, s.a = some ⟨b, off, none⟩ ∧ W.cell? ⟨b, off + k * 17, none⟩ = some (.int .i64 (lz (X.getD k noSess).num 0)) := by
  obtain ⟨b, off, e, _, hR⟩ := h.range hk
  exact ⟨b, off, e, hR 0 _ rfl⟩
set_option maxRecDepth 100000 in
set_option maxHeartbeats 1000000 in
theorem idsRise_any (s : Sl) (q : Nat → SesM) (X : List PSess) (w : World) (h : SesIs w s q X) :
    Calls Tryz.prog 67 #[.slice s.a s.n s.c] w fun e w' => e = .returned (.bool (allTo (riseS X) s.n)) ∧ Below w.heap.size w w' := by
  have hn : s.n ≤ 1152921504606846976 := by have := h.2.1.1; omega
  have H := hide fun (W : World) (hb : Below w.heap.size w W) (k : Nat) (hk : k < s.n) => (h.below hb).id hk
  clear h
  go_enter Tryz.func67, Tryz.ntmps67
  go_wp2
  go_loopw [3] (fun i wr => ∃ m : Nat, Hid (m < s.n ∨ m = 0) ∧ i = .int .i64 ((m : Int) + 1) ∧ Hid (allTo (riseS X) (m + 1) = true) ∧ Below w.heap.size w wr) (fun i _ => s.n - (intOf i).toNat)
  case atStart => exact ⟨0, .inr rfl, rfl, rfl, Below.refl _ _⟩
  case round =>
    obtain ⟨m, hm, rfl, HT, hb⟩ := hrel
    by_cases hlt : m + 1 < s.n
    · have i1 : (m : Int) + 1 < (s.n : Int) := by omega
      have i0 : (m : Int) < (s.n : Int) := by omega
      obtain ⟨b, off, hsa, d0⟩ := H.out _ hb m (by omega)
      obtain ⟨b', off', hsa', d1⟩ := H.out _ hb (m + 1) hlt
      rw [hsa] at hsa'
      cases hsa'
      obtain ⟨x0, hx0⟩ : ∃ x, x = lz (X.getD m noSess).num 0 := ⟨_, rfl⟩
      obtain ⟨x1, hx1⟩ : ∃ x, x = lz (X.getD (m + 1) noSess).num 0 := ⟨_, rfl⟩
      rw [← hx0] at d0
      rw [← hx1] at d1
      have hr : Hid (riseS X (m + 1) = decide (x0 < x1)) := by
        show _ = _
        unfold riseS
        rw [Nat.add_sub_cancel, ← hx0, ← hx1, decide_eq_false (by omega : ¬ m + 1 = 0), Bool.false_or]
      have hmi : ((m : Int) + 1).toNat = m + 1 := by omega
      have ha : off + (m + 1) * 17 = off + (m * 17 + 17) := by omega
      rw [ha] at d1
      clear hx0 hx1 H
      by_cases hlx : x0 < x1
      · rw [decide_eq_true hlx] at hr
        have hgb : ¬ x1 ≤ x0 := by omega
        have hr1 : Hid (allTo (riseS X) (m + 1 + 1) = true) := by
          show allTo (riseS X) (m + 1 + 1) = true
          rw [allTo, HT.out, hr.out]; rfl
        go_upto_region 4 with fail
        go_big_quiet (fail)
        have hb2 : Below w.heap.size w (wr.drewN nq) := Below.drawn hb nq
        generalize wr.drewN nq = Wq at *
        clear d0 d1 hb
        go_wp2
        go_roundw
        case rel =>
          exact ⟨m + 1, .inl hlt, by go_num, hr1, hb2⟩
        case measure => simp [intOf]; omega
      · rw [decide_eq_false hlx] at hr
        have hgb : x1 ≤ x0 := by omega
        have hr1 : Hid (allTo (riseS X) s.n = false) := allTo_no (m + 1) hlt hr.out
        go_upto_region 4 with fail
        go_big_quiet (fail)
        have hb2 : Below w.heap.size w (wr.drewN nq) := Below.drawn hb nq
        generalize wr.drewN nq = Wq at *
        clear d0 d1 hb
        go_wp2
        go_ret
        exact ⟨ret_bool hr1.out.symm, hb2⟩
    · have i1 : ¬ (m : Int) + 1 < (s.n : Int) := by omega
      have hr1 : Hid (allTo (riseS X) s.n = true) := by
        rcases hm.out with h | h
        · rw [show s.n = m + 1 by omega]; exact HT.out
        · by_cases h0 : s.n = 0
          · rw [h0]; rfl
          · rw [show s.n = m + 1 by omega]; exact HT.out
      go_wp2
      go_ret
      exact ⟨ret_bool hr1.out.symm, hb⟩
end Go.Proofs.YtlnenmfippedpaaGreat
namespace Go.Proofs.YtlnenmfippedpaaGreat
open Go.RowKit
set_option linter.unusedSimpArgs false
set_option linter.unusedVariables false
theorem allTo_eq {p q : Nat → Bool} : ∀ {n : Nat}, (∀ k, k < n → p k = q k) → allTo p n = allTo q n
  | 0, _ => rfl
  | n + 1, h => by rw [allTo, allTo, allTo_eq fun k hk => h k (by omega), h n (by omega)]
theorem thereV_lab {s : Nat → Sl} {l i : Int} (hl : 0 ≤ l ∧ l ≤ 3) (hi : 0 ≤ i) : thereV s l i = decide (i < ((s l.toNat).n : Int)) := by
  unfold thereV
  exact decide_eq_decide.2 ⟨fun h => h.2.2, fun h => ⟨⟨hl.1, by omega⟩, hi, h⟩⟩
/-- What a session's own part tells of the levels that it names. -/
structure Labs (x : PSess) : Prop where
  prog : ∀ k, k < x.pn → lz x.prog (k * 4) = 2 ∨ lz x.prog (k * 4) = 3 → (0 ≤ lz x.prog (k * 4 + 2) ∧ lz x.prog (k * 4 + 2) ≤ 3) ∧ 0 ≤ lz x.prog (k * 4 + 3)
  reads : ∀ k, k < x.rn → (0 ≤ lz x.reads (k * 3) ∧ lz x.reads (k * 3) ≤ 3) ∧ 0 ≤ lz x.reads (k * 3 + 1)
  writes : ∀ k, k < x.tn → (0 ≤ lz x.writes (k * 3) ∧ lz x.writes (k * 3) ≤ 3) ∧ 0 ≤ lz x.writes (k * 3 + 1)
theorem sess1P_labs {x : PSess} (h : sess1P x = true) : Labs x := by
  unfold sess1P at h
  simp only [Bool.and_eq_true] at h
  obtain ⟨h1, _, h3, h4, _⟩ := h
  unfold startMay at h1
  simp only [Bool.and_eq_true] at h1
  obtain ⟨hpt, _⟩ := progMay_get h1.2.2
  refine ⟨fun k hk hc => ?_, fun k hk => ?_, fun k hk => ?_⟩
  · have := (progTo_get hpt k hk).1
    rw [instMay_23 (by show lz x.prog (k * 4 + 0) = 2 ∨ lz x.prog (k * 4 + 0) = 3; rw [Nat.add_zero]; exact hc)] at this
    obtain ⟨_, h2, h3⟩ := and3b this
    exact ⟨upToV_yes h2, (upToV_yes h3).1⟩
  · have := allTo_get (readsMay_get h3).1 k hk
    unfold aloneP readMay at this
    simp only [Bool.and_eq_true] at this
    exact ⟨upToV_yes this.1.1, (upToV_yes this.1.2).1⟩
  · have := (writesMay_get h4).alone k hk
    exact ⟨this.1, this.2.1.1⟩
theorem Labs.hold {x : PSess} (h : Labs x) (s : Nat → Sl) : holdP s x = wordsThere s x.pn x.rn x.tn (lz x.prog) (lz x.reads) (lz x.writes) := by
  unfold holdP wordsThere
  rw [allTo_eq (p := holdI s (lz x.prog)) (q := instThere s (lz x.prog)) fun k hk => ?_, allTo_eq (p := holdR s (lz x.reads)) (q := thereP s (lz x.reads)) fun k hk => ?_, allTo_eq (p := holdR s (lz x.writes)) (q := thereP s (lz x.writes)) fun k hk => ?_]
  · cases allTo (instThere s (lz x.prog)) x.pn <;> cases allTo (thereP s (lz x.reads)) x.rn <;> cases allTo (thereP s (lz x.writes)) x.tn <;> rfl
  · obtain ⟨h1, h2⟩ := h.writes k hk
    exact (thereV_lab h1 h2).symm
  · obtain ⟨h1, h2⟩ := h.reads k hk
    exact (thereV_lab h1 h2).symm
  · unfold holdI instThere
    cases hn : namesW (lz x.prog) k
    · rfl
    · have hc : lz x.prog (k * 4) = 2 ∨ lz x.prog (k * 4) = 3 := by
        unfold namesW at hn
        simpa using hn
      obtain ⟨h1, h2⟩ := h.prog k hk hc
      rw [thereV_lab h1 h2]
theorem sessMayP_prog (s : Nat → Sl) (x : PSess) : sessMayP s x = (sess1P x && holdP s x) := by
  rw [Bool.eq_iff_iff, Bool.and_eq_true]
  unfold sessMayP sessMay
  simp only [Bool.and_eq_true]
  constructor
  · rintro ⟨⟨h1, h2⟩, ⟨h3, h4, h5, h6, h7⟩, h8, h9, h10, h11, h12⟩
    have hs : sess1P x = true := by
      unfold sess1P
      rw [h1, h5, h6, h7, h3, h4, h8, h9, h10, h11, h12]; rfl
    exact ⟨hs, by rw [(sess1P_labs hs).hold s]; exact h2⟩
  · rintro ⟨hs, hh⟩
    rw [(sess1P_labs hs).hold s] at hh
    unfold sess1P at hs
    simp only [Bool.and_eq_true] at hs
    obtain ⟨h1, h5, h6, h7, h3, h4, h8, h9, h10, h11, h12⟩ := hs
    exact ⟨⟨h1, hh⟩, ⟨h3, h4, h5, h6, h7⟩, h8, h9, h10, h11, h12⟩
theorem machMay_prog (M : PMach) : machMay M = (amay M.lens M.wz && ((upToV M.ceil 65535 && allUp (lz M.clocks) M.ceil 4) && ((decide (M.tn ≤ 512) && allTo (labOk M) M.tn) && (decide (M.sess.length ≤ 4) && (allTo (riseS M.sess) M.sess.length && (allTo (fun k => sess1P (M.at k)) M.sess.length && allTo (fun k => holdP M.lens (M.at k)) M.sess.length)))))) := by
  have e : allTo (sessOk M) M.sess.length = (allTo (riseS M.sess) M.sess.length && (allTo (fun k => sess1P (M.at k)) M.sess.length && allTo (fun k => holdP M.lens (M.at k)) M.sess.length)) := by
    rw [← allTo_and (fun k => sess1P (M.at k)) (fun k => holdP M.lens (M.at k)), ← allTo_and (riseS M.sess)]
    refine allTo_eq fun k hk => ?_
    unfold sessOk
    rw [sessMayP_prog]
    show (_ && riseS M.sess k) = _
    rw [Bool.and_comm]
  unfold machMay
  rw [e]
  generalize amay M.lens M.wz = a
  generalize upToV M.ceil 65535 = b
  generalize decide (M.sess.length ≤ 4) = c
  generalize decide (M.tn ≤ 512) = d
  generalize allUp (lz M.clocks) M.ceil 4 = f
  generalize (allTo (riseS M.sess) M.sess.length && (allTo (fun k => sess1P (M.at k)) M.sess.length && allTo (fun k => holdP M.lens (M.at k)) M.sess.length)) = g
  generalize allTo (labOk M) M.tn = h
  cases a <;> cases b <;> cases c <;> cases d <;> cases f <;> cases g <;> cases h <;> rfl
theorem holdP_lens {s s' : Nat → Sl} {x : PSess} (h : ∀ g, g < 4 → (s g).n = (s' g).n) (hx : Labs x) : holdP s x = holdP s' x := by
  unfold holdP
  rw [allTo_eq (p := holdI s (lz x.prog)) (q := holdI s' (lz x.prog)) fun k hk => ?_, allTo_eq (p := holdR s (lz x.reads)) (q := holdR s' (lz x.reads)) fun k hk => ?_, allTo_eq (p := holdR s (lz x.writes)) (q := holdR s' (lz x.writes)) fun k hk => ?_]
  · have := hx.writes k hk
    unfold holdR; rw [h _ (by omega)]
  · have := hx.reads k hk
    unfold holdR; rw [h _ (by omega)]
  · unfold holdI
    cases hn : namesW (lz x.prog) k
    · rfl
    · have hc : lz x.prog (k * 4) = 2 ∨ lz x.prog (k * 4) = 3 := by
        unfold namesW at hn
        simpa using hn
      have := hx.prog k hk hc
      rw [h _ (by omega)]
set_option maxRecDepth 100000 in
set_option maxHeartbeats 4000000 in
theorem gmachMay_any (A : MacM) (M : PMach) (w : World) (h : MachIs w A M) :
    Calls Tryz.prog 40 #[machA A M] w fun e w' => e = .returned (.bool (machMay M)) ∧ Below w.heap.size w w' := by
  have hX : M.sess.length = A.s.n := h.sess.1
  have hT : M.tn = A.e.n := h.trace.len (by decide)
  have hls := h.lens
  have E : Hid (machMay M = (amay A.w M.wz && ((upToV M.ceil 65535 && allUp (lz M.clocks) M.ceil 4) && ((decide (A.e.n ≤ 512) && allTo (labOk M) A.e.n) && (decide (A.s.n ≤ 4) && (allTo (riseS M.sess) A.s.n && (allTo (fun k => sess1P (M.at k)) A.s.n && allTo (fun k => holdP M.lens (M.at k)) A.s.n))))))) := by
    show _ = _
    rw [machMay_prog, hX, hT, amay_lens fun g hg => (hls g hg).symm]
  have hI := hide fun (W : World) (hb : Below w.heap.size w W) => h.below hb
  replace hls := hide hls
  clear hX hT
  obtain ⟨V0, hV0⟩ : ∃ V0, V0 = machA A M := ⟨_, rfl⟩
  rw [← hV0]
  have HV : Hid (V0.cells = (machL A M).toArray) := by rw [hV0]; rfl
  clear hV0
  have HM := hide h
  have HS := hide (St.refl w)
  clear h
  go_enter Tryz.func40, Tryz.ntmps40
  go_upto_region 1 with (first | ((with_reducible refine isList ?_); first | (refine st_box HS _ _ rfl rfl (machL A M) HV.out ?_; clear HS; intro W bm HS)))
  have cs := fun (W : World) (h : Hid (St w W [blkI bm (machL A M)])) => (h.out.blk 0 rfl).mac
  replace cs := hide cs
  obtain ⟨c0, c1, c2, c3, c4, c5, c6, c7, c8, c9, c10⟩ := cs.out _ HS
  go_wp2_with fail
  refine (may_c A.w M.wz _ (hI.out _ HS.out.below).fit (hI.out _ HS.out.below).arn).mono ?_
  rintro e w1 ⟨rfl, hb⟩
  replace HS := hide (HS.out.on hb)
  clear hb c0 c1 c2 c3 c4 c5 c6 c7 c8 c9 c10
  cases b0 : amay A.w M.wz
  · go_wp2
    go_ret
    exact ⟨ret_bool (by rw [E.out, b0]; rfl), HS.out.below⟩
  replace b0 := hide b0
  obtain ⟨c0, c1, c2, c3, c4, c5, c6, c7, c8, c9, c10⟩ := cs.out _ HS
  go_wp2_with fail
  refine (clocksMay_any (lz M.clocks) M.ceil _).mono ?_
  rintro e w2 ⟨rfl, hb⟩
  replace HS := hide (HS.out.on hb)
  clear hb c0 c1 c2 c3 c4 c5 c6 c7 c8 c9 c10
  cases b1 : upToV M.ceil 65535 && allUp (lz M.clocks) M.ceil 4
  · go_wp2
    go_ret
    exact ⟨ret_bool (by rw [E.out, b0.out, b1]; rfl), HS.out.below⟩
  replace b1 := hide b1
  obtain ⟨c0, c1, c2, c3, c4, c5, c6, c7, c8, c9, c10⟩ := cs.out _ HS
  go_wp2_with fail
  refine (traceMay_any A.e M.trace _ (hI.out _ HS.out.below).trace).mono ?_
  rintro e w3 ⟨rfl, hb⟩
  replace HS := hide (HS.out.on hb)
  clear hb c0 c1 c2 c3 c4 c5 c6 c7 c8 c9 c10
  cases b2 : decide (A.e.n ≤ 512) && allTo (fun k => upToV (lz M.trace (k * 4 + 1)) 3) A.e.n
  · go_wp2
    go_ret
    exact ⟨ret_bool (by rw [E.out, b0.out, b1.out, show (decide (A.e.n ≤ 512) && allTo (labOk M) A.e.n) = false from b2]; rfl), HS.out.below⟩
  replace b2 : Hid ((decide (A.e.n ≤ 512) && allTo (labOk M) A.e.n) = true) := hide b2
  obtain ⟨c0, c1, c2, c3, c4, c5, c6, c7, c8, c9, c10⟩ := cs.out _ HS
  by_cases hn : A.s.n ≤ 4
  case neg =>
    have i1 : ¬ (A.s.n : Int) ≤ 4 := by omega
    have b3 : decide (A.s.n ≤ 4) = false := decide_eq_false hn
    replace b3 := hide b3
    clear hn
    go_wp2
    go_ret
    exact ⟨ret_bool (by rw [E.out, b0.out, b1.out, b2.out, b3.out]; rfl), HS.out.below⟩
  have i1 : (A.s.n : Int) ≤ 4 := by omega
  have b3 : Hid (decide (A.s.n ≤ 4) = true) := decide_eq_true hn
  clear hn
  go_wp2_with fail
  refine (idsRise_any A.s A.q M.sess _ (hI.out _ HS.out.below).sess).mono ?_
  rintro e w4 ⟨rfl, hb⟩
  replace HS := hide (HS.out.on hb)
  clear hb c0 c1 c2 c3 c4 c5 c6 c7 c8 c9 c10
  cases b4 : allTo (riseS M.sess) A.s.n
  · go_wp2
    go_ret
    exact ⟨ret_bool (by rw [E.out, b0.out, b1.out, b2.out, b3.out, b4]; rfl), HS.out.below⟩
  replace b4 := hide b4
  obtain ⟨c0, c1, c2, c3, c4, c5, c6, c7, c8, c9, c10⟩ := cs.out _ HS
  go_wp2_with fail
  refine (askAllS_any 69 #[] #[] (fun k => sess1P (M.at k)) A.s A.q M.sess _ (hI.out _ HS.out.below).sess (fun _ _ => rfl) (fun k hk W' hb => sessionMay_any (A.q k) (M.at k) W' ((hI.out _ (Below.on HS.out.below hb)).sess.2.2.2 k hk))).mono ?_
  rintro e w5 ⟨rfl, hb⟩
  replace HS := hide (HS.out.on hb)
  clear hb c0 c1 c2 c3 c4 c5 c6 c7 c8 c9 c10
  cases b5 : allTo (fun k => sess1P (M.at k)) A.s.n
  · go_wp2
    go_ret
    exact ⟨ret_bool (by rw [E.out, b0.out, b1.out, b2.out, b3.out, b4.out, b5]; rfl), HS.out.below⟩
  have hlab := hide fun (k : Nat) (hk : k < A.s.n) => sess1P_labs (allTo_get b5 k hk)
  replace b5 := hide b5
  obtain ⟨c0, c1, c2, c3, c4, c5, c6, c7, c8, c9, c10⟩ := cs.out _ HS
  go_wp2_with fail
  refine (askAllS_any 70 #[arenaA A.w] #[] (fun k => holdP M.lens (M.at k)) A.s A.q M.sess _ (hI.out _ HS.out.below).sess (fun _ _ => rfl) (fun k hk W' hb => ?_)).mono ?_
  · have L := hlab.out k hk
    rw [← holdP_lens (hls.out) L]
    exact hold_any A.w (A.q k) (M.at k) W' ((hI.out _ (Below.on HS.out.below hb)).sess.2.2.2 k hk) (fun j hj hc => by have := (L.prog j hj hc).1; omega) (fun j hj => by have := (L.reads j hj).1; omega) (fun j hj => by have := (L.writes j hj).1; omega)
  rintro e w6 ⟨rfl, hb⟩
  replace HS := hide (HS.out.on hb)
  clear hb c0 c1 c2 c3 c4 c5 c6 c7 c8 c9 c10
  go_wp2
  go_ret
  exact ⟨ret_bool (by rw [E.out, b0.out, b1.out, b2.out, b3.out, b4.out, b5.out]; simp), HS.out.below⟩
end Go.Proofs.YtlnenmfippedpaaGreat
namespace Go.Proofs.YtlnenmfippedpaaGreat
open Go.RowKit
set_option linter.unusedSimpArgs false
set_option linter.unusedVariables false
set_option maxRecDepth 100000 in
theorem fill_ev (x0 x1 x2 x3 : Int) : Instr.fill (fun i => some (i * 4, 4)) ((Array.range (1 * 4)).map (#[Value.int .i64 0, .int .i64 0, .int .i64 0, .int .i64 0][· % 4]!)) [(0, .agg #[.int .i64 x0, .int .i64 x1, .int .i64 x2, .int .i64 x3])] = some #[.int .i64 x0, .int .i64 x1, .int .i64 x2, .int .i64 x3] := by
  kernel_rfl
theorem st_litE {w0 w : World} {L : List Itm} {ops : Array Oper} {rest : List Oper} {op : Oper} {a : Act} {Q : Exit → Act → World → Prop} (HS : Hid (St w0 w L)) (x : Operand) (ho : op.op = .buildSlice 26 1 #[(0, x)]) (hgd : Region.wanted op (yielded ops a.tmps) = true) {x0 x1 x2 x3 : Int} (hx : ValOf a x (.agg #[.int .i64 x0, .int .i64 x1, .int .i64 x2, .int .i64 x3]))
    (hw : ∀ W b, Hid (St w0 W (blkI b [.int .i64 x0, .int .i64 x1, .int .i64 x2, .int .i64 x3] :: L)) → wpList Tryz.prog ops Q rest (a.put op.dst (.slice (some ⟨b, 0, none⟩) 1 1)) W) : wpList Tryz.prog ops Q (op :: rest) a w := by
  refine BigFrame.wpList_want hgd fun _ hK => ?_
  obtain ⟨i, hi, hz, hs, hy⟩ := info_parts Tryz.infoEvent
  refine wp_buildSlice 26 89 1 _ ho #[.int .i64 x0, .int .i64 x1, .int .i64 x2, .int .i64 x3] i (.agg #[.int .i64 0, .int .i64 0, .int .i64 0, .int .i64 0]) Tryz.underlying26 hi hz (by rw [hs]; decide) (by rw [hs]; decide) ?_ (hK _ _ (hw _ _ (HS.out.alloc [.int .i64 x0, .int .i64 x1, .int .i64 x2, .int .i64 x3] 89)))
  simp only [List.map_toArray, List.map_cons, List.map_nil, hx.eval]
  rw [hs]
  exact fill_ev x0 x1 x2 x3
theorem st_event {w0 w : World} {L : List Itm} {P : Program} {ops : Array Oper} {rest : List Oper} {op : Oper} {a : Act} {Q : Exit → Act → World → Prop} (HS : Hid (St w0 w L)) (j i : Nat) {D : Nat → Prop} {A : MacM} {M : PMach} {be : Nat} {x : List Int} (ej : L[j]? = some (blkI be (x.map (Value.int .i64)))) (hx4 : x.length = 4) (ei : L[i]? = some (machI D A M)) (hn : A.e.n < 512) (hgd : Region.wanted op (yielded ops a.tmps) = true)
    (s y : Operand) (t : TypeId) (ho : op.op = .call { callee := .builtin .append, args := #[s, y], argTypes := #[t, t] }) (ie : TypeInfo) (z : Value) (ht : P.underlying t = some (.slice 89)) (hi : P.info? 89 = some ie) (hz : ie.zero = some z) (hsize : ie.size = 4) (hby : ie.bytes = 32) (hzs : z.cells.size = 4)
    (hs : a.eval s = .slice A.e.a A.e.n A.e.c) (hy : a.eval y = .slice (some ⟨be, 0, none⟩) 1 1)
    (h : ∀ W D' g cap, Hid (St w0 W (L.set i (machI D' (A.setE ⟨some ⟨g, 0, none⟩, A.e.n + 1, cap⟩) { M with trace := M.trace ++ x }))) → wpList P ops Q rest (a.put op.dst (.slice (some ⟨g, 0, none⟩) (A.e.n + 1) cap)) W) : wpList P ops Q (op :: rest) a w :=
  BigFrame.wpList_want hgd fun _ hK => stw_event HS j i ej hx4 ei hn s y t ho ie z ht hi hz hsize hby hzs hs hy fun W D' g cap h2 => hK _ _ (h W D' g cap h2)
set_option maxRecDepth 100000 in
set_option maxHeartbeats 4000000 in
theorem gtelling_any (A : MacM) (M : PMach) (i kind value : Int) (w : World) (h : MachIs w A M) :
    Calls Tryz.prog 23 #[machA A M, .int .i64 i, .int .i64 kind, .int .i64 value] w (MRet w (tellingP M i kind value)) := by
  have hX := hide h.sess.1
  have hn8 : A.s.n * 184 ≤ 140737488351232 := h.sess.2.1.1
  have hMay := hide fun (W : World) (hb : Below w.heap.size w W) => gmachMay_any A M W (h.below hb)
  have hCopy := hide fun (W : World) (hb : Below w.heap.size w W) => anewMachine_any A M W (h.below hb)
  obtain ⟨V0, hV0⟩ : ∃ V0, V0 = machA A M := ⟨_, rfl⟩
  rw [← hV0]
  have HV : Hid (V0.cells = (machL A M).toArray) := by rw [hV0]; rfl
  clear hV0
  have HM := hide h
  have HS := hide (St.refl w)
  clear h
  go_enter Tryz.func23, Tryz.ntmps23
  go_wp2_with (first | ((with_reducible refine isList ?_); first | (refine st_box HS _ _ rfl rfl (machL A M) HV.out ?_; clear HS; intro W bm HS) | (refine st_alloc HS _ rfl rfl zeroML zeroM ?_; clear HS; intro W br HS) | (refine st_loadA HS 1 rfl _ _ rfl rfl rfl (by decide +kernel) (by kernel_rfl) ?_)))
  refine (hMay.out _ HS.out.below).mono ?_
  rintro e W1 ⟨rfl, hb⟩
  replace HS := hide (HS.out.on hb)
  clear hb hMay
  cases hm : machMay M
  case false =>
    go_upto_region 2 with fail
    go_wp2_with (first | ((with_reducible refine isList ?_); first | (refine st_storeA HS 0 rfl _ _ _ rfl rfl rfl _ rfl rfl (by kernel_rfl) rfl ?_; clear HS; intro W HS)))
    rw [show tellingP M i kind value = (noMach, 1200) by unfold tellingP hereP; rw [hm]; rfl]
    exact bodyPost_ret (ret_mach2 Tryz.results23 (HS.out.blk 0 rfl) rfl rfl rfl) rfl (mret_no HS.out.below)
  have hU : Hid (hereP M i = upToV i ((A.s.n : Int) - 1)) := by
    show hereP M i = _
    unfold hereP upToV
    rw [hm, hX.out, Bool.true_and, ← Bool.decide_and]
    exact decide_eq_decide.2 (by omega)
  replace hm := hide hm
  have c9 : W1.cell? ⟨bm, 9, none⟩ = some (.slice A.s.a A.s.n A.s.c) := (HS.out.blk 1 rfl).cell 9 _ rfl
  go_wp2_with fail
  refine (askUpTo_any _ _ _).mono ?_
  rintro e w' ⟨rfl, rfl⟩
  clear c9
  cases hu : upToV i ((A.s.n : Int) - 1)
  · go_upto_region 2 with fail
    go_wp2_with (first | ((with_reducible refine isList ?_); first | (refine st_storeA HS 0 rfl _ _ _ rfl rfl rfl _ rfl rfl (by kernel_rfl) rfl ?_; clear HS; intro W HS)))
    rw [show tellingP M i kind value = (noMach, 1200) by unfold tellingP; rw [hU.out, hu]; rfl]
    exact bodyPost_ret (ret_mach2 Tryz.results23 (HS.out.blk 0 rfl) rfl rfl rfl) rfl (mret_no HS.out.below)
  have hh : Hid (hereP M i = true) := hU.out.trans hu
  obtain ⟨_, k, rfl, hk0⟩ := hereP_yes hh.out
  have hk : k < A.s.n := by have := hX.out; omega
  replace hu := hide hu
  go_wp2_with fail
  refine (askUpTo_any _ _ _).mono ?_
  rintro e w' ⟨rfl, rfl⟩
  cases hv : upToV kind 6
  · go_upto_region 2 with fail
    go_wp2_with (first | ((with_reducible refine isList ?_); first | (refine st_storeA HS 0 rfl _ _ _ rfl rfl rfl _ rfl rfl (by kernel_rfl) rfl ?_; clear HS; intro W HS)))
    rw [show tellingP M k kind value = (noMach, 1200) by unfold tellingP; rw [hv, Bool.and_false]; rfl]
    exact bodyPost_ret (ret_mach2 Tryz.results23 (HS.out.blk 0 rfl) rfl rfl rfl) rfl (mret_no HS.out.below)
  have eS : Hid (tellingP M k kind value = (tellP M k kind value, 0)) := by show _ = _; unfold tellingP; rw [hh.out, hv, Int.toNat_natCast]; rfl
  replace hv := hide hv
  go_upto_region 3 with fail
  go_wp2_with (first | ((with_reducible refine isList ?_); first | (refine st_loadA HS 1 rfl _ _ rfl rfl rfl (by decide +kernel) (by kernel_rfl) ?_)))
  refine (hCopy.out _ HS.out.below).mono ?_
  rintro e W2 ⟨A1, rfl, hO, hb⟩
  have HS1 := hide (HS.out.push hb (machI (fun k => _) A1 M) (machI_loc _ _ _) hO fun k hk => hk)
  generalize (fun k => _) = D1 at HS1
  have hk1 : k < A1.s.n := by have := hO.is.sess.1; have := hX.out; omega
  have i4 : (k : Int) < (A1.s.n : Int) := by omega
  have hTl := hO.is.trace.1
  obtain ⟨bs1, hbs1, _⟩ := MachOwn.sblk hO hk1
  clear HS hb hO hCopy
  replace HS := HS1
  clear HS1
  go_upto_region 4 with (first | ((with_reducible refine isList ?_); first | (refine st_alloc HS _ rfl rfl zeroML zeroM ?_; clear HS; intro W bo HS) | (refine st_storeA HS 0 rfl _ _ _ rfl rfl rfl _ rfl rfl (by kernel_rfl) rfl ?_; clear HS; intro W HS)))
  replace HS : Hid (St w W [blkI bo (machL A1 M), machI D1 A1 M, blkI br zeroML, blkI bm (machL A M)]) := HS
  by_cases hn : A1.e.n < 512
  · have i1 : (A1.e.n : Int) < 512 := by omega
    have eT : Hid (tellP M k kind value = { M with trace := M.trace ++ [lz (M.at k).num 0, lz (M.at k).num 1, kind, value] }) := by
      show _ = _
      unfold tellP
      rw [if_pos (by rw [hTl]; omega)]
    replace hTl := hide hTl
    go_upto_region 5 with (first | ((with_reducible refine isList ?_); first | (refine st_load1 HS 0 rfl _ _ rfl _ rfl rfl (by decide +kernel) rfl ?_)))
    obtain ⟨bs', off', hbs', _, hR⟩ := (MachOwn.is (HS.out.get 1 (x := machI D1 A1 M) rfl)).sess.range hk1
    rw [hbs1] at hbs'; cases hbs'
    rw [Nat.zero_add] at hR
    replace hR := hide hR
    go_upto_region 6 with (first | ((with_reducible refine isList ?_); first | (refine st_load1 HS 0 rfl _ _ rfl _ rfl rfl (by decide +kernel) rfl ?_) | (refine wpList_load_at _ _ rfl rfl bs1 (k * 17) rfl (sessOf (A1.q k) (M.at k)) (by decide +kernel) (by kernel_rfl) hR.out ?_) | (refine st_alloc HS _ rfl rfl zeroSL zeroS ?_; clear HS; intro W bx HS) | (refine st_storeA HS 0 rfl _ _ _ rfl rfl rfl _ rfl rfl (by kernel_rfl) rfl ?_; clear HS; intro W HS)))
    replace HS : Hid (St w W [blkI bx (sessL (lz (M.at k).num) (.slice (A1.q k).p.a (A1.q k).p.n (A1.q k).p.c) (.slice (A1.q k).r.a (A1.q k).r.n (A1.q k).r.c) (.slice (A1.q k).t.a (A1.q k).t.n (A1.q k).t.c)), blkI bo (machL A1 M), machI D1 A1 M, blkI br zeroML, blkI bm (machL A M)]) := HS
    clear hR
    obtain ⟨ie, hie, hz, hy, hx⟩ := info_parts Tryz.infoEvent
    replace hie := hide hie
    replace hz := hide hz
    replace hy := hide hy
    replace hx := hide hx
    replace hn := hide hn
    go_upto_region 7 with (first | ((with_reducible refine isList ?_); first | (refine st_load1 HS 0 rfl _ _ rfl _ rfl rfl (by decide +kernel) rfl ?_) | (refine st_load1 HS 1 rfl _ _ rfl _ rfl rfl (by decide +kernel) rfl ?_) | (refine st_litE HS _ rfl rfl rfl ?_; clear HS; intro W be HS) | (refine st_event HS 0 3 (x := [lz (M.at k).num 0, lz (M.at k).num 1, kind, value]) rfl rfl rfl hn.out rfl _ _ _ rfl ie _ Tryz.underlying26 hie.out hz.out hy.out hx.out rfl rfl rfl ?_; clear HS; intro W D2 g cap HS) | (refine st_store1 HS 2 rfl _ _ _ rfl _ rfl rfl rfl (by decide +kernel) rfl rfl ?_; clear HS; intro W HS)))
    replace HS := hide HS.out.tail.tail
    replace HS : Hid (St w W [blkI bo (machL (A1.setE ⟨some ⟨g, 0, none⟩, A1.e.n + 1, cap⟩) { M with trace := M.trace ++ [lz (M.at k).num 0, lz (M.at k).num 1, kind, value] }), machI D2 (A1.setE ⟨some ⟨g, 0, none⟩, A1.e.n + 1, cap⟩) { M with trace := M.trace ++ [lz (M.at k).num 0, lz (M.at k).num 1, kind, value] }, blkI br zeroML, blkI bm (machL A M)]) := HS
    rw [← eT.out] at HS
    generalize A1.setE ⟨some ⟨g, 0, none⟩, A1.e.n + 1, cap⟩ = A5 at HS
    go_wp2_with (first | ((with_reducible refine isList ?_); first | (refine st_loadA HS 0 rfl _ _ rfl rfl rfl (by decide +kernel) (by kernel_rfl) ?_) | (refine st_storeA HS 2 rfl _ _ _ rfl rfl rfl _ rfl rfl (by kernel_rfl) rfl ?_; clear HS; intro W HS)))
    rw [eS.out]
    exact bodyPost_ret (ret_mach2 Tryz.results23 (HS.out.blk 2 rfl) rfl rfl rfl) rfl (mret_of (R := (tellP M k kind value, 0)) HS.out 1 (D := D2) (A := A5) rfl)
  · have i1 : ¬ (A1.e.n : Int) < 512 := by omega
    have eT : tellP M k kind value = M := by
      unfold tellP
      rw [if_neg (by rw [hTl]; omega)]
    rw [eT] at eS
    go_wp2_with (first | ((with_reducible refine isList ?_); first | (refine st_load1 HS 0 rfl _ _ rfl _ rfl rfl (by decide +kernel) rfl ?_) | (refine st_loadA HS 0 rfl _ _ rfl rfl rfl (by decide +kernel) (by kernel_rfl) ?_) | (refine st_storeA HS 2 rfl _ _ _ rfl rfl rfl _ rfl rfl (by kernel_rfl) rfl ?_; clear HS; intro W HS)))
    rw [eS.out]
    exact bodyPost_ret (ret_mach2 Tryz.results23 (HS.out.blk 2 rfl) rfl rfl rfl) rfl (mret_of (R := (M, 0)) HS.out 1 (D := D1) (A := A1) rfl)
end Go.Proofs.YtlnenmfippedpaaGreat
namespace Go.Proofs.YtlnenmfippedpaaGreat
open Go.RowKit
set_option linter.unusedSimpArgs false
set_option linter.unusedVariables false
set_option maxRecDepth 100000 in
set_option maxHeartbeats 2000000 in
theorem undoHas_any (A : MacM) (M : PMach) (i : Int) (w : World) (h : MachIs w A M) :
    Calls Tryz.prog 38 #[machA A M, .int .i64 i] w fun e w' => e = .returned (.bool (hereP M i)) ∧ Below w.heap.size w w' := by
  have hX := hide h.sess.1
  have hn8 : A.s.n * 184 ≤ 140737488351232 := h.sess.2.1.1
  have hMay := hide fun (W : World) (hb : Below w.heap.size w W) => gmachMay_any A M W (h.below hb)
  obtain ⟨V0, hV0⟩ : ∃ V0, V0 = machA A M := ⟨_, rfl⟩
  rw [← hV0]
  have HV : Hid (V0.cells = (machL A M).toArray) := by rw [hV0]; rfl
  clear hV0
  have HM := hide h
  have HS := hide (St.refl w)
  clear h
  go_enter Tryz.func38, Tryz.ntmps38
  go_wp2_with (first | ((with_reducible refine isList ?_); first | (refine st_box HS _ _ rfl rfl (machL A M) HV.out ?_; clear HS; intro W bm HS) | (refine st_loadA HS 0 rfl _ _ rfl rfl rfl (by decide +kernel) (by kernel_rfl) ?_)))
  refine (hMay.out _ HS.out.below).mono ?_
  rintro e W1 ⟨rfl, hb⟩
  replace HS := hide (HS.out.on hb)
  clear hb hMay
  cases hm : machMay M
  · go_wp2
    go_ret
    exact ⟨ret_bool (by unfold hereP; rw [hm]; rfl), HS.out.below⟩
  have hU : Hid (hereP M i = upToV i ((A.s.n : Int) - 1)) := by
    show hereP M i = _
    unfold hereP upToV
    rw [hm, hX.out, Bool.true_and, ← Bool.decide_and]
    exact decide_eq_decide.2 (by omega)
  replace hm := hide hm
  have c9 : W1.cell? ⟨bm, 9, none⟩ = some (.slice A.s.a A.s.n A.s.c) := (HS.out.blk 0 rfl).cell 9 _ rfl
  go_wp2_with fail
  refine (askUpTo_any _ _ _).mono ?_
  rintro e w' ⟨rfl, rfl⟩
  clear c9
  rw [← hU.out]
  go_wp2
  go_ret
  exact ⟨ret_bool (by simp), HS.out.below⟩
end Go.Proofs.YtlnenmfippedpaaGreat
namespace Go.Proofs.YtlnenmfippedpaaGreat
open Go.RowKit
set_option linter.unusedSimpArgs false
set_option linter.unusedVariables false
/-- Is it one of the first n? -/
def inTo (z : Nat → Int) (v : Int) : Nat → Bool
  | 0 => false
  | n + 1 => inTo z v n || decide (v = z n)
theorem inTo_yes {z : Nat → Int} {v : Int} : ∀ {n k : Nat}, k < n → v = z k → inTo z v n = true
  | n + 1, k, hk, h => by
    unfold inTo
    by_cases e : k = n
    · subst e; rw [decide_eq_true h, Bool.or_true]
    · rw [inTo_yes (show k < n by omega) h, Bool.true_or]
set_option maxHeartbeats 1000000 in
theorem slicesIndex_any (a : Option Addr) (n c : Nat) (z : Nat → Int) (v : Int) (w : World) (hn : n ≤ 1152921504606846976) (h : Row w a n fun i => .int .i64 (z i)) :
    Calls Tryz.prog 63 #[.slice a n c, .int .i64 v] w fun e w' => ∃ r : Int, e = .returned (.int .i64 r) ∧ decide (0 ≤ r) = inTo z v n ∧ w = w' := by
  go_enter Tryz.func63, Tryz.ntmps63
  go_wp2
  go_loopw [8] (fun i wr => ∃ k : Nat, k ≤ n ∧ i = .int .i64 k ∧ inTo z v k = false ∧ w = wr) (fun i _ => n - (intOf i).toNat)
  case atStart => exact ⟨0, Nat.zero_le _, rfl, rfl, rfl⟩
  case round =>
    obtain ⟨k, hk, rfl, hs, rfl⟩ := hrel
    replace hs := hide hs
    by_cases hlt : k < n
    · have i1 : (k : Int) < (n : Int) := by omega
      obtain ⟨b, off, rfl, hb, c0⟩ := h k hlt
      replace c0 : w.cell? ⟨b, off + k, none⟩ = some (.int .i64 (z k)) := c0
      obtain ⟨u, hu⟩ : ∃ u, u = z k := ⟨_, rfl⟩
      rw [← hu] at c0
      replace hu := hide hu
      by_cases hv : v = u
      · have hI := hide (inTo_yes hlt (hv.trans hu.out))
        subst hv
        clear h
        go_wp2
        go_ret
        exact ⟨k, rfl, by rw [hI.out, decide_eq_true (by omega : (0 : Int) ≤ k)], rfl⟩
      · have hI : Hid (inTo z v (k + 1) = false) := by
          show inTo z v (k + 1) = false
          rw [inTo, hs.out, Bool.false_or, decide_eq_false (by rw [← hu.out]; exact hv)]
        have hvb : (v == u) = false := by simpa using hv
        clear h
        go_wp2
        go_roundw
        case rel => exact ⟨k + 1, by omega, by go_num, hI.out, trivial⟩
        case measure => simp [intOf]; omega
    · obtain rfl : k = n := by omega
      clear h
      go_wp2
      go_ret
      exact ⟨-1, rfl, hs.out.symm, rfl⟩
theorem slicesContains_any (a : Option Addr) (n c : Nat) (z : Nat → Int) (v : Int) (w : World) (hn : n ≤ 1152921504606846976) (h : Row w a n fun i => .int .i64 (z i)) :
    Calls Tryz.prog 39 #[.slice a n c, .int .i64 v] w fun e w' => e = .returned (.bool (inTo z v n)) ∧ w = w' := by
  have hC := hide (slicesIndex_any a n c z v w hn h)
  clear h hn
  go_enter Tryz.func39, Tryz.ntmps39
  go_wp2_with fail
  refine hC.out.mono ?_
  rintro e w' ⟨r, rfl, hr, rfl⟩
  clear hC
  replace hr := hide hr
  go_wp2
  go_ret
  exact ⟨ret_bool hr.out, rfl⟩
/-- Does a session run, and does one of these codes stand there? -/
def atCodeP (M : PMach) (i : Int) (z : Nat → Int) (n : Nat) : Bool := hereP M i && ((M.at i.toNat).runs && inTo z ((M.at i.toNat).ins 0) n)
set_option maxRecDepth 100000 in
set_option maxHeartbeats 2000000 in
theorem standAtCode_any (A : MacM) (M : PMach) (i : Int) (a : Option Addr) (n c : Nat) (z : Nat → Int) (w : World) (h : MachIs w A M) (hn : n ≤ 1152921504606846976) (hr : Row w a n fun i => .int .i64 (z i)) :
    Calls Tryz.prog 22 #[machA A M, .int .i64 i, .slice a n c] w fun e w' => e = .returned (.bool (atCodeP M i z n)) ∧ Below w.heap.size w w' := by
  have hX := hide h.sess.1
  have hHas := hide fun (W : World) (hb : Below w.heap.size w W) => undoHas_any A M i W (h.below hb)
  have hrng := hide fun (k : Nat) (hk : k < A.s.n) (W : World) (hb : Below w.heap.size w W) => (h.below hb).sess.range hk
  have hSes : Hid (∀ (k : Nat) (hk : k < A.s.n) (W : World) (hb : Below w.heap.size w W), SessIs W (A.q k) (M.at k)) := fun k hk W hb => (h.below hb).sess.2.2.2 k hk
  have hCon := hide fun (v : Int) (W : World) (hb : Below w.heap.size w W) => slicesContains_any a n c z v W hn (hr.below hb (Nat.le_refl _))
  clear hr
  obtain ⟨V0, hV0⟩ : ∃ V0, V0 = machA A M := ⟨_, rfl⟩
  rw [← hV0]
  have HV : Hid (V0.cells = (machL A M).toArray) := by rw [hV0]; rfl
  clear hV0
  have HM := hide h
  have HS := hide (St.refl w)
  clear h
  go_enter Tryz.func22, Tryz.ntmps22
  go_wp2_with (first | ((with_reducible refine isList ?_); first | (refine st_box HS _ _ rfl rfl (machL A M) HV.out ?_; clear HS; intro W bm HS) | (refine st_loadA HS 0 rfl _ _ rfl rfl rfl (by decide +kernel) (by kernel_rfl) ?_)))
  refine (hHas.out _ HS.out.below).mono ?_
  (rintro e Wq ⟨rfl, hb⟩; have HSq := hide (HS.out.on hb); clear HS hb; replace HS := HSq; clear HSq)
  clear hHas
  cases hh : hereP M i
  case false =>
    go_wp2
    go_ret
    exact ⟨ret_bool (by unfold atCodeP; rw [hh]; rfl), HS.out.below⟩
  obtain ⟨hmay, k, rfl, hk0⟩ := hereP_yes hh
  have hk : k < A.s.n := by have := hX.out; omega
  have hok := here_sess hmay hk0
  have i2 : (k : Int) < (A.s.n : Int) := by omega
  have eA : Hid (atCodeP M k z n = ((M.at k).runs && inTo z ((M.at k).ins 0) n)) := by show _ = _; unfold atCodeP; rw [hh, Int.toNat_natCast]; rfl
  obtain ⟨p, hp⟩ : ∃ p : Nat, lz (M.at k).num 4 = p := ⟨(lz (M.at k).num 4).toNat, (Int.toNat_of_nonneg hok.pc.1).symm⟩
  have hpn : (M.at k).prog.length / 4 = (A.q k).p.n := by
    have h1 : (M.at k).prog.length = (A.q k).p.n * 4 := (HM.out.sess.2.2.2 k hk).2.1.1
    rw [h1, Nat.mul_div_cancel _ (by decide)]
  have hrun : Hid ((M.at k).runs = (decide (lz (M.at k).num 3 = 0) && decide (p < (A.q k).p.n))) := by
    show (M.at k).runs = _
    unfold PSess.runs PSess.step PSess.pc
    rw [hp, hpn]
    congr 1
    exact decide_eq_decide.2 (by omega)
  have hins : Hid ((M.at k).ins 0 = lz (M.at k).prog (p * 4)) := by
    show (M.at k).ins 0 = _
    unfold PSess.ins PSess.pc
    rw [hp, Int.toNat_natCast, Nat.add_zero]
  clear hh hok hmay hpn
  obtain ⟨bs, off, hbs, _, hR⟩ := hrng.out k hk _ HS.out.below
  replace hR := hide hR
  go_upto_region 3 with fail
  go_upto_region 4 with (first | ((with_reducible refine isList ?_); first | (refine st_load1 HS 0 rfl _ _ rfl _ rfl rfl (by decide +kernel) rfl ?_) | (refine wpList_load_at _ _ rfl rfl bs (off + k * 17) rfl (sessOf (A.q k) (M.at k)) (by decide +kernel) (by kernel_rfl) hR.out ?_) | (refine st_alloc HS _ rfl rfl zeroSL zeroS ?_; clear HS; intro W b7 HS) | (refine st_storeA HS 0 rfl _ _ _ rfl rfl rfl _ rfl rfl (by kernel_rfl) rfl ?_; clear HS; intro W HS)))
  replace HS : Hid (St w W [blkI b7 (sessL (lz (M.at k).num) (.slice (A.q k).p.a (A.q k).p.n (A.q k).p.c) (.slice (A.q k).r.a (A.q k).r.n (A.q k).r.c) (.slice (A.q k).t.a (A.q k).t.n (A.q k).t.c)), blkI bm (machL A M)]) := HS
  clear hR hbs
  have d3 : W.cell? ⟨b7, 3, none⟩ = some (.slice (A.q k).p.a (A.q k).p.n (A.q k).p.c) := (HS.out.blk 0 rfl).cell 3 _ rfl
  have d4 : W.cell? ⟨b7, 4, none⟩ = some (.int .i64 (lz (M.at k).num 3)) := (HS.out.blk 0 rfl).cell 4 _ rfl
  have d5 : W.cell? ⟨b7, 5, none⟩ = some (.int .i64 p) := by rw [← hp]; exact (HS.out.blk 0 rfl).cell 5 _ rfl
  replace hp := hide hp
  obtain ⟨st, hst⟩ : ∃ st, st = lz (M.at k).num 3 := ⟨_, rfl⟩
  rw [← hst] at d4 hrun
  clear hst
  by_cases h0 : st = 0
  · subst h0
    by_cases h1 : p < (A.q k).p.n
    · have i1 : (p : Int) < ((A.q k).p.n : Int) := by omega
      obtain ⟨bp, op, hbp, _, hI⟩ := (hSes.out k hk _ HS.out.below).2.1.four h1
      have c0 : W.cell? ⟨bp, op + p * 4, none⟩ = some (.int .i64 (lz (M.at k).prog (p * 4))) := hI 0 _ rfl
      rw [hbp] at d3
      clear hI hbp
      go_wp2_with fail
      refine (hCon.out _ _ HS.out.below).mono ?_
      rintro e w' ⟨rfl, rfl⟩
      clear d3 d4 d5 c0
      go_wp2
      go_ret
      exact ⟨ret_bool (by rw [eA.out, hrun.out, hins.out, decide_eq_true h1]; simp), HS.out.below⟩
    · have i1 : ¬ (p : Int) < ((A.q k).p.n : Int) := by omega
      have E := hide h1
      clear h1
      go_wp2
      go_ret
      exact ⟨ret_bool (by rw [eA.out, hrun.out, decide_eq_false E.out, Bool.and_false, Bool.false_and]), HS.out.below⟩
  · have hb : (st == 0) = false := by simpa using h0
    have E := hide h0
    clear h0
    go_wp2
    go_ret
    exact ⟨ret_bool (by rw [eA.out, hrun.out, decide_eq_false E.out, Bool.false_and, Bool.false_and]), HS.out.below⟩
end Go.Proofs.YtlnenmfippedpaaGreat
namespace Go.Proofs.YtlnenmfippedpaaGreat
open Go.RowKit
set_option linter.unusedSimpArgs false
set_option linter.unusedVariables false
theorem machMay_turn {M M' : PMach} {k : Nat} (h : machMay M = true) (hk : k < M.sess.length) (hlen : ∀ g, g < 4 → (M'.lens g).n = (M.lens g).n) (ham : amay M'.lens M'.wz = true) (hc : M'.clocks = M.clocks) (hce : M'.ceil = M.ceil) (ht : M'.trace = M.trace) (hl : M'.sess.length = M.sess.length)
    (ho : ∀ j, j ≠ k → M'.at j = M.at j) (hid : lz (M'.at k).num 0 = lz (M.at k).num 0) (hs : sessMayP M.lens (M'.at k) = true) : machMay M' = true := by
  obtain ⟨h1, h2, h3, h4, h5, h6, h7⟩ := machMay_parts h
  have hids : ∀ j, lz (M'.at j).num 0 = lz (M.at j).num 0 := fun j => by
    by_cases e : j = k
    · subst e; exact hid
    · rw [ho j e]
  have h6' : allTo (sessOk M') M'.sess.length = true := by
    refine allTo_mk fun j hj => ?_
    have hj' : j < M.sess.length := by omega
    have hj2 := allTo_get h6 j hj'
    unfold sessOk at hj2 ⊢
    simp only [Bool.and_eq_true] at hj2 ⊢
    refine ⟨?_, ?_⟩
    · have e : ∀ x, sessMayP M'.lens x = sessMayP M.lens x := fun x => by unfold sessMayP; exact sessMay_lens hlen
      rw [e]
      by_cases ej : j = k
      · subst ej; exact hs
      · rw [ho j ej]; exact hj2.1
    · unfold riseP at hj2 ⊢
      rw [hids, hids]
      exact hj2.2
  have htn : M'.tn = M.tn := by unfold PMach.tn; rw [ht]
  have h7' : allTo (labOk M') M'.tn = true := by
    rw [htn]
    have : labOk M' = labOk M := by funext j; unfold labOk; rw [ht]
    rw [this]; exact h7
  unfold machMay
  rw [ham, hce, h2, hc, h5, h6', h7', decide_eq_true (by omega : M'.sess.length ≤ 4), decide_eq_true (by omega : M'.tn ≤ 512)]
  rfl
end Go.Proofs.YtlnenmfippedpaaGreat
namespace Go.Proofs.YtlnenmfippedpaaGreat
open Go.RowKit
set_option linter.unusedSimpArgs false
set_option linter.unusedVariables false
theorem PMach.at_ne {M : PMach} {k j : Nat} {y : PSess} (h : j ≠ k) : (M.setS k y).at j = M.at j := by
  show (M.sess.set k y).getD j noSess = _
  rw [getD_set_ne' _ _ (Ne.symm h)]; rfl
theorem PMach.len_setS (M : PMach) (k : Nat) (y : PSess) : (M.setS k y).sess.length = M.sess.length := by show (M.sess.set k y).length = _; rw [List.length_set]
theorem setN_lz {x : PSess} {j c : Nat} {v : Int} (hj : j < x.num.length) : lz (x.setN j v).num c = if c = j then v else lz x.num c := lz_set hj
theorem setN_len (x : PSess) (j : Nat) (v : Int) : (x.setN j v).num.length = x.num.length := by unfold PSess.setN; rw [List.length_set]
end Go.Proofs.YtlnenmfippedpaaGreat
namespace Go.Proofs.YtlnenmfippedpaaGreat
open Go.RowKit
set_option linter.unusedSimpArgs false
set_option linter.unusedVariables false
theorem tellP_words (M : PMach) (k : Nat) (c v : Int) : (tellP M k c v).words = M.words := by unfold tellP; split <;> rfl
theorem tellP_clocks (M : PMach) (k : Nat) (c v : Int) : (tellP M k c v).clocks = M.clocks := by unfold tellP; split <;> rfl
theorem tellP_sess (M : PMach) (k : Nat) (c v : Int) : (tellP M k c v).sess = M.sess := by unfold tellP; split <;> rfl
end Go.Proofs.YtlnenmfippedpaaGreat
namespace Go.Proofs.YtlnenmfippedpaaGreat
open Go.RowKit
set_option linter.unusedSimpArgs false
set_option linter.unusedVariables false
theorem SessOk.label {s : Nat → Sl} {x : PSess} (h : SessOk s x) : upToV (lz x.num 1) 3 = true := by
  have h1 := h.start
  unfold startMay at h1
  simp only [Bool.and_eq_true] at h1
  have h2 := h1.2.1
  unfold belowV at h2
  split at h2
  · rename_i hc
    exact upToV_of hc.1.1 (by omega)
  · cases h2
theorem SessOk.clear {s : Nat → Sl} {x : PSess} (h : SessOk s x) : upToV (lz x.num 2) 3 = true := by
  have h1 := h.start
  unfold startMay at h1
  simp only [Bool.and_eq_true] at h1
  have h2 := h1.2.1
  unfold belowV at h2
  split at h2
  · rename_i hc
    exact upToV_of hc.2.1 (by omega)
  · cases h2
theorem tell_may {M : PMach} {k : Nat} (h : machMay M = true) (hk : k < M.sess.length) (ht : M.trace.length % 4 = 0) (c v : Int) : machMay (tellP M k c v) = true := by
  unfold tellP
  split
  case isFalse => exact h
  rename_i hlt
  obtain ⟨h1, h2, h3, h4, h5, h6, h7⟩ := machMay_parts h
  have hl := (here_sess h hk).label
  have htn : M.tn = M.trace.length / 4 := rfl
  have htn' : (M.trace ++ [lz (M.at k).num 0, lz (M.at k).num 1, c, v]).length / 4 = M.tn + 1 := by rw [List.length_append]; show (M.trace.length + 4) / 4 = _; omega
  have hlab : allTo (labOk { M with trace := M.trace ++ [lz (M.at k).num 0, lz (M.at k).num 1, c, v] }) (M.tn + 1) = true := by
    refine allTo_mk fun j hj => ?_
    show upToV (lz (M.trace ++ [lz (M.at k).num 0, lz (M.at k).num 1, c, v]) (j * 4 + 1)) 3 = true
    by_cases e : j < M.tn
    · have := allTo_get h7 j e
      have e2 : lz (M.trace ++ [lz (M.at k).num 0, lz (M.at k).num 1, c, v]) (j * 4 + 1) = lz M.trace (j * 4 + 1) := by
        unfold lz
        rw [List.getD_eq_getElem?_getD, List.getElem?_append_left (by omega), ← List.getD_eq_getElem?_getD]
      rw [e2]
      exact this
    · have ej : j * 4 + 1 = M.trace.length + 1 := by omega
      rw [ej]
      have e2 : lz (M.trace ++ [lz (M.at k).num 0, lz (M.at k).num 1, c, v]) (M.trace.length + 1) = lz (M.at k).num 1 := by
        unfold lz
        rw [List.getD_eq_getElem?_getD, List.getElem?_append_right (by omega), show M.trace.length + 1 - M.trace.length = 1 by omega]
        rfl
      rw [e2]
      exact hl
  have e0 : ({ M with trace := M.trace ++ [lz (M.at k).num 0, lz (M.at k).num 1, c, v] } : PMach).tn = M.tn + 1 := htn'
  unfold machMay
  rw [e0]
  rw [show ({ M with trace := M.trace ++ [lz (M.at k).num 0, lz (M.at k).num 1, c, v] } : PMach).ceil = M.ceil from rfl]
  simp only [Bool.and_eq_true, decide_eq_true_eq]
  exact ⟨⟨h1, h2, h3, by omega⟩, h5, h6, hlab⟩
end Go.Proofs.YtlnenmfippedpaaGreat
namespace Go.Proofs.YtlnenmfippedpaaGreat
open Go.RowKit
set_option linter.unusedSimpArgs false
set_option linter.unusedVariables false
set_option maxRecDepth 100000 in
set_option maxHeartbeats 4000000 in
theorem sameMachine_yes (A B : MacM) (M : PMach) (w : World) (h : MachIs w A M) (h' : MachIs w B M) :
    Calls Tryz.prog 10 #[machA A M, machA B M] w fun e w' => e = .returned (.bool true) ∧ Below w.heap.size w w' := by
  have hn8 : A.s.n ≤ 1152921504606846976 := by have := h.sess.2.1.1; omega
  have hs : B.s.n = A.s.n := h'.sess.1.symm.trans h.sess.1
  have hls : ∀ g, g < 4 → (A.w g).n = (B.w g).n := fun g hg => (h.lens g hg).trans (h'.lens g hg).symm
  have hAr := hide fun (W : World) (hb : Below w.heap.size w W) => sameArena_any A.w B.w M.wz M.wz W (h.below hb).short (h.below hb).arn (h'.below hb).arn
  rw [show sameLv A.w B.w M.wz M.wz 4 = true from sameLv_mk fun g hg => ⟨hls g hg, fun _ _ => rfl⟩] at hAr
  have he : A.e.n = B.e.n := (h.trace.len (by decide)).symm.trans (h'.trace.len (by decide))
  have hEv := hide fun (W : World) (hb : Below w.heap.size w W) => sameEvents_any A.e.a B.e.a A.e.n A.e.c B.e.n B.e.c (lz M.trace) (lz M.trace) W (by have := h.trace.2.1.1; omega) (h.below hb).trace.2.2 (h'.below hb).trace.2.2
  rw [show (decide (A.e.n = B.e.n) && eqTo (lz M.trace) (lz M.trace) (A.e.n * 4)) = true by rw [decide_eq_true he, eqTo_mk fun _ _ => rfl]; rfl] at hEv
  have hMA := hide fun (W : World) (hb : Below w.heap.size w W) => h.below hb
  have hMB := hide fun (W : World) (hb : Below w.heap.size w W) => h'.below hb
  have Q := fun W => quad_eq (lz M.clocks 0) (lz M.clocks 1) (lz M.clocks 2) (lz M.clocks 3) (lz M.clocks 0) (lz M.clocks 1) (lz M.clocks 2) (lz M.clocks 3) W
  simp only [beq_self_eq_true, Bool.and_self] at Q
  replace Q := hide Q
  have hSs : Hid (∀ (k : Nat) (hk : k < A.s.n) (W : World) (hb : Below w.heap.size w W), Calls Tryz.prog 15 #[.agg (sessOf (A.q k) (M.at k)).toArray, .agg (sessOf (B.q k) (M.at k)).toArray] W fun e w' => e = .returned (.bool true) ∧ Below W.heap.size W w') := fun k hk W hb => by
    obtain ⟨_, p1, r1, t1⟩ : SessIs W (A.q k) (M.at k) := (h.below hb).sess.2.2.2 k hk
    obtain ⟨_, p2, r2, t2⟩ : SessIs W (B.q k) (M.at k) := (h'.below hb).sess.2.2.2 k (by omega)
    have ep : (B.q k).p.n = (A.q k).p.n := (p2.len (by decide)).symm.trans (p1.len (by decide))
    have er : (B.q k).r.n = (A.q k).r.n := (r2.len (by decide)).symm.trans (r1.len (by decide))
    have et : (B.q k).t.n = (A.q k).t.n := (t2.len (by decide)).symm.trans (t1.len (by decide))
    have P2 := p2.2.2
    have R2 := r2.2.2
    have T2 := t2.2.2
    show Calls Tryz.prog 15 #[sessA (lz (M.at k).num) (.slice (A.q k).p.a (A.q k).p.n (A.q k).p.c) (.slice (A.q k).r.a (A.q k).r.n (A.q k).r.c) (.slice (A.q k).t.a (A.q k).t.n (A.q k).t.c), sessA (lz (M.at k).num) (.slice (B.q k).p.a (B.q k).p.n (B.q k).p.c) (.slice (B.q k).r.a (B.q k).r.n (B.q k).r.c) (.slice (B.q k).t.a (B.q k).t.n (B.q k).t.c)] W _
    rw [ep] at P2 ⊢
    rw [er] at R2 ⊢
    rw [et] at T2 ⊢
    exact sameSession_yes (lz (M.at k).num) (A.q k).p.a (B.q k).p.a (A.q k).r.a (B.q k).r.a (A.q k).t.a (B.q k).t.a (A.q k).p.n (A.q k).p.c (B.q k).p.c (A.q k).r.n (A.q k).r.c (B.q k).r.c (A.q k).t.n (A.q k).t.c (B.q k).t.c (lz (M.at k).prog) (lz (M.at k).reads) (lz (M.at k).writes) W (by have := p1.2.1.1; omega) (by have := r1.2.1.1; omega) (by have := t1.2.1.1; omega) p1.2.2 P2 r1.2.2 R2 t1.2.2 T2
  clear hls he h h'
  obtain ⟨V0, hV0⟩ : ∃ V0, V0 = machA A M := ⟨_, rfl⟩
  obtain ⟨V1, hV1⟩ : ∃ V1, V1 = machA B M := ⟨_, rfl⟩
  rw [← hV0, ← hV1]
  have HV : Hid (V0.cells = (machL A M).toArray) := by rw [hV0]; rfl
  have HV1 : Hid (V1.cells = (machL B M).toArray) := by rw [hV1]; rfl
  clear hV0 hV1
  have HS := hide (St.refl w)
  go_enter Tryz.func10, Tryz.ntmps10
  go_upto_region 1 with (first | ((with_reducible refine isList ?_); first | (refine st_box HS _ _ rfl rfl (machL A M) HV.out ?_; clear HS; intro W ba HS) | (refine st_box HS _ _ rfl rfl (machL B M) HV1.out ?_; clear HS; intro W bb HS)))
  replace HS : Hid (St w W [blkI bb (machL B M), blkI ba (machL A M)]) := HS
  obtain ⟨a0, a1, a2, a3, a4, a5, a6, a7, a8, a9, a10⟩ := (HS.out.blk 1 rfl).mac
  obtain ⟨b0, b1, b2, b3, b4, b5, b6, b7, b8, b9, b10⟩ := (HS.out.blk 0 rfl).mac
  go_wp2_with fail
  refine (hAr.out _ HS.out.below).mono ?_
  rintro e w1 ⟨rfl, hb⟩
  replace HS := hide (HS.out.on hb)
  clear hb a0 a1 a2 a3 a4 a5 a6 a7 a8 a9 a10 b0 b1 b2 b3 b4 b5 b6 b7 b8 b9 b10
  obtain ⟨a0, a1, a2, a3, a4, a5, a6, a7, a8, a9, a10⟩ := (HS.out.blk 1 rfl).mac
  obtain ⟨b0, b1, b2, b3, b4, b5, b6, b7, b8, b9, b10⟩ := (HS.out.blk 0 rfl).mac
  clear a0 a1 a2 a3 b0 b1 b2 b3
  rw [hs] at b9
  have Q1 := Q.out
  go_wp2_with fail
  refine (hEv.out _ HS.out.below).mono ?_
  rintro e w2 ⟨rfl, q, rfl⟩
  replace HS := hide (HS.out.drawn q)
  generalize w1.drewN q = W2 at *
  clear Q1 a4 a5 a6 a7 a8 a9 a10 b4 b5 b6 b7 b8 b9 b10
  go_wp2
  go_loopw [5] (fun i wr => ∃ k : Nat, k ≤ A.s.n ∧ i = .int .i64 k ∧ Hid (St w wr [blkI bb (machL B M), blkI ba (machL A M)])) (fun i _ => A.s.n - (intOf i).toNat)
  case atStart => exact ⟨0, Nat.zero_le _, rfl, HS⟩
  case round =>
    clear HS
    obtain ⟨k, hk, rfl, HS⟩ := hrel
    by_cases hlt : k < A.s.n
    · have i1 : (k : Int) < (A.s.n : Int) := by omega
      have i2 : (k : Int) < (B.s.n : Int) := by omega
      obtain ⟨ca, oa, hca, _, RA⟩ := (hMA.out _ HS.out.below).sess.range hlt
      obtain ⟨cb, ob, hcb, _, RB⟩ := (hMB.out _ HS.out.below).sess.range (show k < B.s.n by omega)
      have hcl : Hid (∀ W, Below w.heap.size w W → W.rangeAt ca (oa + k * 17) (sessOf (A.q k) (M.at k)) ∧ W.rangeAt cb (ob + k * 17) (sessOf (B.q k) (M.at k))) := fun W hb => by
        obtain ⟨ca', oa', hca', _, RA'⟩ := (hMA.out _ hb).sess.range hlt
        obtain ⟨cb', ob', hcb', _, RB'⟩ := (hMB.out _ hb).sess.range (show k < B.s.n by omega)
        rw [hca] at hca'; cases hca'
        rw [hcb] at hcb'; cases hcb'
        exact ⟨RA', RB'⟩
      replace hs := hide hs
      clear RA RB
      go_upto_region 6 with (first | ((with_reducible refine isList ?_); first | (refine st_load1 HS 1 rfl _ _ rfl _ rfl rfl (by decide +kernel) rfl ?_)))
      have HB0 := HS.out.blk 0 rfl
      have HB1 := HS.out.blk 1 rfl
      (try simp only [Act.put, List.setIfInBounds_toArray, List.set_cons_zero, List.set_cons_succ])
      refine wp_region_mask [true, true, true, true, true, true, true, true, true, true, false, false] [false, false, false, false, false, false, false, false, false, false, true, true] [0, 3] (fun w' => (Blk w' ba (machL A M) ∧ Blk w' bb (machL B M)) ∧ (w'.rangeAt ca (oa + k * 17) (sessOf (A.q k) (M.at k)) ∧ w'.rangeAt cb (ob + k * 17) (sessOf (B.q k) (M.at k)))) (by kernel_rfl) (by kernel_rfl) (by kernel_rfl) (by decide +kernel) ⟨⟨HB1.drew, HB0.drew⟩, hcl.out _ HS.out.drew.below⟩ ?_
      intro kne
      simp only [pickAt]
      repeat (first | ((first | (refine wpQuiet_ld _ _ rfl ⟨ba, 9, none⟩ rfl rfl (by decide +kernel) (fun w hC => hC.1.1.cell 9 _ rfl) ?_) | (refine wpQuiet_ld _ _ rfl ⟨bb, 9, none⟩ rfl rfl (by decide +kernel) (fun w hC => hC.1.2.cell 9 _ rfl) ?_) | (refine wpQuiet_la _ _ rfl ca (oa + k * 17) rfl rfl (by decide +kernel) (sessOf (A.q k) (M.at k)) (by kernel_rfl) (fun w hC => hC.2.1) ?_) | (refine wpQuiet_la _ _ rfl cb (ob + k * 17) rfl rfl (by decide +kernel) (sessOf (B.q k) (M.at k)) (by kernel_rfl) (fun w hC => hC.2.2) ?_)); simp only [Act.put, List.setIfInBounds_toArray, List.set_cons_zero, List.set_cons_succ]) | go_big_quiet_step (fail))
      refine wpQuiet_nil ?_
      clear kne HB0 HB1
      replace HS := hide HS.out.drew
      generalize World.drew _ = Wd at *
      refine wpRest_cons rfl rfl fun K hK => ?_
      go_big_op
      refine (hSs.out k hlt _ HS.out.below).mono ?_
      rintro e w3 ⟨rfl, hb⟩
      replace HS := hide (HS.out.on hb)
      clear hb
      refine hK _ _ (fun _ => InC.mk ⟨⟨HS.out.blk 1 rfl, HS.out.blk 0 rfl⟩, hcl.out _ HS.out.below⟩) ?_
      clear hK K
      (try simp only [Act.put, List.setIfInBounds_toArray, List.set_cons_zero, List.set_cons_succ])
      refine wpRest_of (v := .bool false) rfl (fun w => rfl) (wpRest_nil ?_)
      (try simp only [Act.put, List.setIfInBounds_toArray, List.set_cons_zero, List.set_cons_succ])
      refine NoPanic.normal ?_
      clear hcl
      go_wp2
      go_roundw
      case rel =>
        first
          | exact ⟨k + 1, by omega, by go_num, HS⟩
          | (repeat apply Exists.intro
             exact ⟨⟨k + 1, by omega, by go_num, HS⟩, by first | rfl | (rw [hca, hcb]; rfl)⟩)
      case measure => simp [intOf]; omega
    · obtain rfl : k = A.s.n := by omega
      go_wp2_with (first | ((with_reducible refine isList ?_); first | (refine st_load1 HS 1 rfl _ _ rfl _ rfl rfl (by decide +kernel) rfl ?_)))
      go_ret
      exact ⟨rfl, HS.out.below⟩
end Go.Proofs.YtlnenmfippedpaaGreat
namespace Go.Proofs.YtlnenmfippedpaaGreat
open Go.RowKit
set_option linter.unusedVariables false
theorem sameSess_any (q q' : SesM) (x : PSess) (W : World) (h : SessIs W q x) (h' : SessIs W q' x) :
    Calls Tryz.prog 15 #[.agg (sessOf q x).toArray, .agg (sessOf q' x).toArray] W fun e w' => e = .returned (.bool true) ∧ Below W.heap.size W w' := by
  obtain ⟨_, p1, r1, t1⟩ := h
  obtain ⟨_, p2, r2, t2⟩ := h'
  have ep : q'.p.n = q.p.n := (p2.len (by decide)).symm.trans (p1.len (by decide))
  have er : q'.r.n = q.r.n := (r2.len (by decide)).symm.trans (r1.len (by decide))
  have et : q'.t.n = q.t.n := (t2.len (by decide)).symm.trans (t1.len (by decide))
  have P2 := p2.2.2
  have R2 := r2.2.2
  have T2 := t2.2.2
  show Calls Tryz.prog 15 #[sessA (lz x.num) (.slice q.p.a q.p.n q.p.c) (.slice q.r.a q.r.n q.r.c) (.slice q.t.a q.t.n q.t.c), sessA (lz x.num) (.slice q'.p.a q'.p.n q'.p.c) (.slice q'.r.a q'.r.n q'.r.c) (.slice q'.t.a q'.t.n q'.t.c)] W _
  rw [ep] at P2 ⊢
  rw [er] at R2 ⊢
  rw [et] at T2 ⊢
  exact sameSession_yes (lz x.num) q.p.a q'.p.a q.r.a q'.r.a q.t.a q'.t.a q.p.n q.p.c q'.p.c q.r.n q.r.c q'.r.c q.t.n q.t.c q'.t.c (lz x.prog) (lz x.reads) (lz x.writes) W (by have := p1.2.1.1; omega) (by have := r1.2.1.1; omega) (by have := t1.2.1.1; omega) p1.2.2 P2 r1.2.2 R2 t1.2.2 T2
theorem sameArena_yes (A B : MacM) (M N : PMach) (w : World) (h : MachIs w A M) (h' : MachIs w B N) (e : N.words = M.words) :
    Calls Tryz.prog 14 #[arenaA A.w, arenaA B.w] w fun e w' => e = .returned (.bool true) ∧ Below w.heap.size w w' := by
  have el : ∀ g, N.lv g = M.lv g := fun g => by unfold PMach.lv; rw [e]
  have hls : ∀ g, g < 4 → (A.w g).n = (B.w g).n := fun g hg => by
    rw [h.lens g hg, h'.lens g hg]
    show (M.lv g).length / 3 = (N.lv g).length / 3
    rw [el]
  have hz : N.wz = M.wz := by funext g; unfold PMach.wz; rw [el]
  have hB := h'.arn
  rw [hz] at hB
  have hAr := sameArena_any A.w B.w M.wz M.wz w h.short h.arn hB
  rw [show sameLv A.w B.w M.wz M.wz 4 = true from sameLv_mk fun g hg => ⟨hls g hg, fun _ _ => rfl⟩] at hAr
  exact hAr
end Go.Proofs.YtlnenmfippedpaaGreat
