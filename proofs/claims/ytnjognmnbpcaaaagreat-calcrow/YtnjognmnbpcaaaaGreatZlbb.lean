/-
  Several small texts in one: MachProg2, MachProg3, UndoProg, StandProg, LetGoMay, UndoAgainProg, UndoMay, MachIns.
-/
import Derived.Test.YtnjognmnbpcaaaaGreatZhMachProg1
import Derived.BigQuiet
import Derived.Test.YtnjognmnbpcaaaaGreatZlah
import Derived.Test.YtnjognmnbpcaaaaGreatZlag
import Derived.Test.YtnjognmnbpcaaaaGreatZhUndoRef
import Derived.Test.YtnjognmnbpcaaaaGreatZlad
namespace Go.Proofs.YtnjognmnbpcaaaaGreat
open Go.RowKit
set_option linter.unusedSimpArgs false
set_option linter.unusedVariables false
def riseS (X : List PSess) (k : Nat) : Bool := decide (k = 0) || decide (lz (X.getD (k - 1) noSess).num 0 < lz (X.getD k noSess).num 0)
theorem SesIs.id {W : World} {s : Sl} {q : Nat → SesM} {X : List PSess} (h : SesIs W s q X) {k : Nat} (hk : k < s.n) : ∃ b off, s.a = some ⟨b, off, none⟩ ∧ W.cell? ⟨b, off + k * 17, none⟩ = some (.int .i64 (lz (X.getD k noSess).num 0)) := by
  obtain ⟨b, off, e, _, hR⟩ := h.range hk
  exact ⟨b, off, e, hR 0 _ rfl⟩
set_option maxRecDepth 100000 in
set_option maxHeartbeats 1000000 in
theorem idsRise_any (s : Sl) (q : Nat → SesM) (X : List PSess) (w : World) (h : SesIs w s q X) :
    Calls Tryz.prog 99 #[.slice s.a s.n s.c] w fun e w' => e = .returned (.bool (allTo (riseS X) s.n)) ∧ Below w.heap.size w w' := by
  have hn : s.n ≤ 1152921504606846976 := by have := h.2.1.1; omega
  have H := hide fun (W : World) (hb : Below w.heap.size w W) (k : Nat) (hk : k < s.n) => (h.below hb).id hk
  clear h
  go_enter Tryz.func99, Tryz.ntmps99
  go_wp2
  go_loopw [3] (fun i wr => ∃ m : Nat, Hid (m < s.n ∨ m = 0) ∧ i = .int .i64 ((m : Int) + 1) ∧ Hid (allTo (riseS X) (m + 1) = true) ∧ Below w.heap.size w wr) (fun i _ => s.n - (intOf i).toNat)
  case atStart => exact ⟨0, .inr rfl, rfl, rfl, Below.refl _ _⟩
  case round =>
    obtain ⟨m, hm, rfl, HT, hb⟩ := hrel
    by_cases hlt : m + 1 < s.n
    · have i1 : (m : Int) + 1 < (s.n : Int) := by omega
      have i0 : (m : Int) < (s.n : Int) := by omega
      obtain ⟨b, off, hsa, d0⟩ := H.out _ hb m (by omega)
      obtain ⟨b', off', hsa', d1⟩ := H.out _ hb (m + 1) hlt
      rw [hsa] at hsa'
      cases hsa'
      obtain ⟨x0, hx0⟩ : ∃ x, x = lz (X.getD m noSess).num 0 := ⟨_, rfl⟩
      obtain ⟨x1, hx1⟩ : ∃ x, x = lz (X.getD (m + 1) noSess).num 0 := ⟨_, rfl⟩
      rw [← hx0] at d0
      rw [← hx1] at d1
      have hr : Hid (riseS X (m + 1) = decide (x0 < x1)) := by
        show _ = _
        unfold riseS
        rw [Nat.add_sub_cancel, ← hx0, ← hx1, decide_eq_false (by omega : ¬ m + 1 = 0), Bool.false_or]
      have hmi : ((m : Int) + 1).toNat = m + 1 := by omega
      have ha : off + (m + 1) * 17 = off + (m * 17 + 17) := by omega
      rw [ha] at d1
      clear hx0 hx1 H
      by_cases hlx : x0 < x1
      · rw [decide_eq_true hlx] at hr
        have hgb : ¬ x1 ≤ x0 := by omega
        have hr1 : Hid (allTo (riseS X) (m + 1 + 1) = true) := by
          show allTo (riseS X) (m + 1 + 1) = true
          rw [allTo, HT.out, hr.out]; rfl
        go_upto_region 4 with fail
        go_big_quiet (fail)
        have hb2 : Below w.heap.size w (wr.drewN nq) := Below.drawn hb nq
        generalize wr.drewN nq = Wq at *
        clear d0 d1 hb
        go_wp2
        go_roundw
        case rel =>
          exact ⟨m + 1, .inl hlt, by go_num, hr1, hb2⟩
        case measure => simp [intOf]; omega
      · rw [decide_eq_false hlx] at hr
        have hgb : x1 ≤ x0 := by omega
        have hr1 : Hid (allTo (riseS X) s.n = false) := allTo_no (m + 1) hlt hr.out
        go_upto_region 4 with fail
        go_big_quiet (fail)
        have hb2 : Below w.heap.size w (wr.drewN nq) := Below.drawn hb nq
        generalize wr.drewN nq = Wq at *
        clear d0 d1 hb
        go_wp2
        go_ret
        exact ⟨ret_bool hr1.out.symm, hb2⟩
    · have i1 : ¬ (m : Int) + 1 < (s.n : Int) := by omega
      have hr1 : Hid (allTo (riseS X) s.n = true) := by
        rcases hm.out with h | h
        · rw [show s.n = m + 1 by omega]; exact HT.out
        · by_cases h0 : s.n = 0
          · rw [h0]; rfl
          · rw [show s.n = m + 1 by omega]; exact HT.out
      go_wp2
      go_ret
      exact ⟨ret_bool hr1.out.symm, hb⟩
end Go.Proofs.YtnjognmnbpcaaaaGreat
namespace Go.Proofs.YtnjognmnbpcaaaaGreat
open Go.RowKit
set_option linter.unusedSimpArgs false
set_option linter.unusedVariables false
theorem allTo_eq {p q : Nat → Bool} : ∀ {n : Nat}, (∀ k, k < n → p k = q k) → allTo p n = allTo q n
  | 0, _ => rfl
  | n + 1, h => by rw [allTo, allTo, allTo_eq fun k hk => h k (by omega), h n (by omega)]
theorem thereV_lab {s : Nat → Sl} {l i : Int} (hl : 0 ≤ l ∧ l ≤ 3) (hi : 0 ≤ i) : thereV s l i = decide (i < ((s l.toNat).n : Int)) := by
  unfold thereV
  exact decide_eq_decide.2 ⟨fun h => h.2.2, fun h => ⟨⟨hl.1, by omega⟩, hi, h⟩⟩
/-- What a session's own part tells of the levels that it names. -/
structure Labs (x : PSess) : Prop where
  prog : ∀ k, k < x.pn → lz x.prog (k * 4) = 2 ∨ lz x.prog (k * 4) = 3 → (0 ≤ lz x.prog (k * 4 + 2) ∧ lz x.prog (k * 4 + 2) ≤ 3) ∧ 0 ≤ lz x.prog (k * 4 + 3)
  reads : ∀ k, k < x.rn → (0 ≤ lz x.reads (k * 3) ∧ lz x.reads (k * 3) ≤ 3) ∧ 0 ≤ lz x.reads (k * 3 + 1)
  writes : ∀ k, k < x.tn → (0 ≤ lz x.writes (k * 3) ∧ lz x.writes (k * 3) ≤ 3) ∧ 0 ≤ lz x.writes (k * 3 + 1)
theorem sess1P_labs {x : PSess} (h : sess1P x = true) : Labs x := by
  unfold sess1P at h
  simp only [Bool.and_eq_true] at h
  obtain ⟨h1, _, h3, h4, _⟩ := h
  unfold startMay at h1
  simp only [Bool.and_eq_true] at h1
  obtain ⟨hpt, _⟩ := progMay_get h1.2.2
  refine ⟨fun k hk hc => ?_, fun k hk => ?_, fun k hk => ?_⟩
  · have := (progTo_get hpt k hk).1
    rw [instMay_23 (by show lz x.prog (k * 4 + 0) = 2 ∨ lz x.prog (k * 4 + 0) = 3; rw [Nat.add_zero]; exact hc)] at this
    obtain ⟨_, h2, h3⟩ := and3b this
    exact ⟨upToV_yes h2, (upToV_yes h3).1⟩
  · have := allTo_get (readsMay_get h3).1 k hk
    unfold aloneP readMay at this
    simp only [Bool.and_eq_true] at this
    exact ⟨upToV_yes this.1.1, (upToV_yes this.1.2).1⟩
  · have := (writesMay_get h4).alone k hk
    exact ⟨this.1, this.2.1.1⟩
theorem Labs.hold {x : PSess} (h : Labs x) (s : Nat → Sl) : holdP s x = wordsThere s x.pn x.rn x.tn (lz x.prog) (lz x.reads) (lz x.writes) := by
  unfold holdP wordsThere
  rw [allTo_eq (p := holdI s (lz x.prog)) (q := instThere s (lz x.prog)) fun k hk => ?_, allTo_eq (p := holdR s (lz x.reads)) (q := thereP s (lz x.reads)) fun k hk => ?_, allTo_eq (p := holdR s (lz x.writes)) (q := thereP s (lz x.writes)) fun k hk => ?_]
  · cases allTo (instThere s (lz x.prog)) x.pn <;> cases allTo (thereP s (lz x.reads)) x.rn <;> cases allTo (thereP s (lz x.writes)) x.tn <;> rfl
  · obtain ⟨h1, h2⟩ := h.writes k hk
    exact (thereV_lab h1 h2).symm
  · obtain ⟨h1, h2⟩ := h.reads k hk
    exact (thereV_lab h1 h2).symm
  · unfold holdI instThere
    cases hn : namesW (lz x.prog) k
    · rfl
    · have hc : lz x.prog (k * 4) = 2 ∨ lz x.prog (k * 4) = 3 := by
        unfold namesW at hn
        simpa using hn
      obtain ⟨h1, h2⟩ := h.prog k hk hc
      rw [thereV_lab h1 h2]
theorem sessMayP_prog (s : Nat → Sl) (x : PSess) : sessMayP s x = (sess1P x && holdP s x) := by
  rw [Bool.eq_iff_iff, Bool.and_eq_true]
  unfold sessMayP sessMay
  simp only [Bool.and_eq_true]
  constructor
  · rintro ⟨⟨h1, h2⟩, ⟨h3, h4, h5, h6, h7⟩, h8, h9, h10, h11, h12⟩
    have hs : sess1P x = true := by
      unfold sess1P
      rw [h1, h5, h6, h7, h3, h4, h8, h9, h10, h11, h12]; rfl
    exact ⟨hs, by rw [(sess1P_labs hs).hold s]; exact h2⟩
  · rintro ⟨hs, hh⟩
    rw [(sess1P_labs hs).hold s] at hh
    unfold sess1P at hs
    simp only [Bool.and_eq_true] at hs
    obtain ⟨h1, h5, h6, h7, h3, h4, h8, h9, h10, h11, h12⟩ := hs
    exact ⟨⟨h1, hh⟩, ⟨h3, h4, h5, h6, h7⟩, h8, h9, h10, h11, h12⟩
theorem machMay_prog (M : PMach) : machMay M = (amay M.lens M.wz && ((upToV M.ceil 65535 && allUp (lz M.clocks) M.ceil 4) && ((decide (M.tn ≤ 512) && allTo (labOk M) M.tn) && (decide (M.sess.length ≤ 4) && (allTo (riseS M.sess) M.sess.length && (allTo (fun k => sess1P (M.at k)) M.sess.length && allTo (fun k => holdP M.lens (M.at k)) M.sess.length)))))) := by
  have e : allTo (sessOk M) M.sess.length = (allTo (riseS M.sess) M.sess.length && (allTo (fun k => sess1P (M.at k)) M.sess.length && allTo (fun k => holdP M.lens (M.at k)) M.sess.length)) := by
    rw [← allTo_and (fun k => sess1P (M.at k)) (fun k => holdP M.lens (M.at k)), ← allTo_and (riseS M.sess)]
    refine allTo_eq fun k hk => ?_
    unfold sessOk
    rw [sessMayP_prog]
    show (_ && riseS M.sess k) = _
    rw [Bool.and_comm]
  unfold machMay
  rw [e]
  generalize amay M.lens M.wz = a
  generalize upToV M.ceil 65535 = b
  generalize decide (M.sess.length ≤ 4) = c
  generalize decide (M.tn ≤ 512) = d
  generalize allUp (lz M.clocks) M.ceil 4 = f
  generalize (allTo (riseS M.sess) M.sess.length && (allTo (fun k => sess1P (M.at k)) M.sess.length && allTo (fun k => holdP M.lens (M.at k)) M.sess.length)) = g
  generalize allTo (labOk M) M.tn = h
  cases a <;> cases b <;> cases c <;> cases d <;> cases f <;> cases g <;> cases h <;> rfl
theorem holdP_lens {s s' : Nat → Sl} {x : PSess} (h : ∀ g, g < 4 → (s g).n = (s' g).n) (hx : Labs x) : holdP s x = holdP s' x := by
  unfold holdP
  rw [allTo_eq (p := holdI s (lz x.prog)) (q := holdI s' (lz x.prog)) fun k hk => ?_, allTo_eq (p := holdR s (lz x.reads)) (q := holdR s' (lz x.reads)) fun k hk => ?_, allTo_eq (p := holdR s (lz x.writes)) (q := holdR s' (lz x.writes)) fun k hk => ?_]
  · have := hx.writes k hk
    unfold holdR; rw [h _ (by omega)]
  · have := hx.reads k hk
    unfold holdR; rw [h _ (by omega)]
  · unfold holdI
    cases hn : namesW (lz x.prog) k
    · rfl
    · have hc : lz x.prog (k * 4) = 2 ∨ lz x.prog (k * 4) = 3 := by
        unfold namesW at hn
        simpa using hn
      have := hx.prog k hk hc
      rw [h _ (by omega)]
set_option maxRecDepth 100000 in
set_option maxHeartbeats 4000000 in
theorem gmachMay_any (A : MacM) (M : PMach) (w : World) (h : MachIs w A M) :
    Calls Tryz.prog 69 #[machA A M] w fun e w' => e = .returned (.bool (machMay M)) ∧ Below w.heap.size w w' := by
  have hX : M.sess.length = A.s.n := h.sess.1
  have hT : M.tn = A.e.n := h.trace.len (by decide)
  have hls := h.lens
  have E : Hid (machMay M = (amay A.w M.wz && ((upToV M.ceil 65535 && allUp (lz M.clocks) M.ceil 4) && ((decide (A.e.n ≤ 512) && allTo (labOk M) A.e.n) && (decide (A.s.n ≤ 4) && (allTo (riseS M.sess) A.s.n && (allTo (fun k => sess1P (M.at k)) A.s.n && allTo (fun k => holdP M.lens (M.at k)) A.s.n))))))) := by
    show _ = _
    rw [machMay_prog, hX, hT, amay_lens fun g hg => (hls g hg).symm]
  have hI := hide fun (W : World) (hb : Below w.heap.size w W) => h.below hb
  replace hls := hide hls
  clear hX hT
  obtain ⟨V0, hV0⟩ : ∃ V0, V0 = machA A M := ⟨_, rfl⟩
  rw [← hV0]
  have HV : Hid (V0.cells = (machL A M).toArray) := by rw [hV0]; rfl
  clear hV0
  have HM := hide h
  have HS := hide (St.refl w)
  clear h
  go_enter Tryz.func69, Tryz.ntmps69
  go_upto_region 1 with (first | ((with_reducible refine isList ?_); first | (refine st_box HS _ _ rfl rfl (machL A M) HV.out ?_; clear HS; intro W bm HS)))
  have cs := fun (W : World) (h : Hid (St w W [blkI bm (machL A M)])) => (h.out.blk 0 rfl).mac
  replace cs := hide cs
  obtain ⟨c0, c1, c2, c3, c4, c5, c6, c7, c8, c9, c10⟩ := cs.out _ HS
  go_wp2_with fail
  refine (may_c A.w M.wz _ (hI.out _ HS.out.below).fit (hI.out _ HS.out.below).arn).mono ?_
  rintro e w1 ⟨rfl, hb⟩
  replace HS := hide (HS.out.on hb)
  clear hb c0 c1 c2 c3 c4 c5 c6 c7 c8 c9 c10
  cases b0 : amay A.w M.wz
  · go_wp2
    go_ret
    exact ⟨ret_bool (by rw [E.out, b0]; rfl), HS.out.below⟩
  replace b0 := hide b0
  obtain ⟨c0, c1, c2, c3, c4, c5, c6, c7, c8, c9, c10⟩ := cs.out _ HS
  go_wp2_with fail
  refine (clocksMay_any (lz M.clocks) M.ceil _).mono ?_
  rintro e w2 ⟨rfl, hb⟩
  replace HS := hide (HS.out.on hb)
  clear hb c0 c1 c2 c3 c4 c5 c6 c7 c8 c9 c10
  cases b1 : upToV M.ceil 65535 && allUp (lz M.clocks) M.ceil 4
  · go_wp2
    go_ret
    exact ⟨ret_bool (by rw [E.out, b0.out, b1]; rfl), HS.out.below⟩
  replace b1 := hide b1
  obtain ⟨c0, c1, c2, c3, c4, c5, c6, c7, c8, c9, c10⟩ := cs.out _ HS
  go_wp2_with fail
  refine (traceMay_any A.e M.trace _ (hI.out _ HS.out.below).trace).mono ?_
  rintro e w3 ⟨rfl, hb⟩
  replace HS := hide (HS.out.on hb)
  clear hb c0 c1 c2 c3 c4 c5 c6 c7 c8 c9 c10
  cases b2 : decide (A.e.n ≤ 512) && allTo (fun k => upToV (lz M.trace (k * 4 + 1)) 3) A.e.n
  · go_wp2
    go_ret
    exact ⟨ret_bool (by rw [E.out, b0.out, b1.out, show (decide (A.e.n ≤ 512) && allTo (labOk M) A.e.n) = false from b2]; rfl), HS.out.below⟩
  replace b2 : Hid ((decide (A.e.n ≤ 512) && allTo (labOk M) A.e.n) = true) := hide b2
  obtain ⟨c0, c1, c2, c3, c4, c5, c6, c7, c8, c9, c10⟩ := cs.out _ HS
  by_cases hn : A.s.n ≤ 4
  case neg =>
    have i1 : ¬ (A.s.n : Int) ≤ 4 := by omega
    have b3 : decide (A.s.n ≤ 4) = false := decide_eq_false hn
    replace b3 := hide b3
    clear hn
    go_wp2
    go_ret
    exact ⟨ret_bool (by rw [E.out, b0.out, b1.out, b2.out, b3.out]; rfl), HS.out.below⟩
  have i1 : (A.s.n : Int) ≤ 4 := by omega
  have b3 : Hid (decide (A.s.n ≤ 4) = true) := decide_eq_true hn
  clear hn
  go_wp2_with fail
  refine (idsRise_any A.s A.q M.sess _ (hI.out _ HS.out.below).sess).mono ?_
  rintro e w4 ⟨rfl, hb⟩
  replace HS := hide (HS.out.on hb)
  clear hb c0 c1 c2 c3 c4 c5 c6 c7 c8 c9 c10
  cases b4 : allTo (riseS M.sess) A.s.n
  · go_wp2
    go_ret
    exact ⟨ret_bool (by rw [E.out, b0.out, b1.out, b2.out, b3.out, b4]; rfl), HS.out.below⟩
  replace b4 := hide b4
  obtain ⟨c0, c1, c2, c3, c4, c5, c6, c7, c8, c9, c10⟩ := cs.out _ HS
  go_wp2_with fail
  refine (askAllS_any 101 #[] #[] (fun k => sess1P (M.at k)) A.s A.q M.sess _ (hI.out _ HS.out.below).sess (fun _ _ => rfl) (fun k hk W' hb => sessionMay_any (A.q k) (M.at k) W' ((hI.out _ (Below.on HS.out.below hb)).sess.2.2.2 k hk))).mono ?_
  rintro e w5 ⟨rfl, hb⟩
  replace HS := hide (HS.out.on hb)
  clear hb c0 c1 c2 c3 c4 c5 c6 c7 c8 c9 c10
  cases b5 : allTo (fun k => sess1P (M.at k)) A.s.n
  · go_wp2
    go_ret
    exact ⟨ret_bool (by rw [E.out, b0.out, b1.out, b2.out, b3.out, b4.out, b5]; rfl), HS.out.below⟩
  have hlab := hide fun (k : Nat) (hk : k < A.s.n) => sess1P_labs (allTo_get b5 k hk)
  replace b5 := hide b5
  obtain ⟨c0, c1, c2, c3, c4, c5, c6, c7, c8, c9, c10⟩ := cs.out _ HS
  go_wp2_with fail
  refine (askAllS_any 102 #[arenaA A.w] #[] (fun k => holdP M.lens (M.at k)) A.s A.q M.sess _ (hI.out _ HS.out.below).sess (fun _ _ => rfl) (fun k hk W' hb => ?_)).mono ?_
  · have L := hlab.out k hk
    rw [← holdP_lens (hls.out) L]
    exact hold_any A.w (A.q k) (M.at k) W' ((hI.out _ (Below.on HS.out.below hb)).sess.2.2.2 k hk) (fun j hj hc => by have := (L.prog j hj hc).1; omega) (fun j hj => by have := (L.reads j hj).1; omega) (fun j hj => by have := (L.writes j hj).1; omega)
  rintro e w6 ⟨rfl, hb⟩
  replace HS := hide (HS.out.on hb)
  clear hb c0 c1 c2 c3 c4 c5 c6 c7 c8 c9 c10
  go_wp2
  go_ret
  exact ⟨ret_bool (by rw [E.out, b0.out, b1.out, b2.out, b3.out, b4.out, b5.out]; simp), HS.out.below⟩
end Go.Proofs.YtnjognmnbpcaaaaGreat
namespace Go.Proofs.YtnjognmnbpcaaaaGreat
open Go.RowKit
set_option linter.unusedSimpArgs false
set_option linter.unusedVariables false
set_option maxRecDepth 100000 in
set_option maxHeartbeats 2000000 in
theorem undoHas_any (A : MacM) (M : PMach) (i : Int) (w : World) (h : MachIs w A M) :
    Calls Tryz.prog 36 #[machA A M, .int .i64 i] w fun e w' => e = .returned (.bool (hereP M i)) ∧ Below w.heap.size w w' := by
  have hX := hide h.sess.1
  have hn8 : A.s.n * 184 ≤ 140737488351232 := h.sess.2.1.1
  have hMay := hide fun (W : World) (hb : Below w.heap.size w W) => gmachMay_any A M W (h.below hb)
  obtain ⟨V0, hV0⟩ : ∃ V0, V0 = machA A M := ⟨_, rfl⟩
  rw [← hV0]
  have HV : Hid (V0.cells = (machL A M).toArray) := by rw [hV0]; rfl
  clear hV0
  have HM := hide h
  have HS := hide (St.refl w)
  clear h
  go_enter Tryz.func36, Tryz.ntmps36
  go_wp2_with (first | ((with_reducible refine isList ?_); first | (refine st_box HS _ _ rfl rfl (machL A M) HV.out ?_; clear HS; intro W bm HS) | (refine st_loadA HS 0 rfl _ _ rfl rfl rfl (by decide +kernel) (by kernel_rfl) ?_)))
  refine (hMay.out _ HS.out.below).mono ?_
  rintro e W1 ⟨rfl, hb⟩
  replace HS := hide (HS.out.on hb)
  clear hb hMay
  cases hm : machMay M
  · go_wp2
    go_ret
    exact ⟨ret_bool (by unfold hereP; rw [hm]; rfl), HS.out.below⟩
  have hU : Hid (hereP M i = upToV i ((A.s.n : Int) - 1)) := by
    show hereP M i = _
    unfold hereP upToV
    rw [hm, hX.out, Bool.true_and, ← Bool.decide_and]
    exact decide_eq_decide.2 (by omega)
  replace hm := hide hm
  have c9 : W1.cell? ⟨bm, 9, none⟩ = some (.slice A.s.a A.s.n A.s.c) := (HS.out.blk 0 rfl).cell 9 _ rfl
  go_wp2_with fail
  refine (askUpTo_any _ _ _).mono ?_
  rintro e w' ⟨rfl, rfl⟩
  clear c9
  rw [← hU.out]
  go_wp2
  go_ret
  exact ⟨ret_bool (by simp), HS.out.below⟩
end Go.Proofs.YtnjognmnbpcaaaaGreat
namespace Go.Proofs.YtnjognmnbpcaaaaGreat
open Go.RowKit
set_option linter.unusedSimpArgs false
set_option linter.unusedVariables false
/-- Is it one of the first n? -/
def inTo (z : Nat → Int) (v : Int) : Nat → Bool
  | 0 => false
  | n + 1 => inTo z v n || decide (v = z n)
theorem inTo_yes {z : Nat → Int} {v : Int} : ∀ {n k : Nat}, k < n → v = z k → inTo z v n = true
  | n + 1, k, hk, h => by
    unfold inTo
    by_cases e : k = n
    · subst e; rw [decide_eq_true h, Bool.or_true]
    · rw [inTo_yes (show k < n by omega) h, Bool.true_or]
set_option maxHeartbeats 1000000 in
theorem slicesIndex_any (a : Option Addr) (n c : Nat) (z : Nat → Int) (v : Int) (w : World) (hn : n ≤ 1152921504606846976) (h : Row w a n fun i => .int .i64 (z i)) :
    Calls Tryz.prog 71 #[.slice a n c, .int .i64 v] w fun e w' => ∃ r : Int, e = .returned (.int .i64 r) ∧ decide (0 ≤ r) = inTo z v n ∧ w = w' := by
  go_enter Tryz.func71, Tryz.ntmps71
  go_wp2
  go_loopw [8] (fun i wr => ∃ k : Nat, k ≤ n ∧ i = .int .i64 k ∧ inTo z v k = false ∧ w = wr) (fun i _ => n - (intOf i).toNat)
  case atStart => exact ⟨0, Nat.zero_le _, rfl, rfl, rfl⟩
  case round =>
    obtain ⟨k, hk, rfl, hs, rfl⟩ := hrel
    replace hs := hide hs
    by_cases hlt : k < n
    · have i1 : (k : Int) < (n : Int) := by omega
      obtain ⟨b, off, rfl, hb, c0⟩ := h k hlt
      replace c0 : w.cell? ⟨b, off + k, none⟩ = some (.int .i64 (z k)) := c0
      obtain ⟨u, hu⟩ : ∃ u, u = z k := ⟨_, rfl⟩
      rw [← hu] at c0
      replace hu := hide hu
      by_cases hv : v = u
      · have hI := hide (inTo_yes hlt (hv.trans hu.out))
        subst hv
        clear h
        go_wp2
        go_ret
        exact ⟨k, rfl, by rw [hI.out, decide_eq_true (by omega : (0 : Int) ≤ k)], rfl⟩
      · have hI : Hid (inTo z v (k + 1) = false) := by
          show inTo z v (k + 1) = false
          rw [inTo, hs.out, Bool.false_or, decide_eq_false (by rw [← hu.out]; exact hv)]
        have hvb : (v == u) = false := by simpa using hv
        clear h
        go_wp2
        go_roundw
        case rel => exact ⟨k + 1, by omega, by go_num, hI.out, trivial⟩
        case measure => simp [intOf]; omega
    · obtain rfl : k = n := by omega
      clear h
      go_wp2
      go_ret
      exact ⟨-1, rfl, hs.out.symm, rfl⟩
theorem slicesContains_any (a : Option Addr) (n c : Nat) (z : Nat → Int) (v : Int) (w : World) (hn : n ≤ 1152921504606846976) (h : Row w a n fun i => .int .i64 (z i)) :
    Calls Tryz.prog 37 #[.slice a n c, .int .i64 v] w fun e w' => e = .returned (.bool (inTo z v n)) ∧ w = w' := by
  have hC := hide (slicesIndex_any a n c z v w hn h)
  clear h hn
  go_enter Tryz.func37, Tryz.ntmps37
  go_wp2_with fail
  refine hC.out.mono ?_
  rintro e w' ⟨r, rfl, hr, rfl⟩
  clear hC
  replace hr := hide hr
  go_wp2
  go_ret
  exact ⟨ret_bool hr.out, rfl⟩
/-- Does a session run, and does one of these codes stand there? -/
def atCodeP (M : PMach) (i : Int) (z : Nat → Int) (n : Nat) : Bool := hereP M i && ((M.at i.toNat).runs && inTo z ((M.at i.toNat).ins 0) n)
set_option maxRecDepth 100000 in
set_option maxHeartbeats 2000000 in
theorem standAtCode_any (A : MacM) (M : PMach) (i : Int) (a : Option Addr) (n c : Nat) (z : Nat → Int) (w : World) (h : MachIs w A M) (hn : n ≤ 1152921504606846976) (hr : Row w a n fun i => .int .i64 (z i)) :
    Calls Tryz.prog 19 #[machA A M, .int .i64 i, .slice a n c] w fun e w' => e = .returned (.bool (atCodeP M i z n)) ∧ Below w.heap.size w w' := by
  have hX := hide h.sess.1
  have hHas := hide fun (W : World) (hb : Below w.heap.size w W) => undoHas_any A M i W (h.below hb)
  have hrng := hide fun (k : Nat) (hk : k < A.s.n) (W : World) (hb : Below w.heap.size w W) => (h.below hb).sess.range hk
  have hSes : Hid (∀ (k : Nat) (hk : k < A.s.n) (W : World) (hb : Below w.heap.size w W), SessIs W (A.q k) (M.at k)) := fun k hk W hb => (h.below hb).sess.2.2.2 k hk
  have hCon := hide fun (v : Int) (W : World) (hb : Below w.heap.size w W) => slicesContains_any a n c z v W hn (hr.below hb (Nat.le_refl _))
  clear hr
  obtain ⟨V0, hV0⟩ : ∃ V0, V0 = machA A M := ⟨_, rfl⟩
  rw [← hV0]
  have HV : Hid (V0.cells = (machL A M).toArray) := by rw [hV0]; rfl
  clear hV0
  have HM := hide h
  have HS := hide (St.refl w)
  clear h
  go_enter Tryz.func19, Tryz.ntmps19
  go_wp2_with (first | ((with_reducible refine isList ?_); first | (refine st_box HS _ _ rfl rfl (machL A M) HV.out ?_; clear HS; intro W bm HS) | (refine st_loadA HS 0 rfl _ _ rfl rfl rfl (by decide +kernel) (by kernel_rfl) ?_)))
  refine (hHas.out _ HS.out.below).mono ?_
  (rintro e Wq ⟨rfl, hb⟩; have HSq := hide (HS.out.on hb); clear HS hb; replace HS := HSq; clear HSq)
  clear hHas
  cases hh : hereP M i
  case false =>
    go_wp2
    go_ret
    exact ⟨ret_bool (by unfold atCodeP; rw [hh]; rfl), HS.out.below⟩
  obtain ⟨hmay, k, rfl, hk0⟩ := hereP_yes hh
  have hk : k < A.s.n := by have := hX.out; omega
  have hok := here_sess hmay hk0
  have i2 : (k : Int) < (A.s.n : Int) := by omega
  have eA : Hid (atCodeP M k z n = ((M.at k).runs && inTo z ((M.at k).ins 0) n)) := by show _ = _; unfold atCodeP; rw [hh, Int.toNat_natCast]; rfl
  obtain ⟨p, hp⟩ : ∃ p : Nat, lz (M.at k).num 4 = p := ⟨(lz (M.at k).num 4).toNat, (Int.toNat_of_nonneg hok.pc.1).symm⟩
  have hpn : (M.at k).prog.length / 4 = (A.q k).p.n := by
    have h1 : (M.at k).prog.length = (A.q k).p.n * 4 := (HM.out.sess.2.2.2 k hk).2.1.1
    rw [h1, Nat.mul_div_cancel _ (by decide)]
  have hrun : Hid ((M.at k).runs = (decide (lz (M.at k).num 3 = 0) && decide (p < (A.q k).p.n))) := by
    show (M.at k).runs = _
    unfold PSess.runs PSess.step PSess.pc
    rw [hp, hpn]
    congr 1
    exact decide_eq_decide.2 (by omega)
  have hins : Hid ((M.at k).ins 0 = lz (M.at k).prog (p * 4)) := by
    show (M.at k).ins 0 = _
    unfold PSess.ins PSess.pc
    rw [hp, Int.toNat_natCast, Nat.add_zero]
  clear hh hok hmay hpn
  obtain ⟨bs, off, hbs, _, hR⟩ := hrng.out k hk _ HS.out.below
  replace hR := hide hR
  go_upto_region 3 with fail
  go_upto_region 4 with (first | ((with_reducible refine isList ?_); first | (refine st_load1 HS 0 rfl _ _ rfl _ rfl rfl (by decide +kernel) rfl ?_) | (refine wpList_load_at _ _ rfl rfl bs (off + k * 17) rfl (sessOf (A.q k) (M.at k)) (by decide +kernel) (by kernel_rfl) hR.out ?_) | (refine st_alloc HS _ rfl rfl zeroSL zeroS ?_; clear HS; intro W b7 HS) | (refine st_storeA HS 0 rfl _ _ _ rfl rfl rfl _ rfl rfl (by kernel_rfl) rfl ?_; clear HS; intro W HS)))
  replace HS : Hid (St w W [blkI b7 (sessL (lz (M.at k).num) (.slice (A.q k).p.a (A.q k).p.n (A.q k).p.c) (.slice (A.q k).r.a (A.q k).r.n (A.q k).r.c) (.slice (A.q k).t.a (A.q k).t.n (A.q k).t.c)), blkI bm (machL A M)]) := HS
  clear hR hbs
  have d3 : W.cell? ⟨b7, 3, none⟩ = some (.slice (A.q k).p.a (A.q k).p.n (A.q k).p.c) := (HS.out.blk 0 rfl).cell 3 _ rfl
  have d4 : W.cell? ⟨b7, 4, none⟩ = some (.int .i64 (lz (M.at k).num 3)) := (HS.out.blk 0 rfl).cell 4 _ rfl
  have d5 : W.cell? ⟨b7, 5, none⟩ = some (.int .i64 p) := by rw [← hp]; exact (HS.out.blk 0 rfl).cell 5 _ rfl
  replace hp := hide hp
  obtain ⟨st, hst⟩ : ∃ st, st = lz (M.at k).num 3 := ⟨_, rfl⟩
  rw [← hst] at d4 hrun
  clear hst
  by_cases h0 : st = 0
  · subst h0
    by_cases h1 : p < (A.q k).p.n
    · have i1 : (p : Int) < ((A.q k).p.n : Int) := by omega
      obtain ⟨bp, op, hbp, _, hI⟩ := (hSes.out k hk _ HS.out.below).2.1.four h1
      have c0 : W.cell? ⟨bp, op + p * 4, none⟩ = some (.int .i64 (lz (M.at k).prog (p * 4))) := hI 0 _ rfl
      rw [hbp] at d3
      clear hI hbp
      go_wp2_with fail
      refine (hCon.out _ _ HS.out.below).mono ?_
      rintro e w' ⟨rfl, rfl⟩
      clear d3 d4 d5 c0
      go_wp2
      go_ret
      exact ⟨ret_bool (by rw [eA.out, hrun.out, hins.out, decide_eq_true h1]; simp), HS.out.below⟩
    · have i1 : ¬ (p : Int) < ((A.q k).p.n : Int) := by omega
      have E := hide h1
      clear h1
      go_wp2
      go_ret
      exact ⟨ret_bool (by rw [eA.out, hrun.out, decide_eq_false E.out, Bool.and_false, Bool.false_and]), HS.out.below⟩
  · have hb : (st == 0) = false := by simpa using h0
    have E := hide h0
    clear h0
    go_wp2
    go_ret
    exact ⟨ret_bool (by rw [eA.out, hrun.out, decide_eq_false E.out, Bool.false_and, Bool.false_and]), HS.out.below⟩
end Go.Proofs.YtnjognmnbpcaaaaGreat
namespace Go.Proofs.YtnjognmnbpcaaaaGreat
open Go.RowKit
set_option linter.unusedSimpArgs false
set_option linter.unusedVariables false
theorem machMay_turn {M M' : PMach} {k : Nat} (h : machMay M = true) (hk : k < M.sess.length) (hlen : ∀ g, g < 4 → (M'.lens g).n = (M.lens g).n) (ham : amay M'.lens M'.wz = true) (hc : M'.clocks = M.clocks) (hce : M'.ceil = M.ceil) (ht : M'.trace = M.trace) (hl : M'.sess.length = M.sess.length)
    (ho : ∀ j, j ≠ k → M'.at j = M.at j) (hid : lz (M'.at k).num 0 = lz (M.at k).num 0) (hs : sessMayP M.lens (M'.at k) = true) : machMay M' = true := by
  obtain ⟨h1, h2, h3, h4, h5, h6, h7⟩ := machMay_parts h
  have hids : ∀ j, lz (M'.at j).num 0 = lz (M.at j).num 0 := fun j => by
    by_cases e : j = k
    · subst e; exact hid
    · rw [ho j e]
  have h6' : allTo (sessOk M') M'.sess.length = true := by
    refine allTo_mk fun j hj => ?_
    have hj' : j < M.sess.length := by omega
    have hj2 := allTo_get h6 j hj'
    unfold sessOk at hj2 ⊢
    simp only [Bool.and_eq_true] at hj2 ⊢
    refine ⟨?_, ?_⟩
    · have e : ∀ x, sessMayP M'.lens x = sessMayP M.lens x := fun x => by unfold sessMayP; exact sessMay_lens hlen
      rw [e]
      by_cases ej : j = k
      · subst ej; exact hs
      · rw [ho j ej]; exact hj2.1
    · unfold riseP at hj2 ⊢
      rw [hids, hids]
      exact hj2.2
  have htn : M'.tn = M.tn := by unfold PMach.tn; rw [ht]
  have h7' : allTo (labOk M') M'.tn = true := by
    rw [htn]
    have : labOk M' = labOk M := by funext j; unfold labOk; rw [ht]
    rw [this]; exact h7
  unfold machMay
  rw [ham, hce, h2, hc, h5, h6', h7', decide_eq_true (by omega : M'.sess.length ≤ 4), decide_eq_true (by omega : M'.tn ≤ 512)]
  rfl
end Go.Proofs.YtnjognmnbpcaaaaGreat
namespace Go.Proofs.YtnjognmnbpcaaaaGreat
open Go.RowKit
set_option linter.unusedSimpArgs false
set_option linter.unusedVariables false
theorem doN_len (N : PMach) (k j : Nat) (v : Int) : (N.doN k j v).sess.length = N.sess.length := by show (N.sess.set k _).length = _; rw [List.length_set]
end Go.Proofs.YtnjognmnbpcaaaaGreat
namespace Go.Proofs.YtnjognmnbpcaaaaGreat
open Go.RowKit
set_option linter.unusedSimpArgs false
set_option linter.unusedVariables false
theorem PMach.at_ne {M : PMach} {k j : Nat} {y : PSess} (h : j ≠ k) : (M.setS k y).at j = M.at j := by
  show (M.sess.set k y).getD j noSess = _
  rw [getD_set_ne' _ _ (Ne.symm h)]; rfl
theorem setN_lz {x : PSess} {j c : Nat} {v : Int} (hj : j < x.num.length) : lz (x.setN j v).num c = if c = j then v else lz x.num c := lz_set hj
theorem setN_len (x : PSess) (j : Nat) (v : Int) : (x.setN j v).num.length = x.num.length := by unfold PSess.setN; rw [List.length_set]
theorem setS_setS (N : PMach) (k : Nat) (y z : PSess) : (N.setS k y).setS k z = N.setS k z := by unfold PMach.setS; simp
end Go.Proofs.YtnjognmnbpcaaaaGreat
namespace Go.Proofs.YtnjognmnbpcaaaaGreat
open Go.RowKit
set_option linter.unusedSimpArgs false
set_option linter.unusedVariables false
/-- One number of a program; an instruction. -/
def PMach.doP1 (M : PMach) (k c : Nat) (v : Int) : PMach := M.setS k ((M.at k).setL 0 ((M.at k).prog.set c v))
def PMach.doP (M : PMach) (k p : Nat) (x0 x1 x2 x3 : Int) : PMach := (((M.doP1 k (p * 4) x0).doP1 k (p * 4 + 1) x1).doP1 k (p * 4 + 2) x2).doP1 k (p * 4 + 3) x3
theorem MachOwn.turnP {D : Nat → Prop} {W : World} {A : MacM} {M : PMach} (h : MachOwn D W A M) {k b c : Nat} (hk : k < A.s.n) (hc : c < (A.q k).p.n * 4) (hb : (A.q k).p.a = some ⟨b, 0, none⟩) (v : Int) :
    MachOwn D (W.setCell ⟨b, c, none⟩ (.int .i64 v)) A (M.doP1 k c v) := by
  have nn : A.num = 6 + 3 * A.s.n := rfl
  have eg : A.sl (6 + 3 * k + 0) = (A.q k).p := A.sl_q k (by decide)
  generalize hgg : 6 + 3 * k + 0 = g at eg
  have h0g : 0 < (A.sl g).n := by rw [eg]; exact Nat.pos_of_mul_pos_right (by omega : 0 < (A.q k).p.n * 4)
  have hbg : (A.sl g).a = some ⟨b, 0, none⟩ := by rw [eg]; exact hb
  have ht : Touch b (b + 1) W (W.setCell ⟨b, c, none⟩ (.int .i64 v)) := (Touch.refl b (b + 1) W).setCell (a := ⟨b, c, none⟩) (Nat.le_refl b) (Nat.lt_succ_self b) _
  obtain ⟨b2, e2, hDb, lb, hlb⟩ := h.own g (by omega) h0g
  rw [hbg] at e2; cases e2
  have lt_of : ∀ j, j < A.num → 0 < (A.sl j).n → ∀ b' o, (A.sl j).a = some ⟨b', o, none⟩ → b' < W.heap.size := fun j hj h0 b' o e => by
    obtain ⟨b2, e2, _, l, hl⟩ := h.own j hj h0
    rw [e2] at e; cases e; exact hl.lt
  have far : ∀ j, j < A.num → j ≠ g → 0 < (A.sl j).n → ∀ b' o, (A.sl j).a = some ⟨b', o, none⟩ → b' ≠ b := fun j hj hjg h0 b' o e hbb => by
    subst hbb
    obtain ⟨b2, e2, _⟩ := h.own j hj h0
    rw [e2] at e; cases e
    exact h.ne hjg hj (by omega) h0 h0g (by rw [e2, hbg])
  have kp : ∀ j, j < A.num → j ≠ g → 0 < (A.sl j).n → ∀ b' o, (A.sl j).a = some ⟨b', o, none⟩ → (W.setCell ⟨b, c, none⟩ (.int .i64 v)).heap[b']? = W.heap[b']? := fun j hj hjg h0 b' o e => ht.block b' (by have := far j hj hjg h0 b' o e; omega) (lt_of j hj h0 b' o e)
  have hsk := h.is.sess.2.2.2 k hk
  have hlen : (M.at k).prog.length = (A.q k).p.n * 4 := hsk.2.1.1
  have hkl : k < M.sess.length := by have := h.is.sess.1; omega
  have sat : ∀ i, (M.doP1 k c v).at i = if i = k then (M.at k).setL 0 ((M.at k).prog.set c v) else M.at i := fun i => by
    by_cases e : i = k
    · subst e; rw [if_pos rfl]; exact PMach.at_setS hkl
    · rw [if_neg e]; exact PMach.at_ne e
  have eses : ∀ j, sessCell A.q (M.doP1 k c v).sess j = sessCell A.q M.sess j := fun j => by
    have : (M.doP1 k c v).sess.getD (j / 17) noSess = if j / 17 = k then (M.at k).setL 0 ((M.at k).prog.set c v) else M.at (j / 17) := sat _
    unfold sessCell
    rw [this]
    by_cases e : j / 17 = k
    · rw [if_pos e, e]; rfl
    · rw [if_neg e]; rfl
  refine ⟨⟨h.is.four, h.is.clocks, fun g' hg' => ?_, ⟨?_, h.is.sess.2.1, ?_, fun i hi => ?_⟩, ?_⟩, fun j hj => ?_, h.apart, ?_⟩
  · exact (h.is.words g' hg').keep ht.size fun h0 b' o e' => kp g' (by omega) (by omega) (by rw [A.sl_w hg']; exact h0) b' o (by rw [A.sl_w hg']; exact e')
  · show (M.sess.set k _).length = _; rw [List.length_set]; exact h.is.sess.1
  · exact (h.is.sess.2.2.1.keep ht.size fun h0 b' o e => kp 4 (by omega) (by omega) (by rw [A.sl_s]; exact Nat.pos_of_mul_pos_right h0) b' o (by rw [A.sl_s]; exact e)).congr fun j _ => (eses j).symm
  · have hi' : i < A.s.n := hi
    show SessIs _ (A.q i) ((M.doP1 k c v).at i)
    rw [sat i]
    by_cases e : i = k
    · subst e
      rw [if_pos rfl]
      refine ⟨hsk.1, ?_, ?_, ?_⟩
      · show SlIs _ 4 (A.q i).p ((M.at i).prog.set c v)
        have hw : SlIs W 4 (A.q i).p (M.at i).prog := hsk.2.1
        refine ⟨by rw [List.length_set]; exact hw.1, hw.2.1, fun m hm => ?_⟩
        obtain ⟨b3, off, e3, hlt, hcc⟩ := hw.2.2 m hm
        rw [hb] at e3; cases e3
        refine ⟨b, 0, hb, Nat.lt_of_lt_of_le hlt ht.size, ?_⟩
        rw [Nat.zero_add] at hcc ⊢
        show (W.setCell ⟨b, c, none⟩ (.int .i64 v)).cell? ⟨b, m, none⟩ = some (.int .i64 (lz ((M.at i).prog.set c v) m))
        rw [lz_set (by rw [hlen]; exact hc)]
        by_cases e : m = c
        · subst e; rw [if_pos rfl]; exact World.cell?_setCell_same _ _ _ hcc
        · rw [if_neg e, World.cell?_setCell_other _ _ _ _ (fun he => by simp only [Addr.mk.injEq] at he; omega)]; exact hcc
      · exact hsk.2.2.1.keep ht.size fun h0 b' o e => kp (6 + 3 * i + 1) (by omega) (by omega) (by rw [A.sl_q i (by decide)]; exact h0) b' o (by rw [A.sl_q i (by decide)]; exact e)
      · exact hsk.2.2.2.keep ht.size fun h0 b' o e => kp (6 + 3 * i + 2) (by omega) (by omega) (by rw [A.sl_q i (by decide)]; exact h0) b' o (by rw [A.sl_q i (by decide)]; exact e)
    · rw [if_neg e]
      exact (h.is.sess.2.2.2 i hi).keep ht.size fun j hj h0 b' o e => kp (6 + 3 * i + j) (by omega) (by omega) (by rw [A.sl_q i hj]; exact h0) b' o (by rw [A.sl_q i hj]; exact e)
  · exact h.is.trace.keep ht.size fun h0 b' o e => kp 5 (by omega) (by omega) (by rw [A.sl_e]; exact h0) b' o (by rw [A.sl_e]; exact e)
  · intro h0
    obtain ⟨b2, e2, h1, l, hl⟩ := h.own j hj h0
    by_cases hbb : b2 = b
    · subst hbb; exact ⟨b2, e2, h1, _, hl.set c _⟩
    · exact ⟨b2, e2, h1, l, hl.touch ht (by omega)⟩
  · obtain ⟨v', hv', ho, hb5⟩ := h.trace
    exact ⟨v', hv', ownsRow_keep ho fun g' hg' => ht.block g' (by
      have : g' ≠ b := fun e => (hb5 g' hg').2 g (by omega) (by omega) h0g (by rw [hbg, e])
      omega) (ho.lt g' hg').2, hb5⟩
theorem MachOwn.turnPP {D : Nat → Prop} {W : World} {A : MacM} {M : PMach} (h : MachOwn D W A M) {k b p : Nat} (hk : k < A.s.n) (hp : p < (A.q k).p.n) (hb : (A.q k).p.a = some ⟨b, 0, none⟩) (x0 x1 x2 x3 : Int) :
    MachOwn D (W.setCells b (p * 4) [.int .i64 x0, .int .i64 x1, .int .i64 x2, .int .i64 x3]) A (M.doP k p x0 x1 x2 x3) :=
  (((h.turnP hk (by omega : p * 4 < _) hb x0).turnP hk (by omega : p * 4 + 1 < _) hb x1).turnP hk (by omega : p * 4 + 2 < _) hb x2).turnP hk (by omega : p * 4 + 3 < _) hb x3
/-- Where the program lies. -/
theorem MachOwn.pblk {D : Nat → Prop} {W : World} {A : MacM} {M : PMach} (h : MachOwn D W A M) {k : Nat} (hk : k < A.s.n) (h0 : 0 < (A.q k).p.n) : ∃ b, (A.q k).p.a = some ⟨b, 0, none⟩ ∧ D b ∧ ∃ l, Blk W b l := by
  have := h.own (6 + 3 * k + 0) (by unfold MacM.num; omega) (by rw [A.sl_q k (by decide)]; exact h0)
  rw [A.sl_q k (by decide)] at this
  exact this
section
variable {w0 w : World} {L : List Itm} {P : Program} {ops : Array Oper} {rest : List Oper} {op : Oper} {a : Act} {K : Act → World → Prop} {Q : Exit → Act → World → Prop} {D : Nat → Prop} {A : MacM} {M : PMach}
theorem stw_storeP (HS : Hid (St w0 w L)) (i : Nat) (ei : L[i]? = some (machI D A M)) {k b p : Nat} (hk : k < A.s.n) (hp : p < (A.q k).p.n) (hb : (A.q k).p.a = some ⟨b, 0, none⟩) (ty : TypeId) (x y : Operand) (ho : op.op = .store ty x y) (o : Nat) (hx : a.eval x = .pointer (some ⟨b, o, none⟩)) (ho' : o = p * 4)
    {x0 x1 x2 x3 : Int} (hy : ValOf a y (.agg #[.int .i64 x0, .int .i64 x1, .int .i64 x2, .int .i64 x3])) (hi : (P.info? ty).map (·.size) = some 4) (hw : ∀ W, Hid (St w0 W (L.set i (machI D A (M.doP k p x0 x1 x2 x3)))) → K (a.put op.dst undef) W) : op.wp P a w K Q := by
  have hM : MachOwn D w A M := HS.out.get i ei
  obtain ⟨b2, e, hD, l2, hl⟩ := hM.pblk hk (by omega)
  rw [hb] at e; cases e
  subst ho'
  refine wp_store_mid ty x y ho b (p * 4) #[.int .i64 x0, .int .i64 x1, .int .i64 x2, .int .i64 x3] hx hy.eval (fun c hc => ?_) hi (by simp [Value.oneCell']) (hw _ (HS.out.set i ei _ ?_ (machI_loc _ _ _) (hM.turnPP hk hp hb x0 x1 x2 x3) fun k hk => .inl hk))
  · have hc3 : c < 4 := hc
    obtain ⟨b3, off, e3, hlt, hcc⟩ := (hM.is.sess.2.2.2 k hk).2.1.2.2 (p * 4 + c) (by omega)
    rw [hb] at e3; cases e3
    rw [Nat.zero_add] at hcc
    exact ⟨by rw [hcc]; rfl, hl.frozen _⟩
  · exact (chg_touch (Touch.setCells _ _ _)).mono fun k _ hk => by
      obtain rfl : k = b := by omega
      exact hD
theorem st_storeP (HS : Hid (St w0 w L)) (i : Nat) (ei : L[i]? = some (machI D A M)) {k b p : Nat} (hk : k < A.s.n) (hp : p < (A.q k).p.n) (hb : (A.q k).p.a = some ⟨b, 0, none⟩) (ty : TypeId) (x y : Operand) (ho : op.op = .store ty x y) (o : Nat) (hx : a.eval x = .pointer (some ⟨b, o, none⟩)) (ho' : o = p * 4) (hgd : Region.wanted op (yielded ops a.tmps) = true)
    {x0 x1 x2 x3 : Int} (hy : ValOf a y (.agg #[.int .i64 x0, .int .i64 x1, .int .i64 x2, .int .i64 x3])) (hi : (P.info? ty).map (·.size) = some 4) (hw : ∀ W, Hid (St w0 W (L.set i (machI D A (M.doP k p x0 x1 x2 x3)))) → wpList P ops Q rest (a.put op.dst undef) W) : wpList P ops Q (op :: rest) a w :=
  BigFrame.wpList_want hgd fun _ hK => stw_storeP HS i ei hk hp hb ty x y ho o hx ho' hy hi fun W h => hK _ _ (hw W h)
end
end Go.Proofs.YtnjognmnbpcaaaaGreat
