/-
  Several small texts in one: FetchRoom, FetchProg.
-/
import Derived.Test.YtaaenolbfhhnfaaGreatZlbd
import Derived.Test.YtaaenolbfhhnfaaGreatZlbe
import Derived.Test.YtaaenolbfhhnfaaGreatZlbg
import Derived.Test.YtaaenolbfhhnfaaGreatZlbh
import Derived.Test.YtaaenolbfhhnfaaGreatZlbi
import Derived.Test.YtaaenolbfhhnfaaGreatZlbj
import Derived.Test.YtaaenolbfhhnfaaGreatZlbc
namespace Go.Proofs.YtaaenolbfhhnfaaGreat
open Go.RowKit
set_option linter.unusedSimpArgs false
set_option linter.unusedVariables false
def rankR (z : Nat → Int) (k : Nat) : Nat := (z (k * 3)).toNat * 4 + (z (k * 3 + 1)).toNat
def seenR (z : Nat → Int) : Nat → Nat → Bool
  | 0 => fun _ => false
  | k + 1 => updF (seenR z k) (rankR z k)
theorem rank_lt {z : Nat → Int} {k : Nat} (h : aloneP z k = true) : rankR z k < 16 ∧ 0 ≤ z (k * 3) ∧ 0 ≤ z (k * 3 + 1) ∧ z (k * 3) ≤ 3 ∧ z (k * 3 + 1) ≤ 3 := by
  obtain ⟨h1, h2, _⟩ := readMay_yes h
  have a1 := upToV_yes h1
  have a2 := upToV_yes h2
  unfold rankR
  omega
theorem seen_of {z : Nat → Int} : ∀ {k j : Nat}, seenR z k j = true → ∃ m, m < k ∧ rankR z m = j
  | 0, _, h => by cases h
  | k + 1, j, h => by
    by_cases e : j = rankR z k
    · exact ⟨k, Nat.lt_succ_self k, e.symm⟩
    · unfold seenR at h
      rw [updF_other _ e] at h
      obtain ⟨m, hm, he⟩ := seen_of h
      exact ⟨m, by omega, he⟩
theorem noneTo_ne {z : Nat → Int} {l i : Int} {n m : Nat} (h : noneTo z l i n = true) (hm : m < n) : ¬ (z (m * 3) = l ∧ z (m * 3 + 1) = i) := fun ⟨e1, e2⟩ => by
  have := allTo_get h m hm
  revert this
  show ¬ ((!isWord z l i m) = true)
  unfold isWord
  rw [e1, e2]
  simp
theorem seen_not {z : Nat → Int} {l i : Int} {n : Nat} (h : allTo (aloneP z) n = true) (hl : 0 ≤ l ∧ l ≤ 3) (hi : 0 ≤ i ∧ i ≤ 3) (hn : noneTo z l i n = true) : seenR z n (l.toNat * 4 + i.toNat) = false := by
  cases hs : seenR z n (l.toNat * 4 + i.toNat)
  · rfl
  · exfalso
    obtain ⟨m, hm, e⟩ := seen_of hs
    obtain ⟨_, g1, g2, g3, g4⟩ := rank_lt (allTo_get h m hm)
    unfold rankR at e
    exact noneTo_ne hn hm ⟨by omega, by omega⟩
theorem seen_cnt {z : Nat → Int} {n : Nat} (h : allTo (aloneP z) n = true) (ha : allTo (apartP z) n = true) : ∀ k, k ≤ n → cnt (seenR z k) 16 = k
  | 0, _ => rfl
  | k + 1, hk => by
    obtain ⟨g0, g1, g2, g3, g4⟩ := rank_lt (allTo_get h k (by omega))
    have hno : noneTo z (z (k * 3)) (z (k * 3 + 1)) k = true := allTo_get ha k (by omega)
    have := seen_not (n := k) (allTo_mk fun j hj => allTo_get h j (by omega)) ⟨g1, g3⟩ ⟨g2, g4⟩ hno
    show cnt (updF (seenR z k) (rankR z k)) 16 = k + 1
    rw [cnt_upd (by exact this) g0, seen_cnt h ha k (by omega)]
/-- One read more, of a word that none is of. -/
theorem room {n : Nat} {z : Nat → Int} {l i v : Int} (h : readsMay n z = true) (hr : readMay l i v = true) (hn : noneTo z l i n = true) : n + 1 ≤ 16 := by
  obtain ⟨h1, h2, _⟩ := readsMay_get h
  obtain ⟨r1, r2, _⟩ := readMay_yes hr
  have a1 := upToV_yes r1
  have a2 := upToV_yes r2
  have hs := seen_not h1 a1 a2 hn
  have := cnt_lt hs (m := 16) (by omega)
  rw [seen_cnt h1 h2 n (Nat.le_refl _)] at this
  omega
theorem with_room {n : Nat} {z : Nat → Int} {l i v : Int} (h : readsMay n z = true) (hr : readMay l i v = true) : withOk n z l i v = true := by
  rw [withOk_mk h hr]
  cases hn : noneTo z l i n
  · rfl
  · rw [decide_eq_true (room h hr hn)]; rfl
/-- The value is in the register, it is told, the program goes on. -/
def takenP (M : PMach) (k a : Nat) (v p : Int) : PMach := ((tellP M k 0 v).doN k (5 + a) v).doN k 4 (p + 1)
theorem tell_setS {M : PMach} {k : Nat} {x : PSess} {c v : Int} (hk : k < M.sess.length) (h0 : lz x.num 0 = lz (M.at k).num 0) (h1 : lz x.num 1 = lz (M.at k).num 1) : tellP (M.setS k x) k c v = (tellP M k c v).setS k x := by
  unfold tellP
  rw [PMach.at_setS hk, h0, h1]
  show (if M.trace.length / 4 < 512 then _ else _) = _
  split <;> rfl
theorem tell_doN {M : PMach} {k j : Nat} {c v x : Int} (hk : k < M.sess.length) (h0 : j ≠ 0) (h1 : j ≠ 1) : tellP (M.doN k j x) k c v = (tellP M k c v).doN k j x := by
  unfold PMach.doN
  rw [tell_setS hk (setN_other h0) (setN_other h1), tellP_at]
theorem got_taken {M : PMach} {k a : Nat} {v p : Int} (hk : k < M.sess.length) : gotP M k a v p = (takenP M k a v p, 0) := by
  have l1 : k < (M.doN k (5 + a) v).sess.length := by unfold PMach.doN; rw [PMach.len_setS]; exact hk
  unfold gotP takenP
  rw [tell_doN l1 (by decide) (by decide), tell_doN hk (by omega) (by omega)]
theorem taken_reads {M : PMach} {k a : Nat} {v p : Int} {R : List Int} (hk : k < M.sess.length) : takenP (M.setS k ((M.at k).setL 1 R)) k a v p = (takenP M k a v p).setS k (((takenP M k a v p).at k).setL 1 R) := by
  have lT : k < (tellP M k 0 v).sess.length := by rw [tellP_sess]; exact hk
  have e1 : tellP (M.setS k ((M.at k).setL 1 R)) k 0 v = (tellP M k 0 v).setS k ((M.at k).setL 1 R) := tell_setS hk rfl rfl
  unfold takenP PMach.doN
  rw [e1]
  simp only [setS_setS, PMach.at_setS lT, tellP_at]
  rfl
theorem taken_len (M : PMach) (k a : Nat) (v p : Int) : (takenP M k a v p).sess.length = M.sess.length := by
  unfold takenP PMach.doN
  rw [PMach.len_setS, PMach.len_setS, tellP_sess]
end Go.Proofs.YtaaenolbfhhnfaaGreat
namespace Go.Proofs.YtaaenolbfhhnfaaGreat
open Go.RowKit
set_option linter.unusedSimpArgs false
set_option linter.unusedVariables false
set_option maxRecDepth 100000 in
set_option maxHeartbeats 4000000 in
theorem taken_any (A : MacM) (M : PMach) (k a p : Nat) (v : Int) (w : World) (h : MachIs w A M) (hh : hereP M k = true) (hk : k < A.s.n) (hp : lz (M.at k).num 4 = p) (hlt : p < (A.q k).p.n) (hp16 : p ≤ 16) (ea : lz (M.at k).prog (p * 4 + 1) = a) (ha : a < 4) :
    Calls Tryz.prog 86 #[machA A M, .int .i64 k, .int .i64 v] w fun e w' => ∃ A', e = .returned (machA A' (takenP M k a v p)) ∧ MachOwn (fun k => w.heap.size ≤ k ∧ k < w'.heap.size) w' A' (takenP M k a v p) ∧ Below w.heap.size w w' := by
  have hX := h.sess.1
  have hpl : (M.at k).prog.length = (A.q k).p.n * 4 := (h.sess.2.2.2 k hk).2.1.1
  have hk0 : k < M.sess.length := by omega
  have hTell := hide fun (W : World) (hb : Below w.heap.size w W) => gtelling_any A M k 0 v W (h.below hb)
  rw [show tellingP M k 0 v = (tellP M k 0 v, 0) by unfold tellingP; rw [hh, Int.toNat_natCast]; rfl] at hTell
  have eT : Hid (takenP M k a v p = ((tellP M k 0 v).doN k (5 + a) v).doN k 4 (p + 1)) := rfl
  have eat := tellP_at M k 0 v k
  have esn : (tellP M k 0 v).sess.length = M.sess.length := by rw [tellP_sess]
  generalize takenP M k a v p = T at eT ⊢
  generalize tellP M k 0 v = N at *
  rw [← eat] at hp hpl ea
  have kN : k < N.sess.length := by omega
  have i3 : (a : Int) < 4 := by omega
  replace hp := hide hp; replace hpl := hide hpl; replace ea := hide ea; replace esn := hide esn; replace eat := hide eat
  obtain ⟨V0, hV0⟩ : ∃ V0, V0 = machA A M := ⟨_, rfl⟩
  rw [← hV0]
  have HV : Hid (V0.cells = (machL A M).toArray) := by rw [hV0]; rfl
  clear hV0
  have HM := hide h
  have HS := hide (St.refl w)
  clear h
  go_enter Tryz.func86, Tryz.ntmps86
  go_wp2_with (first | ((with_reducible refine isList ?_); first | (refine st_box HS _ _ rfl rfl (machL A M) HV.out ?_; clear HS; intro W bm HS) | (refine st_alloc HS _ rfl rfl zeroML zeroM ?_; clear HS; intro W br HS) | (refine st_loadA HS 1 rfl _ _ rfl rfl rfl (by decide +kernel) (by kernel_rfl) ?_)))
  refine (hTell.out _ HS.out.below).mono ?_
  (rintro e Wq ⟨A1, rfl, hO, hb⟩; have HSq := hide (HS.out.push hb (machI (fun k => _) A1 _) (machI_loc _ _ _) hO fun k hk => hk); generalize (fun k => _) = D1 at HSq; clear HS hb hO; replace HS := HSq; clear HSq)
  clear hTell
  have hk1 : k < A1.s.n := by
    have := (MachOwn.is (show MachOwn D1 _ A1 N from HS.out.get 0 rfl)).sess.1
    omega
  have i1 : (k : Int) < (A1.s.n : Int) := by omega
  have hp1 : p < (A1.q k).p.n := by
    have := ((MachOwn.is (show MachOwn D1 _ A1 N from HS.out.get 0 rfl)).sess.2.2.2 k hk1).2.1.1
    have h2 := hpl.out
    unfold PMach.at at h2
    omega
  have i2 : (p : Int) < ((A1.q k).p.n : Int) := by omega
  obtain ⟨bs1, hbs1, _⟩ := MachOwn.sblk (show MachOwn D1 _ A1 N from HS.out.get 0 rfl) hk1
  obtain ⟨bp, op, hbp, _, _⟩ := ((MachOwn.is (show MachOwn D1 _ A1 N from HS.out.get 0 rfl)).sess.2.2.2 k hk1).2.1.four hp1
  have hcl : Hid (∀ (W' : World) (N' : PMach), MachOwn D1 W' A1 N' → lz (N'.at k).num 4 = p → (N'.at k).prog = (N.at k).prog → W'.cell? ⟨bs1, k * 17 + 3, none⟩ = some (.slice (some ⟨bp, op, none⟩) (A1.q k).p.n (A1.q k).p.c) ∧ W'.cell? ⟨bs1, k * 17 + 5, none⟩ = some (.int .i64 p) ∧ W'.cell? ⟨bp, op + p * 4 + 1, none⟩ = some (.int .i64 a)) := fun W' N' hM h4 hpr => by
    refine ⟨?_, ?_, ?_⟩
    · rw [← hbp]; exact hM.is.scell hk1 3 (by decide) rfl hbs1
    · rw [← h4]; exact hM.is.scell hk1 5 (by decide) rfl hbs1
    · obtain ⟨b2, o2, e2, _, r⟩ := (hM.is.sess.2.2.2 k hk1).2.1.four hp1
      rw [hbp] at e2; cases e2
      have h2 : lz (N'.at k).prog (p * 4 + 1) = a := by rw [hpr]; exact ea.out
      rw [← h2]
      exact r 1 _ rfl
  clear hbp
  go_upto_region 2 with (first | ((with_reducible refine isList ?_); first | (refine st_alloc HS _ rfl rfl zeroML zeroM ?_; clear HS; intro W bn HS) | (refine st_storeA HS 0 rfl _ _ _ rfl rfl rfl _ rfl rfl (by kernel_rfl) rfl ?_; clear HS; intro W HS)))
  replace HS : Hid (St w W [blkI bn (machL A1 N), machI D1 A1 N, blkI br zeroML, blkI bm (machL A M)]) := HS
  replace hbs1 := hide hbs1
  have c9 : W.cell? ⟨bn, 9, none⟩ = some (.slice (some ⟨bs1, 0, none⟩) A1.s.n A1.s.c) := by rw [← hbs1.out]; exact (HS.out.blk 0 rfl).cell 9 _ rfl
  go_upto_region 3 with fail
  clear c9
  replace hbs1 := hbs1.out
  (try simp only [Act.put, List.setIfInBounds_toArray, List.set_cons_zero, List.set_cons_succ])
  refine wp_region_mask [true, true, true, true, true, true, true, true, true, true, true, true, true, true, true, true, false] [false, false, false, false, false, false, false, false, false, false, false, false, false, false, false, false, true] [0] (fun W' => W'.cell? ⟨bs1, k * 17 + 3, none⟩ = some (.slice (some ⟨bp, op, none⟩) (A1.q k).p.n (A1.q k).p.c) ∧ W'.cell? ⟨bs1, k * 17 + 5, none⟩ = some (.int .i64 p) ∧ W'.cell? ⟨bp, op + p * 4 + 1, none⟩ = some (.int .i64 a)) (by kernel_rfl) (by kernel_rfl) (by kernel_rfl) (by decide +kernel) (hcl.out _ N (HS.out.drew.get 1 rfl) hp.out rfl) ?_
  intro kne
  simp only [pickAt]
  repeat (first | ((first | (refine wpQuiet_ld _ _ rfl ⟨bs1, k * 17 + 3, none⟩ rfl rfl (by decide +kernel) (fun w hC => hC.1) ?_) | (refine wpQuiet_ld _ _ rfl ⟨bs1, k * 17 + 5, none⟩ rfl rfl (by decide +kernel) (fun w hC => hC.2.1) ?_) | (refine wpQuiet_ld _ _ rfl ⟨bp, op + p * 4 + 1, none⟩ rfl rfl (by decide +kernel) (fun w hC => hC.2.2) ?_)); simp only [Act.put, List.setIfInBounds_toArray, List.set_cons_zero, List.set_cons_succ]) | go_big_quiet_step (fail))
  refine wpQuiet_nil ?_
  clear kne
  replace HS := hide HS.out.drew
  generalize World.drew _ = Wd at *
  have hpN : Hid (lz ((N.doN k (5 + a) v).at k).num 4 = p) := by
    show _ = _
    rw [at_doN kN, setN_other (by omega)]
    exact hp.out
  have hpr : Hid (((N.doN k (5 + a) v).at k).prog = (N.at k).prog) := by
    show _ = _
    rw [at_doN kN]
    rfl
  refine wpRest_cons rfl rfl fun K hK => ?_
  refine stw_storeN HS 1 rfl hk1 hbs1 (5 + a) (by omega) _ _ _ rfl _ rfl (regs_at ha) (v := v) rfl (by decide +kernel) ?_
  clear HS
  intro W6 HS
  replace HS : Hid (St w W6 [blkI bn (machL A1 (N.doN k (5 + a) v)), machI D1 A1 (N.doN k (5 + a) v), blkI br zeroML, blkI bm (machL A M)]) := HS
  refine hK _ _ (fun _ => InC.mk (hcl.out _ _ (HS.out.get 1 rfl) hpN.out hpr.out)) (wpRest_nil ?_)
  clear hK K
  (try simp only [Act.put, List.setIfInBounds_toArray, List.set_cons_zero, List.set_cons_succ])
  refine NoPanic.normal ?_
  generalize N.doN k (5 + a) v = N1 at *
  clear hcl hp hpl ea
  have hp4 := hpN.out
  go_upto_region 5 with (first | ((with_reducible refine isList ?_); first | (refine st_loadS (MachOwn.is (HS.out.get 1 (x := machI D1 A1 N1) rfl)) hk1 hbs1 5 (by decide) rfl _ _ rfl _ rfl (by rw [Nat.zero_add] <;> rfl) rfl (by decide +kernel) ?_) | (refine st_storeN HS 1 rfl hk1 hbs1 4 (by decide) _ _ _ rfl _ rfl (show _ = k * 17 + 5 from by with_reducible rfl) rfl rfl (by decide +kernel) ?_; clear HS; intro W HS)))
  replace HS : Hid (St w W [blkI bn (machL A1 (N1.doN k 4 ((p : Int) + 1))), machI D1 A1 (N1.doN k 4 ((p : Int) + 1)), blkI br zeroML, blkI bm (machL A M)]) := HS
  rw [← eT.out] at HS
  go_wp2_with (first | ((with_reducible refine isList ?_); first | (refine st_loadA HS 0 rfl _ _ rfl rfl rfl (by decide +kernel) (by kernel_rfl) ?_) | (refine st_storeA HS 2 rfl _ _ _ rfl rfl rfl _ rfl rfl (by kernel_rfl) rfl ?_; clear HS; intro W HS)))
  refine bodyPost_ret (ret_mach Tryz.results86 (HS.out.blk 2 rfl) rfl rfl) rfl ⟨A1, rfl, ?_, HS.out.below⟩
  exact (show MachOwn D1 _ A1 T from HS.out.get 1 rfl).mono (HS.out.here 1 _ rfl).2.2
end Go.Proofs.YtaaenolbfhhnfaaGreat
