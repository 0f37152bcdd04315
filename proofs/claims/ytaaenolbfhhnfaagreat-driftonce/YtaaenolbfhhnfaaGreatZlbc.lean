/-
  Several small texts in one: OnceStep, BegunPure, Begun14, Awake14, OnceBegin, OnceLoop.
-/
import Derived.Test.YtaaenolbfhhnfaaGreatZlbb
import Derived.Test.YtaaenolbfhhnfaaGreatZhStepRef
import Derived.Test.YtaaenolbfhhnfaaGreatZhNewRef
import Derived.Test.YtaaenolbfhhnfaaGreatZlba
import Derived.Test.YtaaenolbfhhnfaaGreatZlag
import Derived.Test.YtaaenolbfhhnfaaGreatZlac
import Derived.Test.YtaaenolbfhhnfaaGreatZlaj
import Derived.Test.YtaaenolbfhhnfaaGreatZlab
import Derived.Test.YtaaenolbfhhnfaaGreatZlad
import Derived.Test.YtaaenolbfhhnfaaGreatRows
import Derived.Deep.QuietTactic
import Derived.BigQuiet
import Derived.WalkSpells
import Derived.ChangeKeysEq
namespace Go.Proofs.YtaaenolbfhhnfaaGreat
open Go.RowKit
set_option linter.unusedSimpArgs false
set_option linter.unusedVariables false
/-- The machine stands at read p of k, with label L. -/
structure OnceI (W0 : List (List Int)) (G : Nat → Int) (k : Nat) (N : PMach) (L : Int) (p : Nat) : Prop where
  here : hereP N 1 = true
  two : N.sess.length = 2
  words : N.words = W0
  len : (N.at 1).prog.length = k * 4
  code : ∀ j, j < k → lz (N.at 1).prog (j * 4) = 2 ∧ lz (N.at 1).prog (j * 4 + 1) = 0 ∧ lz (N.at 1).prog (j * 4 + 2) = G j ∧ lz (N.at 1).prog (j * 4 + 3) = 0
  lab : lz (N.at 1).num 1 = L
  clear : lz (N.at 1).num 2 = 3
  step : lz (N.at 1).num 3 = 0
  pc : lz (N.at 1).num 4 = p
  writes : (N.at 1).writes = []
  good : N.good (N.at 1) = true
  few : (N.at 1).rn ≤ p
section
variable {W0 : List (List Int)} {G : Nat → Int} {k : Nat} {N : PMach} {L : Int} {p : Nat}
theorem OnceI.ins (h : OnceI W0 G k N L p) (hp : p < k) : (N.at 1).ins 0 = 2 ∧ (N.at 1).ins 1 = 0 ∧ (N.at 1).ins 2 = G p ∧ (N.at 1).ins 3 = 0 := by
  have e : (N.at 1).pc.toNat = p := by
    have : (N.at 1).pc = p := h.pc
    omega
  unfold PSess.ins
  rw [e]
  exact h.code p hp
theorem OnceI.run (h : OnceI W0 G k N L p) (hp : p < k) : runP (N.at 1) = 2 := by
  unfold runP PSess.runs
  have e3 : (N.at 1).step = 0 := h.step
  have e4 : (N.at 1).pc = p := h.pc
  rw [e3, e4, h.len, Nat.mul_div_cancel _ (by decide), decide_eq_true rfl, decide_eq_true (by omega : (p : Int) < (k : Int)), (h.ins hp).1]
  rfl
theorem OnceI.needs (h : OnceI W0 G k N L p) (hp : p < k) : needsP N 1 = (!underV (G p) L, 0) := by
  have e1 : (1 : Int).toNat = 1 := rfl
  unfold needsP
  rw [h.here, e1, decide_eq_true (h.run hp), (h.ins hp).2.2.1, h.lab]
  rfl
theorem OnceI.stepped (h : OnceI W0 G k N L p) (hp : p < k) (hu : underV (G p) L = true) (e : (fetchP N 1).2 = 0) : stepP N 1 = fetchP N 1 := by
  have e1 : (1 : Int).toNat = 1 := rfl
  have e3 : (N.at 1).step = 0 := h.step
  have en : (needsP N ((1 : Nat) : Int)).1 = false := by
    show (needsP N 1).1 = false
    rw [h.needs hp, hu]
    rfl
  have es : stepsP N 1 = fetchP N 1 := by
    unfold stepsP
    rw [if_pos e3]
    unfold runsP
    rw [if_pos (h.run hp), en]
    rfl
  unfold stepP
  rw [h.here, e1, es, decide_eq_true e]
  show ((fetchP N 1).1, (0 : Int)) = _
  rw [← e]
/-- A drift. -/
theorem OnceI.drift {A : MacM} {w : World} (h : OnceI W0 G k N L p) (hm : MachIs w A N) (hp : p < k) (hu : underV (G p) L = false) (hL : underV (bits .or .i64 L (G p)) 3 = true) :
    ∃ N', driftP N 1 = (N', 0) ∧ OnceI W0 G k N' (bits .or .i64 L (G p)) p := by
  have en := h.needs hp
  rw [hu] at en
  have eL : driftL (N.at 1) = bits .or .i64 L (G p) := by unfold driftL; rw [h.lab, (h.ins hp).2.2.1]
  rcases drift_cases hm 1 with hd | ⟨k', ek, hk0, hd⟩
  · exfalso
    have e1 : (1 : Int).toNat = 1 := rfl
    unfold driftP at hd
    rw [en, e1, h.clear, eL, hL] at hd
    have := congrArg Prod.snd hd
    revert this
    show ¬ ((0 : Int) = 1400)
    decide
  · obtain rfl : k' = 1 := by omega
    rcases hd with ⟨N', hd, hR⟩ | hd
    · refine ⟨N', hd, ⟨hR.here, by rw [hR.len, h.two], by rw [hR.words, h.words], by rw [hR.prog, h.len], by rw [hR.prog]; exact h.code, by rw [hR.lab, eL], by rw [hR.num 2 (by decide), h.clear], by rw [hR.num 3 (by decide), h.step], by rw [hR.num 4 (by decide), h.pc], by rw [hR.writes, h.writes], ?_, ?_⟩⟩
      · have hg := h.good
        unfold PMach.good at hg ⊢
        have er : (N'.at 1).rn = (N.at 1).rn := by unfold PSess.rn; rw [hR.reads]
        rw [er, hR.reads, hR.num 0 (by decide), show N'.lens = N.lens by funext g; unfold PMach.lens PMach.lv; rw [hR.words], show N'.wz = N.wz by funext g; unfold PMach.wz PMach.lv; rw [hR.words]]
        exact hg
      · have er : (N'.at 1).rn = (N.at 1).rn := by unfold PSess.rn; rw [hR.reads]
        rw [er]
        exact h.few
    · exfalso
      have e1 : (1 : Int).toNat = 1 := rfl
      have hd2 := hd
      unfold driftP at hd2
      rw [en, e1, h.clear, eL, hL] at hd2
      have h2 := congrArg (fun q => lz ((q : PMach × Int).1.at 1).num 3) hd2
      have h14 : (N.at 1).num.length = 14 := (hm.sess.2.2.2 1 (by have := hm.sess.1; have := h.two; omega)).1
      have l1 : lz ((endR N 1 4 0).at 1).num 3 = 6 := by rw [endR_at (by rw [h.two]; decide), endS_lz h14]; simp
      have l2 : lz (((tellP N 1 2 (bits .or .i64 L (G p))).doN 1 1 (bits .or .i64 L (G p))).at 1).num 3 = 0 := by
        rw [at_doN (by rw [tellP_sess, h.two]; decide), setN_other (by decide), tellP_at, h.step]
      have h3 : (0 : Int) = 6 := l2.symm.trans (h2.trans l1)
      revert h3
      decide
/-- A fetch. -/
theorem OnceI.fetch {A : MacM} {w : World} (h : OnceI W0 G k N L p) (hm : MachIs w A N) (hk : k ≤ 10) (hp : p < k) (hG : 0 ≤ G p ∧ G p ≤ 3) (hF : ∀ g, g < 4 → lz (W0.getD g []) 2 = 0) (hu : underV (G p) L = true) :
    ∃ N', stepP N 1 = (N', 0) ∧ OnceI W0 G k N' L (p + 1) := by
  have en := h.needs hp
  rw [hu] at en
  have e1 : (1 : Int).toNat = 1 := rfl
  obtain ⟨i0, i1, i2, i3⟩ := h.ins hp
  have hf : findIs (N.at 1).tn (lz (N.at 1).writes) ((N.at 1).ins 2) ((N.at 1).ins 3) = false := by
    unfold PSess.tn
    rw [h.writes]
    unfold findIs hasW
    show (_ && !noneTo _ _ _ 0) = false
    show (_ && !true) = false
    rw [Bool.not_true, Bool.and_false]
  have hl : N.wz ((N.at 1).ins 2).toNat (((N.at 1).ins 3).toNat * 3 + 2) = 0 := by
    rw [i2, i3]
    unfold PMach.wz PMach.lv
    rw [h.words]
    exact hF (G p).toNat (by omega)
  have hg : (decide (N.wz ((N.at 1).ins 2).toNat (((N.at 1).ins 3).toNat * 3 + 2) = 0) && N.good (N.at 1)) = true := by
    rw [decide_eq_true hl, h.good]; rfl
  obtain ⟨hmay, k', ek, hk0⟩ := hereP_yes h.here
  have hk1 : 1 < N.sess.length := by rw [h.two]; decide
  have hok := here_sess hmay hk1
  have hka : 1 < A.s.n := by have := hm.sess.1; omega
  obtain ⟨q, hI⟩ := ins_at hm hka hok (h.run hp) (by decide)
  have hcode := hI.code (h.run hp) (by decide)
  have hpn : (N.at 1).pn = (A.q 1).p.n := by
    have h1 : (N.at 1).prog.length = (A.q 1).p.n * 4 := (hm.sess.2.2.2 1 hka).2.1.1
    unfold PSess.pn; rw [h1, Nat.mul_div_cancel _ (by decide)]
  have hth : thereV N.lens ((N.at 1).ins 2) ((N.at 1).ins 3) = true := by rw [hI.ins 2, hI.ins 3]; exact hI.there hok hpn (.inl hcode)
  have hver : upToV (N.wz ((N.at 1).ins 2).toNat (((N.at 1).ins 3).toNat * 3 + 1)) 65535 = true := by
    unfold thereV at hth
    rw [decide_eq_true_eq] at hth
    obtain ⟨⟨t0, t1⟩, t2, t3⟩ := hth
    obtain ⟨_, hw⟩ := lvMay_get (lvTo_get (machMay_parts hmay).1 ((N.at 1).ins 2).toNat (by omega))
    exact (wmay_yes (wordsTo_get hw ((N.at 1).ins 3).toNat (by omega))).2.1
  have hwo : withOk (N.at 1).rn (lz (N.at 1).reads) ((N.at 1).ins 2) ((N.at 1).ins 3) (N.wz ((N.at 1).ins 2).toNat (((N.at 1).ins 3).toNat * 3 + 1)) = true := by
    unfold withOk
    rw [hok.reads, readMay_of (by rw [i2]; exact upToV_of hG.1 hG.2) (by rw [i3]; rfl) hver, decide_eq_true (by have := h.few; omega), Bool.or_true]
    rfl
  have he : (fetchP N 1).2 = 0 := by
    unfold fetchP
    rw [en, e1, hf, hg]
    unfold withE
    rw [hwo]
    rfl
  have hst := h.stepped hp hu he
  rcases fetch_cases hm 1 with hd | ⟨k2, ek2, _, _, hd⟩
  · exfalso
    rw [hd] at he
    revert he
    show ¬ ((1500 : Int) = 0)
    decide
  obtain rfl : k2 = 1 := by omega
  rcases hd with ⟨N', hd, hR⟩ | ⟨_, hd⟩
  · refine ⟨N', hst.trans hd, ?_⟩
    have hh2 := fetch_here hm (k := 1) hd
    have frn : (N'.at 1).rn ≤ p + 1 := by
      have := h.few
      rcases hR.reads with e | ⟨e, _⟩ <;> omega
    exact ⟨hh2, by rw [hR.len, h.two], by rw [hR.words, h.words], by rw [hR.prog, h.len], by rw [hR.prog]; exact h.code, by rw [hR.num 1 (by decide) (by decide), h.lab], by rw [hR.num 2 (by decide) (by decide), h.clear], by rw [hR.num 3 (by decide) (by decide), h.step], by rw [hR.pc, h.pc]; rfl, by rw [hR.writes, h.writes], hR.good h.good, frn⟩
  · rw [hg] at hd
    cases hd
end
end Go.Proofs.YtaaenolbfhhnfaaGreat
namespace Go.Proofs.YtaaenolbfhhnfaaGreat
open Go.RowKit
set_option linter.unusedVariables false
def begunS : PScript := ⟨[[5, 6], [7], [], [9]], 9, [⟨[3, 0, 3], [2, 0, 0, 0, 1, 0, 0, 0, 3, 0, 0, 0]⟩, ⟨[5, 1, 1], [2, 0, 0, 1, 3, 0, 1, 0]⟩], []⟩
def begunM : PMach := initM begunS
theorem newP_begun : newP begunS = (begunM, 0) := newP_yes (by decide +kernel)
/-- So many steps of session i. -/
def stepM (M : PMach) (i : Int) : Nat → PMach
  | 0 => M
  | n + 1 => (stepP (stepM M i n) i).1
theorem slIs_blk {W : World} {b k n : Nat} {L : List Int} (h : Blk W b (L.map (Value.int .i64))) (hl : L.length = n * k) (hf : n * (8 * k) ≤ 140737488351232) : SlIs W k ⟨some ⟨b, 0, none⟩, n, n⟩ L :=
  ⟨hl, ⟨hf, Nat.le_refl _, fun h => by cases h⟩, fun i hi => ⟨b, 0, rfl, h.lt, by
    rw [Nat.zero_add]
    have hi' : i < L.length := by rw [hl]; exact hi
    refine h.cell i _ ?_
    simp [lz, List.getD, hi']⟩⟩
/-- Two Starts, in a block. -/
theorem staIs_two {W : World} {b : Nat} {p0 p1 : Sl} {x y : PStart} (h : Blk W b (startOf p0 x ++ startOf p1 y)) (hx : x.num.length = 3) (hy : y.num.length = 3) (h0 : SlIs W 4 p0 x.prog) (h1 : SlIs W 4 p1 y.prog) :
    StaIs W ⟨some ⟨b, 0, none⟩, 2, 2⟩ (fun i => if i = 0 then p0 else p1) [x, y] :=
  ⟨rfl, ⟨by show 2 * 48 ≤ _; decide, Nat.le_refl _, fun h => by cases h⟩, fun j hj => ⟨b, 0, rfl, h.lt, by
    rw [Nat.zero_add]
    refine h.cell j _ ?_
    have hj : j < 8 := hj
    match j, hj with
    | 0, _ => rfl
    | 1, _ => rfl
    | 2, _ => rfl
    | 3, _ => rfl
    | 4, _ => rfl
    | 5, _ => rfl
    | 6, _ => rfl
    | 7, _ => rfl⟩, fun i hi => by
    have hi : i < 2 := hi
    match i, hi with
    | 0, _ => exact ⟨hx, h0⟩
    | 1, _ => exact ⟨hy, h1⟩⟩
end Go.Proofs.YtaaenolbfhhnfaaGreat
namespace Go.Proofs.YtaaenolbfhhnfaaGreat
open Go.RowKit
set_option linter.unusedSimpArgs false
set_option linter.unusedVariables false
set_option maxRecDepth 100000 in
set_option maxHeartbeats 4000000 in
theorem begun14_any (w : World) :
    Calls Tryz.prog 72 #[] w fun e w' => ∃ A', e = .returned (machA A' begunM) ∧ MachOwn (fun k => w.heap.size ≤ k ∧ k < w'.heap.size) w' A' begunM ∧ Below w.heap.size w w' := by
  have HS0 := ((((((((St.refl w).alloc [.slice none 0 0, .slice none 0 0, .slice none 0 0, .slice none 0 0, .int .i64 0, .int .i64 0, .int .i64 0, .int .i64 0, .int .i64 0, .slice none 0 0, .slice none 0 0] 34).alloc [.int .i64 5, .int .i64 6] 3).alloc [.int .i64 7] 3).alloc [.int .i64 9] 3).alloc [.int .i64 2, .int .i64 0, .int .i64 0, .int .i64 0, .int .i64 1, .int .i64 0, .int .i64 0, .int .i64 0, .int .i64 3, .int .i64 0, .int .i64 0, .int .i64 0] 62).alloc [.int .i64 2, .int .i64 0, .int .i64 0, .int .i64 1, .int .i64 3, .int .i64 0, .int .i64 1, .int .i64 0] 62).alloc [.int .i64 3, .int .i64 0, .int .i64 3, .slice (some ⟨w.heap.size + 1 + 1 + 1 + 1, 0, none⟩) 3 3, .int .i64 5, .int .i64 1, .int .i64 1, .slice (some ⟨w.heap.size + 1 + 1 + 1 + 1 + 1, 0, none⟩) 2 2] 64)
  simp only [World.size_alloc] at HS0
  have hIs := (show ScrIs _ ⟨fourSl ⟨some ⟨w.heap.size + 1, 0, none⟩, 2, 2⟩ ⟨some ⟨w.heap.size + 1 + 1, 0, none⟩, 1, 1⟩ noSl ⟨some ⟨w.heap.size + 1 + 1 + 1, 0, none⟩, 1, 1⟩, ⟨some ⟨w.heap.size + 1 + 1 + 1 + 1 + 1 + 1, 0, none⟩, 2, 2⟩, (fun i => if i = 0 then ⟨some ⟨w.heap.size + 1 + 1 + 1 + 1, 0, none⟩, 3, 3⟩ else ⟨some ⟨w.heap.size + 1 + 1 + 1 + 1 + 1, 0, none⟩, 2, 2⟩), noSl⟩ begunS from
    ⟨rfl, fun g hg => (match g, hg with
      | 0, _ => slIs_blk (HS0.blk 5 rfl) rfl (by decide)
      | 1, _ => slIs_blk (HS0.blk 4 rfl) rfl (by decide)
      | 2, _ => slIs_none _ 1
      | 3, _ => slIs_blk (HS0.blk 3 rfl) rfl (by decide)), staIs_two (HS0.blk 0 rfl) rfl rfl (slIs_blk (HS0.blk 2 rfl) rfl (by decide)) (slIs_blk (HS0.blk 1 rfl) rfl (by decide)), slIs_none _ 2⟩)
  have hN := rnewMach_any _ begunS _ hIs (by show 2 * 184 ≤ _; decide)
  rw [newP_begun] at hN
  have HS := hide HS0
  replace hN := hide hN
  clear hIs HS0
  go_enter Tryz.func72, Tryz.ntmps72
  go_wp2_with fail
  refine hN.out.mono ?_
  (rintro e Wq ⟨A1, rfl, hO, hb⟩; have HSq := hide (HS.out.push hb (machI (fun k => _) A1 _) (machI_loc _ _ _) hO fun k hk => hk); generalize (fun k => _) = D1 at HSq; clear HS hb hO; replace HS := HSq; clear HSq)
  clear hN
  go_wp2_with (first | ((with_reducible refine isList ?_); first | (refine st_alloc HS _ rfl rfl zeroML zeroM ?_; clear HS; intro W bq HS) | (refine st_storeA HS 0 rfl _ _ _ rfl rfl rfl _ rfl rfl (by kernel_rfl) rfl ?_; clear HS; intro W HS) | (refine st_loadA HS 0 rfl _ _ rfl rfl rfl (by decide +kernel) (by kernel_rfl) ?_) | (refine st_storeA HS 8 rfl _ _ _ rfl rfl rfl _ rfl rfl (by kernel_rfl) rfl ?_; clear HS; intro W HS)))
  refine bodyPost_ret (ret_mach Tryz.results72 (HS.out.blk 8 rfl) rfl rfl) rfl ⟨A1, rfl, ?_, HS.out.below⟩
  exact (show MachOwn D1 _ A1 begunM from HS.out.get 1 rfl).mono (HS.out.here 1 _ rfl).2.2
set_option maxRecDepth 100000 in
set_option maxHeartbeats 4000000 in
theorem stepped14_any (i : Int) (n : Nat) (hn : n ≤ 1000) (w : World) :
    Calls Tryz.prog 73 #[.int .i64 i, .int .i64 n] w fun e w' => ∃ A', e = .returned (machA A' (stepM begunM i n)) ∧ MachOwn (fun k => w.heap.size ≤ k ∧ k < w'.heap.size) w' A' (stepM begunM i n) ∧ Below w.heap.size w w' := by
  have HS := hide (St.refl w)
  have hB := hide fun (W : World) => begun14_any W
  have hP := hide fun (A : MacM) (M : PMach) (W : World) (h : MachIs W A M) => rstep_any A M i W h
  go_enter Tryz.func73, Tryz.ntmps73
  go_wp2_with (first | ((with_reducible refine isList ?_); first | (refine st_alloc HS _ rfl rfl zeroML zeroM ?_; clear HS; intro W b0 HS)))
  refine (hB.out _).mono ?_
  (rintro e Wq ⟨A1, rfl, hO, hb⟩; have HSq := hide (HS.out.push hb (machI (fun k => _) A1 _) (machI_loc _ _ _) hO fun k hk => hk); generalize (fun k => _) = D1 at HSq; clear HS hb hO; replace HS := HSq; clear HSq)
  clear hB
  go_wp2_with (first | ((with_reducible refine isList ?_); first | (refine st_alloc HS _ rfl rfl zeroML zeroM ?_; clear HS; intro W b5 HS) | (refine st_storeA HS 0 rfl _ _ _ rfl rfl rfl _ rfl rfl (by kernel_rfl) rfl ?_; clear HS; intro W HS)))
  replace HS : Hid (St w W [blkI b5 (machL A1 begunM), machI D1 A1 begunM, blkI b0 zeroML]) := HS
  go_loopw [6] (fun j wr => ∃ (k : Nat) (D : Nat → Prop) (B : MacM), k ≤ n ∧ j = .int .i64 k ∧ Hid (St w wr [blkI b5 (machL B (stepM begunM i k)), machI D B (stepM begunM i k), blkI b0 zeroML])) (fun j _ => n - (intOf j).toNat)
  case atStart => exact ⟨0, D1, A1, Nat.zero_le _, rfl, HS⟩
  case round =>
    clear HS
    obtain ⟨k, D, B, hk, rfl, HS⟩ := hrel
    by_cases hlt : k < n
    · have i1 : (k : Int) < (n : Int) := by omega
      go_wp2_with (first | ((with_reducible refine isList ?_); first | (refine st_loadA HS 0 rfl _ _ rfl rfl rfl (by decide +kernel) (by kernel_rfl) ?_)))
      refine (hP.out B _ _ (MachOwn.is (show MachOwn D _ B (stepM begunM i k) from HS.out.get 1 rfl))).mono ?_
      (rintro e Wq ⟨B2, rfl, hO, hb⟩; have HSq := hide (HS.out.push hb (machI (fun k => _) B2 _) (machI_loc _ _ _) hO fun k hk => hk); generalize (fun k => _) = D2 at HSq; clear HS hb hO; replace HS := HSq; clear HSq)
      go_wp2_with (first | ((with_reducible refine isList ?_); first | (refine st_storeA HS 1 rfl _ _ _ rfl rfl rfl _ rfl rfl (by kernel_rfl) rfl ?_; clear HS; intro W HS)))
      replace HS : Hid (St w W [machI D2 B2 (stepM begunM i (k + 1)), blkI b5 (machL B2 (stepM begunM i (k + 1))), machI D B (stepM begunM i k), blkI b0 zeroML]) := HS
      replace HS : Hid (St w W [blkI b5 (machL B2 (stepM begunM i (k + 1))), machI D2 B2 (stepM begunM i (k + 1)), blkI b0 zeroML]) := hide (HS.out.sel [1, 0, 3] (by decide) rfl)
      go_roundw
      case rel =>
        first
          | exact ⟨k + 1, D2, B2, by omega, by go_num, HS⟩
          | (repeat apply Exists.intro
             exact ⟨⟨k + 1, D2, B2, by omega, by go_num, HS⟩, rfl⟩)
      case measure => simp [intOf]; omega
    · obtain rfl : k = n := by omega
      go_wp2_with (first | ((with_reducible refine isList ?_); first | (refine st_loadA HS 0 rfl _ _ rfl rfl rfl (by decide +kernel) (by kernel_rfl) ?_) | (refine st_storeA HS 2 rfl _ _ _ rfl rfl rfl _ rfl rfl (by kernel_rfl) rfl ?_; clear HS; intro W HS)))
      refine bodyPost_ret (ret_mach Tryz.results73 (HS.out.blk 2 rfl) rfl rfl) rfl ⟨B, rfl, ?_, HS.out.below⟩
      exact (show MachOwn D _ B (stepM begunM i k) from HS.out.get 1 rfl).mono (HS.out.here 1 _ rfl).2.2
end Go.Proofs.YtaaenolbfhhnfaaGreat
namespace Go.Proofs.YtaaenolbfhhnfaaGreat
open Go.RowKit
set_option linter.unusedSimpArgs false
set_option linter.unusedVariables false
/-- Session 5 reads level 3, with this clearance. -/
def highM (c : Int) : PMach := (begunM.setS 1 ((begunM.at 1).setL 0 [2, 0, 3, 0])).doN 1 2 c
set_option maxRecDepth 100000 in
set_option maxHeartbeats 4000000 in
theorem high14_any (c : Int) (w : World) :
    Calls Tryz.prog 29 #[.int .i64 c] w fun e w' => ∃ A', e = .returned (machA A' (highM c)) ∧ MachOwn (fun k => w.heap.size ≤ k ∧ k < w'.heap.size) w' A' (highM c) ∧ Below w.heap.size w w' := by
  have HS := hide (St.refl w)
  have hB := hide fun (W : World) => begun14_any W
  have sN : Hid (begunM.sess.length = 2) := by show _ = 2; decide +kernel
  have eH : Hid (highM c = (begunM.setS 1 ((begunM.at 1).setL 0 [2, 0, 3, 0])).doN 1 2 c) := rfl
  generalize begunM = N at hB sN eH
  generalize highM c = H at eH ⊢
  go_enter Tryz.func29, Tryz.ntmps29
  go_wp2_with (first | ((with_reducible refine isList ?_); first | (refine st_alloc HS _ rfl rfl zeroML zeroM ?_; clear HS; intro W b2 HS)))
  refine (hB.out _).mono ?_
  (rintro e Wq ⟨A1, rfl, hO, hb⟩; have HSq := hide (HS.out.push hb (machI (fun k => _) A1 _) (machI_loc _ _ _) hO fun k hk => hk); generalize (fun k => _) = D1 at HSq; clear HS hb hO; replace HS := HSq; clear HSq)
  clear hB
  have hk1 : 1 < A1.s.n := by
    have := (MachOwn.is (show MachOwn D1 _ A1 N from HS.out.get 0 rfl)).sess.1
    have := sN.out; omega
  have i1 : (1 : Int) < (A1.s.n : Int) := by omega
  obtain ⟨bs1, hbs1, _⟩ := MachOwn.sblk (show MachOwn D1 _ A1 N from HS.out.get 0 rfl) hk1
  go_upto_region 2 with (first | ((with_reducible refine isList ?_); first | (refine st_alloc HS _ rfl rfl zeroML zeroM ?_; clear HS; intro W b3 HS) | (refine st_storeA HS 0 rfl _ _ _ rfl rfl rfl _ rfl rfl (by kernel_rfl) rfl ?_; clear HS; intro W HS)))
  replace HS : Hid (St w W [blkI b3 (machL A1 N), machI D1 A1 N, blkI b2 zeroML]) := HS
  go_upto_region 3 with (first | ((with_reducible refine isList ?_); first | (refine st_load1 HS 0 rfl _ _ rfl _ rfl rfl (by decide +kernel) rfl ?_) | (refine st_lit_1_4 HS _ 62 _ rfl rfl Tryz.underlying55 Tryz.infoI rfl ?_; clear HS; intro W bl HS) | (refine st_storeL HS 2 0 rfl 0 (by decide) rfl (by decide) hk1 hbs1 _ _ _ rfl _ rfl rfl rfl rfl (by decide +kernel) ?_; clear HS; intro W HS)))
  replace HS : Hid (St w W [blkI b3 (machL (A1.setQ 1 ((A1.q 1).setL 0 ⟨some ⟨bl, 0, none⟩, 1, 1⟩)) (N.setS 1 ((N.at 1).setL 0 [2, 0, 3, 0]))), machI (fun k => D1 k ∨ k = bl) (A1.setQ 1 ((A1.q 1).setL 0 ⟨some ⟨bl, 0, none⟩, 1, 1⟩)) (N.setS 1 ((N.at 1).setL 0 [2, 0, 3, 0])), blkI b2 zeroML]) := hide (HS.out.sel [1, 2, 3] (by decide) rfl)
  generalize N.setS 1 ((N.at 1).setL 0 [2, 0, 3, 0]) = N1 at HS eH
  generalize (fun k => D1 k ∨ k = bl) = D2 at HS
  have e1 : (A1.setQ 1 ((A1.q 1).setL 0 ⟨some ⟨bl, 0, none⟩, 1, 1⟩)).s = A1.s := rfl
  rw [← e1] at hk1 hbs1 i1
  clear e1
  generalize A1.setQ 1 ((A1.q 1).setL 0 ⟨some ⟨bl, 0, none⟩, 1, 1⟩) = A2 at HS hk1 hbs1 i1
  go_upto_region 4 with (first | ((with_reducible refine isList ?_); first | (refine st_load1 HS 0 rfl _ _ rfl _ rfl rfl (by decide +kernel) rfl ?_) | (refine st_storeN HS 1 rfl hk1 hbs1 2 (by decide) _ _ _ rfl _ rfl rfl rfl rfl (by decide +kernel) ?_; clear HS; intro W HS)))
  replace HS : Hid (St w W [blkI b3 (machL A2 (N1.doN 1 2 c)), machI D2 A2 (N1.doN 1 2 c), blkI b2 zeroML]) := HS
  rw [← eH.out] at HS
  go_wp2_with (first | ((with_reducible refine isList ?_); first | (refine st_loadA HS 0 rfl _ _ rfl rfl rfl (by decide +kernel) (by kernel_rfl) ?_) | (refine st_storeA HS 2 rfl _ _ _ rfl rfl rfl _ rfl rfl (by kernel_rfl) rfl ?_; clear HS; intro W HS)))
  refine bodyPost_ret (ret_mach Tryz.results29 (HS.out.blk 2 rfl) rfl rfl) rfl ⟨A2, rfl, ?_, HS.out.below⟩
  exact (show MachOwn D2 _ A2 H from HS.out.get 1 rfl).mono (HS.out.here 1 _ rfl).2.2
set_option maxRecDepth 100000 in
set_option maxHeartbeats 4000000 in
theorem awake14_any (w : World) :
    Calls Tryz.prog 28 #[] w fun e w' => e = .returned (.bool true) ∧ Below w.heap.size w w' := by
  have HS := hide (St.refl w)
  have hB := hide fun (W : World) => begun14_any W
  have hH := hide fun (c : Int) (W : World) => high14_any c W
  have hP := hide fun (W : World) => stepped14_any 0 1 (by decide) W
  have g1 := fun (A : MacM) (W : World) (h : MachIs W A (highM 3)) => driftNeeds_any A (highM 3) 1 W h
  have g2 := fun (A : MacM) (W : World) (h : MachIs W A begunM) => driftNeeds_any A begunM 1 W h
  have g3 := fun (A : MacM) (W : World) (h : MachIs W A (highM 3)) => driftStep_any A (highM 3) 1 W h
  have g4 := fun (A : MacM) (W : World) (h : MachIs W A (highM 1)) => driftStep_any A (highM 1) 1 W h
  have g5 := fun (A : MacM) (W : World) (h : MachIs W A begunM) => driftStep_any A begunM 1 W h
  have g6 := fun (A : MacM) (W : World) (h : MachIs W A (stepM begunM 0 1)) => driftNeeds_any A (stepM begunM 0 1) 0 W h
  rw [show needsP (highM 3) 1 = (true, 0) by decide +kernel] at g1
  rw [show needsP begunM 1 = (false, 0) by decide +kernel] at g2
  rw [show needsP (stepM begunM 0 1) 0 = (false, 1400) by decide +kernel] at g6
  obtain ⟨X, hX, sX, x1, tX⟩ : ∃ X, driftP (highM 3) 1 = (X, 0) ∧ X.sess.length = 2 ∧ lz (X.at 1).num 1 = 3 ∧ X.trace = [5, 1, 2, 3] := ⟨(driftP (highM 3) 1).1, by rw [show (0 : Int) = (driftP (highM 3) 1).2 by decide +kernel], by decide +kernel, by decide +kernel, by decide +kernel⟩
  obtain ⟨Y, hY, sY, y12⟩ : ∃ Y, driftP (highM 1) 1 = (Y, 0) ∧ Y.sess.length = 2 ∧ lz (Y.at 1).num 12 = 4 := ⟨(driftP (highM 1) 1).1, by rw [show (0 : Int) = (driftP (highM 1) 1).2 by decide +kernel], by decide +kernel, by decide +kernel⟩
  obtain ⟨Z, hZ⟩ : ∃ Z, driftP begunM 1 = (Z, 1400) := ⟨(driftP begunM 1).1, by rw [show (1400 : Int) = (driftP begunM 1).2 by decide +kernel]⟩
  rw [hX] at g3
  rw [hY] at g4
  rw [hZ] at g5
  clear hX hY hZ
  replace g1 := hide g1; replace g2 := hide g2; replace g3 := hide g3; replace g4 := hide g4; replace g5 := hide g5; replace g6 := hide g6
  replace sX := hide sX; replace x1 := hide x1; replace tX := hide tX; replace sY := hide sY; replace y12 := hide y12
  go_enter Tryz.func28, Tryz.ntmps28
  go_wp2_with fail
  refine (hH.out 3 _).mono ?_
  (rintro e Wq ⟨A1, rfl, hO, hb⟩; have HSq := hide (HS.out.push hb (machI (fun k => _) A1 _) (machI_loc _ _ _) hO fun k hk => hk); generalize (fun k => _) = D1 at HSq; clear HS hb hO; replace HS := HSq; clear HSq)
  go_wp2_with fail
  refine (g1.out A1 _ (MachOwn.is (show MachOwn D1 _ A1 (highM 3) from HS.out.get 0 rfl))).mono ?_
  (rintro e Wq ⟨rfl, hb⟩; have HSq := hide (HS.out.on hb); clear HS hb; replace HS := HSq; clear HSq)
  go_wp2_with fail
  refine (hB.out _).mono ?_
  (rintro e Wq ⟨A2, rfl, hO, hb⟩; have HSq := hide (HS.out.push hb (machI (fun k => _) A2 _) (machI_loc _ _ _) hO fun k hk => hk); generalize (fun k => _) = D2 at HSq; clear HS hb hO; replace HS := HSq; clear HSq)
  go_wp2_with fail
  refine (g2.out A2 _ (MachOwn.is (show MachOwn D2 _ A2 begunM from HS.out.get 0 rfl))).mono ?_
  (rintro e Wq ⟨rfl, hb⟩; have HSq := hide (HS.out.on hb); clear HS hb; replace HS := HSq; clear HSq)
  go_wp2_with fail
  refine (hH.out 3 _).mono ?_
  (rintro e Wq ⟨A3, rfl, hO, hb⟩; have HSq := hide (HS.out.push hb (machI (fun k => _) A3 _) (machI_loc _ _ _) hO fun k hk => hk); generalize (fun k => _) = D3 at HSq; clear HS hb hO; replace HS := HSq; clear HSq)
  go_wp2_with fail
  refine (g3.out A3 _ (MachOwn.is (show MachOwn D3 _ A3 (highM 3) from HS.out.get 0 rfl))).mono ?_
  (rintro e Wq ⟨AX, rfl, hO, hb⟩; have HSq := hide (HS.out.push hb (machI (fun k => _) AX _) (machI_loc _ _ _) hO fun k hk => hk); generalize (fun k => _) = DX at HSq; clear HS hb hO; replace HS := HSq; clear HSq)
  go_wp2_with (first | ((with_reducible refine isList ?_); first | (refine st_alloc HS _ rfl rfl zeroML zeroM ?_; clear HS; intro W b5 HS) | (refine st_storeA HS 0 rfl _ _ _ rfl rfl rfl _ rfl rfl (by kernel_rfl) rfl ?_; clear HS; intro W HS)))
  refine (hH.out 1 _).mono ?_
  (rintro e Wq ⟨A4, rfl, hO, hb⟩; have HSq := hide (HS.out.push hb (machI (fun k => _) A4 _) (machI_loc _ _ _) hO fun k hk => hk); generalize (fun k => _) = D4 at HSq; clear HS hb hO; replace HS := HSq; clear HSq)
  go_wp2_with fail
  refine (g4.out A4 _ (MachOwn.is (show MachOwn D4 _ A4 (highM 1) from HS.out.get 0 rfl))).mono ?_
  (rintro e Wq ⟨AY, rfl, hO, hb⟩; have HSq := hide (HS.out.push hb (machI (fun k => _) AY _) (machI_loc _ _ _) hO fun k hk => hk); generalize (fun k => _) = DY at HSq; clear HS hb hO; replace HS := HSq; clear HSq)
  go_wp2_with (first | ((with_reducible refine isList ?_); first | (refine st_alloc HS _ rfl rfl zeroML zeroM ?_; clear HS; intro W b7 HS) | (refine st_storeA HS 0 rfl _ _ _ rfl rfl rfl _ rfl rfl (by kernel_rfl) rfl ?_; clear HS; intro W HS)))
  refine (hB.out _).mono ?_
  (rintro e Wq ⟨A5, rfl, hO, hb⟩; have HSq := hide (HS.out.push hb (machI (fun k => _) A5 _) (machI_loc _ _ _) hO fun k hk => hk); generalize (fun k => _) = D5 at HSq; clear HS hb hO; replace HS := HSq; clear HSq)
  go_wp2_with fail
  refine (g5.out A5 _ (MachOwn.is (show MachOwn D5 _ A5 begunM from HS.out.get 0 rfl))).mono ?_
  (rintro e Wq ⟨AZ, rfl, hO, hb⟩; have HSq := hide (HS.out.push hb (machI (fun k => _) AZ _) (machI_loc _ _ _) hO fun k hk => hk); generalize (fun k => _) = DZ at HSq; clear HS hb hO; replace HS := HSq; clear HSq)
  go_wp2_with (first | ((with_reducible refine isList ?_); first | (refine st_alloc HS _ rfl rfl zeroML zeroM ?_; clear HS; intro W b9 HS) | (refine st_storeA HS 0 rfl _ _ _ rfl rfl rfl _ rfl rfl (by kernel_rfl) rfl ?_; clear HS; intro W HS)))
  refine (hP.out _).mono ?_
  (rintro e Wq ⟨A6, rfl, hO, hb⟩; have HSq := hide (HS.out.push hb (machI (fun k => _) A6 _) (machI_loc _ _ _) hO fun k hk => hk); generalize (fun k => _) = D6 at HSq; clear HS hb hO; replace HS := HSq; clear HSq)
  go_wp2_with fail
  refine (g6.out A6 _ (MachOwn.is (show MachOwn D6 _ A6 (stepM begunM 0 1) from HS.out.get 0 rfl))).mono ?_
  (rintro e Wq ⟨rfl, hb⟩; have HSq := hide (HS.out.on hb); clear HS hb; replace HS := HSq; clear HSq)
  replace HS : Hid (St w Wq [blkI b7 (machL AY Y), machI DY AY Y, blkI b5 (machL AX X), machI DX AX X]) := hide (HS.out.sel [4, 5, 7, 8] (by decide) rfl)
  obtain ⟨n2, g⟩ := MachOwn.sfact (show MachOwn DX _ AX X from HS.out.get 3 rfl) sX.out
  obtain ⟨s2, e2, _⟩ := g (by decide)
  clear g
  obtain ⟨n4, g⟩ := MachOwn.sfact (show MachOwn DY _ AY Y from HS.out.get 1 rfl) sY.out
  obtain ⟨s4, e4, _⟩ := g (by decide)
  clear g
  obtain ⟨c9, r9⟩ := MachOwn.scell (show MachOwn DX _ AX X from HS.out.get 3 rfl) (HS.out.blk 2 rfl) sX.out e2
  obtain ⟨d9, q9⟩ := MachOwn.scell (show MachOwn DY _ AY Y from HS.out.get 1 rfl) (HS.out.blk 0 rfl) sY.out e4
  have c1 : Wq.cell? ⟨s2, 18, none⟩ = some (.int .i64 3) := by rw [← x1.out]; exact r9 1 (by decide) 1 _ rfl
  have hT := (MachOwn.is (show MachOwn DX _ AX X from HS.out.get 3 rfl)).trace
  have nT : AX.e.n = 1 := by have := hT.1; rw [tX.out] at this; simp at this; omega
  have c10 : Wq.cell? ⟨b5, 10, none⟩ = some (.slice AX.e.a 1 AX.e.c) := by rw [← nT]; exact (HS.out.blk 2 rfl).cell 10 _ rfl
  clear r9 q9 hT
  replace nT := hide nT; replace e2 := hide e2; replace e4 := hide e4; replace n2 := hide n2; replace n4 := hide n4
  go_wp2_with (go_at_call 21; refine (num_any _ _).mono ?_; rintro e w' ⟨rfl, rfl⟩)
  clear c9 d9 c1 c10
  replace HS := hide (HS.out.alloc [.int .i64 5, .int .i64 1, .int .i64 2, .int .i64 3] 70)
  have hT := (MachOwn.is (show MachOwn DX _ AX X from HS.out.get 4 rfl)).trace
  have hE := sameEvents_any AX.e.a (some ⟨Wq.heap.size, 0, none⟩) AX.e.n AX.e.c 1 1 (lz X.trace) (lz [5, 1, 2, 3]) _ (by rw [nT.out]; decide) hT.2.2 (slIs_blk (L := [5, 1, 2, 3]) (n := 1) (k := 4) (HS.out.blk 0 rfl) rfl (by decide)).2.2
  rw [nT.out, tX.out] at hE
  rw [show (decide (1 = 1) && eqTo (lz [5, 1, 2, 3]) (lz [5, 1, 2, 3]) (1 * 4)) = true by decide +kernel] at hE
  replace hE := hide hE
  clear hT
  refine hE.out.mono ?_
  rintro e Wq ⟨rfl, q, rfl⟩
  replace HS := hide (HS.out.drawn q)
  clear hE
  generalize World.drewN _ _ = Wd at *
  obtain ⟨d9, q9⟩ := MachOwn.scell (show MachOwn DY _ AY Y from HS.out.get 2 rfl) (HS.out.blk 1 rfl) sY.out e4.out
  have c1 : Wd.cell? ⟨s4, 17 + 15, none⟩ = some (.int .i64 4) := by rw [← y12.out]; exact q9 1 (by decide) 15 _ rfl
  clear q9
  go_wp2_with (go_at_call 21; refine (num_any _ _).mono ?_; rintro e w' ⟨rfl, rfl⟩)
  go_ret
  exact ⟨rfl, HS.out.below⟩
end Go.Proofs.YtaaenolbfhhnfaaGreat
namespace Go.Proofs.YtaaenolbfhhnfaaGreat
open Go.RowKit
set_option linter.unusedSimpArgs false
set_option linter.unusedVariables false
def onceM : PMach := ((highM 3).setLv 2 [1, 0, 0]).doN 1 1 0
/-- So many reads, of these levels. -/
def readsL (G : Nat → Int) : Nat → List Int
  | 0 => []
  | k + 1 => readsL G k ++ [2, 0, G k, 0]
theorem readsL_len (G : Nat → Int) : ∀ k, (readsL G k).length = k * 4
  | 0 => rfl
  | k + 1 => by
    rw [readsL, List.length_append, readsL_len G k]
    show k * 4 + 4 = _
    omega
theorem readsL_at (G : Nat → Int) : ∀ {k j : Nat}, j < k → lz (readsL G k) (j * 4) = 2 ∧ lz (readsL G k) (j * 4 + 1) = 0 ∧ lz (readsL G k) (j * 4 + 2) = G j ∧ lz (readsL G k) (j * 4 + 3) = 0
  | k + 1, j, h => by
    have hl := readsL_len G k
    rw [readsL]
    by_cases e : j < k
    · rw [lz_left (by omega), lz_left (by omega), lz_left (by omega), lz_left (by omega)]
      exact readsL_at G e
    · obtain rfl : j = k := by omega
      rw [lz_right (by omega), lz_right (by omega), lz_right (by omega), lz_right (by omega), hl, show j * 4 - j * 4 = 0 by omega, show j * 4 + 1 - j * 4 = 1 by omega, show j * 4 + 2 - j * 4 = 2 by omega, show j * 4 + 3 - j * 4 = 3 by omega]
      exact ⟨rfl, rfl, rfl, rfl⟩
theorem sess_prog {s : Nat → Sl} {x : PSess} (h : SessOk s x) (h4 : lz x.num 4 = 0) {R : List Int} (hp : progMay (R.length / 4) (lz R) = true) (ht : allTo (instThere s (lz R)) (R.length / 4) = true) : sessMayP s (x.setL 0 R) = true := by
  have hpn : (x.setL 0 R).pn = R.length / 4 := rfl
  have hrn : (x.setL 0 R).rn = x.rn := rfl
  have htn : (x.setL 0 R).tn = x.tn := rfl
  have hpg : (x.setL 0 R).prog = R := rfl
  have hrd : (x.setL 0 R).reads = x.reads := rfl
  have hwr : (x.setL 0 R).writes = x.writes := rfl
  have hnm : (x.setL 0 R).num = x.num := rfl
  have hst : startMay (lz x.num 0) (lz x.num 1) (lz x.num 2) (R.length / 4) (lz R) = true := by
    have := h.start
    unfold startMay at this ⊢
    simp only [Bool.and_eq_true] at this ⊢
    exact ⟨this.1, this.2.1, hp⟩
  unfold sessMayP sessMay wordsThere
  rw [hpn, hrn, htn, hpg, hrd, hwr, hnm, hst, ht, h.writesT, h.readsT, upToV_of h.step.1 h.step.2, h4, upToV_of (Int.le_refl _) (Int.natCast_nonneg _), h.regs, h.reads, h.writes, upToV_of h.at_.1 h.at_.2, upToV_of h.stamp.1 h.stamp.2, upToV_of h.tries.1 h.tries.2, upToV_of h.result.1 h.result.2, upToV_of h.told.1 h.told.2]
  rfl
theorem once_free : ∀ g, g < 4 → lz (onceM.words.getD g []) 2 = 0 := fun g hg => by
  have : g = 0 ∨ g = 1 ∨ g = 2 ∨ g = 3 := by omega
  rcases this with rfl | rfl | rfl | rfl <;> decide +kernel
theorem once_begin {G : Nat → Int} {k : Nat} (hG : ∀ j, 0 ≤ G j ∧ G j ≤ 3) (hk : k ≤ 10) : OnceI onceM.words G k (onceM.setS 1 ((onceM.at 1).setL 0 (readsL G k))) 0 0 := by
  have hm : machMay onceM = true := by decide +kernel
  have h2 : onceM.sess.length = 2 := by decide +kernel
  have h1 : 1 < onceM.sess.length := by rw [h2]; decide
  have hok := here_sess hm h1
  have hl : (readsL G k).length / 4 = k := by rw [readsL_len, Nat.mul_div_cancel _ (by decide)]
  have hw : ∀ g, g < 4 → 0 < (onceM.lens g).n := fun g hg => by
    have : g = 0 ∨ g = 1 ∨ g = 2 ∨ g = 3 := by omega
    rcases this with rfl | rfl | rfl | rfl <;> decide +kernel
  have eat : (onceM.setS 1 ((onceM.at 1).setL 0 (readsL G k))).at 1 = (onceM.at 1).setL 0 (readsL G k) := PMach.at_setS h1
  have hp : progMay ((readsL G k).length / 4) (lz (readsL G k)) = true := by
    rw [hl]
    refine progMay_mk (progTo_mk fun j hj => ?_) (by omega)
    obtain ⟨e0, e1, e2, e3⟩ := readsL_at G hj
    have i0 : instAt (lz (readsL G k)) j 0 = 2 := e0
    have i1 : instAt (lz (readsL G k)) j 1 = 0 := e1
    have i2 : instAt (lz (readsL G k)) j 2 = G j := e2
    have i3 : instAt (lz (readsL G k)) j 3 = 0 := e3
    rw [instMay_23 (.inl i0), i1, i2, i3, upToV_of (hG j).1 (hG j).2]
    unfold badJump
    rw [e0]
    exact ⟨rfl, rfl⟩
  have ht : allTo (instThere onceM.lens (lz (readsL G k))) ((readsL G k).length / 4) = true := by
    rw [hl]
    refine allTo_mk fun j hj => ?_
    obtain ⟨e0, e1, e2, e3⟩ := readsL_at G hj
    have := hG j
    have := hw (G j).toNat (by omega)
    unfold instThere thereV
    rw [e2, e3, decide_eq_true ⟨⟨(hG j).1, by omega⟩, Int.le_refl _, by omega⟩, Bool.or_true]
  have hmN : machMay (onceM.setS 1 ((onceM.at 1).setL 0 (readsL G k))) = true :=
    machMay_turn hm h1 (fun g hg => rfl) (machMay_parts hm).1 rfl rfl rfl (PMach.len_setS _ _ _) (fun j hj => PMach.at_ne hj) (by rw [eat]; rfl) (by rw [eat]; exact sess_prog hok (by decide +kernel) hp ht)
  refine ⟨?_, by rw [PMach.len_setS, h2], rfl, by rw [eat]; exact readsL_len G k, by rw [eat]; exact fun j hj => readsL_at G hj, by rw [eat]; show lz (onceM.at 1).num 1 = 0; decide +kernel, by rw [eat]; show lz (onceM.at 1).num 2 = 3; decide +kernel, by rw [eat]; show lz (onceM.at 1).num 3 = 0; decide +kernel, by rw [eat]; show lz (onceM.at 1).num 4 = 0; decide +kernel, by rw [eat]; show (onceM.at 1).writes = []; decide +kernel, ?_, ?_⟩
  · unfold hereP
    rw [hmN, PMach.len_setS, h2]
    rfl
  · have : onceM.good (onceM.at 1) = true := by decide +kernel
    rw [eat]
    exact this
  · rw [eat]
    show (onceM.at 1).rn ≤ 0
    decide +kernel
end Go.Proofs.YtaaenolbfhhnfaaGreat
namespace Go.Proofs.YtaaenolbfhhnfaaGreat
open Go.RowKit
set_option linter.unusedSimpArgs false
set_option linter.unusedVariables false
/-- The machine stands at read p, drifted d times; it has drifted for this read, or not yet. -/
def OnceAt (W0 : List (List Int)) (G : Nat → Int) (k : Nat) (N : PMach) (p d : Nat) : Prop :=
  ∃ L, OnceI W0 G k N L p ∧ ((L = joinP G p ∧ d = upsP G p) ∨ (p < k ∧ L = joinP G (p + 1) ∧ d = upsP G (p + 1) ∧ underV (G p) L = true))
section
variable {W0 : List (List Int)} {G : Nat → Int} {k : Nat} {N : PMach} {p d : Nat}
theorem OnceAt.two (h : OnceAt W0 G k N p d) : N.sess.length = 2 := by obtain ⟨L, h, _⟩ := h; exact h.two
theorem OnceAt.pc (h : OnceAt W0 G k N p d) : lz (N.at 1).num 4 = p := by obtain ⟨L, h, _⟩ := h; exact h.pc
theorem OnceAt.few (h : OnceAt W0 G k N p d) (hG : ∀ j, 0 ≤ G j ∧ G j ≤ 3) : d ≤ p + 1 ∧ d ≤ 2 := by
  obtain ⟨L, _, h⟩ := h
  rcases h with ⟨_, rfl⟩ | ⟨_, _, rfl, _⟩
  · obtain ⟨a, _, _, h1, _⟩ := ups_few hG p
    exact ⟨by omega, ups_two hG p⟩
  · obtain ⟨a, _, _, h1, _⟩ := ups_few hG (p + 1)
    exact ⟨h1, ups_two hG (p + 1)⟩
theorem OnceAt.done (h : OnceAt W0 G k N k d) : lz (N.at 1).num 1 = joinP G k ∧ d = upsP G k := by
  obtain ⟨L, h, h2⟩ := h
  rcases h2 with ⟨rfl, rfl⟩ | ⟨h2, _⟩
  · exact ⟨h.lab, rfl⟩
  · omega
theorem OnceAt.go {A : MacM} {w : World} (h : OnceAt W0 G k N p d) (hm : MachIs w A N) (hk : k ≤ 10) (hp : p < k) (hG : ∀ j, 0 ≤ G j ∧ G j ≤ 3) (hF : ∀ g, g < 4 → lz (W0.getD g []) 2 = 0) :
    (∃ N', needsP N 1 = (true, 0) ∧ driftP N 1 = (N', 0) ∧ OnceAt W0 G k N' p (d + 1)) ∨ (∃ N', needsP N 1 = (false, 0) ∧ stepP N 1 = (N', 0) ∧ OnceAt W0 G k N' (p + 1) d) := by
  obtain ⟨L, h, h2⟩ := h
  have en := h.needs hp
  have key : ∃ a : Nat, joinP G p = a ∧ a ≤ 3 := by obtain ⟨a, e, ha, _⟩ := ups_few hG p; exact ⟨a, e, ha⟩
  obtain ⟨a, ea, ha⟩ := key
  obtain ⟨b, eb⟩ : ∃ b : Nat, G p = b := ⟨(G p).toNat, (Int.toNat_of_nonneg (hG p).1).symm⟩
  have hb : b ≤ 3 := by have := (hG p).2; omega
  obtain ⟨c, ec, hc, hc1, _⟩ := or_label ha hb
  have eJ : joinP G (p + 1) = c := by show bits .or .i64 (joinP G p) (G p) = _; rw [ea, eb, ec]
  cases hu : underV (G p) L
  · left
    rcases h2 with ⟨hL, hd⟩ | ⟨_, _, _, hu2⟩
    · have hor : bits .or .i64 L (G p) = c := by rw [hL, ea, eb, ec]
      obtain ⟨N', e1, e2⟩ := h.drift hm hp hu (by
        rw [hor]
        have e : c = 0 ∨ c = 1 ∨ c = 2 ∨ c = 3 := by omega
        rcases e with rfl | rfl | rfl | rfl <;> decide +kernel)
      rw [hor] at e2
      rw [hu] at en
      refine ⟨N', en, e1, c, e2, .inr ⟨hp, eJ.symm, ?_, ?_⟩⟩
      · show d + 1 = upsP G p + if underV (G p) (joinP G p) = true then 0 else 1
        rw [← hL, hu, hd]
        rfl
      · rw [eb, ← ec]
        have e1 : a = 0 ∨ a = 1 ∨ a = 2 ∨ a = 3 := by omega
        have e2 : b = 0 ∨ b = 1 ∨ b = 2 ∨ b = 3 := by omega
        rcases e1 with rfl | rfl | rfl | rfl <;> rcases e2 with rfl | rfl | rfl | rfl <;> decide +kernel
    · rw [hu] at hu2
      cases hu2
  · right
    obtain ⟨N', e1, e2⟩ := h.fetch hm hk hp (hG p) hF hu
    rw [hu] at en
    refine ⟨N', en, e1, L, e2, .inl ?_⟩
    rcases h2 with ⟨hL, hd⟩ | ⟨_, hL, hd, _⟩
    · rw [hL, ea, eb] at hu
      refine ⟨by rw [eJ, hc1 hu, hL, ea], ?_⟩
      show d = upsP G p + if underV (G p) (joinP G p) = true then 0 else 1
      rw [ea, eb, hu, hd]
      rfl
    · exact ⟨hL, hd⟩
end
end Go.Proofs.YtaaenolbfhhnfaaGreat
