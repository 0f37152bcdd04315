/-
  Several small texts in one: UndoMay, UndoPure, TellMay, DriftProg, DriftPure, FetchPure, FetchMay, OncePure.
-/
import Derived.Test.YtaaenolbfhhnfaaGreatZlaj
import Derived.Test.YtaaenolbfhhnfaaGreatZhUndoAgainProg
import Derived.Test.YtaaenolbfhhnfaaGreatZlah
import Derived.Test.YtaaenolbfhhnfaaGreatZlad
import Derived.Test.YtaaenolbfhhnfaaGreatZlba
import Derived.Test.YtaaenolbfhhnfaaGreatZlac
import Derived.Test.YtaaenolbfhhnfaaGreatZlab
import Derived.Test.YtaaenolbfhhnfaaGreatRows
import Derived.Deep.QuietTactic
import Derived.BigQuiet
import Derived.WalkSpells
import Derived.ChangeKeysEq
import Derived.Test.YtaaenolbfhhnfaaGreatZhFetchRef
namespace Go.Proofs.YtaaenolbfhhnfaaGreat
open Go.RowKit
set_option linter.unusedSimpArgs false
set_option linter.unusedVariables false
theorem PMach.at_ne {M : PMach} {k j : Nat} {y : PSess} (h : j ≠ k) : (M.setS k y).at j = M.at j := by
  show (M.sess.set k y).getD j noSess = _
  rw [getD_set_ne' _ _ (Ne.symm h)]; rfl
theorem PMach.len_setS (M : PMach) (k : Nat) (y : PSess) : (M.setS k y).sess.length = M.sess.length := by show (M.sess.set k y).length = _; rw [List.length_set]
theorem setN_lz {x : PSess} {j c : Nat} {v : Int} (hj : j < x.num.length) : lz (x.setN j v).num c = if c = j then v else lz x.num c := lz_set hj
theorem setN_len (x : PSess) (j : Nat) (v : Int) : (x.setN j v).num.length = x.num.length := by unfold PSess.setN; rw [List.length_set]
def looseS (x : PSess) : PSess := (((x.setL 1 []).setL 2 []).setN 9 0).setN 10 0
/-- A machine whose session k is y, but for its words' locks. -/
theorem may_loose {M N : PMach} {k : Nat} {y : PSess} {id : Int} (h : machMay M = true) (h4 : M.words.length = 4) (hk : k < M.sess.length) (hw : N.words = (looseW id M 4).words) (hc : N.clocks = M.clocks) (hce : N.ceil = M.ceil) (ht : N.trace = M.trace) (hl : N.sess.length = M.sess.length)
    (ho : ∀ j, j ≠ k → N.at j = M.at j) (hy : N.at k = y) (hid : lz y.num 0 = lz (M.at k).num 0) (hs : sessMayP M.lens y = true) : machMay N = true := by
  obtain ⟨a1, a2⟩ := looseW_amay id h4 (machMay_parts h).1
  have el : N.lens = (looseW id M 4).lens := by funext g; unfold PMach.lens PMach.lv; rw [hw]
  have ez : N.wz = (looseW id M 4).wz := by funext g; unfold PMach.wz PMach.lv; rw [hw]
  exact machMay_turn h hk (fun g hg => by rw [el]; exact a1 g hg) (by rw [el, ez]; exact a2) hc hce ht hl ho (by rw [hy]; exact hid) (by rw [hy]; exact hs)
theorem sess_loose {s : Nat → Sl} {x y : PSess} (h : SessOk s x) (hp : y.prog = x.prog) (hr : y.reads = []) (ht : y.writes = []) (h012 : ∀ c, c < 3 → lz y.num c = lz x.num c) (h3 : 0 ≤ lz y.num 3 ∧ lz y.num 3 ≤ 6) (h4 : 0 ≤ lz y.num 4 ∧ lz y.num 4 ≤ x.pn) (hg : ∀ c, c < 4 → 0 ≤ lz y.num (5 + c) ∧ lz y.num (5 + c) ≤ 255)
    (h9 : lz y.num 9 = 0) (h10 : lz y.num 10 = 0) (h11 : 0 ≤ lz y.num 11 ∧ lz y.num 11 ≤ 65535) (h12 : 0 ≤ lz y.num 12 ∧ lz y.num 12 ≤ 5) (h13 : 0 ≤ lz y.num 13 ∧ lz y.num 13 ≤ 255) : sessMayP s y = true := by
  have hpn : y.pn = x.pn := by unfold PSess.pn; rw [hp]
  have hrn : y.rn = 0 := by unfold PSess.rn; rw [hr]; rfl
  have htn : y.tn = 0 := by unfold PSess.tn; rw [ht]; rfl
  unfold sessMayP sessMay wordsThere
  rw [hpn, hrn, htn, hp, h012 0 (by decide), h012 1 (by decide), h012 2 (by decide), h.start, h.prog, upToV_of h3.1 h3.2, upToV_of h4.1 h4.2, allUp_mk (c := regsI (lz y.num)) (h := 255) (n := 4) fun c hc => upToV_of (hg c hc).1 (hg c hc).2, h9, h10, upToV_of h11.1 h11.2, upToV_of h12.1 h12.2, upToV_of h13.1 h13.2]
  rfl
theorem looseP_parts {M : PMach} {k : Nat} (hk : k < M.sess.length) : (looseP M k).at k = looseS (M.at k) ∧ (∀ j, j ≠ k → (looseP M k).at j = M.at j) ∧ (looseP M k).sess.length = M.sess.length := by
  have e0 : ∀ id, (looseW id M 4).sess = M.sess := fun id => rfl
  unfold looseP
  generalize hI : looseW (lz (M.at k).num 0) M 4 = I
  have hIs : I.sess = M.sess := by rw [← hI]; exact e0 _
  have hIa : ∀ j, I.at j = M.at j := fun j => by unfold PMach.at; rw [hIs]
  have hkI : k < I.sess.length := by rw [hIs]; exact hk
  unfold PMach.doN PMach.doL
  refine ⟨?_, fun j hj => ?_, ?_⟩
  · rw [PMach.at_setS (by rw [PMach.len_setS, PMach.len_setS, PMach.len_setS]; exact hkI), PMach.at_setS (by rw [PMach.len_setS, PMach.len_setS]; exact hkI), PMach.at_setS (by rw [PMach.len_setS]; exact hkI), PMach.at_setS hkI, hIa]
    rfl
  · rw [PMach.at_ne hj, PMach.at_ne hj, PMach.at_ne hj, PMach.at_ne hj, hIa]
  · rw [PMach.len_setS, PMach.len_setS, PMach.len_setS, PMach.len_setS, hIs]
theorem looseS_lz {x : PSess} (h : x.num.length = 14) (c : Nat) : lz (looseS x).num c = if c = 10 then 0 else if c = 9 then 0 else lz x.num c := by
  have e : ((x.setL 1 []).setL 2 []).num = x.num := rfl
  unfold looseS
  rw [setN_lz (by rw [setN_len, e, h]; decide), setN_lz (by rw [e, h]; decide), e]
theorem looseS_len (x : PSess) : (looseS x).num.length = x.num.length := by
  unfold looseS
  rw [setN_len, setN_len]; rfl
def endS (x : PSess) (r t : Int) : PSess := (((looseS x).setN 3 6).setN 12 r).setN 13 t
theorem endS_lz {x : PSess} (h : x.num.length = 14) (r t : Int) (c : Nat) : lz (endS x r t).num c = if c = 13 then t else if c = 12 then r else if c = 3 then 6 else if c = 10 then 0 else if c = 9 then 0 else lz x.num c := by
  unfold endS
  rw [setN_lz (by rw [setN_len, setN_len, looseS_len, h]; decide), setN_lz (by rw [setN_len, looseS_len, h]; decide), setN_lz (by rw [looseS_len, h]; decide), looseS_lz h]
theorem endM_may {M : PMach} {k : Nat} {r t : Int} (h : machMay M = true) (h4 : M.words.length = 4) (hk : k < M.sess.length) (h14 : (M.at k).num.length = 14) (hr : upToV r 5 = true) (ht : upToV t 255 = true) : machMay (endM M k r t) = true := by
  obtain ⟨p1, p2, p3⟩ := looseP_parts hk
  have hok := here_sess h hk
  have hL : k < (looseP M k).sess.length := by rw [p3]; exact hk
  have hat : (endM M k r t).at k = endS (M.at k) r t := by
    unfold endM PMach.doN
    rw [PMach.at_setS (by rw [PMach.len_setS, PMach.len_setS]; exact hL), PMach.at_setS (by rw [PMach.len_setS]; exact hL), PMach.at_setS hL, p1]
    rfl
  have lz' := endS_lz h14 r t
  refine may_loose (id := lz (M.at k).num 0) h h4 hk (N := endM M k r t) rfl rfl rfl rfl ?_ (fun j hj => ?_) hat (by rw [lz']; simp) (sess_loose hok rfl rfl rfl (fun c hc => ?_) ?_ ?_ (fun c hc => ?_) ?_ ?_ ?_ ?_ ?_)
  · unfold endM PMach.doN
    rw [PMach.len_setS, PMach.len_setS, PMach.len_setS]; exact p3
  · unfold endM PMach.doN
    rw [PMach.at_ne hj, PMach.at_ne hj, PMach.at_ne hj]; exact p2 j hj
  · rw [lz', if_neg (by omega), if_neg (by omega), if_neg (by omega), if_neg (by omega), if_neg (by omega)]
  · rw [lz']; simp
  · rw [lz']; simpa using hok.pc
  · rw [lz', if_neg (by omega), if_neg (by omega), if_neg (by omega), if_neg (by omega), if_neg (by omega)]
    exact hok.reg hc
  · rw [lz']; simp
  · rw [lz']; simp
  · rw [lz']; simpa using hok.tries
  · rw [lz']; simpa using upToV_yes hr
  · rw [lz']; simpa using upToV_yes ht
theorem undoEnd_any (A : MacM) (M : PMach) (i result told : Int) (w : World) (h : MachIs w A M) :
    Calls Tryz.prog 78 #[machA A M, .int .i64 i, .int .i64 result, .int .i64 told] w (MRet w (endP M i result told)) := by
  refine undoEnd_of A M i result told w h fun k hh hr ht => ?_
  obtain ⟨hm, k', e, hk⟩ := hereP_yes hh
  obtain rfl : k = k' := by omega
  have h14 : (M.at k).num.length = 14 := (h.sess.2.2.2 k (by have := h.sess.1; omega)).1
  have hm2 := endM_may hm h.four hk h14 hr ht
  have hk2 : k < (endM M k result told).sess.length := by
    unfold endM PMach.doN
    rw [PMach.len_setS, PMach.len_setS, PMach.len_setS, (looseP_parts hk).2.2]; exact hk
  unfold tellingP endP
  rw [hh, hr, ht, show hereP (endM M k result told) k = true by unfold hereP; rw [hm2, decide_eq_true (by omega : (0 : Int) ≤ k), decide_eq_true (by omega : (k : Int) < ((endM M k result told).sess.length : Int))]; rfl, Int.toNat_natCast]
  rfl
def againS (x : PSess) (T : Int) : PSess := (((((((looseS x).setN 3 0).setN 4 0).setN 5 0).setN 6 0).setN 7 0).setN 8 0).setN 11 T
theorem againS_lz {x : PSess} (h : x.num.length = 14) (T : Int) (c : Nat) : lz (againS x T).num c = if c = 11 then T else if 3 ≤ c ∧ c ≤ 10 then 0 else lz x.num c := by
  unfold againS
  rw [setN_lz (by simp only [setN_len, looseS_len, h]; decide), setN_lz (by simp only [setN_len, looseS_len, h]; decide), setN_lz (by simp only [setN_len, looseS_len, h]; decide), setN_lz (by simp only [setN_len, looseS_len, h]; decide), setN_lz (by simp only [setN_len, looseS_len, h]; decide), setN_lz (by simp only [setN_len, looseS_len, h]; decide), setN_lz (by simp only [looseS_len, h]; decide), looseS_lz h]
  by_cases e : c = 11
  · rw [if_pos e, if_pos e]
  · rw [if_neg e, if_neg e]
    by_cases e2 : 3 ≤ c ∧ c ≤ 10
    · rw [if_pos e2]
      have : c = 3 ∨ c = 4 ∨ c = 5 ∨ c = 6 ∨ c = 7 ∨ c = 8 ∨ c = 9 ∨ c = 10 := by omega
      rcases this with rfl | rfl | rfl | rfl | rfl | rfl | rfl | rfl <;> simp
    · rw [if_neg e2, if_neg (by omega), if_neg (by omega), if_neg (by omega), if_neg (by omega), if_neg (by omega), if_neg (by omega), if_neg (by omega), if_neg (by omega)]
theorem triesP_up {M : PMach} {k : Nat} (h : 0 ≤ lz (M.at k).num 11 ∧ lz (M.at k).num 11 ≤ 65535) : 0 ≤ triesP M k ∧ triesP M k ≤ 65535 := by
  have e : wrap64 (lz (M.at k).num 11 + 1) = lz (M.at k).num 11 + 1 := by
    have := h.1; have := h.2
    simp only [wrap64] <;> omega
  unfold triesP
  rw [e]
  split <;> omega
theorem againM_may {M : PMach} {k : Nat} (h : machMay M = true) (h4 : M.words.length = 4) (hk : k < M.sess.length) (h14 : (M.at k).num.length = 14) : machMay (againM M k) = true := by
  obtain ⟨p1, p2, p3⟩ := looseP_parts hk
  have hok := here_sess h hk
  have hL : k < (looseP M k).sess.length := by rw [p3]; exact hk
  have hat : (againM M k).at k = againS (M.at k) (triesP M k) := by
    unfold againM PMach.doR PMach.doN
    rw [PMach.at_setS (by simp only [PMach.len_setS]; exact hL), PMach.at_setS (by simp only [PMach.len_setS]; exact hL), PMach.at_setS (by simp only [PMach.len_setS]; exact hL), PMach.at_setS (by simp only [PMach.len_setS]; exact hL), PMach.at_setS (by simp only [PMach.len_setS]; exact hL), PMach.at_setS (by simp only [PMach.len_setS]; exact hL), PMach.at_setS hL, p1]
    rfl
  have lz' := againS_lz h14 (triesP M k)
  refine may_loose (id := lz (M.at k).num 0) h h4 hk (N := againM M k) rfl rfl rfl rfl ?_ (fun j hj => ?_) hat (by rw [lz']; simp) (sess_loose hok rfl rfl rfl (fun c hc => ?_) ?_ ?_ (fun c hc => ?_) ?_ ?_ ?_ ?_ ?_)
  · unfold againM PMach.doR PMach.doN
    simp only [PMach.len_setS]; exact p3
  · unfold againM PMach.doR PMach.doN
    simp only [PMach.at_ne hj]; exact p2 j hj
  · rw [lz', if_neg (by omega), if_neg (by omega)]
  · rw [lz']; simp
  · rw [lz']; simp
  · rw [lz', if_neg (by omega), if_pos (by omega)]; omega
  · rw [lz']; simp
  · rw [lz']; simp
  · rw [lz']; simpa using triesP_up hok.tries
  · rw [lz']; simpa using hok.result
  · rw [lz']; simpa using hok.told
theorem setS_setS (N : PMach) (k : Nat) (y z : PSess) : (N.setS k y).setS k z = N.setS k z := by unfold PMach.setS; simp
theorem setS_doN {N : PMach} {k b : Nat} {v : Int} {y : PSess} (hk : k < N.sess.length) : (N.setS k y).doN k b v = N.setS k (y.setN b v) := by unfold PMach.doN; rw [PMach.at_setS hk, setS_setS]
theorem againM_doc {M : PMach} {k : Nat} (hk : k < M.sess.length) : againM M k = ((((looseP M k).doN k 4 0).doR k 0 0 0 0).doN k 3 0).doN k 11 (triesP M k) := by
  have hL : k < (looseP M k).sess.length := by rw [(looseP_parts hk).2.2]; exact hk
  unfold againM PMach.doR
  generalize looseP M k = N at hL
  have e : ∀ (a : Nat) (u : Int), N.doN k a u = N.setS k ((N.at k).setN a u) := fun _ _ => rfl
  rw [e 3 0, e 4 0]
  simp only [setS_doN hL]
  congr 1
  unfold PSess.setN
  simp only
  rw [List.set_comm (0 : Int) 0 (by decide : 3 ≠ 4), List.set_comm (0 : Int) 0 (by decide : 3 ≠ 5), List.set_comm (0 : Int) 0 (by decide : 3 ≠ 6), List.set_comm (0 : Int) 0 (by decide : 3 ≠ 7), List.set_comm (0 : Int) 0 (by decide : 3 ≠ 8)]
end Go.Proofs.YtaaenolbfhhnfaaGreat
namespace Go.Proofs.YtaaenolbfhhnfaaGreat
open Go.RowKit
set_option linter.unusedSimpArgs false
set_option linter.unusedVariables false
theorem tellP_words (M : PMach) (k : Nat) (c v : Int) : (tellP M k c v).words = M.words := by unfold tellP; split <;> rfl
theorem tellP_clocks (M : PMach) (k : Nat) (c v : Int) : (tellP M k c v).clocks = M.clocks := by unfold tellP; split <;> rfl
theorem tellP_ceil (M : PMach) (k : Nat) (c v : Int) : (tellP M k c v).ceil = M.ceil := by unfold tellP; split <;> rfl
theorem tellP_sess (M : PMach) (k : Nat) (c v : Int) : (tellP M k c v).sess = M.sess := by unfold tellP; split <;> rfl
theorem tellP_lv (M : PMach) (k : Nat) (c v : Int) (g : Nat) : (tellP M k c v).lv g = M.lv g := by unfold PMach.lv; rw [tellP_words]
/-- Behind Again, behind End. -/
def againR (M : PMach) (k : Nat) (c : Int) : PMach := tellP (againM M k) k c (triesP M k)
def endR (M : PMach) (k : Nat) (r t : Int) : PMach := tellP (endM M k r t) k 6 r
theorem againP_ok {M : PMach} {k : Nat} {c : Int} (hh : hereP M k = true) (hk : k < M.sess.length) (hq : (c == 3 || c == 5) = true) : againP M k c = (againR M k c, 0) := by
  unfold againP againR
  rw [hh, hq, Int.toNat_natCast, againM_doc hk]
  rfl
theorem endP_ok {M : PMach} {k : Nat} {r t : Int} (hh : hereP M k = true) (hr : upToV r 5 = true) (ht : upToV t 255 = true) : endP M k r t = (endR M k r t, 0) := by
  unfold endP endR endM
  rw [hh, hr, ht, Int.toNat_natCast]
  rfl
/-- What a machine is behind Again or End, but for its session and its trace. -/
structure Loosed (M N : PMach) (k : Nat) : Prop where
  four : N.words.length = 4
  words : ∀ g, g < 4 → N.lv g = freeTo (lz (M.at k).num 0) (M.lv g) ((M.lv g).length / 3)
  clocks : N.clocks = M.clocks
  ceil : N.ceil = M.ceil
  len : N.sess.length = M.sess.length
  other : ∀ j, j ≠ k → N.at j = M.at j
  reads : (N.at k).reads = []
  writes : (N.at k).writes = []
  prog : (N.at k).prog = (M.at k).prog
theorem looseP_lv {M : PMach} (h4 : M.words.length = 4) (k : Nat) {g : Nat} (hg : g < 4) : (looseP M k).lv g = freeTo (lz (M.at k).num 0) (M.lv g) ((M.lv g).length / 3) := by
  have := looseW_lv (lz (M.at k).num 0) M h4 4 (Nat.le_refl _) g hg
  rw [if_pos hg] at this
  exact this
theorem doN_words (M : PMach) (k j : Nat) (v : Int) : (M.doN k j v).words = M.words := rfl
theorem doN_clocks (M : PMach) (k j : Nat) (v : Int) : (M.doN k j v).clocks = M.clocks := rfl
theorem doN_ceil (M : PMach) (k j : Nat) (v : Int) : (M.doN k j v).ceil = M.ceil := rfl
theorem doR_words (M : PMach) (k : Nat) (a b c d : Int) : (M.doR k a b c d).words = M.words := by unfold PMach.doR; rw [doN_words, doN_words, doN_words, doN_words]
theorem doR_clocks (M : PMach) (k : Nat) (a b c d : Int) : (M.doR k a b c d).clocks = M.clocks := by unfold PMach.doR; rw [doN_clocks, doN_clocks, doN_clocks, doN_clocks]
theorem doR_ceil (M : PMach) (k : Nat) (a b c d : Int) : (M.doR k a b c d).ceil = M.ceil := by unfold PMach.doR; rw [doN_ceil, doN_ceil, doN_ceil, doN_ceil]
theorem againM_words (M : PMach) (k : Nat) : (againM M k).words = (looseP M k).words := by unfold againM; simp only [doN_words, doR_words]
theorem againM_clocks (M : PMach) (k : Nat) : (againM M k).clocks = M.clocks := by unfold againM; simp only [doN_clocks, doR_clocks]; rfl
theorem againM_ceil (M : PMach) (k : Nat) : (againM M k).ceil = M.ceil := by unfold againM; simp only [doN_ceil, doR_ceil]; rfl
theorem againM_lv (M : PMach) (k g : Nat) : (againM M k).lv g = (looseP M k).lv g := by unfold PMach.lv; rw [againM_words]
theorem againM_at {M : PMach} {k : Nat} (hk : k < M.sess.length) : (againM M k).at k = againS (M.at k) (triesP M k) := by
  obtain ⟨p1, p2, p3⟩ := looseP_parts hk
  have hL : k < (looseP M k).sess.length := by rw [p3]; exact hk
  unfold againM PMach.doR PMach.doN
  rw [PMach.at_setS (by simp only [PMach.len_setS]; exact hL), PMach.at_setS (by simp only [PMach.len_setS]; exact hL), PMach.at_setS (by simp only [PMach.len_setS]; exact hL), PMach.at_setS (by simp only [PMach.len_setS]; exact hL), PMach.at_setS (by simp only [PMach.len_setS]; exact hL), PMach.at_setS (by simp only [PMach.len_setS]; exact hL), PMach.at_setS hL, p1]
  rfl
theorem endM_at {M : PMach} {k : Nat} (hk : k < M.sess.length) (r t : Int) : (endM M k r t).at k = endS (M.at k) r t := by
  obtain ⟨p1, p2, p3⟩ := looseP_parts hk
  have hL : k < (looseP M k).sess.length := by rw [p3]; exact hk
  unfold endM PMach.doN
  rw [PMach.at_setS (by rw [PMach.len_setS, PMach.len_setS]; exact hL), PMach.at_setS (by rw [PMach.len_setS]; exact hL), PMach.at_setS hL, p1]
  rfl
theorem againR_at {M : PMach} {k : Nat} (hk : k < M.sess.length) (c : Int) : (againR M k c).at k = againS (M.at k) (triesP M k) := by unfold againR; rw [tellP_at, againM_at hk]
theorem endR_at {M : PMach} {k : Nat} (hk : k < M.sess.length) (r t : Int) : (endR M k r t).at k = endS (M.at k) r t := by unfold endR; rw [tellP_at, endM_at hk]
theorem againR_loosed {M : PMach} {k : Nat} (h4 : M.words.length = 4) (hk : k < M.sess.length) (c : Int) : Loosed M (againR M k c) k := by
  obtain ⟨p1, p2, p3⟩ := looseP_parts hk
  have hw : (looseP M k).words.length = 4 := by
    show (looseW _ M 4).words.length = 4
    rw [looseW_len, h4]
  refine ⟨?_, fun g hg => ?_, ?_, ?_, ?_, fun j hj => ?_, ?_, ?_, ?_⟩
  · unfold againR; rw [tellP_words, againM_words]; exact hw
  · unfold againR; rw [tellP_lv, againM_lv]; exact looseP_lv h4 k hg
  · unfold againR; rw [tellP_clocks, againM_clocks]
  · unfold againR; rw [tellP_ceil, againM_ceil]
  · unfold againR againM PMach.doR PMach.doN; rw [tellP_sess]; simp only [PMach.len_setS]; exact p3
  · unfold againR againM PMach.doR PMach.doN; rw [tellP_at]; simp only [PMach.at_ne hj]; exact p2 j hj
  · rw [againR_at hk]; rfl
  · rw [againR_at hk]; rfl
  · rw [againR_at hk]; rfl
end Go.Proofs.YtaaenolbfhhnfaaGreat
namespace Go.Proofs.YtaaenolbfhhnfaaGreat
open Go.RowKit
set_option linter.unusedSimpArgs false
set_option linter.unusedVariables false
theorem SessOk.label {s : Nat → Sl} {x : PSess} (h : SessOk s x) : upToV (lz x.num 1) 3 = true := by
  have h1 := h.start
  unfold startMay at h1
  simp only [Bool.and_eq_true] at h1
  have h2 := h1.2.1
  unfold belowV at h2
  split at h2
  · rename_i hc
    exact upToV_of hc.1.1 (by omega)
  · cases h2
theorem SessOk.clear {s : Nat → Sl} {x : PSess} (h : SessOk s x) : upToV (lz x.num 2) 3 = true := by
  have h1 := h.start
  unfold startMay at h1
  simp only [Bool.and_eq_true] at h1
  have h2 := h1.2.1
  unfold belowV at h2
  split at h2
  · rename_i hc
    exact upToV_of hc.2.1 (by omega)
  · cases h2
theorem tell_may {M : PMach} {k : Nat} (h : machMay M = true) (hk : k < M.sess.length) (ht : M.trace.length % 4 = 0) (c v : Int) : machMay (tellP M k c v) = true := by
  unfold tellP
  split
  case isFalse => exact h
  rename_i hlt
  obtain ⟨h1, h2, h3, h4, h5, h6, h7⟩ := machMay_parts h
  have hl := (here_sess h hk).label
  have htn : M.tn = M.trace.length / 4 := rfl
  have htn' : (M.trace ++ [lz (M.at k).num 0, lz (M.at k).num 1, c, v]).length / 4 = M.tn + 1 := by rw [List.length_append]; show (M.trace.length + 4) / 4 = _; omega
  have hlab : allTo (labOk { M with trace := M.trace ++ [lz (M.at k).num 0, lz (M.at k).num 1, c, v] }) (M.tn + 1) = true := by
    refine allTo_mk fun j hj => ?_
    show upToV (lz (M.trace ++ [lz (M.at k).num 0, lz (M.at k).num 1, c, v]) (j * 4 + 1)) 3 = true
    by_cases e : j < M.tn
    · have := allTo_get h7 j e
      have e2 : lz (M.trace ++ [lz (M.at k).num 0, lz (M.at k).num 1, c, v]) (j * 4 + 1) = lz M.trace (j * 4 + 1) := by
        unfold lz
        rw [List.getD_eq_getElem?_getD, List.getElem?_append_left (by omega), ← List.getD_eq_getElem?_getD]
      rw [e2]
      exact this
    · have ej : j * 4 + 1 = M.trace.length + 1 := by omega
      rw [ej]
      have e2 : lz (M.trace ++ [lz (M.at k).num 0, lz (M.at k).num 1, c, v]) (M.trace.length + 1) = lz (M.at k).num 1 := by
        unfold lz
        rw [List.getD_eq_getElem?_getD, List.getElem?_append_right (by omega), show M.trace.length + 1 - M.trace.length = 1 by omega]
        rfl
      rw [e2]
      exact hl
  have e0 : ({ M with trace := M.trace ++ [lz (M.at k).num 0, lz (M.at k).num 1, c, v] } : PMach).tn = M.tn + 1 := htn'
  unfold machMay
  rw [e0]
  rw [show ({ M with trace := M.trace ++ [lz (M.at k).num 0, lz (M.at k).num 1, c, v] } : PMach).ceil = M.ceil from rfl]
  simp only [Bool.and_eq_true, decide_eq_true_eq]
  exact ⟨⟨h1, h2, h3, by omega⟩, h5, h6, hlab⟩
theorem again_here {M : PMach} {k : Nat} (hm : machMay M = true) (h4 : M.words.length = 4) (hk : k < M.sess.length) (h14 : (M.at k).num.length = 14) (ht : M.trace.length % 4 = 0) (c : Int) : hereP (againR M k c) k = true := by
  have h1 := againM_may hm h4 hk h14
  have h2 := againR_loosed h4 hk c
  have hl : (againM M k).sess.length = M.sess.length := by
    have := h2.len
    unfold againR at this
    rw [tellP_sess] at this
    exact this
  have htr : (againM M k).trace = M.trace := by
    unfold againM
    have eN : ∀ (X : PMach) (a : Nat) (u : Int), (X.doN k a u).trace = X.trace := fun _ _ _ => rfl
    have eR : ∀ (X : PMach) (a b c d : Int), (X.doR k a b c d).trace = X.trace := fun X a b c d => by unfold PMach.doR; rw [eN, eN, eN, eN]
    rw [eN, eR, eN, eN]; rfl
  have h3 := tell_may (k := k) (c := c) (v := triesP M k) h1 (by omega) (by rw [htr]; exact ht)
  unfold hereP
  rw [show againR M k c = tellP (againM M k) k c (triesP M k) from rfl, h3, decide_eq_true (by omega : (0 : Int) ≤ k), tellP_sess, hl, decide_eq_true (by omega : (k : Int) < (M.sess.length : Int))]
  rfl
end Go.Proofs.YtaaenolbfhhnfaaGreat
namespace Go.Proofs.YtaaenolbfhhnfaaGreat
open Go.RowKit
set_option linter.unusedSimpArgs false
set_option linter.unusedVariables false
theorem below_lab {a b : Int} (ha : upToV a 3 = true) (hb : upToV b 3 = true) : belowV a b = underV a b := by
  obtain ⟨x, rfl, hx⟩ := upToV_nat (m := 3) ha
  obtain ⟨y, rfl, hy⟩ := upToV_nat (m := 3) hb
  have e1 : x = 0 ∨ x = 1 ∨ x = 2 ∨ x = 3 := by omega
  have e2 : y = 0 ∨ y = 1 ∨ y = 2 ∨ y = 3 := by omega
  rcases e1 with rfl | rfl | rfl | rfl <;> rcases e2 with rfl | rfl | rfl | rfl <;> decide +kernel
theorem row_one {W : World} {b : Nat} {v : Int} (h : Blk W b [.int .i64 v]) : Row W (some ⟨b, 0, none⟩) 1 fun _ => .int .i64 v := fun j hj => by
  obtain rfl : j = 0 := by omega
  exact ⟨b, 0, rfl, h.lt, h.cell 0 _ rfl⟩
theorem join_or {a b : Int} (ha : upToV a 3 = true) (hb : upToV b 3 = true) : joinV a b = bits .or .i64 a b ∧ upToV (bits .or .i64 a b) 3 = true := by
  obtain ⟨x, rfl, hx⟩ := upToV_nat (m := 3) ha
  obtain ⟨y, rfl, hy⟩ := upToV_nat (m := 3) hb
  have e1 : x = 0 ∨ x = 1 ∨ x = 2 ∨ x = 3 := by omega
  have e2 : y = 0 ∨ y = 1 ∨ y = 2 ∨ y = 3 := by omega
  rcases e1 with rfl | rfl | rfl | rfl <;> rcases e2 with rfl | rfl | rfl | rfl <;> decide +kernel
set_option maxRecDepth 100000 in
set_option maxHeartbeats 1000000 in
theorem driftRead_any (q : SesM) (x : PSess) (p : Nat) (w : World) (h : SessIs w q x) (hp : lz x.num 4 = p) (hlt : p < q.p.n) :
    Calls Tryz.prog 76 #[.agg (sessOf q x).toArray] w fun e w' => e = .returned (.int .i64 (lz x.prog (p * 4 + 2))) ∧ Below w.heap.size w w' := by
  have i1 : (p : Int) < (q.p.n : Int) := by omega
  obtain ⟨bp, op, hbp, _, _⟩ := h.2.1.four hlt
  have hI : Hid (∀ W, Below w.heap.size w W → W.cell? ⟨bp, op + p * 4 + 2, none⟩ = some (.int .i64 (lz x.prog (p * 4 + 2)))) := fun W hb => by
    obtain ⟨b2, o2, e2, _, r⟩ := (h.below hb).2.1.four hlt
    rw [hbp] at e2; cases e2
    exact r 2 _ rfl
  obtain ⟨V0, hV0⟩ : ∃ V0, V0 = Value.agg (sessOf q x).toArray := ⟨_, rfl⟩
  rw [← hV0]
  have HV : Hid (V0.cells = (sessOf q x).toArray) := by rw [hV0]; rfl
  clear hV0 h
  have HS := hide (St.refl w)
  go_enter Tryz.func76, Tryz.ntmps76
  go_upto_region 1 with (first | ((with_reducible refine isList ?_); first | (refine st_box HS _ _ rfl rfl (sessOf q x) HV.out ?_; clear HS; intro W b HS)))
  have d3 : W.cell? ⟨b, 3, none⟩ = some (.slice (some ⟨bp, op, none⟩) q.p.n q.p.c) := by rw [← hbp]; exact (HS.out.blk 0 rfl).cell 3 _ rfl
  have d5 : W.cell? ⟨b, 5, none⟩ = some (.int .i64 p) := by rw [← hp]; exact (HS.out.blk 0 rfl).cell 5 _ rfl
  have c0 := hI.out W HS.out.below
  clear hbp
  replace hp := hide hp
  go_wp2
  go_ret
  exact ⟨rfl, HS.out.below⟩
theorem needsP_code (M : PMach) (i : Int) : needsP M i = bif atCodeP M i (fun _ => 2) 1 then (!underV ((M.at i.toNat).ins 2) (lz (M.at i.toNat).num 1), 0) else (false, 1400) := by
  have e : decide (runP (M.at i.toNat) = 2) = ((M.at i.toNat).runs && inTo (fun _ => 2) ((M.at i.toNat).ins 0) 1) := by
    unfold runP inTo
    cases (M.at i.toNat).runs
    · rfl
    · show decide ((M.at i.toNat).ins 0 = 2) = _
      unfold inTo
      simp
  unfold needsP atCodeP
  rw [e]
/-- Whoever stands at a read: what stands there. -/
theorem atRead {M : PMach} {i : Int} (h : atCodeP M i (fun _ => 2) 1 = true) : hereP M i = true ∧ runP (M.at i.toNat) = 2 := by
  have := needsP_code M i
  rw [h] at this
  exact needsP_here (by rw [this]; rfl)
set_option maxRecDepth 100000 in
set_option maxHeartbeats 2000000 in
theorem driftNeeds_any (A : MacM) (M : PMach) (i : Int) (w : World) (h : MachIs w A M) :
    Calls Tryz.prog 30 #[machA A M, .int .i64 i] w fun e w' => e = .returned (.tuple #[.bool (needsP M i).1, .int .i64 (needsP M i).2]) ∧ Below w.heap.size w w' := by
  have hX := hide h.sess.1
  have hrng := hide fun (k : Nat) (hk : k < A.s.n) (W : World) (hb : Below w.heap.size w W) => (h.below hb).sess.range hk
  have hSes : Hid (∀ (k : Nat) (hk : k < A.s.n) (W : World) (hb : Below w.heap.size w W), SessIs W (A.q k) (M.at k)) := fun k hk W hb => (h.below hb).sess.2.2.2 k hk
  have hIns := hide fun (k : Nat) (hk : k < A.s.n) (hok : SessOk M.lens (M.at k)) (c : Int) (hr : runP (M.at k) = c) (hc : c ≠ -1) => ins_at h hk hok hr hc
  have hAt := hide fun (b : Nat) (W : World) (hb : Below w.heap.size w W) (hB : Blk W b [.int .i64 2]) => standAtCode_any A M i (some ⟨b, 0, none⟩) 1 1 (fun _ => 2) W (h.below hb) (by decide) (row_one hB)
  have eN := needsP_code M i
  obtain ⟨V0, hV0⟩ : ∃ V0, V0 = machA A M := ⟨_, rfl⟩
  rw [← hV0]
  have HV : Hid (V0.cells = (machL A M).toArray) := by rw [hV0]; rfl
  clear hV0
  have HM := hide h
  have HS := hide (St.refl w)
  clear h
  go_enter Tryz.func30, Tryz.ntmps30
  go_wp2_with (first | ((with_reducible refine isList ?_); first | (refine st_box HS _ _ rfl rfl (machL A M) HV.out ?_; clear HS; intro W bm HS) | (refine st_loadA HS 0 rfl _ _ rfl rfl rfl (by decide +kernel) (by kernel_rfl) ?_)))
  replace HS := hide (HS.out.alloc [.int .i64 2] 3)
  refine (hAt.out _ _ HS.out.below (HS.out.blk 0 rfl)).mono ?_
  (rintro e Wq ⟨rfl, hb⟩; have HSq := hide (HS.out.on hb); clear HS hb; replace HS := HSq; clear HSq)
  clear hAt
  cases hc : atCodeP M i (fun _ => 2) 1
  · rw [hc] at eN
    replace eN : needsP M i = (false, 1400) := eN
    replace eN := hide eN
    go_wp2
    go_ret2
    rw [eN.out]
    exact ⟨rfl, HS.out.below⟩
  obtain ⟨hh, hr⟩ := atRead hc
  obtain ⟨hmay, k, rfl, hk0⟩ := hereP_yes hh
  rw [Int.toNat_natCast] at hr
  have hk : k < A.s.n := by have := hX.out; omega
  have hok := here_sess hmay hk0
  have i2 : (k : Int) < (A.s.n : Int) := by omega
  obtain ⟨p, hI⟩ := hIns.out k hk hok 2 hr (by decide)
  obtain ⟨x, y, u, _, ⟨hb2, hb3⟩, _⟩ := hI.word (.inl (hI.code hr (by decide)))
  rw [hc, Int.toNat_natCast] at eN
  replace eN : needsP M k = (!underV ((M.at k).ins 2) (lz (M.at k).num 1), 0) := eN
  have eB : belowV (lz (M.at k).prog (p * 4 + 2)) (lz (M.at k).num 1) = underV ((M.at k).ins 2) (lz (M.at k).num 1) := by
    rw [hI.ins 2]
    exact below_lab (by rw [hb2]; exact upToV_of (by omega) (by omega)) hok.label
  have hRead := hide fun (W : World) (hb : Below w.heap.size w W) => driftRead_any (A.q k) (M.at k) p W (hSes.out k hk W hb) hI.pc hI.lt
  replace eN := hide eN; replace eB := hide eB
  clear hb2 hb3 hI hIns hok hmay hh hr hc
  replace HS : Hid (St w Wq [blkI bm (machL A M)]) := hide (HS.out.sel [1] (by decide) rfl)
  obtain ⟨bs, off, hbs, _, hR⟩ := hrng.out k hk _ HS.out.below
  replace hR := hide hR
  go_upto_region 3 with fail
  go_upto_region 4 with (first | ((with_reducible refine isList ?_); first | (refine st_load1 HS 0 rfl _ _ rfl _ rfl rfl (by decide +kernel) rfl ?_) | (refine wpList_load_at _ _ rfl rfl bs (off + k * 17) rfl (sessOf (A.q k) (M.at k)) (by decide +kernel) (by kernel_rfl) hR.out ?_) | (refine st_alloc HS _ rfl rfl zeroSL zeroS ?_; clear HS; intro W b6 HS) | (refine st_storeA HS 0 rfl _ _ _ rfl rfl rfl _ rfl rfl (by kernel_rfl) rfl ?_; clear HS; intro W HS)))
  replace HS : Hid (St w W [blkI b6 (sessOf (A.q k) (M.at k)), blkI bm (machL A M)]) := HS
  clear hR hbs
  have HB := HS.out.blk 0 rfl
  (try simp only [Act.put, List.setIfInBounds_toArray, List.set_cons_zero, List.set_cons_succ])
  refine wp_region_mask [true, false, true, true, false, false, false, false, false, false] [false, true, false, false, true, true, true, true, true, true] [0, 0, 3, 3, 3, 2, 2] (fun w' => Blk w' b6 (sessOf (A.q k) (M.at k))) (by kernel_rfl) (by kernel_rfl) (by kernel_rfl) (by decide +kernel) HB.drew ?_
  intro kne
  simp only [pickAt]
  repeat (first | ((first | (refine wpQuiet_la _ _ rfl b6 (0) rfl rfl (by decide +kernel) (sessOf (A.q k) (M.at k)) (by kernel_rfl) (fun w hC => hC.range) ?_) | (refine wpQuiet_ld _ _ rfl ⟨b6, 1, none⟩ rfl rfl (by decide +kernel) (fun w hC => hC.cell 1 _ rfl) ?_)); simp only [Act.put, List.setIfInBounds_toArray, List.set_cons_zero, List.set_cons_succ]) | go_big_quiet_step (fail))
  refine wpQuiet_nil ?_
  clear kne HB
  replace HS := hide HS.out.drew
  generalize World.drew _ = Wd at *
  refine wpRest_cons rfl rfl fun K hK => ?_
  go_big_op
  refine (hRead.out _ HS.out.below).mono ?_
  (rintro e Wq ⟨rfl, hb⟩; have HSq := hide (HS.out.on hb); clear HS hb; replace HS := HSq; clear HSq)
  refine hK _ _ (fun _ => InC.mk (HS.out.blk 0 rfl)) ?_
  clear hK K
  (try simp only [Act.put, List.setIfInBounds_toArray, List.set_cons_zero, List.set_cons_succ])
  refine wpRest_cons rfl rfl fun K hK => ?_
  go_big_op
  refine (below_any _ _ _).mono ?_
  rintro e w' ⟨rfl, rfl⟩
  refine hK _ _ (fun _ => InC.mk (HS.out.blk 0 rfl)) ?_
  clear hK K
  (try simp only [Act.put, List.setIfInBounds_toArray, List.set_cons_zero, List.set_cons_succ])
  refine wpRest_move _ rfl rfl rfl ?_
  (try simp only [Act.put, List.setIfInBounds_toArray, List.set_cons_zero, List.set_cons_succ])
  refine wpRest_extract _ 0 rfl rfl rfl rfl ?_
  (try simp only [Act.put, List.setIfInBounds_toArray, List.set_cons_zero, List.set_cons_succ])
  refine wpRest_extract _ 1 rfl rfl rfl rfl ?_
  (try simp only [Act.put, List.setIfInBounds_toArray, List.set_cons_zero, List.set_cons_succ])
  refine wpRest_assign _ rfl rfl rfl ?_
  (try simp only [Act.put, List.setIfInBounds_toArray, List.set_cons_zero, List.set_cons_succ])
  refine wpRest_assign _ rfl rfl rfl (wpRest_nil ?_)
  (try simp only [Act.put, List.setIfInBounds_toArray, List.set_cons_zero, List.set_cons_succ])
  refine NoPanic.normal ?_
  rw [eB.out]
  go_wp2
  go_ret2
  rw [eN.out]
  exact ⟨rfl, HS.out.below⟩
set_option maxRecDepth 100000 in
set_option maxHeartbeats 4000000 in
theorem driftStep_any (A : MacM) (M : PMach) (i : Int) (w : World) (h : MachIs w A M) :
    Calls Tryz.prog 31 #[machA A M, .int .i64 i] w (MRet w (driftP M i)) := by
  have hX := hide h.sess.1
  have hrng := hide fun (k : Nat) (hk : k < A.s.n) (W : World) (hb : Below w.heap.size w W) => (h.below hb).sess.range hk
  have hSes : Hid (∀ (k : Nat) (hk : k < A.s.n) (W : World) (hb : Below w.heap.size w W), SessIs W (A.q k) (M.at k)) := fun k hk W hb => (h.below hb).sess.2.2.2 k hk
  have hIns := hide fun (k : Nat) (hk : k < A.s.n) (hok : SessOk M.lens (M.at k)) (c : Int) (hr : runP (M.at k) = c) (hc : c ≠ -1) => ins_at h hk hok hr hc
  have hNe := hide fun (W : World) (hb : Below w.heap.size w W) => driftNeeds_any A M i W (h.below hb)
  have hEnd := hide fun (W : World) (hb : Below w.heap.size w W) => undoEnd_any A M i 4 0 W (h.below hb)
  have hTell := hide fun (v : Int) (W : World) (hb : Below w.heap.size w W) => gtelling_any A M i 2 v W (h.below hb)
  obtain ⟨V0, hV0⟩ : ∃ V0, V0 = machA A M := ⟨_, rfl⟩
  rw [← hV0]
  have HV : Hid (V0.cells = (machL A M).toArray) := by rw [hV0]; rfl
  clear hV0
  have HM := hide h
  have HS := hide (St.refl w)
  clear h
  go_enter Tryz.func31, Tryz.ntmps31
  go_wp2_with (first | ((with_reducible refine isList ?_); first | (refine st_box HS _ _ rfl rfl (machL A M) HV.out ?_; clear HS; intro W bm HS) | (refine st_alloc HS _ rfl rfl zeroML zeroM ?_; clear HS; intro W br HS) | (refine st_loadA HS 1 rfl _ _ rfl rfl rfl (by decide +kernel) (by kernel_rfl) ?_)))
  refine (hNe.out _ HS.out.below).mono ?_
  (rintro e Wq ⟨rfl, hb⟩; have HSq := hide (HS.out.on hb); clear HS hb; replace HS := HSq; clear HSq)
  clear hNe
  cases hn : (needsP M i).1
  case false =>
    go_wp2_with (first | ((with_reducible refine isList ?_); first | (refine st_storeA HS 0 rfl _ _ _ rfl rfl rfl _ rfl rfl (by kernel_rfl) rfl ?_; clear HS; intro W HS)))
    rw [show driftP M i = (noMach, 1400) by unfold driftP; rw [hn, Bool.and_false]; rfl]
    exact bodyPost_ret (ret_mach2 Tryz.results31 (HS.out.blk 0 rfl) rfl rfl rfl) rfl (mret_no HS.out.below)
  have hc : atCodeP M i (fun _ => 2) 1 = true := by
    cases hc : atCodeP M i (fun _ => 2) 1
    · have := needsP_code M i
      rw [hc] at this
      rw [this] at hn
      cases hn
    · rfl
  obtain ⟨hh, hr⟩ := atRead hc
  obtain ⟨hmay, k, rfl, hk0⟩ := hereP_yes hh
  rw [Int.toNat_natCast] at hr
  have hk : k < A.s.n := by have := hX.out; omega
  have hok := here_sess hmay hk0
  have i2 : (k : Int) < (A.s.n : Int) := by omega
  obtain ⟨p, hI⟩ := hIns.out k hk hok 2 hr (by decide)
  obtain ⟨x, y, u, _, ⟨hb2, hb3⟩, _⟩ := hI.word (.inl (hI.code hr (by decide)))
  have he : (needsP M k).2 = 0 := by
    have := needsP_code M k
    rw [hc] at this
    rw [this]; rfl
  have eD : driftP M k = bif underV (driftL (M.at k)) (lz (M.at k).num 2) then ((tellP M k 2 (driftL (M.at k))).doN k 1 (driftL (M.at k)), 0) else endP M k 4 0 := by
    unfold driftP; rw [hn, decide_eq_true he, Int.toNat_natCast]; rfl
  have hl : joinV (lz (M.at k).num 1) (lz (M.at k).prog (p * 4 + 2)) = driftL (M.at k) ∧ upToV (driftL (M.at k)) 3 = true := by
    unfold driftL
    rw [hI.ins 2]
    exact join_or hok.label (by rw [hb2]; exact upToV_of (by omega) (by omega))
  have eT : ∀ v, tellingP M k 2 v = (tellP M k 2 v, 0) := fun v => by unfold tellingP; rw [hh, Int.toNat_natCast]; rfl
  obtain ⟨l, hll⟩ : ∃ l, l = driftL (M.at k) := ⟨_, rfl⟩
  rw [← hll] at eD hl
  have eB : belowV l (lz (M.at k).num 2) = underV l (lz (M.at k).num 2) := below_lab hl.2 hok.clear
  have eJ := hide hl.1
  have hRead := hide fun (W : World) (hb : Below w.heap.size w W) => driftRead_any (A.q k) (M.at k) p W (hSes.out k hk W hb) hI.pc hI.lt
  replace hTell := hide (hTell.out l)
  rw [eT] at hTell
  replace eD := hide eD; replace eB := hide eB; replace hn := hide hn
  clear hb2 hb3 hI hIns hok hmay hh hr hc he hll hl eT
  obtain ⟨bs, off, hbs, _, hR⟩ := hrng.out k hk _ HS.out.below
  replace hR := hide hR
  go_upto_region 4 with fail
  go_upto_region 5 with (first | ((with_reducible refine isList ?_); first | (refine st_load1 HS 1 rfl _ _ rfl _ rfl rfl (by decide +kernel) rfl ?_) | (refine wpList_load_at _ _ rfl rfl bs (off + k * 17) rfl (sessOf (A.q k) (M.at k)) (by decide +kernel) (by kernel_rfl) hR.out ?_) | (refine st_alloc HS _ rfl rfl zeroSL zeroS ?_; clear HS; intro W b8 HS) | (refine st_storeA HS 0 rfl _ _ _ rfl rfl rfl _ rfl rfl (by kernel_rfl) rfl ?_; clear HS; intro W HS)))
  replace HS : Hid (St w W [blkI b8 (sessOf (A.q k) (M.at k)), blkI br zeroML, blkI bm (machL A M)]) := HS
  clear hR hbs
  have HB := HS.out.blk 0 rfl
  (try simp only [Act.put, List.setIfInBounds_toArray, List.set_cons_zero, List.set_cons_succ])
  refine wp_region_mask [true, true, true, false, false, false, false, false, false, false] [false, false, false, true, true, true, true, true, true, true] [0, 0, 3, 3, 3, 2, 2] (fun w' => Blk w' b8 (sessOf (A.q k) (M.at k))) (by kernel_rfl) (by kernel_rfl) (by kernel_rfl) (by decide +kernel) HB.drew ?_
  intro kne
  simp only [pickAt]
  repeat (first | ((first | (refine wpQuiet_ld _ _ rfl ⟨b8, 1, none⟩ rfl rfl (by decide +kernel) (fun w hC => hC.cell 1 _ rfl) ?_) | (refine wpQuiet_la _ _ rfl b8 (0) rfl rfl (by decide +kernel) (sessOf (A.q k) (M.at k)) (by kernel_rfl) (fun w hC => hC.range) ?_)); simp only [Act.put, List.setIfInBounds_toArray, List.set_cons_zero, List.set_cons_succ]) | go_big_quiet_step (fail))
  refine wpQuiet_nil ?_
  clear kne HB
  replace HS := hide HS.out.drew
  generalize World.drew _ = Wd at *
  refine wpRest_cons rfl rfl fun K hK => ?_
  go_big_op
  refine (hRead.out _ HS.out.below).mono ?_
  (rintro e Wq ⟨rfl, hb⟩; have HSq := hide (HS.out.on hb); clear HS hb; replace HS := HSq; clear HSq)
  refine hK _ _ (fun _ => InC.mk (HS.out.blk 0 rfl)) ?_
  clear hK K
  (try simp only [Act.put, List.setIfInBounds_toArray, List.set_cons_zero, List.set_cons_succ])
  refine wpRest_cons rfl rfl fun K hK => ?_
  go_big_op
  refine (join_any _ _ _).mono ?_
  rintro e w' ⟨rfl, rfl⟩
  rw [eJ.out]
  refine hK _ _ (fun _ => InC.mk (HS.out.blk 0 rfl)) ?_
  clear hK K
  (try simp only [Act.put, List.setIfInBounds_toArray, List.set_cons_zero, List.set_cons_succ])
  refine wpRest_move _ rfl rfl rfl ?_
  (try simp only [Act.put, List.setIfInBounds_toArray, List.set_cons_zero, List.set_cons_succ])
  refine wpRest_extract _ 0 rfl rfl rfl rfl ?_
  (try simp only [Act.put, List.setIfInBounds_toArray, List.set_cons_zero, List.set_cons_succ])
  refine wpRest_extract _ 1 rfl rfl rfl rfl ?_
  (try simp only [Act.put, List.setIfInBounds_toArray, List.set_cons_zero, List.set_cons_succ])
  refine wpRest_assign _ rfl rfl rfl ?_
  (try simp only [Act.put, List.setIfInBounds_toArray, List.set_cons_zero, List.set_cons_succ])
  refine wpRest_assign _ rfl rfl rfl (wpRest_nil ?_)
  (try simp only [Act.put, List.setIfInBounds_toArray, List.set_cons_zero, List.set_cons_succ])
  refine NoPanic.normal ?_
  have d2 : Wq.cell? ⟨b8, 2, none⟩ = some (.int .i64 (lz (M.at k).num 2)) := (HS.out.blk 0 rfl).cell 2 _ rfl
  go_wp2_with fail
  refine (below_any _ _ _).mono ?_
  rintro e w' ⟨rfl, rfl⟩
  rw [eB.out]
  clear d2
  cases hu : underV l (lz (M.at k).num 2)
  · rw [hu] at eD
    have eS : Hid (driftP M k = endP M k 4 0) := eD.out
    go_wp2_with (first | ((with_reducible refine isList ?_); first | (refine st_loadA HS 2 rfl _ _ rfl rfl rfl (by decide +kernel) (by kernel_rfl) ?_)))
    refine (hEnd.out _ HS.out.below).mono ?_
    (rintro e W2 ⟨A2, rfl, hO, hb⟩; have HS2 := hide (HS.out.push hb (machI (fun k => _) A2 _) (machI_loc _ _ _) hO fun k hk => hk); generalize (fun k => _) = D2 at HS2; clear hO HS hb; replace HS := HS2; clear HS2; go_wp2_with (first | ((with_reducible refine isList ?_); first | (refine st_storeA HS 2 rfl _ _ _ rfl rfl rfl _ rfl rfl (by kernel_rfl) rfl ?_; clear HS; intro W HS))); rw [eS.out]; exact bodyPost_ret (ret_mach2 Tryz.results31 (HS.out.blk 2 rfl) rfl rfl rfl) rfl (mret_of (R := endP M k 4 0) HS.out 0 (D := D2) (A := A2) rfl))
  · rw [hu] at eD
    replace eD : Hid (driftP M k = ((tellP M k 2 l).doN k 1 l, 0)) := eD
    go_wp2_with (first | ((with_reducible refine isList ?_); first | (refine st_loadA HS 2 rfl _ _ rfl rfl rfl (by decide +kernel) (by kernel_rfl) ?_)))
    refine (hTell.out _ HS.out.below).mono ?_
    (rintro e Wq ⟨A2, rfl, hO, hb⟩; have HSq := hide (HS.out.push hb (machI (fun k => _) A2 _) (machI_loc _ _ _) hO fun k hk => hk); generalize (fun k => _) = D2 at HSq; clear HS hb hO; replace HS := HSq; clear HSq)
    have hk2 : k < A2.s.n := by
      have := (MachOwn.is (show MachOwn D2 _ A2 (tellP M k 2 l) from HS.out.get 0 rfl)).sess.1
      rw [tellP_sess] at this
      have := hX.out; omega
    have i4 : (k : Int) < (A2.s.n : Int) := by omega
    obtain ⟨bs1, hbs1, _⟩ := MachOwn.sblk (show MachOwn D2 _ A2 (tellP M k 2 l) from HS.out.get 0 rfl) hk2
    have hk1 := hk2
    go_upto_region 10 with (first | ((with_reducible refine isList ?_); first | (refine st_alloc HS _ rfl rfl zeroML zeroM ?_; clear HS; intro W bn HS) | (refine st_storeA HS 0 rfl _ _ _ rfl rfl rfl _ rfl rfl (by kernel_rfl) rfl ?_; clear HS; intro W HS)))
    replace HS : Hid (St w W [blkI bn (machL A2 (tellP M k 2 l)), machI D2 A2 (tellP M k 2 l), blkI b8 (sessOf (A.q k) (M.at k)), blkI br zeroML, blkI bm (machL A M)]) := HS
    go_upto_region 11 with (first | ((with_reducible refine isList ?_); first | (refine st_load1 HS 0 rfl _ _ rfl _ rfl rfl (by decide +kernel) rfl ?_) | (refine st_storeN HS 1 rfl hk1 hbs1 1 (by decide) _ _ _ rfl _ rfl (show _ = k * 17 + 1 from by with_reducible rfl) rfl rfl (by decide +kernel) ?_; clear HS; intro W HS)))
    replace HS : Hid (St w W [blkI bn (machL A2 ((tellP M k 2 l).doN k 1 l)), machI D2 A2 ((tellP M k 2 l).doN k 1 l), blkI b8 (sessOf (A.q k) (M.at k)), blkI br zeroML, blkI bm (machL A M)]) := HS
    go_wp2_with (first | ((with_reducible refine isList ?_); first | (refine st_loadA HS 0 rfl _ _ rfl rfl rfl (by decide +kernel) (by kernel_rfl) ?_) | (refine st_storeA HS 3 rfl _ _ _ rfl rfl rfl _ rfl rfl (by kernel_rfl) rfl ?_; clear HS; intro W HS)))
    rw [eD.out]
    exact bodyPost_ret (ret_mach2 Tryz.results31 (HS.out.blk 3 rfl) rfl rfl rfl) rfl (mret_of (R := ((tellP M k 2 l).doN k 1 l, 0)) HS.out 1 (D := D2) (A := A2) rfl)
end Go.Proofs.YtaaenolbfhhnfaaGreat
namespace Go.Proofs.YtaaenolbfhhnfaaGreat
open Go.RowKit
set_option linter.unusedSimpArgs false
set_option linter.unusedVariables false
theorem sess_label {s : Nat → Sl} {x : PSess} (h : SessOk s x) (h14 : x.num.length = 14) {j : Int} (hj : belowV j (lz x.num 2) = true) : sessMayP s (x.setN 1 j) = true := by
  have e : ∀ c, c ≠ 1 → lz (x.setN 1 j).num c = lz x.num c := fun c hc => by rw [setN_lz (by omega), if_neg hc]
  have e1 : lz (x.setN 1 j).num 1 = j := by rw [setN_lz (by omega), if_pos rfl]
  have hst : startMay (lz x.num 0) j (lz x.num 2) x.pn (lz x.prog) = true := by
    have := h.start
    unfold startMay at this ⊢
    simp only [Bool.and_eq_true] at this ⊢
    exact ⟨this.1, hj, this.2.2⟩
  have hr : regsI (lz (x.setN 1 j).num) = regsI (lz x.num) := by funext c; exact e (5 + c) (by omega)
  have hpn : (x.setN 1 j).pn = x.pn := rfl
  have hrn : (x.setN 1 j).rn = x.rn := rfl
  have htn : (x.setN 1 j).tn = x.tn := rfl
  have hp : (x.setN 1 j).prog = x.prog := rfl
  have hrd : (x.setN 1 j).reads = x.reads := rfl
  have hwr : (x.setN 1 j).writes = x.writes := rfl
  unfold sessMayP sessMay wordsThere
  rw [hpn, hrn, htn, hp, hrd, hwr, e 0 (by decide), e1, e 2 (by decide), hst, h.prog, h.writesT, h.readsT, e 3 (by decide), upToV_of h.step.1 h.step.2, e 4 (by decide), upToV_of h.pc.1 h.pc.2, hr, h.regs, h.reads, h.writes, e 9 (by decide), upToV_of h.at_.1 h.at_.2, e 10 (by decide), upToV_of h.stamp.1 h.stamp.2, e 11 (by decide), upToV_of h.tries.1 h.tries.2, e 12 (by decide), upToV_of h.result.1 h.result.2, e 13 (by decide), upToV_of h.told.1 h.told.2]
  rfl
/-- Four labels: the join of one with a level that is not below it, within a third. -/
theorem join_up {l g c : Int} (hl : upToV l 3 = true) (hg : upToV g 3 = true) (hc : upToV c 3 = true) (h1 : underV g l = false) (h2 : underV (bits .or .i64 l g) c = true) :
    bits .or .i64 l g ≠ l ∧ bits .or .i64 (bits .or .i64 l g) l = bits .or .i64 l g ∧ bits .or .i64 (bits .or .i64 l g) c = c ∧ underV g (bits .or .i64 l g) = true ∧ belowV (bits .or .i64 l g) c = true := by
  obtain ⟨a, rfl, ha⟩ := upToV_nat (m := 3) hl
  obtain ⟨b, rfl, hb⟩ := upToV_nat (m := 3) hg
  obtain ⟨d, rfl, hd⟩ := upToV_nat (m := 3) hc
  have ea : a = 0 ∨ a = 1 ∨ a = 2 ∨ a = 3 := by omega
  have eb : b = 0 ∨ b = 1 ∨ b = 2 ∨ b = 3 := by omega
  have ed : d = 0 ∨ d = 1 ∨ d = 2 ∨ d = 3 := by omega
  revert h1 h2
  rcases ea with rfl | rfl | rfl | rfl <;> rcases eb with rfl | rfl | rfl | rfl <;> rcases ed with rfl | rfl | rfl | rfl <;> decide +kernel
/-- What a machine is behind a drift that raised the label. -/
structure Rose (M N : PMach) (k : Nat) : Prop where
  words : N.words = M.words
  clocks : N.clocks = M.clocks
  len : N.sess.length = M.sess.length
  num : ∀ c, c ≠ 1 → lz (N.at k).num c = lz (M.at k).num c
  reads : (N.at k).reads = (M.at k).reads
  step : lz (M.at k).num 3 = 0
  needs : needsP N k = (false, 0)
  new : lz (N.at k).num 1 ≠ lz (M.at k).num 1
  up : bits .or .i64 (lz (N.at k).num 1) (lz (M.at k).num 1) = lz (N.at k).num 1
  clear : bits .or .i64 (lz (N.at k).num 1) (lz (M.at k).num 2) = lz (M.at k).num 2
  here : hereP N k = true
  lab : lz (N.at k).num 1 = driftL (M.at k)
  prog : (N.at k).prog = (M.at k).prog
  writes : (N.at k).writes = (M.at k).writes
theorem drift_cases {A : MacM} {M : PMach} {w : World} (h : MachIs w A M) (i : Int) :
    driftP M i = (noMach, 1400) ∨ ∃ k : Nat, i = k ∧ k < M.sess.length ∧ ((∃ N, driftP M i = (N, 0) ∧ Rose M N k) ∨ driftP M i = (endR M k 4 0, 0)) := by
  cases hn : (needsP M i).1
  · left
    unfold driftP
    rw [hn, Bool.and_false]
    rfl
  by_cases he : (needsP M i).2 = 0
  case neg =>
    left
    unfold driftP
    rw [decide_eq_false he]
    rfl
  right
  obtain ⟨hh, hr⟩ := needsP_here he
  obtain ⟨hmay, k, rfl, hk0⟩ := hereP_yes hh
  rw [Int.toNat_natCast] at hr
  refine ⟨k, rfl, hk0, ?_⟩
  have hk : k < A.s.n := by have := h.sess.1; omega
  have h14 : (M.at k).num.length = 14 := (h.sess.2.2.2 k hk).1
  have hok := here_sess hmay hk0
  obtain ⟨h3, hpc, hin⟩ := runP_yes hr (by decide)
  obtain ⟨p, hI⟩ := ins_at h hk hok hr (by decide)
  obtain ⟨x, y, u, _, ⟨hb2, hb3⟩, _⟩ := hI.word (.inl (hI.code hr (by decide)))
  have hg : upToV ((M.at k).ins 2) 3 = true := by rw [hI.ins 2, hb2]; exact upToV_of (by omega) (by omega)
  have eD : driftP M k = bif underV (driftL (M.at k)) (lz (M.at k).num 2) then ((tellP M k 2 (driftL (M.at k))).doN k 1 (driftL (M.at k)), 0) else endP M k 4 0 := by
    unfold driftP; rw [hn, decide_eq_true he, Int.toNat_natCast]; rfl
  rw [eD]
  cases hu : underV (driftL (M.at k)) (lz (M.at k).num 2)
  · right
    show endP M k 4 0 = _
    rw [endP_ok hh rfl rfl]
  left
  have hn2 : underV ((M.at k).ins 2) (lz (M.at k).num 1) = false := by
    have e : needsP M k = (!underV ((M.at k).ins 2) (lz (M.at k).num 1), 0) := by
      unfold needsP; rw [hh, Int.toNat_natCast, decide_eq_true hr]; rfl
    rw [e] at hn
    cases hx : underV ((M.at k).ins 2) (lz (M.at k).num 1)
    · rfl
    · rw [hx] at hn; cases hn
  obtain ⟨j1, j2, j3, j4, j5⟩ := join_up hok.label hg hok.clear hn2 hu
  have eJ : driftL (M.at k) = bits .or .i64 (lz (M.at k).num 1) ((M.at k).ins 2) := rfl
  rw [← eJ] at j1 j2 j3 j4 j5
  generalize hj : driftL (M.at k) = j at *
  refine ⟨_, rfl, ?_⟩
  have hT : M.trace.length % 4 = 0 := by have := h.trace.1; omega
  have hmT := tell_may (c := 2) (v := j) hmay hk0 hT
  have eTs : (tellP M k 2 j).sess = M.sess := tellP_sess M k 2 j
  have eTa : (tellP M k 2 j).at k = M.at k := by unfold PMach.at; rw [eTs]
  have hkT : k < (tellP M k 2 j).sess.length := by rw [eTs]; exact hk0
  have eNa : ((tellP M k 2 j).doN k 1 j).at k = (M.at k).setN 1 j := by unfold PMach.doN; rw [PMach.at_setS hkT, eTa]
  have eW : (tellP M k 2 j).words = M.words := tellP_words M k 2 j
  have eC : (tellP M k 2 j).clocks = M.clocks := tellP_clocks M k 2 j
  have eLens : ∀ X : PMach, X.words = M.words → X.lens = M.lens := fun X e => by funext g; unfold PMach.lens PMach.lv; rw [e]
  have l1 : lz ((M.at k).setN 1 j).num 1 = j := by rw [setN_lz (by omega), if_pos rfl]
  have ln : ∀ c, c ≠ 1 → lz ((M.at k).setN 1 j).num c = lz (M.at k).num c := fun c hc => by rw [setN_lz (by omega), if_neg hc]
  have hmN : machMay ((tellP M k 2 j).doN k 1 j) = true := by
    refine machMay_turn hmT hkT (fun g hg => rfl) (machMay_parts hmT).1 rfl rfl rfl (PMach.len_setS _ _ _) (fun q hq => PMach.at_ne hq) ?_ ?_
    · rw [eNa, eTa, ln 0 (by decide)]
    · rw [eNa, eLens _ eW]
      exact sess_label hok h14 j5
  have hhN : hereP ((tellP M k 2 j).doN k 1 j) k = true := by
    unfold hereP
    rw [hmN, decide_eq_true (by omega : (0 : Int) ≤ k), show ((tellP M k 2 j).doN k 1 j).sess.length = M.sess.length from (PMach.len_setS _ _ _).trans (by rw [eTs]), decide_eq_true (by omega : (k : Int) < (M.sess.length : Int))]
    rfl
  have hrN : runP ((M.at k).setN 1 j) = 2 := by
    have e3 : ((M.at k).setN 1 j).step = (M.at k).step := ln 3 (by decide)
    have e4 : ((M.at k).setN 1 j).pc = (M.at k).pc := ln 4 (by decide)
    rw [← hr]
    unfold runP PSess.runs PSess.ins
    rw [e3, e4]
    rfl
  have hiN : ((M.at k).setN 1 j).ins 2 = (M.at k).ins 2 := by
    have e4 : ((M.at k).setN 1 j).pc = (M.at k).pc := ln 4 (by decide)
    unfold PSess.ins
    rw [e4]
    rfl
  refine ⟨eW, eC, (PMach.len_setS _ _ _).trans (by rw [eTs]), fun c hc => by rw [eNa]; exact ln c hc, by rw [eNa]; rfl, h3, ?_, by rw [eNa, l1]; exact j1, by rw [eNa, l1]; exact j2, by rw [eNa, l1]; exact j3, hhN, by rw [eNa, l1, hj], by rw [eNa]; rfl, by rw [eNa]; rfl⟩
  unfold needsP
  rw [hhN, Int.toNat_natCast, eNa, decide_eq_true hrN, hiN, l1, j4]
  rfl
end Go.Proofs.YtaaenolbfhhnfaaGreat
namespace Go.Proofs.YtaaenolbfhhnfaaGreat
open Go.RowKit
set_option linter.unusedSimpArgs false
set_option linter.unusedVariables false
section
variable {s : Nat → Sl} {y : Nat → Nat → Int} {n : Nat} {z x : Nat → Int} {d l i v : Int}
theorem goodV_cells (h : ∀ j, j < n * 3 → z j = x j) : goodV s y n z d = goodV s y n x d := by
  unfold goodV goodOk fitR
  rw [readsMay_congr h, allTo_congr fun j hj => thereP_cells h hj, allTo_congr fun j hj => goodP_cells h hj]
/-- Good reads, and one more of a free word, of its version, are good. -/
theorem good_with (hg : goodV s y n z d = true) (hw : withOk n z l i v = true) (ht : thereV s l i = true) (hv : y l.toNat (i.toNat * 3 + 1) = v) (h0 : y l.toNat (i.toNat * 3 + 2) = 0) :
    goodV s y (withN n z l i v) (putR z n l i v) d = true := by
  have hc : ∀ j, j < n * 3 → putR z n l i v j = z j := fun j hj => putR_old hj
  unfold withN
  rw [hw]
  cases hn : noneTo z l i n
  · show goodV s y n (putR z n l i v) d = true
    rw [goodV_cells hc]
    exact hg
  show goodV s y (n + 1) (putR z n l i v) d = true
  unfold withOk at hw
  simp only [Bool.and_eq_true, hn, Bool.not_true, Bool.false_or, decide_eq_true_eq] at hw
  unfold goodV at hg ⊢
  simp only [Bool.and_eq_true] at hg ⊢
  obtain ⟨hfo, hall⟩ := hg
  obtain ⟨hfit, hd⟩ := goodOk_get hfo
  obtain ⟨ha, hr, hth⟩ := fitR_get hfit
  obtain ⟨e1, e2, e3⟩ := putR_new z n l i v
  refine ⟨goodOk_mk (fitR_mk ha (readsMay_more hr hw.1.2 hn hw.2) ?_) hd, ?_⟩
  · rw [allTo, allTo_congr fun j hj => thereP_cells hc hj, hth, Bool.true_and]
    unfold thereP
    rw [e1, e2]
    exact ht
  · rw [allTo, allTo_congr fun j hj => goodP_cells hc hj, hall, Bool.true_and]
    unfold goodP sameP freeP
    rw [e1, e2, e3, hv, h0]
    simp
end
/-- What a machine is behind a fetch that read. -/
structure Got (M N : PMach) (k : Nat) : Prop where
  words : N.words = M.words
  clocks : N.clocks = M.clocks
  len : N.sess.length = M.sess.length
  pc : lz (N.at k).num 4 = lz (M.at k).num 4 + 1
  tries : lz (N.at k).num 11 = lz (M.at k).num 11
  reads : (N.at k).rn = (M.at k).rn ∨ ((N.at k).rn = (M.at k).rn + 1 ∧ goodV M.lens M.wz (N.at k).rn (lz (N.at k).reads) (lz (M.at k).num 0) = true)
  id : lz (N.at k).num 0 = lz (M.at k).num 0
  good : M.good (M.at k) = true → N.good (N.at k) = true
  prog : (N.at k).prog = (M.at k).prog
  writes : (N.at k).writes = (M.at k).writes
  num : ∀ c, c ≠ 4 → (c < 5 ∨ 9 ≤ c) → lz (N.at k).num c = lz (M.at k).num c
theorem got_of {M M' : PMach} {k a : Nat} {v p : Int} (hk : k < M'.sess.length) (hl : M'.sess.length = M.sess.length) (ha : a < 4) (h14 : (M'.at k).num.length = 14) (hw : M'.words = M.words) (hc : M'.clocks = M.clocks) (hp : lz (M.at k).num 4 = p) (hn : (M'.at k).num = (M.at k).num)
    (hr : (M'.at k).rn = (M.at k).rn ∨ ((M'.at k).rn = (M.at k).rn + 1 ∧ goodV M.lens M.wz (M'.at k).rn (lz (M'.at k).reads) (lz (M.at k).num 0) = true))
    (hg : M.good (M.at k) = true → goodV M.lens M.wz (M'.at k).rn (lz (M'.at k).reads) (lz (M.at k).num 0) = true) (hpr : (M'.at k).prog = (M.at k).prog) (hwr : (M'.at k).writes = (M.at k).writes) : Got M (gotP M' k a v p).1 k := by
  have l1 : k < (M'.doN k (5 + a) v).sess.length := by unfold PMach.doN; rw [PMach.len_setS]; exact hk
  have eat : (gotP M' k a v p).1.at k = ((M'.at k).setN (5 + a) v).setN 4 (p + 1) := by
    show (tellP _ k 0 v).at k = _
    rw [tellP_at, at_doN l1, at_doN hk]
  have els : (gotP M' k a v p).1.sess.length = M.sess.length := by
    show (tellP _ k 0 v).sess.length = _
    rw [tellP_sess]
    unfold PMach.doN
    rw [PMach.len_setS, PMach.len_setS, hl]
  have erd : ((gotP M' k a v p).1.at k).reads = (M'.at k).reads := by rw [eat]; rfl
  have ern : ((gotP M' k a v p).1.at k).rn = (M'.at k).rn := by unfold PSess.rn; rw [erd]
  have eW : (gotP M' k a v p).1.words = M.words := by
    show (tellP _ k 0 v).words = _
    rw [tellP_words]
    exact hw
  have enum : ∀ c, c ≠ 4 → (c < 5 ∨ 9 ≤ c) → lz ((gotP M' k a v p).1.at k).num c = lz (M.at k).num c := fun c h1 h2 => by
    rw [eat, setN_other (by omega), setN_other (by omega), hn]
  refine ⟨eW, ?_, els, ?_, ?_, ?_, enum 0 (by decide) (by decide), fun hG => ?_, ?_, ?_, enum⟩
  · show (tellP _ k 0 v).clocks = _
    rw [tellP_clocks]
    exact hc
  · rw [eat, setN_lz (by rw [setN_len, h14]; decide), if_pos rfl, hp]
  · rw [eat, setN_lz (by rw [setN_len, h14]; decide), if_neg (by decide), setN_lz (by rw [h14]; omega), if_neg (by omega), hn]
  · rw [ern, erd]
    exact hr
  · unfold PMach.good
    rw [ern, erd, enum 0 (by decide) (by decide), show (gotP M' k a v p).1.lens = M.lens by funext g; unfold PMach.lens PMach.lv; rw [eW], show (gotP M' k a v p).1.wz = M.wz by funext g; unfold PMach.wz PMach.lv; rw [eW]]
    exact hg hG
  · rw [eat]
    exact hpr
  · rw [eat]
    exact hwr
theorem fetch_cases {A : MacM} {M : PMach} {w : World} (h : MachIs w A M) (i : Int) :
    fetchP M i = (noMach, 1500) ∨ ∃ k : Nat, i = k ∧ k < M.sess.length ∧ hereP M k = true ∧ ((∃ N, fetchP M i = (N, 0) ∧ Got M N k) ∨ (fetchP M i = (againR M k 3, 0) ∧ (decide (M.wz ((M.at k).ins 2).toNat (((M.at k).ins 3).toNat * 3 + 2) = 0) && M.good (M.at k)) = false)) := by
  by_cases he : (needsP M i).2 = 0
  case neg =>
    left
    unfold fetchP
    rw [decide_eq_false he]
    rfl
  cases hn : (needsP M i).1
  case true =>
    left
    unfold fetchP
    rw [hn, Bool.not_true, Bool.and_false]
    rfl
  obtain ⟨hh, hr⟩ := needsP_here he
  obtain ⟨hmay, k, rfl, hk0⟩ := hereP_yes hh
  rw [Int.toNat_natCast] at hr
  have hk : k < A.s.n := by have := h.sess.1; omega
  have h14 : (M.at k).num.length = 14 := (h.sess.2.2.2 k hk).1
  have hok := here_sess hmay hk0
  obtain ⟨p, hI⟩ := ins_at h hk hok hr (by decide)
  have hcode := hI.code hr (by decide)
  obtain ⟨x, y, u, ⟨hb1, hb1'⟩, ⟨hb2, hb3⟩, ⟨hb4, hb5⟩⟩ := hI.word (.inl hcode)
  have hpn : (M.at k).pn = (A.q k).p.n := by
    have h1 : (M.at k).prog.length = (A.q k).p.n * 4 := (h.sess.2.2.2 k hk).2.1.1
    unfold PSess.pn; rw [h1, Nat.mul_div_cancel _ (by decide)]
  have hth : thereV M.lens ((M.at k).ins 2) ((M.at k).ins 3) = true := by rw [hI.ins 2, hI.ins 3]; exact hI.there hok hpn (.inl hcode)
  have ha : ((M.at k).ins 1).toNat < 4 := by rw [hI.ins 1, hb1]; omega
  have eF : fetchP M k = bif findIs (M.at k).tn (lz (M.at k).writes) ((M.at k).ins 2) ((M.at k).ins 3) then gotP M k ((M.at k).ins 1).toNat (findVal (M.at k).tn (lz (M.at k).writes) ((M.at k).ins 2) ((M.at k).ins 3)) (M.at k).pc
      else bif decide (M.wz ((M.at k).ins 2).toNat (((M.at k).ins 3).toNat * 3 + 2) = 0) && M.good (M.at k) then
        bif decide (withE (M.at k).rn (lz (M.at k).reads) ((M.at k).ins 2) ((M.at k).ins 3) (M.wz ((M.at k).ins 2).toNat (((M.at k).ins 3).toNat * 3 + 1)) = 0) then
          gotP (M.setS k ((M.at k).setL 1 ((M.at k).withR ((M.at k).ins 2) ((M.at k).ins 3) (M.wz ((M.at k).ins 2).toNat (((M.at k).ins 3).toNat * 3 + 1))))) k ((M.at k).ins 1).toNat (M.wz ((M.at k).ins 2).toNat (((M.at k).ins 3).toNat * 3)) (M.at k).pc
        else (noMach, 1500)
      else againP M k 3 := by
    unfold fetchP
    rw [decide_eq_true he, hn, Int.toNat_natCast]
    rfl
  rw [eF]
  cases hf : findIs (M.at k).tn (lz (M.at k).writes) ((M.at k).ins 2) ((M.at k).ins 3)
  · cases hg : decide (M.wz ((M.at k).ins 2).toNat (((M.at k).ins 3).toNat * 3 + 2) = 0) && M.good (M.at k)
    · right
      exact ⟨k, rfl, hk0, hh, .inr ⟨againP_ok hh hk0 rfl, hg⟩⟩
    · simp only [Bool.and_eq_true, decide_eq_true_eq] at hg
      cases hw : decide (withE (M.at k).rn (lz (M.at k).reads) ((M.at k).ins 2) ((M.at k).ins 3) (M.wz ((M.at k).ins 2).toNat (((M.at k).ins 3).toNat * 3 + 1)) = 0)
      · exact .inl rfl
      · right
        refine ⟨k, rfl, hk0, hh, .inl ⟨_, rfl, ?_⟩⟩
        have hwo : withOk (M.at k).rn (lz (M.at k).reads) ((M.at k).ins 2) ((M.at k).ins 3) (M.wz ((M.at k).ins 2).toNat (((M.at k).ins 3).toNat * 3 + 1)) = true := by
          unfold withE at hw
          cases hx : withOk (M.at k).rn (lz (M.at k).reads) ((M.at k).ins 2) ((M.at k).ins 3) (M.wz ((M.at k).ins 2).toNat (((M.at k).ins 3).toNat * 3 + 1))
          · rw [hx] at hw; revert hw; decide
          · rfl
        have hgw := good_with hg.2 hwo hth rfl hg.1
        have eM : (M.setS k ((M.at k).setL 1 ((M.at k).withR ((M.at k).ins 2) ((M.at k).ins 3) (M.wz ((M.at k).ins 2).toNat (((M.at k).ins 3).toNat * 3 + 1))))).at k = (M.at k).setL 1 ((M.at k).withR ((M.at k).ins 2) ((M.at k).ins 3) (M.wz ((M.at k).ins 2).toNat (((M.at k).ins 3).toNat * 3 + 1))) := PMach.at_setS hk0
        generalize M.wz ((M.at k).ins 2).toNat (((M.at k).ins 3).toNat * 3 + 1) = ver at *
        have eR : ((M.at k).setL 1 ((M.at k).withR ((M.at k).ins 2) ((M.at k).ins 3) ver)).reads = (M.at k).withR ((M.at k).ins 2) ((M.at k).ins 3) ver := rfl
        have eL : ((M.at k).setL 1 ((M.at k).withR ((M.at k).ins 2) ((M.at k).ins 3) ver)).rn = withN (M.at k).rn (lz (M.at k).reads) ((M.at k).ins 2) ((M.at k).ins 3) ver := by
          unfold PSess.rn
          rw [eR]
          unfold PSess.withR
          rw [List.length_map, List.length_range, Nat.mul_div_cancel _ (by decide)]
          rfl
        have hG : goodV M.lens M.wz ((M.at k).setL 1 ((M.at k).withR ((M.at k).ins 2) ((M.at k).ins 3) ver)).rn (lz ((M.at k).setL 1 ((M.at k).withR ((M.at k).ins 2) ((M.at k).ins 3) ver)).reads) (lz (M.at k).num 0) = true := by
          rw [eL, eR]
          unfold PSess.withR
          rw [goodV_cells (x := putR (lz (M.at k).reads) (M.at k).rn ((M.at k).ins 2) ((M.at k).ins 3) ver) fun j hj => lz_map hj]
          exact hgw
        refine got_of (by rw [PMach.len_setS]; exact hk0) (PMach.len_setS _ _ _) ha (by rw [eM]; exact h14) rfl rfl rfl (by rw [eM]; rfl) ?_ (fun _ => by rw [eM]; exact hG) (by rw [eM]; rfl) (by rw [eM]; rfl)
        rw [eM, hG, eL]
        unfold withN
        rw [hwo]
        cases noneTo (lz (M.at k).reads) ((M.at k).ins 2) ((M.at k).ins 3) (M.at k).rn
        · exact .inl rfl
        · exact .inr ⟨rfl, rfl⟩
  · right
    refine ⟨k, rfl, hk0, hh, .inl ⟨_, rfl, ?_⟩⟩
    exact got_of hk0 rfl ha h14 rfl rfl rfl rfl (.inl rfl) (fun h => h) rfl rfl
end Go.Proofs.YtaaenolbfhhnfaaGreat
namespace Go.Proofs.YtaaenolbfhhnfaaGreat
open Go.RowKit
set_option linter.unusedSimpArgs false
set_option linter.unusedVariables false
theorem sess_reads {s : Nat → Sl} {x : PSess} (h : SessOk s x) {R : List Int} (hR : readsMay (R.length / 3) (lz R) = true) (hT : allTo (thereP s (lz R)) (R.length / 3) = true) : sessMayP s (x.setL 1 R) = true := by
  have hpn : (x.setL 1 R).pn = x.pn := rfl
  have hrn : (x.setL 1 R).rn = R.length / 3 := rfl
  have htn : (x.setL 1 R).tn = x.tn := rfl
  have hp : (x.setL 1 R).prog = x.prog := rfl
  have hrd : (x.setL 1 R).reads = R := rfl
  have hwr : (x.setL 1 R).writes = x.writes := rfl
  have hnm : (x.setL 1 R).num = x.num := rfl
  unfold sessMayP sessMay wordsThere
  rw [hpn, hrn, htn, hp, hrd, hwr, hnm, h.start, h.prog, h.writesT, hT, upToV_of h.step.1 h.step.2, upToV_of h.pc.1 h.pc.2, h.regs, hR, h.writes, upToV_of h.at_.1 h.at_.2, upToV_of h.stamp.1 h.stamp.2, upToV_of h.tries.1 h.tries.2, upToV_of h.result.1 h.result.2, upToV_of h.told.1 h.told.2]
  rfl
theorem sess_got {s : Nat → Sl} {x : PSess} (h : SessOk s x) (h14 : x.num.length = 14) {a : Nat} {v p : Int} (ha : a < 4) (hv : 0 ≤ v ∧ v ≤ 255) (hp0 : 0 ≤ p) (hp1 : p + 1 ≤ x.pn) : sessMayP s ((x.setN (5 + a) v).setN 4 (p + 1)) = true := by
  have e : ∀ c, c ≠ 4 → c ≠ 5 + a → lz ((x.setN (5 + a) v).setN 4 (p + 1)).num c = lz x.num c := fun c h1 h2 => by rw [setN_lz (by rw [setN_len]; omega), if_neg h1, setN_lz (by omega), if_neg h2]
  have e4 : lz ((x.setN (5 + a) v).setN 4 (p + 1)).num 4 = p + 1 := by rw [setN_lz (by rw [setN_len]; omega), if_pos rfl]
  have hr : allUp (regsI (lz ((x.setN (5 + a) v).setN 4 (p + 1)).num)) 255 4 = true := allUp_mk fun c hc => by
    unfold regsI
    by_cases hca : c = a
    · subst hca
      rw [setN_lz (by rw [setN_len]; omega), if_neg (by omega), setN_lz (by omega), if_pos rfl]
      exact upToV_of hv.1 hv.2
    · rw [e (5 + c) (by omega) (by omega)]
      exact upToV_of (h.reg hc).1 (h.reg hc).2
  have hpn : ((x.setN (5 + a) v).setN 4 (p + 1)).pn = x.pn := rfl
  have hrn : ((x.setN (5 + a) v).setN 4 (p + 1)).rn = x.rn := rfl
  have htn : ((x.setN (5 + a) v).setN 4 (p + 1)).tn = x.tn := rfl
  have hp : ((x.setN (5 + a) v).setN 4 (p + 1)).prog = x.prog := rfl
  have hrd : ((x.setN (5 + a) v).setN 4 (p + 1)).reads = x.reads := rfl
  have hwr : ((x.setN (5 + a) v).setN 4 (p + 1)).writes = x.writes := rfl
  unfold sessMayP sessMay wordsThere
  rw [hpn, hrn, htn, hp, hrd, hwr, e 0 (by decide) (by omega), e 1 (by decide) (by omega), e 2 (by decide) (by omega), h.start, h.prog, h.writesT, h.readsT, e 3 (by decide) (by omega), upToV_of h.step.1 h.step.2, e4, upToV_of (by omega) hp1, hr, h.reads, h.writes, e 9 (by decide) (by omega), upToV_of h.at_.1 h.at_.2, e 10 (by decide) (by omega), upToV_of h.stamp.1 h.stamp.2, e 11 (by decide) (by omega), upToV_of h.tries.1 h.tries.2, e 12 (by decide) (by omega), upToV_of h.result.1 h.result.2, e 13 (by decide) (by omega), upToV_of h.told.1 h.told.2]
  rfl
theorem got_may {M : PMach} {k a : Nat} {v p : Int} (hm : machMay M = true) (hk : k < M.sess.length) (h14 : (M.at k).num.length = 14) (hT : M.trace.length % 4 = 0) (ha : a < 4) (hv : 0 ≤ v ∧ v ≤ 255) (hp0 : 0 ≤ p) (hp1 : p + 1 ≤ (M.at k).pn) : machMay (gotP M k a v p).1 = true := by
  have hok := here_sess hm hk
  have l1 : k < (M.doN k (5 + a) v).sess.length := by unfold PMach.doN; rw [PMach.len_setS]; exact hk
  have l2 : k < ((M.doN k (5 + a) v).doN k 4 (p + 1)).sess.length := by unfold PMach.doN; rw [PMach.len_setS, PMach.len_setS]; exact hk
  have eat : ((M.doN k (5 + a) v).doN k 4 (p + 1)).at k = ((M.at k).setN (5 + a) v).setN 4 (p + 1) := by rw [at_doN l1, at_doN hk]
  refine tell_may ?_ l2 hT 0 v
  refine machMay_turn hm hk (fun g hg => rfl) (machMay_parts hm).1 rfl rfl rfl (by unfold PMach.doN; rw [PMach.len_setS, PMach.len_setS]) (fun j hj => by unfold PMach.doN; rw [PMach.at_ne hj, PMach.at_ne hj]) ?_ ?_
  · rw [eat, setN_lz (by rw [setN_len, h14]; decide), if_neg (by decide), setN_lz (by rw [h14]; omega), if_neg (by omega)]
  · rw [eat]
    exact sess_got hok h14 ha hv hp0 hp1
theorem word_may {M : PMach} (hm : machMay M = true) {l i : Int} (h : thereV M.lens l i = true) : 0 ≤ M.wz l.toNat (i.toNat * 3) ∧ M.wz l.toNat (i.toNat * 3) ≤ 255 := by
  unfold thereV at h
  rw [decide_eq_true_eq] at h
  obtain ⟨⟨h0, h1⟩, h2, h3⟩ := h
  obtain ⟨h4, hw⟩ := lvMay_get (lvTo_get (machMay_parts hm).1 l.toNat (by omega))
  exact upToV_yes (wmay_yes (wordsTo_get hw i.toNat (by omega))).1
theorem found_may {n : Nat} {z : Nat → Int} {l i : Int} (h : writesMay n z = true) : 0 ≤ findVal n z l i ∧ findVal n z l i ≤ 255 := by
  cases hf : findIs n z l i
  · rw [find_no hf]
    exact ⟨Int.le_refl _, by decide⟩
  · have H := writesMay_get h
    have hf2 := hf
    unfold findIs at hf2
    simp only [Bool.and_eq_true] at hf2
    obtain ⟨k, hk, e1, e2, e3⟩ := inW_of_has H hf2.2
    rw [(find_in H ⟨k, hk, e1, e2, e3⟩).2, ← e3]
    exact (H.alone k hk).2.2
/-- A fetch by a machine that may be gives one that may be; the session is there as before. -/
theorem fetch_here {A : MacM} {M N : PMach} {w : World} (h : MachIs w A M) {k : Nat} (e : fetchP M k = (N, 0)) : hereP N k = true := by
  by_cases he : (needsP M k).2 = 0
  case neg =>
    unfold fetchP at e
    rw [decide_eq_false he] at e
    cases e
  cases hn : (needsP M k).1
  case true =>
    unfold fetchP at e
    rw [hn, Bool.not_true, Bool.and_false] at e
    cases e
  obtain ⟨hh, hr⟩ := needsP_here he
  obtain ⟨hmay, k', ek, hk0⟩ := hereP_yes hh
  obtain rfl : k = k' := by omega
  rw [Int.toNat_natCast] at hr
  have hk : k < A.s.n := by have := h.sess.1; omega
  have h14 : (M.at k).num.length = 14 := (h.sess.2.2.2 k hk).1
  have hT : M.trace.length % 4 = 0 := by have := h.trace.1; omega
  have hok := here_sess hmay hk0
  obtain ⟨p, hI⟩ := ins_at h hk hok hr (by decide)
  have hcode := hI.code hr (by decide)
  obtain ⟨x, y, u, ⟨hb1, hb1'⟩, ⟨hb2, hb3⟩, ⟨hb4, hb5⟩⟩ := hI.word (.inl hcode)
  have hpn : (M.at k).pn = (A.q k).p.n := by
    have h1 : (M.at k).prog.length = (A.q k).p.n * 4 := (h.sess.2.2.2 k hk).2.1.1
    unfold PSess.pn; rw [h1, Nat.mul_div_cancel _ (by decide)]
  have hth : thereV M.lens ((M.at k).ins 2) ((M.at k).ins 3) = true := by rw [hI.ins 2, hI.ins 3]; exact hI.there hok hpn (.inl hcode)
  have ha : ((M.at k).ins 1).toNat < 4 := by rw [hI.ins 1, hb1]; omega
  have hp0 : 0 ≤ (M.at k).pc := hok.pc.1
  have hp1 : (M.at k).pc + 1 ≤ (M.at k).pn := by
    have := hI.lt
    have e4 : (M.at k).pc = p := hI.pc
    omega
  have fin : ∀ X : PMach, machMay X = true → X.sess.length = M.sess.length → hereP X k = true := fun X h1 h2 => by
    unfold hereP
    rw [h1, decide_eq_true (by omega : (0 : Int) ≤ k), decide_eq_true (by omega : (k : Int) < (X.sess.length : Int))]
    rfl
  have gl : ∀ (X : PMach) (a : Nat) (v p : Int), (gotP X k a v p).1.sess.length = X.sess.length := fun X a v p => by
    show (tellP _ k 0 v).sess.length = _
    rw [tellP_sess]
    unfold PMach.doN
    rw [PMach.len_setS, PMach.len_setS]
  have eF : fetchP M k = bif findIs (M.at k).tn (lz (M.at k).writes) ((M.at k).ins 2) ((M.at k).ins 3) then gotP M k ((M.at k).ins 1).toNat (findVal (M.at k).tn (lz (M.at k).writes) ((M.at k).ins 2) ((M.at k).ins 3)) (M.at k).pc
      else bif decide (M.wz ((M.at k).ins 2).toNat (((M.at k).ins 3).toNat * 3 + 2) = 0) && M.good (M.at k) then
        bif decide (withE (M.at k).rn (lz (M.at k).reads) ((M.at k).ins 2) ((M.at k).ins 3) (M.wz ((M.at k).ins 2).toNat (((M.at k).ins 3).toNat * 3 + 1)) = 0) then
          gotP (M.setS k ((M.at k).setL 1 ((M.at k).withR ((M.at k).ins 2) ((M.at k).ins 3) (M.wz ((M.at k).ins 2).toNat (((M.at k).ins 3).toNat * 3 + 1))))) k ((M.at k).ins 1).toNat (M.wz ((M.at k).ins 2).toNat (((M.at k).ins 3).toNat * 3)) (M.at k).pc
        else (noMach, 1500)
      else againP M k 3 := by
    unfold fetchP
    rw [decide_eq_true he, hn, Int.toNat_natCast]
    rfl
  rw [eF] at e
  clear eF
  cases hf : findIs (M.at k).tn (lz (M.at k).writes) ((M.at k).ins 2) ((M.at k).ins 3)
  · rw [hf] at e
    cases hg : decide (M.wz ((M.at k).ins 2).toNat (((M.at k).ins 3).toNat * 3 + 2) = 0) && M.good (M.at k)
    · rw [hg] at e
      have e' : againP M k 3 = (N, 0) := e
      rw [againP_ok hh hk0 rfl] at e'
      have := congrArg Prod.fst e'
      show hereP ((N, (0 : Int)).1) k = true
      rw [← this]
      exact again_here hmay h.four hk0 h14 hT 3
    · rw [hg] at e
      simp only [Bool.and_eq_true, decide_eq_true_eq] at hg
      cases hw : decide (withE (M.at k).rn (lz (M.at k).reads) ((M.at k).ins 2) ((M.at k).ins 3) (M.wz ((M.at k).ins 2).toNat (((M.at k).ins 3).toNat * 3 + 1)) = 0)
      · rw [hw] at e
        cases e
      · rw [hw] at e
        have hwo : withOk (M.at k).rn (lz (M.at k).reads) ((M.at k).ins 2) ((M.at k).ins 3) (M.wz ((M.at k).ins 2).toNat (((M.at k).ins 3).toNat * 3 + 1)) = true := by
          unfold withE at hw
          cases hx : withOk (M.at k).rn (lz (M.at k).reads) ((M.at k).ins 2) ((M.at k).ins 3) (M.wz ((M.at k).ins 2).toNat (((M.at k).ins 3).toNat * 3 + 1))
          · rw [hx] at hw; revert hw; decide
          · rfl
        have hgw := good_with hg.2 hwo hth rfl hg.1
        generalize M.wz ((M.at k).ins 2).toNat (((M.at k).ins 3).toNat * 3 + 1) = ver at *
        generalize hR : (M.at k).withR ((M.at k).ins 2) ((M.at k).ins 3) ver = R at *
        have eR : R.length / 3 = withN (M.at k).rn (lz (M.at k).reads) ((M.at k).ins 2) ((M.at k).ins 3) ver := by
          rw [← hR]
          unfold PSess.withR
          rw [List.length_map, List.length_range, Nat.mul_div_cancel _ (by decide)]
        have hgR : goodV M.lens M.wz (R.length / 3) (lz R) (lz (M.at k).num 0) = true := by
          rw [eR, ← hR]
          unfold PSess.withR
          rw [goodV_cells (x := putR (lz (M.at k).reads) (M.at k).rn ((M.at k).ins 2) ((M.at k).ins 3) ver) fun j hj => lz_map hj]
          exact hgw
        unfold goodV at hgR
        simp only [Bool.and_eq_true] at hgR
        obtain ⟨_, q2, q3⟩ := fitR_get (goodOk_get hgR.1).1
        have eM : (M.setS k ((M.at k).setL 1 R)).at k = (M.at k).setL 1 R := PMach.at_setS hk0
        have hm2 : machMay (M.setS k ((M.at k).setL 1 R)) = true :=
          machMay_turn hmay hk0 (fun g hg => rfl) (machMay_parts hmay).1 rfl rfl rfl (PMach.len_setS _ _ _) (fun j hj => PMach.at_ne hj) (by rw [eM]; rfl) (by rw [eM]; exact sess_reads hok q2 q3)
        have := congrArg Prod.fst e
        show hereP ((N, (0 : Int)).1) k = true
        rw [← this]
        refine fin _ (got_may hm2 (by rw [PMach.len_setS]; exact hk0) (by rw [eM]; exact h14) hT ha (word_may hmay hth) hp0 (by rw [eM]; exact hp1)) ?_
        show (gotP (M.setS k ((M.at k).setL 1 R)) k _ _ _).1.sess.length = _
        rw [gl, PMach.len_setS]
  · rw [hf] at e
    have := congrArg Prod.fst e
    show hereP ((N, (0 : Int)).1) k = true
    rw [← this]
    exact fin _ (got_may hmay hk0 h14 hT ha (found_may hok.writes) hp0 hp1) (gl _ _ _ _)
end Go.Proofs.YtaaenolbfhhnfaaGreat
namespace Go.Proofs.YtaaenolbfhhnfaaGreat
open Go.RowKit
set_option linter.unusedSimpArgs false
set_option linter.unusedVariables false
/-- The join of the first p levels; how often it rose. -/
def joinP (G : Nat → Int) : Nat → Int
  | 0 => 0
  | p + 1 => bits .or .i64 (joinP G p) (G p)
def upsP (G : Nat → Int) : Nat → Nat
  | 0 => 0
  | p + 1 => upsP G p + if underV (G p) (joinP G p) = true then 0 else 1
theorem or_label {a b : Nat} (ha : a ≤ 3) (hb : b ≤ 3) : ∃ c : Nat, bits .or .i64 (a : Int) b = c ∧ c ≤ 3 ∧ (underV (b : Int) a = true → c = a) ∧ (underV (b : Int) a = false → c ≠ a ∧ (a = 0 ∨ c = 3) ∧ a ≠ 3) := by
  have ea : a = 0 ∨ a = 1 ∨ a = 2 ∨ a = 3 := by omega
  have eb : b = 0 ∨ b = 1 ∨ b = 2 ∨ b = 3 := by omega
  rcases ea with rfl | rfl | rfl | rfl <;> rcases eb with rfl | rfl | rfl | rfl
  all_goals first
    | exact ⟨0, by decide +kernel, by decide, by decide +kernel, by decide +kernel⟩
    | exact ⟨1, by decide +kernel, by decide, by decide +kernel, by decide +kernel⟩
    | exact ⟨2, by decide +kernel, by decide, by decide +kernel, by decide +kernel⟩
    | exact ⟨3, by decide +kernel, by decide, by decide +kernel, by decide +kernel⟩
theorem ups_few {G : Nat → Int} (hG : ∀ j, 0 ≤ G j ∧ G j ≤ 3) : ∀ p, ∃ a : Nat, joinP G p = a ∧ a ≤ 3 ∧ upsP G p ≤ p ∧ upsP G p ≤ (if a = 0 then 0 else if a = 3 then 2 else 1)
  | 0 => ⟨0, rfl, by decide, Nat.le_refl _, Nat.le_refl _⟩
  | p + 1 => by
    obtain ⟨a, e, ha, h1, h2⟩ := ups_few hG p
    obtain ⟨b, eb⟩ : ∃ b : Nat, G p = b := ⟨(G p).toNat, (Int.toNat_of_nonneg (hG p).1).symm⟩
    have hb : b ≤ 3 := by have := (hG p).2; omega
    obtain ⟨c, ec, hc, h3, h4⟩ := or_label ha hb
    have hu : upsP G (p + 1) = upsP G p + if underV (b : Int) a = true then 0 else 1 := by
      show upsP G p + (if underV (G p) (joinP G p) = true then 0 else 1) = _
      rw [e, eb]
    refine ⟨c, by show bits .or .i64 (joinP G p) (G p) = _; rw [e, eb, ec], hc, ?_, ?_⟩
    · rw [hu]
      split <;> omega
    · rw [hu]
      cases hx : underV (b : Int) a
      · obtain ⟨q1, q2, q3⟩ := h4 hx
        rw [if_neg (by decide)]
        by_cases a0 : a = 0
        · rw [if_pos a0] at h2
          by_cases c0 : c = 0
          · omega
          · rw [if_neg c0]
            split <;> omega
        · rw [if_neg a0, if_neg q3] at h2
          have : c = 3 := by omega
          rw [if_neg (by omega), if_pos this]
          omega
      · rw [if_pos rfl, h3 hx]
        exact h2
/-- It rises twice at most. -/
theorem ups_two {G : Nat → Int} (hG : ∀ j, 0 ≤ G j ∧ G j ≤ 3) (p : Nat) : upsP G p ≤ 2 := by
  obtain ⟨a, _, _, _, h⟩ := ups_few hG p
  split at h
  · omega
  · split at h <;> omega
end Go.Proofs.YtaaenolbfhhnfaaGreat
