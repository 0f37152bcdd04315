/-
  Several small texts in one: UndoMay, UndoPure, TellMay, DriftProg, DriftPure, FetchPure.
-/
import Derived.Test.YtaaenolbfhhnfaaGreatZlbc
import Derived.Test.YtaaenolbfhhnfaaGreatZlah
import Derived.Test.YtaaenolbfhhnfaaGreatZhUndoAgainProg
import Derived.Test.YtaaenolbfhhnfaaGreatZlai
import Derived.Test.YtaaenolbfhhnfaaGreatZhFetchRef
namespace Go.Proofs.YtaaenolbfhhnfaaGreat
open Go.RowKit
set_option linter.unusedSimpArgs false
set_option linter.unusedVariables false
theorem PMach.at_ne {M : PMach} {k j : Nat} {y : PSess} (h : j ≠ k) : (M.setS k y).at j = M.at j := by
  show (M.sess.set k y).getD j noSess = _
  rw [getD_set_ne' _ _ (Ne.symm h)]; rfl
theorem PMach.len_setS (M : PMach) (k : Nat) (y : PSess) : (M.setS k y).sess.length = M.sess.length := by show (M.sess.set k y).length = _; rw [List.length_set]
theorem setN_lz {x : PSess} {j c : Nat} {v : Int} (hj : j < x.num.length) : lz (x.setN j v).num c = if c = j then v else lz x.num c := lz_set hj
theorem setN_len (x : PSess) (j : Nat) (v : Int) : (x.setN j v).num.length = x.num.length := by unfold PSess.setN; rw [List.length_set]
def looseS (x : PSess) : PSess := (((x.setL 1 []).setL 2 []).setN 9 0).setN 10 0
/-- A machine whose session k is y, but for its words' locks. -/
theorem may_loose {M N : PMach} {k : Nat} {y : PSess} {id : Int} (h : machMay M = true) (h4 : M.words.length = 4) (hk : k < M.sess.length) (hw : N.words = (looseW id M 4).words) (hc : N.clocks = M.clocks) (hce : N.ceil = M.ceil) (ht : N.trace = M.trace) (hl : N.sess.length = M.sess.length)
    (ho : ∀ j, j ≠ k → N.at j = M.at j) (hy : N.at k = y) (hid : lz y.num 0 = lz (M.at k).num 0) (hs : sessMayP M.lens y = true) : machMay N = true := by
  obtain ⟨a1, a2⟩ := looseW_amay id h4 (machMay_parts h).1
  have el : N.lens = (looseW id M 4).lens := by funext g; unfold PMach.lens PMach.lv; rw [hw]
  have ez : N.wz = (looseW id M 4).wz := by funext g; unfold PMach.wz PMach.lv; rw [hw]
  exact machMay_turn h hk (fun g hg => by rw [el]; exact a1 g hg) (by rw [el, ez]; exact a2) hc hce ht hl ho (by rw [hy]; exact hid) (by rw [hy]; exact hs)
theorem sess_loose {s : Nat → Sl} {x y : PSess} (h : SessOk s x) (hp : y.prog = x.prog) (hr : y.reads = []) (ht : y.writes = []) (h012 : ∀ c, c < 3 → lz y.num c = lz x.num c) (h3 : 0 ≤ lz y.num 3 ∧ lz y.num 3 ≤ 6) (h4 : 0 ≤ lz y.num 4 ∧ lz y.num 4 ≤ x.pn) (hg : ∀ c, c < 4 → 0 ≤ lz y.num (5 + c) ∧ lz y.num (5 + c) ≤ 255)
    (h9 : lz y.num 9 = 0) (h10 : lz y.num 10 = 0) (h11 : 0 ≤ lz y.num 11 ∧ lz y.num 11 ≤ 65535) (h12 : 0 ≤ lz y.num 12 ∧ lz y.num 12 ≤ 5) (h13 : 0 ≤ lz y.num 13 ∧ lz y.num 13 ≤ 255) : sessMayP s y = true := by
  have hpn : y.pn = x.pn := by unfold PSess.pn; rw [hp]
  have hrn : y.rn = 0 := by unfold PSess.rn; rw [hr]; rfl
  have htn : y.tn = 0 := by unfold PSess.tn; rw [ht]; rfl
  unfold sessMayP sessMay wordsThere
  rw [hpn, hrn, htn, hp, h012 0 (by decide), h012 1 (by decide), h012 2 (by decide), h.start, h.prog, upToV_of h3.1 h3.2, upToV_of h4.1 h4.2, allUp_mk (c := regsI (lz y.num)) (h := 255) (n := 4) fun c hc => upToV_of (hg c hc).1 (hg c hc).2, h9, h10, upToV_of h11.1 h11.2, upToV_of h12.1 h12.2, upToV_of h13.1 h13.2]
  rfl
theorem looseP_parts {M : PMach} {k : Nat} (hk : k < M.sess.length) : (looseP M k).at k = looseS (M.at k) ∧ (∀ j, j ≠ k → (looseP M k).at j = M.at j) ∧ (looseP M k).sess.length = M.sess.length := by
  have e0 : ∀ id, (looseW id M 4).sess = M.sess := fun id => rfl
  unfold looseP
  generalize hI : looseW (lz (M.at k).num 0) M 4 = I
  have hIs : I.sess = M.sess := by rw [← hI]; exact e0 _
  have hIa : ∀ j, I.at j = M.at j := fun j => by unfold PMach.at; rw [hIs]
  have hkI : k < I.sess.length := by rw [hIs]; exact hk
  unfold PMach.doN PMach.doL
  refine ⟨?_, fun j hj => ?_, ?_⟩
  · rw [PMach.at_setS (by rw [PMach.len_setS, PMach.len_setS, PMach.len_setS]; exact hkI), PMach.at_setS (by rw [PMach.len_setS, PMach.len_setS]; exact hkI), PMach.at_setS (by rw [PMach.len_setS]; exact hkI), PMach.at_setS hkI, hIa]
    rfl
  · rw [PMach.at_ne hj, PMach.at_ne hj, PMach.at_ne hj, PMach.at_ne hj, hIa]
  · rw [PMach.len_setS, PMach.len_setS, PMach.len_setS, PMach.len_setS, hIs]
theorem looseS_lz {x : PSess} (h : x.num.length = 14) (c : Nat) : lz (looseS x).num c = if c = 10 then 0 else if c = 9 then 0 else lz x.num c := by
  have e : ((x.setL 1 []).setL 2 []).num = x.num := rfl
  unfold looseS
  rw [setN_lz (by rw [setN_len, e, h]; decide), setN_lz (by rw [e, h]; decide), e]
theorem looseS_len (x : PSess) : (looseS x).num.length = x.num.length := by
  unfold looseS
  rw [setN_len, setN_len]; rfl
def againS (x : PSess) (T : Int) : PSess := (((((((looseS x).setN 3 0).setN 4 0).setN 5 0).setN 6 0).setN 7 0).setN 8 0).setN 11 T
theorem againS_lz {x : PSess} (h : x.num.length = 14) (T : Int) (c : Nat) : lz (againS x T).num c = if c = 11 then T else if 3 ≤ c ∧ c ≤ 10 then 0 else lz x.num c := by
  unfold againS
  rw [setN_lz (by simp only [setN_len, looseS_len, h]; decide), setN_lz (by simp only [setN_len, looseS_len, h]; decide), setN_lz (by simp only [setN_len, looseS_len, h]; decide), setN_lz (by simp only [setN_len, looseS_len, h]; decide), setN_lz (by simp only [setN_len, looseS_len, h]; decide), setN_lz (by simp only [setN_len, looseS_len, h]; decide), setN_lz (by simp only [looseS_len, h]; decide), looseS_lz h]
  by_cases e : c = 11
  · rw [if_pos e, if_pos e]
  · rw [if_neg e, if_neg e]
    by_cases e2 : 3 ≤ c ∧ c ≤ 10
    · rw [if_pos e2]
      have : c = 3 ∨ c = 4 ∨ c = 5 ∨ c = 6 ∨ c = 7 ∨ c = 8 ∨ c = 9 ∨ c = 10 := by omega
      rcases this with rfl | rfl | rfl | rfl | rfl | rfl | rfl | rfl <;> simp
    · rw [if_neg e2, if_neg (by omega), if_neg (by omega), if_neg (by omega), if_neg (by omega), if_neg (by omega), if_neg (by omega), if_neg (by omega), if_neg (by omega)]
theorem triesP_up {M : PMach} {k : Nat} (h : 0 ≤ lz (M.at k).num 11 ∧ lz (M.at k).num 11 ≤ 65535) : 0 ≤ triesP M k ∧ triesP M k ≤ 65535 := by
  have e : wrap64 (lz (M.at k).num 11 + 1) = lz (M.at k).num 11 + 1 := by
    have := h.1; have := h.2
    simp only [wrap64] <;> omega
  unfold triesP
  rw [e]
  split <;> omega
theorem againM_may {M : PMach} {k : Nat} (h : machMay M = true) (h4 : M.words.length = 4) (hk : k < M.sess.length) (h14 : (M.at k).num.length = 14) : machMay (againM M k) = true := by
  obtain ⟨p1, p2, p3⟩ := looseP_parts hk
  have hok := here_sess h hk
  have hL : k < (looseP M k).sess.length := by rw [p3]; exact hk
  have hat : (againM M k).at k = againS (M.at k) (triesP M k) := by
    unfold againM PMach.doR PMach.doN
    rw [PMach.at_setS (by simp only [PMach.len_setS]; exact hL), PMach.at_setS (by simp only [PMach.len_setS]; exact hL), PMach.at_setS (by simp only [PMach.len_setS]; exact hL), PMach.at_setS (by simp only [PMach.len_setS]; exact hL), PMach.at_setS (by simp only [PMach.len_setS]; exact hL), PMach.at_setS (by simp only [PMach.len_setS]; exact hL), PMach.at_setS hL, p1]
    rfl
  have lz' := againS_lz h14 (triesP M k)
  refine may_loose (id := lz (M.at k).num 0) h h4 hk (N := againM M k) rfl rfl rfl rfl ?_ (fun j hj => ?_) hat (by rw [lz']; simp) (sess_loose hok rfl rfl rfl (fun c hc => ?_) ?_ ?_ (fun c hc => ?_) ?_ ?_ ?_ ?_ ?_)
  · unfold againM PMach.doR PMach.doN
    simp only [PMach.len_setS]; exact p3
  · unfold againM PMach.doR PMach.doN
    simp only [PMach.at_ne hj]; exact p2 j hj
  · rw [lz', if_neg (by omega), if_neg (by omega)]
  · rw [lz']; simp
  · rw [lz']; simp
  · rw [lz', if_neg (by omega), if_pos (by omega)]; omega
  · rw [lz']; simp
  · rw [lz']; simp
  · rw [lz']; simpa using triesP_up hok.tries
  · rw [lz']; simpa using hok.result
  · rw [lz']; simpa using hok.told
theorem setS_setS (N : PMach) (k : Nat) (y z : PSess) : (N.setS k y).setS k z = N.setS k z := by unfold PMach.setS; simp
theorem setS_doN {N : PMach} {k b : Nat} {v : Int} {y : PSess} (hk : k < N.sess.length) : (N.setS k y).doN k b v = N.setS k (y.setN b v) := by unfold PMach.doN; rw [PMach.at_setS hk, setS_setS]
theorem againM_doc {M : PMach} {k : Nat} (hk : k < M.sess.length) : againM M k = ((((looseP M k).doN k 4 0).doR k 0 0 0 0).doN k 3 0).doN k 11 (triesP M k) := by
  have hL : k < (looseP M k).sess.length := by rw [(looseP_parts hk).2.2]; exact hk
  unfold againM PMach.doR
  generalize looseP M k = N at hL
  have e : ∀ (a : Nat) (u : Int), N.doN k a u = N.setS k ((N.at k).setN a u) := fun _ _ => rfl
  rw [e 3 0, e 4 0]
  simp only [setS_doN hL]
  congr 1
  unfold PSess.setN
  simp only
  rw [List.set_comm (0 : Int) 0 (by decide : 3 ≠ 4), List.set_comm (0 : Int) 0 (by decide : 3 ≠ 5), List.set_comm (0 : Int) 0 (by decide : 3 ≠ 6), List.set_comm (0 : Int) 0 (by decide : 3 ≠ 7), List.set_comm (0 : Int) 0 (by decide : 3 ≠ 8)]
theorem undoAgain_any (A : MacM) (M : PMach) (i kind : Int) (w : World) (h : MachIs w A M) :
    Calls Tryz.prog 89 #[machA A M, .int .i64 i, .int .i64 kind] w (MRet w (againP M i kind)) := by
  refine undoAgain_of A M i kind w h fun k hh hu => ?_
  obtain ⟨hm, k', e, hk⟩ := hereP_yes hh
  obtain rfl : k = k' := by omega
  have h14 : (M.at k).num.length = 14 := (h.sess.2.2.2 k (by have := h.sess.1; omega)).1
  have hm2 := againM_may hm h.four hk h14
  have hk2 : k < (againM M k).sess.length := by
    unfold againM PMach.doR PMach.doN
    simp only [PMach.len_setS, (looseP_parts hk).2.2]; exact hk
  refine ⟨by rw [(looseP_parts hk).1, looseS_lz h14]; simp, ?_⟩
  unfold tellingP againP
  have hq : (kind == 3 || kind == 5) = true := by rcases hu with rfl | rfl <;> rfl
  have hkd : upToV kind 6 = true := by rcases hu with rfl | rfl <;> rfl
  rw [hh, hq, hkd, show hereP (againM M k) k = true by unfold hereP; rw [hm2, decide_eq_true (by omega : (0 : Int) ≤ k), decide_eq_true (by omega : (k : Int) < ((againM M k).sess.length : Int))]; rfl, Int.toNat_natCast]
  rw [againM_doc hk]
  rfl
end Go.Proofs.YtaaenolbfhhnfaaGreat
namespace Go.Proofs.YtaaenolbfhhnfaaGreat
open Go.RowKit
set_option linter.unusedSimpArgs false
set_option linter.unusedVariables false
theorem tellP_words (M : PMach) (k : Nat) (c v : Int) : (tellP M k c v).words = M.words := by unfold tellP; split <;> rfl
theorem tellP_clocks (M : PMach) (k : Nat) (c v : Int) : (tellP M k c v).clocks = M.clocks := by unfold tellP; split <;> rfl
theorem tellP_ceil (M : PMach) (k : Nat) (c v : Int) : (tellP M k c v).ceil = M.ceil := by unfold tellP; split <;> rfl
theorem tellP_sess (M : PMach) (k : Nat) (c v : Int) : (tellP M k c v).sess = M.sess := by unfold tellP; split <;> rfl
theorem tellP_lv (M : PMach) (k : Nat) (c v : Int) (g : Nat) : (tellP M k c v).lv g = M.lv g := by unfold PMach.lv; rw [tellP_words]
/-- Behind Again, behind End. -/
def againR (M : PMach) (k : Nat) (c : Int) : PMach := tellP (againM M k) k c (triesP M k)
theorem againP_ok {M : PMach} {k : Nat} {c : Int} (hh : hereP M k = true) (hk : k < M.sess.length) (hq : (c == 3 || c == 5) = true) : againP M k c = (againR M k c, 0) := by
  unfold againP againR
  rw [hh, hq, Int.toNat_natCast, againM_doc hk]
  rfl
/-- What a machine is behind Again or End, but for its session and its trace. -/
structure Loosed (M N : PMach) (k : Nat) : Prop where
  four : N.words.length = 4
  words : ∀ g, g < 4 → N.lv g = freeTo (lz (M.at k).num 0) (M.lv g) ((M.lv g).length / 3)
  clocks : N.clocks = M.clocks
  ceil : N.ceil = M.ceil
  len : N.sess.length = M.sess.length
  other : ∀ j, j ≠ k → N.at j = M.at j
  reads : (N.at k).reads = []
  writes : (N.at k).writes = []
  prog : (N.at k).prog = (M.at k).prog
theorem looseP_lv {M : PMach} (h4 : M.words.length = 4) (k : Nat) {g : Nat} (hg : g < 4) : (looseP M k).lv g = freeTo (lz (M.at k).num 0) (M.lv g) ((M.lv g).length / 3) := by
  have := looseW_lv (lz (M.at k).num 0) M h4 4 (Nat.le_refl _) g hg
  rw [if_pos hg] at this
  exact this
theorem doN_words (M : PMach) (k j : Nat) (v : Int) : (M.doN k j v).words = M.words := rfl
theorem doN_clocks (M : PMach) (k j : Nat) (v : Int) : (M.doN k j v).clocks = M.clocks := rfl
theorem doN_ceil (M : PMach) (k j : Nat) (v : Int) : (M.doN k j v).ceil = M.ceil := rfl
theorem doR_words (M : PMach) (k : Nat) (a b c d : Int) : (M.doR k a b c d).words = M.words := by unfold PMach.doR; rw [doN_words, doN_words, doN_words, doN_words]
theorem doR_clocks (M : PMach) (k : Nat) (a b c d : Int) : (M.doR k a b c d).clocks = M.clocks := by unfold PMach.doR; rw [doN_clocks, doN_clocks, doN_clocks, doN_clocks]
theorem doR_ceil (M : PMach) (k : Nat) (a b c d : Int) : (M.doR k a b c d).ceil = M.ceil := by unfold PMach.doR; rw [doN_ceil, doN_ceil, doN_ceil, doN_ceil]
theorem againM_words (M : PMach) (k : Nat) : (againM M k).words = (looseP M k).words := by unfold againM; simp only [doN_words, doR_words]
theorem againM_clocks (M : PMach) (k : Nat) : (againM M k).clocks = M.clocks := by unfold againM; simp only [doN_clocks, doR_clocks]; rfl
theorem againM_ceil (M : PMach) (k : Nat) : (againM M k).ceil = M.ceil := by unfold againM; simp only [doN_ceil, doR_ceil]; rfl
theorem againM_lv (M : PMach) (k g : Nat) : (againM M k).lv g = (looseP M k).lv g := by unfold PMach.lv; rw [againM_words]
theorem againM_at {M : PMach} {k : Nat} (hk : k < M.sess.length) : (againM M k).at k = againS (M.at k) (triesP M k) := by
  obtain ⟨p1, p2, p3⟩ := looseP_parts hk
  have hL : k < (looseP M k).sess.length := by rw [p3]; exact hk
  unfold againM PMach.doR PMach.doN
  rw [PMach.at_setS (by simp only [PMach.len_setS]; exact hL), PMach.at_setS (by simp only [PMach.len_setS]; exact hL), PMach.at_setS (by simp only [PMach.len_setS]; exact hL), PMach.at_setS (by simp only [PMach.len_setS]; exact hL), PMach.at_setS (by simp only [PMach.len_setS]; exact hL), PMach.at_setS (by simp only [PMach.len_setS]; exact hL), PMach.at_setS hL, p1]
  rfl
theorem againR_at {M : PMach} {k : Nat} (hk : k < M.sess.length) (c : Int) : (againR M k c).at k = againS (M.at k) (triesP M k) := by unfold againR; rw [tellP_at, againM_at hk]
theorem againR_loosed {M : PMach} {k : Nat} (h4 : M.words.length = 4) (hk : k < M.sess.length) (c : Int) : Loosed M (againR M k c) k := by
  obtain ⟨p1, p2, p3⟩ := looseP_parts hk
  have hw : (looseP M k).words.length = 4 := by
    show (looseW _ M 4).words.length = 4
    rw [looseW_len, h4]
  refine ⟨?_, fun g hg => ?_, ?_, ?_, ?_, fun j hj => ?_, ?_, ?_, ?_⟩
  · unfold againR; rw [tellP_words, againM_words]; exact hw
  · unfold againR; rw [tellP_lv, againM_lv]; exact looseP_lv h4 k hg
  · unfold againR; rw [tellP_clocks, againM_clocks]
  · unfold againR; rw [tellP_ceil, againM_ceil]
  · unfold againR againM PMach.doR PMach.doN; rw [tellP_sess]; simp only [PMach.len_setS]; exact p3
  · unfold againR againM PMach.doR PMach.doN; rw [tellP_at]; simp only [PMach.at_ne hj]; exact p2 j hj
  · rw [againR_at hk]; rfl
  · rw [againR_at hk]; rfl
  · rw [againR_at hk]; rfl
end Go.Proofs.YtaaenolbfhhnfaaGreat
namespace Go.Proofs.YtaaenolbfhhnfaaGreat
open Go.RowKit
set_option linter.unusedSimpArgs false
set_option linter.unusedVariables false
theorem SessOk.label {s : Nat → Sl} {x : PSess} (h : SessOk s x) : upToV (lz x.num 1) 3 = true := by
  have h1 := h.start
  unfold startMay at h1
  simp only [Bool.and_eq_true] at h1
  have h2 := h1.2.1
  unfold belowV at h2
  split at h2
  · rename_i hc
    exact upToV_of hc.1.1 (by omega)
  · cases h2
theorem SessOk.clear {s : Nat → Sl} {x : PSess} (h : SessOk s x) : upToV (lz x.num 2) 3 = true := by
  have h1 := h.start
  unfold startMay at h1
  simp only [Bool.and_eq_true] at h1
  have h2 := h1.2.1
  unfold belowV at h2
  split at h2
  · rename_i hc
    exact upToV_of hc.2.1 (by omega)
  · cases h2
end Go.Proofs.YtaaenolbfhhnfaaGreat
namespace Go.Proofs.YtaaenolbfhhnfaaGreat
open Go.RowKit
set_option linter.unusedSimpArgs false
set_option linter.unusedVariables false
theorem below_lab {a b : Int} (ha : upToV a 3 = true) (hb : upToV b 3 = true) : belowV a b = underV a b := by
  obtain ⟨x, rfl, hx⟩ := upToV_nat (m := 3) ha
  obtain ⟨y, rfl, hy⟩ := upToV_nat (m := 3) hb
  have e1 : x = 0 ∨ x = 1 ∨ x = 2 ∨ x = 3 := by omega
  have e2 : y = 0 ∨ y = 1 ∨ y = 2 ∨ y = 3 := by omega
  rcases e1 with rfl | rfl | rfl | rfl <;> rcases e2 with rfl | rfl | rfl | rfl <;> decide +kernel
theorem row_one {W : World} {b : Nat} {v : Int} (h : Blk W b [.int .i64 v]) : Row W (some ⟨b, 0, none⟩) 1 fun _ => .int .i64 v := fun j hj => by
  obtain rfl : j = 0 := by omega
  exact ⟨b, 0, rfl, h.lt, h.cell 0 _ rfl⟩
set_option maxRecDepth 100000 in
set_option maxHeartbeats 1000000 in
theorem driftRead_any (q : SesM) (x : PSess) (p : Nat) (w : World) (h : SessIs w q x) (hp : lz x.num 4 = p) (hlt : p < q.p.n) :
    Calls Tryz.prog 76 #[.agg (sessOf q x).toArray] w fun e w' => e = .returned (.int .i64 (lz x.prog (p * 4 + 2))) ∧ Below w.heap.size w w' := by
  have i1 : (p : Int) < (q.p.n : Int) := by omega
  obtain ⟨bp, op, hbp, _, _⟩ := h.2.1.four hlt
  have hI : Hid (∀ W, Below w.heap.size w W → W.cell? ⟨bp, op + p * 4 + 2, none⟩ = some (.int .i64 (lz x.prog (p * 4 + 2)))) := fun W hb => by
    obtain ⟨b2, o2, e2, _, r⟩ := (h.below hb).2.1.four hlt
    rw [hbp] at e2; cases e2
    exact r 2 _ rfl
  obtain ⟨V0, hV0⟩ : ∃ V0, V0 = Value.agg (sessOf q x).toArray := ⟨_, rfl⟩
  rw [← hV0]
  have HV : Hid (V0.cells = (sessOf q x).toArray) := by rw [hV0]; rfl
  clear hV0 h
  have HS := hide (St.refl w)
  go_enter Tryz.func76, Tryz.ntmps76
  go_upto_region 1 with (first | ((with_reducible refine isList ?_); first | (refine st_box HS _ _ rfl rfl (sessOf q x) HV.out ?_; clear HS; intro W b HS)))
  have d3 : W.cell? ⟨b, 3, none⟩ = some (.slice (some ⟨bp, op, none⟩) q.p.n q.p.c) := by rw [← hbp]; exact (HS.out.blk 0 rfl).cell 3 _ rfl
  have d5 : W.cell? ⟨b, 5, none⟩ = some (.int .i64 p) := by rw [← hp]; exact (HS.out.blk 0 rfl).cell 5 _ rfl
  have c0 := hI.out W HS.out.below
  clear hbp
  replace hp := hide hp
  go_wp2
  go_ret
  exact ⟨rfl, HS.out.below⟩
theorem needsP_code (M : PMach) (i : Int) : needsP M i = bif atCodeP M i (fun _ => 2) 1 then (!underV ((M.at i.toNat).ins 2) (lz (M.at i.toNat).num 1), 0) else (false, 1400) := by
  have e : decide (runP (M.at i.toNat) = 2) = ((M.at i.toNat).runs && inTo (fun _ => 2) ((M.at i.toNat).ins 0) 1) := by
    unfold runP inTo
    cases (M.at i.toNat).runs
    · rfl
    · show decide ((M.at i.toNat).ins 0 = 2) = _
      unfold inTo
      simp
  unfold needsP atCodeP
  rw [e]
/-- Whoever stands at a read: what stands there. -/
theorem atRead {M : PMach} {i : Int} (h : atCodeP M i (fun _ => 2) 1 = true) : hereP M i = true ∧ runP (M.at i.toNat) = 2 := by
  have := needsP_code M i
  rw [h] at this
  exact needsP_here (by rw [this]; rfl)
set_option maxRecDepth 100000 in
set_option maxHeartbeats 2000000 in
theorem driftNeeds_any (A : MacM) (M : PMach) (i : Int) (w : World) (h : MachIs w A M) :
    Calls Tryz.prog 30 #[machA A M, .int .i64 i] w fun e w' => e = .returned (.tuple #[.bool (needsP M i).1, .int .i64 (needsP M i).2]) ∧ Below w.heap.size w w' := by
  have hX := hide h.sess.1
  have hrng := hide fun (k : Nat) (hk : k < A.s.n) (W : World) (hb : Below w.heap.size w W) => (h.below hb).sess.range hk
  have hSes : Hid (∀ (k : Nat) (hk : k < A.s.n) (W : World) (hb : Below w.heap.size w W), SessIs W (A.q k) (M.at k)) := fun k hk W hb => (h.below hb).sess.2.2.2 k hk
  have hIns := hide fun (k : Nat) (hk : k < A.s.n) (hok : SessOk M.lens (M.at k)) (c : Int) (hr : runP (M.at k) = c) (hc : c ≠ -1) => ins_at h hk hok hr hc
  have hAt := hide fun (b : Nat) (W : World) (hb : Below w.heap.size w W) (hB : Blk W b [.int .i64 2]) => standAtCode_any A M i (some ⟨b, 0, none⟩) 1 1 (fun _ => 2) W (h.below hb) (by decide) (row_one hB)
  have eN := needsP_code M i
  obtain ⟨V0, hV0⟩ : ∃ V0, V0 = machA A M := ⟨_, rfl⟩
  rw [← hV0]
  have HV : Hid (V0.cells = (machL A M).toArray) := by rw [hV0]; rfl
  clear hV0
  have HM := hide h
  have HS := hide (St.refl w)
  clear h
  go_enter Tryz.func30, Tryz.ntmps30
  go_wp2_with (first | ((with_reducible refine isList ?_); first | (refine st_box HS _ _ rfl rfl (machL A M) HV.out ?_; clear HS; intro W bm HS) | (refine st_loadA HS 0 rfl _ _ rfl rfl rfl (by decide +kernel) (by kernel_rfl) ?_)))
  replace HS := hide (HS.out.alloc [.int .i64 2] 3)
  refine (hAt.out _ _ HS.out.below (HS.out.blk 0 rfl)).mono ?_
  (rintro e Wq ⟨rfl, hb⟩; have HSq := hide (HS.out.on hb); clear HS hb; replace HS := HSq; clear HSq)
  clear hAt
  cases hc : atCodeP M i (fun _ => 2) 1
  · rw [hc] at eN
    replace eN : needsP M i = (false, 1400) := eN
    replace eN := hide eN
    go_wp2
    go_ret2
    rw [eN.out]
    exact ⟨rfl, HS.out.below⟩
  obtain ⟨hh, hr⟩ := atRead hc
  obtain ⟨hmay, k, rfl, hk0⟩ := hereP_yes hh
  rw [Int.toNat_natCast] at hr
  have hk : k < A.s.n := by have := hX.out; omega
  have hok := here_sess hmay hk0
  have i2 : (k : Int) < (A.s.n : Int) := by omega
  obtain ⟨p, hI⟩ := hIns.out k hk hok 2 hr (by decide)
  obtain ⟨x, y, u, _, ⟨hb2, hb3⟩, _⟩ := hI.word (.inl (hI.code hr (by decide)))
  rw [hc, Int.toNat_natCast] at eN
  replace eN : needsP M k = (!underV ((M.at k).ins 2) (lz (M.at k).num 1), 0) := eN
  have eB : belowV (lz (M.at k).prog (p * 4 + 2)) (lz (M.at k).num 1) = underV ((M.at k).ins 2) (lz (M.at k).num 1) := by
    rw [hI.ins 2]
    exact below_lab (by rw [hb2]; exact upToV_of (by omega) (by omega)) hok.label
  have hRead := hide fun (W : World) (hb : Below w.heap.size w W) => driftRead_any (A.q k) (M.at k) p W (hSes.out k hk W hb) hI.pc hI.lt
  replace eN := hide eN; replace eB := hide eB
  clear hb2 hb3 hI hIns hok hmay hh hr hc
  replace HS : Hid (St w Wq [blkI bm (machL A M)]) := hide (HS.out.sel [1] (by decide) rfl)
  obtain ⟨bs, off, hbs, _, hR⟩ := hrng.out k hk _ HS.out.below
  replace hR := hide hR
  go_upto_region 3 with fail
  go_upto_region 4 with (first | ((with_reducible refine isList ?_); first | (refine st_load1 HS 0 rfl _ _ rfl _ rfl rfl (by decide +kernel) rfl ?_) | (refine wpList_load_at _ _ rfl rfl bs (off + k * 17) rfl (sessOf (A.q k) (M.at k)) (by decide +kernel) (by kernel_rfl) hR.out ?_) | (refine st_alloc HS _ rfl rfl zeroSL zeroS ?_; clear HS; intro W b6 HS) | (refine st_storeA HS 0 rfl _ _ _ rfl rfl rfl _ rfl rfl (by kernel_rfl) rfl ?_; clear HS; intro W HS)))
  replace HS : Hid (St w W [blkI b6 (sessOf (A.q k) (M.at k)), blkI bm (machL A M)]) := HS
  clear hR hbs
  have HB := HS.out.blk 0 rfl
  (try simp only [Act.put, List.setIfInBounds_toArray, List.set_cons_zero, List.set_cons_succ])
  refine wp_region_mask [true, false, true, true, false, false, false, false, false, false] [false, true, false, false, true, true, true, true, true, true] [0, 0, 3, 3, 3, 2, 2] (fun w' => Blk w' b6 (sessOf (A.q k) (M.at k))) (by kernel_rfl) (by kernel_rfl) (by kernel_rfl) (by decide +kernel) HB.drew ?_
  intro kne
  simp only [pickAt]
  repeat (first | ((first | (refine wpQuiet_la _ _ rfl b6 (0) rfl rfl (by decide +kernel) (sessOf (A.q k) (M.at k)) (by kernel_rfl) (fun w hC => hC.range) ?_) | (refine wpQuiet_ld _ _ rfl ⟨b6, 1, none⟩ rfl rfl (by decide +kernel) (fun w hC => hC.cell 1 _ rfl) ?_)); simp only [Act.put, List.setIfInBounds_toArray, List.set_cons_zero, List.set_cons_succ]) | go_big_quiet_step (fail))
  refine wpQuiet_nil ?_
  clear kne HB
  replace HS := hide HS.out.drew
  generalize World.drew _ = Wd at *
  refine wpRest_cons rfl rfl fun K hK => ?_
  go_big_op
  refine (hRead.out _ HS.out.below).mono ?_
  (rintro e Wq ⟨rfl, hb⟩; have HSq := hide (HS.out.on hb); clear HS hb; replace HS := HSq; clear HSq)
  refine hK _ _ (fun _ => InC.mk (HS.out.blk 0 rfl)) ?_
  clear hK K
  (try simp only [Act.put, List.setIfInBounds_toArray, List.set_cons_zero, List.set_cons_succ])
  refine wpRest_cons rfl rfl fun K hK => ?_
  go_big_op
  refine (below_any _ _ _).mono ?_
  rintro e w' ⟨rfl, rfl⟩
  refine hK _ _ (fun _ => InC.mk (HS.out.blk 0 rfl)) ?_
  clear hK K
  (try simp only [Act.put, List.setIfInBounds_toArray, List.set_cons_zero, List.set_cons_succ])
  refine wpRest_move _ rfl rfl rfl ?_
  (try simp only [Act.put, List.setIfInBounds_toArray, List.set_cons_zero, List.set_cons_succ])
  refine wpRest_extract _ 0 rfl rfl rfl rfl ?_
  (try simp only [Act.put, List.setIfInBounds_toArray, List.set_cons_zero, List.set_cons_succ])
  refine wpRest_extract _ 1 rfl rfl rfl rfl ?_
  (try simp only [Act.put, List.setIfInBounds_toArray, List.set_cons_zero, List.set_cons_succ])
  refine wpRest_assign _ rfl rfl rfl ?_
  (try simp only [Act.put, List.setIfInBounds_toArray, List.set_cons_zero, List.set_cons_succ])
  refine wpRest_assign _ rfl rfl rfl (wpRest_nil ?_)
  (try simp only [Act.put, List.setIfInBounds_toArray, List.set_cons_zero, List.set_cons_succ])
  refine NoPanic.normal ?_
  rw [eB.out]
  go_wp2
  go_ret2
  rw [eN.out]
  exact ⟨rfl, HS.out.below⟩
end Go.Proofs.YtaaenolbfhhnfaaGreat
namespace Go.Proofs.YtaaenolbfhhnfaaGreat
open Go.RowKit
set_option linter.unusedSimpArgs false
set_option linter.unusedVariables false
theorem needs_out {M : PMach} {i : Int} (h : hereP M i = false) : needsP M i = (false, 1400) := by
  unfold needsP
  rw [h, Bool.false_and]
  rfl
end Go.Proofs.YtaaenolbfhhnfaaGreat
namespace Go.Proofs.YtaaenolbfhhnfaaGreat
open Go.RowKit
set_option linter.unusedSimpArgs false
set_option linter.unusedVariables false
section
variable {s : Nat → Sl} {y : Nat → Nat → Int} {n : Nat} {z x : Nat → Int} {d l i v : Int}
theorem goodV_cells (h : ∀ j, j < n * 3 → z j = x j) : goodV s y n z d = goodV s y n x d := by
  unfold goodV goodOk fitR
  rw [readsMay_congr h, allTo_congr fun j hj => thereP_cells h hj, allTo_congr fun j hj => goodP_cells h hj]
/-- Good reads, and one more of a free word, of its version, are good. -/
theorem good_with (hg : goodV s y n z d = true) (hw : withOk n z l i v = true) (ht : thereV s l i = true) (hv : y l.toNat (i.toNat * 3 + 1) = v) (h0 : y l.toNat (i.toNat * 3 + 2) = 0) :
    goodV s y (withN n z l i v) (putR z n l i v) d = true := by
  have hc : ∀ j, j < n * 3 → putR z n l i v j = z j := fun j hj => putR_old hj
  unfold withN
  rw [hw]
  cases hn : noneTo z l i n
  · show goodV s y n (putR z n l i v) d = true
    rw [goodV_cells hc]
    exact hg
  show goodV s y (n + 1) (putR z n l i v) d = true
  unfold withOk at hw
  simp only [Bool.and_eq_true, hn, Bool.not_true, Bool.false_or, decide_eq_true_eq] at hw
  unfold goodV at hg ⊢
  simp only [Bool.and_eq_true] at hg ⊢
  obtain ⟨hfo, hall⟩ := hg
  obtain ⟨hfit, hd⟩ := goodOk_get hfo
  obtain ⟨ha, hr, hth⟩ := fitR_get hfit
  obtain ⟨e1, e2, e3⟩ := putR_new z n l i v
  refine ⟨goodOk_mk (fitR_mk ha (readsMay_more hr hw.1.2 hn hw.2) ?_) hd, ?_⟩
  · rw [allTo, allTo_congr fun j hj => thereP_cells hc hj, hth, Bool.true_and]
    unfold thereP
    rw [e1, e2]
    exact ht
  · rw [allTo, allTo_congr fun j hj => goodP_cells hc hj, hall, Bool.true_and]
    unfold goodP sameP freeP
    rw [e1, e2, e3, hv, h0]
    simp
end
/-- What a machine is behind a fetch that read. -/
structure Got (M N : PMach) (k : Nat) : Prop where
  words : N.words = M.words
  clocks : N.clocks = M.clocks
  len : N.sess.length = M.sess.length
  pc : lz (N.at k).num 4 = lz (M.at k).num 4 + 1
  tries : lz (N.at k).num 11 = lz (M.at k).num 11
  reads : (N.at k).rn = (M.at k).rn ∨ ((N.at k).rn = (M.at k).rn + 1 ∧ goodV M.lens M.wz (N.at k).rn (lz (N.at k).reads) (lz (M.at k).num 0) = true)
  id : lz (N.at k).num 0 = lz (M.at k).num 0
  good : M.good (M.at k) = true → N.good (N.at k) = true
  prog : (N.at k).prog = (M.at k).prog
  writes : (N.at k).writes = (M.at k).writes
  num : ∀ c, c ≠ 4 → (c < 5 ∨ 9 ≤ c) → lz (N.at k).num c = lz (M.at k).num c
theorem got_of {M M' : PMach} {k a : Nat} {v p : Int} (hk : k < M'.sess.length) (hl : M'.sess.length = M.sess.length) (ha : a < 4) (h14 : (M'.at k).num.length = 14) (hw : M'.words = M.words) (hc : M'.clocks = M.clocks) (hp : lz (M.at k).num 4 = p) (hn : (M'.at k).num = (M.at k).num)
    (hr : (M'.at k).rn = (M.at k).rn ∨ ((M'.at k).rn = (M.at k).rn + 1 ∧ goodV M.lens M.wz (M'.at k).rn (lz (M'.at k).reads) (lz (M.at k).num 0) = true))
    (hg : M.good (M.at k) = true → goodV M.lens M.wz (M'.at k).rn (lz (M'.at k).reads) (lz (M.at k).num 0) = true) (hpr : (M'.at k).prog = (M.at k).prog) (hwr : (M'.at k).writes = (M.at k).writes) : Got M (gotP M' k a v p).1 k := by
  have l1 : k < (M'.doN k (5 + a) v).sess.length := by unfold PMach.doN; rw [PMach.len_setS]; exact hk
  have eat : (gotP M' k a v p).1.at k = ((M'.at k).setN (5 + a) v).setN 4 (p + 1) := by
    show (tellP _ k 0 v).at k = _
    rw [tellP_at, at_doN l1, at_doN hk]
  have els : (gotP M' k a v p).1.sess.length = M.sess.length := by
    show (tellP _ k 0 v).sess.length = _
    rw [tellP_sess]
    unfold PMach.doN
    rw [PMach.len_setS, PMach.len_setS, hl]
  have erd : ((gotP M' k a v p).1.at k).reads = (M'.at k).reads := by rw [eat]; rfl
  have ern : ((gotP M' k a v p).1.at k).rn = (M'.at k).rn := by unfold PSess.rn; rw [erd]
  have eW : (gotP M' k a v p).1.words = M.words := by
    show (tellP _ k 0 v).words = _
    rw [tellP_words]
    exact hw
  have enum : ∀ c, c ≠ 4 → (c < 5 ∨ 9 ≤ c) → lz ((gotP M' k a v p).1.at k).num c = lz (M.at k).num c := fun c h1 h2 => by
    rw [eat, setN_other (by omega), setN_other (by omega), hn]
  refine ⟨eW, ?_, els, ?_, ?_, ?_, enum 0 (by decide) (by decide), fun hG => ?_, ?_, ?_, enum⟩
  · show (tellP _ k 0 v).clocks = _
    rw [tellP_clocks]
    exact hc
  · rw [eat, setN_lz (by rw [setN_len, h14]; decide), if_pos rfl, hp]
  · rw [eat, setN_lz (by rw [setN_len, h14]; decide), if_neg (by decide), setN_lz (by rw [h14]; omega), if_neg (by omega), hn]
  · rw [ern, erd]
    exact hr
  · unfold PMach.good
    rw [ern, erd, enum 0 (by decide) (by decide), show (gotP M' k a v p).1.lens = M.lens by funext g; unfold PMach.lens PMach.lv; rw [eW], show (gotP M' k a v p).1.wz = M.wz by funext g; unfold PMach.wz PMach.lv; rw [eW]]
    exact hg hG
  · rw [eat]
    exact hpr
  · rw [eat]
    exact hwr
theorem fetch_cases {A : MacM} {M : PMach} {w : World} (h : MachIs w A M) (i : Int) :
    fetchP M i = (noMach, 1500) ∨ ∃ k : Nat, i = k ∧ k < M.sess.length ∧ hereP M k = true ∧ ((∃ N, fetchP M i = (N, 0) ∧ Got M N k) ∨ (fetchP M i = (againR M k 3, 0) ∧ (decide (M.wz ((M.at k).ins 2).toNat (((M.at k).ins 3).toNat * 3 + 2) = 0) && M.good (M.at k)) = false)) := by
  by_cases he : (needsP M i).2 = 0
  case neg =>
    left
    unfold fetchP
    rw [decide_eq_false he]
    rfl
  cases hn : (needsP M i).1
  case true =>
    left
    unfold fetchP
    rw [hn, Bool.not_true, Bool.and_false]
    rfl
  obtain ⟨hh, hr⟩ := needsP_here he
  obtain ⟨hmay, k, rfl, hk0⟩ := hereP_yes hh
  rw [Int.toNat_natCast] at hr
  have hk : k < A.s.n := by have := h.sess.1; omega
  have h14 : (M.at k).num.length = 14 := (h.sess.2.2.2 k hk).1
  have hok := here_sess hmay hk0
  obtain ⟨p, hI⟩ := ins_at h hk hok hr (by decide)
  have hcode := hI.code hr (by decide)
  obtain ⟨x, y, u, ⟨hb1, hb1'⟩, ⟨hb2, hb3⟩, ⟨hb4, hb5⟩⟩ := hI.word (.inl hcode)
  have hpn : (M.at k).pn = (A.q k).p.n := by
    have h1 : (M.at k).prog.length = (A.q k).p.n * 4 := (h.sess.2.2.2 k hk).2.1.1
    unfold PSess.pn; rw [h1, Nat.mul_div_cancel _ (by decide)]
  have hth : thereV M.lens ((M.at k).ins 2) ((M.at k).ins 3) = true := by rw [hI.ins 2, hI.ins 3]; exact hI.there hok hpn (.inl hcode)
  have ha : ((M.at k).ins 1).toNat < 4 := by rw [hI.ins 1, hb1]; omega
  have eF : fetchP M k = bif findIs (M.at k).tn (lz (M.at k).writes) ((M.at k).ins 2) ((M.at k).ins 3) then gotP M k ((M.at k).ins 1).toNat (findVal (M.at k).tn (lz (M.at k).writes) ((M.at k).ins 2) ((M.at k).ins 3)) (M.at k).pc
      else bif decide (M.wz ((M.at k).ins 2).toNat (((M.at k).ins 3).toNat * 3 + 2) = 0) && M.good (M.at k) then
        bif decide (withE (M.at k).rn (lz (M.at k).reads) ((M.at k).ins 2) ((M.at k).ins 3) (M.wz ((M.at k).ins 2).toNat (((M.at k).ins 3).toNat * 3 + 1)) = 0) then
          gotP (M.setS k ((M.at k).setL 1 ((M.at k).withR ((M.at k).ins 2) ((M.at k).ins 3) (M.wz ((M.at k).ins 2).toNat (((M.at k).ins 3).toNat * 3 + 1))))) k ((M.at k).ins 1).toNat (M.wz ((M.at k).ins 2).toNat (((M.at k).ins 3).toNat * 3)) (M.at k).pc
        else (noMach, 1500)
      else againP M k 3 := by
    unfold fetchP
    rw [decide_eq_true he, hn, Int.toNat_natCast]
    rfl
  rw [eF]
  cases hf : findIs (M.at k).tn (lz (M.at k).writes) ((M.at k).ins 2) ((M.at k).ins 3)
  · cases hg : decide (M.wz ((M.at k).ins 2).toNat (((M.at k).ins 3).toNat * 3 + 2) = 0) && M.good (M.at k)
    · right
      exact ⟨k, rfl, hk0, hh, .inr ⟨againP_ok hh hk0 rfl, hg⟩⟩
    · simp only [Bool.and_eq_true, decide_eq_true_eq] at hg
      cases hw : decide (withE (M.at k).rn (lz (M.at k).reads) ((M.at k).ins 2) ((M.at k).ins 3) (M.wz ((M.at k).ins 2).toNat (((M.at k).ins 3).toNat * 3 + 1)) = 0)
      · exact .inl rfl
      · right
        refine ⟨k, rfl, hk0, hh, .inl ⟨_, rfl, ?_⟩⟩
        have hwo : withOk (M.at k).rn (lz (M.at k).reads) ((M.at k).ins 2) ((M.at k).ins 3) (M.wz ((M.at k).ins 2).toNat (((M.at k).ins 3).toNat * 3 + 1)) = true := by
          unfold withE at hw
          cases hx : withOk (M.at k).rn (lz (M.at k).reads) ((M.at k).ins 2) ((M.at k).ins 3) (M.wz ((M.at k).ins 2).toNat (((M.at k).ins 3).toNat * 3 + 1))
          · rw [hx] at hw; revert hw; decide
          · rfl
        have hgw := good_with hg.2 hwo hth rfl hg.1
        have eM : (M.setS k ((M.at k).setL 1 ((M.at k).withR ((M.at k).ins 2) ((M.at k).ins 3) (M.wz ((M.at k).ins 2).toNat (((M.at k).ins 3).toNat * 3 + 1))))).at k = (M.at k).setL 1 ((M.at k).withR ((M.at k).ins 2) ((M.at k).ins 3) (M.wz ((M.at k).ins 2).toNat (((M.at k).ins 3).toNat * 3 + 1))) := PMach.at_setS hk0
        generalize M.wz ((M.at k).ins 2).toNat (((M.at k).ins 3).toNat * 3 + 1) = ver at *
        have eR : ((M.at k).setL 1 ((M.at k).withR ((M.at k).ins 2) ((M.at k).ins 3) ver)).reads = (M.at k).withR ((M.at k).ins 2) ((M.at k).ins 3) ver := rfl
        have eL : ((M.at k).setL 1 ((M.at k).withR ((M.at k).ins 2) ((M.at k).ins 3) ver)).rn = withN (M.at k).rn (lz (M.at k).reads) ((M.at k).ins 2) ((M.at k).ins 3) ver := by
          unfold PSess.rn
          rw [eR]
          unfold PSess.withR
          rw [List.length_map, List.length_range, Nat.mul_div_cancel _ (by decide)]
          rfl
        have hG : goodV M.lens M.wz ((M.at k).setL 1 ((M.at k).withR ((M.at k).ins 2) ((M.at k).ins 3) ver)).rn (lz ((M.at k).setL 1 ((M.at k).withR ((M.at k).ins 2) ((M.at k).ins 3) ver)).reads) (lz (M.at k).num 0) = true := by
          rw [eL, eR]
          unfold PSess.withR
          rw [goodV_cells (x := putR (lz (M.at k).reads) (M.at k).rn ((M.at k).ins 2) ((M.at k).ins 3) ver) fun j hj => lz_map hj]
          exact hgw
        refine got_of (by rw [PMach.len_setS]; exact hk0) (PMach.len_setS _ _ _) ha (by rw [eM]; exact h14) rfl rfl rfl (by rw [eM]; rfl) ?_ (fun _ => by rw [eM]; exact hG) (by rw [eM]; rfl) (by rw [eM]; rfl)
        rw [eM, hG, eL]
        unfold withN
        rw [hwo]
        cases noneTo (lz (M.at k).reads) ((M.at k).ins 2) ((M.at k).ins 3) (M.at k).rn
        · exact .inl rfl
        · exact .inr ⟨rfl, rfl⟩
  · right
    refine ⟨k, rfl, hk0, hh, .inl ⟨_, rfl, ?_⟩⟩
    exact got_of hk0 rfl ha h14 rfl rfl rfl rfl (.inl rfl) (fun h => h) rfl rfl
end Go.Proofs.YtaaenolbfhhnfaaGreat
