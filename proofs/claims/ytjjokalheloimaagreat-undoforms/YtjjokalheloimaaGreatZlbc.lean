/-
  Several small texts in one: UndoMay, UndoPure.
-/
import Derived.Test.YtjjokalheloimaaGreatZlbb
import Derived.Test.YtjjokalheloimaaGreatZhUndoAgainProg
namespace Go.Proofs.YtjjokalheloimaaGreat
open Go.RowKit
set_option linter.unusedSimpArgs false
set_option linter.unusedVariables false
theorem PMach.at_ne {M : PMach} {k j : Nat} {y : PSess} (h : j ≠ k) : (M.setS k y).at j = M.at j := by
  show (M.sess.set k y).getD j noSess = _
  rw [getD_set_ne' _ _ (Ne.symm h)]; rfl
theorem PMach.len_setS (M : PMach) (k : Nat) (y : PSess) : (M.setS k y).sess.length = M.sess.length := by show (M.sess.set k y).length = _; rw [List.length_set]
theorem setN_lz {x : PSess} {j c : Nat} {v : Int} (hj : j < x.num.length) : lz (x.setN j v).num c = if c = j then v else lz x.num c := lz_set hj
theorem setN_len (x : PSess) (j : Nat) (v : Int) : (x.setN j v).num.length = x.num.length := by unfold PSess.setN; rw [List.length_set]
def looseS (x : PSess) : PSess := (((x.setL 1 []).setL 2 []).setN 9 0).setN 10 0
/-- A machine whose session k is y, but for its words' locks. -/
theorem may_loose {M N : PMach} {k : Nat} {y : PSess} {id : Int} (h : machMay M = true) (h4 : M.words.length = 4) (hk : k < M.sess.length) (hw : N.words = (looseW id M 4).words) (hc : N.clocks = M.clocks) (hce : N.ceil = M.ceil) (ht : N.trace = M.trace) (hl : N.sess.length = M.sess.length)
    (ho : ∀ j, j ≠ k → N.at j = M.at j) (hy : N.at k = y) (hid : lz y.num 0 = lz (M.at k).num 0) (hs : sessMayP M.lens y = true) : machMay N = true := by
  obtain ⟨a1, a2⟩ := looseW_amay id h4 (machMay_parts h).1
  have el : N.lens = (looseW id M 4).lens := by funext g; unfold PMach.lens PMach.lv; rw [hw]
  have ez : N.wz = (looseW id M 4).wz := by funext g; unfold PMach.wz PMach.lv; rw [hw]
  exact machMay_turn h hk (fun g hg => by rw [el]; exact a1 g hg) (by rw [el, ez]; exact a2) hc hce ht hl ho (by rw [hy]; exact hid) (by rw [hy]; exact hs)
theorem sess_loose {s : Nat → Sl} {x y : PSess} (h : SessOk s x) (hp : y.prog = x.prog) (hr : y.reads = []) (ht : y.writes = []) (h012 : ∀ c, c < 3 → lz y.num c = lz x.num c) (h3 : 0 ≤ lz y.num 3 ∧ lz y.num 3 ≤ 6) (h4 : 0 ≤ lz y.num 4 ∧ lz y.num 4 ≤ x.pn) (hg : ∀ c, c < 4 → 0 ≤ lz y.num (5 + c) ∧ lz y.num (5 + c) ≤ 255)
    (h9 : lz y.num 9 = 0) (h10 : lz y.num 10 = 0) (h11 : 0 ≤ lz y.num 11 ∧ lz y.num 11 ≤ 65535) (h12 : 0 ≤ lz y.num 12 ∧ lz y.num 12 ≤ 5) (h13 : 0 ≤ lz y.num 13 ∧ lz y.num 13 ≤ 255) : sessMayP s y = true := by
  have hpn : y.pn = x.pn := by unfold PSess.pn; rw [hp]
  have hrn : y.rn = 0 := by unfold PSess.rn; rw [hr]; rfl
  have htn : y.tn = 0 := by unfold PSess.tn; rw [ht]; rfl
  unfold sessMayP sessMay wordsThere
  rw [hpn, hrn, htn, hp, h012 0 (by decide), h012 1 (by decide), h012 2 (by decide), h.start, h.prog, upToV_of h3.1 h3.2, upToV_of h4.1 h4.2, allUp_mk (c := regsI (lz y.num)) (h := 255) (n := 4) fun c hc => upToV_of (hg c hc).1 (hg c hc).2, h9, h10, upToV_of h11.1 h11.2, upToV_of h12.1 h12.2, upToV_of h13.1 h13.2]
  rfl
theorem looseP_parts {M : PMach} {k : Nat} (hk : k < M.sess.length) : (looseP M k).at k = looseS (M.at k) ∧ (∀ j, j ≠ k → (looseP M k).at j = M.at j) ∧ (looseP M k).sess.length = M.sess.length := by
  have e0 : ∀ id, (looseW id M 4).sess = M.sess := fun id => rfl
  unfold looseP
  generalize hI : looseW (lz (M.at k).num 0) M 4 = I
  have hIs : I.sess = M.sess := by rw [← hI]; exact e0 _
  have hIa : ∀ j, I.at j = M.at j := fun j => by unfold PMach.at; rw [hIs]
  have hkI : k < I.sess.length := by rw [hIs]; exact hk
  unfold PMach.doN PMach.doL
  refine ⟨?_, fun j hj => ?_, ?_⟩
  · rw [PMach.at_setS (by rw [PMach.len_setS, PMach.len_setS, PMach.len_setS]; exact hkI), PMach.at_setS (by rw [PMach.len_setS, PMach.len_setS]; exact hkI), PMach.at_setS (by rw [PMach.len_setS]; exact hkI), PMach.at_setS hkI, hIa]
    rfl
  · rw [PMach.at_ne hj, PMach.at_ne hj, PMach.at_ne hj, PMach.at_ne hj, hIa]
  · rw [PMach.len_setS, PMach.len_setS, PMach.len_setS, PMach.len_setS, hIs]
theorem looseS_lz {x : PSess} (h : x.num.length = 14) (c : Nat) : lz (looseS x).num c = if c = 10 then 0 else if c = 9 then 0 else lz x.num c := by
  have e : ((x.setL 1 []).setL 2 []).num = x.num := rfl
  unfold looseS
  rw [setN_lz (by rw [setN_len, e, h]; decide), setN_lz (by rw [e, h]; decide), e]
theorem looseS_len (x : PSess) : (looseS x).num.length = x.num.length := by
  unfold looseS
  rw [setN_len, setN_len]; rfl
def endS (x : PSess) (r t : Int) : PSess := (((looseS x).setN 3 6).setN 12 r).setN 13 t
theorem endS_lz {x : PSess} (h : x.num.length = 14) (r t : Int) (c : Nat) : lz (endS x r t).num c = if c = 13 then t else if c = 12 then r else if c = 3 then 6 else if c = 10 then 0 else if c = 9 then 0 else lz x.num c := by
  unfold endS
  rw [setN_lz (by rw [setN_len, setN_len, looseS_len, h]; decide), setN_lz (by rw [setN_len, looseS_len, h]; decide), setN_lz (by rw [looseS_len, h]; decide), looseS_lz h]
theorem endM_may {M : PMach} {k : Nat} {r t : Int} (h : machMay M = true) (h4 : M.words.length = 4) (hk : k < M.sess.length) (h14 : (M.at k).num.length = 14) (hr : upToV r 5 = true) (ht : upToV t 255 = true) : machMay (endM M k r t) = true := by
  obtain ⟨p1, p2, p3⟩ := looseP_parts hk
  have hok := here_sess h hk
  have hL : k < (looseP M k).sess.length := by rw [p3]; exact hk
  have hat : (endM M k r t).at k = endS (M.at k) r t := by
    unfold endM PMach.doN
    rw [PMach.at_setS (by rw [PMach.len_setS, PMach.len_setS]; exact hL), PMach.at_setS (by rw [PMach.len_setS]; exact hL), PMach.at_setS hL, p1]
    rfl
  have lz' := endS_lz h14 r t
  refine may_loose (id := lz (M.at k).num 0) h h4 hk (N := endM M k r t) rfl rfl rfl rfl ?_ (fun j hj => ?_) hat (by rw [lz']; simp) (sess_loose hok rfl rfl rfl (fun c hc => ?_) ?_ ?_ (fun c hc => ?_) ?_ ?_ ?_ ?_ ?_)
  · unfold endM PMach.doN
    rw [PMach.len_setS, PMach.len_setS, PMach.len_setS]; exact p3
  · unfold endM PMach.doN
    rw [PMach.at_ne hj, PMach.at_ne hj, PMach.at_ne hj]; exact p2 j hj
  · rw [lz', if_neg (by omega), if_neg (by omega), if_neg (by omega), if_neg (by omega), if_neg (by omega)]
  · rw [lz']; simp
  · rw [lz']; simpa using hok.pc
  · rw [lz', if_neg (by omega), if_neg (by omega), if_neg (by omega), if_neg (by omega), if_neg (by omega)]
    exact hok.reg hc
  · rw [lz']; simp
  · rw [lz']; simp
  · rw [lz']; simpa using hok.tries
  · rw [lz']; simpa using upToV_yes hr
  · rw [lz']; simpa using upToV_yes ht
theorem undoEnd_any (A : MacM) (M : PMach) (i result told : Int) (w : World) (h : MachIs w A M) :
    Calls Tryz.prog 37 #[machA A M, .int .i64 i, .int .i64 result, .int .i64 told] w (MRet w (endP M i result told)) := by
  refine undoEnd_of A M i result told w h fun k hh hr ht => ?_
  obtain ⟨hm, k', e, hk⟩ := hereP_yes hh
  obtain rfl : k = k' := by omega
  have h14 : (M.at k).num.length = 14 := (h.sess.2.2.2 k (by have := h.sess.1; omega)).1
  have hm2 := endM_may hm h.four hk h14 hr ht
  have hk2 : k < (endM M k result told).sess.length := by
    unfold endM PMach.doN
    rw [PMach.len_setS, PMach.len_setS, PMach.len_setS, (looseP_parts hk).2.2]; exact hk
  unfold tellingP endP
  rw [hh, hr, ht, show hereP (endM M k result told) k = true by unfold hereP; rw [hm2, decide_eq_true (by omega : (0 : Int) ≤ k), decide_eq_true (by omega : (k : Int) < ((endM M k result told).sess.length : Int))]; rfl, Int.toNat_natCast]
  rfl
def againS (x : PSess) (T : Int) : PSess := (((((((looseS x).setN 3 0).setN 4 0).setN 5 0).setN 6 0).setN 7 0).setN 8 0).setN 11 T
theorem againS_lz {x : PSess} (h : x.num.length = 14) (T : Int) (c : Nat) : lz (againS x T).num c = if c = 11 then T else if 3 ≤ c ∧ c ≤ 10 then 0 else lz x.num c := by
  unfold againS
  rw [setN_lz (by simp only [setN_len, looseS_len, h]; decide), setN_lz (by simp only [setN_len, looseS_len, h]; decide), setN_lz (by simp only [setN_len, looseS_len, h]; decide), setN_lz (by simp only [setN_len, looseS_len, h]; decide), setN_lz (by simp only [setN_len, looseS_len, h]; decide), setN_lz (by simp only [setN_len, looseS_len, h]; decide), setN_lz (by simp only [looseS_len, h]; decide), looseS_lz h]
  by_cases e : c = 11
  · rw [if_pos e, if_pos e]
  · rw [if_neg e, if_neg e]
    by_cases e2 : 3 ≤ c ∧ c ≤ 10
    · rw [if_pos e2]
      have : c = 3 ∨ c = 4 ∨ c = 5 ∨ c = 6 ∨ c = 7 ∨ c = 8 ∨ c = 9 ∨ c = 10 := by omega
      rcases this with rfl | rfl | rfl | rfl | rfl | rfl | rfl | rfl <;> simp
    · rw [if_neg e2, if_neg (by omega), if_neg (by omega), if_neg (by omega), if_neg (by omega), if_neg (by omega), if_neg (by omega), if_neg (by omega), if_neg (by omega)]
theorem triesP_up {M : PMach} {k : Nat} (h : 0 ≤ lz (M.at k).num 11 ∧ lz (M.at k).num 11 ≤ 65535) : 0 ≤ triesP M k ∧ triesP M k ≤ 65535 := by
  have e : wrap64 (lz (M.at k).num 11 + 1) = lz (M.at k).num 11 + 1 := by
    have := h.1; have := h.2
    simp only [wrap64] <;> omega
  unfold triesP
  rw [e]
  split <;> omega
theorem againM_may {M : PMach} {k : Nat} (h : machMay M = true) (h4 : M.words.length = 4) (hk : k < M.sess.length) (h14 : (M.at k).num.length = 14) : machMay (againM M k) = true := by
  obtain ⟨p1, p2, p3⟩ := looseP_parts hk
  have hok := here_sess h hk
  have hL : k < (looseP M k).sess.length := by rw [p3]; exact hk
  have hat : (againM M k).at k = againS (M.at k) (triesP M k) := by
    unfold againM PMach.doR PMach.doN
    rw [PMach.at_setS (by simp only [PMach.len_setS]; exact hL), PMach.at_setS (by simp only [PMach.len_setS]; exact hL), PMach.at_setS (by simp only [PMach.len_setS]; exact hL), PMach.at_setS (by simp only [PMach.len_setS]; exact hL), PMach.at_setS (by simp only [PMach.len_setS]; exact hL), PMach.at_setS (by simp only [PMach.len_setS]; exact hL), PMach.at_setS hL, p1]
    rfl
  have lz' := againS_lz h14 (triesP M k)
  refine may_loose (id := lz (M.at k).num 0) h h4 hk (N := againM M k) rfl rfl rfl rfl ?_ (fun j hj => ?_) hat (by rw [lz']; simp) (sess_loose hok rfl rfl rfl (fun c hc => ?_) ?_ ?_ (fun c hc => ?_) ?_ ?_ ?_ ?_ ?_)
  · unfold againM PMach.doR PMach.doN
    simp only [PMach.len_setS]; exact p3
  · unfold againM PMach.doR PMach.doN
    simp only [PMach.at_ne hj]; exact p2 j hj
  · rw [lz', if_neg (by omega), if_neg (by omega)]
  · rw [lz']; simp
  · rw [lz']; simp
  · rw [lz', if_neg (by omega), if_pos (by omega)]; omega
  · rw [lz']; simp
  · rw [lz']; simp
  · rw [lz']; simpa using triesP_up hok.tries
  · rw [lz']; simpa using hok.result
  · rw [lz']; simpa using hok.told
theorem setS_setS (N : PMach) (k : Nat) (y z : PSess) : (N.setS k y).setS k z = N.setS k z := by unfold PMach.setS; simp
theorem setS_doN {N : PMach} {k b : Nat} {v : Int} {y : PSess} (hk : k < N.sess.length) : (N.setS k y).doN k b v = N.setS k (y.setN b v) := by unfold PMach.doN; rw [PMach.at_setS hk, setS_setS]
theorem againM_doc {M : PMach} {k : Nat} (hk : k < M.sess.length) : againM M k = ((((looseP M k).doN k 4 0).doR k 0 0 0 0).doN k 3 0).doN k 11 (triesP M k) := by
  have hL : k < (looseP M k).sess.length := by rw [(looseP_parts hk).2.2]; exact hk
  unfold againM PMach.doR
  generalize looseP M k = N at hL
  have e : ∀ (a : Nat) (u : Int), N.doN k a u = N.setS k ((N.at k).setN a u) := fun _ _ => rfl
  rw [e 3 0, e 4 0]
  simp only [setS_doN hL]
  congr 1
  unfold PSess.setN
  simp only
  rw [List.set_comm (0 : Int) 0 (by decide : 3 ≠ 4), List.set_comm (0 : Int) 0 (by decide : 3 ≠ 5), List.set_comm (0 : Int) 0 (by decide : 3 ≠ 6), List.set_comm (0 : Int) 0 (by decide : 3 ≠ 7), List.set_comm (0 : Int) 0 (by decide : 3 ≠ 8)]
theorem undoAgain_any (A : MacM) (M : PMach) (i kind : Int) (w : World) (h : MachIs w A M) :
    Calls Tryz.prog 35 #[machA A M, .int .i64 i, .int .i64 kind] w (MRet w (againP M i kind)) := by
  refine undoAgain_of A M i kind w h fun k hh hu => ?_
  obtain ⟨hm, k', e, hk⟩ := hereP_yes hh
  obtain rfl : k = k' := by omega
  have h14 : (M.at k).num.length = 14 := (h.sess.2.2.2 k (by have := h.sess.1; omega)).1
  have hm2 := againM_may hm h.four hk h14
  have hk2 : k < (againM M k).sess.length := by
    unfold againM PMach.doR PMach.doN
    simp only [PMach.len_setS, (looseP_parts hk).2.2]; exact hk
  refine ⟨by rw [(looseP_parts hk).1, looseS_lz h14]; simp, ?_⟩
  unfold tellingP againP
  have hq : (kind == 3 || kind == 5) = true := by rcases hu with rfl | rfl <;> rfl
  have hkd : upToV kind 6 = true := by rcases hu with rfl | rfl <;> rfl
  rw [hh, hq, hkd, show hereP (againM M k) k = true by unfold hereP; rw [hm2, decide_eq_true (by omega : (0 : Int) ≤ k), decide_eq_true (by omega : (k : Int) < ((againM M k).sess.length : Int))]; rfl, Int.toNat_natCast]
  rw [againM_doc hk]
  rfl
end Go.Proofs.YtjjokalheloimaaGreat
namespace Go.Proofs.YtjjokalheloimaaGreat
open Go.RowKit
set_option linter.unusedSimpArgs false
set_option linter.unusedVariables false
theorem list_lz {l m : List Int} (hl : l.length = m.length) (h : ∀ i, i < l.length → lz l i = lz m i) : l = m := by
  apply List.ext_getElem hl
  intro i h1 h2
  have := h i h1
  simpa [lz, List.getD, h1, h2] using this
theorem words_lv {a b : PMach} (ha : a.words.length = 4) (hb : b.words.length = 4) (h : ∀ g, g < 4 → a.lv g = b.lv g) : a.words = b.words := by
  apply List.ext_getElem (by omega)
  intro i h1 h2
  have := h i (by omega)
  simpa [PMach.lv, List.getD, h1, h2] using this
theorem sess_at {a b : PMach} (hl : a.sess.length = b.sess.length) (h : ∀ j, j < a.sess.length → a.at j = b.at j) : a.sess = b.sess := by
  apply List.ext_getElem hl
  intro i h1 h2
  have := h i h1
  simpa [PMach.at, List.getD, h1, h2] using this
theorem mach_eq {a b : PMach} (h1 : a.words = b.words) (h2 : a.clocks = b.clocks) (h3 : a.ceil = b.ceil) (h4 : a.sess = b.sess) (h5 : a.trace = b.trace) : a = b := by
  cases a; cases b; simp_all
theorem psess_eq {a b : PSess} (h1 : a.num = b.num) (h2 : a.prog = b.prog) (h3 : a.reads = b.reads) (h4 : a.writes = b.writes) : a = b := by
  cases a; cases b; simp_all
theorem tellP_words (M : PMach) (k : Nat) (c v : Int) : (tellP M k c v).words = M.words := by unfold tellP; split <;> rfl
theorem tellP_clocks (M : PMach) (k : Nat) (c v : Int) : (tellP M k c v).clocks = M.clocks := by unfold tellP; split <;> rfl
theorem tellP_ceil (M : PMach) (k : Nat) (c v : Int) : (tellP M k c v).ceil = M.ceil := by unfold tellP; split <;> rfl
theorem tellP_sess (M : PMach) (k : Nat) (c v : Int) : (tellP M k c v).sess = M.sess := by unfold tellP; split <;> rfl
theorem tellP_trace (M : PMach) (k : Nat) (c v : Int) : (tellP M k c v).trace = if M.trace.length / 4 < 512 then M.trace ++ [lz (M.at k).num 0, lz (M.at k).num 1, c, v] else M.trace := by unfold tellP; split <;> rfl
theorem tellP_lv (M : PMach) (k : Nat) (c v : Int) (g : Nat) : (tellP M k c v).lv g = M.lv g := by unfold PMach.lv; rw [tellP_words]
/-- Behind Again, behind End. -/
def againR (M : PMach) (k : Nat) (c : Int) : PMach := tellP (againM M k) k c (triesP M k)
def endR (M : PMach) (k : Nat) (r t : Int) : PMach := tellP (endM M k r t) k 6 r
theorem againP_ok {M : PMach} {k : Nat} {c : Int} (hh : hereP M k = true) (hk : k < M.sess.length) (hq : (c == 3 || c == 5) = true) : againP M k c = (againR M k c, 0) := by
  unfold againP againR
  rw [hh, hq, Int.toNat_natCast, againM_doc hk]
  rfl
theorem againP_no {M : PMach} {i c : Int} (h : hereP M i = false ∨ (c == 3 || c == 5) = false) : againP M i c = (noMach, 1300) := by
  unfold againP
  rcases h with h | h <;> rw [h] <;> simp
theorem endP_ok {M : PMach} {k : Nat} {r t : Int} (hh : hereP M k = true) (hr : upToV r 5 = true) (ht : upToV t 255 = true) : endP M k r t = (endR M k r t, 0) := by
  unfold endP endR endM
  rw [hh, hr, ht, Int.toNat_natCast]
  rfl
theorem endP_no {M : PMach} {i r t : Int} (h : hereP M i = false ∨ upToV r 5 = false ∨ upToV t 255 = false) : endP M i r t = (noMach, 1300) := by
  unfold endP
  rcases h with h | h | h <;> rw [h] <;> simp
/-- What a machine is behind Again or End, but for its session and its trace. -/
structure Loosed (M N : PMach) (k : Nat) : Prop where
  four : N.words.length = 4
  words : ∀ g, g < 4 → N.lv g = freeTo (lz (M.at k).num 0) (M.lv g) ((M.lv g).length / 3)
  clocks : N.clocks = M.clocks
  ceil : N.ceil = M.ceil
  len : N.sess.length = M.sess.length
  other : ∀ j, j ≠ k → N.at j = M.at j
  reads : (N.at k).reads = []
  writes : (N.at k).writes = []
  prog : (N.at k).prog = (M.at k).prog
theorem looseP_lv {M : PMach} (h4 : M.words.length = 4) (k : Nat) {g : Nat} (hg : g < 4) : (looseP M k).lv g = freeTo (lz (M.at k).num 0) (M.lv g) ((M.lv g).length / 3) := by
  have := looseW_lv (lz (M.at k).num 0) M h4 4 (Nat.le_refl _) g hg
  rw [if_pos hg] at this
  exact this
theorem doN_words (M : PMach) (k j : Nat) (v : Int) : (M.doN k j v).words = M.words := rfl
theorem doN_clocks (M : PMach) (k j : Nat) (v : Int) : (M.doN k j v).clocks = M.clocks := rfl
theorem doN_ceil (M : PMach) (k j : Nat) (v : Int) : (M.doN k j v).ceil = M.ceil := rfl
theorem doR_words (M : PMach) (k : Nat) (a b c d : Int) : (M.doR k a b c d).words = M.words := by unfold PMach.doR; rw [doN_words, doN_words, doN_words, doN_words]
theorem doR_clocks (M : PMach) (k : Nat) (a b c d : Int) : (M.doR k a b c d).clocks = M.clocks := by unfold PMach.doR; rw [doN_clocks, doN_clocks, doN_clocks, doN_clocks]
theorem doR_ceil (M : PMach) (k : Nat) (a b c d : Int) : (M.doR k a b c d).ceil = M.ceil := by unfold PMach.doR; rw [doN_ceil, doN_ceil, doN_ceil, doN_ceil]
theorem againM_words (M : PMach) (k : Nat) : (againM M k).words = (looseP M k).words := by unfold againM; simp only [doN_words, doR_words]
theorem againM_clocks (M : PMach) (k : Nat) : (againM M k).clocks = M.clocks := by unfold againM; simp only [doN_clocks, doR_clocks]; rfl
theorem againM_ceil (M : PMach) (k : Nat) : (againM M k).ceil = M.ceil := by unfold againM; simp only [doN_ceil, doR_ceil]; rfl
theorem againM_lv (M : PMach) (k g : Nat) : (againM M k).lv g = (looseP M k).lv g := by unfold PMach.lv; rw [againM_words]
theorem againM_at {M : PMach} {k : Nat} (hk : k < M.sess.length) : (againM M k).at k = againS (M.at k) (triesP M k) := by
  obtain ⟨p1, p2, p3⟩ := looseP_parts hk
  have hL : k < (looseP M k).sess.length := by rw [p3]; exact hk
  unfold againM PMach.doR PMach.doN
  rw [PMach.at_setS (by simp only [PMach.len_setS]; exact hL), PMach.at_setS (by simp only [PMach.len_setS]; exact hL), PMach.at_setS (by simp only [PMach.len_setS]; exact hL), PMach.at_setS (by simp only [PMach.len_setS]; exact hL), PMach.at_setS (by simp only [PMach.len_setS]; exact hL), PMach.at_setS (by simp only [PMach.len_setS]; exact hL), PMach.at_setS hL, p1]
  rfl
theorem endM_at {M : PMach} {k : Nat} (hk : k < M.sess.length) (r t : Int) : (endM M k r t).at k = endS (M.at k) r t := by
  obtain ⟨p1, p2, p3⟩ := looseP_parts hk
  have hL : k < (looseP M k).sess.length := by rw [p3]; exact hk
  unfold endM PMach.doN
  rw [PMach.at_setS (by rw [PMach.len_setS, PMach.len_setS]; exact hL), PMach.at_setS (by rw [PMach.len_setS]; exact hL), PMach.at_setS hL, p1]
  rfl
theorem againR_at {M : PMach} {k : Nat} (hk : k < M.sess.length) (c : Int) : (againR M k c).at k = againS (M.at k) (triesP M k) := by unfold againR; rw [tellP_at, againM_at hk]
theorem endR_at {M : PMach} {k : Nat} (hk : k < M.sess.length) (r t : Int) : (endR M k r t).at k = endS (M.at k) r t := by unfold endR; rw [tellP_at, endM_at hk]
theorem againR_loosed {M : PMach} {k : Nat} (h4 : M.words.length = 4) (hk : k < M.sess.length) (c : Int) : Loosed M (againR M k c) k := by
  obtain ⟨p1, p2, p3⟩ := looseP_parts hk
  have hw : (looseP M k).words.length = 4 := by
    show (looseW _ M 4).words.length = 4
    rw [looseW_len, h4]
  refine ⟨?_, fun g hg => ?_, ?_, ?_, ?_, fun j hj => ?_, ?_, ?_, ?_⟩
  · unfold againR; rw [tellP_words, againM_words]; exact hw
  · unfold againR; rw [tellP_lv, againM_lv]; exact looseP_lv h4 k hg
  · unfold againR; rw [tellP_clocks, againM_clocks]
  · unfold againR; rw [tellP_ceil, againM_ceil]
  · unfold againR againM PMach.doR PMach.doN; rw [tellP_sess]; simp only [PMach.len_setS]; exact p3
  · unfold againR againM PMach.doR PMach.doN; rw [tellP_at]; simp only [PMach.at_ne hj]; exact p2 j hj
  · rw [againR_at hk]; rfl
  · rw [againR_at hk]; rfl
  · rw [againR_at hk]; rfl
theorem endR_loosed {M : PMach} {k : Nat} (h4 : M.words.length = 4) (hk : k < M.sess.length) (r t : Int) : Loosed M (endR M k r t) k := by
  obtain ⟨p1, p2, p3⟩ := looseP_parts hk
  have hw : (looseP M k).words.length = 4 := by
    show (looseW _ M 4).words.length = 4
    rw [looseW_len, h4]
  refine ⟨?_, fun g hg => ?_, ?_, ?_, ?_, fun j hj => ?_, ?_, ?_, ?_⟩
  · unfold endR; rw [tellP_words]; exact hw
  · unfold endR; rw [tellP_lv]; exact looseP_lv h4 k hg
  · unfold endR; rw [tellP_clocks]; rfl
  · unfold endR; rw [tellP_ceil]; rfl
  · unfold endR endM PMach.doN; rw [tellP_sess, PMach.len_setS, PMach.len_setS, PMach.len_setS]; exact p3
  · unfold endR endM PMach.doN; rw [tellP_at, PMach.at_ne hj, PMach.at_ne hj, PMach.at_ne hj]; exact p2 j hj
  · rw [endR_at hk]; rfl
  · rw [endR_at hk]; rfl
  · rw [endR_at hk]; rfl
/-- Freed twice is freed once. -/
theorem freeTo_twice (id : Int) (l : List Int) : freeTo id (freeTo id l (l.length / 3)) ((freeTo id l (l.length / 3)).length / 3) = freeTo id l (l.length / 3) := by
  have hl := freeTo_len id l (l.length / 3)
  rw [hl]
  refine list_lz (by rw [freeTo_len]) fun i hi => ?_
  rw [freeTo_lz id (freeTo id l (l.length / 3)), hl, freeTo_lz id l]
  by_cases hh : i % 3 = 2 ∧ i / 3 < l.length / 3 ∧ lz l i = wrap64 (id + 1) ∧ i < l.length
  · rw [if_pos hh]
    split <;> rfl
  · rw [if_neg hh, if_neg hh]
theorem num0_end {M : PMach} {k : Nat} (h14 : (M.at k).num.length = 14) (hk : k < M.sess.length) (r t : Int) : lz ((endR M k r t).at k).num 0 = lz (M.at k).num 0 := by rw [endR_at hk, endS_lz h14]; simp
theorem num0_again {M : PMach} {k : Nat} (h14 : (M.at k).num.length = 14) (hk : k < M.sess.length) (c : Int) : lz ((againR M k c).at k).num 0 = lz (M.at k).num 0 := by rw [againR_at hk, againS_lz h14]; simp
theorem againS_len (x : PSess) (T : Int) : (againS x T).num.length = x.num.length := by unfold againS; simp only [setN_len, looseS_len]
theorem endS_len (x : PSess) (r t : Int) : (endS x r t).num.length = x.num.length := by unfold endS; simp only [setN_len, looseS_len]
/-- Who ends twice: the words are as they were. -/
theorem end_twice {M : PMach} {k : Nat} {r t r' t' : Int} (h4 : M.words.length = 4) (hk : k < M.sess.length) (h14 : (M.at k).num.length = 14) : (endR (endR M k r t) k r' t').words = (endR M k r t).words := by
  have h1 := endR_loosed h4 hk r t
  have h2 := endR_loosed h1.four (by rw [h1.len]; exact hk) r' t'
  refine words_lv h2.four h1.four fun g hg => ?_
  rw [h2.words g hg, num0_end h14 hk, h1.words g hg, freeTo_twice]
/-- Who begins anew twice: as once, but for the tries and the trace. -/
theorem again_twice {M : PMach} {k : Nat} {c d : Int} (h4 : M.words.length = 4) (hk : k < M.sess.length) (h14 : (M.at k).num.length = 14) :
    { (againR (againR M k c) k d).doN k 11 (lz ((againR M k c).at k).num 11) with trace := (againR M k c).trace } = againR M k c := by
  have h1 := againR_loosed h4 hk c
  have hk1 : k < (againR M k c).sess.length := by rw [h1.len]; exact hk
  have h2 := againR_loosed h1.four hk1 d
  have hk2 : k < (againR (againR M k c) k d).sess.length := by rw [h2.len]; exact hk1
  have e14 : ((againR M k c).at k).num.length = 14 := by rw [againR_at hk, againS_len, h14]
  have f14 : ((againR (againR M k c) k d).at k).num.length = 14 := by rw [againR_at hk1, againS_len, e14]
  refine mach_eq ?_ (h2.clocks) (h2.ceil) ?_ rfl
  · refine words_lv h2.four h1.four fun g hg => ?_
    show (againR (againR M k c) k d).lv g = _
    rw [h2.words g hg, num0_again h14 hk, h1.words g hg, freeTo_twice]
  · refine sess_at ?_ fun j hj => ?_
    · show ((againR (againR M k c) k d).setS k _).sess.length = _
      rw [PMach.len_setS, h2.len]
    · show ((againR (againR M k c) k d).setS k _).at j = _
      by_cases e : j = k
      · subst e
        rw [PMach.at_setS hk2]
        refine psess_eq (list_lz (by rw [setN_len, f14, e14]) fun i hi => ?_) ?_ ?_ ?_
        · rw [setN_lz (by rw [f14]; decide)]
          by_cases ei : i = 11
          · subst ei; rw [if_pos rfl]
          · rw [if_neg ei, againR_at hk1, againS_lz e14, if_neg ei]
            rw [againR_at hk, againS_lz h14, if_neg ei]
            split <;> rfl
        · show ((againR (againR M j c) j d).at j).prog = _
          rw [h2.prog]
        · show ((againR (againR M j c) j d).at j).reads = _
          rw [h2.reads, h1.reads]
        · show ((againR (againR M j c) j d).at j).writes = _
          rw [h2.writes, h1.writes]
      · rw [PMach.at_ne e, h2.other j e]
end Go.Proofs.YtjjokalheloimaaGreat
